/- The reference's tables in memory: Add and AliasOf. -/
import Derived.Test.YtffgjamnijhlpaaSym
import Derived.Test.YtffgjamnijhlpaaTid
namespace Go.Proofs.Ytffgjamnijhlpaa
open Go.RowKit Go.Maps Go.Sort
def aCells (p : ByteArray × Int) : List Value := [.string p.1, .int .i64 p.2]
theorem aCells_len (l : List (ByteArray × Int)) : (l.flatMap aCells).length = l.length * 2 := by
  induction l with
  | nil => rfl
  | cons a r ih => simp [aCells, ih]; omega
theorem aCells_at : ∀ (l : List (ByteArray × Int)) (k : Nat) (h : k < l.length), (l.flatMap aCells)[k * 2]? = some (.string l[k].1) ∧ (l.flatMap aCells)[k * 2 + 1]? = some (.int .i64 l[k].2)
  | a :: r, 0, _ => by simp [aCells]
  | a :: r, k + 1, h => by
    have := aCells_at r k (by simpa using h)
    have e1 : (k + 1) * 2 = k * 2 + 2 := by omega
    rw [e1]
    simpa [aCells] using this
/-- a state of the reference: its lists lie in blocks of G -/
def RS (w : World) (G : Nat → Prop) (v : Value) (limit : Nat) (names : List ByteArray) (als : List (ByteArray × Int)) : Prop :=
  ∃ vn va, v = .agg #[.int .i64 limit, vn, va] ∧ w.ownsRow 0 9 1 vn names.length (names.map Value.string) ∧ w.ownsRow 0 68 2 va als.length (als.flatMap aCells) ∧
    (∀ k, vn.ownBlock = some k → G k) ∧ ∀ k, va.ownBlock = some k → G k
theorem own_als {w : World} {base : Nat} {v : Value} {l : List (ByteArray × Int)} (h : w.ownsRow base 68 2 v l.length (l.flatMap aCells)) : Als w v l := by
  have h0 := h
  rcases h.2 with ⟨hv, hl⟩ | ⟨g, cap, cur, hv, _, hh, hc, _, hs, ht⟩
  · have hl : l = [] := List.eq_nil_of_length_eq_zero hl
    subst hl
    exact ⟨none, 0, by simpa using hv, fun hn => absurd rfl hn⟩
  · refine ⟨some ⟨g, 0, none⟩, cap, hv, fun _ => ⟨g, 0, rfl, fun k hk => ?_⟩⟩
    have hc := World.ownsRow.cells h0 (g := g) (by rw [hv]; rfl)
    obtain ⟨a1, a2⟩ := aCells_at l k hk
    have b1 := hc _ _ a1
    have b2 := hc _ _ a2
    rw [Nat.zero_add]
    exact ⟨by simpa [Addr.add_lit] using b1, by simpa [Addr.add_lit] using b2⟩
theorem row_more {w : World} {B B' : Nat} {e : TypeId} {size n : Nat} {v : Value} {xs : List Value} (h : w.ownsRow B e size v n xs) (hB : B' ≤ B) : w.ownsRow B' e size v n xs :=
  ⟨h.1, h.2.imp id fun ⟨a, b, c, d, e, f⟩ => ⟨a, b, c, d, by omega, f⟩⟩
section
variable {w w' : World} {F G : Nat → Prop} {v : Value} {limit : Nat} {names : List ByteArray} {E als : List (ByteArray × Int)}
theorem RS.keep (h : RS w G v limit names als) (hb : Apart F w w') (hG : ∀ k, G k → ¬ F k) : RS w' G v limit names als := by
  obtain ⟨vn, va, e, h1, h2, h3, h4⟩ := h
  exact ⟨vn, va, e, row_apart h1 hb (fun k hk => hG k (h3 k hk)), row_apart h2 hb (fun k hk => hG k (h4 k hk)), h3, h4⟩
theorem RS.below (h : RS w G v limit names als) (hb : Below w.heap.size w w') : RS w' G v limit names als := h.keep (F := fun _ => False) (Apart.of hb) (fun _ _ h => h)
theorem RS.more (h : RS w G v limit names als) (hG : ∀ k, G k → k < w.heap.size → F k) : RS w F v limit names als := by
  obtain ⟨vn, va, e, h1, h2, h3, h4⟩ := h
  exact ⟨vn, va, e, h1, h2, fun k hk => hG k (h3 k hk) (World.ownsRow.lt h1 k hk).2, fun k hk => hG k (h4 k hk) (World.ownsRow.lt h2 k hk).2⟩
theorem RS.start (w : World) (limit : Nat) : RS w G (.agg #[.int .i64 limit, .slice none 0 0, .slice none 0 0]) limit [] [] :=
  ⟨_, _, rfl, by simpa using World.ownsRow_nil w 0 9 1, by simpa using World.ownsRow_nil w 0 68 2, (fun k hk => by cases hk), (fun k hk => by cases hk)⟩
theorem RS.strs (h : RS w G v limit names als) : ∃ vn va, v = .agg #[.int .i64 limit, vn, va] ∧ Strs w vn names ∧ Als w va als := by
  obtain ⟨vn, va, e, h1, h2, _⟩ := h
  exact ⟨vn, va, e, own_strs h1, own_als h2⟩
theorem infoA : (Try.prog.info? 68).map (fun i => (i.zero, i.size, i.bytes)) = some (some (.agg #[.string ⟨#[]⟩, .int .i64 0]), 2, 24) := by kernel_rfl
/-- the empty slice, built -/
theorem row_empty (w : World) (t : TypeId) (size : Nat) (B : Nat) (hB : B ≤ w.heap.size) : (w.alloc (.cells #[] t)).ownsRow B t size (.slice (some ⟨w.heap.size, 0, none⟩) 0 0) 0 [] :=
  ⟨by simp, .inr ⟨w.heap.size, 0, #[], rfl, hB, heap_alloc_new w _, Nat.le_refl _, Nat.zero_le _, by simp, by simp⟩⟩
theorem Blk.cells3 {g : Nat} {t : TypeId} {a b c : Value} (h : Blk w g t #[a, b, c]) :
    w.cell? ⟨g, 0, none⟩ = some a ∧ w.cell? ⟨g, 1, none⟩ = some b ∧ w.cell? ⟨g, 2, none⟩ = some c ∧ w.frozen? ⟨g, 0, none⟩ = false ∧ w.frozen? ⟨g, 1, none⟩ = false ∧ w.frozen? ⟨g, 2, none⟩ = false :=
  ⟨h.cell 0, h.cell 1, h.cell 2, h.frozen 0, h.frozen 1, h.frozen 2⟩
theorem Blk.set3 {g : Nat} {t : TypeId} {a b c : Value} (h : Blk w g t #[a, b, c]) (x y z : Value) : Blk (((w.setCell ⟨g, 0, none⟩ x).setCell ⟨g, 1, none⟩ y).setCell ⟨g, 2, none⟩ z) g t #[x, y, z] := by
  simpa using ((h.set 0 x).set 1 y).set 2 z
theorem below_set3 {B g : Nat} (h : Below B w w') (hg : B ≤ g) (x y z : Value) : Below B w (((w'.setCell ⟨g, 0, none⟩ x).setCell ⟨g, 1, none⟩ y).setCell ⟨g, 2, none⟩ z) :=
  ((h.setCell (p := ⟨g, 0, none⟩) hg _).setCell (p := ⟨g, 1, none⟩) hg _).setCell (p := ⟨g, 2, none⟩) hg _
/-- two boxes of states, one behind the other -/
theorem two_states (w : World) (a b c x y z : Value) :
    Blk ((w.alloc (.cells #[a, b, c] 28)).alloc (.cells #[x, y, z] 28)) w.heap.size 28 #[a, b, c] ∧ Blk ((w.alloc (.cells #[a, b, c] 28)).alloc (.cells #[x, y, z] 28)) (w.heap.size + 1) 28 #[x, y, z] ∧
      Below w.heap.size w ((w.alloc (.cells #[a, b, c] 28)).alloc (.cells #[x, y, z] 28)) ∧ ((w.alloc (.cells #[a, b, c] 28)).alloc (.cells #[x, y, z] 28)).heap.size = w.heap.size + 2 := by
  refine ⟨(Blk.new w _ _).alloc _, ?_, ((Below.refl _ _).alloc (Nat.le_refl _) _).alloc (by simp) _, by simp⟩
  have := Blk.new (w.alloc (.cells #[a, b, c] 28)) 28 #[x, y, z]
  simpa using this
set_option maxRecDepth 100000 in
set_option maxHeartbeats 2000000 in
theorem radd_name (s : ByteArray) (h : RS w G v limit names als) (hi : identB s = false) (hs : s.size ≤ 9223372036854775807) :
    Calls Try.prog 26 #[v, .string s] w fun e w' => e = .returned (.tuple #[v, .int .i64 0, .int .i64 10]) ∧ Below w.heap.size w w' := by
  obtain ⟨vn, va, rfl, hS, hA⟩ := h.strs
  obtain ⟨ao, cap, rfl, hN⟩ := id hS
  obtain ⟨ao2, cap2, rfl, hM⟩ := id hA
  obtain ⟨B1, B2, hW, hz⟩ := two_states w (.int .i64 limit) (.slice ao names.length cap) (.slice ao2 als.length cap2) (.int .i64 0) (.slice none 0 0) (.slice none 0 0)
  have HI := Lib.hid (fun w => rIdent_c s w hs)
  rw [hi] at HI
  have HS := Lib.hid hS
  have HA := Lib.hid hA
  clear h hS hA hN hM hi
  go_enter Try.func26, Try.ntmps26
  go_wp2_with fail
  generalize (w.alloc (.cells #[.int .i64 limit, .slice ao names.length cap, .slice ao2 als.length cap2] 28)).alloc (.cells #[.int .i64 0, .slice none 0 0, .slice none 0 0] 28) = W at *
  obtain ⟨p0, p1, p2, _⟩ := B1.cells3
  obtain ⟨t0, t1, t2, t3, t4, t5⟩ := B2.cells3
  have HW := Lib.hid hW
  have HB1 := Lib.hid B1
  have HB2 := Lib.hid B2
  clear hW B1 B2
  go_wp2_with ((go_at_call 36; refine (HI.out _).mono ?_; rintro e w1 ⟨rfl, rfl⟩))
  exact bodyPost_ret (v := .tuple #[.agg #[.int .i64 limit, .slice ao names.length cap, .slice ao2 als.length cap2], .int .i64 0, .int .i64 10]) (by obtain ⟨r0, r1, r2⟩ := (HB2.out.set3 (.int .i64 limit) (.slice ao names.length cap) (.slice ao2 als.length cap2)).box3; simp [results, Try.results26, go_sem, r0, r1, r2]) rfl ⟨rfl, below_set3 HW.out (by omega) _ _ _⟩
set_option maxRecDepth 100000 in
set_option maxHeartbeats 2000000 in
theorem radd_twice (s : ByteArray) (h : RS w G v limit names als) (hi : identB s = true) (hn : (Keys (Fe names als)).Nodup) (hh : hasE (Fe names als) s = true) (hl : names.length ≤ 4096) (ha : als.length ≤ 4096) (hs : s.size ≤ 9223372036854775807) :
    Calls Try.prog 26 #[v, .string s] w fun e w' => e = .returned (.tuple #[v, .int .i64 0, .int .i64 12]) ∧ Below w.heap.size w w' := by
  obtain ⟨vn, va, rfl, hS, hA⟩ := h.strs
  obtain ⟨ao, cap, rfl, hN⟩ := id hS
  obtain ⟨ao2, cap2, rfl, hM⟩ := id hA
  obtain ⟨B1, B2, hW, hz⟩ := two_states w (.int .i64 limit) (.slice ao names.length cap) (.slice ao2 als.length cap2) (.int .i64 0) (.slice none 0 0) (.slice none 0 0)
  have HI := Lib.hid (fun w => rIdent_c s w hs)
  rw [hi] at HI
  have HS := Lib.hid hS
  have HA := Lib.hid hA
  have HF := Lib.hid (fun (W : World) (hb : Below w.heap.size w W) => rfind_c (w := W) (limit := limit) s (hS.keep hb) (hA.keep hb) hn (by omega) (by omega))
  have HH := Lib.hid hh
  clear hn hh
  clear h hS hA hN hM hi
  go_enter Try.func26, Try.ntmps26
  go_wp2_with fail
  generalize (w.alloc (.cells #[.int .i64 limit, .slice ao names.length cap, .slice ao2 als.length cap2] 28)).alloc (.cells #[.int .i64 0, .slice none 0 0, .slice none 0 0] 28) = W at *
  obtain ⟨p0, p1, p2, _⟩ := B1.cells3
  obtain ⟨t0, t1, t2, t3, t4, t5⟩ := B2.cells3
  have HW := Lib.hid hW
  have HB1 := Lib.hid B1
  have HB2 := Lib.hid B2
  clear hW B1 B2
  go_wp2_with (first
    | (go_at_call 36; refine (HI.out _).mono ?_; rintro e w1 ⟨rfl, rfl⟩)
    | (go_at_call 15; refine (HF.out _ HW.out).mono ?_; rintro e w3 ⟨rfl, hb3⟩
       rw [HH.out]
       have C1 := HB1.out.keep hb3
       have C2 := HB2.out.keep hb3
       obtain ⟨p0', p1', p2', _⟩ := C1.cells3
       obtain ⟨t0', t1', t2', t3', t4', t5'⟩ := C2.cells3
       have D2 := Lib.hid C2
       clear C1 C2))
  exact bodyPost_ret (v := .tuple #[.agg #[.int .i64 limit, .slice ao names.length cap, .slice ao2 als.length cap2], .int .i64 0, .int .i64 12]) (by obtain ⟨r0, r1, r2⟩ := (D2.out.set3 (.int .i64 limit) (.slice ao names.length cap) (.slice ao2 als.length cap2)).box3; simp [results, Try.results26, go_sem, r0, r1, r2]) rfl ⟨rfl, below_set3 (HW.out.trans (hb3.mono HW.out.size)) (by omega) _ _ _⟩
set_option maxRecDepth 100000 in
set_option maxHeartbeats 2000000 in
theorem radd_full (s : ByteArray) (h : RS w G v limit names als) (hi : identB s = true) (hn : (Keys (Fe names als)).Nodup) (hh : hasE (Fe names als) s = false) (hl : names.length ≤ 4096) (ha : als.length ≤ 4096) (hf : limit ≤ names.length) (hs : s.size ≤ 9223372036854775807) :
    Calls Try.prog 26 #[v, .string s] w fun e w' => e = .returned (.tuple #[v, .int .i64 0, .int .i64 25]) ∧ Below w.heap.size w w' := by
  obtain ⟨vn, va, rfl, hS, hA⟩ := h.strs
  obtain ⟨ao, cap, rfl, hN⟩ := id hS
  obtain ⟨ao2, cap2, rfl, hM⟩ := id hA
  obtain ⟨B1, B2, hW, hz⟩ := two_states w (.int .i64 limit) (.slice ao names.length cap) (.slice ao2 als.length cap2) (.int .i64 0) (.slice none 0 0) (.slice none 0 0)
  have HI := Lib.hid (fun w => rIdent_c s w hs)
  rw [hi] at HI
  have HS := Lib.hid hS
  have HA := Lib.hid hA
  have HF := Lib.hid (fun (W : World) (hb : Below w.heap.size w W) => rfind_c (w := W) (limit := limit) s (hS.keep hb) (hA.keep hb) hn (by omega) (by omega))
  have HH := Lib.hid hh
  clear hn hh
  clear h hS hA hN hM hi
  go_enter Try.func26, Try.ntmps26
  go_wp2_with fail
  generalize (w.alloc (.cells #[.int .i64 limit, .slice ao names.length cap, .slice ao2 als.length cap2] 28)).alloc (.cells #[.int .i64 0, .slice none 0 0, .slice none 0 0] 28) = W at *
  obtain ⟨p0, p1, p2, _⟩ := B1.cells3
  obtain ⟨t0, t1, t2, t3, t4, t5⟩ := B2.cells3
  have HW := Lib.hid hW
  have HB1 := Lib.hid B1
  have HB2 := Lib.hid B2
  clear hW B1 B2
  have hf2 : (limit : Int) ≤ (names.length : Int) := by omega
  go_wp2_with (first
    | (go_at_call 36; refine (HI.out _).mono ?_; rintro e w1 ⟨rfl, rfl⟩)
    | (go_at_call 15; refine (HF.out _ HW.out).mono ?_; rintro e w3 ⟨rfl, hb3⟩
       rw [HH.out]
       have C1 := HB1.out.keep hb3
       have C2 := HB2.out.keep hb3
       obtain ⟨p0', p1', p2', _⟩ := C1.cells3
       obtain ⟨t0', t1', t2', t3', t4', t5'⟩ := C2.cells3
       have D2 := Lib.hid C2
       clear C1 C2))
  exact bodyPost_ret (v := .tuple #[.agg #[.int .i64 limit, .slice ao names.length cap, .slice ao2 als.length cap2], .int .i64 0, .int .i64 25]) (by obtain ⟨r0, r1, r2⟩ := (D2.out.set3 (.int .i64 limit) (.slice ao names.length cap) (.slice ao2 als.length cap2)).box3; simp [results, Try.results26, go_sem, r0, r1, r2]) rfl ⟨rfl, below_set3 (HW.out.trans (hb3.mono HW.out.size)) (by omega) _ _ _⟩
end
end Go.Proofs.Ytffgjamnijhlpaa
