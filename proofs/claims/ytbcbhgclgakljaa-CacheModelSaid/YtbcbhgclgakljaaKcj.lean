/- A cache in memory; made, New, Seq, Len, Stats. -/
import Derived.Test.YtbcbhgclgakljaaKci
namespace Go.Proofs.Ytbcbhgclgakljaa
open Go.RowKit Go.Maps Go.WideElems Go.WideShapes
/-- the counters are small -/
structure Sm (n : Nat) (s : CS) : Prop where
  h : 0 ≤ s.hits ∧ s.hits ≤ n
  m : 0 ≤ s.misses ∧ s.misses ≤ n
  e : 0 ≤ s.evicted ∧ s.evicted ≤ n
  r : 0 ≤ s.resets ∧ s.resets ≤ n
/-- a cache in memory, and the blocks that are its own -/
def CF (w : World) (F : Nat → Prop) (c : Nat) (s : CS) : Prop :=
  ∃ o r m S, Blk w c 89 #[.pointer (some ⟨c, 0, none⟩), .int .i64 s.size, .int .i64 s.seq, .pointer (some ⟨o, 0, none⟩), .int .i64 s.hits, .int .i64 s.misses, .int .i64 s.evicted, .int .i64 s.resets] ∧
    Ord w o r m S ∧ S.map Lk.en = s.L ∧ F c ∧ (∀ j, Of o r m S j → F j) ∧ ∀ k, F k → k < w.heap.size
/-- what a call makes of a cache -/
def CTo (w w' : World) (F : Nat → Prop) (c : Nat) (s' : CS) : Prop := (∃ F', CF w' F' c s' ∧ ∀ k, F' k → F k ∨ w.heap.size ≤ k) ∧ Apart F w w'
section
variable {w w' : World} {F G : Nat → Prop} {c o r m : Nat} {s : CS} {S : List Lk}
theorem CF.lt (h : CF w F c s) : ∀ k, F k → k < w.heap.size := by
  obtain ⟨o, r, m, S, _, _, _, _, _, h⟩ := h
  exact h
theorem CF.apart (h : CF w F c s) (hb : Apart G w w') (hG : ∀ k, F k → ¬ G k) : CF w' F c s := by
  obtain ⟨o, r, m, S, h1, h2, h3, h4, h5, h6⟩ := h
  exact ⟨o, r, m, S, hb.blk h1 (hG c h4), h2.apart hb (fun k hk => hG k (h5 k hk)), h3, h4, h5, fun k hk => Nat.lt_of_lt_of_le (h6 k hk) hb.size⟩
theorem CF.keep (h : CF w F c s) (hb : Below w.heap.size w w') : CF w' F c s := h.apart (G := fun _ => False) (Apart.of hb) (fun _ _ h => h)
theorem CTo.same (h : CF w F c s) (hb : Below w.heap.size w w') : CTo w w' F c s := ⟨⟨F, h.keep hb, fun _ hk => .inl hk⟩, Apart.of hb⟩
theorem CTo.mk {s' : CS} {T : List Lk} (hc : F c) (hb : Blk w' c 89 #[.pointer (some ⟨c, 0, none⟩), .int .i64 s'.size, .int .i64 s'.seq, .pointer (some ⟨o, 0, none⟩), .int .i64 s'.hits, .int .i64 s'.misses, .int .i64 s'.evicted, .int .i64 s'.resets])
    (ho : Ord w' o r m T) (hL : T.map Lk.en = s'.L) (hT : ∀ j, Of o r m T j → F j ∨ w.heap.size ≤ j) (ha : Apart F w w') : CTo w w' F c s' :=
  ⟨⟨fun k => (F k ∨ w.heap.size ≤ k) ∧ k < w'.heap.size, ⟨o, r, m, T, hb, ho, hL, ⟨.inl hc, hb.lt⟩, fun j hj => ⟨hT j hj, ho.lt j hj⟩, fun _ hk => hk.2⟩, fun _ hk => hk.1⟩, ha⟩
/-- the cache's own block is none of its order's -/
theorem c_ne {cs : Array Value} (hb : Blk w c 89 cs) (ho : Ord w o r m S) : ∀ j, Of o r m S j → j ≠ c := by
  obtain ⟨N, V, hL, _⟩ := ho.ring
  obtain ⟨D, hm, _⟩ := ho.mp
  rintro j (rfl | rfl | rfl | ⟨x, hx, rfl⟩)
  · exact ho.blk.ne hb (by decide)
  · exact (hL (hd j) (by simp)).ne hb (by decide)
  · exact (hb.ne_map hm).symm
  · exact (hL x (by simp [hx])).ne hb (by decide)
theorem Blk.cells8 {g : Nat} {t : TypeId} {a0 a1 a2 a3 a4 a5 a6 a7 : Value} (h : Blk w g t #[a0, a1, a2, a3, a4, a5, a6, a7]) :
    w.cell? ⟨g, 0, none⟩ = some a0 ∧ w.cell? ⟨g, 1, none⟩ = some a1 ∧ w.cell? ⟨g, 2, none⟩ = some a2 ∧ w.cell? ⟨g, 3, none⟩ = some a3 ∧ w.cell? ⟨g, 4, none⟩ = some a4 ∧ w.cell? ⟨g, 5, none⟩ = some a5 ∧ w.cell? ⟨g, 6, none⟩ = some a6 ∧ w.cell? ⟨g, 7, none⟩ = some a7 :=
  ⟨h.cell 0, h.cell 1, h.cell 2, h.cell 3, h.cell 4, h.cell 5, h.cell 6, h.cell 7⟩
set_option maxRecDepth 100000 in
theorem infoC : ∃ j, Try.prog.info? 89 = some j := Option.isSome_iff_exists.1 (by kernel_rfl)
theorem eqC (a : Addr) (w : World) : (binOp .eql 24 (.pointer (some a)) (.pointer (some a))).run Try.prog w = .ok (.bool true) w := by
  obtain ⟨j, hj⟩ := infoC
  exact run_eql_ptr_same w a Try.underlying24 hj
theorem eqCNil (a : Addr) (w : World) : (binOp .eql 24 (.pointer none) (.pointer (some a))).run Try.prog w = .ok (.bool false) w := by
  have h : ∀ d : Nat, (Op.equalIn (d + 1) 24 (.pointer none) (.pointer (some a))).run Try.prog w = .ok false w := fun d => by
    simp [Op.equalIn, run_underlying Try.underlying24, sizeOf, typeInfo]
  simp only [binOp]
  simp [Op.equal, Op.maxDepth, h 9999]
/-- a pointer that is no cache of New: nil, or one to a cache without itself -/
def Bad (w : World) (v : Value) : Prop := v = .pointer none ∨ ∃ g a1 a2 a3 a4 a5 a6 a7, v = .pointer (some ⟨g, 0, none⟩) ∧ Blk w g 89 #[.pointer none, a1, a2, a3, a4, a5, a6, a7]
theorem Bad.keep {v : Value} (h : Bad w v) (hb : Below w.heap.size w w') : Bad w' v := by
  rcases h with rfl | ⟨g, a1, a2, a3, a4, a5, a6, a7, rfl, hB⟩
  · exact .inl rfl
  · exact .inr ⟨g, a1, a2, a3, a4, a5, a6, a7, rfl, hB.keep hb⟩
theorem made_c (h : CF w F c s) : Calls Try.prog 46 #[.pointer (some ⟨c, 0, none⟩)] w fun e w' => e = .returned (.bool true) ∧ w' = w := by
  obtain ⟨o, r, m, S, h1, _⟩ := h
  obtain ⟨c0, _⟩ := h1.cells8
  clear h1
  have hq := fun w => eqC ⟨c, 0, none⟩ w
  go_enter Try.func46, Try.ntmps46
  go_wp2
  go_ret
  exact ⟨rfl, rfl⟩
theorem made_bad {v : Value} (h : Bad w v) : Calls Try.prog 46 #[v] w fun e w' => e = .returned (.bool false) ∧ w' = w := by
  rcases h with rfl | ⟨g, a1, a2, a3, a4, a5, a6, a7, rfl, hB⟩
  · go_enter Try.func46, Try.ntmps46
    go_wp2
    go_ret
    exact ⟨rfl, rfl⟩
  · obtain ⟨c0, _⟩ := hB.cells8
    clear hB
    have hq := fun w => eqCNil ⟨g, 0, none⟩ w
    go_enter Try.func46, Try.ntmps46
    go_wp2
    go_ret
    exact ⟨rfl, rfl⟩
theorem seq_c (h : CF w F c s) : Calls Try.prog 34 #[.pointer (some ⟨c, 0, none⟩)] w fun e w' => e = .returned (.int .i64 s.seq) ∧ w' = w := by
  have HM := Lib.hid (made_c h)
  obtain ⟨o, r, m, S, h1, _⟩ := h
  obtain ⟨c0, c1, c2, _⟩ := h1.cells8
  clear h1
  go_enter Try.func34, Try.ntmps34
  go_wp2_with (go_at_call 46; refine HM.out.mono ?_; rintro e w1 ⟨rfl, rfl⟩)
  go_ret
  exact ⟨rfl, rfl⟩
theorem seq_bad {v : Value} (h : Bad w v) : Calls Try.prog 34 #[v] w fun e w' => e = .returned (.int .i64 0) ∧ w' = w := by
  have HM := Lib.hid (made_bad h)
  clear h
  go_enter Try.func34, Try.ntmps34
  go_wp2_with (go_at_call 46; refine HM.out.mono ?_; rintro e w1 ⟨rfl, rfl⟩)
  go_ret
  exact ⟨rfl, rfl⟩
theorem clen_c (h : CF w F c s) : Calls Try.prog 33 #[.pointer (some ⟨c, 0, none⟩)] w fun e w' => e = .returned (.int .i64 s.L.length) ∧ w' = w := by
  have HM := Lib.hid (made_c h)
  obtain ⟨o, r, m, S, h1, h2, h3, _⟩ := h
  obtain ⟨c0, c1, c2, c3, _⟩ := h1.cells8
  have HN := Lib.hid (len_c h2)
  rw [← h3, List.length_map]
  clear h1 h2 h3
  go_enter Try.func33, Try.ntmps33
  go_wp2_with (first
    | (go_at_call 46; refine HM.out.mono ?_; rintro e w1 ⟨rfl, rfl⟩)
    | (go_at_call 48; refine HN.out.mono ?_; rintro e w1 ⟨rfl, rfl⟩))
  go_ret
  exact ⟨rfl, rfl⟩
theorem clen_bad {v : Value} (h : Bad w v) : Calls Try.prog 33 #[v] w fun e w' => e = .returned (.int .i64 0) ∧ w' = w := by
  have HM := Lib.hid (made_bad h)
  clear h
  go_enter Try.func33, Try.ntmps33
  go_wp2_with (go_at_call 46; refine HM.out.mono ?_; rintro e w1 ⟨rfl, rfl⟩)
  go_ret
  exact ⟨rfl, rfl⟩
set_option maxRecDepth 100000 in
theorem stats_c (h : CF w F c s) : Calls Try.prog 30 #[.pointer (some ⟨c, 0, none⟩)] w fun e w' => e = .returned (.tuple #[.int .i64 s.hits, .int .i64 s.misses, .int .i64 s.evicted, .int .i64 s.resets]) ∧ Below w.heap.size w w' := by
  have HM := Lib.hid (made_c h)
  obtain ⟨o, r, m, S, h1, _⟩ := h
  have HC := Lib.hid h1
  clear h1
  go_enter Try.func30, Try.ntmps30
  go_upto_region 3 with (go_at_call 46; refine HM.out.mono ?_; rintro e w1 ⟨rfl, rfl⟩)
  refine wp_region_kp (by kernel_rfl) (by kernel_rfl) ?_
  repeat (first
    | go_big_quiet_skip
    | (go_big_quiet_want
       first
         | (go_big_quiet_op
            first
              | go_big_quiet_on
              | (apply Exists.intro
                 refine ⟨fun w1 hC => ?_, ?_⟩
                 · first
                     | (obtain ⟨c0, c1, c2, c3, c4, c5, c6, c7⟩ := (HC.out.keep hC).cells8; go_simp; exact ⟨rfl, rfl⟩)
                     | (obtain ⟨c0, c1, c2, c3, c4, c5, c6, c7⟩ := (HC.out.keep hC).cells8; go_simp; exact rfl)
                     | exact rfl
                     | (go_simp; exact ⟨rfl, rfl⟩)
                 go_big_quiet_on))))
  refine wpQuiet_nil ?_
  intro W1 hC1
  have HB1 : Hid (Below w1.heap.size w1 W1) := Lib.hid hC1
  clear hC1
  go_wp2_with fail
  refine bodyPost_ret (v := .tuple #[.int .i64 s.hits, .int .i64 s.misses, .int .i64 s.evicted, .int .i64 s.resets]) (by simp [results, Try.results30, go_sem]) rfl ?_
  exact ⟨rfl, HB1.out⟩
theorem stats_bad {v : Value} (h : Bad w v) : Calls Try.prog 30 #[v] w fun e w' => e = .returned (.tuple #[.int .i64 0, .int .i64 0, .int .i64 0, .int .i64 0]) ∧ w' = w := by
  have HM := Lib.hid (made_bad h)
  clear h
  go_enter Try.func30, Try.ntmps30
  go_wp2_with (go_at_call 46; refine HM.out.mono ?_; rintro e w1 ⟨rfl, rfl⟩)
  refine bodyPost_ret (v := .tuple #[.int .i64 0, .int .i64 0, .int .i64 0, .int .i64 0]) (by simp [results, Try.results30, go_sem]) rfl ?_
  exact ⟨rfl, rfl⟩
theorem ckeys_c (h : CF w F c s) (hl : s.L.length ≤ 100000) : Calls Try.prog 29 #[.pointer (some ⟨c, 0, none⟩)] w fun e w' => ∃ v, e = .returned v ∧ Own RK w' w.heap.size v (keysK s.L) ∧ Below w.heap.size w w' := by
  have HM := Lib.hid (made_c h)
  obtain ⟨o, r, m, S, h1, h2, h3, _⟩ := h
  obtain ⟨c0, c1, c2, c3, _⟩ := h1.cells8
  rw [← h3, List.length_map] at hl
  have HN := Lib.hid (keys_c h2 hl)
  rw [← h3, keysK_map]
  clear h1 h2 h3 hl
  go_enter Try.func29, Try.ntmps29
  go_wp2_with (first
    | (go_at_call 46; refine HM.out.mono ?_; rintro e w1 ⟨rfl, rfl⟩)
    | (go_at_call 52; refine HN.out.mono ?_; rintro e w1 ⟨v, rfl, ho, hb⟩))
  go_ret
  exact ⟨v, rfl, ho, hb⟩
theorem ckeys_bad {v : Value} (h : Bad w v) : Calls Try.prog 29 #[v] w fun e w' => e = .returned (.slice none 0 0) ∧ w' = w := by
  have HM := Lib.hid (made_bad h)
  clear h
  go_enter Try.func29, Try.ntmps29
  go_wp2_with (go_at_call 46; refine HM.out.mono ?_; rintro e w1 ⟨rfl, rfl⟩)
  go_ret
  exact ⟨rfl, rfl⟩
theorem reset_bad {v : Value} (n : Int) (h : Bad w v) : Calls Try.prog 31 #[v, .int .i64 n] w fun e w' => e = .returned (.int .i64 1) ∧ w' = w := by
  have HM := Lib.hid (made_bad h)
  clear h
  go_enter Try.func31, Try.ntmps31
  go_wp2_with (go_at_call 46; refine HM.out.mono ?_; rintro e w1 ⟨rfl, rfl⟩)
  go_ret
  exact ⟨rfl, rfl⟩
theorem new_out (n : Int) (w : World) (h : n < 1 ∨ 1024 < n) : Calls Try.prog 10 #[.int .i64 n] w fun e w' => e = .returned (.pointer none) ∧ w' = w := by
  rcases h with h | h
  · go_enter Try.func10, Try.ntmps10
    go_wp2
    go_ret
    exact ⟨rfl, rfl⟩
  · have h' : ¬ n < 1 := by omega
    go_enter Try.func10, Try.ntmps10
    go_wp2
    go_ret
    exact ⟨rfl, rfl⟩
set_option maxRecDepth 100000 in
set_option maxHeartbeats 4000000 in
theorem new_c (n : Int) (w : World) (h1 : 1 ≤ n) (h2 : n ≤ 1024) : Calls Try.prog 10 #[.int .i64 n] w fun e w' => ∃ c, e = .returned (.pointer (some ⟨c, 0, none⟩)) ∧ CF w' (fun k => w.heap.size ≤ k ∧ k < w'.heap.size) c (newC n) ∧ Below w.heap.size w w' := by
  have HN := Lib.hid (newOrder_c w)
  have h1' : ¬ n < 1 := by omega
  have h2' : ¬ 1024 < n := by omega
  go_enter Try.func10, Try.ntmps10
  go_wp2_with (go_at_call 35; refine HN.out.mono ?_; rintro e w1 ⟨o, r, m, rfl, ho, hb, l1, l2, l3⟩; have HO := Lib.hid ho; have HB := Lib.hid hb; clear ho hb)
  go_ret
  have hB := (Below.refl w1.heap.size w1).alloc (Nat.le_refl _) (.cells #[.pointer (some ⟨w1.heap.size, 0, none⟩), .int .i64 n, .int .i64 0, .pointer (some ⟨o, 0, none⟩), .int .i64 0, .int .i64 0, .int .i64 0, .int .i64 0] 89)
  have hs := HB.out.size
  refine ⟨w1.heap.size, rfl, ⟨o, r, m, [], Blk.new w1 _ _, HO.out.keep hB, rfl, ⟨hs, by simp⟩, ?_, fun k hk => hk.2⟩, HB.out.trans (hB.mono hs)⟩
  have hlt := (HO.out.keep hB).lt
  intro j hj
  refine ⟨?_, hlt j hj⟩
  rcases hj with rfl | rfl | rfl | ⟨x, hx, _⟩
  · exact l1
  · exact l2
  · exact l3
  · cases hx
end
end Go.Proofs.Ytbcbhgclgakljaa
