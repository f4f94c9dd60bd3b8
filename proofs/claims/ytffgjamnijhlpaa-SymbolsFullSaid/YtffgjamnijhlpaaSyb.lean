/- A table of names in memory; New, made, has, Find, Len. -/
import Derived.Test.YtffgjamnijhlpaaSya
import Derived.WalkSmall
import Derived.LaidEqlPtr
namespace Go.Proofs.Ytffgjamnijhlpaa
open Go.RowKit Go.Maps Go.Sort
theorem lawS : Keyed Try.prog 9 := string_keyed Try.underlying9
theorem zeroI (w : World) : (zeroValue 3).run Try.prog w = .ok (.int .i64 0) w := by kernel_rfl
def Tab (w : World) (B g : Nat) (limit : Nat) (names : List ByteArray) (E : List (ByteArray × Int)) : Prop :=
  ∃ bm vn, Blk w g 55 #[.pointer (some ⟨g, 0, none⟩), .int .i64 limit, vn, .map (some bm)] ∧ w.ownsRow B 9 1 vn names.length (names.map Value.string) ∧
    w.ownsMap Try.prog 9 (plainElem Try.prog 3) bm E.length (mapD E) ∧ B ≤ g ∧ B ≤ bm ∧ (Keys E).Nodup
theorem map_below {w w' : World} {k : TypeId} {R : Value → Option (DataW Unit × List MemPlace)} {b n : Nat} {D : DataW Unit} (h : w.ownsMap Try.prog k R b n D) (hb : Below w.heap.size w w') : w'.ownsMap Try.prog k R b n D := by
  have hl := h.lt
  obtain ⟨es, clock, he, rest⟩ := h
  exact ⟨es, clock, (hb.block b hl).trans he, rest⟩
theorem row_below {w w' : World} {base : Nat} {e : TypeId} {size n : Nat} {v : Value} {xs : List Value} (h : w.ownsRow base e size v n xs) (hb : Below w.heap.size w w') : w'.ownsRow base e size v n xs := by
  refine ⟨h.1, ?_⟩
  rcases h.2 with hn | ⟨g, cap, cur, rfl, hg, hh, rest⟩
  · exact .inl hn
  · have hlt : g < w.heap.size := by
      rcases Nat.lt_or_ge g w.heap.size with h' | h'
      · exact h'
      · rw [Array.getElem?_eq_none h'] at hh; cases hh
    exact .inr ⟨g, cap, cur, rfl, hg, (hb.block g hlt).trans hh, rest⟩
theorem Tab.keep {w w' : World} {B g limit : Nat} {names : List ByteArray} {E : List (ByteArray × Int)} (h : Tab w B g limit names E) (hb : Below w.heap.size w w') : Tab w' B g limit names E := by
  obtain ⟨bm, vn, h1, h2, h3, h4, h5, h6⟩ := h
  exact ⟨bm, vn, h1.keep hb, row_below h2 hb, map_below h3 hb, h4, h5, h6⟩
theorem Tab.lt {w : World} {B g limit : Nat} {names : List ByteArray} {E : List (ByteArray × Int)} (h : Tab w B g limit names E) : g < w.heap.size := by
  obtain ⟨bm, vn, h1, _⟩ := h
  exact h1.lt
theorem Tab.base {w : World} {B g limit : Nat} {names : List ByteArray} {E : List (ByteArray × Int)} (h : Tab w B g limit names E) : B ≤ w.heap.size := by
  have := h.lt
  obtain ⟨bm, vn, h1, _, _, h4, _⟩ := h
  omega
theorem box4c {w : World} {g : Nat} {t : TypeId} {a b c d : Value} (h : Blk w g t #[a, b, c, d]) :
    w.cell? ⟨g, 0, none⟩ = some a ∧ w.cell? ⟨g, 1, none⟩ = some b ∧ w.cell? ⟨g, 2, none⟩ = some c ∧ w.cell? ⟨g, 3, none⟩ = some d :=
  ⟨h.cell 0, h.cell 1, h.cell 2, h.cell 3⟩
set_option maxRecDepth 100000 in
theorem infoTab : ∃ j, Try.prog.info? 55 = some j := Option.isSome_iff_exists.1 (by kernel_rfl)
theorem eqPtr (a : Addr) (w : World) : (binOp .eql 23 (.pointer (some a)) (.pointer (some a))).run Try.prog w = .ok (.bool true) w := by
  obtain ⟨j, hj⟩ := infoTab
  exact run_eql_ptr_same w a Try.underlying23 hj
theorem eqNil (a : Addr) (w : World) : (binOp .eql 23 (.pointer none) (.pointer (some a))).run Try.prog w = .ok (.bool false) w := by
  have h : ∀ d : Nat, (Op.equalIn (d + 1) 23 (.pointer none) (.pointer (some a))).run Try.prog w = .ok false w := fun d => by
    simp [Op.equalIn, run_underlying Try.underlying23, sizeOf, typeInfo]
  simp only [binOp]
  simp [Op.equal, Op.maxDepth, h 9999]
theorem made_c {w : World} {B g limit : Nat} {names : List ByteArray} {E : List (ByteArray × Int)} (h : Tab w B g limit names E) :
    Calls Try.prog 29 #[.pointer (some ⟨g, 0, none⟩)] w fun e w' => e = .returned (.bool true) ∧ w' = w := by
  obtain ⟨bm, vn, h1, h2, h3, h4, h5, h6⟩ := h
  obtain ⟨c0, c1, c2, c3⟩ := box4c h1
  clear h1 h2 h3
  have hq := fun w => eqPtr ⟨g, 0, none⟩ w
  go_enter Try.func29, Try.ntmps29
  go_wp2
  go_ret
  exact ⟨rfl, rfl⟩
theorem made_nil (w : World) : Calls Try.prog 29 #[.pointer none] w fun e w' => e = .returned (.bool false) ∧ w' = w := by
  go_enter Try.func29, Try.ntmps29
  go_wp2
  go_ret
  exact ⟨rfl, rfl⟩
set_option maxRecDepth 100000 in
theorem made_zero {w : World} {g : Nat} {a b c : Value} (h : Blk w g 55 #[.pointer none, a, b, c]) : Calls Try.prog 29 #[.pointer (some ⟨g, 0, none⟩)] w fun e w' => e = .returned (.bool false) ∧ w' = w := by
  obtain ⟨c0, c1, c2, c3⟩ := box4c h
  clear h
  have hq := fun w => eqNil ⟨g, 0, none⟩ w
  go_enter Try.func29, Try.ntmps29
  go_wp2
  go_ret
  exact ⟨rfl, rfl⟩
set_option maxRecDepth 100000 in
set_option maxHeartbeats 1000000 in
theorem has_c {w : World} {B g limit : Nat} {names : List ByteArray} {E : List (ByteArray × Int)} (s : ByteArray) (h : Tab w B g limit names E) (hs : s.size ≤ 9223372036854775807) :
    Calls Try.prog 33 #[.pointer (some ⟨g, 0, none⟩), .string s] w fun e w' => e = .returned (.bool (hasE E s)) ∧ w' = w := by
  obtain ⟨bm, vn, h1, h2, h3, h4, h5, h6⟩ := h
  obtain ⟨c0, c1, c2, c3⟩ := box4c h1
  have hk := mapD_has E s
  have hsl : s.size ≤ maxLen := by unfold maxLen; omega
  clear h1 h2
  go_enter Try.func33, Try.ntmps33
  go_wp2_with (at_lookup; refine wpList_lookup_own_ok_int _ rfl _ _ 53 rfl 9 3 .i64 lawS Try.underlying53 Try.underlying3 (zeroI _) bm E.length _ rfl h3 (.string s) (keyS s) rfl (Go.WideMaps.keyOf_string_mk Try.underlying9 hsl) ?_; intro c hat hwc; rw [hk])
  go_ret
  exact ⟨rfl, rfl⟩
set_option maxRecDepth 100000 in
set_option maxHeartbeats 1000000 in
theorem find_c {w : World} {B g limit : Nat} {names : List ByteArray} {E : List (ByteArray × Int)} (s : ByteArray) (h : Tab w B g limit names E) (hs : s.size ≤ 9223372036854775807) :
    Calls Try.prog 14 #[.pointer (some ⟨g, 0, none⟩), .string s] w fun e w' => e = .returned (.tuple #[.int .i64 (lookE E s), .bool (hasE E s)]) ∧ w' = w := by
  have hM := made_c h
  obtain ⟨bm, vn, h1, h2, h3, h4, h5, h6⟩ := h
  obtain ⟨c0, c1, c2, c3⟩ := box4c h1
  have hk := mapD_has E s
  have ha := mapD_at E s
  have hsl : s.size ≤ maxLen := by unfold maxLen; omega
  have HM := Lib.hid hM
  have HA := Lib.hid ha
  clear h1 h2 hM ha
  go_enter Try.func14, Try.ntmps14
  go_wp2_with (first
    | (go_at_call 29; refine HM.out.mono ?_; rintro e w1 ⟨rfl, rfl⟩)
    | (at_lookup; refine wpList_lookup_own_ok_int _ rfl _ _ 53 rfl 9 3 .i64 lawS Try.underlying53 Try.underlying3 (zeroI _) bm E.length _ rfl h3 (.string s) (keyS s) rfl (Go.WideMaps.keyOf_string_mk Try.underlying9 hsl) ?_; intro c hat hwc; rw [hk]))
  have hc : c = lookE E s := by
    rw [HA.out] at hat
    injection hat with h
    injection h with _ h
    exact h.symm
  subst hc
  go_ret2
  exact ⟨rfl, rfl⟩
set_option maxRecDepth 100000 in
theorem len_c {w : World} {B g limit : Nat} {names : List ByteArray} {E : List (ByteArray × Int)} (h : Tab w B g limit names E) :
    Calls Try.prog 21 #[.pointer (some ⟨g, 0, none⟩)] w fun e w' => e = .returned (.int .i64 names.length) ∧ w' = w := by
  have hM := made_c h
  obtain ⟨bm, vn, h1, h2, h3, h4, h5, h6⟩ := h
  obtain ⟨av, cv, rfl⟩ : ∃ ao cap, vn = .slice ao names.length cap := by
    rcases h2.2 with ⟨rfl, h0⟩ | ⟨g, cap, _, rfl, _⟩
    · exact ⟨none, 0, by rw [h0]⟩
    · exact ⟨_, _, rfl⟩
  obtain ⟨c0, c1, c2, c3⟩ := box4c h1
  have HM := Lib.hid hM
  clear h1 h2 h3 hM
  go_enter Try.func21, Try.ntmps21
  go_wp2_with (go_at_call 29; refine HM.out.mono ?_; rintro e w1 ⟨rfl, rfl⟩)
  go_ret
  exact ⟨rfl, rfl⟩
theorem new_out (n : Int) (w : World) (h : n < 0 ∨ 4096 < n) : Calls Try.prog 9 #[.int .i64 n] w fun e w' => e = .returned (.pointer none) ∧ w' = w := by
  rcases h with h | h
  · go_enter Try.func9, Try.ntmps9
    go_wp2
    go_ret
    exact ⟨rfl, rfl⟩
  · have h' : ¬ n < 0 := by omega
    go_enter Try.func9, Try.ntmps9
    go_wp2
    go_ret
    exact ⟨rfl, rfl⟩
set_option maxRecDepth 100000 in
set_option maxHeartbeats 1000000 in
theorem new_c (n : Nat) (w : World) (h : n ≤ 4096) : Calls Try.prog 9 #[.int .i64 n] w fun e w' => ∃ g, e = .returned (.pointer (some ⟨g, 0, none⟩)) ∧ Tab w' w.heap.size g n [] [] ∧ Below w.heap.size w w' := by
  have hmm := @run_makeMap Try.prog
  have h' : (n : Int) ≤ 4096 := by omega
  go_enter Try.func9, Try.ntmps9
  go_wp2
  go_ret
  refine ⟨w.heap.size + 1, rfl, ⟨w.heap.size, .slice none 0 0, Blk.here (by simp), by simpa using World.ownsRow_nil _ w.heap.size 9 1, ?_, by omega, Nat.le_refl _, List.nodup_nil⟩, ((Below.refl _ _).alloc (Nat.le_refl _) _).alloc (by simp) _⟩
  exact map_below (World.ownsMap_made _ _ _ _) ((Below.refl _ _).alloc (Nat.le_refl _) _)
end Go.Proofs.Ytffgjamnijhlpaa
