/- The laws' own example (alive): it returns true, and writes nothing that was there. -/
import Derived.Test.YtaigoklmhafhcaaBsj
import Derived.Test.YtaigoklmhafhcaaBsd
namespace Go.Proofs.Ytaigoklmhafhcaa
open Go.RowKit
theorem al0 : ofI [3, 64, -1, 256, 3] 0 = 8 := by decide +kernel
theorem al1 : ofI [3, 64, -1, 256, 3] 1 = 1 := by decide +kernel
theorem al2 : ofI [3, 64, -1, 256, 3] 2 = 0 := by decide +kernel
theorem al3 : ofI [3, 64, -1, 256, 3] 3 = 0 := by decide +kernel
theorem al4 : onesI 8 1 0 0 = 2 := by decide +kernel
theorem al5 : ∀ j : Fin 3, hasB 8 1 0 0 j.val = false := by decide +kernel
theorem al6 : hasB 8 1 0 0 3 = true := by decide +kernel
theorem al7 : elems 8 1 0 0 256 = [3, 64] := by decide +kernel
theorem al8 : ofI (allL 65) 0 = 18446744073709551615 := by decide +kernel
theorem al9 : ofI (allL 65) 1 = 1 := by decide +kernel
theorem al10 : ofI (allL 65) 2 = 0 := by decide +kernel
theorem al11 : ofI (allL 65) 3 = 0 := by decide +kernel
theorem al_least {m : Int} (h : IsLeast 8 1 0 0 m) : m = 3 := h.one (.inr ⟨3, by omega, rfl, al6, fun j hj => al5 ⟨j, hj⟩⟩)
theorem u64_of (n : Int) (h0 : 0 ≤ n) (h1 : n ≤ 18446744073709551615) : U64 n := ⟨h0, h1⟩
theorem ints_new (w : World) (t : TypeId) (l : List Int) : Ints (w.alloc (.cells (l.map (Value.int .i64)).toArray t)) (some ⟨w.heap.size, 0, none⟩) l := fun i hi => by
  refine ⟨w.heap.size, 0, rfl, ?_, by simp⟩
  rw [Nat.zero_add, cell_of_row _ w.heap.size i _ _ _ (heap_alloc_new w _)]
  simp [hi]
set_option maxRecDepth 100000 in
set_option maxHeartbeats 2000000 in
theorem alive_c (w : World) : Calls Try.prog 15 #[] w fun e w' => e = .returned (.bool true) ∧ Below w.heap.size w w' := by
  have u8 := u64_of 8 (by omega) (by omega)
  have u1 := u64_of 1 (by omega) (by omega)
  have u0 := u64_of 0 (by omega) (by omega)
  go_enter Try.func15, Try.ntmps15
  go_wp2_with fail
  refine (of_c _ [3, 64, -1, 256, 3] 5 _ (ints_new w 3 [3, 64, -1, 256, 3]) (by unfold maxLen; decide)).mono ?_
  rintro e w1 ⟨rfl, hb1⟩
  rw [al0, al1, al2, al3]
  have q1 : Quad (w1.alloc (.cells #[.int .u64 8, .int .u64 1, .int .u64 0, .int .u64 0] 24)) w1.heap.size 8 1 0 0 := Quad.new _ _ _ _ _
  go_wp2_with fail
  refine (count_c _ _ _ _ _ u8 u1 u0 u0).mono ?_
  rintro e w2 ⟨rfl, hb2⟩
  rw [al4]
  have q2 := q1.below hb2 q1.lt
  obtain ⟨c0, c1, c2, c3, _⟩ := q2.facts
  go_wp2_with fail
  refine (least_c _ _ _ _ _).mono ?_
  rintro e w3 ⟨m, hm, rfl, hb3⟩
  rw [al_least hm]
  clear c0 c1 c2 c3
  have q3 := q2.below hb3 q2.lt
  go_wp2_with fail
  refine (all_c _ _ (by omega) (by omega)).mono ?_
  rintro e w4 ⟨rfl, hb4⟩
  rw [al8, al9, al10, al11]
  have q4 := q3.below hb4 q3.lt
  obtain ⟨c0, c1, c2, c3, _⟩ := q4.facts
  go_wp2_with fail
  refine (list_c _ _ _ _ _ u8 u1 u0 u0).mono ?_
  rintro e w5 ⟨v, hv, rfl, hb5⟩
  rw [al7] at hv
  obtain ⟨A, cap, rfl, hi⟩ := hv.ints
  go_wp2_with fail
  refine (ints_c A _ [3, 64] [3, 64] cap 2 _ (hi.below ((Below.refl _ _).alloc (Nat.le_refl _) _)) (ints_new w5 3 [3, 64]) (by unfold maxLen; decide)).mono ?_
  rintro e w6 ⟨rfl, hb6⟩
  rw [decide_eq_true rfl]
  go_wp2_with fail
  go_ret
  refine ⟨rfl, ?_⟩
  have b1 := ((Below.refl w.heap.size w).alloc (Nat.le_refl _) (.cells #[.int .i64 3, .int .i64 64, .int .i64 (-1), .int .i64 256, .int .i64 3] 3)).trans (hb1.mono (by simp))
  have b2 := (b1.alloc b1.size (.cells #[.int .u64 8, .int .u64 1, .int .u64 0, .int .u64 0] 24)).trans (hb2.mono (by have := b1.size; simp; omega))
  have b3 := b2.trans (hb3.mono b2.size)
  have b4 := b3.trans (hb4.mono b3.size)
  have b5 := b4.trans (hb5.mono b4.size)
  exact (b5.alloc b5.size _).trans (hb6.mono (by have := b5.size; simp; omega))
end Go.Proofs.Ytaigoklmhafhcaa
