/- The law BitsetLists: Count, Least and List are those of the reference, and Of of List of a set is the set. -/
import Derived.Test.YtaigoklmhafhcaaBq
import Derived.Test.YtaigoklmhafhcaaBsf
import Derived.Deep.RegionHeld3
namespace Go.Proofs.Ytaigoklmhafhcaa
open Go.RowKit
theorem Ints.cls' {W w : World} {A : Option Addr} {l : List Int} (h : Ints W A l) (hC : Cls W w) : Ints w A l := h.below hC
theorem Cls.step {W w w' : World} (h : Cls W w) (hb : Below w.heap.size w w') : Cls W w' := Below.trans h (hb.mono (Below.size h))
theorem least_is {x0 x1 x2 x3 m : Int} (h : IsLeast x0 x1 x2 x3 m) (w : World) :
    Calls Try.prog 37 #[.agg #[.int .u64 x0, .int .u64 x1, .int .u64 x2, .int .u64 x3]] w fun e w' => e = .returned (.int .i64 m) ∧ Below w.heap.size w w' :=
  (least_c x0 x1 x2 x3 w).mono fun _ _ ⟨m', h', he, hb⟩ => ⟨by rw [he, h'.one h], hb⟩
theorem rleast_is {x0 x1 x2 x3 m : Int} (h : IsLeast x0 x1 x2 x3 m) (w : World) :
    Calls Try.prog 38 #[.agg #[.int .u64 x0, .int .u64 x1, .int .u64 x2, .int .u64 x3]] w fun e w' => e = .returned (.int .i64 m) ∧ Below w.heap.size w w' :=
  (rleast_c x0 x1 x2 x3 w).mono fun _ _ ⟨m', h', he, hb⟩ => ⟨by rw [he, h'.one h], hb⟩
def SetAt (g : Nat) (x0 x1 x2 x3 : Int) (w : World) : Prop := w.cell? ⟨g, 0, none⟩ = some (.int .u64 x0) ∧ w.cell? ⟨g, 1, none⟩ = some (.int .u64 x1) ∧ w.cell? ⟨g, 2, none⟩ = some (.int .u64 x2) ∧ w.cell? ⟨g, 3, none⟩ = some (.int .u64 x3)
set_option maxRecDepth 100000 in
set_option maxHeartbeats 4000000 in
theorem lists_c (x0 x1 x2 x3 m : Int) (w : World) (h0 : U64 x0) (h1 : U64 x1) (h2 : U64 x2) (h3 : U64 x3) (hm : IsLeast x0 x1 x2 x3 m)
    (HE : Hid (((elems x0 x1 x2 x3 256).length : Int) = onesI x0 x1 x2 x3)) (HO : Hid (ofI (elems x0 x1 x2 x3 256) 0 = x0 ∧ ofI (elems x0 x1 x2 x3 256) 1 = x1 ∧ ofI (elems x0 x1 x2 x3 256) 2 = x2 ∧ ofI (elems x0 x1 x2 x3 256) 3 = x3)) :
    Calls Try.prog 5 #[.agg #[.int .u64 x0, .int .u64 x1, .int .u64 x2, .int .u64 x3]] w fun e w' => e = .returned (.bool true) ∧ Below w.heap.size w w' := by
  have HM := Lib.hid hm
  have hlm : (elems x0 x1 x2 x3 256).length ≤ maxLen := by have := elems_le x0 x1 x2 x3 256; unfold maxLen; omega
  have HL := Lib.hid hlm
  clear hm hlm
  go_enter Try.func5, Try.ntmps5
  go_wp2_with fail
  refine (list_c x0 x1 x2 x3 _ h0 h1 h2 h3).mono ?_
  rintro e w1 ⟨v, hv, rfl, hb1⟩
  obtain ⟨A, cap, rfl, hi⟩ := hv.ints
  have q1 := Quad.below (Quad.new w x0 x1 x2 x3) hb1 (by simp)
  have hB : Below w.heap.size w w1 := ((Below.refl _ _).alloc (Nat.le_refl _) _).trans (hb1.mono (by simp))
  clear hv hb1
  have HI := Lib.hid hi
  have Q1 := Lib.hid q1
  obtain ⟨c0, c1, c2, c3, _⟩ := q1.facts
  clear q1 hi
  go_wp2_with fail
  have hC0 : Cls w1 w1.drew := (Below.refl _ _).drew
  go_region_held3 (fun w' => w'.cell? ⟨w.heap.size, 0, none⟩ = some (.int .u64 x0) ∧ w'.cell? ⟨w.heap.size, 1, none⟩ = some (.int .u64 x1) ∧ w'.cell? ⟨w.heap.size, 2, none⟩ = some (.int .u64 x2) ∧ w'.cell? ⟨w.heap.size, 3, none⟩ = some (.int .u64 x3)) (exact Quad.cls Q1.out (by assumption))
    (first
      | (go_at_call 35; refine (count_c _ _ _ _ _ h0 h1 h2 h3).mono ?_; rintro e w2 ⟨rfl, hb2⟩; have hC2 := Cls.step (by assumption) hb2; clear hb2)
      | (go_at_call 36; refine (rcount_c _ _ _ _ _).mono ?_; rintro e w2 ⟨rfl, hb2⟩; rw [HE.out]; have hC2 := Cls.step (by assumption) hb2; clear hb2)
      | (go_at_call 37; refine (least_is HM.out _).mono ?_; rintro e w2 ⟨rfl, hb2⟩; have hC2 := Cls.step (by assumption) hb2; clear hb2)
      | (go_at_call 38; refine (rleast_is HM.out _).mono ?_; rintro e w2 ⟨rfl, hb2⟩; have hC2 := Cls.step (by assumption) hb2; clear hb2)
      | (go_at_call 40; refine (rlist_c _ _ _ _ _).mono ?_; rintro e w2 ⟨v2, hv2, rfl, hb2⟩; obtain ⟨A2, cap2, rfl, hi2⟩ := hv2.ints; have hC2 := Cls.step (by assumption) hb2; have HI2 := Lib.hid hi2; clear hb2 hi2 hv2)
      | (go_at_call 39; refine (ints_c A _ _ _ cap _ _ (HI.out.cls' (by assumption)) HI2.out HL.out).mono ?_; rintro e w2 ⟨rfl, hb2⟩; rw [decide_eq_true rfl]; have hC2 := Cls.step (by assumption) hb2; clear hb2)
      | (go_at_call 16; refine (of_c A _ cap _ (HI.out.cls' (by assumption)) HL.out).mono ?_; rintro e w2 ⟨rfl, hb2⟩; rw [HO.out.1, HO.out.2.1, HO.out.2.2.1, HO.out.2.2.2]; have hC2 := Cls.step (by assumption) hb2; clear hb2)
      | (go_at_call 15; refine (alive_c _).mono ?_; rintro e w2 ⟨rfl, hb2⟩; have hC2 := Cls.step (by assumption) hb2; clear hb2))
  all_goals
    go_wp2
    go_ret
    exact ⟨rfl, hB.trans (Below.mono (by assumption) hB.size)⟩
end Go.Proofs.Ytaigoklmhafhcaa
