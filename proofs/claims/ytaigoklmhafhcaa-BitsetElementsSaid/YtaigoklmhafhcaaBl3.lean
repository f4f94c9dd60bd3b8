/- The law BitsetElements: Of, All, Has, With and Without are those of the reference. -/
import Derived.Test.YtaigoklmhafhcaaBq
import Derived.Test.YtaigoklmhafhcaaBsf
namespace Go.Proofs.Ytaigoklmhafhcaa
open Go.RowKit
theorem Ints.cls {W w : World} {A : Option Addr} {l : List Int} (h : Ints W A l) (hC : Cls W w) : Ints w A l := h.below hC
set_option maxRecDepth 100000 in
set_option maxHeartbeats 4000000 in
theorem elements_c (x0 x1 x2 x3 n : Int) (A : Option Addr) (l : List Int) (cap : Nat) (w : World) (hl : Ints w A l) (hm : l.length ≤ maxLen) (n0 : -9223372036854775808 ≤ n) (n1 : n ≤ 9223372036854775807) :
    Calls Try.prog 3 #[.agg #[.int .u64 x0, .int .u64 x1, .int .u64 x2, .int .u64 x3], .slice A l.length cap, .int .i64 n] w fun e w' => e = .returned (.bool true) ∧ Below w.heap.size w w' := by
  by_cases hlen : 1000 < l.length
  · go_enter Try.func3, Try.ntmps3
    go_wp2_with (go_at_call 15; refine (alive_c _).mono ?_; rintro e w1 ⟨rfl, hb1⟩)
    go_ret
    exact ⟨rfl, ((Below.refl _ _).alloc (Nat.le_refl _) _).trans (hb1.mono (by simp))⟩
  · go_enter Try.func3, Try.ntmps3
    go_wp2
    have q1 := Quad.new w x0 x1 x2 x3
    have hB : Below w.heap.size w (w.alloc (.cells #[.int .u64 x0, .int .u64 x1, .int .u64 x2, .int .u64 x3] 24)) := (Below.refl _ _).alloc (Nat.le_refl _) _
    have hI := hl.below hB
    have HI := Lib.hid hI
    clear hI hl
    generalize w.alloc (.cells #[.int .u64 x0, .int .u64 x1, .int .u64 x2, .int .u64 x3] 24) = W at *
    refine wp_region_cls (by kernel_rfl) (by kernel_rfl) ?_
    repeat (first
      | go_big_quiet_skip
      | (go_big_quiet_want
         go_big_quiet_op
         first
           | go_big_quiet_on
           | (apply Exists.intro
              refine ⟨fun w1 hC => ?_, ?_⟩
              · first
                  | (go_at_call 16; with_reducible exact hC.call (of_c _ l cap w1 (HI.out.cls hC) hm))
                  | (go_at_call 17; with_reducible exact hC.call (rof_c _ l cap w1 (HI.out.cls hC) hm))
                  | (go_at_call 18; with_reducible exact hC.call (all_c _ _ n0 n1))
                  | (go_at_call 19; with_reducible exact hC.call (rall_c _ _ n0 n1))
                  | (go_at_call 20; with_reducible exact hC.call (has_c _ _ _ _ _ _))
                  | (go_at_call 21; with_reducible exact hC.call (rhas_c _ _ _ _ _ _))
                  | (go_at_call 22; with_reducible exact hC.call (with_c _ _ _ _ _ _))
                  | (go_at_call 23; with_reducible exact hC.call (rwith_c _ _ _ _ _ _))
                  | (go_at_call 24; with_reducible exact hC.call (less_c _ _ _ _ _ _))
                  | (go_at_call 25; with_reducible exact hC.call (rless_c _ _ _ _ _ _))
                  | (go_at_call 15; with_reducible exact hC.call (alive_c _))
                  | (obtain ⟨p0, p1, p2, p3⟩ := q1.cls hC; go_simp; exact rfl)
              go_big_quiet_on)))
    refine wpQuiet_nil ?_
    intro W' hC
    go_wp2
    go_ret
    exact ⟨rfl, hB.trans (Below.mono hC hB.size)⟩
end Go.Proofs.Ytaigoklmhafhcaa
