/- The law BitsetOperates: Union, Meet, Minus and Within are those of the reference. -/
import Derived.Test.YtaigoklmhafhcaaBq
import Derived.Test.YtaigoklmhafhcaaBpn
namespace Go.Proofs.Ytaigoklmhafhcaa
open Go.RowKit
set_option maxRecDepth 100000 in
set_option maxHeartbeats 4000000 in
theorem operates_c (x0 x1 x2 x3 y0 y1 y2 y3 : Int) (w : World) (h0 : U64 x0) (h1 : U64 x1) (h2 : U64 x2) (h3 : U64 x3) (k0 : U64 y0) (k1 : U64 y1) (k2 : U64 y2) (k3 : U64 y3) :
    Calls Try.prog 4 #[.agg #[.int .u64 x0, .int .u64 x1, .int .u64 x2, .int .u64 x3], .agg #[.int .u64 y0, .int .u64 y1, .int .u64 y2, .int .u64 y3]] w fun e w' => e = .returned (.bool true) ∧ Below w.heap.size w w' := by
  have within_meet : ∀ w, Calls Try.prog 32 #[.agg #[.int .u64 (bits .and .u64 x0 y0), .int .u64 (bits .and .u64 x1 y1), .int .u64 (bits .and .u64 x2 y2), .int .u64 (bits .and .u64 x3 y3)], .agg #[.int .u64 x0, .int .u64 x1, .int .u64 x2, .int .u64 x3]] w fun e w' => e = .returned (.bool true) ∧ Below w.heap.size w w' := fun w => by
    have h := within_c (bits .and .u64 x0 y0) (bits .and .u64 x1 y1) (bits .and .u64 x2 y2) (bits .and .u64 x3 y3) x0 x1 x2 x3 w
    rwa [and_and_self h0 k0, and_and_self h1 k1, and_and_self h2 k2, and_and_self h3 k3, same4_self] at h
  have rwithin_is : ∀ w, Calls Try.prog 33 #[.agg #[.int .u64 x0, .int .u64 x1, .int .u64 x2, .int .u64 x3], .agg #[.int .u64 y0, .int .u64 y1, .int .u64 y2, .int .u64 y3]] w fun e w' => e = .returned (.bool (same4 (bits .and .u64 x0 y0) (bits .and .u64 x1 y1) (bits .and .u64 x2 y2) (bits .and .u64 x3 y3) x0 x1 x2 x3)) ∧ Below w.heap.size w w' := fun w => by
    have h := rwithin_c x0 x1 x2 x3 y0 y1 y2 y3 w
    rwa [within_eq h0 h1 h2 h3 k0 k1 k2 k3] at h
  have WM := Lib.hid within_meet
  have RW := Lib.hid rwithin_is
  clear within_meet rwithin_is
  go_enter Try.func4, Try.ntmps4
  go_wp2
  have q1 := quad_fst w x0 x1 x2 x3 (.cells #[.int .u64 y0, .int .u64 y1, .int .u64 y2, .int .u64 y3] 24)
  have q2 := quad_snd w x0 x1 x2 x3 y0 y1 y2 y3
  have hB : Below w.heap.size w ((w.alloc (.cells #[.int .u64 x0, .int .u64 x1, .int .u64 x2, .int .u64 x3] 24)).alloc (.cells #[.int .u64 y0, .int .u64 y1, .int .u64 y2, .int .u64 y3] 24)) := ((Below.refl _ _).alloc (Nat.le_refl _) _).alloc (by simp) _
  generalize (w.alloc (.cells #[.int .u64 x0, .int .u64 x1, .int .u64 x2, .int .u64 x3] 24)).alloc (.cells #[.int .u64 y0, .int .u64 y1, .int .u64 y2, .int .u64 y3] 24) = W at *
  refine wp_region_cls (by kernel_rfl) (by kernel_rfl) ?_
  repeat (first
    | go_big_quiet_skip
    | (go_big_quiet_want
       go_big_quiet_op
       first
         | go_big_quiet_on
         | (apply Exists.intro
            refine ⟨fun w1 hC => ?_, ?_⟩
            · first
                | (go_at_call 26; with_reducible exact hC.call (union_c _ _ _ _ _ _ _ _ _))
                | (go_at_call 27; with_reducible exact hC.call (runion_c _ _ _ _ _ _ _ _ _))
                | (go_at_call 28; with_reducible exact hC.call (meet_c _ _ _ _ _ _ _ _ _))
                | (go_at_call 29; with_reducible exact hC.call (rmeet_c _ _ _ _ _ _ _ _ _))
                | (go_at_call 30; with_reducible exact hC.call (minus_c _ _ _ _ _ _ _ _ _))
                | (go_at_call 31; with_reducible exact hC.call (rminus_c _ _ _ _ _ _ _ _ _))
                | (go_at_call 32; with_reducible exact hC.call (WM.out _))
                | (go_at_call 32; with_reducible exact hC.call (within_c _ _ _ _ _ _ _ _ _))
                | (go_at_call 33; with_reducible exact hC.call (RW.out _))
                | (go_at_call 15; with_reducible exact hC.call (alive_c _))
                | (obtain ⟨p0, p1, p2, p3⟩ := q1.cls hC; obtain ⟨r0, r1, r2, r3⟩ := q2.cls hC; go_simp; exact rfl)
            go_big_quiet_on)))
  refine wpQuiet_nil ?_
  intro W' hC
  go_wp2
  go_ret
  exact ⟨rfl, hB.trans (Below.mono hC hB.size)⟩
end Go.Proofs.Ytaigoklmhafhcaa
