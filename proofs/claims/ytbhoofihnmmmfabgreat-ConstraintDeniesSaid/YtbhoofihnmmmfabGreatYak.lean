/- Part of the proof: Cxn. No conditions. -/
import Derived.Test.YtbhoofihnmmmfabGreatYaj
namespace Go.Proofs.YtbhoofihnmmmfabGreat
open Go.RowKit
def fldR (K op a r b : Int) (nn : Nat) (s : S4) (m : Nat) : Bool := !(K != (m : Int)) && ((!(op != 8) || (!(r != 0) && !(b != 0))) && ((!decide (0 < K) || !(a != 0)) && (((nn : Int) == 0) && ((op == 9) || isz s))))
set_option maxRecDepth 100000 in
set_option maxHeartbeats 64000000 in
theorem fields_c (op a r b : Int) (ao : Option Addr) (nn cap : Nat) (s : S4) (ak : Option Addr) (m ck : Nat) (w : World) :
 Calls Tryz.prog 106 #[.agg #[.int .i64 op, .int .i64 a, .int .i64 r, .int .i64 b, .slice ao nn cap, .int .u64 s.a, .int .u64 s.b, .int .u64 s.c, .int .u64 s.d, .slice ak m ck], .bool false] w fun e w' => e = .returned (.bool (fldR (kidsN op) op a r b nn s m)) ∧ Below w.heap.size w w' := by
 obtain ⟨W0, ZW0⟩ : ∃ v, Hid (((w.alloc (.cells #[.int .i64 op, .int .i64 a, .int .i64 r, .int .i64 b, .slice ao nn cap, .int .u64 s.a, .int .u64 s.b, .int .u64 s.c, .int .u64 s.d, .slice ak m ck] 55)).alloc (.cells #[.int .u64 0, .int .u64 0, .int .u64 0, .int .u64 0] 53)) = v) := ⟨_, Lib.hid rfl⟩
 have HX : Hid (XC W0 w.heap.size 0 op a r b ao nn cap s ak m ck) := by cases ZW0.out; exact Lib.hid (XC.of_blk ((Blk.new w _ _).alloc _))
 have HQ : Hid (Quad W0 (w.heap.size + 1) 0 0 0 0) := by cases ZW0.out; exact Lib.hid (by
  have h := Quad.new (w.alloc (.cells #[.int .i64 op, .int .i64 a, .int .i64 r, .int .i64 b, .slice ao nn cap, .int .u64 s.a, .int .u64 s.b, .int .u64 s.c, .int .u64 s.d, .slice ak m ck] 55)) 0 0 0 0
  rw [World.size_alloc] at h; exact h)
 have HB : Hid (Below w.heap.size w W0) := by cases ZW0.out; exact Lib.hid (((Below.refl _ _).alloc (Nat.le_refl _) _).alloc (by simp) _)
 have HG : Hid (w.heap.size < W0.heap.size) := by cases ZW0.out; exact Lib.hid (by simp; omega)
 have HKC := Lib.hid (kids_c op)
 unfold fldR
 generalize kidsN op = K at *
 cases q1 : (K != (m : Int)) with
 | true =>
   simp only [Bool.false_and, Bool.not_true]
   go_enter Tryz.func106, Tryz.ntmps106
   go_upto_region 2 with fail
   rw [ZW0.out]
   have hW := ZW0.out
   refine wp_region_kp (by kernel_rfl) (by kernel_rfl) ?_
   repeat (first
    | go_big_quiet_skip
    | (go_big_quiet_want
       go_big_quiet_op
       first
        | go_big_quiet_on
        | (apply Exists.intro
           refine ⟨fun w1 hC => ?_, ?_⟩
           · first
              | (go_at_call 107; with_reducible exact hC.call (HKC.out _))
              | (go_simp; exact ⟨rfl, rfl⟩)
              | (obtain ⟨y0, y1, y2, y3, y4, y5, y6, y7, y8, y9⟩ := (HX.out.keep (hC.block w.heap.size HG.out)).cells; go_simp; exact rfl)
           go_big_quiet_on)))
   refine wpQuiet_nil ?_
   intro W1 hC
   have HB1 := Lib.hid (HB.out.trans (hC.mono HB.out.size))
   obtain ⟨y0, y1, y2, y3, y4, y5, y6, y7, y8, y9⟩ := (HX.out.keep (hC.block w.heap.size HG.out)).cells
   obtain ⟨z0, z1, z2, z3, _⟩ := (Quad.below HQ.out hC HQ.out.lt).facts
   clear hC
   go_wp2_with fail
   go_ret
   exact ⟨rfl, HB1.out⟩
 | false =>
   cases q2 : (op != 8) with
   | false =>
     by_cases q5 : (0 : Int) < K
     · rw [decide_eq_true q5]
       cases q6 : (a != 0) with
       | true =>
         simp only [Bool.false_and, Bool.and_false, Bool.not_true, Bool.not_false, Bool.true_or, Bool.or_false]
         go_enter Tryz.func106, Tryz.ntmps106
         go_upto_region 2 with fail
         rw [ZW0.out]
         have hW := ZW0.out
         refine wp_region_kp (by kernel_rfl) (by kernel_rfl) ?_
         repeat (first
          | go_big_quiet_skip
          | (go_big_quiet_want
             go_big_quiet_op
             first
              | go_big_quiet_on
              | (apply Exists.intro
                 refine ⟨fun w1 hC => ?_, ?_⟩
                 · first
                    | (go_at_call 107; with_reducible exact hC.call (HKC.out _))
                    | (go_simp; exact ⟨rfl, rfl⟩)
                    | (obtain ⟨y0, y1, y2, y3, y4, y5, y6, y7, y8, y9⟩ := (HX.out.keep (hC.block w.heap.size HG.out)).cells; go_simp; exact rfl)
                 go_big_quiet_on)))
         refine wpQuiet_nil ?_
         intro W1 hC
         have HB1 := Lib.hid (HB.out.trans (hC.mono HB.out.size))
         obtain ⟨y0, y1, y2, y3, y4, y5, y6, y7, y8, y9⟩ := (HX.out.keep (hC.block w.heap.size HG.out)).cells
         obtain ⟨z0, z1, z2, z3, _⟩ := (Quad.below HQ.out hC HQ.out.lt).facts
         clear hC
         go_wp2_with fail
         go_ret
         exact ⟨rfl, HB1.out⟩
       | false =>
         cases q8 : (op == 9) with
         | true =>
           cases q7 : ((nn : Int) == 0) with
           | false =>
             simp only [Bool.and_false, Bool.not_true, Bool.not_false, Bool.and_true, Bool.true_or, Bool.or_true]
             go_enter Tryz.func106, Tryz.ntmps106
             go_upto_region 2 with fail
             rw [ZW0.out]
             have hW := ZW0.out
             refine wp_region_kp (by kernel_rfl) (by kernel_rfl) ?_
             repeat (first
              | go_big_quiet_skip
              | (go_big_quiet_want
                 go_big_quiet_op
                 first
                  | go_big_quiet_on
                  | (apply Exists.intro
                     refine ⟨fun w1 hC => ?_, ?_⟩
                     · first
                        | (go_at_call 107; with_reducible exact hC.call (HKC.out _))
                        | (go_simp; exact ⟨rfl, rfl⟩)
                        | (obtain ⟨y0, y1, y2, y3, y4, y5, y6, y7, y8, y9⟩ := (HX.out.keep (hC.block w.heap.size HG.out)).cells; go_simp; exact rfl)
                     go_big_quiet_on)))
             refine wpQuiet_nil ?_
             intro W1 hC
             have HB1 := Lib.hid (HB.out.trans (hC.mono HB.out.size))
             obtain ⟨y0, y1, y2, y3, y4, y5, y6, y7, y8, y9⟩ := (HX.out.keep (hC.block w.heap.size HG.out)).cells
             obtain ⟨z0, z1, z2, z3, _⟩ := (Quad.below HQ.out hC HQ.out.lt).facts
             clear hC
             go_wp2_with fail
             go_ret
             exact ⟨rfl, HB1.out⟩
           | true =>
             simp only [Bool.not_true, Bool.not_false, Bool.and_true, Bool.true_or, Bool.or_true]
             go_enter Tryz.func106, Tryz.ntmps106
             go_upto_region 2 with fail
             rw [ZW0.out]
             have hW := ZW0.out
             refine wp_region_kp (by kernel_rfl) (by kernel_rfl) ?_
             repeat (first
              | go_big_quiet_skip
              | (go_big_quiet_want
                 go_big_quiet_op
                 first
                  | go_big_quiet_on
                  | (apply Exists.intro
                     refine ⟨fun w1 hC => ?_, ?_⟩
                     · first
                        | (go_at_call 107; with_reducible exact hC.call (HKC.out _))
                        | (go_simp; exact ⟨rfl, rfl⟩)
                        | (obtain ⟨y0, y1, y2, y3, y4, y5, y6, y7, y8, y9⟩ := (HX.out.keep (hC.block w.heap.size HG.out)).cells; go_simp; exact rfl)
                     go_big_quiet_on)))
             refine wpQuiet_nil ?_
             intro W1 hC
             have HB1 := Lib.hid (HB.out.trans (hC.mono HB.out.size))
             obtain ⟨y0, y1, y2, y3, y4, y5, y6, y7, y8, y9⟩ := (HX.out.keep (hC.block w.heap.size HG.out)).cells
             obtain ⟨z0, z1, z2, z3, _⟩ := (Quad.below HQ.out hC HQ.out.lt).facts
             clear hC
             go_wp2_with fail
             go_ret
             exact ⟨rfl, HB1.out⟩
         | false =>
           cases q7 : ((nn : Int) == 0) with
           | false =>
             simp only [Bool.false_and, Bool.and_false, Bool.not_true, Bool.not_false, Bool.true_or, Bool.or_true, Bool.false_or]
             go_enter Tryz.func106, Tryz.ntmps106
             go_upto_region 2 with fail
             rw [ZW0.out]
             have hW := ZW0.out
             refine wp_region_kp (by kernel_rfl) (by kernel_rfl) ?_
             repeat (first
              | go_big_quiet_skip
              | (go_big_quiet_want
                 go_big_quiet_op
                 first
                  | go_big_quiet_on
                  | (apply Exists.intro
                     refine ⟨fun w1 hC => ?_, ?_⟩
                     · first
                        | (go_at_call 107; with_reducible exact hC.call (HKC.out _))
                        | (go_simp; exact ⟨rfl, rfl⟩)
                        | (obtain ⟨y0, y1, y2, y3, y4, y5, y6, y7, y8, y9⟩ := (HX.out.keep (hC.block w.heap.size HG.out)).cells; go_simp; exact rfl)
                     go_big_quiet_on)))
             refine wpQuiet_nil ?_
             intro W1 hC
             have HB1 := Lib.hid (HB.out.trans (hC.mono HB.out.size))
             obtain ⟨y0, y1, y2, y3, y4, y5, y6, y7, y8, y9⟩ := (HX.out.keep (hC.block w.heap.size HG.out)).cells
             obtain ⟨z0, z1, z2, z3, _⟩ := (Quad.below HQ.out hC HQ.out.lt).facts
             clear hC
             go_wp2_with fail
             go_ret
             exact ⟨rfl, HB1.out⟩
           | true =>
             cases q9 : isz s with
             | true =>
               unfold isz at q9
               simp only [Bool.not_true, Bool.not_false, Bool.and_true, Bool.true_or, Bool.or_true]
               go_enter Tryz.func106, Tryz.ntmps106
               go_upto_region 2 with fail
               rw [ZW0.out]
               have hW := ZW0.out
               refine wp_region_kp (by kernel_rfl) (by kernel_rfl) ?_
               repeat (first
                | go_big_quiet_skip
                | (go_big_quiet_want
                   go_big_quiet_op
                   first
                    | go_big_quiet_on
                    | (apply Exists.intro
                       refine ⟨fun w1 hC => ?_, ?_⟩
                       · first
                          | (go_at_call 107; with_reducible exact hC.call (HKC.out _))
                          | (go_simp; exact ⟨rfl, rfl⟩)
                          | (obtain ⟨y0, y1, y2, y3, y4, y5, y6, y7, y8, y9⟩ := (HX.out.keep (hC.block w.heap.size HG.out)).cells; go_simp; exact rfl)
                       go_big_quiet_on)))
               refine wpQuiet_nil ?_
               intro W1 hC
               have HB1 := Lib.hid (HB.out.trans (hC.mono HB.out.size))
               obtain ⟨y0, y1, y2, y3, y4, y5, y6, y7, y8, y9⟩ := (HX.out.keep (hC.block w.heap.size HG.out)).cells
               obtain ⟨z0, z1, z2, z3, _⟩ := (Quad.below HQ.out hC HQ.out.lt).facts
               clear hC
               go_wp2_with fail
               go_ret
               exact ⟨rfl, HB1.out⟩
             | false =>
               unfold isz at q9
               simp only [Bool.and_false, Bool.not_true, Bool.not_false, Bool.true_or, Bool.or_true, Bool.or_false]
               go_enter Tryz.func106, Tryz.ntmps106
               go_upto_region 2 with fail
               rw [ZW0.out]
               have hW := ZW0.out
               refine wp_region_kp (by kernel_rfl) (by kernel_rfl) ?_
               repeat (first
                | go_big_quiet_skip
                | (go_big_quiet_want
                   go_big_quiet_op
                   first
                    | go_big_quiet_on
                    | (apply Exists.intro
                       refine ⟨fun w1 hC => ?_, ?_⟩
                       · first
                          | (go_at_call 107; with_reducible exact hC.call (HKC.out _))
                          | (go_simp; exact ⟨rfl, rfl⟩)
                          | (obtain ⟨y0, y1, y2, y3, y4, y5, y6, y7, y8, y9⟩ := (HX.out.keep (hC.block w.heap.size HG.out)).cells; go_simp; exact rfl)
                       go_big_quiet_on)))
               refine wpQuiet_nil ?_
               intro W1 hC
               have HB1 := Lib.hid (HB.out.trans (hC.mono HB.out.size))
               obtain ⟨y0, y1, y2, y3, y4, y5, y6, y7, y8, y9⟩ := (HX.out.keep (hC.block w.heap.size HG.out)).cells
               obtain ⟨z0, z1, z2, z3, _⟩ := (Quad.below HQ.out hC HQ.out.lt).facts
               clear hC
               go_wp2_with fail
               go_ret
               exact ⟨rfl, HB1.out⟩
     · rw [decide_eq_false q5]
       cases q8 : (op == 9) with
       | true =>
         cases q7 : ((nn : Int) == 0) with
         | false =>
           simp only [Bool.and_false, Bool.not_false, Bool.and_true, Bool.true_or]
           go_enter Tryz.func106, Tryz.ntmps106
           go_upto_region 2 with fail
           rw [ZW0.out]
           have hW := ZW0.out
           refine wp_region_kp (by kernel_rfl) (by kernel_rfl) ?_
           repeat (first
            | go_big_quiet_skip
            | (go_big_quiet_want
               go_big_quiet_op
               first
                | go_big_quiet_on
                | (apply Exists.intro
                   refine ⟨fun w1 hC => ?_, ?_⟩
                   · first
                      | (go_at_call 107; with_reducible exact hC.call (HKC.out _))
                      | (go_simp; exact ⟨rfl, rfl⟩)
                      | (obtain ⟨y0, y1, y2, y3, y4, y5, y6, y7, y8, y9⟩ := (HX.out.keep (hC.block w.heap.size HG.out)).cells; go_simp; exact rfl)
                   go_big_quiet_on)))
           refine wpQuiet_nil ?_
           intro W1 hC
           have HB1 := Lib.hid (HB.out.trans (hC.mono HB.out.size))
           obtain ⟨y0, y1, y2, y3, y4, y5, y6, y7, y8, y9⟩ := (HX.out.keep (hC.block w.heap.size HG.out)).cells
           obtain ⟨z0, z1, z2, z3, _⟩ := (Quad.below HQ.out hC HQ.out.lt).facts
           clear hC
           go_wp2_with fail
           go_ret
           exact ⟨rfl, HB1.out⟩
         | true =>
           simp only [Bool.not_false, Bool.and_true, Bool.true_or]
           go_enter Tryz.func106, Tryz.ntmps106
           go_upto_region 2 with fail
           rw [ZW0.out]
           have hW := ZW0.out
           refine wp_region_kp (by kernel_rfl) (by kernel_rfl) ?_
           repeat (first
            | go_big_quiet_skip
            | (go_big_quiet_want
               go_big_quiet_op
               first
                | go_big_quiet_on
                | (apply Exists.intro
                   refine ⟨fun w1 hC => ?_, ?_⟩
                   · first
                      | (go_at_call 107; with_reducible exact hC.call (HKC.out _))
                      | (go_simp; exact ⟨rfl, rfl⟩)
                      | (obtain ⟨y0, y1, y2, y3, y4, y5, y6, y7, y8, y9⟩ := (HX.out.keep (hC.block w.heap.size HG.out)).cells; go_simp; exact rfl)
                   go_big_quiet_on)))
           refine wpQuiet_nil ?_
           intro W1 hC
           have HB1 := Lib.hid (HB.out.trans (hC.mono HB.out.size))
           obtain ⟨y0, y1, y2, y3, y4, y5, y6, y7, y8, y9⟩ := (HX.out.keep (hC.block w.heap.size HG.out)).cells
           obtain ⟨z0, z1, z2, z3, _⟩ := (Quad.below HQ.out hC HQ.out.lt).facts
           clear hC
           go_wp2_with fail
           go_ret
           exact ⟨rfl, HB1.out⟩
       | false =>
         cases q7 : ((nn : Int) == 0) with
         | false =>
           simp only [Bool.false_and, Bool.and_false, Bool.not_false, Bool.true_or, Bool.false_or]
           go_enter Tryz.func106, Tryz.ntmps106
           go_upto_region 2 with fail
           rw [ZW0.out]
           have hW := ZW0.out
           refine wp_region_kp (by kernel_rfl) (by kernel_rfl) ?_
           repeat (first
            | go_big_quiet_skip
            | (go_big_quiet_want
               go_big_quiet_op
               first
                | go_big_quiet_on
                | (apply Exists.intro
                   refine ⟨fun w1 hC => ?_, ?_⟩
                   · first
                      | (go_at_call 107; with_reducible exact hC.call (HKC.out _))
                      | (go_simp; exact ⟨rfl, rfl⟩)
                      | (obtain ⟨y0, y1, y2, y3, y4, y5, y6, y7, y8, y9⟩ := (HX.out.keep (hC.block w.heap.size HG.out)).cells; go_simp; exact rfl)
                   go_big_quiet_on)))
           refine wpQuiet_nil ?_
           intro W1 hC
           have HB1 := Lib.hid (HB.out.trans (hC.mono HB.out.size))
           obtain ⟨y0, y1, y2, y3, y4, y5, y6, y7, y8, y9⟩ := (HX.out.keep (hC.block w.heap.size HG.out)).cells
           obtain ⟨z0, z1, z2, z3, _⟩ := (Quad.below HQ.out hC HQ.out.lt).facts
           clear hC
           go_wp2_with fail
           go_ret
           exact ⟨rfl, HB1.out⟩
         | true =>
           cases q9 : isz s with
           | true =>
             unfold isz at q9
             simp only [Bool.not_false, Bool.and_true, Bool.true_or, Bool.or_true]
             go_enter Tryz.func106, Tryz.ntmps106
             go_upto_region 2 with fail
             rw [ZW0.out]
             have hW := ZW0.out
             refine wp_region_kp (by kernel_rfl) (by kernel_rfl) ?_
             repeat (first
              | go_big_quiet_skip
              | (go_big_quiet_want
                 go_big_quiet_op
                 first
                  | go_big_quiet_on
                  | (apply Exists.intro
                     refine ⟨fun w1 hC => ?_, ?_⟩
                     · first
                        | (go_at_call 107; with_reducible exact hC.call (HKC.out _))
                        | (go_simp; exact ⟨rfl, rfl⟩)
                        | (obtain ⟨y0, y1, y2, y3, y4, y5, y6, y7, y8, y9⟩ := (HX.out.keep (hC.block w.heap.size HG.out)).cells; go_simp; exact rfl)
                     go_big_quiet_on)))
             refine wpQuiet_nil ?_
             intro W1 hC
             have HB1 := Lib.hid (HB.out.trans (hC.mono HB.out.size))
             obtain ⟨y0, y1, y2, y3, y4, y5, y6, y7, y8, y9⟩ := (HX.out.keep (hC.block w.heap.size HG.out)).cells
             obtain ⟨z0, z1, z2, z3, _⟩ := (Quad.below HQ.out hC HQ.out.lt).facts
             clear hC
             go_wp2_with fail
             go_ret
             exact ⟨rfl, HB1.out⟩
           | false =>
             unfold isz at q9
             simp only [Bool.and_false, Bool.not_false, Bool.true_or, Bool.or_false]
             go_enter Tryz.func106, Tryz.ntmps106
             go_upto_region 2 with fail
             rw [ZW0.out]
             have hW := ZW0.out
             refine wp_region_kp (by kernel_rfl) (by kernel_rfl) ?_
             repeat (first
              | go_big_quiet_skip
              | (go_big_quiet_want
                 go_big_quiet_op
                 first
                  | go_big_quiet_on
                  | (apply Exists.intro
                     refine ⟨fun w1 hC => ?_, ?_⟩
                     · first
                        | (go_at_call 107; with_reducible exact hC.call (HKC.out _))
                        | (go_simp; exact ⟨rfl, rfl⟩)
                        | (obtain ⟨y0, y1, y2, y3, y4, y5, y6, y7, y8, y9⟩ := (HX.out.keep (hC.block w.heap.size HG.out)).cells; go_simp; exact rfl)
                     go_big_quiet_on)))
             refine wpQuiet_nil ?_
             intro W1 hC
             have HB1 := Lib.hid (HB.out.trans (hC.mono HB.out.size))
             obtain ⟨y0, y1, y2, y3, y4, y5, y6, y7, y8, y9⟩ := (HX.out.keep (hC.block w.heap.size HG.out)).cells
             obtain ⟨z0, z1, z2, z3, _⟩ := (Quad.below HQ.out hC HQ.out.lt).facts
             clear hC
             go_wp2_with fail
             go_ret
             exact ⟨rfl, HB1.out⟩
   | true =>
     cases q3 : (r != 0) with
     | true =>
       simp only [Bool.false_and, Bool.and_false, Bool.not_true, Bool.not_false, Bool.or_false]
       go_enter Tryz.func106, Tryz.ntmps106
       go_upto_region 2 with fail
       rw [ZW0.out]
       have hW := ZW0.out
       refine wp_region_kp (by kernel_rfl) (by kernel_rfl) ?_
       repeat (first
        | go_big_quiet_skip
        | (go_big_quiet_want
           go_big_quiet_op
           first
            | go_big_quiet_on
            | (apply Exists.intro
               refine ⟨fun w1 hC => ?_, ?_⟩
               · first
                  | (go_at_call 107; with_reducible exact hC.call (HKC.out _))
                  | (go_simp; exact ⟨rfl, rfl⟩)
                  | (obtain ⟨y0, y1, y2, y3, y4, y5, y6, y7, y8, y9⟩ := (HX.out.keep (hC.block w.heap.size HG.out)).cells; go_simp; exact rfl)
               go_big_quiet_on)))
       refine wpQuiet_nil ?_
       intro W1 hC
       have HB1 := Lib.hid (HB.out.trans (hC.mono HB.out.size))
       obtain ⟨y0, y1, y2, y3, y4, y5, y6, y7, y8, y9⟩ := (HX.out.keep (hC.block w.heap.size HG.out)).cells
       obtain ⟨z0, z1, z2, z3, _⟩ := (Quad.below HQ.out hC HQ.out.lt).facts
       clear hC
       go_wp2_with fail
       go_ret
       exact ⟨rfl, HB1.out⟩
     | false =>
       cases q4 : (b != 0) with
       | true =>
         simp only [Bool.false_and, Bool.and_false, Bool.not_true, Bool.not_false, Bool.or_false]
         go_enter Tryz.func106, Tryz.ntmps106
         go_upto_region 2 with fail
         rw [ZW0.out]
         have hW := ZW0.out
         refine wp_region_kp (by kernel_rfl) (by kernel_rfl) ?_
         repeat (first
          | go_big_quiet_skip
          | (go_big_quiet_want
             go_big_quiet_op
             first
              | go_big_quiet_on
              | (apply Exists.intro
                 refine ⟨fun w1 hC => ?_, ?_⟩
                 · first
                    | (go_at_call 107; with_reducible exact hC.call (HKC.out _))
                    | (go_simp; exact ⟨rfl, rfl⟩)
                    | (obtain ⟨y0, y1, y2, y3, y4, y5, y6, y7, y8, y9⟩ := (HX.out.keep (hC.block w.heap.size HG.out)).cells; go_simp; exact rfl)
                 go_big_quiet_on)))
         refine wpQuiet_nil ?_
         intro W1 hC
         have HB1 := Lib.hid (HB.out.trans (hC.mono HB.out.size))
         obtain ⟨y0, y1, y2, y3, y4, y5, y6, y7, y8, y9⟩ := (HX.out.keep (hC.block w.heap.size HG.out)).cells
         obtain ⟨z0, z1, z2, z3, _⟩ := (Quad.below HQ.out hC HQ.out.lt).facts
         clear hC
         go_wp2_with fail
         go_ret
         exact ⟨rfl, HB1.out⟩
       | false =>
         by_cases q5 : (0 : Int) < K
         · rw [decide_eq_true q5]
           cases q6 : (a != 0) with
           | true =>
             simp only [Bool.false_and, Bool.and_false, Bool.not_true, Bool.not_false, Bool.and_true, Bool.or_true, Bool.or_false]
             go_enter Tryz.func106, Tryz.ntmps106
             go_upto_region 2 with fail
             rw [ZW0.out]
             have hW := ZW0.out
             refine wp_region_kp (by kernel_rfl) (by kernel_rfl) ?_
             repeat (first
              | go_big_quiet_skip
              | (go_big_quiet_want
                 go_big_quiet_op
                 first
                  | go_big_quiet_on
                  | (apply Exists.intro
                     refine ⟨fun w1 hC => ?_, ?_⟩
                     · first
                        | (go_at_call 107; with_reducible exact hC.call (HKC.out _))
                        | (go_simp; exact ⟨rfl, rfl⟩)
                        | (obtain ⟨y0, y1, y2, y3, y4, y5, y6, y7, y8, y9⟩ := (HX.out.keep (hC.block w.heap.size HG.out)).cells; go_simp; exact rfl)
                     go_big_quiet_on)))
             refine wpQuiet_nil ?_
             intro W1 hC
             have HB1 := Lib.hid (HB.out.trans (hC.mono HB.out.size))
             obtain ⟨y0, y1, y2, y3, y4, y5, y6, y7, y8, y9⟩ := (HX.out.keep (hC.block w.heap.size HG.out)).cells
             obtain ⟨z0, z1, z2, z3, _⟩ := (Quad.below HQ.out hC HQ.out.lt).facts
             clear hC
             go_wp2_with fail
             go_ret
             exact ⟨rfl, HB1.out⟩
           | false =>
             cases q8 : (op == 9) with
             | true =>
               cases q7 : ((nn : Int) == 0) with
               | false =>
                 simp only [Bool.and_false, Bool.not_true, Bool.not_false, Bool.and_true, Bool.true_or, Bool.or_true]
                 go_enter Tryz.func106, Tryz.ntmps106
                 go_upto_region 2 with fail
                 rw [ZW0.out]
                 have hW := ZW0.out
                 refine wp_region_kp (by kernel_rfl) (by kernel_rfl) ?_
                 repeat (first
                  | go_big_quiet_skip
                  | (go_big_quiet_want
                     go_big_quiet_op
                     first
                      | go_big_quiet_on
                      | (apply Exists.intro
                         refine ⟨fun w1 hC => ?_, ?_⟩
                         · first
                            | (go_at_call 107; with_reducible exact hC.call (HKC.out _))
                            | (go_simp; exact ⟨rfl, rfl⟩)
                            | (obtain ⟨y0, y1, y2, y3, y4, y5, y6, y7, y8, y9⟩ := (HX.out.keep (hC.block w.heap.size HG.out)).cells; go_simp; exact rfl)
                         go_big_quiet_on)))
                 refine wpQuiet_nil ?_
                 intro W1 hC
                 have HB1 := Lib.hid (HB.out.trans (hC.mono HB.out.size))
                 obtain ⟨y0, y1, y2, y3, y4, y5, y6, y7, y8, y9⟩ := (HX.out.keep (hC.block w.heap.size HG.out)).cells
                 obtain ⟨z0, z1, z2, z3, _⟩ := (Quad.below HQ.out hC HQ.out.lt).facts
                 clear hC
                 go_wp2_with fail
                 go_ret
                 exact ⟨rfl, HB1.out⟩
               | true =>
                 simp only [Bool.not_true, Bool.not_false, Bool.and_true, Bool.true_or, Bool.or_true]
                 go_enter Tryz.func106, Tryz.ntmps106
                 go_upto_region 2 with fail
                 rw [ZW0.out]
                 have hW := ZW0.out
                 refine wp_region_kp (by kernel_rfl) (by kernel_rfl) ?_
                 repeat (first
                  | go_big_quiet_skip
                  | (go_big_quiet_want
                     go_big_quiet_op
                     first
                      | go_big_quiet_on
                      | (apply Exists.intro
                         refine ⟨fun w1 hC => ?_, ?_⟩
                         · first
                            | (go_at_call 107; with_reducible exact hC.call (HKC.out _))
                            | (go_simp; exact ⟨rfl, rfl⟩)
                            | (obtain ⟨y0, y1, y2, y3, y4, y5, y6, y7, y8, y9⟩ := (HX.out.keep (hC.block w.heap.size HG.out)).cells; go_simp; exact rfl)
                         go_big_quiet_on)))
                 refine wpQuiet_nil ?_
                 intro W1 hC
                 have HB1 := Lib.hid (HB.out.trans (hC.mono HB.out.size))
                 obtain ⟨y0, y1, y2, y3, y4, y5, y6, y7, y8, y9⟩ := (HX.out.keep (hC.block w.heap.size HG.out)).cells
                 obtain ⟨z0, z1, z2, z3, _⟩ := (Quad.below HQ.out hC HQ.out.lt).facts
                 clear hC
                 go_wp2_with fail
                 go_ret
                 exact ⟨rfl, HB1.out⟩
             | false =>
               cases q7 : ((nn : Int) == 0) with
               | false =>
                 simp only [Bool.false_and, Bool.and_false, Bool.not_true, Bool.not_false, Bool.and_true, Bool.or_true, Bool.false_or]
                 go_enter Tryz.func106, Tryz.ntmps106
                 go_upto_region 2 with fail
                 rw [ZW0.out]
                 have hW := ZW0.out
                 refine wp_region_kp (by kernel_rfl) (by kernel_rfl) ?_
                 repeat (first
                  | go_big_quiet_skip
                  | (go_big_quiet_want
                     go_big_quiet_op
                     first
                      | go_big_quiet_on
                      | (apply Exists.intro
                         refine ⟨fun w1 hC => ?_, ?_⟩
                         · first
                            | (go_at_call 107; with_reducible exact hC.call (HKC.out _))
                            | (go_simp; exact ⟨rfl, rfl⟩)
                            | (obtain ⟨y0, y1, y2, y3, y4, y5, y6, y7, y8, y9⟩ := (HX.out.keep (hC.block w.heap.size HG.out)).cells; go_simp; exact rfl)
                         go_big_quiet_on)))
                 refine wpQuiet_nil ?_
                 intro W1 hC
                 have HB1 := Lib.hid (HB.out.trans (hC.mono HB.out.size))
                 obtain ⟨y0, y1, y2, y3, y4, y5, y6, y7, y8, y9⟩ := (HX.out.keep (hC.block w.heap.size HG.out)).cells
                 obtain ⟨z0, z1, z2, z3, _⟩ := (Quad.below HQ.out hC HQ.out.lt).facts
                 clear hC
                 go_wp2_with fail
                 go_ret
                 exact ⟨rfl, HB1.out⟩
               | true =>
                 cases q9 : isz s with
                 | true =>
                   unfold isz at q9
                   simp only [Bool.not_true, Bool.not_false, Bool.and_true, Bool.or_true]
                   go_enter Tryz.func106, Tryz.ntmps106
                   go_upto_region 2 with fail
                   rw [ZW0.out]
                   have hW := ZW0.out
                   refine wp_region_kp (by kernel_rfl) (by kernel_rfl) ?_
                   repeat (first
                    | go_big_quiet_skip
                    | (go_big_quiet_want
                       go_big_quiet_op
                       first
                        | go_big_quiet_on
                        | (apply Exists.intro
                           refine ⟨fun w1 hC => ?_, ?_⟩
                           · first
                              | (go_at_call 107; with_reducible exact hC.call (HKC.out _))
                              | (go_simp; exact ⟨rfl, rfl⟩)
                              | (obtain ⟨y0, y1, y2, y3, y4, y5, y6, y7, y8, y9⟩ := (HX.out.keep (hC.block w.heap.size HG.out)).cells; go_simp; exact rfl)
                           go_big_quiet_on)))
                   refine wpQuiet_nil ?_
                   intro W1 hC
                   have HB1 := Lib.hid (HB.out.trans (hC.mono HB.out.size))
                   obtain ⟨y0, y1, y2, y3, y4, y5, y6, y7, y8, y9⟩ := (HX.out.keep (hC.block w.heap.size HG.out)).cells
                   obtain ⟨z0, z1, z2, z3, _⟩ := (Quad.below HQ.out hC HQ.out.lt).facts
                   clear hC
                   go_wp2_with fail
                   go_ret
                   exact ⟨rfl, HB1.out⟩
                 | false =>
                   unfold isz at q9
                   simp only [Bool.and_false, Bool.not_true, Bool.not_false, Bool.and_true, Bool.or_true, Bool.or_false]
                   go_enter Tryz.func106, Tryz.ntmps106
                   go_upto_region 2 with fail
                   rw [ZW0.out]
                   have hW := ZW0.out
                   refine wp_region_kp (by kernel_rfl) (by kernel_rfl) ?_
                   repeat (first
                    | go_big_quiet_skip
                    | (go_big_quiet_want
                       go_big_quiet_op
                       first
                        | go_big_quiet_on
                        | (apply Exists.intro
                           refine ⟨fun w1 hC => ?_, ?_⟩
                           · first
                              | (go_at_call 107; with_reducible exact hC.call (HKC.out _))
                              | (go_simp; exact ⟨rfl, rfl⟩)
                              | (obtain ⟨y0, y1, y2, y3, y4, y5, y6, y7, y8, y9⟩ := (HX.out.keep (hC.block w.heap.size HG.out)).cells; go_simp; exact rfl)
                           go_big_quiet_on)))
                   refine wpQuiet_nil ?_
                   intro W1 hC
                   have HB1 := Lib.hid (HB.out.trans (hC.mono HB.out.size))
                   obtain ⟨y0, y1, y2, y3, y4, y5, y6, y7, y8, y9⟩ := (HX.out.keep (hC.block w.heap.size HG.out)).cells
                   obtain ⟨z0, z1, z2, z3, _⟩ := (Quad.below HQ.out hC HQ.out.lt).facts
                   clear hC
                   go_wp2_with fail
                   go_ret
                   exact ⟨rfl, HB1.out⟩
         · rw [decide_eq_false q5]
           cases q8 : (op == 9) with
           | true =>
             cases q7 : ((nn : Int) == 0) with
             | false =>
               simp only [Bool.and_false, Bool.not_true, Bool.not_false, Bool.and_true, Bool.true_or, Bool.or_true]
               go_enter Tryz.func106, Tryz.ntmps106
               go_upto_region 2 with fail
               rw [ZW0.out]
               have hW := ZW0.out
               refine wp_region_kp (by kernel_rfl) (by kernel_rfl) ?_
               repeat (first
                | go_big_quiet_skip
                | (go_big_quiet_want
                   go_big_quiet_op
                   first
                    | go_big_quiet_on
                    | (apply Exists.intro
                       refine ⟨fun w1 hC => ?_, ?_⟩
                       · first
                          | (go_at_call 107; with_reducible exact hC.call (HKC.out _))
                          | (go_simp; exact ⟨rfl, rfl⟩)
                          | (obtain ⟨y0, y1, y2, y3, y4, y5, y6, y7, y8, y9⟩ := (HX.out.keep (hC.block w.heap.size HG.out)).cells; go_simp; exact rfl)
                       go_big_quiet_on)))
               refine wpQuiet_nil ?_
               intro W1 hC
               have HB1 := Lib.hid (HB.out.trans (hC.mono HB.out.size))
               obtain ⟨y0, y1, y2, y3, y4, y5, y6, y7, y8, y9⟩ := (HX.out.keep (hC.block w.heap.size HG.out)).cells
               obtain ⟨z0, z1, z2, z3, _⟩ := (Quad.below HQ.out hC HQ.out.lt).facts
               clear hC
               go_wp2_with fail
               go_ret
               exact ⟨rfl, HB1.out⟩
             | true =>
               simp only [Bool.not_true, Bool.not_false, Bool.and_true, Bool.true_or, Bool.or_true]
               go_enter Tryz.func106, Tryz.ntmps106
               go_upto_region 2 with fail
               rw [ZW0.out]
               have hW := ZW0.out
               refine wp_region_kp (by kernel_rfl) (by kernel_rfl) ?_
               repeat (first
                | go_big_quiet_skip
                | (go_big_quiet_want
                   go_big_quiet_op
                   first
                    | go_big_quiet_on
                    | (apply Exists.intro
                       refine ⟨fun w1 hC => ?_, ?_⟩
                       · first
                          | (go_at_call 107; with_reducible exact hC.call (HKC.out _))
                          | (go_simp; exact ⟨rfl, rfl⟩)
                          | (obtain ⟨y0, y1, y2, y3, y4, y5, y6, y7, y8, y9⟩ := (HX.out.keep (hC.block w.heap.size HG.out)).cells; go_simp; exact rfl)
                       go_big_quiet_on)))
               refine wpQuiet_nil ?_
               intro W1 hC
               have HB1 := Lib.hid (HB.out.trans (hC.mono HB.out.size))
               obtain ⟨y0, y1, y2, y3, y4, y5, y6, y7, y8, y9⟩ := (HX.out.keep (hC.block w.heap.size HG.out)).cells
               obtain ⟨z0, z1, z2, z3, _⟩ := (Quad.below HQ.out hC HQ.out.lt).facts
               clear hC
               go_wp2_with fail
               go_ret
               exact ⟨rfl, HB1.out⟩
           | false =>
             cases q7 : ((nn : Int) == 0) with
             | false =>
               simp only [Bool.false_and, Bool.and_false, Bool.not_true, Bool.not_false, Bool.and_true, Bool.true_or, Bool.or_true, Bool.false_or]
               go_enter Tryz.func106, Tryz.ntmps106
               go_upto_region 2 with fail
               rw [ZW0.out]
               have hW := ZW0.out
               refine wp_region_kp (by kernel_rfl) (by kernel_rfl) ?_
               repeat (first
                | go_big_quiet_skip
                | (go_big_quiet_want
                   go_big_quiet_op
                   first
                    | go_big_quiet_on
                    | (apply Exists.intro
                       refine ⟨fun w1 hC => ?_, ?_⟩
                       · first
                          | (go_at_call 107; with_reducible exact hC.call (HKC.out _))
                          | (go_simp; exact ⟨rfl, rfl⟩)
                          | (obtain ⟨y0, y1, y2, y3, y4, y5, y6, y7, y8, y9⟩ := (HX.out.keep (hC.block w.heap.size HG.out)).cells; go_simp; exact rfl)
                       go_big_quiet_on)))
               refine wpQuiet_nil ?_
               intro W1 hC
               have HB1 := Lib.hid (HB.out.trans (hC.mono HB.out.size))
               obtain ⟨y0, y1, y2, y3, y4, y5, y6, y7, y8, y9⟩ := (HX.out.keep (hC.block w.heap.size HG.out)).cells
               obtain ⟨z0, z1, z2, z3, _⟩ := (Quad.below HQ.out hC HQ.out.lt).facts
               clear hC
               go_wp2_with fail
               go_ret
               exact ⟨rfl, HB1.out⟩
             | true =>
               cases q9 : isz s with
               | true =>
                 unfold isz at q9
                 simp only [Bool.not_true, Bool.not_false, Bool.and_true, Bool.true_or, Bool.or_true]
                 go_enter Tryz.func106, Tryz.ntmps106
                 go_upto_region 2 with fail
                 rw [ZW0.out]
                 have hW := ZW0.out
                 refine wp_region_kp (by kernel_rfl) (by kernel_rfl) ?_
                 repeat (first
                  | go_big_quiet_skip
                  | (go_big_quiet_want
                     go_big_quiet_op
                     first
                      | go_big_quiet_on
                      | (apply Exists.intro
                         refine ⟨fun w1 hC => ?_, ?_⟩
                         · first
                            | (go_at_call 107; with_reducible exact hC.call (HKC.out _))
                            | (go_simp; exact ⟨rfl, rfl⟩)
                            | (obtain ⟨y0, y1, y2, y3, y4, y5, y6, y7, y8, y9⟩ := (HX.out.keep (hC.block w.heap.size HG.out)).cells; go_simp; exact rfl)
                         go_big_quiet_on)))
                 refine wpQuiet_nil ?_
                 intro W1 hC
                 have HB1 := Lib.hid (HB.out.trans (hC.mono HB.out.size))
                 obtain ⟨y0, y1, y2, y3, y4, y5, y6, y7, y8, y9⟩ := (HX.out.keep (hC.block w.heap.size HG.out)).cells
                 obtain ⟨z0, z1, z2, z3, _⟩ := (Quad.below HQ.out hC HQ.out.lt).facts
                 clear hC
                 go_wp2_with fail
                 go_ret
                 exact ⟨rfl, HB1.out⟩
               | false =>
                 unfold isz at q9
                 simp only [Bool.and_false, Bool.not_true, Bool.not_false, Bool.and_true, Bool.true_or, Bool.or_true, Bool.or_false]
                 go_enter Tryz.func106, Tryz.ntmps106
                 go_upto_region 2 with fail
                 rw [ZW0.out]
                 have hW := ZW0.out
                 refine wp_region_kp (by kernel_rfl) (by kernel_rfl) ?_
                 repeat (first
                  | go_big_quiet_skip
                  | (go_big_quiet_want
                     go_big_quiet_op
                     first
                      | go_big_quiet_on
                      | (apply Exists.intro
                         refine ⟨fun w1 hC => ?_, ?_⟩
                         · first
                            | (go_at_call 107; with_reducible exact hC.call (HKC.out _))
                            | (go_simp; exact ⟨rfl, rfl⟩)
                            | (obtain ⟨y0, y1, y2, y3, y4, y5, y6, y7, y8, y9⟩ := (HX.out.keep (hC.block w.heap.size HG.out)).cells; go_simp; exact rfl)
                         go_big_quiet_on)))
                 refine wpQuiet_nil ?_
                 intro W1 hC
                 have HB1 := Lib.hid (HB.out.trans (hC.mono HB.out.size))
                 obtain ⟨y0, y1, y2, y3, y4, y5, y6, y7, y8, y9⟩ := (HX.out.keep (hC.block w.heap.size HG.out)).cells
                 obtain ⟨z0, z1, z2, z3, _⟩ := (Quad.below HQ.out hC HQ.out.lt).facts
                 clear hC
                 go_wp2_with fail
                 go_ret
                 exact ⟨rfl, HB1.out⟩
end Go.Proofs.YtbhoofihnmmmfabGreat
