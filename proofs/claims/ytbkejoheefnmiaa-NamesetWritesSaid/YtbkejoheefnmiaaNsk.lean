/- What the reference makes of the parts of a set of names: combine. Condition: at most a million symbols. -/
import Derived.Test.YtbkejoheefnmiaaNsi
import Derived.Test.YtbkejoheefnmiaaQt
import Derived.Deep.DeepCutAuto
namespace Go.Proofs.Ytbkejoheefnmiaa
open Go.RowKit
def combR (al no : Bool) (cnt : Int) (I O : S4) : S4 := if no then (allS cnt).sub (((if al then allS cnt else S4.zero).or I).sub O) else ((if al then allS cnt else S4.zero).or I).sub O
/-- behind the choice of the first set -/
def CombS (w1 : World) (A Y : S4) (wx : World) : Prop := Quad wx w1.heap.size A.a A.b A.c A.d ∧ Quad wx (w1.heap.size + 1) Y.a Y.b Y.c Y.d ∧ Kp w1 wx
set_option maxRecDepth 100000 in
set_option maxHeartbeats 8000000 in
theorem combine_c (al no sf : Bool) (vN vE : Value) (I O : S4) (cnt : Int) (w : World) (hc0 : 0 ≤ cnt) (hc1 : cnt ≤ 1000000) :
    Calls Try.prog 41 #[.agg #[.bool al, .bool no, .bool sf, vN, vE], .agg #[.int .u64 (I).a, .int .u64 (I).b, .int .u64 (I).c, .int .u64 (I).d], .agg #[.int .u64 (O).a, .int .u64 (O).b, .int .u64 (O).c, .int .u64 (O).d], .int .i64 cnt] w fun e w' => e = .returned (.agg #[.int .u64 ((combR al no cnt I O)).a, .int .u64 ((combR al no cnt I O)).b, .int .u64 ((combR al no cnt I O)).c, .int .u64 ((combR al no cnt I O)).d]) ∧ Below w.heap.size w w' := by
  have hW : Kp w ((((w.alloc (.cells #[.bool al, .bool no, .bool sf, vN, vE] 29)).alloc (.cells #[.int .u64 (I).a, .int .u64 (I).b, .int .u64 (I).c, .int .u64 (I).d] 35)).alloc (.cells #[.int .u64 (O).a, .int .u64 (O).b, .int .u64 (O).c, .int .u64 (O).d] 35)).alloc (.cells #[.int .u64 0, .int .u64 0, .int .u64 0, .int .u64 0] 35)) := ((((Below.refl _ _).alloc (Nat.le_refl _) _).alloc (by simp) _).alloc (by simp; omega) _).alloc (by simp; omega) _
  have hNS : Blk ((((w.alloc (.cells #[.bool al, .bool no, .bool sf, vN, vE] 29)).alloc (.cells #[.int .u64 (I).a, .int .u64 (I).b, .int .u64 (I).c, .int .u64 (I).d] 35)).alloc (.cells #[.int .u64 (O).a, .int .u64 (O).b, .int .u64 (O).c, .int .u64 (O).d] 35)).alloc (.cells #[.int .u64 0, .int .u64 0, .int .u64 0, .int .u64 0] 35)) w.heap.size 29 #[.bool al, .bool no, .bool sf, vN, vE] := (((Blk.new w _ _).alloc _).alloc _).alloc _
  have s1 : (w.alloc (.cells #[.bool al, .bool no, .bool sf, vN, vE] 29)).heap.size = w.heap.size + 1 := by simp
  have s2 : ((w.alloc (.cells #[.bool al, .bool no, .bool sf, vN, vE] 29)).alloc (.cells #[.int .u64 (I).a, .int .u64 (I).b, .int .u64 (I).c, .int .u64 (I).d] 35)).heap.size = w.heap.size + 1 + 1 := by simp
  have s3 : (((w.alloc (.cells #[.bool al, .bool no, .bool sf, vN, vE] 29)).alloc (.cells #[.int .u64 (I).a, .int .u64 (I).b, .int .u64 (I).c, .int .u64 (I).d] 35)).alloc (.cells #[.int .u64 (O).a, .int .u64 (O).b, .int .u64 (O).c, .int .u64 (O).d] 35)).heap.size = w.heap.size + 1 + 1 + 1 := by simp
  have hQ5 : Quad ((((w.alloc (.cells #[.bool al, .bool no, .bool sf, vN, vE] 29)).alloc (.cells #[.int .u64 (I).a, .int .u64 (I).b, .int .u64 (I).c, .int .u64 (I).d] 35)).alloc (.cells #[.int .u64 (O).a, .int .u64 (O).b, .int .u64 (O).c, .int .u64 (O).d] 35)).alloc (.cells #[.int .u64 0, .int .u64 0, .int .u64 0, .int .u64 0] 35)) (w.heap.size + 1) (I).a (I).b (I).c (I).d := by
    rw [← s1]; exact ((Quad.new (w.alloc (.cells #[.bool al, .bool no, .bool sf, vN, vE] 29)) (I).a (I).b (I).c (I).d).alloc _).alloc _
  have hQ6 : Quad ((((w.alloc (.cells #[.bool al, .bool no, .bool sf, vN, vE] 29)).alloc (.cells #[.int .u64 (I).a, .int .u64 (I).b, .int .u64 (I).c, .int .u64 (I).d] 35)).alloc (.cells #[.int .u64 (O).a, .int .u64 (O).b, .int .u64 (O).c, .int .u64 (O).d] 35)).alloc (.cells #[.int .u64 0, .int .u64 0, .int .u64 0, .int .u64 0] 35)) (w.heap.size + 1 + 1) (O).a (O).b (O).c (O).d := by
    rw [← s2]; exact (Quad.new ((w.alloc (.cells #[.bool al, .bool no, .bool sf, vN, vE] 29)).alloc (.cells #[.int .u64 (I).a, .int .u64 (I).b, .int .u64 (I).c, .int .u64 (I).d] 35)) (O).a (O).b (O).c (O).d).alloc _
  have hQ8 : Quad ((((w.alloc (.cells #[.bool al, .bool no, .bool sf, vN, vE] 29)).alloc (.cells #[.int .u64 (I).a, .int .u64 (I).b, .int .u64 (I).c, .int .u64 (I).d] 35)).alloc (.cells #[.int .u64 (O).a, .int .u64 (O).b, .int .u64 (O).c, .int .u64 (O).d] 35)).alloc (.cells #[.int .u64 0, .int .u64 0, .int .u64 0, .int .u64 0] 35)) (w.heap.size + 1 + 1 + 1) 0 0 0 0 := by
    rw [← s3]; exact Quad.new (((w.alloc (.cells #[.bool al, .bool no, .bool sf, vN, vE] 29)).alloc (.cells #[.int .u64 (I).a, .int .u64 (I).b, .int .u64 (I).c, .int .u64 (I).d] 35)).alloc (.cells #[.int .u64 (O).a, .int .u64 (O).b, .int .u64 (O).c, .int .u64 (O).d] 35)) 0 0 0 0
  clear s1 s2 s3
  have hl0 := hQ8.lt
  unfold combR
  obtain ⟨A, hA⟩ : ∃ S, allS cnt = S := ⟨_, rfl⟩
  obtain ⟨Y, hY⟩ : ∃ Y, (if al then A else S4.zero) = Y := ⟨_, rfl⟩
  obtain ⟨X, hX⟩ : ∃ X, Y.or I = X := ⟨_, rfl⟩
  obtain ⟨M, hM⟩ : ∃ M, X.sub O = M := ⟨_, rfl⟩
  obtain ⟨R, hR⟩ : ∃ R, (if no then A.sub M else M) = R := ⟨_, rfl⟩
  have HAC := Lib.hid (fun W => rallS_c cnt W (by omega) (by omega))
  rw [hA] at HAC
  rw [hA, hY, hX, hM, hR]
  have HUN : Hid (∀ W, Calls Try.prog 29 #[.agg #[.int .u64 (Y).a, .int .u64 (Y).b, .int .u64 (Y).c, .int .u64 (Y).d], .agg #[.int .u64 (I).a, .int .u64 (I).b, .int .u64 (I).c, .int .u64 (I).d]] W fun e w' => e = .returned (.agg #[.int .u64 (X).a, .int .u64 (X).b, .int .u64 (X).c, .int .u64 (X).d]) ∧ Below W.heap.size W w') := Lib.hid fun W => by
    rw [← hX]; exact runion_c Y.a Y.b Y.c Y.d I.a I.b I.c I.d W
  have HMN : Hid (∀ W, Calls Try.prog 53 #[.agg #[.int .u64 (X).a, .int .u64 (X).b, .int .u64 (X).c, .int .u64 (X).d], .agg #[.int .u64 (O).a, .int .u64 (O).b, .int .u64 (O).c, .int .u64 (O).d]] W fun e w' => e = .returned (.agg #[.int .u64 (M).a, .int .u64 (M).b, .int .u64 (M).c, .int .u64 (M).d]) ∧ Below W.heap.size W w') := Lib.hid fun W => by
    rw [← hM]; exact rminus_c X.a X.b X.c X.d O.a O.b O.c O.d W
  have HMR : Hid (no = true → ∀ W, Calls Try.prog 53 #[.agg #[.int .u64 (A).a, .int .u64 (A).b, .int .u64 (A).c, .int .u64 (A).d], .agg #[.int .u64 (M).a, .int .u64 (M).b, .int .u64 (M).c, .int .u64 (M).d]] W fun e w' => e = .returned (.agg #[.int .u64 (R).a, .int .u64 (R).b, .int .u64 (R).c, .int .u64 (R).d]) ∧ Below W.heap.size W w') := Lib.hid fun h W => by
    rw [← hR, if_pos h]; exact rminus_c A.a A.b A.c A.d M.a M.b M.c M.d W
  have HYA : Hid (al = true → A = Y) := Lib.hid fun h => by rw [← hY, h]; rfl
  have HYZ : Hid (al = false → S4.zero = Y) := Lib.hid fun h => by rw [← hY, h]; rfl
  have HRM : Hid (no = false → M = R) := Lib.hid fun h => by rw [← hR, h]; rfl
  clear hX hM hR hA hY
  obtain ⟨y0, y1, y2, y3, y4⟩ := hNS.five
  have HNS := Lib.hid hNS
  have HQ5 := Lib.hid hQ5
  have HQ6 := Lib.hid hQ6
  have HQ8 := Lib.hid hQ8
  have HW := Lib.hid hW
  have HL0 := Lib.hid hl0
  clear hNS hQ5 hQ6 hQ8 hW hl0
  go_enter Try.func41, Try.ntmps41
  go_wp2_with fail
  generalize ((((w.alloc (.cells #[.bool al, .bool no, .bool sf, vN, vE] 29)).alloc (.cells #[.int .u64 (I).a, .int .u64 (I).b, .int .u64 (I).c, .int .u64 (I).d] 35)).alloc (.cells #[.int .u64 (O).a, .int .u64 (O).b, .int .u64 (O).c, .int .u64 (O).d] 35)).alloc (.cells #[.int .u64 0, .int .u64 0, .int .u64 0, .int .u64 0] 35)) = W at *
  refine (HAC.out _).mono ?_
  rintro e w1 ⟨rfl, hb1⟩
  have hl9 := Nat.lt_of_lt_of_le HL0.out hb1.size
  have hW1 := HW.out.step hb1
  replace HNS := Lib.hid (HNS.out.keep hb1)
  replace HQ5 := Lib.hid (HQ5.out.keep hb1)
  replace HQ6 := Lib.hid (HQ6.out.keep hb1)
  replace HQ8 := Lib.hid (HQ8.out.keep hb1)
  have HW1 := Lib.hid hW1
  have HL9 := Lib.hid hl9
  clear hb1 y0 y1 y2 y3 y4 hl9 hW1 HL0
  have hNS := (HNS.out.alloc (.cells #[.int .u64 (A).a, .int .u64 (A).b, .int .u64 (A).c, .int .u64 (A).d] 35)).alloc (.cells #[.int .u64 0, .int .u64 0, .int .u64 0, .int .u64 0] 35)
  obtain ⟨y0, y1, y2, y3, y4⟩ := hNS.five
  go_upto_if 14 with (fail)
  go_cut [] (fun wx => CombS w1 A Y wx)
  case first =>
    have hz := Quad.new (w1.alloc (.cells #[.int .u64 (A).a, .int .u64 (A).b, .int .u64 (A).c, .int .u64 (A).d] 35)) 0 0 0 0
    have hz9 := (Quad.new w1 (A).a (A).b (A).c (A).d).alloc (.cells #[.int .u64 0, .int .u64 0, .int .u64 0, .int .u64 0] 35)
    rw [show (w1.alloc (.cells #[.int .u64 (A).a, .int .u64 (A).b, .int .u64 (A).c, .int .u64 (A).d] 35)).heap.size = w1.heap.size + 1 by simp] at hz
    have hk : Kp w1 ((w1.alloc (.cells #[.int .u64 (A).a, .int .u64 (A).b, .int .u64 (A).c, .int .u64 (A).d] 35)).alloc (.cells #[.int .u64 0, .int .u64 0, .int .u64 0, .int .u64 0] 35)) := (Kp.rfl'.alloc _).alloc _
    cases al
    · obtain rfl := HYZ.out rfl
      go_wp2_with fail
      go_meet
      exact ⟨hz9, hz, hk⟩
    · obtain rfl := HYA.out rfl
      clear hz hz9 hk
      go_wp2_with fail
      go_meet
      have hz := Quad.new (w1.alloc (.cells #[.int .u64 (A).a, .int .u64 (A).b, .int .u64 (A).c, .int .u64 (A).d] 35)) (A).a (A).b (A).c (A).d
      rw [show (w1.alloc (.cells #[.int .u64 (A).a, .int .u64 (A).b, .int .u64 (A).c, .int .u64 (A).d] 35)).heap.size = w1.heap.size + 1 by simp] at hz
      exact ⟨(Quad.new w1 (A).a (A).b (A).c (A).d).alloc _, hz, (Kp.rfl'.alloc _).alloc _⟩
  case rest =>
    obtain ⟨hq9, hq10, hkc⟩ := hcut
    clear hNS y0 y1 y2 y3 y4
    have HQ9 := Lib.hid hq9
    have HQ10 := Lib.hid hq10
    replace HNS := Lib.hid (hkc.blk HNS.out)
    replace HQ5 := Lib.hid (HQ5.out.keep hkc)
    replace HQ6 := Lib.hid (HQ6.out.keep hkc)
    replace HQ8 := Lib.hid (HQ8.out.keep hkc)
    have HWc := Lib.hid (Kp.step HW1.out hkc)
    clear hq9 hq10 hkc
    go_upto_region 5 with (fail)
    refine wp_region_kt 5 (by kernel_rfl) (by kernel_rfl) ?_
    simp only [List.take_succ_cons, List.take_zero, List.drop_succ_cons, List.drop_zero]
    repeat (first
      | go_big_quiet_skip
      | (go_big_quiet_want
         go_big_quiet_op
         first
           | go_big_quiet_on
           | (apply Exists.intro
              refine ⟨fun w1 hC => ?_, ?_⟩
              · first
                  | (go_at_call 29; with_reducible exact hC.call (HUN.out _))
                  | (go_at_call 53; with_reducible exact hC.call (HMN.out _))
                  | (obtain ⟨c0, c1, c2, c3⟩ := quad_box (HQ10.out.keep hC); obtain ⟨d0, d1, d2, d3⟩ := quad_box (HQ5.out.keep hC); obtain ⟨e0, e1, e2, e3⟩ := quad_box (HQ6.out.keep hC); go_simp; exact rfl)
                  | (go_simp; exact ⟨rfl, rfl⟩)
              go_big_quiet_on)))
    refine wpQuiet_nil ?_
    intro W' hC

    obtain ⟨c0, c1, c2, c3, c4, c5, c6, c7⟩ := (HQ10.out.keep hC).facts
    have hne : w.heap.size + 1 + 1 + 1 < w1.heap.size := HL9.out
    have HWm := Lib.hid (below_set4 (Kp.step HWc.out hC) (show w.heap.size ≤ w1.heap.size + 1 by omega) (.int .u64 M.a) (.int .u64 M.b) (.int .u64 M.c) (.int .u64 M.d))
    replace HNS := Lib.hid (((((HNS.out.keep hC).far (p := ⟨w1.heap.size + 1, 0, none⟩) (by simp only; omega) (.int .u64 M.a)).far (p := ⟨w1.heap.size + 1, 1, none⟩) (by simp only; omega) (.int .u64 M.b)).far (p := ⟨w1.heap.size + 1, 2, none⟩) (by simp only; omega) (.int .u64 M.c)).far (p := ⟨w1.heap.size + 1, 3, none⟩) (by simp only; omega) (.int .u64 M.d))
    replace HQ8 := Lib.hid ((HQ8.out.keep hC).far4 (g' := w1.heap.size + 1) (a' := M.a) (b' := M.b) (c' := M.c) (d' := M.d) (by omega))
    replace HQ9 := Lib.hid ((HQ9.out.keep hC).far4 (g' := w1.heap.size + 1) (a' := M.a) (b' := M.b) (c' := M.c) (d' := M.d) (by omega))
    have HQ10b := Lib.hid ((HQ10.out.keep hC).set4 M.a M.b M.c M.d)
    clear hne hC HQ5 HQ6 HAC HUN HMN HQ10
    go_upto_region 6 with (fail)
    clear c0 c1 c2 c3 c4 c5 c6 c7
    generalize (((W'.setCell ⟨w1.heap.size + 1, 0, none⟩ (.int .u64 M.a)).setCell ⟨w1.heap.size + 1, 1, none⟩ (.int .u64 M.b)).setCell ⟨w1.heap.size + 1, 2, none⟩ (.int .u64 M.c)).setCell ⟨w1.heap.size + 1, 3, none⟩ (.int .u64 M.d) = W2 at *
    obtain ⟨y0, y1, y2, y3, y4⟩ := HNS.out.five
    obtain ⟨c0, c1, c2, c3⟩ := quad_box HQ10b.out
    cases no
    · obtain rfl := HRM.out rfl
      obtain ⟨d0, d1, d2, d3, d4, d5, d6, d7⟩ := HQ8.out.facts
      go_wp2_with fail
      obtain ⟨r0, r1, r2, r3⟩ := quad_box (HQ8.out.set4 (M).a (M).b (M).c (M).d)
      exact bodyPost_ret (v := .agg #[.int .u64 (M).a, .int .u64 (M).b, .int .u64 (M).c, .int .u64 (M).d]) (by simp [results, Try.results41, go_sem, r0, r1, r2, r3]) rfl ⟨rfl, below_set4 HWm.out (by omega) _ _ _ _⟩
    · obtain ⟨d0, d1, d2, d3⟩ := quad_box HQ9.out
      go_wp2_with fail
      refine (HMR.out trivial _).mono ?_
      rintro e w6 ⟨rfl, hb6⟩
      clear c0 c1 c2 c3 d0 d1 d2 d3 y0 y1 y2 y3 y4
      have hne : w.heap.size + 1 + 1 + 1 < w1.heap.size := HL9.out
      have HW6 := Lib.hid (below_set4 (Kp.step HWm.out hb6) (show w.heap.size ≤ w1.heap.size + 1 by omega) (.int .u64 R.a) (.int .u64 R.b) (.int .u64 R.c) (.int .u64 R.d))
      have HQ8b := Lib.hid ((HQ8.out.keep hb6).far4 (g' := w1.heap.size + 1) (a' := R.a) (b' := R.b) (c' := R.c) (d' := R.d) (by omega))
      have HQ11 := Lib.hid ((HQ10b.out.keep hb6).set4 R.a R.b R.c R.d)
      clear hne
      obtain ⟨c0, c1, c2, c3, c4, c5, c6, c7⟩ := (HQ10b.out.keep hb6).facts
      go_upto_region 8 with (fail)
      clear c0 c1 c2 c3 c4 c5 c6 c7
      generalize (((w6.setCell ⟨w1.heap.size + 1, 0, none⟩ (.int .u64 R.a)).setCell ⟨w1.heap.size + 1, 1, none⟩ (.int .u64 R.b)).setCell ⟨w1.heap.size + 1, 2, none⟩ (.int .u64 R.c)).setCell ⟨w1.heap.size + 1, 3, none⟩ (.int .u64 R.d) = W3 at *
      obtain ⟨c0, c1, c2, c3⟩ := quad_box HQ11.out
      obtain ⟨d0, d1, d2, d3, d4, d5, d6, d7⟩ := HQ8b.out.facts
      go_wp2_with fail
      obtain ⟨r0, r1, r2, r3⟩ := quad_box (HQ8b.out.set4 (R).a (R).b (R).c (R).d)
      exact bodyPost_ret (v := .agg #[.int .u64 (R).a, .int .u64 (R).b, .int .u64 (R).c, .int .u64 (R).d]) (by simp [results, Try.results41, go_sem, r0, r1, r2, r3]) rfl ⟨rfl, below_set4 HW6.out (by omega) _ _ _ _⟩
end Go.Proofs.Ytbkejoheefnmiaa
