/- Judge and Audited, of the program and of the reference. -/
import Derived.Test.YtbcbhgclgakljaaMda
namespace Go.Proofs.Ytbcbhgclgakljaa
open Go.RowKit
section
variable (d : Dn) (p : BitVec 32) (e : Bool) (w : World)
set_option maxRecDepth 100000 in
set_option maxHeartbeats 8000000 in
theorem judge_c : Calls Try.prog 14 #[.agg #[.int .u32 (vI d.al), .int .u32 (vI d.aa), .int .u32 (vI d.ad), .bool d.pm, .int .i64 d.sq], .int .u32 (vI p), .bool e] w fun r w' => r = .returned (.agg #[.bool (jg d p e).g, .int .u32 (vI (jg d p e).dn), .int .u32 (vI (jg d p e).ag), .int .u32 (vI (jg d p e).ad), .bool (jg d p e).pm]) ∧ Below w.heap.size w w' := by
  have HB : Hid (Below w.heap.size w ((w.alloc (.cells #[.int .u32 (vI d.al), .int .u32 (vI d.aa), .int .u32 (vI d.ad), .bool d.pm, .int .i64 d.sq] 39)).alloc (.cells #[.bool false, .int .u32 0, .int .u32 0, .int .u32 0, .bool false] 41))) := Lib.hid (((Below.refl _ _).alloc (Nat.le_refl _) _).alloc (by simp) _)
  have HD : Hid (Blk ((w.alloc (.cells #[.int .u32 (vI d.al), .int .u32 (vI d.aa), .int .u32 (vI d.ad), .bool d.pm, .int .i64 d.sq] 39)).alloc (.cells #[.bool false, .int .u32 0, .int .u32 0, .int .u32 0, .bool false] 41)) w.heap.size 39 #[.int .u32 (vI d.al), .int .u32 (vI d.aa), .int .u32 (vI d.ad), .bool d.pm, .int .i64 d.sq]) := Lib.hid ((Blk.here rfl).alloc _)
  have HV : Hid (Blk ((w.alloc (.cells #[.int .u32 (vI d.al), .int .u32 (vI d.aa), .int .u32 (vI d.ad), .bool d.pm, .int .i64 d.sq] 39)).alloc (.cells #[.bool false, .int .u32 0, .int .u32 0, .int .u32 0, .bool false] 41)) (w.heap.size + 1) 41 #[.bool false, .int .u32 0, .int .u32 0, .int .u32 0, .bool false]) := Lib.hid (Blk.here (by simp))
  have HGY : Hid (w.heap.size ≤ w.heap.size + 1) := Lib.hid (by omega)
  go_enter Try.func14, Try.ntmps14
  go_upto_region 1 with fail
  generalize (w.alloc (.cells #[.int .u32 (vI d.al), .int .u32 (vI d.aa), .int .u32 (vI d.ad), .bool d.pm, .int .i64 d.sq] 39)).alloc (.cells #[.bool false, .int .u32 0, .int .u32 0, .int .u32 0, .bool false] 41) = W at *
  generalize w.heap.size + 1 = gy at *
  generalize hgx : w.heap.size = gx at *
  refine wp_region_kp (by kernel_rfl) (by kernel_rfl) ?_
  repeat (first
    | go_big_quiet_skip
    | (go_big_quiet_want
       first
         | (go_big_quiet_op
            first
              | go_big_quiet_on
              | (apply Exists.intro
                 refine ⟨fun w1 hC => ?_, ?_⟩
                 · first
                     | (obtain ⟨c0, c1, c2, c3, c4⟩ := (HD.out.keep hC).c5; go_simp; exact ⟨rfl, rfl⟩)
                     | (obtain ⟨c0, c1, c2, c3, c4⟩ := (HD.out.keep hC).c5; go_simp; exact rfl)
                     | exact rfl
                     | (go_simp; exact ⟨rfl, rfl⟩)
                 go_big_quiet_on))))
  refine wpQuiet_nil ?_
  intro W1 hC1
  have HB1 : Hid (Below gx w W1) := Lib.hid (HB.out.trans (Below.mono hC1 (by have := HB.out.size; omega)))
  have HD1 := Lib.hid (HD.out.keep hC1)
  have HV1 := Lib.hid (HV.out.keep hC1)
  clear hC1
  obtain ⟨c0, c1, c2, c3, c4⟩ := HD1.out.c5
  generalize hx : p &&& ~~~ d.al = x at *
  go_upto_region 3 with fail
  clear c0 c1 c2 c3 c4
  have hba : Below W1.heap.size W1 (W1.alloc (.cells #[.bool false, .int .u32 (vI x), .int .u32 (vI (p &&& d.al &&& d.aa)), .int .u32 (vI (x &&& d.ad)), .bool false] 41)) := (Below.refl _ _).alloc (Nat.le_refl _) _
  have H9 := Lib.hid (Blk.new W1 41 #[.bool false, .int .u32 (vI x), .int .u32 (vI (p &&& d.al &&& d.aa)), .int .u32 (vI (x &&& d.ad)), .bool false])
  have HD2 := Lib.hid (HD1.out.keep hba)
  have HV2 := Lib.hid (HV1.out.keep hba)
  have HB2 : Hid (Below gx w (W1.alloc (.cells #[.bool false, .int .u32 (vI x), .int .u32 (vI (p &&& d.al &&& d.aa)), .int .u32 (vI (x &&& d.ad)), .bool false] 41))) := Lib.hid (HB1.out.trans (hba.mono (by have := HB1.out.size; have := HB.out.size; omega)))
  have hg9 : gy < W1.heap.size ∧ gx ≤ W1.heap.size := ⟨HV1.out.lt, by have := HD1.out.lt; omega⟩
  clear hba
  generalize W1.alloc (.cells #[.bool false, .int .u32 (vI x), .int .u32 (vI (p &&& d.al &&& d.aa)), .int .u32 (vI (x &&& d.ad)), .bool false] 41) = W2 at *
  generalize W1.heap.size = g9 at *
  have HG := Lib.hid hg9
  clear hg9
  obtain ⟨c0, c1, c2, c3, c4⟩ := HD2.out.c5
  have hne : g9 ≠ gy := by have := HG.out; omega
  have HX := Lib.hid hx
  have HXZ := Lib.hid (show x = 0#32 ∨ x ≠ 0#32 from Classical.em _)
  clear hx
  cases hpm : d.pm
  · skip
    rw [hpm] at c3
    have HPM := Lib.hid hpm
    clear hpm
    cases e
    · rcases HXZ.out with hx0 | hx0
      · have H9z : Hid (Blk W2 g9 41 #[.bool false, .int .u32 0, .int .u32 (vI (p &&& d.al &&& d.aa)), .int .u32 0, .bool false]) := Lib.hid (by have := H9.out; rw [hx0] at this; simpa [vI_zero] using this)
        clear HXZ H9
        have H9 := H9z
        clear H9z
        subst hx0
        obtain ⟨f0, f1, f2, f3, f4⟩ := H9.out.f5
        obtain ⟨x0, x1, x2, x3, x4⟩ := H9.out.c5
        go_upto_region 8 with fail
        have H93 : Hid (Blk (W2.setCell ⟨g9, 0, none⟩ (.bool true)) g9 41 #[.bool true, .int .u32 0, .int .u32 (vI (p &&& d.al &&& d.aa)), .int .u32 0, .bool false]) := Lib.hid (by simpa using (H9.out.set 0 (.bool true)))
        have HV3 := Lib.hid (HV2.out.far (p := ⟨g9, 0, none⟩) (fun e => hne e.symm) (.bool true))
        have HB3 : Hid (Below gx w (W2.setCell ⟨g9, 0, none⟩ (.bool true))) := Lib.hid (HB2.out.setCell (p := ⟨g9, 0, none⟩) HG.out.2 (.bool true))
        generalize (W2.setCell ⟨g9, 0, none⟩ (.bool true)) = W3 at *
        clear f0 f1 f2 f3 f4 x0 x1 x2 x3 x4 c0 c1 c2 c3 c4
        obtain ⟨x0, x1, x2, x3, x4⟩ := H93.out.c5
        obtain ⟨y0, y1, y2, y3, y4⟩ := HV3.out.c5
        obtain ⟨f0, f1, f2, f3, f4⟩ := HV3.out.f5
        go_wp2_with fail
        have HR : Hid (Blk (((((W3.setCell ⟨gy, 0, none⟩ (.bool true)).setCell ⟨gy, 1, none⟩ (.int .u32 0)).setCell ⟨gy, 2, none⟩ (.int .u32 (vI (p &&& d.al &&& d.aa)))).setCell ⟨gy, 3, none⟩ (.int .u32 0)).setCell ⟨gy, 4, none⟩ (.bool false)) gy 41 #[.bool true, .int .u32 0, .int .u32 (vI (p &&& d.al &&& d.aa)), .int .u32 0, .bool false]) := Lib.hid (by simpa using ((((HV3.out.set 0 (.bool true)).set 1 (.int .u32 0)).set 2 (.int .u32 (vI (p &&& d.al &&& d.aa)))).set 3 (.int .u32 0)).set 4 (.bool false))
        have HB4 : Hid (Below gx w (((((W3.setCell ⟨gy, 0, none⟩ (.bool true)).setCell ⟨gy, 1, none⟩ (.int .u32 0)).setCell ⟨gy, 2, none⟩ (.int .u32 (vI (p &&& d.al &&& d.aa)))).setCell ⟨gy, 3, none⟩ (.int .u32 0)).setCell ⟨gy, 4, none⟩ (.bool false))) := Lib.hid (((((HB3.out.setCell (p := ⟨gy, 0, none⟩) HGY.out _).setCell (p := ⟨gy, 1, none⟩) HGY.out _).setCell (p := ⟨gy, 2, none⟩) HGY.out _).setCell (p := ⟨gy, 3, none⟩) HGY.out _).setCell (p := ⟨gy, 4, none⟩) HGY.out _)
        clear f0 f1 f2 f3 f4 x0 x1 x2 x3 x4 y0 y1 y2 y3 y4
        generalize ((((W3.setCell ⟨gy, 0, none⟩ (.bool true)).setCell ⟨gy, 1, none⟩ (.int .u32 0)).setCell ⟨gy, 2, none⟩ (.int .u32 (vI (p &&& d.al &&& d.aa)))).setCell ⟨gy, 3, none⟩ (.int .u32 0)).setCell ⟨gy, 4, none⟩ (.bool false) = W4 at *
        obtain ⟨y0, y1, y2, y3, y4⟩ := HR.out.c5
        refine bodyPost_ret (v := .agg #[.bool true, .int .u32 0, .int .u32 (vI (p &&& d.al &&& d.aa)), .int .u32 0, .bool false]) (by simp [results, Try.results14, go_sem, y0, y1, y2, y3, y4]) rfl ⟨?_, by first | exact HB4.out | (rw [hgx]; exact HB4.out)⟩
        simp [jg, HX.out, HPM.out, vI_zero]
      · have hz1 : (vI x == 0) = false := by simpa using vI_eq0 hx0
        have hz2 : (vI x != 0) = true := by simpa using vI_eq0 hx0
        have hz3 : (vI x = 0) = False := by simpa using vI_eq0 hx0
        obtain ⟨f0, f1, f2, f3, f4⟩ := H9.out.f5
        obtain ⟨x0, x1, x2, x3, x4⟩ := H9.out.c5
        go_upto_region 8 with fail
        have H93 : Hid (Blk ((W2.setCell ⟨g9, 4, none⟩ (.bool true)).setCell ⟨g9, 0, none⟩ (.bool true)) g9 41 #[.bool true, .int .u32 (vI x), .int .u32 (vI (p &&& d.al &&& d.aa)), .int .u32 (vI (x &&& d.ad)), .bool true]) := Lib.hid (by simpa using ((H9.out.set 4 (.bool true)).set 0 (.bool true)))
        have HV3 := Lib.hid ((HV2.out.far (p := ⟨g9, 4, none⟩) (fun e => hne e.symm) (.bool true)).far (p := ⟨g9, 0, none⟩) (fun e => hne e.symm) (.bool true))
        have HB3 : Hid (Below gx w ((W2.setCell ⟨g9, 4, none⟩ (.bool true)).setCell ⟨g9, 0, none⟩ (.bool true))) := Lib.hid ((HB2.out.setCell (p := ⟨g9, 4, none⟩) HG.out.2 (.bool true)).setCell (p := ⟨g9, 0, none⟩) HG.out.2 (.bool true))
        generalize ((W2.setCell ⟨g9, 4, none⟩ (.bool true)).setCell ⟨g9, 0, none⟩ (.bool true)) = W3 at *
        clear f0 f1 f2 f3 f4 x0 x1 x2 x3 x4 c0 c1 c2 c3 c4
        obtain ⟨x0, x1, x2, x3, x4⟩ := H93.out.c5
        obtain ⟨y0, y1, y2, y3, y4⟩ := HV3.out.c5
        obtain ⟨f0, f1, f2, f3, f4⟩ := HV3.out.f5
        go_wp2_with fail
        have HR : Hid (Blk (((((W3.setCell ⟨gy, 0, none⟩ (.bool true)).setCell ⟨gy, 1, none⟩ (.int .u32 (vI x))).setCell ⟨gy, 2, none⟩ (.int .u32 (vI (p &&& d.al &&& d.aa)))).setCell ⟨gy, 3, none⟩ (.int .u32 (vI (x &&& d.ad)))).setCell ⟨gy, 4, none⟩ (.bool true)) gy 41 #[.bool true, .int .u32 (vI x), .int .u32 (vI (p &&& d.al &&& d.aa)), .int .u32 (vI (x &&& d.ad)), .bool true]) := Lib.hid (by simpa using ((((HV3.out.set 0 (.bool true)).set 1 (.int .u32 (vI x))).set 2 (.int .u32 (vI (p &&& d.al &&& d.aa)))).set 3 (.int .u32 (vI (x &&& d.ad)))).set 4 (.bool true))
        have HB4 : Hid (Below gx w (((((W3.setCell ⟨gy, 0, none⟩ (.bool true)).setCell ⟨gy, 1, none⟩ (.int .u32 (vI x))).setCell ⟨gy, 2, none⟩ (.int .u32 (vI (p &&& d.al &&& d.aa)))).setCell ⟨gy, 3, none⟩ (.int .u32 (vI (x &&& d.ad)))).setCell ⟨gy, 4, none⟩ (.bool true))) := Lib.hid (((((HB3.out.setCell (p := ⟨gy, 0, none⟩) HGY.out _).setCell (p := ⟨gy, 1, none⟩) HGY.out _).setCell (p := ⟨gy, 2, none⟩) HGY.out _).setCell (p := ⟨gy, 3, none⟩) HGY.out _).setCell (p := ⟨gy, 4, none⟩) HGY.out _)
        clear f0 f1 f2 f3 f4 x0 x1 x2 x3 x4 y0 y1 y2 y3 y4
        generalize ((((W3.setCell ⟨gy, 0, none⟩ (.bool true)).setCell ⟨gy, 1, none⟩ (.int .u32 (vI x))).setCell ⟨gy, 2, none⟩ (.int .u32 (vI (p &&& d.al &&& d.aa)))).setCell ⟨gy, 3, none⟩ (.int .u32 (vI (x &&& d.ad)))).setCell ⟨gy, 4, none⟩ (.bool true) = W4 at *
        obtain ⟨y0, y1, y2, y3, y4⟩ := HR.out.c5
        refine bodyPost_ret (v := .agg #[.bool true, .int .u32 (vI x), .int .u32 (vI (p &&& d.al &&& d.aa)), .int .u32 (vI (x &&& d.ad)), .bool true]) (by simp [results, Try.results14, go_sem, y0, y1, y2, y3, y4]) rfl ⟨?_, by first | exact HB4.out | (rw [hgx]; exact HB4.out)⟩
        simp [jg, HX.out, HPM.out, hx0]
    · rcases HXZ.out with hx0 | hx0
      · have H9z : Hid (Blk W2 g9 41 #[.bool false, .int .u32 0, .int .u32 (vI (p &&& d.al &&& d.aa)), .int .u32 0, .bool false]) := Lib.hid (by have := H9.out; rw [hx0] at this; simpa [vI_zero] using this)
        clear HXZ H9
        have H9 := H9z
        clear H9z
        subst hx0
        obtain ⟨f0, f1, f2, f3, f4⟩ := H9.out.f5
        obtain ⟨x0, x1, x2, x3, x4⟩ := H9.out.c5
        go_upto_region 8 with fail
        have H93 : Hid (Blk (W2.setCell ⟨g9, 0, none⟩ (.bool true)) g9 41 #[.bool true, .int .u32 0, .int .u32 (vI (p &&& d.al &&& d.aa)), .int .u32 0, .bool false]) := Lib.hid (by simpa using (H9.out.set 0 (.bool true)))
        have HV3 := Lib.hid (HV2.out.far (p := ⟨g9, 0, none⟩) (fun e => hne e.symm) (.bool true))
        have HB3 : Hid (Below gx w (W2.setCell ⟨g9, 0, none⟩ (.bool true))) := Lib.hid (HB2.out.setCell (p := ⟨g9, 0, none⟩) HG.out.2 (.bool true))
        generalize (W2.setCell ⟨g9, 0, none⟩ (.bool true)) = W3 at *
        clear f0 f1 f2 f3 f4 x0 x1 x2 x3 x4 c0 c1 c2 c3 c4
        obtain ⟨x0, x1, x2, x3, x4⟩ := H93.out.c5
        obtain ⟨y0, y1, y2, y3, y4⟩ := HV3.out.c5
        obtain ⟨f0, f1, f2, f3, f4⟩ := HV3.out.f5
        go_wp2_with fail
        have HR : Hid (Blk (((((W3.setCell ⟨gy, 0, none⟩ (.bool true)).setCell ⟨gy, 1, none⟩ (.int .u32 0)).setCell ⟨gy, 2, none⟩ (.int .u32 (vI (p &&& d.al &&& d.aa)))).setCell ⟨gy, 3, none⟩ (.int .u32 0)).setCell ⟨gy, 4, none⟩ (.bool false)) gy 41 #[.bool true, .int .u32 0, .int .u32 (vI (p &&& d.al &&& d.aa)), .int .u32 0, .bool false]) := Lib.hid (by simpa using ((((HV3.out.set 0 (.bool true)).set 1 (.int .u32 0)).set 2 (.int .u32 (vI (p &&& d.al &&& d.aa)))).set 3 (.int .u32 0)).set 4 (.bool false))
        have HB4 : Hid (Below gx w (((((W3.setCell ⟨gy, 0, none⟩ (.bool true)).setCell ⟨gy, 1, none⟩ (.int .u32 0)).setCell ⟨gy, 2, none⟩ (.int .u32 (vI (p &&& d.al &&& d.aa)))).setCell ⟨gy, 3, none⟩ (.int .u32 0)).setCell ⟨gy, 4, none⟩ (.bool false))) := Lib.hid (((((HB3.out.setCell (p := ⟨gy, 0, none⟩) HGY.out _).setCell (p := ⟨gy, 1, none⟩) HGY.out _).setCell (p := ⟨gy, 2, none⟩) HGY.out _).setCell (p := ⟨gy, 3, none⟩) HGY.out _).setCell (p := ⟨gy, 4, none⟩) HGY.out _)
        clear f0 f1 f2 f3 f4 x0 x1 x2 x3 x4 y0 y1 y2 y3 y4
        generalize ((((W3.setCell ⟨gy, 0, none⟩ (.bool true)).setCell ⟨gy, 1, none⟩ (.int .u32 0)).setCell ⟨gy, 2, none⟩ (.int .u32 (vI (p &&& d.al &&& d.aa)))).setCell ⟨gy, 3, none⟩ (.int .u32 0)).setCell ⟨gy, 4, none⟩ (.bool false) = W4 at *
        obtain ⟨y0, y1, y2, y3, y4⟩ := HR.out.c5
        refine bodyPost_ret (v := .agg #[.bool true, .int .u32 0, .int .u32 (vI (p &&& d.al &&& d.aa)), .int .u32 0, .bool false]) (by simp [results, Try.results14, go_sem, y0, y1, y2, y3, y4]) rfl ⟨?_, by first | exact HB4.out | (rw [hgx]; exact HB4.out)⟩
        simp [jg, HX.out, HPM.out, vI_zero]
      · have hz1 : (vI x == 0) = false := by simpa using vI_eq0 hx0
        have hz2 : (vI x != 0) = true := by simpa using vI_eq0 hx0
        have hz3 : (vI x = 0) = False := by simpa using vI_eq0 hx0
        obtain ⟨f0, f1, f2, f3, f4⟩ := H9.out.f5
        obtain ⟨x0, x1, x2, x3, x4⟩ := H9.out.c5
        go_upto_region 8 with fail
        have H93 := H9
        have HV3 := HV2
        have HB3 := HB2
        generalize W2 = W3 at *
        clear f0 f1 f2 f3 f4 x0 x1 x2 x3 x4 c0 c1 c2 c3 c4
        obtain ⟨x0, x1, x2, x3, x4⟩ := H93.out.c5
        obtain ⟨y0, y1, y2, y3, y4⟩ := HV3.out.c5
        obtain ⟨f0, f1, f2, f3, f4⟩ := HV3.out.f5
        go_wp2_with fail
        have HR : Hid (Blk (((((W3.setCell ⟨gy, 0, none⟩ (.bool false)).setCell ⟨gy, 1, none⟩ (.int .u32 (vI x))).setCell ⟨gy, 2, none⟩ (.int .u32 (vI (p &&& d.al &&& d.aa)))).setCell ⟨gy, 3, none⟩ (.int .u32 (vI (x &&& d.ad)))).setCell ⟨gy, 4, none⟩ (.bool false)) gy 41 #[.bool false, .int .u32 (vI x), .int .u32 (vI (p &&& d.al &&& d.aa)), .int .u32 (vI (x &&& d.ad)), .bool false]) := Lib.hid (by simpa using ((((HV3.out.set 0 (.bool false)).set 1 (.int .u32 (vI x))).set 2 (.int .u32 (vI (p &&& d.al &&& d.aa)))).set 3 (.int .u32 (vI (x &&& d.ad)))).set 4 (.bool false))
        have HB4 : Hid (Below gx w (((((W3.setCell ⟨gy, 0, none⟩ (.bool false)).setCell ⟨gy, 1, none⟩ (.int .u32 (vI x))).setCell ⟨gy, 2, none⟩ (.int .u32 (vI (p &&& d.al &&& d.aa)))).setCell ⟨gy, 3, none⟩ (.int .u32 (vI (x &&& d.ad)))).setCell ⟨gy, 4, none⟩ (.bool false))) := Lib.hid (((((HB3.out.setCell (p := ⟨gy, 0, none⟩) HGY.out _).setCell (p := ⟨gy, 1, none⟩) HGY.out _).setCell (p := ⟨gy, 2, none⟩) HGY.out _).setCell (p := ⟨gy, 3, none⟩) HGY.out _).setCell (p := ⟨gy, 4, none⟩) HGY.out _)
        clear f0 f1 f2 f3 f4 x0 x1 x2 x3 x4 y0 y1 y2 y3 y4
        generalize ((((W3.setCell ⟨gy, 0, none⟩ (.bool false)).setCell ⟨gy, 1, none⟩ (.int .u32 (vI x))).setCell ⟨gy, 2, none⟩ (.int .u32 (vI (p &&& d.al &&& d.aa)))).setCell ⟨gy, 3, none⟩ (.int .u32 (vI (x &&& d.ad)))).setCell ⟨gy, 4, none⟩ (.bool false) = W4 at *
        obtain ⟨y0, y1, y2, y3, y4⟩ := HR.out.c5
        refine bodyPost_ret (v := .agg #[.bool false, .int .u32 (vI x), .int .u32 (vI (p &&& d.al &&& d.aa)), .int .u32 (vI (x &&& d.ad)), .bool false]) (by simp [results, Try.results14, go_sem, y0, y1, y2, y3, y4]) rfl ⟨?_, by first | exact HB4.out | (rw [hgx]; exact HB4.out)⟩
        simp [jg, HX.out, HPM.out, hx0]
  · skip
    rw [hpm] at c3
    have HPM := Lib.hid hpm
    clear hpm
    cases e
    · rcases HXZ.out with hx0 | hx0
      · have H9z : Hid (Blk W2 g9 41 #[.bool false, .int .u32 0, .int .u32 (vI (p &&& d.al &&& d.aa)), .int .u32 0, .bool false]) := Lib.hid (by have := H9.out; rw [hx0] at this; simpa [vI_zero] using this)
        clear HXZ H9
        have H9 := H9z
        clear H9z
        subst hx0
        obtain ⟨f0, f1, f2, f3, f4⟩ := H9.out.f5
        obtain ⟨x0, x1, x2, x3, x4⟩ := H9.out.c5
        go_upto_region 8 with fail
        have H93 : Hid (Blk (W2.setCell ⟨g9, 0, none⟩ (.bool true)) g9 41 #[.bool true, .int .u32 0, .int .u32 (vI (p &&& d.al &&& d.aa)), .int .u32 0, .bool false]) := Lib.hid (by simpa using (H9.out.set 0 (.bool true)))
        have HV3 := Lib.hid (HV2.out.far (p := ⟨g9, 0, none⟩) (fun e => hne e.symm) (.bool true))
        have HB3 : Hid (Below gx w (W2.setCell ⟨g9, 0, none⟩ (.bool true))) := Lib.hid (HB2.out.setCell (p := ⟨g9, 0, none⟩) HG.out.2 (.bool true))
        generalize (W2.setCell ⟨g9, 0, none⟩ (.bool true)) = W3 at *
        clear f0 f1 f2 f3 f4 x0 x1 x2 x3 x4 c0 c1 c2 c3 c4
        obtain ⟨x0, x1, x2, x3, x4⟩ := H93.out.c5
        obtain ⟨y0, y1, y2, y3, y4⟩ := HV3.out.c5
        obtain ⟨f0, f1, f2, f3, f4⟩ := HV3.out.f5
        go_wp2_with fail
        have HR : Hid (Blk (((((W3.setCell ⟨gy, 0, none⟩ (.bool true)).setCell ⟨gy, 1, none⟩ (.int .u32 0)).setCell ⟨gy, 2, none⟩ (.int .u32 (vI (p &&& d.al &&& d.aa)))).setCell ⟨gy, 3, none⟩ (.int .u32 0)).setCell ⟨gy, 4, none⟩ (.bool false)) gy 41 #[.bool true, .int .u32 0, .int .u32 (vI (p &&& d.al &&& d.aa)), .int .u32 0, .bool false]) := Lib.hid (by simpa using ((((HV3.out.set 0 (.bool true)).set 1 (.int .u32 0)).set 2 (.int .u32 (vI (p &&& d.al &&& d.aa)))).set 3 (.int .u32 0)).set 4 (.bool false))
        have HB4 : Hid (Below gx w (((((W3.setCell ⟨gy, 0, none⟩ (.bool true)).setCell ⟨gy, 1, none⟩ (.int .u32 0)).setCell ⟨gy, 2, none⟩ (.int .u32 (vI (p &&& d.al &&& d.aa)))).setCell ⟨gy, 3, none⟩ (.int .u32 0)).setCell ⟨gy, 4, none⟩ (.bool false))) := Lib.hid (((((HB3.out.setCell (p := ⟨gy, 0, none⟩) HGY.out _).setCell (p := ⟨gy, 1, none⟩) HGY.out _).setCell (p := ⟨gy, 2, none⟩) HGY.out _).setCell (p := ⟨gy, 3, none⟩) HGY.out _).setCell (p := ⟨gy, 4, none⟩) HGY.out _)
        clear f0 f1 f2 f3 f4 x0 x1 x2 x3 x4 y0 y1 y2 y3 y4
        generalize ((((W3.setCell ⟨gy, 0, none⟩ (.bool true)).setCell ⟨gy, 1, none⟩ (.int .u32 0)).setCell ⟨gy, 2, none⟩ (.int .u32 (vI (p &&& d.al &&& d.aa)))).setCell ⟨gy, 3, none⟩ (.int .u32 0)).setCell ⟨gy, 4, none⟩ (.bool false) = W4 at *
        obtain ⟨y0, y1, y2, y3, y4⟩ := HR.out.c5
        refine bodyPost_ret (v := .agg #[.bool true, .int .u32 0, .int .u32 (vI (p &&& d.al &&& d.aa)), .int .u32 0, .bool false]) (by simp [results, Try.results14, go_sem, y0, y1, y2, y3, y4]) rfl ⟨?_, by first | exact HB4.out | (rw [hgx]; exact HB4.out)⟩
        simp [jg, HX.out, HPM.out, vI_zero]
      · have hz1 : (vI x == 0) = false := by simpa using vI_eq0 hx0
        have hz2 : (vI x != 0) = true := by simpa using vI_eq0 hx0
        have hz3 : (vI x = 0) = False := by simpa using vI_eq0 hx0
        obtain ⟨f0, f1, f2, f3, f4⟩ := H9.out.f5
        obtain ⟨x0, x1, x2, x3, x4⟩ := H9.out.c5
        go_upto_region 8 with fail
        have H93 : Hid (Blk ((W2.setCell ⟨g9, 4, none⟩ (.bool true)).setCell ⟨g9, 0, none⟩ (.bool true)) g9 41 #[.bool true, .int .u32 (vI x), .int .u32 (vI (p &&& d.al &&& d.aa)), .int .u32 (vI (x &&& d.ad)), .bool true]) := Lib.hid (by simpa using ((H9.out.set 4 (.bool true)).set 0 (.bool true)))
        have HV3 := Lib.hid ((HV2.out.far (p := ⟨g9, 4, none⟩) (fun e => hne e.symm) (.bool true)).far (p := ⟨g9, 0, none⟩) (fun e => hne e.symm) (.bool true))
        have HB3 : Hid (Below gx w ((W2.setCell ⟨g9, 4, none⟩ (.bool true)).setCell ⟨g9, 0, none⟩ (.bool true))) := Lib.hid ((HB2.out.setCell (p := ⟨g9, 4, none⟩) HG.out.2 (.bool true)).setCell (p := ⟨g9, 0, none⟩) HG.out.2 (.bool true))
        generalize ((W2.setCell ⟨g9, 4, none⟩ (.bool true)).setCell ⟨g9, 0, none⟩ (.bool true)) = W3 at *
        clear f0 f1 f2 f3 f4 x0 x1 x2 x3 x4 c0 c1 c2 c3 c4
        obtain ⟨x0, x1, x2, x3, x4⟩ := H93.out.c5
        obtain ⟨y0, y1, y2, y3, y4⟩ := HV3.out.c5
        obtain ⟨f0, f1, f2, f3, f4⟩ := HV3.out.f5
        go_wp2_with fail
        have HR : Hid (Blk (((((W3.setCell ⟨gy, 0, none⟩ (.bool true)).setCell ⟨gy, 1, none⟩ (.int .u32 (vI x))).setCell ⟨gy, 2, none⟩ (.int .u32 (vI (p &&& d.al &&& d.aa)))).setCell ⟨gy, 3, none⟩ (.int .u32 (vI (x &&& d.ad)))).setCell ⟨gy, 4, none⟩ (.bool true)) gy 41 #[.bool true, .int .u32 (vI x), .int .u32 (vI (p &&& d.al &&& d.aa)), .int .u32 (vI (x &&& d.ad)), .bool true]) := Lib.hid (by simpa using ((((HV3.out.set 0 (.bool true)).set 1 (.int .u32 (vI x))).set 2 (.int .u32 (vI (p &&& d.al &&& d.aa)))).set 3 (.int .u32 (vI (x &&& d.ad)))).set 4 (.bool true))
        have HB4 : Hid (Below gx w (((((W3.setCell ⟨gy, 0, none⟩ (.bool true)).setCell ⟨gy, 1, none⟩ (.int .u32 (vI x))).setCell ⟨gy, 2, none⟩ (.int .u32 (vI (p &&& d.al &&& d.aa)))).setCell ⟨gy, 3, none⟩ (.int .u32 (vI (x &&& d.ad)))).setCell ⟨gy, 4, none⟩ (.bool true))) := Lib.hid (((((HB3.out.setCell (p := ⟨gy, 0, none⟩) HGY.out _).setCell (p := ⟨gy, 1, none⟩) HGY.out _).setCell (p := ⟨gy, 2, none⟩) HGY.out _).setCell (p := ⟨gy, 3, none⟩) HGY.out _).setCell (p := ⟨gy, 4, none⟩) HGY.out _)
        clear f0 f1 f2 f3 f4 x0 x1 x2 x3 x4 y0 y1 y2 y3 y4
        generalize ((((W3.setCell ⟨gy, 0, none⟩ (.bool true)).setCell ⟨gy, 1, none⟩ (.int .u32 (vI x))).setCell ⟨gy, 2, none⟩ (.int .u32 (vI (p &&& d.al &&& d.aa)))).setCell ⟨gy, 3, none⟩ (.int .u32 (vI (x &&& d.ad)))).setCell ⟨gy, 4, none⟩ (.bool true) = W4 at *
        obtain ⟨y0, y1, y2, y3, y4⟩ := HR.out.c5
        refine bodyPost_ret (v := .agg #[.bool true, .int .u32 (vI x), .int .u32 (vI (p &&& d.al &&& d.aa)), .int .u32 (vI (x &&& d.ad)), .bool true]) (by simp [results, Try.results14, go_sem, y0, y1, y2, y3, y4]) rfl ⟨?_, by first | exact HB4.out | (rw [hgx]; exact HB4.out)⟩
        simp [jg, HX.out, HPM.out, hx0]
    · rcases HXZ.out with hx0 | hx0
      · have H9z : Hid (Blk W2 g9 41 #[.bool false, .int .u32 0, .int .u32 (vI (p &&& d.al &&& d.aa)), .int .u32 0, .bool false]) := Lib.hid (by have := H9.out; rw [hx0] at this; simpa [vI_zero] using this)
        clear HXZ H9
        have H9 := H9z
        clear H9z
        subst hx0
        obtain ⟨f0, f1, f2, f3, f4⟩ := H9.out.f5
        obtain ⟨x0, x1, x2, x3, x4⟩ := H9.out.c5
        go_upto_region 8 with fail
        have H93 : Hid (Blk (W2.setCell ⟨g9, 0, none⟩ (.bool true)) g9 41 #[.bool true, .int .u32 0, .int .u32 (vI (p &&& d.al &&& d.aa)), .int .u32 0, .bool false]) := Lib.hid (by simpa using (H9.out.set 0 (.bool true)))
        have HV3 := Lib.hid (HV2.out.far (p := ⟨g9, 0, none⟩) (fun e => hne e.symm) (.bool true))
        have HB3 : Hid (Below gx w (W2.setCell ⟨g9, 0, none⟩ (.bool true))) := Lib.hid (HB2.out.setCell (p := ⟨g9, 0, none⟩) HG.out.2 (.bool true))
        generalize (W2.setCell ⟨g9, 0, none⟩ (.bool true)) = W3 at *
        clear f0 f1 f2 f3 f4 x0 x1 x2 x3 x4 c0 c1 c2 c3 c4
        obtain ⟨x0, x1, x2, x3, x4⟩ := H93.out.c5
        obtain ⟨y0, y1, y2, y3, y4⟩ := HV3.out.c5
        obtain ⟨f0, f1, f2, f3, f4⟩ := HV3.out.f5
        go_wp2_with fail
        have HR : Hid (Blk (((((W3.setCell ⟨gy, 0, none⟩ (.bool true)).setCell ⟨gy, 1, none⟩ (.int .u32 0)).setCell ⟨gy, 2, none⟩ (.int .u32 (vI (p &&& d.al &&& d.aa)))).setCell ⟨gy, 3, none⟩ (.int .u32 0)).setCell ⟨gy, 4, none⟩ (.bool false)) gy 41 #[.bool true, .int .u32 0, .int .u32 (vI (p &&& d.al &&& d.aa)), .int .u32 0, .bool false]) := Lib.hid (by simpa using ((((HV3.out.set 0 (.bool true)).set 1 (.int .u32 0)).set 2 (.int .u32 (vI (p &&& d.al &&& d.aa)))).set 3 (.int .u32 0)).set 4 (.bool false))
        have HB4 : Hid (Below gx w (((((W3.setCell ⟨gy, 0, none⟩ (.bool true)).setCell ⟨gy, 1, none⟩ (.int .u32 0)).setCell ⟨gy, 2, none⟩ (.int .u32 (vI (p &&& d.al &&& d.aa)))).setCell ⟨gy, 3, none⟩ (.int .u32 0)).setCell ⟨gy, 4, none⟩ (.bool false))) := Lib.hid (((((HB3.out.setCell (p := ⟨gy, 0, none⟩) HGY.out _).setCell (p := ⟨gy, 1, none⟩) HGY.out _).setCell (p := ⟨gy, 2, none⟩) HGY.out _).setCell (p := ⟨gy, 3, none⟩) HGY.out _).setCell (p := ⟨gy, 4, none⟩) HGY.out _)
        clear f0 f1 f2 f3 f4 x0 x1 x2 x3 x4 y0 y1 y2 y3 y4
        generalize ((((W3.setCell ⟨gy, 0, none⟩ (.bool true)).setCell ⟨gy, 1, none⟩ (.int .u32 0)).setCell ⟨gy, 2, none⟩ (.int .u32 (vI (p &&& d.al &&& d.aa)))).setCell ⟨gy, 3, none⟩ (.int .u32 0)).setCell ⟨gy, 4, none⟩ (.bool false) = W4 at *
        obtain ⟨y0, y1, y2, y3, y4⟩ := HR.out.c5
        refine bodyPost_ret (v := .agg #[.bool true, .int .u32 0, .int .u32 (vI (p &&& d.al &&& d.aa)), .int .u32 0, .bool false]) (by simp [results, Try.results14, go_sem, y0, y1, y2, y3, y4]) rfl ⟨?_, by first | exact HB4.out | (rw [hgx]; exact HB4.out)⟩
        simp [jg, HX.out, HPM.out, vI_zero]
      · have hz1 : (vI x == 0) = false := by simpa using vI_eq0 hx0
        have hz2 : (vI x != 0) = true := by simpa using vI_eq0 hx0
        have hz3 : (vI x = 0) = False := by simpa using vI_eq0 hx0
        obtain ⟨f0, f1, f2, f3, f4⟩ := H9.out.f5
        obtain ⟨x0, x1, x2, x3, x4⟩ := H9.out.c5
        go_upto_region 8 with fail
        have H93 : Hid (Blk ((W2.setCell ⟨g9, 4, none⟩ (.bool true)).setCell ⟨g9, 0, none⟩ (.bool true)) g9 41 #[.bool true, .int .u32 (vI x), .int .u32 (vI (p &&& d.al &&& d.aa)), .int .u32 (vI (x &&& d.ad)), .bool true]) := Lib.hid (by simpa using ((H9.out.set 4 (.bool true)).set 0 (.bool true)))
        have HV3 := Lib.hid ((HV2.out.far (p := ⟨g9, 4, none⟩) (fun e => hne e.symm) (.bool true)).far (p := ⟨g9, 0, none⟩) (fun e => hne e.symm) (.bool true))
        have HB3 : Hid (Below gx w ((W2.setCell ⟨g9, 4, none⟩ (.bool true)).setCell ⟨g9, 0, none⟩ (.bool true))) := Lib.hid ((HB2.out.setCell (p := ⟨g9, 4, none⟩) HG.out.2 (.bool true)).setCell (p := ⟨g9, 0, none⟩) HG.out.2 (.bool true))
        generalize ((W2.setCell ⟨g9, 4, none⟩ (.bool true)).setCell ⟨g9, 0, none⟩ (.bool true)) = W3 at *
        clear f0 f1 f2 f3 f4 x0 x1 x2 x3 x4 c0 c1 c2 c3 c4
        obtain ⟨x0, x1, x2, x3, x4⟩ := H93.out.c5
        obtain ⟨y0, y1, y2, y3, y4⟩ := HV3.out.c5
        obtain ⟨f0, f1, f2, f3, f4⟩ := HV3.out.f5
        go_wp2_with fail
        have HR : Hid (Blk (((((W3.setCell ⟨gy, 0, none⟩ (.bool true)).setCell ⟨gy, 1, none⟩ (.int .u32 (vI x))).setCell ⟨gy, 2, none⟩ (.int .u32 (vI (p &&& d.al &&& d.aa)))).setCell ⟨gy, 3, none⟩ (.int .u32 (vI (x &&& d.ad)))).setCell ⟨gy, 4, none⟩ (.bool true)) gy 41 #[.bool true, .int .u32 (vI x), .int .u32 (vI (p &&& d.al &&& d.aa)), .int .u32 (vI (x &&& d.ad)), .bool true]) := Lib.hid (by simpa using ((((HV3.out.set 0 (.bool true)).set 1 (.int .u32 (vI x))).set 2 (.int .u32 (vI (p &&& d.al &&& d.aa)))).set 3 (.int .u32 (vI (x &&& d.ad)))).set 4 (.bool true))
        have HB4 : Hid (Below gx w (((((W3.setCell ⟨gy, 0, none⟩ (.bool true)).setCell ⟨gy, 1, none⟩ (.int .u32 (vI x))).setCell ⟨gy, 2, none⟩ (.int .u32 (vI (p &&& d.al &&& d.aa)))).setCell ⟨gy, 3, none⟩ (.int .u32 (vI (x &&& d.ad)))).setCell ⟨gy, 4, none⟩ (.bool true))) := Lib.hid (((((HB3.out.setCell (p := ⟨gy, 0, none⟩) HGY.out _).setCell (p := ⟨gy, 1, none⟩) HGY.out _).setCell (p := ⟨gy, 2, none⟩) HGY.out _).setCell (p := ⟨gy, 3, none⟩) HGY.out _).setCell (p := ⟨gy, 4, none⟩) HGY.out _)
        clear f0 f1 f2 f3 f4 x0 x1 x2 x3 x4 y0 y1 y2 y3 y4
        generalize ((((W3.setCell ⟨gy, 0, none⟩ (.bool true)).setCell ⟨gy, 1, none⟩ (.int .u32 (vI x))).setCell ⟨gy, 2, none⟩ (.int .u32 (vI (p &&& d.al &&& d.aa)))).setCell ⟨gy, 3, none⟩ (.int .u32 (vI (x &&& d.ad)))).setCell ⟨gy, 4, none⟩ (.bool true) = W4 at *
        obtain ⟨y0, y1, y2, y3, y4⟩ := HR.out.c5
        refine bodyPost_ret (v := .agg #[.bool true, .int .u32 (vI x), .int .u32 (vI (p &&& d.al &&& d.aa)), .int .u32 (vI (x &&& d.ad)), .bool true]) (by simp [results, Try.results14, go_sem, y0, y1, y2, y3, y4]) rfl ⟨?_, by first | exact HB4.out | (rw [hgx]; exact HB4.out)⟩
        simp [jg, HX.out, HPM.out, hx0]
end
end Go.Proofs.Ytbcbhgclgakljaa
