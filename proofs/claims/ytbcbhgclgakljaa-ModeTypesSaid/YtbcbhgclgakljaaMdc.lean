/- The reference's Judge; Audited, of both. -/
import Derived.Test.YtbcbhgclgakljaaMdb
namespace Go.Proofs.Ytbcbhgclgakljaa
open Go.RowKit
section
variable (d : Dn) (p : BitVec 32) (e : Bool) (v : Vt) (w : World)
set_option maxRecDepth 100000 in
set_option maxHeartbeats 8000000 in
theorem rjudge_c : Calls Try.prog 15 #[.agg #[.int .u32 (vI d.al), .int .u32 (vI d.aa), .int .u32 (vI d.ad), .bool d.pm, .int .i64 d.sq], .int .u32 (vI p), .bool e] w fun r w' => r = .returned (.agg #[.bool (jg d p e).g, .int .u32 (vI (jg d p e).dn), .int .u32 (vI (jg d p e).ag), .int .u32 (vI (jg d p e).ad), .bool (jg d p e).pm]) ∧ Below w.heap.size w w' := by
  have HB1 : Hid (Below w.heap.size w (((w.alloc (.cells #[.int .u32 (vI d.al), .int .u32 (vI d.aa), .int .u32 (vI d.ad), .bool d.pm, .int .i64 d.sq] 39)).alloc (.cells #[.bool false, .int .u32 0, .int .u32 0, .int .u32 0, .bool false] 41)).alloc (.cells #[.bool false, .int .u32 0, .int .u32 0, .int .u32 0, .bool false] 41))) := Lib.hid ((((Below.refl _ _).alloc (Nat.le_refl _) _).alloc (by simp) _).alloc (by simp; omega) _)
  have HD1 : Hid (Blk (((w.alloc (.cells #[.int .u32 (vI d.al), .int .u32 (vI d.aa), .int .u32 (vI d.ad), .bool d.pm, .int .i64 d.sq] 39)).alloc (.cells #[.bool false, .int .u32 0, .int .u32 0, .int .u32 0, .bool false] 41)).alloc (.cells #[.bool false, .int .u32 0, .int .u32 0, .int .u32 0, .bool false] 41)) w.heap.size 39 #[.int .u32 (vI d.al), .int .u32 (vI d.aa), .int .u32 (vI d.ad), .bool d.pm, .int .i64 d.sq]) := Lib.hid (((Blk.here rfl).alloc _).alloc _)
  have HZ1 : Hid (Blk (((w.alloc (.cells #[.int .u32 (vI d.al), .int .u32 (vI d.aa), .int .u32 (vI d.ad), .bool d.pm, .int .i64 d.sq] 39)).alloc (.cells #[.bool false, .int .u32 0, .int .u32 0, .int .u32 0, .bool false] 41)).alloc (.cells #[.bool false, .int .u32 0, .int .u32 0, .int .u32 0, .bool false] 41)) (w.heap.size + 1) 41 #[.bool false, .int .u32 0, .int .u32 0, .int .u32 0, .bool false]) := Lib.hid ((Blk.here (by simp)).alloc _)
  have HV1 : Hid (Blk (((w.alloc (.cells #[.int .u32 (vI d.al), .int .u32 (vI d.aa), .int .u32 (vI d.ad), .bool d.pm, .int .i64 d.sq] 39)).alloc (.cells #[.bool false, .int .u32 0, .int .u32 0, .int .u32 0, .bool false] 41)).alloc (.cells #[.bool false, .int .u32 0, .int .u32 0, .int .u32 0, .bool false] 41)) (w.heap.size + 1 + 1) 41 #[.bool false, .int .u32 0, .int .u32 0, .int .u32 0, .bool false]) := Lib.hid (Blk.here (by simp))
  have hne : w.heap.size + 1 ≠ w.heap.size + 1 + 1 ∧ w.heap.size ≠ w.heap.size + 1 + 1 := by omega
  have HG : Hid (w.heap.size ≤ w.heap.size + 1 ∧ w.heap.size ≤ w.heap.size + 1 + 1) := Lib.hid (by omega)
  go_enter Try.func15, Try.ntmps15
  go_upto_region 2 with fail
  generalize ((w.alloc (.cells #[.int .u32 (vI d.al), .int .u32 (vI d.aa), .int .u32 (vI d.ad), .bool d.pm, .int .i64 d.sq] 39)).alloc (.cells #[.bool false, .int .u32 0, .int .u32 0, .int .u32 0, .bool false] 41)).alloc (.cells #[.bool false, .int .u32 0, .int .u32 0, .int .u32 0, .bool false] 41) = W1 at *
  generalize w.heap.size + 1 + 1 = g7 at *
  generalize w.heap.size + 1 = gy at *
  generalize hgx : w.heap.size = gx at *
  obtain ⟨c0, c1, c2, c3, c4⟩ := HD1.out.c5
  obtain ⟨x0, x1, x2, x3, x4⟩ := HV1.out.c5
  obtain ⟨f0, f1, f2, f3, f4⟩ := HV1.out.f5
  go_upto_region 3 with fail
  generalize hx : p &&& ~~~ d.al = x at *
  have HV2 : Hid (Blk (W1.setCell ⟨g7, 1, none⟩ (.int .u32 (vI x))) g7 41 #[.bool false, .int .u32 (vI x), .int .u32 0, .int .u32 0, .bool false]) := Lib.hid (by simpa using HV1.out.set 1 (.int .u32 (vI x)))
  have HZ2 := Lib.hid (HZ1.out.far (p := ⟨g7, 1, none⟩) (fun e => hne.1 e) (.int .u32 (vI x)))
  have HD2 := Lib.hid (HD1.out.far (p := ⟨g7, 1, none⟩) (fun e => hne.2 e) (.int .u32 (vI x)))
  have HB2 : Hid (Below gx w (W1.setCell ⟨g7, 1, none⟩ (.int .u32 (vI x)))) := Lib.hid (HB1.out.setCell (p := ⟨g7, 1, none⟩) HG.out.2 _)
  generalize (W1.setCell ⟨g7, 1, none⟩ (.int .u32 (vI x))) = W2 at *
  clear c0 c1 c2 c3 c4 x0 x1 x2 x3 x4 f0 f1 f2 f3 f4 HV1 HZ1 HD1 HB1
  obtain ⟨c0, c1, c2, c3, c4⟩ := HD2.out.c5
  obtain ⟨x0, x1, x2, x3, x4⟩ := HV2.out.c5
  obtain ⟨f0, f1, f2, f3, f4⟩ := HV2.out.f5
  go_upto_region 4 with fail
  have HV3 : Hid (Blk (W2.setCell ⟨g7, 2, none⟩ (.int .u32 (vI (p &&& d.al &&& d.aa)))) g7 41 #[.bool false, .int .u32 (vI x), .int .u32 (vI (p &&& d.al &&& d.aa)), .int .u32 0, .bool false]) := Lib.hid (by simpa using HV2.out.set 2 (.int .u32 (vI (p &&& d.al &&& d.aa))))
  have HZ3 := Lib.hid (HZ2.out.far (p := ⟨g7, 2, none⟩) (fun e => hne.1 e) (.int .u32 (vI (p &&& d.al &&& d.aa))))
  have HD3 := Lib.hid (HD2.out.far (p := ⟨g7, 2, none⟩) (fun e => hne.2 e) (.int .u32 (vI (p &&& d.al &&& d.aa))))
  have HB3 : Hid (Below gx w (W2.setCell ⟨g7, 2, none⟩ (.int .u32 (vI (p &&& d.al &&& d.aa))))) := Lib.hid (HB2.out.setCell (p := ⟨g7, 2, none⟩) HG.out.2 _)
  generalize (W2.setCell ⟨g7, 2, none⟩ (.int .u32 (vI (p &&& d.al &&& d.aa)))) = W3 at *
  clear c0 c1 c2 c3 c4 x0 x1 x2 x3 x4 f0 f1 f2 f3 f4 HV2 HZ2 HD2 HB2
  obtain ⟨c0, c1, c2, c3, c4⟩ := HD3.out.c5
  obtain ⟨x0, x1, x2, x3, x4⟩ := HV3.out.c5
  obtain ⟨f0, f1, f2, f3, f4⟩ := HV3.out.f5
  go_upto_region 5 with fail
  have HV4 : Hid (Blk (W3.setCell ⟨g7, 3, none⟩ (.int .u32 (vI (x &&& d.ad)))) g7 41 #[.bool false, .int .u32 (vI x), .int .u32 (vI (p &&& d.al &&& d.aa)), .int .u32 (vI (x &&& d.ad)), .bool false]) := Lib.hid (by simpa using HV3.out.set 3 (.int .u32 (vI (x &&& d.ad))))
  have HZ4 := Lib.hid (HZ3.out.far (p := ⟨g7, 3, none⟩) (fun e => hne.1 e) (.int .u32 (vI (x &&& d.ad))))
  have HD4 := Lib.hid (HD3.out.far (p := ⟨g7, 3, none⟩) (fun e => hne.2 e) (.int .u32 (vI (x &&& d.ad))))
  have HB4 : Hid (Below gx w (W3.setCell ⟨g7, 3, none⟩ (.int .u32 (vI (x &&& d.ad))))) := Lib.hid (HB3.out.setCell (p := ⟨g7, 3, none⟩) HG.out.2 _)
  generalize (W3.setCell ⟨g7, 3, none⟩ (.int .u32 (vI (x &&& d.ad)))) = W4 at *
  clear c0 c1 c2 c3 c4 x0 x1 x2 x3 x4 f0 f1 f2 f3 f4 HV3 HZ3 HD3 HB3
  have HX := Lib.hid hx
  clear hx
  rcases Classical.em (x = 0#32) with hx0 | hx0
  · skip
    have HV4z : Hid (Blk W4 g7 41 #[.bool false, .int .u32 0, .int .u32 (vI (p &&& d.al &&& d.aa)), .int .u32 0, .bool false]) := Lib.hid (by have := HV4.out; rw [hx0] at this; simpa [vI_zero] using this)
    clear HV4
    have HV4 := HV4z
    clear HV4z
    subst hx0
    cases hpm : d.pm
    · rw [hpm] at HD4
      have HPM := Lib.hid hpm
      clear hpm
      cases e
      · skip
        obtain ⟨c0, c1, c2, c3, c4⟩ := HD4.out.c5
        obtain ⟨x0, x1, x2, x3, x4⟩ := HV4.out.c5
        obtain ⟨f0, f1, f2, f3, f4⟩ := HV4.out.f5
        go_upto_region 6 with fail
        have HV5 : Hid (Blk (W4.setCell ⟨g7, 0, none⟩ (.bool true)) g7 41 #[.bool true, .int .u32 0, .int .u32 (vI (p &&& d.al &&& d.aa)), .int .u32 0, .bool false]) := Lib.hid (by simpa using HV4.out.set 0 (.bool true))
        have HZ5 := Lib.hid (HZ4.out.far (p := ⟨g7, 0, none⟩) (fun e => hne.1 e) (.bool true))
        have HD5 := Lib.hid (HD4.out.far (p := ⟨g7, 0, none⟩) (fun e => hne.2 e) (.bool true))
        have HB5 : Hid (Below gx w (W4.setCell ⟨g7, 0, none⟩ (.bool true))) := Lib.hid (HB4.out.setCell (p := ⟨g7, 0, none⟩) HG.out.2 _)
        generalize (W4.setCell ⟨g7, 0, none⟩ (.bool true)) = W5 at *
        clear c0 c1 c2 c3 c4 x0 x1 x2 x3 x4 f0 f1 f2 f3 f4 HV4 HZ4 HD4 HB4
        obtain ⟨c0, c1, c2, c3, c4⟩ := HD5.out.c5
        obtain ⟨x0, x1, x2, x3, x4⟩ := HV5.out.c5
        obtain ⟨f0, f1, f2, f3, f4⟩ := HV5.out.f5
        go_upto_region 7 with fail
        have HV6 : Hid (Blk (W5.setCell ⟨g7, 4, none⟩ (.bool false)) g7 41 #[.bool true, .int .u32 0, .int .u32 (vI (p &&& d.al &&& d.aa)), .int .u32 0, .bool false]) := Lib.hid (by simpa using HV5.out.set 4 (.bool false))
        have HZ6 := Lib.hid (HZ5.out.far (p := ⟨g7, 4, none⟩) (fun e => hne.1 e) (.bool false))
        have HD6 := Lib.hid (HD5.out.far (p := ⟨g7, 4, none⟩) (fun e => hne.2 e) (.bool false))
        have HB6 : Hid (Below gx w (W5.setCell ⟨g7, 4, none⟩ (.bool false))) := Lib.hid (HB5.out.setCell (p := ⟨g7, 4, none⟩) HG.out.2 _)
        generalize (W5.setCell ⟨g7, 4, none⟩ (.bool false)) = W6 at *
        clear c0 c1 c2 c3 c4 x0 x1 x2 x3 x4 f0 f1 f2 f3 f4 HV5 HZ5 HD5 HB5
        obtain ⟨x0, x1, x2, x3, x4⟩ := HV6.out.c5
        obtain ⟨y0, y1, y2, y3, y4⟩ := HZ6.out.c5
        obtain ⟨f0, f1, f2, f3, f4⟩ := HZ6.out.f5
        go_wp2_with fail
        have HR : Hid (Blk (((((W6.setCell ⟨gy, 0, none⟩ (.bool true)).setCell ⟨gy, 1, none⟩ (.int .u32 0)).setCell ⟨gy, 2, none⟩ (.int .u32 (vI (p &&& d.al &&& d.aa)))).setCell ⟨gy, 3, none⟩ (.int .u32 0)).setCell ⟨gy, 4, none⟩ (.bool false)) gy 41 #[.bool true, .int .u32 0, .int .u32 (vI (p &&& d.al &&& d.aa)), .int .u32 0, .bool false]) := Lib.hid (by simpa using ((((HZ6.out.set 0 (.bool true)).set 1 (.int .u32 0)).set 2 (.int .u32 (vI (p &&& d.al &&& d.aa)))).set 3 (.int .u32 0)).set 4 (.bool false))
        have HB7 : Hid (Below gx w (((((W6.setCell ⟨gy, 0, none⟩ (.bool true)).setCell ⟨gy, 1, none⟩ (.int .u32 0)).setCell ⟨gy, 2, none⟩ (.int .u32 (vI (p &&& d.al &&& d.aa)))).setCell ⟨gy, 3, none⟩ (.int .u32 0)).setCell ⟨gy, 4, none⟩ (.bool false))) := Lib.hid (((((HB6.out.setCell (p := ⟨gy, 0, none⟩) HG.out.1 _).setCell (p := ⟨gy, 1, none⟩) HG.out.1 _).setCell (p := ⟨gy, 2, none⟩) HG.out.1 _).setCell (p := ⟨gy, 3, none⟩) HG.out.1 _).setCell (p := ⟨gy, 4, none⟩) HG.out.1 _)
        clear x0 x1 x2 x3 x4 y0 y1 y2 y3 y4 f0 f1 f2 f3 f4
        generalize ((((W6.setCell ⟨gy, 0, none⟩ (.bool true)).setCell ⟨gy, 1, none⟩ (.int .u32 0)).setCell ⟨gy, 2, none⟩ (.int .u32 (vI (p &&& d.al &&& d.aa)))).setCell ⟨gy, 3, none⟩ (.int .u32 0)).setCell ⟨gy, 4, none⟩ (.bool false) = W7 at *
        obtain ⟨y0, y1, y2, y3, y4⟩ := HR.out.c5
        refine bodyPost_ret (v := .agg #[.bool true, .int .u32 0, .int .u32 (vI (p &&& d.al &&& d.aa)), .int .u32 0, .bool false]) (by simp [results, Try.results15, go_sem, y0, y1, y2, y3, y4]) rfl ⟨?_, by first | exact HB7.out | (rw [hgx]; exact HB7.out)⟩
        simp [jg, HX.out, HPM.out, vI_zero]
      · skip
        obtain ⟨c0, c1, c2, c3, c4⟩ := HD4.out.c5
        obtain ⟨x0, x1, x2, x3, x4⟩ := HV4.out.c5
        obtain ⟨f0, f1, f2, f3, f4⟩ := HV4.out.f5
        go_upto_region 6 with fail
        have HV5 : Hid (Blk (W4.setCell ⟨g7, 0, none⟩ (.bool true)) g7 41 #[.bool true, .int .u32 0, .int .u32 (vI (p &&& d.al &&& d.aa)), .int .u32 0, .bool false]) := Lib.hid (by simpa using HV4.out.set 0 (.bool true))
        have HZ5 := Lib.hid (HZ4.out.far (p := ⟨g7, 0, none⟩) (fun e => hne.1 e) (.bool true))
        have HD5 := Lib.hid (HD4.out.far (p := ⟨g7, 0, none⟩) (fun e => hne.2 e) (.bool true))
        have HB5 : Hid (Below gx w (W4.setCell ⟨g7, 0, none⟩ (.bool true))) := Lib.hid (HB4.out.setCell (p := ⟨g7, 0, none⟩) HG.out.2 _)
        generalize (W4.setCell ⟨g7, 0, none⟩ (.bool true)) = W5 at *
        clear c0 c1 c2 c3 c4 x0 x1 x2 x3 x4 f0 f1 f2 f3 f4 HV4 HZ4 HD4 HB4
        obtain ⟨c0, c1, c2, c3, c4⟩ := HD5.out.c5
        obtain ⟨x0, x1, x2, x3, x4⟩ := HV5.out.c5
        obtain ⟨f0, f1, f2, f3, f4⟩ := HV5.out.f5
        go_upto_region 7 with fail
        have HV6 : Hid (Blk (W5.setCell ⟨g7, 4, none⟩ (.bool false)) g7 41 #[.bool true, .int .u32 0, .int .u32 (vI (p &&& d.al &&& d.aa)), .int .u32 0, .bool false]) := Lib.hid (by simpa using HV5.out.set 4 (.bool false))
        have HZ6 := Lib.hid (HZ5.out.far (p := ⟨g7, 4, none⟩) (fun e => hne.1 e) (.bool false))
        have HD6 := Lib.hid (HD5.out.far (p := ⟨g7, 4, none⟩) (fun e => hne.2 e) (.bool false))
        have HB6 : Hid (Below gx w (W5.setCell ⟨g7, 4, none⟩ (.bool false))) := Lib.hid (HB5.out.setCell (p := ⟨g7, 4, none⟩) HG.out.2 _)
        generalize (W5.setCell ⟨g7, 4, none⟩ (.bool false)) = W6 at *
        clear c0 c1 c2 c3 c4 x0 x1 x2 x3 x4 f0 f1 f2 f3 f4 HV5 HZ5 HD5 HB5
        obtain ⟨x0, x1, x2, x3, x4⟩ := HV6.out.c5
        obtain ⟨y0, y1, y2, y3, y4⟩ := HZ6.out.c5
        obtain ⟨f0, f1, f2, f3, f4⟩ := HZ6.out.f5
        go_wp2_with fail
        have HR : Hid (Blk (((((W6.setCell ⟨gy, 0, none⟩ (.bool true)).setCell ⟨gy, 1, none⟩ (.int .u32 0)).setCell ⟨gy, 2, none⟩ (.int .u32 (vI (p &&& d.al &&& d.aa)))).setCell ⟨gy, 3, none⟩ (.int .u32 0)).setCell ⟨gy, 4, none⟩ (.bool false)) gy 41 #[.bool true, .int .u32 0, .int .u32 (vI (p &&& d.al &&& d.aa)), .int .u32 0, .bool false]) := Lib.hid (by simpa using ((((HZ6.out.set 0 (.bool true)).set 1 (.int .u32 0)).set 2 (.int .u32 (vI (p &&& d.al &&& d.aa)))).set 3 (.int .u32 0)).set 4 (.bool false))
        have HB7 : Hid (Below gx w (((((W6.setCell ⟨gy, 0, none⟩ (.bool true)).setCell ⟨gy, 1, none⟩ (.int .u32 0)).setCell ⟨gy, 2, none⟩ (.int .u32 (vI (p &&& d.al &&& d.aa)))).setCell ⟨gy, 3, none⟩ (.int .u32 0)).setCell ⟨gy, 4, none⟩ (.bool false))) := Lib.hid (((((HB6.out.setCell (p := ⟨gy, 0, none⟩) HG.out.1 _).setCell (p := ⟨gy, 1, none⟩) HG.out.1 _).setCell (p := ⟨gy, 2, none⟩) HG.out.1 _).setCell (p := ⟨gy, 3, none⟩) HG.out.1 _).setCell (p := ⟨gy, 4, none⟩) HG.out.1 _)
        clear x0 x1 x2 x3 x4 y0 y1 y2 y3 y4 f0 f1 f2 f3 f4
        generalize ((((W6.setCell ⟨gy, 0, none⟩ (.bool true)).setCell ⟨gy, 1, none⟩ (.int .u32 0)).setCell ⟨gy, 2, none⟩ (.int .u32 (vI (p &&& d.al &&& d.aa)))).setCell ⟨gy, 3, none⟩ (.int .u32 0)).setCell ⟨gy, 4, none⟩ (.bool false) = W7 at *
        obtain ⟨y0, y1, y2, y3, y4⟩ := HR.out.c5
        refine bodyPost_ret (v := .agg #[.bool true, .int .u32 0, .int .u32 (vI (p &&& d.al &&& d.aa)), .int .u32 0, .bool false]) (by simp [results, Try.results15, go_sem, y0, y1, y2, y3, y4]) rfl ⟨?_, by first | exact HB7.out | (rw [hgx]; exact HB7.out)⟩
        simp [jg, HX.out, HPM.out, vI_zero]
    · rw [hpm] at HD4
      have HPM := Lib.hid hpm
      clear hpm
      cases e
      · skip
        obtain ⟨c0, c1, c2, c3, c4⟩ := HD4.out.c5
        obtain ⟨x0, x1, x2, x3, x4⟩ := HV4.out.c5
        obtain ⟨f0, f1, f2, f3, f4⟩ := HV4.out.f5
        go_upto_region 6 with fail
        have HV5 : Hid (Blk (W4.setCell ⟨g7, 0, none⟩ (.bool true)) g7 41 #[.bool true, .int .u32 0, .int .u32 (vI (p &&& d.al &&& d.aa)), .int .u32 0, .bool false]) := Lib.hid (by simpa using HV4.out.set 0 (.bool true))
        have HZ5 := Lib.hid (HZ4.out.far (p := ⟨g7, 0, none⟩) (fun e => hne.1 e) (.bool true))
        have HD5 := Lib.hid (HD4.out.far (p := ⟨g7, 0, none⟩) (fun e => hne.2 e) (.bool true))
        have HB5 : Hid (Below gx w (W4.setCell ⟨g7, 0, none⟩ (.bool true))) := Lib.hid (HB4.out.setCell (p := ⟨g7, 0, none⟩) HG.out.2 _)
        generalize (W4.setCell ⟨g7, 0, none⟩ (.bool true)) = W5 at *
        clear c0 c1 c2 c3 c4 x0 x1 x2 x3 x4 f0 f1 f2 f3 f4 HV4 HZ4 HD4 HB4
        obtain ⟨c0, c1, c2, c3, c4⟩ := HD5.out.c5
        obtain ⟨x0, x1, x2, x3, x4⟩ := HV5.out.c5
        obtain ⟨f0, f1, f2, f3, f4⟩ := HV5.out.f5
        go_upto_region 7 with fail
        have HV6 : Hid (Blk (W5.setCell ⟨g7, 4, none⟩ (.bool false)) g7 41 #[.bool true, .int .u32 0, .int .u32 (vI (p &&& d.al &&& d.aa)), .int .u32 0, .bool false]) := Lib.hid (by simpa using HV5.out.set 4 (.bool false))
        have HZ6 := Lib.hid (HZ5.out.far (p := ⟨g7, 4, none⟩) (fun e => hne.1 e) (.bool false))
        have HD6 := Lib.hid (HD5.out.far (p := ⟨g7, 4, none⟩) (fun e => hne.2 e) (.bool false))
        have HB6 : Hid (Below gx w (W5.setCell ⟨g7, 4, none⟩ (.bool false))) := Lib.hid (HB5.out.setCell (p := ⟨g7, 4, none⟩) HG.out.2 _)
        generalize (W5.setCell ⟨g7, 4, none⟩ (.bool false)) = W6 at *
        clear c0 c1 c2 c3 c4 x0 x1 x2 x3 x4 f0 f1 f2 f3 f4 HV5 HZ5 HD5 HB5
        obtain ⟨x0, x1, x2, x3, x4⟩ := HV6.out.c5
        obtain ⟨y0, y1, y2, y3, y4⟩ := HZ6.out.c5
        obtain ⟨f0, f1, f2, f3, f4⟩ := HZ6.out.f5
        go_wp2_with fail
        have HR : Hid (Blk (((((W6.setCell ⟨gy, 0, none⟩ (.bool true)).setCell ⟨gy, 1, none⟩ (.int .u32 0)).setCell ⟨gy, 2, none⟩ (.int .u32 (vI (p &&& d.al &&& d.aa)))).setCell ⟨gy, 3, none⟩ (.int .u32 0)).setCell ⟨gy, 4, none⟩ (.bool false)) gy 41 #[.bool true, .int .u32 0, .int .u32 (vI (p &&& d.al &&& d.aa)), .int .u32 0, .bool false]) := Lib.hid (by simpa using ((((HZ6.out.set 0 (.bool true)).set 1 (.int .u32 0)).set 2 (.int .u32 (vI (p &&& d.al &&& d.aa)))).set 3 (.int .u32 0)).set 4 (.bool false))
        have HB7 : Hid (Below gx w (((((W6.setCell ⟨gy, 0, none⟩ (.bool true)).setCell ⟨gy, 1, none⟩ (.int .u32 0)).setCell ⟨gy, 2, none⟩ (.int .u32 (vI (p &&& d.al &&& d.aa)))).setCell ⟨gy, 3, none⟩ (.int .u32 0)).setCell ⟨gy, 4, none⟩ (.bool false))) := Lib.hid (((((HB6.out.setCell (p := ⟨gy, 0, none⟩) HG.out.1 _).setCell (p := ⟨gy, 1, none⟩) HG.out.1 _).setCell (p := ⟨gy, 2, none⟩) HG.out.1 _).setCell (p := ⟨gy, 3, none⟩) HG.out.1 _).setCell (p := ⟨gy, 4, none⟩) HG.out.1 _)
        clear x0 x1 x2 x3 x4 y0 y1 y2 y3 y4 f0 f1 f2 f3 f4
        generalize ((((W6.setCell ⟨gy, 0, none⟩ (.bool true)).setCell ⟨gy, 1, none⟩ (.int .u32 0)).setCell ⟨gy, 2, none⟩ (.int .u32 (vI (p &&& d.al &&& d.aa)))).setCell ⟨gy, 3, none⟩ (.int .u32 0)).setCell ⟨gy, 4, none⟩ (.bool false) = W7 at *
        obtain ⟨y0, y1, y2, y3, y4⟩ := HR.out.c5
        refine bodyPost_ret (v := .agg #[.bool true, .int .u32 0, .int .u32 (vI (p &&& d.al &&& d.aa)), .int .u32 0, .bool false]) (by simp [results, Try.results15, go_sem, y0, y1, y2, y3, y4]) rfl ⟨?_, by first | exact HB7.out | (rw [hgx]; exact HB7.out)⟩
        simp [jg, HX.out, HPM.out, vI_zero]
      · skip
        obtain ⟨c0, c1, c2, c3, c4⟩ := HD4.out.c5
        obtain ⟨x0, x1, x2, x3, x4⟩ := HV4.out.c5
        obtain ⟨f0, f1, f2, f3, f4⟩ := HV4.out.f5
        go_upto_region 6 with fail
        have HV5 : Hid (Blk (W4.setCell ⟨g7, 0, none⟩ (.bool true)) g7 41 #[.bool true, .int .u32 0, .int .u32 (vI (p &&& d.al &&& d.aa)), .int .u32 0, .bool false]) := Lib.hid (by simpa using HV4.out.set 0 (.bool true))
        have HZ5 := Lib.hid (HZ4.out.far (p := ⟨g7, 0, none⟩) (fun e => hne.1 e) (.bool true))
        have HD5 := Lib.hid (HD4.out.far (p := ⟨g7, 0, none⟩) (fun e => hne.2 e) (.bool true))
        have HB5 : Hid (Below gx w (W4.setCell ⟨g7, 0, none⟩ (.bool true))) := Lib.hid (HB4.out.setCell (p := ⟨g7, 0, none⟩) HG.out.2 _)
        generalize (W4.setCell ⟨g7, 0, none⟩ (.bool true)) = W5 at *
        clear c0 c1 c2 c3 c4 x0 x1 x2 x3 x4 f0 f1 f2 f3 f4 HV4 HZ4 HD4 HB4
        obtain ⟨c0, c1, c2, c3, c4⟩ := HD5.out.c5
        obtain ⟨x0, x1, x2, x3, x4⟩ := HV5.out.c5
        obtain ⟨f0, f1, f2, f3, f4⟩ := HV5.out.f5
        go_upto_region 7 with fail
        have HV6 : Hid (Blk (W5.setCell ⟨g7, 4, none⟩ (.bool false)) g7 41 #[.bool true, .int .u32 0, .int .u32 (vI (p &&& d.al &&& d.aa)), .int .u32 0, .bool false]) := Lib.hid (by simpa using HV5.out.set 4 (.bool false))
        have HZ6 := Lib.hid (HZ5.out.far (p := ⟨g7, 4, none⟩) (fun e => hne.1 e) (.bool false))
        have HD6 := Lib.hid (HD5.out.far (p := ⟨g7, 4, none⟩) (fun e => hne.2 e) (.bool false))
        have HB6 : Hid (Below gx w (W5.setCell ⟨g7, 4, none⟩ (.bool false))) := Lib.hid (HB5.out.setCell (p := ⟨g7, 4, none⟩) HG.out.2 _)
        generalize (W5.setCell ⟨g7, 4, none⟩ (.bool false)) = W6 at *
        clear c0 c1 c2 c3 c4 x0 x1 x2 x3 x4 f0 f1 f2 f3 f4 HV5 HZ5 HD5 HB5
        obtain ⟨x0, x1, x2, x3, x4⟩ := HV6.out.c5
        obtain ⟨y0, y1, y2, y3, y4⟩ := HZ6.out.c5
        obtain ⟨f0, f1, f2, f3, f4⟩ := HZ6.out.f5
        go_wp2_with fail
        have HR : Hid (Blk (((((W6.setCell ⟨gy, 0, none⟩ (.bool true)).setCell ⟨gy, 1, none⟩ (.int .u32 0)).setCell ⟨gy, 2, none⟩ (.int .u32 (vI (p &&& d.al &&& d.aa)))).setCell ⟨gy, 3, none⟩ (.int .u32 0)).setCell ⟨gy, 4, none⟩ (.bool false)) gy 41 #[.bool true, .int .u32 0, .int .u32 (vI (p &&& d.al &&& d.aa)), .int .u32 0, .bool false]) := Lib.hid (by simpa using ((((HZ6.out.set 0 (.bool true)).set 1 (.int .u32 0)).set 2 (.int .u32 (vI (p &&& d.al &&& d.aa)))).set 3 (.int .u32 0)).set 4 (.bool false))
        have HB7 : Hid (Below gx w (((((W6.setCell ⟨gy, 0, none⟩ (.bool true)).setCell ⟨gy, 1, none⟩ (.int .u32 0)).setCell ⟨gy, 2, none⟩ (.int .u32 (vI (p &&& d.al &&& d.aa)))).setCell ⟨gy, 3, none⟩ (.int .u32 0)).setCell ⟨gy, 4, none⟩ (.bool false))) := Lib.hid (((((HB6.out.setCell (p := ⟨gy, 0, none⟩) HG.out.1 _).setCell (p := ⟨gy, 1, none⟩) HG.out.1 _).setCell (p := ⟨gy, 2, none⟩) HG.out.1 _).setCell (p := ⟨gy, 3, none⟩) HG.out.1 _).setCell (p := ⟨gy, 4, none⟩) HG.out.1 _)
        clear x0 x1 x2 x3 x4 y0 y1 y2 y3 y4 f0 f1 f2 f3 f4
        generalize ((((W6.setCell ⟨gy, 0, none⟩ (.bool true)).setCell ⟨gy, 1, none⟩ (.int .u32 0)).setCell ⟨gy, 2, none⟩ (.int .u32 (vI (p &&& d.al &&& d.aa)))).setCell ⟨gy, 3, none⟩ (.int .u32 0)).setCell ⟨gy, 4, none⟩ (.bool false) = W7 at *
        obtain ⟨y0, y1, y2, y3, y4⟩ := HR.out.c5
        refine bodyPost_ret (v := .agg #[.bool true, .int .u32 0, .int .u32 (vI (p &&& d.al &&& d.aa)), .int .u32 0, .bool false]) (by simp [results, Try.results15, go_sem, y0, y1, y2, y3, y4]) rfl ⟨?_, by first | exact HB7.out | (rw [hgx]; exact HB7.out)⟩
        simp [jg, HX.out, HPM.out, vI_zero]
  · skip
    have hz1 : (vI x == 0) = false := by simpa using vI_eq0 hx0
    have hz2 : (vI x != 0) = true := by simpa using vI_eq0 hx0
    have hz3 : (vI x = 0) = False := by simpa using vI_eq0 hx0
    cases hpm : d.pm
    · rw [hpm] at HD4
      have HPM := Lib.hid hpm
      clear hpm
      cases e
      · skip
        obtain ⟨c0, c1, c2, c3, c4⟩ := HD4.out.c5
        obtain ⟨x0, x1, x2, x3, x4⟩ := HV4.out.c5
        obtain ⟨f0, f1, f2, f3, f4⟩ := HV4.out.f5
        go_upto_region 6 with fail
        have HV5 : Hid (Blk (W4.setCell ⟨g7, 0, none⟩ (.bool true)) g7 41 #[.bool true, .int .u32 (vI x), .int .u32 (vI (p &&& d.al &&& d.aa)), .int .u32 (vI (x &&& d.ad)), .bool false]) := Lib.hid (by simpa using HV4.out.set 0 (.bool true))
        have HZ5 := Lib.hid (HZ4.out.far (p := ⟨g7, 0, none⟩) (fun e => hne.1 e) (.bool true))
        have HD5 := Lib.hid (HD4.out.far (p := ⟨g7, 0, none⟩) (fun e => hne.2 e) (.bool true))
        have HB5 : Hid (Below gx w (W4.setCell ⟨g7, 0, none⟩ (.bool true))) := Lib.hid (HB4.out.setCell (p := ⟨g7, 0, none⟩) HG.out.2 _)
        generalize (W4.setCell ⟨g7, 0, none⟩ (.bool true)) = W5 at *
        clear c0 c1 c2 c3 c4 x0 x1 x2 x3 x4 f0 f1 f2 f3 f4 HV4 HZ4 HD4 HB4
        obtain ⟨c0, c1, c2, c3, c4⟩ := HD5.out.c5
        obtain ⟨x0, x1, x2, x3, x4⟩ := HV5.out.c5
        obtain ⟨f0, f1, f2, f3, f4⟩ := HV5.out.f5
        go_upto_region 7 with fail
        have HV6 : Hid (Blk (W5.setCell ⟨g7, 4, none⟩ (.bool true)) g7 41 #[.bool true, .int .u32 (vI x), .int .u32 (vI (p &&& d.al &&& d.aa)), .int .u32 (vI (x &&& d.ad)), .bool true]) := Lib.hid (by simpa using HV5.out.set 4 (.bool true))
        have HZ6 := Lib.hid (HZ5.out.far (p := ⟨g7, 4, none⟩) (fun e => hne.1 e) (.bool true))
        have HD6 := Lib.hid (HD5.out.far (p := ⟨g7, 4, none⟩) (fun e => hne.2 e) (.bool true))
        have HB6 : Hid (Below gx w (W5.setCell ⟨g7, 4, none⟩ (.bool true))) := Lib.hid (HB5.out.setCell (p := ⟨g7, 4, none⟩) HG.out.2 _)
        generalize (W5.setCell ⟨g7, 4, none⟩ (.bool true)) = W6 at *
        clear c0 c1 c2 c3 c4 x0 x1 x2 x3 x4 f0 f1 f2 f3 f4 HV5 HZ5 HD5 HB5
        obtain ⟨x0, x1, x2, x3, x4⟩ := HV6.out.c5
        obtain ⟨y0, y1, y2, y3, y4⟩ := HZ6.out.c5
        obtain ⟨f0, f1, f2, f3, f4⟩ := HZ6.out.f5
        go_wp2_with fail
        have HR : Hid (Blk (((((W6.setCell ⟨gy, 0, none⟩ (.bool true)).setCell ⟨gy, 1, none⟩ (.int .u32 (vI x))).setCell ⟨gy, 2, none⟩ (.int .u32 (vI (p &&& d.al &&& d.aa)))).setCell ⟨gy, 3, none⟩ (.int .u32 (vI (x &&& d.ad)))).setCell ⟨gy, 4, none⟩ (.bool true)) gy 41 #[.bool true, .int .u32 (vI x), .int .u32 (vI (p &&& d.al &&& d.aa)), .int .u32 (vI (x &&& d.ad)), .bool true]) := Lib.hid (by simpa using ((((HZ6.out.set 0 (.bool true)).set 1 (.int .u32 (vI x))).set 2 (.int .u32 (vI (p &&& d.al &&& d.aa)))).set 3 (.int .u32 (vI (x &&& d.ad)))).set 4 (.bool true))
        have HB7 : Hid (Below gx w (((((W6.setCell ⟨gy, 0, none⟩ (.bool true)).setCell ⟨gy, 1, none⟩ (.int .u32 (vI x))).setCell ⟨gy, 2, none⟩ (.int .u32 (vI (p &&& d.al &&& d.aa)))).setCell ⟨gy, 3, none⟩ (.int .u32 (vI (x &&& d.ad)))).setCell ⟨gy, 4, none⟩ (.bool true))) := Lib.hid (((((HB6.out.setCell (p := ⟨gy, 0, none⟩) HG.out.1 _).setCell (p := ⟨gy, 1, none⟩) HG.out.1 _).setCell (p := ⟨gy, 2, none⟩) HG.out.1 _).setCell (p := ⟨gy, 3, none⟩) HG.out.1 _).setCell (p := ⟨gy, 4, none⟩) HG.out.1 _)
        clear x0 x1 x2 x3 x4 y0 y1 y2 y3 y4 f0 f1 f2 f3 f4
        generalize ((((W6.setCell ⟨gy, 0, none⟩ (.bool true)).setCell ⟨gy, 1, none⟩ (.int .u32 (vI x))).setCell ⟨gy, 2, none⟩ (.int .u32 (vI (p &&& d.al &&& d.aa)))).setCell ⟨gy, 3, none⟩ (.int .u32 (vI (x &&& d.ad)))).setCell ⟨gy, 4, none⟩ (.bool true) = W7 at *
        obtain ⟨y0, y1, y2, y3, y4⟩ := HR.out.c5
        refine bodyPost_ret (v := .agg #[.bool true, .int .u32 (vI x), .int .u32 (vI (p &&& d.al &&& d.aa)), .int .u32 (vI (x &&& d.ad)), .bool true]) (by simp [results, Try.results15, go_sem, y0, y1, y2, y3, y4]) rfl ⟨?_, by first | exact HB7.out | (rw [hgx]; exact HB7.out)⟩
        simp [jg, HX.out, HPM.out, hx0]
      · skip
        obtain ⟨c0, c1, c2, c3, c4⟩ := HD4.out.c5
        obtain ⟨x0, x1, x2, x3, x4⟩ := HV4.out.c5
        obtain ⟨f0, f1, f2, f3, f4⟩ := HV4.out.f5
        go_upto_region 6 with fail
        have HV5 : Hid (Blk (W4.setCell ⟨g7, 0, none⟩ (.bool false)) g7 41 #[.bool false, .int .u32 (vI x), .int .u32 (vI (p &&& d.al &&& d.aa)), .int .u32 (vI (x &&& d.ad)), .bool false]) := Lib.hid (by simpa using HV4.out.set 0 (.bool false))
        have HZ5 := Lib.hid (HZ4.out.far (p := ⟨g7, 0, none⟩) (fun e => hne.1 e) (.bool false))
        have HD5 := Lib.hid (HD4.out.far (p := ⟨g7, 0, none⟩) (fun e => hne.2 e) (.bool false))
        have HB5 : Hid (Below gx w (W4.setCell ⟨g7, 0, none⟩ (.bool false))) := Lib.hid (HB4.out.setCell (p := ⟨g7, 0, none⟩) HG.out.2 _)
        generalize (W4.setCell ⟨g7, 0, none⟩ (.bool false)) = W5 at *
        clear c0 c1 c2 c3 c4 x0 x1 x2 x3 x4 f0 f1 f2 f3 f4 HV4 HZ4 HD4 HB4
        obtain ⟨c0, c1, c2, c3, c4⟩ := HD5.out.c5
        obtain ⟨x0, x1, x2, x3, x4⟩ := HV5.out.c5
        obtain ⟨f0, f1, f2, f3, f4⟩ := HV5.out.f5
        go_upto_region 7 with fail
        have HV6 : Hid (Blk (W5.setCell ⟨g7, 4, none⟩ (.bool false)) g7 41 #[.bool false, .int .u32 (vI x), .int .u32 (vI (p &&& d.al &&& d.aa)), .int .u32 (vI (x &&& d.ad)), .bool false]) := Lib.hid (by simpa using HV5.out.set 4 (.bool false))
        have HZ6 := Lib.hid (HZ5.out.far (p := ⟨g7, 4, none⟩) (fun e => hne.1 e) (.bool false))
        have HD6 := Lib.hid (HD5.out.far (p := ⟨g7, 4, none⟩) (fun e => hne.2 e) (.bool false))
        have HB6 : Hid (Below gx w (W5.setCell ⟨g7, 4, none⟩ (.bool false))) := Lib.hid (HB5.out.setCell (p := ⟨g7, 4, none⟩) HG.out.2 _)
        generalize (W5.setCell ⟨g7, 4, none⟩ (.bool false)) = W6 at *
        clear c0 c1 c2 c3 c4 x0 x1 x2 x3 x4 f0 f1 f2 f3 f4 HV5 HZ5 HD5 HB5
        obtain ⟨x0, x1, x2, x3, x4⟩ := HV6.out.c5
        obtain ⟨y0, y1, y2, y3, y4⟩ := HZ6.out.c5
        obtain ⟨f0, f1, f2, f3, f4⟩ := HZ6.out.f5
        go_wp2_with fail
        have HR : Hid (Blk (((((W6.setCell ⟨gy, 0, none⟩ (.bool false)).setCell ⟨gy, 1, none⟩ (.int .u32 (vI x))).setCell ⟨gy, 2, none⟩ (.int .u32 (vI (p &&& d.al &&& d.aa)))).setCell ⟨gy, 3, none⟩ (.int .u32 (vI (x &&& d.ad)))).setCell ⟨gy, 4, none⟩ (.bool false)) gy 41 #[.bool false, .int .u32 (vI x), .int .u32 (vI (p &&& d.al &&& d.aa)), .int .u32 (vI (x &&& d.ad)), .bool false]) := Lib.hid (by simpa using ((((HZ6.out.set 0 (.bool false)).set 1 (.int .u32 (vI x))).set 2 (.int .u32 (vI (p &&& d.al &&& d.aa)))).set 3 (.int .u32 (vI (x &&& d.ad)))).set 4 (.bool false))
        have HB7 : Hid (Below gx w (((((W6.setCell ⟨gy, 0, none⟩ (.bool false)).setCell ⟨gy, 1, none⟩ (.int .u32 (vI x))).setCell ⟨gy, 2, none⟩ (.int .u32 (vI (p &&& d.al &&& d.aa)))).setCell ⟨gy, 3, none⟩ (.int .u32 (vI (x &&& d.ad)))).setCell ⟨gy, 4, none⟩ (.bool false))) := Lib.hid (((((HB6.out.setCell (p := ⟨gy, 0, none⟩) HG.out.1 _).setCell (p := ⟨gy, 1, none⟩) HG.out.1 _).setCell (p := ⟨gy, 2, none⟩) HG.out.1 _).setCell (p := ⟨gy, 3, none⟩) HG.out.1 _).setCell (p := ⟨gy, 4, none⟩) HG.out.1 _)
        clear x0 x1 x2 x3 x4 y0 y1 y2 y3 y4 f0 f1 f2 f3 f4
        generalize ((((W6.setCell ⟨gy, 0, none⟩ (.bool false)).setCell ⟨gy, 1, none⟩ (.int .u32 (vI x))).setCell ⟨gy, 2, none⟩ (.int .u32 (vI (p &&& d.al &&& d.aa)))).setCell ⟨gy, 3, none⟩ (.int .u32 (vI (x &&& d.ad)))).setCell ⟨gy, 4, none⟩ (.bool false) = W7 at *
        obtain ⟨y0, y1, y2, y3, y4⟩ := HR.out.c5
        refine bodyPost_ret (v := .agg #[.bool false, .int .u32 (vI x), .int .u32 (vI (p &&& d.al &&& d.aa)), .int .u32 (vI (x &&& d.ad)), .bool false]) (by simp [results, Try.results15, go_sem, y0, y1, y2, y3, y4]) rfl ⟨?_, by first | exact HB7.out | (rw [hgx]; exact HB7.out)⟩
        simp [jg, HX.out, HPM.out, hx0]
    · rw [hpm] at HD4
      have HPM := Lib.hid hpm
      clear hpm
      cases e
      · skip
        obtain ⟨c0, c1, c2, c3, c4⟩ := HD4.out.c5
        obtain ⟨x0, x1, x2, x3, x4⟩ := HV4.out.c5
        obtain ⟨f0, f1, f2, f3, f4⟩ := HV4.out.f5
        go_upto_region 6 with fail
        have HV5 : Hid (Blk (W4.setCell ⟨g7, 0, none⟩ (.bool true)) g7 41 #[.bool true, .int .u32 (vI x), .int .u32 (vI (p &&& d.al &&& d.aa)), .int .u32 (vI (x &&& d.ad)), .bool false]) := Lib.hid (by simpa using HV4.out.set 0 (.bool true))
        have HZ5 := Lib.hid (HZ4.out.far (p := ⟨g7, 0, none⟩) (fun e => hne.1 e) (.bool true))
        have HD5 := Lib.hid (HD4.out.far (p := ⟨g7, 0, none⟩) (fun e => hne.2 e) (.bool true))
        have HB5 : Hid (Below gx w (W4.setCell ⟨g7, 0, none⟩ (.bool true))) := Lib.hid (HB4.out.setCell (p := ⟨g7, 0, none⟩) HG.out.2 _)
        generalize (W4.setCell ⟨g7, 0, none⟩ (.bool true)) = W5 at *
        clear c0 c1 c2 c3 c4 x0 x1 x2 x3 x4 f0 f1 f2 f3 f4 HV4 HZ4 HD4 HB4
        obtain ⟨c0, c1, c2, c3, c4⟩ := HD5.out.c5
        obtain ⟨x0, x1, x2, x3, x4⟩ := HV5.out.c5
        obtain ⟨f0, f1, f2, f3, f4⟩ := HV5.out.f5
        go_upto_region 7 with fail
        have HV6 : Hid (Blk (W5.setCell ⟨g7, 4, none⟩ (.bool true)) g7 41 #[.bool true, .int .u32 (vI x), .int .u32 (vI (p &&& d.al &&& d.aa)), .int .u32 (vI (x &&& d.ad)), .bool true]) := Lib.hid (by simpa using HV5.out.set 4 (.bool true))
        have HZ6 := Lib.hid (HZ5.out.far (p := ⟨g7, 4, none⟩) (fun e => hne.1 e) (.bool true))
        have HD6 := Lib.hid (HD5.out.far (p := ⟨g7, 4, none⟩) (fun e => hne.2 e) (.bool true))
        have HB6 : Hid (Below gx w (W5.setCell ⟨g7, 4, none⟩ (.bool true))) := Lib.hid (HB5.out.setCell (p := ⟨g7, 4, none⟩) HG.out.2 _)
        generalize (W5.setCell ⟨g7, 4, none⟩ (.bool true)) = W6 at *
        clear c0 c1 c2 c3 c4 x0 x1 x2 x3 x4 f0 f1 f2 f3 f4 HV5 HZ5 HD5 HB5
        obtain ⟨x0, x1, x2, x3, x4⟩ := HV6.out.c5
        obtain ⟨y0, y1, y2, y3, y4⟩ := HZ6.out.c5
        obtain ⟨f0, f1, f2, f3, f4⟩ := HZ6.out.f5
        go_wp2_with fail
        have HR : Hid (Blk (((((W6.setCell ⟨gy, 0, none⟩ (.bool true)).setCell ⟨gy, 1, none⟩ (.int .u32 (vI x))).setCell ⟨gy, 2, none⟩ (.int .u32 (vI (p &&& d.al &&& d.aa)))).setCell ⟨gy, 3, none⟩ (.int .u32 (vI (x &&& d.ad)))).setCell ⟨gy, 4, none⟩ (.bool true)) gy 41 #[.bool true, .int .u32 (vI x), .int .u32 (vI (p &&& d.al &&& d.aa)), .int .u32 (vI (x &&& d.ad)), .bool true]) := Lib.hid (by simpa using ((((HZ6.out.set 0 (.bool true)).set 1 (.int .u32 (vI x))).set 2 (.int .u32 (vI (p &&& d.al &&& d.aa)))).set 3 (.int .u32 (vI (x &&& d.ad)))).set 4 (.bool true))
        have HB7 : Hid (Below gx w (((((W6.setCell ⟨gy, 0, none⟩ (.bool true)).setCell ⟨gy, 1, none⟩ (.int .u32 (vI x))).setCell ⟨gy, 2, none⟩ (.int .u32 (vI (p &&& d.al &&& d.aa)))).setCell ⟨gy, 3, none⟩ (.int .u32 (vI (x &&& d.ad)))).setCell ⟨gy, 4, none⟩ (.bool true))) := Lib.hid (((((HB6.out.setCell (p := ⟨gy, 0, none⟩) HG.out.1 _).setCell (p := ⟨gy, 1, none⟩) HG.out.1 _).setCell (p := ⟨gy, 2, none⟩) HG.out.1 _).setCell (p := ⟨gy, 3, none⟩) HG.out.1 _).setCell (p := ⟨gy, 4, none⟩) HG.out.1 _)
        clear x0 x1 x2 x3 x4 y0 y1 y2 y3 y4 f0 f1 f2 f3 f4
        generalize ((((W6.setCell ⟨gy, 0, none⟩ (.bool true)).setCell ⟨gy, 1, none⟩ (.int .u32 (vI x))).setCell ⟨gy, 2, none⟩ (.int .u32 (vI (p &&& d.al &&& d.aa)))).setCell ⟨gy, 3, none⟩ (.int .u32 (vI (x &&& d.ad)))).setCell ⟨gy, 4, none⟩ (.bool true) = W7 at *
        obtain ⟨y0, y1, y2, y3, y4⟩ := HR.out.c5
        refine bodyPost_ret (v := .agg #[.bool true, .int .u32 (vI x), .int .u32 (vI (p &&& d.al &&& d.aa)), .int .u32 (vI (x &&& d.ad)), .bool true]) (by simp [results, Try.results15, go_sem, y0, y1, y2, y3, y4]) rfl ⟨?_, by first | exact HB7.out | (rw [hgx]; exact HB7.out)⟩
        simp [jg, HX.out, HPM.out, hx0]
      · skip
        obtain ⟨c0, c1, c2, c3, c4⟩ := HD4.out.c5
        obtain ⟨x0, x1, x2, x3, x4⟩ := HV4.out.c5
        obtain ⟨f0, f1, f2, f3, f4⟩ := HV4.out.f5
        go_upto_region 6 with fail
        have HV5 : Hid (Blk (W4.setCell ⟨g7, 0, none⟩ (.bool true)) g7 41 #[.bool true, .int .u32 (vI x), .int .u32 (vI (p &&& d.al &&& d.aa)), .int .u32 (vI (x &&& d.ad)), .bool false]) := Lib.hid (by simpa using HV4.out.set 0 (.bool true))
        have HZ5 := Lib.hid (HZ4.out.far (p := ⟨g7, 0, none⟩) (fun e => hne.1 e) (.bool true))
        have HD5 := Lib.hid (HD4.out.far (p := ⟨g7, 0, none⟩) (fun e => hne.2 e) (.bool true))
        have HB5 : Hid (Below gx w (W4.setCell ⟨g7, 0, none⟩ (.bool true))) := Lib.hid (HB4.out.setCell (p := ⟨g7, 0, none⟩) HG.out.2 _)
        generalize (W4.setCell ⟨g7, 0, none⟩ (.bool true)) = W5 at *
        clear c0 c1 c2 c3 c4 x0 x1 x2 x3 x4 f0 f1 f2 f3 f4 HV4 HZ4 HD4 HB4
        obtain ⟨c0, c1, c2, c3, c4⟩ := HD5.out.c5
        obtain ⟨x0, x1, x2, x3, x4⟩ := HV5.out.c5
        obtain ⟨f0, f1, f2, f3, f4⟩ := HV5.out.f5
        go_upto_region 7 with fail
        have HV6 : Hid (Blk (W5.setCell ⟨g7, 4, none⟩ (.bool true)) g7 41 #[.bool true, .int .u32 (vI x), .int .u32 (vI (p &&& d.al &&& d.aa)), .int .u32 (vI (x &&& d.ad)), .bool true]) := Lib.hid (by simpa using HV5.out.set 4 (.bool true))
        have HZ6 := Lib.hid (HZ5.out.far (p := ⟨g7, 4, none⟩) (fun e => hne.1 e) (.bool true))
        have HD6 := Lib.hid (HD5.out.far (p := ⟨g7, 4, none⟩) (fun e => hne.2 e) (.bool true))
        have HB6 : Hid (Below gx w (W5.setCell ⟨g7, 4, none⟩ (.bool true))) := Lib.hid (HB5.out.setCell (p := ⟨g7, 4, none⟩) HG.out.2 _)
        generalize (W5.setCell ⟨g7, 4, none⟩ (.bool true)) = W6 at *
        clear c0 c1 c2 c3 c4 x0 x1 x2 x3 x4 f0 f1 f2 f3 f4 HV5 HZ5 HD5 HB5
        obtain ⟨x0, x1, x2, x3, x4⟩ := HV6.out.c5
        obtain ⟨y0, y1, y2, y3, y4⟩ := HZ6.out.c5
        obtain ⟨f0, f1, f2, f3, f4⟩ := HZ6.out.f5
        go_wp2_with fail
        have HR : Hid (Blk (((((W6.setCell ⟨gy, 0, none⟩ (.bool true)).setCell ⟨gy, 1, none⟩ (.int .u32 (vI x))).setCell ⟨gy, 2, none⟩ (.int .u32 (vI (p &&& d.al &&& d.aa)))).setCell ⟨gy, 3, none⟩ (.int .u32 (vI (x &&& d.ad)))).setCell ⟨gy, 4, none⟩ (.bool true)) gy 41 #[.bool true, .int .u32 (vI x), .int .u32 (vI (p &&& d.al &&& d.aa)), .int .u32 (vI (x &&& d.ad)), .bool true]) := Lib.hid (by simpa using ((((HZ6.out.set 0 (.bool true)).set 1 (.int .u32 (vI x))).set 2 (.int .u32 (vI (p &&& d.al &&& d.aa)))).set 3 (.int .u32 (vI (x &&& d.ad)))).set 4 (.bool true))
        have HB7 : Hid (Below gx w (((((W6.setCell ⟨gy, 0, none⟩ (.bool true)).setCell ⟨gy, 1, none⟩ (.int .u32 (vI x))).setCell ⟨gy, 2, none⟩ (.int .u32 (vI (p &&& d.al &&& d.aa)))).setCell ⟨gy, 3, none⟩ (.int .u32 (vI (x &&& d.ad)))).setCell ⟨gy, 4, none⟩ (.bool true))) := Lib.hid (((((HB6.out.setCell (p := ⟨gy, 0, none⟩) HG.out.1 _).setCell (p := ⟨gy, 1, none⟩) HG.out.1 _).setCell (p := ⟨gy, 2, none⟩) HG.out.1 _).setCell (p := ⟨gy, 3, none⟩) HG.out.1 _).setCell (p := ⟨gy, 4, none⟩) HG.out.1 _)
        clear x0 x1 x2 x3 x4 y0 y1 y2 y3 y4 f0 f1 f2 f3 f4
        generalize ((((W6.setCell ⟨gy, 0, none⟩ (.bool true)).setCell ⟨gy, 1, none⟩ (.int .u32 (vI x))).setCell ⟨gy, 2, none⟩ (.int .u32 (vI (p &&& d.al &&& d.aa)))).setCell ⟨gy, 3, none⟩ (.int .u32 (vI (x &&& d.ad)))).setCell ⟨gy, 4, none⟩ (.bool true) = W7 at *
        obtain ⟨y0, y1, y2, y3, y4⟩ := HR.out.c5
        refine bodyPost_ret (v := .agg #[.bool true, .int .u32 (vI x), .int .u32 (vI (p &&& d.al &&& d.aa)), .int .u32 (vI (x &&& d.ad)), .bool true]) (by simp [results, Try.results15, go_sem, y0, y1, y2, y3, y4]) rfl ⟨?_, by first | exact HB7.out | (rw [hgx]; exact HB7.out)⟩
        simp [jg, HX.out, HPM.out, hx0]
set_option maxRecDepth 100000 in
set_option maxHeartbeats 8000000 in
theorem audited_c : Calls Try.prog 16 #[.agg #[.bool v.g, .int .u32 (vI v.dn), .int .u32 (vI v.ag), .int .u32 (vI v.ad), .bool v.pm]] w fun r w' => r = .returned (.int .u32 (vI (v.ag ||| v.ad))) ∧ Below w.heap.size w w' := by
  have HB : Hid (Below w.heap.size w (w.alloc (.cells #[.bool v.g, .int .u32 (vI v.dn), .int .u32 (vI v.ag), .int .u32 (vI v.ad), .bool v.pm] 41))) := Lib.hid ((Below.refl _ _).alloc (Nat.le_refl _) _)
  have HV : Hid (Blk (w.alloc (.cells #[.bool v.g, .int .u32 (vI v.dn), .int .u32 (vI v.ag), .int .u32 (vI v.ad), .bool v.pm] 41)) w.heap.size 41 #[.bool v.g, .int .u32 (vI v.dn), .int .u32 (vI v.ag), .int .u32 (vI v.ad), .bool v.pm]) := Lib.hid (Blk.here rfl)
  go_enter Try.func16, Try.ntmps16
  go_upto_region 1 with fail
  generalize w.alloc (.cells #[.bool v.g, .int .u32 (vI v.dn), .int .u32 (vI v.ag), .int .u32 (vI v.ad), .bool v.pm] 41) = W at *
  generalize hgx : w.heap.size = gx at *
  obtain ⟨c0, c1, c2, c3, c4⟩ := HV.out.c5
  go_wp2_with fail
  go_ret
  exact ⟨rfl, by first | exact HB.out | (rw [hgx]; exact HB.out)⟩
set_option maxRecDepth 100000 in
set_option maxHeartbeats 8000000 in
theorem raudited_c : Calls Try.prog 17 #[.agg #[.bool v.g, .int .u32 (vI v.dn), .int .u32 (vI v.ag), .int .u32 (vI v.ad), .bool v.pm]] w fun r w' => r = .returned (.int .u32 (vI (v.ag ||| v.ad))) ∧ Below w.heap.size w w' := by
  have HB : Hid (Below w.heap.size w (w.alloc (.cells #[.bool v.g, .int .u32 (vI v.dn), .int .u32 (vI v.ag), .int .u32 (vI v.ad), .bool v.pm] 41))) := Lib.hid ((Below.refl _ _).alloc (Nat.le_refl _) _)
  have HV : Hid (Blk (w.alloc (.cells #[.bool v.g, .int .u32 (vI v.dn), .int .u32 (vI v.ag), .int .u32 (vI v.ad), .bool v.pm] 41)) w.heap.size 41 #[.bool v.g, .int .u32 (vI v.dn), .int .u32 (vI v.ag), .int .u32 (vI v.ad), .bool v.pm]) := Lib.hid (Blk.here rfl)
  go_enter Try.func17, Try.ntmps17
  go_upto_region 1 with fail
  generalize w.alloc (.cells #[.bool v.g, .int .u32 (vI v.dn), .int .u32 (vI v.ag), .int .u32 (vI v.ad), .bool v.pm] 41) = W at *
  generalize hgx : w.heap.size = gx at *
  obtain ⟨c0, c1, c2, c3, c4⟩ := HV.out.c5
  go_wp2_with fail
  go_ret
  exact ⟨rfl, by first | exact HB.out | (rw [hgx]; exact HB.out)⟩
end
end Go.Proofs.Ytbcbhgclgakljaa
