/- Worst, of the program and of the reference. -/
import Derived.Test.YtbcbhgclgakljaaMdc
namespace Go.Proofs.Ytbcbhgclgakljaa
open Go.RowKit
set_option maxRecDepth 100000 in
set_option maxHeartbeats 8000000 in
theorem joined_n (g1 g2 p1 p2 : Bool) (d1 a1 e1 d2 a2 e2 : BitVec 32) (w : World) : Calls Try.prog 45 #[.agg #[.bool g1, .int .u32 (vI d1), .int .u32 (vI a1), .int .u32 (vI e1), .bool p1], .agg #[.bool g2, .int .u32 (vI d2), .int .u32 (vI a2), .int .u32 (vI e2), .bool p2]] w fun r w' => r = .returned (.agg #[.bool (g1 && g2), .int .u32 (vI (d1 ||| d2)), .int .u32 (vI (a1 ||| a2)), .int .u32 (vI (e1 ||| e2)), .bool (p1 || p2)]) ∧ Below w.heap.size w w' := by
  have HB : Hid (Below w.heap.size w (((w.alloc (.cells #[.bool g1, .int .u32 (vI d1), .int .u32 (vI a1), .int .u32 (vI e1), .bool p1] 41)).alloc (.cells #[.bool g2, .int .u32 (vI d2), .int .u32 (vI a2), .int .u32 (vI e2), .bool p2] 41)).alloc (.cells #[.bool false, .int .u32 0, .int .u32 0, .int .u32 0, .bool false] 41))) := Lib.hid ((((Below.refl _ _).alloc (Nat.le_refl _) _).alloc (by simp) _).alloc (by simp; omega) _)
  have H2 : Hid (Blk (((w.alloc (.cells #[.bool g1, .int .u32 (vI d1), .int .u32 (vI a1), .int .u32 (vI e1), .bool p1] 41)).alloc (.cells #[.bool g2, .int .u32 (vI d2), .int .u32 (vI a2), .int .u32 (vI e2), .bool p2] 41)).alloc (.cells #[.bool false, .int .u32 0, .int .u32 0, .int .u32 0, .bool false] 41)) w.heap.size 41 #[.bool g1, .int .u32 (vI d1), .int .u32 (vI a1), .int .u32 (vI e1), .bool p1]) := Lib.hid (((Blk.here rfl).alloc _).alloc _)
  have H3 : Hid (Blk (((w.alloc (.cells #[.bool g1, .int .u32 (vI d1), .int .u32 (vI a1), .int .u32 (vI e1), .bool p1] 41)).alloc (.cells #[.bool g2, .int .u32 (vI d2), .int .u32 (vI a2), .int .u32 (vI e2), .bool p2] 41)).alloc (.cells #[.bool false, .int .u32 0, .int .u32 0, .int .u32 0, .bool false] 41)) (w.heap.size + 1) 41 #[.bool g2, .int .u32 (vI d2), .int .u32 (vI a2), .int .u32 (vI e2), .bool p2]) := Lib.hid ((Blk.here (by simp)).alloc _)
  have H4 : Hid (Blk (((w.alloc (.cells #[.bool g1, .int .u32 (vI d1), .int .u32 (vI a1), .int .u32 (vI e1), .bool p1] 41)).alloc (.cells #[.bool g2, .int .u32 (vI d2), .int .u32 (vI a2), .int .u32 (vI e2), .bool p2] 41)).alloc (.cells #[.bool false, .int .u32 0, .int .u32 0, .int .u32 0, .bool false] 41)) (w.heap.size + 1 + 1) 41 #[.bool false, .int .u32 0, .int .u32 0, .int .u32 0, .bool false]) := Lib.hid (Blk.here (by simp))
  have hne : w.heap.size ≠ w.heap.size + 1 + 1 ∧ w.heap.size + 1 ≠ w.heap.size + 1 + 1 := by omega
  have HG : Hid (w.heap.size ≤ w.heap.size + 1 + 1) := Lib.hid (by omega)
  go_enter Try.func45, Try.ntmps45
  go_upto_region 1 with fail
  generalize ((w.alloc (.cells #[.bool g1, .int .u32 (vI d1), .int .u32 (vI a1), .int .u32 (vI e1), .bool p1] 41)).alloc (.cells #[.bool g2, .int .u32 (vI d2), .int .u32 (vI a2), .int .u32 (vI e2), .bool p2] 41)).alloc (.cells #[.bool false, .int .u32 0, .int .u32 0, .int .u32 0, .bool false] 41) = W1 at *
  generalize w.heap.size + 1 + 1 = g4 at *
  generalize w.heap.size + 1 = g3 at *
  generalize hgx : w.heap.size = gx at *
  obtain ⟨c0, c1, c2, c3, c4⟩ := H2.out.c5
  obtain ⟨x0, x1, x2, x3, x4⟩ := H3.out.c5
  obtain ⟨y0, y1, y2, y3, y4⟩ := H4.out.c5
  obtain ⟨f0, f1, f2, f3, f4⟩ := H4.out.f5
  cases g1
  · skip
    cases p1
    · skip
      go_wp2_with fail
      have HR : Hid (Blk (((((W1.setCell ⟨g4, 0, none⟩ (.bool false)).setCell ⟨g4, 1, none⟩ (.int .u32 (vI (d1 ||| d2)))).setCell ⟨g4, 2, none⟩ (.int .u32 (vI (a1 ||| a2)))).setCell ⟨g4, 3, none⟩ (.int .u32 (vI (e1 ||| e2)))).setCell ⟨g4, 4, none⟩ (.bool p2)) g4 41 #[.bool false, .int .u32 (vI (d1 ||| d2)), .int .u32 (vI (a1 ||| a2)), .int .u32 (vI (e1 ||| e2)), .bool p2]) := Lib.hid (by simpa using ((((H4.out.set 0 (.bool false)).set 1 (.int .u32 (vI (d1 ||| d2)))).set 2 (.int .u32 (vI (a1 ||| a2)))).set 3 (.int .u32 (vI (e1 ||| e2)))).set 4 (.bool p2))
      have HB7 : Hid (Below gx w (((((W1.setCell ⟨g4, 0, none⟩ (.bool false)).setCell ⟨g4, 1, none⟩ (.int .u32 (vI (d1 ||| d2)))).setCell ⟨g4, 2, none⟩ (.int .u32 (vI (a1 ||| a2)))).setCell ⟨g4, 3, none⟩ (.int .u32 (vI (e1 ||| e2)))).setCell ⟨g4, 4, none⟩ (.bool p2))) := Lib.hid (((((HB.out.setCell (p := ⟨g4, 0, none⟩) HG.out _).setCell (p := ⟨g4, 1, none⟩) HG.out _).setCell (p := ⟨g4, 2, none⟩) HG.out _).setCell (p := ⟨g4, 3, none⟩) HG.out _).setCell (p := ⟨g4, 4, none⟩) HG.out _)
      clear c0 c1 c2 c3 c4 x0 x1 x2 x3 x4 f0 f1 f2 f3 f4 y0 y1 y2 y3 y4
      generalize ((((W1.setCell ⟨g4, 0, none⟩ (.bool false)).setCell ⟨g4, 1, none⟩ (.int .u32 (vI (d1 ||| d2)))).setCell ⟨g4, 2, none⟩ (.int .u32 (vI (a1 ||| a2)))).setCell ⟨g4, 3, none⟩ (.int .u32 (vI (e1 ||| e2)))).setCell ⟨g4, 4, none⟩ (.bool p2) = W9 at *
      obtain ⟨y0, y1, y2, y3, y4⟩ := HR.out.c5
      refine bodyPost_ret (v := .agg #[.bool false, .int .u32 (vI (d1 ||| d2)), .int .u32 (vI (a1 ||| a2)), .int .u32 (vI (e1 ||| e2)), .bool p2]) (by simp [results, Try.results45, go_sem, y0, y1, y2, y3, y4]) rfl ⟨by simp, by first | exact HB7.out | (rw [hgx]; exact HB7.out)⟩
    · skip
      go_wp2_with fail
      have HR : Hid (Blk (((((W1.setCell ⟨g4, 0, none⟩ (.bool false)).setCell ⟨g4, 1, none⟩ (.int .u32 (vI (d1 ||| d2)))).setCell ⟨g4, 2, none⟩ (.int .u32 (vI (a1 ||| a2)))).setCell ⟨g4, 3, none⟩ (.int .u32 (vI (e1 ||| e2)))).setCell ⟨g4, 4, none⟩ (.bool true)) g4 41 #[.bool false, .int .u32 (vI (d1 ||| d2)), .int .u32 (vI (a1 ||| a2)), .int .u32 (vI (e1 ||| e2)), .bool true]) := Lib.hid (by simpa using ((((H4.out.set 0 (.bool false)).set 1 (.int .u32 (vI (d1 ||| d2)))).set 2 (.int .u32 (vI (a1 ||| a2)))).set 3 (.int .u32 (vI (e1 ||| e2)))).set 4 (.bool true))
      have HB7 : Hid (Below gx w (((((W1.setCell ⟨g4, 0, none⟩ (.bool false)).setCell ⟨g4, 1, none⟩ (.int .u32 (vI (d1 ||| d2)))).setCell ⟨g4, 2, none⟩ (.int .u32 (vI (a1 ||| a2)))).setCell ⟨g4, 3, none⟩ (.int .u32 (vI (e1 ||| e2)))).setCell ⟨g4, 4, none⟩ (.bool true))) := Lib.hid (((((HB.out.setCell (p := ⟨g4, 0, none⟩) HG.out _).setCell (p := ⟨g4, 1, none⟩) HG.out _).setCell (p := ⟨g4, 2, none⟩) HG.out _).setCell (p := ⟨g4, 3, none⟩) HG.out _).setCell (p := ⟨g4, 4, none⟩) HG.out _)
      clear c0 c1 c2 c3 c4 x0 x1 x2 x3 x4 f0 f1 f2 f3 f4 y0 y1 y2 y3 y4
      generalize ((((W1.setCell ⟨g4, 0, none⟩ (.bool false)).setCell ⟨g4, 1, none⟩ (.int .u32 (vI (d1 ||| d2)))).setCell ⟨g4, 2, none⟩ (.int .u32 (vI (a1 ||| a2)))).setCell ⟨g4, 3, none⟩ (.int .u32 (vI (e1 ||| e2)))).setCell ⟨g4, 4, none⟩ (.bool true) = W9 at *
      obtain ⟨y0, y1, y2, y3, y4⟩ := HR.out.c5
      refine bodyPost_ret (v := .agg #[.bool false, .int .u32 (vI (d1 ||| d2)), .int .u32 (vI (a1 ||| a2)), .int .u32 (vI (e1 ||| e2)), .bool true]) (by simp [results, Try.results45, go_sem, y0, y1, y2, y3, y4]) rfl ⟨by simp, by first | exact HB7.out | (rw [hgx]; exact HB7.out)⟩
  · skip
    cases p1
    · skip
      go_wp2_with fail
      have HR : Hid (Blk (((((W1.setCell ⟨g4, 0, none⟩ (.bool g2)).setCell ⟨g4, 1, none⟩ (.int .u32 (vI (d1 ||| d2)))).setCell ⟨g4, 2, none⟩ (.int .u32 (vI (a1 ||| a2)))).setCell ⟨g4, 3, none⟩ (.int .u32 (vI (e1 ||| e2)))).setCell ⟨g4, 4, none⟩ (.bool p2)) g4 41 #[.bool g2, .int .u32 (vI (d1 ||| d2)), .int .u32 (vI (a1 ||| a2)), .int .u32 (vI (e1 ||| e2)), .bool p2]) := Lib.hid (by simpa using ((((H4.out.set 0 (.bool g2)).set 1 (.int .u32 (vI (d1 ||| d2)))).set 2 (.int .u32 (vI (a1 ||| a2)))).set 3 (.int .u32 (vI (e1 ||| e2)))).set 4 (.bool p2))
      have HB7 : Hid (Below gx w (((((W1.setCell ⟨g4, 0, none⟩ (.bool g2)).setCell ⟨g4, 1, none⟩ (.int .u32 (vI (d1 ||| d2)))).setCell ⟨g4, 2, none⟩ (.int .u32 (vI (a1 ||| a2)))).setCell ⟨g4, 3, none⟩ (.int .u32 (vI (e1 ||| e2)))).setCell ⟨g4, 4, none⟩ (.bool p2))) := Lib.hid (((((HB.out.setCell (p := ⟨g4, 0, none⟩) HG.out _).setCell (p := ⟨g4, 1, none⟩) HG.out _).setCell (p := ⟨g4, 2, none⟩) HG.out _).setCell (p := ⟨g4, 3, none⟩) HG.out _).setCell (p := ⟨g4, 4, none⟩) HG.out _)
      clear c0 c1 c2 c3 c4 x0 x1 x2 x3 x4 f0 f1 f2 f3 f4 y0 y1 y2 y3 y4
      generalize ((((W1.setCell ⟨g4, 0, none⟩ (.bool g2)).setCell ⟨g4, 1, none⟩ (.int .u32 (vI (d1 ||| d2)))).setCell ⟨g4, 2, none⟩ (.int .u32 (vI (a1 ||| a2)))).setCell ⟨g4, 3, none⟩ (.int .u32 (vI (e1 ||| e2)))).setCell ⟨g4, 4, none⟩ (.bool p2) = W9 at *
      obtain ⟨y0, y1, y2, y3, y4⟩ := HR.out.c5
      refine bodyPost_ret (v := .agg #[.bool g2, .int .u32 (vI (d1 ||| d2)), .int .u32 (vI (a1 ||| a2)), .int .u32 (vI (e1 ||| e2)), .bool p2]) (by simp [results, Try.results45, go_sem, y0, y1, y2, y3, y4]) rfl ⟨by simp, by first | exact HB7.out | (rw [hgx]; exact HB7.out)⟩
    · skip
      go_wp2_with fail
      have HR : Hid (Blk (((((W1.setCell ⟨g4, 0, none⟩ (.bool g2)).setCell ⟨g4, 1, none⟩ (.int .u32 (vI (d1 ||| d2)))).setCell ⟨g4, 2, none⟩ (.int .u32 (vI (a1 ||| a2)))).setCell ⟨g4, 3, none⟩ (.int .u32 (vI (e1 ||| e2)))).setCell ⟨g4, 4, none⟩ (.bool true)) g4 41 #[.bool g2, .int .u32 (vI (d1 ||| d2)), .int .u32 (vI (a1 ||| a2)), .int .u32 (vI (e1 ||| e2)), .bool true]) := Lib.hid (by simpa using ((((H4.out.set 0 (.bool g2)).set 1 (.int .u32 (vI (d1 ||| d2)))).set 2 (.int .u32 (vI (a1 ||| a2)))).set 3 (.int .u32 (vI (e1 ||| e2)))).set 4 (.bool true))
      have HB7 : Hid (Below gx w (((((W1.setCell ⟨g4, 0, none⟩ (.bool g2)).setCell ⟨g4, 1, none⟩ (.int .u32 (vI (d1 ||| d2)))).setCell ⟨g4, 2, none⟩ (.int .u32 (vI (a1 ||| a2)))).setCell ⟨g4, 3, none⟩ (.int .u32 (vI (e1 ||| e2)))).setCell ⟨g4, 4, none⟩ (.bool true))) := Lib.hid (((((HB.out.setCell (p := ⟨g4, 0, none⟩) HG.out _).setCell (p := ⟨g4, 1, none⟩) HG.out _).setCell (p := ⟨g4, 2, none⟩) HG.out _).setCell (p := ⟨g4, 3, none⟩) HG.out _).setCell (p := ⟨g4, 4, none⟩) HG.out _)
      clear c0 c1 c2 c3 c4 x0 x1 x2 x3 x4 f0 f1 f2 f3 f4 y0 y1 y2 y3 y4
      generalize ((((W1.setCell ⟨g4, 0, none⟩ (.bool g2)).setCell ⟨g4, 1, none⟩ (.int .u32 (vI (d1 ||| d2)))).setCell ⟨g4, 2, none⟩ (.int .u32 (vI (a1 ||| a2)))).setCell ⟨g4, 3, none⟩ (.int .u32 (vI (e1 ||| e2)))).setCell ⟨g4, 4, none⟩ (.bool true) = W9 at *
      obtain ⟨y0, y1, y2, y3, y4⟩ := HR.out.c5
      refine bodyPost_ret (v := .agg #[.bool g2, .int .u32 (vI (d1 ||| d2)), .int .u32 (vI (a1 ||| a2)), .int .u32 (vI (e1 ||| e2)), .bool true]) (by simp [results, Try.results45, go_sem, y0, y1, y2, y3, y4]) rfl ⟨by simp, by first | exact HB7.out | (rw [hgx]; exact HB7.out)⟩
set_option maxRecDepth 100000 in
set_option maxHeartbeats 8000000 in
theorem rworst_n (g1 g2 p1 p2 : Bool) (d1 a1 e1 d2 a2 e2 : BitVec 32) (w : World) : Calls Try.prog 26 #[.agg #[.bool g1, .int .u32 (vI d1), .int .u32 (vI a1), .int .u32 (vI e1), .bool p1], .agg #[.bool g2, .int .u32 (vI d2), .int .u32 (vI a2), .int .u32 (vI e2), .bool p2]] w fun r w' => r = .returned (.agg #[.bool (g1 && g2), .int .u32 (vI (d1 ||| d2)), .int .u32 (vI (a1 ||| a2)), .int .u32 (vI (e1 ||| e2)), .bool (g1 && g2 && (p1 || p2))]) ∧ Below w.heap.size w w' := by
  have HB : Hid (Below w.heap.size w (((w.alloc (.cells #[.bool g1, .int .u32 (vI d1), .int .u32 (vI a1), .int .u32 (vI e1), .bool p1] 41)).alloc (.cells #[.bool g2, .int .u32 (vI d2), .int .u32 (vI a2), .int .u32 (vI e2), .bool p2] 41)).alloc (.cells #[.bool false, .int .u32 0, .int .u32 0, .int .u32 0, .bool false] 41))) := Lib.hid ((((Below.refl _ _).alloc (Nat.le_refl _) _).alloc (by simp) _).alloc (by simp; omega) _)
  have H2 : Hid (Blk (((w.alloc (.cells #[.bool g1, .int .u32 (vI d1), .int .u32 (vI a1), .int .u32 (vI e1), .bool p1] 41)).alloc (.cells #[.bool g2, .int .u32 (vI d2), .int .u32 (vI a2), .int .u32 (vI e2), .bool p2] 41)).alloc (.cells #[.bool false, .int .u32 0, .int .u32 0, .int .u32 0, .bool false] 41)) w.heap.size 41 #[.bool g1, .int .u32 (vI d1), .int .u32 (vI a1), .int .u32 (vI e1), .bool p1]) := Lib.hid (((Blk.here rfl).alloc _).alloc _)
  have H3 : Hid (Blk (((w.alloc (.cells #[.bool g1, .int .u32 (vI d1), .int .u32 (vI a1), .int .u32 (vI e1), .bool p1] 41)).alloc (.cells #[.bool g2, .int .u32 (vI d2), .int .u32 (vI a2), .int .u32 (vI e2), .bool p2] 41)).alloc (.cells #[.bool false, .int .u32 0, .int .u32 0, .int .u32 0, .bool false] 41)) (w.heap.size + 1) 41 #[.bool g2, .int .u32 (vI d2), .int .u32 (vI a2), .int .u32 (vI e2), .bool p2]) := Lib.hid ((Blk.here (by simp)).alloc _)
  have H4 : Hid (Blk (((w.alloc (.cells #[.bool g1, .int .u32 (vI d1), .int .u32 (vI a1), .int .u32 (vI e1), .bool p1] 41)).alloc (.cells #[.bool g2, .int .u32 (vI d2), .int .u32 (vI a2), .int .u32 (vI e2), .bool p2] 41)).alloc (.cells #[.bool false, .int .u32 0, .int .u32 0, .int .u32 0, .bool false] 41)) (w.heap.size + 1 + 1) 41 #[.bool false, .int .u32 0, .int .u32 0, .int .u32 0, .bool false]) := Lib.hid (Blk.here (by simp))
  have hne : w.heap.size ≠ w.heap.size + 1 + 1 ∧ w.heap.size + 1 ≠ w.heap.size + 1 + 1 := by omega
  have HG : Hid (w.heap.size ≤ w.heap.size + 1 + 1) := Lib.hid (by omega)
  go_enter Try.func26, Try.ntmps26
  go_upto_region 1 with fail
  generalize ((w.alloc (.cells #[.bool g1, .int .u32 (vI d1), .int .u32 (vI a1), .int .u32 (vI e1), .bool p1] 41)).alloc (.cells #[.bool g2, .int .u32 (vI d2), .int .u32 (vI a2), .int .u32 (vI e2), .bool p2] 41)).alloc (.cells #[.bool false, .int .u32 0, .int .u32 0, .int .u32 0, .bool false] 41) = W1 at *
  generalize w.heap.size + 1 + 1 = g4 at *
  generalize w.heap.size + 1 = g3 at *
  generalize hgx : w.heap.size = gx at *
  obtain ⟨c0, c1, c2, c3, c4⟩ := H2.out.c5
  obtain ⟨x0, x1, x2, x3, x4⟩ := H3.out.c5
  obtain ⟨y0, y1, y2, y3, y4⟩ := H4.out.c5
  obtain ⟨f0, f1, f2, f3, f4⟩ := H4.out.f5
  cases g1
  · skip
    cases g2
    · skip
      cases p1
      · skip
        go_wp2_with fail
        have HR : Hid (Blk (((((W1.setCell ⟨g4, 0, none⟩ (.bool false)).setCell ⟨g4, 1, none⟩ (.int .u32 (vI (d1 ||| d2)))).setCell ⟨g4, 2, none⟩ (.int .u32 (vI (a1 ||| a2)))).setCell ⟨g4, 3, none⟩ (.int .u32 (vI (e1 ||| e2)))).setCell ⟨g4, 4, none⟩ (.bool false)) g4 41 #[.bool false, .int .u32 (vI (d1 ||| d2)), .int .u32 (vI (a1 ||| a2)), .int .u32 (vI (e1 ||| e2)), .bool false]) := Lib.hid (by simpa using ((((H4.out.set 0 (.bool false)).set 1 (.int .u32 (vI (d1 ||| d2)))).set 2 (.int .u32 (vI (a1 ||| a2)))).set 3 (.int .u32 (vI (e1 ||| e2)))).set 4 (.bool false))
        have HB7 : Hid (Below gx w (((((W1.setCell ⟨g4, 0, none⟩ (.bool false)).setCell ⟨g4, 1, none⟩ (.int .u32 (vI (d1 ||| d2)))).setCell ⟨g4, 2, none⟩ (.int .u32 (vI (a1 ||| a2)))).setCell ⟨g4, 3, none⟩ (.int .u32 (vI (e1 ||| e2)))).setCell ⟨g4, 4, none⟩ (.bool false))) := Lib.hid (((((HB.out.setCell (p := ⟨g4, 0, none⟩) HG.out _).setCell (p := ⟨g4, 1, none⟩) HG.out _).setCell (p := ⟨g4, 2, none⟩) HG.out _).setCell (p := ⟨g4, 3, none⟩) HG.out _).setCell (p := ⟨g4, 4, none⟩) HG.out _)
        clear c0 c1 c2 c3 c4 x0 x1 x2 x3 x4 f0 f1 f2 f3 f4 y0 y1 y2 y3 y4
        generalize ((((W1.setCell ⟨g4, 0, none⟩ (.bool false)).setCell ⟨g4, 1, none⟩ (.int .u32 (vI (d1 ||| d2)))).setCell ⟨g4, 2, none⟩ (.int .u32 (vI (a1 ||| a2)))).setCell ⟨g4, 3, none⟩ (.int .u32 (vI (e1 ||| e2)))).setCell ⟨g4, 4, none⟩ (.bool false) = W9 at *
        obtain ⟨y0, y1, y2, y3, y4⟩ := HR.out.c5
        refine bodyPost_ret (v := .agg #[.bool false, .int .u32 (vI (d1 ||| d2)), .int .u32 (vI (a1 ||| a2)), .int .u32 (vI (e1 ||| e2)), .bool false]) (by simp [results, Try.results26, go_sem, y0, y1, y2, y3, y4]) rfl ⟨by simp, by first | exact HB7.out | (rw [hgx]; exact HB7.out)⟩
      · skip
        go_wp2_with fail
        have HR : Hid (Blk (((((W1.setCell ⟨g4, 0, none⟩ (.bool false)).setCell ⟨g4, 1, none⟩ (.int .u32 (vI (d1 ||| d2)))).setCell ⟨g4, 2, none⟩ (.int .u32 (vI (a1 ||| a2)))).setCell ⟨g4, 3, none⟩ (.int .u32 (vI (e1 ||| e2)))).setCell ⟨g4, 4, none⟩ (.bool false)) g4 41 #[.bool false, .int .u32 (vI (d1 ||| d2)), .int .u32 (vI (a1 ||| a2)), .int .u32 (vI (e1 ||| e2)), .bool false]) := Lib.hid (by simpa using ((((H4.out.set 0 (.bool false)).set 1 (.int .u32 (vI (d1 ||| d2)))).set 2 (.int .u32 (vI (a1 ||| a2)))).set 3 (.int .u32 (vI (e1 ||| e2)))).set 4 (.bool false))
        have HB7 : Hid (Below gx w (((((W1.setCell ⟨g4, 0, none⟩ (.bool false)).setCell ⟨g4, 1, none⟩ (.int .u32 (vI (d1 ||| d2)))).setCell ⟨g4, 2, none⟩ (.int .u32 (vI (a1 ||| a2)))).setCell ⟨g4, 3, none⟩ (.int .u32 (vI (e1 ||| e2)))).setCell ⟨g4, 4, none⟩ (.bool false))) := Lib.hid (((((HB.out.setCell (p := ⟨g4, 0, none⟩) HG.out _).setCell (p := ⟨g4, 1, none⟩) HG.out _).setCell (p := ⟨g4, 2, none⟩) HG.out _).setCell (p := ⟨g4, 3, none⟩) HG.out _).setCell (p := ⟨g4, 4, none⟩) HG.out _)
        clear c0 c1 c2 c3 c4 x0 x1 x2 x3 x4 f0 f1 f2 f3 f4 y0 y1 y2 y3 y4
        generalize ((((W1.setCell ⟨g4, 0, none⟩ (.bool false)).setCell ⟨g4, 1, none⟩ (.int .u32 (vI (d1 ||| d2)))).setCell ⟨g4, 2, none⟩ (.int .u32 (vI (a1 ||| a2)))).setCell ⟨g4, 3, none⟩ (.int .u32 (vI (e1 ||| e2)))).setCell ⟨g4, 4, none⟩ (.bool false) = W9 at *
        obtain ⟨y0, y1, y2, y3, y4⟩ := HR.out.c5
        refine bodyPost_ret (v := .agg #[.bool false, .int .u32 (vI (d1 ||| d2)), .int .u32 (vI (a1 ||| a2)), .int .u32 (vI (e1 ||| e2)), .bool false]) (by simp [results, Try.results26, go_sem, y0, y1, y2, y3, y4]) rfl ⟨by simp, by first | exact HB7.out | (rw [hgx]; exact HB7.out)⟩
    · skip
      cases p1
      · skip
        go_wp2_with fail
        have HR : Hid (Blk (((((W1.setCell ⟨g4, 0, none⟩ (.bool false)).setCell ⟨g4, 1, none⟩ (.int .u32 (vI (d1 ||| d2)))).setCell ⟨g4, 2, none⟩ (.int .u32 (vI (a1 ||| a2)))).setCell ⟨g4, 3, none⟩ (.int .u32 (vI (e1 ||| e2)))).setCell ⟨g4, 4, none⟩ (.bool false)) g4 41 #[.bool false, .int .u32 (vI (d1 ||| d2)), .int .u32 (vI (a1 ||| a2)), .int .u32 (vI (e1 ||| e2)), .bool false]) := Lib.hid (by simpa using ((((H4.out.set 0 (.bool false)).set 1 (.int .u32 (vI (d1 ||| d2)))).set 2 (.int .u32 (vI (a1 ||| a2)))).set 3 (.int .u32 (vI (e1 ||| e2)))).set 4 (.bool false))
        have HB7 : Hid (Below gx w (((((W1.setCell ⟨g4, 0, none⟩ (.bool false)).setCell ⟨g4, 1, none⟩ (.int .u32 (vI (d1 ||| d2)))).setCell ⟨g4, 2, none⟩ (.int .u32 (vI (a1 ||| a2)))).setCell ⟨g4, 3, none⟩ (.int .u32 (vI (e1 ||| e2)))).setCell ⟨g4, 4, none⟩ (.bool false))) := Lib.hid (((((HB.out.setCell (p := ⟨g4, 0, none⟩) HG.out _).setCell (p := ⟨g4, 1, none⟩) HG.out _).setCell (p := ⟨g4, 2, none⟩) HG.out _).setCell (p := ⟨g4, 3, none⟩) HG.out _).setCell (p := ⟨g4, 4, none⟩) HG.out _)
        clear c0 c1 c2 c3 c4 x0 x1 x2 x3 x4 f0 f1 f2 f3 f4 y0 y1 y2 y3 y4
        generalize ((((W1.setCell ⟨g4, 0, none⟩ (.bool false)).setCell ⟨g4, 1, none⟩ (.int .u32 (vI (d1 ||| d2)))).setCell ⟨g4, 2, none⟩ (.int .u32 (vI (a1 ||| a2)))).setCell ⟨g4, 3, none⟩ (.int .u32 (vI (e1 ||| e2)))).setCell ⟨g4, 4, none⟩ (.bool false) = W9 at *
        obtain ⟨y0, y1, y2, y3, y4⟩ := HR.out.c5
        refine bodyPost_ret (v := .agg #[.bool false, .int .u32 (vI (d1 ||| d2)), .int .u32 (vI (a1 ||| a2)), .int .u32 (vI (e1 ||| e2)), .bool false]) (by simp [results, Try.results26, go_sem, y0, y1, y2, y3, y4]) rfl ⟨by simp, by first | exact HB7.out | (rw [hgx]; exact HB7.out)⟩
      · skip
        go_wp2_with fail
        have HR : Hid (Blk (((((W1.setCell ⟨g4, 0, none⟩ (.bool false)).setCell ⟨g4, 1, none⟩ (.int .u32 (vI (d1 ||| d2)))).setCell ⟨g4, 2, none⟩ (.int .u32 (vI (a1 ||| a2)))).setCell ⟨g4, 3, none⟩ (.int .u32 (vI (e1 ||| e2)))).setCell ⟨g4, 4, none⟩ (.bool false)) g4 41 #[.bool false, .int .u32 (vI (d1 ||| d2)), .int .u32 (vI (a1 ||| a2)), .int .u32 (vI (e1 ||| e2)), .bool false]) := Lib.hid (by simpa using ((((H4.out.set 0 (.bool false)).set 1 (.int .u32 (vI (d1 ||| d2)))).set 2 (.int .u32 (vI (a1 ||| a2)))).set 3 (.int .u32 (vI (e1 ||| e2)))).set 4 (.bool false))
        have HB7 : Hid (Below gx w (((((W1.setCell ⟨g4, 0, none⟩ (.bool false)).setCell ⟨g4, 1, none⟩ (.int .u32 (vI (d1 ||| d2)))).setCell ⟨g4, 2, none⟩ (.int .u32 (vI (a1 ||| a2)))).setCell ⟨g4, 3, none⟩ (.int .u32 (vI (e1 ||| e2)))).setCell ⟨g4, 4, none⟩ (.bool false))) := Lib.hid (((((HB.out.setCell (p := ⟨g4, 0, none⟩) HG.out _).setCell (p := ⟨g4, 1, none⟩) HG.out _).setCell (p := ⟨g4, 2, none⟩) HG.out _).setCell (p := ⟨g4, 3, none⟩) HG.out _).setCell (p := ⟨g4, 4, none⟩) HG.out _)
        clear c0 c1 c2 c3 c4 x0 x1 x2 x3 x4 f0 f1 f2 f3 f4 y0 y1 y2 y3 y4
        generalize ((((W1.setCell ⟨g4, 0, none⟩ (.bool false)).setCell ⟨g4, 1, none⟩ (.int .u32 (vI (d1 ||| d2)))).setCell ⟨g4, 2, none⟩ (.int .u32 (vI (a1 ||| a2)))).setCell ⟨g4, 3, none⟩ (.int .u32 (vI (e1 ||| e2)))).setCell ⟨g4, 4, none⟩ (.bool false) = W9 at *
        obtain ⟨y0, y1, y2, y3, y4⟩ := HR.out.c5
        refine bodyPost_ret (v := .agg #[.bool false, .int .u32 (vI (d1 ||| d2)), .int .u32 (vI (a1 ||| a2)), .int .u32 (vI (e1 ||| e2)), .bool false]) (by simp [results, Try.results26, go_sem, y0, y1, y2, y3, y4]) rfl ⟨by simp, by first | exact HB7.out | (rw [hgx]; exact HB7.out)⟩
  · skip
    cases g2
    · skip
      cases p1
      · skip
        go_wp2_with fail
        have HR : Hid (Blk (((((W1.setCell ⟨g4, 0, none⟩ (.bool false)).setCell ⟨g4, 1, none⟩ (.int .u32 (vI (d1 ||| d2)))).setCell ⟨g4, 2, none⟩ (.int .u32 (vI (a1 ||| a2)))).setCell ⟨g4, 3, none⟩ (.int .u32 (vI (e1 ||| e2)))).setCell ⟨g4, 4, none⟩ (.bool false)) g4 41 #[.bool false, .int .u32 (vI (d1 ||| d2)), .int .u32 (vI (a1 ||| a2)), .int .u32 (vI (e1 ||| e2)), .bool false]) := Lib.hid (by simpa using ((((H4.out.set 0 (.bool false)).set 1 (.int .u32 (vI (d1 ||| d2)))).set 2 (.int .u32 (vI (a1 ||| a2)))).set 3 (.int .u32 (vI (e1 ||| e2)))).set 4 (.bool false))
        have HB7 : Hid (Below gx w (((((W1.setCell ⟨g4, 0, none⟩ (.bool false)).setCell ⟨g4, 1, none⟩ (.int .u32 (vI (d1 ||| d2)))).setCell ⟨g4, 2, none⟩ (.int .u32 (vI (a1 ||| a2)))).setCell ⟨g4, 3, none⟩ (.int .u32 (vI (e1 ||| e2)))).setCell ⟨g4, 4, none⟩ (.bool false))) := Lib.hid (((((HB.out.setCell (p := ⟨g4, 0, none⟩) HG.out _).setCell (p := ⟨g4, 1, none⟩) HG.out _).setCell (p := ⟨g4, 2, none⟩) HG.out _).setCell (p := ⟨g4, 3, none⟩) HG.out _).setCell (p := ⟨g4, 4, none⟩) HG.out _)
        clear c0 c1 c2 c3 c4 x0 x1 x2 x3 x4 f0 f1 f2 f3 f4 y0 y1 y2 y3 y4
        generalize ((((W1.setCell ⟨g4, 0, none⟩ (.bool false)).setCell ⟨g4, 1, none⟩ (.int .u32 (vI (d1 ||| d2)))).setCell ⟨g4, 2, none⟩ (.int .u32 (vI (a1 ||| a2)))).setCell ⟨g4, 3, none⟩ (.int .u32 (vI (e1 ||| e2)))).setCell ⟨g4, 4, none⟩ (.bool false) = W9 at *
        obtain ⟨y0, y1, y2, y3, y4⟩ := HR.out.c5
        refine bodyPost_ret (v := .agg #[.bool false, .int .u32 (vI (d1 ||| d2)), .int .u32 (vI (a1 ||| a2)), .int .u32 (vI (e1 ||| e2)), .bool false]) (by simp [results, Try.results26, go_sem, y0, y1, y2, y3, y4]) rfl ⟨by simp, by first | exact HB7.out | (rw [hgx]; exact HB7.out)⟩
      · skip
        go_wp2_with fail
        have HR : Hid (Blk (((((W1.setCell ⟨g4, 0, none⟩ (.bool false)).setCell ⟨g4, 1, none⟩ (.int .u32 (vI (d1 ||| d2)))).setCell ⟨g4, 2, none⟩ (.int .u32 (vI (a1 ||| a2)))).setCell ⟨g4, 3, none⟩ (.int .u32 (vI (e1 ||| e2)))).setCell ⟨g4, 4, none⟩ (.bool false)) g4 41 #[.bool false, .int .u32 (vI (d1 ||| d2)), .int .u32 (vI (a1 ||| a2)), .int .u32 (vI (e1 ||| e2)), .bool false]) := Lib.hid (by simpa using ((((H4.out.set 0 (.bool false)).set 1 (.int .u32 (vI (d1 ||| d2)))).set 2 (.int .u32 (vI (a1 ||| a2)))).set 3 (.int .u32 (vI (e1 ||| e2)))).set 4 (.bool false))
        have HB7 : Hid (Below gx w (((((W1.setCell ⟨g4, 0, none⟩ (.bool false)).setCell ⟨g4, 1, none⟩ (.int .u32 (vI (d1 ||| d2)))).setCell ⟨g4, 2, none⟩ (.int .u32 (vI (a1 ||| a2)))).setCell ⟨g4, 3, none⟩ (.int .u32 (vI (e1 ||| e2)))).setCell ⟨g4, 4, none⟩ (.bool false))) := Lib.hid (((((HB.out.setCell (p := ⟨g4, 0, none⟩) HG.out _).setCell (p := ⟨g4, 1, none⟩) HG.out _).setCell (p := ⟨g4, 2, none⟩) HG.out _).setCell (p := ⟨g4, 3, none⟩) HG.out _).setCell (p := ⟨g4, 4, none⟩) HG.out _)
        clear c0 c1 c2 c3 c4 x0 x1 x2 x3 x4 f0 f1 f2 f3 f4 y0 y1 y2 y3 y4
        generalize ((((W1.setCell ⟨g4, 0, none⟩ (.bool false)).setCell ⟨g4, 1, none⟩ (.int .u32 (vI (d1 ||| d2)))).setCell ⟨g4, 2, none⟩ (.int .u32 (vI (a1 ||| a2)))).setCell ⟨g4, 3, none⟩ (.int .u32 (vI (e1 ||| e2)))).setCell ⟨g4, 4, none⟩ (.bool false) = W9 at *
        obtain ⟨y0, y1, y2, y3, y4⟩ := HR.out.c5
        refine bodyPost_ret (v := .agg #[.bool false, .int .u32 (vI (d1 ||| d2)), .int .u32 (vI (a1 ||| a2)), .int .u32 (vI (e1 ||| e2)), .bool false]) (by simp [results, Try.results26, go_sem, y0, y1, y2, y3, y4]) rfl ⟨by simp, by first | exact HB7.out | (rw [hgx]; exact HB7.out)⟩
    · skip
      cases p1
      · skip
        go_wp2_with fail
        have HR : Hid (Blk (((((W1.setCell ⟨g4, 0, none⟩ (.bool true)).setCell ⟨g4, 1, none⟩ (.int .u32 (vI (d1 ||| d2)))).setCell ⟨g4, 2, none⟩ (.int .u32 (vI (a1 ||| a2)))).setCell ⟨g4, 3, none⟩ (.int .u32 (vI (e1 ||| e2)))).setCell ⟨g4, 4, none⟩ (.bool p2)) g4 41 #[.bool true, .int .u32 (vI (d1 ||| d2)), .int .u32 (vI (a1 ||| a2)), .int .u32 (vI (e1 ||| e2)), .bool p2]) := Lib.hid (by simpa using ((((H4.out.set 0 (.bool true)).set 1 (.int .u32 (vI (d1 ||| d2)))).set 2 (.int .u32 (vI (a1 ||| a2)))).set 3 (.int .u32 (vI (e1 ||| e2)))).set 4 (.bool p2))
        have HB7 : Hid (Below gx w (((((W1.setCell ⟨g4, 0, none⟩ (.bool true)).setCell ⟨g4, 1, none⟩ (.int .u32 (vI (d1 ||| d2)))).setCell ⟨g4, 2, none⟩ (.int .u32 (vI (a1 ||| a2)))).setCell ⟨g4, 3, none⟩ (.int .u32 (vI (e1 ||| e2)))).setCell ⟨g4, 4, none⟩ (.bool p2))) := Lib.hid (((((HB.out.setCell (p := ⟨g4, 0, none⟩) HG.out _).setCell (p := ⟨g4, 1, none⟩) HG.out _).setCell (p := ⟨g4, 2, none⟩) HG.out _).setCell (p := ⟨g4, 3, none⟩) HG.out _).setCell (p := ⟨g4, 4, none⟩) HG.out _)
        clear c0 c1 c2 c3 c4 x0 x1 x2 x3 x4 f0 f1 f2 f3 f4 y0 y1 y2 y3 y4
        generalize ((((W1.setCell ⟨g4, 0, none⟩ (.bool true)).setCell ⟨g4, 1, none⟩ (.int .u32 (vI (d1 ||| d2)))).setCell ⟨g4, 2, none⟩ (.int .u32 (vI (a1 ||| a2)))).setCell ⟨g4, 3, none⟩ (.int .u32 (vI (e1 ||| e2)))).setCell ⟨g4, 4, none⟩ (.bool p2) = W9 at *
        obtain ⟨y0, y1, y2, y3, y4⟩ := HR.out.c5
        refine bodyPost_ret (v := .agg #[.bool true, .int .u32 (vI (d1 ||| d2)), .int .u32 (vI (a1 ||| a2)), .int .u32 (vI (e1 ||| e2)), .bool p2]) (by simp [results, Try.results26, go_sem, y0, y1, y2, y3, y4]) rfl ⟨by simp, by first | exact HB7.out | (rw [hgx]; exact HB7.out)⟩
      · skip
        go_wp2_with fail
        have HR : Hid (Blk (((((W1.setCell ⟨g4, 0, none⟩ (.bool true)).setCell ⟨g4, 1, none⟩ (.int .u32 (vI (d1 ||| d2)))).setCell ⟨g4, 2, none⟩ (.int .u32 (vI (a1 ||| a2)))).setCell ⟨g4, 3, none⟩ (.int .u32 (vI (e1 ||| e2)))).setCell ⟨g4, 4, none⟩ (.bool true)) g4 41 #[.bool true, .int .u32 (vI (d1 ||| d2)), .int .u32 (vI (a1 ||| a2)), .int .u32 (vI (e1 ||| e2)), .bool true]) := Lib.hid (by simpa using ((((H4.out.set 0 (.bool true)).set 1 (.int .u32 (vI (d1 ||| d2)))).set 2 (.int .u32 (vI (a1 ||| a2)))).set 3 (.int .u32 (vI (e1 ||| e2)))).set 4 (.bool true))
        have HB7 : Hid (Below gx w (((((W1.setCell ⟨g4, 0, none⟩ (.bool true)).setCell ⟨g4, 1, none⟩ (.int .u32 (vI (d1 ||| d2)))).setCell ⟨g4, 2, none⟩ (.int .u32 (vI (a1 ||| a2)))).setCell ⟨g4, 3, none⟩ (.int .u32 (vI (e1 ||| e2)))).setCell ⟨g4, 4, none⟩ (.bool true))) := Lib.hid (((((HB.out.setCell (p := ⟨g4, 0, none⟩) HG.out _).setCell (p := ⟨g4, 1, none⟩) HG.out _).setCell (p := ⟨g4, 2, none⟩) HG.out _).setCell (p := ⟨g4, 3, none⟩) HG.out _).setCell (p := ⟨g4, 4, none⟩) HG.out _)
        clear c0 c1 c2 c3 c4 x0 x1 x2 x3 x4 f0 f1 f2 f3 f4 y0 y1 y2 y3 y4
        generalize ((((W1.setCell ⟨g4, 0, none⟩ (.bool true)).setCell ⟨g4, 1, none⟩ (.int .u32 (vI (d1 ||| d2)))).setCell ⟨g4, 2, none⟩ (.int .u32 (vI (a1 ||| a2)))).setCell ⟨g4, 3, none⟩ (.int .u32 (vI (e1 ||| e2)))).setCell ⟨g4, 4, none⟩ (.bool true) = W9 at *
        obtain ⟨y0, y1, y2, y3, y4⟩ := HR.out.c5
        refine bodyPost_ret (v := .agg #[.bool true, .int .u32 (vI (d1 ||| d2)), .int .u32 (vI (a1 ||| a2)), .int .u32 (vI (e1 ||| e2)), .bool true]) (by simp [results, Try.results26, go_sem, y0, y1, y2, y3, y4]) rfl ⟨by simp, by first | exact HB7.out | (rw [hgx]; exact HB7.out)⟩
theorem rworst_c (a b : Vt) (w : World) : Calls Try.prog 26 #[.agg #[.bool a.g, .int .u32 (vI a.dn), .int .u32 (vI a.ag), .int .u32 (vI a.ad), .bool a.pm], .agg #[.bool b.g, .int .u32 (vI b.dn), .int .u32 (vI b.ag), .int .u32 (vI b.ad), .bool b.pm]] w fun r w' => r = .returned (.agg #[.bool (wst a b).g, .int .u32 (vI (wst a b).dn), .int .u32 (vI (wst a b).ag), .int .u32 (vI (wst a b).ad), .bool (wst a b).pm]) ∧ Below w.heap.size w w' := rworst_n a.g b.g a.pm b.pm a.dn a.ag a.ad b.dn b.ag b.ad w
set_option maxRecDepth 100000 in
set_option maxHeartbeats 8000000 in
theorem worst_same (g1 g2 p1 p2 : Bool) (d1 a1 e1 d2 a2 e2 : BitVec 32) (w : World) (hab : sameV ⟨g1, d1, a1, e1, p1⟩ ⟨g2, d2, a2, e2, p2⟩ = true) : Calls Try.prog 25 #[.agg #[.bool g1, .int .u32 (vI d1), .int .u32 (vI a1), .int .u32 (vI e1), .bool p1], .agg #[.bool g2, .int .u32 (vI d2), .int .u32 (vI a2), .int .u32 (vI e2), .bool p2]] w fun r w' => r = .returned (.agg #[.bool g1, .int .u32 (vI d1), .int .u32 (vI a1), .int .u32 (vI e1), .bool (p1 && g1)]) ∧ Below w.heap.size w w' := by
  have HB : Hid (Below w.heap.size w (((w.alloc (.cells #[.bool g1, .int .u32 (vI d1), .int .u32 (vI a1), .int .u32 (vI e1), .bool p1] 41)).alloc (.cells #[.bool g2, .int .u32 (vI d2), .int .u32 (vI a2), .int .u32 (vI e2), .bool p2] 41)).alloc (.cells #[.bool false, .int .u32 0, .int .u32 0, .int .u32 0, .bool false] 41))) := Lib.hid ((((Below.refl _ _).alloc (Nat.le_refl _) _).alloc (by simp) _).alloc (by simp; omega) _)
  have H2 : Hid (Blk (((w.alloc (.cells #[.bool g1, .int .u32 (vI d1), .int .u32 (vI a1), .int .u32 (vI e1), .bool p1] 41)).alloc (.cells #[.bool g2, .int .u32 (vI d2), .int .u32 (vI a2), .int .u32 (vI e2), .bool p2] 41)).alloc (.cells #[.bool false, .int .u32 0, .int .u32 0, .int .u32 0, .bool false] 41)) w.heap.size 41 #[.bool g1, .int .u32 (vI d1), .int .u32 (vI a1), .int .u32 (vI e1), .bool p1]) := Lib.hid (((Blk.here rfl).alloc _).alloc _)
  have H3 : Hid (Blk (((w.alloc (.cells #[.bool g1, .int .u32 (vI d1), .int .u32 (vI a1), .int .u32 (vI e1), .bool p1] 41)).alloc (.cells #[.bool g2, .int .u32 (vI d2), .int .u32 (vI a2), .int .u32 (vI e2), .bool p2] 41)).alloc (.cells #[.bool false, .int .u32 0, .int .u32 0, .int .u32 0, .bool false] 41)) (w.heap.size + 1) 41 #[.bool g2, .int .u32 (vI d2), .int .u32 (vI a2), .int .u32 (vI e2), .bool p2]) := Lib.hid ((Blk.here (by simp)).alloc _)
  have H4 : Hid (Blk (((w.alloc (.cells #[.bool g1, .int .u32 (vI d1), .int .u32 (vI a1), .int .u32 (vI e1), .bool p1] 41)).alloc (.cells #[.bool g2, .int .u32 (vI d2), .int .u32 (vI a2), .int .u32 (vI e2), .bool p2] 41)).alloc (.cells #[.bool false, .int .u32 0, .int .u32 0, .int .u32 0, .bool false] 41)) (w.heap.size + 1 + 1) 41 #[.bool false, .int .u32 0, .int .u32 0, .int .u32 0, .bool false]) := Lib.hid (Blk.here (by simp))
  have hne : w.heap.size ≠ w.heap.size + 1 + 1 ∧ w.heap.size + 1 ≠ w.heap.size + 1 + 1 := by omega
  have HG : Hid (w.heap.size ≤ w.heap.size + 1 + 1) := Lib.hid (by omega)
  have hq : ∀ u, (binOp .neq 41 (.agg #[.bool g1, .int .u32 (vI d1), .int .u32 (vI a1), .int .u32 (vI e1), .bool p1]) (.agg #[.bool g2, .int .u32 (vI d2), .int .u32 (vI a2), .int .u32 (vI e2), .bool p2])).run Try.prog u = .ok (.bool false) u := fun u => by
    have h := neqV ⟨g1, d1, a1, e1, p1⟩ ⟨g2, d2, a2, e2, p2⟩ u
    rw [hab] at h
    exact h
  clear hab
  go_enter Try.func25, Try.ntmps25
  go_upto_region 1 with fail
  generalize ((w.alloc (.cells #[.bool g1, .int .u32 (vI d1), .int .u32 (vI a1), .int .u32 (vI e1), .bool p1] 41)).alloc (.cells #[.bool g2, .int .u32 (vI d2), .int .u32 (vI a2), .int .u32 (vI e2), .bool p2] 41)).alloc (.cells #[.bool false, .int .u32 0, .int .u32 0, .int .u32 0, .bool false] 41) = W1 at *
  generalize w.heap.size + 1 + 1 = g4 at *
  generalize w.heap.size + 1 = g3 at *
  generalize hgx : w.heap.size = gx at *
  obtain ⟨c0, c1, c2, c3, c4⟩ := H2.out.c5
  go_upto_region 2 with fail
  clear c0 c1 c2 c3 c4
  have hba : Below W1.heap.size W1 (W1.alloc (.cells #[.bool g1, .int .u32 (vI d1), .int .u32 (vI a1), .int .u32 (vI e1), .bool p1] 41)) := (Below.refl _ _).alloc (Nat.le_refl _) _
  have H5 : Hid (Blk (W1.alloc (.cells #[.bool g1, .int .u32 (vI d1), .int .u32 (vI a1), .int .u32 (vI e1), .bool p1] 41)) W1.heap.size 41 #[.bool g1, .int .u32 (vI d1), .int .u32 (vI a1), .int .u32 (vI e1), .bool p1]) := Lib.hid (Blk.here rfl)
  have H22 := Lib.hid (H2.out.keep hba)
  have H32 := Lib.hid (H3.out.keep hba)
  have H42 := Lib.hid (H4.out.keep hba)
  have HB2 : Hid (Below gx w (W1.alloc (.cells #[.bool g1, .int .u32 (vI d1), .int .u32 (vI a1), .int .u32 (vI e1), .bool p1] 41))) := Lib.hid (HB.out.alloc (by have := H2.out.lt; omega) _)
  have hg5 : g4 ≠ W1.heap.size ∧ gx ≤ W1.heap.size := ⟨by have := H4.out.lt; omega, by have := H2.out.lt; omega⟩
  clear hba
  generalize W1.alloc (.cells #[.bool g1, .int .u32 (vI d1), .int .u32 (vI a1), .int .u32 (vI e1), .bool p1] 41) = W2 at *
  generalize W1.heap.size = g5 at *
  have HG5 := Lib.hid hg5
  obtain ⟨c0, c1, c2, c3, c4⟩ := H22.out.c5
  obtain ⟨x0, x1, x2, x3, x4⟩ := H32.out.c5
  go_upto_region 4 with fail
  clear c0 c1 c2 c3 c4 x0 x1 x2 x3 x4 H4
  have H4 := H42
  clear H42
  have H53 := H5
  generalize hpv : p1 = pv at *
  generalize hgv : g1 = gv at *
  have HPV := Lib.hid hpv
  have HGV := Lib.hid hgv
  clear hpv hgv
  cases pv
  · obtain ⟨x0, x1, x2, x3, x4⟩ := H53.out.c5
    obtain ⟨f0, f1, f2, f3, f4⟩ := H53.out.f5
    go_upto_region 5 with fail
    have H54 : Hid (Blk (W2.setCell ⟨g5, 4, none⟩ (.bool false)) g5 41 #[.bool gv, .int .u32 (vI d1), .int .u32 (vI a1), .int .u32 (vI e1), .bool false]) := Lib.hid (by simpa using H53.out.set 4 (.bool false))
    have H44 := Lib.hid (H4.out.far (p := ⟨g5, 4, none⟩) HG5.out.1 (.bool false))
    have HB : Hid (Below gx w (W2.setCell ⟨g5, 4, none⟩ (.bool false))) := Lib.hid (HB2.out.setCell (p := ⟨g5, 4, none⟩) HG5.out.2 _)
    clear H4
    have H4 := H44
    clear x0 x1 x2 x3 x4 f0 f1 f2 f3 f4 H44
    generalize W2.setCell ⟨g5, 4, none⟩ (.bool false) = W7 at *
    obtain ⟨x0, x1, x2, x3, x4⟩ := H54.out.c5
    obtain ⟨y0, y1, y2, y3, y4⟩ := H4.out.c5
    obtain ⟨f0, f1, f2, f3, f4⟩ := H4.out.f5
    have ⟨c0, c1, c2, c3, c4⟩ : True ∧ True ∧ True ∧ True ∧ True := ⟨trivial, trivial, trivial, trivial, trivial⟩
    go_wp2_with fail
    have HR : Hid (Blk (((((W7.setCell ⟨g4, 0, none⟩ (.bool gv)).setCell ⟨g4, 1, none⟩ (.int .u32 (vI d1))).setCell ⟨g4, 2, none⟩ (.int .u32 (vI a1))).setCell ⟨g4, 3, none⟩ (.int .u32 (vI e1))).setCell ⟨g4, 4, none⟩ (.bool false)) g4 41 #[.bool gv, .int .u32 (vI d1), .int .u32 (vI a1), .int .u32 (vI e1), .bool false]) := Lib.hid (by simpa using ((((H4.out.set 0 (.bool gv)).set 1 (.int .u32 (vI d1))).set 2 (.int .u32 (vI a1))).set 3 (.int .u32 (vI e1))).set 4 (.bool false))
    have HB7 : Hid (Below gx w (((((W7.setCell ⟨g4, 0, none⟩ (.bool gv)).setCell ⟨g4, 1, none⟩ (.int .u32 (vI d1))).setCell ⟨g4, 2, none⟩ (.int .u32 (vI a1))).setCell ⟨g4, 3, none⟩ (.int .u32 (vI e1))).setCell ⟨g4, 4, none⟩ (.bool false))) := Lib.hid (((((HB.out.setCell (p := ⟨g4, 0, none⟩) HG.out _).setCell (p := ⟨g4, 1, none⟩) HG.out _).setCell (p := ⟨g4, 2, none⟩) HG.out _).setCell (p := ⟨g4, 3, none⟩) HG.out _).setCell (p := ⟨g4, 4, none⟩) HG.out _)
    clear c0 c1 c2 c3 c4 x0 x1 x2 x3 x4 f0 f1 f2 f3 f4 y0 y1 y2 y3 y4
    generalize ((((W7.setCell ⟨g4, 0, none⟩ (.bool gv)).setCell ⟨g4, 1, none⟩ (.int .u32 (vI d1))).setCell ⟨g4, 2, none⟩ (.int .u32 (vI a1))).setCell ⟨g4, 3, none⟩ (.int .u32 (vI e1))).setCell ⟨g4, 4, none⟩ (.bool false) = W9 at *
    obtain ⟨y0, y1, y2, y3, y4⟩ := HR.out.c5
    refine bodyPost_ret (v := .agg #[.bool gv, .int .u32 (vI d1), .int .u32 (vI a1), .int .u32 (vI e1), .bool false]) (by simp [results, Try.results25, go_sem, y0, y1, y2, y3, y4]) rfl ⟨by have h1 := HPV.out; have h2 := HGV.out; simp_all, by first | exact HB7.out | (rw [hgx]; exact HB7.out)⟩
  · obtain ⟨x0, x1, x2, x3, x4⟩ := H53.out.c5
    obtain ⟨f0, f1, f2, f3, f4⟩ := H53.out.f5
    go_upto_region 5 with fail
    have H54 : Hid (Blk (W2.setCell ⟨g5, 4, none⟩ (.bool gv)) g5 41 #[.bool gv, .int .u32 (vI d1), .int .u32 (vI a1), .int .u32 (vI e1), .bool gv]) := Lib.hid (by simpa using H53.out.set 4 (.bool gv))
    have H44 := Lib.hid (H4.out.far (p := ⟨g5, 4, none⟩) HG5.out.1 (.bool gv))
    have HB : Hid (Below gx w (W2.setCell ⟨g5, 4, none⟩ (.bool gv))) := Lib.hid (HB2.out.setCell (p := ⟨g5, 4, none⟩) HG5.out.2 _)
    clear H4
    have H4 := H44
    clear x0 x1 x2 x3 x4 f0 f1 f2 f3 f4 H44
    generalize W2.setCell ⟨g5, 4, none⟩ (.bool gv) = W7 at *
    obtain ⟨x0, x1, x2, x3, x4⟩ := H54.out.c5
    obtain ⟨y0, y1, y2, y3, y4⟩ := H4.out.c5
    obtain ⟨f0, f1, f2, f3, f4⟩ := H4.out.f5
    have ⟨c0, c1, c2, c3, c4⟩ : True ∧ True ∧ True ∧ True ∧ True := ⟨trivial, trivial, trivial, trivial, trivial⟩
    go_wp2_with fail
    have HR : Hid (Blk (((((W7.setCell ⟨g4, 0, none⟩ (.bool gv)).setCell ⟨g4, 1, none⟩ (.int .u32 (vI d1))).setCell ⟨g4, 2, none⟩ (.int .u32 (vI a1))).setCell ⟨g4, 3, none⟩ (.int .u32 (vI e1))).setCell ⟨g4, 4, none⟩ (.bool gv)) g4 41 #[.bool gv, .int .u32 (vI d1), .int .u32 (vI a1), .int .u32 (vI e1), .bool gv]) := Lib.hid (by simpa using ((((H4.out.set 0 (.bool gv)).set 1 (.int .u32 (vI d1))).set 2 (.int .u32 (vI a1))).set 3 (.int .u32 (vI e1))).set 4 (.bool gv))
    have HB7 : Hid (Below gx w (((((W7.setCell ⟨g4, 0, none⟩ (.bool gv)).setCell ⟨g4, 1, none⟩ (.int .u32 (vI d1))).setCell ⟨g4, 2, none⟩ (.int .u32 (vI a1))).setCell ⟨g4, 3, none⟩ (.int .u32 (vI e1))).setCell ⟨g4, 4, none⟩ (.bool gv))) := Lib.hid (((((HB.out.setCell (p := ⟨g4, 0, none⟩) HG.out _).setCell (p := ⟨g4, 1, none⟩) HG.out _).setCell (p := ⟨g4, 2, none⟩) HG.out _).setCell (p := ⟨g4, 3, none⟩) HG.out _).setCell (p := ⟨g4, 4, none⟩) HG.out _)
    clear c0 c1 c2 c3 c4 x0 x1 x2 x3 x4 f0 f1 f2 f3 f4 y0 y1 y2 y3 y4
    generalize ((((W7.setCell ⟨g4, 0, none⟩ (.bool gv)).setCell ⟨g4, 1, none⟩ (.int .u32 (vI d1))).setCell ⟨g4, 2, none⟩ (.int .u32 (vI a1))).setCell ⟨g4, 3, none⟩ (.int .u32 (vI e1))).setCell ⟨g4, 4, none⟩ (.bool gv) = W9 at *
    obtain ⟨y0, y1, y2, y3, y4⟩ := HR.out.c5
    refine bodyPost_ret (v := .agg #[.bool gv, .int .u32 (vI d1), .int .u32 (vI a1), .int .u32 (vI e1), .bool gv]) (by simp [results, Try.results25, go_sem, y0, y1, y2, y3, y4]) rfl ⟨by have h1 := HPV.out; have h2 := HGV.out; simp_all, by first | exact HB7.out | (rw [hgx]; exact HB7.out)⟩
set_option maxRecDepth 100000 in
set_option maxHeartbeats 8000000 in
theorem worst_diff (g1 g2 p1 p2 : Bool) (d1 a1 e1 d2 a2 e2 : BitVec 32) (w : World) (hab : sameV ⟨g1, d1, a1, e1, p1⟩ ⟨g2, d2, a2, e2, p2⟩ = false) : Calls Try.prog 25 #[.agg #[.bool g1, .int .u32 (vI d1), .int .u32 (vI a1), .int .u32 (vI e1), .bool p1], .agg #[.bool g2, .int .u32 (vI d2), .int .u32 (vI a2), .int .u32 (vI e2), .bool p2]] w fun r w' => r = .returned (.agg #[.bool (g1 && g2), .int .u32 (vI (d1 ||| d2)), .int .u32 (vI (a1 ||| a2)), .int .u32 (vI (e1 ||| e2)), .bool ((p1 || p2) && (g1 && g2))]) ∧ Below w.heap.size w w' := by
  have HB : Hid (Below w.heap.size w (((w.alloc (.cells #[.bool g1, .int .u32 (vI d1), .int .u32 (vI a1), .int .u32 (vI e1), .bool p1] 41)).alloc (.cells #[.bool g2, .int .u32 (vI d2), .int .u32 (vI a2), .int .u32 (vI e2), .bool p2] 41)).alloc (.cells #[.bool false, .int .u32 0, .int .u32 0, .int .u32 0, .bool false] 41))) := Lib.hid ((((Below.refl _ _).alloc (Nat.le_refl _) _).alloc (by simp) _).alloc (by simp; omega) _)
  have H2 : Hid (Blk (((w.alloc (.cells #[.bool g1, .int .u32 (vI d1), .int .u32 (vI a1), .int .u32 (vI e1), .bool p1] 41)).alloc (.cells #[.bool g2, .int .u32 (vI d2), .int .u32 (vI a2), .int .u32 (vI e2), .bool p2] 41)).alloc (.cells #[.bool false, .int .u32 0, .int .u32 0, .int .u32 0, .bool false] 41)) w.heap.size 41 #[.bool g1, .int .u32 (vI d1), .int .u32 (vI a1), .int .u32 (vI e1), .bool p1]) := Lib.hid (((Blk.here rfl).alloc _).alloc _)
  have H3 : Hid (Blk (((w.alloc (.cells #[.bool g1, .int .u32 (vI d1), .int .u32 (vI a1), .int .u32 (vI e1), .bool p1] 41)).alloc (.cells #[.bool g2, .int .u32 (vI d2), .int .u32 (vI a2), .int .u32 (vI e2), .bool p2] 41)).alloc (.cells #[.bool false, .int .u32 0, .int .u32 0, .int .u32 0, .bool false] 41)) (w.heap.size + 1) 41 #[.bool g2, .int .u32 (vI d2), .int .u32 (vI a2), .int .u32 (vI e2), .bool p2]) := Lib.hid ((Blk.here (by simp)).alloc _)
  have H4 : Hid (Blk (((w.alloc (.cells #[.bool g1, .int .u32 (vI d1), .int .u32 (vI a1), .int .u32 (vI e1), .bool p1] 41)).alloc (.cells #[.bool g2, .int .u32 (vI d2), .int .u32 (vI a2), .int .u32 (vI e2), .bool p2] 41)).alloc (.cells #[.bool false, .int .u32 0, .int .u32 0, .int .u32 0, .bool false] 41)) (w.heap.size + 1 + 1) 41 #[.bool false, .int .u32 0, .int .u32 0, .int .u32 0, .bool false]) := Lib.hid (Blk.here (by simp))
  have hne : w.heap.size ≠ w.heap.size + 1 + 1 ∧ w.heap.size + 1 ≠ w.heap.size + 1 + 1 := by omega
  have HG : Hid (w.heap.size ≤ w.heap.size + 1 + 1) := Lib.hid (by omega)
  have hq : ∀ u, (binOp .neq 41 (.agg #[.bool g1, .int .u32 (vI d1), .int .u32 (vI a1), .int .u32 (vI e1), .bool p1]) (.agg #[.bool g2, .int .u32 (vI d2), .int .u32 (vI a2), .int .u32 (vI e2), .bool p2])).run Try.prog u = .ok (.bool true) u := fun u => by
    have h := neqV ⟨g1, d1, a1, e1, p1⟩ ⟨g2, d2, a2, e2, p2⟩ u
    rw [hab] at h
    exact h
  clear hab
  go_enter Try.func25, Try.ntmps25
  go_upto_region 1 with fail
  generalize ((w.alloc (.cells #[.bool g1, .int .u32 (vI d1), .int .u32 (vI a1), .int .u32 (vI e1), .bool p1] 41)).alloc (.cells #[.bool g2, .int .u32 (vI d2), .int .u32 (vI a2), .int .u32 (vI e2), .bool p2] 41)).alloc (.cells #[.bool false, .int .u32 0, .int .u32 0, .int .u32 0, .bool false] 41) = W1 at *
  generalize w.heap.size + 1 + 1 = g4 at *
  generalize w.heap.size + 1 = g3 at *
  generalize hgx : w.heap.size = gx at *
  obtain ⟨c0, c1, c2, c3, c4⟩ := H2.out.c5
  go_upto_region 2 with fail
  clear c0 c1 c2 c3 c4
  have hba : Below W1.heap.size W1 (W1.alloc (.cells #[.bool g1, .int .u32 (vI d1), .int .u32 (vI a1), .int .u32 (vI e1), .bool p1] 41)) := (Below.refl _ _).alloc (Nat.le_refl _) _
  have H5 : Hid (Blk (W1.alloc (.cells #[.bool g1, .int .u32 (vI d1), .int .u32 (vI a1), .int .u32 (vI e1), .bool p1] 41)) W1.heap.size 41 #[.bool g1, .int .u32 (vI d1), .int .u32 (vI a1), .int .u32 (vI e1), .bool p1]) := Lib.hid (Blk.here rfl)
  have H22 := Lib.hid (H2.out.keep hba)
  have H32 := Lib.hid (H3.out.keep hba)
  have H42 := Lib.hid (H4.out.keep hba)
  have HB2 : Hid (Below gx w (W1.alloc (.cells #[.bool g1, .int .u32 (vI d1), .int .u32 (vI a1), .int .u32 (vI e1), .bool p1] 41))) := Lib.hid (HB.out.alloc (by have := H2.out.lt; omega) _)
  have hg5 : g4 ≠ W1.heap.size ∧ gx ≤ W1.heap.size := ⟨by have := H4.out.lt; omega, by have := H2.out.lt; omega⟩
  clear hba
  generalize W1.alloc (.cells #[.bool g1, .int .u32 (vI d1), .int .u32 (vI a1), .int .u32 (vI e1), .bool p1] 41) = W2 at *
  generalize W1.heap.size = g5 at *
  have HG5 := Lib.hid hg5
  obtain ⟨c0, c1, c2, c3, c4⟩ := H22.out.c5
  obtain ⟨x0, x1, x2, x3, x4⟩ := H32.out.c5
  go_upto_region 3 with fail
  obtain ⟨y0, y1, y2, y3, y4⟩ := H5.out.c5
  obtain ⟨f0, f1, f2, f3, f4⟩ := H5.out.f5
  go_upto_region 4 with (first | (go_at_call 45; refine (joined_n g1 g2 p1 p2 d1 a1 e1 d2 a2 e2 _).mono ?_; rintro e W3 ⟨rfl, hb3⟩; have HB3 := Lib.hid hb3; have H5k := H5.out.keep hb3; obtain ⟨s0, s1, s2, s3, s4⟩ := H5k.c5; obtain ⟨t0, t1, t2, t3, t4⟩ := H5k.f5; clear hb3 H5k) | fail)
  clear c0 c1 c2 c3 c4 x0 x1 x2 x3 x4 y0 y1 y2 y3 y4 f0 f1 f2 f3 f4 s0 s1 s2 s3 s4 t0 t1 t2 t3 t4
  have H53 : Hid (Blk (((((W3.setCell ⟨g5, 0, none⟩ (.bool (g1 && g2))).setCell ⟨g5, 1, none⟩ (.int .u32 (vI (d1 ||| d2)))).setCell ⟨g5, 2, none⟩ (.int .u32 (vI (a1 ||| a2)))).setCell ⟨g5, 3, none⟩ (.int .u32 (vI (e1 ||| e2)))).setCell ⟨g5, 4, none⟩ (.bool (p1 || p2))) g5 41 #[.bool (g1 && g2), .int .u32 (vI (d1 ||| d2)), .int .u32 (vI (a1 ||| a2)), .int .u32 (vI (e1 ||| e2)), .bool (p1 || p2)]) := Lib.hid (by simpa using (((((H5.out.keep HB3.out).set 0 (.bool (g1 && g2))).set 1 (.int .u32 (vI (d1 ||| d2)))).set 2 (.int .u32 (vI (a1 ||| a2)))).set 3 (.int .u32 (vI (e1 ||| e2)))).set 4 (.bool (p1 || p2)))
  clear H4
  have H4 := Lib.hid ((((((H42.out.keep HB3.out).far (p := ⟨g5, 0, none⟩) HG5.out.1 (.bool (g1 && g2))).far (p := ⟨g5, 1, none⟩) HG5.out.1 (.int .u32 (vI (d1 ||| d2)))).far (p := ⟨g5, 2, none⟩) HG5.out.1 (.int .u32 (vI (a1 ||| a2)))).far (p := ⟨g5, 3, none⟩) HG5.out.1 (.int .u32 (vI (e1 ||| e2)))).far (p := ⟨g5, 4, none⟩) HG5.out.1 (.bool (p1 || p2)))
  have HB3' : Hid (Below gx w (((((W3.setCell ⟨g5, 0, none⟩ (.bool (g1 && g2))).setCell ⟨g5, 1, none⟩ (.int .u32 (vI (d1 ||| d2)))).setCell ⟨g5, 2, none⟩ (.int .u32 (vI (a1 ||| a2)))).setCell ⟨g5, 3, none⟩ (.int .u32 (vI (e1 ||| e2)))).setCell ⟨g5, 4, none⟩ (.bool (p1 || p2)))) := Lib.hid ((((((HB2.out.trans (HB3.out.mono (by have := HB2.out.size; have := H22.out.lt; omega))).setCell (p := ⟨g5, 0, none⟩) HG5.out.2 _).setCell (p := ⟨g5, 1, none⟩) HG5.out.2 _).setCell (p := ⟨g5, 2, none⟩) HG5.out.2 _).setCell (p := ⟨g5, 3, none⟩) HG5.out.2 _).setCell (p := ⟨g5, 4, none⟩) HG5.out.2 _)
  clear HB2
  have HB2 := HB3'
  clear HB3'
  generalize ((((W3.setCell ⟨g5, 0, none⟩ (.bool (g1 && g2))).setCell ⟨g5, 1, none⟩ (.int .u32 (vI (d1 ||| d2)))).setCell ⟨g5, 2, none⟩ (.int .u32 (vI (a1 ||| a2)))).setCell ⟨g5, 3, none⟩ (.int .u32 (vI (e1 ||| e2)))).setCell ⟨g5, 4, none⟩ (.bool (p1 || p2)) = W4 at *
  generalize hpv : (p1 || p2) = pv at *
  generalize hgv : (g1 && g2) = gv at *
  have HPV := Lib.hid hpv
  have HGV := Lib.hid hgv
  clear hpv hgv
  cases pv
  · obtain ⟨x0, x1, x2, x3, x4⟩ := H53.out.c5
    obtain ⟨f0, f1, f2, f3, f4⟩ := H53.out.f5
    go_upto_region 5 with fail
    have H54 : Hid (Blk (W4.setCell ⟨g5, 4, none⟩ (.bool false)) g5 41 #[.bool gv, .int .u32 (vI (d1 ||| d2)), .int .u32 (vI (a1 ||| a2)), .int .u32 (vI (e1 ||| e2)), .bool false]) := Lib.hid (by simpa using H53.out.set 4 (.bool false))
    have H44 := Lib.hid (H4.out.far (p := ⟨g5, 4, none⟩) HG5.out.1 (.bool false))
    have HB : Hid (Below gx w (W4.setCell ⟨g5, 4, none⟩ (.bool false))) := Lib.hid (HB2.out.setCell (p := ⟨g5, 4, none⟩) HG5.out.2 _)
    clear H4
    have H4 := H44
    clear x0 x1 x2 x3 x4 f0 f1 f2 f3 f4 H44
    generalize W4.setCell ⟨g5, 4, none⟩ (.bool false) = W7 at *
    obtain ⟨x0, x1, x2, x3, x4⟩ := H54.out.c5
    obtain ⟨y0, y1, y2, y3, y4⟩ := H4.out.c5
    obtain ⟨f0, f1, f2, f3, f4⟩ := H4.out.f5
    have ⟨c0, c1, c2, c3, c4⟩ : True ∧ True ∧ True ∧ True ∧ True := ⟨trivial, trivial, trivial, trivial, trivial⟩
    go_wp2_with fail
    have HR : Hid (Blk (((((W7.setCell ⟨g4, 0, none⟩ (.bool gv)).setCell ⟨g4, 1, none⟩ (.int .u32 (vI (d1 ||| d2)))).setCell ⟨g4, 2, none⟩ (.int .u32 (vI (a1 ||| a2)))).setCell ⟨g4, 3, none⟩ (.int .u32 (vI (e1 ||| e2)))).setCell ⟨g4, 4, none⟩ (.bool false)) g4 41 #[.bool gv, .int .u32 (vI (d1 ||| d2)), .int .u32 (vI (a1 ||| a2)), .int .u32 (vI (e1 ||| e2)), .bool false]) := Lib.hid (by simpa using ((((H4.out.set 0 (.bool gv)).set 1 (.int .u32 (vI (d1 ||| d2)))).set 2 (.int .u32 (vI (a1 ||| a2)))).set 3 (.int .u32 (vI (e1 ||| e2)))).set 4 (.bool false))
    have HB7 : Hid (Below gx w (((((W7.setCell ⟨g4, 0, none⟩ (.bool gv)).setCell ⟨g4, 1, none⟩ (.int .u32 (vI (d1 ||| d2)))).setCell ⟨g4, 2, none⟩ (.int .u32 (vI (a1 ||| a2)))).setCell ⟨g4, 3, none⟩ (.int .u32 (vI (e1 ||| e2)))).setCell ⟨g4, 4, none⟩ (.bool false))) := Lib.hid (((((HB.out.setCell (p := ⟨g4, 0, none⟩) HG.out _).setCell (p := ⟨g4, 1, none⟩) HG.out _).setCell (p := ⟨g4, 2, none⟩) HG.out _).setCell (p := ⟨g4, 3, none⟩) HG.out _).setCell (p := ⟨g4, 4, none⟩) HG.out _)
    clear c0 c1 c2 c3 c4 x0 x1 x2 x3 x4 f0 f1 f2 f3 f4 y0 y1 y2 y3 y4
    generalize ((((W7.setCell ⟨g4, 0, none⟩ (.bool gv)).setCell ⟨g4, 1, none⟩ (.int .u32 (vI (d1 ||| d2)))).setCell ⟨g4, 2, none⟩ (.int .u32 (vI (a1 ||| a2)))).setCell ⟨g4, 3, none⟩ (.int .u32 (vI (e1 ||| e2)))).setCell ⟨g4, 4, none⟩ (.bool false) = W9 at *
    obtain ⟨y0, y1, y2, y3, y4⟩ := HR.out.c5
    refine bodyPost_ret (v := .agg #[.bool gv, .int .u32 (vI (d1 ||| d2)), .int .u32 (vI (a1 ||| a2)), .int .u32 (vI (e1 ||| e2)), .bool false]) (by simp [results, Try.results25, go_sem, y0, y1, y2, y3, y4]) rfl ⟨by have h1 := HPV.out; have h2 := HGV.out; simp_all, by first | exact HB7.out | (rw [hgx]; exact HB7.out)⟩
  · obtain ⟨x0, x1, x2, x3, x4⟩ := H53.out.c5
    obtain ⟨f0, f1, f2, f3, f4⟩ := H53.out.f5
    go_upto_region 5 with fail
    have H54 : Hid (Blk (W4.setCell ⟨g5, 4, none⟩ (.bool gv)) g5 41 #[.bool gv, .int .u32 (vI (d1 ||| d2)), .int .u32 (vI (a1 ||| a2)), .int .u32 (vI (e1 ||| e2)), .bool gv]) := Lib.hid (by simpa using H53.out.set 4 (.bool gv))
    have H44 := Lib.hid (H4.out.far (p := ⟨g5, 4, none⟩) HG5.out.1 (.bool gv))
    have HB : Hid (Below gx w (W4.setCell ⟨g5, 4, none⟩ (.bool gv))) := Lib.hid (HB2.out.setCell (p := ⟨g5, 4, none⟩) HG5.out.2 _)
    clear H4
    have H4 := H44
    clear x0 x1 x2 x3 x4 f0 f1 f2 f3 f4 H44
    generalize W4.setCell ⟨g5, 4, none⟩ (.bool gv) = W7 at *
    obtain ⟨x0, x1, x2, x3, x4⟩ := H54.out.c5
    obtain ⟨y0, y1, y2, y3, y4⟩ := H4.out.c5
    obtain ⟨f0, f1, f2, f3, f4⟩ := H4.out.f5
    have ⟨c0, c1, c2, c3, c4⟩ : True ∧ True ∧ True ∧ True ∧ True := ⟨trivial, trivial, trivial, trivial, trivial⟩
    go_wp2_with fail
    have HR : Hid (Blk (((((W7.setCell ⟨g4, 0, none⟩ (.bool gv)).setCell ⟨g4, 1, none⟩ (.int .u32 (vI (d1 ||| d2)))).setCell ⟨g4, 2, none⟩ (.int .u32 (vI (a1 ||| a2)))).setCell ⟨g4, 3, none⟩ (.int .u32 (vI (e1 ||| e2)))).setCell ⟨g4, 4, none⟩ (.bool gv)) g4 41 #[.bool gv, .int .u32 (vI (d1 ||| d2)), .int .u32 (vI (a1 ||| a2)), .int .u32 (vI (e1 ||| e2)), .bool gv]) := Lib.hid (by simpa using ((((H4.out.set 0 (.bool gv)).set 1 (.int .u32 (vI (d1 ||| d2)))).set 2 (.int .u32 (vI (a1 ||| a2)))).set 3 (.int .u32 (vI (e1 ||| e2)))).set 4 (.bool gv))
    have HB7 : Hid (Below gx w (((((W7.setCell ⟨g4, 0, none⟩ (.bool gv)).setCell ⟨g4, 1, none⟩ (.int .u32 (vI (d1 ||| d2)))).setCell ⟨g4, 2, none⟩ (.int .u32 (vI (a1 ||| a2)))).setCell ⟨g4, 3, none⟩ (.int .u32 (vI (e1 ||| e2)))).setCell ⟨g4, 4, none⟩ (.bool gv))) := Lib.hid (((((HB.out.setCell (p := ⟨g4, 0, none⟩) HG.out _).setCell (p := ⟨g4, 1, none⟩) HG.out _).setCell (p := ⟨g4, 2, none⟩) HG.out _).setCell (p := ⟨g4, 3, none⟩) HG.out _).setCell (p := ⟨g4, 4, none⟩) HG.out _)
    clear c0 c1 c2 c3 c4 x0 x1 x2 x3 x4 f0 f1 f2 f3 f4 y0 y1 y2 y3 y4
    generalize ((((W7.setCell ⟨g4, 0, none⟩ (.bool gv)).setCell ⟨g4, 1, none⟩ (.int .u32 (vI (d1 ||| d2)))).setCell ⟨g4, 2, none⟩ (.int .u32 (vI (a1 ||| a2)))).setCell ⟨g4, 3, none⟩ (.int .u32 (vI (e1 ||| e2)))).setCell ⟨g4, 4, none⟩ (.bool gv) = W9 at *
    obtain ⟨y0, y1, y2, y3, y4⟩ := HR.out.c5
    refine bodyPost_ret (v := .agg #[.bool gv, .int .u32 (vI (d1 ||| d2)), .int .u32 (vI (a1 ||| a2)), .int .u32 (vI (e1 ||| e2)), .bool gv]) (by simp [results, Try.results25, go_sem, y0, y1, y2, y3, y4]) rfl ⟨by have h1 := HPV.out; have h2 := HGV.out; simp_all, by first | exact HB7.out | (rw [hgx]; exact HB7.out)⟩
theorem worst_c (a b : Vt) (w : World) : Calls Try.prog 25 #[.agg #[.bool a.g, .int .u32 (vI a.dn), .int .u32 (vI a.ag), .int .u32 (vI a.ad), .bool a.pm], .agg #[.bool b.g, .int .u32 (vI b.dn), .int .u32 (vI b.ag), .int .u32 (vI b.ad), .bool b.pm]] w fun r w' => r = .returned (.agg #[.bool (wst a b).g, .int .u32 (vI (wst a b).dn), .int .u32 (vI (wst a b).ag), .int .u32 (vI (wst a b).ad), .bool (wst a b).pm]) ∧ Below w.heap.size w w' := by
  by_cases h : a = b
  · subst h
    have e : wst a a = ⟨a.g, a.dn, a.ag, a.ad, a.pm && a.g⟩ := by simp [wst, Bool.and_comm]
    rw [e]
    exact worst_same a.g a.g a.pm a.pm a.dn a.ag a.ad a.dn a.ag a.ad w (show sameV a a = true from decide_eq_true rfl)
  · have e : wst a b = ⟨a.g && b.g, a.dn ||| b.dn, a.ag ||| b.ag, a.ad ||| b.ad, (a.pm || b.pm) && (a.g && b.g)⟩ := by simp [wst, Bool.and_comm]
    rw [e]
    exact worst_diff a.g b.g a.pm b.pm a.dn a.ag a.ad b.dn b.ag b.ad w (show sameV a b = false from decide_eq_false h)
end Go.Proofs.Ytbcbhgclgakljaa
