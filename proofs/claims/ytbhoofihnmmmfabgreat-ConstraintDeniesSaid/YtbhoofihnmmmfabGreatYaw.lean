/- Part of the proof: Cyi Cyj Cyk. No conditions. -/
import Derived.Test.YtbhoofihnmmmfabGreatYav
namespace Go.Proofs.YtbhoofihnmmmfabGreat
open Go.RowKit Go
set_option maxRecDepth 100000 in
set_option maxHeartbeats 16000000 in
theorem operator_in (x : X) (g o gp : Nat) (A op a r b c : Int) (S : S4) (w : World) (hX : XAt w g o x) (hg : g < w.heap.size) (hop : x.op = 9)
 (hM : ∀ W, Kp w W → Calls Tryz.prog 92 #[.agg #[.pointer (some ⟨gp, 0, none⟩), .int .i64 A], .pointer (some ⟨g, o, none⟩)] W fun e w' => e = .returned (.tuple #[.agg #[.int .i64 op, .int .i64 a, .int .i64 r, .int .i64 b, .slice none 0 0, .int .u64 S.a, .int .u64 S.b, .int .u64 S.c, .int .u64 S.d, .slice none 0 0], .int .i64 c]) ∧ Below W.heap.size W w') :
 Calls Tryz.prog 67 #[.agg #[.pointer (some ⟨gp, 0, none⟩), .int .i64 A], .pointer (some ⟨g, o, none⟩)] w fun e w' => e = .returned (.tuple #[.agg #[.int .i64 op, .int .i64 a, .int .i64 r, .int .i64 b, .slice none 0 0, .int .u64 S.a, .int .u64 S.b, .int .u64 S.c, .int .u64 S.d, .slice none 0 0], .int .i64 c]) ∧ Below w.heap.size w w' := by
 have p9 : (x.op == 9) = true := by rw [hop]; rfl
 have HB : Hid (Below w.heap.size w ((w.alloc (.cells #[.pointer (some ⟨gp, 0, none⟩), .int .i64 A] 105)).alloc (.cells #[.int .i64 0, .int .i64 0, .int .i64 0, .int .i64 0, .slice none 0 0, .int .u64 0, .int .u64 0, .int .u64 0, .int .u64 0, .slice none 0 0] 55))) := Lib.hid (((Below.refl _ _).alloc (Nat.le_refl _) _).alloc (by simp) _)
 have HC : Hid (Blk ((w.alloc (.cells #[.pointer (some ⟨gp, 0, none⟩), .int .i64 A] 105)).alloc (.cells #[.int .i64 0, .int .i64 0, .int .i64 0, .int .i64 0, .slice none 0 0, .int .u64 0, .int .u64 0, .int .u64 0, .int .u64 0, .slice none 0 0] 55)) w.heap.size 105 #[.pointer (some ⟨gp, 0, none⟩), .int .i64 A]) := Lib.hid ((Blk.new w _ _).alloc _)
 have HR : Hid (Blk ((w.alloc (.cells #[.pointer (some ⟨gp, 0, none⟩), .int .i64 A] 105)).alloc (.cells #[.int .i64 0, .int .i64 0, .int .i64 0, .int .i64 0, .slice none 0 0, .int .u64 0, .int .u64 0, .int .u64 0, .int .u64 0, .slice none 0 0] 55)) (w.heap.size + 1) 55 #[.int .i64 0, .int .i64 0, .int .i64 0, .int .i64 0, .slice none 0 0, .int .u64 0, .int .u64 0, .int .u64 0, .int .u64 0, .slice none 0 0]) := Lib.hid (two_new' _ _ _ _)
 have HX := Lib.hid (hX.keep HB.out hg)
 obtain ⟨ao, cap, ak, ck, hxc, -, -⟩ := HX.out.xc
 have HM := Lib.hid (hM _ HB.out)
 obtain ⟨y0, y1, y2, y3, y4, y5, y6, y7, y8, y9⟩ := hxc.cells
 clear hX hg hop hM hxc y1 y2 y3 y4 y5 y6 y7 y8 y9
 go_enter Tryz.func67, Tryz.ntmps67
 go_upto_region 1 with fail
 generalize (w.alloc (.cells #[.pointer (some ⟨gp, 0, none⟩), .int .i64 A] 105)).alloc (.cells #[.int .i64 0, .int .i64 0, .int .i64 0, .int .i64 0, .slice none 0 0, .int .u64 0, .int .u64 0, .int .u64 0, .int .u64 0, .slice none 0 0] 55) = W at *
 have HLE : Hid (w.heap.size ≤ W.heap.size) := Lib.hid HB.out.size
 have HSR : Hid (w.heap.size ≤ w.heap.size + 1) := Lib.hid (Nat.le_succ _)
 generalize w.heap.size + 1 = gr at *
 generalize hgc : w.heap.size = gc at *
 have hc := HC.out.cell
 have k0 := hc 0
 have k1 := hc 1
 clear hc
 go_wp2_with (go_at_call 92; (with_reducible refine HM.out.mono ?_); rintro e w1 ⟨rfl, hb1⟩; have HB1 := Lib.hid (HB.out.trans (hb1.mono HLE.out)); have HR1 := Lib.hid (HR.out.keep hb1); have hr := HR1.out.cell; have r0 := hr 0; have r1 := hr 1; have r2 := hr 2; have r3 := hr 3; have r4 := hr 4; have r5 := hr 5; have r6 := hr 6; have r7 := hr 7; have r8 := hr 8; have r9 := hr 9; have rf := HR1.out.frozen; clear hr; clear hb1)
 exact bodyPost_ret (v := .tuple #[.agg #[.int .i64 op, .int .i64 a, .int .i64 r, .int .i64 b, .slice none 0 0, .int .u64 S.a, .int .u64 S.b, .int .u64 S.c, .int .u64 S.d, .slice none 0 0], .int .i64 c]) (exprcode_ret (S := S) (op := op) (a := a) (r := r) (b := b) (vn := .slice none 0 0) (vk := .slice none 0 0) (c := c) Tryz.results67 rfl rfl (HR1.out.store10x _ _ _ _ _ _ _ _ _ _)) rfl ⟨rfl, by first | exact (below_set10 HB1.out HSR.out _ _ _ _ _ _ _ _ _ _) | (rw [hgc]; exact (below_set10 HB1.out HSR.out _ _ _ _ _ _ _ _ _ _))⟩
set_option maxRecDepth 100000 in
set_option maxHeartbeats 16000000 in
theorem compile_ok (x : X) (g o gp : Nat) (A op a r b : Int) (S : S4) (w : World) (hX : XAt w g o x) (hg : g < w.heap.size) (hks : x.ks.length = 0)
 (hM : ∀ W, Kp w W → Calls Tryz.prog 67 #[.agg #[.pointer (some ⟨gp, 0, none⟩), .int .i64 A], .pointer (some ⟨g, o, none⟩)] W fun e w' => e = .returned (.tuple #[.agg #[.int .i64 op, .int .i64 a, .int .i64 r, .int .i64 b, .slice none 0 0, .int .u64 S.a, .int .u64 S.b, .int .u64 S.c, .int .u64 S.d, .slice none 0 0], .int .i64 0]) ∧ Below W.heap.size W w') :
 Calls Tryz.prog 39 #[.agg #[.pointer (some ⟨gp, 0, none⟩), .int .i64 A], .pointer (some ⟨g, o, none⟩)] w fun e w' => e = .returned (.tuple #[.agg #[.int .i64 op, .int .i64 a, .int .i64 r, .int .i64 b, .slice none 0 0, .int .u64 S.a, .int .u64 S.b, .int .u64 S.c, .int .u64 S.d, .slice none 0 0], .int .i64 0]) ∧ Below w.heap.size w w' := by
 have HB : Hid (Below w.heap.size w ((w.alloc (.cells #[.pointer (some ⟨gp, 0, none⟩), .int .i64 A] 105)).alloc (.cells #[.int .i64 0, .int .i64 0, .int .i64 0, .int .i64 0, .slice none 0 0, .int .u64 0, .int .u64 0, .int .u64 0, .int .u64 0, .slice none 0 0] 55))) := Lib.hid (((Below.refl _ _).alloc (Nat.le_refl _) _).alloc (by simp) _)
 have HC : Hid (Blk ((w.alloc (.cells #[.pointer (some ⟨gp, 0, none⟩), .int .i64 A] 105)).alloc (.cells #[.int .i64 0, .int .i64 0, .int .i64 0, .int .i64 0, .slice none 0 0, .int .u64 0, .int .u64 0, .int .u64 0, .int .u64 0, .slice none 0 0] 55)) w.heap.size 105 #[.pointer (some ⟨gp, 0, none⟩), .int .i64 A]) := Lib.hid ((Blk.new w _ _).alloc _)
 have HR : Hid (Blk ((w.alloc (.cells #[.pointer (some ⟨gp, 0, none⟩), .int .i64 A] 105)).alloc (.cells #[.int .i64 0, .int .i64 0, .int .i64 0, .int .i64 0, .slice none 0 0, .int .u64 0, .int .u64 0, .int .u64 0, .int .u64 0, .slice none 0 0] 55)) (w.heap.size + 1) 55 #[.int .i64 0, .int .i64 0, .int .i64 0, .int .i64 0, .slice none 0 0, .int .u64 0, .int .u64 0, .int .u64 0, .int .u64 0, .slice none 0 0]) := Lib.hid (two_new' _ _ _ _)
 have HG := Lib.hid hg
 have HM := Lib.hid (hM _ HB.out)
 obtain ⟨ao, cap, ak, ck, hxc0, -, -⟩ := hX.xc
 rw [hks] at hxc0
 have HX := Lib.hid (hxc0.keep (HB.out.block g hg))
 clear hX hg hM hxc0
 go_enter Tryz.func39, Tryz.ntmps39
 go_upto_region 1 with fail
 generalize (w.alloc (.cells #[.pointer (some ⟨gp, 0, none⟩), .int .i64 A] 105)).alloc (.cells #[.int .i64 0, .int .i64 0, .int .i64 0, .int .i64 0, .slice none 0 0, .int .u64 0, .int .u64 0, .int .u64 0, .int .u64 0, .slice none 0 0] 55) = W at *
 have HLE : Hid (w.heap.size ≤ W.heap.size) := Lib.hid HB.out.size
 have HSR : Hid (w.heap.size ≤ w.heap.size + 1) := Lib.hid (Nat.le_succ _)
 generalize w.heap.size + 1 = gr at *
 generalize hgc : w.heap.size = gc at *
 have hc := HC.out.cell
 have k0 := hc 0
 have k1 := hc 1
 clear hc
 go_upto_region 2 with (go_at_call 67; (with_reducible refine HM.out.mono ?_); rintro e w1 ⟨rfl, hb1⟩; have HB1 := Lib.hid (HB.out.trans (hb1.mono HLE.out)); have HL1 := Lib.hid (Nat.le_trans HLE.out hb1.size); have HR1 := Lib.hid (HR.out.keep hb1); have HX1 := Lib.hid (HX.out.keep (hb1.block g (Nat.lt_of_lt_of_le HG.out HLE.out))); have HG1 := Lib.hid (Nat.lt_of_lt_of_le HG.out (Nat.le_trans HLE.out hb1.size)); clear hb1)
 have HR2 := Lib.hid (HR1.out.alloc (.cells #[.int .i64 op, .int .i64 a, .int .i64 r, .int .i64 b, .slice none 0 0, .int .u64 S.a, .int .u64 S.b, .int .u64 S.c, .int .u64 S.d, .slice none 0 0] 55))
 have HX2 := Lib.hid (HX1.out.keep ((Below.refl w1.heap.size w1).alloc (Nat.le_refl _) (.cells #[.int .i64 op, .int .i64 a, .int .i64 r, .int .i64 b, .slice none 0 0, .int .u64 S.a, .int .u64 S.b, .int .u64 S.c, .int .u64 S.d, .slice none 0 0] 55) |>.block g HG1.out))
 have HE2 : Hid (Blk (w1.alloc (.cells #[.int .i64 op, .int .i64 a, .int .i64 r, .int .i64 b, .slice none 0 0, .int .u64 S.a, .int .u64 S.b, .int .u64 S.c, .int .u64 S.d, .slice none 0 0] 55)) w1.heap.size 55 #[.int .i64 op, .int .i64 a, .int .i64 r, .int .i64 b, .slice none 0 0, .int .u64 S.a, .int .u64 S.b, .int .u64 S.c, .int .u64 S.d, .slice none 0 0]) := Lib.hid (Blk.new w1 _ _)
 have HB2 : Hid (Below gc w (w1.alloc (.cells #[.int .i64 op, .int .i64 a, .int .i64 r, .int .i64 b, .slice none 0 0, .int .u64 S.a, .int .u64 S.b, .int .u64 S.c, .int .u64 S.d, .slice none 0 0] 55))) := Lib.hid (HB1.out.alloc HL1.out _)
 generalize w1.alloc (.cells #[.int .i64 op, .int .i64 a, .int .i64 r, .int .i64 b, .slice none 0 0, .int .u64 S.a, .int .u64 S.b, .int .u64 S.c, .int .u64 S.d, .slice none 0 0] 55) = W2 at *
 generalize w1.heap.size = g6 at *
 clear k0 k1
 obtain ⟨y0, y1, y2, y3, y4, y5, y6, y7, y8, y9⟩ := HX2.out.cells
 clear y0 y1 y2 y3 y4 y5 y6 y7 y8
 have he := HE2.out.cell
 have e0 := he 0
 have e1 := he 1
 have e2 := he 2
 have e3 := he 3
 have e4 := he 4
 have e5 := he 5
 have e6 := he 6
 have e7 := he 7
 have e8 := he 8
 have e9 := he 9
 clear he
 have hr := HR2.out.cell
 have r0 := hr 0
 have r1 := hr 1
 have r2 := hr 2
 have r3 := hr 3
 have r4 := hr 4
 have r5 := hr 5
 have r6 := hr 6
 have r7 := hr 7
 have r8 := hr 8
 have r9 := hr 9
 have rf := HR2.out.frozen
 clear hr
 go_wp2_with fail
 go_loopw [8, 9, 10, 26] (fun v8 v9 v10 v26 wr => v26 = .int .i64 0 ∧ wr = W2) (fun _ _ _ _ _ => 0)
 case atStart => exact ⟨rfl, rfl⟩
 case round =>
  obtain ⟨rfl, rfl⟩ := hrel
  go_wp2_with fail
  exact bodyPost_ret (v := .tuple #[.agg #[.int .i64 op, .int .i64 a, .int .i64 r, .int .i64 b, .slice none 0 0, .int .u64 S.a, .int .u64 S.b, .int .u64 S.c, .int .u64 S.d, .slice none 0 0], .int .i64 0]) (exprcode_ret (S := S) (op := op) (a := a) (r := r) (b := b) (vn := .slice none 0 0) (vk := .slice none 0 0) (c := 0) Tryz.results39 rfl rfl (HR2.out.store10x _ _ _ _ _ _ _ _ _ _)) rfl ⟨rfl, by first | exact (below_set10 HB2.out HSR.out _ _ _ _ _ _ _ _ _ _) | (rw [hgc]; exact (below_set10 HB2.out HSR.out _ _ _ _ _ _ _ _ _ _))⟩
set_option maxRecDepth 100000 in
set_option maxHeartbeats 16000000 in
theorem compile_no (x : X) (g o gp : Nat) (A op a r b c : Int) (S : S4) (w : World) (_hX : XAt w g o x) (_hg : g < w.heap.size) (hc0 : c ≠ 0)
 (hM : ∀ W, Kp w W → Calls Tryz.prog 67 #[.agg #[.pointer (some ⟨gp, 0, none⟩), .int .i64 A], .pointer (some ⟨g, o, none⟩)] W fun e w' => e = .returned (.tuple #[.agg #[.int .i64 op, .int .i64 a, .int .i64 r, .int .i64 b, .slice none 0 0, .int .u64 S.a, .int .u64 S.b, .int .u64 S.c, .int .u64 S.d, .slice none 0 0], .int .i64 c]) ∧ Below W.heap.size W w') :
 Calls Tryz.prog 39 #[.agg #[.pointer (some ⟨gp, 0, none⟩), .int .i64 A], .pointer (some ⟨g, o, none⟩)] w fun e w' => e = .returned (.tuple #[.agg #[.int .i64 0, .int .i64 0, .int .i64 0, .int .i64 0, .slice none 0 0, .int .u64 0, .int .u64 0, .int .u64 0, .int .u64 0, .slice none 0 0], .int .i64 c]) ∧ Below w.heap.size w w' := by
 have HB : Hid (Below w.heap.size w ((w.alloc (.cells #[.pointer (some ⟨gp, 0, none⟩), .int .i64 A] 105)).alloc (.cells #[.int .i64 0, .int .i64 0, .int .i64 0, .int .i64 0, .slice none 0 0, .int .u64 0, .int .u64 0, .int .u64 0, .int .u64 0, .slice none 0 0] 55))) := Lib.hid (((Below.refl _ _).alloc (Nat.le_refl _) _).alloc (by simp) _)
 have HC : Hid (Blk ((w.alloc (.cells #[.pointer (some ⟨gp, 0, none⟩), .int .i64 A] 105)).alloc (.cells #[.int .i64 0, .int .i64 0, .int .i64 0, .int .i64 0, .slice none 0 0, .int .u64 0, .int .u64 0, .int .u64 0, .int .u64 0, .slice none 0 0] 55)) w.heap.size 105 #[.pointer (some ⟨gp, 0, none⟩), .int .i64 A]) := Lib.hid ((Blk.new w _ _).alloc _)
 have HR : Hid (Blk ((w.alloc (.cells #[.pointer (some ⟨gp, 0, none⟩), .int .i64 A] 105)).alloc (.cells #[.int .i64 0, .int .i64 0, .int .i64 0, .int .i64 0, .slice none 0 0, .int .u64 0, .int .u64 0, .int .u64 0, .int .u64 0, .slice none 0 0] 55)) (w.heap.size + 1) 55 #[.int .i64 0, .int .i64 0, .int .i64 0, .int .i64 0, .slice none 0 0, .int .u64 0, .int .u64 0, .int .u64 0, .int .u64 0, .slice none 0 0]) := Lib.hid (two_new' _ _ _ _)
 have HM := Lib.hid (hM _ HB.out)
 have q0 : (c != 0) = true := by simpa using hc0
 clear _hX _hg hM hc0
 go_enter Tryz.func39, Tryz.ntmps39
 go_upto_region 1 with fail
 generalize (w.alloc (.cells #[.pointer (some ⟨gp, 0, none⟩), .int .i64 A] 105)).alloc (.cells #[.int .i64 0, .int .i64 0, .int .i64 0, .int .i64 0, .slice none 0 0, .int .u64 0, .int .u64 0, .int .u64 0, .int .u64 0, .slice none 0 0] 55) = W at *
 have HLE : Hid (w.heap.size ≤ W.heap.size) := Lib.hid HB.out.size
 have HSR : Hid (w.heap.size ≤ w.heap.size + 1) := Lib.hid (Nat.le_succ _)
 generalize w.heap.size + 1 = gr at *
 generalize hgc : w.heap.size = gc at *
 have hc := HC.out.cell
 have k0 := hc 0
 have k1 := hc 1
 clear hc
 go_upto_region 2 with (go_at_call 67; (with_reducible refine HM.out.mono ?_); rintro e w1 ⟨rfl, hb1⟩; have HB1 := Lib.hid (HB.out.trans (hb1.mono HLE.out)); have HL1 := Lib.hid (Nat.le_trans HLE.out hb1.size); have HR1 := Lib.hid (HR.out.keep hb1); clear hb1)
 have HR2 := Lib.hid (HR1.out.alloc (.cells #[.int .i64 op, .int .i64 a, .int .i64 r, .int .i64 b, .slice none 0 0, .int .u64 S.a, .int .u64 S.b, .int .u64 S.c, .int .u64 S.d, .slice none 0 0] 55))
 have HB2 : Hid (Below gc w (w1.alloc (.cells #[.int .i64 op, .int .i64 a, .int .i64 r, .int .i64 b, .slice none 0 0, .int .u64 S.a, .int .u64 S.b, .int .u64 S.c, .int .u64 S.d, .slice none 0 0] 55))) := Lib.hid (HB1.out.alloc HL1.out _)
 generalize w1.alloc (.cells #[.int .i64 op, .int .i64 a, .int .i64 r, .int .i64 b, .slice none 0 0, .int .u64 S.a, .int .u64 S.b, .int .u64 S.c, .int .u64 S.d, .slice none 0 0] 55) = W2 at *
 generalize w1.heap.size = g6 at *
 clear k0 k1
 have hr := HR2.out.cell
 have r0 := hr 0
 have r1 := hr 1
 have r2 := hr 2
 have r3 := hr 3
 have r4 := hr 4
 have r5 := hr 5
 have r6 := hr 6
 have r7 := hr 7
 have r8 := hr 8
 have r9 := hr 9
 have rf := HR2.out.frozen
 clear hr
 go_wp2_with fail
 exact bodyPost_ret (v := .tuple #[.agg #[.int .i64 0, .int .i64 0, .int .i64 0, .int .i64 0, .slice none 0 0, .int .u64 0, .int .u64 0, .int .u64 0, .int .u64 0, .slice none 0 0], .int .i64 c]) (exprcode_ret (S := S4.zero) (op := 0) (a := 0) (r := 0) (b := 0) (vn := .slice none 0 0) (vk := .slice none 0 0) (c := c) Tryz.results39 rfl rfl (HR2.out.store10x _ _ _ _ _ _ _ _ _ _)) rfl ⟨rfl, by first | exact (below_set10 HB2.out HSR.out _ _ _ _ _ _ _ _ _ _) | (rw [hgc]; exact (below_set10 HB2.out HSR.out _ _ _ _ _ _ _ _ _ _))⟩
open Go.RowKit Go
theorem three_new' (w : World) (o1 o2 : Obj) (t3 : TypeId) (c3 : Array Value) : Blk (((w.alloc o1).alloc o2).alloc (.cells c3 t3)) (w.heap.size + 1 + 1) t3 c3 := by
 have h := Blk.new ((w.alloc o1).alloc o2) t3 c3
 rw [World.size_alloc, World.size_alloc] at h
 exact h
set_option maxRecDepth 100000 in
set_option maxHeartbeats 16000000 in
theorem compileTop_c (x : X) (vn vk : Value) (b0 b1 b2 b3 b4 b5 b6 b7 b8 b9 b10 b11 b12 b13 b14 b15 b16 : Value) (vd : Bool) (op a r b c : Int) (S : S4) (w : World) (hV : XV w vn vk x) (hm : more 12 x = false)
 (hM : ∀ W gp g, Kp w W → Blk W gp 39 #[b0, b1, b2, b3, b4, b5, b6, b7, b8, b9, b10, b11, b12, b13, b14, b15, b16] → XAt W g 0 x → g < W.heap.size → Calls Tryz.prog 39 #[.agg #[.pointer (some ⟨gp, 0, none⟩), .int .i64 (if vd then 15 else 10)], .pointer (some ⟨g, 0, none⟩)] W fun e w' => e = .returned (.tuple #[.agg #[.int .i64 op, .int .i64 a, .int .i64 r, .int .i64 b, .slice none 0 0, .int .u64 S.a, .int .u64 S.b, .int .u64 S.c, .int .u64 S.d, .slice none 0 0], .int .i64 c]) ∧ Below W.heap.size W w') :
 Calls Tryz.prog 14 #[.agg #[.int .i64 x.op, .int .i64 x.a, .int .i64 x.r, .int .i64 x.b, vn, .int .u64 x.st.a, .int .u64 x.st.b, .int .u64 x.st.c, .int .u64 x.st.d, vk], .agg #[b0, b1, b2, b3, b4, b5, b6, b7, b8, b9, b10, b11, b12, b13, b14, b15, b16], .bool vd] w fun e w' => e = .returned (.tuple #[.agg #[.int .i64 op, .int .i64 a, .int .i64 r, .int .i64 b, .slice none 0 0, .int .u64 S.a, .int .u64 S.b, .int .u64 S.c, .int .u64 S.d, .slice none 0 0], .int .i64 c]) ∧ Below w.heap.size w w' := by
 obtain ⟨W, ZW⟩ : ∃ v, Hid ((((w.alloc (.cells #[.int .i64 x.op, .int .i64 x.a, .int .i64 x.r, .int .i64 x.b, vn, .int .u64 x.st.a, .int .u64 x.st.b, .int .u64 x.st.c, .int .u64 x.st.d, vk] 55)).alloc (.cells #[b0, b1, b2, b3, b4, b5, b6, b7, b8, b9, b10, b11, b12, b13, b14, b15, b16] 39)).alloc (.cells #[.int .i64 0, .int .i64 0, .int .i64 0, .int .i64 0, .slice none 0 0, .int .u64 0, .int .u64 0, .int .u64 0, .int .u64 0, .slice none 0 0] 55)) = v) := ⟨_, Lib.hid rfl⟩
 have HB : Hid (Below w.heap.size w W) := by cases ZW.out; exact Lib.hid ((((Below.refl _ _).alloc (Nat.le_refl _) _).alloc (by simp) _).alloc (by simp; omega) _)
 have HXB : Hid (Blk W w.heap.size 55 #[.int .i64 x.op, .int .i64 x.a, .int .i64 x.r, .int .i64 x.b, vn, .int .u64 x.st.a, .int .u64 x.st.b, .int .u64 x.st.c, .int .u64 x.st.d, vk]) := by cases ZW.out; exact Lib.hid (((Blk.new w _ _).alloc _).alloc _)
 have HP : Hid (Blk W (w.heap.size + 1) 39 #[b0, b1, b2, b3, b4, b5, b6, b7, b8, b9, b10, b11, b12, b13, b14, b15, b16]) := by cases ZW.out; exact Lib.hid ((two_new' _ _ _ _).alloc _)
 have HR : Hid (Blk W (w.heap.size + 1 + 1) 55 #[.int .i64 0, .int .i64 0, .int .i64 0, .int .i64 0, .slice none 0 0, .int .u64 0, .int .u64 0, .int .u64 0, .int .u64 0, .slice none 0 0]) := by cases ZW.out; exact Lib.hid (three_new' _ _ _ _ _)
 have HX := Lib.hid ((hV.keep HB.out).at HXB.out)
 have HG : Hid (w.heap.size < W.heap.size) := by cases ZW.out; exact Lib.hid HXB.out.lt
 obtain ⟨A, hA⟩ : ∃ A : Int, (if vd = true then (15 : Int) else 10) = A := ⟨_, rfl⟩
 rw [hA] at hM
 have HM := Lib.hid hM
 have hAT := fun u => attributes_c vd u
 simp only [hA] at hAT
 have HAT := Lib.hid hAT
 clear hAT hA
 have HMM := Lib.hid hm
 clear hV hM hm
 go_enter Tryz.func14, Tryz.ntmps14
 go_upto_region 1 with fail
 rw [ZW.out]
 have HLE : Hid (w.heap.size ≤ W.heap.size) := Lib.hid HB.out.size
 have HSR : Hid (w.heap.size ≤ w.heap.size + 1 + 1) := Lib.hid (by omega)
 have HTD := Lib.hid (tooDeep_c x w.heap.size 0 W HX.out HG.out)
 rw [HMM.out] at HTD
 have HM2 := Lib.hid (fun W1 (h : Kp W W1) => HM.out W1 (w.heap.size + 1) w.heap.size (HB.out.trans (h.mono HLE.out)) (HP.out.keep h) (HX.out.keep h HG.out) (Nat.lt_of_lt_of_le HG.out h.size))
 clear HM
 generalize w.heap.size + 1 + 1 = gr at *
 generalize w.heap.size + 1 = gp at *
 generalize hgc : w.heap.size = gc at *
 go_wp2_with (first
  | (go_at_call 37; (with_reducible refine HTD.out.mono ?_); rintro e w1 ⟨rfl, hb1⟩; have HK1 : Hid (Kp W w1) := Lib.hid hb1; clear hb1)
  | (go_at_call 38; (with_reducible refine (HAT.out _).mono ?_); rintro e w2 ⟨rfl, hb2⟩; have HK2 := Lib.hid (Kp.step HK1.out hb2); clear hb2)
  | (go_at_call 39; (refine (HM2.out _ HK2.out).mono ?_); rintro e w3 ⟨rfl, hb3⟩; have HK3 := Lib.hid (Kp.step HK2.out hb3); have HB3 := Lib.hid (HB.out.trans (Below.mono HK3.out HLE.out)); have HR3 := Lib.hid (HR.out.keep HK3.out); have hr := HR3.out.cell; have r0 := hr 0; have r1 := hr 1; have r2 := hr 2; have r3 := hr 3; have r4 := hr 4; have r5 := hr 5; have r6 := hr 6; have r7 := hr 7; have r8 := hr 8; have r9 := hr 9; have rf := HR3.out.frozen; clear hr; clear hb3))
 exact bodyPost_ret (v := .tuple #[.agg #[.int .i64 op, .int .i64 a, .int .i64 r, .int .i64 b, .slice none 0 0, .int .u64 S.a, .int .u64 S.b, .int .u64 S.c, .int .u64 S.d, .slice none 0 0], .int .i64 c]) (exprcode_ret (S := S) (op := op) (a := a) (r := r) (b := b) (vn := .slice none 0 0) (vk := .slice none 0 0) (c := c) Tryz.results14 rfl rfl (HR3.out.store10x _ _ _ _ _ _ _ _ _ _)) rfl ⟨rfl, by first | exact (below_set10 HB3.out HSR.out _ _ _ _ _ _ _ _ _ _) | (rw [hgc]; exact (below_set10 HB3.out HSR.out _ _ _ _ _ _ _ _ _ _))⟩
open Go.RowKit Go
set_option maxRecDepth 100000 in
set_option maxHeartbeats 16000000 in
theorem kclos_c (x : X) (g o ga gq : Nat) (A : Int) (w : World) (hX : XAt w g o x) (hg : g < w.heap.size) (h9 : x.op ≠ 9) (ha : Blk w ga 3 #[.int .i64 A]) :
 Calls Tryz.prog 75 #[.pointer (some ⟨g, o, none⟩), .pointer (some ⟨ga, 0, none⟩), .pointer (some ⟨gq, 0, none⟩)] w fun e w' => e = .returned (.int .i64 (opE A x)) ∧ Below w.heap.size w w' := by
 obtain ⟨ao, cap, ak, ck, hxc, -, -⟩ := hX.xc
 have HOC := Lib.hid (operator_c g o x.op x.a x.r x.b ao x.ns.length cap x.st ak x.ks.length ck A w hxc hg)
 have HE : Hid (operE A x.op x.a x.r x.b x.ns.length x.st x.ks.length = opE A x) := Lib.hid rfl
 rw [HE.out] at HOC
 generalize opE A x = code at *
 have HX := Lib.hid hxc
 have HG := Lib.hid hg
 have q9 : (x.op != 9) = true := by simpa using h9
 have a0 := ha.cell 0
 clear hX hxc hg h9 ha HE
 by_cases hc : code = 0
 · subst hc
   go_enter Tryz.func75, Tryz.ntmps75
   go_wp2_with (go_at_call 70; (with_reducible refine HOC.out.mono ?_); rintro e w1 ⟨rfl, hb1⟩; have HB1 := Lib.hid hb1; obtain ⟨y0, y1, y2, y3, y4, y5, y6, y7, y8, y9⟩ := (HX.out.keep (hb1.block g HG.out)).cells; clear hb1 y1 y2 y3 y4 y5 y6 y7 y8 y9)
   go_ret
   exact ⟨rfl, HB1.out⟩
 · have q0 : (code != 0) = true := by simpa using hc
   clear hc
   go_enter Tryz.func75, Tryz.ntmps75
   go_wp2_with (go_at_call 70; (with_reducible refine HOC.out.mono ?_); rintro e w1 ⟨rfl, hb1⟩; have HB1 := Lib.hid hb1; clear hb1)
   go_ret
   exact ⟨rfl, HB1.out⟩
set_option maxRecDepth 100000 in
set_option maxHeartbeats 16000000 in
theorem kfirst_c (x : X) (g o ga gq : Nat) (A : Int) (w : World) (hX : XAt w g o x) (hg : g < w.heap.size) (hks : x.ks.length = 0) (h9 : x.op ≠ 9) (ha : Blk w ga 3 #[.int .i64 A]) :
 Calls Tryz.prog 93 #[.pointer (some ⟨g, o, none⟩), .func (.func 75) #[] #[.pointer (some ⟨ga, 0, none⟩), .pointer (some ⟨gq, 0, none⟩)]] w fun e w' => e = .returned (.int .i64 (opE A x)) ∧ Below w.heap.size w w' := by
 have HC := Lib.hid (kclos_c x g o ga gq A w hX hg h9 ha)
 generalize opE A x = code at *
 obtain ⟨ao, cap, ak, ck, hxc, -, -⟩ := hX.xc
 rw [hks] at hxc
 have HX := Lib.hid hxc
 have HG := Lib.hid hg
 clear hX hxc hg h9 ha hks
 by_cases hc : code = 0
 · subst hc
   go_enter Tryz.func93, Tryz.ntmps93
   go_wp2_with (go_at_call 75; (with_reducible refine HC.out.mono ?_); rintro e w1 ⟨rfl, hb1⟩; have HB1 := Lib.hid hb1; obtain ⟨y0, y1, y2, y3, y4, y5, y6, y7, y8, y9⟩ := (HX.out.keep (hb1.block g HG.out)).cells; clear hb1 y0 y1 y2 y3 y4 y5 y6 y7 y8)
   go_loopw [6, 7, 19] (fun v6 v7 v19 wr => v19 = .int .i64 0 ∧ wr = w1) (fun _ _ _ _ => 0)
   case atStart => exact ⟨rfl, rfl⟩
   case round =>
    obtain ⟨rfl, rfl⟩ := hrel
    go_wp2_with fail
    go_ret
    exact ⟨rfl, HB1.out⟩
 · have q0 : (code != 0) = true := by simpa using hc
   clear hc
   go_enter Tryz.func93, Tryz.ntmps93
   go_wp2_with (go_at_call 75; (with_reducible refine HC.out.mono ?_); rintro e w1 ⟨rfl, hb1⟩; have HB1 := Lib.hid hb1; clear hb1)
   go_ret
   exact ⟨rfl, HB1.out⟩
set_option maxRecDepth 100000 in
set_option maxHeartbeats 16000000 in
theorem kcheck_c (x : X) (g o ga gq : Nat) (A : Int) (w : World) (hX : XAt w g o x) (hg : g < w.heap.size) (hks : x.ks.length = 0) (h9 : x.op ≠ 9) (ha : Blk w ga 3 #[.int .i64 A]) :
 Calls Tryz.prog 68 #[.pointer (some ⟨g, o, none⟩), .func (.func 75) #[] #[.pointer (some ⟨ga, 0, none⟩), .pointer (some ⟨gq, 0, none⟩)]] w fun e w' => e = .returned (.int .i64 (opE A x)) ∧ Below w.heap.size w w' := by
 have HT := Lib.hid (tooDeep_c x g o w hX hg)
 have hm : more 12 x = false := by
  have e : x.ks = [] := List.eq_nil_of_length_eq_zero hks
  show x.ks.any (more 11) = false
  rw [e]; rfl
 rw [hm] at HT
 have HC := Lib.hid (fun W (h : Kp w W) => kfirst_c x g o ga gq A W (hX.keep h hg) (Nat.lt_of_lt_of_le hg h.size) hks h9 (ha.keep h))
 generalize opE A x = code at *
 clear hX hg hks h9 ha hm
 go_enter Tryz.func68, Tryz.ntmps68
 go_wp2_with (first
  | (go_at_call 37; (with_reducible refine HT.out.mono ?_); rintro e w1 ⟨rfl, hb1⟩; have HB1 : Hid (Kp w w1) := Lib.hid hb1; clear hb1)
  | (go_at_call 93; (refine (HC.out _ HB1.out).mono ?_); rintro e w2 ⟨rfl, hb2⟩; have HB2 := Lib.hid (Kp.step HB1.out hb2); clear hb2))
 go_ret
 exact ⟨rfl, HB2.out⟩
set_option maxRecDepth 100000 in
set_option maxHeartbeats 16000000 in
theorem kconstraint_c (x : X) (g o gp : Nat) (vd : Bool) (w : World) (hX : XAt w g o x) (hg : g < w.heap.size) (hks : x.ks.length = 0) (h9 : x.op ≠ 9) :
 Calls Tryz.prog 44 #[.pointer (some ⟨g, o, none⟩), .pointer (some ⟨gp, 0, none⟩), .bool vd] w fun e w' => e = .returned (.int .i64 (opE (if vd then 15 else 10) x)) ∧ Below w.heap.size w w' := by
 obtain ⟨A, hA⟩ : ∃ A : Int, (if vd = true then (15 : Int) else 10) = A := ⟨_, rfl⟩
 rw [hA]
 have hAT := fun u => attributes_c vd u
 simp only [hA] at hAT
 have HAT := Lib.hid hAT
 clear hAT hA
 have HC := Lib.hid (fun gq W ga (h : Kp w W) (hb : Blk W ga 3 #[.int .i64 A]) => kcheck_c x g o ga gq A W (hX.keep h hg) (Nat.lt_of_lt_of_le hg h.size) hks h9 hb)
 generalize opE A x = code at *
 have HB : Hid (Kp w (w.alloc (.cells #[.pointer (some ⟨gp, 0, none⟩)] 102))) := Lib.hid ((Below.refl _ _).alloc (Nat.le_refl _) _)
 clear hX hg hks h9
 go_enter Tryz.func44, Tryz.ntmps44
 go_upto_region 2 with (go_at_call 38; (with_reducible refine (HAT.out _).mono ?_); rintro e w1 ⟨rfl, hb1⟩; have HB1 := Lib.hid (Kp.step HB.out hb1); clear hb1)
 have HA2 : Hid (Blk (w1.alloc (.cells #[.int .i64 A] 3)) w1.heap.size 3 #[.int .i64 A]) := Lib.hid (Blk.new w1 _ _)
 have HB2 := Lib.hid (Kp.alloc HB1.out (.cells #[.int .i64 A] 3))
 generalize w1.alloc (.cells #[.int .i64 A] 3) = W2 at *
 generalize w1.heap.size = ga at *
 go_wp2_with (go_at_call 68; (refine (HC.out _ _ ga HB2.out HA2.out).mono ?_); rintro e w3 ⟨rfl, hb3⟩; have HB3 := Lib.hid (Kp.step HB2.out hb3); clear hb3)
 go_ret
 exact ⟨rfl, HB3.out⟩
set_option maxRecDepth 100000 in
set_option maxHeartbeats 16000000 in
theorem check_leaf (x : X) (vn vk : Value) (b0 b1 b2 b3 b4 b5 b6 b7 b8 b9 b10 b11 b12 b13 b14 b15 b16 : Value) (vd : Bool) (w : World) (hV : XV w vn vk x) (hks : x.ks.length = 0) (h9 : x.op ≠ 9) :
 Calls Tryz.prog 19 #[.agg #[.int .i64 x.op, .int .i64 x.a, .int .i64 x.r, .int .i64 x.b, vn, .int .u64 x.st.a, .int .u64 x.st.b, .int .u64 x.st.c, .int .u64 x.st.d, vk], .agg #[b0, b1, b2, b3, b4, b5, b6, b7, b8, b9, b10, b11, b12, b13, b14, b15, b16], .bool vd] w fun e w' => e = .returned (.int .i64 (opE (if vd then 15 else 10) x)) ∧ Below w.heap.size w w' := by
 obtain ⟨W, ZW⟩ : ∃ v, Hid (((w.alloc (.cells #[.int .i64 x.op, .int .i64 x.a, .int .i64 x.r, .int .i64 x.b, vn, .int .u64 x.st.a, .int .u64 x.st.b, .int .u64 x.st.c, .int .u64 x.st.d, vk] 55)).alloc (.cells #[b0, b1, b2, b3, b4, b5, b6, b7, b8, b9, b10, b11, b12, b13, b14, b15, b16] 39)) = v) := ⟨_, Lib.hid rfl⟩
 have HB : Hid (Below w.heap.size w W) := by cases ZW.out; exact Lib.hid (((Below.refl _ _).alloc (Nat.le_refl _) _).alloc (by simp) _)
 have HXB : Hid (Blk W w.heap.size 55 #[.int .i64 x.op, .int .i64 x.a, .int .i64 x.r, .int .i64 x.b, vn, .int .u64 x.st.a, .int .u64 x.st.b, .int .u64 x.st.c, .int .u64 x.st.d, vk]) := by cases ZW.out; exact Lib.hid ((Blk.new w _ _).alloc _)
 have HC := Lib.hid (kconstraint_c x w.heap.size 0 (w.heap.size + 1) vd _ ((hV.keep HB.out).at HXB.out) HXB.out.lt hks h9)
 generalize opE (if vd then 15 else 10) x = code at *
 clear hV hks h9 HXB
 go_enter Tryz.func19, Tryz.ntmps19
 go_upto_region 1 with fail
 rw [ZW.out]
 go_wp2_with (go_at_call 44; (with_reducible refine HC.out.mono ?_); rintro e w1 ⟨rfl, hb1⟩; have HB1 := Lib.hid (HB.out.trans (hb1.mono HB.out.size)); clear hb1)
 go_ret
 exact ⟨rfl, HB1.out⟩
end Go.Proofs.YtbhoofihnmmmfabGreat
