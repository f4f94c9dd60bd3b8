/- The reference's Insert. -/
import Derived.Test.YtbcbhgclgakljaaKej
namespace Go.Proofs.Ytbcbhgclgakljaa
open Go.RowKit Go.Maps Go.WideElems Go.WideShapes
set_option maxRecDepth 100000 in
set_option maxHeartbeats 16000000 in
theorem rins_has (s : CS) (ao bo : Option Addr) (n cap cbp : Nat) (k : K3) (d : Dc) (w : World) (h : SR w s (.slice ao n cap) (.slice bo n cbp)) (hn : s.L.length = n) (hl : n ≤ 50000) (hst : ¬ d.sq < s.seq) (i : Nat) (hix : idxK s.L k = (i : Int)) (hli : i < s.L.length) :
    Calls Try.prog 38 #[.agg #[.int .i64 s.size, .int .i64 s.seq, .slice ao n cap, .slice bo n cbp, .int .i64 s.hits, .int .i64 s.misses, .int .i64 s.evicted, .int .i64 s.resets], .int .i64 k.a, .int .i64 k.b, .int .i64 k.c, .agg #[.int .u32 d.al, .int .u32 d.aa, .int .u32 d.ad, .bool d.pm, .int .i64 d.sq]] w fun e w' => ∃ vk' vd', e = .returned (.tuple #[.agg #[.int .i64 s.size, .int .i64 s.seq, vk', vd', .int .i64 s.hits, .int .i64 s.misses, .int .i64 s.evicted, .int .i64 s.resets], .int .i64 0]) ∧ SR w' ({ s with L := (k, d) :: s.L.eraseIdx i } : CS) vk' vd' ∧ Below w.heap.size w w' ∧ Own RK w' w.heap.size vk' (keysK ((k, d) :: s.L.eraseIdx i)) ∧ Own RD w' w.heap.size vd' (((k, d) :: s.L.eraseIdx i).map (·.2)) := by
  have HB : Hid (Below w.heap.size w ((((w.alloc (.cells #[.int .i64 s.size, .int .i64 s.seq, .slice ao n cap, .slice bo n cbp, .int .i64 s.hits, .int .i64 s.misses, .int .i64 s.evicted, .int .i64 s.resets] 29)).alloc (.cells #[.int .u32 d.al, .int .u32 d.aa, .int .u32 d.ad, .bool d.pm, .int .i64 d.sq] 39)).alloc (.cells #[.int .i64 0, .int .i64 0, .slice none 0 0, .slice none 0 0, .int .i64 0, .int .i64 0, .int .i64 0, .int .i64 0] 29)).alloc (.cells #[.int .i64 k.a, .int .i64 k.b, .int .i64 k.c] 84))) := Lib.hid ((((((Below.refl _ _).alloc (Nat.le_refl _) _).alloc (by simp) _).alloc (by simp; omega) _).alloc (by simp; omega) _))
  have H5 : Hid (Blk ((((w.alloc (.cells #[.int .i64 s.size, .int .i64 s.seq, .slice ao n cap, .slice bo n cbp, .int .i64 s.hits, .int .i64 s.misses, .int .i64 s.evicted, .int .i64 s.resets] 29)).alloc (.cells #[.int .u32 d.al, .int .u32 d.aa, .int .u32 d.ad, .bool d.pm, .int .i64 d.sq] 39)).alloc (.cells #[.int .i64 0, .int .i64 0, .slice none 0 0, .slice none 0 0, .int .i64 0, .int .i64 0, .int .i64 0, .int .i64 0] 29)).alloc (.cells #[.int .i64 k.a, .int .i64 k.b, .int .i64 k.c] 84)) w.heap.size 29 #[.int .i64 s.size, .int .i64 s.seq, .slice ao n cap, .slice bo n cbp, .int .i64 s.hits, .int .i64 s.misses, .int .i64 s.evicted, .int .i64 s.resets]) := Lib.hid ((((Blk.here rfl).alloc _).alloc _).alloc _)
  have H9 : Hid (Blk ((((w.alloc (.cells #[.int .i64 s.size, .int .i64 s.seq, .slice ao n cap, .slice bo n cbp, .int .i64 s.hits, .int .i64 s.misses, .int .i64 s.evicted, .int .i64 s.resets] 29)).alloc (.cells #[.int .u32 d.al, .int .u32 d.aa, .int .u32 d.ad, .bool d.pm, .int .i64 d.sq] 39)).alloc (.cells #[.int .i64 0, .int .i64 0, .slice none 0 0, .slice none 0 0, .int .i64 0, .int .i64 0, .int .i64 0, .int .i64 0] 29)).alloc (.cells #[.int .i64 k.a, .int .i64 k.b, .int .i64 k.c] 84)) (w.heap.size + 1) 39 #[.int .u32 d.al, .int .u32 d.aa, .int .u32 d.ad, .bool d.pm, .int .i64 d.sq]) := Lib.hid (((Blk.here (by simp)).alloc _).alloc _)
  have H10 : Hid (Blk ((((w.alloc (.cells #[.int .i64 s.size, .int .i64 s.seq, .slice ao n cap, .slice bo n cbp, .int .i64 s.hits, .int .i64 s.misses, .int .i64 s.evicted, .int .i64 s.resets] 29)).alloc (.cells #[.int .u32 d.al, .int .u32 d.aa, .int .u32 d.ad, .bool d.pm, .int .i64 d.sq] 39)).alloc (.cells #[.int .i64 0, .int .i64 0, .slice none 0 0, .slice none 0 0, .int .i64 0, .int .i64 0, .int .i64 0, .int .i64 0] 29)).alloc (.cells #[.int .i64 k.a, .int .i64 k.b, .int .i64 k.c] 84)) (w.heap.size + 1 + 1) 29 #[.int .i64 0, .int .i64 0, .slice none 0 0, .slice none 0 0, .int .i64 0, .int .i64 0, .int .i64 0, .int .i64 0]) := Lib.hid ((Blk.here (by simp)).alloc _)
  have H12 : Hid (Blk ((((w.alloc (.cells #[.int .i64 s.size, .int .i64 s.seq, .slice ao n cap, .slice bo n cbp, .int .i64 s.hits, .int .i64 s.misses, .int .i64 s.evicted, .int .i64 s.resets] 29)).alloc (.cells #[.int .u32 d.al, .int .u32 d.aa, .int .u32 d.ad, .bool d.pm, .int .i64 d.sq] 39)).alloc (.cells #[.int .i64 0, .int .i64 0, .slice none 0 0, .slice none 0 0, .int .i64 0, .int .i64 0, .int .i64 0, .int .i64 0] 29)).alloc (.cells #[.int .i64 k.a, .int .i64 k.b, .int .i64 k.c] 84)) (w.heap.size + 1 + 1 + 1) 84 #[.int .i64 k.a, .int .i64 k.b, .int .i64 k.c]) := Lib.hid (Blk.here (by simp))
  have HR0 := Lib.hid h
  have HIX := Lib.hid hix
  have HNN := Lib.hid hn
  have HLI := Lib.hid hli
  have hiI : ¬ (i : Int) < 0 := by omega
  have hiJ : (0 : Int) ≤ (i : Int) := by omega
  have hneA : w.heap.size ≠ w.heap.size + 1 ∧ w.heap.size ≠ w.heap.size + 1 + 1 ∧ w.heap.size ≠ w.heap.size + 1 + 1 + 1 ∧ w.heap.size + 1 ≠ w.heap.size + 1 + 1 ∧ w.heap.size + 1 + 1 ≠ w.heap.size + 1 + 1 + 1 := by omega
  have HNE := Lib.hid hneA
  have HG10 : Hid (w.heap.size ≤ w.heap.size + 1 + 1) := Lib.hid (by omega)
  clear h hix hn hneA hli
  go_enter Try.func38, Try.ntmps38
  skip
  go_upto_region 4 with fail
  generalize ((((w.alloc (.cells #[.int .i64 s.size, .int .i64 s.seq, .slice ao n cap, .slice bo n cbp, .int .i64 s.hits, .int .i64 s.misses, .int .i64 s.evicted, .int .i64 s.resets] 29)).alloc (.cells #[.int .u32 d.al, .int .u32 d.aa, .int .u32 d.ad, .bool d.pm, .int .i64 d.sq] 39)).alloc (.cells #[.int .i64 0, .int .i64 0, .slice none 0 0, .slice none 0 0, .int .i64 0, .int .i64 0, .int .i64 0, .int .i64 0] 29)).alloc (.cells #[.int .i64 k.a, .int .i64 k.b, .int .i64 k.c] 84)) = W at *
  generalize w.heap.size + 1 + 1 + 1 = g12 at *
  generalize w.heap.size + 1 + 1 = g10 at *
  generalize w.heap.size + 1 = g9 at *
  generalize hgx : w.heap.size = g5 at *
  have HRW : Hid (SR W ({ s with size := s.size } : CS) (.slice ao n cap) (.slice bo n cbp)) := Lib.hid (SR.below (w := w) (s := ({ s with size := s.size } : CS)) ⟨HR0.out.k, HR0.out.d, HR0.out.fk, HR0.out.fd⟩ (by first | exact HB.out | (rw [hgx]; exact HB.out)))
  have HIXC := Lib.hid (rindex_c ({ s with size := s.size } : CS) (.slice ao n cap) (.slice bo n cbp) k W HRW.out (by have := HNN.out; show s.L.length ≤ 100000; omega))
  simp only [HIX.out] at HIXC
  obtain ⟨c0, c1, c2, c3, c4, c5, c6, c7⟩ := H5.out.cells8
  obtain ⟨k0, k1, k2⟩ : W.cell? ⟨g12, 0, none⟩ = some (.int .i64 k.a) ∧ W.cell? ⟨g12, 1, none⟩ = some (.int .i64 k.b) ∧ W.cell? ⟨g12, 2, none⟩ = some (.int .i64 k.c) := ⟨H12.out.cell 0, H12.out.cell 1, H12.out.cell 2⟩
  go_upto_region 5 with (first | (go_at_call 53; refine HIXC.out.mono ?_; rintro e w2 ⟨rfl, hb2⟩; have HB2 := Lib.hid hb2; clear hb2) | fail)
  clear c0 c1 c2 c3 c4 c5 c6 c7 k0 k1 k2
  replace H5 := Lib.hid (H5.out.keep HB2.out)
  replace H9 := Lib.hid (H9.out.keep HB2.out)
  replace H10 := Lib.hid (H10.out.keep HB2.out)
  replace H12 := Lib.hid (H12.out.keep HB2.out)
  have HBx : Hid (Below g5 w w2) := Lib.hid (HB.out.trans (HB2.out.mono (by have := HB.out.size; omega)))
  clear HB HB2 HIXC HRW
  obtain ⟨hA1, hA2, hA3, hA4, hA5⟩ := HNE.out
  obtain ⟨c0, c1, c2, c3, c4, c5, c6, c7⟩ := H5.out.cells8
  obtain ⟨f0, f1, f2, f3, f4, f5, f6, f7⟩ := H5.out.fro8
  go_upto_region 9 with fail
  clear c0 c1 c2 c3 c4 c5 c6 c7 f0 f1 f2 f3 f4 f5 f6 f7
  obtain ⟨c0, c1, c2, c3, c4, c5, c6, c7⟩ := H5.out.cells8
  have HWO := Lib.hid (rwithout_c s (.slice ao n cap) (.slice bo n cbp) i w2 (SR.below (w := w) (s := s) ⟨HR0.out.k, HR0.out.d, HR0.out.fk, HR0.out.fd⟩ (by first | exact HBx.out | (rw [hgx]; exact HBx.out))) (by have := HNN.out; show s.L.length ≤ 50000; omega) (by have := HNN.out; show _ < s.L.length; exact HLI.out))
  obtain ⟨nk, hnk⟩ : ∃ nk, (keysK (s.L.eraseIdx i)).length = nk := ⟨_, rfl⟩
  obtain ⟨nd, hnd⟩ : ∃ nd, ((s.L.eraseIdx i).map (·.2)).length = nd := ⟨_, rfl⟩
  have HNK := Lib.hid hnk
  have HND := Lib.hid hnd
  clear hnk hnd
  go_upto_region 10 with (first | (go_at_call 55; refine HWO.out.mono ?_; rintro e w4 ⟨vk1, vd1, rfl, -, hb4, ok1, od1⟩; obtain ⟨a1, l1, hv1⟩ := ok1.isSl; obtain ⟨a2, l2, hv2⟩ := od1.isSl; simp only [HNK.out] at hv1; simp only [HND.out] at hv2; subst hv1 hv2; have HB4 := Lib.hid hb4; have HOK := Lib.hid ok1; have HOD := Lib.hid od1; clear hb4 ok1 od1; obtain ⟨f0, f1, f2, f3, f4, f5, f6, f7⟩ := (H5.out.keep HB4.out).fro8; obtain ⟨y0, y1, y2, y3, y4, y5, y6, y7⟩ := (H5.out.keep HB4.out).cells8) | fail)
  have hb5 := (H5.out.keep HB4.out).set8 (.int .i64 s.size) (.int .i64 s.seq) (.slice a1 nk l1) (.slice a2 nd l2) (.int .i64 s.hits) (.int .i64 s.misses) (.int .i64 s.evicted) (.int .i64 s.resets)
  have ha5 := apart_set8 w4 g5 (.int .i64 s.size) (.int .i64 s.seq) (.slice a1 nk l1) (.slice a2 nd l2) (.int .i64 s.hits) (.int .i64 s.misses) (.int .i64 s.evicted) (.int .i64 s.resets)
  have h5lt := H5.out.lt
  have h9z := ha5.blk (H9.out.keep HB4.out) (fun e => hA1 e.symm)
  have h10z := ha5.blk (H10.out.keep HB4.out) (fun e => hA2 e.symm)
  have h12z := ha5.blk (H12.out.keep HB4.out) (fun e => hA3 e.symm)
  have hokz := HOK.out.blocks (fun j h1 h2 => ha5.block j h2 (fun e => by have : j = g5 := e; omega))
  have hodz := HOD.out.blocks (fun j h1 h2 => ha5.block j h2 (fun e => by have : j = g5 := e; omega))
  have hbz : Below g5 w _ := (HBx.out.trans (HB4.out.mono (by have := HBx.out.size; omega))).trans (ha5.below (by have := HBx.out.size; have := HB4.out.size; omega) (fun j e => by have : j = g5 := e; omega))
  unfold set8 at hb5 ha5 h9z h10z h12z hokz hodz hbz
  clear H5 H9 H10 H12 HBx HB4 HOK HOD ha5 HWO c0 c1 c2 c3 c4 c5 c6 c7 f0 f1 f2 f3 f4 f5 f6 f7 y0 y1 y2 y3 y4 y5 y6 y7
  generalize ((((((((w4.setCell ⟨g5, 0, none⟩ (.int .i64 s.size)).setCell ⟨g5, 1, none⟩ (.int .i64 s.seq)).setCell ⟨g5, 2, none⟩ (.slice a1 nk l1)).setCell ⟨g5, 3, none⟩ (.slice a2 nd l2)).setCell ⟨g5, 4, none⟩ (.int .i64 s.hits)).setCell ⟨g5, 5, none⟩ (.int .i64 s.misses)).setCell ⟨g5, 6, none⟩ (.int .i64 s.evicted)).setCell ⟨g5, 7, none⟩ (.int .i64 s.resets)) = w5 at *
  have H5 := Lib.hid hb5
  have H9 := Lib.hid h9z
  have H10 := Lib.hid h10z
  have H12 := Lib.hid h12z
  have HSR : Hid (SR w5 ({ s with L := s.L.eraseIdx i } : CS) (.slice a1 nk l1) (.slice a2 nd l2)) := Lib.hid (Own.sr hokz hodz)
  have HBx : Hid (Below g5 w w5) := Lib.hid hbz
  clear hb5 h9z h10z h12z hokz hodz hbz
  have HUS := Lib.hid (rused_c ({ s with L := s.L.eraseIdx i } : CS) (.slice a1 nk l1) (.slice a2 nd l2) k d w5 HSR.out (by have := HNN.out; show (s.L.eraseIdx i).length ≤ 50000; rw [List.length_eraseIdx]; split <;> omega))
  obtain ⟨c0, c1, c2, c3, c4, c5, c6, c7⟩ := H5.out.cells8
  obtain ⟨t0, t1, t2, t3, t4, _⟩ := H9.out.cells5
  obtain ⟨k0, k1, k2⟩ : w5.cell? ⟨g12, 0, none⟩ = some (.int .i64 k.a) ∧ w5.cell? ⟨g12, 1, none⟩ = some (.int .i64 k.b) ∧ w5.cell? ⟨g12, 2, none⟩ = some (.int .i64 k.c) := ⟨H12.out.cell 0, H12.out.cell 1, H12.out.cell 2⟩
  obtain ⟨mk, hmk⟩ : ∃ nk, (k :: keysK (s.L.eraseIdx i)).length = nk := ⟨_, rfl⟩
  obtain ⟨md, hmd⟩ : ∃ nd, (d :: (s.L.eraseIdx i).map (·.2)).length = nd := ⟨_, rfl⟩
  have HMK := Lib.hid hmk
  have HMD := Lib.hid hmd
  clear hmk hmd
  go_wp2_with (first | (go_at_call 54; refine HUS.out.mono ?_; rintro e w6 ⟨vk1, vd1, rfl, -, hb6, ok1, od1⟩; obtain ⟨p1, l3, hv1⟩ := ok1.isSl; obtain ⟨p2, l4, hv2⟩ := od1.isSl; simp only [HMK.out] at hv1; simp only [HMD.out] at hv2; subst hv1 hv2; have HB6 := Lib.hid hb6; have HOK := Lib.hid ok1; have HOD := Lib.hid od1; clear hb6 ok1 od1; obtain ⟨f0, f1, f2, f3, f4, f5, f6, f7⟩ := (H10.out.keep HB6.out).fro8; obtain ⟨y0, y1, y2, y3, y4, y5, y6, y7⟩ := (H10.out.keep HB6.out).cells8) | fail)
  have hb5 := (H10.out.keep HB6.out).set8 (.int .i64 s.size) (.int .i64 s.seq) (.slice p1 mk l3) (.slice p2 md l4) (.int .i64 s.hits) (.int .i64 s.misses) (.int .i64 s.evicted) (.int .i64 s.resets)
  have ha5 := apart_set8 w6 g10 (.int .i64 s.size) (.int .i64 s.seq) (.slice p1 mk l3) (.slice p2 md l4) (.int .i64 s.hits) (.int .i64 s.misses) (.int .i64 s.evicted) (.int .i64 s.resets)
  have h10lt := H10.out.lt
  have hokz := HOK.out.blocks (fun j h1 h2 => ha5.block j h2 (fun e => by have : j = g10 := e; omega))
  have hodz := HOD.out.blocks (fun j h1 h2 => ha5.block j h2 (fun e => by have : j = g10 := e; omega))
  have hbz : Below g5 w _ := (HBx.out.trans (HB6.out.mono (by have := HBx.out.size; omega))).trans (ha5.below (by have := HBx.out.size; have := HB6.out.size; omega) (fun j e => by have : j = g10 := e; have := HG10.out; omega))
  unfold set8 at hb5 ha5 hokz hodz hbz
  generalize ((((((((w6.setCell ⟨g10, 0, none⟩ (.int .i64 s.size)).setCell ⟨g10, 1, none⟩ (.int .i64 s.seq)).setCell ⟨g10, 2, none⟩ (.slice p1 mk l3)).setCell ⟨g10, 3, none⟩ (.slice p2 md l4)).setCell ⟨g10, 4, none⟩ (.int .i64 s.hits)).setCell ⟨g10, 5, none⟩ (.int .i64 s.misses)).setCell ⟨g10, 6, none⟩ (.int .i64 s.evicted)).setCell ⟨g10, 7, none⟩ (.int .i64 s.resets)) = w7 at *
  obtain ⟨q0, q1, q2, q3, q4, q5, q6, q7⟩ := hb5.cells8
  refine bodyPost_ret (v := .tuple #[.agg #[.int .i64 s.size, .int .i64 s.seq, .slice p1 mk l3, .slice p2 md l4, .int .i64 s.hits, .int .i64 s.misses, .int .i64 s.evicted, .int .i64 s.resets], .int .i64 0]) (by simp [results, Try.results38, go_sem, q0, q1, q2, q3, q4, q5, q6, q7]) rfl ?_
  have hBs := HBx.out.size
  exact ⟨_, _, rfl, Own.sr hokz hodz, (by first | exact hbz | (rw [hgx]; exact hbz)), hokz.base (by omega), hodz.base (by omega)⟩
set_option maxRecDepth 100000 in
set_option maxHeartbeats 16000000 in
theorem rins_full (s : CS) (ao bo : Option Addr) (n cap cbp : Nat) (k : K3) (d : Dc) (w : World) (h : SR w s (.slice ao n cap) (.slice bo n cbp)) (hn : s.L.length = n) (hl : n ≤ 50000) (hst : ¬ d.sq < s.seq) (hix : idxK s.L k = -1) (hev : 0 ≤ s.evicted ∧ s.evicted ≤ 1000000) (hpos : 1 ≤ n) :
    Calls Try.prog 38 #[.agg #[.int .i64 (n : Int), .int .i64 s.seq, .slice ao n cap, .slice bo n cbp, .int .i64 s.hits, .int .i64 s.misses, .int .i64 s.evicted, .int .i64 s.resets], .int .i64 k.a, .int .i64 k.b, .int .i64 k.c, .agg #[.int .u32 d.al, .int .u32 d.aa, .int .u32 d.ad, .bool d.pm, .int .i64 d.sq]] w fun e w' => ∃ vk' vd', e = .returned (.tuple #[.agg #[.int .i64 (n : Int), .int .i64 s.seq, vk', vd', .int .i64 s.hits, .int .i64 s.misses, .int .i64 (s.evicted + 1), .int .i64 s.resets], .int .i64 0]) ∧ SR w' ({ s with L := (k, d) :: s.L.eraseIdx (n - 1) } : CS) vk' vd' ∧ Below w.heap.size w w' ∧ Own RK w' w.heap.size vk' (keysK ((k, d) :: s.L.eraseIdx (n - 1))) ∧ Own RD w' w.heap.size vd' (((k, d) :: s.L.eraseIdx (n - 1)).map (·.2)) := by
  have HB : Hid (Below w.heap.size w ((((w.alloc (.cells #[.int .i64 (n : Int), .int .i64 s.seq, .slice ao n cap, .slice bo n cbp, .int .i64 s.hits, .int .i64 s.misses, .int .i64 s.evicted, .int .i64 s.resets] 29)).alloc (.cells #[.int .u32 d.al, .int .u32 d.aa, .int .u32 d.ad, .bool d.pm, .int .i64 d.sq] 39)).alloc (.cells #[.int .i64 0, .int .i64 0, .slice none 0 0, .slice none 0 0, .int .i64 0, .int .i64 0, .int .i64 0, .int .i64 0] 29)).alloc (.cells #[.int .i64 k.a, .int .i64 k.b, .int .i64 k.c] 84))) := Lib.hid ((((((Below.refl _ _).alloc (Nat.le_refl _) _).alloc (by simp) _).alloc (by simp; omega) _).alloc (by simp; omega) _))
  have H5 : Hid (Blk ((((w.alloc (.cells #[.int .i64 (n : Int), .int .i64 s.seq, .slice ao n cap, .slice bo n cbp, .int .i64 s.hits, .int .i64 s.misses, .int .i64 s.evicted, .int .i64 s.resets] 29)).alloc (.cells #[.int .u32 d.al, .int .u32 d.aa, .int .u32 d.ad, .bool d.pm, .int .i64 d.sq] 39)).alloc (.cells #[.int .i64 0, .int .i64 0, .slice none 0 0, .slice none 0 0, .int .i64 0, .int .i64 0, .int .i64 0, .int .i64 0] 29)).alloc (.cells #[.int .i64 k.a, .int .i64 k.b, .int .i64 k.c] 84)) w.heap.size 29 #[.int .i64 (n : Int), .int .i64 s.seq, .slice ao n cap, .slice bo n cbp, .int .i64 s.hits, .int .i64 s.misses, .int .i64 s.evicted, .int .i64 s.resets]) := Lib.hid ((((Blk.here rfl).alloc _).alloc _).alloc _)
  have H9 : Hid (Blk ((((w.alloc (.cells #[.int .i64 (n : Int), .int .i64 s.seq, .slice ao n cap, .slice bo n cbp, .int .i64 s.hits, .int .i64 s.misses, .int .i64 s.evicted, .int .i64 s.resets] 29)).alloc (.cells #[.int .u32 d.al, .int .u32 d.aa, .int .u32 d.ad, .bool d.pm, .int .i64 d.sq] 39)).alloc (.cells #[.int .i64 0, .int .i64 0, .slice none 0 0, .slice none 0 0, .int .i64 0, .int .i64 0, .int .i64 0, .int .i64 0] 29)).alloc (.cells #[.int .i64 k.a, .int .i64 k.b, .int .i64 k.c] 84)) (w.heap.size + 1) 39 #[.int .u32 d.al, .int .u32 d.aa, .int .u32 d.ad, .bool d.pm, .int .i64 d.sq]) := Lib.hid (((Blk.here (by simp)).alloc _).alloc _)
  have H10 : Hid (Blk ((((w.alloc (.cells #[.int .i64 (n : Int), .int .i64 s.seq, .slice ao n cap, .slice bo n cbp, .int .i64 s.hits, .int .i64 s.misses, .int .i64 s.evicted, .int .i64 s.resets] 29)).alloc (.cells #[.int .u32 d.al, .int .u32 d.aa, .int .u32 d.ad, .bool d.pm, .int .i64 d.sq] 39)).alloc (.cells #[.int .i64 0, .int .i64 0, .slice none 0 0, .slice none 0 0, .int .i64 0, .int .i64 0, .int .i64 0, .int .i64 0] 29)).alloc (.cells #[.int .i64 k.a, .int .i64 k.b, .int .i64 k.c] 84)) (w.heap.size + 1 + 1) 29 #[.int .i64 0, .int .i64 0, .slice none 0 0, .slice none 0 0, .int .i64 0, .int .i64 0, .int .i64 0, .int .i64 0]) := Lib.hid ((Blk.here (by simp)).alloc _)
  have H12 : Hid (Blk ((((w.alloc (.cells #[.int .i64 (n : Int), .int .i64 s.seq, .slice ao n cap, .slice bo n cbp, .int .i64 s.hits, .int .i64 s.misses, .int .i64 s.evicted, .int .i64 s.resets] 29)).alloc (.cells #[.int .u32 d.al, .int .u32 d.aa, .int .u32 d.ad, .bool d.pm, .int .i64 d.sq] 39)).alloc (.cells #[.int .i64 0, .int .i64 0, .slice none 0 0, .slice none 0 0, .int .i64 0, .int .i64 0, .int .i64 0, .int .i64 0] 29)).alloc (.cells #[.int .i64 k.a, .int .i64 k.b, .int .i64 k.c] 84)) (w.heap.size + 1 + 1 + 1) 84 #[.int .i64 k.a, .int .i64 k.b, .int .i64 k.c]) := Lib.hid (Blk.here (by simp))
  have HR0 := Lib.hid h
  have HIX := Lib.hid hix
  have HNN := Lib.hid hn
  obtain ⟨he0, he1⟩ := hev
  have hp0 : (0 : Int) ≤ (n : Int) - 1 := by omega
  have hneA : w.heap.size ≠ w.heap.size + 1 ∧ w.heap.size ≠ w.heap.size + 1 + 1 ∧ w.heap.size ≠ w.heap.size + 1 + 1 + 1 ∧ w.heap.size + 1 ≠ w.heap.size + 1 + 1 ∧ w.heap.size + 1 + 1 ≠ w.heap.size + 1 + 1 + 1 := by omega
  have HNE := Lib.hid hneA
  have HG10 : Hid (w.heap.size ≤ w.heap.size + 1 + 1) := Lib.hid (by omega)
  clear h hix hn hneA
  go_enter Try.func38, Try.ntmps38
  skip
  go_upto_region 4 with fail
  generalize ((((w.alloc (.cells #[.int .i64 (n : Int), .int .i64 s.seq, .slice ao n cap, .slice bo n cbp, .int .i64 s.hits, .int .i64 s.misses, .int .i64 s.evicted, .int .i64 s.resets] 29)).alloc (.cells #[.int .u32 d.al, .int .u32 d.aa, .int .u32 d.ad, .bool d.pm, .int .i64 d.sq] 39)).alloc (.cells #[.int .i64 0, .int .i64 0, .slice none 0 0, .slice none 0 0, .int .i64 0, .int .i64 0, .int .i64 0, .int .i64 0] 29)).alloc (.cells #[.int .i64 k.a, .int .i64 k.b, .int .i64 k.c] 84)) = W at *
  generalize w.heap.size + 1 + 1 + 1 = g12 at *
  generalize w.heap.size + 1 + 1 = g10 at *
  generalize w.heap.size + 1 = g9 at *
  generalize hgx : w.heap.size = g5 at *
  have HRW : Hid (SR W ({ s with size := (n : Int) } : CS) (.slice ao n cap) (.slice bo n cbp)) := Lib.hid (SR.below (w := w) (s := ({ s with size := (n : Int) } : CS)) ⟨HR0.out.k, HR0.out.d, HR0.out.fk, HR0.out.fd⟩ (by first | exact HB.out | (rw [hgx]; exact HB.out)))
  have HIXC := Lib.hid (rindex_c ({ s with size := (n : Int) } : CS) (.slice ao n cap) (.slice bo n cbp) k W HRW.out (by have := HNN.out; show s.L.length ≤ 100000; omega))
  simp only [HIX.out] at HIXC
  obtain ⟨c0, c1, c2, c3, c4, c5, c6, c7⟩ := H5.out.cells8
  obtain ⟨k0, k1, k2⟩ : W.cell? ⟨g12, 0, none⟩ = some (.int .i64 k.a) ∧ W.cell? ⟨g12, 1, none⟩ = some (.int .i64 k.b) ∧ W.cell? ⟨g12, 2, none⟩ = some (.int .i64 k.c) := ⟨H12.out.cell 0, H12.out.cell 1, H12.out.cell 2⟩
  go_upto_region 5 with (first | (go_at_call 53; refine HIXC.out.mono ?_; rintro e w2 ⟨rfl, hb2⟩; have HB2 := Lib.hid hb2; clear hb2) | fail)
  clear c0 c1 c2 c3 c4 c5 c6 c7 k0 k1 k2
  replace H5 := Lib.hid (H5.out.keep HB2.out)
  replace H9 := Lib.hid (H9.out.keep HB2.out)
  replace H10 := Lib.hid (H10.out.keep HB2.out)
  replace H12 := Lib.hid (H12.out.keep HB2.out)
  have HBx : Hid (Below g5 w w2) := Lib.hid (HB.out.trans (HB2.out.mono (by have := HB.out.size; omega)))
  clear HB HB2 HIXC HRW
  obtain ⟨hA1, hA2, hA3, hA4, hA5⟩ := HNE.out
  obtain ⟨c0, c1, c2, c3, c4, c5, c6, c7⟩ := H5.out.cells8
  obtain ⟨f0, f1, f2, f3, f4, f5, f6, f7⟩ := H5.out.fro8
  go_upto_region 9 with fail
  have H5x : Hid (Blk (w2.setCell ⟨g5, 6, none⟩ (.int .i64 (s.evicted + 1))) g5 29 #[.int .i64 (n : Int), .int .i64 s.seq, .slice ao n cap, .slice bo n cbp, .int .i64 s.hits, .int .i64 s.misses, .int .i64 (s.evicted + 1), .int .i64 s.resets]) := Lib.hid (by simpa using H5.out.set 6 (.int .i64 (s.evicted + 1)))
  have H9x := Lib.hid (H9.out.far (p := ⟨g5, 6, none⟩) (fun e => hA1 e.symm) (.int .i64 (s.evicted + 1)))
  have H10x := Lib.hid (H10.out.far (p := ⟨g5, 6, none⟩) (fun e => hA2 e.symm) (.int .i64 (s.evicted + 1)))
  have H12x := Lib.hid (H12.out.far (p := ⟨g5, 6, none⟩) (fun e => hA3 e.symm) (.int .i64 (s.evicted + 1)))
  have HBy : Hid (Below g5 w (w2.setCell ⟨g5, 6, none⟩ (.int .i64 (s.evicted + 1)))) := Lib.hid (HBx.out.setCell (p := ⟨g5, 6, none⟩) (Nat.le_refl _) _)
  clear H5 H9 H10 H12 HBx
  have H5 := H5x
  have H9 := H9x
  have H10 := H10x
  have H12 := H12x
  have HBx := HBy
  clear H5x H9x H10x H12x HBy
  generalize (w2.setCell ⟨g5, 6, none⟩ (.int .i64 (s.evicted + 1))) = w2 at *
  clear c0 c1 c2 c3 c4 c5 c6 c7 f0 f1 f2 f3 f4 f5 f6 f7
  obtain ⟨c0, c1, c2, c3, c4, c5, c6, c7⟩ := H5.out.cells8
  have HWO := Lib.hid (rwithout_c ({ s with size := (n : Int), evicted := (s.evicted + 1) } : CS) (.slice ao n cap) (.slice bo n cbp) (n - 1) w2 (SR.below (w := w) (s := ({ s with size := (n : Int), evicted := (s.evicted + 1) } : CS)) ⟨HR0.out.k, HR0.out.d, HR0.out.fk, HR0.out.fd⟩ (by first | exact HBx.out | (rw [hgx]; exact HBx.out))) (by have := HNN.out; show s.L.length ≤ 50000; omega) (by have := HNN.out; show _ < s.L.length; omega))
  have hcast : ((n - 1 : Nat) : Int) = (n : Int) - 1 := by omega
  rw [hcast] at HWO
  clear hcast
  obtain ⟨nk, hnk⟩ : ∃ nk, (keysK (s.L.eraseIdx (n - 1))).length = nk := ⟨_, rfl⟩
  obtain ⟨nd, hnd⟩ : ∃ nd, ((s.L.eraseIdx (n - 1)).map (·.2)).length = nd := ⟨_, rfl⟩
  have HNK := Lib.hid hnk
  have HND := Lib.hid hnd
  clear hnk hnd
  go_upto_region 10 with (first | (go_at_call 55; refine HWO.out.mono ?_; rintro e w4 ⟨vk1, vd1, rfl, -, hb4, ok1, od1⟩; obtain ⟨a1, l1, hv1⟩ := ok1.isSl; obtain ⟨a2, l2, hv2⟩ := od1.isSl; simp only [HNK.out] at hv1; simp only [HND.out] at hv2; subst hv1 hv2; have HB4 := Lib.hid hb4; have HOK := Lib.hid ok1; have HOD := Lib.hid od1; clear hb4 ok1 od1; obtain ⟨f0, f1, f2, f3, f4, f5, f6, f7⟩ := (H5.out.keep HB4.out).fro8; obtain ⟨y0, y1, y2, y3, y4, y5, y6, y7⟩ := (H5.out.keep HB4.out).cells8) | fail)
  have hb5 := (H5.out.keep HB4.out).set8 (.int .i64 (n : Int)) (.int .i64 s.seq) (.slice a1 nk l1) (.slice a2 nd l2) (.int .i64 s.hits) (.int .i64 s.misses) (.int .i64 (s.evicted + 1)) (.int .i64 s.resets)
  have ha5 := apart_set8 w4 g5 (.int .i64 (n : Int)) (.int .i64 s.seq) (.slice a1 nk l1) (.slice a2 nd l2) (.int .i64 s.hits) (.int .i64 s.misses) (.int .i64 (s.evicted + 1)) (.int .i64 s.resets)
  have h5lt := H5.out.lt
  have h9z := ha5.blk (H9.out.keep HB4.out) (fun e => hA1 e.symm)
  have h10z := ha5.blk (H10.out.keep HB4.out) (fun e => hA2 e.symm)
  have h12z := ha5.blk (H12.out.keep HB4.out) (fun e => hA3 e.symm)
  have hokz := HOK.out.blocks (fun j h1 h2 => ha5.block j h2 (fun e => by have : j = g5 := e; omega))
  have hodz := HOD.out.blocks (fun j h1 h2 => ha5.block j h2 (fun e => by have : j = g5 := e; omega))
  have hbz : Below g5 w _ := (HBx.out.trans (HB4.out.mono (by have := HBx.out.size; omega))).trans (ha5.below (by have := HBx.out.size; have := HB4.out.size; omega) (fun j e => by have : j = g5 := e; omega))
  unfold set8 at hb5 ha5 h9z h10z h12z hokz hodz hbz
  clear H5 H9 H10 H12 HBx HB4 HOK HOD ha5 HWO c0 c1 c2 c3 c4 c5 c6 c7 f0 f1 f2 f3 f4 f5 f6 f7 y0 y1 y2 y3 y4 y5 y6 y7
  generalize ((((((((w4.setCell ⟨g5, 0, none⟩ (.int .i64 (n : Int))).setCell ⟨g5, 1, none⟩ (.int .i64 s.seq)).setCell ⟨g5, 2, none⟩ (.slice a1 nk l1)).setCell ⟨g5, 3, none⟩ (.slice a2 nd l2)).setCell ⟨g5, 4, none⟩ (.int .i64 s.hits)).setCell ⟨g5, 5, none⟩ (.int .i64 s.misses)).setCell ⟨g5, 6, none⟩ (.int .i64 (s.evicted + 1))).setCell ⟨g5, 7, none⟩ (.int .i64 s.resets)) = w5 at *
  have H5 := Lib.hid hb5
  have H9 := Lib.hid h9z
  have H10 := Lib.hid h10z
  have H12 := Lib.hid h12z
  have HSR : Hid (SR w5 ({ s with size := (n : Int), evicted := s.evicted + 1, L := s.L.eraseIdx (n - 1) } : CS) (.slice a1 nk l1) (.slice a2 nd l2)) := Lib.hid (Own.sr hokz hodz)
  have HBx : Hid (Below g5 w w5) := Lib.hid hbz
  clear hb5 h9z h10z h12z hokz hodz hbz
  have HUS := Lib.hid (rused_c ({ s with size := (n : Int), evicted := s.evicted + 1, L := s.L.eraseIdx (n - 1) } : CS) (.slice a1 nk l1) (.slice a2 nd l2) k d w5 HSR.out (by have := HNN.out; show (s.L.eraseIdx (n - 1)).length ≤ 50000; rw [List.length_eraseIdx]; split <;> omega))
  obtain ⟨c0, c1, c2, c3, c4, c5, c6, c7⟩ := H5.out.cells8
  obtain ⟨t0, t1, t2, t3, t4, _⟩ := H9.out.cells5
  obtain ⟨k0, k1, k2⟩ : w5.cell? ⟨g12, 0, none⟩ = some (.int .i64 k.a) ∧ w5.cell? ⟨g12, 1, none⟩ = some (.int .i64 k.b) ∧ w5.cell? ⟨g12, 2, none⟩ = some (.int .i64 k.c) := ⟨H12.out.cell 0, H12.out.cell 1, H12.out.cell 2⟩
  obtain ⟨mk, hmk⟩ : ∃ nk, (k :: keysK (s.L.eraseIdx (n - 1))).length = nk := ⟨_, rfl⟩
  obtain ⟨md, hmd⟩ : ∃ nd, (d :: (s.L.eraseIdx (n - 1)).map (·.2)).length = nd := ⟨_, rfl⟩
  have HMK := Lib.hid hmk
  have HMD := Lib.hid hmd
  clear hmk hmd
  go_wp2_with (first | (go_at_call 54; refine HUS.out.mono ?_; rintro e w6 ⟨vk1, vd1, rfl, -, hb6, ok1, od1⟩; obtain ⟨p1, l3, hv1⟩ := ok1.isSl; obtain ⟨p2, l4, hv2⟩ := od1.isSl; simp only [HMK.out] at hv1; simp only [HMD.out] at hv2; subst hv1 hv2; have HB6 := Lib.hid hb6; have HOK := Lib.hid ok1; have HOD := Lib.hid od1; clear hb6 ok1 od1; obtain ⟨f0, f1, f2, f3, f4, f5, f6, f7⟩ := (H10.out.keep HB6.out).fro8; obtain ⟨y0, y1, y2, y3, y4, y5, y6, y7⟩ := (H10.out.keep HB6.out).cells8) | fail)
  have hb5 := (H10.out.keep HB6.out).set8 (.int .i64 (n : Int)) (.int .i64 s.seq) (.slice p1 mk l3) (.slice p2 md l4) (.int .i64 s.hits) (.int .i64 s.misses) (.int .i64 (s.evicted + 1)) (.int .i64 s.resets)
  have ha5 := apart_set8 w6 g10 (.int .i64 (n : Int)) (.int .i64 s.seq) (.slice p1 mk l3) (.slice p2 md l4) (.int .i64 s.hits) (.int .i64 s.misses) (.int .i64 (s.evicted + 1)) (.int .i64 s.resets)
  have h10lt := H10.out.lt
  have hokz := HOK.out.blocks (fun j h1 h2 => ha5.block j h2 (fun e => by have : j = g10 := e; omega))
  have hodz := HOD.out.blocks (fun j h1 h2 => ha5.block j h2 (fun e => by have : j = g10 := e; omega))
  have hbz : Below g5 w _ := (HBx.out.trans (HB6.out.mono (by have := HBx.out.size; omega))).trans (ha5.below (by have := HBx.out.size; have := HB6.out.size; omega) (fun j e => by have : j = g10 := e; have := HG10.out; omega))
  unfold set8 at hb5 ha5 hokz hodz hbz
  generalize ((((((((w6.setCell ⟨g10, 0, none⟩ (.int .i64 (n : Int))).setCell ⟨g10, 1, none⟩ (.int .i64 s.seq)).setCell ⟨g10, 2, none⟩ (.slice p1 mk l3)).setCell ⟨g10, 3, none⟩ (.slice p2 md l4)).setCell ⟨g10, 4, none⟩ (.int .i64 s.hits)).setCell ⟨g10, 5, none⟩ (.int .i64 s.misses)).setCell ⟨g10, 6, none⟩ (.int .i64 (s.evicted + 1))).setCell ⟨g10, 7, none⟩ (.int .i64 s.resets)) = w7 at *
  obtain ⟨q0, q1, q2, q3, q4, q5, q6, q7⟩ := hb5.cells8
  refine bodyPost_ret (v := .tuple #[.agg #[.int .i64 (n : Int), .int .i64 s.seq, .slice p1 mk l3, .slice p2 md l4, .int .i64 s.hits, .int .i64 s.misses, .int .i64 (s.evicted + 1), .int .i64 s.resets], .int .i64 0]) (by simp [results, Try.results38, go_sem, q0, q1, q2, q3, q4, q5, q6, q7]) rfl ?_
  have hBs := HBx.out.size
  exact ⟨_, _, rfl, Own.sr hokz hodz, (by first | exact hbz | (rw [hgx]; exact hbz)), hokz.base (by omega), hodz.base (by omega)⟩
set_option maxRecDepth 100000 in
set_option maxHeartbeats 16000000 in
theorem rins_new (s : CS) (ao bo : Option Addr) (n cap cbp : Nat) (k : K3) (d : Dc) (w : World) (h : SR w s (.slice ao n cap) (.slice bo n cbp)) (hn : s.L.length = n) (hl : n ≤ 50000) (hst : ¬ d.sq < s.seq) (hix : idxK s.L k = -1) (hsz : ¬ (n : Int) = s.size) :
    Calls Try.prog 38 #[.agg #[.int .i64 s.size, .int .i64 s.seq, .slice ao n cap, .slice bo n cbp, .int .i64 s.hits, .int .i64 s.misses, .int .i64 s.evicted, .int .i64 s.resets], .int .i64 k.a, .int .i64 k.b, .int .i64 k.c, .agg #[.int .u32 d.al, .int .u32 d.aa, .int .u32 d.ad, .bool d.pm, .int .i64 d.sq]] w fun e w' => ∃ vk' vd', e = .returned (.tuple #[.agg #[.int .i64 s.size, .int .i64 s.seq, vk', vd', .int .i64 s.hits, .int .i64 s.misses, .int .i64 s.evicted, .int .i64 s.resets], .int .i64 0]) ∧ SR w' ({ s with L := (k, d) :: s.L } : CS) vk' vd' ∧ Below w.heap.size w w' ∧ Own RK w' w.heap.size vk' (keysK ((k, d) :: s.L)) ∧ Own RD w' w.heap.size vd' (((k, d) :: s.L).map (·.2)) := by
  have HB : Hid (Below w.heap.size w ((((w.alloc (.cells #[.int .i64 s.size, .int .i64 s.seq, .slice ao n cap, .slice bo n cbp, .int .i64 s.hits, .int .i64 s.misses, .int .i64 s.evicted, .int .i64 s.resets] 29)).alloc (.cells #[.int .u32 d.al, .int .u32 d.aa, .int .u32 d.ad, .bool d.pm, .int .i64 d.sq] 39)).alloc (.cells #[.int .i64 0, .int .i64 0, .slice none 0 0, .slice none 0 0, .int .i64 0, .int .i64 0, .int .i64 0, .int .i64 0] 29)).alloc (.cells #[.int .i64 k.a, .int .i64 k.b, .int .i64 k.c] 84))) := Lib.hid ((((((Below.refl _ _).alloc (Nat.le_refl _) _).alloc (by simp) _).alloc (by simp; omega) _).alloc (by simp; omega) _))
  have H5 : Hid (Blk ((((w.alloc (.cells #[.int .i64 s.size, .int .i64 s.seq, .slice ao n cap, .slice bo n cbp, .int .i64 s.hits, .int .i64 s.misses, .int .i64 s.evicted, .int .i64 s.resets] 29)).alloc (.cells #[.int .u32 d.al, .int .u32 d.aa, .int .u32 d.ad, .bool d.pm, .int .i64 d.sq] 39)).alloc (.cells #[.int .i64 0, .int .i64 0, .slice none 0 0, .slice none 0 0, .int .i64 0, .int .i64 0, .int .i64 0, .int .i64 0] 29)).alloc (.cells #[.int .i64 k.a, .int .i64 k.b, .int .i64 k.c] 84)) w.heap.size 29 #[.int .i64 s.size, .int .i64 s.seq, .slice ao n cap, .slice bo n cbp, .int .i64 s.hits, .int .i64 s.misses, .int .i64 s.evicted, .int .i64 s.resets]) := Lib.hid ((((Blk.here rfl).alloc _).alloc _).alloc _)
  have H9 : Hid (Blk ((((w.alloc (.cells #[.int .i64 s.size, .int .i64 s.seq, .slice ao n cap, .slice bo n cbp, .int .i64 s.hits, .int .i64 s.misses, .int .i64 s.evicted, .int .i64 s.resets] 29)).alloc (.cells #[.int .u32 d.al, .int .u32 d.aa, .int .u32 d.ad, .bool d.pm, .int .i64 d.sq] 39)).alloc (.cells #[.int .i64 0, .int .i64 0, .slice none 0 0, .slice none 0 0, .int .i64 0, .int .i64 0, .int .i64 0, .int .i64 0] 29)).alloc (.cells #[.int .i64 k.a, .int .i64 k.b, .int .i64 k.c] 84)) (w.heap.size + 1) 39 #[.int .u32 d.al, .int .u32 d.aa, .int .u32 d.ad, .bool d.pm, .int .i64 d.sq]) := Lib.hid (((Blk.here (by simp)).alloc _).alloc _)
  have H10 : Hid (Blk ((((w.alloc (.cells #[.int .i64 s.size, .int .i64 s.seq, .slice ao n cap, .slice bo n cbp, .int .i64 s.hits, .int .i64 s.misses, .int .i64 s.evicted, .int .i64 s.resets] 29)).alloc (.cells #[.int .u32 d.al, .int .u32 d.aa, .int .u32 d.ad, .bool d.pm, .int .i64 d.sq] 39)).alloc (.cells #[.int .i64 0, .int .i64 0, .slice none 0 0, .slice none 0 0, .int .i64 0, .int .i64 0, .int .i64 0, .int .i64 0] 29)).alloc (.cells #[.int .i64 k.a, .int .i64 k.b, .int .i64 k.c] 84)) (w.heap.size + 1 + 1) 29 #[.int .i64 0, .int .i64 0, .slice none 0 0, .slice none 0 0, .int .i64 0, .int .i64 0, .int .i64 0, .int .i64 0]) := Lib.hid ((Blk.here (by simp)).alloc _)
  have H12 : Hid (Blk ((((w.alloc (.cells #[.int .i64 s.size, .int .i64 s.seq, .slice ao n cap, .slice bo n cbp, .int .i64 s.hits, .int .i64 s.misses, .int .i64 s.evicted, .int .i64 s.resets] 29)).alloc (.cells #[.int .u32 d.al, .int .u32 d.aa, .int .u32 d.ad, .bool d.pm, .int .i64 d.sq] 39)).alloc (.cells #[.int .i64 0, .int .i64 0, .slice none 0 0, .slice none 0 0, .int .i64 0, .int .i64 0, .int .i64 0, .int .i64 0] 29)).alloc (.cells #[.int .i64 k.a, .int .i64 k.b, .int .i64 k.c] 84)) (w.heap.size + 1 + 1 + 1) 84 #[.int .i64 k.a, .int .i64 k.b, .int .i64 k.c]) := Lib.hid (Blk.here (by simp))
  have HR0 := Lib.hid h
  have HIX := Lib.hid hix
  have HNN := Lib.hid hn
  have hneA : w.heap.size ≠ w.heap.size + 1 ∧ w.heap.size ≠ w.heap.size + 1 + 1 ∧ w.heap.size ≠ w.heap.size + 1 + 1 + 1 ∧ w.heap.size + 1 ≠ w.heap.size + 1 + 1 ∧ w.heap.size + 1 + 1 ≠ w.heap.size + 1 + 1 + 1 := by omega
  have HNE := Lib.hid hneA
  have HG10 : Hid (w.heap.size ≤ w.heap.size + 1 + 1) := Lib.hid (by omega)
  clear h hix hn hneA
  go_enter Try.func38, Try.ntmps38
  skip
  go_upto_region 4 with fail
  generalize ((((w.alloc (.cells #[.int .i64 s.size, .int .i64 s.seq, .slice ao n cap, .slice bo n cbp, .int .i64 s.hits, .int .i64 s.misses, .int .i64 s.evicted, .int .i64 s.resets] 29)).alloc (.cells #[.int .u32 d.al, .int .u32 d.aa, .int .u32 d.ad, .bool d.pm, .int .i64 d.sq] 39)).alloc (.cells #[.int .i64 0, .int .i64 0, .slice none 0 0, .slice none 0 0, .int .i64 0, .int .i64 0, .int .i64 0, .int .i64 0] 29)).alloc (.cells #[.int .i64 k.a, .int .i64 k.b, .int .i64 k.c] 84)) = W at *
  generalize w.heap.size + 1 + 1 + 1 = g12 at *
  generalize w.heap.size + 1 + 1 = g10 at *
  generalize w.heap.size + 1 = g9 at *
  generalize hgx : w.heap.size = g5 at *
  have HRW : Hid (SR W ({ s with size := s.size } : CS) (.slice ao n cap) (.slice bo n cbp)) := Lib.hid (SR.below (w := w) (s := ({ s with size := s.size } : CS)) ⟨HR0.out.k, HR0.out.d, HR0.out.fk, HR0.out.fd⟩ (by first | exact HB.out | (rw [hgx]; exact HB.out)))
  have HIXC := Lib.hid (rindex_c ({ s with size := s.size } : CS) (.slice ao n cap) (.slice bo n cbp) k W HRW.out (by have := HNN.out; show s.L.length ≤ 100000; omega))
  simp only [HIX.out] at HIXC
  obtain ⟨c0, c1, c2, c3, c4, c5, c6, c7⟩ := H5.out.cells8
  obtain ⟨k0, k1, k2⟩ : W.cell? ⟨g12, 0, none⟩ = some (.int .i64 k.a) ∧ W.cell? ⟨g12, 1, none⟩ = some (.int .i64 k.b) ∧ W.cell? ⟨g12, 2, none⟩ = some (.int .i64 k.c) := ⟨H12.out.cell 0, H12.out.cell 1, H12.out.cell 2⟩
  go_upto_region 5 with (first | (go_at_call 53; refine HIXC.out.mono ?_; rintro e w2 ⟨rfl, hb2⟩; have HB2 := Lib.hid hb2; clear hb2) | fail)
  clear c0 c1 c2 c3 c4 c5 c6 c7 k0 k1 k2
  replace H5 := Lib.hid (H5.out.keep HB2.out)
  replace H9 := Lib.hid (H9.out.keep HB2.out)
  replace H10 := Lib.hid (H10.out.keep HB2.out)
  replace H12 := Lib.hid (H12.out.keep HB2.out)
  have HBx : Hid (Below g5 w w2) := Lib.hid (HB.out.trans (HB2.out.mono (by have := HB.out.size; omega)))
  clear HB HB2 HIXC HRW
  obtain ⟨hA1, hA2, hA3, hA4, hA5⟩ := HNE.out
  obtain ⟨c0, c1, c2, c3, c4, c5, c6, c7⟩ := H5.out.cells8
  obtain ⟨f0, f1, f2, f3, f4, f5, f6, f7⟩ := H5.out.fro8
  go_upto_region 10 with fail
  have HSR : Hid (SR w2 s (.slice ao n cap) (.slice bo n cbp)) := Lib.hid (HR0.out.below (by first | exact HBx.out | (rw [hgx]; exact HBx.out)))
  clear c0 c1 c2 c3 c4 c5 c6 c7 f0 f1 f2 f3 f4 f5 f6 f7
  have HUS := Lib.hid (rused_c s (.slice ao n cap) (.slice bo n cbp) k d w2 HSR.out (by have := HNN.out; show (s.L).length ≤ 50000; omega))
  obtain ⟨c0, c1, c2, c3, c4, c5, c6, c7⟩ := H5.out.cells8
  obtain ⟨t0, t1, t2, t3, t4, _⟩ := H9.out.cells5
  obtain ⟨k0, k1, k2⟩ : w2.cell? ⟨g12, 0, none⟩ = some (.int .i64 k.a) ∧ w2.cell? ⟨g12, 1, none⟩ = some (.int .i64 k.b) ∧ w2.cell? ⟨g12, 2, none⟩ = some (.int .i64 k.c) := ⟨H12.out.cell 0, H12.out.cell 1, H12.out.cell 2⟩
  obtain ⟨mk, hmk⟩ : ∃ nk, (k :: keysK (s.L)).length = nk := ⟨_, rfl⟩
  obtain ⟨md, hmd⟩ : ∃ nd, (d :: (s.L).map (·.2)).length = nd := ⟨_, rfl⟩
  have HMK := Lib.hid hmk
  have HMD := Lib.hid hmd
  clear hmk hmd
  go_wp2_with (first | (go_at_call 54; refine HUS.out.mono ?_; rintro e w6 ⟨vk1, vd1, rfl, -, hb6, ok1, od1⟩; obtain ⟨p1, l3, hv1⟩ := ok1.isSl; obtain ⟨p2, l4, hv2⟩ := od1.isSl; simp only [HMK.out] at hv1; simp only [HMD.out] at hv2; subst hv1 hv2; have HB6 := Lib.hid hb6; have HOK := Lib.hid ok1; have HOD := Lib.hid od1; clear hb6 ok1 od1; obtain ⟨f0, f1, f2, f3, f4, f5, f6, f7⟩ := (H10.out.keep HB6.out).fro8; obtain ⟨y0, y1, y2, y3, y4, y5, y6, y7⟩ := (H10.out.keep HB6.out).cells8) | fail)
  have hb5 := (H10.out.keep HB6.out).set8 (.int .i64 s.size) (.int .i64 s.seq) (.slice p1 mk l3) (.slice p2 md l4) (.int .i64 s.hits) (.int .i64 s.misses) (.int .i64 s.evicted) (.int .i64 s.resets)
  have ha5 := apart_set8 w6 g10 (.int .i64 s.size) (.int .i64 s.seq) (.slice p1 mk l3) (.slice p2 md l4) (.int .i64 s.hits) (.int .i64 s.misses) (.int .i64 s.evicted) (.int .i64 s.resets)
  have h10lt := H10.out.lt
  have hokz := HOK.out.blocks (fun j h1 h2 => ha5.block j h2 (fun e => by have : j = g10 := e; omega))
  have hodz := HOD.out.blocks (fun j h1 h2 => ha5.block j h2 (fun e => by have : j = g10 := e; omega))
  have hbz : Below g5 w _ := (HBx.out.trans (HB6.out.mono (by have := HBx.out.size; omega))).trans (ha5.below (by have := HBx.out.size; have := HB6.out.size; omega) (fun j e => by have : j = g10 := e; have := HG10.out; omega))
  unfold set8 at hb5 ha5 hokz hodz hbz
  generalize ((((((((w6.setCell ⟨g10, 0, none⟩ (.int .i64 s.size)).setCell ⟨g10, 1, none⟩ (.int .i64 s.seq)).setCell ⟨g10, 2, none⟩ (.slice p1 mk l3)).setCell ⟨g10, 3, none⟩ (.slice p2 md l4)).setCell ⟨g10, 4, none⟩ (.int .i64 s.hits)).setCell ⟨g10, 5, none⟩ (.int .i64 s.misses)).setCell ⟨g10, 6, none⟩ (.int .i64 s.evicted)).setCell ⟨g10, 7, none⟩ (.int .i64 s.resets)) = w7 at *
  obtain ⟨q0, q1, q2, q3, q4, q5, q6, q7⟩ := hb5.cells8
  refine bodyPost_ret (v := .tuple #[.agg #[.int .i64 s.size, .int .i64 s.seq, .slice p1 mk l3, .slice p2 md l4, .int .i64 s.hits, .int .i64 s.misses, .int .i64 s.evicted, .int .i64 s.resets], .int .i64 0]) (by simp [results, Try.results38, go_sem, q0, q1, q2, q3, q4, q5, q6, q7]) rfl ?_
  have hBs := HBx.out.size
  exact ⟨_, _, rfl, Own.sr hokz hodz, (by first | exact hbz | (rw [hgx]; exact hbz)), hokz.base (by omega), hodz.base (by omega)⟩
end Go.Proofs.Ytbcbhgclgakljaa
