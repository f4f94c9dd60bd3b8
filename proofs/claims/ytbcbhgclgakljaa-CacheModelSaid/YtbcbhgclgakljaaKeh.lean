/- The reference's Find where there is nothing. -/
import Derived.Test.YtbcbhgclgakljaaKeg
namespace Go.Proofs.Ytbcbhgclgakljaa
open Go.RowKit Go.Maps Go.WideElems Go.WideShapes
set_option maxRecDepth 100000 in
set_option maxHeartbeats 16000000 in
theorem rfind_miss (s : CS) (ao bo : Option Addr) (n cap cbp : Nat) (k : K3) (w : World) (h : SR w s (.slice ao n cap) (.slice bo n cbp)) (hm : 0 ≤ s.misses ∧ s.misses ≤ 1000000) (hl : s.L.length ≤ 50000) (hk : lookK s.L k = none) :
    Calls Try.prog 36 #[.agg #[.int .i64 s.size, .int .i64 s.seq, .slice ao n cap, .slice bo n cbp, .int .i64 s.hits, .int .i64 s.misses, .int .i64 s.evicted, .int .i64 s.resets], .int .i64 k.a, .int .i64 k.b, .int .i64 k.c] w fun e w' => e = .returned (.tuple #[.agg #[.int .i64 s.size, .int .i64 s.seq, .slice ao n cap, .slice bo n cbp, .int .i64 s.hits, .int .i64 (s.misses + 1), .int .i64 s.evicted, .int .i64 s.resets], .agg #[.int .u32 0, .int .u32 0, .int .u32 0, .bool false, .int .i64 0], .bool false]) ∧ Below w.heap.size w w' := by
  have HB : Hid (Below w.heap.size w ((((w.alloc (.cells #[.int .i64 s.size, .int .i64 s.seq, .slice ao n cap, .slice bo n cbp, .int .i64 s.hits, .int .i64 s.misses, .int .i64 s.evicted, .int .i64 s.resets] 29)).alloc (.cells #[.int .i64 0, .int .i64 0, .slice none 0 0, .slice none 0 0, .int .i64 0, .int .i64 0, .int .i64 0, .int .i64 0] 29)).alloc (.cells #[.int .u32 0, .int .u32 0, .int .u32 0, .bool false, .int .i64 0] 39)).alloc (.cells #[.int .i64 k.a, .int .i64 k.b, .int .i64 k.c] 84))) := Lib.hid ((((((Below.refl _ _).alloc (Nat.le_refl _) _).alloc (by simp) _).alloc (by simp; omega) _).alloc (by simp; omega) _))
  have HS : Hid (Blk ((((w.alloc (.cells #[.int .i64 s.size, .int .i64 s.seq, .slice ao n cap, .slice bo n cbp, .int .i64 s.hits, .int .i64 s.misses, .int .i64 s.evicted, .int .i64 s.resets] 29)).alloc (.cells #[.int .i64 0, .int .i64 0, .slice none 0 0, .slice none 0 0, .int .i64 0, .int .i64 0, .int .i64 0, .int .i64 0] 29)).alloc (.cells #[.int .u32 0, .int .u32 0, .int .u32 0, .bool false, .int .i64 0] 39)).alloc (.cells #[.int .i64 k.a, .int .i64 k.b, .int .i64 k.c] 84)) w.heap.size 29 #[.int .i64 s.size, .int .i64 s.seq, .slice ao n cap, .slice bo n cbp, .int .i64 s.hits, .int .i64 s.misses, .int .i64 s.evicted, .int .i64 s.resets]) := Lib.hid ((((Blk.here rfl).alloc _).alloc _).alloc _)
  have HZ : Hid (Blk ((((w.alloc (.cells #[.int .i64 s.size, .int .i64 s.seq, .slice ao n cap, .slice bo n cbp, .int .i64 s.hits, .int .i64 s.misses, .int .i64 s.evicted, .int .i64 s.resets] 29)).alloc (.cells #[.int .i64 0, .int .i64 0, .slice none 0 0, .slice none 0 0, .int .i64 0, .int .i64 0, .int .i64 0, .int .i64 0] 29)).alloc (.cells #[.int .u32 0, .int .u32 0, .int .u32 0, .bool false, .int .i64 0] 39)).alloc (.cells #[.int .i64 k.a, .int .i64 k.b, .int .i64 k.c] 84)) (w.heap.size + 1) 29 #[.int .i64 0, .int .i64 0, .slice none 0 0, .slice none 0 0, .int .i64 0, .int .i64 0, .int .i64 0, .int .i64 0]) := Lib.hid (((Blk.here (by simp)).alloc _).alloc _)
  have HE : Hid (Blk ((((w.alloc (.cells #[.int .i64 s.size, .int .i64 s.seq, .slice ao n cap, .slice bo n cbp, .int .i64 s.hits, .int .i64 s.misses, .int .i64 s.evicted, .int .i64 s.resets] 29)).alloc (.cells #[.int .i64 0, .int .i64 0, .slice none 0 0, .slice none 0 0, .int .i64 0, .int .i64 0, .int .i64 0, .int .i64 0] 29)).alloc (.cells #[.int .u32 0, .int .u32 0, .int .u32 0, .bool false, .int .i64 0] 39)).alloc (.cells #[.int .i64 k.a, .int .i64 k.b, .int .i64 k.c] 84)) (w.heap.size + 1 + 1) 39 #[.int .u32 0, .int .u32 0, .int .u32 0, .bool false, .int .i64 0]) := Lib.hid ((Blk.here (by simp)).alloc _)
  have HK : Hid (Blk ((((w.alloc (.cells #[.int .i64 s.size, .int .i64 s.seq, .slice ao n cap, .slice bo n cbp, .int .i64 s.hits, .int .i64 s.misses, .int .i64 s.evicted, .int .i64 s.resets] 29)).alloc (.cells #[.int .i64 0, .int .i64 0, .slice none 0 0, .slice none 0 0, .int .i64 0, .int .i64 0, .int .i64 0, .int .i64 0] 29)).alloc (.cells #[.int .u32 0, .int .u32 0, .int .u32 0, .bool false, .int .i64 0] 39)).alloc (.cells #[.int .i64 k.a, .int .i64 k.b, .int .i64 k.c] 84)) (w.heap.size + 1 + 1 + 1) 84 #[.int .i64 k.a, .int .i64 k.b, .int .i64 k.c]) := Lib.hid (Blk.here (by simp))
  have HR0 := Lib.hid h
  have HIX := Lib.hid (ix_miss hk)
  have HL := Lib.hid hl
  have hne48 : w.heap.size ≠ w.heap.size + 1 := by omega
  have hne49 : w.heap.size ≠ w.heap.size + 1 + 1 := by omega
  have hne89 : w.heap.size + 1 ≠ w.heap.size + 1 + 1 := by omega
  have HG8 : Hid (w.heap.size ≤ w.heap.size + 1) := Lib.hid (by omega)
  have HG9 : Hid (w.heap.size ≤ w.heap.size + 1 + 1) := Lib.hid (by omega)
  obtain ⟨hm0, hm1⟩ := hm
  clear h hk hl
  go_enter Try.func36, Try.ntmps36
  go_upto_region 2 with fail
  generalize ((((w.alloc (.cells #[.int .i64 s.size, .int .i64 s.seq, .slice ao n cap, .slice bo n cbp, .int .i64 s.hits, .int .i64 s.misses, .int .i64 s.evicted, .int .i64 s.resets] 29)).alloc (.cells #[.int .i64 0, .int .i64 0, .slice none 0 0, .slice none 0 0, .int .i64 0, .int .i64 0, .int .i64 0, .int .i64 0] 29)).alloc (.cells #[.int .u32 0, .int .u32 0, .int .u32 0, .bool false, .int .i64 0] 39)).alloc (.cells #[.int .i64 k.a, .int .i64 k.b, .int .i64 k.c] 84)) = W at *
  generalize w.heap.size + 1 + 1 + 1 = g11 at *
  generalize w.heap.size + 1 + 1 = g9 at *
  generalize w.heap.size + 1 = g8 at *
  generalize hgx : w.heap.size = g4 at *
  have HRW : Hid (SR W s (.slice ao n cap) (.slice bo n cbp)) := Lib.hid (HR0.out.below (by first | exact HB.out | (rw [hgx]; exact HB.out)))
  have HIXC := Lib.hid (rindex_c s (.slice ao n cap) (.slice bo n cbp) k W HRW.out (by have := HL.out; omega))
  rw [HIX.out] at HIXC
  obtain ⟨c0, c1, c2, c3, c4, c5, c6, c7⟩ := HS.out.cells8
  obtain ⟨k0, k1, k2⟩ : W.cell? ⟨g11, 0, none⟩ = some (.int .i64 k.a) ∧ W.cell? ⟨g11, 1, none⟩ = some (.int .i64 k.b) ∧ W.cell? ⟨g11, 2, none⟩ = some (.int .i64 k.c) := ⟨HK.out.cell 0, HK.out.cell 1, HK.out.cell 2⟩
  go_upto_region 4 with (first | (go_at_call 53; refine HIXC.out.mono ?_; rintro e w2 ⟨rfl, hb2⟩; have HB2 := Lib.hid hb2; clear hb2) | fail)
  clear c0 c1 c2 c3 c4 c5 c6 c7 k0 k1 k2
  have HS2 := Lib.hid (HS.out.keep HB2.out)
  have HZ2 := Lib.hid (HZ.out.keep HB2.out)
  have HE2 := Lib.hid (HE.out.keep HB2.out)
  have HBB : Hid (Below g4 w w2) := Lib.hid (HB.out.trans (HB2.out.mono (by have := HB.out.size; omega)))
  obtain ⟨c0, c1, c2, c3, c4, c5, c6, c7⟩ := HS2.out.cells8
  obtain ⟨f0, f1, f2, f3, f4, f5, f6, f7⟩ := HS2.out.fro8
  go_upto_region 5 with fail
  have HS3 : Hid (Blk (w2.setCell ⟨g4, 5, none⟩ (.int .i64 (s.misses + 1))) g4 29 #[.int .i64 s.size, .int .i64 s.seq, .slice ao n cap, .slice bo n cbp, .int .i64 s.hits, .int .i64 (s.misses + 1), .int .i64 s.evicted, .int .i64 s.resets]) := Lib.hid (by simpa using HS2.out.set 5 (.int .i64 (s.misses + 1)))
  have HZ3 : Hid (Blk (w2.setCell ⟨g4, 5, none⟩ (.int .i64 (s.misses + 1))) g8 29 #[.int .i64 0, .int .i64 0, .slice none 0 0, .slice none 0 0, .int .i64 0, .int .i64 0, .int .i64 0, .int .i64 0]) := Lib.hid (HZ2.out.far (p := ⟨g4, 5, none⟩) (fun e => hne48 e.symm) _)
  have HE3 : Hid (Blk (w2.setCell ⟨g4, 5, none⟩ (.int .i64 (s.misses + 1))) g9 39 #[.int .u32 0, .int .u32 0, .int .u32 0, .bool false, .int .i64 0]) := Lib.hid (HE2.out.far (p := ⟨g4, 5, none⟩) (fun e => hne49 e.symm) _)
  have HB3 : Hid (Below g4 w (w2.setCell ⟨g4, 5, none⟩ (.int .i64 (s.misses + 1)))) := Lib.hid (HBB.out.setCell (p := ⟨g4, 5, none⟩) (Nat.le_refl _) _)
  generalize w2.setCell ⟨g4, 5, none⟩ (.int .i64 (s.misses + 1)) = w3 at *
  clear c0 c1 c2 c3 c4 c5 c6 c7 f0 f1 f2 f3 f4 f5 f6 f7
  obtain ⟨c0, c1, c2, c3, c4, c5, c6, c7⟩ := HS3.out.cells8
  obtain ⟨z0, z1, z2, z3, z4, z5, z6, z7⟩ := HZ3.out.cells8
  obtain ⟨f0, f1, f2, f3, f4, f5, f6, f7⟩ := HZ3.out.fro8
  obtain ⟨e0, e1, e2, e3, e4, r0, r1, r2, r3, r4⟩ := HE3.out.cells5
  go_wp2_with fail
  have hb := HZ3.out.set8 (.int .i64 s.size) (.int .i64 s.seq) (.slice ao n cap) (.slice bo n cbp) (.int .i64 s.hits) (.int .i64 (s.misses + 1)) (.int .i64 s.evicted) (.int .i64 s.resets)
  have ha := apart_set8 w3 g8 (.int .i64 s.size) (.int .i64 s.seq) (.slice ao n cap) (.slice bo n cbp) (.int .i64 s.hits) (.int .i64 (s.misses + 1)) (.int .i64 s.evicted) (.int .i64 s.resets)
  have he := ha.blk HE3.out (fun e => hne89 e.symm)
  have hb1 := HB3.out.trans (ha.below (by have := HB3.out.size; omega) (fun j e => by have := HG8.out; omega))
  unfold set8 at hb ha he hb1
  generalize (((((((w3.setCell ⟨g8, 0, none⟩ (.int .i64 s.size)).setCell ⟨g8, 1, none⟩ (.int .i64 s.seq)).setCell ⟨g8, 2, none⟩ (.slice ao n cap)).setCell ⟨g8, 3, none⟩ (.slice bo n cbp)).setCell ⟨g8, 4, none⟩ (.int .i64 s.hits)).setCell ⟨g8, 5, none⟩ (.int .i64 (s.misses + 1))).setCell ⟨g8, 6, none⟩ (.int .i64 s.evicted)).setCell ⟨g8, 7, none⟩ (.int .i64 s.resets) = w6 at *
  have hb5 := he.set5 (.int .u32 0) (.int .u32 0) (.int .u32 0) (.bool false) (.int .i64 0)
  have ha5 := set5_apart (w := w6) g9 Dc.z
  have hb6 := ha5.blk hb hne89
  have hb7 := hb1.trans (ha5.below (by have := hb1.size; omega) (fun j e => by have := HG9.out; omega))
  unfold set5 at ha5 hb6 hb7
  simp only [Dc.z] at ha5 hb6 hb7
  generalize ((((w6.setCell ⟨g9, 0, none⟩ (.int .u32 0)).setCell ⟨g9, 1, none⟩ (.int .u32 0)).setCell ⟨g9, 2, none⟩ (.int .u32 0)).setCell ⟨g9, 3, none⟩ (.bool false)).setCell ⟨g9, 4, none⟩ (.int .i64 0) = w7 at *
  obtain ⟨q0, q1, q2, q3, q4, q5, q6, q7⟩ := hb6.cells8
  obtain ⟨p0, p1, p2, p3, p4, _⟩ := hb5.cells5
  refine bodyPost_ret (v := .tuple #[.agg #[.int .i64 s.size, .int .i64 s.seq, .slice ao n cap, .slice bo n cbp, .int .i64 s.hits, .int .i64 (s.misses + 1), .int .i64 s.evicted, .int .i64 s.resets], .agg #[.int .u32 0, .int .u32 0, .int .u32 0, .bool false, .int .i64 0], .bool false]) (by simp [results, Try.results36, go_sem, q0, q1, q2, q3, q4, q5, q6, q7, p0, p1, p2, p3, p4]) rfl ?_
  exact ⟨rfl, by first | exact hb7 | (rw [hgx]; exact hb7)⟩
end Go.Proofs.Ytbcbhgclgakljaa
