/- The law CacheModel's step: a look-up. -/
import Derived.Test.YtbcbhgclgakljaaKem
namespace Go.Proofs.Ytbcbhgclgakljaa
open Go.RowKit Go.Maps Go.WideElems Go.WideShapes
/-! a region that loads and compares, and stores a state into block g (operation is) -/
structure sC (W : World) (g is : Nat) (s2 : CS) (vk vd : Value) (d : Nat → Bool) (w : World) : Prop where
  a : Apart (fun k => k = g) W w
  z : d is = false → ∃ a0 a1 a2 a3 a4 a5 a6 a7, Blk w g 29 #[a0, a1, a2, a3, a4, a5, a6, a7]
  y : d is = true → Blk w g 29 (stA s2 vk vd)
def sR (g is : Nat) (s2 : CS) (vk vd : Value) (i : Nat) (w w' : World) : Prop := if i = is then w' = st8 w g s2 vk vd else w' = w
def sP (val : Nat → Option Value) (i : Nat) (u : Value) (_ : World) : Prop := ∀ y, val i = some y → u = y
theorem sC_step {W : World} {g is : Nat} {s2 : CS} {vk vd : Value} (i : Nat) (d : Nat → Bool) (w w' : World) (hd : d i = false) (hC : sC W g is s2 vk vd d w) (hr : sR g is s2 vk vd i w w') : sC W g is s2 vk vd (fun j => if j = i then true else d j) w' := by
  unfold sR at hr
  split at hr
  · rename_i e
    subst e hr
    refine ⟨hC.a.trans (apart_set8 w g _ _ _ _ _ _ _ _) (fun k e => .inl e), fun h => by simp at h, fun _ => ?_⟩
    obtain ⟨a0, a1, a2, a3, a4, a5, a6, a7, hz⟩ := hC.z hd
    exact hz.set8 _ _ _ _ _ _ _ _
  · rename_i e
    subst hr
    have e' : ¬ is = i := fun h => e h.symm
    exact ⟨hC.a, fun h => hC.z (by simpa [e'] using h), fun h => hC.y (by simpa [e'] using h)⟩
theorem eqDs (d : Dc) (w : World) : (binOp .eql 39 (.agg #[.int .u32 d.al, .int .u32 d.aa, .int .u32 d.ad, .bool d.pm, .int .i64 d.sq]) (.agg #[.int .u32 d.al, .int .u32 d.aa, .int .u32 d.ad, .bool d.pm, .int .i64 d.sq])).run Try.prog w = .ok (.bool true) w := by
  have h := eqD d d w
  simp only [binOp]
  simp [Op.equal, Op.maxDepth, h, sameD]
def sfV (s2 : CS) (dv : Dc) (ok : Bool) (vk vd : Value) : Nat → Option Value
  | 0 => some (.agg #[.int .i64 s2.size, .int .i64 s2.seq, vk, vd, .int .i64 s2.hits, .int .i64 s2.misses, .int .i64 s2.evicted, .int .i64 s2.resets])
  | 1 => some (.agg #[.int .u32 dv.al, .int .u32 dv.aa, .int .u32 dv.ad, .bool dv.pm, .int .i64 dv.sq])
  | 2 => some (.agg #[.int .u32 dv.al, .int .u32 dv.aa, .int .u32 dv.ad, .bool dv.pm, .int .i64 dv.sq])
  | 3 => some (.bool true)
  | 4 => some (.bool true)
  | 5 => some (.bool ok)
  | 6 => some (.bool ok)
  | 7 => some (.bool true)
  | 8 => some (.bool true)
  | 10 => some (.bool true)
  | _ => none
set_option maxRecDepth 100000 in
set_option maxHeartbeats 16000000 in
theorem step_find {w0 w : World} {B c m n cap cbp : Nat} {s : CS} {ao bo : Option Addr} (x : Opr) (h : At w0 w (fun _ => False) c m s) (hr : OS w B s (.slice ao n cap) (.slice bo n cbp)) (hB : B ≤ w.heap.size) (hm : m ≤ 1000000) (wx : WO x) (hk : x.kind % 3 = 0) :
    Calls Try.prog 12 #[.pointer (some ⟨c, 0, none⟩), .agg #[.int .i64 s.size, .int .i64 s.seq, .slice ao n cap, .slice bo n cbp, .int .i64 s.hits, .int .i64 s.misses, .int .i64 s.evicted, .int .i64 s.resets], .agg #[.int .u8 x.kind, .int .i64 x.k.a, .int .i64 x.k.b, .int .i64 x.k.c, .int .u32 x.al, .int .i64 x.sq]] w fun e w' => ∃ vk' vd', e = .returned (.tuple #[.agg #[.int .i64 (findC s x.k).size, .int .i64 (findC s x.k).seq, vk', vd', .int .i64 (findC s x.k).hits, .int .i64 (findC s x.k).misses, .int .i64 (findC s x.k).evicted, .int .i64 (findC s x.k).resets], .bool true]) ∧ At w0 w' (fun _ => False) c (m + 1) (findC s x.k) ∧ OS w' B (findC s x.k) vk' vd' ∧ StT w w' := by
  have HB : Hid (Below w.heap.size w (((w.alloc (.cells #[.int .i64 s.size, .int .i64 s.seq, .slice ao n cap, .slice bo n cbp, .int .i64 s.hits, .int .i64 s.misses, .int .i64 s.evicted, .int .i64 s.resets] 29)).alloc (.cells #[.int .u8 x.kind, .int .i64 x.k.a, .int .i64 x.k.b, .int .i64 x.k.c, .int .u32 x.al, .int .i64 x.sq] 35)).alloc (.cells #[.int .i64 0, .int .i64 0, .slice none 0 0, .slice none 0 0, .int .i64 0, .int .i64 0, .int .i64 0, .int .i64 0] 29))) := Lib.hid (((((Below.refl _ _).alloc (Nat.le_refl _) _).alloc (by simp) _).alloc (by simp; omega) _))
  have H4 : Hid (Blk (((w.alloc (.cells #[.int .i64 s.size, .int .i64 s.seq, .slice ao n cap, .slice bo n cbp, .int .i64 s.hits, .int .i64 s.misses, .int .i64 s.evicted, .int .i64 s.resets] 29)).alloc (.cells #[.int .u8 x.kind, .int .i64 x.k.a, .int .i64 x.k.b, .int .i64 x.k.c, .int .u32 x.al, .int .i64 x.sq] 35)).alloc (.cells #[.int .i64 0, .int .i64 0, .slice none 0 0, .slice none 0 0, .int .i64 0, .int .i64 0, .int .i64 0, .int .i64 0] 29)) w.heap.size 29 #[.int .i64 s.size, .int .i64 s.seq, .slice ao n cap, .slice bo n cbp, .int .i64 s.hits, .int .i64 s.misses, .int .i64 s.evicted, .int .i64 s.resets]) := Lib.hid (((Blk.here rfl).alloc _).alloc _)
  have H5 : Hid (Blk (((w.alloc (.cells #[.int .i64 s.size, .int .i64 s.seq, .slice ao n cap, .slice bo n cbp, .int .i64 s.hits, .int .i64 s.misses, .int .i64 s.evicted, .int .i64 s.resets] 29)).alloc (.cells #[.int .u8 x.kind, .int .i64 x.k.a, .int .i64 x.k.b, .int .i64 x.k.c, .int .u32 x.al, .int .i64 x.sq] 35)).alloc (.cells #[.int .i64 0, .int .i64 0, .slice none 0 0, .slice none 0 0, .int .i64 0, .int .i64 0, .int .i64 0, .int .i64 0] 29)) (w.heap.size + 1) 35 #[.int .u8 x.kind, .int .i64 x.k.a, .int .i64 x.k.b, .int .i64 x.k.c, .int .u32 x.al, .int .i64 x.sq]) := Lib.hid ((Blk.here (by simp)).alloc _)
  have H6 : Hid (Blk (((w.alloc (.cells #[.int .i64 s.size, .int .i64 s.seq, .slice ao n cap, .slice bo n cbp, .int .i64 s.hits, .int .i64 s.misses, .int .i64 s.evicted, .int .i64 s.resets] 29)).alloc (.cells #[.int .u8 x.kind, .int .i64 x.k.a, .int .i64 x.k.b, .int .i64 x.k.c, .int .u32 x.al, .int .i64 x.sq] 35)).alloc (.cells #[.int .i64 0, .int .i64 0, .slice none 0 0, .slice none 0 0, .int .i64 0, .int .i64 0, .int .i64 0, .int .i64 0] 29)) (w.heap.size + 1 + 1) 29 #[.int .i64 0, .int .i64 0, .slice none 0 0, .slice none 0 0, .int .i64 0, .int .i64 0, .int .i64 0, .int .i64 0]) := Lib.hid (Blk.here (by simp))
  have HT0 : Hid (StT w (((w.alloc (.cells #[.int .i64 s.size, .int .i64 s.seq, .slice ao n cap, .slice bo n cbp, .int .i64 s.hits, .int .i64 s.misses, .int .i64 s.evicted, .int .i64 s.resets] 29)).alloc (.cells #[.int .u8 x.kind, .int .i64 x.k.a, .int .i64 x.k.b, .int .i64 x.k.c, .int .u32 x.al, .int .i64 x.sq] 35)).alloc (.cells #[.int .i64 0, .int .i64 0, .slice none 0 0, .slice none 0 0, .int .i64 0, .int .i64 0, .int .i64 0, .int .i64 0] 29))) := Lib.hid (StT.of HB.out)
  have HGE : Hid (∀ j t cs, Blk w j t cs → j ≠ w.heap.size + 1 + 1) := Lib.hid (fun j t cs hb => by have := hb.lt; omega)
  have HA := Lib.hid (h.keep HB.out)
  have HO := Lib.hid (hr.below HB.out)
  have HNE : Hid (w.heap.size ≠ w.heap.size + 1 + 1 ∧ w.heap.size + 1 ≠ w.heap.size + 1 + 1 ∧ w0.heap.size ≤ w.heap.size + 1 + 1 ∧ B ≤ (((w.alloc (.cells #[.int .i64 s.size, .int .i64 s.seq, .slice ao n cap, .slice bo n cbp, .int .i64 s.hits, .int .i64 s.misses, .int .i64 s.evicted, .int .i64 s.resets] 29)).alloc (.cells #[.int .u8 x.kind, .int .i64 x.k.a, .int .i64 x.k.b, .int .i64 x.k.c, .int .u32 x.al, .int .i64 x.sq] 35)).alloc (.cells #[.int .i64 0, .int .i64 0, .slice none 0 0, .slice none 0 0, .int .i64 0, .int .i64 0, .int .i64 0, .int .i64 0] 29)).heap.size) := Lib.hid (by have := h.b.size; refine ⟨by omega, by omega, by omega, ?_⟩; have := HB.out.size; omega)
  have hk0 := wx.kind.1
  have hk1 := wx.kind.2
  have ht : x.kind.tmod 3 = x.kind % 3 := Int.tmod_eq_emod_of_nonneg hk0
  have hm0 : 0 ≤ x.kind % 3 := by omega
  have hm1 : x.kind % 3 < 3 := by omega
  have HM := Lib.hid hm
  have HWX := Lib.hid wx
  clear h hr hB hm wx
  have HC : Hid (Calls Try.prog 28 #[.pointer (some ⟨c, 0, none⟩), .int .i64 x.k.a, .int .i64 x.k.b, .int .i64 x.k.c] (((w.alloc (.cells #[.int .i64 s.size, .int .i64 s.seq, .slice ao n cap, .slice bo n cbp, .int .i64 s.hits, .int .i64 s.misses, .int .i64 s.evicted, .int .i64 s.resets] 29)).alloc (.cells #[.int .u8 x.kind, .int .i64 x.k.a, .int .i64 x.k.b, .int .i64 x.k.c, .int .u32 x.al, .int .i64 x.sq] 35)).alloc (.cells #[.int .i64 0, .int .i64 0, .slice none 0 0, .slice none 0 0, .int .i64 0, .int .i64 0, .int .i64 0, .int .i64 0] 29)) fun e w' => e = .returned (.tuple #[.agg #[.int .u32 (gotC s x.k).al, .int .u32 (gotC s x.k).aa, .int .u32 (gotC s x.k).ad, .bool (gotC s x.k).pm, .int .i64 (gotC s x.k).sq], .bool (isC s x.k)]) ∧ At w0 w' (fun _ => False) c (m + 1) (findC s x.k) ∧ StT (((w.alloc (.cells #[.int .i64 s.size, .int .i64 s.seq, .slice ao n cap, .slice bo n cbp, .int .i64 s.hits, .int .i64 s.misses, .int .i64 s.evicted, .int .i64 s.resets] 29)).alloc (.cells #[.int .u8 x.kind, .int .i64 x.k.a, .int .i64 x.k.b, .int .i64 x.k.c, .int .u32 x.al, .int .i64 x.sq] 35)).alloc (.cells #[.int .i64 0, .int .i64 0, .slice none 0 0, .slice none 0 0, .int .i64 0, .int .i64 0, .int .i64 0, .int .i64 0] 29)) w') := Lib.hid (find_st x.k HA.out HM.out HWX.out.k)
  have HRR : Hid (∀ u, StT (((w.alloc (.cells #[.int .i64 s.size, .int .i64 s.seq, .slice ao n cap, .slice bo n cbp, .int .i64 s.hits, .int .i64 s.misses, .int .i64 s.evicted, .int .i64 s.resets] 29)).alloc (.cells #[.int .u8 x.kind, .int .i64 x.k.a, .int .i64 x.k.b, .int .i64 x.k.c, .int .u32 x.al, .int .i64 x.sq] 35)).alloc (.cells #[.int .i64 0, .int .i64 0, .slice none 0 0, .slice none 0 0, .int .i64 0, .int .i64 0, .int .i64 0, .int .i64 0] 29)) u → Calls Try.prog 36 #[.agg #[.int .i64 s.size, .int .i64 s.seq, .slice ao n cap, .slice bo n cbp, .int .i64 s.hits, .int .i64 s.misses, .int .i64 s.evicted, .int .i64 s.resets], .int .i64 x.k.a, .int .i64 x.k.b, .int .i64 x.k.c] u fun e w' => ∃ vk' vd', e = .returned (.tuple #[.agg #[.int .i64 (findC s x.k).size, .int .i64 (findC s x.k).seq, vk', vd', .int .i64 (findC s x.k).hits, .int .i64 (findC s x.k).misses, .int .i64 (findC s x.k).evicted, .int .i64 (findC s x.k).resets], .agg #[.int .u32 (gotC s x.k).al, .int .u32 (gotC s x.k).aa, .int .u32 (gotC s x.k).ad, .bool (gotC s x.k).pm, .int .i64 (gotC s x.k).sq], .bool (isC s x.k)]) ∧ OS w' B (findC s x.k) vk' vd' ∧ Below u.heap.size u w') := Lib.hid (fun u hu => rfind_c s _ _ x.k u (HO.out.st hu) (by have h1 := hu.sz; have h2 := HNE.out.2.2.2; exact Nat.le_trans h2 h1) HA.out.ok (by have h1 := HA.out.sm.h; have h2 := HM.out; omega) (by have h1 := HA.out.sm.m; have h2 := HM.out; omega) (by have := HA.out.len; omega))
  generalize findC s x.k = s2 at *
  generalize gotC s x.k = dv at *
  generalize isC s x.k = ok at *
  go_enter Try.func12, Try.ntmps12
  go_upto_region 1 with fail
  generalize (((w.alloc (.cells #[.int .i64 s.size, .int .i64 s.seq, .slice ao n cap, .slice bo n cbp, .int .i64 s.hits, .int .i64 s.misses, .int .i64 s.evicted, .int .i64 s.resets] 29)).alloc (.cells #[.int .u8 x.kind, .int .i64 x.k.a, .int .i64 x.k.b, .int .i64 x.k.c, .int .u32 x.al, .int .i64 x.sq] 35)).alloc (.cells #[.int .i64 0, .int .i64 0, .slice none 0 0, .slice none 0 0, .int .i64 0, .int .i64 0, .int .i64 0, .int .i64 0] 29)) = W at *
  generalize w.heap.size + 1 + 1 = g6 at *
  generalize w.heap.size + 1 = g5 at *
  generalize w.heap.size = g4 at *
  obtain ⟨k0, k1, k2, k3, k4, k5⟩ := H5.out.cells6
  generalize x.kind % 3 = j at *
  subst hk
  go_upto_region 4 with (first | (go_at_call 28; refine HC.out.mono ?_; rintro e w2 ⟨rfl, h2, h3⟩; have HA2 := Lib.hid h2; have HT2 := Lib.hid h3; clear h2 h3) | fail)
  clear k0 k1 k2 k3 k4 k5
  have hba : Below w2.heap.size w2 (w2.alloc (.cells #[.int .u32 dv.al, .int .u32 dv.aa, .int .u32 dv.ad, .bool dv.pm, .int .i64 dv.sq] 39)) := (Below.refl _ _).alloc (Nat.le_refl _) _
  have H8 := Lib.hid (Blk.new w2 39 #[.int .u32 dv.al, .int .u32 dv.aa, .int .u32 dv.ad, .bool dv.pm, .int .i64 dv.sq])
  have H43 := Lib.hid ((HT2.out.k _ _ _ oth_st H4.out).keep hba)
  have H53 := Lib.hid ((HT2.out.k _ _ _ oth_op H5.out).keep hba)
  have H63 := Lib.hid ((HT2.out.k _ _ _ oth_st H6.out).keep hba)
  have HA3 := Lib.hid (HA2.out.keep hba)
  have HT3 : Hid (StT W (w2.alloc (.cells #[.int .u32 dv.al, .int .u32 dv.aa, .int .u32 dv.ad, .bool dv.pm, .int .i64 dv.sq] 39))) := Lib.hid ⟨Nat.le_trans HT2.out.sz hba.size, fun g t cs h hb => (HT2.out.k g t cs h hb).keep hba⟩
  clear hba
  generalize w2.alloc (.cells #[.int .u32 dv.al, .int .u32 dv.aa, .int .u32 dv.ad, .bool dv.pm, .int .i64 dv.sq] 39) = w3 at *
  generalize w2.heap.size = g8 at *
  obtain ⟨c0, c1, c2, c3, c4, c5, c6, c7⟩ := H43.out.cells8
  obtain ⟨k0, k1, k2, k3, k4, k5⟩ := H53.out.cells6
  go_upto_region 5 with (first | (go_at_call 36; refine (HRR.out _ HT3.out).mono ?_; rintro e w4 ⟨vk3, vd3, rfl, ho3, hb3⟩; obtain ⟨ao3, bo3, cap3, cbp3, rfl, rfl⟩ := ho3.sr.forms; have HO4 := Lib.hid ho3; have HB4 := Lib.hid hb3; clear ho3 hb3) | fail)
  have hba : Below w4.heap.size w4 ((w4.alloc (.cells #[.int .i64 s2.size, .int .i64 s2.seq, .slice ao3 s2.L.length cap3, .slice bo3 s2.L.length cbp3, .int .i64 s2.hits, .int .i64 s2.misses, .int .i64 s2.evicted, .int .i64 s2.resets] 29)).alloc (.cells #[.int .u32 dv.al, .int .u32 dv.aa, .int .u32 dv.ad, .bool dv.pm, .int .i64 dv.sq] 39)) := ((Below.refl _ _).alloc (Nat.le_refl _) _).alloc (by simp) _
  have H10 : Hid (Blk ((w4.alloc (.cells #[.int .i64 s2.size, .int .i64 s2.seq, .slice ao3 s2.L.length cap3, .slice bo3 s2.L.length cbp3, .int .i64 s2.hits, .int .i64 s2.misses, .int .i64 s2.evicted, .int .i64 s2.resets] 29)).alloc (.cells #[.int .u32 dv.al, .int .u32 dv.aa, .int .u32 dv.ad, .bool dv.pm, .int .i64 dv.sq] 39)) w4.heap.size 29 #[.int .i64 s2.size, .int .i64 s2.seq, .slice ao3 s2.L.length cap3, .slice bo3 s2.L.length cbp3, .int .i64 s2.hits, .int .i64 s2.misses, .int .i64 s2.evicted, .int .i64 s2.resets]) := Lib.hid ((Blk.here rfl).alloc _)
  have H11 : Hid (Blk ((w4.alloc (.cells #[.int .i64 s2.size, .int .i64 s2.seq, .slice ao3 s2.L.length cap3, .slice bo3 s2.L.length cbp3, .int .i64 s2.hits, .int .i64 s2.misses, .int .i64 s2.evicted, .int .i64 s2.resets] 29)).alloc (.cells #[.int .u32 dv.al, .int .u32 dv.aa, .int .u32 dv.ad, .bool dv.pm, .int .i64 dv.sq] 39)) (w4.heap.size + 1) 39 #[.int .u32 dv.al, .int .u32 dv.aa, .int .u32 dv.ad, .bool dv.pm, .int .i64 dv.sq]) := Lib.hid (Blk.here (by simp))
  have H85 := Lib.hid ((H8.out.keep HB4.out).keep hba)
  have HZ5 := Lib.hid ((H63.out.keep HB4.out).keep hba)
  have HA5 := Lib.hid ((HA3.out.keep HB4.out).keep hba)
  have HO5 := Lib.hid (HO4.out.below hba)
  have HT5 := Lib.hid (((HT0.out.trans HT3.out).keep HB4.out).keep hba)
  have HN : Hid (g8 ≠ g6 ∧ w4.heap.size ≠ g6 ∧ w4.heap.size + 1 ≠ g6) := Lib.hid (by
    have h1 := (H63.out.keep HB4.out).lt
    refine ⟨fun e => ?_, by omega, by omega⟩
    exact H8.out.ne H63.out (by decide) e)
  clear hba c0 c1 c2 c3 c4 c5 c6 c7 k0 k1 k2 k3 k4 k5
  generalize (w4.alloc (.cells #[.int .i64 s2.size, .int .i64 s2.seq, .slice ao3 s2.L.length cap3, .slice bo3 s2.L.length cbp3, .int .i64 s2.hits, .int .i64 s2.misses, .int .i64 s2.evicted, .int .i64 s2.resets] 29)).alloc (.cells #[.int .u32 dv.al, .int .u32 dv.aa, .int .u32 dv.ad, .bool dv.pm, .int .i64 dv.sq] 39) = w5 at *
  generalize w4.heap.size + 1 = g11 at *
  generalize w4.heap.size = g10 at *
  refine wp_region_lnk (sC w5 g6 9 s2 (.slice ao3 s2.L.length cap3) (.slice bo3 s2.L.length cbp3)) (sR g6 9 s2 (.slice ao3 s2.L.length cap3) (.slice bo3 s2.L.length cbp3)) (sP (sfV s2 dv ok (.slice ao3 s2.L.length cap3) (.slice bo3 s2.L.length cbp3))) (fun _ => none) (by kernel_rfl) (by kernel_rfl) (by kernel_rfl) ⟨Apart.of (Below.refl _ _).drew, fun _ => ⟨_, _, _, _, _, _, _, _, HZ5.out.drew⟩, fun h => by cases h⟩ sC_step [] (by kernel_rfl) (fun _ _ _ _ _ _ _ h _ => h) ?_ ?_
  · skip
    refine ⟨⟨trivial, fun A v d hd hC hF hW K Q hk => ?_⟩, ⟨trivial, fun A v d hd hC hF hW K Q hk => ?_⟩, ⟨trivial, fun A v d hd hC hF hW K Q hk => ?_⟩, ⟨trivial, fun A v d hd hC hF hW K Q hk => ?_⟩, ⟨trivial, fun A v d hd hC hF hW K Q hk => ?_⟩, ⟨fun v w h => h _ rfl, fun A v d hd hC hF hW K Q hk => ?_⟩, ⟨fun v w h => h _ rfl, fun A v d hd hC hF hW K Q hk => ?_⟩, ⟨fun v w h => h _ rfl, fun A v d hd hC hF hW K Q hk => ?_⟩, ⟨trivial, fun A v d hd hC hF hW K Q hk => ?_⟩, ⟨trivial, fun A v d hd hC hF hW K Q hk => ?_⟩, ⟨trivial, fun A v d hd hC hF hW K Q hk => ?_⟩, trivial⟩
    · have f10 : A.tmps[10]?.getD undef = .pointer (some ⟨g10, 0, none⟩) := fg_none (hF 10) (by kernel_rfl)
      obtain ⟨y0, y1, y2, y3, y4, y5, y6, y7⟩ := (hC.a.blk H10.out HN.out.2.1).cells8
      refine Giv.wp (φ := sP (sfV s2 dv ok (.slice ao3 s2.L.length cap3) (.slice bo3 s2.L.length cbp3)) 0) ?_ hk
      unfold Giv
      go_simp
      exact giv_val (P := Try.prog) (by unfold sR; rw [if_neg (by decide)]) (fun y hy => by simpa [sfV] using hy)
    · have f8 : A.tmps[8]?.getD undef = .pointer (some ⟨g8, 0, none⟩) := fg_none (hF 8) (by kernel_rfl)
      obtain ⟨y0, y1, y2, y3, y4, _⟩ := (hC.a.blk H85.out HN.out.1).cells5
      refine Giv.wp (φ := sP (sfV s2 dv ok (.slice ao3 s2.L.length cap3) (.slice bo3 s2.L.length cbp3)) 1) ?_ hk
      unfold Giv
      go_simp
      exact giv_val (P := Try.prog) (by unfold sR; rw [if_neg (by decide)]) (fun y hy => by simpa [sfV] using hy)
    · have f11 : A.tmps[11]?.getD undef = .pointer (some ⟨g11, 0, none⟩) := fg_none (hF 11) (by kernel_rfl)
      obtain ⟨y0, y1, y2, y3, y4, _⟩ := (hC.a.blk H11.out HN.out.2.2).cells5
      refine Giv.wp (φ := sP (sfV s2 dv ok (.slice ao3 s2.L.length cap3) (.slice bo3 s2.L.length cbp3)) 2) ?_ hk
      unfold Giv
      go_simp
      exact giv_val (P := Try.prog) (by unfold sR; rw [if_neg (by decide)]) (fun y hy => by simpa [sfV] using hy)
    · have f48 : A.tmps[48]?.getD undef = .agg #[.int .u32 dv.al, .int .u32 dv.aa, .int .u32 dv.ad, .bool dv.pm, .int .i64 dv.sq] := (fg_some (hF 48) (j := 1) (by kernel_rfl) (by kernel_rfl)) _ rfl
      have f49 : A.tmps[49]?.getD undef = .agg #[.int .u32 dv.al, .int .u32 dv.aa, .int .u32 dv.ad, .bool dv.pm, .int .i64 dv.sq] := (fg_some (hF 49) (j := 2) (by kernel_rfl) (by kernel_rfl)) _ rfl
      have hq := eqDs dv v
      refine Giv.wp (φ := sP (sfV s2 dv ok (.slice ao3 s2.L.length cap3) (.slice bo3 s2.L.length cbp3)) 3) ?_ hk
      unfold Giv
      go_simp
      exact giv_val (P := Try.prog) (by unfold sR; rw [if_neg (by decide)]) (fun y hy => by simpa [sfV] using hy)
    · have f50 : A.tmps[50]?.getD undef = .bool true := (fg_some (hF 50) (j := 3) (by kernel_rfl) (by kernel_rfl)) _ rfl
      refine Giv.wp (φ := sP (sfV s2 dv ok (.slice ao3 s2.L.length cap3) (.slice bo3 s2.L.length cbp3)) 4) ?_ hk
      unfold Giv
      go_simp
      exact giv_val (P := Try.prog) (by unfold sR; rw [if_neg (by decide)]) (fun y hy => by simpa [sfV] using hy)
    · have f9 : A.tmps[9]?.getD undef = .bool ok := fg_none (hF 9) (by kernel_rfl)
      refine Giv.wp (φ := sP (sfV s2 dv ok (.slice ao3 s2.L.length cap3) (.slice bo3 s2.L.length cbp3)) 5) ?_ hk
      unfold Giv
      go_simp
      exact giv_val (P := Try.prog) (by unfold sR; rw [if_neg (by decide)]) (fun y hy => by simpa [sfV] using hy)
    · have f12 : A.tmps[12]?.getD undef = .bool ok := fg_none (hF 12) (by kernel_rfl)
      refine Giv.wp (φ := sP (sfV s2 dv ok (.slice ao3 s2.L.length cap3) (.slice bo3 s2.L.length cbp3)) 6) ?_ hk
      unfold Giv
      go_simp
      exact giv_val (P := Try.prog) (by unfold sR; rw [if_neg (by decide)]) (fun y hy => by simpa [sfV] using hy)
    · have f52 : A.tmps[52]?.getD undef = .bool ok := (fg_some (hF 52) (j := 5) (by kernel_rfl) (by kernel_rfl)) _ rfl
      have f53 : A.tmps[53]?.getD undef = .bool ok := (fg_some (hF 53) (j := 6) (by kernel_rfl) (by kernel_rfl)) _ rfl
      refine Giv.wp (φ := sP (sfV s2 dv ok (.slice ao3 s2.L.length cap3) (.slice bo3 s2.L.length cbp3)) 7) ?_ hk
      unfold Giv
      go_simp
      exact giv_val (P := Try.prog) (by unfold sR; rw [if_neg (by decide)]) (fun y hy => by simpa [sfV] using hy)
    · have f51 : A.tmps[51]?.getD undef = .bool true := (fg_some (hF 51) (j := 4) (by kernel_rfl) (by kernel_rfl)) _ rfl
      have f54 : A.tmps[54]?.getD undef = .bool true := (fg_some (hF 54) (j := 7) (by kernel_rfl) (by kernel_rfl)) _ rfl
      refine Giv.wp (φ := sP (sfV s2 dv ok (.slice ao3 s2.L.length cap3) (.slice bo3 s2.L.length cbp3)) 8) ?_ hk
      unfold Giv
      go_simp
      exact giv_val (P := Try.prog) (by unfold sR; rw [if_neg (by decide)]) (fun y hy => by simpa [sfV] using hy)
    · have f6 : A.tmps[6]?.getD undef = .pointer (some ⟨g6, 0, none⟩) := fg_none (hF 6) (by kernel_rfl)
      have f47 : A.tmps[47]?.getD undef = .agg #[.int .i64 s2.size, .int .i64 s2.seq, .slice ao3 s2.L.length cap3, .slice bo3 s2.L.length cbp3, .int .i64 s2.hits, .int .i64 s2.misses, .int .i64 s2.evicted, .int .i64 s2.resets] := (fg_some (hF 47) (j := 0) (by kernel_rfl) (by kernel_rfl)) _ rfl
      obtain ⟨a0, a1, a2, a3, a4, a5, a6, a7, hz⟩ := hC.z hd
      obtain ⟨z0, z1, z2, z3, z4, z5, z6, z7⟩ := hz.cells8
      obtain ⟨e0, e1, e2, e3, e4, e5, e6, e7⟩ := hz.fro8
      refine Giv.wp (φ := sP (sfV s2 dv ok (.slice ao3 s2.L.length cap3) (.slice bo3 s2.L.length cbp3)) 9) ?_ hk
      unfold Giv
      go_simp
      first | exact giv_skip (P := Try.prog) (by unfold sR; rw [if_pos rfl]; rfl) (fun y hy => by cases hy) | exact giv_val (P := Try.prog) (by unfold sR; rw [if_pos rfl]; rfl) (fun y hy => by cases hy)
    · have f55 : A.tmps[55]?.getD undef = .bool true := (fg_some (hF 55) (j := 8) (by kernel_rfl) (by kernel_rfl)) _ rfl
      refine Giv.wp (φ := sP (sfV s2 dv ok (.slice ao3 s2.L.length cap3) (.slice bo3 s2.L.length cbp3)) 10) ?_ hk
      unfold Giv
      go_simp
      exact giv_val (P := Try.prog) (by unfold sR; rw [if_neg (by decide)]) (fun y hy => by simpa [sfV] using hy)
  · intro a0 W9 d hsd hC hsz hdf hF hL
    have ha := end_gen [false, false, false, false, false, false, false, true, false, false, false, false, false, false, false, false, false, false, false, false, false, false, false, false, false, false, false, false, false, false, false, false, false, false, false, false, false, false, false, false, false, false, false, false, false, false, false, true, true, true, true, true, true, true, true, true] hsz hdf hF (by kernel_rfl)
    have f7 : a0.tmps[7]?.getD undef = .bool true := (fe_some (hF 7) (j := 10) (by kernel_rfl)) _ rfl
    have HY := Lib.hid (hC.y (hsd 9 (by decide)))
    have hA := HA5.out.far oth_st HZ5.out HNE.out.2.2.1 hC.a
    have hO := HO5.out.far HZ5.out hC.a
    have hT := HT5.out.far HGE.out hC.a
    rw [ha]
    clear ha hF hL hC hsd
    simp only [cutM_yes, cutM_no, cutM_nil, Nat.reduceAdd]
    rw [f7]
    clear f7
    generalize a0.tmps[47]?.getD undef = s47
    generalize a0.tmps[48]?.getD undef = s48
    generalize a0.tmps[49]?.getD undef = s49
    generalize a0.tmps[50]?.getD undef = s50
    generalize a0.tmps[51]?.getD undef = s51
    generalize a0.tmps[52]?.getD undef = s52
    generalize a0.tmps[53]?.getD undef = s53
    generalize a0.tmps[54]?.getD undef = s54
    generalize a0.tmps[55]?.getD undef = s55
    clear hsz hdf
    go_wp2_with fail
    obtain ⟨q0, q1, q2, q3, q4, q5, q6, q7⟩ := Blk.cells8 (show Blk W9 g6 29 (stA s2 _ _) from HY.out)
    refine bodyPost_ret (v := .tuple #[.agg #[.int .i64 s2.size, .int .i64 s2.seq, .slice ao3 s2.L.length cap3, .slice bo3 s2.L.length cbp3, .int .i64 s2.hits, .int .i64 s2.misses, .int .i64 s2.evicted, .int .i64 s2.resets], .bool true]) (by simp [results, Try.results12, go_sem, q0, q1, q2, q3, q4, q5, q6, q7]) rfl ⟨_, _, rfl, hA, hO, hT⟩
end Go.Proofs.Ytbcbhgclgakljaa
