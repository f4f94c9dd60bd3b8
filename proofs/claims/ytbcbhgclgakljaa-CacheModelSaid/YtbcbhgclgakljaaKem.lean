/- The law CacheModel's step: a reset. -/
import Derived.Test.YtbcbhgclgakljaaKel
namespace Go.Proofs.Ytbcbhgclgakljaa
open Go.RowKit Go.Maps Go.WideElems Go.WideShapes
theorem own_keep {α : Type} {R : RowT α} {w w' : World} {B : Nat} {v : Value} {L : List α} (h : Own R w B v L) (hs : ∀ g cur, Blk w g R.te cur → Blk w' g R.te cur) : Own R w' B v L := by
  refine ⟨h.1, ?_⟩
  rcases h.2 with hn | ⟨g, cap, cur, hv, hbg, hg, rest⟩
  · exact .inl hn
  · exact .inr ⟨g, cap, cur, hv, hbg, hs g cur hg, rest⟩
/-- a store into a state's block leaves other states' rows -/
theorem OS.far {w w' : World} {B g : Nat} {s : CS} {vk vd : Value} {cs : Array Value} (h : OS w B s vk vd) (hb : Blk w g 29 cs) (ha : Apart (fun k => k = g) w w') : OS w' B s vk vd :=
  ⟨own_keep h.k fun j cur hj => ha.blk hj (fun e => hj.ne hb (by decide) e), own_keep h.d fun j cur hj => ha.blk hj (fun e => hj.ne hb (by decide) e)⟩
theorem StT.trans {w w1 w2 : World} (h : StT w w1) (k : StT w1 w2) : StT w w2 := ⟨Nat.le_trans h.sz k.sz, fun g t cs ho hb => k.k g t cs ho (h.k g t cs ho hb)⟩
theorem StT.keep {w w1 w2 : World} (h : StT w w1) (k : Below w1.heap.size w1 w2) : StT w w2 := h.trans (StT.of k)
theorem StT.far {w w1 w2 : World} {g : Nat} (h : StT w w1) (hg : ∀ j t cs, Blk w j t cs → j ≠ g) (ha : Apart (fun k => k = g) w1 w2) : StT w w2 := ⟨Nat.le_trans h.sz ha.size, fun j t cs ho hb => ha.blk (h.k j t cs ho hb) (hg j t cs hb)⟩
theorem oth_st : Oth 29 := ⟨by decide, by decide, by decide⟩
theorem oth_op : Oth 35 := ⟨by decide, by decide, by decide⟩
section
variable {w0 w w' : World} {G : Nat → Prop} {c n : Nat} {s : CS}
theorem reset_st (m : Int) (h : At w0 w G c n s) (hn : n ≤ 1000000) :
    Calls Try.prog 31 #[.pointer (some ⟨c, 0, none⟩), .int .i64 m] w fun e w' => e = .returned (.int .i64 (staleE m s.seq)) ∧ At w0 w' (fun _ => False) c (n + 1) (resC s m) ∧ StT w w' :=
  h.callT (fun F hF => reset_c m hF h.sm hn) (h.ok.res m) (by have := h.sm.op ⟨2, K3.z, 0, m⟩; exact this) (by have := doC_size (s := s) ⟨2, K3.z, 0, m⟩; have e : doC s ⟨2, K3.z, 0, m⟩ = resC s m := rfl; rw [e] at this; rw [this]; exact h.sz)
end
set_option maxRecDepth 100000 in
set_option maxHeartbeats 16000000 in
theorem step_res {w0 w : World} {B c m n cap cbp : Nat} {s : CS} {ao bo : Option Addr} (x : Opr) (h : At w0 w (fun _ => False) c m s) (hr : OS w B s (.slice ao n cap) (.slice bo n cbp)) (hB : B ≤ w.heap.size) (hm : m ≤ 1000000) (wx : WO x) (hk : ¬ x.kind % 3 = 0 ∧ ¬ x.kind % 3 = 1) :
    Calls Try.prog 12 #[.pointer (some ⟨c, 0, none⟩), .agg #[.int .i64 s.size, .int .i64 s.seq, .slice ao n cap, .slice bo n cbp, .int .i64 s.hits, .int .i64 s.misses, .int .i64 s.evicted, .int .i64 s.resets], .agg #[.int .u8 x.kind, .int .i64 x.k.a, .int .i64 x.k.b, .int .i64 x.k.c, .int .u32 x.al, .int .i64 x.sq]] w fun e w' => ∃ vk' vd', e = .returned (.tuple #[.agg #[.int .i64 (resC s x.sq).size, .int .i64 (resC s x.sq).seq, vk', vd', .int .i64 (resC s x.sq).hits, .int .i64 (resC s x.sq).misses, .int .i64 (resC s x.sq).evicted, .int .i64 (resC s x.sq).resets], .bool true]) ∧ At w0 w' (fun _ => False) c (m + 1) (resC s x.sq) ∧ OS w' B (resC s x.sq) vk' vd' ∧ StT w w' := by
  have HB : Hid (Below w.heap.size w (((w.alloc (.cells #[.int .i64 s.size, .int .i64 s.seq, .slice ao n cap, .slice bo n cbp, .int .i64 s.hits, .int .i64 s.misses, .int .i64 s.evicted, .int .i64 s.resets] 29)).alloc (.cells #[.int .u8 x.kind, .int .i64 x.k.a, .int .i64 x.k.b, .int .i64 x.k.c, .int .u32 x.al, .int .i64 x.sq] 35)).alloc (.cells #[.int .i64 0, .int .i64 0, .slice none 0 0, .slice none 0 0, .int .i64 0, .int .i64 0, .int .i64 0, .int .i64 0] 29))) := Lib.hid (((((Below.refl _ _).alloc (Nat.le_refl _) _).alloc (by simp) _).alloc (by simp; omega) _))
  have H4 : Hid (Blk (((w.alloc (.cells #[.int .i64 s.size, .int .i64 s.seq, .slice ao n cap, .slice bo n cbp, .int .i64 s.hits, .int .i64 s.misses, .int .i64 s.evicted, .int .i64 s.resets] 29)).alloc (.cells #[.int .u8 x.kind, .int .i64 x.k.a, .int .i64 x.k.b, .int .i64 x.k.c, .int .u32 x.al, .int .i64 x.sq] 35)).alloc (.cells #[.int .i64 0, .int .i64 0, .slice none 0 0, .slice none 0 0, .int .i64 0, .int .i64 0, .int .i64 0, .int .i64 0] 29)) w.heap.size 29 #[.int .i64 s.size, .int .i64 s.seq, .slice ao n cap, .slice bo n cbp, .int .i64 s.hits, .int .i64 s.misses, .int .i64 s.evicted, .int .i64 s.resets]) := Lib.hid (((Blk.here rfl).alloc _).alloc _)
  have H5 : Hid (Blk (((w.alloc (.cells #[.int .i64 s.size, .int .i64 s.seq, .slice ao n cap, .slice bo n cbp, .int .i64 s.hits, .int .i64 s.misses, .int .i64 s.evicted, .int .i64 s.resets] 29)).alloc (.cells #[.int .u8 x.kind, .int .i64 x.k.a, .int .i64 x.k.b, .int .i64 x.k.c, .int .u32 x.al, .int .i64 x.sq] 35)).alloc (.cells #[.int .i64 0, .int .i64 0, .slice none 0 0, .slice none 0 0, .int .i64 0, .int .i64 0, .int .i64 0, .int .i64 0] 29)) (w.heap.size + 1) 35 #[.int .u8 x.kind, .int .i64 x.k.a, .int .i64 x.k.b, .int .i64 x.k.c, .int .u32 x.al, .int .i64 x.sq]) := Lib.hid ((Blk.here (by simp)).alloc _)
  have H6 : Hid (Blk (((w.alloc (.cells #[.int .i64 s.size, .int .i64 s.seq, .slice ao n cap, .slice bo n cbp, .int .i64 s.hits, .int .i64 s.misses, .int .i64 s.evicted, .int .i64 s.resets] 29)).alloc (.cells #[.int .u8 x.kind, .int .i64 x.k.a, .int .i64 x.k.b, .int .i64 x.k.c, .int .u32 x.al, .int .i64 x.sq] 35)).alloc (.cells #[.int .i64 0, .int .i64 0, .slice none 0 0, .slice none 0 0, .int .i64 0, .int .i64 0, .int .i64 0, .int .i64 0] 29)) (w.heap.size + 1 + 1) 29 #[.int .i64 0, .int .i64 0, .slice none 0 0, .slice none 0 0, .int .i64 0, .int .i64 0, .int .i64 0, .int .i64 0]) := Lib.hid (Blk.here (by simp))
  have HT0 : Hid (StT w (((w.alloc (.cells #[.int .i64 s.size, .int .i64 s.seq, .slice ao n cap, .slice bo n cbp, .int .i64 s.hits, .int .i64 s.misses, .int .i64 s.evicted, .int .i64 s.resets] 29)).alloc (.cells #[.int .u8 x.kind, .int .i64 x.k.a, .int .i64 x.k.b, .int .i64 x.k.c, .int .u32 x.al, .int .i64 x.sq] 35)).alloc (.cells #[.int .i64 0, .int .i64 0, .slice none 0 0, .slice none 0 0, .int .i64 0, .int .i64 0, .int .i64 0, .int .i64 0] 29))) := Lib.hid (StT.of HB.out)
  have HGE : Hid (∀ j t cs, Blk w j t cs → j ≠ w.heap.size + 1 + 1) := Lib.hid (fun j t cs hb => by have := hb.lt; omega)
  have HA := Lib.hid (h.keep HB.out)
  have HO := Lib.hid (hr.below HB.out)
  have HNE : Hid (w.heap.size ≠ w.heap.size + 1 + 1 ∧ w.heap.size + 1 ≠ w.heap.size + 1 + 1 ∧ w0.heap.size ≤ w.heap.size + 1 + 1 ∧ B ≤ (((w.alloc (.cells #[.int .i64 s.size, .int .i64 s.seq, .slice ao n cap, .slice bo n cbp, .int .i64 s.hits, .int .i64 s.misses, .int .i64 s.evicted, .int .i64 s.resets] 29)).alloc (.cells #[.int .u8 x.kind, .int .i64 x.k.a, .int .i64 x.k.b, .int .i64 x.k.c, .int .u32 x.al, .int .i64 x.sq] 35)).alloc (.cells #[.int .i64 0, .int .i64 0, .slice none 0 0, .slice none 0 0, .int .i64 0, .int .i64 0, .int .i64 0, .int .i64 0] 29)).heap.size) := Lib.hid (by have := h.b.size; refine ⟨by omega, by omega, by omega, ?_⟩; have := HB.out.size; omega)
  have hk0 := wx.kind.1
  have hk1 := wx.kind.2
  have ht : x.kind.tmod 3 = x.kind % 3 := Int.tmod_eq_emod_of_nonneg hk0
  have hm0 : 0 ≤ x.kind % 3 := by omega
  have hm1 : x.kind % 3 < 3 := by omega
  have HM := Lib.hid hm
  have HWX := Lib.hid wx
  clear h hr hB hm wx
  have HC := Lib.hid (reset_st x.sq HA.out HM.out)
  have HRR : Hid (∀ u, StT (((w.alloc (.cells #[.int .i64 s.size, .int .i64 s.seq, .slice ao n cap, .slice bo n cbp, .int .i64 s.hits, .int .i64 s.misses, .int .i64 s.evicted, .int .i64 s.resets] 29)).alloc (.cells #[.int .u8 x.kind, .int .i64 x.k.a, .int .i64 x.k.b, .int .i64 x.k.c, .int .u32 x.al, .int .i64 x.sq] 35)).alloc (.cells #[.int .i64 0, .int .i64 0, .slice none 0 0, .slice none 0 0, .int .i64 0, .int .i64 0, .int .i64 0, .int .i64 0] 29)) u → Calls Try.prog 39 #[.agg #[.int .i64 s.size, .int .i64 s.seq, .slice ao n cap, .slice bo n cbp, .int .i64 s.hits, .int .i64 s.misses, .int .i64 s.evicted, .int .i64 s.resets], .int .i64 x.sq] u fun e w' => ∃ vk' vd', e = .returned (.tuple #[.agg #[.int .i64 (resC s x.sq).size, .int .i64 (resC s x.sq).seq, vk', vd', .int .i64 (resC s x.sq).hits, .int .i64 (resC s x.sq).misses, .int .i64 (resC s x.sq).evicted, .int .i64 (resC s x.sq).resets], .int .i64 (staleE x.sq s.seq)]) ∧ OS w' B (resC s x.sq) vk' vd' ∧ Below u.heap.size u w') := Lib.hid (fun u hu => rreset_c s _ _ x.sq u (HO.out.st hu) (by have := HA.out.sm.r; have := HM.out; omega))
  obtain ⟨hj0, hj1⟩ := hk
  generalize resC s x.sq = s2 at *
  go_enter Try.func12, Try.ntmps12
  go_upto_region 1 with fail
  generalize (((w.alloc (.cells #[.int .i64 s.size, .int .i64 s.seq, .slice ao n cap, .slice bo n cbp, .int .i64 s.hits, .int .i64 s.misses, .int .i64 s.evicted, .int .i64 s.resets] 29)).alloc (.cells #[.int .u8 x.kind, .int .i64 x.k.a, .int .i64 x.k.b, .int .i64 x.k.c, .int .u32 x.al, .int .i64 x.sq] 35)).alloc (.cells #[.int .i64 0, .int .i64 0, .slice none 0 0, .slice none 0 0, .int .i64 0, .int .i64 0, .int .i64 0, .int .i64 0] 29)) = W at *
  generalize w.heap.size + 1 + 1 = g6 at *
  generalize w.heap.size + 1 = g5 at *
  generalize w.heap.size = g4 at *
  obtain ⟨k0, k1, k2, k3, k4, k5⟩ := H5.out.cells6
  generalize hj : x.kind % 3 = j at *
  have hq0 : (j == 0) = false := by simpa using hj0
  have hq1 : (j == 1) = false := by simpa using hj1
  clear hj
  go_upto_region 11 with (first | (go_at_call 31; refine HC.out.mono ?_; rintro e w2 ⟨rfl, h2, h3⟩; have HA2 := Lib.hid h2; have HT2 := Lib.hid h3; clear h2 h3) | fail)
  clear k0 k1 k2 k3 k4 k5
  have H42 := Lib.hid (HT2.out.k _ _ _ oth_st H4.out)
  have H52 := Lib.hid (HT2.out.k _ _ _ oth_op H5.out)
  have H62 := Lib.hid (HT2.out.k _ _ _ oth_st H6.out)
  obtain ⟨c0, c1, c2, c3, c4, c5, c6, c7⟩ := H42.out.cells8
  obtain ⟨k0, k1, k2, k3, k4, k5⟩ := H52.out.cells6
  go_upto_region 12 with (first | (go_at_call 39; refine (HRR.out _ HT2.out).mono ?_; rintro e w3 ⟨vk3, vd3, rfl, ho3, hb3⟩; obtain ⟨ao3, bo3, cap3, cbp3, rfl, rfl⟩ := ho3.sr.forms; have HO3 := Lib.hid ho3; have HB3 := Lib.hid hb3; clear ho3 hb3) | fail)
  clear c0 c1 c2 c3 c4 c5 c6 c7 k0 k1 k2 k3 k4 k5
  have hba : Below w3.heap.size w3 (w3.alloc (.cells #[.int .i64 s2.size, .int .i64 s2.seq, .slice ao3 s2.L.length cap3, .slice bo3 s2.L.length cbp3, .int .i64 s2.hits, .int .i64 s2.misses, .int .i64 s2.evicted, .int .i64 s2.resets] 29)) := (Below.refl _ _).alloc (Nat.le_refl _) _
  have HS9 := Lib.hid (Blk.new w3 29 #[.int .i64 s2.size, .int .i64 s2.seq, .slice ao3 s2.L.length cap3, .slice bo3 s2.L.length cbp3, .int .i64 s2.hits, .int .i64 s2.misses, .int .i64 s2.evicted, .int .i64 s2.resets])
  have HZ9 := Lib.hid ((H62.out.keep HB3.out).keep hba)
  have HA9 := Lib.hid ((HA2.out.keep HB3.out).keep hba)
  have HO9 := Lib.hid (HO3.out.below hba)
  have HT9 := Lib.hid (((HT0.out.trans HT2.out).keep HB3.out).keep hba)
  clear hba
  generalize w3.alloc (.cells #[.int .i64 s2.size, .int .i64 s2.seq, .slice ao3 s2.L.length cap3, .slice bo3 s2.L.length cbp3, .int .i64 s2.hits, .int .i64 s2.misses, .int .i64 s2.evicted, .int .i64 s2.resets] 29) = w9 at *
  generalize w3.heap.size = g17 at *
  obtain ⟨c0, c1, c2, c3, c4, c5, c6, c7⟩ := HS9.out.cells8
  obtain ⟨z0, z1, z2, z3, z4, z5, z6, z7⟩ := HZ9.out.cells8
  obtain ⟨f0, f1, f2, f3, f4, f5, f6, f7⟩ := HZ9.out.fro8
  go_wp2_with fail
  have hb := HZ9.out.set8 (.int .i64 s2.size) (.int .i64 s2.seq) (.slice ao3 s2.L.length cap3) (.slice bo3 s2.L.length cbp3) (.int .i64 s2.hits) (.int .i64 s2.misses) (.int .i64 s2.evicted) (.int .i64 s2.resets)
  have ha := apart_set8 w9 g6 (.int .i64 s2.size) (.int .i64 s2.seq) (.slice ao3 s2.L.length cap3) (.slice bo3 s2.L.length cbp3) (.int .i64 s2.hits) (.int .i64 s2.misses) (.int .i64 s2.evicted) (.int .i64 s2.resets)
  have hA := HA9.out.far oth_st HZ9.out HNE.out.2.2.1 ha
  have hO := HO9.out.far HZ9.out ha
  have hT := HT9.out.far HGE.out ha
  unfold set8 at hb ha hA hO hT
  generalize ((((((((w9.setCell ⟨g6, 0, none⟩ (.int .i64 s2.size)).setCell ⟨g6, 1, none⟩ (.int .i64 s2.seq)).setCell ⟨g6, 2, none⟩ (.slice ao3 s2.L.length cap3)).setCell ⟨g6, 3, none⟩ (.slice bo3 s2.L.length cbp3)).setCell ⟨g6, 4, none⟩ (.int .i64 s2.hits)).setCell ⟨g6, 5, none⟩ (.int .i64 s2.misses)).setCell ⟨g6, 6, none⟩ (.int .i64 s2.evicted)).setCell ⟨g6, 7, none⟩ (.int .i64 s2.resets)) = w6 at *
  obtain ⟨q0, q1, q2, q3, q4, q5, q6, q7⟩ := hb.cells8
  refine bodyPost_ret (v := .tuple #[.agg #[.int .i64 s2.size, .int .i64 s2.seq, .slice ao3 s2.L.length cap3, .slice bo3 s2.L.length cbp3, .int .i64 s2.hits, .int .i64 s2.misses, .int .i64 s2.evicted, .int .i64 s2.resets], .bool true]) (by simp [results, Try.results12, go_sem, q0, q1, q2, q3, q4, q5, q6, q7]) rfl ⟨_, _, rfl, hA, hO, hT⟩
end Go.Proofs.Ytbcbhgclgakljaa
