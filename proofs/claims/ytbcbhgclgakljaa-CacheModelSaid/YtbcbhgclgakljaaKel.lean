/- The reference's Find and Insert say what the cache does. -/
import Derived.Test.YtbcbhgclgakljaaKek
namespace Go.Proofs.Ytbcbhgclgakljaa
open Go.RowKit Go.Maps Go.WideElems Go.WideShapes
set_option maxRecDepth 100000 in
set_option maxHeartbeats 16000000 in
theorem rins_stale (s : CS) (ao bo : Option Addr) (n cap cbp : Nat) (k : K3) (d : Dc) (w : World) (hst : d.sq < s.seq) :
    Calls Try.prog 38 #[.agg #[.int .i64 s.size, .int .i64 s.seq, .slice ao n cap, .slice bo n cbp, .int .i64 s.hits, .int .i64 s.misses, .int .i64 s.evicted, .int .i64 s.resets], .int .i64 k.a, .int .i64 k.b, .int .i64 k.c, .agg #[.int .u32 d.al, .int .u32 d.aa, .int .u32 d.ad, .bool d.pm, .int .i64 d.sq]] w fun e w' => e = .returned (.tuple #[.agg #[.int .i64 s.size, .int .i64 s.seq, .slice ao n cap, .slice bo n cbp, .int .i64 s.hits, .int .i64 s.misses, .int .i64 s.evicted, .int .i64 s.resets], .int .i64 24]) ∧ Below w.heap.size w w' := by
  have HB : Hid (Below w.heap.size w (((w.alloc (.cells #[.int .i64 s.size, .int .i64 s.seq, .slice ao n cap, .slice bo n cbp, .int .i64 s.hits, .int .i64 s.misses, .int .i64 s.evicted, .int .i64 s.resets] 29)).alloc (.cells #[.int .u32 d.al, .int .u32 d.aa, .int .u32 d.ad, .bool d.pm, .int .i64 d.sq] 39)).alloc (.cells #[.int .i64 0, .int .i64 0, .slice none 0 0, .slice none 0 0, .int .i64 0, .int .i64 0, .int .i64 0, .int .i64 0] 29))) := Lib.hid (((((Below.refl _ _).alloc (Nat.le_refl _) _).alloc (by simp) _).alloc (by simp; omega) _))
  have H5 : Hid (Blk (((w.alloc (.cells #[.int .i64 s.size, .int .i64 s.seq, .slice ao n cap, .slice bo n cbp, .int .i64 s.hits, .int .i64 s.misses, .int .i64 s.evicted, .int .i64 s.resets] 29)).alloc (.cells #[.int .u32 d.al, .int .u32 d.aa, .int .u32 d.ad, .bool d.pm, .int .i64 d.sq] 39)).alloc (.cells #[.int .i64 0, .int .i64 0, .slice none 0 0, .slice none 0 0, .int .i64 0, .int .i64 0, .int .i64 0, .int .i64 0] 29)) w.heap.size 29 #[.int .i64 s.size, .int .i64 s.seq, .slice ao n cap, .slice bo n cbp, .int .i64 s.hits, .int .i64 s.misses, .int .i64 s.evicted, .int .i64 s.resets]) := Lib.hid (((Blk.here rfl).alloc _).alloc _)
  have H9 : Hid (Blk (((w.alloc (.cells #[.int .i64 s.size, .int .i64 s.seq, .slice ao n cap, .slice bo n cbp, .int .i64 s.hits, .int .i64 s.misses, .int .i64 s.evicted, .int .i64 s.resets] 29)).alloc (.cells #[.int .u32 d.al, .int .u32 d.aa, .int .u32 d.ad, .bool d.pm, .int .i64 d.sq] 39)).alloc (.cells #[.int .i64 0, .int .i64 0, .slice none 0 0, .slice none 0 0, .int .i64 0, .int .i64 0, .int .i64 0, .int .i64 0] 29)) (w.heap.size + 1) 39 #[.int .u32 d.al, .int .u32 d.aa, .int .u32 d.ad, .bool d.pm, .int .i64 d.sq]) := Lib.hid ((Blk.here (by simp)).alloc _)
  have H10 : Hid (Blk (((w.alloc (.cells #[.int .i64 s.size, .int .i64 s.seq, .slice ao n cap, .slice bo n cbp, .int .i64 s.hits, .int .i64 s.misses, .int .i64 s.evicted, .int .i64 s.resets] 29)).alloc (.cells #[.int .u32 d.al, .int .u32 d.aa, .int .u32 d.ad, .bool d.pm, .int .i64 d.sq] 39)).alloc (.cells #[.int .i64 0, .int .i64 0, .slice none 0 0, .slice none 0 0, .int .i64 0, .int .i64 0, .int .i64 0, .int .i64 0] 29)) (w.heap.size + 1 + 1) 29 #[.int .i64 0, .int .i64 0, .slice none 0 0, .slice none 0 0, .int .i64 0, .int .i64 0, .int .i64 0, .int .i64 0]) := Lib.hid (Blk.here (by simp))
  have HG10 : Hid (w.heap.size ≤ w.heap.size + 1 + 1) := Lib.hid (by omega)
  go_enter Try.func38, Try.ntmps38
  go_upto_region 1 with fail
  generalize (((w.alloc (.cells #[.int .i64 s.size, .int .i64 s.seq, .slice ao n cap, .slice bo n cbp, .int .i64 s.hits, .int .i64 s.misses, .int .i64 s.evicted, .int .i64 s.resets] 29)).alloc (.cells #[.int .u32 d.al, .int .u32 d.aa, .int .u32 d.ad, .bool d.pm, .int .i64 d.sq] 39)).alloc (.cells #[.int .i64 0, .int .i64 0, .slice none 0 0, .slice none 0 0, .int .i64 0, .int .i64 0, .int .i64 0, .int .i64 0] 29)) = W at *
  generalize w.heap.size + 1 + 1 = g10 at *
  generalize w.heap.size + 1 = g9 at *
  generalize hgx : w.heap.size = g5 at *
  obtain ⟨c0, c1, c2, c3, c4, c5, c6, c7⟩ := H5.out.cells8
  obtain ⟨t0, t1, t2, t3, t4, _⟩ := H9.out.cells5
  obtain ⟨y0, y1, y2, y3, y4, y5, y6, y7⟩ := H10.out.cells8
  obtain ⟨f0, f1, f2, f3, f4, f5, f6, f7⟩ := H10.out.fro8
  go_wp2_with fail
  have hb := H10.out.set8 (.int .i64 s.size) (.int .i64 s.seq) (.slice ao n cap) (.slice bo n cbp) (.int .i64 s.hits) (.int .i64 s.misses) (.int .i64 s.evicted) (.int .i64 s.resets)
  have ha := apart_set8 W g10 (.int .i64 s.size) (.int .i64 s.seq) (.slice ao n cap) (.slice bo n cbp) (.int .i64 s.hits) (.int .i64 s.misses) (.int .i64 s.evicted) (.int .i64 s.resets)
  have hbz : Below g5 w _ := HB.out.trans (ha.below (by have := HB.out.size; omega) (fun j e => by have : j = g10 := e; have := HG10.out; omega))
  unfold set8 at hb ha hbz
  generalize ((((((((W.setCell ⟨g10, 0, none⟩ (.int .i64 s.size)).setCell ⟨g10, 1, none⟩ (.int .i64 s.seq)).setCell ⟨g10, 2, none⟩ (.slice ao n cap)).setCell ⟨g10, 3, none⟩ (.slice bo n cbp)).setCell ⟨g10, 4, none⟩ (.int .i64 s.hits)).setCell ⟨g10, 5, none⟩ (.int .i64 s.misses)).setCell ⟨g10, 6, none⟩ (.int .i64 s.evicted)).setCell ⟨g10, 7, none⟩ (.int .i64 s.resets)) = w7 at *
  obtain ⟨q0, q1, q2, q3, q4, q5, q6, q7⟩ := hb.cells8
  refine bodyPost_ret (v := .tuple #[.agg #[.int .i64 s.size, .int .i64 s.seq, .slice ao n cap, .slice bo n cbp, .int .i64 s.hits, .int .i64 s.misses, .int .i64 s.evicted, .int .i64 s.resets], .int .i64 24]) (by simp [results, Try.results38, go_sem, q0, q1, q2, q3, q4, q5, q6, q7]) rfl ?_
  exact ⟨rfl, by first | exact hbz | (rw [hgx]; exact hbz)⟩
theorem SR.forms {w : World} {s : CS} {vk vd : Value} (h : SR w s vk vd) : ∃ ao bo cap cbp, vk = .slice ao s.L.length cap ∧ vd = .slice bo s.L.length cbp := by
  obtain ⟨ao, cap, e1, _⟩ := h.k.form
  obtain ⟨bo, cbp, e2, _⟩ := h.d.form
  have l1 : (keysK s.L).length = s.L.length := by unfold keysK; rw [List.length_map]
  rw [l1] at e1
  rw [List.length_map] at e2
  exact ⟨_, _, _, _, e1, e2⟩
/-- a reference's state in rows of a call's own -/
structure OS (w : World) (B : Nat) (s : CS) (vk vd : Value) : Prop where
  k : Own RK w B vk (keysK s.L)
  d : Own RD w B vd (s.L.map (·.2))
theorem OS.sr {w : World} {B : Nat} {s : CS} {vk vd : Value} (h : OS w B s vk vd) : SR w s vk vd := Own.sr h.k h.d
theorem OS.below {w w' : World} {B : Nat} {s : CS} {vk vd : Value} (h : OS w B s vk vd) (hb : Below w.heap.size w w') : OS w' B s vk vd := ⟨h.k.below hb, h.d.below hb⟩
theorem own_st {α : Type} {R : RowT α} {w w' : World} {B : Nat} {v : Value} {L : List α} (h : Own R w B v L) (ho : Oth R.te) (hs : StT w w') : Own R w' B v L := by
  refine ⟨h.1, ?_⟩
  rcases h.2 with hn | ⟨g, cap, cur, hv, hbg, hg, rest⟩
  · exact .inl hn
  · exact .inr ⟨g, cap, cur, hv, hbg, hs.k g R.te cur ho hg, rest⟩
/-- .. a cache's methods leave it -/
theorem OS.st {w w' : World} {B : Nat} {s : CS} {vk vd : Value} (h : OS w B s vk vd) (hs : StT w w') : OS w' B s vk vd := ⟨own_st h.k ⟨by decide, by decide, by decide⟩ hs, own_st h.d oth_dec hs⟩
theorem rinsert_c {B : Nat} (s : CS) (vk vd : Value) (k : K3) (d : Dc) (w : World) (h : OS w B s vk vd) (hB : B ≤ w.heap.size) (ok : OkC s) (he : 0 ≤ s.evicted ∧ s.evicted ≤ 1000000) (hl : s.L.length ≤ 50000) :
    Calls Try.prog 38 #[.agg #[.int .i64 s.size, .int .i64 s.seq, vk, vd, .int .i64 s.hits, .int .i64 s.misses, .int .i64 s.evicted, .int .i64 s.resets], .int .i64 k.a, .int .i64 k.b, .int .i64 k.c, .agg #[.int .u32 d.al, .int .u32 d.aa, .int .u32 d.ad, .bool d.pm, .int .i64 d.sq]] w fun e w' => ∃ vk' vd', e = .returned (.tuple #[.agg #[.int .i64 (insC s k d).size, .int .i64 (insC s k d).seq, vk', vd', .int .i64 (insC s k d).hits, .int .i64 (insC s k d).misses, .int .i64 (insC s k d).evicted, .int .i64 (insC s k d).resets], .int .i64 (staleE d.sq s.seq)]) ∧ OS w' B (insC s k d) vk' vd' ∧ Below w.heap.size w w' := by
  obtain ⟨ao, bo, cap, cbp, rfl, rfl⟩ := h.sr.forms
  by_cases hs : d.sq < s.seq
  · have e1 : insC s k d = s := by unfold insC; rw [if_pos hs]
    have e2 : staleE d.sq s.seq = 24 := by unfold staleE; rw [if_pos hs]
    rw [e1, e2]
    refine (rins_stale s ao bo _ cap cbp k d w hs).mono ?_
    rintro e w' ⟨rfl, hb⟩
    exact ⟨_, _, rfl, h.below hb, hb⟩
  · have e2 : staleE d.sq s.seq = 0 := by unfold staleE; rw [if_neg hs]
    rw [e2]
    cases hk : lookK s.L k with
    | some d0 =>
      obtain ⟨i, h1, h2, h3⟩ := ins_has_ref (d := d) ok hs hk
      rw [h3]
      refine (rins_has s ao bo _ cap cbp k d w h.sr rfl hl hs i h1 h2).mono ?_
      rintro e w' ⟨vk', vd', rfl, _, hb, h4, h5⟩
      exact ⟨vk', vd', rfl, ⟨h4.base hB, h5.base hB⟩, hb⟩
    | none =>
      by_cases hf : (s.L.length : Int) = s.size
      · rw [ins_full_ref hs hk hf]
        have hp : 1 ≤ s.L.length := by have := ok.pos; omega
        have hh := rins_full s ao bo _ cap cbp k d w h.sr rfl hl hs (ix_miss hk) he hp
        rw [hf] at hh
        refine hh.mono ?_
        rintro e w' ⟨vk', vd', rfl, _, hb, h4, h5⟩
        exact ⟨vk', vd', rfl, ⟨h4.base hB, h5.base hB⟩, hb⟩
      · rw [ins_new_ref hs hk hf]
        refine (rins_new s ao bo _ cap cbp k d w h.sr rfl hl hs (ix_miss hk) hf).mono ?_
        rintro e w' ⟨vk', vd', rfl, _, hb, h4, h5⟩
        exact ⟨vk', vd', rfl, ⟨h4.base hB, h5.base hB⟩, hb⟩
theorem rfind_c {B : Nat} (s : CS) (vk vd : Value) (k : K3) (w : World) (h : OS w B s vk vd) (hB : B ≤ w.heap.size) (ok : OkC s) (hh : 0 ≤ s.hits ∧ s.hits ≤ 1000000) (hm : 0 ≤ s.misses ∧ s.misses ≤ 1000000) (hl : s.L.length ≤ 50000) :
    Calls Try.prog 36 #[.agg #[.int .i64 s.size, .int .i64 s.seq, vk, vd, .int .i64 s.hits, .int .i64 s.misses, .int .i64 s.evicted, .int .i64 s.resets], .int .i64 k.a, .int .i64 k.b, .int .i64 k.c] w fun e w' => ∃ vk' vd', e = .returned (.tuple #[.agg #[.int .i64 (findC s k).size, .int .i64 (findC s k).seq, vk', vd', .int .i64 (findC s k).hits, .int .i64 (findC s k).misses, .int .i64 (findC s k).evicted, .int .i64 (findC s k).resets], .agg #[.int .u32 (gotC s k).al, .int .u32 (gotC s k).aa, .int .u32 (gotC s k).ad, .bool (gotC s k).pm, .int .i64 (gotC s k).sq], .bool (isC s k)]) ∧ OS w' B (findC s k) vk' vd' ∧ Below w.heap.size w w' := by
  obtain ⟨ao, bo, cap, cbp, rfl, rfl⟩ := h.sr.forms
  cases hk : lookK s.L k with
  | some d =>
    obtain ⟨i, h1, h2, h3, h4, h5, h6⟩ := find_some_ref ok hk
    rw [h4, h5, h6]
    refine (rfind_hit s ao bo _ cap cbp k w h.sr ok hh hl d i h1 h3).mono ?_
    rintro e w' ⟨vk', vd', rfl, _, hb, h4, h5⟩
    exact ⟨vk', vd', rfl, ⟨h4.base hB, h5.base hB⟩, hb⟩
  | none =>
    obtain ⟨h1, h4, h5, h6⟩ := find_none_ref hk
    rw [h4, h5, h6]
    refine (rfind_miss s ao bo _ cap cbp k w h.sr hm hl hk).mono ?_
    rintro e w' ⟨rfl, hb⟩
    exact ⟨_, _, rfl, ⟨h.k.below hb, h.d.below hb⟩, hb⟩
theorem rreset_c {B : Nat} (s : CS) (vk vd : Value) (m : Int) (w : World) (h : OS w B s vk vd) (hr : 0 ≤ s.resets ∧ s.resets ≤ 1000000) :
    Calls Try.prog 39 #[.agg #[.int .i64 s.size, .int .i64 s.seq, vk, vd, .int .i64 s.hits, .int .i64 s.misses, .int .i64 s.evicted, .int .i64 s.resets], .int .i64 m] w fun e w' => ∃ vk' vd', e = .returned (.tuple #[.agg #[.int .i64 (resC s m).size, .int .i64 (resC s m).seq, vk', vd', .int .i64 (resC s m).hits, .int .i64 (resC s m).misses, .int .i64 (resC s m).evicted, .int .i64 (resC s m).resets], .int .i64 (staleE m s.seq)]) ∧ OS w' B (resC s m) vk' vd' ∧ Below w.heap.size w w' := by
  obtain ⟨ao, bo, cap, cbp, rfl, rfl⟩ := h.sr.forms
  refine (rreset_n s ao bo _ cap cbp m w h.sr hr).mono ?_
  rintro e w' ⟨vk', vd', rfl, _, hb, hor⟩
  refine ⟨vk', vd', rfl, ?_, hb⟩
  rcases hor with ⟨rfl, rfl, hm⟩ | ⟨rfl, rfl, hm⟩
  · have e1 : resC s m = s := by unfold resC; rw [if_pos hm]
    rw [e1]
    exact h.below hb
  · have e1 : (resC s m).L = [] := by unfold resC; rw [if_neg hm]
    exact ⟨by rw [e1]; exact Own.nil _ _, by rw [e1]; exact Own.nil _ _⟩
end Go.Proofs.Ytbcbhgclgakljaa
