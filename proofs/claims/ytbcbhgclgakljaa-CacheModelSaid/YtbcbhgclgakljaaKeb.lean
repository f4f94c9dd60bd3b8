/- The reference of a cache: Reset; a state with a decision in front. -/
import Derived.Test.YtbcbhgclgakljaaKea
namespace Go.Proofs.Ytbcbhgclgakljaa
open Go.RowKit Go.Maps Go.WideElems Go.WideShapes
def set8 (w : World) (g : Nat) (b0 b1 b2 b3 b4 b5 b6 b7 : Value) : World := (((((((w.setCell ⟨g, 0, none⟩ b0).setCell ⟨g, 1, none⟩ b1).setCell ⟨g, 2, none⟩ b2).setCell ⟨g, 3, none⟩ b3).setCell ⟨g, 4, none⟩ b4).setCell ⟨g, 5, none⟩ b5).setCell ⟨g, 6, none⟩ b6).setCell ⟨g, 7, none⟩ b7
section
variable {w w' : World} {s : CS} {vk vd : Value}
theorem Blk.set8 {g : Nat} {t : TypeId} {a0 a1 a2 a3 a4 a5 a6 a7 : Value} (h : Blk w g t #[a0, a1, a2, a3, a4, a5, a6, a7]) (b0 b1 b2 b3 b4 b5 b6 b7 : Value) : Blk (set8 w g b0 b1 b2 b3 b4 b5 b6 b7) g t #[b0, b1, b2, b3, b4, b5, b6, b7] := by
  unfold Go.Proofs.Ytbcbhgclgakljaa.set8
  simpa using (((((((h.set 0 b0).set 1 b1).set 2 b2).set 3 b3).set 4 b4).set 5 b5).set 6 b6).set 7 b7
theorem apart_set8 (w : World) (g : Nat) (b0 b1 b2 b3 b4 b5 b6 b7 : Value) : Apart (fun k => k = g) w (set8 w g b0 b1 b2 b3 b4 b5 b6 b7) := by
  have h0 : Apart (fun k => k = g) w w := Apart.refl
  have st : ∀ {u : World} (i : Nat) (b : Value), Apart (fun k => k = g) w u → Apart (fun k => k = g) w (u.setCell ⟨g, i, none⟩ b) := fun i b h => h.setCell (F := fun k => k = g) (p := ⟨g, i, none⟩) (.inl rfl) b
  exact st 7 _ (st 6 _ (st 5 _ (st 4 _ (st 3 _ (st 2 _ (st 1 _ (st 0 _ h0)))))))
theorem Blk.fro8 {g : Nat} {t : TypeId} {cs : Array Value} (h : Blk w g t cs) :
    w.frozen? ⟨g, 0, none⟩ = false ∧ w.frozen? ⟨g, 1, none⟩ = false ∧ w.frozen? ⟨g, 2, none⟩ = false ∧ w.frozen? ⟨g, 3, none⟩ = false ∧ w.frozen? ⟨g, 4, none⟩ = false ∧ w.frozen? ⟨g, 5, none⟩ = false ∧ w.frozen? ⟨g, 6, none⟩ = false ∧ w.frozen? ⟨g, 7, none⟩ = false :=
  ⟨h.frozen 0, h.frozen 1, h.frozen 2, h.frozen 3, h.frozen 4, h.frozen 5, h.frozen 6, h.frozen 7⟩
theorem Rows'.nil0 {α : Type} (R : RowT α) (w : World) : Rows' R w (.slice none 0 0) [] := (Own.nil (R := R) w 0).rows
set_option maxRecDepth 100000 in
set_option maxHeartbeats 8000000 in
theorem rreset_n (s : CS) (ao bo : Option Addr) (n cap cbp : Nat) (m : Int) (w : World) (h : SR w s (.slice ao n cap) (.slice bo n cbp)) (hr : 0 ≤ s.resets ∧ s.resets ≤ 1000000) :
    Calls Try.prog 39 #[.agg #[.int .i64 s.size, .int .i64 s.seq, .slice ao n cap, .slice bo n cbp, .int .i64 s.hits, .int .i64 s.misses, .int .i64 s.evicted, .int .i64 s.resets], .int .i64 m] w fun e w' => ∃ vk' vd', e = .returned (.tuple #[.agg #[.int .i64 (resC s m).size, .int .i64 (resC s m).seq, vk', vd', .int .i64 (resC s m).hits, .int .i64 (resC s m).misses, .int .i64 (resC s m).evicted, .int .i64 (resC s m).resets], .int .i64 (staleE m s.seq)]) ∧ SR w' (resC s m) vk' vd' ∧ Below w.heap.size w w' ∧ ((vk' = .slice ao n cap ∧ vd' = .slice bo n cbp ∧ m < s.seq) ∨ (vk' = .slice none 0 0 ∧ vd' = .slice none 0 0 ∧ ¬ m < s.seq)) := by
  have HB : Hid (Below w.heap.size w ((w.alloc (.cells #[.int .i64 s.size, .int .i64 s.seq, .slice ao n cap, .slice bo n cbp, .int .i64 s.hits, .int .i64 s.misses, .int .i64 s.evicted, .int .i64 s.resets] 29)).alloc (.cells #[.int .i64 0, .int .i64 0, .slice none 0 0, .slice none 0 0, .int .i64 0, .int .i64 0, .int .i64 0, .int .i64 0] 29))) := Lib.hid (((Below.refl _ _).alloc (Nat.le_refl _) _).alloc (by simp) _)
  have HN : Hid (Blk ((w.alloc (.cells #[.int .i64 s.size, .int .i64 s.seq, .slice ao n cap, .slice bo n cbp, .int .i64 s.hits, .int .i64 s.misses, .int .i64 s.evicted, .int .i64 s.resets] 29)).alloc (.cells #[.int .i64 0, .int .i64 0, .slice none 0 0, .slice none 0 0, .int .i64 0, .int .i64 0, .int .i64 0, .int .i64 0] 29)) w.heap.size 29 #[.int .i64 s.size, .int .i64 s.seq, .slice ao n cap, .slice bo n cbp, .int .i64 s.hits, .int .i64 s.misses, .int .i64 s.evicted, .int .i64 s.resets]) := Lib.hid ((Blk.here rfl).alloc _)
  have HV : Hid (Blk ((w.alloc (.cells #[.int .i64 s.size, .int .i64 s.seq, .slice ao n cap, .slice bo n cbp, .int .i64 s.hits, .int .i64 s.misses, .int .i64 s.evicted, .int .i64 s.resets] 29)).alloc (.cells #[.int .i64 0, .int .i64 0, .slice none 0 0, .slice none 0 0, .int .i64 0, .int .i64 0, .int .i64 0, .int .i64 0] 29)) (w.heap.size + 1) 29 #[.int .i64 0, .int .i64 0, .slice none 0 0, .slice none 0 0, .int .i64 0, .int .i64 0, .int .i64 0, .int .i64 0]) := Lib.hid (Blk.here (by simp))
  have HR := Lib.hid (h.below HB.out)
  have HR0 := Lib.hid h
  have hne : w.heap.size ≠ w.heap.size + 1 := by omega
  obtain ⟨hr0, hr1⟩ := hr
  clear h
  go_enter Try.func39, Try.ntmps39
  go_upto_region 1 with fail
  generalize ((w.alloc (.cells #[.int .i64 s.size, .int .i64 s.seq, .slice ao n cap, .slice bo n cbp, .int .i64 s.hits, .int .i64 s.misses, .int .i64 s.evicted, .int .i64 s.resets] 29)).alloc (.cells #[.int .i64 0, .int .i64 0, .slice none 0 0, .slice none 0 0, .int .i64 0, .int .i64 0, .int .i64 0, .int .i64 0] 29)) = W at *
  have HGY : Hid (w.heap.size ≤ w.heap.size + 1) := Lib.hid (by omega)
  generalize w.heap.size + 1 = gy at *
  generalize hgx : w.heap.size = gx at *
  obtain ⟨c0, c1, c2, c3, c4, c5, c6, c7⟩ := HN.out.cells8
  by_cases hm : m < s.seq
  · have HM := Lib.hid hm
    have e1 : Hid (resC s m = s) := Lib.hid (by unfold resC; rw [if_pos hm])
    have e2 : Hid (staleE m s.seq = 24) := Lib.hid (by unfold staleE; rw [if_pos hm])
    obtain ⟨d0, d1, d2, d3, d4, d5, d6, d7⟩ := HV.out.cells8
    obtain ⟨f0, f1, f2, f3, f4, f5, f6, f7⟩ := HV.out.fro8
    go_wp2_with fail
    have HVX := HV
    have HBX := HB
    generalize W = WX at *
    have hb := HVX.out.set8 (.int .i64 s.size) (.int .i64 s.seq) (.slice ao n cap) (.slice bo n cbp) (.int .i64 s.hits) (.int .i64 s.misses) (.int .i64 s.evicted) (.int .i64 s.resets)
    have ha := apart_set8 WX gy (.int .i64 s.size) (.int .i64 s.seq) (.slice ao n cap) (.slice bo n cbp) (.int .i64 s.hits) (.int .i64 s.misses) (.int .i64 s.evicted) (.int .i64 s.resets)
    unfold set8 at hb ha
    generalize (((((((WX.setCell ⟨gy, 0, none⟩ (.int .i64 s.size)).setCell ⟨gy, 1, none⟩ (.int .i64 s.seq)).setCell ⟨gy, 2, none⟩ (.slice ao n cap)).setCell ⟨gy, 3, none⟩ (.slice bo n cbp)).setCell ⟨gy, 4, none⟩ (.int .i64 s.hits)).setCell ⟨gy, 5, none⟩ (.int .i64 s.misses)).setCell ⟨gy, 6, none⟩ (.int .i64 s.evicted)).setCell ⟨gy, 7, none⟩ (.int .i64 s.resets) = W9 at *
    obtain ⟨q0, q1, q2, q3, q4, q5, q6, q7⟩ := hb.cells8
    have hbw : Below w.heap.size w W9 := by rw [hgx]; exact HBX.out.trans (ha.below (by have := HBX.out.size; omega) (fun k e => by have := HGY.out; omega))
    refine bodyPost_ret (v := .tuple #[.agg #[.int .i64 s.size, .int .i64 s.seq, .slice ao n cap, .slice bo n cbp, .int .i64 s.hits, .int .i64 s.misses, .int .i64 s.evicted, .int .i64 s.resets], .int .i64 24]) (by simp [results, Try.results39, go_sem, q0, q1, q2, q3, q4, q5, q6, q7]) rfl ?_
    rw [e1.out, e2.out]
    exact ⟨_, _, rfl, HR0.out.below hbw, (by first | exact hbw | (rw [← hgx]; exact hbw)), (by first | exact .inl ⟨rfl, rfl, HM.out⟩ | exact ⟨rfl, rfl⟩ | simp)⟩
  · have HM := Lib.hid hm
    have e1 : Hid (resC s m = { s with seq := m, resets := s.resets + 1, L := [] }) := Lib.hid (by unfold resC; rw [if_neg hm])
    have e2 : Hid (staleE m s.seq = 0) := Lib.hid (by unfold staleE; rw [if_neg hm])
    obtain ⟨f0, f1, f2, f3, f4, f5, f6, f7⟩ := HN.out.fro8
    go_upto_region 5 with fail
    have HVX : Hid (Blk ((((W.setCell ⟨gx, 1, none⟩ (.int .i64 m)).setCell ⟨gx, 2, none⟩ (.slice none 0 0)).setCell ⟨gx, 3, none⟩ (.slice none 0 0)).setCell ⟨gx, 7, none⟩ (.int .i64 (s.resets + 1))) gy 29 #[.int .i64 0, .int .i64 0, .slice none 0 0, .slice none 0 0, .int .i64 0, .int .i64 0, .int .i64 0, .int .i64 0]) := Lib.hid ((((HV.out.far (p := ⟨gx, 1, none⟩) (fun e => hne e.symm) _).far (p := ⟨gx, 2, none⟩) (fun e => hne e.symm) _).far (p := ⟨gx, 3, none⟩) (fun e => hne e.symm) _).far (p := ⟨gx, 7, none⟩) (fun e => hne e.symm) _)
    have HNX : Hid (Blk ((((W.setCell ⟨gx, 1, none⟩ (.int .i64 m)).setCell ⟨gx, 2, none⟩ (.slice none 0 0)).setCell ⟨gx, 3, none⟩ (.slice none 0 0)).setCell ⟨gx, 7, none⟩ (.int .i64 (s.resets + 1))) gx 29 #[.int .i64 s.size, .int .i64 m, .slice none 0 0, .slice none 0 0, .int .i64 s.hits, .int .i64 s.misses, .int .i64 s.evicted, .int .i64 (s.resets + 1)]) := Lib.hid (by simpa using (((HN.out.set 1 (.int .i64 m)).set 2 (.slice none 0 0)).set 3 (.slice none 0 0)).set 7 (.int .i64 (s.resets + 1)))
    have HBX : Hid (Below gx w ((((W.setCell ⟨gx, 1, none⟩ (.int .i64 m)).setCell ⟨gx, 2, none⟩ (.slice none 0 0)).setCell ⟨gx, 3, none⟩ (.slice none 0 0)).setCell ⟨gx, 7, none⟩ (.int .i64 (s.resets + 1)))) := Lib.hid ((((HB.out.setCell (p := ⟨gx, 1, none⟩) (Nat.le_refl _) _).setCell (p := ⟨gx, 2, none⟩) (Nat.le_refl _) _).setCell (p := ⟨gx, 3, none⟩) (Nat.le_refl _) _).setCell (p := ⟨gx, 7, none⟩) (Nat.le_refl _) _)
    generalize (((W.setCell ⟨gx, 1, none⟩ (.int .i64 m)).setCell ⟨gx, 2, none⟩ (.slice none 0 0)).setCell ⟨gx, 3, none⟩ (.slice none 0 0)).setCell ⟨gx, 7, none⟩ (.int .i64 (s.resets + 1)) = WX at *
    clear c0 c1 c2 c3 c4 c5 c6 c7 f0 f1 f2 f3 f4 f5 f6 f7
    obtain ⟨c0, c1, c2, c3, c4, c5, c6, c7⟩ := HNX.out.cells8
    obtain ⟨d0, d1, d2, d3, d4, d5, d6, d7⟩ := HVX.out.cells8
    obtain ⟨f0, f1, f2, f3, f4, f5, f6, f7⟩ := HVX.out.fro8
    go_wp2_with fail
    have hb := HVX.out.set8 (.int .i64 s.size) (.int .i64 m) (.slice none 0 0) (.slice none 0 0) (.int .i64 s.hits) (.int .i64 s.misses) (.int .i64 s.evicted) (.int .i64 (s.resets + 1))
    have ha := apart_set8 WX gy (.int .i64 s.size) (.int .i64 m) (.slice none 0 0) (.slice none 0 0) (.int .i64 s.hits) (.int .i64 s.misses) (.int .i64 s.evicted) (.int .i64 (s.resets + 1))
    unfold set8 at hb ha
    generalize (((((((WX.setCell ⟨gy, 0, none⟩ (.int .i64 s.size)).setCell ⟨gy, 1, none⟩ (.int .i64 m)).setCell ⟨gy, 2, none⟩ (.slice none 0 0)).setCell ⟨gy, 3, none⟩ (.slice none 0 0)).setCell ⟨gy, 4, none⟩ (.int .i64 s.hits)).setCell ⟨gy, 5, none⟩ (.int .i64 s.misses)).setCell ⟨gy, 6, none⟩ (.int .i64 s.evicted)).setCell ⟨gy, 7, none⟩ (.int .i64 (s.resets + 1)) = W9 at *
    obtain ⟨q0, q1, q2, q3, q4, q5, q6, q7⟩ := hb.cells8
    have hbw : Below w.heap.size w W9 := by rw [hgx]; exact HBX.out.trans (ha.below (by have := HBX.out.size; omega) (fun k e => by have := HGY.out; omega))
    refine bodyPost_ret (v := .tuple #[.agg #[.int .i64 s.size, .int .i64 m, .slice none 0 0, .slice none 0 0, .int .i64 s.hits, .int .i64 s.misses, .int .i64 s.evicted, .int .i64 (s.resets + 1)], .int .i64 0]) (by simp [results, Try.results39, go_sem, q0, q1, q2, q3, q4, q5, q6, q7]) rfl ?_
    rw [e1.out, e2.out]
    exact ⟨_, _, rfl, ⟨Rows'.nil0 RK _, Rows'.nil0 RD _, .inl rfl, .inl rfl⟩, (by first | exact hbw | (rw [← hgx]; exact hbw)), (by first | exact .inr ⟨rfl, rfl, HM.out⟩ | exact ⟨rfl, rfl⟩ | simp)⟩
end
end Go.Proofs.Ytbcbhgclgakljaa
