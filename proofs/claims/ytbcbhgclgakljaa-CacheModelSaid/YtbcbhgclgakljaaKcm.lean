/- Reset and Copy of a cache of New's; play. -/
import Derived.Test.YtbcbhgclgakljaaKcl
namespace Go.Proofs.Ytbcbhgclgakljaa
open Go.RowKit Go.Maps Go.WideElems Go.WideShapes
section
variable {w w' : World} {F G : Nat → Prop} {c o r m : Nat} {s : CS} {S : List Lk}
theorem reset_stale (n : Int) (h : CF w F c s) (hd : n < s.seq) : Calls Try.prog 31 #[.pointer (some ⟨c, 0, none⟩), .int .i64 n] w fun e w' => e = .returned (.int .i64 24) ∧ w' = w := by
  have HM := Lib.hid (made_c h)
  obtain ⟨o, r, m, S, h1, _⟩ := h
  obtain ⟨c0, c1, c2, _⟩ := h1.cells8
  clear h1
  go_enter Try.func31, Try.ntmps31
  go_wp2_with (go_at_call 46; refine HM.out.mono ?_; rintro e w1 ⟨rfl, rfl⟩)
  go_ret
  exact ⟨rfl, rfl⟩
set_option maxRecDepth 100000 in
set_option maxHeartbeats 8000000 in
theorem reset_go (n : Int) (h : CF w F c s) (hd : ¬ n < s.seq) (hr : 0 ≤ s.resets) (hr2 : s.resets ≤ 1000000) : Calls Try.prog 31 #[.pointer (some ⟨c, 0, none⟩), .int .i64 n] w fun e w' => e = .returned (.int .i64 0) ∧ CTo w w' F c { s with seq := n, resets := s.resets + 1, L := [] } := by
  have HM := Lib.hid (made_c h)
  obtain ⟨o, r, m, S, h1, h2, h3, h4, h5, h6⟩ := h
  have HC := Lib.hid h1
  have HFC := Lib.hid h4
  have HLT := Lib.hid h6
  have HN := Lib.hid (newOrder_c w)
  obtain ⟨c0, c1, c2, c3, c4, c5, c6, c7⟩ := h1.cells8
  clear h1 h2 h3 h4 h5 h6
  go_enter Try.func31, Try.ntmps31
  go_upto_region 5 with (go_at_call 46; refine HM.out.mono ?_; rintro e w1 ⟨rfl, rfl⟩)
  clear c0 c1 c2 c3 c4 c5 c6 c7
  go_upto_region 6 with (first | (go_at_call 35; refine HN.out.mono ?_; rintro e w2 ⟨o2, r2, m2, rfl, ho2, hb2, l1, l2, l3⟩; have HO2 := Lib.hid ho2; have HB2 := Lib.hid hb2; have HC2 := Lib.hid (HC.out.keep hb2); clear ho2 hb2; have c3 := HC2.out.cell 3; have f3 := HC2.out.frozen 3; simp only [List.getElem?_toArray, List.getElem?_cons_succ, List.getElem?_cons_zero] at c3) | fail)
  clear c3 f3
  have HC3 : Hid (Blk (w2.setCell ⟨c, 3, none⟩ (.pointer (some ⟨o2, 0, none⟩))) c 89 #[.pointer (some ⟨c, 0, none⟩), .int .i64 s.size, .int .i64 s.seq, .pointer (some ⟨o2, 0, none⟩), .int .i64 s.hits, .int .i64 s.misses, .int .i64 s.evicted, .int .i64 s.resets]) := Lib.hid (by simpa using HC2.out.set 3 (.pointer (some ⟨o2, 0, none⟩)))
  have hA3 : Apart (fun k => k = c) w2 (w2.setCell ⟨c, 3, none⟩ (.pointer (some ⟨o2, 0, none⟩))) := Apart.setCell (F := fun k => k = c) (p := ⟨c, 3, none⟩) Apart.refl (.inl rfl) _
  have HA3 := Lib.hid hA3
  clear hA3
  generalize w2.setCell ⟨c, 3, none⟩ (.pointer (some ⟨o2, 0, none⟩)) = W3 at *
  obtain ⟨c0, c1, c2, c3, c4, c5, c6, c7⟩ := HC3.out.cells8
  have f2 := HC3.out.frozen 2
  go_upto_region 7 with fail
  clear c0 c1 c2 c3 c4 c5 c6 c7 f2
  have HC4 : Hid (Blk (W3.setCell ⟨c, 2, none⟩ (.int .i64 n)) c 89 #[.pointer (some ⟨c, 0, none⟩), .int .i64 s.size, .int .i64 n, .pointer (some ⟨o2, 0, none⟩), .int .i64 s.hits, .int .i64 s.misses, .int .i64 s.evicted, .int .i64 s.resets]) := Lib.hid (by simpa using HC3.out.set 2 (.int .i64 n))
  have hA4 : Apart (fun k => k = c) W3 (W3.setCell ⟨c, 2, none⟩ (.int .i64 n)) := Apart.setCell (F := fun k => k = c) (p := ⟨c, 2, none⟩) Apart.refl (.inl rfl) _
  have HA4 := Lib.hid (HA3.out.trans hA4 (fun k hk => .inl hk))
  clear hA4
  generalize W3.setCell ⟨c, 2, none⟩ (.int .i64 n) = W4 at *
  obtain ⟨c0, c1, c2, c3, c4, c5, c6, c7⟩ := HC4.out.cells8
  have f7 := HC4.out.frozen 7
  go_upto_region 8 with fail
  clear c0 c1 c2 c3 c4 c5 c6 c7 f7
  have HC5 : Hid (Blk (W4.setCell ⟨c, 7, none⟩ (.int .i64 (s.resets + 1))) c 89 #[.pointer (some ⟨c, 0, none⟩), .int .i64 s.size, .int .i64 n, .pointer (some ⟨o2, 0, none⟩), .int .i64 s.hits, .int .i64 s.misses, .int .i64 s.evicted, .int .i64 (s.resets + 1)]) := Lib.hid (by simpa using HC4.out.set 7 (.int .i64 (s.resets + 1)))
  have hA5 : Apart (fun k => k = c) W4 (W4.setCell ⟨c, 7, none⟩ (.int .i64 (s.resets + 1))) := Apart.setCell (F := fun k => k = c) (p := ⟨c, 7, none⟩) Apart.refl (.inl rfl) _
  have HA5 := Lib.hid (HA4.out.trans hA5 (fun k hk => .inl hk))
  clear hA5
  generalize W4.setCell ⟨c, 7, none⟩ (.int .i64 (s.resets + 1)) = W5 at *
  go_wp2_with fail
  go_ret
  refine ⟨rfl, CTo.mk HFC.out HC5.out (HO2.out.apart HA5.out (c_ne HC2.out HO2.out)) rfl (fun j hj => .inr ?_) ((Apart.of HB2.out).trans HA5.out (fun k hk => .inl (by subst hk; exact HFC.out)))⟩
  rcases hj with rfl | rfl | rfl | ⟨x, hx, _⟩
  · exact l1
  · exact l2
  · exact l3
  · cases hx
/-- Reset -/
theorem reset_c {k : Nat} (n : Int) (h : CF w F c s) (hs : Sm k s) (hk : k ≤ 1000000) : Calls Try.prog 31 #[.pointer (some ⟨c, 0, none⟩), .int .i64 n] w fun e w' => e = .returned (.int .i64 (staleE n s.seq)) ∧ CTo w w' F c (resC s n) := by
  by_cases hd : n < s.seq
  · refine (reset_stale n h hd).mono ?_
    rintro e w' ⟨rfl, rfl⟩
    unfold resC staleE
    rw [if_pos hd, if_pos hd]
    exact ⟨rfl, CTo.same h (Below.refl _ _)⟩
  · unfold resC staleE
    rw [if_neg hd, if_neg hd]
    exact reset_go n h hd hs.r.1 (by have := hs.r.2; omega)
structure Opr where
  kind : Int
  k : K3
  al : Int
  sq : Int
def Opr.d (x : Opr) : Dc := ⟨x.al, 0, 0, false, x.sq⟩
/-- what an operation makes of a cache -/
def doC (s : CS) (x : Opr) : CS := if x.kind % 3 = 0 then findC s x.k else if x.kind % 3 = 1 then insC s x.k x.d else resC s x.sq
def valO (x : Opr) : Value := .agg #[.int .u8 x.kind, .int .i64 x.k.a, .int .i64 x.k.b, .int .i64 x.k.c, .int .u32 x.al, .int .i64 x.sq]
structure WO (x : Opr) : Prop where
  kind : 0 ≤ x.kind ∧ x.kind ≤ 255
  k : WK x.k
  al : 0 ≤ x.al ∧ x.al ≤ 4294967295
  sq : W64 x.sq
theorem OkC.op {s : CS} (h : OkC s) (x : Opr) : OkC (doC s x) := by
  unfold doC
  split
  · exact h.find _
  · split
    · exact h.ins _ _
    · exact h.res _
theorem Sm.op {s : CS} {n : Nat} (h : Sm n s) (x : Opr) : Sm (n + 1) (doC s x) := by
  have w : Sm (n + 1) s := ⟨⟨h.h.1, by have := h.h.2; omega⟩, ⟨h.m.1, by have := h.m.2; omega⟩, ⟨h.e.1, by have := h.e.2; omega⟩, ⟨h.r.1, by have := h.r.2; omega⟩⟩
  unfold doC
  split
  · unfold findC
    split
    · exact ⟨⟨by have := h.h.1; simp only; omega, by have := h.h.2; simp only; omega⟩, w.m, w.e, w.r⟩
    · exact ⟨w.h, ⟨by have := h.m.1; simp only; omega, by have := h.m.2; simp only; omega⟩, w.e, w.r⟩
  · split
    · unfold insC putC
      split
      · exact w
      · split
        · exact ⟨w.h, w.m, ⟨by have := h.e.1; simp only; omega, by have := h.e.2; simp only; omega⟩, w.r⟩
        · exact ⟨w.h, w.m, w.e, w.r⟩
    · unfold resC
      split
      · exact w
      · exact ⟨w.h, w.m, w.e, ⟨by have := h.r.1; simp only; omega, by have := h.r.2; simp only; omega⟩⟩
theorem doC_size {s : CS} (x : Opr) : (doC s x).size = s.size := by
  unfold doC findC insC putC resC
  repeat' split
  all_goals rfl
end
end Go.Proofs.Ytbcbhgclgakljaa
