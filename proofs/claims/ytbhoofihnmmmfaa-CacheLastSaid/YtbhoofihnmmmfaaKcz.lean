/- What the law CacheLast says of a cache, plainly; what tells whether two operations have one key; a copy and its place. -/
import Derived.Test.YtbhoofihnmmmfaaKcx
namespace Go.Proofs.Ytbhoofihnmmmfaa
open Go.RowKit Go.Maps Go.WideElems Go.WideShapes
/-- what is stored is what was stored for its key last -/
def InvL (L : List En) (l : List Opr) (D : List Bool) (i : Nat) : Prop := ∀ p ∈ L, ∃ m x, m < i ∧ D[m]? = some true ∧ l[m]? = some x ∧ x.k = p.1 ∧ x.d = p.2 ∧ ∀ q y, m < q → q < i → l[q]? = some y → D[q]? = some true → y.k ≠ p.1
section
variable {L L' : List En} {l : List Opr} {D : List Bool} {i : Nat} {s : CS} {x : Opr}
/-- nothing is stored by the step -/
theorem InvL.less (h : InvL L l D i) (hs : ∀ p ∈ L', p ∈ L) (hD : D[i]? = some false) : InvL L' l D (i + 1) := by
  intro p hp
  obtain ⟨m, x, h1, h2, h3, h4, h5, h6⟩ := h p (hs p hp)
  refine ⟨m, x, by omega, h2, h3, h4, h5, fun q y hq1 hq2 hy hd => ?_⟩
  by_cases e : q = i
  · subst e; rw [hD] at hd; simp at hd
  · exact h6 q y hq1 (by omega) hy hd
theorem InvL.put (h : InvL L l D i) (hx : l[i]? = some x) (hi : i < D.length) (hs : ∀ p ∈ L', p = (x.k, x.d) ∨ p.1 ≠ x.k ∧ p ∈ L) : InvL L' l (D.set i true) (i + 1) := by
  intro p hp
  rcases hs p hp with rfl | ⟨hne, hp⟩
  · exact ⟨i, x, by omega, by simp [hi], hx, rfl, rfl, fun q y h1 h2 => by omega⟩
  · obtain ⟨m, z, h1, h2, h3, h4, h5, h6⟩ := h p hp
    refine ⟨m, z, by omega, ?_, h3, h4, h5, fun q y hq1 hq2 hy hd => ?_⟩
    · rw [List.getElem?_set_ne (by omega)]; exact h2
    · by_cases e : q = i
      · subst e
        rw [hx] at hy
        simp only [Option.some.injEq] at hy
        subst hy
        exact fun e => hne e.symm
      · rw [List.getElem?_set_ne (by omega)] at hd
        exact h6 q y hq1 (by omega) hy hd
theorem del_ne {L : List En} {k : K3} {p : En} (h : p ∈ delK L k) : p.1 ≠ k := by
  have := (List.mem_filter.1 h).2
  simpa using this
theorem find_subL (s : CS) (k : K3) : ∀ p ∈ (findC s k).L, p ∈ s.L := by
  unfold findC
  split
  · rename_i d hd
    intro p hp
    rcases List.mem_cons.1 hp with rfl | hp
    · exact lookK_mem hd
    · exact (List.mem_filter.1 hp).1
  · exact fun p hp => hp
theorem res_subL (s : CS) (n : Int) : ∀ p ∈ (resC s n).L, p ∈ s.L := by
  unfold resC
  split
  · exact fun p hp => hp
  · intro p hp; cases hp
theorem InvL.op (h : InvL s.L l D i) (hx : ¬ x.kind % 3 = 1) (hD : D[i]? = some false) : InvL (doC s x).L l D (i + 1) := by
  unfold doC
  split
  · exact h.less (find_subL s _) hD
  · exact h.less (res_subL s _) hD
/-- whether an insertion has no error -/
def fitC (s : CS) (x : Opr) : Bool := staleE x.d.sq s.seq == 0
theorem InvL.ins (h : InvL s.L l D i) (hx : l[i]? = some x) (hD : D[i]? = some false) : InvL (insC s x.k x.d).L l (D.set i (fitC s x)) (i + 1) := by
  unfold insC fitC staleE
  split
  · rename_i hs
    have e : D.set i ((24 : Int) == 0) = D := by
      apply List.ext_getElem?
      intro q
      by_cases hq : q = i
      · subst hq
        have := (List.getElem?_eq_some_iff.1 hD).1
        simp [this]
        rw [List.getElem?_eq_getElem this] at hD
        simpa using hD
      · rw [List.getElem?_set_ne (by omega)]
    rw [e]
    exact h.less (fun p hp => hp) hD
  · have hi := (List.getElem?_eq_some_iff.1 hD).1
    refine h.put hx hi ?_
    unfold putC
    split
    · intro p hp
      rcases List.mem_cons.1 hp with rfl | hp
      · exact .inl rfl
      · exact .inr ⟨del_ne hp, List.dropLast_subset _ (List.mem_filter.1 hp).1⟩
    · intro p hp
      rcases List.mem_cons.1 hp with rfl | hp
      · exact .inl rfl
      · exact .inr ⟨del_ne hp, (List.mem_filter.1 hp).1⟩
/-- right behind an insertion it is found -/
theorem ins_found (s : CS) (x : Opr) (h : fitC s x = true) : isC (insC s x.k x.d) x.k = true := by
  unfold fitC staleE at h
  unfold insC
  split
  · rename_i hs
    rw [if_pos hs] at h
    exact absurd h (by decide)
  · unfold putC isC lookK
    split <;> simp
theorem got_mem {s : CS} {k : K3} (h : isC s k = true) : (k, gotC s k) ∈ s.L := by
  unfold isC at h
  obtain ⟨d, hd⟩ := Option.isSome_iff_exists.1 h
  unfold gotC
  rw [hd]
  exact lookK_mem hd
end
set_option maxRecDepth 100000 in
set_option maxHeartbeats 16000000 in
theorem same_c (x y : Opr) (w : World) : Calls Try.prog 21 #[.agg #[.int .u8 x.kind, .int .i64 x.k.a, .int .i64 x.k.b, .int .i64 x.k.c, .int .u32 x.al, .int .i64 x.sq], .agg #[.int .u8 y.kind, .int .i64 y.k.a, .int .i64 y.k.b, .int .i64 y.k.c, .int .u32 y.al, .int .i64 y.sq]] w fun e w' => e = .returned (.bool (sameK x.k y.k)) ∧ Below w.heap.size w w' := by
  have HB : Hid (Below w.heap.size w ((w.alloc (.cells #[.int .u8 x.kind, .int .i64 x.k.a, .int .i64 x.k.b, .int .i64 x.k.c, .int .u32 x.al, .int .i64 x.sq] 35)).alloc (.cells #[.int .u8 y.kind, .int .i64 y.k.a, .int .i64 y.k.b, .int .i64 y.k.c, .int .u32 y.al, .int .i64 y.sq] 35))) := Lib.hid (((Below.refl _ _).alloc (Nat.le_refl _) _).alloc (by simp) _)
  have HN : Hid (Blk ((w.alloc (.cells #[.int .u8 x.kind, .int .i64 x.k.a, .int .i64 x.k.b, .int .i64 x.k.c, .int .u32 x.al, .int .i64 x.sq] 35)).alloc (.cells #[.int .u8 y.kind, .int .i64 y.k.a, .int .i64 y.k.b, .int .i64 y.k.c, .int .u32 y.al, .int .i64 y.sq] 35)) w.heap.size 35 #[.int .u8 x.kind, .int .i64 x.k.a, .int .i64 x.k.b, .int .i64 x.k.c, .int .u32 x.al, .int .i64 x.sq]) := Lib.hid ((Blk.here rfl).alloc _)
  have HV : Hid (Blk ((w.alloc (.cells #[.int .u8 x.kind, .int .i64 x.k.a, .int .i64 x.k.b, .int .i64 x.k.c, .int .u32 x.al, .int .i64 x.sq] 35)).alloc (.cells #[.int .u8 y.kind, .int .i64 y.k.a, .int .i64 y.k.b, .int .i64 y.k.c, .int .u32 y.al, .int .i64 y.sq] 35)) (w.heap.size + 1) 35 #[.int .u8 y.kind, .int .i64 y.k.a, .int .i64 y.k.b, .int .i64 y.k.c, .int .u32 y.al, .int .i64 y.sq]) := Lib.hid (Blk.here (by simp))
  go_enter Try.func21, Try.ntmps21
  go_upto_region 1 with fail
  generalize (w.alloc (.cells #[.int .u8 x.kind, .int .i64 x.k.a, .int .i64 x.k.b, .int .i64 x.k.c, .int .u32 x.al, .int .i64 x.sq] 35)).alloc (.cells #[.int .u8 y.kind, .int .i64 y.k.a, .int .i64 y.k.b, .int .i64 y.k.c, .int .u32 y.al, .int .i64 y.sq] 35) = W at *
  generalize w.heap.size + 1 = gy at *
  generalize hgx : w.heap.size = gx at *
  obtain ⟨k0, k1, k2, k3, k4, k5⟩ := HN.out.cells6
  obtain ⟨r0, r1, r2, r3, r4, r5⟩ := HV.out.cells6
  obtain ⟨xk, ⟨xa, xb, xc⟩, xl, xs⟩ := x
  obtain ⟨yk, ⟨ya, yb, yc⟩, yl, ys⟩ := y
  simp only at k1 k2 k3 r1 r2 r3 ⊢
  by_cases ha : xa = ya
  · subst ha
    by_cases hb : xb = yb
    · subst hb
      by_cases hc : xc = yc
      · subst hc
        go_wp2_with fail
        go_ret
        exact ⟨by simp, by first | exact HB.out | (rw [hgx]; exact HB.out)⟩
      · go_wp2_with fail
        go_ret
        exact ⟨by simp [sameK, hc], by first | exact HB.out | (rw [hgx]; exact HB.out)⟩
    · go_wp2_with fail
      go_ret
      exact ⟨by simp [sameK, hb], by first | exact HB.out | (rw [hgx]; exact HB.out)⟩
  · go_wp2_with fail
    go_ret
    exact ⟨by simp [sameK, ha], by first | exact HB.out | (rw [hgx]; exact HB.out)⟩
section
variable {w w' : World} {F : Nat → Prop} {c : Nat} {s : CS}
set_option maxRecDepth 100000 in
set_option maxHeartbeats 8000000 in
theorem ccopy_e (h : CF w F c s) (hl : s.L.length ≤ 100000) : Calls Try.prog 16 #[.pointer (some ⟨c, 0, none⟩)] w fun e w' => ∃ c', e = .returned (.pointer (some ⟨c', 0, none⟩)) ∧ c' = w.heap.size ∧ CF w' (fun k => w.heap.size ≤ k ∧ k < w'.heap.size) c' s ∧ Below w.heap.size w w' := by
  have HM := Lib.hid (made_c h)
  obtain ⟨o, r, m, S, h1, h2, h3, h4, h5, h6⟩ := h
  have HC := Lib.hid h1
  have HO := Lib.hid h2
  have HS := Lib.hid h3
  have HSL : Hid (S.length ≤ 100000) := Lib.hid (by rw [← h3, List.length_map] at hl; exact hl)
  obtain ⟨c0, c1, c2, c3, c4, c5, c6, c7⟩ := h1.cells8
  clear h1 h2 h3 h4 h5 h6 hl
  go_enter Try.func16, Try.ntmps16
  go_upto_region 5 with (go_at_call 34; refine HM.out.mono ?_; rintro e w1 ⟨rfl, rfl⟩)
  clear c0 c1 c2 c3 c4 c5 c6 c7
  have HB1 : Hid (Below w1.heap.size w1 (w1.alloc (.cells #[.pointer (some ⟨w1.heap.size, 0, none⟩), .int .i64 s.size, .int .i64 s.seq, .pointer (some ⟨o, 0, none⟩), .int .i64 s.hits, .int .i64 s.misses, .int .i64 s.evicted, .int .i64 s.resets] 59))) := Lib.hid ((Below.refl _ _).alloc (Nat.le_refl _) _)
  have HD1 : Hid (Blk (w1.alloc (.cells #[.pointer (some ⟨w1.heap.size, 0, none⟩), .int .i64 s.size, .int .i64 s.seq, .pointer (some ⟨o, 0, none⟩), .int .i64 s.hits, .int .i64 s.misses, .int .i64 s.evicted, .int .i64 s.resets] 59)) w1.heap.size 59 #[.pointer (some ⟨w1.heap.size, 0, none⟩), .int .i64 s.size, .int .i64 s.seq, .pointer (some ⟨o, 0, none⟩), .int .i64 s.hits, .int .i64 s.misses, .int .i64 s.evicted, .int .i64 s.resets]) := Lib.hid (Blk.new _ _ _)
  generalize w1.alloc (.cells #[.pointer (some ⟨w1.heap.size, 0, none⟩), .int .i64 s.size, .int .i64 s.seq, .pointer (some ⟨o, 0, none⟩), .int .i64 s.hits, .int .i64 s.misses, .int .i64 s.evicted, .int .i64 s.resets] 59) = W at *
  have HC1 := Lib.hid (HC.out.keep HB1.out)
  have HCP := Lib.hid (copy_c (HO.out.keep HB1.out) HSL.out)
  have hdl : w1.heap.size < W.heap.size := HD1.out.lt
  generalize hgd : w1.heap.size = gd at *
  obtain ⟨c0, c1, c2, c3, c4, c5, c6, c7⟩ := HC1.out.cells8
  go_upto_region 6 with (first | (go_at_call 35; refine HCP.out.mono ?_; rintro e w2 ⟨o2, r2, m2, T, rfl, ho2, ht2, hl2, hb2⟩; have HO2 := Lib.hid ho2; have HT2 := Lib.hid ht2; have HL2 := Lib.hid hl2; have HB2 := Lib.hid hb2; have HD2 := Lib.hid (HD1.out.keep hb2); clear ho2 ht2 hl2 hb2; have d3 := HD2.out.cell 3; have f3 := HD2.out.frozen 3; simp only [List.getElem?_toArray, List.getElem?_cons_succ, List.getElem?_cons_zero] at d3) | fail)
  clear d3 f3 c0 c1 c2 c3 c4 c5 c6 c7
  have HD3 : Hid (Blk (w2.setCell ⟨gd, 3, none⟩ (.pointer (some ⟨o2, 0, none⟩))) gd 59 #[.pointer (some ⟨gd, 0, none⟩), .int .i64 s.size, .int .i64 s.seq, .pointer (some ⟨o2, 0, none⟩), .int .i64 s.hits, .int .i64 s.misses, .int .i64 s.evicted, .int .i64 s.resets]) := Lib.hid (by simpa using HD2.out.set 3 (.pointer (some ⟨o2, 0, none⟩)))
  have hA3 : Apart (fun k => k = gd) w2 (w2.setCell ⟨gd, 3, none⟩ (.pointer (some ⟨o2, 0, none⟩))) := Apart.setCell (F := fun k => k = gd) (p := ⟨gd, 3, none⟩) Apart.refl (.inl rfl) _
  have HO3 := Lib.hid (HO2.out.apart hA3 (fun j hj e => by have := HL2.out j hj; omega))
  have HB3 : Hid (Below gd w1 (w2.setCell ⟨gd, 3, none⟩ (.pointer (some ⟨o2, 0, none⟩)))) := Lib.hid ((HB1.out.trans (HB2.out.mono (Nat.le_of_lt hdl))).setCell (p := ⟨gd, 3, none⟩) (Nat.le_refl _) _)
  clear hA3
  generalize w2.setCell ⟨gd, 3, none⟩ (.pointer (some ⟨o2, 0, none⟩)) = W3 at *
  go_wp2_with fail
  go_ret
  refine ⟨gd, rfl, hgd.symm, ⟨o2, r2, m2, T, HD3.out, HO3.out, HT2.out.trans HS.out, ⟨by rw [hgd]; exact Nat.le_refl _, HD3.out.lt⟩, fun j hj => ⟨?_, HO3.out.lt j hj⟩, fun _ hk => hk.2⟩, by rw [hgd]; exact HB3.out⟩
  have := HL2.out j hj
  omega

theorem copy_k {w0 w : World} {G : Nat → Prop} {c n : Nat} {s : CS} (h : At w0 w G c n s) : Calls Try.prog 16 #[.pointer (some ⟨c, 0, none⟩)] w fun e w' => e = .returned (.pointer (some ⟨w.heap.size, 0, none⟩)) ∧ At w w' (fun _ => False) w.heap.size n s := by
  obtain ⟨F, h1, _⟩ := h.cf
  refine (ccopy_e h1 (by have := h.len; omega)).mono ?_
  rintro e w' ⟨c', rfl, rfl, hc, hb⟩
  exact ⟨rfl, ⟨⟨_, hc, fun k hk => hk.1, fun _ h => h.elim⟩, fun _ h => h.elim, hb, h.ok, h.sm, h.sz⟩⟩
end
end Go.Proofs.Ytbhoofihnmmmfaa
