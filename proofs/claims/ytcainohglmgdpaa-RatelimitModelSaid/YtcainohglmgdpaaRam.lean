/- New. -/
import Derived.Test.YtcainohglmgdpaaRal
namespace Go.Proofs.Ytcainohglmgdpaa
open Go.RowKit Go.Maps Go.WideElems Go.WideMaps Go.WideShapes Go.Sort Go.Shelf
section
variable {w w' : World} {g m r cnt : Nat} {S : RS} {L : List Bk} {left : Lit → Bool} {F : Nat → Prop} {e : Int}
set_option maxRecDepth 100000 in
set_option maxHeartbeats 4000000 in
theorem new_out (b i n : Int) (w : World) (h : okR b i n = false) : Calls Try.prog 8 #[.int .i64 b, .int .i64 i, .int .i64 n] w fun r w' => r = .returned (.pointer none) ∧ w' = w := by
  unfold okR at h
  have H1 := Lib.hid (within_c b 1000000 w)
  have H2 := Lib.hid (within_c i 1000000 w)
  have H3 := Lib.hid (within_c n 1024 w)
  generalize (decide (1 ≤ b) && decide (b ≤ 1000000)) = x at *
  generalize (decide (1 ≤ i) && decide (i ≤ 1000000)) = y at *
  generalize (decide (1 ≤ n) && decide (n ≤ 1024)) = z at *
  cases x
  · go_enter Try.func8, Try.ntmps8
    go_wp2_with (first
      | (go_at_call 20; with_reducible refine H1.out.mono ?_; rintro e w1 ⟨rfl, rfl⟩)
      | (go_at_call 20; with_reducible refine H2.out.mono ?_; rintro e w1 ⟨rfl, rfl⟩)
      | (go_at_call 20; with_reducible refine H3.out.mono ?_; rintro e w1 ⟨rfl, rfl⟩))
    go_ret
    exact ⟨rfl, rfl⟩
  · cases y
    · go_enter Try.func8, Try.ntmps8
      go_wp2_with (first
        | (go_at_call 20; with_reducible refine H1.out.mono ?_; rintro e w1 ⟨rfl, rfl⟩)
        | (go_at_call 20; with_reducible refine H2.out.mono ?_; rintro e w1 ⟨rfl, rfl⟩)
        | (go_at_call 20; with_reducible refine H3.out.mono ?_; rintro e w1 ⟨rfl, rfl⟩))
      go_ret
      exact ⟨rfl, rfl⟩
    · obtain rfl : z = false := by simpa using h
      go_enter Try.func8, Try.ntmps8
      go_wp2_with (first
        | (go_at_call 20; with_reducible refine H1.out.mono ?_; rintro e w1 ⟨rfl, rfl⟩)
        | (go_at_call 20; with_reducible refine H2.out.mono ?_; rintro e w1 ⟨rfl, rfl⟩)
        | (go_at_call 20; with_reducible refine H3.out.mono ?_; rintro e w1 ⟨rfl, rfl⟩))
      go_ret
      exact ⟨rfl, rfl⟩
set_option maxRecDepth 100000 in
set_option maxHeartbeats 4000000 in
theorem new_c (b i n : Int) (w : World) (h : okR b i n = true) : Calls Try.prog 8 #[.int .i64 b, .int .i64 i, .int .i64 n] w fun r w' => ∃ g m, r = .returned (.pointer (some ⟨g, 0, none⟩)) ∧ Lim w' g m (firstR b i n) ∧ Below w.heap.size w w' ∧ w.heap.size ≤ g ∧ w.heap.size ≤ m := by
  unfold okR at h
  have H1 := Lib.hid (within_c b 1000000 w)
  have H2 := Lib.hid (within_c i 1000000 w)
  have H3 := Lib.hid (within_c n 1024 w)
  generalize (decide (1 ≤ b) && decide (b ≤ 1000000)) = x at *
  generalize (decide (1 ≤ i) && decide (i ≤ 1000000)) = y at *
  generalize (decide (1 ≤ n) && decide (n ≤ 1024)) = z at *
  obtain ⟨⟨rfl, rfl⟩, rfl⟩ : (x = true ∧ y = true) ∧ z = true := by simpa using h
  have hmm := @run_makeMap Try.prog
  go_enter Try.func8, Try.ntmps8
  have HB : Hid (Below w.heap.size w ((w.alloc (.map #[] 0)).alloc (.cells #[.pointer none, .int .i64 b, .int .i64 i, .int .i64 n, .int .i64 0, .map (some w.heap.size), .int .i64 0, .int .i64 0] 47))) := Lib.hid (((Below.refl _ w).alloc (Nat.le_refl _) _).alloc (by simp) _)
  have HX : Hid (Blk ((w.alloc (.map #[] 0)).alloc (.cells #[.pointer none, .int .i64 b, .int .i64 i, .int .i64 n, .int .i64 0, .map (some w.heap.size), .int .i64 0, .int .i64 0] 47)) (w.heap.size + 1) 47 #[.pointer none, .int .i64 b, .int .i64 i, .int .i64 n, .int .i64 0, .map (some w.heap.size), .int .i64 0, .int .i64 0]) := Lib.hid (by
    have := Blk.new (w.alloc (.map #[] 0)) 47 #[.pointer none, .int .i64 b, .int .i64 i, .int .i64 n, .int .i64 0, .map (some w.heap.size), .int .i64 0, .int .i64 0]
    simpa using this)
  have HM : Hid (Mp ((w.alloc (.map #[] 0)).alloc (.cells #[.pointer none, .int .i64 b, .int .i64 i, .int .i64 n, .int .i64 0, .map (some w.heap.size), .int .i64 0, .int .i64 0] 47)) w.heap.size []) := Lib.hid ⟨_, (World.ownsMap_made w _ _ _).alloc _, MB.nil⟩
  go_upto_region 4 with (first
    | (go_at_call 20; with_reducible refine H1.out.mono ?_; rintro e w1 ⟨rfl, rfl⟩)
    | (go_at_call 20; with_reducible refine H2.out.mono ?_; rintro e w1 ⟨rfl, rfl⟩)
    | (go_at_call 20; with_reducible refine H3.out.mono ?_; rintro e w1 ⟨rfl, rfl⟩))
  have HY : Hid (Blk (((w1.alloc (.map #[] 0)).alloc (.cells #[.pointer none, .int .i64 b, .int .i64 i, .int .i64 n, .int .i64 0, .map (some w1.heap.size), .int .i64 0, .int .i64 0] 47)).setCell ⟨w1.heap.size + 1, 0, none⟩ (.pointer (some ⟨w1.heap.size + 1, 0, none⟩))) (w1.heap.size + 1) 47 (limC (w1.heap.size + 1) w1.heap.size (firstR b i n))) := Lib.hid (by simpa [limC, firstR] using HX.out.set 0 (.pointer (some ⟨w1.heap.size + 1, 0, none⟩)))
  generalize (w1.alloc (.map #[] 0)).alloc (.cells #[.pointer none, .int .i64 b, .int .i64 i, .int .i64 n, .int .i64 0, .map (some w1.heap.size), .int .i64 0, .int .i64 0] 47) = W at *
  have c0 := HX.out.cell 0
  have f0 := HX.out.frozen 0
  go_wp2_with fail
  go_ret
  exact ⟨_, w1.heap.size, rfl, ⟨HY.out, HM.out.apart (F := fun k => k = w1.heap.size + 1) (Apart.setCell (F := fun k => k = w1.heap.size + 1) (p := ⟨w1.heap.size + 1, 0, none⟩) Apart.refl (.inl rfl) _) (by omega)⟩, HB.out.setCell (p := ⟨w1.heap.size + 1, 0, none⟩) (Nat.le_succ _) _, Nat.le_succ _, Nat.le_refl _⟩
set_option maxRecDepth 100000 in
set_option maxHeartbeats 4000000 in
theorem allow_c {s : ByteArray} (now : Int) (h : Lim w g m S) (hS : S.Ok e) (he : e ≤ 1000000) (hs : s.size ≤ maxLen) :
    Calls Try.prog 15 #[.pointer (some ⟨g, 0, none⟩), .string s, .int .i64 now] w fun r w' => r = .returned (.bool (allowR S s now).2) ∧ Lim w' g m (allowR S s now).1 ∧ Apart (Fl g m) w w' := by
  have HM := Lib.hid (made_c h)
  have HT := Lib.hid (timeOf_c h now)
  have ht := timeR_ok hS now
  have hA := atR_ok hS ht.1 ht.2
  have HL := Lib.hid fun w1 (h1 : Lim w1 g m (atR S (timeR S now))) => left_c h1 hA (show (atR S (timeR S now)).t ≤ timeR S now from Int.le_refl _) ht.2 hs
  have HD := Lib.hid fun w1 (h1 : Lim w1 g m (atR S (timeR S now))) => drop_c h1 hA he hs
  have HP := Lib.hid fun w1 (h1 : Lim w1 g m (atR S (timeR S now))) => permit_c h1 hA he hs
  have HC := Lib.hid h
  have HS2 := Lib.hid (lim_t h.blk (timeR S now))
  have HA2 : Hid (Apart (fun k => k = g) w (w.setCell ⟨g, 4, none⟩ (.int .i64 (timeR S now)))) := Lib.hid (Apart.setCell (F := fun k => k = g) (p := ⟨g, 4, none⟩) Apart.refl (.inl rfl) _)
  have HL2 : Hid (Lim (w.setCell ⟨g, 4, none⟩ (.int .i64 (timeR S now))) g m (atR S (timeR S now))) := Lib.hid ⟨HS2.out, h.mp.apart HA2.out (fun e => h.ne e.symm)⟩
  clear h ht hA hS he hs HS2
  obtain ⟨c0, c1, c2, c3, c4, c5, c6, c7⟩ := HC.out.cells
  have f4 := HC.out.blk.frozen 4
  cases hr : allowR S s now with
  | mk S' ok =>
  have HR := Lib.hid hr
  clear hr
  generalize hT : timeR S now = t at *
  go_enter Try.func15, Try.ntmps15
  go_upto_region 4 with (first
    | (go_at_call 27; with_reducible refine HM.out.mono ?_; rintro e w1 ⟨rfl, rfl⟩)
    | (go_at_call 29; with_reducible refine HT.out.mono ?_; rintro e w1 ⟨rfl, rfl⟩))
  clear c0 c1 c2 c3 c4 c5 c6 c7 f4 HM HT
  generalize World.setCell _ ⟨g, 4, none⟩ (.int .i64 t) = W at *
  have HL3 := Lib.hid (HL.out W HL2.out)
  obtain ⟨c0, c1, c2, c3, c4, c5, c6, c7⟩ := HL2.out.cells
  replace c4 : W.cell? ⟨g, 4, none⟩ = some (.int .i64 t) := c4
  clear HL
  by_cases hl : leftR (atR S t) s t = 0
  · rw [hl] at HL3
    have HRR : Hid (S' = dropR (atR S t) s ∧ ok = false) := Lib.hid (by
      have := HR.out
      unfold allowR at this
      rw [hT, if_pos hl] at this
      simp only [Prod.mk.injEq] at this
      exact ⟨this.1.symm, this.2.symm⟩)
    go_upto_region 5 with (go_at_call 30; with_reducible refine HL3.out.mono ?_; rintro e w5 ⟨rfl, hb5⟩; have HB5 := Lib.hid hb5; have HL5 := Lib.hid (HL2.out.keep hb5); clear hb5)
    have HD5 := Lib.hid (HD.out w5 HL5.out)
    obtain ⟨rfl, rfl⟩ := HRR.out
    go_wp2_with (go_at_call 31; with_reducible refine HD5.out.mono ?_; rintro e w6 ⟨rfl, hl6, ha6⟩; have HL6 := Lib.hid hl6; have HA6 := Lib.hid ha6; clear hl6 ha6)
    go_ret
    exact ⟨rfl, HL6.out, ((HA2.out.then HB5.out).more (fun k hk => Or.inl hk)).trans HA6.out (fun k hk => .inl hk)⟩
  · have HRR : Hid (S' = permitR (atR S t) s ∧ ok = true) := Lib.hid (by
      have := HR.out
      unfold allowR at this
      rw [hT, if_neg hl] at this
      simp only [Prod.mk.injEq] at this
      exact ⟨this.1.symm, this.2.symm⟩)
    go_upto_region 7 with (go_at_call 30; with_reducible refine HL3.out.mono ?_; rintro e w5 ⟨rfl, hb5⟩; have HB5 := Lib.hid hb5; have HL5 := Lib.hid (HL2.out.keep hb5); clear hb5)
    have HD5 := Lib.hid (HP.out w5 HL5.out)
    obtain ⟨rfl, rfl⟩ := HRR.out
    go_wp2_with (go_at_call 32; with_reducible refine HD5.out.mono ?_; rintro e w6 ⟨rfl, hl6, ha6⟩; have HL6 := Lib.hid hl6; have HA6 := Lib.hid ha6; clear hl6 ha6)
    go_ret
    exact ⟨rfl, HL6.out, ((HA2.out.then HB5.out).more (fun k hk => Or.inl hk)).trans HA6.out (fun k hk => .inl hk)⟩
end
end Go.Proofs.Ytcainohglmgdpaa
