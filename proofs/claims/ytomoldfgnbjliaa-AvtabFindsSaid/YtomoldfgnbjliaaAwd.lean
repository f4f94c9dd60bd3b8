/- The reference's First, Activate, Len. -/
import Derived.Test.YtomoldfgnbjliaaAwc
import Derived.Laws.AppendOwnNone
namespace Go.Proofs.Ytomoldfgnbjliaa
open Go.RowKit Go.Sort Go.Shelf
theorem grown_set (w : World) (g i : Nat) (v : Value) : w.grownBy (w.setCell ⟨g, i, none⟩ v) (some g) := ⟨rfl, rfl, rfl, by simp [World.setCell], fun q hq hne => Below.heap_setCell _ _ _ q (by rintro rfl; exact hne rfl)⟩
theorem rlen_c {w : World} {ve vv : Value} {L : List E} (hE : Ents w ve L) :
    Calls Try.prog 32 #[.agg #[ve, vv]] w fun e w' => e = .returned (.int .i64 L.length) ∧ Below w.heap.size w w' := by
  obtain ⟨ao, cap, rfl⟩ := hE.form
  clear hE
  go_enter Try.func32, Try.ntmps32
  go_wp2_with fail
  go_ret
  exact ⟨rfl, (Below.refl _ _).alloc (Nat.le_refl _) _⟩
set_option maxRecDepth 100000 in
set_option maxHeartbeats 2000000 in
theorem first_c (v : Value) (L : List E) (hl : L.length ≤ 10000) (w : World) (hE : Ents w v L) :
    Calls Try.prog 11 #[v] w fun e w' => ∃ ve, e = .returned (.agg #[ve, .slice none 0 0]) ∧ Ents w' ve (M L) ∧ Below w.heap.size w w' := by
  have HM := Lib.hid (rmerge_c v L hl (w.alloc (.cells #[.slice none 0 0, .slice none 0 0] 30)) (hE.keep ((Below.refl _ w).alloc (Nat.le_refl _) _)))
  have HB0 := Lib.hid (Blk.new w 30 #[.slice none 0 0, .slice none 0 0])
  have HW0 : Hid (Below w.heap.size w (w.alloc (.cells #[.slice none 0 0, .slice none 0 0] 30))) := Lib.hid ((Below.refl _ w).alloc (Nat.le_refl _) _)
  clear hE
  go_enter Try.func11, Try.ntmps11
  go_wp2_with (go_at_call 31; refine HM.out.mono ?_; rintro e w2 ⟨v2, rfl, k1, k2⟩; have HK1 := Lib.hid k1; have HK2 := Lib.hid k2; have HB2 : Hid (Blk w2 w.heap.size _ _) := Lib.hid (Blk.keep HB0.out k2); obtain ⟨a2, c2, rfl⟩ := k1.ents.form; have f0 := HB2.out.frozen 0; have f1 := HB2.out.frozen 1; obtain ⟨b0, b1⟩ : w2.cell? ⟨w.heap.size, 0, none⟩ = some (.slice none 0 0) ∧ w2.cell? ⟨w.heap.size, 1, none⟩ = some (.slice none 0 0) := ⟨HB2.out.cell 0, HB2.out.cell 1⟩; clear k1 k2)
  have hB3 := (HB2.out.set 0 (.slice a2 (M L).length c2)).set 1 (.slice none 0 0)
  have hw3 : Below w.heap.size w ((w2.setCell ⟨w.heap.size, 0, none⟩ (.slice a2 (M L).length c2)).setCell ⟨w.heap.size, 1, none⟩ (.slice none 0 0)) := ((HW0.out.trans (HK2.out.mono HW0.out.size)).setCell (Nat.le_refl _) _).setCell (Nat.le_refl _) _
  have hE3 : Ents ((w2.setCell ⟨w.heap.size, 0, none⟩ (.slice a2 (M L).length c2)).setCell ⟨w.heap.size, 1, none⟩ (.slice none 0 0)) (.slice a2 (M L).length c2) (M L) := by
    have hne : (Value.slice a2 (M L).length c2).ownBlock ≠ some w.heap.size := fun e => by
      have := (World.ownsRow.lt HK1.out _ e).1
      simp at this
      omega
    have h1 : OwnE (w2.setCell ⟨w.heap.size, 0, none⟩ (.slice a2 (M L).length c2)) (w.alloc (.cells #[.slice none 0 0, .slice none 0 0] 30)).heap.size (.slice a2 (M L).length c2) (M L) := World.ownsRow.kept HK1.out (grown_set _ _ _ _) (.inr hne)
    have h2 : OwnE ((w2.setCell ⟨w.heap.size, 0, none⟩ (.slice a2 (M L).length c2)).setCell ⟨w.heap.size, 1, none⟩ (.slice none 0 0)) (w.alloc (.cells #[.slice none 0 0, .slice none 0 0] 30)).heap.size (.slice a2 (M L).length c2) (M L) := World.ownsRow.kept h1 (grown_set _ _ _ _) (.inr hne)
    exact h2.ents
  obtain ⟨q0, q1⟩ : (_ : World).cell? ⟨w.heap.size, 0, none⟩ = some (.slice a2 (M L).length c2) ∧ (_ : World).cell? ⟨w.heap.size, 1, none⟩ = some (.slice none 0 0) := ⟨hB3.cell 0, hB3.cell 1⟩
  exact bodyPost_ret (v := .agg #[.slice a2 (M L).length c2, .slice none 0 0]) (by simp [results, Try.results11, go_sem, q0, q1]) rfl ⟨_, rfl, hE3, hw3⟩
theorem ownB_kind {w : World} {B : Nat} {v : Value} {vs : List Bool} (h : OwnB w B v vs) : ∃ a n c, v = .slice a n c ∧ (v = .slice none 0 0 ∨ ∃ ad n c, v = .slice (some ad) n c) := by
  rcases h.2 with ⟨h1, _⟩ | ⟨g, cap, cur, h1, _⟩
  · exact ⟨_, _, _, h1, .inl h1⟩
  · exact ⟨_, _, _, h1, .inr ⟨_, _, _, h1⟩⟩
set_option maxRecDepth 100000 in
set_option maxHeartbeats 2000000 in
theorem ract_c (ve vv v : Value) (ws : List Bool) (hn : ws.length ≤ 1000) (w : World) (hV : Bools w v ws) (hE : ∃ ae ne ce, ve = .slice ae ne ce) (hO : ∃ ae ne ce, vv = .slice ae ne ce) (hz : v = .slice none 0 0 ∨ ∃ ad n c, v = .slice (some ad) n c) :
    Calls Try.prog 14 #[.agg #[ve, vv], v] w fun e w' => ∃ va, e = .returned (.agg #[ve, va]) ∧ Bools w' va ws ∧ (va = .slice none 0 0 ∨ ∃ ad n c, va = .slice (some ad) n c) ∧ Below w.heap.size w w' := by
  obtain ⟨ae, ne, ce, rfl⟩ := hE
  obtain ⟨ao, no, co, rfl⟩ := hO
  obtain ⟨i0, hinf, hz0, hz1, hz2⟩ := info_parts infoB
  obtain ⟨W, hW⟩ : ∃ W, W = (w.alloc (.cells #[.slice ae ne ce, .slice ao no co] 30)).alloc (.cells #[.slice none 0 0, .slice none 0 0] 30) := ⟨_, rfl⟩
  have hBW : Below w.heap.size w W := hW ▸ ((Below.refl _ w).alloc (Nat.le_refl _) _).alloc (by simp) _
  have hS0 : Blk W w.heap.size 30 #[.slice ae ne ce, .slice ao no co] := hW ▸ (Blk.new w _ _).alloc _
  have hS1 : Blk W (w.heap.size + 1) 30 #[.slice none 0 0, .slice none 0 0] := hW ▸ Blk.here (by simp)
  have hsz : W.heap.size = w.heap.size + 1 + 1 := by rw [hW]; simp
  have HM : Hid ((W.alloc (.cells #[] 4)).ownsRow W.heap.size 4 1 (.slice (some ⟨W.heap.size, 0, none⟩) 0 0) 0 []) := Lib.hid (World.ownsRow_made W #[] 0 (Nat.le_refl _) (by unfold maxLen; decide) rfl)
  have fin : ∀ (w2 : World) (va : Value), Below W.heap.size W w2 → (∃ o n c, va = .slice o n c) → OwnB w2 W.heap.size va ws → (va = .slice none 0 0 ∨ ∃ ad n c, va = .slice (some ad) n c) →
      ∃ w3 : World, Blk w3 w.heap.size 30 #[.slice ae ne ce, va] ∧ Blk w3 (w.heap.size + 1) 30 #[.slice none 0 0, .slice none 0 0] ∧ w3 = w2.setCell ⟨w.heap.size, 1, none⟩ va := fun w2 va hb _ _ _ => by
    refine ⟨_, ?_, ?_, rfl⟩
    · exact (hS0.keep hb).set 1 va
    · exact (hS1.keep hb).far (by simp) _
  have HF := Lib.hid fin
  have HS0 := Lib.hid hS0
  have HS1 := Lib.hid hS1
  have HBW := Lib.hid hBW
  have HSZ := Lib.hid hsz
  have last : ∀ (w2 : World) (va : Value), Below W.heap.size W w2 → OwnB w2 W.heap.size va ws → Bools (((w2.setCell ⟨w.heap.size, 1, none⟩ va).setCell ⟨w.heap.size + 1, 0, none⟩ (.slice ae ne ce)).setCell ⟨w.heap.size + 1, 1, none⟩ va) va ws ∧
      Below w.heap.size w (((w2.setCell ⟨w.heap.size, 1, none⟩ va).setCell ⟨w.heap.size + 1, 0, none⟩ (.slice ae ne ce)).setCell ⟨w.heap.size + 1, 1, none⟩ va) ∧
      Blk (((w2.setCell ⟨w.heap.size, 1, none⟩ va).setCell ⟨w.heap.size + 1, 0, none⟩ (.slice ae ne ce)).setCell ⟨w.heap.size + 1, 1, none⟩ va) (w.heap.size + 1) 30 #[.slice ae ne ce, va] := fun w2 va hb ho => by
    have n0 : va.ownBlock ≠ some w.heap.size := fun e => by have := (World.ownsRow.lt ho _ e).1; omega
    have n1 : va.ownBlock ≠ some (w.heap.size + 1) := fun e => by have := (World.ownsRow.lt ho _ e).1; omega
    have k1 : OwnB (w2.setCell ⟨w.heap.size, 1, none⟩ va) W.heap.size va ws := World.ownsRow.kept ho (grown_set _ _ _ _) (.inr n0)
    have k2 : OwnB ((w2.setCell ⟨w.heap.size, 1, none⟩ va).setCell ⟨w.heap.size + 1, 0, none⟩ (.slice ae ne ce)) W.heap.size va ws := World.ownsRow.kept k1 (grown_set _ _ _ _) (.inr n1)
    have k3 : OwnB (((w2.setCell ⟨w.heap.size, 1, none⟩ va).setCell ⟨w.heap.size + 1, 0, none⟩ (.slice ae ne ce)).setCell ⟨w.heap.size + 1, 1, none⟩ va) W.heap.size va ws := World.ownsRow.kept k2 (grown_set _ _ _ _) (.inr n1)
    refine ⟨k3.bools, (((hBW.trans (hb.mono hBW.size)).setCell (Nat.le_refl _) _).setCell (Nat.le_succ _) _).setCell (Nat.le_succ _) _, ?_⟩
    exact ((((hS1.keep hb).far (by simp) _).set 0 _).set 1 _)
  have HLAST := Lib.hid last
  have hAl : Below W.heap.size W (W.alloc (.cells #[] 4)) := (Below.refl _ W).alloc (Nat.le_refl _) _
  have HAL := Lib.hid hAl
  clear fin last hS0 hS1 hBW hsz hAl
  go_enter Try.func14, Try.ntmps14
  go_upto_region 1 with (fail)
  rw [← hW]
  have HW := Lib.hid hW
  clear hW
  rcases hz with rfl | ⟨ad, n, c, rfl⟩
  · obtain rfl : ws = [] := by
      obtain ⟨_, _, e, _⟩ := hV
      simp only [Value.slice.injEq] at e
      exact List.eq_nil_of_length_eq_zero e.2.1.symm
    clear hV
    have f0 := (HS0.out.alloc (.cells #[] 4)).frozen 1
    obtain ⟨b0, b1⟩ : (W.alloc (.cells #[] 4)).cell? ⟨w.heap.size, 0, none⟩ = some (.slice ae ne ce) ∧ (W.alloc (.cells #[] 4)).cell? ⟨w.heap.size, 1, none⟩ = some (.slice ao no co) := ⟨(HS0.out.alloc _).cell 0, (HS0.out.alloc _).cell 1⟩
    go_upto_region 2 with (at_builtin; refine wpList_append_own_none (by rfl) _ _ 23 (by rfl) W.heap.size 4 i0 1 Try.underlying23 hinf _ 0 [] (by rfl) HM.out (by rfl) ?_)
    clear f0 b0 b1
    obtain ⟨w3, hb0, hb1, he⟩ := HF.out (W.alloc (.cells #[] 4)) (.slice (some ⟨W.heap.size, 0, none⟩) 0 0) HAL.out ⟨_, _, _, rfl⟩ HM.out (.inr ⟨_, _, _, rfl⟩)
    have hl := HLAST.out (W.alloc (.cells #[] 4)) (.slice (some ⟨W.heap.size, 0, none⟩) 0 0) HAL.out HM.out
    rw [← he] at hl ⊢
    have HE := Lib.hid he
    clear he
    have g0 := hb1.frozen 0
    have g1 := hb1.frozen 1
    obtain ⟨c0, c1, d0, d1⟩ : w3.cell? ⟨w.heap.size, 0, none⟩ = some (.slice ae ne ce) ∧ w3.cell? ⟨w.heap.size, 1, none⟩ = some (.slice (some ⟨W.heap.size, 0, none⟩) 0 0) ∧ w3.cell? ⟨w.heap.size + 1, 0, none⟩ = some (.slice none 0 0) ∧ w3.cell? ⟨w.heap.size + 1, 1, none⟩ = some (.slice none 0 0) := ⟨hb0.cell 0, hb0.cell 1, hb1.cell 0, hb1.cell 1⟩
    have HLL := Lib.hid hl
    clear hl hb0 hb1 HF HLAST
    go_wp2_with fail
    have q0 := HLL.out.2.2.cell 0
    have q1 := HLL.out.2.2.cell 1
    exact bodyPost_ret (v := .agg #[.slice ae ne ce, .slice (some ⟨W.heap.size, 0, none⟩) 0 0]) (by simp [results, Try.results14, go_sem, q0, q1]) rfl ⟨_, rfl, HLL.out.1, (.inr ⟨_, _, _, rfl⟩), HLL.out.2.1⟩
  · have hln : n = ws.length := by
      obtain ⟨_, _, e, _⟩ := hV
      simp only [Value.slice.injEq] at e
      exact e.2.1
    subst hln
    have hcc : ws.length ≤ c := by
      obtain ⟨_, _, e, h, _⟩ := hV
      simp only [Value.slice.injEq] at e
      rw [e.2.2]; exact h
    have hnews : ∀ V, Below w.heap.size w V → ∀ j u, (ws.map Value.bool)[j]? = some u → V.cell? (ad.add j) = some u := fun V hVb j u hu => by
      obtain ⟨b, hb, rfl⟩ : ∃ b, ws[j]? = some b ∧ Value.bool b = u := by simpa using hu
      have hne : ws ≠ [] := by rintro rfl; simp at hb
      obtain ⟨ao', cap', ea, _, hr⟩ := hV
      obtain ⟨g, o, e, hR⟩ := hr hne
      subst e
      simp only [Value.slice.injEq, Option.some.injEq] at ea
      obtain ⟨rfl, -⟩ := ea
      have h1 := hR j b hb
      have h2 := hVb.cell (p := ⟨g, o + j, none⟩) (World.block_lt_of_cell? w ⟨g, o + j, none⟩ h1)
      rw [show (⟨g, o, none⟩ : Addr).add j = ⟨g, o + j, none⟩ by unfold Addr.add; split <;> simp_all]
      exact h2.trans h1
    have HN := Lib.hid (hnews (W.alloc (.cells #[] 4)) (HBW.out.trans (HAL.out.mono HBW.out.size)))
    clear hnews hV
    go_upto_region 2 with (at_builtin; refine wpList_append_own_at _ (by rfl) _ _ 23 (by rfl) W.heap.size 4 i0 (.bool false) 1 1 Try.underlying23 hinf hz0 hz1 hz2 rfl (by decide) _ 0 [] (by rfl) HM.out ad ws.length c (ws.map Value.bool) (by rfl) (by simp) HN.out (by intro u hu; obtain ⟨b, _, rfl⟩ := List.mem_map.1 hu; rfl) (by unfold maxLen; omega) (by omega) (by simp) ?_; intro v' w2 h1 h2 h3 h4; simp only [Nat.zero_add, List.nil_append] at h1; have H1 : Hid (OwnB w2 W.heap.size v' ws) := Lib.hid h1; have hb2 := HAL.out.grown h2 HAL.out.size (fun k e => by cases e; exact Nat.le_refl _); have HB2 := Lib.hid hb2; have f0 := (HS0.out.keep hb2).frozen 1; obtain ⟨b0, b1⟩ : w2.cell? ⟨w.heap.size, 0, none⟩ = some (.slice ae ne ce) ∧ w2.cell? ⟨w.heap.size, 1, none⟩ = some (.slice ao no co) := ⟨(HS0.out.keep hb2).cell 0, (HS0.out.keep hb2).cell 1⟩; have HK : Hid (∃ a n c, v' = .slice a n c ∧ (v' = .slice none 0 0 ∨ ∃ ad n c, v' = .slice (some ad) n c)) := Lib.hid (ownB_kind h1); obtain ⟨a5, n5, c5, rfl, hk5⟩ := id HK.out; have HK5 := Lib.hid hk5; clear h1 h2 h3 h4 hb2 hk5 HK)
    clear f0 b0 b1
    obtain ⟨w3, hb0, hb1, he⟩ := HF.out (w2) (.slice a5 n5 c5) HB2.out ⟨_, _, _, rfl⟩ H1.out HK5.out
    have hl := HLAST.out (w2) (.slice a5 n5 c5) HB2.out H1.out
    rw [← he] at hl ⊢
    have HE := Lib.hid he
    clear he
    have g0 := hb1.frozen 0
    have g1 := hb1.frozen 1
    obtain ⟨c0, c1, d0, d1⟩ : w3.cell? ⟨w.heap.size, 0, none⟩ = some (.slice ae ne ce) ∧ w3.cell? ⟨w.heap.size, 1, none⟩ = some (.slice a5 n5 c5) ∧ w3.cell? ⟨w.heap.size + 1, 0, none⟩ = some (.slice none 0 0) ∧ w3.cell? ⟨w.heap.size + 1, 1, none⟩ = some (.slice none 0 0) := ⟨hb0.cell 0, hb0.cell 1, hb1.cell 0, hb1.cell 1⟩
    have HLL := Lib.hid hl
    clear hl hb0 hb1 HF HLAST
    go_wp2_with fail
    have q0 := HLL.out.2.2.cell 0
    have q1 := HLL.out.2.2.cell 1
    exact bodyPost_ret (v := .agg #[.slice ae ne ce, .slice a5 n5 c5]) (by simp [results, Try.results14, go_sem, q0, q1]) rfl ⟨_, rfl, HLL.out.1, HK5.out, HLL.out.2.1⟩
end Go.Proofs.Ytomoldfgnbjliaa
