/- slices.Clone at bools and at entries; Activate, Entries, Visible, Len. -/
import Derived.Test.YtomoldfgnbjliaaAvo
namespace Go.Proofs.Ytomoldfgnbjliaa
open Go.RowKit Go.Sort Go.Shelf
def OwnB (w : World) (B : Nat) (v : Value) (vs : List Bool) : Prop := w.ownsRow B 4 1 v vs.length (vs.map Value.bool)
theorem OwnB.bools {w : World} {B : Nat} {v : Value} {vs : List Bool} (h : OwnB w B v vs) : Bools w v vs := by
  rcases h.2 with ⟨h1, h2⟩ | ⟨g, cap, cur, h1, _, h3, h4, _, _, _⟩
  · rw [List.eq_nil_of_length_eq_zero h2, h1]; exact Bools.nil
  · refine ⟨_, cap, h1, h4, fun _ => ⟨g, 0, rfl, fun i b hi => ?_⟩⟩
    have := World.ownsRow.cells h (g := g) (by rw [h1]; rfl) i (.bool b) (by simp [hi])
    rwa [show (⟨g, 0, none⟩ : Addr).add i = ⟨g, 0 + i, none⟩ by unfold Addr.add; split <;> simp_all] at this
theorem infoB : (Try.prog.info? 4).map (fun i => (i.zero, i.size, i.bytes)) = some (some (.bool false), 1, 1) := by kernel_rfl
/-- what a copy of a list is -/
def CloneB (w : World) (vs : List Bool) (e : Ending) (w' : World) : Prop := ∃ v, e = .returned v ∧ OwnB w' w.heap.size v vs ∧ Below w.heap.size w w'
set_option maxRecDepth 100000 in
theorem cloneB_c {w : World} {v : Value} {vs : List Bool} (hn : vs.length ≤ 1000) (h : Bools w v vs) : Calls Try.prog 38 #[v] w (CloneB w vs) := by
  obtain ⟨i0, hinf, hz0, hz1, hz2⟩ := info_parts infoB
  obtain ⟨ao, cap, rfl, hcap, hr⟩ := h
  cases ao with
  | none =>
    have hv : vs = [] := by
      cases vs with
      | nil => rfl
      | cons b r => obtain ⟨g, o, e, _⟩ := hr (by simp); cases e
    subst hv
    have he : ∀ w : World, (binOp .eql 23 (.slice none 0 cap) (.slice none 0 0)).run Try.prog w = .ok (.bool true) w := fun _ => rfl
    go_enter Try.func38, Try.ntmps38
    go_wp2
    go_ret
    exact ⟨_, rfl, World.ownsRow_nil _ _ _ _, Below.refl _ _⟩
  | some ad =>
    have hnews : ∀ W, Below w.heap.size w W → ∀ j u, (vs.map Value.bool)[j]? = some u → W.cell? (ad.add j) = some u := fun W hW j u hu => by
      obtain ⟨b, hb, rfl⟩ : ∃ b, vs[j]? = some b ∧ Value.bool b = u := by simpa using hu
      have hne : vs ≠ [] := by rintro rfl; simp at hb
      obtain ⟨g, o, e, hR⟩ := hr hne
      cases e
      have h1 := hR j b hb
      have h2 := hW.cell (p := ⟨g, o + j, none⟩) (World.block_lt_of_cell? w ⟨g, o + j, none⟩ h1)
      rw [show (⟨g, o, none⟩ : Addr).add j = ⟨g, o + j, none⟩ by unfold Addr.add; split <;> simp_all]
      exact h2.trans h1
    have HN := Lib.hid hnews
    have hb1 : Below w.heap.size w (w.alloc (.cells #[] 4)) := (Below.refl _ w).alloc (Nat.le_refl _) _
    have HM : Hid ((w.alloc (.cells #[] 4)).ownsRow w.heap.size 4 1 (.slice (some ⟨w.heap.size, 0, none⟩) 0 0) 0 []) := Lib.hid (World.ownsRow_made w #[] 0 (Nat.le_refl _) (by unfold maxLen; decide) rfl)
    clear hnews hr
    have he : ∀ w : World, (binOp .eql 23 (.slice (some ad) vs.length cap) (.slice none 0 0)).run Try.prog w = .ok (.bool false) w := fun _ => rfl
    go_enter Try.func38, Try.ntmps38
    go_wp2_with (first | (at_builtin; refine wpList_append_own_at _ rfl _ _ 23 rfl w.heap.size 4 i0 (.bool false) 1 1 Try.underlying23 hinf hz0 hz1 hz2 rfl (by decide) _ 0 [] rfl HM.out ad vs.length cap (vs.map Value.bool) rfl (by simp) (HN.out _ hb1) (by intro u hu; obtain ⟨b, _, rfl⟩ := List.mem_map.1 hu; rfl) (by unfold maxLen; omega) (by omega) (by simp) ?_; intro v' w2 h1 h2 h3 h4; have H1 := Lib.hid h1; have H2 := Lib.hid h2; clear h1 h2 h3 h4) | fail)
    go_ret
    have h1 := H1.out
    simp only [Nat.zero_add, List.nil_append] at h1
    exact ⟨v', rfl, h1, hb1.grown H2.out hb1.size (fun k e => by cases e; exact Nat.le_refl _)⟩
set_option maxRecDepth 100000 in
theorem cloneE_c {w : World} {v : Value} {L : List E} (hn : L.length ≤ 10000) (h : Ents w v L) : Calls Try.prog 39 #[v] w (ListOut w L) := by
  obtain ⟨i0, hinf, hz0, hz1, hz2⟩ := info_parts infoE
  obtain ⟨ao, cap, rfl, hcap, hr⟩ := h
  cases ao with
  | none =>
    have hv : L = [] := by
      cases L with
      | nil => rfl
      | cons b r => obtain ⟨g, o, e, _⟩ := hr (by simp); cases e
    subst hv
    have he : ∀ w : World, (binOp .eql 22 (.slice none 0 cap) (.slice none 0 0)).run Try.prog w = .ok (.bool true) w := fun _ => rfl
    go_enter Try.func39, Try.ntmps39
    go_wp2
    go_ret
    exact ⟨_, rfl, OwnE.nil _ _, Below.refl _ _⟩
  | some ad =>
    have hnews : ∀ W, Below w.heap.size w W → ∀ j u, (L.flatMap cellsE)[j]? = some u → W.cell? (ad.add j) = some u := fun W hW j u hu => by
      obtain ⟨x, hx, hu⟩ := fm_of L j u hu
      have hne : L ≠ [] := by rintro rfl; simp at hx
      obtain ⟨g, o, e, hR⟩ := hr hne
      cases e
      have h7 := (hR _ x hx).keep (hW.block g (hR.lt hne))
      rw [show (⟨g, o, none⟩ : Addr).add j = ⟨g, o + j / 7 * 7 + j % 7, none⟩ by
        have e : o + j / 7 * 7 + j % 7 = o + j := by omega
        rw [e]; unfold Addr.add; split <;> simp_all]
      obtain ⟨c0, c1, c2, c3, c4, c5, c6⟩ := h7
      have hm : j % 7 < 7 := by omega
      generalize j % 7 = k at *
      match k, hm with
      | 0, _ => exact c0.trans hu
      | 1, _ => exact c1.trans hu
      | 2, _ => exact c2.trans hu
      | 3, _ => exact c3.trans hu
      | 4, _ => exact c4.trans hu
      | 5, _ => exact c5.trans hu
      | 6, _ => exact c6.trans hu
    have HN := Lib.hid hnews
    have hb1 : Below w.heap.size w (w.alloc (.cells #[] 39)) := (Below.refl _ w).alloc (Nat.le_refl _) _
    have HM : Hid ((w.alloc (.cells #[] 39)).ownsRow w.heap.size 39 7 (.slice (some ⟨w.heap.size, 0, none⟩) 0 0) 0 []) := Lib.hid (World.ownsRow_made w #[] 0 (Nat.le_refl _) (by unfold maxLen; decide) rfl)
    have hfl := fm_len L
    clear hnews hr
    have he : ∀ w : World, (binOp .eql 22 (.slice (some ad) L.length cap) (.slice none 0 0)).run Try.prog w = .ok (.bool false) w := fun _ => rfl
    go_enter Try.func39, Try.ntmps39
    go_wp2_with (first | (at_builtin; refine wpList_append_own_at _ rfl _ _ 22 rfl w.heap.size 39 i0 _ 7 48 Try.underlying22 hinf hz0 hz1 hz2 rfl (by decide) _ 0 [] rfl HM.out ad L.length cap (L.flatMap cellsE) rfl hfl (HN.out _ hb1) (by intro u hu; obtain ⟨x, _, hx⟩ := List.mem_flatMap.1 hu; exact cellsE_one x u hx) (by unfold maxLen; omega) (by omega) (by simp) ?_; intro v' w2 h1 h2 h3 h4; have H1 := Lib.hid h1; have H2 := Lib.hid h2; clear h1 h2 h3 h4) | fail)
    go_ret
    have h1 := H1.out
    simp only [Nat.zero_add, List.nil_append] at h1
    exact ⟨v', rfl, h1, hb1.grown H2.out hb1.size (fun k e => by cases e; exact Nat.le_refl _)⟩
theorem Bools.form {w : World} {v : Value} {vs : List Bool} (h : Bools w v vs) : ∃ ao cap, v = .slice ao vs.length cap := by
  obtain ⟨ao, cap, rfl, _⟩ := h
  exact ⟨ao, cap, rfl⟩
section
variable {w : World} {g : Nat} {L : List E} {vs : List Bool}
set_option maxRecDepth 100000 in
set_option maxHeartbeats 1000000 in
theorem activate_c {v : Value} {ws : List Bool} (h : TabS w g L vs) (hv : Bools w v ws) (hn : ws.length ≤ 1000) :
    Calls Try.prog 13 #[.pointer (some ⟨g, 0, none⟩), v] w fun e w' => e = .returned (.tuple #[]) ∧ TabS w' g L ws ∧ w.grownBy w' (some g) := by
  have HT := Lib.hid h
  obtain ⟨ve, vv, m1, m2, m3, h1, -⟩ := h
  have HMd := Lib.hid (made_yes h1)
  have HCl := Lib.hid (cloneB_c hn hv)
  clear h1 hv
  go_enter Try.func13, Try.ntmps13
  go_wp2_with (first
    | (go_at_call 37; refine HMd.out.mono ?_; rintro e w' ⟨rfl, rfl⟩)
    | (go_at_call 38; refine HCl.out.mono ?_; rintro e w1 ⟨v1, rfl, k1, k2⟩
       have HK1 := Lib.hid k1
       have HK2 := Lib.hid k2
       obtain ⟨a1, c1, rfl⟩ := k1.bools.form
       obtain ⟨ve, vv, m1, m2, m3, t1, t2, t3, t4, t5, t6⟩ := HT.out.keep k2
       have HT1 := Lib.hid t1
       have HT2 := Lib.hid t2
       have HT3 := Lib.hid t3
       have HT4 := Lib.hid t4
       have HT5 := Lib.hid t5
       have HT6 := Lib.hid t6
       have y0 := Blk.frozen t1 2
       obtain ⟨-, -, y1, -⟩ := TabB.cells t1
       clear k1 k2 t1 t2 t3 t4 t5 t6))
  go_end0
  obtain ⟨ae, ce, rfl⟩ := HT2.out.form
  obtain ⟨ab, cb, rfl⟩ := HT3.out.form
  have hgr : w1.grownBy (w1.setCell ⟨g, 2, none⟩ (.slice a1 ws.length c1)) (some g) := ⟨rfl, rfl, rfl, by simp [World.setCell], fun q hq hne => Below.heap_setCell _ _ _ q (by rintro rfl; exact hne rfl)⟩
  refine ⟨rfl, ⟨.slice ae L.length ce, .slice a1 ws.length c1, m1, m2, m3, Blk.set HT1.out 2 _, HT2.out.keepN HT1.out tabC_no hgr, HK1.out.bools.keepN HT1.out tabC_no hgr, HT4.out.keepT (by decide) HT1.out hgr, HT5.out.keepT (by decide) HT1.out hgr, HT6.out.keepT (by decide) HT1.out hgr⟩, ?_⟩
  exact ⟨hgr.os.trans HK2.out.os, hgr.tape.trans HK2.out.tape, hgr.output.trans HK2.out.output, Nat.le_trans HK2.out.size hgr.size, fun k hk hne => (hgr.block k (Nat.lt_of_lt_of_le hk HK2.out.size) hne).trans (HK2.out.block k hk)⟩
set_option maxRecDepth 100000 in
theorem len_c (h : TabS w g L vs) : Calls Try.prog 21 #[.pointer (some ⟨g, 0, none⟩)] w fun e w' => e = .returned (.int .i64 L.length) ∧ w = w' := by
  obtain ⟨ve, vv, m1, m2, m3, h1, h2, -⟩ := h
  have HMd := Lib.hid (made_yes h1)
  obtain ⟨ae, ce, rfl⟩ := h2.form
  obtain ⟨-, y1, -⟩ := TabB.cells h1
  clear h1 h2
  go_enter Try.func21, Try.ntmps21
  go_wp2_with (go_at_call 37; refine HMd.out.mono ?_; rintro e w' ⟨rfl, rfl⟩)
  go_ret
  exact ⟨rfl, rfl⟩
set_option maxRecDepth 100000 in
theorem entries_c (h : TabS w g L vs) (hl : L.length ≤ 10000) : Calls Try.prog 17 #[.pointer (some ⟨g, 0, none⟩)] w (ListOut w L) := by
  obtain ⟨ve, vv, m1, m2, m3, h1, h2, -⟩ := h
  have HMd := Lib.hid (made_yes h1)
  have HCl := Lib.hid (cloneE_c hl h2)
  obtain ⟨ae, ce, rfl⟩ := h2.form
  obtain ⟨-, y1, -⟩ := TabB.cells h1
  clear h1 h2
  go_enter Try.func17, Try.ntmps17
  go_wp2_with (first
    | (go_at_call 37; refine HMd.out.mono ?_; rintro e w' ⟨rfl, rfl⟩)
    | (go_at_call 39; refine HCl.out.mono ?_; rintro e w1 ⟨v1, rfl, k1, k2⟩))
  go_ret
  exact ⟨v1, rfl, k1, k2⟩
set_option maxRecDepth 100000 in
theorem visible_c (h : TabS w g L vs) (hl : L.length ≤ 10000) (hn : vs.length ≤ 1000) (hs : Strict L) (hne : NE L) : Calls Try.prog 18 #[.pointer (some ⟨g, 0, none⟩)] w (ListOut w (V0 vs L)) := by
  obtain ⟨ve, vv, m1, m2, m3, h1, h2, h3, -⟩ := h
  have HMd := Lib.hid (made_yes h1)
  have hSe := seen_c h1 h3 hn h2 hl
  rw [seen_fold hs hne] at hSe
  have HSe := Lib.hid hSe
  obtain ⟨ae, ce, rfl⟩ := h2.form
  obtain ⟨-, y1, -⟩ := TabB.cells h1
  clear h1 h2 h3 hSe
  go_enter Try.func18, Try.ntmps18
  go_wp2_with (first
    | (go_at_call 37; refine HMd.out.mono ?_; rintro e w' ⟨rfl, rfl⟩)
    | (go_at_call 40; refine HSe.out.mono ?_; rintro e w1 ⟨v1, rfl, k1, k2⟩))
  go_ret
  exact ⟨v1, rfl, k1, k2⟩
end
end Go.Proofs.Ytomoldfgnbjliaa
