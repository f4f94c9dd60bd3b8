/- Tables: New. -/
import Derived.Test.YtomoldfgnbjliaaAvn
namespace Go.Proofs.Ytomoldfgnbjliaa
open Go.RowKit Go.Sort Go.Shelf Go.Maps Go.WideMaps Go.ChangeShapes
/-- block g is a table of the entries L with the values vs -/
def TabS (w : World) (g : Nat) (L : List E) (vs : List Bool) : Prop :=
  ∃ ve vv m1 m2 m3, TabB w g ve vv m1 m2 m3 ∧ Ents w ve L ∧ Bools w vv vs ∧ Grp 64 3 kf3 w m1 L ∧ Grp 67 2 kfT w m2 L ∧ Grp 67 2 kfS w m3 L
theorem TabS.keep {w w' : World} {g : Nat} {L : List E} {vs : List Bool} (h : TabS w g L vs) (hb : Below w.heap.size w w') : TabS w' g L vs := by
  obtain ⟨ve, vv, m1, m2, m3, h1, h2, h3, h4, h5, h6⟩ := h
  exact ⟨ve, vv, m1, m2, m3, Blk.keep h1 hb, h2.keep hb, h3.keep hb, h4.keep hb, h5.keep hb, h6.keep hb⟩
theorem TabS.lt {w : World} {g : Nat} {L : List E} {vs : List Bool} (h : TabS w g L vs) : g < w.heap.size := by
  obtain ⟨ve, vv, m1, m2, m3, h1, _⟩ := h
  exact Blk.lt h1
/-- what is neither number nor bool -/
def NoNum (cs : Array Value) : Prop := ∀ (k : Nat) (v : Value), cs[k]? = some v → (∀ q n, v ≠ .int q n) ∧ ∀ b, v ≠ .bool b
theorem Ents.keepN {w w' : World} {v : Value} {L : List E} {g : Nat} {t : TypeId} {cs : Array Value} (h : Ents w v L) (hg : Blk w g t cs) (hn : NoNum cs) (hb : w.grownBy w' (some g)) : Ents w' v L := by
  obtain ⟨ao, cap, rfl, hc, hr⟩ := h
  refine ⟨ao, cap, rfl, hc, fun hl => ?_⟩
  obtain ⟨q, o, rfl, hR⟩ := hr hl
  refine ⟨q, o, rfl, hR.keep (hb.block q (hR.lt hl) ?_)⟩
  intro e
  obtain rfl : q = g := by simpa using e
  obtain ⟨x, r, rfl⟩ := List.exists_cons_of_ne_nil hl
  have h0 := (hR 0 x rfl).1
  rw [hg.cell] at h0
  exact (hn _ _ h0).1 _ _ rfl
theorem Bools.keepN {w w' : World} {v : Value} {vs : List Bool} {g : Nat} {t : TypeId} {cs : Array Value} (h : Bools w v vs) (hg : Blk w g t cs) (hn : NoNum cs) (hb : w.grownBy w' (some g)) : Bools w' v vs := by
  refine h.keepB fun q hq ⟨o, b, hob⟩ => hb.block q hq fun e => ?_
  obtain rfl : q = g := by simpa using e
  rw [hg.cell] at hob
  exact (hn _ _ hob).2 _ rfl
theorem tabC_no {g : Nat} {ao av : Option Addr} {n c n' c' m1 m2 m3 : Nat} : NoNum (tabC g (.slice ao n c) (.slice av n' c') m1 m2 m3) := by
  intro k v h
  unfold tabC at h
  match k, h with
  | 0, h | 1, h | 2, h | 3, h | 4, h | 5, h | 6, h | 7, h | 8, h => simp at h; subst h; exact ⟨fun _ _ e => (by cases e), fun _ e => (by cases e)⟩
  | k + 9, h => simp at h
theorem noNum_of {cs : Array Value} (h : ∀ v ∈ cs.toList, (∀ q n, v ≠ .int q n) ∧ ∀ b, v ≠ .bool b) : NoNum cs := fun k v hk => h v (by
  have := Array.mem_of_getElem? hk
  simpa using this)
/-- another table's block is written -/
theorem TabS.keepT {w w' : World} {g g' : Nat} {L : List E} {vs : List Bool} {cs : Array Value} (h : TabS w g L vs) (hne : g ≠ g') (hg : Blk w g' 56 cs) (hn : NoNum cs) (hb : w.grownBy w' (some g')) : TabS w' g L vs := by
  obtain ⟨ve, vv, m1, m2, m3, h1, h2, h3, h4, h5, h6⟩ := h
  exact ⟨ve, vv, m1, m2, m3, (hb.block g (Blk.lt h1) (fun e => hne (by simpa using e))).trans h1, h2.keepN hg hn hb, h3.keepN hg hn hb, h4.keepT (by decide) hg hb, h5.keepT (by decide) hg hb, h6.keepT (by decide) hg hb⟩
/-- what New leaves -/
def NewOut (w : World) (L : List E) (e : Ending) (w' : World) : Prop := ∃ g, e = .returned (.pointer (some ⟨g, 0, none⟩)) ∧ TabS w' g L [] ∧ w.heap.size ≤ g ∧ Below w.heap.size w w'
set_option maxRecDepth 100000 in
set_option maxHeartbeats 4000000 in
theorem new_c (v : Value) (L : List E) (hl : L.length ≤ 10000) (w : World) (hE : Ents w v L) :
    Calls Try.prog 10 #[v] w (NewOut w (M L)) := by
  have HM := Lib.hid (merged_c v L hl w hE)
  have hml : (M L).length ≤ 10000 := Nat.le_trans (M_len L) hl
  clear hE
  generalize M L = ML at *
  go_enter Try.func10, Try.ntmps10
  go_wp2_with (go_at_call 25; refine HM.out.mono ?_; rintro e w1 ⟨ve, rfl, h1, h2⟩; have H1 := Lib.hid h1; have H2 := Lib.hid h2; obtain ⟨ae, ce, rfl⟩ := h1.isSl; clear h1 h2)
  generalize hgs : w1.heap.size = g at *
  have HB1 : Hid (Blk (w1.alloc (.cells #[.pointer (some ⟨g, 0, none⟩), .slice ae ML.length ce, .slice none 0 0, .slice none 0 0, .map none, .slice none 0 0, .map none, .slice none 0 0, .map none] 56)) g 56 #[.pointer (some ⟨g, 0, none⟩), .slice ae ML.length ce, .slice none 0 0, .slice none 0 0, .map none, .slice none 0 0, .map none, .slice none 0 0, .map none]) := Lib.hid (Blk.here hgs.symm)
  have HE1 := Lib.hid (H1.out.ents.keep ((Below.refl _ w1).alloc (Nat.le_refl _) (.cells #[.pointer (some ⟨g, 0, none⟩), .slice ae ML.length ce, .slice none 0 0, .slice none 0 0, .map none, .slice none 0 0, .map none, .slice none 0 0, .map none] 56)))
  have HW1 : Hid (Below w.heap.size w (w1.alloc (.cells #[.pointer (some ⟨g, 0, none⟩), .slice ae ML.length ce, .slice none 0 0, .slice none 0 0, .map none, .slice none 0 0, .map none, .slice none 0 0, .map none] 56))) := Lib.hid (H2.out.alloc H2.out.size _)
  have HGW : Hid (w.heap.size ≤ g) := Lib.hid (by rw [← hgs]; exact H2.out.size)
  clear hgs H1 H2 HM
  generalize w1.alloc (.cells #[.pointer (some ⟨g, 0, none⟩), .slice ae ML.length ce, .slice none 0 0, .slice none 0 0, .map none, .slice none 0 0, .map none, .slice none 0 0, .map none] 56) = X1 at *
  refine (index3_c (.slice ae ML.length ce) ML hml X1 HE1.out).mono ?_
  rintro e Y1 ⟨m1, rfl, hG, hm, hb⟩
  have HBY : Hid (Blk Y1 g 56 #[.pointer (some ⟨g, 0, none⟩), .slice ae ML.length ce, .slice none 0 0, .slice none 0 0, .map none, .slice none 0 0, .map none, .slice none 0 0, .map none]) := Lib.hid (HB1.out.keep hb)
  have HEY := Lib.hid (HE1.out.keep hb)
  have HWY : Hid (Below w.heap.size w Y1) := Lib.hid (HW1.out.trans (hb.mono HW1.out.size))
  have HGY : Hid (Grp 64 3 kf3 Y1 m1 ML) := Lib.hid hG
  clear hb hG hm HB1 HE1 HW1
  have hgw := HGW.out
  have NN : NoNum #[.pointer (some ⟨g, 0, none⟩), .slice ae ML.length ce, .slice none 0 0, .slice none 0 0, .map none, .slice none 0 0, .map none, .slice none 0 0, .map none] := noNum_of (by intro v hv; simp only [List.mem_cons, List.not_mem_nil, or_false] at hv; rcases hv with rfl | rfl | rfl | rfl | rfl | rfl | rfl | rfl | rfl <;> exact ⟨fun _ _ e => (by cases e), fun _ e => (by cases e)⟩)
  have hgr : Y1.grownBy ((Y1.setCell ⟨g, 3, none⟩ (.slice ae ML.length ce)).setCell ⟨g, 4, none⟩ (.map (some m1))) (some g) :=
    ⟨rfl, rfl, rfl, by simp [World.setCell], fun q hq hne => (Below.heap_setCell _ _ _ q (by rintro rfl; exact hne rfl)).trans (Below.heap_setCell _ _ _ q (by rintro rfl; exact hne rfl))⟩
  have HB2 : Hid (Blk ((Y1.setCell ⟨g, 3, none⟩ (.slice ae ML.length ce)).setCell ⟨g, 4, none⟩ (.map (some m1))) g 56 #[.pointer (some ⟨g, 0, none⟩), .slice ae ML.length ce, .slice none 0 0, .slice ae ML.length ce, .map (some m1), .slice none 0 0, .map none, .slice none 0 0, .map none]) := Lib.hid ((HBY.out.set 3 (.slice ae ML.length ce)).set 4 (.map (some m1)))
  have HE2 := Lib.hid (HEY.out.keepN HBY.out NN hgr)
  have HW2 : Hid (Below w.heap.size w ((Y1.setCell ⟨g, 3, none⟩ (.slice ae ML.length ce)).setCell ⟨g, 4, none⟩ (.map (some m1)))) := Lib.hid ((HWY.out.setCell (p := ⟨g, 3, none⟩) hgw _).setCell (p := ⟨g, 4, none⟩) hgw _)
  have HM1 : Hid (Grp 64 3 kf3 ((Y1.setCell ⟨g, 3, none⟩ (.slice ae ML.length ce)).setCell ⟨g, 4, none⟩ (.map (some m1))) m1 ML) := Lib.hid (HGY.out.keepT (by decide) HBY.out hgr)
  have y0 := HBY.out.cell 3
  have y1 := HBY.out.cell 4
  have y2 := HBY.out.frozen 3
  have y3 := HBY.out.frozen 4
  have hgl : g < Y1.heap.size := HBY.out.lt
  clear NN hgr HBY HEY HWY HGY
  go_upto_region 4 with (fail)
  generalize (Y1.setCell ⟨g, 3, none⟩ (.slice ae ML.length ce)).setCell ⟨g, 4, none⟩ (.map (some m1)) = X2 at *
  clear y0 y1 y2 y3 hgl
  have c1 : X2.cell? ⟨g, 1, none⟩ = some (.slice ae ML.length ce) := HB2.out.cell 1
  go_wp2_with fail
  clear c1
  refine (indexT_c (.slice ae ML.length ce) ML hml X2 HE2.out).mono ?_
  rintro e Y2 ⟨m2, rfl, hG, hm, hb⟩
  have HBY : Hid (Blk Y2 g 56 #[.pointer (some ⟨g, 0, none⟩), .slice ae ML.length ce, .slice none 0 0, .slice ae ML.length ce, .map (some m1), .slice none 0 0, .map none, .slice none 0 0, .map none]) := Lib.hid (HB2.out.keep hb)
  have HEY := Lib.hid (HE2.out.keep hb)
  have HWY : Hid (Below w.heap.size w Y2) := Lib.hid (HW2.out.trans (hb.mono HW2.out.size))
  have HGY : Hid (Grp 67 2 kfT Y2 m2 ML) := Lib.hid hG
  have HM1Y : Hid (Grp 64 3 kf3 Y2 m1 ML) := Lib.hid (HM1.out.keep hb)
  clear hb hG hm HB2 HE2 HW2 HM1
  have hgw := HGW.out
  have NN : NoNum #[.pointer (some ⟨g, 0, none⟩), .slice ae ML.length ce, .slice none 0 0, .slice ae ML.length ce, .map (some m1), .slice none 0 0, .map none, .slice none 0 0, .map none] := noNum_of (by intro v hv; simp only [List.mem_cons, List.not_mem_nil, or_false] at hv; rcases hv with rfl | rfl | rfl | rfl | rfl | rfl | rfl | rfl | rfl <;> exact ⟨fun _ _ e => (by cases e), fun _ e => (by cases e)⟩)
  have hgr : Y2.grownBy ((Y2.setCell ⟨g, 5, none⟩ (.slice ae ML.length ce)).setCell ⟨g, 6, none⟩ (.map (some m2))) (some g) :=
    ⟨rfl, rfl, rfl, by simp [World.setCell], fun q hq hne => (Below.heap_setCell _ _ _ q (by rintro rfl; exact hne rfl)).trans (Below.heap_setCell _ _ _ q (by rintro rfl; exact hne rfl))⟩
  have HB3 : Hid (Blk ((Y2.setCell ⟨g, 5, none⟩ (.slice ae ML.length ce)).setCell ⟨g, 6, none⟩ (.map (some m2))) g 56 #[.pointer (some ⟨g, 0, none⟩), .slice ae ML.length ce, .slice none 0 0, .slice ae ML.length ce, .map (some m1), .slice ae ML.length ce, .map (some m2), .slice none 0 0, .map none]) := Lib.hid ((HBY.out.set 5 (.slice ae ML.length ce)).set 6 (.map (some m2)))
  have HE3 := Lib.hid (HEY.out.keepN HBY.out NN hgr)
  have HW3 : Hid (Below w.heap.size w ((Y2.setCell ⟨g, 5, none⟩ (.slice ae ML.length ce)).setCell ⟨g, 6, none⟩ (.map (some m2)))) := Lib.hid ((HWY.out.setCell (p := ⟨g, 5, none⟩) hgw _).setCell (p := ⟨g, 6, none⟩) hgw _)
  have HM2 : Hid (Grp 67 2 kfT ((Y2.setCell ⟨g, 5, none⟩ (.slice ae ML.length ce)).setCell ⟨g, 6, none⟩ (.map (some m2))) m2 ML) := Lib.hid (HGY.out.keepT (by decide) HBY.out hgr)
  have HM1 : Hid (Grp 64 3 kf3 ((Y2.setCell ⟨g, 5, none⟩ (.slice ae ML.length ce)).setCell ⟨g, 6, none⟩ (.map (some m2))) m1 ML) := Lib.hid (HM1Y.out.keepT (by decide) HBY.out hgr)
  have y0 := HBY.out.cell 5
  have y1 := HBY.out.cell 6
  have y2 := HBY.out.frozen 5
  have y3 := HBY.out.frozen 6
  have hgl : g < Y2.heap.size := HBY.out.lt
  clear NN hgr HBY HEY HWY HGY HM1Y
  go_upto_region 5 with (fail)
  generalize (Y2.setCell ⟨g, 5, none⟩ (.slice ae ML.length ce)).setCell ⟨g, 6, none⟩ (.map (some m2)) = X3 at *
  clear y0 y1 y2 y3 hgl
  have c1 : X3.cell? ⟨g, 1, none⟩ = some (.slice ae ML.length ce) := HB3.out.cell 1
  go_wp2_with fail
  clear c1
  refine (indexS_c (.slice ae ML.length ce) ML hml X3 HE3.out).mono ?_
  rintro e Y3 ⟨m3, rfl, hG, hm, hb⟩
  have HBY : Hid (Blk Y3 g 56 #[.pointer (some ⟨g, 0, none⟩), .slice ae ML.length ce, .slice none 0 0, .slice ae ML.length ce, .map (some m1), .slice ae ML.length ce, .map (some m2), .slice none 0 0, .map none]) := Lib.hid (HB3.out.keep hb)
  have HEY := Lib.hid (HE3.out.keep hb)
  have HWY : Hid (Below w.heap.size w Y3) := Lib.hid (HW3.out.trans (hb.mono HW3.out.size))
  have HGY : Hid (Grp 67 2 kfS Y3 m3 ML) := Lib.hid hG
  have HM1Y : Hid (Grp 64 3 kf3 Y3 m1 ML) := Lib.hid (HM1.out.keep hb)
  have HM2Y : Hid (Grp 67 2 kfT Y3 m2 ML) := Lib.hid (HM2.out.keep hb)
  clear hb hG hm HB3 HE3 HW3 HM1 HM2
  have hgw := HGW.out
  have NN : NoNum #[.pointer (some ⟨g, 0, none⟩), .slice ae ML.length ce, .slice none 0 0, .slice ae ML.length ce, .map (some m1), .slice ae ML.length ce, .map (some m2), .slice none 0 0, .map none] := noNum_of (by intro v hv; simp only [List.mem_cons, List.not_mem_nil, or_false] at hv; rcases hv with rfl | rfl | rfl | rfl | rfl | rfl | rfl | rfl | rfl <;> exact ⟨fun _ _ e => (by cases e), fun _ e => (by cases e)⟩)
  have hgr : Y3.grownBy ((Y3.setCell ⟨g, 7, none⟩ (.slice ae ML.length ce)).setCell ⟨g, 8, none⟩ (.map (some m3))) (some g) :=
    ⟨rfl, rfl, rfl, by simp [World.setCell], fun q hq hne => (Below.heap_setCell _ _ _ q (by rintro rfl; exact hne rfl)).trans (Below.heap_setCell _ _ _ q (by rintro rfl; exact hne rfl))⟩
  have HB4 : Hid (Blk ((Y3.setCell ⟨g, 7, none⟩ (.slice ae ML.length ce)).setCell ⟨g, 8, none⟩ (.map (some m3))) g 56 #[.pointer (some ⟨g, 0, none⟩), .slice ae ML.length ce, .slice none 0 0, .slice ae ML.length ce, .map (some m1), .slice ae ML.length ce, .map (some m2), .slice ae ML.length ce, .map (some m3)]) := Lib.hid ((HBY.out.set 7 (.slice ae ML.length ce)).set 8 (.map (some m3)))
  have HE4 := Lib.hid (HEY.out.keepN HBY.out NN hgr)
  have HW4 : Hid (Below w.heap.size w ((Y3.setCell ⟨g, 7, none⟩ (.slice ae ML.length ce)).setCell ⟨g, 8, none⟩ (.map (some m3)))) := Lib.hid ((HWY.out.setCell (p := ⟨g, 7, none⟩) hgw _).setCell (p := ⟨g, 8, none⟩) hgw _)
  have HM3 : Hid (Grp 67 2 kfS ((Y3.setCell ⟨g, 7, none⟩ (.slice ae ML.length ce)).setCell ⟨g, 8, none⟩ (.map (some m3))) m3 ML) := Lib.hid (HGY.out.keepT (by decide) HBY.out hgr)
  have HM1 : Hid (Grp 64 3 kf3 ((Y3.setCell ⟨g, 7, none⟩ (.slice ae ML.length ce)).setCell ⟨g, 8, none⟩ (.map (some m3))) m1 ML) := Lib.hid (HM1Y.out.keepT (by decide) HBY.out hgr)
  have HM2 : Hid (Grp 67 2 kfT ((Y3.setCell ⟨g, 7, none⟩ (.slice ae ML.length ce)).setCell ⟨g, 8, none⟩ (.map (some m3))) m2 ML) := Lib.hid (HM2Y.out.keepT (by decide) HBY.out hgr)
  have y0 := HBY.out.cell 7
  have y1 := HBY.out.cell 8
  have y2 := HBY.out.frozen 7
  have y3 := HBY.out.frozen 8
  have hgl : g < Y3.heap.size := HBY.out.lt
  clear NN hgr HBY HEY HWY HGY HM1Y HM2Y
  go_upto_region 6 with (fail)
  generalize (Y3.setCell ⟨g, 7, none⟩ (.slice ae ML.length ce)).setCell ⟨g, 8, none⟩ (.map (some m3)) = X4 at *
  clear y0 y1 y2 y3 hgl
  go_wp2_with fail
  go_ret
  exact ⟨g, rfl, ⟨.slice ae ML.length ce, .slice none 0 0, m1, m2, m3, HB4.out, HE4.out, Bools.nil, HM1.out, HM2.out, HM3.out⟩, HGW.out, HW4.out⟩
end Go.Proofs.Ytomoldfgnbjliaa
