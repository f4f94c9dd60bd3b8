/- AvtabCopies: the walk. -/
import Derived.Test.YtomoldfgnbjliaaAxo
namespace Go.Proofs.Ytomoldfgnbjliaa
open Go.RowKit Go.Sort Go.Shelf
section
variable {w w' : World} {g : Nat} {ML : List E} {us : List Bool}
theorem TabS.ents (hT : TabS w g ML us) (hg : w.grownBy w' (some g)) {v : Value} {L : List E} (h : Ents w v L) : Ents w' v L := by
  obtain ⟨ve, vv, m1, m2, m3, h1, h2, h3, -⟩ := hT
  obtain ⟨_, _, rfl⟩ := h2.form
  obtain ⟨_, _, rfl⟩ := h3.form
  exact h.keepN h1 tabC_no hg
theorem TabS.bools (hT : TabS w g ML us) (hg : w.grownBy w' (some g)) {v : Value} {L : List Bool} (h : Bools w v L) : Bools w' v L := by
  obtain ⟨ve, vv, m1, m2, m3, h1, h2, h3, -⟩ := hT
  obtain ⟨_, _, rfl⟩ := h2.form
  obtain ⟨_, _, rfl⟩ := h3.form
  exact h.keepN h1 tabC_no hg
theorem TabS.blk (hg : w.grownBy w' (some g)) {k : Nat} {t : TypeId} {cs : Array Value} (hk : k ≠ g) (h : Blk w k t cs) : Blk w' k t cs := (hg.block k h.lt (by simpa using hk)).trans h
theorem TabS.other (hT : TabS w g ML us) (hg : w.grownBy w' (some g)) {k : Nat} {L : List E} {vs : List Bool} (hk : k ≠ g) (h : TabS w k L vs) : TabS w' k L vs := by
  obtain ⟨ve, vv, m1, m2, m3, h1, h2, h3, -⟩ := hT
  obtain ⟨_, _, rfl⟩ := h2.form
  obtain ⟨_, _, rfl⟩ := h3.form
  obtain ⟨ve', vv', n1, n2, n3, k1, k2, k3, k4, k5, k6⟩ := h
  exact ⟨ve', vv', n1, n2, n3, TabS.blk hg hk k1, k2.keepN h1 tabC_no hg, k3.keepN h1 tabC_no hg, k4.keepT (by decide) h1 hg, k5.keepT (by decide) h1 hg, k6.keepT (by decide) h1 hg⟩
end
set_option maxRecDepth 100000 in
set_option maxHeartbeats 4000000 in
theorem lcopies_c (v0 : Value) (L : List E) (v1 : Value) (A : List Bool) (v2 : Value) (B : List Bool) (W : World) (hL : Ents W v0 L) (hA : Bools W v1 A) (hB : Bools W v2 B)
    (hz1 : v1 = .slice none 0 0 ∨ ∃ ad n c, v1 = .slice (some ad) n c) (hz2 : v2 = .slice none 0 0 ∨ ∃ ad n c, v2 = .slice (some ad) n c) :
    Calls Try.prog 4 #[v0, v1, v2] W fun e w' => e = .returned (.bool true) ∧ Below W.heap.size W w' := by
  obtain ⟨a0, c0, rfl⟩ := hL.form
  obtain ⟨a1, c1, rfl⟩ := hA.form
  obtain ⟨a2, c2, rfl⟩ := hB.form
  have HL := Lib.hid hL
  have HVA := Lib.hid hA
  have HVB := Lib.hid hB
  have HZ1 := Lib.hid hz1
  have HZ2 := Lib.hid hz2
  clear hL hA hB hz1 hz2
  obtain ⟨r, hr⟩ : ∃ r, decide (300 < L.length ∨ 100 < A.length ∨ 20 < 0) = r := ⟨_, rfl⟩
  have HLA : Hid (∀ w, Calls Try.prog 8 #[.slice a0 L.length c0, .slice a1 A.length c1, .slice none 0 0] w fun e w' => e = .returned (.bool r) ∧ w = w') := Lib.hid fun w => by rw [← hr]; exact large_c a0 a1 none L.length A.length 0 c0 c1 0 w
  have HAl := Lib.hid (@alive_c)
  cases r with
  | true =>
    clear hr HL HVA HVB
    go_enter Try.func4, Try.ntmps4
    go_wp2_with (first
      | (go_at_call 8; refine (HLA.out _).mono ?_; rintro e w' ⟨rfl, rfl⟩)
      | (go_at_call 9; refine (HAl.out _).mono ?_; rintro e w2 ⟨rfl, hb⟩; have HB2 := Lib.hid hb; clear hb))
    go_ret
    exact ⟨rfl, HB2.out⟩
  | false =>
    by_cases hb : 100 < B.length
    · have j1 : (100 : Int) < (B.length : Int) := by omega
      clear hr HL HVA HVB
      go_enter Try.func4, Try.ntmps4
      go_wp2_with (first
        | (go_at_call 8; refine (HLA.out _).mono ?_; rintro e w' ⟨rfl, rfl⟩)
        | (go_at_call 9; refine (HAl.out _).mono ?_; rintro e w2 ⟨rfl, hb⟩; have HB2 := Lib.hid hb; clear hb))
      go_ret
      exact ⟨rfl, HB2.out⟩
    · have j1 : decide ((100 : Int) < (B.length : Int)) = false := decide_eq_false (by omega)
      have j2 : decide (100 < B.length) = false := decide_eq_false hb
      have hsz : L.length ≤ 300 ∧ A.length ≤ 100 := by have := of_decide_eq_false hr; omega
      have hbA : A.length ≤ 1000 := by omega
      have hbB : B.length ≤ 1000 := by omega
      have hnw := new_c (.slice a0 L.length c0) L (by omega) W HL.out
      have hml : (M L).length ≤ 10000 := by have := M_len L; omega
      have HFR : Hid (∀ w, Below W.heap.size W w → Calls Try.prog 11 #[.slice a0 L.length c0] w fun e w' => ∃ ve, e = .returned (.agg #[ve, .slice none 0 0]) ∧ Ents w' ve (M L) ∧ Below w.heap.size w w') := Lib.hid fun w h => first_c _ L (by omega) w (HL.out.keep h)
      have hst := M_strict L
      have hne := M_ne L
      have hmm := M_M L
      generalize M L = ML at *
      have HNW := Lib.hid hnw
      have HST := Lib.hid hst
      have HNE := Lib.hid hne
      have HMM := Lib.hid hmm
      clear hr hb hsz hnw hst hne hmm
      go_enter Try.func4, Try.ntmps4
      go_upto_region 6 with (first
        | (go_at_call 8; refine (HLA.out _).mono ?_; rintro e w' ⟨rfl, rfl⟩)
        | (go_at_call 10
           refine HNW.out.mono ?_
           rintro e w1 ⟨g, rfl, hT, hg, hb⟩
           have HT1 := Lib.hid hT
           have HG := Lib.hid hg
           have HB1 := Lib.hid hb
           clear hT hg hb)
        | (go_at_call 11
           refine (HFR.out _ HB1.out).mono ?_
           rintro e w2 ⟨ve, rfl, hE, hb⟩
           have HE2 := Lib.hid hE
           have HT2 := Lib.hid (HT1.out.keep hb)
           have HB2 := Lib.hid (HB1.out.trans (hb.mono HB1.out.size))
           obtain ⟨ae, ce, rfl⟩ := hE.form
           clear hE hb))
      have hal : Below w2.heap.size w2 (w2.alloc (.cells #[.slice ae ML.length ce, .slice none 0 0] 30)) := (Below.refl _ w2).alloc (Nat.le_refl _) _
      have HT3 := Lib.hid (HT2.out.keep hal)
      have HE3 := Lib.hid (HE2.out.keep hal)
      have HB3 := Lib.hid (HB2.out.trans (hal.mono HB2.out.size))
      have HVA3 := Lib.hid (HVA.out.keep HB3.out)
      have HVB3 := Lib.hid (HVB.out.keep HB3.out)
      have HS3 := Lib.hid (Blk.new w2 30 #[.slice ae ML.length ce, .slice none 0 0])
      have hsg : w2.heap.size ≠ g := by have := HT2.out.lt; omega
      generalize w2.alloc (.cells #[.slice ae ML.length ce, .slice none 0 0] 30) = w3 at *
      generalize w2.heap.size = sb at *
      clear hal HT1 HT2 HE2 HB1 HB2 HVA HVB HL HLA HNW HFR
      go_wp2_with (first
        | (go_at_call 13
           refine (activate_c HT5.out HVB5.out hbB).mono ?_
           rintro e w6 ⟨rfl, hT, hgr⟩
           have HT6 := Lib.hid hT
           have HE6 := Lib.hid (HT5.out.ents hgr HE5.out)
           have HVA6 := Lib.hid (HT5.out.bools hgr HVA5.out)
           have HVB6 := Lib.hid (HT5.out.bools hgr HVB5.out)
           have HS6 : Hid (Blk _ sb 30 #[.slice ae ML.length ce, .slice none 0 0]) := Lib.hid (TabS.blk hgr hsg HS5.out)
           have HB6 := Lib.hid (HB5.out.trans (grown_below hgr HB5.out.size HG.out))
           have HC6 := Lib.hid (HT5.out.other hgr hkg HC5.out)
           clear s0 s1
           obtain ⟨s0, s1⟩ : w6.cell? ⟨sb, 0, none⟩ = some (.slice ae ML.length ce) ∧ w6.cell? ⟨sb, 1, none⟩ = some (.slice none 0 0) := ⟨HS6.out.cell 0, HS6.out.cell 1⟩
           clear hT hgr)
        | (go_at_call 13
           refine (activate_c HT3.out HVA3.out hbA).mono ?_
           rintro e w4 ⟨rfl, hT, hgr⟩
           have HT4 := Lib.hid hT
           have HE4 := Lib.hid (HT3.out.ents hgr HE3.out)
           have HVA4 := Lib.hid (HT3.out.bools hgr HVA3.out)
           have HVB4 := Lib.hid (HT3.out.bools hgr HVB3.out)
           have HS4 : Hid (Blk _ sb 30 #[.slice ae ML.length ce, .slice none 0 0]) := Lib.hid (TabS.blk hgr hsg HS3.out)
           have HB4 := Lib.hid (HB3.out.trans (grown_below hgr HB3.out.size HG.out))
           have s0 := True.intro
           have s1 := True.intro
           clear hT hgr)
        | (go_at_call 15
           refine (copy_c HT4.out hml hbA HMM.out).mono ?_
           rintro e w5 ⟨k, rfl, hC, hk, hb⟩
           have hkg : k ≠ g := by have := HT4.out.lt; omega
           have HC5 := Lib.hid hC
           have HT5 := Lib.hid (HT4.out.keep hb)
           have HE5 := Lib.hid (HE4.out.keep hb)
           have HVA5 := Lib.hid (HVA4.out.keep hb)
           have HVB5 := Lib.hid (HVB4.out.keep hb)
           have HS5 : Hid (Blk _ sb 30 #[.slice ae ML.length ce, .slice none 0 0]) := Lib.hid (Blk.keep HS4.out hb)
           have HB5 := Lib.hid (HB4.out.trans (hb.mono HB4.out.size))
           clear hC hk hb)
        | (go_at_call 14
           refine (ract_c _ _ _ B hbB _ HVB8.out ⟨_, _, _, rfl⟩ ⟨_, _, _, rfl⟩ HZ2.out).mono ?_
           rintro e w9 ⟨va, rfl, hV, hk, hb⟩
           have HV9 := Lib.hid hV
           have HT9 := Lib.hid (HT8.out.keep hb)
           have HE9 := Lib.hid (HE8.out.keep hb)
           have HB9 := Lib.hid (HB8.out.trans (hb.mono HB8.out.size))
           obtain ⟨av9, cv9, rfl⟩ := hV.form
           clear hV hk hb s0 s1)
        | (go_at_call 14
           refine (ract_c _ _ _ A hbA _ HVA6.out ⟨_, _, _, rfl⟩ ⟨_, _, _, rfl⟩ HZ1.out).mono ?_
           rintro e w7 ⟨va, rfl, hV, hk, hb⟩
           have HV7 := Lib.hid hV
           have HT7 := Lib.hid (HT6.out.keep hb)
           have HC7 := Lib.hid (HC6.out.keep hb)
           have HE7 := Lib.hid (HE6.out.keep hb)
           have HVB7 := Lib.hid (HVB6.out.keep hb)
           have HS7 : Hid (Blk _ sb 30 #[.slice ae ML.length ce, .slice none 0 0]) := Lib.hid (Blk.keep HS6.out hb)
           have HB7 := Lib.hid (HB6.out.trans (hb.mono HB6.out.size))
           obtain ⟨av7, cv7, rfl⟩ := hV.form
           clear hV hk hb s0 s1)
        | (go_at_call 12
           refine (lsame0_c HT9.out HST.out HNE.out hml hbB HE9.out HV9.out).mono ?_
           rintro e w10 ⟨rfl, hb⟩
           have HB10 := Lib.hid (HB9.out.trans (hb.mono HB9.out.size))
           clear hb)
        | (go_at_call 12
           refine (lsame0_c HC7.out HST.out HNE.out hml hbA HE7.out HV7.out).mono ?_
           rintro e w8 ⟨rfl, hb⟩
           have HT8 := Lib.hid (HT7.out.keep hb)
           have HE8 := Lib.hid (HE7.out.keep hb)
           have HVB8 := Lib.hid (HVB7.out.keep hb)
           have HS8 : Hid (Blk _ sb 30 #[.slice ae ML.length ce, .slice none 0 0]) := Lib.hid (Blk.keep HS7.out hb)
           have HB8 := Lib.hid (HB7.out.trans (hb.mono HB7.out.size))
           obtain ⟨s0, s1⟩ : w8.cell? ⟨sb, 0, none⟩ = some (.slice ae ML.length ce) ∧ w8.cell? ⟨sb, 1, none⟩ = some (.slice none 0 0) := ⟨HS8.out.cell 0, HS8.out.cell 1⟩
           clear hb)
        | (go_at_call 9
           refine (HAl.out _).mono ?_
           rintro e w11 ⟨rfl, hb⟩
           have HB11 := Lib.hid (HB10.out.trans (hb.mono HB10.out.size))
           clear hb))
      go_ret
      exact ⟨rfl, HB11.out⟩
end Go.Proofs.Ytomoldfgnbjliaa
