/- AvtabFinds: questions that are handed in; the walk. -/
import Derived.Test.YtomoldfgnbjliaaAxy
import Derived.Test.YtomoldfgnbjliaaAxp
import Derived.Test.YtomoldfgnbjliaaAxx
namespace Go.Proofs.Ytomoldfgnbjliaa
open Go.ChangeShapes Go.WideShapes Go.ChangeAt Go.RowKit
section
variable {H : Type} {enc : TypeId × Value → H} {W : World} {base : Nat} {sp : Nat → Bool} {held : Bool} {n : Nat} {x : DataW H × List MemPlace}
set_option maxRecDepth 100000 in
theorem trod_qs {cs : List Value} (h : DataW.trod enc Try.prog W base sp held n 48 cs = some x) : ∃ y : Qn, cs = [.int .i64 y.a, .int .i64 y.b, .int .i64 y.c, .int .u32 (vI y.p)] := by
  obtain ⟨a, b, c, d, rfl, wa, wb, wc⟩ := trod_q h
  exact ⟨⟨a, b, c, d, wa, wb, wc⟩, rfl⟩
instance : Inhabited Qn := ⟨⟨0, 0, 0, 0, rfl, rfl, rfl⟩⟩
set_option maxRecDepth 100000 in
theorem trod_ques {cs : List Value} (h : DataW.trod enc Try.prog W base sp held n 24 cs = some x) : ∃ (v : Value) (L : List Qn), cs = [v] ∧ Ques W v L ∧ L.length ≤ maxLen := by
  rcases Go.Deep.open_slice Try.underlying24 h with ⟨hcs, _⟩ | ⟨a, len, cap, m, k, D, Pl, hcs, _, hl, hm, hmm, _, hx⟩
  · exact ⟨_, [], hcs, ⟨none, 0, rfl, Nat.le_refl _, fun h => absurd rfl h⟩, Nat.zero_le _⟩
  · have hlm : len ≤ m := by rw [hmm]; split <;> omega
    have each : ∀ i, i < len → ∃ y : Qn, ∃ b o, a = ⟨b, o, none⟩ ∧ At4 W b (o + i * 4) y := by
      intro i hi
      obtain ⟨cs', h1, h2⟩ := hx i (by omega)
      obtain ⟨y, rfl⟩ := trod_qs h2
      rw [Try.cellsQ] at h1
      obtain ⟨_, _, hcell⟩ := World.cells?_some h1
      obtain ⟨cs0, h10, h20⟩ := hx 0 (by omega)
      obtain ⟨y0, rfl⟩ := trod_qs h20
      rw [Try.cellsQ] at h10
      obtain ⟨_, _, hcell0⟩ := World.cells?_some h10
      obtain ⟨b, o, spot⟩ := a
      have g0 := hcell 0 (by omega)
      have g1 := hcell 1 (by omega)
      have g2 := hcell 2 (by omega)
      have g3 := hcell 3 (by omega)
      rw [Go.Deep.add_add] at g0 g1 g2 g3
      have hspot : spot = none := by
        have g : W.cell? (((⟨b, o, spot⟩ : Addr).add (0 * 4)).add 0) = some (.int .i64 y0.a) := by simpa using hcell0 0 (by omega)
        simpa [Addr.add] using World.cell?_spot g
      subst hspot
      rw [addr_some] at g0 g1 g2 g3
      exact ⟨y, b, o, rfl, by simpa using g0, by simpa [Nat.add_assoc] using g1, by simpa [Nat.add_assoc] using g2, by simpa [Nat.add_assoc] using g3⟩
    obtain ⟨V, hV⟩ := choose_ltE each
    refine ⟨_, (List.range len).map V, hcs, ⟨some a, cap, by simp, by simp; omega, fun hne => ?_⟩, by simp; omega⟩
    have h0 : 0 < len := by
      rcases Nat.eq_zero_or_pos len with e | e
      · subst e; simp at hne
      · exact e
    obtain ⟨b, o, rfl, _⟩ := hV 0 h0
    refine ⟨b, o, rfl, fun i y hi => ?_⟩
    rw [List.getElem?_map] at hi
    rcases Nat.lt_or_ge i len with hil | hil
    · rw [List.getElem?_range hil] at hi
      simp only [Option.map_some, Option.some.injEq] at hi
      subst hi
      obtain ⟨b', o', hbo, hc⟩ := hV i hil
      cases hbo
      exact hc
    · rw [List.getElem?_eq_none (by simpa using hil)] at hi
      simp at hi
end
section
variable {H : Type} {enc : TypeId × Value → H} {W : World} {base : Nat} {v : Value} {d : DataW H} {p : List MemPlace}
set_option maxRecDepth 100000 in
theorem open_ques (hok : Value.okWide Try.prog W .any base 24 v) (h : DataW.Trod enc Try.prog W 0 (fun _ => true) true 24 v d p) : ∃ L : List Qn, Ques W v L := by
  obtain ⟨a0, len0, cap0, rfl⟩ := okWide_slice Try.underlying24 hok
  obtain ⟨fuel, hf⟩ := h
  obtain ⟨v1, l, e0, b0, b1⟩ := trod_ques hf
  simp [Value.cells] at e0
  subst e0
  exact ⟨l, b0⟩
end
section
variable {w w' : World} {g : Nat} {ML : List E} {us : List Bool}
theorem Ques.keepN {v : Value} {L : List Qn} {t : TypeId} {cs : Array Value} (h : Ques w v L) (hg : Blk w g t cs) (hn : NoNum cs) (hb : w.grownBy w' (some g)) : Ques w' v L := by
  obtain ⟨ao, cap, rfl, hc, hr⟩ := h
  refine ⟨ao, cap, rfl, hc, fun hl => ?_⟩
  obtain ⟨q, o, rfl, hR⟩ := hr hl
  have hq : w'.heap[q]? = w.heap[q]? := by
    refine hb.block q (hR.lt hl) ?_
    intro e
    obtain rfl : q = g := by simpa using e
    obtain ⟨x, r, rfl⟩ := List.exists_cons_of_ne_nil hl
    have h0 := (hR 0 x rfl).1
    rw [hg.cell] at h0
    exact (hn _ _ h0).1 _ _ rfl
  exact ⟨q, o, rfl, fun i x hi => (hR i x hi).keep hq⟩
theorem TabS.ques (hT : TabS w g ML us) (hg : w.grownBy w' (some g)) {v : Value} {L : List Qn} (h : Ques w v L) : Ques w' v L := by
  obtain ⟨ve, vv, m1, m2, m3, h1, h2, h3, -⟩ := hT
  obtain ⟨_, _, rfl⟩ := h2.form
  obtain ⟨_, _, rfl⟩ := h3.form
  exact h.keepN h1 tabC_no hg
end
set_option maxRecDepth 100000 in
set_option maxHeartbeats 4000000 in
theorem lfinds_c (v0 : Value) (L : List E) (v1 : Value) (A : List Bool) (v2 : Value) (Q : List Qn) (W : World) (hL : Ents W v0 L) (hA : Bools W v1 A) (hQ : Ques W v2 Q)
    (hz1 : v1 = .slice none 0 0 ∨ ∃ ad n c, v1 = .slice (some ad) n c) :
    Calls Try.prog 3 #[v0, v1, v2] W fun e w' => e = .returned (.bool true) ∧ Below W.heap.size W w' := by
  obtain ⟨a0, c0, rfl⟩ := hL.form
  obtain ⟨a1, c1, rfl⟩ := hA.form
  obtain ⟨a2, c2, rfl⟩ := hQ.form
  have HL := Lib.hid hL
  have HVA := Lib.hid hA
  have HQ := Lib.hid hQ
  have HZ1 := Lib.hid hz1
  clear hL hA hQ hz1
  obtain ⟨r, hr⟩ : ∃ r, decide (300 < L.length ∨ 100 < A.length ∨ 20 < Q.length) = r := ⟨_, rfl⟩
  have HLA : Hid (∀ w, Calls Try.prog 8 #[.slice a0 L.length c0, .slice a1 A.length c1, .slice a2 Q.length c2] w fun e w' => e = .returned (.bool r) ∧ w = w') := Lib.hid fun w => by rw [← hr]; exact large_c a0 a1 a2 L.length A.length Q.length c0 c1 c2 w
  have HAl := Lib.hid (@alive_c)
  cases r with
  | true =>
    clear hr HL HVA HQ
    go_enter Try.func3, Try.ntmps3
    go_wp2_with (first
      | (go_at_call 8; refine (HLA.out _).mono ?_; rintro e w' ⟨rfl, rfl⟩)
      | (go_at_call 9; refine (HAl.out _).mono ?_; rintro e w2 ⟨rfl, hb⟩; have HB2 := Lib.hid hb; clear hb))
    go_ret
    exact ⟨rfl, HB2.out⟩
  | false =>
    have hsz : L.length ≤ 300 ∧ A.length ≤ 100 ∧ Q.length ≤ 20 := by have := of_decide_eq_false hr; omega
    have hbA : A.length ≤ 1000 := by omega
    have hqn : Q.length ≤ 10000 := by omega
    have hb0 : ([] : List Bool).length ≤ 1000 := by decide
    have hnw := new_c (.slice a0 L.length c0) L (by omega) W HL.out
    have hml : (M L).length ≤ 10000 := by have := M_len L; omega
    have HFR : Hid (∀ w, Below W.heap.size W w → Calls Try.prog 11 #[.slice a0 L.length c0] w fun e w' => ∃ ve, e = .returned (.agg #[ve, .slice none 0 0]) ∧ Ents w' ve (M L) ∧ Below w.heap.size w w') := Lib.hid fun w h => first_c _ L (by omega) w (HL.out.keep h)
    have hst := M_strict L
    have hne := M_ne L
    generalize M L = ML at *
    have HNW := Lib.hid hnw
    have HST := Lib.hid hst
    have HNE := Lib.hid hne
    have HQN := Lib.hid hqn
    clear hr hsz hnw hst hne hqn
    go_enter Try.func3, Try.ntmps3
    go_upto_region 4 with (first
      | (go_at_call 8; refine (HLA.out _).mono ?_; rintro e w' ⟨rfl, rfl⟩)
      | (go_at_call 10
         refine HNW.out.mono ?_
         rintro e w1 ⟨g, rfl, hT, hg, hb⟩
         have HT1 := Lib.hid hT
         have HG := Lib.hid hg
         have HB1 := Lib.hid hb
         clear hT hg hb)
      | (go_at_call 11
         refine (HFR.out _ HB1.out).mono ?_
         rintro e w2 ⟨ve, rfl, hE, hb⟩
         have HE2 := Lib.hid hE
         have HT2 := Lib.hid (HT1.out.keep hb)
         have HB2 := Lib.hid (HB1.out.trans (hb.mono HB1.out.size))
         obtain ⟨ae, ce, rfl⟩ := hE.form
         clear hE hb))
    have hal : Below w2.heap.size w2 (w2.alloc (.cells #[.slice ae ML.length ce, .slice none 0 0] 30)) := (Below.refl _ w2).alloc (Nat.le_refl _) _
    have HT3 := Lib.hid (HT2.out.keep hal)
    have HE3 := Lib.hid (HE2.out.keep hal)
    have HB3 := Lib.hid (HB2.out.trans (hal.mono HB2.out.size))
    have HVA3 := Lib.hid (HVA.out.keep HB3.out)
    have HQ3 := Lib.hid (HQ.out.keep HB3.out)
    have HS3 := Lib.hid (Blk.new w2 30 #[.slice ae ML.length ce, .slice none 0 0])
    have hsg : w2.heap.size ≠ g := by have := HT2.out.lt; omega
    generalize w2.alloc (.cells #[.slice ae ML.length ce, .slice none 0 0] 30) = w3 at *
    generalize w2.heap.size = sb at *
    clear hal HT1 HT2 HE2 HB1 HB2 HVA HQ HL HLA HNW HFR
    obtain ⟨s0, s1⟩ : w3.cell? ⟨sb, 0, none⟩ = some (.slice ae ML.length ce) ∧ w3.cell? ⟨sb, 1, none⟩ = some (.slice none 0 0) := ⟨HS3.out.cell 0, HS3.out.cell 1⟩
    have HBN : Hid (Bools w3 (.slice none 0 0) []) := Lib.hid Bools.nil
    go_wp2_with (first
      | (go_at_call 12
         refine (lsameq_c HT6.out HST.out HNE.out hml hbA HE6.out HV6.out HQ6.out HQN.out).mono ?_
         rintro e w7 ⟨rfl, hb⟩
         have HB7 := Lib.hid (HB6.out.trans (hb.mono HB6.out.size))
         clear hb)
      | (go_at_call 12
         refine (lsameq_c HT3.out HST.out HNE.out hml hb0 HE3.out HBN.out HQ3.out HQN.out).mono ?_
         rintro e w4 ⟨rfl, hb⟩
         have HT4 := Lib.hid (HT3.out.keep hb)
         have HE4 := Lib.hid (HE3.out.keep hb)
         have HVA4 := Lib.hid (HVA3.out.keep hb)
         have HQ4 := Lib.hid (HQ3.out.keep hb)
         have HS4 : Hid (Blk _ sb 30 #[.slice ae ML.length ce, .slice none 0 0]) := Lib.hid (Blk.keep HS3.out hb)
         have HB4 := Lib.hid (HB3.out.trans (hb.mono HB3.out.size))
         clear hb s0 s1)
      | (go_at_call 13
         refine (activate_c HT4.out HVA4.out hbA).mono ?_
         rintro e w5 ⟨rfl, hT, hgr⟩
         have HT5 := Lib.hid hT
         have HE5 := Lib.hid (HT4.out.ents hgr HE4.out)
         have HVA5 := Lib.hid (HT4.out.bools hgr HVA4.out)
         have HQ5 := Lib.hid (HT4.out.ques hgr HQ4.out)
         have HS5 : Hid (Blk _ sb 30 #[.slice ae ML.length ce, .slice none 0 0]) := Lib.hid (TabS.blk hgr hsg HS4.out)
         have HB5 := Lib.hid (HB4.out.trans (grown_below hgr HB4.out.size HG.out))
         obtain ⟨s0, s1⟩ : w5.cell? ⟨sb, 0, none⟩ = some (.slice ae ML.length ce) ∧ w5.cell? ⟨sb, 1, none⟩ = some (.slice none 0 0) := ⟨HS5.out.cell 0, HS5.out.cell 1⟩
         clear hT hgr)
      | (go_at_call 14
         refine (ract_c _ _ _ A hbA _ HVA5.out ⟨_, _, _, rfl⟩ ⟨_, _, _, rfl⟩ HZ1.out).mono ?_
         rintro e w6 ⟨va, rfl, hV, hk, hb⟩
         have HV6 := Lib.hid hV
         have HT6 := Lib.hid (HT5.out.keep hb)
         have HE6 := Lib.hid (HE5.out.keep hb)
         have HQ6 := Lib.hid (HQ5.out.keep hb)
         have HB6 := Lib.hid (HB5.out.trans (hb.mono HB5.out.size))
         obtain ⟨av6, cv6, rfl⟩ := hV.form
         clear hV hk hb s0 s1)
      | (go_at_call 9
         refine (HAl.out _).mono ?_
         rintro e w8 ⟨rfl, hb⟩
         have HB8 := Lib.hid (HB7.out.trans (hb.mono HB7.out.size))
         clear hb))
    go_ret
    exact ⟨rfl, HB8.out⟩
end Go.Proofs.Ytomoldfgnbjliaa
