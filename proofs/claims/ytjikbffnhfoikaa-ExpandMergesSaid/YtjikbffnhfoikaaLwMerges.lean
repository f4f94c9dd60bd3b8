/- P15.3, P15.7: Merge returns what the reference returns, and does not change a merged list: the law ExpandMerges returns true for every list of entries, and its argument reads afterwards as before. Conditions: none. -/
import Derived.Test.YtjikbffnhfoikaaZag
namespace Go.Proofs.Ytjikbffnhfoikaa
open Go.RowKit Go.Sort Go.Maps
set_option maxRecDepth 100000 in
set_option maxHeartbeats 8000000 in
theorem lawMerges_c (vL : Value) (L : List E) (w : World) (hE : Ents w vL L) (hL : L.length ≤ maxLen) : Calls Try.prog 5 #[vL] w fun e w' => e = .returned (.bool true) ∧ Below w.heap.size w w' := by
  unfold maxLen at hL
  have HE0 := Lib.hid hE
  obtain ⟨ao, cap, e, -, -⟩ := hE
  have hlI : (L.length : Int) ≤ 9223372036854775807 := by omega
  by_cases h3 : 300 < L.length
  · subst e
    have h3I : (300 : Int) < (L.length : Int) := by omega
    go_enter Try.func5, Try.ntmps5
    go_wp2_with (go_at_call 13; refine (awake_c _).mono ?_; rintro e w1 ⟨rfl, hb1⟩)
    go_ret
    exact ⟨rfl, hb1⟩
  · have h3I : ¬ (300 : Int) < (L.length : Int) := by omega
    have HLM := Lib.hid (M_len L)
    subst e
    go_enter Try.func5, Try.ntmps5
    go_upto_region 4 with (go_at_call 19; refine (merge_c _ L (by omega) _ HE0.out).mono ?_; rintro e W ⟨va, rfl, hM, hb1⟩; have HMA := Lib.hid hM; have HB0 := Lib.hid hb1; have HE := Lib.hid (HE0.out.keep hb1); obtain ⟨am, cm, hvm, -⟩ := hM; subst hvm; clear hb1)
    go_wp2_with (first
      | (go_at_call 20; refine (rmerge_c _ L (by omega) _ HE.out).mono ?_; rintro e w1 ⟨v1, rfl, h1, hb1⟩; have H1 := Lib.hid h1; have HM1 := Lib.hid (HMA.out.keep hb1); have HB1 := Lib.hid (HB0.out.trans (hb1.mono (by have := HB0.out.size; omega))); clear h1 hb1)
      | (go_at_call 16; first
        | (refine (rsame_c _ _ (M L) (M L) _ H3.out HM3.out (by have := HLM.out; omega)).mono ?_; rintro e w4 ⟨rfl, hb4⟩; have HB4 := Lib.hid (HB3.out.trans (hb4.mono (by have := HB3.out.size; omega))); have hd4 : decide (M L = M L) = true := decide_eq_true rfl; clear hb4)
        | (refine (rsame_c _ _ (M L) (M L) _ HM1.out H1.out (by have := HLM.out; omega)).mono ?_; rintro e w2 ⟨rfl, hb2⟩; have HM2 := Lib.hid (HM1.out.keep hb2); have HB2 := Lib.hid (HB1.out.trans (hb2.mono (by have := HB1.out.size; omega))); have hd2 : decide (M L = M L) = true := decide_eq_true rfl; clear hb2))
      | (go_at_call 19; refine (merge_c _ (M L) (by have := HLM.out; omega) _ HM2.out).mono ?_; rintro e w3 ⟨v3, rfl, h3, hb3⟩; rw [M_M L] at h3; have H3 := Lib.hid h3; have HM3 := Lib.hid (HM2.out.keep hb3); have HB3 := Lib.hid (HB2.out.trans (hb3.mono (by have := HB2.out.size; omega))); clear h3 hb3)
      | (go_at_call 13; refine (awake_c _).mono ?_; rintro e w5 ⟨rfl, hb5⟩; have HB5 := Lib.hid (HB4.out.trans (hb5.mono (by have := HB4.out.size; omega))); clear hb5))
    go_ret
    exact ⟨rfl, HB5.out⟩
end Go.Proofs.Ytjikbffnhfoikaa
namespace Go.Proofs.Ytjikbffnhfoikaa.expandMerges
open Go.ChangeShapes Go.WideShapes Go.ChangeAt Go.RowKit
set_option maxRecDepth 100000 in
set_option maxHeartbeats 1000000 in
theorem lifted (os : Os) (started : os.Started) (H : Type) (enc : TypeId × Value → H) :
    ReturnsInHanded {} Try.checked os 5 .any (Rows.expandMergesSpec.pre6 enc Try.prog Try.f5 Rows.expandMergesRow.domain false) (Rows.expandMergesSpec.post enc Try.prog Try.f5 false true false false) := by
  refine returnsInHanded_of_change (C := Try.checked) Try.own started (by kernel_rfl) Try.func5
    (ChangeSpec.witness6 (enc := enc) (C := Try.checked) false ⟨#[], #[.slice none 0 0], []⟩ 8 (by kernel_rfl) (by kernel_rfl) (by kernel_rfl) (by kernel_rfl)) ?_
  intro W base args ds gs before hval0 hW hcnd _
  have hval : ∀ (j : Nat) t v, Try.f5.params[j]? = some t → args[j]? = some v → Value.okWide Try.prog W .any base t v := hval0
  have hW' := hW
  obtain ⟨p, q, hA0, hV, rfl, hfz, hnd⟩ := hW
  have hA : DataW.TrodAll enc Try.prog W 0 (fun _ => true) true Try.f5.params.toList args.toList ds p := hA0
  rw [Try.params5] at hA hval
  obtain ⟨v0, vs0, d0, ds0, p0, q0, hargs, rfl, rfl, h0, r0⟩ := trodAll_cons hA
  obtain ⟨rfl, rfl, rfl⟩ := trodAll_nil r0
  obtain rfl : args = #[v0] := by cases args; simp_all
  obtain ⟨rfl, rfl⟩ := trodVars_none hV
  have lt0 : ∀ x ∈ p0, x.block < W.heap.size := by obtain ⟨m, hm⟩ := h0; exact DataW.trod_lt m _ _ _ hm
  have k0 := h0
  obtain ⟨L0, hL0, m0⟩ := open_ents (hval 0 52 v0 rfl rfl) h0
  clear hA0 hval0
  refine (lawMerges_c v0 L0 W hL0 m0).mono fun e W' ⟨he, bel⟩ => ?_
  subst he
  exact ⟨_, rfl, _, _, _, [], _, [], hW', trodAll_mk1 (shut_bool Try.underlying4 _), (trodAll_cons_mk (Below.trod Try.laidOut (by kernel_rfl) (of_decide_eq_true (by kernel_rfl)) k0 bel lt0) trodAll_mk0), rfl, bel.frame _, fun h => by cases h⟩
theorem proved : Rows.ExpandMergesSaid :=
  OpenClaim.holds_of_wide 5 Try.f5 rfl rfl rfl rfl rfl rfl rfl ⟨rfl, rfl, rfl, rfl, rfl⟩ rfl rfl rfl rfl rfl (by kernel_rfl) Try.func5 (by kernel_rfl)
    (of_decide_eq_true (by kernel_rfl)) (by unfold Func.isWrapper; first | (rw [if_pos (by decide +kernel)]; kernel_rfl) | (rw [if_neg (by decide +kernel)]; exact ⟨rfl, rfl⟩))
    (fun os started H enc _ => lifted os started H enc)
#print axioms proved
end Go.Proofs.Ytjikbffnhfoikaa.expandMerges
