/- P15.2: Entries and Count return what the reference returns: the law ExpandExact returns true for every policy, and its argument reads afterwards as before. Conditions: none. -/
import Derived.Test.YtjikbffnhfoikaaZah
namespace Go.Proofs.Ytjikbffnhfoikaa
open Go.RowKit Go.Sort Go.Maps
set_option maxRecDepth 100000 in
set_option maxHeartbeats 16000000 in
theorem lawExact_c (pu0 pu1 pu2 pu3 pu4 pu5 pu6 pu7 pu8 pv pu10 pu11 pu12 pu13 pu14 pu15 pu16 : Value) (L : List Ru) (w : World) (hE : Rus w pv L) (hL : L.length ≤ maxLen) : Calls Try.prog 4 #[.agg #[pu0, pu1, pu2, pu3, pu4, pu5, pu6, pu7, pu8, pv, pu10, pu11, pu12, pu13, pu14, pu15, pu16]] w fun e w' => e = .returned (.bool true) ∧ Below w.heap.size w w' := by
  have hb0 : Below w.heap.size w (w.alloc (.cells #[pu0, pu1, pu2, pu3, pu4, pu5, pu6, pu7, pu8, pv, pu10, pu11, pu12, pu13, pu14, pu15, pu16] 50)) := (Below.refl _ _).alloc (Nat.le_refl _) _
  have HP0 : Hid (Blk (w.alloc (.cells #[pu0, pu1, pu2, pu3, pu4, pu5, pu6, pu7, pu8, pv, pu10, pu11, pu12, pu13, pu14, pu15, pu16] 50)) w.heap.size 50 #[pu0, pu1, pu2, pu3, pu4, pu5, pu6, pu7, pu8, pv, pu10, pu11, pu12, pu13, pu14, pu15, pu16]) := Lib.hid (Blk.new w _ _)
  have HB0 := Lib.hid hb0
  have HE0 := Lib.hid (hE.keep hb0)
  clear hb0 hE
  by_cases hbig : L.length ≤ maxLen
  · skip
    go_enter Try.func4, Try.ntmps4
    go_upto_region 1 with fail
    generalize w.alloc (.cells #[pu0, pu1, pu2, pu3, pu4, pu5, pu6, pu7, pu8, pv, pu10, pu11, pu12, pu13, pu14, pu15, pu16] 50) = W at *
    generalize hgx : w.heap.size = gx at *
    skip
    cases hf : fewB L with
    | false =>
      have HF := Lib.hid hf
      clear hf
      go_wp2_with (first
        | (go_at_call 14; refine (few_c _ _ _ _ _ _ _ _ _ _ _ _ _ _ _ _ _ L _ HE0.out hbig).mono ?_; rintro e w1 ⟨rfl, hb1⟩; have HB1 := Lib.hid (HB0.out.trans (hb1.mono (by have := HB0.out.size; omega))); have hfb := HF.out; clear hb1)
        | (go_at_call 13; refine (awake_c _).mono ?_; rintro e w2 ⟨rfl, hb2⟩; have HB2 := Lib.hid (HB1.out.trans (hb2.mono (by have := HB1.out.size; omega))); clear hb2)
        | (with_reducible first | refine wpList_load_pol (by first | rfl | simp [Region.wanted, yielded]) _ rfl rfl HP4.out ?_ | refine wpList_load_pol (by first | rfl | simp [Region.wanted, yielded]) _ rfl rfl HP2.out ?_ | refine wpList_load_pol (by first | rfl | simp [Region.wanted, yielded]) _ rfl rfl HP1.out ?_ | refine wpList_load_pol (by first | rfl | simp [Region.wanted, yielded]) _ rfl rfl HP0.out ?_))
      go_ret
      exact ⟨rfl, by first | exact HB2.out | (rw [hgx]; exact HB2.out)⟩
    | true =>
      have HF := Lib.hid hf
      obtain ⟨hl40, hl400⟩ := fewB_le hf
      have hM400 : (M (allE L)).length ≤ 400 := Nat.le_trans (M_len _) hl400
      have HM4 := Lib.hid hM400
      have HL4 := Lib.hid hl40
      have HA4 := Lib.hid hl400
      clear hf hM400 hl40 hl400
      go_wp2_with (first
        | (go_at_call 14; refine (few_c _ _ _ _ _ _ _ _ _ _ _ _ _ _ _ _ _ L _ HE0.out hbig).mono ?_; rintro e w1 ⟨rfl, hb1⟩; have HP1 := Lib.hid (Blk.keep HP0.out hb1); have HE1 := Lib.hid (HE0.out.keep hb1); have HB1 := Lib.hid (HB0.out.trans (hb1.mono (by have := HB0.out.size; omega))); have hfb := HF.out; skip; clear hb1)
        | (go_at_call 15; refine (rentries_c _ _ _ _ _ _ _ _ _ _ _ _ _ _ _ _ _ L (by have := HL4.out; omega) (by have := HA4.out; omega) _ HE1.out).mono ?_; rintro e w2 ⟨v2, rfl, h2, hb2⟩; have HP2 := Lib.hid (Blk.keep HP1.out hb2); have HE2 := Lib.hid (HE1.out.keep hb2); have HB2 := Lib.hid (HB1.out.trans (hb2.mono (by have := HB1.out.size; omega))); have H2 := Lib.hid h2; skip; clear hb2 h2)
        | (go_at_call 17; refine (entries_c _ _ _ _ _ _ _ _ _ _ _ _ _ _ _ _ _ L (by have := HL4.out; omega) (by have := HM4.out; omega) _ HE2.out).mono ?_; rintro e w3 ⟨v3, rfl, h3, hb3⟩; have HP3 := Lib.hid (Blk.keep HP2.out hb3); have HE3 := Lib.hid (HE2.out.keep hb3); have HB3 := Lib.hid (HB2.out.trans (hb3.mono (by have := HB2.out.size; omega))); have H3 := Lib.hid h3; have H23 := Lib.hid (H2.out.keep hb3); clear hb3 h3)
        | (go_at_call 16; refine (rsame_c _ _ (M (allE L)) (M (allE L)) _ H3.out H23.out (by have := HM4.out; omega)).mono ?_; rintro e w4 ⟨rfl, hb4⟩; have HP4 := Lib.hid (Blk.keep HP3.out hb4); have HE4 := Lib.hid (HE3.out.keep hb4); have H24 := Lib.hid (H23.out.keep hb4); have HB4 := Lib.hid (HB3.out.trans (hb4.mono (by have := HB3.out.size; omega))); have hd4 : decide (M (allE L) = M (allE L)) = true := decide_eq_true rfl; obtain ⟨a2, c2, hv2, -⟩ := H24.out; subst hv2; skip; clear hb4)
        | (go_at_call 18; refine (count_c' _ _ _ _ _ _ _ _ _ _ _ _ _ _ _ _ _ L (by have := HL4.out; omega) (by have := HM4.out; omega) _ HE4.out).mono ?_; rintro e w5 ⟨rfl, hb5⟩; have HB5 := Lib.hid (HB4.out.trans (hb5.mono (by have := HB4.out.size; omega))); clear hb5)
        | (go_at_call 13; refine (awake_c _).mono ?_; rintro e w6 ⟨rfl, hb6⟩; have HB6 := Lib.hid (HB5.out.trans (hb6.mono (by have := HB5.out.size; omega))); clear hb6)
        | (with_reducible first | refine wpList_load_pol (by first | rfl | simp [Region.wanted, yielded]) _ rfl rfl HP4.out ?_ | refine wpList_load_pol (by first | rfl | simp [Region.wanted, yielded]) _ rfl rfl HP2.out ?_ | refine wpList_load_pol (by first | rfl | simp [Region.wanted, yielded]) _ rfl rfl HP1.out ?_ | refine wpList_load_pol (by first | rfl | simp [Region.wanted, yielded]) _ rfl rfl HP0.out ?_))
      go_ret
      exact ⟨rfl, by first | exact HB6.out | (rw [hgx]; exact HB6.out)⟩
  · exact absurd hL hbig
end Go.Proofs.Ytjikbffnhfoikaa
namespace Go.Proofs.Ytjikbffnhfoikaa.expandExact
open Go.ChangeShapes Go.WideShapes Go.ChangeAt Go.RowKit
set_option maxRecDepth 100000 in
set_option maxHeartbeats 1000000 in
theorem lifted (os : Os) (started : os.Started) (H : Type) (enc : TypeId × Value → H) :
    ReturnsInHanded {} Try.checked os 4 .any (Rows.expandExactSpec.pre6 enc Try.prog Try.f4 Rows.expandExactRow.domain false) (Rows.expandExactSpec.post enc Try.prog Try.f4 false true false false) := by
  refine returnsInHanded_of_change (C := Try.checked) Try.own started (by kernel_rfl) Try.func4
    (ChangeSpec.witness6 (enc := enc) (C := Try.checked) false ⟨#[], #[.agg #[.slice none 0 0, .slice none 0 0, .slice none 0 0, .slice none 0 0, .slice none 0 0, .slice none 0 0, .slice none 0 0, .slice none 0 0, .slice none 0 0, .slice none 0 0, .slice none 0 0, .slice none 0 0, .slice none 0 0, .slice none 0 0, .slice none 0 0, .slice none 0 0, .slice none 0 0]], []⟩ 8 (by kernel_rfl) (by kernel_rfl) (by kernel_rfl) (by kernel_rfl)) ?_
  intro W base args ds gs before hval0 hW hcnd _
  have hval : ∀ (j : Nat) t v, Try.f4.params[j]? = some t → args[j]? = some v → Value.okWide Try.prog W .any base t v := hval0
  have hW' := hW
  obtain ⟨p, q, hA0, hV, rfl, hfz, hnd⟩ := hW
  have hA : DataW.TrodAll enc Try.prog W 0 (fun _ => true) true Try.f4.params.toList args.toList ds p := hA0
  rw [Try.params4] at hA hval
  obtain ⟨v0, vs0, d0, ds0, p0, q0, hargs, rfl, rfl, h0, r0⟩ := trodAll_cons hA
  obtain ⟨rfl, rfl, rfl⟩ := trodAll_nil r0
  obtain rfl : args = #[v0] := by cases args; simp_all
  obtain ⟨rfl, rfl⟩ := trodVars_none hV
  have lt0 : ∀ x ∈ p0, x.block < W.heap.size := by obtain ⟨m, hm⟩ := h0; exact DataW.trod_lt m _ _ _ hm
  have k0 := h0
  obtain ⟨a0, a1, a2, a3, a4, a5, a6, a7, a8, a9, a10, a11, a12, a13, a14, a15, a16, L0, rfl, hL0, m0⟩ := open_policy (hval 0 50 v0 rfl rfl) h0
  clear hA0 hval0
  refine (lawExact_c _ _ _ _ _ _ _ _ _ _ _ _ _ _ _ _ _ L0 W hL0 m0).mono fun e W' ⟨he, bel⟩ => ?_
  subst he
  exact ⟨_, rfl, _, _, _, [], _, [], hW', trodAll_mk1 (shut_bool Try.underlying4 _), (trodAll_cons_mk (Below.trod Try.laidOut (by kernel_rfl) (of_decide_eq_true (by kernel_rfl)) k0 bel lt0) trodAll_mk0), rfl, bel.frame _, fun h => by cases h⟩
theorem proved : Rows.ExpandExactSaid :=
  OpenClaim.holds_of_wide 4 Try.f4 rfl rfl rfl rfl rfl rfl rfl ⟨rfl, rfl, rfl, rfl, rfl⟩ rfl rfl rfl rfl rfl (by kernel_rfl) Try.func4 (by kernel_rfl)
    (of_decide_eq_true (by kernel_rfl)) (by unfold Func.isWrapper; first | (rw [if_pos (by decide +kernel)]; kernel_rfl) | (rw [if_neg (by decide +kernel)]; exact ⟨rfl, rfl⟩))
    (fun os started H enc _ => lifted os started H enc)
#print axioms proved
end Go.Proofs.Ytjikbffnhfoikaa.expandExact
