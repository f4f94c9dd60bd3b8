/- P15.4: Never returns what the reference returns: the law ExpandNever returns true for every policy, and its argument reads afterwards as before. Conditions: none. -/
import Derived.Test.YtjikbffnhfoikaaZah
namespace Go.Proofs.Ytjikbffnhfoikaa
open Go.RowKit Go.Sort Go.Maps
theorem allE_nev (L : List Ru) : (allE (nevR L)).length ≤ (allE L).length := by
  induction L with
  | nil => exact Nat.le_refl _
  | cons r R ih =>
    have e : allE (r :: R) = entsR r ++ allE R := rfl
    by_cases h : r.k = 4
    · have e2 : nevR (r :: R) = asA r :: nevR R := by unfold nevR; simp [h]
      have e3 : allE (asA r :: nevR R) = entsR (asA r) ++ allE (nevR R) := rfl
      have e4 : (entsR (asA r)).length = (entsR r).length := by unfold entsR; rw [List.length_map, List.length_map]; rfl
      rw [e2, e3, e, List.length_append, List.length_append, e4]
      omega
    · have e2 : nevR (r :: R) = nevR R := by unfold nevR; simp [h]
      rw [e2, e, List.length_append]
      omega
set_option maxRecDepth 100000 in
set_option maxHeartbeats 16000000 in
theorem lawNever_c (pu0 pu1 pu2 pu3 pu4 pu5 pu6 pu7 pu8 pv pu10 pu11 pu12 pu13 pu14 pu15 pu16 : Value) (L : List Ru) (w : World) (hE : Rus w pv L) (hL : L.length ≤ maxLen) : Calls Try.prog 6 #[.agg #[pu0, pu1, pu2, pu3, pu4, pu5, pu6, pu7, pu8, pv, pu10, pu11, pu12, pu13, pu14, pu15, pu16]] w fun e w' => e = .returned (.bool true) ∧ Below w.heap.size w w' := by
  have hb0 : Below w.heap.size w (w.alloc (.cells #[pu0, pu1, pu2, pu3, pu4, pu5, pu6, pu7, pu8, pv, pu10, pu11, pu12, pu13, pu14, pu15, pu16] 50)) := (Below.refl _ _).alloc (Nat.le_refl _) _
  have HP0 : Hid (Blk (w.alloc (.cells #[pu0, pu1, pu2, pu3, pu4, pu5, pu6, pu7, pu8, pv, pu10, pu11, pu12, pu13, pu14, pu15, pu16] 50)) w.heap.size 50 #[pu0, pu1, pu2, pu3, pu4, pu5, pu6, pu7, pu8, pv, pu10, pu11, pu12, pu13, pu14, pu15, pu16]) := Lib.hid (Blk.new w _ _)
  have HB0 := Lib.hid hb0
  have HE0 := Lib.hid (hE.keep hb0)
  clear hb0 hE
  by_cases hbig : L.length ≤ maxLen
  · skip
    go_enter Try.func6, Try.ntmps6
    go_upto_region 1 with fail
    generalize w.alloc (.cells #[pu0, pu1, pu2, pu3, pu4, pu5, pu6, pu7, pu8, pv, pu10, pu11, pu12, pu13, pu14, pu15, pu16] 50) = W at *
    generalize hgx : w.heap.size = gx at *
    skip
    cases hf : fewB L with
    | false =>
      have HF := Lib.hid hf
      clear hf
      go_wp2_with (first
        | (go_at_call 14; refine (few_c _ _ _ _ _ _ _ _ _ _ _ _ _ _ _ _ _ L _ HE0.out hbig).mono ?_; rintro e w1 ⟨rfl, hb1⟩; have HB1 := Lib.hid (HB0.out.trans (hb1.mono (by have := HB0.out.size; omega))); have hfb := HF.out; clear hb1)
        | (go_at_call 13; refine (awake_c _).mono ?_; rintro e w2 ⟨rfl, hb2⟩; have HB2 := Lib.hid (HB1.out.trans (hb2.mono (by have := HB1.out.size; omega))); clear hb2)
        | (with_reducible first | refine wpList_load_pol (by first | rfl | simp [Region.wanted, yielded]) _ rfl rfl HP4.out ?_ | refine wpList_load_pol (by first | rfl | simp [Region.wanted, yielded]) _ rfl rfl HP2.out ?_ | refine wpList_load_pol (by first | rfl | simp [Region.wanted, yielded]) _ rfl rfl HP1.out ?_ | refine wpList_load_pol (by first | rfl | simp [Region.wanted, yielded]) _ rfl rfl HP0.out ?_))
      go_ret
      exact ⟨rfl, by first | exact HB2.out | (rw [hgx]; exact HB2.out)⟩
    | true =>
      have HF := Lib.hid hf
      obtain ⟨hl40, hl400⟩ := fewB_le hf
      have hM400 : (M (allE L)).length ≤ 400 := Nat.le_trans (M_len _) hl400
      have HM4 := Lib.hid hM400
      have HL4 := Lib.hid hl40
      have HA4 := Lib.hid hl400
      have HN4 : Hid ((M (allE (nevR L))).length ≤ 400) := Lib.hid (Nat.le_trans (M_len _) (Nat.le_trans (allE_nev L) hl400))
      obtain ⟨S, hS⟩ : ∃ S, nevE (M (allE (nevR L))) (M (allE L)) = S := ⟨_, rfl⟩
      have HSS := Lib.hid hS
      have HSL : Hid (S.length ≤ 400) := Lib.hid (by rw [← hS]; exact Nat.le_trans (nevE_len _ _) hM400)
      clear hf hM400 hl40 hl400 hS
      go_upto_region 3 with (first | (with_reducible refine wpList_load_pol (by first | rfl | simp [Region.wanted, yielded]) _ rfl rfl HP0.out ?_) | (go_at_call 14; refine (few_c _ _ _ _ _ _ _ _ _ _ _ _ _ _ _ _ _ L _ HE0.out hbig).mono ?_; rintro e w1 ⟨rfl, hb1⟩; have HP1 := Lib.hid (Blk.keep HP0.out hb1); have HE1 := Lib.hid (HE0.out.keep hb1); have HB1 := Lib.hid (HB0.out.trans (hb1.mono (by have := HB0.out.size; omega))); have hfb := HF.out; clear hb1))
      refine wp_region_gen (fun _ u => Below w1.heap.size w1 u) (fun _ u u2 => Below u.heap.size u u2) (fun q v u => ((([.val (.agg #[pu0, pu1, pu2, pu3, pu4, pu5, pu6, pu7, pu8, pv, pu10, pu11, pu12, pu13, pu14, pu15, pu16]), .ents (S), .val (.agg #[pu0, pu1, pu2, pu3, pu4, pu5, pu6, pu7, pu8, pv, pu10, pu11, pu12, pu13, pu14, pu15, pu16]), .ents (S), .val (.bool true), .val (.bool true), .val (.bool true), .val (.bool true), .val (.bool true)] : List SpA)).getD q .tt).ok v u) (by kernel_rfl) (by kernel_rfl) (Below.refl _ _).drew (fun _ _ _ _ _ h hr => h.trans (hr.mono h.size)) [] (by kernel_rfl) (fun i j v u u2 _ _ h hr => SpA.keep h hr) ?_ ?_
      · refine ⟨⟨trivial, fun A v2 d hd hC hF hW K Q hk => ?_⟩, ⟨trivial, fun A v2 d hd hC hF hW K Q hk => ?_⟩, ⟨trivial, fun A v2 d hd hC hF hW K Q hk => ?_⟩, ⟨trivial, fun A v2 d hd hC hF hW K Q hk => ?_⟩, ⟨trivial, fun A v2 d hd hC hF hW K Q hk => ?_⟩, ⟨trivial, fun A v2 d hd hC hF hW K Q hk => ?_⟩, ⟨fun _ _ h => h, fun A v2 d hd hC hF hW K Q hk => ?_⟩, ⟨trivial, fun A v2 d hd hC hF hW K Q hk => ?_⟩, ⟨trivial, fun A v2 d hd hC hF hW K Q hk => ?_⟩, trivial⟩
        · have f1 : A.tmps[1]?.getD undef = .pointer (some ⟨gx, 0, none⟩) := fg_none (hF 1) (by kernel_rfl)
          refine Giv.wp ?_ hk
          unfold Giv
          rw [load_op (Blk.keep HP1.out hC) A 1 f1 _ rfl]
          exact giv_val (Below.refl _ _) rfl
        · have f7 : A.tmps[7]?.getD undef = .agg #[pu0, pu1, pu2, pu3, pu4, pu5, pu6, pu7, pu8, pv, pu10, pu11, pu12, pu13, pu14, pu15, pu16] := fg_some (hF 7) (j := 0) (by kernel_rfl) (by kernel_rfl)
          refine Giv.wp ?_ hk
          unfold Giv
          go_simp
          exact giv_enter ((never_c _ _ _ _ _ _ _ _ _ _ _ _ _ _ _ _ _ L (by have := HL4.out; omega) (by have := HM4.out; omega) (by have := HN4.out; omega) v2 (HE1.out.keep hC)).mono fun e w2 ⟨v3, he, hp, hb⟩ => ⟨v3, he, hb, HSS.out ▸ hp⟩)
        · have f1 : A.tmps[1]?.getD undef = .pointer (some ⟨gx, 0, none⟩) := fg_none (hF 1) (by kernel_rfl)
          refine Giv.wp ?_ hk
          unfold Giv
          rw [load_op (Blk.keep HP1.out hC) A 1 f1 _ rfl]
          exact giv_val (Below.refl _ _) rfl
        · have f9 : A.tmps[9]?.getD undef = .agg #[pu0, pu1, pu2, pu3, pu4, pu5, pu6, pu7, pu8, pv, pu10, pu11, pu12, pu13, pu14, pu15, pu16] := fg_some (hF 9) (j := 2) (by kernel_rfl) (by kernel_rfl)
          refine Giv.wp ?_ hk
          unfold Giv
          go_simp
          exact giv_enter ((rnever_c _ _ _ _ _ _ _ _ _ _ _ _ _ _ _ _ _ L (by have := HL4.out; omega) (by have := HA4.out; omega) v2 (HE1.out.keep hC)).mono fun e w2 ⟨v3, he, hp, hb⟩ => ⟨v3, he, hb, HSS.out ▸ hp⟩)
        · have s8 : Ents v2 (A.tmps[8]?.getD undef) S := fg_some (hF 8) (j := 1) (by kernel_rfl) (by kernel_rfl)
          have s10 : Ents v2 (A.tmps[10]?.getD undef) S := fg_some (hF 10) (j := 3) (by kernel_rfl) (by kernel_rfl)
          refine Giv.wp ?_ hk
          unfold Giv
          go_simp
          exact giv_enter ((rsame_c _ _ _ _ v2 s8 s10 (by have := HSL.out; omega)).mono fun e w2 ⟨he, hb⟩ => ⟨_, he, hb, congrArg Value.bool (decide_eq_true rfl)⟩)
        · have f11 : A.tmps[11]?.getD undef = .bool true := fg_some (hF 11) (j := 4) (by kernel_rfl) (by kernel_rfl)
          refine Giv.wp ?_ hk
          unfold Giv
          go_simp
          exact giv_val (Below.refl _ _) rfl
        · refine Giv.wp ?_ hk
          unfold Giv
          go_simp
          exact giv_enter ((awake_c v2).mono fun e w2 ⟨he, hb⟩ => ⟨_, he, hb, rfl⟩)
        · have f12 : A.tmps[12]?.getD undef = .bool true := fg_some (hF 12) (j := 5) (by kernel_rfl) (by kernel_rfl)
          have f13 : A.tmps[13]?.getD undef = .bool true := fg_some (hF 13) (j := 6) (by kernel_rfl) (by kernel_rfl)
          refine Giv.wp ?_ hk
          unfold Giv
          go_simp
          exact giv_val (Below.refl _ _) rfl
        · have f14 : A.tmps[14]?.getD undef = .bool true := fg_some (hF 14) (j := 7) (by kernel_rfl) (by kernel_rfl)
          refine Giv.wp ?_ hk
          unfold Giv
          go_simp
          exact giv_val (Below.refl _ _) rfl
      intro a W5 d hd hC hsz hdf hF hW
      have ha := end_gen [false, false, true, false, false, false, false, true, true, true, true, true, true, true, true] hsz hdf hF (by kernel_rfl)
      have f2 : a.tmps[2]?.getD undef = .bool true := fe_some (hF 2) (j := 8) (by kernel_rfl)
      rw [ha]
      clear ha hF hW
      simp only [cutM_yes, cutM_no, cutM_nil, Nat.reduceAdd]
      rw [f2]
      have HBE := Lib.hid (HB1.out.trans (hC.mono (by have := HB1.out.size; omega)))
      clear hC
      go_wp2_with fail
      go_ret
      exact ⟨rfl, by first | exact HBE.out | (rw [hgx]; exact HBE.out)⟩
  · exact absurd hL hbig
end Go.Proofs.Ytjikbffnhfoikaa
namespace Go.Proofs.Ytjikbffnhfoikaa.expandNever
open Go.ChangeShapes Go.WideShapes Go.ChangeAt Go.RowKit
set_option maxRecDepth 100000 in
set_option maxHeartbeats 1000000 in
theorem lifted (os : Os) (started : os.Started) (H : Type) (enc : TypeId × Value → H) :
    ReturnsInHanded {} Try.checked os 6 .any (Rows.expandNeverSpec.pre6 enc Try.prog Try.f6 Rows.expandNeverRow.domain false) (Rows.expandNeverSpec.post enc Try.prog Try.f6 false true false false) := by
  refine returnsInHanded_of_change (C := Try.checked) Try.own started (by kernel_rfl) Try.func6
    (ChangeSpec.witness6 (enc := enc) (C := Try.checked) false ⟨#[], #[.agg #[.slice none 0 0, .slice none 0 0, .slice none 0 0, .slice none 0 0, .slice none 0 0, .slice none 0 0, .slice none 0 0, .slice none 0 0, .slice none 0 0, .slice none 0 0, .slice none 0 0, .slice none 0 0, .slice none 0 0, .slice none 0 0, .slice none 0 0, .slice none 0 0, .slice none 0 0]], []⟩ 8 (by kernel_rfl) (by kernel_rfl) (by kernel_rfl) (by kernel_rfl)) ?_
  intro W base args ds gs before hval0 hW hcnd _
  have hval : ∀ (j : Nat) t v, Try.f6.params[j]? = some t → args[j]? = some v → Value.okWide Try.prog W .any base t v := hval0
  have hW' := hW
  obtain ⟨p, q, hA0, hV, rfl, hfz, hnd⟩ := hW
  have hA : DataW.TrodAll enc Try.prog W 0 (fun _ => true) true Try.f6.params.toList args.toList ds p := hA0
  rw [Try.params6] at hA hval
  obtain ⟨v0, vs0, d0, ds0, p0, q0, hargs, rfl, rfl, h0, r0⟩ := trodAll_cons hA
  obtain ⟨rfl, rfl, rfl⟩ := trodAll_nil r0
  obtain rfl : args = #[v0] := by cases args; simp_all
  obtain ⟨rfl, rfl⟩ := trodVars_none hV
  have lt0 : ∀ x ∈ p0, x.block < W.heap.size := by obtain ⟨m, hm⟩ := h0; exact DataW.trod_lt m _ _ _ hm
  have k0 := h0
  obtain ⟨a0, a1, a2, a3, a4, a5, a6, a7, a8, a9, a10, a11, a12, a13, a14, a15, a16, L0, rfl, hL0, m0⟩ := open_policy (hval 0 50 v0 rfl rfl) h0
  clear hA0 hval0
  refine (lawNever_c _ _ _ _ _ _ _ _ _ _ _ _ _ _ _ _ _ L0 W hL0 m0).mono fun e W' ⟨he, bel⟩ => ?_
  subst he
  exact ⟨_, rfl, _, _, _, [], _, [], hW', trodAll_mk1 (shut_bool Try.underlying4 _), (trodAll_cons_mk (Below.trod Try.laidOut (by kernel_rfl) (of_decide_eq_true (by kernel_rfl)) k0 bel lt0) trodAll_mk0), rfl, bel.frame _, fun h => by cases h⟩
theorem proved : Rows.ExpandNeverSaid :=
  OpenClaim.holds_of_wide 6 Try.f6 rfl rfl rfl rfl rfl rfl rfl ⟨rfl, rfl, rfl, rfl, rfl⟩ rfl rfl rfl rfl rfl (by kernel_rfl) Try.func6 (by kernel_rfl)
    (of_decide_eq_true (by kernel_rfl)) (by unfold Func.isWrapper; first | (rw [if_pos (by decide +kernel)]; kernel_rfl) | (rw [if_neg (by decide +kernel)]; exact ⟨rfl, rfl⟩))
    (fun os started H enc _ => lifted os started H enc)
#print axioms proved
end Go.Proofs.Ytjikbffnhfoikaa.expandNever
