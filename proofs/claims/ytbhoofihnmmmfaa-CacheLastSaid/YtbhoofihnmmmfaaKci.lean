/- Orders: a copy. -/
import Derived.Test.YtbhoofihnmmmfaaKch
namespace Go.Proofs.Ytbhoofihnmmmfaa
open Go.RowKit Go.Maps Go.WideElems Go.WideShapes
theorem pb_zero {S : List Lk} {r : Nat} : pb S r 0 = r := rfl
theorem drop_at {S : List Lk} {i : Nat} (h : i < S.length) : S.drop i = S[i] :: S.drop (i + 1) := (List.getElem_cons_drop h).symm
theorem drop_fresh {S : List Lk} {i : Nat} (h : i < S.length) (hn : (keysK (S.map Lk.en)).Nodup) : hasK ((S.drop (i + 1)).map Lk.en) S[i].k = false := by
  cases e : hasK ((S.drop (i + 1)).map Lk.en) S[i].k
  · rfl
  · have h1 := hasK_iff.1 e
    rw [keysK_map] at h1 hn
    have h2 : (S.drop i).map Lk.k = S[i].k :: (S.drop (i + 1)).map Lk.k := by rw [drop_at h, List.map_cons]
    have h3 : ((S.drop i).map Lk.k).Nodup := hn.sublist ((List.drop_sublist i S).map _)
    rw [h2] at h3
    exact absurd h1 (List.nodup_cons.1 h3).1
section
variable {w w' w1 w2 w3 w4 w5 : World} {o r m : Nat} {S S1 S2 T : List Lk} {k : K3} {d : Dc} {x : Lk} {F : Nat → Prop} {D : DataW Value}
set_option maxRecDepth 100000 in
set_option maxHeartbeats 8000000 in
theorem copy_c (h : Ord w o r m S) (hS : S.length ≤ 100000) :
    Calls Try.prog 35 #[.pointer (some ⟨o, 0, none⟩)] w fun e w' => ∃ c r2 m2 T, e = .returned (.pointer (some ⟨c, 0, none⟩)) ∧ Ord w' c r2 m2 T ∧ T.map Lk.en = S.map Lk.en ∧ (∀ j, Of c r2 m2 T j → w.heap.size ≤ j) ∧ Below w.heap.size w w' := by
  have HKD := Lib.hid h.kd
  have HWK := Lib.hid h.wk
  obtain ⟨N, V, hL, hc⟩ := h.ring
  have HL := Lib.hid hL
  have HK := Lib.hid h.blk
  have HR : Hid (∀ x ∈ S, x.g ≠ r) := Lib.hid fun x hx e => by
    have := (List.nodup_cons.1 h.nd).1
    exact this (e ▸ List.mem_map_of_mem hx)
  have HF : Hid (∀ i (hi : i < S.length), V (S[i]).g = pb S r i) := Lib.hid fun i hi => prev_at hc hi
  have HF0 := Lib.hid (prev_last hc)
  have HNO := Lib.hid (newOrder_c w)
  clear hL h hc
  obtain ⟨n, hN⟩ : ∃ n, S.length = n := ⟨_, rfl⟩
  have HN := Lib.hid hN
  rw [hN] at hS
  clear hN
  go_enter Try.func35, Try.ntmps35
  go_upto_region 2 with (go_at_call 27; refine HNO.out.mono ?_; rintro e w1 ⟨c, r2, m2, rfl, ho1, hb1, l1, l2, l3⟩)
  have HO1 := Lib.hid ho1
  have HB1 := Lib.hid hb1
  have hl0 : ∀ j, Of c r2 m2 [] j → w.heap.size ≤ j := by
    rintro j (rfl | rfl | rfl | ⟨x, hx, _⟩)
    · exact l1
    · exact l2
    · exact l3
    · cases hx
  have HL0 := Lib.hid hl0
  clear ho1 hb1 l1 l2 l3 hl0
  have c1 := (HK.out.keep HB1.out).cell 1
  simp only [List.getElem?_toArray, List.getElem?_cons_succ, List.getElem?_cons_zero] at c1
  have r9 := ((HL.out.keep HB1.out).cells (x := hd r) (by simp)).2.2.2.2.2.2.2.2.2
  simp only [hd] at r9
  rw [HF0.out, HN.out] at r9
  go_wp2_with fail
  clear r9 c1
  go_loopg [4] n (fun k va wr => ∃ T, k ≤ n ∧ va = .pointer (some ⟨pb S r k, 0, none⟩) ∧ Hid (Ord wr c r2 m2 T) ∧ Hid (T.map Lk.en = (S.drop k).map Lk.en) ∧ Hid (∀ j, Of c r2 m2 T j → w.heap.size ≤ j) ∧ Hid (Below w.heap.size w wr))
  case atStart => exact ⟨[], Nat.le_refl _, rfl, HO1, Lib.hid (by rw [← HN.out, List.drop_length]), HL0, HB1⟩
  case round =>
    clear HO1 HB1 HL0
    obtain ⟨T, hk, rfl, HO, HT, HOL, HW⟩ := hrel
    have c1 := (HK.out.keep HW.out).cell 1
    simp only [List.getElem?_toArray, List.getElem?_cons_succ, List.getElem?_cons_zero] at c1
    have hL := HL.out.keep HW.out
    rcases Nat.eq_zero_or_pos gk with rfl | hpos
    · have hq := neqLink_same r wr
      clear hL
      rw [pb_zero]
      go_wp2_with fail
      go_ret
      exact ⟨c, r2, m2, T, rfl, HO.out, HT.out, HOL.out, HW.out⟩
    · obtain ⟨i, rfl⟩ : ∃ i, gk = i + 1 := ⟨gk - 1, by omega⟩
      have hltL : i < S.length := by rw [HN.out]; omega
      have hpl : pb S r (i + 1) = S[i].g := pl_lt hltL
      have hnx := HF.out i hltL
      have hdr := drop_at hltL
      have hfr := drop_fresh hltL HKD.out
      have hxm : S[i] ∈ S := List.getElem_mem hltL
      generalize S[i] = x at hpl hnx hdr hfr hxm
      rw [hpl]
      have hq := neqLink_other (hL x (by simp [hxm])) (hL (hd r) (by simp)) (HR.out x hxm)
      simp only [hd] at hq
      have HTL : Hid (T.length ≤ 100000) := Lib.hid (by
        have e := congrArg List.length HT.out
        rw [List.length_map, List.length_map, List.length_drop] at e
        have := HN.out
        omega)
      have HPU := Lib.hid (put_c x.k x.d HO.out (HWK.out x hxm) HTL.out)
      have HXC : Hid (∀ u, Kp wr u → LB u (hd r :: S) N V) := Lib.hid (fun u hu => hL.keep hu)
      have HDR := Lib.hid hdr
      have HFR := Lib.hid hfr
      have HXM := Lib.hid hxm
      have HNX := Lib.hid hnx
      clear hL hdr hfr hxm hnx hpl
      go_upto_region 5 with fail
      refine wp_region_kt 9 (by kernel_rfl) (by kernel_rfl) ?_
      simp only [List.take_succ_cons, List.take_zero, List.drop_succ_cons, List.drop_zero]
      repeat (first
        | go_big_quiet_skip
        | (go_big_quiet_want
           first
             | (go_big_quiet_op
                first
                  | go_big_quiet_on
                  | (apply Exists.intro
                     refine ⟨fun w1 hC => ?_, ?_⟩
                     · first
                         | (obtain ⟨k0, k1, k2, k3, k4, k5, k6, k7, _, _⟩ := (HXC.out w1 hC).cells (x := x) (by simp [HXM.out]); go_simp; exact ⟨rfl, rfl⟩)
                         | (obtain ⟨k0, k1, k2, k3, k4, k5, k6, k7, _, _⟩ := (HXC.out w1 hC).cells (x := x) (by simp [HXM.out]); go_simp; exact rfl)
                         | exact rfl
                         | (go_simp; exact ⟨rfl, rfl⟩)
                     go_big_quiet_on))))
      refine wpQuiet_nil ?_
      intro W3 hC3
      have HPU2 := Lib.hid (put_c x.k x.d (HO.out.keep hC3) (HWK.out x HXM.out) HTL.out)
      have HB3 : Hid (Below w.heap.size w W3) := Lib.hid (HW.out.trans (Below.mono hC3 HW.out.size))
      clear HPU hC3
      go_wp2_with (first | (go_at_call 40; refine HPU2.out.mono ?_; rintro e w4 ⟨rfl, T4, ho4, ht4, hf4, ha4⟩; have HB4 : Hid (Below w.heap.size w w4) := Lib.hid (HB3.out.trans (ha4.below HB3.out.size HOL.out)); have HO4 := Lib.hid ho4; have HT4 := Lib.hid ht4; have HF4 := Lib.hid hf4; have c9 := ((HL.out.keep HB4.out).cells (x := x) (by simp [HXM.out])).2.2.2.2.2.2.2.2.2; rw [HNX.out] at c9; clear ho4 ht4 hf4 ha4) | fail)
      go_roundg i
      case measure => omega
      case rel =>
        refine ⟨T4, by omega, rfl, HO4, Lib.hid ?_, Lib.hid ?_, HB4⟩
        · rw [HT4.out, HT.out, delK_of_not HFR.out, HDR.out]; rfl
        · intro j hj
          rcases HF4.out j hj with h | h
          · exact HOL.out j h
          · have := HB3.out.size; omega
end
end Go.Proofs.Ytbhoofihnmmmfaa
