/- The reference's Targets and Sources. -/
import Derived.Test.YtomoldfgnbjliaaAxs
namespace Go.Proofs.Ytomoldfgnbjliaa
open Go.RowKit Go.Sort Go.Shelf
theorem rtgt_snoc (pm : BitVec 32) (a c : Int) (l : List E) (x : E) : tgtL pm ((l ++ [x]).filter (PT a c)) = if PT a c x && allowP pm x then tgtL pm (l.filter (PT a c)) ++ [x.t] else tgtL pm (l.filter (PT a c)) := by
  unfold tgtL
  rw [List.filter_append]
  cases h1 : PT a c x <;> cases h2 : allowP pm x <;> simp [h1, h2]
set_option maxRecDepth 100000 in
set_option maxHeartbeats 4000000 in
theorem rtgt_c {w : World} {ve vv : Value} {L : List E} {vs : List Bool} (hE : Ents w ve L) (hV : Bools w vv vs) (hl : L.length ≤ 10000) (hn : vs.length ≤ 1000) (a c : Int) (pm : BitVec 32) :
    Calls Try.prog 35 #[.agg #[ve, vv], .int .i64 a, .int .i64 c, .int .u32 (vI pm)] w (IntsOut w (tgtL pm ((V0 vs L).filter (PT a c)))) := by
  obtain ⟨ae, ce, rfl⟩ := hE.form
  obtain ⟨av, cv, rfl⟩ := hV.form
  have hal : Below w.heap.size w (w.alloc (.cells #[.slice ae L.length ce, .slice av vs.length cv] 30)) := (Below.refl _ w).alloc (Nat.le_refl _) _
  have HR := Lib.hid (rvis_c (hE.keep hal) (hV.keep hal) hl hn)
  have HAL := Lib.hid hal
  have hsl : (V0 vs L).length ≤ 10000 := Nat.le_trans (V0_lenO vs L) hl
  clear hE hV hal
  obtain ⟨S, hS⟩ : ∃ S, V0 vs L = S := ⟨_, rfl⟩
  rw [hS] at HR hsl ⊢
  clear hS
  go_enter Try.func35, Try.ntmps35
  obtain ⟨m, hm⟩ : ∃ m, S.length = m := ⟨_, rfl⟩
  have HM := Lib.hid hm
  rw [hm] at hsl
  have hmI : (m : Int) ≤ 10000 := by omega
  go_wp2_with (go_at_call 33; refine HR.out.mono ?_; rintro e w1 ⟨v1, rfl, k1, k2⟩; have hk := k1.ents; obtain ⟨a5, c5, rfl⟩ := k1.ents.form; rw [hm] at hk ⊢; have HS := Lib.hid hk; have HB := Lib.hid (HAL.out.trans (k2.mono HAL.out.size)); clear k1 k2 hk)
  clear hm HR
  go_loopw [11, 9] (fun vi va wr => ∃ (i : Nat) (v : Value), i ≤ m ∧ vi = .int .i64 i ∧ v = va ∧ Hid (OwnI wr w1.heap.size v (tgtL pm ((S.take i).filter (PT a c)))) ∧ Hid (Below w1.heap.size w1 wr)) (fun vi _ _ => m - (intOf vi).toNat)
  case atStart => exact ⟨0, _, Nat.zero_le _, rfl, rfl, Lib.hid (OwnI.nil _ _), Lib.hid (Below.refl _ _)⟩
  case round =>
    obtain ⟨i, v, hi, rfl, rfl, HO, HW⟩ := hrel
    by_cases hlt : i < m
    · have hltL : i < S.length := by rw [HM.out]; exact hlt
      obtain ⟨ao', cap', hao, hcp, hr⟩ := HS.out
      obtain ⟨b, o, rfl, hR⟩ := hr (by rintro rfl; simp at hltL)
      obtain ⟨rfl, -, rfl⟩ : a5 = some ⟨b, o, none⟩ ∧ True ∧ c5 = cap' := by
        simp only [Value.slice.injEq] at hao
        exact ⟨hao.1, trivial, hao.2.2⟩
      have hA : At7 wr b (o + i * 7) S[i] := (hR.at hltL).keep (HW.out.block b (hR.lt (by rintro rfl; simp at hltL)))
      have hltI : (i : Int) < (m : Int) := by omega
      have hcI : (m : Int) ≤ (c5 : Int) := by have := HM.out; omega
      have hts : tgtL pm ((S.take (i + 1)).filter (PT a c)) = if PT a c S[i] && allowP pm S[i] then tgtL pm ((S.take i).filter (PT a c)) ++ [S[i].t] else tgtL pm ((S.take i).filter (PT a c)) := by rw [take_snoc' S i hltL, rtgt_snoc]
      have htl : (tgtL pm ((S.take i).filter (PT a c))).length ≤ 1000000 := by
        have h1 : (tgtL pm ((S.take i).filter (PT a c))).length ≤ ((S.take i).filter (PT a c)).length := by unfold tgtL; rw [List.length_map]; exact List.length_filter_le _ _
        have h2 := List.length_filter_le (PT a c) (S.take i)
        rw [List.length_take] at h2
        omega
      generalize S[i] = x at *
      have HTS := Lib.hid hts
      have HTL := Lib.hid htl
      obtain ⟨s0, s1, s2, s3, s4, s5, s6⟩ := hA
      have hno : PT a c x = false ∨ allowP pm x = false → Hid (OwnI wr w1.heap.size v (tgtL pm ((S.take (i + 1)).filter (PT a c)))) := fun h => Lib.hid (by rw [HTS.out, if_neg (by rcases h with h | h <;> simp [h])]; exact HO.out)
      have HNO := Lib.hid hno
      clear hao hcp hr hR hts htl hno
      by_cases h1 : x.s = a
      · by_cases h2 : x.c = c
        · rw [h1] at s0
          rw [h2] at s2
          have hP : PT a c x = true := PT_iff.2 ⟨h1, h2⟩
          have HPP := Lib.hid hP
          clear h1 h2 hP
          have han := vI_and x.a pm
          have hq := allow_eq pm x
          cases hal : allowP pm x with
          | true =>
            rw [hal] at hq
            have HAW := Lib.hid hal
            clear hal
            go_wp2_with (at_builtin; refine wpList_append_I (by rfl) _ _ (by rfl) w1.heap.size v (tgtL pm ((S.take i).filter (PT a c))) (by rfl) (HO.out.below ((Below.refl _ _).alloc (Nat.le_refl _) _)) wr.heap.size x.t (by rfl) (Blk.new _ _ _) HTL.out (by have := HW.out.size; simp; omega) ?_; intro v5 w5 h1 h2; have H1 := Lib.hid h1; have H2 := Lib.hid h2; clear h1 h2)
            refine ⟨⟨i + 1, v5, by omega, by go_num, rfl, Lib.hid ?_, Lib.hid ?_⟩, by simp [intOf]; omega⟩
            · rw [HTS.out, if_pos (by rw [HPP.out, HAW.out]; rfl)]
              exact H1.out
            · exact (HW.out.alloc HW.out.size _).grown H2.out (by have := HW.out.size; simp; omega) (fun q e => (World.ownsRow.lt HO.out q e).1)
          | false =>
            rw [hal] at hq
            have HN2 := HNO.out (.inr hal)
            clear hal
            go_wp2_with fail
            exact ⟨⟨i + 1, v, by omega, by go_num, rfl, HN2, HW⟩, by simp [intOf]; omega⟩
        · have q2 := ibeq_no h2
          have HN2 := HNO.out (.inl (by rw [Bool.eq_false_iff]; exact fun h => h2 (PT_iff.1 h).2))
          rw [h1] at s0
          clear h1 h2
          go_wp2_with fail
          exact ⟨⟨i + 1, v, by omega, by go_num, rfl, HN2, HW⟩, by simp [intOf]; omega⟩
      · have q1 := ibeq_no h1
        have HN2 := HNO.out (.inl (by rw [Bool.eq_false_iff]; exact fun h => h1 (PT_iff.1 h).1))
        clear h1
        go_wp2_with fail
        exact ⟨⟨i + 1, v, by omega, by go_num, rfl, HN2, HW⟩, by simp [intOf]; omega⟩
    · obtain rfl : i = m := by omega
      have h0 := HO.out
      rw [← HM.out, List.take_length] at h0
      have HO2 := Lib.hid h0
      clear h0
      go_wp2_with fail
      go_ret
      exact ⟨v, rfl, HO2.out.base HB.out.size, HB.out.trans (HW.out.mono HB.out.size)⟩
theorem rsrc_snoc (pm : BitVec 32) (a c : Int) (l : List E) (x : E) : srcL pm ((l ++ [x]).filter (PS a c)) = if PS a c x && allowP pm x then srcL pm (l.filter (PS a c)) ++ [x.s] else srcL pm (l.filter (PS a c)) := by
  unfold srcL
  rw [List.filter_append]
  cases h1 : PS a c x <;> cases h2 : allowP pm x <;> simp [h1, h2]
set_option maxRecDepth 100000 in
set_option maxHeartbeats 4000000 in
theorem rsrc_c {w : World} {ve vv : Value} {L : List E} {vs : List Bool} (hE : Ents w ve L) (hV : Bools w vv vs) (hl : L.length ≤ 10000) (hn : vs.length ≤ 1000) (a c : Int) (pm : BitVec 32) :
    Calls Try.prog 36 #[.agg #[ve, vv], .int .i64 a, .int .i64 c, .int .u32 (vI pm)] w (IntsOut w (srcL pm ((V0 vs L).filter (PS a c)))) := by
  obtain ⟨ae, ce, rfl⟩ := hE.form
  obtain ⟨av, cv, rfl⟩ := hV.form
  have hal : Below w.heap.size w (w.alloc (.cells #[.slice ae L.length ce, .slice av vs.length cv] 30)) := (Below.refl _ w).alloc (Nat.le_refl _) _
  have HR := Lib.hid (rvis_c (hE.keep hal) (hV.keep hal) hl hn)
  have HAL := Lib.hid hal
  have hsl : (V0 vs L).length ≤ 10000 := Nat.le_trans (V0_lenO vs L) hl
  clear hE hV hal
  obtain ⟨S, hS⟩ : ∃ S, V0 vs L = S := ⟨_, rfl⟩
  rw [hS] at HR hsl ⊢
  clear hS
  go_enter Try.func36, Try.ntmps36
  obtain ⟨m, hm⟩ : ∃ m, S.length = m := ⟨_, rfl⟩
  have HM := Lib.hid hm
  rw [hm] at hsl
  have hmI : (m : Int) ≤ 10000 := by omega
  go_wp2_with (go_at_call 33; refine HR.out.mono ?_; rintro e w1 ⟨v1, rfl, k1, k2⟩; have hk := k1.ents; obtain ⟨a5, c5, rfl⟩ := k1.ents.form; rw [hm] at hk ⊢; have HS := Lib.hid hk; have HB := Lib.hid (HAL.out.trans (k2.mono HAL.out.size)); clear k1 k2 hk)
  clear hm HR
  go_loopw [11, 9] (fun vi va wr => ∃ (i : Nat) (v : Value), i ≤ m ∧ vi = .int .i64 i ∧ v = va ∧ Hid (OwnI wr w1.heap.size v (srcL pm ((S.take i).filter (PS a c)))) ∧ Hid (Below w1.heap.size w1 wr)) (fun vi _ _ => m - (intOf vi).toNat)
  case atStart => exact ⟨0, _, Nat.zero_le _, rfl, rfl, Lib.hid (OwnI.nil _ _), Lib.hid (Below.refl _ _)⟩
  case round =>
    obtain ⟨i, v, hi, rfl, rfl, HO, HW⟩ := hrel
    by_cases hlt : i < m
    · have hltL : i < S.length := by rw [HM.out]; exact hlt
      obtain ⟨ao', cap', hao, hcp, hr⟩ := HS.out
      obtain ⟨b, o, rfl, hR⟩ := hr (by rintro rfl; simp at hltL)
      obtain ⟨rfl, -, rfl⟩ : a5 = some ⟨b, o, none⟩ ∧ True ∧ c5 = cap' := by
        simp only [Value.slice.injEq] at hao
        exact ⟨hao.1, trivial, hao.2.2⟩
      have hA : At7 wr b (o + i * 7) S[i] := (hR.at hltL).keep (HW.out.block b (hR.lt (by rintro rfl; simp at hltL)))
      have hltI : (i : Int) < (m : Int) := by omega
      have hcI : (m : Int) ≤ (c5 : Int) := by have := HM.out; omega
      have hts : srcL pm ((S.take (i + 1)).filter (PS a c)) = if PS a c S[i] && allowP pm S[i] then srcL pm ((S.take i).filter (PS a c)) ++ [S[i].s] else srcL pm ((S.take i).filter (PS a c)) := by rw [take_snoc' S i hltL, rsrc_snoc]
      have htl : (srcL pm ((S.take i).filter (PS a c))).length ≤ 1000000 := by
        have h1 : (srcL pm ((S.take i).filter (PS a c))).length ≤ ((S.take i).filter (PS a c)).length := by unfold srcL; rw [List.length_map]; exact List.length_filter_le _ _
        have h2 := List.length_filter_le (PS a c) (S.take i)
        rw [List.length_take] at h2
        omega
      generalize S[i] = x at *
      have HTS := Lib.hid hts
      have HTL := Lib.hid htl
      obtain ⟨s0, s1, s2, s3, s4, s5, s6⟩ := hA
      have hno : PS a c x = false ∨ allowP pm x = false → Hid (OwnI wr w1.heap.size v (srcL pm ((S.take (i + 1)).filter (PS a c)))) := fun h => Lib.hid (by rw [HTS.out, if_neg (by rcases h with h | h <;> simp [h])]; exact HO.out)
      have HNO := Lib.hid hno
      clear hao hcp hr hR hts htl hno
      by_cases h1 : x.t = a
      · by_cases h2 : x.c = c
        · rw [h1] at s1
          rw [h2] at s2
          have hP : PS a c x = true := PS_iff.2 ⟨h1, h2⟩
          have HPP := Lib.hid hP
          clear h1 h2 hP
          have han := vI_and x.a pm
          have hq := allow_eq pm x
          cases hal : allowP pm x with
          | true =>
            rw [hal] at hq
            have HAW := Lib.hid hal
            clear hal
            go_wp2_with (at_builtin; refine wpList_append_I (by rfl) _ _ (by rfl) w1.heap.size v (srcL pm ((S.take i).filter (PS a c))) (by rfl) (HO.out.below ((Below.refl _ _).alloc (Nat.le_refl _) _)) wr.heap.size x.s (by rfl) (Blk.new _ _ _) HTL.out (by have := HW.out.size; simp; omega) ?_; intro v5 w5 h1 h2; have H1 := Lib.hid h1; have H2 := Lib.hid h2; clear h1 h2)
            refine ⟨⟨i + 1, v5, by omega, by go_num, rfl, Lib.hid ?_, Lib.hid ?_⟩, by simp [intOf]; omega⟩
            · rw [HTS.out, if_pos (by rw [HPP.out, HAW.out]; rfl)]
              exact H1.out
            · exact (HW.out.alloc HW.out.size _).grown H2.out (by have := HW.out.size; simp; omega) (fun q e => (World.ownsRow.lt HO.out q e).1)
          | false =>
            rw [hal] at hq
            have HN2 := HNO.out (.inr hal)
            clear hal
            go_wp2_with fail
            exact ⟨⟨i + 1, v, by omega, by go_num, rfl, HN2, HW⟩, by simp [intOf]; omega⟩
        · have q2 := ibeq_no h2
          have HN2 := HNO.out (.inl (by rw [Bool.eq_false_iff]; exact fun h => h2 (PS_iff.1 h).2))
          rw [h1] at s1
          clear h1 h2
          go_wp2_with fail
          exact ⟨⟨i + 1, v, by omega, by go_num, rfl, HN2, HW⟩, by simp [intOf]; omega⟩
      · have q1 := ibeq_no h1
        have HN2 := HNO.out (.inl (by rw [Bool.eq_false_iff]; exact fun h => h1 (PS_iff.1 h).1))
        clear h1
        go_wp2_with fail
        exact ⟨⟨i + 1, v, by omega, by go_num, rfl, HN2, HW⟩, by simp [intOf]; omega⟩
    · obtain rfl : i = m := by omega
      have h0 := HO.out
      rw [← HM.out, List.take_length] at h0
      have HO2 := Lib.hid h0
      clear h0
      go_wp2_with fail
      go_ret
      exact ⟨v, rfl, HO2.out.base HB.out.size, HB.out.trans (HW.out.mono HB.out.size)⟩
end Go.Proofs.Ytomoldfgnbjliaa
