/- The reference's Find. -/
import Derived.Test.YtomoldfgnbjliaaAxo
namespace Go.Proofs.Ytomoldfgnbjliaa
open Go.RowKit Go.Sort Go.Shelf
theorem fin_at {S : List E} {P : E → Bool} {i : Nat} (hi : i < S.length) (h0 : (S.take i).filter P = []) (h1 : P S[i] = true) : fin (S.filter P) = vec S[i] := by
  have e : S = S.take i ++ S[i] :: S.drop (i + 1) := by
    rw [← List.drop_eq_getElem_cons hi, List.take_append_drop]
  have e2 : S.filter P = S[i] :: (S.drop (i + 1)).filter P := by
    conv => lhs; rw [e]
    rw [List.filter_append, h0, List.nil_append, List.filter_cons_of_pos h1]
  rw [e2]; rfl
theorem filt_next {S : List E} {P : E → Bool} {i : Nat} (hi : i < S.length) (h0 : (S.take i).filter P = []) (h1 : P S[i] = false) : (S.take (i + 1)).filter P = [] := by
  rw [take_snoc' S i hi, List.filter_append, h0, List.nil_append]
  simp [h1]
set_option maxRecDepth 100000 in
set_option maxHeartbeats 4000000 in
theorem rfind_c {w : World} {ve vv : Value} {L : List E} {vs : List Bool} (hE : Ents w ve L) (hV : Bools w vv vs) (hl : L.length ≤ 10000) (hn : vs.length ≤ 1000) (s t c : Int) :
    Calls Try.prog 34 #[.agg #[ve, vv], .int .i64 s, .int .i64 t, .int .i64 c] w fun e w' =>
      e = .returned (.tuple #[.int .u32 (vI (fin ((V0 vs L).filter (P3 s t c))).p), .int .u32 (vI (fin ((V0 vs L).filter (P3 s t c))).q), .int .u32 (vI (fin ((V0 vs L).filter (P3 s t c))).r)]) ∧ Below w.heap.size w w' := by
  obtain ⟨ae, ce, rfl⟩ := hE.form
  obtain ⟨av, cv, rfl⟩ := hV.form
  have hal : Below w.heap.size w (w.alloc (.cells #[.slice ae L.length ce, .slice av vs.length cv] 30)) := (Below.refl _ w).alloc (Nat.le_refl _) _
  have HR := Lib.hid (rvis_c (hE.keep hal) (hV.keep hal) hl hn)
  have HAL := Lib.hid hal
  have hsl : (V0 vs L).length ≤ 10000 := Nat.le_trans (V0_lenO vs L) hl
  clear hE hV hal
  obtain ⟨S, hS⟩ : ∃ S, V0 vs L = S := ⟨_, rfl⟩
  obtain ⟨F, hF⟩ : ∃ F, fin (S.filter (P3 s t c)) = F := ⟨_, rfl⟩
  rw [hS] at HR hsl ⊢
  rw [hF]
  have HF := Lib.hid hF
  clear hS hF
  go_enter Try.func34, Try.ntmps34
  obtain ⟨m, hm⟩ : ∃ m, S.length = m := ⟨_, rfl⟩
  have HM := Lib.hid hm
  rw [hm] at hsl
  have hmI : (m : Int) ≤ 10000 := by omega
  go_wp2_with (go_at_call 33; refine HR.out.mono ?_; rintro e w1 ⟨v1, rfl, k1, k2⟩; have hk := k1.ents; obtain ⟨a5, c5, rfl⟩ := k1.ents.form; rw [hm] at hk ⊢; have HS := Lib.hid hk; have HB := Lib.hid (HAL.out.trans (k2.mono HAL.out.size)); clear k1 k2 hk)
  clear hm HR
  go_loopw [12] (fun vi wr => ∃ i : Nat, i ≤ m ∧ vi = .int .i64 i ∧ Hid ((S.take i).filter (P3 s t c) = []) ∧ Hid (Below w1.heap.size w1 wr)) (fun vi _ => m - (intOf vi).toNat)
  case atStart => exact ⟨0, Nat.zero_le _, rfl, Lib.hid rfl, Lib.hid (Below.refl _ _)⟩
  case round =>
    obtain ⟨i, hi, rfl, HT, HW⟩ := hrel
    by_cases hlt : i < m
    · have hltL : i < S.length := by rw [HM.out]; exact hlt
      obtain ⟨ao', cap', hao, hcp, hr⟩ := HS.out
      obtain ⟨b, o, rfl, hR⟩ := hr (by rintro rfl; simp at hltL)
      obtain ⟨rfl, -, rfl⟩ : a5 = some ⟨b, o, none⟩ ∧ True ∧ c5 = cap' := by
        simp only [Value.slice.injEq] at hao
        exact ⟨hao.1, trivial, hao.2.2⟩
      have hA : At7 wr b (o + i * 7) S[i] := (hR.at hltL).keep (HW.out.block b (hR.lt (by rintro rfl; simp at hltL)))
      have hltI : (i : Int) < (m : Int) := by omega
      have hcI : (m : Int) ≤ (c5 : Int) := by have := HM.out; omega
      have HNX : Hid (P3 s t c S[i] = false → (S.take (i + 1)).filter (P3 s t c) = []) := Lib.hid (filt_next hltL HT.out)
      have HYE : Hid (P3 s t c S[i] = true → F = vec S[i]) := Lib.hid (fun h => by rw [← HF.out]; exact fin_at hltL HT.out h)
      have HRT : Hid (Below w.heap.size w wr) := Lib.hid (HB.out.trans (HW.out.mono HB.out.size))
      generalize S[i] = x at *
      obtain ⟨s0, s1, s2, s3, s4, s5, s6⟩ := hA
      clear hao hcp hr hR HT
      by_cases h1 : x.s = s
      · by_cases h2 : x.t = t
        · by_cases h3 : x.c = c
          · have hv := HYE.out (P3_iff.2 ⟨h1, h2, h3⟩)
            subst hv
            rw [h1] at s0
            rw [h2] at s1
            rw [h3] at s2
            clear h1 h2 h3 HYE HNX
            go_wp2_with fail
            refine wp_region_d (by kernel_rfl) (by kernel_rfl) ?_
            repeat (first
                | go_big_quiet_skip
                | (go_big_quiet_want
                   go_big_quiet_op
                   first
                     | go_big_quiet_on
                     | (apply Exists.intro
                        refine ⟨fun w1 hC => ?_, ?_⟩
                        · first
                            | (obtain ⟨nn, rfl⟩ := hC; go_simp; exact rfl)
                            | (go_simp; exact ⟨rfl, rfl⟩)
                            | exact rfl
                        go_big_quiet_on)))
            refine wpQuiet_nil ?_
            intro w6 hK6
            obtain ⟨n6, rfl⟩ := hK6
            go_wp2_with fail
            go_ret3
            exact ⟨rfl, HRT.out.trans ⟨rfl, rfl, rfl, Nat.le_refl _, fun _ _ => rfl⟩⟩
          · have q3 := ibeq_no h3
            have HN2 := Lib.hid (HNX.out (by rw [Bool.eq_false_iff]; exact fun h => h3 (P3_iff.1 h).2.2))
            rw [h1] at s0
            rw [h2] at s1
            clear h1 h2 h3 HYE HNX
            go_wp2_with fail
            exact ⟨⟨i + 1, by omega, by go_num, HN2, HW⟩, by simp [intOf]; omega⟩
        · have q2 := ibeq_no h2
          have HN2 := Lib.hid (HNX.out (by rw [Bool.eq_false_iff]; exact fun h => h2 (P3_iff.1 h).2.1))
          rw [h1] at s0
          clear h1 h2 HYE HNX
          go_wp2_with fail
          exact ⟨⟨i + 1, by omega, by go_num, HN2, HW⟩, by simp [intOf]; omega⟩
      · have q1 := ibeq_no h1
        have HN2 := Lib.hid (HNX.out (by rw [Bool.eq_false_iff]; exact fun h => h1 (P3_iff.1 h).1))
        clear h1 HYE HNX
        go_wp2_with fail
        exact ⟨⟨i + 1, by omega, by go_num, HN2, HW⟩, by simp [intOf]; omega⟩
    · obtain rfl : i = m := by omega
      have h0 := HT.out
      rw [← HM.out, List.take_length] at h0
      have hf := HF.out
      rw [h0] at hf
      subst hf
      clear HF
      go_wp2_with fail
      go_ret3
      exact ⟨rfl, HB.out.trans (HW.out.mono HB.out.size)⟩
end Go.Proofs.Ytomoldfgnbjliaa
