/- The reference: Same and Text; the laws TokenSame and TokenTexts, walked. -/
import Derived.Test.YthjfedkginjbeaaTuh
namespace Go.Proofs.Ythjfedkginjbeaa
open Go.RowKit
set_option maxRecDepth 100000 in
set_option maxHeartbeats 4000000 in
theorem rSame_c (v v2 : Value) (l m : List TI) (w : World) (hn : l.length ≤ 1000000000000) (hn2 : m.length ≤ 1000000000000) (hT : Toks w v l) (hM : Toks w v2 m) :
    Calls Try.prog 32 #[v, v2] w fun e w' => e = .returned (.bool (sameL l m)) ∧ Below w.heap.size w w' := by
  obtain ⟨ao, cap, rfl, hcap, hT⟩ := hT
  obtain ⟨ao2, cap2, rfl, hcap2, hM⟩ := hM
  obtain ⟨R, hR⟩ : ∃ R, sameL l m = R := ⟨_, rfl⟩
  rw [hR]
  by_cases hlen : l.length = m.length
  · have HL := Lib.hid hlen
    rw [hlen]
    rw [hlen] at hcap hn
    clear hlen
    go_enter Try.func32, Try.ntmps32
    go_wp2_with fail
    go_loopw [5] (fun vi wr => ∃ i : Nat, i ≤ m.length ∧ vi = .int .i64 i ∧ Hid (∀ k (_ : k < i) (h1 : k < l.length) (h2 : k < m.length), l[k].key = m[k].key) ∧ Below w.heap.size w wr)
      (fun vi _ => m.length - (intOf vi).toNat)
    case atStart => exact ⟨0, Nat.zero_le _, rfl, Lib.hid fun k h => absurd h (by omega), Below.refl _ _⟩
    case round =>
      obtain ⟨i, hi, rfl, HA, hb9⟩ := hrel
      by_cases hlt2 : i < m.length
      · have hlt : i < l.length := by rw [HL.out]; exact hlt2
        obtain ⟨g, o, rfl, hRow⟩ := hT (by rintro rfl; simp at hlt)
        obtain ⟨g2, o2, rfl, hRow2⟩ := hM (by rintro rfl; simp at hlt2)
        have hlg := hRow.lt (by rintro rfl; simp at hlt)
        have hlg2 := hRow2.lt (by rintro rfl; simp at hlt2)
        have hQ : ∀ w1, Kp wr w1 → (w1.cell? ⟨g, o + i * 4, none⟩ = some (.int .i64 l[i].kind) ∧ w1.cell? ⟨g, o + i * 4 + 1, none⟩ = some (.string l[i].text)) ∧ w1.cell? ⟨g2, o2 + i * 4, none⟩ = some (.int .i64 m[i].kind) ∧ w1.cell? ⟨g2, o2 + i * 4 + 1, none⟩ = some (.string m[i].text) := by
          intro w1 hC
          have hz := hb9.size
          have e1 := ((hRow.keep (hb9.block g hlg)).keep (Below.block hC g (by omega))).at hlt
          have e2 := ((hRow2.keep (hb9.block g2 hlg2)).keep (Below.block hC g2 (by omega))).at hlt2
          exact ⟨⟨e1.1, e1.2.1⟩, e2.1, e2.2.1⟩
        have hlt2' : (i : Int) < (m.length : Int) := by omega
        obtain ⟨⟨K, X, L, C⟩, htk⟩ : ∃ t, l[i] = t := ⟨_, rfl⟩
        obtain ⟨⟨K2, X2, L2, C2⟩, htk2⟩ : ∃ t, m[i] = t := ⟨_, rfl⟩
        rw [htk, htk2] at hQ
        simp only at hQ
        have HQ := Lib.hid hQ
        clear hRow hRow2 hT hM hQ
        by_cases hk : K = K2
        · subst hk
          cases hb : (X.toList == X2.toList)
          · have hR0 : R = false := by
              rw [← hR]
              refine sameL_no hlt hlt2 ?_
              rw [htk, htk2]
              intro e
              simp only [TI.key, Prod.mk.injEq] at e
              rw [e.2] at hb
              simp at hb
            subst hR0
            clear htk htk2 hR
            go_wp2
            refine wp_region_kp (by kernel_rfl) (by kernel_rfl) ?_
            repeat (first
              | go_big_quiet_skip
              | (go_big_quiet_want
                 go_big_quiet_op
                 first
                   | go_big_quiet_on
                   | (apply Exists.intro
                      refine ⟨fun w1 hC => ?_, ?_⟩
                      · obtain ⟨⟨p0, p1⟩, p2, p3⟩ := HQ.out _ hC
                        go_simp; exact rfl
                      go_big_quiet_on)))
            refine wpQuiet_nil ?_
            intro W' hC
            go_wp2
            go_ret
            exact ⟨rfl, hb9.trans (Below.mono hC hb9.size)⟩
          · have HK : Hid (l[i].key = m[i].key) := by
              rw [htk, htk2]
              rw [bytes_beq] at hb
              exact Lib.hid (by simp [TI.key]; exact of_decide_eq_true hb)
            have HA2 : Hid (∀ k (_ : k < i + 1) (h1 : k < l.length) (h2 : k < m.length), l[k].key = m[k].key) := Lib.hid fun k h h1 h2 => by
              rcases Nat.lt_or_ge k i with hk | hk
              · exact HA.out k hk h1 h2
              · obtain rfl : k = i := by omega
                exact HK.out
            clear htk htk2 hR HK HA
            go_wp2
            refine wp_region_kp (by kernel_rfl) (by kernel_rfl) ?_
            repeat (first
              | go_big_quiet_skip
              | (go_big_quiet_want
                 go_big_quiet_op
                 first
                   | go_big_quiet_on
                   | (apply Exists.intro
                      refine ⟨fun w1 hC => ?_, ?_⟩
                      · obtain ⟨⟨p0, p1⟩, p2, p3⟩ := HQ.out _ hC
                        go_simp; exact rfl
                      go_big_quiet_on)))
            refine wpQuiet_nil ?_
            intro W' hC
            go_wp2
            exact ⟨⟨i + 1, hlt2, by simp, HA2, hb9.trans (Below.mono hC hb9.size)⟩, by simp [intOf]; omega⟩
        · have hk' : (K != K2) = true := by simpa using hk
          have hk2 : (K == K2) = false := by simpa using hk
          have hR0 : R = false := by
            rw [← hR]
            refine sameL_no hlt hlt2 ?_
            rw [htk, htk2]
            intro e
            simp only [TI.key, Prod.mk.injEq] at e
            exact hk e.1
          subst hR0
          clear htk htk2 hR hk
          go_wp2
          refine wp_region_kp (by kernel_rfl) (by kernel_rfl) ?_
          repeat (first
            | go_big_quiet_skip
            | (go_big_quiet_want
               go_big_quiet_op
               first
                 | go_big_quiet_on
                 | (apply Exists.intro
                    refine ⟨fun w1 hC => ?_, ?_⟩
                    · obtain ⟨⟨p0, p1⟩, p2, p3⟩ := HQ.out _ hC
                      go_simp; exact rfl
                    go_big_quiet_on)))
          refine wpQuiet_nil ?_
          intro W' hC
          go_wp2
          go_ret
          exact ⟨rfl, hb9.trans (Below.mono hC hb9.size)⟩
      · obtain rfl : i = m.length := by omega
        have hR0 : R = true := by rw [← hR]; exact sameL_yes HL.out (fun k h1 h2 => HA.out k h2 h1 h2)
        subst hR0
        go_wp2
        go_ret
        exact ⟨rfl, hb9⟩
  · have hR0 : R = false := by rw [← hR]; exact sameL_len hlen
    subst hR0
    have hlen' : ((l.length : Int) == (m.length : Int)) = false := by simp; omega
    go_enter Try.func32, Try.ntmps32
    go_wp2
    go_ret
    exact ⟨rfl, Below.refl _ _⟩
theorem fewB_len {l : List TI} (h : fewB l = true) : l.length ≤ 300 := by
  unfold fewB at h
  rw [Bool.and_eq_true] at h
  exact of_decide_eq_true h.1
theorem fewB_all {l : List TI} (h : fewB l = true) : ∀ t ∈ l, t.text.size ≤ 300 := by
  unfold fewB at h
  rw [Bool.and_eq_true, List.all_eq_true] at h
  exact fun t ht => of_decide_eq_true (h.2 t ht)
theorem sameL_self (l : List TI) : sameL l l = true := decide_eq_true rfl
set_option maxRecDepth 100000 in
set_option maxHeartbeats 4000000 in
theorem lsame_c (v v2 : Value) (l m : List TI) (w : World) (hn : l.length ≤ 9223372036854775807) (hn2 : m.length ≤ 9223372036854775807) (hT : Toks w v l) (hM : Toks w v2 m) :
    Calls Try.prog 12 #[v, v2] w fun e w' => e = .returned (.bool true) ∧ Below w.heap.size w w' := by
  have hF := few_c v l w hn hT
  have hF2 := few_c v2 m w hn2 hM
  have hb := Below.refl w.heap.size w
  cases h1 : fewB l
  · rw [h1] at hF
    have HF := Lib.hid hF
    clear hT hM hF hF2 h1
    go_enter Try.func12, Try.ntmps12
    go_wp2_with (first
      | (go_at_call 23; refine HF.out.mono ?_; rintro e w2 ⟨rfl, rfl⟩)
      | (go_at_call 13; refine (awake_c _).mono ?_; rintro e w6 ⟨rfl, hq⟩; replace hb := hb.trans (hq.mono hb.size); clear hq))
    go_ret
    exact ⟨rfl, hb⟩
  · cases h2 : fewB m
    · rw [h1] at hF
      rw [h2] at hF2
      go_enter Try.func12, Try.ntmps12
      have HF := Lib.hid hF
      have HF2 := Lib.hid hF2
      clear hT hM hF hF2 h1 h2
      go_wp2_with fail
      refine HF.out.mono ?_
      rintro e w2 ⟨rfl, rfl⟩
      go_wp2_with fail
      refine HF2.out.mono ?_
      rintro e w3 ⟨rfl, rfl⟩
      go_wp2_with (go_at_call 13; refine (awake_c _).mono ?_; rintro e w6 ⟨rfl, hq⟩; replace hb := hb.trans (hq.mono hb.size); clear hq)
      go_ret
      exact ⟨rfl, hb⟩
    · rw [h1] at hF
      rw [h2] at hF2
      have l1 := fewB_len h1
      have l2 := fewB_len h2
      have hS : ∀ w', Below w.heap.size w w' → Calls Try.prog 26 #[v, v2] w' fun e w'' => e = .returned (.bool (sameL l m)) ∧ Below w'.heap.size w' w'' := fun w' h => same_c v v2 l m w' (by omega) (by omega) (hT.keep h) (hM.keep h)
      have hS2 : ∀ w', Below w.heap.size w w' → Calls Try.prog 26 #[v, v] w' fun e w'' => e = .returned (.bool true) ∧ Below w'.heap.size w' w'' := fun w' h => by
        have := same_c v v l l w' (by omega) (by omega) (hT.keep h) (hT.keep h)
        rwa [sameL_self] at this
      have hS3 : ∀ w', Below w.heap.size w w' → Calls Try.prog 32 #[v, v2] w' fun e w'' => e = .returned (.bool (sameL l m)) ∧ Below w'.heap.size w' w'' := fun w' h => rSame_c v v2 l m w' (by omega) (by omega) (hT.keep h) (hM.keep h)
      obtain ⟨R, hR⟩ : ∃ R, sameL l m = R := ⟨_, rfl⟩
      rw [hR] at hS hS3
      have HF := Lib.hid hF
      have HF2 := Lib.hid hF2
      have HS := Lib.hid hS
      have HS2 := Lib.hid hS2
      have HS3 := Lib.hid hS3
      clear hT hM hF hF2 h1 h2 hS hS2 hS3 hR
      go_enter Try.func12, Try.ntmps12
      go_wp2_with fail
      refine HF.out.mono ?_
      rintro e w2 ⟨rfl, rfl⟩
      go_wp2_with fail
      refine HF2.out.mono ?_
      rintro e w3 ⟨rfl, rfl⟩
      go_wp2_with fail
      refine (HS.out _ hb).mono ?_
      rintro e w4 ⟨rfl, hb4⟩
      go_wp2_with fail
      refine (HS3.out _ hb4).mono ?_
      rintro e w5 ⟨rfl, hb5⟩
      replace hb4 := hb4.trans (hb5.mono hb4.size)
      go_wp2_with fail
      refine (HS2.out _ hb4).mono ?_
      rintro e w6 ⟨rfl, hb6⟩
      replace hb4 := hb4.trans (hb6.mono hb4.size)
      go_wp2_with (go_at_call 13; refine (awake_c _).mono ?_; rintro e w7 ⟨rfl, hq⟩; replace hb4 := hb4.trans (hq.mono hb4.size); clear hq)
      go_ret
      exact ⟨rfl, hb4⟩
end Go.Proofs.Ythjfedkginjbeaa
