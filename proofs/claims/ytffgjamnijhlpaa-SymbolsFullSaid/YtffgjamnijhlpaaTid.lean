/- The reference's Name and Identifier. -/
import Derived.Test.YtffgjamnijhlpaaTub
namespace Go.Proofs.Ytffgjamnijhlpaa
open Go.RowKit
theorem run_end (p : Int → Bool) (s : ByteArray) : run p s s.size = s.size := by unfold run; rw [Nat.sub_self]; rfl
set_option maxRecDepth 100000 in
set_option maxHeartbeats 2000000 in
theorem rName_c (s : ByteArray) (w : World) (hm : s.size ≤ 9223372036854775807) :
    Calls Try.prog 43 #[.string s] w fun e w' => e = .returned (.bool (nameB s)) ∧ w' = w := by
  obtain ⟨R, hR⟩ : ∃ r, nameB s = r := ⟨_, rfl⟩
  have HR := Lib.hid hR
  clear hR
  rw [HR.out]
  go_enter Try.func43, Try.ntmps43
  go_wp2_with fail
  go_loop [3] (fun vi => ∃ i : Nat, i ≤ s.size ∧ vi = .int .i64 i ∧ Hid (0 < i → chLet (chI s 0) = true) ∧ Hid (run wordC s i = run wordC s 0))
    (fun vi => s.size - (intOf vi).toNat)
  case atStart => exact ⟨0, Nat.zero_le _, rfl, Lib.hid (fun h => absurd h (by omega)), Lib.hid rfl⟩
  case round =>
    obtain ⟨i, hi, rfl, h0, hr⟩ := hrel
    by_cases hlt : i < s.size
    · have hl : (i : Int) < (s.size : Int) := by omega
      have hc := chI_lt hlt
      cases hL : chLet (s[i].toNat : Int)
      · by_cases hi0 : i = 0
        · subst hi0
          obtain rfl : R = false := by
            rw [← HR.out]; unfold nameB
            rw [hc, hL]; simp
          have HL := Lib.hid hL
          clear hL hc
          go_wp2_with (go_at_call 51; refine (rLetter_c _ _).mono ?_; rintro e w2 ⟨rfl, rfl⟩; rw [HL.out])
          go_ret
          exact ⟨rfl, rfl⟩
        · have hi0' : ((i : Int) == 0) = false := by simp; omega
          cases hD : chDig (s[i].toNat : Int)
          · obtain rfl : R = false := by
              rw [← HR.out]; unfold nameB
              rw [← hr.out, run_stop (by rw [hc]; unfold wordC; rw [hL, hD]; rfl)]
              simp; omega
            have HL := Lib.hid hL
            have HD := Lib.hid hD
            clear hL hc hD hi0
            go_wp2_with (first
              | (go_at_call 51; refine (rLetter_c _ _).mono ?_; rintro e w2 ⟨rfl, rfl⟩; rw [HL.out])
              | (go_at_call 52; refine (rDigit_c _ _).mono ?_; rintro e w2 ⟨rfl, rfl⟩; rw [HD.out]))
            go_ret
            exact ⟨rfl, rfl⟩
          · have HN : Hid (run wordC s (i + 1) = run wordC s 0) := Lib.hid (by rw [← hr.out, run_go hlt (by rw [hc]; unfold wordC; rw [hD, Bool.or_true])])
            have HL := Lib.hid hL
            have HD := Lib.hid hD
            have H0 : Hid (0 < i + 1 → chLet (chI s 0) = true) := Lib.hid (fun _ => h0.out (by omega))
            clear hL hc hD hi0
            go_wp2_with (first
              | (go_at_call 51; refine (rLetter_c _ _).mono ?_; rintro e w2 ⟨rfl, rfl⟩; rw [HL.out])
              | (go_at_call 52; refine (rDigit_c _ _).mono ?_; rintro e w2 ⟨rfl, rfl⟩; rw [HD.out]))
            exact ⟨⟨i + 1, hlt, by simp, H0, HN⟩, by simp [intOf]; omega⟩
      · have HN : Hid (run wordC s (i + 1) = run wordC s 0) := Lib.hid (by rw [← hr.out, run_go hlt (by rw [hc]; unfold wordC; rw [hL, Bool.true_or])])
        have HL := Lib.hid hL
        have H0 : Hid (0 < i + 1 → chLet (chI s 0) = true) := Lib.hid (fun _ => by
          by_cases hi0 : i = 0
          · subst hi0; rw [hc, hL]
          · exact h0.out (by omega))
        clear hL hc
        go_wp2_with (go_at_call 51; refine (rLetter_c _ _).mono ?_; rintro e w2 ⟨rfl, rfl⟩; rw [HL.out])
        exact ⟨⟨i + 1, hlt, by simp, H0, HN⟩, by simp [intOf]; omega⟩
    · obtain rfl : i = s.size := by omega
      by_cases hz : s.size = 0
      · obtain rfl : R = false := by
          rw [← HR.out]; unfold nameB
          rw [chI_ge (by omega)]; rfl
        have hz' : ¬ (1 : Int) ≤ (s.size : Int) := by omega
        go_wp2
        go_ret
        exact ⟨rfl, rfl⟩
      · have hz' : (1 : Int) ≤ (s.size : Int) := by omega
        obtain rfl : R = decide ((s.size : Int) ≤ 32) := by
          rw [← HR.out]; unfold nameB
          rw [h0.out (by omega), ← hr.out, run_end, Bool.eq_iff_iff]
          simp; omega
        go_wp2
        go_ret
        exact ⟨rfl, rfl⟩
set_option maxRecDepth 100000 in
theorem rIdent_c (s : ByteArray) (w : World) (hm : s.size ≤ 9223372036854775807) :
    Calls Try.prog 36 #[.string s] w fun e w' => e = .returned (.bool (identB s)) ∧ w' = w := by
  unfold identB
  cases hB : nameB s
  all_goals
    go_enter Try.func36, Try.ntmps36
    go_wp2_with (first
      | (go_at_call 43; refine (rName_c _ _ hm).mono ?_; rintro e w2 ⟨rfl, rfl⟩; rw [hB])
      | (go_at_call 44; refine (rkw_c _ _).mono ?_; rintro e w2 ⟨rfl, rfl⟩))
    go_ret
    exact ⟨rfl, rfl⟩
end Go.Proofs.Ytffgjamnijhlpaa
