/- The reference: skip, end, text, One, walked. -/
import Derived.Test.YthjfedkginjbeaaTuh
import Derived.OwnWalk
namespace Go.Proofs.Ythjfedkginjbeaa
open Go.RowKit
/-- what is skipped from i on, within a comment or not -/
def skC (s : ByteArray) (c : Bool) (i : Nat) : Nat := if c = true then sk s (run lineC s i) else sk s i
theorem sk_end (s : ByteArray) : sk s s.size = s.size := sk_stop (by rw [chI_ge (by omega)]; rfl) (by rw [chI_ge (by omega)]; decide)
theorem skC_nl {s : ByteArray} {c : Bool} {i : Nat} (h : chI s i = 10) : skC s c i = skC s false (i + 1) := by
  have hb : sk s i = sk s (i + 1) := sk_blank (by rw [h]; rfl)
  cases c
  · exact hb
  · show sk s (run lineC s i) = sk s (i + 1)
    rw [run_stop (by rw [h]; rfl), hb]
theorem skC_hash {s : ByteArray} {c : Bool} {i : Nat} (h : chI s i = 35) : skC s c i = skC s true (i + 1) := by
  have hlt := ch_in (s := s) (i := i) (by rw [h]; decide)
  have hr : run lineC s i = run lineC s (i + 1) := run_go hlt (by rw [h]; rfl)
  cases c
  · show sk s i = sk s (run lineC s (i + 1))
    rw [sk_hash h, hr]
  · show sk s (run lineC s i) = sk s (run lineC s (i + 1))
    rw [hr]
theorem skC_in {s : ByteArray} {i : Nat} (hlt : i < s.size) (h : chI s i ≠ 10) : skC s true i = skC s true (i + 1) := by
  show sk s (run lineC s i) = sk s (run lineC s (i + 1))
  rw [run_go hlt]
  have : chI s i ≠ -1 := by rw [chI_lt hlt]; omega
  simp [lineC, h, this]
theorem skC_blank {s : ByteArray} {i : Nat} (h : chI s i = 32 ∨ chI s i = 9) : skC s false i = skC s false (i + 1) :=
  sk_blank (by rcases h with h | h <;> rw [h] <;> rfl)
theorem skC_out {s : ByteArray} {i : Nat} (h1 : chI s i ≠ 10) (h2 : chI s i ≠ 35) (h3 : chI s i ≠ 32) (h4 : chI s i ≠ 9) : skC s false i = i :=
  sk_stop (by unfold chBlk; rw [decide_eq_false (by omega)]) h2
theorem skC_end (s : ByteArray) (c : Bool) : skC s c s.size = s.size := by
  cases c
  · exact sk_end s
  · show sk s (run lineC s s.size) = s.size
    rw [run_end, sk_end]
set_option maxRecDepth 100000 in
set_option maxHeartbeats 4000000 in
theorem rSkip_c (s : ByteArray) (i0 : Nat) (w : World) (hi0 : i0 ≤ s.size) (hm : s.size ≤ 1000000000000) :
    Calls Try.prog 35 #[.string s, .int .i64 i0] w fun e w' => e = .returned (.int .i64 (sk s i0)) ∧ w' = w := by
  obtain ⟨R, hR⟩ : ∃ R, sk s i0 = R := ⟨_, rfl⟩
  rw [hR]
  have HR : Hid (skC s false i0 = R) := Lib.hid hR
  clear hR
  go_enter Try.func35, Try.ntmps35
  go_wp2_with fail
  go_loop [1, 5] (fun vi vc => ∃ (i : Nat) (c : Bool), i ≤ s.size ∧ vi = .int .i64 i ∧ vc = .bool c ∧ Hid (skC s c i = R))
    (fun vi _ => s.size - (intOf vi).toNat)
  case atStart => exact ⟨i0, false, hi0, rfl, rfl, HR⟩
  case round =>
    clear HR
    obtain ⟨i, c, hi, rfl, rfl, HI⟩ := hrel
    by_cases hlt : i < s.size
    · have hl : (i : Int) < (s.size : Int) := by omega
      have hc := chI_lt hlt
      obtain ⟨x, hx⟩ : ∃ x : Int, (s[i].toNat : Int) = x := ⟨_, rfl⟩
      rw [hx] at hc
      by_cases h10 : x = 10
      · subst h10
        have HN : Hid (skC s false (i + 1) = R) := Lib.hid (by rw [← skC_nl (c := c) hc]; exact HI.out)
        clear hc HI
        go_wp2
        exact ⟨⟨i + 1, false, hlt, by simp, rfl, HN⟩, by simp [intOf]; omega⟩
      · have q10 : (x == 10) = false := by simpa using h10
        by_cases h35 : x = 35
        · subst h35
          have HN : Hid (skC s true (i + 1) = R) := Lib.hid (by rw [← skC_hash (c := c) hc]; exact HI.out)
          clear hc HI
          go_wp2
          exact ⟨⟨i + 1, true, hlt, by simp, rfl, HN⟩, by simp [intOf]; omega⟩
        · have q35 : (x == 35) = false := by simpa using h35
          cases c
          · by_cases h32 : x = 32
            · subst h32
              have HN : Hid (skC s false (i + 1) = R) := Lib.hid (by rw [← skC_blank (.inl hc)]; exact HI.out)
              clear hc HI
              go_wp2
              exact ⟨⟨i + 1, false, hlt, by simp, rfl, HN⟩, by simp [intOf]; omega⟩
            · have q32 : (x != 32) = true := by simpa using h32
              by_cases h9 : x = 9
              · subst h9
                have HN : Hid (skC s false (i + 1) = R) := Lib.hid (by rw [← skC_blank (.inr hc)]; exact HI.out)
                clear hc HI
                go_wp2
                exact ⟨⟨i + 1, false, hlt, by simp, rfl, HN⟩, by simp [intOf]; omega⟩
              · have q9 : (x != 9) = true := by simpa using h9
                obtain rfl : i = R := by rw [← HI.out]; exact (skC_out (by rw [hc]; exact h10) (by rw [hc]; exact h35) (by rw [hc]; exact h32) (by rw [hc]; exact h9)).symm
                clear hc HI
                go_wp2
                go_ret
                exact ⟨rfl, rfl⟩
          · have HN : Hid (skC s true (i + 1) = R) := Lib.hid (by rw [← skC_in hlt (by rw [hc]; exact h10)]; exact HI.out)
            clear hc HI
            go_wp2
            exact ⟨⟨i + 1, true, hlt, by simp, rfl, HN⟩, by simp [intOf]; omega⟩
    · obtain rfl : i = s.size := by omega
      obtain rfl : s.size = R := by rw [← HI.out, skC_end]
      go_wp2
      go_ret
      exact ⟨rfl, rfl⟩
set_option maxRecDepth 100000 in
set_option maxHeartbeats 4000000 in
theorem rEnd_c (s : ByteArray) (i0 : Nat) (w : World) (hi0 : i0 < s.size) (hm : s.size ≤ 1000000000000) :
    Calls Try.prog 59 #[.string s, .int .i64 i0] w fun e w' => e = .returned (.int .i64 (if chLet (chI s i0) = true then (run wordC s i0 : Nat) else (run chDig s i0 : Nat))) ∧ w' = w := by
  cases hL : chLet (chI s i0)
  · rw [if_neg (by decide)]
    obtain ⟨R, hR⟩ : ∃ R, run chDig s i0 = R := ⟨_, rfl⟩
    rw [hR]
    have HR := Lib.hid hR
    rw [chI_lt hi0] at hL
    have HL := Lib.hid hL
    clear hR hL
    have hl0 : (i0 : Int) < (s.size : Int) := by omega
    go_enter Try.func59, Try.ntmps59
    go_wp2_with (go_at_call 58; refine (rLetter_c _ _).mono ?_; rintro e w2 ⟨rfl, rfl⟩; rw [HL.out])
    go_loop [1] (fun vi => ∃ i : Nat, i ≤ s.size ∧ vi = .int .i64 i ∧ Hid (run chDig s i = R))
      (fun vi => s.size - (intOf vi).toNat)
    case atStart => exact ⟨i0, by omega, rfl, HR⟩
    case round =>
      obtain ⟨i, hi, rfl, HI⟩ := hrel
      by_cases hlt : i < s.size
      · have hl : (i : Int) < (s.size : Int) := by omega
        have hc := chI_lt hlt
        cases hD : chDig (s[i].toNat : Int)
        · obtain rfl : i = R := by rw [← HI.out, run_stop (by rw [hc, hD])]
          have HD := Lib.hid hD
          clear hc hD
          go_wp2_with (go_at_call 60; refine (rDigit_c _ _).mono ?_; rintro e w2 ⟨rfl, rfl⟩; rw [HD.out])
          go_ret
          exact ⟨rfl, rfl⟩
        · have HN : Hid (run chDig s (i + 1) = R) := Lib.hid (by rw [← run_go hlt (by rw [hc, hD])]; exact HI.out)
          have HD := Lib.hid hD
          clear hc hD
          go_wp2_with (go_at_call 60; refine (rDigit_c _ _).mono ?_; rintro e w2 ⟨rfl, rfl⟩; rw [HD.out])
          exact ⟨⟨i + 1, hlt, by simp, HN⟩, by simp [intOf]; omega⟩
      · obtain rfl : i = s.size := by omega
        obtain rfl : s.size = R := by rw [← HI.out, run_end]
        go_wp2
        go_ret
        exact ⟨rfl, rfl⟩
  · rw [if_pos rfl]
    obtain ⟨R, hR⟩ : ∃ R, run wordC s i0 = R := ⟨_, rfl⟩
    rw [hR]
    have HR := Lib.hid hR
    rw [chI_lt hi0] at hL
    have HL := Lib.hid hL
    clear hR hL
    have hl0 : (i0 : Int) < (s.size : Int) := by omega
    go_enter Try.func59, Try.ntmps59
    go_wp2_with (go_at_call 58; refine (rLetter_c _ _).mono ?_; rintro e w2 ⟨rfl, rfl⟩; rw [HL.out])
    go_loop [1] (fun vi => ∃ i : Nat, i ≤ s.size ∧ vi = .int .i64 i ∧ Hid (run wordC s i = R))
      (fun vi => s.size - (intOf vi).toNat)
    case atStart => exact ⟨i0, by omega, rfl, HR⟩
    case round =>
      obtain ⟨i, hi, rfl, HI⟩ := hrel
      by_cases hlt : i < s.size
      · have hl : (i : Int) < (s.size : Int) := by omega
        have hc := chI_lt hlt
        cases hD : chDig (s[i].toNat : Int)
        · cases hL2 : chLet (s[i].toNat : Int)
          · obtain rfl : i = R := by rw [← HI.out, run_stop (by rw [hc]; unfold wordC; rw [hL2, hD]; rfl)]
            have HD := Lib.hid hD
            have HL2 := Lib.hid hL2
            clear hc hD hL2 HL
            go_wp2_with (first
              | (go_at_call 60; refine (rDigit_c _ _).mono ?_; rintro e w2 ⟨rfl, rfl⟩; rw [HD.out])
              | (go_at_call 58; refine (rLetter_c _ _).mono ?_; rintro e w2 ⟨rfl, rfl⟩; rw [HL2.out]))
            go_ret
            exact ⟨rfl, rfl⟩
          · have HN : Hid (run wordC s (i + 1) = R) := Lib.hid (by rw [← run_go hlt (by rw [hc]; unfold wordC; rw [hL2, Bool.true_or])]; exact HI.out)
            have HD := Lib.hid hD
            have HL2 := Lib.hid hL2
            clear hc hD hL2 HL
            go_wp2_with (first
              | (go_at_call 60; refine (rDigit_c _ _).mono ?_; rintro e w2 ⟨rfl, rfl⟩; rw [HD.out])
              | (go_at_call 58; refine (rLetter_c _ _).mono ?_; rintro e w2 ⟨rfl, rfl⟩; rw [HL2.out]))
            exact ⟨⟨i + 1, hlt, by simp, HN⟩, by simp [intOf]; omega⟩
        · have HN : Hid (run wordC s (i + 1) = R) := Lib.hid (by rw [← run_go hlt (by rw [hc]; unfold wordC; rw [hD, Bool.or_true])]; exact HI.out)
          have HD := Lib.hid hD
          clear hc hD HL
          go_wp2_with (go_at_call 60; refine (rDigit_c _ _).mono ?_; rintro e w2 ⟨rfl, rfl⟩; rw [HD.out])
          exact ⟨⟨i + 1, hlt, by simp, HN⟩, by simp [intOf]; omega⟩
      · obtain rfl : i = s.size := by omega
        obtain rfl : s.size = R := by rw [← HI.out, run_end]
        go_wp2
        go_ret
        exact ⟨rfl, rfl⟩
/-- what text gives, e being where the run of characters ends -/
def txtV (s : ByteArray) (i e : Nat) : Value :=
  if chI s e = 34 then (if 256 < e - i - 1 then .tuple #[.int .i64 0, .int .i64 4, .int .i64 i] else .tuple #[.int .i64 ((e + 1 : Nat) : Int), .int .i64 0, .int .i64 0])
  else if chI s e = -1 then .tuple #[.int .i64 0, .int .i64 5, .int .i64 i] else .tuple #[.int .i64 0, .int .i64 9, .int .i64 e]
set_option maxRecDepth 100000 in
set_option maxHeartbeats 4000000 in
theorem rTxt_c (s : ByteArray) (i0 : Nat) (w : World) (hi0 : i0 < s.size) (hm : s.size ≤ 1000000000000) :
    Calls Try.prog 61 #[.string s, .int .i64 i0] w fun e w' => e = .returned (txtV s i0 (run quoC s (i0 + 1))) ∧ w' = w := by
  obtain ⟨R, hR⟩ : ∃ R, run quoC s (i0 + 1) = R := ⟨_, rfl⟩
  rw [hR]
  have HR := Lib.hid hR
  have hRl := run_le quoC s (i0 + 1) (by omega)
  rw [hR] at hRl
  clear hR
  obtain ⟨V, hV⟩ : ∃ V, txtV s i0 R = V := ⟨_, rfl⟩
  rw [hV]
  have HV := Lib.hid hV
  clear hV
  go_enter Try.func61, Try.ntmps61
  go_wp2_with fail
  go_loop [7] (fun vi => ∃ i : Nat, i0 + 1 ≤ i ∧ i ≤ s.size ∧ vi = .int .i64 i ∧ Hid (run quoC s i = R))
    (fun vi => s.size - (intOf vi).toNat)
  case atStart => exact ⟨i0 + 1, Nat.le_refl _, by omega, by simp, HR⟩
  case round =>
    clear HR
    obtain ⟨i, hi1, hi, rfl, HI⟩ := hrel
    have nn1 : (i : Int) - (i0 : Int) - 1 = ((i - i0 - 1 : Nat) : Int) := by omega
    by_cases hlt : i < s.size
    · have hl : (i : Int) < (s.size : Int) := by omega
      have hc := chI_lt hlt
      obtain ⟨x, hx⟩ : ∃ x : Int, (s[i].toNat : Int) = x := ⟨_, rfl⟩
      have hx0 : 0 ≤ x := by omega
      rw [hx] at hc
      by_cases h34 : x = 34
      · subst h34
        obtain rfl : i = R := by rw [← HI.out, run_stop (by rw [hc]; rfl)]
        have qe : ((i : Int) == (s.size : Int)) = false := by simp; omega
        by_cases hb : 256 < i - i0 - 1
        · obtain rfl : V = .tuple #[.int .i64 0, .int .i64 4, .int .i64 i0] := by rw [← HV.out]; unfold txtV; rw [if_pos hc, if_pos hb]
          have hb' : (256 : Int) < (i : Int) - (i0 : Int) - 1 := by omega
          clear hc HI nn1
          go_wp2
          go_ret3
          exact ⟨rfl, rfl⟩
        · obtain rfl : V = .tuple #[.int .i64 ((i + 1 : Nat) : Int), .int .i64 0, .int .i64 0] := by rw [← HV.out]; unfold txtV; rw [if_pos hc, if_neg hb]
          have hb' : ¬ (256 : Int) < (i : Int) - (i0 : Int) - 1 := by omega
          clear hc HI nn1
          go_wp2
          go_ret3
          exact ⟨by simp, rfl⟩
      · have q34 : (x != 34) = true := by simpa using h34
        by_cases h1 : x < 32
        · obtain rfl : i = R := by rw [← HI.out, run_stop (by rw [hc]; unfold quoC chPrt; rw [decide_eq_false (by omega)]; rfl)]
          obtain rfl : V = .tuple #[.int .i64 0, .int .i64 9, .int .i64 i] := by rw [← HV.out]; unfold txtV; rw [if_neg (by rw [hc]; exact h34), if_neg (by rw [hc]; omega)]
          clear hc HI nn1
          go_wp2
          go_ret3
          exact ⟨rfl, rfl⟩
        · by_cases h2 : 126 < x
          · obtain rfl : i = R := by rw [← HI.out, run_stop (by rw [hc]; unfold quoC chPrt; rw [decide_eq_false (by omega)]; rfl)]
            obtain rfl : V = .tuple #[.int .i64 0, .int .i64 9, .int .i64 i] := by rw [← HV.out]; unfold txtV; rw [if_neg (by rw [hc]; exact h34), if_neg (by rw [hc]; omega)]
            clear hc HI nn1
            go_wp2
            go_ret3
            exact ⟨rfl, rfl⟩
          · have HN : Hid (run quoC s (i + 1) = R) := Lib.hid (by
              rw [← run_go hlt (by rw [hc]; unfold quoC chPrt; rw [decide_eq_true (by omega), decide_eq_false h34]; rfl)]
              exact HI.out)
            clear hc HI nn1
            go_wp2
            exact ⟨⟨i + 1, by omega, hlt, by simp, HN⟩, by simp [intOf]; omega⟩
    · obtain rfl : i = s.size := by omega
      obtain rfl : s.size = R := by rw [← HI.out, run_end]
      obtain rfl : V = .tuple #[.int .i64 0, .int .i64 5, .int .i64 i0] := by rw [← HV.out]; unfold txtV; rw [if_neg (by rw [chI_ge (by omega)]; decide), if_pos (chI_ge (by omega))]
      clear HI nn1
      go_wp2
      go_ret3
      exact ⟨rfl, rfl⟩
end Go.Proofs.Ythjfedkginjbeaa
