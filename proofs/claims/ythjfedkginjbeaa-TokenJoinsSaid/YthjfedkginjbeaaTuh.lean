/- The reference: Name, number, Quoted, Identifier, Check, Same. -/
import Derived.Test.YthjfedkginjbeaaTug
namespace Go.Proofs.Ythjfedkginjbeaa
open Go.RowKit
theorem run_end (p : Int → Bool) (s : ByteArray) : run p s s.size = s.size := by unfold run; rw [Nat.sub_self]; rfl
set_option maxRecDepth 100000 in
set_option maxHeartbeats 2000000 in
theorem rName_c (s : ByteArray) (w : World) (hm : s.size ≤ 1000000000000) :
    Calls Try.prog 38 #[.string s] w fun e w' => e = .returned (.bool (nameB s)) ∧ w' = w := by
  obtain ⟨R, hR⟩ : ∃ r, nameB s = r := ⟨_, rfl⟩
  have HR := Lib.hid hR
  clear hR
  rw [HR.out]
  go_enter Try.func38, Try.ntmps38
  go_wp2_with fail
  go_loop [3] (fun vi => ∃ i : Nat, i ≤ s.size ∧ vi = .int .i64 i ∧ Hid (0 < i → chLet (chI s 0) = true) ∧ Hid (run wordC s i = run wordC s 0))
    (fun vi => s.size - (intOf vi).toNat)
  case atStart => exact ⟨0, Nat.zero_le _, rfl, Lib.hid (fun h => absurd h (by omega)), Lib.hid rfl⟩
  case round =>
    obtain ⟨i, hi, rfl, h0, hr⟩ := hrel
    by_cases hlt : i < s.size
    · have hl : (i : Int) < (s.size : Int) := by omega
      have hc := chI_lt hlt
      cases hL : chLet (s[i].toNat : Int)
      · by_cases hi0 : i = 0
        · subst hi0
          obtain rfl : R = false := by
            rw [← HR.out]; unfold nameB
            rw [hc, hL]; simp
          have HL := Lib.hid hL
          clear hL hc
          go_wp2_with (go_at_call 58; refine (rLetter_c _ _).mono ?_; rintro e w2 ⟨rfl, rfl⟩; rw [HL.out])
          go_ret
          exact ⟨rfl, rfl⟩
        · have hi0' : ((i : Int) == 0) = false := by simp; omega
          cases hD : chDig (s[i].toNat : Int)
          · obtain rfl : R = false := by
              rw [← HR.out]; unfold nameB
              rw [← hr.out, run_stop (by rw [hc]; unfold wordC; rw [hL, hD]; rfl)]
              simp; omega
            have HL := Lib.hid hL
            have HD := Lib.hid hD
            clear hL hc hD hi0
            go_wp2_with (first
              | (go_at_call 58; refine (rLetter_c _ _).mono ?_; rintro e w2 ⟨rfl, rfl⟩; rw [HL.out])
              | (go_at_call 60; refine (rDigit_c _ _).mono ?_; rintro e w2 ⟨rfl, rfl⟩; rw [HD.out]))
            go_ret
            exact ⟨rfl, rfl⟩
          · have HN : Hid (run wordC s (i + 1) = run wordC s 0) := Lib.hid (by rw [← hr.out, run_go hlt (by rw [hc]; unfold wordC; rw [hD, Bool.or_true])])
            have HL := Lib.hid hL
            have HD := Lib.hid hD
            have H0 : Hid (0 < i + 1 → chLet (chI s 0) = true) := Lib.hid (fun _ => h0.out (by omega))
            clear hL hc hD hi0
            go_wp2_with (first
              | (go_at_call 58; refine (rLetter_c _ _).mono ?_; rintro e w2 ⟨rfl, rfl⟩; rw [HL.out])
              | (go_at_call 60; refine (rDigit_c _ _).mono ?_; rintro e w2 ⟨rfl, rfl⟩; rw [HD.out]))
            exact ⟨⟨i + 1, hlt, by simp, H0, HN⟩, by simp [intOf]; omega⟩
      · have HN : Hid (run wordC s (i + 1) = run wordC s 0) := Lib.hid (by rw [← hr.out, run_go hlt (by rw [hc]; unfold wordC; rw [hL, Bool.true_or])])
        have HL := Lib.hid hL
        have H0 : Hid (0 < i + 1 → chLet (chI s 0) = true) := Lib.hid (fun _ => by
          by_cases hi0 : i = 0
          · subst hi0; rw [hc, hL]
          · exact h0.out (by omega))
        clear hL hc
        go_wp2_with (go_at_call 58; refine (rLetter_c _ _).mono ?_; rintro e w2 ⟨rfl, rfl⟩; rw [HL.out])
        exact ⟨⟨i + 1, hlt, by simp, H0, HN⟩, by simp [intOf]; omega⟩
    · obtain rfl : i = s.size := by omega
      by_cases hz : s.size = 0
      · obtain rfl : R = false := by
          rw [← HR.out]; unfold nameB
          rw [chI_ge (by omega)]; rfl
        have hz' : ¬ (1 : Int) ≤ (s.size : Int) := by omega
        go_wp2
        go_ret
        exact ⟨rfl, rfl⟩
      · have hz' : (1 : Int) ≤ (s.size : Int) := by omega
        obtain rfl : R = decide ((s.size : Int) ≤ 32) := by
          rw [← HR.out]; unfold nameB
          rw [h0.out (by omega), ← hr.out, run_end, Bool.eq_iff_iff]
          simp; omega
        go_wp2
        go_ret
        exact ⟨rfl, rfl⟩
set_option maxRecDepth 100000 in
set_option maxHeartbeats 2000000 in
theorem rNum_c (s : ByteArray) (w : World) (hm : s.size ≤ 1000000000000) :
    Calls Try.prog 41 #[.string s] w fun e w' => e = .returned (.bool (numB s)) ∧ w' = w := by
  obtain ⟨R, hR⟩ : ∃ r, numB s = r := ⟨_, rfl⟩
  have HR := Lib.hid hR
  clear hR
  rw [HR.out]
  go_enter Try.func41, Try.ntmps41
  go_wp2_with fail
  go_loop [3] (fun vi => ∃ i : Nat, i ≤ s.size ∧ vi = .int .i64 i ∧ Hid (run chDig s i = run chDig s 0))
    (fun vi => s.size - (intOf vi).toNat)
  case atStart => exact ⟨0, Nat.zero_le _, rfl, Lib.hid rfl⟩
  case round =>
    obtain ⟨i, hi, rfl, hr⟩ := hrel
    by_cases hlt : i < s.size
    · have hl : (i : Int) < (s.size : Int) := by omega
      have hc := chI_lt hlt
      cases hD : chDig (s[i].toNat : Int)
      · obtain rfl : R = false := by
          rw [← HR.out]; unfold numB
          rw [← hr.out, run_stop (by rw [hc, hD])]
          simp; omega
        have HD := Lib.hid hD
        clear hc hD
        go_wp2_with (go_at_call 60; refine (rDigit_c _ _).mono ?_; rintro e w2 ⟨rfl, rfl⟩; rw [HD.out])
        go_ret
        exact ⟨rfl, rfl⟩
      · have HN : Hid (run chDig s (i + 1) = run chDig s 0) := Lib.hid (by rw [← hr.out, run_go hlt (by rw [hc, hD])])
        have HD := Lib.hid hD
        clear hc hD
        go_wp2_with (go_at_call 60; refine (rDigit_c _ _).mono ?_; rintro e w2 ⟨rfl, rfl⟩; rw [HD.out])
        exact ⟨⟨i + 1, hlt, by simp, HN⟩, by simp [intOf]; omega⟩
    · obtain rfl : i = s.size := by omega
      by_cases hz : s.size = 0
      · obtain rfl : R = false := by
          rw [← HR.out]; unfold numB
          rw [chI_ge (by omega)]; rfl
        have hz' : ¬ (1 : Int) ≤ (s.size : Int) := by omega
        go_wp2
        go_ret
        exact ⟨rfl, rfl⟩
      · have hz' : (1 : Int) ≤ (s.size : Int) := by omega
        have h0 : 0 < s.size := by omega
        have hd : chDig (chI s 0) = true := run_ok (p := chDig) (Nat.zero_le _) (Nat.le_refl 0) (by rw [← hr.out, run_end]; omega)
        by_cases h9 : s.size ≤ 9
        · have h9' : (s.size : Int) ≤ 9 := by omega
          by_cases h1 : s.size = 1
          · obtain rfl : R = true := by
              rw [← HR.out]; unfold numB
              rw [hd, ← hr.out, run_end]
              simp; omega
            have h1' : ((s.size : Int) == 1) = true := by simp; omega
            clear hz h0 h9 h1
            go_wp2
            go_ret
            exact ⟨rfl, rfl⟩
          · have h1' : ((s.size : Int) == 1) = false := by simp; omega
            obtain rfl : R = !((s[0].toNat : Int) == 48) := by
              rw [← HR.out]; unfold numB
              rw [hd, ← hr.out, run_end, chI_lt h0, Bool.eq_iff_iff]
              simp; omega
            clear hz h9 h1
            go_wp2
            go_ret
            exact ⟨rfl, rfl⟩
        · have h9' : ¬ (s.size : Int) ≤ 9 := by omega
          obtain rfl : R = false := by
            rw [← HR.out]; unfold numB
            simp; omega
          go_wp2
          go_ret
          exact ⟨rfl, rfl⟩
set_option maxRecDepth 100000 in
set_option maxHeartbeats 2000000 in
theorem rQuo_c (s : ByteArray) (w : World) (hm : s.size ≤ 1000000000000) :
    Calls Try.prog 42 #[.string s] w fun e w' => e = .returned (.bool (quoB s)) ∧ w' = w := by
  obtain ⟨R, hR⟩ : ∃ r, quoB s = r := ⟨_, rfl⟩
  have HR := Lib.hid hR
  clear hR
  rw [HR.out]
  go_enter Try.func42, Try.ntmps42
  go_wp2_with fail
  go_loop [3] (fun vi => ∃ i : Nat, i ≤ s.size ∧ vi = .int .i64 i ∧ Hid (run quoC s i = run quoC s 0))
    (fun vi => s.size - (intOf vi).toNat)
  case atStart => exact ⟨0, Nat.zero_le _, rfl, Lib.hid rfl⟩
  case round =>
    obtain ⟨i, hi, rfl, hr⟩ := hrel
    by_cases hlt : i < s.size
    · have hl : (i : Int) < (s.size : Int) := by omega
      have hc := chI_lt hlt
      by_cases h1 : (s[i].toNat : Int) < 32
      · obtain rfl : R = false := by
          rw [← HR.out]; unfold quoB
          rw [← hr.out, run_stop (by rw [hc]; unfold quoC chPrt; rw [decide_eq_false (by omega)]; rfl)]
          simp; omega
        clear hc
        go_wp2
        go_ret
        exact ⟨rfl, rfl⟩
      · by_cases h2 : (126 : Int) < (s[i].toNat : Int)
        · obtain rfl : R = false := by
            rw [← HR.out]; unfold quoB
            rw [← hr.out, run_stop (by rw [hc]; unfold quoC chPrt; rw [decide_eq_false (by omega)]; rfl)]
            simp; omega
          clear hc
          go_wp2
          go_ret
          exact ⟨rfl, rfl⟩
        · cases h3 : ((s[i].toNat : Int) == 34)
          · have HN : Hid (run quoC s (i + 1) = run quoC s 0) := Lib.hid (by
              rw [← hr.out, run_go hlt]
              rw [hc]; unfold quoC chPrt
              have : ¬ (s[i].toNat : Int) = 34 := by simpa using h3
              rw [decide_eq_true (by omega), decide_eq_false this]; rfl)
            clear hc
            go_wp2
            exact ⟨⟨i + 1, hlt, by simp, HN⟩, by simp [intOf]; omega⟩
          · obtain rfl : R = false := by
              rw [← HR.out]; unfold quoB
              have : (s[i].toNat : Int) = 34 := by simpa using h3
              rw [← hr.out, run_stop (by rw [hc, this]; rfl)]
              simp; omega
            clear hc
            go_wp2
            go_ret
            exact ⟨rfl, rfl⟩
    · obtain rfl : i = s.size := by omega
      obtain rfl : R = decide ((s.size : Int) ≤ 256) := by
        rw [← HR.out]; unfold quoB
        rw [← hr.out, run_end, Bool.eq_iff_iff]
        simp; omega
      go_wp2
      go_ret
      exact ⟨rfl, rfl⟩
set_option maxRecDepth 100000 in
theorem rIdent_c (s : ByteArray) (w : World) (hm : s.size ≤ 1000000000000) :
    Calls Try.prog 20 #[.string s] w fun e w' => e = .returned (.bool (identB s)) ∧ w' = w := by
  unfold identB
  cases hB : nameB s
  all_goals
    go_enter Try.func20, Try.ntmps20
    go_wp2_with (first
      | (go_at_call 38; refine (rName_c _ _ hm).mono ?_; rintro e w2 ⟨rfl, rfl⟩; rw [hB])
      | (go_at_call 18; refine (rkw_c _ _).mono ?_; rintro e w2 ⟨rfl, rfl⟩))
    go_ret
    exact ⟨rfl, rfl⟩
def mkText : ByteArray := ⟨#[123, 32, 125, 32, 40, 32, 41, 32, 59, 32, 58, 32, 44, 32, 46, 32, 45, 32, 126, 32, 42, 32, 33, 32, 61, 61, 32, 33, 61, 32, 38, 38, 32, 124, 124, 32, 94, 32]⟩
set_option maxRecDepth 100000 in
theorem mkText_seg : segF mkText mkText.size 0 0 = markL := by kernel_rfl
theorem isMk_seg (s : ByteArray) : isIn s (segF mkText mkText.size 0 0) = markB s := by
  rw [mkText_seg]
  unfold isIn markB
  by_cases h : s.toList = []
  · rw [h]; decide
  · simp [h]
set_option maxRecDepth 100000 in
set_option maxHeartbeats 2000000 in
theorem rCheck_c (k : Int) (t : ByteArray) (l c : Int) (w : World) (ht : t.size ≤ 1000000000000) :
    Calls Try.prog 22 #[.agg #[.int .i64 k, .string t, .int .i64 l, .int .i64 c]] w fun e w' => e = .returned (.bool (refB k t)) ∧ Below w.heap.size w w' := by
  have hbl := (Below.refl w.heap.size w).alloc (Nat.le_refl _) (.cells #[.int .i64 k, .string t, .int .i64 l, .int .i64 c] 34)
  by_cases h0 : k = 0
  · subst h0
    have e0 : refB 0 t = t.toList.isEmpty := by
      unfold refB
      rw [if_pos rfl, ByteArray.toList_eq]
      rcases t with ⟨⟨l⟩⟩
      cases l with
      | nil => rfl
      | cons x r => exact decide_eq_false (fun h : r.length + 1 = 0 => by omega)
    rw [e0]
    go_enter Try.func22, Try.ntmps22
    go_wp2
    go_ret
    exact ⟨rfl, hbl⟩
  by_cases h1 : k = 1
  · subst h1
    have e0 : refB 1 t = nameB t := rfl
    rw [e0]
    go_enter Try.func22, Try.ntmps22
    go_wp2_with (go_at_call 38; refine (rName_c _ _ ht).mono ?_; rintro e w2 ⟨rfl, rfl⟩)
    go_ret
    exact ⟨rfl, hbl⟩
  by_cases h2 : k = 2
  · subst h2
    have e0 : refB 2 t = numB t := rfl
    rw [e0]
    go_enter Try.func22, Try.ntmps22
    go_wp2_with (go_at_call 41; refine (rNum_c _ _ ht).mono ?_; rintro e w2 ⟨rfl, rfl⟩)
    go_ret
    exact ⟨rfl, hbl⟩
  by_cases h3 : k = 3
  · subst h3
    have e0 : refB 3 t = quoB t := rfl
    rw [e0]
    go_enter Try.func22, Try.ntmps22
    go_wp2_with (go_at_call 42; refine (rQuo_c _ _ ht).mono ?_; rintro e w2 ⟨rfl, rfl⟩)
    go_ret
    exact ⟨rfl, hbl⟩
  by_cases h4 : k = 4
  · subst h4
    have e0 : refB 4 t = markB t := rfl
    rw [e0]
    go_enter Try.func22, Try.ntmps22
    go_wp2_with (go_at_call 37; refine (within_c t mkText _ (by decide)).mono ?_; rintro e w2 ⟨rfl, rfl⟩; rw [isMk_seg])
    go_ret
    exact ⟨rfl, hbl⟩
  have e0 : refB k t = false := by unfold refB; rw [if_neg h0, if_neg h1, if_neg h2, if_neg h3, if_neg h4]
  rw [e0]
  have q0 : (k == 0) = false := by simpa using h0
  have q1 : (k == 1) = false := by simpa using h1
  have q2 : (k == 2) = false := by simpa using h2
  have q3 : (k == 3) = false := by simpa using h3
  have q4 : (k == 4) = false := by simpa using h4
  go_enter Try.func22, Try.ntmps22
  go_wp2
  go_ret
  exact ⟨rfl, hbl⟩
end Go.Proofs.Ythjfedkginjbeaa
