/- The reference: One, walked. -/
import Derived.Test.YthjfedkginjbeaaTuk
namespace Go.Proofs.Ythjfedkginjbeaa
open Go.RowKit
theorem chI_ext {s : ByteArray} {i e k : Nat} (he : e ≤ s.size) (hk : k < e - i) : chI (s.extract i e) k = chI s (i + k) := by
  rw [chI_lt (by rw [ext_size he]; exact hk), chI_lt (by omega)]
  congr 2
  simp [ByteArray.getElem_extract]
theorem markB_2 (u v : UInt8) : markB ⟨#[u, v]⟩ = mk2 (u.toNat : Int) (v.toNat : Int) := by
  have q : ∀ (x : UInt8) (n : Nat), n < 256 → ((x.toNat : Int) = (n : Int) ↔ x = UInt8.ofNat n) := fun x n hn =>
    ⟨fun h => u8_eq h hn, fun h => by rw [h, UInt8.toNat_ofNat']; omega⟩
  have e1 : markB ⟨#[u, v]⟩ = true ↔ ((u = UInt8.ofNat 61 ∧ v = UInt8.ofNat 61) ∨ (u = UInt8.ofNat 33 ∧ v = UInt8.ofNat 61) ∨ (u = UInt8.ofNat 38 ∧ v = UInt8.ofNat 38) ∨ (u = UInt8.ofNat 124 ∧ v = UInt8.ofNat 124)) := by
    unfold markB
    rw [ByteArray.toList_eq]
    simp [markL]
  rw [Bool.eq_iff_iff, e1, ← q u 61 (by decide), ← q v 61 (by decide), ← q u 33 (by decide), ← q u 38 (by decide), ← q v 38 (by decide), ← q u 124 (by decide), ← q v 124 (by decide)]
  simp [mk2]
theorem markB_1 (u : UInt8) : markB ⟨#[u]⟩ = mk1 (u.toNat : Int) := by
  have h : ∀ n : Fin 256, markL.contains [UInt8.ofNat n.val] = mk1 ((n.val : Nat) : Int) := by decide +kernel
  have := h ⟨u.toNat, u.toNat_lt⟩
  unfold markB
  rw [ByteArray.toList_eq]
  simpa using this
theorem ext2 {s : ByteArray} {i : Nat} (h : i + 2 ≤ s.size) : s.extract i (i + 2) = ⟨#[s[i], s[i + 1]]⟩ := by
  apply ByteArray.ext
  rw [ByteArray.data_extract]
  apply Array.ext
  · have hs : s.data.size = s.size := rfl
    rw [Array.size_extract, hs]
    simp
    omega
  · intro k h1 h2
    match k, h2 with
    | 0, _ => simp; rfl
    | 1, _ => simp; rfl
theorem ext1 {s : ByteArray} {i : Nat} (h : i + 1 ≤ s.size) : s.extract i (i + 1) = ⟨#[s[i]]⟩ := by
  apply ByteArray.ext
  rw [ByteArray.data_extract]
  apply Array.ext
  · have hs : s.data.size = s.size := rfl
    rw [Array.size_extract, hs]
    simp
    omega
  · intro k h1 h2
    match k, h2 with
    | 0, _ => simp; rfl
theorem mark_two {s : ByteArray} {i : Nat} (h : i + 2 ≤ s.size) : markB (s.extract i (i + 2)) = mk2 (chI s i) (chI s (i + 1)) := by
  rw [ext2 h, markB_2, chI_lt (by omega), chI_lt (by omega)]
theorem mark_one {s : ByteArray} {i : Nat} (h : i + 1 ≤ s.size) : markB (s.extract i (i + 1)) = mk1 (chI s i) := by
  rw [ext1 h, markB_1, chI_lt (by omega)]
theorem num_ext {s : ByteArray} {i e : Nat} (hi : i < s.size) (he : run chDig s i = e) (h1 : i < e) (h9 : e - i ≤ 9) : numB (s.extract i e) = decide (e - i = 1 ∨ chI s i ≠ 48) := by
  have hr := run_le chDig s i (by omega)
  rw [he] at hr
  have hz : (s.extract i e).size = e - i := ext_size hr.2
  have hd : ∀ k, k < e - i → chDig (chI (s.extract i e) k) = true := fun k hk => by
    rw [chI_ext hr.2 hk]
    exact run_ok (p := chDig) (Nat.le_of_lt hi) (by omega) (by rw [he]; omega)
  have hrun : run chDig (s.extract i e) 0 = (s.extract i e).size := run_is (Nat.le_refl _) (fun h => absurd h (by omega)) _ 0 rfl (Nat.zero_le _) (fun k _ hk => hd k (by omega))
  have h0 : chI (s.extract i e) 0 = chI s i := by rw [chI_ext hr.2 (by omega)]; rfl
  unfold numB
  rw [hrun, hz, h0]
  have := hd 0 (by omega)
  rw [h0] at this
  simp [this, h9]
theorem results_tmp4 {fn : Func} {t u v x : Tmp} (h : fn.results = #[.tmp t, .tmp u, .tmp v, .tmp x]) (tmps : Array Value) (P : Program) (w : World) :
    (results fn tmps).run P w = .ok (.tuple #[tmps.getD t undef, tmps.getD u undef, tmps.getD v undef, tmps.getD x undef]) w := by
  simp [results, h]
/-- what One gives -/
def OneV (s : ByteArray) (i : Nat) (V : Value) : Prop :=
  (oneC s i = 0 → V = .tuple #[.int .i64 (oneK s i : Nat), .int .i64 (oneE s i : Nat), .int .i64 0, .int .i64 0]) ∧
  (oneC s i ≠ 0 → ∃ a b, V = .tuple #[a, b, .int .i64 (oneC s i), .int .i64 (oneF s i : Nat)])
theorem one_v_ok {s : ByteArray} {i k e : Nat} (hc : oneC s i = 0) (hk : oneK s i = k) (he : oneE s i = e) : OneV s i (.tuple #[.int .i64 (k : Nat), .int .i64 (e : Nat), .int .i64 0, .int .i64 0]) :=
  ⟨fun _ => by rw [hk, he], fun h => absurd hc h⟩
theorem one_v_no {s : ByteArray} {i f : Nat} {c : Int} {a b : Value} (hc : oneC s i = c) (h0 : c ≠ 0) (hf : oneF s i = f) : OneV s i (.tuple #[a, b, .int .i64 c, .int .i64 (f : Nat)]) :=
  ⟨fun h => absurd (hc.symm.trans h) h0, fun _ => ⟨a, b, by rw [hc, hf]⟩⟩
set_option maxRecDepth 100000 in
set_option maxHeartbeats 8000000 in
theorem rOne_c (s : ByteArray) (i : Nat) (w : World) (hi : i < s.size) (hm : s.size ≤ 1000000000) :
    Calls Try.prog 36 #[.string s, .int .i64 i] w fun e w' => ∃ V, OneV s i V ∧ e = .returned V ∧ w' = w := by
  have hl : (i : Int) < (s.size : Int) := by omega
  have hc := chI_lt hi
  have hE := fun w => rEnd_c s i w hi (by omega)
  cases hL : chLet (chI s i)
  · rw [hL] at hE
    simp only [Bool.false_eq_true, if_false] at hE
    cases hD : chDig (chI s i)
    · by_cases h34 : chI s i = 34
      · have hT := fun w => rTxt_c s i w hi (by omega)
        obtain ⟨R, hR⟩ : ∃ R, run quoC s (i + 1) = R := ⟨_, rfl⟩
        rw [hR] at hT
        have hRl := run_le quoC s (i + 1) (by omega)
        rw [hR] at hRl
        have hq := one_quoted h34 hR
        obtain ⟨a, b, c, hV, hO⟩ : ∃ a b c : Value, txtV s i R = .tuple #[a, b, c] ∧ OneV s i (.tuple #[.int .i64 3, a, b, c]) := by
          unfold txtV
          by_cases e1 : chI s R = 34
          · rw [if_pos e1]
            have ho := hq.1 e1
            have hRs := ch_in (s := s) (i := R) (by rw [e1]; decide)
            have hz : (ttext 3 s i (R + 1)).size = R - i - 1 := by
              simp only [ttext, if_true]
              rw [ext_size (by rw [ext_size (by omega)]; omega)]
              omega
            by_cases hb : 256 < R - i - 1
            · rw [if_pos hb]
              exact ⟨_, _, _, rfl, one_v_no (c := 4) (by rw [ho.2.2.1]; unfold terr; rw [if_neg (by decide), if_neg (by decide), if_pos rfl, hz, if_pos hb]) (by decide) ho.2.2.2⟩
            · rw [if_neg hb]
              exact ⟨_, _, _, rfl, one_v_ok (by rw [ho.2.2.1]; unfold terr; rw [if_neg (by decide), if_neg (by decide), if_pos rfl, hz, if_neg hb]) ho.1 ho.2.1⟩
          · rw [if_neg e1]
            by_cases e2 : chI s R = -1
            · rw [if_pos e2]
              exact ⟨_, _, _, rfl, one_v_no (c := 5) (hq.2.1 e2).1 (by decide) (hq.2.1 e2).2⟩
            · rw [if_neg e2]
              exact ⟨_, _, _, rfl, one_v_no (c := 9) (hq.2.2 e1 e2).1 (by decide) (hq.2.2 e1 e2).2⟩
        rw [hV] at hT
        rw [hc] at h34
        have HO := Lib.hid hO
        have HT := Lib.hid hT
        have HL : Hid (chLet 34 = false) := Lib.hid rfl
        have HD : Hid (chDig 34 = false) := Lib.hid rfl
        clear hT hO hV hq hRl hR hL hD hE hc
        go_enter Try.func36, Try.ntmps36
        go_wp2_with (first
          | (go_at_call 58; refine (rLetter_c _ _).mono ?_; rintro e w2 ⟨rfl, rfl⟩; rw [HL.out])
          | (go_at_call 60; refine (rDigit_c _ _).mono ?_; rintro e w2 ⟨rfl, rfl⟩; rw [HD.out])
          | (go_at_call 61; refine (HT.out _).mono ?_; rintro e w2 ⟨rfl, rfl⟩))
        refine bodyPost_ret (results_tmp4 rfl _ _ _) rfl ?_
        exact ⟨_, HO.out, rfl, rfl⟩
      · have h34' : ((s[i].toNat : Int) == 34) = false := by rw [← hc]; simpa using h34
        have hn1 : chI s i ≠ -1 := by rw [hc]; omega
        have hone := fun {n : Nat} (hn : n = mkN (chI s i) (chI s (i + 1))) => one_mark (code := terr 4 (s.extract i (i + n))) hn1 hL hD h34 hn rfl
        have hm1 := mark_one (s := s) (i := i) hi
        have hm2 : i + 2 ≤ s.size → markB (s.extract i (i + 2)) = mk2 (chI s i) (chI s (i + 1)) := fun h => mark_two h
        have h2n : ¬ i + 2 ≤ s.size → mk2 (chI s i) (chI s (i + 1)) = false := fun h => by
          rw [chI_ge (s := s) (i := i + 1) (by omega)]
          unfold mk2
          apply decide_eq_false
          omega
        have hf : ∀ n, n = mkN (chI s i) (chI s (i + 1)) → n ≠ 0 → i + n ≤ s.size → OneV s i (.tuple #[.int .i64 ((4 : Nat) : Int), .int .i64 ((i + n : Nat) : Int), .int .i64 0, .int .i64 0]) := fun n hn h0 hle => by
          have ho := hone hn
          refine one_v_ok ?_ ho.1 ho.2.1
          rw [ho.2.2.1, terr4, ext_size hle]
          omega
        have hg : mkN (chI s i) (chI s (i + 1)) = 0 → OneV s i (.tuple #[.int .i64 0, .int .i64 0, .int .i64 9, .int .i64 (i : Nat)]) := fun h0 => by
          have ho := hone h0.symm
          refine one_v_no (c := 9) ?_ (by decide) ho.2.2.2
          rw [ho.2.2.1, Nat.add_zero]
          unfold terr
          rw [if_neg (by decide), if_neg (by decide), if_neg (by decide), if_pos rfl, if_pos (by rw [ext_size (by omega)]; omega)]
        have HL : Hid (chLet (s[i].toNat : Int) = false) := Lib.hid (by rw [← hc]; exact hL)
        have HD : Hid (chDig (s[i].toNat : Int) = false) := Lib.hid (by rw [← hc]; exact hD)
        clear hL hD hE h34 hn1 hone
        have hl1 : (i : Int) + 1 ≤ (s.size : Int) := by omega
        cases hk2 : mk2 (chI s i) (chI s (i + 1))
        · rw [hk2] at hm2
          have HM2 := Lib.hid hm2
          cases hk1 : mk1 (chI s i)
          · have HV := Lib.hid (hg (mk0_of (by rw [hk2]; decide) (by rw [hk1]; decide)))
            rw [hk1] at hm1
            have HM1 := Lib.hid hm1
            clear hm1 hm2 h2n hf hg hk2 hk1 hc
            go_enter Try.func36, Try.ntmps36
            go_wp2_with (first
              | (go_at_call 58; refine (rLetter_c _ _).mono ?_; rintro e w2 ⟨rfl, rfl⟩; rw [HL.out])
              | (go_at_call 60; refine (rDigit_c _ _).mono ?_; rintro e w2 ⟨rfl, rfl⟩; rw [HD.out]))
            go_loop [14] (fun vi => vi = .int .i64 2 ∨ vi = .int .i64 1 ∨ vi = .int .i64 0) (fun vi => (intOf vi).toNat)
            case atStart => exact .inl rfl
            case round =>
              rcases hrel with rfl | rfl | rfl
              · by_cases h2 : i + 2 ≤ s.size
                · have h2' : (i : Int) + 2 ≤ (s.size : Int) := by omega
                  have HM := Lib.hid (HM2.out h2)
                  clear h2
                  go_wp2_with (go_at_call 37; refine (within_c (s.extract i (i + 2)) mkText _ (by decide)).mono ?_; rintro e w2 ⟨rfl, rfl⟩; rw [isMk_seg, HM.out])
                  exact ⟨.inr (.inl rfl), by simp [intOf]⟩
                · have h2' : ¬ (i : Int) + 2 ≤ (s.size : Int) := by omega
                  clear h2
                  go_wp2
                  exact ⟨.inr (.inl rfl), by simp [intOf]⟩
              · go_wp2_with (go_at_call 37; refine (within_c (s.extract i (i + 1)) mkText _ (by decide)).mono ?_; rintro e w2 ⟨rfl, rfl⟩; rw [isMk_seg, HM1.out])
                exact ⟨.inr (.inr rfl), by simp [intOf]⟩
              · go_wp2
                refine bodyPost_ret (results_tmp4 rfl _ _ _) rfl ?_
                exact ⟨_, HV.out, rfl, rfl⟩
          · have HV := Lib.hid (hf 1 (mk1_of (by rw [hk2]; decide) hk1).symm (by decide) hi)
            rw [hk1] at hm1
            have HM1 := Lib.hid hm1
            clear hm1 hm2 h2n hf hg hk2 hk1 hc
            go_enter Try.func36, Try.ntmps36
            go_wp2_with (first
              | (go_at_call 58; refine (rLetter_c _ _).mono ?_; rintro e w2 ⟨rfl, rfl⟩; rw [HL.out])
              | (go_at_call 60; refine (rDigit_c _ _).mono ?_; rintro e w2 ⟨rfl, rfl⟩; rw [HD.out]))
            go_loop [14] (fun vi => vi = .int .i64 2 ∨ vi = .int .i64 1) (fun vi => (intOf vi).toNat)
            case atStart => exact .inl rfl
            case round =>
              rcases hrel with rfl | rfl
              · by_cases h2 : i + 2 ≤ s.size
                · have h2' : (i : Int) + 2 ≤ (s.size : Int) := by omega
                  have HM := Lib.hid (HM2.out h2)
                  clear h2
                  go_wp2_with (go_at_call 37; refine (within_c (s.extract i (i + 2)) mkText _ (by decide)).mono ?_; rintro e w2 ⟨rfl, rfl⟩; rw [isMk_seg, HM.out])
                  exact ⟨.inr rfl, by simp [intOf]⟩
                · have h2' : ¬ (i : Int) + 2 ≤ (s.size : Int) := by omega
                  clear h2
                  go_wp2
                  exact ⟨.inr rfl, by simp [intOf]⟩
              · go_wp2_with (go_at_call 37; refine (within_c (s.extract i (i + 1)) mkText _ (by decide)).mono ?_; rintro e w2 ⟨rfl, rfl⟩; rw [isMk_seg, HM1.out])
                refine bodyPost_ret (results_tmp4 rfl _ _ _) rfl ?_
                exact ⟨_, HV.out, rfl, rfl⟩
        · have h2 : i + 2 ≤ s.size := by
            rcases Nat.lt_or_ge s.size (i + 2) with h | h
            · exact absurd (h2n (by omega)) (by rw [hk2]; decide)
            · exact h
          have HV := Lib.hid (hf 2 (mk2_of hk2).symm (by decide) h2)
          rw [hk2] at hm2
          have HM := Lib.hid (hm2 h2)
          have h2' : (i : Int) + 2 ≤ (s.size : Int) := by omega
          clear hm1 hm2 h2n hf hg hk2 hc
          go_enter Try.func36, Try.ntmps36
          go_wp2_with (first
            | (go_at_call 58; refine (rLetter_c _ _).mono ?_; rintro e w2 ⟨rfl, rfl⟩; rw [HL.out])
            | (go_at_call 60; refine (rDigit_c _ _).mono ?_; rintro e w2 ⟨rfl, rfl⟩; rw [HD.out]))
          go_loop [14] (fun vi => vi = .int .i64 2) (fun vi => (intOf vi).toNat)
          case atStart => rfl
          case round =>
            obtain rfl := hrel
            go_wp2_with (go_at_call 37; refine (within_c (s.extract i (i + 2)) mkText _ (by decide)).mono ?_; rintro e w2 ⟨rfl, rfl⟩; rw [isMk_seg, HM.out])
            refine bodyPost_ret (results_tmp4 rfl _ _ _) rfl ?_
            exact ⟨_, HV.out, rfl, rfl⟩
    · obtain ⟨R, hR⟩ : ∃ R, run chDig s i = R := ⟨_, rfl⟩
      rw [hR] at hE
      have hRl := run_le chDig s (i + 1) (by omega)
      rw [← run_go hi hD, hR] at hRl
      have ho := one_number hD hR
      have hz : (ttext 2 s i R).size = R - i := by simp only [ttext]; rw [if_neg (by decide), ext_size hRl.2]
      have hz0 : chI (ttext 2 s i R) 0 = chI s i := by simp only [ttext]; rw [if_neg (by decide), chI_ext hRl.2 (by omega)]; rfl
      have HL : Hid (chLet (s[i].toNat : Int) = false) := Lib.hid (by rw [← hc]; exact hL)
      have HD : Hid (chDig (s[i].toNat : Int) = true) := Lib.hid (by rw [← hc]; exact hD)
      have HE := Lib.hid hE
      have hRi : (i : Int) ≤ (R : Int) := by omega
      have hRs : (R : Int) ≤ (s.size : Int) := by omega
      by_cases h9 : 9 < R - i
      · have h9' : (9 : Int) < (R : Int) - (i : Int) := by omega
        have HV : Hid (OneV s i (.tuple #[.int .i64 0, .int .i64 0, .int .i64 3, .int .i64 (i : Nat)])) := Lib.hid (one_v_no (c := 3) (by rw [ho.2.2.1]; unfold terr; rw [if_neg (by decide), if_pos rfl, hz, if_pos h9]) (by decide) ho.2.2.2)
        clear hL hD hE ho hR hc hz hz0 h9
        go_enter Try.func36, Try.ntmps36
        go_wp2_with (first
          | (go_at_call 58; refine (rLetter_c _ _).mono ?_; rintro e w2 ⟨rfl, rfl⟩; rw [HL.out])
          | (go_at_call 60; refine (rDigit_c _ _).mono ?_; rintro e w2 ⟨rfl, rfl⟩; rw [HD.out])
          | (go_at_call 59; refine (HE.out _).mono ?_; rintro e w2 ⟨rfl, rfl⟩))
        refine bodyPost_ret (results_tmp4 rfl _ _ _) rfl ?_
        exact ⟨_, HV.out, rfl, rfl⟩
      · have h9' : ¬ (9 : Int) < (R : Int) - (i : Int) := by omega
        have hnum := num_ext hi hR (by omega) (by omega)
        by_cases hq : R - i = 1 ∨ chI s i ≠ 48
        · rw [decide_eq_true hq] at hnum
          have HN := Lib.hid hnum
          have HV : Hid (OneV s i (.tuple #[.int .i64 ((2 : Nat) : Int), .int .i64 (R : Nat), .int .i64 0, .int .i64 0])) := Lib.hid (one_v_ok (by rw [ho.2.2.1, terr2, hz, hz0]; omega) ho.1 ho.2.1)
          clear hL hD hE ho hR hc hz hz0 h9 hq hnum
          go_enter Try.func36, Try.ntmps36
          go_wp2_with (first
            | (go_at_call 58; refine (rLetter_c _ _).mono ?_; rintro e w2 ⟨rfl, rfl⟩; rw [HL.out])
            | (go_at_call 60; refine (rDigit_c _ _).mono ?_; rintro e w2 ⟨rfl, rfl⟩; rw [HD.out])
            | (go_at_call 59; refine (HE.out _).mono ?_; rintro e w2 ⟨rfl, rfl⟩)
            | (go_at_call 41; refine (rNum_c (s.extract i R) _ (by rw [ext_size (by omega)]; omega)).mono ?_; rintro e w2 ⟨rfl, rfl⟩; rw [HN.out]))
          refine bodyPost_ret (results_tmp4 rfl _ _ _) rfl ?_
          exact ⟨_, HV.out, rfl, rfl⟩
        · rw [decide_eq_false hq] at hnum
          have HN := Lib.hid hnum
          have HV : Hid (OneV s i (.tuple #[.int .i64 0, .int .i64 0, .int .i64 9, .int .i64 (i : Nat)])) := Lib.hid (one_v_no (c := 9) (by rw [ho.2.2.1]; unfold terr; rw [if_neg (by decide), if_pos rfl, hz, if_neg h9, hz0, if_pos (by omega)]) (by decide) ho.2.2.2)
          clear hL hD hE ho hR hc hz hz0 h9 hq hnum
          go_enter Try.func36, Try.ntmps36
          go_wp2_with (first
            | (go_at_call 58; refine (rLetter_c _ _).mono ?_; rintro e w2 ⟨rfl, rfl⟩; rw [HL.out])
            | (go_at_call 60; refine (rDigit_c _ _).mono ?_; rintro e w2 ⟨rfl, rfl⟩; rw [HD.out])
            | (go_at_call 59; refine (HE.out _).mono ?_; rintro e w2 ⟨rfl, rfl⟩)
            | (go_at_call 41; refine (rNum_c (s.extract i R) _ (by rw [ext_size (by omega)]; omega)).mono ?_; rintro e w2 ⟨rfl, rfl⟩; rw [HN.out]))
          refine bodyPost_ret (results_tmp4 rfl _ _ _) rfl ?_
          exact ⟨_, HV.out, rfl, rfl⟩
  · rw [hL] at hE
    simp only [if_true] at hE
    obtain ⟨R, hR⟩ : ∃ R, run wordC s i = R := ⟨_, rfl⟩
    rw [hR] at hE
    have hRl := run_le wordC s i (by omega)
    rw [hR] at hRl
    have ho := one_name hL hR
    have hz : (ttext 1 s i R).size = R - i := by simp only [ttext]; rw [if_neg (by decide), ext_size hRl.2]
    have HL : Hid (chLet (s[i].toNat : Int) = true) := Lib.hid (by rw [← hc]; exact hL)
    have HE := Lib.hid hE
    by_cases h9 : 32 < R - i
    · have h9' : (32 : Int) < (R : Int) - (i : Int) := by omega
      have HV : Hid (OneV s i (.tuple #[.int .i64 0, .int .i64 0, .int .i64 10, .int .i64 (i : Nat)])) := Lib.hid (one_v_no (c := 10) (by rw [ho.2.2.1]; unfold terr; rw [if_pos rfl, hz, if_pos h9]) (by decide) ho.2.2.2)
      clear hL hE ho hR hc hz h9
      go_enter Try.func36, Try.ntmps36
      go_wp2_with (first
        | (go_at_call 58; refine (rLetter_c _ _).mono ?_; rintro e w2 ⟨rfl, rfl⟩; rw [HL.out])
        | (go_at_call 59; refine (HE.out _).mono ?_; rintro e w2 ⟨rfl, rfl⟩))
      refine bodyPost_ret (results_tmp4 rfl _ _ _) rfl ?_
      exact ⟨_, HV.out, rfl, rfl⟩
    · have h9' : ¬ (32 : Int) < (R : Int) - (i : Int) := by omega
      have HV : Hid (OneV s i (.tuple #[.int .i64 ((1 : Nat) : Int), .int .i64 (R : Nat), .int .i64 0, .int .i64 0])) := Lib.hid (one_v_ok (by rw [ho.2.2.1, terr1, hz]; omega) ho.1 ho.2.1)
      clear hL hE ho hR hc hz h9
      go_enter Try.func36, Try.ntmps36
      go_wp2_with (first
        | (go_at_call 58; refine (rLetter_c _ _).mono ?_; rintro e w2 ⟨rfl, rfl⟩; rw [HL.out])
        | (go_at_call 59; refine (HE.out _).mono ?_; rintro e w2 ⟨rfl, rfl⟩))
      refine bodyPost_ret (results_tmp4 rfl _ _ _) rfl ?_
      exact ⟨_, HV.out, rfl, rfl⟩
end Go.Proofs.Ythjfedkginjbeaa
