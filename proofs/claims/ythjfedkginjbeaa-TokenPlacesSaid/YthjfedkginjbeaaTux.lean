/- The law TokenPlaces, walked. -/
import Derived.Test.YthjfedkginjbeaaTuw
import Derived.Test.YthjfedkginjbeaaTun
namespace Go.Proofs.Ythjfedkginjbeaa
open Go.RowKit
set_option maxRecDepth 100000 in
set_option maxHeartbeats 8000000 in
theorem lplaces_c (s : ByteArray) (w : World) (hs : s.size ≤ 9223372036854775807) :
    Calls Try.prog 9 #[.string s] w fun e w' => e = .returned (.bool true) ∧ Below w.heap.size w w' := by
  have hb := Below.refl w.heap.size w
  by_cases h3 : (300 : Int) < (s.size : Int)
  · go_enter Try.func9, Try.ntmps9
    go_wp2_with (go_at_call 13; refine (awake_c _).mono ?_; rintro e w6 ⟨rfl, hq⟩; replace hb := hb.trans (hq.mono hb.size); clear hq)
    go_ret
    exact ⟨rfl, hb⟩
  · have hz : s.size ≤ 300 := by omega
    have hS := scan_t s w (by omega)
    cases hf : (scF s (s.size + 1) 0 []).1 with
    | some cf =>
      obtain ⟨c, f⟩ := cf
      obtain ⟨hc0, hl⟩ := scF_some _ _ _ hf
      rw [hf, hl] at hS
      simp only [faultV, List.map_nil] at hS
      have q : (c != 0) = true := by simpa using hc0
      have HS := Lib.hid hS
      clear hS hf hl hc0
      go_enter Try.func9, Try.ntmps9
      go_wp2_with fail
      refine HS.out.mono ?_
      rintro e w2 ⟨v, rfl, ⟨ao, cap, rfl, hcap, _⟩, hb2⟩
      have hb3 := hb2.alloc hb2.size (.cells #[.int .i64 c, .int .i64 (posI s f).1, .int .i64 (posI s f).2, .string ⟨#[]⟩] 28)
      go_wp2_with (go_at_call 13; refine (awake_c _).mono ?_; rintro e w6 ⟨rfl, hq⟩; replace hb3 := hb3.trans (hq.mono hb3.size); clear hq)
      go_ret
      exact ⟨rfl, hb3⟩
    | none =>
      obtain ⟨js, hjs, htr⟩ := scF_trail _ _ _ (Nat.zero_le _) (by omega) hf
      rw [hf, hjs] at hS
      simp only [faultV, List.nil_append, List.map_map] at hS
      obtain ⟨t1, t2, t3, t4⟩ := trail_at js 0 htr
      obtain ⟨m, hm⟩ : ∃ m, js.map (Tk.toI ∘ tkAt s) = m := ⟨_, rfl⟩
      rw [hm] at hS
      have hml : m.length = js.length := by rw [← hm]; simp
      have hmk : ∀ k (h : k < m.length) (h2 : k < js.length), m[k] = (tkAt s js[k]).toI := fun k h h2 => by subst hm; simp
      have hmj : js.length ≤ 1000 := by
        have h1 := scF_len s (s.size + 1) 0 []
        rw [hjs] at h1
        simp at h1
        omega
      have HT1 := Lib.hid t1
      have HT2 := Lib.hid t2
      have HMK := Lib.hid hmk
      have HML := Lib.hid hml
      have HS := Lib.hid hS
      have HT3 := Lib.hid t3
      obtain ⟨n, hn⟩ : ∃ n, js.length = n := ⟨_, rfl⟩
      have HN := Lib.hid hn
      rw [hn] at t4 hmj
      clear hS hf hjs htr t1 t2 t3 hm hml hmk hn
      go_enter Try.func9, Try.ntmps9
      go_wp2_with fail
      refine HS.out.mono ?_
      rintro e w2 ⟨v, rfl, ⟨ao, cap, rfl, hcap, hr⟩, hb2⟩
      obtain ⟨g, o, rfl, hRow⟩ := hr (by rintro rfl; have e1 := HML.out; have e2 := HN.out; simp only [List.length_nil] at e1; omega)
      have hlg := hRow.lt (by rintro rfl; have e1 := HML.out; have e2 := HN.out; simp only [List.length_nil] at e1; omega)
      have hb3 := hb2.alloc hb2.size (.cells #[.int .i64 0, .int .i64 0, .int .i64 0, .string ⟨#[]⟩] 28)
      have hRW := hRow.keep (Below.heap_alloc w2 (.cells #[.int .i64 0, .int .i64 0, .int .i64 0, .string ⟨#[]⟩] 28) g hlg)
      have hgW : g < (w2.alloc (.cells #[.int .i64 0, .int .i64 0, .int .i64 0, .string ⟨#[]⟩] 28)).heap.size := by simp; omega
      have hmn : m.length = n := HML.out.trans HN.out
      have HRW := Lib.hid hRW
      rw [hmn]
      rw [hmn] at hcap
      clear hr hRow hRW
      clear hlg hb2
      go_wp2_with fail
      generalize w2.alloc (.cells #[.int .i64 0, .int .i64 0, .int .i64 0, .string ⟨#[]⟩] 28) = W at *
      go_loopw [5, 6] (fun vi vk wr => ∃ i k : Nat, k ≤ n ∧ vi = .int .i64 i ∧ vk = .int .i64 k ∧ i ≤ s.size ∧ Hid (∀ h : k < js.length, i ≤ js[k]) ∧ Hid (k = n → i = s.size) ∧ Below W.heap.size W wr)
        (fun _ vk _ => n - (intOf vk).toNat)
      case atStart => exact ⟨0, 0, Nat.zero_le _, rfl, rfl, Nat.zero_le _, Lib.hid (fun _ => Nat.zero_le _), Lib.hid (fun h => by omega), Below.refl _ _⟩
      case round =>
        obtain ⟨i0, k, hk, rfl, rfl, hi0, HI, HE, hbo⟩ := hrel
        by_cases hlt : k < n
        · have hl : (k : Int) < (n : Int) := by omega
          have hkj : k < js.length := by rw [HN.out]; exact hlt
          have hkm : k < m.length := by omega
          have hjn : js.length = n := HN.out
          obtain ⟨f1, f2, f3, f4⟩ := HT1.out k hkj
          have hmk := HMK.out k hkm hkj
          have hnx : ∀ h : k + 1 < js.length, oneE s js[k] ≤ js[k + 1] := fun h => HT2.out k h
          have hij := HI.out hkj
          have hchk := scanned_chk f1 f2
          obtain ⟨e1, e2, e3⟩ := scanned_at f1 f2
          have hcl : ∀ w1, Below W.heap.size W w1 → w1.cell? ⟨g, o + k * 4, none⟩ = some (.int .i64 m[k].kind) ∧ w1.cell? ⟨g, o + k * 4 + 1, none⟩ = some (.string m[k].text) ∧ w1.cell? ⟨g, o + k * 4 + 2, none⟩ = some (.int .i64 m[k].line) ∧ w1.cell? ⟨g, o + k * 4 + 3, none⟩ = some (.int .i64 m[k].col) := fun w1 hC => (HRW.out.keep (hC.block g hgW)).at hkm
          rw [hmk] at hcl
          have hnext : ∀ h : k + 1 < js.length, js[k] + (tkAt s js[k]).text.size ≤ js[k + 1] := fun h => by
            have h1 := hnx h
            have h2 := congrArg ByteArray.size e3
            rw [ext_size e1] at h2
            have h3 : (tkAt s js[k]).text.size ≤ (spell (oneK s js[k] : Int) (tkAt s js[k]).text).size := by
              unfold spell
              split
              · rw [ByteArray.size_append, ByteArray.size_append]; omega
              · omega
            omega
          have hlast : k + 1 = n → js[k] + (tkAt s js[k]).text.size = s.size := fun h => by
            have h0 : oneK s js[k] = 0 := f3.2 (by omega)
            have h1 := f4 (by omega)
            have c := oneK_0 h0
            have h2 : oneE s js[k] = js[k] := by simp [oneE, c]
            have h4 := congrArg ByteArray.size e3
            rw [ext_size e1, h0] at h4
            have h5 : spell ((0 : Nat) : Int) (tkAt s js[k]).text = (tkAt s js[k]).text := if_neg (by decide)
            rw [h5] at h4
            omega
          have hle : js[k] + (tkAt s js[k]).text.size ≤ s.size := by
            rcases Nat.lt_or_ge (k + 1) js.length with h | h
            · have h1 := hnext h
              have h2 := (HT1.out (k + 1) h).1
              omega
            · have := hlast (by omega)
              omega
          have hkind : (oneK s js[k] = 0) ↔ k + 1 = n := by rw [f3, HN.out]
          obtain ⟨j, hj⟩ : ∃ j, js[k] = j := ⟨_, rfl⟩
          rw [hj] at f1 f2 hcl hij hchk e1 e2 e3 hlast hle hkind
          have hnext' : Hid (∀ h : k + 1 < js.length, j + (tkAt s j).text.size ≤ js[k + 1]) := Lib.hid (fun h => by have := hnext h; rwa [hj] at this)
          have HLast : Hid (k + 1 = n → j + (tkAt s j).text.size = s.size) := Lib.hid hlast
          obtain ⟨X, hX⟩ : ∃ X, (tkAt s j).text = X := ⟨_, rfl⟩
          obtain ⟨K, hK⟩ : ∃ K : Nat, oneK s j = K := ⟨_, rfl⟩
          have hto : (tkAt s j).toI = ⟨(K : Int), X, (posI s j).1, (posI s j).2⟩ := by rw [← hK, ← hX]; rfl
          rw [hto] at hcl
          simp only at hcl
          rw [hX, hK] at hchk e3
          rw [hX] at hnext' HLast hle
          rw [hK] at hkind
          have hXs : X.size ≤ 1000000 := by omega
          have hCk : ∀ w1, Calls Try.prog 21 #[.agg #[.int .i64 (K : Int), .string X, .int .i64 (posI s j).1, .int .i64 (posI s j).2]] w1 fun e w' => e = .returned (.bool true) ∧ Below w1.heap.size w1 w' := fun w1 => by
            have := check_c (K : Int) X (posI s j).1 (posI s j).2 w1 (by omega)
            rwa [hchk] at this
          have hSt : ∀ w1, Calls Try.prog 30 #[.agg #[.int .i64 (K : Int), .string X, .int .i64 (posI s j).1, .int .i64 (posI s j).2], .string s, .int .i64 j] w1 fun e w' => e = .returned (.bool true) ∧ Below w1.heap.size w1 w' := fun w1 => stands_c _ _ _ _ _ j (oneE s j) w1 (by omega) hXs e2 e1 e3
          have HCk := Lib.hid hCk
          have HSt := Lib.hid hSt
          have HCl := Lib.hid hcl
          have hB1 : Hid (((K : Int) == 0) = ((k : Int) == (n : Int) - 1)) := Lib.hid (by
            rw [Bool.eq_iff_iff]; simp; omega)
          clear hjn hCk hSt hcl hchk e1 e2 e3 hlast hnext hnx hmk f2 f3 f4 hj hX hK hto HI HE hkind
          go_wp2_with fail
          go_loopw [5] (fun vi wr => ∃ i : Nat, i ≤ j ∧ vi = .int .i64 i ∧ Below W.heap.size W wr)
            (fun vi _ => s.size + 1 - (intOf vi).toNat)
          case atStart => exact ⟨i0, hij, rfl, hbo⟩
          case round =>
            clear hij hi0 hbo
            obtain ⟨i, hij, rfl, hbr⟩ := hrel
            have HQ : Hid (∀ w1, Kp wr w1 → w1.cell? ⟨g, o + k * 4, none⟩ = some (.int .i64 (K : Int)) ∧ w1.cell? ⟨g, o + k * 4 + 1, none⟩ = some (.string X) ∧ w1.cell? ⟨g, o + k * 4 + 2, none⟩ = some (.int .i64 (posI s j).1) ∧ w1.cell? ⟨g, o + k * 4 + 3, none⟩ = some (.int .i64 (posI s j).2)) :=
              Lib.hid (fun w1 hC => HCl.out w1 (hbr.trans (Below.mono hC hbr.size)))
            have HLoc : Hid (∀ w1, Calls Try.prog 28 #[.string s, .int .i64 i] w1 fun e w' => e = .returned (.agg #[.int .i64 (posI s i).1, .int .i64 (posI s i).2]) ∧ Below w1.heap.size w1 w') := Lib.hid (fun w1 => loc_in s i w1 (by omega) (by omega))
            by_cases hlj : i < j
            · have hli : (i : Int) < (s.size : Int) := by omega
              have hne : ¬ ((posI s i).1 = (posI s j).1 ∧ (posI s i).2 = (posI s j).2) := fun h => by have := posI_inj h.1 h.2; omega
              have HNE := Lib.hid hne
              clear hne
              by_cases hA : (posI s i).1 = (posI s j).1
              · have q1 : ((posI s i).1 == (posI s j).1) = true := by simpa using hA
                have q2 : ((posI s i).2 == (posI s j).2) = false := by
                  have := HNE.out
                  simp
                  exact fun h => this ⟨hA, h⟩
                clear hA
                go_wp2_with fail
                refine wp_region_kp (by kernel_rfl) (by kernel_rfl) ?_
                repeat (first
                  | go_big_quiet_skip
                  | (go_big_quiet_want
                     go_big_quiet_op
                     first
                       | go_big_quiet_on
                       | (apply Exists.intro
                          refine ⟨fun w1 hC => ?_, ?_⟩
                          · first
                              | (go_at_call 28; with_reducible exact hC.call (HLoc.out _))
                              | (go_at_call 21; with_reducible exact hC.call (HCk.out _))
                              | (go_at_call 30; with_reducible exact hC.call (HSt.out _))
                              | (obtain ⟨p0, p1, p2, p3⟩ := HQ.out _ hC; go_simp; exact rfl)
                          go_big_quiet_on)))
                refine wpQuiet_nil ?_
                intro W1 hC
                replace hbr := hbr.trans (Below.mono hC hbr.size)
                clear hC HQ
                go_wp2
                go_roundw
                case rel => exact ⟨i + 1, by omega, by simp, hbr⟩
                case measure => simp [intOf]; omega
              · have q1 : ((posI s i).1 == (posI s j).1) = false := by simpa using hA
                clear hA
                go_wp2_with fail
                refine wp_region_kp (by kernel_rfl) (by kernel_rfl) ?_
                repeat (first
                  | go_big_quiet_skip
                  | (go_big_quiet_want
                     go_big_quiet_op
                     first
                       | go_big_quiet_on
                       | (apply Exists.intro
                          refine ⟨fun w1 hC => ?_, ?_⟩
                          · first
                              | (go_at_call 28; with_reducible exact hC.call (HLoc.out _))
                              | (go_at_call 21; with_reducible exact hC.call (HCk.out _))
                              | (go_at_call 30; with_reducible exact hC.call (HSt.out _))
                              | (obtain ⟨p0, p1, p2, p3⟩ := HQ.out _ hC; go_simp; exact rfl)
                          go_big_quiet_on)))
                refine wpQuiet_nil ?_
                intro W1 hC
                replace hbr := hbr.trans (Below.mono hC hbr.size)
                clear hC HQ
                go_wp2
                go_roundw
                case rel => exact ⟨i + 1, by omega, by simp, hbr⟩
                case measure => simp [intOf]; omega
            · obtain rfl : i = j := by omega
              by_cases hij2 : i < s.size
              · have hli : (i : Int) < (s.size : Int) := by omega
                go_wp2_with fail
                refine wp_region_kp (by kernel_rfl) (by kernel_rfl) ?_
                repeat (first
                  | go_big_quiet_skip
                  | (go_big_quiet_want
                     go_big_quiet_op
                     first
                       | go_big_quiet_on
                       | (apply Exists.intro
                          refine ⟨fun w1 hC => ?_, ?_⟩
                          · first
                              | (go_at_call 28; with_reducible exact hC.call (HLoc.out _))
                              | (go_at_call 21; with_reducible exact hC.call (HCk.out _))
                              | (go_at_call 30; with_reducible exact hC.call (HSt.out _))
                              | (obtain ⟨p0, p1, p2, p3⟩ := HQ.out _ hC; go_simp; exact rfl)
                          go_big_quiet_on)))
                refine wpQuiet_nil ?_
                intro W1 hC
                replace hbr := hbr.trans (Below.mono hC hbr.size)
                clear hC HQ
                go_wp2_with fail
                have HQ : Hid (∀ w1, Kp W1 w1 → w1.cell? ⟨g, o + k * 4, none⟩ = some (.int .i64 (K : Int)) ∧ w1.cell? ⟨g, o + k * 4 + 1, none⟩ = some (.string X) ∧ w1.cell? ⟨g, o + k * 4 + 2, none⟩ = some (.int .i64 (posI s i).1) ∧ w1.cell? ⟨g, o + k * 4 + 3, none⟩ = some (.int .i64 (posI s i).2)) :=
                  Lib.hid (fun w1 hC => HCl.out w1 (hbr.trans (Below.mono hC hbr.size)))
                cases hkb : ((k : Int) == (n : Int) - 1)
                all_goals
                  have hK0 := hB1.out.trans hkb
                  refine wp_region_kp (by kernel_rfl) (by kernel_rfl) ?_
                  repeat (first
                    | go_big_quiet_skip
                    | (go_big_quiet_want
                       go_big_quiet_op
                       first
                         | go_big_quiet_on
                         | (apply Exists.intro
                            refine ⟨fun w1 hC => ?_, ?_⟩
                            · first
                                | (go_at_call 28; with_reducible exact hC.call (HLoc.out _))
                                | (go_at_call 21; with_reducible exact hC.call (HCk.out _))
                                | (go_at_call 30; with_reducible exact hC.call (HSt.out _))
                                | (obtain ⟨p0, p1, p2, p3⟩ := HQ.out _ hC; go_simp; exact rfl)
                            go_big_quiet_on)))
                  refine wpQuiet_nil ?_
                  intro W1 hC
                  replace hbr := hbr.trans (Below.mono hC hbr.size)
                  clear hC HQ
                  obtain ⟨p0, p1, p2, p3⟩ := HCl.out _ hbr
                  go_wp2
                  go_roundw
                  case rel => exact ⟨i + X.size, k + 1, hlt, by simp, by simp, hle, hnext', HLast, hbr⟩
                  case measure => simp [intOf]; omega
              · have hli : ¬ (i : Int) < (s.size : Int) := by omega
                go_wp2_with fail
                refine wp_region_kp (by kernel_rfl) (by kernel_rfl) ?_
                repeat (first
                  | go_big_quiet_skip
                  | (go_big_quiet_want
                     go_big_quiet_op
                     first
                       | go_big_quiet_on
                       | (apply Exists.intro
                          refine ⟨fun w1 hC => ?_, ?_⟩
                          · first
                              | (go_at_call 28; with_reducible exact hC.call (HLoc.out _))
                              | (go_at_call 21; with_reducible exact hC.call (HCk.out _))
                              | (go_at_call 30; with_reducible exact hC.call (HSt.out _))
                              | (obtain ⟨p0, p1, p2, p3⟩ := HQ.out _ hC; go_simp; exact rfl)
                          go_big_quiet_on)))
                refine wpQuiet_nil ?_
                intro W1 hC
                replace hbr := hbr.trans (Below.mono hC hbr.size)
                clear hC HQ
                go_wp2_with fail
                have HQ : Hid (∀ w1, Kp W1 w1 → w1.cell? ⟨g, o + k * 4, none⟩ = some (.int .i64 (K : Int)) ∧ w1.cell? ⟨g, o + k * 4 + 1, none⟩ = some (.string X) ∧ w1.cell? ⟨g, o + k * 4 + 2, none⟩ = some (.int .i64 (posI s i).1) ∧ w1.cell? ⟨g, o + k * 4 + 3, none⟩ = some (.int .i64 (posI s i).2)) :=
                  Lib.hid (fun w1 hC => HCl.out w1 (hbr.trans (Below.mono hC hbr.size)))
                cases hkb : ((k : Int) == (n : Int) - 1)
                all_goals
                  have hK0 := hB1.out.trans hkb
                  refine wp_region_kp (by kernel_rfl) (by kernel_rfl) ?_
                  repeat (first
                    | go_big_quiet_skip
                    | (go_big_quiet_want
                       go_big_quiet_op
                       first
                         | go_big_quiet_on
                         | (apply Exists.intro
                            refine ⟨fun w1 hC => ?_, ?_⟩
                            · first
                                | (go_at_call 28; with_reducible exact hC.call (HLoc.out _))
                                | (go_at_call 21; with_reducible exact hC.call (HCk.out _))
                                | (go_at_call 30; with_reducible exact hC.call (HSt.out _))
                                | (obtain ⟨p0, p1, p2, p3⟩ := HQ.out _ hC; go_simp; exact rfl)
                            go_big_quiet_on)))
                  refine wpQuiet_nil ?_
                  intro W1 hC
                  replace hbr := hbr.trans (Below.mono hC hbr.size)
                  clear hC HQ
                  obtain ⟨p0, p1, p2, p3⟩ := HCl.out _ hbr
                  go_wp2
                  go_roundw
                  case rel => exact ⟨i + X.size, k + 1, hlt, by simp, by simp, hle, hnext', HLast, hbr⟩
                  case measure => simp [intOf]; omega
        · obtain rfl : k = n := by omega
          have hisz := HE.out rfl
          have hi2 : ((i0 : Int) == (s.size : Int)) = true := by simp; omega
          have hn0 : (0 : Int) < (k : Int) := by omega
          replace hbo := hb3.trans (hbo.mono hb3.size)
          clear HI HE
          go_wp2_with (go_at_call 13; refine (awake_c _).mono ?_; rintro e w9 ⟨rfl, hq⟩; replace hbo := hbo.trans (hq.mono hbo.size); clear hq)
          go_ret
          exact ⟨rfl, hbo⟩
end Go.Proofs.Ythjfedkginjbeaa
