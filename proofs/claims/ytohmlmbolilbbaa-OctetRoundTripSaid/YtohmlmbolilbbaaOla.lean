/- The laws OctetNumbers, OctetTexts, OctetSums, walked. -/
import Derived.Test.YtohmlmbolilbbaaOpt
namespace Go.Proofs.Ytohmlmbolilbbaa
open Go.RowKit
set_option maxRecDepth 100000 in
set_option maxHeartbeats 8000000 in
theorem numbers_c (v : Value) (l : List Int) (n : Nat) (m : Int) (w : World) (hB : Byts w v l) (hn : l.length ≤ 9223372036854775807) (h1 : n < 18446744073709551616) (h2 : -9223372036854775808 ≤ m) (h3 : m ≤ 9223372036854775807) :
    Calls Try.prog 3 #[v, .int .u64 n, .int .i64 m] w fun e w' => e = .returned (.bool true) ∧ Below w.heap.size w w' := by
  by_cases h : (400 : Int) < (l.length : Int)
  · have hS := short_c _ l w hB (by omega)
    rw [decide_eq_false (by omega)] at hS
    go_enter Try.func3, Try.ntmps3
    go_wp2_with (first
      | (go_at_call 10; refine hS.mono ?_; rintro e w1 ⟨rfl, rfl⟩)
      | (go_at_call 11; refine (awake_c _).mono ?_; rintro e w2 ⟨rfl, hb2⟩))
    go_ret
    exact ⟨rfl, hb2⟩
  · have hS := short_c _ l w hB (by omega)
    rw [decide_eq_true (by omega)] at hS
    have hl : l.length ≤ 400 := by omega
    have hall := hB.all
    have hrl : (decR l).length ≤ 400 := by unfold decR; split <;> simp <;> omega
    have HN := fun w hB => Lib.hid (number_c v l w hB (by omega))
    have HRN := fun w hB => Lib.hid (rNumber_c v l w hB (by omega))
    have HG := fun w hB => Lib.hid (signed_c v l w hB (by omega))
    have HRG := fun w hB => Lib.hid (rSigned_c v l w hB (by omega))
    generalize decR l = R at *
    generalize (dec l).1 = E at *
    generalize hU : unfoldI (dec l).2.1 = U at *
    generalize (dec l).2.1 = N at *
    have hE1 := fun w => Lib.hid (putNumber_c v l n w · h1 (by omega))
    have hE2 := fun w => Lib.hid (rPutNumber_c v l n w · h1 (by omega))
    have hE3 := fun w => Lib.hid (putSigned_c v l m w · h2 h3 (by omega))
    have hE4 := fun w => Lib.hid (rPutSigned_c v l m w · h2 h3 (by omega))
    have hc1 : (l ++ code n).length ≤ 1000 := by have := code_len h1; rw [List.length_append]; omega
    have hc2 : (l ++ code (foldN m).toNat).length ≤ 1000 := by have := foldN_bd h2 h3; have := code_len (n := (foldN m).toNat) (by omega); rw [List.length_append]; omega
    have ha1 : AllB (l ++ code n) := hall.app (code_all _)
    have ha2 : AllB (l ++ code (foldN m).toNat) := hall.app (code_all _)
    generalize l ++ code n = P1 at *
    generalize l ++ code (foldN m).toNat = P2 at *
    clear hU h h1 h2 h3 hn
    go_enter Try.func3, Try.ntmps3
    go_wp2_with (go_at_call 10; refine hS.mono ?_; rintro e w0 ⟨rfl, rfl⟩)
    clear hS
    refine ((HN w0 hB).out).mono ?_
    rintro e w1 ⟨v1, rfl, hV1, hk⟩
    replace hB := hB.keep hk
    have hb := hk
    clear hk
    go_wp2_with fail
    refine ((HRN w1 hB).out).mono ?_
    rintro e w2 ⟨v2, rfl, hV2, hk⟩
    replace hB := hB.keep hk
    replace hV1 := hV1.keep hk
    replace hb := hb.trans (hk.mono hb.size)
    clear hk
    go_wp2_with fail
    refine ((HG w2 hB).out).mono ?_
    rintro e w3 ⟨v3, rfl, hV3, hk⟩
    replace hB := hB.keep hk
    replace hV1 := hV1.keep hk
    replace hV2 := hV2.keep hk
    replace hb := hb.trans (hk.mono hb.size)
    clear hk
    go_wp2_with fail
    refine ((HRG w3 hB).out).mono ?_
    rintro e w4 ⟨v4, rfl, hV4, hk⟩
    replace hB := hB.keep hk
    replace hV1 := hV1.keep hk
    replace hV2 := hV2.keep hk
    replace hV3 := hV3.keep hk
    replace hb := hb.trans (hk.mono hb.size)
    clear hk
    go_wp2_with fail
    refine ((hE1 w4).out hB).mono ?_
    rintro e w5 ⟨v5, rfl, ho, hk⟩
    replace hB := hB.keep hk
    replace hV1 := hV1.keep hk
    replace hV2 := hV2.keep hk
    replace hV3 := hV3.keep hk
    replace hV4 := hV4.keep hk
    replace hb := hb.trans (hk.mono hb.size)
    clear hk
    have hV5 := ho.byts ha1
    clear ho
    go_wp2_with fail
    refine ((hE2 w5).out hB).mono ?_
    rintro e w6 ⟨v6, rfl, ho, hk⟩
    replace hB := hB.keep hk
    replace hV1 := hV1.keep hk
    replace hV2 := hV2.keep hk
    replace hV3 := hV3.keep hk
    replace hV4 := hV4.keep hk
    replace hV5 := hV5.keep hk
    replace hb := hb.trans (hk.mono hb.size)
    clear hk
    have hV6 := ho.byts ha1
    clear ho
    go_wp2_with fail
    refine (same_c _ _ P1 P1 w6 hV5 hV6 (by omega) (by omega)).mono ?_
    rintro e w7 ⟨rfl, hk⟩
    clear hV5
    clear hV6
    replace hB := hB.keep hk
    replace hV1 := hV1.keep hk
    replace hV2 := hV2.keep hk
    replace hV3 := hV3.keep hk
    replace hV4 := hV4.keep hk
    replace hb := hb.trans (hk.mono hb.size)
    clear hk
    rw [sameI_self]
    go_wp2_with fail
    refine ((hE3 w7).out hB).mono ?_
    rintro e w8 ⟨v7, rfl, ho, hk⟩
    replace hB := hB.keep hk
    replace hV1 := hV1.keep hk
    replace hV2 := hV2.keep hk
    replace hV3 := hV3.keep hk
    replace hV4 := hV4.keep hk
    replace hb := hb.trans (hk.mono hb.size)
    clear hk
    have hV7 := ho.byts ha2
    clear ho
    go_wp2_with fail
    refine ((hE4 w8).out hB).mono ?_
    rintro e w9 ⟨v8, rfl, ho, hk⟩
    replace hB := hB.keep hk
    replace hV1 := hV1.keep hk
    replace hV2 := hV2.keep hk
    replace hV3 := hV3.keep hk
    replace hV4 := hV4.keep hk
    replace hV7 := hV7.keep hk
    replace hb := hb.trans (hk.mono hb.size)
    clear hk
    have hV8 := ho.byts ha2
    clear ho
    go_wp2_with fail
    refine (same_c _ _ P2 P2 w9 hV7 hV8 (by omega) (by omega)).mono ?_
    rintro e w10 ⟨rfl, hk⟩
    clear hV7
    clear hV8
    replace hB := hB.keep hk
    replace hV1 := hV1.keep hk
    replace hV2 := hV2.keep hk
    replace hV3 := hV3.keep hk
    replace hV4 := hV4.keep hk
    replace hb := hb.trans (hk.mono hb.size)
    clear hk
    rw [sameI_self]
    go_wp2_with fail
    refine (same_c _ _ R R w10 hV1 hV2 (by omega) (by omega)).mono ?_
    rintro e w11 ⟨rfl, hk⟩
    clear hV1
    clear hV2
    replace hB := hB.keep hk
    replace hV3 := hV3.keep hk
    replace hV4 := hV4.keep hk
    replace hb := hb.trans (hk.mono hb.size)
    clear hk
    rw [sameI_self]
    go_wp2_with fail
    refine (same_c _ _ R R w11 hV3 hV4 (by omega) (by omega)).mono ?_
    rintro e w12 ⟨rfl, hk⟩
    clear hV3
    clear hV4
    replace hB := hB.keep hk
    replace hb := hb.trans (hk.mono hb.size)
    clear hk
    rw [sameI_self]
    go_wp2_with fail
    refine (awake_c w12).mono ?_
    rintro e w13 ⟨rfl, hk⟩
    replace hB := hB.keep hk
    replace hb := hb.trans (hk.mono hb.size)
    clear hk
    go_wp2_with fail
    go_ret
    exact ⟨rfl, hb⟩
set_option maxRecDepth 100000 in
set_option maxHeartbeats 8000000 in
theorem ltexts_c (v : Value) (l : List Int) (s : ByteArray) (most : Int) (w : World) (hB : Byts w v l) (hn : l.length ≤ 9223372036854775807) (hs : s.size ≤ 9223372036854775807) (h2 : -9223372036854775808 ≤ most) (h3 : most ≤ 9223372036854775807) :
    Calls Try.prog 4 #[v, .string s, .int .i64 most] w fun e w' => e = .returned (.bool true) ∧ Below w.heap.size w w' := by
  by_cases h : (400 : Int) < (l.length : Int)
  · have hS := short_c _ l w hB (by omega)
    rw [decide_eq_false (by omega)] at hS
    go_enter Try.func4, Try.ntmps4
    go_wp2_with (first
      | (go_at_call 10; refine hS.mono ?_; rintro e w1 ⟨rfl, rfl⟩)
      | (go_at_call 11; refine (awake_c _).mono ?_; rintro e w2 ⟨rfl, hb2⟩))
    go_ret
    exact ⟨rfl, hb2⟩
  · by_cases h' : (400 : Int) < (s.size : Int)
    · have hS := short_c _ l w hB (by omega)
      rw [decide_eq_true (by omega)] at hS
      go_enter Try.func4, Try.ntmps4
      go_wp2_with (first
        | (go_at_call 10; refine hS.mono ?_; rintro e w1 ⟨rfl, rfl⟩)
        | (go_at_call 11; refine (awake_c _).mono ?_; rintro e w2 ⟨rfl, hb2⟩))
      go_ret
      exact ⟨rfl, hb2⟩
    · have hS := short_c _ l w hB (by omega)
      rw [decide_eq_true (by omega)] at hS
      have hl : l.length ≤ 400 := by omega
      have hall := hB.all
      have HN := fun w hB => Lib.hid (text_c v l most w hB (by omega) h2 h3)
      have HRN := fun w hB => Lib.hid (rText_c v l most w hB (by omega) h2 h3)
      have hrl : (decT l most).2.2.length ≤ 400 := by
        rw [decT_eq]
        have hr : (decR l).length ≤ 400 := by unfold decR; split <;> simp <;> omega
        split
        · simp
        · split
          · simp
          · split
            · simp
            · simp only [List.length_drop]; omega
      have hE1 := fun w => Lib.hid (putText_c v l s w · (by omega) (by omega))
      have hE2 := fun w => Lib.hid (rPutText_c v l s w · (by omega) (by omega))
      have hc1 : (l ++ encT s).length ≤ 1000 := by have := code_len (n := s.size) (by omega); unfold encT; rw [List.length_append, List.length_append, bts_len]; omega
      have ha1 : AllB (l ++ encT s) := hall.app ((code_all _).app (bts_all s))
      generalize l ++ encT s = P1 at *
      generalize (decT l most).2.2 = R at *
      generalize (decT l most).2.1 = S at *
      generalize (decT l most).1 = E at *
      clear h h2 h3 hn
      go_enter Try.func4, Try.ntmps4
      go_wp2_with (go_at_call 10; refine hS.mono ?_; rintro e w0 ⟨rfl, rfl⟩)
      clear hS
      refine ((HN w0 hB).out).mono ?_
      rintro e w1 ⟨v1, rfl, hV1, hk⟩
      replace hB := hB.keep hk
      have hb := hk
      clear hk
      go_wp2_with fail
      refine ((HRN w1 hB).out).mono ?_
      rintro e w2 ⟨v2, rfl, hV2, hk⟩
      replace hB := hB.keep hk
      replace hV1 := hV1.keep hk
      replace hb := hb.trans (hk.mono hb.size)
      clear hk
      go_wp2_with fail
      refine ((hE1 w2).out hB).mono ?_
      rintro e w3 ⟨v5, rfl, ho, hk⟩
      replace hB := hB.keep hk
      replace hV1 := hV1.keep hk
      replace hV2 := hV2.keep hk
      replace hb := hb.trans (hk.mono hb.size)
      clear hk
      have hV5 := ho.byts ha1
      clear ho
      go_wp2_with fail
      refine ((hE2 w3).out hB).mono ?_
      rintro e w4 ⟨v6, rfl, ho, hk⟩
      replace hB := hB.keep hk
      replace hV1 := hV1.keep hk
      replace hV2 := hV2.keep hk
      replace hV5 := hV5.keep hk
      replace hb := hb.trans (hk.mono hb.size)
      clear hk
      have hV6 := ho.byts ha1
      clear ho
      go_wp2_with fail
      refine (same_c _ _ P1 P1 w4 hV5 hV6 (by omega) (by omega)).mono ?_
      rintro e w5 ⟨rfl, hk⟩
      clear hV5
      clear hV6
      replace hB := hB.keep hk
      replace hV1 := hV1.keep hk
      replace hV2 := hV2.keep hk
      replace hb := hb.trans (hk.mono hb.size)
      clear hk
      rw [sameI_self]
      go_wp2_with fail
      refine (same_c _ _ R R w5 hV1 hV2 (by omega) (by omega)).mono ?_
      rintro e w6 ⟨rfl, hk⟩
      clear hV1
      clear hV2
      replace hB := hB.keep hk
      replace hb := hb.trans (hk.mono hb.size)
      clear hk
      rw [sameI_self]
      go_wp2_with fail
      refine (awake_c w6).mono ?_
      rintro e w7 ⟨rfl, hk⟩
      replace hB := hB.keep hk
      replace hb := hb.trans (hk.mono hb.size)
      clear hk
      go_wp2_with fail
      go_ret
      exact ⟨rfl, hb⟩
set_option maxRecDepth 100000 in
set_option maxHeartbeats 8000000 in
theorem lsums_c (v : Value) (l : List Int) (w : World) (hB : Byts w v l) (hn : l.length ≤ 9223372036854775807) :
    Calls Try.prog 6 #[v] w fun e w' => e = .returned (.bool true) ∧ Below w.heap.size w w' := by
  by_cases h : (400 : Int) < (l.length : Int)
  · have hS := short_c _ l w hB (by omega)
    rw [decide_eq_false (by omega)] at hS
    go_enter Try.func6, Try.ntmps6
    go_wp2_with (first
      | (go_at_call 10; refine hS.mono ?_; rintro e w1 ⟨rfl, rfl⟩)
      | (go_at_call 11; refine (awake_c _).mono ?_; rintro e w2 ⟨rfl, hb2⟩))
    go_ret
    exact ⟨rfl, hb2⟩
  · have hS := short_c _ l w hB (by omega)
    rw [decide_eq_true (by omega)] at hS
    have hl : l.length ≤ 400 := by omega
    have hall := hB.all
    have HO := fun w hB => Lib.hid (open_c v l w hB (by omega))
    have HRO := fun w hB => Lib.hid (rOpen_c v l w hB (by omega))
    have HE := fun w hB => Lib.hid (seal_c v l w hB (by omega))
    have HRE := fun w hB => Lib.hid (rSeal_c v l w hB (by omega))
    have HM := fun w hB => Lib.hid (sum_c v l w hB (by omega))
    have HRM := fun w hB => Lib.hid (rSum_c v l w hB (by omega))
    have hrl : (openL l).2.length ≤ 400 := by
      unfold openL
      split
      · simp
      · split
        · simp; omega
        · simp
    have hc1 : (sealL l).length ≤ 1000 := by rw [sealL_len]; omega
    have ha1 : AllB (sealL l) := sealL_all hall
    have hos : ∀ w u, Byts w u (sealL l) → Hid (Calls Try.prog 29 #[u] w fun e w' => ∃ vr, e = .returned (.tuple #[vr, .int .i64 0]) ∧ Byts w' vr l ∧ Below w.heap.size w w') := fun w u hu => Lib.hid (by
      have h := open_c u (sealL l) w hu (by omega)
      rw [open_seal] at h
      exact h)
    generalize sealL l = P1 at *
    generalize (openL l).2 = R at *
    generalize (openL l).1 = E at *
    generalize sumL l = H at *
    clear h hn
    go_enter Try.func6, Try.ntmps6
    go_wp2_with (go_at_call 10; refine hS.mono ?_; rintro e w0 ⟨rfl, rfl⟩)
    clear hS
    refine ((HO w0 hB).out).mono ?_
    rintro e w1 ⟨v1, rfl, hV1, hk⟩
    replace hB := hB.keep hk
    have hb := hk
    clear hk
    go_wp2_with fail
    refine ((HRO w1 hB).out).mono ?_
    rintro e w2 ⟨v2, rfl, hV2, hk⟩
    replace hB := hB.keep hk
    replace hV1 := hV1.keep hk
    replace hb := hb.trans (hk.mono hb.size)
    clear hk
    go_wp2_with fail
    refine ((HE w2 hB).out).mono ?_
    rintro e w3 ⟨v3, rfl, ho, hk⟩
    replace hB := hB.keep hk
    replace hV1 := hV1.keep hk
    replace hV2 := hV2.keep hk
    replace hb := hb.trans (hk.mono hb.size)
    clear hk
    have hV3 := ho.byts ha1
    clear ho
    go_wp2_with fail
    refine ((hos w3 _ hV3).out).mono ?_
    rintro e w4 ⟨v4, rfl, hV4, hk⟩
    clear hV3
    replace hB := hB.keep hk
    replace hV1 := hV1.keep hk
    replace hV2 := hV2.keep hk
    replace hb := hb.trans (hk.mono hb.size)
    clear hk
    go_wp2_with fail
    refine (HM w4 hB).out.mono ?_
    rintro e x1 ⟨rfl, rfl⟩
    go_wp2_with fail
    refine (HRM x1 hB).out.mono ?_
    rintro e x2 ⟨rfl, rfl⟩
    go_wp2_with fail
    refine ((HE x2 hB).out).mono ?_
    rintro e w5 ⟨v5, rfl, ho, hk⟩
    replace hB := hB.keep hk
    replace hV1 := hV1.keep hk
    replace hV2 := hV2.keep hk
    replace hV4 := hV4.keep hk
    replace hb := hb.trans (hk.mono hb.size)
    clear hk
    have hV5 := ho.byts ha1
    clear ho
    go_wp2_with fail
    refine ((HRE w5 hB).out).mono ?_
    rintro e w6 ⟨v6, rfl, ho, hk⟩
    replace hB := hB.keep hk
    replace hV1 := hV1.keep hk
    replace hV2 := hV2.keep hk
    replace hV4 := hV4.keep hk
    replace hV5 := hV5.keep hk
    replace hb := hb.trans (hk.mono hb.size)
    clear hk
    have hV6 := ho.byts ha1
    clear ho
    go_wp2_with fail
    refine (same_c _ _ P1 P1 w6 hV5 hV6 (by omega) (by omega)).mono ?_
    rintro e w7 ⟨rfl, hk⟩
    clear hV5
    clear hV6
    replace hB := hB.keep hk
    replace hV1 := hV1.keep hk
    replace hV2 := hV2.keep hk
    replace hV4 := hV4.keep hk
    replace hb := hb.trans (hk.mono hb.size)
    clear hk
    rw [sameI_self]
    go_wp2_with fail
    refine (same_c _ _ R R w7 hV1 hV2 (by omega) (by omega)).mono ?_
    rintro e w8 ⟨rfl, hk⟩
    clear hV1
    clear hV2
    replace hB := hB.keep hk
    replace hV4 := hV4.keep hk
    replace hb := hb.trans (hk.mono hb.size)
    clear hk
    rw [sameI_self]
    go_wp2_with fail
    refine (same_c _ _ l l w8 hV4 hB (by omega) (by omega)).mono ?_
    rintro e w9 ⟨rfl, hk⟩
    clear hV4
    replace hB := hB.keep hk
    replace hb := hb.trans (hk.mono hb.size)
    clear hk
    rw [sameI_self]
    go_wp2_with fail
    refine (awake_c w9).mono ?_
    rintro e w10 ⟨rfl, hk⟩
    replace hB := hB.keep hk
    replace hb := hb.trans (hk.mono hb.size)
    clear hk
    go_wp2_with fail
    go_ret
    exact ⟨rfl, hb⟩
end Go.Proofs.Ytohmlmbolilbbaa
