/- The law OctetOneEncoding, walked: eight ways, by what can be decoded. -/
import Derived.Test.YtohmlmbolilbbaaOlb
namespace Go.Proofs.Ytohmlmbolilbbaa
open Go.RowKit
theorem unfoldI_bd {n : Int} (h0 : 0 ≤ n) (h : n < 18446744073709551616) : -9223372036854775808 ≤ unfoldI n ∧ unfoldI n ≤ 9223372036854775807 := by unfold unfoldI; split <;> omega
theorem dec_front {l : List Int} (hb : AllB l) (h : (dec l).1 = 0) : code (dec l).2.1 ++ decR l = l := by
  unfold decR
  rw [if_pos h]
  exact (dec_back hb h).2
theorem decR_len {l : List Int} {n : Nat} (h : l.length ≤ n) : (decR l).length ≤ n := by unfold decR; split <;> simp <;> omega
theorem decT_len {l : List Int} {n : Nat} (most : Int) (h : l.length ≤ n) : (decT l most).2.2.length ≤ n := by
  rw [decT_eq]
  have hr := decR_len h
  split
  · simp
  · split
    · simp
    · split
      · simp
      · simp only [List.length_drop]; omega
theorem decT_all {l : List Int} (most : Int) (h : AllB l) : AllB (decT l most).2.2 := by
  rw [decT_eq]
  split
  · exact AllB.nil
  · split
    · exact AllB.nil
    · split
      · exact AllB.nil
      · exact (decR_all h).drop _
theorem decS_bd {l : List Int} (h : AllB l) : ∀ x ∈ (decS l).2.1, 0 ≤ x ∧ x < 18446744073709551616 := by
  have z : ∀ x ∈ [(0 : Int), 0, 0, 0], 0 ≤ x ∧ x < 18446744073709551616 := by decide
  unfold decS
  split
  · exact z
  · split
    · exact z
    · unfold setR
      split
      · exact z
      · split
        · exact z
        · intro x hx
          rcases List.mem_append.1 hx with hx | hx
          · exact decP_bd _ _ (h.drop _) x hx
          · obtain ⟨_, rfl⟩ := List.mem_replicate.1 hx
            omega
set_option maxRecDepth 100000 in
set_option maxHeartbeats 8000000 in
theorem lone_000 (v : Value) (l : List Int) (w : World) (hB : Byts w v l) (hl : l.length ≤ 400) (hA : ((dec l).1 = 0)) (hT : ((decT l 400).1 = 0)) (hS : ((decS l).1 = 0)) :
    Calls Try.prog 8 #[v] w fun e w' => e = .returned (.bool true) ∧ Below w.heap.size w w' := by
  have hSh := short_c _ l w hB (by omega)
  rw [decide_eq_true (by omega)] at hSh
  have hall := hB.all
  have HN := fun w hB => Lib.hid (number_c v l w hB (by omega))
  have HG := fun w hB => Lib.hid (signed_c v l w hB (by omega))
  have HT := fun w hB => Lib.hid (text_c v l 400 w hB (by omega) (by omega) (by omega))
  have HS0 := fun w hB => Lib.hid (set_c v l w hB (by omega))
  obtain ⟨y0, y1, y2, y3, hy⟩ := list_four (decS_len (l := l))
  have hbd := decS_bd hall
  have hr1 := decR_len hl
  have hr2 := decT_len 400 hl
  have hr3 := decS_short hl
  have ha1 := decR_all hall
  have ha2 := decT_all 400 hall
  have ha3 := decS_all hall
  have hf := dec_front hall hA
  have hlt := dec_lt hall
  have hub := unfoldI_bd (n := ((dec l).2.1 : Int)) (by omega) (by omega)
  have hff : code (foldN (unfoldI (dec l).2.1)).toNat = code (dec l).2.1 := by rw [fold_unfold _ (by omega)]; rfl
  have hft := decT_back hall hT
  have hsz : (decT l 400).2.1.size ≤ 400 := by have h := congrArg List.length hft; rw [List.length_append] at h; unfold encT at h; rw [List.length_append, bts_len] at h; omega
  have hfs := decS_back hall hS
  rw [hy] at hbd HS0
  rw [hy] at hfs
  generalize decR l = R1 at *
  generalize (decT l 400).2.2 = R2 at *
  generalize (decS l).2.2 = R3 at *
  generalize (dec l).1 = E1 at *
  generalize (decT l 400).1 = E2 at *
  generalize (decS l).1 = E3 at *
  generalize hU : unfoldI (dec l).2.1 = U at *
  generalize (dec l).2.1 = N at *
  generalize (decT l 400).2.1 = S at *
  subst hA
  have HP1 := fun w => Lib.hid (putNumber_c _ [] N w Byts.nil hlt (by simp))
  have HP2 := fun w => Lib.hid (putSigned_c _ [] U w Byts.nil hub.1 hub.2 (by simp))
  simp only [List.nil_append] at HP1 HP2
  rw [hff] at HP2
  have hc1 := code_len hlt
  subst hT
  have HP3 := fun w => Lib.hid (putText_c _ [] S w Byts.nil (by omega) (by simp))
  simp only [List.nil_append] at HP3
  have hc2 : (encT S).length ≤ 1000 := by have h := congrArg List.length hft; rw [List.length_append] at h; omega
  subst hS
  have HP4 := fun w => Lib.hid (putSet_c _ [] y0 y1 y2 y3 w Byts.nil hbd (by simp))
  simp only [List.nil_append] at HP4
  have hc3 := encS_len (xs := [y0, y1, y2, y3]) rfl hbd
  clear hU hy hbd hlt hub hff hsz
  go_enter Try.func8, Try.ntmps8
  go_wp2_with (go_at_call 10; refine hSh.mono ?_; rintro e w0 ⟨rfl, rfl⟩)
  clear hSh
  refine ((HN w0 hB).out).mono ?_
  rintro e w1 ⟨v1, rfl, hV1, hk⟩
  replace hB := hB.keep hk
  have hb := hk
  clear hk
  go_wp2_with fail
  refine ((HP1 w1).out).mono ?_
  rintro e w2 ⟨u1, rfl, ho, hk⟩
  replace hB := hB.keep hk
  replace hV1 := hV1.keep hk
  replace hb := hb.trans (hk.mono hb.size)
  clear hk
  have hU1 := ho.byts (code_all N)
  clear ho
  go_wp2_with fail
  refine (front_c _ _ _ (code N) R1 l w2 hU1 hV1 hB (by omega) (by omega) (by omega)).mono ?_
  rintro e w3 ⟨rfl, hk⟩
  clear hU1
  clear hV1
  replace hB := hB.keep hk
  replace hb := hb.trans (hk.mono hb.size)
  clear hk
  rw [hf, sameI_self]
  go_wp2_with fail
  refine ((HG w3 hB).out).mono ?_
  rintro e w4 ⟨v2, rfl, hV2, hk⟩
  replace hB := hB.keep hk
  replace hb := hb.trans (hk.mono hb.size)
  clear hk
  go_wp2_with fail
  refine ((HP2 w4).out).mono ?_
  rintro e w5 ⟨u2, rfl, ho, hk⟩
  replace hB := hB.keep hk
  replace hV2 := hV2.keep hk
  replace hb := hb.trans (hk.mono hb.size)
  clear hk
  have hU2 := ho.byts (code_all N)
  clear ho
  go_wp2_with fail
  refine (front_c _ _ _ (code N) R1 l w5 hU2 hV2 hB (by omega) (by omega) (by omega)).mono ?_
  rintro e w6 ⟨rfl, hk⟩
  clear hU2
  clear hV2
  replace hB := hB.keep hk
  replace hb := hb.trans (hk.mono hb.size)
  clear hk
  rw [hf, sameI_self]
  go_wp2_with fail
  refine ((HT w6 hB).out).mono ?_
  rintro e w7 ⟨v3, rfl, hV3, hk⟩
  replace hB := hB.keep hk
  replace hb := hb.trans (hk.mono hb.size)
  clear hk
  go_wp2_with fail
  refine ((HP3 w7).out).mono ?_
  rintro e w8 ⟨u3, rfl, ho, hk⟩
  replace hB := hB.keep hk
  replace hV3 := hV3.keep hk
  replace hb := hb.trans (hk.mono hb.size)
  clear hk
  have hU3 := ho.byts ((code_all _).app (bts_all S))
  clear ho
  go_wp2_with fail
  refine (front_c _ _ _ (encT S) R2 l w8 hU3 hV3 hB (by omega) (by omega) (by omega)).mono ?_
  rintro e w9 ⟨rfl, hk⟩
  clear hU3
  clear hV3
  replace hB := hB.keep hk
  replace hb := hb.trans (hk.mono hb.size)
  clear hk
  rw [hft, sameI_self]
  go_wp2_with fail
  refine ((HS0 w9 hB).out).mono ?_
  rintro e w10 ⟨v4, rfl, hV4, hk⟩
  replace hB := hB.keep hk
  replace hb := hb.trans (hk.mono hb.size)
  clear hk
  simp only [aggU, List.map_cons, List.map_nil]
  go_wp2_with fail
  have hM : Blk (w10.alloc (.cells #[.int .u64 y0, .int .u64 y1, .int .u64 y2, .int .u64 y3] 40)) w10.heap.size _ _ := Blk.new w10 40 #[.int .u64 y0, .int .u64 y1, .int .u64 y2, .int .u64 y3]
  replace hB := hB.alloc (.cells #[.int .u64 y0, .int .u64 y1, .int .u64 y2, .int .u64 y3] 40)
  replace hV4 := hV4.alloc (.cells #[.int .u64 y0, .int .u64 y1, .int .u64 y2, .int .u64 y3] 40)
  replace hb := hb.alloc hb.size (.cells #[.int .u64 y0, .int .u64 y1, .int .u64 y2, .int .u64 y3] 40)
  generalize w10.alloc (.cells #[.int .u64 y0, .int .u64 y1, .int .u64 y2, .int .u64 y3] 40) = w10a at *
  clear hM
  refine ((HP4 w10a).out).mono ?_
  rintro e w11 ⟨u4, rfl, ho, hk⟩
  replace hB := hB.keep hk
  replace hV4 := hV4.keep hk
  replace hb := hb.trans (hk.mono hb.size)
  clear hk
  have hU4 := ho.byts encS_all
  clear ho
  go_wp2_with fail
  refine (front_c _ _ _ (encS [y0, y1, y2, y3]) R3 l w11 hU4 hV4 hB (by omega) (by omega) (by omega)).mono ?_
  rintro e w12 ⟨rfl, hk⟩
  clear hU4
  clear hV4
  replace hB := hB.keep hk
  replace hb := hb.trans (hk.mono hb.size)
  clear hk
  rw [hfs, sameI_self]
  go_wp2_with fail
  refine (awake_c w12).mono ?_
  rintro e w13 ⟨rfl, hk⟩
  replace hB := hB.keep hk
  replace hb := hb.trans (hk.mono hb.size)
  clear hk
  go_wp2_with fail
  go_ret
  exact ⟨rfl, hb⟩
set_option maxRecDepth 100000 in
set_option maxHeartbeats 8000000 in
theorem lone_001 (v : Value) (l : List Int) (w : World) (hB : Byts w v l) (hl : l.length ≤ 400) (hA : ((dec l).1 = 0)) (hT : ((decT l 400).1 = 0)) (hS : ((decS l).1 ≠ 0)) :
    Calls Try.prog 8 #[v] w fun e w' => e = .returned (.bool true) ∧ Below w.heap.size w w' := by
  have hSh := short_c _ l w hB (by omega)
  rw [decide_eq_true (by omega)] at hSh
  have hall := hB.all
  have HN := fun w hB => Lib.hid (number_c v l w hB (by omega))
  have HG := fun w hB => Lib.hid (signed_c v l w hB (by omega))
  have HT := fun w hB => Lib.hid (text_c v l 400 w hB (by omega) (by omega) (by omega))
  have HS0 := fun w hB => Lib.hid (set_c v l w hB (by omega))
  obtain ⟨y0, y1, y2, y3, hy⟩ := list_four (decS_len (l := l))
  have hbd := decS_bd hall
  have hr1 := decR_len hl
  have hr2 := decT_len 400 hl
  have hr3 := decS_short hl
  have ha1 := decR_all hall
  have ha2 := decT_all 400 hall
  have ha3 := decS_all hall
  have hf := dec_front hall hA
  have hlt := dec_lt hall
  have hub := unfoldI_bd (n := ((dec l).2.1 : Int)) (by omega) (by omega)
  have hff : code (foldN (unfoldI (dec l).2.1)).toNat = code (dec l).2.1 := by rw [fold_unfold _ (by omega)]; rfl
  have hft := decT_back hall hT
  have hsz : (decT l 400).2.1.size ≤ 400 := by have h := congrArg List.length hft; rw [List.length_append] at h; unfold encT at h; rw [List.length_append, bts_len] at h; omega
  have hSb : ((decS l).1 == 0) = false := by simpa using hS
  rw [hy] at hbd HS0
  generalize decR l = R1 at *
  generalize (decT l 400).2.2 = R2 at *
  generalize (decS l).2.2 = R3 at *
  generalize (dec l).1 = E1 at *
  generalize (decT l 400).1 = E2 at *
  generalize (decS l).1 = E3 at *
  generalize hU : unfoldI (dec l).2.1 = U at *
  generalize (dec l).2.1 = N at *
  generalize (decT l 400).2.1 = S at *
  subst hA
  have HP1 := fun w => Lib.hid (putNumber_c _ [] N w Byts.nil hlt (by simp))
  have HP2 := fun w => Lib.hid (putSigned_c _ [] U w Byts.nil hub.1 hub.2 (by simp))
  simp only [List.nil_append] at HP1 HP2
  rw [hff] at HP2
  have hc1 := code_len hlt
  subst hT
  have HP3 := fun w => Lib.hid (putText_c _ [] S w Byts.nil (by omega) (by simp))
  simp only [List.nil_append] at HP3
  have hc2 : (encT S).length ≤ 1000 := by have h := congrArg List.length hft; rw [List.length_append] at h; omega
  clear hU hy hbd hlt hub hff hsz hS
  go_enter Try.func8, Try.ntmps8
  go_wp2_with (go_at_call 10; refine hSh.mono ?_; rintro e w0 ⟨rfl, rfl⟩)
  clear hSh
  refine ((HN w0 hB).out).mono ?_
  rintro e w1 ⟨v1, rfl, hV1, hk⟩
  replace hB := hB.keep hk
  have hb := hk
  clear hk
  go_wp2_with fail
  refine ((HP1 w1).out).mono ?_
  rintro e w2 ⟨u1, rfl, ho, hk⟩
  replace hB := hB.keep hk
  replace hV1 := hV1.keep hk
  replace hb := hb.trans (hk.mono hb.size)
  clear hk
  have hU1 := ho.byts (code_all N)
  clear ho
  go_wp2_with fail
  refine (front_c _ _ _ (code N) R1 l w2 hU1 hV1 hB (by omega) (by omega) (by omega)).mono ?_
  rintro e w3 ⟨rfl, hk⟩
  clear hU1
  clear hV1
  replace hB := hB.keep hk
  replace hb := hb.trans (hk.mono hb.size)
  clear hk
  rw [hf, sameI_self]
  go_wp2_with fail
  refine ((HG w3 hB).out).mono ?_
  rintro e w4 ⟨v2, rfl, hV2, hk⟩
  replace hB := hB.keep hk
  replace hb := hb.trans (hk.mono hb.size)
  clear hk
  go_wp2_with fail
  refine ((HP2 w4).out).mono ?_
  rintro e w5 ⟨u2, rfl, ho, hk⟩
  replace hB := hB.keep hk
  replace hV2 := hV2.keep hk
  replace hb := hb.trans (hk.mono hb.size)
  clear hk
  have hU2 := ho.byts (code_all N)
  clear ho
  go_wp2_with fail
  refine (front_c _ _ _ (code N) R1 l w5 hU2 hV2 hB (by omega) (by omega) (by omega)).mono ?_
  rintro e w6 ⟨rfl, hk⟩
  clear hU2
  clear hV2
  replace hB := hB.keep hk
  replace hb := hb.trans (hk.mono hb.size)
  clear hk
  rw [hf, sameI_self]
  go_wp2_with fail
  refine ((HT w6 hB).out).mono ?_
  rintro e w7 ⟨v3, rfl, hV3, hk⟩
  replace hB := hB.keep hk
  replace hb := hb.trans (hk.mono hb.size)
  clear hk
  go_wp2_with fail
  refine ((HP3 w7).out).mono ?_
  rintro e w8 ⟨u3, rfl, ho, hk⟩
  replace hB := hB.keep hk
  replace hV3 := hV3.keep hk
  replace hb := hb.trans (hk.mono hb.size)
  clear hk
  have hU3 := ho.byts ((code_all _).app (bts_all S))
  clear ho
  go_wp2_with fail
  refine (front_c _ _ _ (encT S) R2 l w8 hU3 hV3 hB (by omega) (by omega) (by omega)).mono ?_
  rintro e w9 ⟨rfl, hk⟩
  clear hU3
  clear hV3
  replace hB := hB.keep hk
  replace hb := hb.trans (hk.mono hb.size)
  clear hk
  rw [hft, sameI_self]
  go_wp2_with fail
  refine ((HS0 w9 hB).out).mono ?_
  rintro e w10 ⟨v4, rfl, hV4, hk⟩
  replace hB := hB.keep hk
  replace hb := hb.trans (hk.mono hb.size)
  clear hk
  simp only [aggU, List.map_cons, List.map_nil]
  go_wp2_with fail
  replace hB := hB.alloc (.cells #[.int .u64 y0, .int .u64 y1, .int .u64 y2, .int .u64 y3] 40)
  replace hV4 := hV4.alloc (.cells #[.int .u64 y0, .int .u64 y1, .int .u64 y2, .int .u64 y3] 40)
  replace hb := hb.alloc hb.size (.cells #[.int .u64 y0, .int .u64 y1, .int .u64 y2, .int .u64 y3] 40)
  generalize w10.alloc (.cells #[.int .u64 y0, .int .u64 y1, .int .u64 y2, .int .u64 y3] 40) = w10a at *
  refine (awake_c w10a).mono ?_
  rintro e w11 ⟨rfl, hk⟩
  replace hB := hB.keep hk
  replace hV4 := hV4.keep hk
  replace hb := hb.trans (hk.mono hb.size)
  clear hk
  go_wp2_with fail
  go_ret
  exact ⟨rfl, hb⟩
set_option maxRecDepth 100000 in
set_option maxHeartbeats 8000000 in
theorem lone_010 (v : Value) (l : List Int) (w : World) (hB : Byts w v l) (hl : l.length ≤ 400) (hA : ((dec l).1 = 0)) (hT : ((decT l 400).1 ≠ 0)) (hS : ((decS l).1 = 0)) :
    Calls Try.prog 8 #[v] w fun e w' => e = .returned (.bool true) ∧ Below w.heap.size w w' := by
  have hSh := short_c _ l w hB (by omega)
  rw [decide_eq_true (by omega)] at hSh
  have hall := hB.all
  have HN := fun w hB => Lib.hid (number_c v l w hB (by omega))
  have HG := fun w hB => Lib.hid (signed_c v l w hB (by omega))
  have HT := fun w hB => Lib.hid (text_c v l 400 w hB (by omega) (by omega) (by omega))
  have HS0 := fun w hB => Lib.hid (set_c v l w hB (by omega))
  obtain ⟨y0, y1, y2, y3, hy⟩ := list_four (decS_len (l := l))
  have hbd := decS_bd hall
  have hr1 := decR_len hl
  have hr2 := decT_len 400 hl
  have hr3 := decS_short hl
  have ha1 := decR_all hall
  have ha2 := decT_all 400 hall
  have ha3 := decS_all hall
  have hf := dec_front hall hA
  have hlt := dec_lt hall
  have hub := unfoldI_bd (n := ((dec l).2.1 : Int)) (by omega) (by omega)
  have hff : code (foldN (unfoldI (dec l).2.1)).toNat = code (dec l).2.1 := by rw [fold_unfold _ (by omega)]; rfl
  have hTb : ((decT l 400).1 == 0) = false := by simpa using hT
  have hfs := decS_back hall hS
  rw [hy] at hbd HS0
  rw [hy] at hfs
  generalize decR l = R1 at *
  generalize (decT l 400).2.2 = R2 at *
  generalize (decS l).2.2 = R3 at *
  generalize (dec l).1 = E1 at *
  generalize (decT l 400).1 = E2 at *
  generalize (decS l).1 = E3 at *
  generalize hU : unfoldI (dec l).2.1 = U at *
  generalize (dec l).2.1 = N at *
  generalize (decT l 400).2.1 = S at *
  subst hA
  have HP1 := fun w => Lib.hid (putNumber_c _ [] N w Byts.nil hlt (by simp))
  have HP2 := fun w => Lib.hid (putSigned_c _ [] U w Byts.nil hub.1 hub.2 (by simp))
  simp only [List.nil_append] at HP1 HP2
  rw [hff] at HP2
  have hc1 := code_len hlt
  subst hS
  have HP4 := fun w => Lib.hid (putSet_c _ [] y0 y1 y2 y3 w Byts.nil hbd (by simp))
  simp only [List.nil_append] at HP4
  have hc3 := encS_len (xs := [y0, y1, y2, y3]) rfl hbd
  clear hU hy hbd hlt hub hff hT
  go_enter Try.func8, Try.ntmps8
  go_wp2_with (go_at_call 10; refine hSh.mono ?_; rintro e w0 ⟨rfl, rfl⟩)
  clear hSh
  refine ((HN w0 hB).out).mono ?_
  rintro e w1 ⟨v1, rfl, hV1, hk⟩
  replace hB := hB.keep hk
  have hb := hk
  clear hk
  go_wp2_with fail
  refine ((HP1 w1).out).mono ?_
  rintro e w2 ⟨u1, rfl, ho, hk⟩
  replace hB := hB.keep hk
  replace hV1 := hV1.keep hk
  replace hb := hb.trans (hk.mono hb.size)
  clear hk
  have hU1 := ho.byts (code_all N)
  clear ho
  go_wp2_with fail
  refine (front_c _ _ _ (code N) R1 l w2 hU1 hV1 hB (by omega) (by omega) (by omega)).mono ?_
  rintro e w3 ⟨rfl, hk⟩
  clear hU1
  clear hV1
  replace hB := hB.keep hk
  replace hb := hb.trans (hk.mono hb.size)
  clear hk
  rw [hf, sameI_self]
  go_wp2_with fail
  refine ((HG w3 hB).out).mono ?_
  rintro e w4 ⟨v2, rfl, hV2, hk⟩
  replace hB := hB.keep hk
  replace hb := hb.trans (hk.mono hb.size)
  clear hk
  go_wp2_with fail
  refine ((HP2 w4).out).mono ?_
  rintro e w5 ⟨u2, rfl, ho, hk⟩
  replace hB := hB.keep hk
  replace hV2 := hV2.keep hk
  replace hb := hb.trans (hk.mono hb.size)
  clear hk
  have hU2 := ho.byts (code_all N)
  clear ho
  go_wp2_with fail
  refine (front_c _ _ _ (code N) R1 l w5 hU2 hV2 hB (by omega) (by omega) (by omega)).mono ?_
  rintro e w6 ⟨rfl, hk⟩
  clear hU2
  clear hV2
  replace hB := hB.keep hk
  replace hb := hb.trans (hk.mono hb.size)
  clear hk
  rw [hf, sameI_self]
  go_wp2_with fail
  refine ((HT w6 hB).out).mono ?_
  rintro e w7 ⟨v3, rfl, hV3, hk⟩
  replace hB := hB.keep hk
  replace hb := hb.trans (hk.mono hb.size)
  clear hk
  clear hV3
  go_wp2_with fail
  refine ((HS0 w7 hB).out).mono ?_
  rintro e w8 ⟨v4, rfl, hV4, hk⟩
  replace hB := hB.keep hk
  replace hb := hb.trans (hk.mono hb.size)
  clear hk
  simp only [aggU, List.map_cons, List.map_nil]
  go_wp2_with fail
  have hM : Blk (w8.alloc (.cells #[.int .u64 y0, .int .u64 y1, .int .u64 y2, .int .u64 y3] 40)) w8.heap.size _ _ := Blk.new w8 40 #[.int .u64 y0, .int .u64 y1, .int .u64 y2, .int .u64 y3]
  replace hB := hB.alloc (.cells #[.int .u64 y0, .int .u64 y1, .int .u64 y2, .int .u64 y3] 40)
  replace hV4 := hV4.alloc (.cells #[.int .u64 y0, .int .u64 y1, .int .u64 y2, .int .u64 y3] 40)
  replace hb := hb.alloc hb.size (.cells #[.int .u64 y0, .int .u64 y1, .int .u64 y2, .int .u64 y3] 40)
  generalize w8.alloc (.cells #[.int .u64 y0, .int .u64 y1, .int .u64 y2, .int .u64 y3] 40) = w8a at *
  clear hM
  refine ((HP4 w8a).out).mono ?_
  rintro e w9 ⟨u4, rfl, ho, hk⟩
  replace hB := hB.keep hk
  replace hV4 := hV4.keep hk
  replace hb := hb.trans (hk.mono hb.size)
  clear hk
  have hU4 := ho.byts encS_all
  clear ho
  go_wp2_with fail
  refine (front_c _ _ _ (encS [y0, y1, y2, y3]) R3 l w9 hU4 hV4 hB (by omega) (by omega) (by omega)).mono ?_
  rintro e w10 ⟨rfl, hk⟩
  clear hU4
  clear hV4
  replace hB := hB.keep hk
  replace hb := hb.trans (hk.mono hb.size)
  clear hk
  rw [hfs, sameI_self]
  go_wp2_with fail
  refine (awake_c w10).mono ?_
  rintro e w11 ⟨rfl, hk⟩
  replace hB := hB.keep hk
  replace hb := hb.trans (hk.mono hb.size)
  clear hk
  go_wp2_with fail
  go_ret
  exact ⟨rfl, hb⟩
set_option maxRecDepth 100000 in
set_option maxHeartbeats 8000000 in
theorem lone_011 (v : Value) (l : List Int) (w : World) (hB : Byts w v l) (hl : l.length ≤ 400) (hA : ((dec l).1 = 0)) (hT : ((decT l 400).1 ≠ 0)) (hS : ((decS l).1 ≠ 0)) :
    Calls Try.prog 8 #[v] w fun e w' => e = .returned (.bool true) ∧ Below w.heap.size w w' := by
  have hSh := short_c _ l w hB (by omega)
  rw [decide_eq_true (by omega)] at hSh
  have hall := hB.all
  have HN := fun w hB => Lib.hid (number_c v l w hB (by omega))
  have HG := fun w hB => Lib.hid (signed_c v l w hB (by omega))
  have HT := fun w hB => Lib.hid (text_c v l 400 w hB (by omega) (by omega) (by omega))
  have HS0 := fun w hB => Lib.hid (set_c v l w hB (by omega))
  obtain ⟨y0, y1, y2, y3, hy⟩ := list_four (decS_len (l := l))
  have hbd := decS_bd hall
  have hr1 := decR_len hl
  have hr2 := decT_len 400 hl
  have hr3 := decS_short hl
  have ha1 := decR_all hall
  have ha2 := decT_all 400 hall
  have ha3 := decS_all hall
  have hf := dec_front hall hA
  have hlt := dec_lt hall
  have hub := unfoldI_bd (n := ((dec l).2.1 : Int)) (by omega) (by omega)
  have hff : code (foldN (unfoldI (dec l).2.1)).toNat = code (dec l).2.1 := by rw [fold_unfold _ (by omega)]; rfl
  have hTb : ((decT l 400).1 == 0) = false := by simpa using hT
  have hSb : ((decS l).1 == 0) = false := by simpa using hS
  rw [hy] at hbd HS0
  generalize decR l = R1 at *
  generalize (decT l 400).2.2 = R2 at *
  generalize (decS l).2.2 = R3 at *
  generalize (dec l).1 = E1 at *
  generalize (decT l 400).1 = E2 at *
  generalize (decS l).1 = E3 at *
  generalize hU : unfoldI (dec l).2.1 = U at *
  generalize (dec l).2.1 = N at *
  generalize (decT l 400).2.1 = S at *
  subst hA
  have HP1 := fun w => Lib.hid (putNumber_c _ [] N w Byts.nil hlt (by simp))
  have HP2 := fun w => Lib.hid (putSigned_c _ [] U w Byts.nil hub.1 hub.2 (by simp))
  simp only [List.nil_append] at HP1 HP2
  rw [hff] at HP2
  have hc1 := code_len hlt
  clear hU hy hbd hlt hub hff hT hS
  go_enter Try.func8, Try.ntmps8
  go_wp2_with (go_at_call 10; refine hSh.mono ?_; rintro e w0 ⟨rfl, rfl⟩)
  clear hSh
  refine ((HN w0 hB).out).mono ?_
  rintro e w1 ⟨v1, rfl, hV1, hk⟩
  replace hB := hB.keep hk
  have hb := hk
  clear hk
  go_wp2_with fail
  refine ((HP1 w1).out).mono ?_
  rintro e w2 ⟨u1, rfl, ho, hk⟩
  replace hB := hB.keep hk
  replace hV1 := hV1.keep hk
  replace hb := hb.trans (hk.mono hb.size)
  clear hk
  have hU1 := ho.byts (code_all N)
  clear ho
  go_wp2_with fail
  refine (front_c _ _ _ (code N) R1 l w2 hU1 hV1 hB (by omega) (by omega) (by omega)).mono ?_
  rintro e w3 ⟨rfl, hk⟩
  clear hU1
  clear hV1
  replace hB := hB.keep hk
  replace hb := hb.trans (hk.mono hb.size)
  clear hk
  rw [hf, sameI_self]
  go_wp2_with fail
  refine ((HG w3 hB).out).mono ?_
  rintro e w4 ⟨v2, rfl, hV2, hk⟩
  replace hB := hB.keep hk
  replace hb := hb.trans (hk.mono hb.size)
  clear hk
  go_wp2_with fail
  refine ((HP2 w4).out).mono ?_
  rintro e w5 ⟨u2, rfl, ho, hk⟩
  replace hB := hB.keep hk
  replace hV2 := hV2.keep hk
  replace hb := hb.trans (hk.mono hb.size)
  clear hk
  have hU2 := ho.byts (code_all N)
  clear ho
  go_wp2_with fail
  refine (front_c _ _ _ (code N) R1 l w5 hU2 hV2 hB (by omega) (by omega) (by omega)).mono ?_
  rintro e w6 ⟨rfl, hk⟩
  clear hU2
  clear hV2
  replace hB := hB.keep hk
  replace hb := hb.trans (hk.mono hb.size)
  clear hk
  rw [hf, sameI_self]
  go_wp2_with fail
  refine ((HT w6 hB).out).mono ?_
  rintro e w7 ⟨v3, rfl, hV3, hk⟩
  replace hB := hB.keep hk
  replace hb := hb.trans (hk.mono hb.size)
  clear hk
  clear hV3
  go_wp2_with fail
  refine ((HS0 w7 hB).out).mono ?_
  rintro e w8 ⟨v4, rfl, hV4, hk⟩
  replace hB := hB.keep hk
  replace hb := hb.trans (hk.mono hb.size)
  clear hk
  simp only [aggU, List.map_cons, List.map_nil]
  go_wp2_with fail
  replace hB := hB.alloc (.cells #[.int .u64 y0, .int .u64 y1, .int .u64 y2, .int .u64 y3] 40)
  replace hV4 := hV4.alloc (.cells #[.int .u64 y0, .int .u64 y1, .int .u64 y2, .int .u64 y3] 40)
  replace hb := hb.alloc hb.size (.cells #[.int .u64 y0, .int .u64 y1, .int .u64 y2, .int .u64 y3] 40)
  generalize w8.alloc (.cells #[.int .u64 y0, .int .u64 y1, .int .u64 y2, .int .u64 y3] 40) = w8a at *
  refine (awake_c w8a).mono ?_
  rintro e w9 ⟨rfl, hk⟩
  replace hB := hB.keep hk
  replace hV4 := hV4.keep hk
  replace hb := hb.trans (hk.mono hb.size)
  clear hk
  go_wp2_with fail
  go_ret
  exact ⟨rfl, hb⟩
set_option maxRecDepth 100000 in
set_option maxHeartbeats 8000000 in
theorem lone_100 (v : Value) (l : List Int) (w : World) (hB : Byts w v l) (hl : l.length ≤ 400) (hA : ((dec l).1 ≠ 0)) (hT : ((decT l 400).1 = 0)) (hS : ((decS l).1 = 0)) :
    Calls Try.prog 8 #[v] w fun e w' => e = .returned (.bool true) ∧ Below w.heap.size w w' := by
  have hSh := short_c _ l w hB (by omega)
  rw [decide_eq_true (by omega)] at hSh
  have hall := hB.all
  have HN := fun w hB => Lib.hid (number_c v l w hB (by omega))
  have HG := fun w hB => Lib.hid (signed_c v l w hB (by omega))
  have HT := fun w hB => Lib.hid (text_c v l 400 w hB (by omega) (by omega) (by omega))
  have HS0 := fun w hB => Lib.hid (set_c v l w hB (by omega))
  obtain ⟨y0, y1, y2, y3, hy⟩ := list_four (decS_len (l := l))
  have hbd := decS_bd hall
  have hr1 := decR_len hl
  have hr2 := decT_len 400 hl
  have hr3 := decS_short hl
  have ha1 := decR_all hall
  have ha2 := decT_all 400 hall
  have ha3 := decS_all hall
  have hAb : ((dec l).1 == 0) = false := by simpa using hA
  have hft := decT_back hall hT
  have hsz : (decT l 400).2.1.size ≤ 400 := by have h := congrArg List.length hft; rw [List.length_append] at h; unfold encT at h; rw [List.length_append, bts_len] at h; omega
  have hfs := decS_back hall hS
  rw [hy] at hbd HS0
  rw [hy] at hfs
  generalize decR l = R1 at *
  generalize (decT l 400).2.2 = R2 at *
  generalize (decS l).2.2 = R3 at *
  generalize (dec l).1 = E1 at *
  generalize (decT l 400).1 = E2 at *
  generalize (decS l).1 = E3 at *
  generalize hU : unfoldI (dec l).2.1 = U at *
  generalize (dec l).2.1 = N at *
  generalize (decT l 400).2.1 = S at *
  subst hT
  have HP3 := fun w => Lib.hid (putText_c _ [] S w Byts.nil (by omega) (by simp))
  simp only [List.nil_append] at HP3
  have hc2 : (encT S).length ≤ 1000 := by have h := congrArg List.length hft; rw [List.length_append] at h; omega
  subst hS
  have HP4 := fun w => Lib.hid (putSet_c _ [] y0 y1 y2 y3 w Byts.nil hbd (by simp))
  simp only [List.nil_append] at HP4
  have hc3 := encS_len (xs := [y0, y1, y2, y3]) rfl hbd
  clear hU hy hbd hA hsz
  go_enter Try.func8, Try.ntmps8
  go_wp2_with (go_at_call 10; refine hSh.mono ?_; rintro e w0 ⟨rfl, rfl⟩)
  clear hSh
  refine ((HN w0 hB).out).mono ?_
  rintro e w1 ⟨v1, rfl, hV1, hk⟩
  replace hB := hB.keep hk
  have hb := hk
  clear hk
  clear hV1
  go_wp2_with fail
  refine ((HG w1 hB).out).mono ?_
  rintro e w2 ⟨v2, rfl, hV2, hk⟩
  replace hB := hB.keep hk
  replace hb := hb.trans (hk.mono hb.size)
  clear hk
  clear hV2
  go_wp2_with fail
  refine ((HT w2 hB).out).mono ?_
  rintro e w3 ⟨v3, rfl, hV3, hk⟩
  replace hB := hB.keep hk
  replace hb := hb.trans (hk.mono hb.size)
  clear hk
  go_wp2_with fail
  refine ((HP3 w3).out).mono ?_
  rintro e w4 ⟨u3, rfl, ho, hk⟩
  replace hB := hB.keep hk
  replace hV3 := hV3.keep hk
  replace hb := hb.trans (hk.mono hb.size)
  clear hk
  have hU3 := ho.byts ((code_all _).app (bts_all S))
  clear ho
  go_wp2_with fail
  refine (front_c _ _ _ (encT S) R2 l w4 hU3 hV3 hB (by omega) (by omega) (by omega)).mono ?_
  rintro e w5 ⟨rfl, hk⟩
  clear hU3
  clear hV3
  replace hB := hB.keep hk
  replace hb := hb.trans (hk.mono hb.size)
  clear hk
  rw [hft, sameI_self]
  go_wp2_with fail
  refine ((HS0 w5 hB).out).mono ?_
  rintro e w6 ⟨v4, rfl, hV4, hk⟩
  replace hB := hB.keep hk
  replace hb := hb.trans (hk.mono hb.size)
  clear hk
  simp only [aggU, List.map_cons, List.map_nil]
  go_wp2_with fail
  have hM : Blk (w6.alloc (.cells #[.int .u64 y0, .int .u64 y1, .int .u64 y2, .int .u64 y3] 40)) w6.heap.size _ _ := Blk.new w6 40 #[.int .u64 y0, .int .u64 y1, .int .u64 y2, .int .u64 y3]
  replace hB := hB.alloc (.cells #[.int .u64 y0, .int .u64 y1, .int .u64 y2, .int .u64 y3] 40)
  replace hV4 := hV4.alloc (.cells #[.int .u64 y0, .int .u64 y1, .int .u64 y2, .int .u64 y3] 40)
  replace hb := hb.alloc hb.size (.cells #[.int .u64 y0, .int .u64 y1, .int .u64 y2, .int .u64 y3] 40)
  generalize w6.alloc (.cells #[.int .u64 y0, .int .u64 y1, .int .u64 y2, .int .u64 y3] 40) = w6a at *
  clear hM
  refine ((HP4 w6a).out).mono ?_
  rintro e w7 ⟨u4, rfl, ho, hk⟩
  replace hB := hB.keep hk
  replace hV4 := hV4.keep hk
  replace hb := hb.trans (hk.mono hb.size)
  clear hk
  have hU4 := ho.byts encS_all
  clear ho
  go_wp2_with fail
  refine (front_c _ _ _ (encS [y0, y1, y2, y3]) R3 l w7 hU4 hV4 hB (by omega) (by omega) (by omega)).mono ?_
  rintro e w8 ⟨rfl, hk⟩
  clear hU4
  clear hV4
  replace hB := hB.keep hk
  replace hb := hb.trans (hk.mono hb.size)
  clear hk
  rw [hfs, sameI_self]
  go_wp2_with fail
  refine (awake_c w8).mono ?_
  rintro e w9 ⟨rfl, hk⟩
  replace hB := hB.keep hk
  replace hb := hb.trans (hk.mono hb.size)
  clear hk
  go_wp2_with fail
  go_ret
  exact ⟨rfl, hb⟩
set_option maxRecDepth 100000 in
set_option maxHeartbeats 8000000 in
theorem lone_101 (v : Value) (l : List Int) (w : World) (hB : Byts w v l) (hl : l.length ≤ 400) (hA : ((dec l).1 ≠ 0)) (hT : ((decT l 400).1 = 0)) (hS : ((decS l).1 ≠ 0)) :
    Calls Try.prog 8 #[v] w fun e w' => e = .returned (.bool true) ∧ Below w.heap.size w w' := by
  have hSh := short_c _ l w hB (by omega)
  rw [decide_eq_true (by omega)] at hSh
  have hall := hB.all
  have HN := fun w hB => Lib.hid (number_c v l w hB (by omega))
  have HG := fun w hB => Lib.hid (signed_c v l w hB (by omega))
  have HT := fun w hB => Lib.hid (text_c v l 400 w hB (by omega) (by omega) (by omega))
  have HS0 := fun w hB => Lib.hid (set_c v l w hB (by omega))
  obtain ⟨y0, y1, y2, y3, hy⟩ := list_four (decS_len (l := l))
  have hbd := decS_bd hall
  have hr1 := decR_len hl
  have hr2 := decT_len 400 hl
  have hr3 := decS_short hl
  have ha1 := decR_all hall
  have ha2 := decT_all 400 hall
  have ha3 := decS_all hall
  have hAb : ((dec l).1 == 0) = false := by simpa using hA
  have hft := decT_back hall hT
  have hsz : (decT l 400).2.1.size ≤ 400 := by have h := congrArg List.length hft; rw [List.length_append] at h; unfold encT at h; rw [List.length_append, bts_len] at h; omega
  have hSb : ((decS l).1 == 0) = false := by simpa using hS
  rw [hy] at hbd HS0
  generalize decR l = R1 at *
  generalize (decT l 400).2.2 = R2 at *
  generalize (decS l).2.2 = R3 at *
  generalize (dec l).1 = E1 at *
  generalize (decT l 400).1 = E2 at *
  generalize (decS l).1 = E3 at *
  generalize hU : unfoldI (dec l).2.1 = U at *
  generalize (dec l).2.1 = N at *
  generalize (decT l 400).2.1 = S at *
  subst hT
  have HP3 := fun w => Lib.hid (putText_c _ [] S w Byts.nil (by omega) (by simp))
  simp only [List.nil_append] at HP3
  have hc2 : (encT S).length ≤ 1000 := by have h := congrArg List.length hft; rw [List.length_append] at h; omega
  clear hU hy hbd hA hsz hS
  go_enter Try.func8, Try.ntmps8
  go_wp2_with (go_at_call 10; refine hSh.mono ?_; rintro e w0 ⟨rfl, rfl⟩)
  clear hSh
  refine ((HN w0 hB).out).mono ?_
  rintro e w1 ⟨v1, rfl, hV1, hk⟩
  replace hB := hB.keep hk
  have hb := hk
  clear hk
  clear hV1
  go_wp2_with fail
  refine ((HG w1 hB).out).mono ?_
  rintro e w2 ⟨v2, rfl, hV2, hk⟩
  replace hB := hB.keep hk
  replace hb := hb.trans (hk.mono hb.size)
  clear hk
  clear hV2
  go_wp2_with fail
  refine ((HT w2 hB).out).mono ?_
  rintro e w3 ⟨v3, rfl, hV3, hk⟩
  replace hB := hB.keep hk
  replace hb := hb.trans (hk.mono hb.size)
  clear hk
  go_wp2_with fail
  refine ((HP3 w3).out).mono ?_
  rintro e w4 ⟨u3, rfl, ho, hk⟩
  replace hB := hB.keep hk
  replace hV3 := hV3.keep hk
  replace hb := hb.trans (hk.mono hb.size)
  clear hk
  have hU3 := ho.byts ((code_all _).app (bts_all S))
  clear ho
  go_wp2_with fail
  refine (front_c _ _ _ (encT S) R2 l w4 hU3 hV3 hB (by omega) (by omega) (by omega)).mono ?_
  rintro e w5 ⟨rfl, hk⟩
  clear hU3
  clear hV3
  replace hB := hB.keep hk
  replace hb := hb.trans (hk.mono hb.size)
  clear hk
  rw [hft, sameI_self]
  go_wp2_with fail
  refine ((HS0 w5 hB).out).mono ?_
  rintro e w6 ⟨v4, rfl, hV4, hk⟩
  replace hB := hB.keep hk
  replace hb := hb.trans (hk.mono hb.size)
  clear hk
  simp only [aggU, List.map_cons, List.map_nil]
  go_wp2_with fail
  replace hB := hB.alloc (.cells #[.int .u64 y0, .int .u64 y1, .int .u64 y2, .int .u64 y3] 40)
  replace hV4 := hV4.alloc (.cells #[.int .u64 y0, .int .u64 y1, .int .u64 y2, .int .u64 y3] 40)
  replace hb := hb.alloc hb.size (.cells #[.int .u64 y0, .int .u64 y1, .int .u64 y2, .int .u64 y3] 40)
  generalize w6.alloc (.cells #[.int .u64 y0, .int .u64 y1, .int .u64 y2, .int .u64 y3] 40) = w6a at *
  refine (awake_c w6a).mono ?_
  rintro e w7 ⟨rfl, hk⟩
  replace hB := hB.keep hk
  replace hV4 := hV4.keep hk
  replace hb := hb.trans (hk.mono hb.size)
  clear hk
  go_wp2_with fail
  go_ret
  exact ⟨rfl, hb⟩
set_option maxRecDepth 100000 in
set_option maxHeartbeats 8000000 in
theorem lone_110 (v : Value) (l : List Int) (w : World) (hB : Byts w v l) (hl : l.length ≤ 400) (hA : ((dec l).1 ≠ 0)) (hT : ((decT l 400).1 ≠ 0)) (hS : ((decS l).1 = 0)) :
    Calls Try.prog 8 #[v] w fun e w' => e = .returned (.bool true) ∧ Below w.heap.size w w' := by
  have hSh := short_c _ l w hB (by omega)
  rw [decide_eq_true (by omega)] at hSh
  have hall := hB.all
  have HN := fun w hB => Lib.hid (number_c v l w hB (by omega))
  have HG := fun w hB => Lib.hid (signed_c v l w hB (by omega))
  have HT := fun w hB => Lib.hid (text_c v l 400 w hB (by omega) (by omega) (by omega))
  have HS0 := fun w hB => Lib.hid (set_c v l w hB (by omega))
  obtain ⟨y0, y1, y2, y3, hy⟩ := list_four (decS_len (l := l))
  have hbd := decS_bd hall
  have hr1 := decR_len hl
  have hr2 := decT_len 400 hl
  have hr3 := decS_short hl
  have ha1 := decR_all hall
  have ha2 := decT_all 400 hall
  have ha3 := decS_all hall
  have hAb : ((dec l).1 == 0) = false := by simpa using hA
  have hTb : ((decT l 400).1 == 0) = false := by simpa using hT
  have hfs := decS_back hall hS
  rw [hy] at hbd HS0
  rw [hy] at hfs
  generalize decR l = R1 at *
  generalize (decT l 400).2.2 = R2 at *
  generalize (decS l).2.2 = R3 at *
  generalize (dec l).1 = E1 at *
  generalize (decT l 400).1 = E2 at *
  generalize (decS l).1 = E3 at *
  generalize hU : unfoldI (dec l).2.1 = U at *
  generalize (dec l).2.1 = N at *
  generalize (decT l 400).2.1 = S at *
  subst hS
  have HP4 := fun w => Lib.hid (putSet_c _ [] y0 y1 y2 y3 w Byts.nil hbd (by simp))
  simp only [List.nil_append] at HP4
  have hc3 := encS_len (xs := [y0, y1, y2, y3]) rfl hbd
  clear hU hy hbd hA hT
  go_enter Try.func8, Try.ntmps8
  go_wp2_with (go_at_call 10; refine hSh.mono ?_; rintro e w0 ⟨rfl, rfl⟩)
  clear hSh
  refine ((HN w0 hB).out).mono ?_
  rintro e w1 ⟨v1, rfl, hV1, hk⟩
  replace hB := hB.keep hk
  have hb := hk
  clear hk
  clear hV1
  go_wp2_with fail
  refine ((HG w1 hB).out).mono ?_
  rintro e w2 ⟨v2, rfl, hV2, hk⟩
  replace hB := hB.keep hk
  replace hb := hb.trans (hk.mono hb.size)
  clear hk
  clear hV2
  go_wp2_with fail
  refine ((HT w2 hB).out).mono ?_
  rintro e w3 ⟨v3, rfl, hV3, hk⟩
  replace hB := hB.keep hk
  replace hb := hb.trans (hk.mono hb.size)
  clear hk
  clear hV3
  go_wp2_with fail
  refine ((HS0 w3 hB).out).mono ?_
  rintro e w4 ⟨v4, rfl, hV4, hk⟩
  replace hB := hB.keep hk
  replace hb := hb.trans (hk.mono hb.size)
  clear hk
  simp only [aggU, List.map_cons, List.map_nil]
  go_wp2_with fail
  have hM : Blk (w4.alloc (.cells #[.int .u64 y0, .int .u64 y1, .int .u64 y2, .int .u64 y3] 40)) w4.heap.size _ _ := Blk.new w4 40 #[.int .u64 y0, .int .u64 y1, .int .u64 y2, .int .u64 y3]
  replace hB := hB.alloc (.cells #[.int .u64 y0, .int .u64 y1, .int .u64 y2, .int .u64 y3] 40)
  replace hV4 := hV4.alloc (.cells #[.int .u64 y0, .int .u64 y1, .int .u64 y2, .int .u64 y3] 40)
  replace hb := hb.alloc hb.size (.cells #[.int .u64 y0, .int .u64 y1, .int .u64 y2, .int .u64 y3] 40)
  generalize w4.alloc (.cells #[.int .u64 y0, .int .u64 y1, .int .u64 y2, .int .u64 y3] 40) = w4a at *
  clear hM
  refine ((HP4 w4a).out).mono ?_
  rintro e w5 ⟨u4, rfl, ho, hk⟩
  replace hB := hB.keep hk
  replace hV4 := hV4.keep hk
  replace hb := hb.trans (hk.mono hb.size)
  clear hk
  have hU4 := ho.byts encS_all
  clear ho
  go_wp2_with fail
  refine (front_c _ _ _ (encS [y0, y1, y2, y3]) R3 l w5 hU4 hV4 hB (by omega) (by omega) (by omega)).mono ?_
  rintro e w6 ⟨rfl, hk⟩
  clear hU4
  clear hV4
  replace hB := hB.keep hk
  replace hb := hb.trans (hk.mono hb.size)
  clear hk
  rw [hfs, sameI_self]
  go_wp2_with fail
  refine (awake_c w6).mono ?_
  rintro e w7 ⟨rfl, hk⟩
  replace hB := hB.keep hk
  replace hb := hb.trans (hk.mono hb.size)
  clear hk
  go_wp2_with fail
  go_ret
  exact ⟨rfl, hb⟩
set_option maxRecDepth 100000 in
set_option maxHeartbeats 8000000 in
theorem lone_111 (v : Value) (l : List Int) (w : World) (hB : Byts w v l) (hl : l.length ≤ 400) (hA : ((dec l).1 ≠ 0)) (hT : ((decT l 400).1 ≠ 0)) (hS : ((decS l).1 ≠ 0)) :
    Calls Try.prog 8 #[v] w fun e w' => e = .returned (.bool true) ∧ Below w.heap.size w w' := by
  have hSh := short_c _ l w hB (by omega)
  rw [decide_eq_true (by omega)] at hSh
  have hall := hB.all
  have HN := fun w hB => Lib.hid (number_c v l w hB (by omega))
  have HG := fun w hB => Lib.hid (signed_c v l w hB (by omega))
  have HT := fun w hB => Lib.hid (text_c v l 400 w hB (by omega) (by omega) (by omega))
  have HS0 := fun w hB => Lib.hid (set_c v l w hB (by omega))
  obtain ⟨y0, y1, y2, y3, hy⟩ := list_four (decS_len (l := l))
  have hbd := decS_bd hall
  have hr1 := decR_len hl
  have hr2 := decT_len 400 hl
  have hr3 := decS_short hl
  have ha1 := decR_all hall
  have ha2 := decT_all 400 hall
  have ha3 := decS_all hall
  have hAb : ((dec l).1 == 0) = false := by simpa using hA
  have hTb : ((decT l 400).1 == 0) = false := by simpa using hT
  have hSb : ((decS l).1 == 0) = false := by simpa using hS
  rw [hy] at hbd HS0
  generalize decR l = R1 at *
  generalize (decT l 400).2.2 = R2 at *
  generalize (decS l).2.2 = R3 at *
  generalize (dec l).1 = E1 at *
  generalize (decT l 400).1 = E2 at *
  generalize (decS l).1 = E3 at *
  generalize hU : unfoldI (dec l).2.1 = U at *
  generalize (dec l).2.1 = N at *
  generalize (decT l 400).2.1 = S at *
  clear hU hy hbd hA hT hS
  go_enter Try.func8, Try.ntmps8
  go_wp2_with (go_at_call 10; refine hSh.mono ?_; rintro e w0 ⟨rfl, rfl⟩)
  clear hSh
  refine ((HN w0 hB).out).mono ?_
  rintro e w1 ⟨v1, rfl, hV1, hk⟩
  replace hB := hB.keep hk
  have hb := hk
  clear hk
  clear hV1
  go_wp2_with fail
  refine ((HG w1 hB).out).mono ?_
  rintro e w2 ⟨v2, rfl, hV2, hk⟩
  replace hB := hB.keep hk
  replace hb := hb.trans (hk.mono hb.size)
  clear hk
  clear hV2
  go_wp2_with fail
  refine ((HT w2 hB).out).mono ?_
  rintro e w3 ⟨v3, rfl, hV3, hk⟩
  replace hB := hB.keep hk
  replace hb := hb.trans (hk.mono hb.size)
  clear hk
  clear hV3
  go_wp2_with fail
  refine ((HS0 w3 hB).out).mono ?_
  rintro e w4 ⟨v4, rfl, hV4, hk⟩
  replace hB := hB.keep hk
  replace hb := hb.trans (hk.mono hb.size)
  clear hk
  simp only [aggU, List.map_cons, List.map_nil]
  go_wp2_with fail
  replace hB := hB.alloc (.cells #[.int .u64 y0, .int .u64 y1, .int .u64 y2, .int .u64 y3] 40)
  replace hV4 := hV4.alloc (.cells #[.int .u64 y0, .int .u64 y1, .int .u64 y2, .int .u64 y3] 40)
  replace hb := hb.alloc hb.size (.cells #[.int .u64 y0, .int .u64 y1, .int .u64 y2, .int .u64 y3] 40)
  generalize w4.alloc (.cells #[.int .u64 y0, .int .u64 y1, .int .u64 y2, .int .u64 y3] 40) = w4a at *
  refine (awake_c w4a).mono ?_
  rintro e w5 ⟨rfl, hk⟩
  replace hB := hB.keep hk
  replace hV4 := hV4.keep hk
  replace hb := hb.trans (hk.mono hb.size)
  clear hk
  go_wp2_with fail
  go_ret
  exact ⟨rfl, hb⟩
theorem lone_c (v : Value) (l : List Int) (w : World) (hB : Byts w v l) (hn : l.length ≤ 9223372036854775807) :
    Calls Try.prog 8 #[v] w fun e w' => e = .returned (.bool true) ∧ Below w.heap.size w w' := by
  by_cases h : (400 : Int) < (l.length : Int)
  · have hS := short_c _ l w hB (by omega)
    rw [decide_eq_false (by omega)] at hS
    go_enter Try.func8, Try.ntmps8
    go_wp2_with (first
      | (go_at_call 10; refine hS.mono ?_; rintro e w1 ⟨rfl, rfl⟩)
      | (go_at_call 11; refine (awake_c _).mono ?_; rintro e w2 ⟨rfl, hb2⟩))
    go_ret
    exact ⟨rfl, hb2⟩
  · have hl : l.length ≤ 400 := by omega
    by_cases h1 : (dec l).1 = 0 <;> by_cases h2 : (decT l 400).1 = 0 <;> by_cases h3 : (decS l).1 = 0
    · exact lone_000 v l w hB hl h1 h2 h3
    · exact lone_001 v l w hB hl h1 h2 h3
    · exact lone_010 v l w hB hl h1 h2 h3
    · exact lone_011 v l w hB hl h1 h2 h3
    · exact lone_100 v l w hB hl h1 h2 h3
    · exact lone_101 v l w hB hl h1 h2 h3
    · exact lone_110 v l w hB hl h1 h2 h3
    · exact lone_111 v l w hB hl h1 h2 h3
end Go.Proofs.Ytohmlmbolilbbaa
