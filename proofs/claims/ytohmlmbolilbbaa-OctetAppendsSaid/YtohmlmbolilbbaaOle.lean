/- The law OctetAppends, walked. -/
import Derived.Test.YtohmlmbolilbbaaOld
namespace Go.Proofs.Ytohmlmbolilbbaa
open Go.RowKit
set_option maxRecDepth 100000 in
set_option maxHeartbeats 16000000 in
theorem lappends_c (v : Value) (l : List Int) (n : Nat) (m : Int) (s : ByteArray) (x0 x1 x2 x3 : Int) (w : World) (hB : Byts w v l) (hl : l.length ≤ 9223372036854775807) (hn : n < 18446744073709551616) (hm : -9223372036854775808 ≤ m ∧ m ≤ 9223372036854775807) (hs : s.size ≤ 9223372036854775807)
    (hx : ∀ x ∈ [x0, x1, x2, x3], 0 ≤ x ∧ x < 18446744073709551616) :
    Calls Try.prog 9 #[v, .agg #[.int .u64 n, .int .i64 m, .string s, .int .u64 x0, .int .u64 x1, .int .u64 x2, .int .u64 x3]] w fun e w' => e = .returned (.bool true) ∧ Below w.heap.size w w' := by
  have hB0 := hB
  obtain ⟨_, ao, cap, rfl, hcap, _, _⟩ := hB0
  have HN := Lib.hid hn
  have HM := Lib.hid hm
  have HX := Lib.hid hx
  clear hn hm hx
  have hb : Below w.heap.size w (w.alloc (.cells #[.int .u64 n, .int .i64 m, .string s, .int .u64 x0, .int .u64 x1, .int .u64 x2, .int .u64 x3] 51)) := (Below.refl _ _).alloc (Nat.le_refl _) _
  have hK : Blk (w.alloc (.cells #[.int .u64 n, .int .i64 m, .string s, .int .u64 x0, .int .u64 x1, .int .u64 x2, .int .u64 x3] 51)) w.heap.size _ _ := Blk.new w 51 #[.int .u64 n, .int .i64 m, .string s, .int .u64 x0, .int .u64 x1, .int .u64 x2, .int .u64 x3]
  have hBa := hB.alloc (.cells #[.int .u64 n, .int .i64 m, .string s, .int .u64 x0, .int .u64 x1, .int .u64 x2, .int .u64 x3] 51)
  obtain ⟨k0, k1, k2, k3, k4, k5, k6⟩ := mem7 hK
  by_cases h : (400 : Int) < (l.length : Int)
  · have hS := short_c _ l _ hBa (by omega)
    rw [decide_eq_false (by omega)] at hS
    go_enter Try.func9, Try.ntmps9
    go_wp2_with (first
      | (go_at_call 10; refine hS.mono ?_; rintro e w1 ⟨rfl, rfl⟩)
      | (go_at_call 11; refine (awake_c _).mono ?_; rintro e w2 ⟨rfl, hb2⟩))
    go_ret
    exact ⟨rfl, hb.trans (hb2.mono hb.size)⟩
  have hSh := short_c _ l _ hBa (by omega)
  rw [decide_eq_true (by omega)] at hSh
  by_cases h' : (400 : Int) < (s.size : Int)
  · go_enter Try.func9, Try.ntmps9
    go_wp2_with (first
      | (go_at_call 10; refine hSh.mono ?_; rintro e w1 ⟨rfl, rfl⟩)
      | (go_at_call 11; refine (awake_c _).mono ?_; rintro e w2 ⟨rfl, hb2⟩))
    go_ret
    exact ⟨rfl, hb.trans (hb2.mono hb.size)⟩
  have hl4 : l.length ≤ 400 := by omega
  have hs4 : s.size ≤ 400 := by omega
  have hall := hB.all
  have HPC1 : ∀ w, Hid (Calls Try.prog 17 #[.slice none 0 0, .int .u64 n] w fun e w' => ∃ v', e = .returned v' ∧ OwnB w' w.heap.size v' (code n) ∧ Below w.heap.size w w') := fun w => Lib.hid (by
    have h := putNumber_c (.slice none 0 0) [] n w Byts.nil HN.out (by simp)
    simp only [List.nil_append] at h
    exact h)
  have HQC1 : ∀ w, Byts w (.slice ao l.length cap) l → Hid (Calls Try.prog 17 #[.slice ao l.length cap, .int .u64 n] w fun e w' => ∃ v', e = .returned v' ∧ OwnB w' w.heap.size v' (l ++ (code n)) ∧ Below w.heap.size w w') := fun w hB => Lib.hid (by
    have h := putNumber_c (.slice ao l.length cap) l n w hB HN.out (by omega)
    exact h)
  have HPC2 : ∀ w, Hid (Calls Try.prog 19 #[.slice none 0 0, .int .i64 m] w fun e w' => ∃ v', e = .returned v' ∧ OwnB w' w.heap.size v' (code (foldN m).toNat) ∧ Below w.heap.size w w') := fun w => Lib.hid (by
    have h := putSigned_c (.slice none 0 0) [] m w Byts.nil HM.out.1 HM.out.2 (by simp)
    simp only [List.nil_append] at h
    exact h)
  have HQC2 : ∀ w, Byts w (.slice ao l.length cap) l → Hid (Calls Try.prog 19 #[.slice ao l.length cap, .int .i64 m] w fun e w' => ∃ v', e = .returned v' ∧ OwnB w' w.heap.size v' (l ++ (code (foldN m).toNat)) ∧ Below w.heap.size w w') := fun w hB => Lib.hid (by
    have h := putSigned_c (.slice ao l.length cap) l m w hB HM.out.1 HM.out.2 (by omega)
    exact h)
  have HPC3 : ∀ w, Hid (Calls Try.prog 23 #[.slice none 0 0, .string s] w fun e w' => ∃ v', e = .returned v' ∧ OwnB w' w.heap.size v' (encT s) ∧ Below w.heap.size w w') := fun w => Lib.hid (by
    have h := putText_c (.slice none 0 0) [] s w Byts.nil (by omega) (by simp)
    simp only [List.nil_append] at h
    exact h)
  have HQC3 : ∀ w, Byts w (.slice ao l.length cap) l → Hid (Calls Try.prog 23 #[.slice ao l.length cap, .string s] w fun e w' => ∃ v', e = .returned v' ∧ OwnB w' w.heap.size v' (l ++ (encT s)) ∧ Below w.heap.size w w') := fun w hB => Lib.hid (by
    have h := putText_c (.slice ao l.length cap) l s w hB (by omega) (by omega)
    exact h)
  have HPC4 : ∀ w, Hid (Calls Try.prog 27 #[.slice none 0 0, .agg #[.int .u64 x0, .int .u64 x1, .int .u64 x2, .int .u64 x3]] w fun e w' => ∃ v', e = .returned v' ∧ OwnB w' w.heap.size v' (encS [x0, x1, x2, x3]) ∧ Below w.heap.size w w') := fun w => Lib.hid (by
    have h := putSet_c (.slice none 0 0) [] x0 x1 x2 x3 w Byts.nil HX.out (by simp)
    simp only [List.nil_append] at h
    exact h)
  have HQC4 : ∀ w, Byts w (.slice ao l.length cap) l → Hid (Calls Try.prog 27 #[.slice ao l.length cap, .agg #[.int .u64 x0, .int .u64 x1, .int .u64 x2, .int .u64 x3]] w fun e w' => ∃ v', e = .returned v' ∧ OwnB w' w.heap.size v' (l ++ (encS [x0, x1, x2, x3])) ∧ Below w.heap.size w w') := fun w hB => Lib.hid (by
    have h := putSet_c (.slice ao l.length cap) l x0 x1 x2 x3 w hB HX.out (by omega)
    exact h)
  have z1 : (code n).length ≤ 500 := by have := code_len HN.out; omega
  have z2 : (code (foldN m).toNat).length ≤ 500 := by
    have h := foldN_bd HM.out.1 HM.out.2
    have := code_len (n := (foldN m).toNat) (by omega)
    omega
  have z3 : (encT s).length ≤ 500 := by
    have := code_len (n := s.size) (by omega)
    unfold encT
    rw [List.length_append, bts_len]
    omega
  have z4 : (encS [x0, x1, x2, x3]).length ≤ 500 := by
    have := encS_len (xs := [x0, x1, x2, x3]) rfl HX.out
    omega
  have d1 : AllB (code n) := code_all n
  have d2 : AllB (code (foldN m).toNat) := code_all _
  have d3 : AllB (encT s) := (code_all _).app (bts_all s)
  have d4 : AllB (encS [x0, x1, x2, x3]) := encS_all
  generalize code n = C1 at *
  generalize code (foldN m).toNat = C2 at *
  generalize encT s = C3 at *
  generalize encS [x0, x1, x2, x3] = C4 at *
  have hlk : l.length ≤ 400000000 := by omega
  have y1 : C1.length ≤ 400000000 := by omega
  have u1 : (l ++ C1).length ≤ 1000000000 := by rw [List.length_append]; omega
  have y2 : C2.length ≤ 400000000 := by omega
  have u2 : (l ++ C2).length ≤ 1000000000 := by rw [List.length_append]; omega
  have y3 : C3.length ≤ 400000000 := by omega
  have u3 : (l ++ C3).length ≤ 1000000000 := by rw [List.length_append]; omega
  have y4 : C4.length ≤ 400000000 := by omega
  have u4 : (l ++ C4).length ≤ 1000000000 := by rw [List.length_append]; omega
  clear z1 z2 z3 z4 hl hs
  go_enter Try.func9, Try.ntmps9
  go_wp2_with (go_at_call 10; refine hSh.mono ?_; rintro e w0 ⟨rfl, rfl⟩)
  clear hSh
  have HK := Lib.hid hK
  have HB := Lib.hid hBa
  generalize w.alloc (.cells #[.int .u64 n, .int .i64 m, .string s, .int .u64 x0, .int .u64 x1, .int .u64 x2, .int .u64 x3] 51) = W at *
  obtain ⟨g0, hg0⟩ : ∃ g, w.heap.size = g := ⟨_, rfl⟩
  rw [hg0] at HK k0 k1 k2 k3 k4 k5 k6
  simp only [hg0]
  clear hBa hK hB
  have hC0 : Kp W W.drew := Kp.rfl'.drew
  go_region_held3 (fun w' => w'.cell? ⟨g0, 0, none⟩ = some (.int .u64 n) ∧ w'.cell? ⟨g0, 1, none⟩ = some (.int .i64 m) ∧ w'.cell? ⟨g0, 2, none⟩ = some (.string s) ∧ w'.cell? ⟨g0, 3, none⟩ = some (.int .u64 x0) ∧ w'.cell? ⟨g0, 4, none⟩ = some (.int .u64 x1) ∧ w'.cell? ⟨g0, 5, none⟩ = some (.int .u64 x2) ∧ w'.cell? ⟨g0, 6, none⟩ = some (.int .u64 x3)) (exact mem7 (Kp.blk (by assumption) HK.out))
    (first
      | (go_at_call 17; (with_reducible refine (HPC1 _).out.mono ?_); rintro e w1a ⟨v1a, rfl, ho, hb1a⟩; obtain ⟨a1, n1, c1, rfl⟩ := ho.isSliceN; have hBn1 := ho.byts d1; have hC2 := Kp.step (by assumption) hb1a; clear ho hb1a)
      | (go_at_call 17; (with_reducible refine (HQC1 _ ?_).out.mono ?_); (exact HB.out.keep (by assumption)); rintro e w1b ⟨v1b, rfl, ho, hb1b⟩; obtain ⟨q1, r1, t1, rfl⟩ := ho.isSliceN; have hBb1 := ho.byts (hall.app d1); have hBm1 := hBn1.keep hb1b; have hC2 := Kp.step (by assumption) hb1b; clear ho hb1b)
      | (go_at_call 35; (with_reducible refine (front_c (.slice ao l.length cap) (.slice a1 n1 c1) (.slice q1 r1 t1) l C1 (l ++ C1) _ ?_ hBm1 hBb1 hlk y1 u1).mono ?_); (exact HB.out.keep (by assumption)); rintro e w1c ⟨rfl, hb1c⟩; rw [sameI_self]; have hC2 := Kp.step (by assumption) hb1c; clear hb1c)
      | (go_at_call 19; (with_reducible refine (HPC2 _).out.mono ?_); rintro e w2a ⟨v2a, rfl, ho, hb2a⟩; obtain ⟨a2, n2, c2, rfl⟩ := ho.isSliceN; have hBn2 := ho.byts d2; have hC2 := Kp.step (by assumption) hb2a; clear ho hb2a)
      | (go_at_call 19; (with_reducible refine (HQC2 _ ?_).out.mono ?_); (exact HB.out.keep (by assumption)); rintro e w2b ⟨v2b, rfl, ho, hb2b⟩; obtain ⟨q2, r2, t2, rfl⟩ := ho.isSliceN; have hBb2 := ho.byts (hall.app d2); have hBm2 := hBn2.keep hb2b; have hC2 := Kp.step (by assumption) hb2b; clear ho hb2b)
      | (go_at_call 35; (with_reducible refine (front_c (.slice ao l.length cap) (.slice a2 n2 c2) (.slice q2 r2 t2) l C2 (l ++ C2) _ ?_ hBm2 hBb2 hlk y2 u2).mono ?_); (exact HB.out.keep (by assumption)); rintro e w2c ⟨rfl, hb2c⟩; rw [sameI_self]; have hC2 := Kp.step (by assumption) hb2c; clear hb2c)
      | (go_at_call 23; (with_reducible refine (HPC3 _).out.mono ?_); rintro e w3a ⟨v3a, rfl, ho, hb3a⟩; obtain ⟨a3, n3, c3, rfl⟩ := ho.isSliceN; have hBn3 := ho.byts d3; have hC2 := Kp.step (by assumption) hb3a; clear ho hb3a)
      | (go_at_call 23; (with_reducible refine (HQC3 _ ?_).out.mono ?_); (exact HB.out.keep (by assumption)); rintro e w3b ⟨v3b, rfl, ho, hb3b⟩; obtain ⟨q3, r3, t3, rfl⟩ := ho.isSliceN; have hBb3 := ho.byts (hall.app d3); have hBm3 := hBn3.keep hb3b; have hC2 := Kp.step (by assumption) hb3b; clear ho hb3b)
      | (go_at_call 35; (with_reducible refine (front_c (.slice ao l.length cap) (.slice a3 n3 c3) (.slice q3 r3 t3) l C3 (l ++ C3) _ ?_ hBm3 hBb3 hlk y3 u3).mono ?_); (exact HB.out.keep (by assumption)); rintro e w3c ⟨rfl, hb3c⟩; rw [sameI_self]; have hC2 := Kp.step (by assumption) hb3c; clear hb3c)
      | (go_at_call 27; (with_reducible refine (HPC4 _).out.mono ?_); rintro e w4a ⟨v4a, rfl, ho, hb4a⟩; obtain ⟨a4, n4, c4, rfl⟩ := ho.isSliceN; have hBn4 := ho.byts d4; have hC2 := Kp.step (by assumption) hb4a; clear ho hb4a)
      | (go_at_call 27; (with_reducible refine (HQC4 _ ?_).out.mono ?_); (exact HB.out.keep (by assumption)); rintro e w4b ⟨v4b, rfl, ho, hb4b⟩; obtain ⟨q4, r4, t4, rfl⟩ := ho.isSliceN; have hBb4 := ho.byts (hall.app d4); have hBm4 := hBn4.keep hb4b; have hC2 := Kp.step (by assumption) hb4b; clear ho hb4b)
      | (go_at_call 35; (with_reducible refine (front_c (.slice ao l.length cap) (.slice a4 n4 c4) (.slice q4 r4 t4) l C4 (l ++ C4) _ ?_ hBm4 hBb4 hlk y4 u4).mono ?_); (exact HB.out.keep (by assumption)); rintro e w4c ⟨rfl, hb4c⟩; rw [sameI_self]; have hC2 := Kp.step (by assumption) hb4c; clear hb4c)
      | (go_at_call 11; refine (awake_c _).mono ?_; rintro e w9 ⟨rfl, hb9⟩; have hC2 := Kp.step (by assumption) hb9; clear hb9))
  all_goals
    go_wp2_with fail
    go_ret
    exact ⟨rfl, hb.trans (Below.mono (by assumption) hb.size)⟩
end Go.Proofs.Ytohmlmbolilbbaa
