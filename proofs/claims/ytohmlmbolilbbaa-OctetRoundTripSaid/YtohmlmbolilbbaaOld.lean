/- The law OctetRoundTrip, walked. -/
import Derived.Test.YtohmlmbolilbbaaOlc
namespace Go.Proofs.Ytohmlmbolilbbaa
open Go.RowKit
theorem mem7 {w : World} {g1 : Nat} {t1 : TypeId} {a b c d e f g : Value} (h1 : Blk w g1 t1 #[a, b, c, d, e, f, g]) :
    w.cell? ⟨g1, 0, none⟩ = some a ∧ w.cell? ⟨g1, 1, none⟩ = some b ∧ w.cell? ⟨g1, 2, none⟩ = some c ∧ w.cell? ⟨g1, 3, none⟩ = some d ∧ w.cell? ⟨g1, 4, none⟩ = some e ∧ w.cell? ⟨g1, 5, none⟩ = some f ∧ w.cell? ⟨g1, 6, none⟩ = some g :=
  ⟨h1.cell 0, h1.cell 1, h1.cell 2, h1.cell 3, h1.cell 4, h1.cell 5, h1.cell 6⟩
theorem decR_code {n : Nat} (r : List Int) (h : n < 18446744073709551616) : decR (code n ++ r) = r := by
  unfold decR
  rw [dec_code n r h]
  simp
set_option maxRecDepth 100000 in
set_option maxHeartbeats 8000000 in
theorem lround_c (n : Nat) (m : Int) (s : ByteArray) (x0 x1 x2 x3 : Int) (v : Value) (l : List Int) (w : World) (hn : n < 18446744073709551616) (hm : -9223372036854775808 ≤ m ∧ m ≤ 9223372036854775807) (hs : s.size ≤ 9223372036854775807)
    (hx : ∀ x ∈ [x0, x1, x2, x3], 0 ≤ x ∧ x < 18446744073709551616) (hB : Byts w v l) (hl : l.length ≤ 9223372036854775807) :
    Calls Try.prog 7 #[.agg #[.int .u64 n, .int .i64 m, .string s, .int .u64 x0, .int .u64 x1, .int .u64 x2, .int .u64 x3], v] w fun e w' => e = .returned (.bool true) ∧ Below w.heap.size w w' := by
  have hB0 := hB
  obtain ⟨_, ao, cap, rfl, hcap, _, _⟩ := hB0
  obtain ⟨i0, hi, hz0, hz1, hz2⟩ := info_parts infoU8
  have HN := Lib.hid hn
  have HM := Lib.hid hm
  have HX := Lib.hid hx
  clear hn hm hx
  have hb : Below w.heap.size w (w.alloc (.cells #[.int .u64 n, .int .i64 m, .string s, .int .u64 x0, .int .u64 x1, .int .u64 x2, .int .u64 x3] 51)) := (Below.refl _ _).alloc (Nat.le_refl _) _
  have hK : Blk (w.alloc (.cells #[.int .u64 n, .int .i64 m, .string s, .int .u64 x0, .int .u64 x1, .int .u64 x2, .int .u64 x3] 51)) w.heap.size _ _ := Blk.new w 51 #[.int .u64 n, .int .i64 m, .string s, .int .u64 x0, .int .u64 x1, .int .u64 x2, .int .u64 x3]
  have hBa := hB.alloc (.cells #[.int .u64 n, .int .i64 m, .string s, .int .u64 x0, .int .u64 x1, .int .u64 x2, .int .u64 x3] 51)
  obtain ⟨k0, k1, k2, k3, k4, k5, k6⟩ := mem7 hK
  by_cases h : (400 : Int) < (s.size : Int)
  · go_enter Try.func7, Try.ntmps7
    go_wp2_with (go_at_call 11; refine (awake_c _).mono ?_; rintro e w2 ⟨rfl, hb2⟩)
    go_ret
    exact ⟨rfl, hb.trans (hb2.mono hb.size)⟩
  by_cases h' : (400 : Int) < (l.length : Int)
  · have hS := short_c _ l _ hBa (by omega)
    rw [decide_eq_false (by omega)] at hS
    go_enter Try.func7, Try.ntmps7
    go_wp2_with (first
      | (go_at_call 10; refine hS.mono ?_; rintro e w1 ⟨rfl, rfl⟩)
      | (go_at_call 11; refine (awake_c _).mono ?_; rintro e w2 ⟨rfl, hb2⟩))
    go_ret
    exact ⟨rfl, hb.trans (hb2.mono hb.size)⟩
  have hSh := short_c _ l _ hBa (by omega)
  rw [decide_eq_true (by omega)] at hSh
  have hl4 : l.length ≤ 400 := by omega
  have hs4 : s.size ≤ 400 := by omega
  have hf := foldN_bd HM.out.1 HM.out.2
  obtain ⟨f, hf2⟩ : ∃ f : Nat, foldN m = f := ⟨(foldN m).toNat, by omega⟩
  have hfl : f < 18446744073709551616 := by omega
  have HFL := Lib.hid hfl
  have HP1 := fun w => Lib.hid (putNumber_c _ [] n w Byts.nil HN.out (by simp))
  have HP2 := fun w u (hu : Byts w u (code n)) => Lib.hid (putSigned_c u (code n) m w hu HM.out.1 HM.out.2 (by have := code_len HN.out; omega))
  have HP3 := fun w u (hu : Byts w u (code n ++ code f)) => Lib.hid (putText_c u (code n ++ code f) s w hu (by omega) (by have := code_len HN.out; have := code_len HFL.out; rw [List.length_append]; omega))
  have hz3 : (code n ++ code f ++ encT s).length ≤ 500 := by
    have h1 := code_len HN.out
    have h2 := code_len HFL.out
    have h3 := code_len (n := s.size) (by omega)
    unfold encT
    simp only [List.length_append, bts_len]
    omega
  have HP4 := fun w u (hu : Byts w u (code n ++ code f ++ encT s)) => Lib.hid (putSet_c u (code n ++ code f ++ encT s) x0 x1 x2 x3 w hu HX.out (by omega))
  have hz4 : (code n ++ code f ++ encT s ++ encS [x0, x1, x2, x3]).length ≤ 600 := by
    have := encS_len (xs := [x0, x1, x2, x3]) rfl HX.out
    rw [List.length_append]
    omega
  simp only [List.nil_append] at HP1
  rw [hf2, Int.toNat_natCast] at HP2
  have A1 : AllB (code n) := code_all n
  have A2 : AllB (code n ++ code f) := A1.app (code_all f)
  have A3 : AllB (code n ++ code f ++ encT s) := A2.app ((code_all _).app (bts_all s))
  have A4 : AllB (code n ++ code f ++ encT s ++ encS [x0, x1, x2, x3]) := A3.app encS_all
  have hq0 : ∀ r, code n ++ code f ++ encT s ++ encS [x0, x1, x2, x3] ++ r = code n ++ (code f ++ (encT s ++ (encS [x0, x1, x2, x3] ++ r))) := fun r => by simp only [List.append_assoc]
  have HQ0 := Lib.hid hq0
  have hum : unfoldI (f : Int) = m := by rw [← hf2]; exact unfold_fold m
  have hqm : (code n ++ code f ++ encT s ++ encS [x0, x1, x2, x3] ++ l).length ≤ 1000 := by rw [List.length_append]; omega
  rw [hq0] at hqm
  have hq1 : (code f ++ (encT s ++ (encS [x0, x1, x2, x3] ++ l))).length ≤ 1000 := by rw [List.length_append] at hqm; omega
  have hq2 : (encT s ++ (encS [x0, x1, x2, x3] ++ l)).length ≤ 1000 := by rw [List.length_append] at hq1; omega
  have hq3 : (encS [x0, x1, x2, x3] ++ l).length ≤ 1000 := by rw [List.length_append] at hq2; omega
  have HD1 : ∀ w u, Byts w u (code n ++ (code f ++ (encT s ++ (encS [x0, x1, x2, x3] ++ l)))) → Hid (Calls Try.prog 12 #[u] w fun e w' => ∃ vr, e = .returned (.tuple #[.int .u64 n, vr, .int .i64 0]) ∧ Byts w' vr (code f ++ (encT s ++ (encS [x0, x1, x2, x3] ++ l))) ∧ Below w.heap.size w w') := fun w u hu => Lib.hid (by
    have h := number_c u _ w hu (by omega)
    rw [dec_code _ _ HN.out, decR_code _ HN.out] at h
    exact h)
  have HD2 : ∀ w u, Byts w u (code f ++ (encT s ++ (encS [x0, x1, x2, x3] ++ l))) → Hid (Calls Try.prog 14 #[u] w fun e w' => ∃ vr, e = .returned (.tuple #[.int .i64 m, vr, .int .i64 0]) ∧ Byts w' vr (encT s ++ (encS [x0, x1, x2, x3] ++ l)) ∧ Below w.heap.size w w') := fun w u hu => Lib.hid (by
    have h := signed_c u _ w hu (by omega)
    rw [dec_code _ _ HFL.out, decR_code _ HFL.out] at h
    simp only [hum] at h
    exact h)
  have HD3 : ∀ w u, Byts w u (encT s ++ (encS [x0, x1, x2, x3] ++ l)) → Hid (Calls Try.prog 21 #[u, .int .i64 s.size] w fun e w' => ∃ vr, e = .returned (.tuple #[.string s, vr, .int .i64 0]) ∧ Byts w' vr (encS [x0, x1, x2, x3] ++ l) ∧ Below w.heap.size w w') := fun w u hu => Lib.hid (by
    have h := text_c u _ (s.size : Int) w hu (by omega) (by omega) (by omega)
    rw [decT_enc s _ _ (by omega) (by omega)] at h
    exact h)
  have HD4 : ∀ w u, Byts w u (encS [x0, x1, x2, x3] ++ l) → Hid (Calls Try.prog 25 #[u] w fun e w' => ∃ vr, e = .returned (.tuple #[.agg #[.int .u64 x0, .int .u64 x1, .int .u64 x2, .int .u64 x3], vr, .int .i64 0]) ∧ Byts w' vr l ∧ Below w.heap.size w w') := fun w u hu => Lib.hid (by
    have h := set_c u _ w hu (by omega)
    rw [decS_enc _ _ rfl HX.out] at h
    exact h)
  have HLL := Lib.hid hl4
  clear hf hf2 hfl hum hqm hq1 hq2 hq3 hq0 hz3 hs hl
  go_enter Try.func7, Try.ntmps7
  go_wp2_with (go_at_call 10; refine hSh.mono ?_; rintro e w0 ⟨rfl, rfl⟩)
  clear hSh
  have HK := Lib.hid hK
  have HB := Lib.hid hB
  generalize w.alloc (.cells #[.int .u64 n, .int .i64 m, .string s, .int .u64 x0, .int .u64 x1, .int .u64 x2, .int .u64 x3] 51) = W at *
  obtain ⟨g0, hg0⟩ : ∃ g, w.heap.size = g := ⟨_, rfl⟩
  rw [hg0] at HK k0 k1 k2 k3 k4 k5 k6
  simp only [hg0]
  clear hBa hK hB
  have hC0 : Kp W W.drew := Kp.rfl'.drew
  go_region_held3 (fun w' => w'.cell? ⟨g0, 0, none⟩ = some (.int .u64 n) ∧ w'.cell? ⟨g0, 1, none⟩ = some (.int .i64 m) ∧ w'.cell? ⟨g0, 2, none⟩ = some (.string s) ∧ w'.cell? ⟨g0, 3, none⟩ = some (.int .u64 x0) ∧ w'.cell? ⟨g0, 4, none⟩ = some (.int .u64 x1) ∧ w'.cell? ⟨g0, 5, none⟩ = some (.int .u64 x2) ∧ w'.cell? ⟨g0, 6, none⟩ = some (.int .u64 x3)) (exact mem7 (Kp.blk (by assumption) HK.out))
    (first
      | (go_at_call 17; refine (HP1 _).out.mono ?_; rintro e w1 ⟨v1, rfl, ho1, hb1⟩; obtain ⟨a1, n1, c1, rfl⟩ := ho1.isSliceN; have hB1 := ho1.byts A1; have hC1 := Kp.step (by assumption) hb1; clear ho1 hb1)
      | (go_at_call 19; refine (HP2 _ _ hB1).out.mono ?_; rintro e w2 ⟨v2, rfl, ho2, hb2⟩; obtain ⟨a2, n2, c2, rfl⟩ := ho2.isSliceN; have hB2 := ho2.byts A2; have hC2 := Kp.step (by assumption) hb2; clear ho2 hb2)
      | (go_at_call 23; refine (HP3 _ _ hB2).out.mono ?_; rintro e w3 ⟨v3, rfl, ho3, hb3⟩; obtain ⟨a3, n3, c3, rfl⟩ := ho3.isSliceN; have hB3 := ho3.byts A3; have hC3 := Kp.step (by assumption) hb3; clear ho3 hb3)
      | (go_at_call 27; refine (HP4 _ _ hB3).out.mono ?_; rintro e w4 ⟨v4, rfl, ho4, hb4⟩; obtain ⟨a4, n4, c4, rfl⟩ := ho4.isSliceN; have hC4 := Kp.step (by assumption) hb4; have hO := ho4.mono hC3.size; clear ho4 hb4))
  go_wp2_with fail
  have hb4 : Below w.heap.size w w4 := hb.trans (Below.mono hC4 hb.size)
  have hK4 := Kp.blk hC4 HK.out
  clear hC0 hC1 hC2 hC3 hB1 hB2 hB3 k0 k1 k2 k3 k4 k5 k6 HP1 HP2 HP3 HP4
  have hgW : g0 < W.heap.size := HK.out.lt
  go_loopw [5, 6, 39] (fun vb _ vi wr => ∃ i : Nat, i ≤ l.length ∧ vi = .int .i64 i ∧ Hid (OwnB wr W.heap.size vb ((code n ++ code f ++ encT s ++ encS [x0, x1, x2, x3]) ++ l.take i)) ∧ Blk wr g0 51 #[.int .u64 n, .int .i64 m, .string s, .int .u64 x0, .int .u64 x1, .int .u64 x2, .int .u64 x3] ∧ Kp W wr) (fun _ _ vi _ => l.length - (intOf vi).toNat)
  case atStart => exact ⟨0, Nat.zero_le _, rfl, Lib.hid (by simpa using hO), hK4, hC4⟩
  case round =>
    clear hO hK4 hC4 hb4
    obtain ⟨i, hil, rfl, HO, hKr, hC⟩ := hrel
    have hbr : Below w.heap.size w wr := hb.trans (Below.mono hC hb.size)
    have hBr := HB.out.keep hbr
    have hbs : W.heap.size ≤ wr.heap.size := hC.size
    by_cases hlt : i < l.length
    · obtain ⟨g, o, rfl, hg, hRow⟩ := hBr.slice.2.2.2 (by omega)
      have q1 := hRow i hlt
      have hx := hBr.all.at hlt
      have HT : Hid ((code n ++ code f ++ encT s ++ encS [x0, x1, x2, x3]) ++ l.take (i + 1) = ((code n ++ code f ++ encT s ++ encS [x0, x1, x2, x3]) ++ l.take i) ++ [l[i]]) := Lib.hid (by rw [take_one hlt, ← List.append_assoc])
      have HLn : Hid (((code n ++ code f ++ encT s ++ encS [x0, x1, x2, x3]) ++ l.take i).length ≤ 1000) := Lib.hid (by rw [List.length_append, List.length_take]; have := HLL.out; omega)
      obtain ⟨x, hx0⟩ : ∃ x, l[i] = x := ⟨_, rfl⟩
      rw [hx0] at q1 hx HT
      have hlt' : (i : Int) < (l.length : Int) := by omega
      obtain ⟨p, hp⟩ : ∃ p, (code n ++ code f ++ encT s ++ encS [x0, x1, x2, x3]) ++ l.take i = p := ⟨_, rfl⟩
      rw [hp] at HO HT HLn
      clear hx0 hRow hp
      go_wp2_with (at_builtin; refine wpList_append_bytes _ rfl _ _ 22 rfl W.heap.size i0 Try.underlying22 hi hz0 hz1 hz2 _ _ p [x] rfl rfl (.inl (HO.out.alloc _)) (byts1 hx (Blk.new _ _ _)) (by have := HLn.out; simp; omega) (by simp; omega) ?_)
      intro v3 w3 _ hb3 ho3
      have HO3 : Hid (OwnB w3 W.heap.size v3 ((code n ++ code f ++ encT s ++ encS [x0, x1, x2, x3]) ++ l.take (i + 1))) := by rw [HT.out]; first | exact Lib.hid ho3 | exact Lib.hid (ho3 (.inl (HO.out.alloc _)))
      have hC3 : Kp W w3 := Below.trans (Below.alloc hC hbs _) hb3
      clear ho3
      go_wp2_with fail
      go_roundw
      case rel => exact ⟨i + 1, hlt, by go_num, HO3, Kp.blk hC3 HK.out, hC3⟩
      case measure => simp [intOf]; omega
    · obtain rfl : i = l.length := by omega
      have hV : Byts wr u5 (code n ++ (code f ++ (encT s ++ (encS [x0, x1, x2, x3] ++ l)))) := by
        have h := HO.out
        rw [List.take_length] at h
        have h2 := h.byts (A4.app HB.out.all)
        rw [HQ0.out] at h2
        exact h2
      clear HO hC
      replace hb := hbr
      clear hbr hbs
      go_wp2_with fail
      refine ((HD1 wr _ hV).out).mono ?_
      rintro e w1 ⟨r1, rfl, hV1, hk⟩
      clear hV
      replace hKr := hKr.keep hk
      replace hBr := hBr.keep hk
      replace hb := hb.trans (hk.mono hb.size)
      clear hk
      go_wp2_with fail
      refine ((HD2 w1 _ hV1).out).mono ?_
      rintro e w2 ⟨r2, rfl, hV2, hk⟩
      clear hV1
      replace hKr := hKr.keep hk
      replace hBr := hBr.keep hk
      replace hb := hb.trans (hk.mono hb.size)
      clear hk
      obtain ⟨k0, k1, k2, k3, k4, k5, k6⟩ := mem7 hKr
      go_wp2_with fail
      refine ((HD3 w2 _ hV2).out).mono ?_
      rintro e w3 ⟨r3, rfl, hV3, hk⟩
      clear hV2
      replace hKr := hKr.keep hk
      replace hBr := hBr.keep hk
      replace hb := hb.trans (hk.mono hb.size)
      clear hk
      clear k0 k1 k2 k3 k4 k5 k6
      go_wp2_with fail
      refine ((HD4 w3 _ hV3).out).mono ?_
      rintro e w4 ⟨r4, rfl, hV4, hk⟩
      clear hV3
      replace hKr := hKr.keep hk
      replace hBr := hBr.keep hk
      replace hb := hb.trans (hk.mono hb.size)
      clear hk
      have q0 : ∀ o, (w4.alloc o).cell? ⟨g0, 0, none⟩ = some (.int .u64 n) := fun o => (hKr.alloc o).cell 0
      have q1 : ∀ o, (w4.alloc o).cell? ⟨g0, 1, none⟩ = some (.int .i64 m) := fun o => (hKr.alloc o).cell 1
      have q2 : ∀ o, (w4.alloc o).cell? ⟨g0, 2, none⟩ = some (.string s) := fun o => (hKr.alloc o).cell 2
      have q3 : ∀ o, (w4.alloc o).cell? ⟨g0, 3, none⟩ = some (.int .u64 x0) := fun o => (hKr.alloc o).cell 3
      have q4 : ∀ o, (w4.alloc o).cell? ⟨g0, 4, none⟩ = some (.int .u64 x1) := fun o => (hKr.alloc o).cell 4
      have q5 : ∀ o, (w4.alloc o).cell? ⟨g0, 5, none⟩ = some (.int .u64 x2) := fun o => (hKr.alloc o).cell 5
      have q6 : ∀ o, (w4.alloc o).cell? ⟨g0, 6, none⟩ = some (.int .u64 x3) := fun o => (hKr.alloc o).cell 6
      have hs1 := hb.size
      go_wp2_with fail
      refine (same_c _ _ l l _ (hV4.alloc _) (hBr.alloc _) (by have := HLL.out; omega) (by have := HLL.out; omega)).mono ?_
      rintro e w8 ⟨rfl, hb8⟩
      rw [sameI_self]
      go_wp2_with fail
      refine (awake_c _).mono ?_
      rintro e w9 ⟨rfl, hb9⟩
      go_wp2_with fail
      go_ret
      exact ⟨rfl, (hb.alloc hs1 _).trans ((hb8.mono (by simp; omega)).trans (hb9.mono (by have := hb8.size; simp at this; omega)))⟩
end Go.Proofs.Ytohmlmbolilbbaa
