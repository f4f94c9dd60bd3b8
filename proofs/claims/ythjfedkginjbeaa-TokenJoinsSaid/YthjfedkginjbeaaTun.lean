/- The reference's Equal; the law TokenScans, walked. -/
import Derived.Test.YthjfedkginjbeaaTum
namespace Go.Proofs.Ythjfedkginjbeaa
open Go.RowKit
set_option maxRecDepth 100000 in
set_option maxHeartbeats 4000000 in
/-- Equal of two lists with the same tokens -/
theorem rEqual_c (v v2 : Value) (m : List TI) (w : World) (hn : m.length ≤ 1000000000000) (hT : Toks w v m) (hM : Toks w v2 m) :
    Calls Try.prog 16 #[v, v2] w fun e w' => e = .returned (.bool true) ∧ Below w.heap.size w w' := by
  obtain ⟨ao, cap, rfl, hcap, hT⟩ := hT
  obtain ⟨ao2, cap2, rfl, hcap2, hM⟩ := hM
  go_enter Try.func16, Try.ntmps16
  go_wp2_with fail
  go_loopw [5] (fun vi wr => ∃ i : Nat, i ≤ m.length ∧ vi = .int .i64 i ∧ Below w.heap.size w wr)
    (fun vi _ => m.length - (intOf vi).toNat)
  case atStart => exact ⟨0, Nat.zero_le _, rfl, Below.refl _ _⟩
  case round =>
    obtain ⟨i, hi, rfl, hb9⟩ := hrel
    by_cases hlt : i < m.length
    · obtain ⟨g, o, rfl, hRow⟩ := hT (by rintro rfl; simp at hlt)
      obtain ⟨g2, o2, rfl, hRow2⟩ := hM (by rintro rfl; simp at hlt)
      have hlg := hRow.lt (by rintro rfl; simp at hlt)
      have hlg2 := hRow2.lt (by rintro rfl; simp at hlt)
      have hlt' : (i : Int) < (m.length : Int) := by omega
      have hQ1 : ∀ w1, Kp wr w1 → w1.cell? ⟨g, o + i * 4, none⟩ = some (.int .i64 m[i].kind) ∧ w1.cell? ⟨g, o + i * 4 + 1, none⟩ = some (.string m[i].text) ∧ w1.cell? ⟨g, o + i * 4 + 2, none⟩ = some (.int .i64 m[i].line) ∧ w1.cell? ⟨g, o + i * 4 + 3, none⟩ = some (.int .i64 m[i].col) := by
        intro w1 hC
        have hz := hb9.size
        exact ((hRow.keep (hb9.block g hlg)).keep (Below.block hC g (by omega))).at hlt
      have hQ2 : ∀ w1, Kp wr w1 → w1.cell? ⟨g2, o2 + i * 4, none⟩ = some (.int .i64 m[i].kind) ∧ w1.cell? ⟨g2, o2 + i * 4 + 1, none⟩ = some (.string m[i].text) ∧ w1.cell? ⟨g2, o2 + i * 4 + 2, none⟩ = some (.int .i64 m[i].line) ∧ w1.cell? ⟨g2, o2 + i * 4 + 3, none⟩ = some (.int .i64 m[i].col) := by
        intro w1 hC
        have hz := hb9.size
        exact ((hRow2.keep (hb9.block g2 hlg2)).keep (Below.block hC g2 (by omega))).at hlt
      obtain ⟨⟨K, X, L, C⟩, htk⟩ : ∃ t, m[i] = t := ⟨_, rfl⟩
      rw [htk] at hQ1 hQ2
      simp only at hQ1 hQ2
      have HQ1 := Lib.hid hQ1
      have HQ2 := Lib.hid hQ2
      clear hRow hRow2 hT hM hQ1 hQ2 htk
      go_wp2
      refine wp_region_kp (by kernel_rfl) (by kernel_rfl) ?_
      repeat (first
        | go_big_quiet_skip
        | (go_big_quiet_want
           go_big_quiet_op
           first
             | go_big_quiet_on
             | (apply Exists.intro
                refine ⟨fun w1 hC => ?_, ?_⟩
                · obtain ⟨p0, p1, p2, p3⟩ := HQ1.out _ hC
                  obtain ⟨q0, q1', q2, q3⟩ := HQ2.out _ hC
                  go_simp; exact rfl
                go_big_quiet_on)))
      refine wpQuiet_nil ?_
      intro W' hC
      go_wp2
      exact ⟨⟨i + 1, hlt, by simp, hb9.trans (Below.mono hC hb9.size)⟩, by simp [intOf]; omega⟩
    · obtain rfl : i = m.length := by omega
      go_wp2
      go_ret
      exact ⟨rfl, hb9⟩
theorem scF_len (s : ByteArray) : ∀ n i l, (scF s n i l).2.length ≤ l.length + n
  | 0, _, _ => by simp [scF]
  | n + 1, i, l => by
    simp only [scF]
    split
    · simp
    · split
      · simp
      · have := scF_len s n (oneE s (sk s i)) (l ++ [tkAt s (sk s i)])
        simp at this ⊢
        omega
theorem faultV_is (s : ByteArray) (o : Option (Int × Nat)) : ∃ a b c : Int, faultV s o = .agg #[.int .i64 a, .int .i64 b, .int .i64 c, .string ⟨#[]⟩] := by
  cases o with
  | none => exact ⟨0, 0, 0, rfl⟩
  | some p => exact ⟨_, _, _, rfl⟩
theorem rscan_long (s : ByteArray) (w : World) (hm : 65536 < s.size) :
    Calls Try.prog 15 #[.string s] w fun e w' => e = .returned (.tuple #[.slice none 0 0, .agg #[.int .i64 4, .int .i64 0, .int .i64 0, .string ⟨#[]⟩]]) ∧ Below w.heap.size w w' := by
  have hz : 65536 < (s.size : Int) := by omega
  go_enter Try.func15, Try.ntmps15
  go_wp2_with fail
  have F : Blk (w.alloc (.cells #[.int .i64 4, .int .i64 0, .int .i64 0, .string { data := #[] }] 28)) w.heap.size _ _ := Blk.new w _ _
  exact bodyPost_ret (mix_ret Try.results15 rfl rfl F) rfl ⟨rfl, (Below.refl _ _).alloc (Nat.le_refl _) _⟩
/-- what both sides' Scan give -/
theorem scan_both (s : ByteArray) (hm : s.size ≤ 65536 ∨ 65536 < s.size) : ∃ (a b c : Int) (l : List TI), l.length ≤ 1000000 ∧
    (∀ w, Calls Try.prog 14 #[.string s] w fun e w' => ∃ v, e = .returned (.tuple #[v, .agg #[.int .i64 a, .int .i64 b, .int .i64 c, .string ⟨#[]⟩]]) ∧ Toks w' v l ∧ Below w.heap.size w w') ∧
    (∀ w, Calls Try.prog 15 #[.string s] w fun e w' => ∃ v, e = .returned (.tuple #[v, .agg #[.int .i64 a, .int .i64 b, .int .i64 c, .string ⟨#[]⟩]]) ∧ Toks w' v l ∧ Below w.heap.size w w') := by
  rcases hm with hm | hm
  · obtain ⟨a, b, c, hf⟩ := faultV_is s (scF s (s.size + 1) 0 []).1
    refine ⟨a, b, c, (scF s (s.size + 1) 0 []).2.map Tk.toI, ?_, fun w => ?_, fun w => ?_⟩
    · have := scF_len s (s.size + 1) 0 []
      simp at this ⊢
      omega
    · refine (scan_c s w hm).mono ?_
      rintro e w' ⟨v, ho, rfl, hb⟩
      exact ⟨v, by rw [hf], ho.toks, hb⟩
    · refine (rScan_c s w hm).mono ?_
      rintro e w' ⟨v, ho, rfl, hb⟩
      exact ⟨v, by rw [hf], ho.toks, hb⟩
  · have hT : ∀ w, Toks w (.slice none 0 0) [] := fun w => ⟨none, 0, rfl, Nat.le_refl _, fun h => absurd rfl h⟩
    refine ⟨4, 0, 0, [], Nat.zero_le _, fun w => ?_, fun w => ?_⟩
    · refine (scan_long s w hm).mono ?_
      rintro e w' ⟨rfl, hb⟩
      exact ⟨_, rfl, hT _, hb⟩
    · refine (rscan_long s w hm).mono ?_
      rintro e w' ⟨rfl, hb⟩
      exact ⟨_, rfl, hT _, hb⟩
set_option maxRecDepth 100000 in
set_option maxHeartbeats 4000000 in
theorem lscans_c (s : ByteArray) (w : World) (hs : s.size ≤ 9223372036854775807) :
    Calls Try.prog 3 #[.string s] w fun e w' => e = .returned (.bool true) ∧ Below w.heap.size w w' := by
  by_cases hmid : 3000 < s.size ∧ s.size ≤ 65536
  · have h1 : (3000 : Int) < (s.size : Int) := by omega
    have h2 : (s.size : Int) ≤ 65536 := by omega
    go_enter Try.func3, Try.ntmps3
    go_wp2_with (go_at_call 13; refine (awake_c _).mono ?_; rintro e w2 ⟨rfl, hb2⟩)
    go_ret
    exact ⟨rfl, hb2⟩
  · obtain ⟨a, b, c, l, hl, hA, hB⟩ := scan_both s (by omega)
    have HA := Lib.hid hA
    have HB := Lib.hid hB
    clear hA hB
    by_cases h1 : (3000 : Int) < (s.size : Int)
    · have h2 : ¬ (s.size : Int) ≤ 65536 := by omega
      clear hmid
      go_enter Try.func3, Try.ntmps3
      go_wp2_with fail
      refine (HA.out _).mono ?_
      rintro e w2 ⟨v, rfl, hT2, hb2⟩
      have HT2 := Lib.hid hT2
      clear hT2
      go_wp2_with fail
      have F2 : Blk (w2.alloc (.cells #[.int .i64 a, .int .i64 b, .int .i64 c, .string ⟨#[]⟩] 28)) w2.heap.size 28 #[.int .i64 a, .int .i64 b, .int .i64 c, .string ⟨#[]⟩] := Blk.new w2 _ _
      have T3 : Toks (w2.alloc (.cells #[.int .i64 a, .int .i64 b, .int .i64 c, .string ⟨#[]⟩] 28)) v l := HT2.out.keep ((Below.refl _ _).alloc (Nat.le_refl _) _)
      have hb3 := hb2.alloc hb2.size (.cells #[.int .i64 a, .int .i64 b, .int .i64 c, .string ⟨#[]⟩] 28)
      refine (HB.out _).mono ?_
      rintro e w3 ⟨v2, rfl, hT4, hb4⟩
      have F3 := F2.keep hb4
      have T5 := T3.keep hb4
      have hb5 := hb3.trans (hb4.mono hb3.size)
      have T6 : Hid (Toks (w3.alloc (.cells #[.int .i64 a, .int .i64 b, .int .i64 c, .string ⟨#[]⟩] 28)) v l) := Lib.hid (T5.keep ((Below.refl _ _).alloc (Nat.le_refl _) _))
      have T7 : Hid (Toks (w3.alloc (.cells #[.int .i64 a, .int .i64 b, .int .i64 c, .string ⟨#[]⟩] 28)) v2 l) := Lib.hid (hT4.keep ((Below.refl _ _).alloc (Nat.le_refl _) _))
      have F6 := F3.alloc (.cells #[.int .i64 a, .int .i64 b, .int .i64 c, .string ⟨#[]⟩] 28)
      have G6 : Blk (w3.alloc (.cells #[.int .i64 a, .int .i64 b, .int .i64 c, .string ⟨#[]⟩] 28)) w3.heap.size 28 #[.int .i64 a, .int .i64 b, .int .i64 c, .string ⟨#[]⟩] := Blk.new w3 _ _
      have hb6 := hb5.alloc hb5.size (.cells #[.int .i64 a, .int .i64 b, .int .i64 c, .string ⟨#[]⟩] 28)
      clear T3 T5 hT4 HT2 F2 F3 hb2 hb3 hb4 hb5
      go_wp2_with fail
      refine (rEqual_c v v2 l _ (by omega) T6.out T7.out).mono ?_
      rintro e w4 ⟨rfl, hb7⟩
      have F8 := F6.keep hb7
      have G8 := G6.keep hb7
      have hb8 := hb6.trans (hb7.mono hb6.size)
      clear F6 G6 T6 T7 hb6 hb7
      obtain ⟨t0, t1, t2, t3, _⟩ := cells4 F8
      obtain ⟨s0, s1, s2, s3, _⟩ := cells4 G8
      go_wp2_with (go_at_call 13; refine (awake_c _).mono ?_; rintro e w5 ⟨rfl, hq⟩; replace hb8 := hb8.trans (hq.mono hb8.size); clear hq)
      go_ret
      exact ⟨rfl, hb8⟩
    · clear hmid
      go_enter Try.func3, Try.ntmps3
      go_wp2_with fail
      refine (HA.out _).mono ?_
      rintro e w2 ⟨v, rfl, hT2, hb2⟩
      have HT2 := Lib.hid hT2
      clear hT2
      go_wp2_with fail
      have F2 : Blk (w2.alloc (.cells #[.int .i64 a, .int .i64 b, .int .i64 c, .string ⟨#[]⟩] 28)) w2.heap.size 28 #[.int .i64 a, .int .i64 b, .int .i64 c, .string ⟨#[]⟩] := Blk.new w2 _ _
      have T3 : Toks (w2.alloc (.cells #[.int .i64 a, .int .i64 b, .int .i64 c, .string ⟨#[]⟩] 28)) v l := HT2.out.keep ((Below.refl _ _).alloc (Nat.le_refl _) _)
      have hb3 := hb2.alloc hb2.size (.cells #[.int .i64 a, .int .i64 b, .int .i64 c, .string ⟨#[]⟩] 28)
      refine (HB.out _).mono ?_
      rintro e w3 ⟨v2, rfl, hT4, hb4⟩
      have F3 := F2.keep hb4
      have T5 := T3.keep hb4
      have hb5 := hb3.trans (hb4.mono hb3.size)
      have T6 : Hid (Toks (w3.alloc (.cells #[.int .i64 a, .int .i64 b, .int .i64 c, .string ⟨#[]⟩] 28)) v l) := Lib.hid (T5.keep ((Below.refl _ _).alloc (Nat.le_refl _) _))
      have T7 : Hid (Toks (w3.alloc (.cells #[.int .i64 a, .int .i64 b, .int .i64 c, .string ⟨#[]⟩] 28)) v2 l) := Lib.hid (hT4.keep ((Below.refl _ _).alloc (Nat.le_refl _) _))
      have F6 := F3.alloc (.cells #[.int .i64 a, .int .i64 b, .int .i64 c, .string ⟨#[]⟩] 28)
      have G6 : Blk (w3.alloc (.cells #[.int .i64 a, .int .i64 b, .int .i64 c, .string ⟨#[]⟩] 28)) w3.heap.size 28 #[.int .i64 a, .int .i64 b, .int .i64 c, .string ⟨#[]⟩] := Blk.new w3 _ _
      have hb6 := hb5.alloc hb5.size (.cells #[.int .i64 a, .int .i64 b, .int .i64 c, .string ⟨#[]⟩] 28)
      clear T3 T5 hT4 HT2 F2 F3 hb2 hb3 hb4 hb5
      go_wp2_with fail
      refine (rEqual_c v v2 l _ (by omega) T6.out T7.out).mono ?_
      rintro e w4 ⟨rfl, hb7⟩
      have F8 := F6.keep hb7
      have G8 := G6.keep hb7
      have hb8 := hb6.trans (hb7.mono hb6.size)
      clear F6 G6 T6 T7 hb6 hb7
      obtain ⟨t0, t1, t2, t3, _⟩ := cells4 F8
      obtain ⟨s0, s1, s2, s3, _⟩ := cells4 G8
      go_wp2_with (go_at_call 13; refine (awake_c _).mono ?_; rintro e w5 ⟨rfl, hq⟩; replace hb8 := hb8.trans (hq.mono hb8.size); clear hq)
      go_ret
      exact ⟨rfl, hb8⟩
end Go.Proofs.Ythjfedkginjbeaa
