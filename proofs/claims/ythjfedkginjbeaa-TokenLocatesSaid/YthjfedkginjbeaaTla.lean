/- The laws TokenLocates, TokenWords, TokenChecks, walked. -/
import Derived.Test.YthjfedkginjbeaaTuh
import Derived.Test.YthjfedkginjbeaaTso
namespace Go.Proofs.Ythjfedkginjbeaa
open Go.RowKit
/-- what both sides' Locate give -/
theorem loc_both (s : ByteArray) (i : Int) (hm : s.size ≤ 65536) : ∃ a b : Int,
    (∀ w, Calls Try.prog 28 #[.string s, .int .i64 i] w fun e w' => e = .returned (.agg #[.int .i64 a, .int .i64 b]) ∧ Below w.heap.size w w') ∧
    (∀ w, Calls Try.prog 29 #[.string s, .int .i64 i] w fun e w' => e = .returned (.agg #[.int .i64 a, .int .i64 b]) ∧ Below w.heap.size w w') := by
  by_cases h : i < 0 ∨ (s.size : Int) < i
  · exact ⟨0, 0, fun w => loc_out s i w h, fun w => rloc_out s i w h⟩
  · obtain ⟨n, rfl⟩ : ∃ n : Nat, i = n := ⟨i.toNat, by omega⟩
    exact ⟨_, _, fun w => loc_in s n w (by omega) hm, fun w => rloc_in s n w (by omega) hm⟩
set_option maxRecDepth 100000 in
set_option maxHeartbeats 2000000 in
theorem locates_c (s : ByteArray) (i : Int) (w : World) (hs : s.size ≤ 9223372036854775807) :
    Calls Try.prog 8 #[.string s, .int .i64 i] w fun e w' => e = .returned (.bool true) ∧ Below w.heap.size w w' := by
  by_cases h : (3000 : Int) < (s.size : Int)
  · go_enter Try.func8, Try.ntmps8
    go_wp2_with (go_at_call 13; refine (awake_c _).mono ?_; rintro e w2 ⟨rfl, hb2⟩)
    go_ret
    exact ⟨rfl, hb2⟩
  · obtain ⟨a, b, hA, hB⟩ := loc_both s i (by omega)
    go_enter Try.func8, Try.ntmps8
    go_wp2_with (first
      | (go_at_call 28; refine (hA _).mono ?_; rintro e w2 ⟨rfl, hb2⟩)
      | (go_at_call 29; refine (hB _).mono ?_; rintro e w3 ⟨rfl, hb3⟩)
      | (go_at_call 13; refine (awake_c _).mono ?_; rintro e w4 ⟨rfl, hb4⟩))
    go_ret
    exact ⟨rfl, (hb2.trans (hb3.mono hb2.size)).trans (hb4.mono (Nat.le_trans hb2.size hb3.size))⟩
set_option maxRecDepth 100000 in
set_option maxHeartbeats 2000000 in
theorem words_c (s : ByteArray) (w : World) (hs : s.size ≤ 9223372036854775807) :
    Calls Try.prog 4 #[.string s] w fun e w' => e = .returned (.bool true) ∧ Below w.heap.size w w' := by
  by_cases h : (3000 : Int) < (s.size : Int)
  · go_enter Try.func4, Try.ntmps4
    go_wp2_with (go_at_call 13; refine (awake_c _).mono ?_; rintro e w2 ⟨rfl, hb2⟩)
    go_ret
    exact ⟨rfl, hb2⟩
  · have hz : s.size ≤ 1000000000000 := by omega
    have hI := fun w => identifier_c s w hz
    have hJ := fun w => rIdent_c s w hz
    have hx : (isKw s && identB s) = false := by unfold identB; cases isKw s <;> cases nameB s <;> rfl
    obtain ⟨A, hA⟩ : ∃ A, isKw s = A := ⟨_, rfl⟩
    obtain ⟨B, hB⟩ : ∃ B, identB s = B := ⟨_, rfl⟩
    rw [hA, hB] at hx
    rw [hB] at hI hJ
    have hK := fun w => kw_c s w
    have hL := fun w => rkw_c s w
    rw [hA] at hK hL
    have HK := Lib.hid hK
    have HI := Lib.hid hI
    have HJ := Lib.hid hJ
    have HL := Lib.hid hL
    clear hA hB hI hJ hK hL
    cases A
    · go_enter Try.func4, Try.ntmps4
      go_wp2_with (first
        | (go_at_call 17; refine (HK.out _).mono ?_; rintro e w2 ⟨rfl, rfl⟩)
        | (go_at_call 18; refine (HL.out _).mono ?_; rintro e w3 ⟨rfl, rfl⟩)
        | (go_at_call 19; refine (HI.out _).mono ?_; rintro e w4 ⟨rfl, hb4⟩)
        | (go_at_call 20; refine (HJ.out _).mono ?_; rintro e w5 ⟨rfl, rfl⟩)
        | (go_at_call 13; refine (awake_c _).mono ?_; rintro e w6 ⟨rfl, hb6⟩))
      go_ret
      exact ⟨rfl, hb4.trans (hb6.mono hb4.size)⟩
    · obtain rfl : B = false := by simpa using hx
      have hb := Below.refl w.heap.size w
      go_enter Try.func4, Try.ntmps4
      go_wp2_with (first
        | (go_at_call 17; refine (HK.out _).mono ?_; rintro e w2 ⟨rfl, rfl⟩)
        | (go_at_call 18; refine (HL.out _).mono ?_; rintro e w3 ⟨rfl, rfl⟩)
        | (go_at_call 19; refine (HI.out _).mono ?_; rintro e w4 ⟨rfl, hq⟩; replace hb := hb.trans (hq.mono hb.size); clear hq)
        | (go_at_call 20; refine (HJ.out _).mono ?_; rintro e w5 ⟨rfl, rfl⟩)
        | (go_at_call 13; refine (awake_c _).mono ?_; rintro e w6 ⟨rfl, hq⟩; replace hb := hb.trans (hq.mono hb.size); clear hq))
      go_ret
      exact ⟨rfl, hb⟩
set_option maxRecDepth 100000 in
set_option maxHeartbeats 2000000 in
theorem checks_c (k : Int) (t : ByteArray) (l c : Int) (w : World) (hs : t.size ≤ 9223372036854775807) :
    Calls Try.prog 5 #[.agg #[.int .i64 k, .string t, .int .i64 l, .int .i64 c]] w fun e w' => e = .returned (.bool true) ∧ Below w.heap.size w w' := by
  by_cases h : (3000 : Int) < (t.size : Int)
  · go_enter Try.func5, Try.ntmps5
    go_wp2_with (go_at_call 13; refine (awake_c _).mono ?_; rintro e w2 ⟨rfl, hb2⟩)
    go_ret
    exact ⟨rfl, ((Below.refl _ _).alloc (Nat.le_refl _) _).trans (hb2.mono (by simp))⟩
  · have hz : t.size ≤ 1000000000000 := by omega
    have hC := fun w => check_c k t l c w hz
    have hR := fun w => rCheck_c k t l c w hz
    rw [chk_ref] at hC
    obtain ⟨A, hA⟩ : ∃ A, refB k t = A := ⟨_, rfl⟩
    rw [hA] at hC hR
    have HC := Lib.hid hC
    have HR := Lib.hid hR
    clear hA hC hR
    go_enter Try.func5, Try.ntmps5
    go_wp2
    have T0 : Blk (w.alloc (.cells #[.int .i64 k, .string t, .int .i64 l, .int .i64 c] 34)) w.heap.size 34 #[.int .i64 k, .string t, .int .i64 l, .int .i64 c] := Blk.new w _ _
    have hB : Below w.heap.size w (w.alloc (.cells #[.int .i64 k, .string t, .int .i64 l, .int .i64 c] 34)) := (Below.refl _ _).alloc (Nat.le_refl _) _
    generalize (w.alloc (.cells #[.int .i64 k, .string t, .int .i64 l, .int .i64 c] 34)) = W at *
    refine wp_region_kp (by kernel_rfl) (by kernel_rfl) ?_
    repeat (first
      | go_big_quiet_skip
      | (go_big_quiet_want
         go_big_quiet_op
         first
           | go_big_quiet_on
           | (apply Exists.intro
              refine ⟨fun w1 hC => ?_, ?_⟩
              · first
                  | (go_at_call 21; with_reducible exact hC.call (HC.out _))
                  | (go_at_call 22; with_reducible exact hC.call (HR.out _))
                  | (go_at_call 13; with_reducible exact hC.call (awake_c _))
                  | (obtain ⟨p0, p1, p2, p3, _⟩ := cells4 (hC.blk T0); go_simp; exact rfl)
              go_big_quiet_on)))
    refine wpQuiet_nil ?_
    intro W' hC
    go_wp2
    go_ret
    exact ⟨rfl, hC.onto hB hB.size⟩
end Go.Proofs.Ythjfedkginjbeaa
