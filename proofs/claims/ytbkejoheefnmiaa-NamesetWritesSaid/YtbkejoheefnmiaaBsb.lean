/- Contracts of With and Without of package bitset and of its reference. No conditions. -/
import Derived.Test.YtbkejoheefnmiaaBsa
namespace Go.Proofs.Ytbkejoheefnmiaa
open Go.RowKit

set_option maxHeartbeats 2000000 in
theorem with_c (x0 x1 x2 x3 n : Int) (w : World) :
    Calls Try.prog 48 #[.agg #[.int .u64 x0, .int .u64 x1, .int .u64 x2, .int .u64 x3], .int .i64 n] w fun e w' => e = .returned (.agg #[.int .u64 (withI n 0 x0), .int .u64 (withI n 1 x1), .int .u64 (withI n 2 x2), .int .u64 (withI n 3 x3)]) ∧ Below w.heap.size w w' := by
  by_cases h : n < 0 ∨ 256 ≤ n
  · rw [withI_out (q := 0) (by omega), withI_out (q := 1) (by omega), withI_out (q := 2) (by omega), withI_out (q := 3) (by omega)]
    go_enter Try.func48, Try.ntmps48
    go_wp2_with (go_at_call 59; refine (inr_no _ _ h).mono ?_; rintro e w' ⟨rfl, rfl⟩)
    exact bodyPost_ret (v := .agg #[.int .u64 x0, .int .u64 x1, .int .u64 x2, .int .u64 x3]) (by simp [results, Try.results48, go_sem]) rfl ⟨rfl, ((Below.refl _ _).alloc (Nat.le_refl _) _).alloc (by simp) _⟩
  · have h0 : 0 ≤ n := by omega
    have h1 : n < 256 := by omega
    clear h
    rcases split4 x0 x1 x2 x3 n h0 h1 with ⟨l, u, hq, _⟩ | ⟨l, u, hq, _⟩ | ⟨l, u, hq, _⟩ | ⟨l, u, hq, _⟩
    · rw [withI_in (q := 0) (by omega) (by omega), withI_out (q := 1) (by omega), withI_out (q := 2) (by omega), withI_out (q := 3) (by omega)]
      go_enter Try.func48, Try.ntmps48
      go_wp2_with (go_at_call 59; refine (inr_yes _ _ h0 h1).mono ?_; rintro e w' ⟨rfl, rfl⟩)
      go_region_with (go_at_call 60; refine (bit_c _ _ h0 h1).mono ?_; rintro e w' ⟨rfl, rfl⟩)
      all_goals
        go_wp2
        exact bodyPost_ret (v := .agg #[.int .u64 (bits .or .u64 x0 (bitI n)), .int .u64 x1, .int .u64 x2, .int .u64 x3]) (by simp [results, Try.results48, go_sem]) rfl ⟨rfl, (((Below.refl _ _).alloc (Nat.le_refl _) _).alloc (by simp) _).drew⟩
    · rw [withI_out (q := 0) (by omega), withI_in (q := 1) (by omega) (by omega), withI_out (q := 2) (by omega), withI_out (q := 3) (by omega)]
      go_enter Try.func48, Try.ntmps48
      go_wp2_with (go_at_call 59; refine (inr_yes _ _ h0 h1).mono ?_; rintro e w' ⟨rfl, rfl⟩)
      go_region_with (go_at_call 60; refine (bit_c _ _ h0 h1).mono ?_; rintro e w' ⟨rfl, rfl⟩)
      all_goals
        go_wp2
        exact bodyPost_ret (v := .agg #[.int .u64 x0, .int .u64 (bits .or .u64 x1 (bitI n)), .int .u64 x2, .int .u64 x3]) (by simp [results, Try.results48, go_sem]) rfl ⟨rfl, (((Below.refl _ _).alloc (Nat.le_refl _) _).alloc (by simp) _).drew⟩
    · rw [withI_out (q := 0) (by omega), withI_out (q := 1) (by omega), withI_in (q := 2) (by omega) (by omega), withI_out (q := 3) (by omega)]
      go_enter Try.func48, Try.ntmps48
      go_wp2_with (go_at_call 59; refine (inr_yes _ _ h0 h1).mono ?_; rintro e w' ⟨rfl, rfl⟩)
      go_region_with (go_at_call 60; refine (bit_c _ _ h0 h1).mono ?_; rintro e w' ⟨rfl, rfl⟩)
      all_goals
        go_wp2
        exact bodyPost_ret (v := .agg #[.int .u64 x0, .int .u64 x1, .int .u64 (bits .or .u64 x2 (bitI n)), .int .u64 x3]) (by simp [results, Try.results48, go_sem]) rfl ⟨rfl, (((Below.refl _ _).alloc (Nat.le_refl _) _).alloc (by simp) _).drew⟩
    · rw [withI_out (q := 0) (by omega), withI_out (q := 1) (by omega), withI_out (q := 2) (by omega), withI_in (q := 3) (by omega) (by omega)]
      go_enter Try.func48, Try.ntmps48
      go_wp2_with (go_at_call 59; refine (inr_yes _ _ h0 h1).mono ?_; rintro e w' ⟨rfl, rfl⟩)
      go_region_with (go_at_call 60; refine (bit_c _ _ h0 h1).mono ?_; rintro e w' ⟨rfl, rfl⟩)
      all_goals
        go_wp2
        exact bodyPost_ret (v := .agg #[.int .u64 x0, .int .u64 x1, .int .u64 x2, .int .u64 (bits .or .u64 x3 (bitI n))]) (by simp [results, Try.results48, go_sem]) rfl ⟨rfl, (((Below.refl _ _).alloc (Nat.le_refl _) _).alloc (by simp) _).drew⟩

set_option maxHeartbeats 2000000 in
theorem rwith_c (x0 x1 x2 x3 n : Int) (w : World) :
    Calls Try.prog 46 #[.agg #[.int .u64 x0, .int .u64 x1, .int .u64 x2, .int .u64 x3], .int .i64 n] w fun e w' => e = .returned (.agg #[.int .u64 (withI n 0 x0), .int .u64 (withI n 1 x1), .int .u64 (withI n 2 x2), .int .u64 (withI n 3 x3)]) ∧ Below w.heap.size w w' := by
  by_cases h : n < 0 ∨ 256 ≤ n
  · rw [withI_out (q := 0) (by omega), withI_out (q := 1) (by omega), withI_out (q := 2) (by omega), withI_out (q := 3) (by omega)]
    have h' : decide (0 ≤ n) = false ∨ (0 ≤ n ∧ decide (n < 256) = false) := by
      rcases h with h | h
      · exact .inl (decide_eq_false (by omega))
      · exact .inr ⟨by omega, decide_eq_false (by omega)⟩
    clear h
    rcases h' with d0 | ⟨d1, d0⟩
    all_goals
      go_enter Try.func46, Try.ntmps46
      go_wp2
      exact bodyPost_ret (v := .agg #[.int .u64 x0, .int .u64 x1, .int .u64 x2, .int .u64 x3]) (by simp [results, Try.results46, go_sem]) rfl ⟨rfl, ((Below.refl _ _).alloc (Nat.le_refl _) _).alloc (by simp) _⟩
  · have h0 : 0 ≤ n := by omega
    have h1 : n < 256 := by omega
    clear h
    rcases split4 x0 x1 x2 x3 n h0 h1 with ⟨l, u, hq, _⟩ | ⟨l, u, hq, _⟩ | ⟨l, u, hq, _⟩ | ⟨l, u, hq, _⟩
    · rw [withI_in (q := 0) (by omega) (by omega), withI_out (q := 1) (by omega), withI_out (q := 2) (by omega), withI_out (q := 3) (by omega)]
      go_enter Try.func46, Try.ntmps46
      go_wp2_with fail
      go_region_with (go_at_call 58; refine (rbit_c _ _ h0 h1).mono ?_; rintro e w' ⟨rfl, rfl⟩)
      all_goals
        go_wp2
        exact bodyPost_ret (v := .agg #[.int .u64 (bits .or .u64 x0 (bitI n)), .int .u64 x1, .int .u64 x2, .int .u64 x3]) (by simp [results, Try.results46, go_sem]) rfl ⟨rfl, (((Below.refl _ _).alloc (Nat.le_refl _) _).alloc (by simp) _).drew⟩
    · rw [withI_out (q := 0) (by omega), withI_in (q := 1) (by omega) (by omega), withI_out (q := 2) (by omega), withI_out (q := 3) (by omega)]
      go_enter Try.func46, Try.ntmps46
      go_wp2_with fail
      go_region_with (go_at_call 58; refine (rbit_c _ _ h0 h1).mono ?_; rintro e w' ⟨rfl, rfl⟩)
      all_goals
        go_wp2
        exact bodyPost_ret (v := .agg #[.int .u64 x0, .int .u64 (bits .or .u64 x1 (bitI n)), .int .u64 x2, .int .u64 x3]) (by simp [results, Try.results46, go_sem]) rfl ⟨rfl, (((Below.refl _ _).alloc (Nat.le_refl _) _).alloc (by simp) _).drew⟩
    · rw [withI_out (q := 0) (by omega), withI_out (q := 1) (by omega), withI_in (q := 2) (by omega) (by omega), withI_out (q := 3) (by omega)]
      go_enter Try.func46, Try.ntmps46
      go_wp2_with fail
      go_region_with (go_at_call 58; refine (rbit_c _ _ h0 h1).mono ?_; rintro e w' ⟨rfl, rfl⟩)
      all_goals
        go_wp2
        exact bodyPost_ret (v := .agg #[.int .u64 x0, .int .u64 x1, .int .u64 (bits .or .u64 x2 (bitI n)), .int .u64 x3]) (by simp [results, Try.results46, go_sem]) rfl ⟨rfl, (((Below.refl _ _).alloc (Nat.le_refl _) _).alloc (by simp) _).drew⟩
    · rw [withI_out (q := 0) (by omega), withI_out (q := 1) (by omega), withI_out (q := 2) (by omega), withI_in (q := 3) (by omega) (by omega)]
      go_enter Try.func46, Try.ntmps46
      go_wp2_with fail
      go_region_with (go_at_call 58; refine (rbit_c _ _ h0 h1).mono ?_; rintro e w' ⟨rfl, rfl⟩)
      all_goals
        go_wp2
        exact bodyPost_ret (v := .agg #[.int .u64 x0, .int .u64 x1, .int .u64 x2, .int .u64 (bits .or .u64 x3 (bitI n))]) (by simp [results, Try.results46, go_sem]) rfl ⟨rfl, (((Below.refl _ _).alloc (Nat.le_refl _) _).alloc (by simp) _).drew⟩

end Go.Proofs.Ytbkejoheefnmiaa
