/- Contracts of package bitset and of its reference, one number at a time: inRange, bit, Has, With, Without. No conditions. -/
import Derived.Test.YtbkejoheefnmiaaRows
import Derived.WalkKit
import Derived.WalkSpells
import Derived.WalkLawsBesides
import Derived.Deep.QuietTactic
import Derived.BigQuiet
import Derived.Deep.RegionWith
import Derived.Laws.BitsAllLaws
import Derived.Lib.Hide
import Derived.WalkSmall
namespace Go.Proofs.Ytbkejoheefnmiaa
open Go.RowKit
/-- the bit of a number, as the walk leaves it -/
def bitI (n : Int) : Int := IntKind.u64.wrap (2 ^ (n % 64).toNat)
/-- the word that a number's bit is in -/
def wordI (x0 x1 x2 x3 n : Int) : Int := if n < 64 then x0 else if n < 128 then x1 else if n < 192 then x2 else x3
def hasB (x0 x1 x2 x3 n : Int) : Bool := decide (0 ≤ n) && (decide (n < 256) && (bits .and .u64 (wordI x0 x1 x2 x3 n) (bitI n) != 0))
/-- what With makes of word q, and what Without makes of it -/
def withI (n q x : Int) : Int := if 64 * q ≤ n ∧ n < 64 * q + 64 then bits .or .u64 x (bitI n) else x
def lessI (n q x : Int) : Int := if 64 * q ≤ n ∧ n < 64 * q + 64 then bits .andNot .u64 x (bitI n) else x
theorem withI_in {n q x : Int} (h : 64 * q ≤ n) (h' : n < 64 * q + 64) : withI n q x = bits .or .u64 x (bitI n) := if_pos ⟨h, h'⟩
theorem withI_out {n q x : Int} (h : n < 64 * q ∨ 64 * q + 64 ≤ n) : withI n q x = x := if_neg (by omega)
theorem lessI_in {n q x : Int} (h : 64 * q ≤ n) (h' : n < 64 * q + 64) : lessI n q x = bits .andNot .u64 x (bitI n) := if_pos ⟨h, h'⟩
theorem lessI_out {n q x : Int} (h : n < 64 * q ∨ 64 * q + 64 ≤ n) : lessI n q x = x := if_neg (by omega)
theorem word0 {x0 x1 x2 x3 n : Int} (h : n < 64) : wordI x0 x1 x2 x3 n = x0 := if_pos h
theorem word1 {x0 x1 x2 x3 n : Int} (h : 64 ≤ n) (h' : n < 128) : wordI x0 x1 x2 x3 n = x1 := by unfold wordI; rw [if_neg (by omega), if_pos h']
theorem word2 {x0 x1 x2 x3 n : Int} (h : 128 ≤ n) (h' : n < 192) : wordI x0 x1 x2 x3 n = x2 := by unfold wordI; rw [if_neg (by omega), if_neg (by omega), if_pos h']
theorem word3 {x0 x1 x2 x3 n : Int} (h : 192 ≤ n) : wordI x0 x1 x2 x3 n = x3 := by unfold wordI; rw [if_neg (by omega), if_neg (by omega), if_neg (by omega)]
theorem split4 (x0 x1 x2 x3 n : Int) (h0 : 0 ≤ n) (h1 : n < 256) :
    (0 ≤ n ∧ n < 64 ∧ IntKind.i64.wrap (n.tdiv 64) = 0 ∧ wordI x0 x1 x2 x3 n = x0) ∨ (64 ≤ n ∧ n < 128 ∧ IntKind.i64.wrap (n.tdiv 64) = 1 ∧ wordI x0 x1 x2 x3 n = x1) ∨
      (128 ≤ n ∧ n < 192 ∧ IntKind.i64.wrap (n.tdiv 64) = 2 ∧ wordI x0 x1 x2 x3 n = x2) ∨ (192 ≤ n ∧ n < 256 ∧ IntKind.i64.wrap (n.tdiv 64) = 3 ∧ wordI x0 x1 x2 x3 n = x3) := by
  have hn : (0 ≤ n ∧ n < 64) ∨ (64 ≤ n ∧ n < 128) ∨ (128 ≤ n ∧ n < 192) ∨ (192 ≤ n ∧ n < 256) := by omega
  rw [Int.tdiv_eq_ediv_of_nonneg h0, IntWalk.i64_in _ (by omega)]
  rcases hn with ⟨l, u⟩ | ⟨l, u⟩ | ⟨l, u⟩ | ⟨l, u⟩
  · exact .inl ⟨l, u, by omega, word0 u⟩
  · exact .inr (.inl ⟨l, u, by omega, word1 l u⟩)
  · exact .inr (.inr (.inl ⟨l, u, by omega, word2 l u⟩))
  · exact .inr (.inr (.inr ⟨l, u, by omega, word3 l⟩))
theorem ret_bool {a b : Bool} (h : a = b) : Ending.returned (.bool a) = .returned (.bool b) := by rw [h]

theorem inr_yes (n : Int) (w : World) (h0 : 0 ≤ n) (h1 : n < 256) :
    Calls Try.prog 59 #[.int .i64 n] w fun e w' => e = .returned (.bool true) ∧ w' = w := by
  go_enter Try.func59, Try.ntmps59
  go_wp2
  go_ret
  exact ⟨rfl, rfl⟩
theorem inr_no (n : Int) (w : World) (h : n < 0 ∨ 256 ≤ n) :
    Calls Try.prog 59 #[.int .i64 n] w fun e w' => e = .returned (.bool false) ∧ w' = w := by
  rcases h with h | h
  · go_enter Try.func59, Try.ntmps59
    go_wp2
    go_ret
    exact ⟨rfl, rfl⟩
  · have h2 : 0 ≤ n := by omega
    have h3 : decide (n < 256) = false := by simp; omega
    go_enter Try.func59, Try.ntmps59
    go_wp2
    go_ret
    exact ⟨rfl, rfl⟩
theorem bit_c (n : Int) (w : World) (h0 : 0 ≤ n) (_h1 : n < 256) :
    Calls Try.prog 60 #[.int .i64 n] w fun e w' => e = .returned (.int .u64 (bitI n)) ∧ w' = w := by
  go_enter Try.func60, Try.ntmps60
  go_wp2
  go_ret
  exact ⟨rfl, rfl⟩
theorem rbit_c (n : Int) (w : World) (h0 : 0 ≤ n) (_h1 : n < 256) :
    Calls Try.prog 58 #[.int .i64 n] w fun e w' => e = .returned (.int .u64 (bitI n)) ∧ w' = w := by
  go_enter Try.func58, Try.ntmps58
  go_wp2
  go_ret
  exact ⟨rfl, rfl⟩

theorem hasB_in {x0 x1 x2 x3 n : Int} (h0 : 0 ≤ n) (h1 : n < 256) : hasB x0 x1 x2 x3 n = (bits .and .u64 (wordI x0 x1 x2 x3 n) (bitI n) != 0) := by
  unfold hasB
  rw [decide_eq_true h0, decide_eq_true h1]
  rfl
theorem hasB_out {x0 x1 x2 x3 n : Int} (h : n < 0 ∨ 256 ≤ n) : hasB x0 x1 x2 x3 n = false := by
  unfold hasB
  rcases h with h | h
  · rw [decide_eq_false (by omega)]; rfl
  · rw [decide_eq_false (p := n < 256) (by omega)]; simp
set_option maxHeartbeats 1000000 in
theorem has_c (x0 x1 x2 x3 n : Int) (w : World) :
    Calls Try.prog 57 #[.agg #[.int .u64 x0, .int .u64 x1, .int .u64 x2, .int .u64 x3], .int .i64 n] w fun e w' => e = .returned (.bool (hasB x0 x1 x2 x3 n)) ∧ Below w.heap.size w w' := by
  by_cases h : n < 0 ∨ 256 ≤ n
  · rw [hasB_out h]
    go_enter Try.func57, Try.ntmps57
    go_wp2_with fail
    go_quiet ((go_at_call 59; exact Calls.quiet_of_same (inr_no _ _ h)))
    go_wp2
    go_ret
    exact ⟨rfl, below_drewN ((Below.refl _ _).alloc (Nat.le_refl _) _) _⟩
  · have h0 : 0 ≤ n := by omega
    have h1 : n < 256 := by omega
    clear h
    rw [hasB_in h0 h1]
    rcases split4 x0 x1 x2 x3 n h0 h1 with ⟨l, u, hq, hx⟩ | ⟨l, u, hq, hx⟩ | ⟨l, u, hq, hx⟩ | ⟨l, u, hq, hx⟩ <;> rw [hx] <;> clear hx
    all_goals
      go_enter Try.func57, Try.ntmps57
      go_wp2_with fail
      go_quiet ((first | (go_at_call 59; exact Calls.quiet_of_same (inr_yes _ _ h0 h1)) | (go_at_call 60; exact Calls.quiet_of_same (bit_c _ _ h0 h1))))
      go_wp2
      go_ret
      exact ⟨rfl, below_drewN ((Below.refl _ _).alloc (Nat.le_refl _) _) _⟩
set_option maxHeartbeats 1000000 in
theorem rhas_c (x0 x1 x2 x3 n : Int) (w : World) :
    Calls Try.prog 45 #[.agg #[.int .u64 x0, .int .u64 x1, .int .u64 x2, .int .u64 x3], .int .i64 n] w fun e w' => e = .returned (.bool (hasB x0 x1 x2 x3 n)) ∧ Below w.heap.size w w' := by
  by_cases h : n < 0 ∨ 256 ≤ n
  · rw [hasB_out h]
    have h' : decide (0 ≤ n) = false ∨ (0 ≤ n ∧ decide (n < 256) = false) := by
      rcases h with h | h
      · exact .inl (decide_eq_false (by omega))
      · exact .inr ⟨by omega, decide_eq_false (by omega)⟩
    clear h
    rcases h' with d0 | ⟨d1, d0⟩
    all_goals
      go_enter Try.func45, Try.ntmps45
      go_wp2_with fail
      go_quiet (fail)
      go_wp2
      go_ret
      exact ⟨rfl, below_drewN ((Below.refl _ _).alloc (Nat.le_refl _) _) _⟩
  · have h0 : 0 ≤ n := by omega
    have h1 : n < 256 := by omega
    clear h
    rw [hasB_in h0 h1]
    rcases split4 x0 x1 x2 x3 n h0 h1 with ⟨l, u, hq, hx⟩ | ⟨l, u, hq, hx⟩ | ⟨l, u, hq, hx⟩ | ⟨l, u, hq, hx⟩ <;> rw [hx] <;> clear hx
    all_goals
      go_enter Try.func45, Try.ntmps45
      go_wp2_with fail
      go_quiet ((go_at_call 58; exact Calls.quiet_of_same (rbit_c _ _ h0 h1)))
      go_wp2
      go_ret
      exact ⟨rfl, below_drewN ((Below.refl _ _).alloc (Nat.le_refl _) _) _⟩
end Go.Proofs.Ytbkejoheefnmiaa
