/- Package token, its smallest functions: kinds of characters, positions. No conditions but that numbers do not wrap. -/
import Derived.Test.YtffgjamnijhlpaaRows
import Derived.WalkKit
import Derived.WalkSpells
import Derived.WalkLawsBesides
import Derived.Deep.QuietTactic
import Derived.BigQuiet
import Derived.Deep.RegionWith
import Derived.Lib.Hide
import Derived.WalkSmall
namespace Go.Proofs.Ytffgjamnijhlpaa
open Go.RowKit
def chLet (c : Int) : Bool := decide ((97 ≤ c ∧ c ≤ 122) ∨ (65 ≤ c ∧ c ≤ 90) ∨ c = 95)
def chDig (c : Int) : Bool := decide (48 ≤ c ∧ c ≤ 57)
def chPrt (c : Int) : Bool := decide (32 ≤ c ∧ c ≤ 126)
def chBlk (c : Int) : Bool := decide (c = 32 ∨ c = 9 ∨ c = 10)
theorem ret_b {a b : Bool} (h : a = b) : Ending.returned (.bool a) = .returned (.bool b) := by rw [h]
set_option maxHeartbeats 1000000 in
theorem isLetter_c (c : Int) (w : World) : Calls Try.prog 58 #[.int .i32 c] w fun e w' => e = .returned (.bool (chLet c)) ∧ w' = w := by
  by_cases h0 : 97 ≤ c <;> by_cases h1 : c ≤ 122 <;> by_cases h2 : 65 ≤ c <;> by_cases h3 : c ≤ 90 <;> by_cases h4 : c = 95
  all_goals
    first
      | (exfalso; omega)
      | (have e : chLet c = true := decide_eq_true (by omega)
         rw [e]
         clear e
         try (have b4 : (c == 95) = true := by simpa using h4)
         try (have b4 : (c == 95) = false := by simpa using h4)
         clear h4
         go_enter Try.func58, Try.ntmps58
         go_wp2
         go_ret
         exact ⟨rfl, rfl⟩)
      | (have e : chLet c = false := decide_eq_false (by omega)
         rw [e]
         clear e
         try (have b4 : (c == 95) = true := by simpa using h4)
         try (have b4 : (c == 95) = false := by simpa using h4)
         clear h4
         go_enter Try.func58, Try.ntmps58
         go_wp2
         go_ret
         exact ⟨rfl, rfl⟩)
set_option maxHeartbeats 1000000 in
theorem isDigit_c (c : Int) (w : World) : Calls Try.prog 59 #[.int .i32 c] w fun e w' => e = .returned (.bool (chDig c)) ∧ w' = w := by
  by_cases h0 : 48 ≤ c <;> by_cases h1 : c ≤ 57
  all_goals
    first
      | (exfalso; omega)
      | (have e : chDig c = true := decide_eq_true (by omega)
         rw [e]
         clear e

         go_enter Try.func59, Try.ntmps59
         go_wp2
         go_ret
         exact ⟨rfl, rfl⟩)
      | (have e : chDig c = false := decide_eq_false (by omega)
         rw [e]
         clear e

         go_enter Try.func59, Try.ntmps59
         go_wp2
         go_ret
         exact ⟨rfl, rfl⟩)
set_option maxHeartbeats 1000000 in
theorem isPrintable_c (c : Int) (w : World) : Calls Try.prog 61 #[.int .i32 c] w fun e w' => e = .returned (.bool (chPrt c)) ∧ w' = w := by
  by_cases h0 : 32 ≤ c <;> by_cases h1 : c ≤ 126
  all_goals
    first
      | (exfalso; omega)
      | (have e : chPrt c = true := decide_eq_true (by omega)
         rw [e]
         clear e

         go_enter Try.func61, Try.ntmps61
         go_wp2
         go_ret
         exact ⟨rfl, rfl⟩)
      | (have e : chPrt c = false := decide_eq_false (by omega)
         rw [e]
         clear e

         go_enter Try.func61, Try.ntmps61
         go_wp2
         go_ret
         exact ⟨rfl, rfl⟩)
set_option maxHeartbeats 1000000 in
theorem isBlank_c (c : Int) (w : World) : Calls Try.prog 56 #[.int .i32 c] w fun e w' => e = .returned (.bool (chBlk c)) ∧ w' = w := by
  by_cases h0 : c = 32 <;> by_cases h1 : c = 9 <;> by_cases h2 : c = 10
  all_goals
    first
      | (exfalso; omega)
      | (have e : chBlk c = true := decide_eq_true (by omega)
         rw [e]
         clear e
         try (have b0 : (c == 32) = true := by simpa using h0)
         try (have b0 : (c == 32) = false := by simpa using h0)
         clear h0
         try (have b1 : (c == 9) = true := by simpa using h1)
         try (have b1 : (c == 9) = false := by simpa using h1)
         clear h1
         try (have b2 : (c == 10) = true := by simpa using h2)
         try (have b2 : (c == 10) = false := by simpa using h2)
         clear h2
         go_enter Try.func56, Try.ntmps56
         go_wp2
         go_ret
         exact ⟨rfl, rfl⟩)
      | (have e : chBlk c = false := decide_eq_false (by omega)
         rw [e]
         clear e
         try (have b0 : (c == 32) = true := by simpa using h0)
         try (have b0 : (c == 32) = false := by simpa using h0)
         clear h0
         try (have b1 : (c == 9) = true := by simpa using h1)
         try (have b1 : (c == 9) = false := by simpa using h1)
         clear h1
         try (have b2 : (c == 10) = true := by simpa using h2)
         try (have b2 : (c == 10) = false := by simpa using h2)
         clear h2
         go_enter Try.func56, Try.ntmps56
         go_wp2
         go_ret
         exact ⟨rfl, rfl⟩)
set_option maxHeartbeats 1000000 in
theorem rLetter_c (c : Int) (w : World) : Calls Try.prog 51 #[.int .u8 c] w fun e w' => e = .returned (.bool (chLet c)) ∧ w' = w := by
  by_cases h0 : 97 ≤ c <;> by_cases h1 : c ≤ 122 <;> by_cases h2 : 65 ≤ c <;> by_cases h3 : c ≤ 90 <;> by_cases h4 : c = 95
  all_goals
    first
      | (exfalso; omega)
      | (have e : chLet c = true := decide_eq_true (by omega)
         rw [e]
         clear e
         try (have b4 : (c == 95) = true := by simpa using h4)
         try (have b4 : (c == 95) = false := by simpa using h4)
         clear h4
         go_enter Try.func51, Try.ntmps51
         go_wp2
         go_ret
         exact ⟨rfl, rfl⟩)
      | (have e : chLet c = false := decide_eq_false (by omega)
         rw [e]
         clear e
         try (have b4 : (c == 95) = true := by simpa using h4)
         try (have b4 : (c == 95) = false := by simpa using h4)
         clear h4
         go_enter Try.func51, Try.ntmps51
         go_wp2
         go_ret
         exact ⟨rfl, rfl⟩)
set_option maxHeartbeats 1000000 in
theorem rDigit_c (c : Int) (w : World) : Calls Try.prog 52 #[.int .u8 c] w fun e w' => e = .returned (.bool (chDig c)) ∧ w' = w := by
  by_cases h0 : 48 ≤ c <;> by_cases h1 : c ≤ 57
  all_goals
    first
      | (exfalso; omega)
      | (have e : chDig c = true := decide_eq_true (by omega)
         rw [e]
         clear e

         go_enter Try.func52, Try.ntmps52
         go_wp2
         go_ret
         exact ⟨rfl, rfl⟩)
      | (have e : chDig c = false := decide_eq_false (by omega)
         rw [e]
         clear e

         go_enter Try.func52, Try.ntmps52
         go_wp2
         go_ret
         exact ⟨rfl, rfl⟩)
/-- the position behind a byte c -/
def nxL (l c : Int) : Int := if c = 10 then l + 1 else l
def nxC (k c : Int) : Int := if c = 10 then 1 else k + 1
theorem behind_c (l k c : Int) (w : World) (hl : 0 ≤ l) (hl' : l ≤ 9223372036854775806) (hk : 0 ≤ k) (hk' : k ≤ 9223372036854775806) :
    Calls Try.prog 74 #[.agg #[.int .i64 l, .int .i64 k], .int .i32 c] w fun e w' => e = .returned (.agg #[.int .i64 (nxL l c), .int .i64 (nxC k c)]) ∧ Below w.heap.size w w' := by
  by_cases h : c = 10
  · have e1 : nxL l c = l + 1 := if_pos h
    have e2 : nxC k c = 1 := if_pos h
    rw [e1, e2]
    clear e1 e2
    subst h
    go_enter Try.func74, Try.ntmps74
    go_wp2
    exact bodyPost_ret (v := .agg #[.int .i64 (l + 1), .int .i64 1]) (by simp [results, Try.results74, go_sem]) rfl ⟨rfl, ((Below.refl _ _).alloc (Nat.le_refl _) _).alloc (by simp) _⟩
  · have e1 : nxL l c = l := if_neg h
    have e2 : nxC k c = k + 1 := if_neg h
    rw [e1, e2]
    clear e1 e2
    have h' : (c == 10) = false := by simpa using h
    go_enter Try.func74, Try.ntmps74
    go_wp2
    exact bodyPost_ret (v := .agg #[.int .i64 l, .int .i64 (k + 1)]) (by simp [results, Try.results74, go_sem]) rfl ⟨rfl, ((Below.refl _ _).alloc (Nat.le_refl _) _).alloc (by simp) _⟩
end Go.Proofs.Ytffgjamnijhlpaa
