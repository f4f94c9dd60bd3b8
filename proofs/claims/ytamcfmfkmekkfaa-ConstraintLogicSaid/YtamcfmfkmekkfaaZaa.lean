/- Bsa Bsb Bse Bsf Bpl Bsg Bsi Bpm Bsc Bsd Bpn Bsj Bpo Exs Mm Str Xxa Cxb Ph Pht Phg Phh Cxc Cxd Cd2 Cd3 -/
import Derived.Test.YtamcfmfkmekkfaaRows
import Derived.WalkKit
import Derived.WalkSpells
import Derived.WalkLawsBesides
import Derived.Deep.QuietTactic
import Derived.BigQuiet
import Derived.Deep.RegionWith
import Derived.Laws.BitsAllLaws
import Derived.Lib.Hide
import Derived.WalkSmall
import Derived.LoopTactic
import Derived.RegionTactic
import Derived.BigRegion
import Derived.LoopN
import Derived.Laws.StructEq
import Derived.Laws.Cover2
import Derived.OwnWalk
import Derived.Deep.RegionHeld3
import Derived.StillTail
import Derived.Deep.DeepCutAuto
/- Contracts of package bitset and of its reference, one number at a time: inRange, bit, Has, With, Without. No conditions. -/
namespace Go.Proofs.Ytamcfmfkmekkfaa
open Go.RowKit
/-- the bit of a number, as the walk leaves it -/
def bitI (n : Int) : Int := IntKind.u64.wrap (2 ^ (n % 64).toNat)
/-- the word that a number's bit is in -/
def wordI (x0 x1 x2 x3 n : Int) : Int := if n < 64 then x0 else if n < 128 then x1 else if n < 192 then x2 else x3
def hasB (x0 x1 x2 x3 n : Int) : Bool := decide (0 ≤ n) && (decide (n < 256) && (bits .and .u64 (wordI x0 x1 x2 x3 n) (bitI n) != 0))
/-- what With makes of word q, and what Without makes of it -/
def withI (n q x : Int) : Int := if 64 * q ≤ n ∧ n < 64 * q + 64 then bits .or .u64 x (bitI n) else x
def lessI (n q x : Int) : Int := if 64 * q ≤ n ∧ n < 64 * q + 64 then bits .andNot .u64 x (bitI n) else x
theorem withI_in {n q x : Int} (h : 64 * q ≤ n) (h' : n < 64 * q + 64) : withI n q x = bits .or .u64 x (bitI n) := if_pos ⟨h, h'⟩
theorem withI_out {n q x : Int} (h : n < 64 * q ∨ 64 * q + 64 ≤ n) : withI n q x = x := if_neg (by omega)
theorem lessI_in {n q x : Int} (h : 64 * q ≤ n) (h' : n < 64 * q + 64) : lessI n q x = bits .andNot .u64 x (bitI n) := if_pos ⟨h, h'⟩
theorem lessI_out {n q x : Int} (h : n < 64 * q ∨ 64 * q + 64 ≤ n) : lessI n q x = x := if_neg (by omega)
theorem word0 {x0 x1 x2 x3 n : Int} (h : n < 64) : wordI x0 x1 x2 x3 n = x0 := if_pos h
theorem word1 {x0 x1 x2 x3 n : Int} (h : 64 ≤ n) (h' : n < 128) : wordI x0 x1 x2 x3 n = x1 := by unfold wordI; rw [if_neg (by omega), if_pos h']
theorem word2 {x0 x1 x2 x3 n : Int} (h : 128 ≤ n) (h' : n < 192) : wordI x0 x1 x2 x3 n = x2 := by unfold wordI; rw [if_neg (by omega), if_neg (by omega), if_pos h']
theorem word3 {x0 x1 x2 x3 n : Int} (h : 192 ≤ n) : wordI x0 x1 x2 x3 n = x3 := by unfold wordI; rw [if_neg (by omega), if_neg (by omega), if_neg (by omega)]
theorem split4 (x0 x1 x2 x3 n : Int) (h0 : 0 ≤ n) (h1 : n < 256) :
    (0 ≤ n ∧ n < 64 ∧ IntKind.i64.wrap (n.tdiv 64) = 0 ∧ wordI x0 x1 x2 x3 n = x0) ∨ (64 ≤ n ∧ n < 128 ∧ IntKind.i64.wrap (n.tdiv 64) = 1 ∧ wordI x0 x1 x2 x3 n = x1) ∨
      (128 ≤ n ∧ n < 192 ∧ IntKind.i64.wrap (n.tdiv 64) = 2 ∧ wordI x0 x1 x2 x3 n = x2) ∨ (192 ≤ n ∧ n < 256 ∧ IntKind.i64.wrap (n.tdiv 64) = 3 ∧ wordI x0 x1 x2 x3 n = x3) := by
  have hn : (0 ≤ n ∧ n < 64) ∨ (64 ≤ n ∧ n < 128) ∨ (128 ≤ n ∧ n < 192) ∨ (192 ≤ n ∧ n < 256) := by omega
  rw [Int.tdiv_eq_ediv_of_nonneg h0, IntWalk.i64_in _ (by omega)]
  rcases hn with ⟨l, u⟩ | ⟨l, u⟩ | ⟨l, u⟩ | ⟨l, u⟩
  · exact .inl ⟨l, u, by omega, word0 u⟩
  · exact .inr (.inl ⟨l, u, by omega, word1 l u⟩)
  · exact .inr (.inr (.inl ⟨l, u, by omega, word2 l u⟩))
  · exact .inr (.inr (.inr ⟨l, u, by omega, word3 l⟩))
theorem ret_bool {a b : Bool} (h : a = b) : Ending.returned (.bool a) = .returned (.bool b) := by rw [h]

theorem inr_yes (n : Int) (w : World) (h0 : 0 ≤ n) (h1 : n < 256) :
    Calls Try.prog 54 #[.int .i64 n] w fun e w' => e = .returned (.bool true) ∧ w' = w := by
  go_enter Try.func54, Try.ntmps54
  go_wp2
  go_ret
  exact ⟨rfl, rfl⟩
theorem inr_no (n : Int) (w : World) (h : n < 0 ∨ 256 ≤ n) :
    Calls Try.prog 54 #[.int .i64 n] w fun e w' => e = .returned (.bool false) ∧ w' = w := by
  rcases h with h | h
  · go_enter Try.func54, Try.ntmps54
    go_wp2
    go_ret
    exact ⟨rfl, rfl⟩
  · have h2 : 0 ≤ n := by omega
    have h3 : decide (n < 256) = false := by simp; omega
    go_enter Try.func54, Try.ntmps54
    go_wp2
    go_ret
    exact ⟨rfl, rfl⟩
theorem bit_c (n : Int) (w : World) (h0 : 0 ≤ n) (_h1 : n < 256) :
    Calls Try.prog 55 #[.int .i64 n] w fun e w' => e = .returned (.int .u64 (bitI n)) ∧ w' = w := by
  go_enter Try.func55, Try.ntmps55
  go_wp2
  go_ret
  exact ⟨rfl, rfl⟩
theorem rbit_c (n : Int) (w : World) (h0 : 0 ≤ n) (_h1 : n < 256) :
    Calls Try.prog 59 #[.int .i64 n] w fun e w' => e = .returned (.int .u64 (bitI n)) ∧ w' = w := by
  go_enter Try.func59, Try.ntmps59
  go_wp2
  go_ret
  exact ⟨rfl, rfl⟩

theorem hasB_in {x0 x1 x2 x3 n : Int} (h0 : 0 ≤ n) (h1 : n < 256) : hasB x0 x1 x2 x3 n = (bits .and .u64 (wordI x0 x1 x2 x3 n) (bitI n) != 0) := by
  unfold hasB
  rw [decide_eq_true h0, decide_eq_true h1]
  rfl
theorem hasB_out {x0 x1 x2 x3 n : Int} (h : n < 0 ∨ 256 ≤ n) : hasB x0 x1 x2 x3 n = false := by
  unfold hasB
  rcases h with h | h
  · rw [decide_eq_false (by omega)]; rfl
  · rw [decide_eq_false (p := n < 256) (by omega)]; simp
set_option maxHeartbeats 1000000 in
theorem has_c (x0 x1 x2 x3 n : Int) (w : World) :
    Calls Try.prog 34 #[.agg #[.int .u64 x0, .int .u64 x1, .int .u64 x2, .int .u64 x3], .int .i64 n] w fun e w' => e = .returned (.bool (hasB x0 x1 x2 x3 n)) ∧ Below w.heap.size w w' := by
  by_cases h : n < 0 ∨ 256 ≤ n
  · rw [hasB_out h]
    go_enter Try.func34, Try.ntmps34
    go_wp2_with fail
    go_quiet ((go_at_call 54; exact Calls.quiet_of_same (inr_no _ _ h)))
    go_wp2
    go_ret
    exact ⟨rfl, below_drewN ((Below.refl _ _).alloc (Nat.le_refl _) _) _⟩
  · have h0 : 0 ≤ n := by omega
    have h1 : n < 256 := by omega
    clear h
    rw [hasB_in h0 h1]
    rcases split4 x0 x1 x2 x3 n h0 h1 with ⟨l, u, hq, hx⟩ | ⟨l, u, hq, hx⟩ | ⟨l, u, hq, hx⟩ | ⟨l, u, hq, hx⟩ <;> rw [hx] <;> clear hx
    all_goals
      go_enter Try.func34, Try.ntmps34
      go_wp2_with fail
      go_quiet ((first | (go_at_call 54; exact Calls.quiet_of_same (inr_yes _ _ h0 h1)) | (go_at_call 55; exact Calls.quiet_of_same (bit_c _ _ h0 h1))))
      go_wp2
      go_ret
      exact ⟨rfl, below_drewN ((Below.refl _ _).alloc (Nat.le_refl _) _) _⟩
set_option maxHeartbeats 1000000 in
theorem rhas_c (x0 x1 x2 x3 n : Int) (w : World) :
    Calls Try.prog 37 #[.agg #[.int .u64 x0, .int .u64 x1, .int .u64 x2, .int .u64 x3], .int .i64 n] w fun e w' => e = .returned (.bool (hasB x0 x1 x2 x3 n)) ∧ Below w.heap.size w w' := by
  by_cases h : n < 0 ∨ 256 ≤ n
  · rw [hasB_out h]
    have h' : decide (0 ≤ n) = false ∨ (0 ≤ n ∧ decide (n < 256) = false) := by
      rcases h with h | h
      · exact .inl (decide_eq_false (by omega))
      · exact .inr ⟨by omega, decide_eq_false (by omega)⟩
    clear h
    rcases h' with d0 | ⟨d1, d0⟩
    all_goals
      go_enter Try.func37, Try.ntmps37
      go_wp2_with fail
      go_quiet (fail)
      go_wp2
      go_ret
      exact ⟨rfl, below_drewN ((Below.refl _ _).alloc (Nat.le_refl _) _) _⟩
  · have h0 : 0 ≤ n := by omega
    have h1 : n < 256 := by omega
    clear h
    rw [hasB_in h0 h1]
    rcases split4 x0 x1 x2 x3 n h0 h1 with ⟨l, u, hq, hx⟩ | ⟨l, u, hq, hx⟩ | ⟨l, u, hq, hx⟩ | ⟨l, u, hq, hx⟩ <;> rw [hx] <;> clear hx
    all_goals
      go_enter Try.func37, Try.ntmps37
      go_wp2_with fail
      go_quiet ((go_at_call 59; exact Calls.quiet_of_same (rbit_c _ _ h0 h1)))
      go_wp2
      go_ret
      exact ⟨rfl, below_drewN ((Below.refl _ _).alloc (Nat.le_refl _) _) _⟩
end Go.Proofs.Ytamcfmfkmekkfaa
/- Contracts of With and Without of package bitset and of its reference. No conditions. -/
namespace Go.Proofs.Ytamcfmfkmekkfaa
open Go.RowKit

set_option maxHeartbeats 2000000 in
theorem with_c (x0 x1 x2 x3 n : Int) (w : World) :
    Calls Try.prog 71 #[.agg #[.int .u64 x0, .int .u64 x1, .int .u64 x2, .int .u64 x3], .int .i64 n] w fun e w' => e = .returned (.agg #[.int .u64 (withI n 0 x0), .int .u64 (withI n 1 x1), .int .u64 (withI n 2 x2), .int .u64 (withI n 3 x3)]) ∧ Below w.heap.size w w' := by
  by_cases h : n < 0 ∨ 256 ≤ n
  · rw [withI_out (q := 0) (by omega), withI_out (q := 1) (by omega), withI_out (q := 2) (by omega), withI_out (q := 3) (by omega)]
    go_enter Try.func71, Try.ntmps71
    go_wp2_with (go_at_call 54; refine (inr_no _ _ h).mono ?_; rintro e w' ⟨rfl, rfl⟩)
    exact bodyPost_ret (v := .agg #[.int .u64 x0, .int .u64 x1, .int .u64 x2, .int .u64 x3]) (by simp [results, Try.results71, go_sem]) rfl ⟨rfl, ((Below.refl _ _).alloc (Nat.le_refl _) _).alloc (by simp) _⟩
  · have h0 : 0 ≤ n := by omega
    have h1 : n < 256 := by omega
    clear h
    rcases split4 x0 x1 x2 x3 n h0 h1 with ⟨l, u, hq, _⟩ | ⟨l, u, hq, _⟩ | ⟨l, u, hq, _⟩ | ⟨l, u, hq, _⟩
    · rw [withI_in (q := 0) (by omega) (by omega), withI_out (q := 1) (by omega), withI_out (q := 2) (by omega), withI_out (q := 3) (by omega)]
      go_enter Try.func71, Try.ntmps71
      go_wp2_with (go_at_call 54; refine (inr_yes _ _ h0 h1).mono ?_; rintro e w' ⟨rfl, rfl⟩)
      go_region_with (go_at_call 55; refine (bit_c _ _ h0 h1).mono ?_; rintro e w' ⟨rfl, rfl⟩)
      all_goals
        go_wp2
        exact bodyPost_ret (v := .agg #[.int .u64 (bits .or .u64 x0 (bitI n)), .int .u64 x1, .int .u64 x2, .int .u64 x3]) (by simp [results, Try.results71, go_sem]) rfl ⟨rfl, (((Below.refl _ _).alloc (Nat.le_refl _) _).alloc (by simp) _).drew⟩
    · rw [withI_out (q := 0) (by omega), withI_in (q := 1) (by omega) (by omega), withI_out (q := 2) (by omega), withI_out (q := 3) (by omega)]
      go_enter Try.func71, Try.ntmps71
      go_wp2_with (go_at_call 54; refine (inr_yes _ _ h0 h1).mono ?_; rintro e w' ⟨rfl, rfl⟩)
      go_region_with (go_at_call 55; refine (bit_c _ _ h0 h1).mono ?_; rintro e w' ⟨rfl, rfl⟩)
      all_goals
        go_wp2
        exact bodyPost_ret (v := .agg #[.int .u64 x0, .int .u64 (bits .or .u64 x1 (bitI n)), .int .u64 x2, .int .u64 x3]) (by simp [results, Try.results71, go_sem]) rfl ⟨rfl, (((Below.refl _ _).alloc (Nat.le_refl _) _).alloc (by simp) _).drew⟩
    · rw [withI_out (q := 0) (by omega), withI_out (q := 1) (by omega), withI_in (q := 2) (by omega) (by omega), withI_out (q := 3) (by omega)]
      go_enter Try.func71, Try.ntmps71
      go_wp2_with (go_at_call 54; refine (inr_yes _ _ h0 h1).mono ?_; rintro e w' ⟨rfl, rfl⟩)
      go_region_with (go_at_call 55; refine (bit_c _ _ h0 h1).mono ?_; rintro e w' ⟨rfl, rfl⟩)
      all_goals
        go_wp2
        exact bodyPost_ret (v := .agg #[.int .u64 x0, .int .u64 x1, .int .u64 (bits .or .u64 x2 (bitI n)), .int .u64 x3]) (by simp [results, Try.results71, go_sem]) rfl ⟨rfl, (((Below.refl _ _).alloc (Nat.le_refl _) _).alloc (by simp) _).drew⟩
    · rw [withI_out (q := 0) (by omega), withI_out (q := 1) (by omega), withI_out (q := 2) (by omega), withI_in (q := 3) (by omega) (by omega)]
      go_enter Try.func71, Try.ntmps71
      go_wp2_with (go_at_call 54; refine (inr_yes _ _ h0 h1).mono ?_; rintro e w' ⟨rfl, rfl⟩)
      go_region_with (go_at_call 55; refine (bit_c _ _ h0 h1).mono ?_; rintro e w' ⟨rfl, rfl⟩)
      all_goals
        go_wp2
        exact bodyPost_ret (v := .agg #[.int .u64 x0, .int .u64 x1, .int .u64 x2, .int .u64 (bits .or .u64 x3 (bitI n))]) (by simp [results, Try.results71, go_sem]) rfl ⟨rfl, (((Below.refl _ _).alloc (Nat.le_refl _) _).alloc (by simp) _).drew⟩

set_option maxHeartbeats 2000000 in
theorem rwith_c (x0 x1 x2 x3 n : Int) (w : World) :
    Calls Try.prog 45 #[.agg #[.int .u64 x0, .int .u64 x1, .int .u64 x2, .int .u64 x3], .int .i64 n] w fun e w' => e = .returned (.agg #[.int .u64 (withI n 0 x0), .int .u64 (withI n 1 x1), .int .u64 (withI n 2 x2), .int .u64 (withI n 3 x3)]) ∧ Below w.heap.size w w' := by
  by_cases h : n < 0 ∨ 256 ≤ n
  · rw [withI_out (q := 0) (by omega), withI_out (q := 1) (by omega), withI_out (q := 2) (by omega), withI_out (q := 3) (by omega)]
    have h' : decide (0 ≤ n) = false ∨ (0 ≤ n ∧ decide (n < 256) = false) := by
      rcases h with h | h
      · exact .inl (decide_eq_false (by omega))
      · exact .inr ⟨by omega, decide_eq_false (by omega)⟩
    clear h
    rcases h' with d0 | ⟨d1, d0⟩
    all_goals
      go_enter Try.func45, Try.ntmps45
      go_wp2
      exact bodyPost_ret (v := .agg #[.int .u64 x0, .int .u64 x1, .int .u64 x2, .int .u64 x3]) (by simp [results, Try.results45, go_sem]) rfl ⟨rfl, ((Below.refl _ _).alloc (Nat.le_refl _) _).alloc (by simp) _⟩
  · have h0 : 0 ≤ n := by omega
    have h1 : n < 256 := by omega
    clear h
    rcases split4 x0 x1 x2 x3 n h0 h1 with ⟨l, u, hq, _⟩ | ⟨l, u, hq, _⟩ | ⟨l, u, hq, _⟩ | ⟨l, u, hq, _⟩
    · rw [withI_in (q := 0) (by omega) (by omega), withI_out (q := 1) (by omega), withI_out (q := 2) (by omega), withI_out (q := 3) (by omega)]
      go_enter Try.func45, Try.ntmps45
      go_wp2_with fail
      go_region_with (go_at_call 59; refine (rbit_c _ _ h0 h1).mono ?_; rintro e w' ⟨rfl, rfl⟩)
      all_goals
        go_wp2
        exact bodyPost_ret (v := .agg #[.int .u64 (bits .or .u64 x0 (bitI n)), .int .u64 x1, .int .u64 x2, .int .u64 x3]) (by simp [results, Try.results45, go_sem]) rfl ⟨rfl, (((Below.refl _ _).alloc (Nat.le_refl _) _).alloc (by simp) _).drew⟩
    · rw [withI_out (q := 0) (by omega), withI_in (q := 1) (by omega) (by omega), withI_out (q := 2) (by omega), withI_out (q := 3) (by omega)]
      go_enter Try.func45, Try.ntmps45
      go_wp2_with fail
      go_region_with (go_at_call 59; refine (rbit_c _ _ h0 h1).mono ?_; rintro e w' ⟨rfl, rfl⟩)
      all_goals
        go_wp2
        exact bodyPost_ret (v := .agg #[.int .u64 x0, .int .u64 (bits .or .u64 x1 (bitI n)), .int .u64 x2, .int .u64 x3]) (by simp [results, Try.results45, go_sem]) rfl ⟨rfl, (((Below.refl _ _).alloc (Nat.le_refl _) _).alloc (by simp) _).drew⟩
    · rw [withI_out (q := 0) (by omega), withI_out (q := 1) (by omega), withI_in (q := 2) (by omega) (by omega), withI_out (q := 3) (by omega)]
      go_enter Try.func45, Try.ntmps45
      go_wp2_with fail
      go_region_with (go_at_call 59; refine (rbit_c _ _ h0 h1).mono ?_; rintro e w' ⟨rfl, rfl⟩)
      all_goals
        go_wp2
        exact bodyPost_ret (v := .agg #[.int .u64 x0, .int .u64 x1, .int .u64 (bits .or .u64 x2 (bitI n)), .int .u64 x3]) (by simp [results, Try.results45, go_sem]) rfl ⟨rfl, (((Below.refl _ _).alloc (Nat.le_refl _) _).alloc (by simp) _).drew⟩
    · rw [withI_out (q := 0) (by omega), withI_out (q := 1) (by omega), withI_out (q := 2) (by omega), withI_in (q := 3) (by omega) (by omega)]
      go_enter Try.func45, Try.ntmps45
      go_wp2_with fail
      go_region_with (go_at_call 59; refine (rbit_c _ _ h0 h1).mono ?_; rintro e w' ⟨rfl, rfl⟩)
      all_goals
        go_wp2
        exact bodyPost_ret (v := .agg #[.int .u64 x0, .int .u64 x1, .int .u64 x2, .int .u64 (bits .or .u64 x3 (bitI n))]) (by simp [results, Try.results45, go_sem]) rfl ⟨rfl, (((Below.refl _ _).alloc (Nat.le_refl _) _).alloc (by simp) _).drew⟩

end Go.Proofs.Ytamcfmfkmekkfaa
/- Contracts of Of of package bitset and of its reference: any list of numbers. Condition: none but that the list lies in memory. -/
namespace Go.Proofs.Ytamcfmfkmekkfaa
open Go.RowKit
/-- a block that is known whole -/
def At (w : World) (g : Nat) (t : TypeId) (cs : Array Value) : Prop := w.heap[g]? = some (.cells cs t (0, 0))
theorem At.cell {w : World} {g : Nat} {t : TypeId} {cs : Array Value} (h : At w g t cs) (i : Nat) : w.cell? ⟨g, i, none⟩ = cs[i]? := cell_of_row w g i cs t (0, 0) h
theorem At.frozen {w : World} {g : Nat} {t : TypeId} {cs : Array Value} (h : At w g t cs) (i : Nat) : w.frozen? ⟨g, i, none⟩ = false := by
  unfold At at h
  simp [World.frozen?, h]
theorem At.lt {w : World} {g : Nat} {t : TypeId} {cs : Array Value} (h : At w g t cs) : g < w.heap.size := by
  rcases Nat.lt_or_ge g w.heap.size with hlt | hge
  · exact hlt
  · unfold At at h; rw [Array.getElem?_eq_none hge] at h; cases h
theorem At.new (w : World) (t : TypeId) (cs : Array Value) : At (w.alloc (.cells cs t)) w.heap.size t cs := heap_alloc_new w _
theorem At.alloc {w : World} {g : Nat} {t : TypeId} {cs : Array Value} (h : At w g t cs) (o : Obj) : At (w.alloc o) g t cs := (Below.heap_alloc w o g h.lt).trans h
theorem At.below {B : Nat} {w w' : World} {g : Nat} {t : TypeId} {cs : Array Value} (h : At w g t cs) (hb : Below B w w') (hg : g < B) : At w' g t cs := (hb.block g hg).trans h

theorem At.set {w : World} {g : Nat} {t : TypeId} {cs : Array Value} (h : At w g t cs) (i : Nat) (u : Value) : At (w.setCell ⟨g, i, none⟩ u) g t (cs.setIfInBounds i u) := by
  unfold At at h ⊢
  simp [World.setCell, Array.getElem?_modify, h]
theorem At.far {w : World} {g : Nat} {t : TypeId} {cs : Array Value} (h : At w g t cs) {p : Addr} (hp : g ≠ p.block) (u : Value) : At (w.setCell p u) g t cs := (Below.heap_setCell w p u g hp).trans h
/-- a variable that holds a set -/
def Quad (w : World) (g : Nat) (a b c d : Int) : Prop := At w g 25 #[.int .u64 a, .int .u64 b, .int .u64 c, .int .u64 d]
theorem Quad.facts {w : World} {g : Nat} {a b c d : Int} (h : Quad w g a b c d) :
    w.cell? ⟨g, 0, none⟩ = some (.int .u64 a) ∧ w.cell? ⟨g, 1, none⟩ = some (.int .u64 b) ∧ w.cell? ⟨g, 2, none⟩ = some (.int .u64 c) ∧ w.cell? ⟨g, 3, none⟩ = some (.int .u64 d) ∧
    w.frozen? ⟨g, 0, none⟩ = false ∧ w.frozen? ⟨g, 1, none⟩ = false ∧ w.frozen? ⟨g, 2, none⟩ = false ∧ w.frozen? ⟨g, 3, none⟩ = false :=
  ⟨At.cell h 0, At.cell h 1, At.cell h 2, At.cell h 3, At.frozen h 0, At.frozen h 1, At.frozen h 2, At.frozen h 3⟩
theorem Quad.set4 {w : World} {g : Nat} {a b c d : Int} (h : Quad w g a b c d) (a' b' c' d' : Int) :
    Quad ((((w.setCell ⟨g, 0, none⟩ (.int .u64 a')).setCell ⟨g, 1, none⟩ (.int .u64 b')).setCell ⟨g, 2, none⟩ (.int .u64 c')).setCell ⟨g, 3, none⟩ (.int .u64 d')) g a' b' c' d' := by
  have k := (((At.set h 0 (.int .u64 a')).set 1 (.int .u64 b')).set 2 (.int .u64 c')).set 3 (.int .u64 d')
  simpa [Quad] using k
theorem Quad.lt {w : World} {g : Nat} {a b c d : Int} (h : Quad w g a b c d) : g < w.heap.size := At.lt h
theorem Quad.new (w : World) (a b c d : Int) : Quad (w.alloc (.cells #[.int .u64 a, .int .u64 b, .int .u64 c, .int .u64 d] 25)) w.heap.size a b c d := At.new _ _ _
theorem Quad.alloc {w : World} {g : Nat} {a b c d : Int} (h : Quad w g a b c d) (o : Obj) : Quad (w.alloc o) g a b c d := At.alloc h o
theorem Quad.below {B : Nat} {w w' : World} {g : Nat} {a b c d : Int} (h : Quad w g a b c d) (hb : Below B w w') (hg : g < B) : Quad w' g a b c d := At.below h hb hg
theorem Quad.far4 {w : World} {g g' : Nat} {a b c d a' b' c' d' : Int} (h : Quad w g a b c d) (hne : g ≠ g') :
    Quad ((((w.setCell ⟨g', 0, none⟩ (.int .u64 a')).setCell ⟨g', 1, none⟩ (.int .u64 b')).setCell ⟨g', 2, none⟩ (.int .u64 c')).setCell ⟨g', 3, none⟩ (.int .u64 d')) g a b c d :=
  At.far (At.far (At.far (At.far h hne _) hne _) hne _) hne _
theorem below_set4 {B : Nat} {a w : World} (h : Below B a w) {g : Nat} (hg : B ≤ g) (x0 x1 x2 x3 : Value) :
    Below B a ((((w.setCell ⟨g, 0, none⟩ x0).setCell ⟨g, 1, none⟩ x1).setCell ⟨g, 2, none⟩ x2).setCell ⟨g, 3, none⟩ x3) :=
  (((h.setCell (p := ⟨g, 0, none⟩) hg _).setCell (p := ⟨g, 1, none⟩) hg _).setCell (p := ⟨g, 2, none⟩) hg _).setCell (p := ⟨g, 3, none⟩) hg _

def ofI (l : List Int) (q : Int) : Int := l.foldl (fun x n => withI n q x) 0
theorem ofI_snoc (l : List Int) (n q : Int) : ofI (l ++ [n]) q = withI n q (ofI l q) := by unfold ofI; rw [List.foldl_append]; rfl
/-- a slice of ints that lies in memory -/
def Ints (w : World) (A : Option Addr) (l : List Int) : Prop := ∀ i, i < l.length → ∃ b off, A = some ⟨b, off, none⟩ ∧ w.cell? ⟨b, off + i, none⟩ = some (.int .i64 (l.getD i 0)) ∧ b < w.heap.size
theorem Ints.below {w w' : World} {A : Option Addr} {l : List Int} (h : Ints w A l) (hb : Below w.heap.size w w') : Ints w' A l := fun i hi => by
  obtain ⟨b, off, e, hc, hlt⟩ := h i hi
  exact ⟨b, off, e, (hb.cell (p := ⟨b, off + i, none⟩) hlt).trans hc, Nat.lt_of_lt_of_le hlt hb.size⟩
theorem ofI_take (l : List Int) (k : Nat) (h : k < l.length) (q : Int) : ofI (l.take (k + 1)) q = withI l[k] q (ofI (l.take k) q) := by
  rw [List.take_succ_eq_append_getElem h, ofI_snoc]
theorem set_ret {fn : Func} {tmps : Array Value} {t : Tmp} {w : World} {g : Nat} {a b c d : Int} (h : fn.results = #[.cell t 25]) (ht : tmps.getD t undef = .pointer (some ⟨g, 0, none⟩)) (q : Quad w g a b c d) :
    (results fn tmps).run Try.prog w = .ok (.agg #[.int .u64 a, .int .u64 b, .int .u64 c, .int .u64 d]) w := by
  obtain ⟨c0, c1, c2, c3, _⟩ := q.facts
  have ht' : tmps[t]?.getD undef = .pointer (some ⟨g, 0, none⟩) := by simpa using ht
  simp [results, h, ht', go_sem, c0, c1, c2, c3]
theorem quad_second (w : World) : Quad ((w.alloc (.cells #[.int .u64 0, .int .u64 0, .int .u64 0, .int .u64 0] 25)).alloc (.cells #[.int .u64 0, .int .u64 0, .int .u64 0, .int .u64 0] 25)) (w.heap.size + 1) 0 0 0 0 := by
  have h := Quad.new (w.alloc (.cells #[.int .u64 0, .int .u64 0, .int .u64 0, .int .u64 0] 25)) 0 0 0 0
  simpa using h
/-- the numbers below k, and those of All -/
def below (k : Nat) : List Int := (List.range k).map fun (i : Nat) => (i : Int)
def allN (n : Int) : Nat := (min n 256).toNat
def allL (n : Int) : List Int := below (allN n)
theorem allN_le (n : Int) : allN n ≤ 256 := by unfold allN; omega
theorem allN_lt {n : Int} {k : Nat} (h : k < allN n) : (k : Int) < n ∧ (k : Int) < 256 := by unfold allN at h; omega
theorem allN_end (n : Int) : n ≤ (allN n : Int) ∨ 256 ≤ (allN n : Int) := by unfold allN; omega
theorem ofI_below (k : Nat) (q : Int) : ofI (below (k + 1)) q = withI k q (ofI (below k) q) := by
  unfold below
  rw [List.range_succ, List.map_append]
  exact ofI_snoc _ _ _
set_option maxHeartbeats 1000000 in
theorem rof_c (A : Option Addr) (l : List Int) (cap : Nat) (w : World) (hl : Ints w A l) (hm : l.length ≤ maxLen) :
    Calls Try.prog 26 #[.slice A l.length cap] w fun e w' => e = .returned (.agg #[.int .u64 (ofI l 0), .int .u64 (ofI l 1), .int .u64 (ofI l 2), .int .u64 (ofI l 3)]) ∧ Below w.heap.size w w' := by
  unfold maxLen at hm
  go_enter Try.func26, Try.ntmps26
  go_wp2
  go_loopw [4] (fun i wr => ∃ k : Nat, k ≤ l.length ∧ i = .int .i64 k ∧ Quad wr w.heap.size 0 0 0 0 ∧
      Quad wr (w.heap.size + 1) (ofI (l.take k) 0) (ofI (l.take k) 1) (ofI (l.take k) 2) (ofI (l.take k) 3) ∧ Below w.heap.size w wr)
    (fun i _ => l.length - (intOf i).toNat)
  case atStart => exact ⟨0, Nat.zero_le _, rfl, (Quad.new _ _ _ _ _).alloc _, quad_second w, ((Below.refl _ _).alloc (Nat.le_refl _) _).alloc (by simp) _⟩
  case round =>
    obtain ⟨k, hk, rfl, hz, hs, hb⟩ := hrel
    obtain ⟨c0, c1, c2, c3, _⟩ := hs.facts
    have hsz := hs.lt
    by_cases hlt : k < l.length
    · obtain ⟨b, off, hA, hc, hbl⟩ := hl k hlt
      subst hA
      have hcr := (hb.cell (p := ⟨b, off + k, none⟩) hbl).trans hc
      have E : ∀ q, Hid (ofI (l.take (k + 1)) q = withI l[k] q (ofI (l.take k) q)) := fun q => ofI_take l k hlt q
      clear hc
      go_wp2
      go_region_with (go_at_call 45; refine (rwith_c _ _ _ _ _ _).mono ?_; rintro e w' ⟨rfl, hb'⟩; obtain ⟨d0, d1, d2, d3, f0, f1, f2, f3⟩ := (Quad.below (w := wr.drew) hs hb' hsz).facts)
      all_goals
        go_wp2
        go_roundw
        case rel =>
          refine ⟨k + 1, by omega, by go_num, (Quad.below (w := wr.drew) hz hb' hz.lt).far4 (by omega), ?_, below_set4 (hb.drew.trans (hb'.mono hb.size)) (by omega) _ _ _ _⟩
          rw [(E 0).out, (E 1).out, (E 2).out, (E 3).out]
          exact (Quad.below (w := wr.drew) hs hb' hsz).set4 _ _ _ _
        case measure => simp [intOf]; omega
    · obtain ⟨d0, d1, d2, d3, f0, f1, f2, f3⟩ := hz.facts
      obtain rfl : k = l.length := by omega
      rw [List.take_length] at c0 c1 c2 c3
      go_wp2
      exact bodyPost_ret (v := (.agg #[.int .u64 (ofI l 0), .int .u64 (ofI l 1), .int .u64 (ofI l 2), .int .u64 (ofI l 3)])) (set_ret Try.results26 rfl (hz.set4 _ _ _ _)) rfl ⟨rfl, below_set4 hb (Nat.le_refl _) _ _ _ _⟩
end Go.Proofs.Ytamcfmfkmekkfaa
/- Contracts of All of package bitset and of its reference: any int. -/
namespace Go.Proofs.Ytamcfmfkmekkfaa
open Go.RowKit
end Go.Proofs.Ytamcfmfkmekkfaa
/- Plain facts on 64-bit words: the number of one bits as math/bits.OnesCount64 computes it, bits and the operations on words. No Go text. -/
namespace Go.Proofs.Ytamcfmfkmekkfaa
/-- how many of the first k bits are one -/
def pc : Nat → Nat → Nat
  | 0, _ => 0
  | k + 1, X => pc k X + (X.testBit k).toNat
theorem pc_le : ∀ k X, pc k X ≤ k
  | 0, _ => Nat.le_refl _
  | k + 1, X => by have := pc_le k X; have : (X.testBit k).toNat ≤ 1 := Bool.toNat_le _; simp only [pc]; omega
theorem pc_or_and (x y : Nat) : ∀ k, pc k (x ||| y) + pc k (x &&& y) = pc k x + pc k y
  | 0 => rfl
  | k + 1 => by
    have h := pc_or_and x y k
    simp only [pc, Nat.testBit_or, Nat.testBit_and]
    cases x.testBit k <;> cases y.testBit k <;> simp <;> omega
theorem pc_split (X : Nat) : ∀ k, pc (8 + k) X = pc 8 (X % 256) + pc k (X / 256)
  | 0 => by
    have e : ∀ i, i < 8 → (X % 2 ^ 8).testBit i = X.testBit i := fun i hi => by rw [Nat.testBit_mod_two_pow]; simp [hi]
    simp only [pc, Nat.add_zero]
    rw [show (256 : Nat) = 2 ^ 8 from rfl, e 0 (by omega), e 1 (by omega), e 2 (by omega), e 3 (by omega), e 4 (by omega), e 5 (by omega), e 6 (by omega), e 7 (by omega)]
  | k + 1 => by
    have h := pc_split X k
    have e : (X / 256).testBit k = X.testBit (8 + k) := by rw [show (256 : Nat) = 2 ^ 8 from rfl, Nat.testBit_div_two_pow, Nat.add_comm]
    show pc (8 + k) X + (X.testBit (8 + k)).toNat = pc 8 (X % 256) + (pc k (X / 256) + ((X / 256).testBit k).toNat)
    rw [h, e]
    omega
/-- a function on each byte -/
def mapB (f : Nat → Nat) : Nat → Nat → Nat
  | 0, _ => 0
  | m + 1, X => f (X % 256) + 256 * mapB f m (X / 256)
def mask (c : Nat) : Nat → Nat
  | 0 => 0
  | m + 1 => c + 256 * mask c m
theorem and_split (x y : Nat) : x &&& y = ((x % 256) &&& (y % 256)) + 256 * ((x / 256) &&& (y / 256)) := by
  have h1 : (x &&& y) % 2 ^ 8 = (x % 2 ^ 8) &&& (y % 2 ^ 8) := Nat.and_mod_two_pow
  have h2 : (x &&& y) / 2 ^ 8 = (x / 2 ^ 8) &&& (y / 2 ^ 8) := Nat.and_div_two_pow
  have h3 := Nat.mod_add_div (x &&& y) (2 ^ 8)
  rw [h1, h2] at h3
  exact h3.symm
theorem mask_mod (c m : Nat) (h : c < 256) : mask c (m + 1) % 256 = c := by simp only [mask]; omega
theorem mask_div (c m : Nat) (h : c < 256) : mask c (m + 1) / 256 = mask c m := by simp only [mask]; omega
def B1 (b : Nat) : Nat := ((b / 2) &&& 0x55) + (b &&& 0x55)
def B2 (b : Nat) : Nat := ((b / 4) &&& 0x33) + (b &&& 0x33)
def B3 (b : Nat) : Nat := (b / 16 + b) % 16
theorem low1 : ∀ b : Fin 256, ∀ t : Fin 2, (b.val / 2 + 128 * t.val) &&& 0x55 = (b.val / 2) &&& 0x55 := by decide +kernel
theorem low2 : ∀ b : Fin 256, ∀ t : Fin 4, (b.val / 4 + 64 * t.val) &&& 0x33 = (b.val / 4) &&& 0x33 := by decide +kernel
theorem step1 : ∀ m X, ((X / 2) &&& mask 0x55 m) + (X &&& mask 0x55 m) = mapB B1 m X
  | 0, X => by simp [mask, mapB]
  | m + 1, X => by
    have ih := step1 m (X / 256)
    rw [and_split (X / 2), and_split X, mask_mod _ _ (by omega), mask_div _ _ (by omega)]
    have e : X / 2 % 256 = X % 256 / 2 + 128 * (X / 256 % 2) := by omega
    have l := low1 ⟨X % 256, by omega⟩ ⟨X / 256 % 2, by omega⟩
    simp only at l
    rw [e, l, show X / 2 / 256 = X / 256 / 2 by omega, mapB, ← ih, B1]
    omega
theorem step2 : ∀ m X, ((X / 4) &&& mask 0x33 m) + (X &&& mask 0x33 m) = mapB B2 m X
  | 0, X => by simp [mask, mapB]
  | m + 1, X => by
    have ih := step2 m (X / 256)
    rw [and_split (X / 4), and_split X, mask_mod _ _ (by omega), mask_div _ _ (by omega)]
    have e : X / 4 % 256 = X % 256 / 4 + 64 * (X / 256 % 4) := by omega
    have l := low2 ⟨X % 256, by omega⟩ ⟨X / 256 % 4, by omega⟩
    simp only at l
    rw [e, l, show X / 4 / 256 = X / 256 / 4 by omega, mapB, ← ih, B2]
    omega
theorem mapB_comp (f g : Nat → Nat) (hg : ∀ b, b < 256 → g b < 256) : ∀ m X, mapB f m (mapB g m X) = mapB (fun b => f (g b)) m X
  | 0, _ => rfl
  | m + 1, X => by
    have h := hg (X % 256) (by omega)
    simp only [mapB]
    rw [show (g (X % 256) + 256 * mapB g m (X / 256)) % 256 = g (X % 256) by omega, show (g (X % 256) + 256 * mapB g m (X / 256)) / 256 = mapB g m (X / 256) by omega, mapB_comp f g hg m]
theorem mapB_congr (f g : Nat → Nat) (h : ∀ b, b < 256 → f b = g b) : ∀ m X, mapB f m X = mapB g m X
  | 0, _ => rfl
  | m + 1, X => by simp only [mapB]; rw [h _ (by omega), mapB_congr f g h m]
theorem and15 (n : Nat) : n &&& 15 = n % 16 := Nat.and_two_pow_sub_one_eq_mod n 4
theorem mapB_mod16 (g : Nat → Nat) (hg : ∀ b, b < 256 → g b % 16 ≤ 4) : ∀ m X, mapB g m X % 16 ≤ 4
  | 0, _ => by simp [mapB]
  | m + 1, X => by have := hg (X % 256) (by omega); simp only [mapB]; omega
theorem step3 (g : Nat → Nat) (hg : ∀ b, b < 256 → g b % 16 ≤ 4 ∧ g b / 16 ≤ 4) : ∀ m X, ((mapB g m X / 16 + mapB g m X) &&& mask 0x0f m) = mapB (fun b => B3 (g b)) m X
  | 0, X => by simp [mask, mapB]
  | m + 1, X => by
    have ih := step3 g hg m (X / 256)
    have h1 := hg (X % 256) (by omega)
    have h2 := mapB_mod16 g (fun b hb => (hg b hb).1) m (X / 256)
    rw [and_split, mask_mod _ _ (by omega), mask_div _ _ (by omega)]
    simp only [mapB]
    generalize g (X % 256) = z at *
    generalize mapB g m (X / 256) = Z at *
    rw [show (z + 256 * Z) / 16 + (z + 256 * Z) = (z / 16 + z + 16 * (Z % 16)) + 256 * (Z / 16 + Z) by omega]
    rw [show (z / 16 + z + 16 * (Z % 16) + 256 * (Z / 16 + Z)) % 256 = z / 16 + z + 16 * (Z % 16) by omega, show (z / 16 + z + 16 * (Z % 16) + 256 * (Z / 16 + Z)) / 256 = Z / 16 + Z by omega]
    rw [ih, and15, B3]
    omega
theorem byte1 : ∀ b : Fin 256, B1 b.val < 256 := by decide +kernel
theorem byte2 : ∀ b : Fin 256, B2 (B1 b.val) % 16 ≤ 4 ∧ B2 (B1 b.val) / 16 ≤ 4 := by decide +kernel
theorem byte3 : ∀ b : Fin 256, B3 (B2 (B1 b.val)) = pc 8 b.val := by decide +kernel
theorem spread (X : Nat) : ∀ m, mapB (fun b => B3 (B2 (B1 b))) m X = mapB (pc 8) m X := fun m => mapB_congr _ _ (fun b hb => byte3 ⟨b, hb⟩) m X
/-- the three masked steps -/
def swar (X : Nat) : Nat :=
  let a := ((X / 2) &&& 0x5555555555555555) + (X &&& 0x5555555555555555)
  let b := ((a / 4) &&& 0x3333333333333333) + (a &&& 0x3333333333333333)
  (b / 16 + b) &&& 0x0f0f0f0f0f0f0f0f
theorem swar_eq (X : Nat) : swar X = mapB (pc 8) 8 X := by
  unfold swar
  rw [show (0x5555555555555555 : Nat) = mask 0x55 8 from rfl, show (0x3333333333333333 : Nat) = mask 0x33 8 from rfl, show (0x0f0f0f0f0f0f0f0f : Nat) = mask 0x0f 8 from rfl]
  rw [step1]
  dsimp only
  rw [step2, mapB_comp _ _ (fun b hb => byte1 ⟨b, hb⟩), step3 _ (fun b hb => byte2 ⟨b, hb⟩), spread]
theorem mapB8 (f : Nat → Nat) (X : Nat) : ∃ c0 c1 c2 c3 c4 c5 c6 c7, mapB f 8 X = c0 + 256 * (c1 + 256 * (c2 + 256 * (c3 + 256 * (c4 + 256 * (c5 + 256 * (c6 + 256 * c7)))))) ∧
    c0 = f (X % 256) ∧ c1 = f (X / 256 % 256) ∧ c2 = f (X / 256 / 256 % 256) ∧ c3 = f (X / 256 / 256 / 256 % 256) ∧ c4 = f (X / 256 / 256 / 256 / 256 % 256) ∧
    c5 = f (X / 256 / 256 / 256 / 256 / 256 % 256) ∧ c6 = f (X / 256 / 256 / 256 / 256 / 256 / 256 % 256) ∧ c7 = f (X / 256 / 256 / 256 / 256 / 256 / 256 / 256 % 256) :=
  ⟨_, _, _, _, _, _, _, _, by simp [mapB], rfl, rfl, rfl, rfl, rfl, rfl, rfl, rfl⟩
theorem pc64 (X : Nat) : pc 64 X = pc 8 (X % 256) + (pc 8 (X / 256 % 256) + (pc 8 (X / 256 / 256 % 256) + (pc 8 (X / 256 / 256 / 256 % 256) + (pc 8 (X / 256 / 256 / 256 / 256 % 256) +
    (pc 8 (X / 256 / 256 / 256 / 256 / 256 % 256) + (pc 8 (X / 256 / 256 / 256 / 256 / 256 / 256 % 256) + pc 8 (X / 256 / 256 / 256 / 256 / 256 / 256 / 256 % 256))))))) := by
  rw [show (64 : Nat) = 8 + (8 + (8 + (8 + (8 + (8 + (8 + (8 + 0))))))) from rfl]
  rw [pc_split, pc_split, pc_split, pc_split, pc_split, pc_split, pc_split, pc_split]
  rfl
/-- the sum of the bytes -/
def fold3 (V : Nat) : Nat :=
  let a := V + V / 256
  let b := a + a / 65536
  (b + b / 4294967296) % 128
theorem fold_a {c0 c1 c2 c3 c4 c5 c6 c7 V : Nat} (_h0 : c0 ≤ 8) (_h1 : c1 ≤ 8) (_h2 : c2 ≤ 8) (_h3 : c3 ≤ 8) (_h4 : c4 ≤ 8) (_h5 : c5 ≤ 8) (_h6 : c6 ≤ 8) (_h7 : c7 ≤ 8) (h : V = c0 + 256 * (c1 + 256 * (c2 + 256 * (c3 + 256 * (c4 + 256 * (c5 + 256 * (c6 + 256 * c7))))))) : V + V / 256 = (c0 + c1) + 256 * ((c1 + c2) + 256 * ((c2 + c3) + 256 * ((c3 + c4) + 256 * ((c4 + c5) + 256 * ((c5 + c6) + 256 * ((c6 + c7) + 256 * c7)))))) := by omega
theorem fold_b {c0 c1 c2 c3 c4 c5 c6 c7 V : Nat} (_h0 : c0 ≤ 8) (_h1 : c1 ≤ 8) (_h2 : c2 ≤ 8) (_h3 : c3 ≤ 8) (_h4 : c4 ≤ 8) (_h5 : c5 ≤ 8) (_h6 : c6 ≤ 8) (_h7 : c7 ≤ 8) (h : V = (c0 + c1) + 256 * ((c1 + c2) + 256 * ((c2 + c3) + 256 * ((c3 + c4) + 256 * ((c4 + c5) + 256 * ((c5 + c6) + 256 * ((c6 + c7) + 256 * c7))))))) : V + V / 65536 = (c0 + c1 + (c2 + c3)) + 256 * ((c1 + c2 + (c3 + c4)) + 256 * ((c2 + c3 + (c4 + c5)) + 256 * ((c3 + c4 + (c5 + c6)) + 256 * ((c4 + c5 + (c6 + c7)) + 256 * ((c5 + c6 + c7) + 256 * ((c6 + c7) + 256 * c7)))))) := by omega
theorem mod128 {s M V : Nat} (_h : s ≤ 64) (_e : V = s + 256 * M) : V % 128 = s := by omega
theorem fold_c {c0 c1 c2 c3 c4 c5 c6 c7 V : Nat} (_h0 : c0 ≤ 8) (_h1 : c1 ≤ 8) (_h2 : c2 ≤ 8) (_h3 : c3 ≤ 8) (_h4 : c4 ≤ 8) (_h5 : c5 ≤ 8) (_h6 : c6 ≤ 8) (_h7 : c7 ≤ 8) (h : V = (c0 + c1 + (c2 + c3)) + 256 * ((c1 + c2 + (c3 + c4)) + 256 * ((c2 + c3 + (c4 + c5)) + 256 * ((c3 + c4 + (c5 + c6)) + 256 * ((c4 + c5 + (c6 + c7)) + 256 * ((c5 + c6 + c7) + 256 * ((c6 + c7) + 256 * c7))))))) : (V + V / 4294967296) % 128 = c0 + (c1 + (c2 + (c3 + (c4 + (c5 + (c6 + c7)))))) := by
  have q : V / 4294967296 = (c4 + c5 + (c6 + c7)) + 256 * ((c5 + c6 + c7) + 256 * ((c6 + c7) + 256 * c7)) := by omega
  rw [q]
  exact mod128 (M := ((c1 + c2 + (c3 + c4)) + 256 * ((c2 + c3 + (c4 + c5)) + 256 * ((c3 + c4 + (c5 + c6)) + 256 * ((c4 + c5 + (c6 + c7)) + 256 * ((c5 + c6 + c7) + 256 * ((c6 + c7) + 256 * c7)))))) + ((c5 + c6 + c7) + 256 * ((c6 + c7) + 256 * c7))) (by omega) (by omega)
theorem fold3_eq (c0 c1 c2 c3 c4 c5 c6 c7 : Nat) (h0 : c0 ≤ 8) (h1 : c1 ≤ 8) (h2 : c2 ≤ 8) (h3 : c3 ≤ 8) (h4 : c4 ≤ 8) (h5 : c5 ≤ 8) (h6 : c6 ≤ 8) (h7 : c7 ≤ 8) :
    fold3 (c0 + 256 * (c1 + 256 * (c2 + 256 * (c3 + 256 * (c4 + 256 * (c5 + 256 * (c6 + 256 * c7))))))) = c0 + (c1 + (c2 + (c3 + (c4 + (c5 + (c6 + c7)))))) :=
  fold_c h0 h1 h2 h3 h4 h5 h6 h7 (fold_b h0 h1 h2 h3 h4 h5 h6 h7 (fold_a h0 h1 h2 h3 h4 h5 h6 h7 rfl))
theorem popcount (X : Nat) : fold3 (swar X) = pc 64 X := by
  have h := mapB8 (pc 8) X
  rw [← swar_eq] at h
  have hp := pc64 X
  generalize swar X = s at *
  generalize pc 64 X = p at *
  have k0 := pc_le 8 (X % 256)
  have k1 := pc_le 8 (X / 256 % 256)
  have k2 := pc_le 8 (X / 256 / 256 % 256)
  have k3 := pc_le 8 (X / 256 / 256 / 256 % 256)
  have k4 := pc_le 8 (X / 256 / 256 / 256 / 256 % 256)
  have k5 := pc_le 8 (X / 256 / 256 / 256 / 256 / 256 % 256)
  have k6 := pc_le 8 (X / 256 / 256 / 256 / 256 / 256 / 256 % 256)
  have k7 := pc_le 8 (X / 256 / 256 / 256 / 256 / 256 / 256 / 256 % 256)
  obtain ⟨c0, c1, c2, c3, c4, c5, c6, c7, e, h0, h1, h2, h3, h4, h5, h6, h7⟩ := h
  rw [← h0] at k0 hp
  rw [← h1] at k1 hp
  rw [← h2] at k2 hp
  rw [← h3] at k3 hp
  rw [← h4] at k4 hp
  rw [← h5] at k5 hp
  rw [← h6] at k6 hp
  rw [← h7] at k7 hp
  rw [e, hp]
  exact fold3_eq c0 c1 c2 c3 c4 c5 c6 c7 k0 k1 k2 k3 k4 k5 k6 k7
theorem swar_le (X : Nat) : swar X ≤ 0x0808080808080808 := by
  obtain ⟨c0, c1, c2, c3, c4, c5, c6, c7, e, h0, h1, h2, h3, h4, h5, h6, h7⟩ := mapB8 (pc 8) X
  have k0 : c0 ≤ 8 := h0 ▸ pc_le _ _
  have k1 : c1 ≤ 8 := h1 ▸ pc_le _ _
  have k2 : c2 ≤ 8 := h2 ▸ pc_le _ _
  have k3 : c3 ≤ 8 := h3 ▸ pc_le _ _
  have k4 : c4 ≤ 8 := h4 ▸ pc_le _ _
  have k5 : c5 ≤ 8 := h5 ▸ pc_le _ _
  have k6 : c6 ≤ 8 := h6 ▸ pc_le _ _
  have k7 : c7 ≤ 8 := h7 ▸ pc_le _ _
  rw [swar_eq, e]
  omega
end Go.Proofs.Ytamcfmfkmekkfaa
/- The contract of math/bits.OnesCount64: it returns the number of one bits. Condition: the argument is a uint64. -/
namespace Go.Proofs.Ytamcfmfkmekkfaa
open Go.RowKit
theorem and127 (n : Nat) (h : n < 9223372036854775808) : bits .and .i64 (n : Int) 127 = ((n % 128 : Nat) : Int) := by
  have h1 : (BitVec.ofInt 64 (n : Int)).toNat = n := ofInt_u64 n (by omega)
  have h2 : (BitVec.ofInt 64 (127 : Int)).toNat = 127 := by decide
  show IntKind.i64.wrap ((BitVec.ofInt 64 (n : Int) &&& BitVec.ofInt 64 127).toNat : Int) = _
  rw [BitVec.toNat_and, h1, h2, show (127 : Nat) = 2 ^ 7 - 1 from rfl, Nat.and_two_pow_sub_one_eq_mod]
  rw [IntWalk.i64_in _ (by omega)]
theorem and_lt' (x M : Nat) : x &&& M ≤ M := Nat.and_le_right
end Go.Proofs.Ytamcfmfkmekkfaa
/- Contracts of Count, Least and List of package bitset and of its reference, and of the reference's Ints. Condition: words are uint64s. -/
namespace Go.Proofs.Ytamcfmfkmekkfaa
open Go.RowKit
def onesI (x0 x1 x2 x3 : Int) : Int := (pc 64 x0.toNat + pc 64 x1.toNat + pc 64 x2.toNat + pc 64 x3.toNat : Nat)
theorem onesI_le (x0 x1 x2 x3 : Int) : 0 ≤ onesI x0 x1 x2 x3 ∧ onesI x0 x1 x2 x3 ≤ 256 := by
  have := pc_le 64 x0.toNat; have := pc_le 64 x1.toNat; have := pc_le 64 x2.toNat; have := pc_le 64 x3.toNat
  unfold onesI
  omega
def U64 (x : Int) : Prop := 0 ≤ x ∧ x ≤ 18446744073709551615
theorem ret_int {k : IntKind} {a b : Int} (h : a = b) : Ending.returned (.int k a) = .returned (.int k b) := by rw [h]
/-- no number below k is in the set -/
def NoneBelow (x0 x1 x2 x3 : Int) (k : Nat) : Prop := ∀ j : Nat, j < k → hasB x0 x1 x2 x3 j = false
def IsLeast (x0 x1 x2 x3 m : Int) : Prop := (m = -1 ∧ NoneBelow x0 x1 x2 x3 256) ∨ ∃ k : Nat, k < 256 ∧ m = k ∧ hasB x0 x1 x2 x3 k = true ∧ NoneBelow x0 x1 x2 x3 k
theorem IsLeast.one {x0 x1 x2 x3 m m' : Int} (h : IsLeast x0 x1 x2 x3 m) (h' : IsLeast x0 x1 x2 x3 m') : m = m' := by
  rcases h with ⟨rfl, h⟩ | ⟨k, hk, rfl, ht, hn⟩ <;> rcases h' with ⟨rfl, h'⟩ | ⟨k', hk', rfl, ht', hn'⟩
  · rfl
  · rw [h _ hk'] at ht'; cases ht'
  · rw [h' _ hk] at ht; cases ht
  · rcases Nat.lt_trichotomy k k' with hl | he | hl
    · rw [hn' _ hl] at ht; cases ht
    · rw [he]
    · rw [hn _ hl] at ht'; cases ht'
/-- the outcome of Least -/
def LeastOut (x0 x1 x2 x3 : Int) (w : World) (e : Ending) (w' : World) : Prop := ∃ m : Int, IsLeast x0 x1 x2 x3 m ∧ e = .returned (.int .i64 m) ∧ Below w.heap.size w w'
theorem NoneBelow.next {x0 x1 x2 x3 : Int} {k : Nat} (h : NoneBelow x0 x1 x2 x3 k) (hk : hasB x0 x1 x2 x3 k = false) : NoneBelow x0 x1 x2 x3 (k + 1) := fun j hj => by
  rcases Nat.lt_succ_iff_lt_or_eq.1 hj with h' | h'
  · exact h j h'
  · rw [h']; exact hk
end Go.Proofs.Ytamcfmfkmekkfaa
/- Plain facts that tie Has to the bits of words: sets are equal if Has agrees; how many elements there are. -/
namespace Go.Proofs.Ytamcfmfkmekkfaa
open Go.RowKit
theorem bitI_eq (q i : Nat) (hi : i < 64) : bitI ((64 * q + i : Nat) : Int) = ((2 ^ i : Nat) : Int) := by
  unfold bitI
  have e : (((64 * q + i : Nat) : Int) % 64).toNat = i := by omega
  have h : 2 ^ i < 2 ^ 64 := Nat.pow_lt_pow_right (by omega) hi
  rw [e, IntKind.wrap_u64]
  have h2 : ((2 : Int) ^ i) = ((2 ^ i : Nat) : Int) := by simp
  rw [h2]
  generalize 2 ^ i = p at *
  omega
theorem and_pow (X i : Nat) : X &&& 2 ^ i = if X.testBit i then 2 ^ i else 0 := by
  refine Nat.eq_of_testBit_eq fun j => ?_
  rw [Nat.testBit_and, Nat.testBit_two_pow]
  by_cases h : i = j
  · subst h
    cases e : X.testBit i <;> simp
  · cases e : X.testBit i <;> simp [h]
theorem and_bit (X i : Nat) (hi : i < 64) (hX : X < 18446744073709551616) : (bits .and .u64 (X : Int) ((2 ^ i : Nat) : Int) != 0) = X.testBit i := by
  have h : 2 ^ i < 2 ^ 64 := Nat.pow_lt_pow_right (by omega) hi
  have hp : 0 < 2 ^ i := Nat.two_pow_pos i
  rw [u64_and_nat X (2 ^ i) hX h, and_pow]
  generalize 2 ^ i = p at *
  cases X.testBit i
  · rfl
  · simp only [if_true]
    rw [bne_iff_ne]
    omega
/-- Has, word by word -/
theorem has0 (X0 : Nat) (x1 x2 x3 : Int) (i : Nat) (hi : i < 64) (hX : X0 < 18446744073709551616) : hasB X0 x1 x2 x3 ((64 * 0 + i : Nat) : Int) = X0.testBit i := by
  rw [hasB_in (by omega) (by omega), word0 (by omega), bitI_eq 0 i hi, and_bit X0 i hi hX]
theorem has1 (X1 : Nat) (x0 x2 x3 : Int) (i : Nat) (hi : i < 64) (hX : X1 < 18446744073709551616) : hasB x0 X1 x2 x3 ((64 * 1 + i : Nat) : Int) = X1.testBit i := by
  rw [hasB_in (by omega) (by omega), word1 (by omega) (by omega), bitI_eq 1 i hi, and_bit X1 i hi hX]
theorem has2 (X2 : Nat) (x0 x1 x3 : Int) (i : Nat) (hi : i < 64) (hX : X2 < 18446744073709551616) : hasB x0 x1 X2 x3 ((64 * 2 + i : Nat) : Int) = X2.testBit i := by
  rw [hasB_in (by omega) (by omega), word2 (by omega) (by omega), bitI_eq 2 i hi, and_bit X2 i hi hX]
theorem has3 (X3 : Nat) (x0 x1 x2 : Int) (i : Nat) (hi : i < 64) (hX : X3 < 18446744073709551616) : hasB x0 x1 x2 X3 ((64 * 3 + i : Nat) : Int) = X3.testBit i := by
  rw [hasB_in (by omega) (by omega), word3 (by omega), bitI_eq 3 i hi, and_bit X3 i hi hX]
theorem word_ext {X Y : Nat} (hX : X < 18446744073709551616) (hY : Y < 18446744073709551616) (h : ∀ i, i < 64 → X.testBit i = Y.testBit i) : X = Y := by
  refine Nat.eq_of_testBit_eq fun i => ?_
  by_cases hi : i < 64
  · exact h i hi
  · have hp : (2 : Nat) ^ 64 ≤ 2 ^ i := Nat.pow_le_pow_right (by omega) (by omega)
    rw [Nat.testBit_lt_two_pow (Nat.lt_of_lt_of_le hX hp), Nat.testBit_lt_two_pow (Nat.lt_of_lt_of_le hY hp)]
theorem nat_of {x : Int} (h : U64 x) : ∃ X : Nat, x = X ∧ X < 18446744073709551616 := ⟨x.toNat, by have := h.1; omega, by have := h.2; omega⟩
theorem sets_ext {x0 x1 x2 x3 y0 y1 y2 y3 : Int} (h0 : U64 x0) (h1 : U64 x1) (h2 : U64 x2) (h3 : U64 x3) (k0 : U64 y0) (k1 : U64 y1) (k2 : U64 y2) (k3 : U64 y3)
    (h : ∀ n : Nat, n < 256 → hasB x0 x1 x2 x3 n = hasB y0 y1 y2 y3 n) : x0 = y0 ∧ x1 = y1 ∧ x2 = y2 ∧ x3 = y3 := by
  obtain ⟨X0, rfl, a0⟩ := nat_of h0
  obtain ⟨X1, rfl, a1⟩ := nat_of h1
  obtain ⟨X2, rfl, a2⟩ := nat_of h2
  obtain ⟨X3, rfl, a3⟩ := nat_of h3
  obtain ⟨Y0, rfl, b0⟩ := nat_of k0
  obtain ⟨Y1, rfl, b1⟩ := nat_of k1
  obtain ⟨Y2, rfl, b2⟩ := nat_of k2
  obtain ⟨Y3, rfl, b3⟩ := nat_of k3
  refine ⟨congrArg Int.ofNat (word_ext a0 b0 fun i hi => ?_), congrArg Int.ofNat (word_ext a1 b1 fun i hi => ?_), congrArg Int.ofNat (word_ext a2 b2 fun i hi => ?_), congrArg Int.ofNat (word_ext a3 b3 fun i hi => ?_)⟩
  · have e := h (64 * 0 + i) (by omega); rwa [has0 X0 _ _ _ i hi a0, has0 Y0 _ _ _ i hi b0] at e
  · have e := h (64 * 1 + i) (by omega); rwa [has1 X1 _ _ _ i hi a1, has1 Y1 _ _ _ i hi b1] at e
  · have e := h (64 * 2 + i) (by omega); rwa [has2 X2 _ _ _ i hi a2, has2 Y2 _ _ _ i hi b2] at e
  · have e := h (64 * 3 + i) (by omega); rwa [has3 X3 _ _ _ i hi a3, has3 Y3 _ _ _ i hi b3] at e
end Go.Proofs.Ytamcfmfkmekkfaa
/- Contracts of Union, Meet and Minus of package bitset and of its reference. No conditions. -/
namespace Go.Proofs.Ytamcfmfkmekkfaa
open Go.RowKit
set_option maxHeartbeats 1000000 in
theorem union_c (x0 x1 x2 x3 y0 y1 y2 y3 : Int) (w : World) :
    Calls Try.prog 76 #[.agg #[.int .u64 x0, .int .u64 x1, .int .u64 x2, .int .u64 x3], .agg #[.int .u64 y0, .int .u64 y1, .int .u64 y2, .int .u64 y3]] w fun e w' =>
      e = .returned (.agg #[.int .u64 (bits .or .u64 x0 y0), .int .u64 (bits .or .u64 x1 y1), .int .u64 (bits .or .u64 x2 y2), .int .u64 (bits .or .u64 x3 y3)]) ∧ Below w.heap.size w w' := by
  go_enter Try.func76, Try.ntmps76
  go_wp2
  refine wp_loop_rounds 5 ?_
  iterate 4 (rw [rounds_succ]; go_wp2; go_region; go_wp2)
  rw [rounds_succ]
  go_wp2
  exact bodyPost_ret (v := .agg #[.int .u64 (bits .or .u64 x0 y0), .int .u64 (bits .or .u64 x1 y1), .int .u64 (bits .or .u64 x2 y2), .int .u64 (bits .or .u64 x3 y3)]) (by simp [results, Try.results76, go_sem]) rfl ⟨rfl, ((((((((Below.refl _ _).alloc (Nat.le_refl _) _).alloc (by simp) _).alloc (by simp; omega) _).drew).drew).drew).drew)⟩
end Go.Proofs.Ytamcfmfkmekkfaa
/- Contracts of Within, Of and All of package bitset and of its reference; equality of sets, as the walk meets it. -/
namespace Go.Proofs.Ytamcfmfkmekkfaa
open Go.RowKit
/-- equality of two sets, word by word; closed to the walk -/
def same4 (a b c d a' b' c' d' : Int) : Bool := decide (a = a' ∧ b = b' ∧ c = c' ∧ d = d')
@[go_sem] theorem same4_self (a b c d : Int) : same4 a b c d a b c d = true := by simp [same4]
@[go_sem] theorem eqSet (a b c d a' b' c' d' : Int) (w : World) :
    (Op.equalIn 10000 25 (.agg #[.int .u64 a, .int .u64 b, .int .u64 c, .int .u64 d]) (.agg #[.int .u64 a', .int .u64 b', .int .u64 c', .int .u64 d'])).run Try.prog w = .ok (same4 a b c d a' b' c' d') w := by
  have u3 := Try.underlying23
  have a3 := Try.isAgg23
  have z3 := Try.sizeOf23
  rw [show (10000 : Nat) = 9999 + 1 from rfl, Op.equalIn]
  simp only [Sem.run_bind, run_underlying Try.underlying25, Result.andThen_ok]
  simp only [Std.Legacy.Range.forIn_eq_forIn_range', Std.Legacy.Range.size, Nat.sub_zero, Nat.add_sub_cancel, Nat.div_one, List.range'_succ, List.range'_zero, List.forIn_cons, List.forIn_nil]
  go_simp
  by_cases h1 : a = a' <;> by_cases h2 : b = b' <;> by_cases h3 : c = c' <;> by_cases h4 : d = d' <;> simp [h1, h2, h3, h4, same4]
@[go_sem] theorem setZero (w : World) : (Instr.build 25 #[]).run Try.prog w = .ok (.agg #[.int .u64 0, .int .u64 0, .int .u64 0, .int .u64 0]) w := run_build w 25 _ _ (by kernel_rfl)
@[go_sem] theorem setTwo (a b : Int) (w : World) : (Instr.build 25 #[(0, .int .u64 a), (1, .int .u64 b)]).run Try.prog w = .ok (.agg #[.int .u64 a, .int .u64 b, .int .u64 0, .int .u64 0]) w := run_build w 25 _ _ (by kernel_rfl)
theorem bcell {W w1 : World} (hb : Below W.heap.size W w1) : (∀ b o, b < W.heap.size → w1.cell? ⟨b, o, none⟩ = W.cell? ⟨b, o, none⟩) ∧ (∀ b o, b < W.heap.size → w1.frozen? ⟨b, o, none⟩ = W.frozen? ⟨b, o, none⟩) :=
  ⟨fun b o h => hb.cell (p := ⟨b, o, none⟩) h, fun b o h => hb.frozen (p := ⟨b, o, none⟩) h⟩

end Go.Proofs.Ytamcfmfkmekkfaa
/- Words as bit vectors: the laws of algebra. No Go text walked here. -/
namespace Go.Proofs.Ytamcfmfkmekkfaa
open Go.RowKit
theorem u64_bv {x : Int} (h : U64 x) : ∃ b : BitVec 64, x = (b.toNat : Int) := by
  obtain ⟨X, rfl, hX⟩ := nat_of h
  exact ⟨BitVec.ofNat 64 X, by rw [BitVec.toNat_ofNat, Nat.mod_eq_of_lt (by omega)]⟩
theorem bv_u64 (b : BitVec 64) : U64 (b.toNat : Int) := by
  have := b.isLt
  unfold U64
  omega
theorem ofInt_bv (b : BitVec 64) : BitVec.ofInt 64 (b.toNat : Int) = b := by
  rw [BitVec.ofInt_natCast, BitVec.ofNat_toNat, BitVec.setWidth_eq]
theorem wrap_bv (b : BitVec 64) : IntKind.u64.wrap (b.toNat : Int) = (b.toNat : Int) := by
  have := b.isLt
  rw [IntKind.wrap_u64]
  omega
theorem bv_and (b c : BitVec 64) : bits .and .u64 (b.toNat : Int) (c.toNat : Int) = ((b &&& c).toNat : Int) := by
  show IntKind.u64.wrap ((BitVec.ofInt 64 (b.toNat : Int) &&& BitVec.ofInt 64 (c.toNat : Int)).toNat : Int) = _
  rw [ofInt_bv, ofInt_bv, wrap_bv]
theorem bv_or (b c : BitVec 64) : bits .or .u64 (b.toNat : Int) (c.toNat : Int) = ((b ||| c).toNat : Int) := by
  show IntKind.u64.wrap ((BitVec.ofInt 64 (b.toNat : Int) ||| BitVec.ofInt 64 (c.toNat : Int)).toNat : Int) = _
  rw [ofInt_bv, ofInt_bv, wrap_bv]
theorem bv_andNot (b c : BitVec 64) : bits .andNot .u64 (b.toNat : Int) (c.toNat : Int) = ((b &&& ~~~c).toNat : Int) := by
  show IntKind.u64.wrap ((BitVec.ofInt 64 (b.toNat : Int) &&& ~~~BitVec.ofInt 64 (c.toNat : Int)).toNat : Int) = _
  rw [ofInt_bv, ofInt_bv, wrap_bv]
theorem bv_inj {b c : BitVec 64} : (b.toNat : Int) = (c.toNat : Int) ↔ b = c := by
  rw [Int.ofNat_inj, BitVec.toNat_inj]
theorem and_u64 {x y : Int} (h : U64 x) (k : U64 y) : U64 (bits .and .u64 x y) := by
  obtain ⟨b, rfl⟩ := u64_bv h
  obtain ⟨c, rfl⟩ := u64_bv k
  rw [bv_and]; exact bv_u64 _
theorem or_u64 {x y : Int} (h : U64 x) (k : U64 y) : U64 (bits .or .u64 x y) := by
  obtain ⟨b, rfl⟩ := u64_bv h
  obtain ⟨c, rfl⟩ := u64_bv k
  rw [bv_or]; exact bv_u64 _
theorem andNot_u64 {x y : Int} (h : U64 x) (k : U64 y) : U64 (bits .andNot .u64 x y) := by
  obtain ⟨b, rfl⟩ := u64_bv h
  obtain ⟨c, rfl⟩ := u64_bv k
  rw [bv_andNot]; exact bv_u64 _
theorem and_eq_iff {x y : Int} (h : U64 x) (k : U64 y) : bits .and .u64 x y = x ↔ bits .andNot .u64 x y = 0 := by
  obtain ⟨b, rfl⟩ := u64_bv h
  obtain ⟨c, rfl⟩ := u64_bv k
  have z : ((0 : Int)) = ((0#64).toNat : Int) := rfl
  rw [bv_and, bv_andNot, z, bv_inj, bv_inj]
  constructor
  · intro e
    rw [← e]
    ext i hi
    simp
  · intro e
    ext i hi
    have := congrArg (fun v : BitVec 64 => v.getLsbD i) e
    simp [hi] at this
    simp
    intro hb
    exact this hb
theorem and_and_self {x y : Int} (h : U64 x) (k : U64 y) : bits .and .u64 (bits .and .u64 x y) x = bits .and .u64 x y := by
  obtain ⟨b, rfl⟩ := u64_bv h
  obtain ⟨c, rfl⟩ := u64_bv k
  rw [bv_and, bv_and, bv_inj]
  ext i hi
  simp
  intro hb _
  exact hb
theorem within_eq {x0 x1 x2 x3 y0 y1 y2 y3 : Int} (h0 : U64 x0) (h1 : U64 x1) (h2 : U64 x2) (h3 : U64 x3) (k0 : U64 y0) (k1 : U64 y1) (k2 : U64 y2) (k3 : U64 y3) :
    same4 (bits .andNot .u64 x0 y0) (bits .andNot .u64 x1 y1) (bits .andNot .u64 x2 y2) (bits .andNot .u64 x3 y3) 0 0 0 0 =
      same4 (bits .and .u64 x0 y0) (bits .and .u64 x1 y1) (bits .and .u64 x2 y2) (bits .and .u64 x3 y3) x0 x1 x2 x3 := by
  simp only [same4, and_eq_iff h0 k0, and_eq_iff h1 k1, and_eq_iff h2 k2, and_eq_iff h3 k3]
end Go.Proofs.Ytamcfmfkmekkfaa
/- Contracts of List of package bitset and of its reference, and of the reference's Count and Ints. Condition: words are uint64s. -/
namespace Go.Proofs.Ytamcfmfkmekkfaa
open Go.RowKit
/-- the elements below k, ascending -/
def elems (x0 x1 x2 x3 : Int) (k : Nat) : List Int := (below k).filter (hasB x0 x1 x2 x3)
theorem elems_le (x0 x1 x2 x3 : Int) (k : Nat) : (elems x0 x1 x2 x3 k).length ≤ k := by
  have h := List.length_filter_le (hasB x0 x1 x2 x3) (below k)
  have e : (below k).length = k := by simp [below]
  unfold elems
  omega
theorem below_succ (k : Nat) : below (k + 1) = below k ++ [(k : Int)] := by unfold below; rw [List.range_succ, List.map_append]; rfl
theorem elems_hit {x0 x1 x2 x3 : Int} {k : Nat} (h : hasB x0 x1 x2 x3 k = true) : elems x0 x1 x2 x3 (k + 1) = elems x0 x1 x2 x3 k ++ [(k : Int)] := by
  unfold elems; rw [below_succ, List.filter_append]; simp [h]
theorem elems_miss {x0 x1 x2 x3 : Int} {k : Nat} (h : hasB x0 x1 x2 x3 k = false) : elems x0 x1 x2 x3 (k + 1) = elems x0 x1 x2 x3 k := by
  unfold elems; rw [below_succ, List.filter_append]; simp [h]
/-- a slice of ints of the call's own -/
def Own (w : World) (base : Nat) (v : Value) (l : List Int) : Prop := w.ownsRow base 3 1 v l.length (l.map (Value.int .i64))
theorem Own.below {w w' : World} {base : Nat} {v : Value} {l : List Int} (h : Own w base v l) (hb : Below w.heap.size w w') : Own w' base v l := by
  refine ⟨h.1, ?_⟩
  rcases h.2 with h2 | ⟨g, cap, cur, hv, hg, hh, r⟩
  · exact .inl h2
  · have hlt : g < w.heap.size := by
      rcases Nat.lt_or_ge g w.heap.size with hlt | hge
      · exact hlt
      · rw [Array.getElem?_eq_none hge] at hh; cases hh
    exact .inr ⟨g, cap, cur, hv, hg, (hb.block g hlt).trans hh, r⟩
/-- .. as a slice that lies in memory -/
theorem Own.ints {w : World} {base : Nat} {v : Value} {l : List Int} (h : Own w base v l) : ∃ A cap, v = .slice A l.length cap ∧ Ints w A l := by
  rcases h.2 with ⟨hv, hn⟩ | ⟨g, cap, cur, hv, hg, hh, hnc, hcm, hsz, htake⟩
  · exact ⟨none, 0, by rw [hv, hn], fun i hi => absurd hi (by omega)⟩
  · refine ⟨some ⟨g, 0, none⟩, cap, hv, fun i hi => ⟨g, 0, rfl, ?_, ?_⟩⟩
    · have hx : (l.map (Value.int .i64))[i]? = some (.int .i64 (l.getD i 0)) := by simp [hi]
      rw [Nat.zero_add, cell_of_row w g i cur _ _ hh]
      rw [← htake, List.getElem?_take_of_lt (by omega)] at hx
      simpa using hx
    · rcases Nat.lt_or_ge g w.heap.size with hlt | hge
      · exact hlt
      · rw [Array.getElem?_eq_none hge] at hh; cases hh
theorem Try.infoInt : (Try.prog.info? 3).map (fun i => (i.zero, i.size, i.bytes)) = some (some (.int .i64 0), 1, 8) := by kernel_rfl
/-- the outcome of List -/
def ListOut (x0 x1 x2 x3 : Int) (w : World) (e : Ending) (w' : World) : Prop := ∃ v, Own w' w.heap.size v (elems x0 x1 x2 x3 256) ∧ e = .returned v ∧ Below w.heap.size w w'
theorem one_new {w : World} {t : TypeId} {u : Value} : ∀ j x, [u][j]? = some x → (w.alloc (.cells #[u] t)).cell? ((⟨w.heap.size, 0, none⟩ : Addr).add j) = some x := fun j x h => cell_one_new _ _ _ j x h
theorem getD_of {l : List Int} {k : Nat} (h : k < l.length) : l.getD k 0 = l[k] := by simp [h]
theorem list_ne {a b : List Int} {k : Nat} (ha : k < a.length) (hb : k < b.length) (h : a[k] ≠ b[k]) : decide (a = b) = false := by
  refine decide_eq_false fun e => h ?_
  subst e
  rfl
theorem list_eq {a b : List Int} (hl : a.length = b.length) (h : ∀ i (ha : i < a.length) (hb : i < b.length), a[i] = b[i]) : a = b := List.ext_getElem hl h
end Go.Proofs.Ytamcfmfkmekkfaa
/- Plain facts on lists of elements: how long they are, and that they make up the set; the least element. -/
namespace Go.Proofs.Ytamcfmfkmekkfaa
open Go.RowKit
theorem least_upTo (x0 x1 x2 x3 : Int) : ∀ k, k ≤ 256 → NoneBelow x0 x1 x2 x3 k ∨ ∃ j : Nat, j < 256 ∧ hasB x0 x1 x2 x3 j = true ∧ NoneBelow x0 x1 x2 x3 j
  | 0, _ => .inl fun _ h => absurd h (by omega)
  | k + 1, hk => by
    rcases least_upTo x0 x1 x2 x3 k (by omega) with h | h
    · cases hh : hasB x0 x1 x2 x3 k
      · exact .inl (h.next hh)
      · exact .inr ⟨k, by omega, hh, h⟩
    · exact .inr h
theorem least_ex (x0 x1 x2 x3 : Int) : ∃ m, IsLeast x0 x1 x2 x3 m := by
  rcases least_upTo x0 x1 x2 x3 256 (by omega) with h | ⟨j, hj, ht, hn⟩
  · exact ⟨-1, .inl ⟨rfl, h⟩⟩
  · exact ⟨j, .inr ⟨j, hj, rfl, ht, hn⟩⟩
theorem elems_word {x0 x1 x2 x3 : Int} (X q : Nat) (h : ∀ i, i < 64 → hasB x0 x1 x2 x3 ((64 * q + i : Nat) : Int) = X.testBit i) :
    ∀ i, i ≤ 64 → (elems x0 x1 x2 x3 (64 * q + i)).length = (elems x0 x1 x2 x3 (64 * q)).length + pc i X
  | 0, _ => rfl
  | i + 1, hi => by
    have ih := elems_word X q h i (by omega)
    have e := h i (by omega)
    show (elems x0 x1 x2 x3 ((64 * q + i) + 1)).length = (elems x0 x1 x2 x3 (64 * q)).length + (pc i X + (X.testBit i).toNat)
    cases hb : X.testBit i
    · rw [elems_miss (by rw [e, hb]), ih]; rfl
    · rw [elems_hit (by rw [e, hb]), List.length_append, ih]; rfl
theorem elems_count {x0 x1 x2 x3 : Int} (h0 : U64 x0) (h1 : U64 x1) (h2 : U64 x2) (h3 : U64 x3) : ((elems x0 x1 x2 x3 256).length : Int) = onesI x0 x1 x2 x3 := by
  obtain ⟨X0, rfl, a0⟩ := nat_of h0
  obtain ⟨X1, rfl, a1⟩ := nat_of h1
  obtain ⟨X2, rfl, a2⟩ := nat_of h2
  obtain ⟨X3, rfl, a3⟩ := nat_of h3
  have e0 := elems_word X0 0 (fun i hi => has0 X0 X1 X2 X3 i hi a0) 64 (by omega)
  have e1 := elems_word X1 1 (fun i hi => has1 X1 X0 X2 X3 i hi a1) 64 (by omega)
  have e2 := elems_word X2 2 (fun i hi => has2 X2 X0 X1 X3 i hi a2) 64 (by omega)
  have e3 := elems_word X3 3 (fun i hi => has3 X3 X0 X1 X2 i hi a3) 64 (by omega)
  have z : (elems X0 X1 X2 X3 (64 * 0)).length = 0 := rfl
  simp only [show 64 * 3 + 64 = 256 from rfl, show 64 * 2 + 64 = 64 * 3 from rfl, show 64 * 1 + 64 = 64 * 2 from rfl, show 64 * 0 + 64 = 64 * 1 from rfl] at e0 e1 e2 e3
  unfold onesI
  simp only [Int.toNat_natCast]
  omega
theorem withI_nat (n q : Nat) (x : Nat) (hx : x < 18446744073709551616) : ∃ y : Nat, withI n q x = y ∧ y < 18446744073709551616 ∧ ∀ i, i < 64 → y.testBit i = (x.testBit i || decide (64 * q + i = n)) := by
  by_cases h : 64 * q ≤ n ∧ n < 64 * q + 64
  · obtain ⟨j, rfl⟩ : ∃ j, n = 64 * q + j := ⟨n - 64 * q, by omega⟩
    have hj : j < 64 := by omega
    have hp : 2 ^ j < 2 ^ 64 := Nat.pow_lt_pow_right (by omega) hj
    refine ⟨x ||| 2 ^ j, ?_, Nat.or_lt_two_pow (n := 64) hx hp, fun i hi => ?_⟩
    · rw [withI_in (by omega) (by omega), bitI_eq q j hj, u64_or_nat x (2 ^ j) hx hp]
    · rw [Nat.testBit_or, Nat.testBit_two_pow]
      congr 1
      exact decide_eq_decide.2 ⟨fun e => by omega, fun e => by omega⟩
  · refine ⟨x, withI_out (by omega), hx, fun i hi => ?_⟩
    rw [decide_eq_false (by omega), Bool.or_false]
theorem ofI_nat (q : Nat) : ∀ (l : List Nat) (x : Nat), x < 18446744073709551616 → ∃ y : Nat, (l.map (fun (n : Nat) => (n : Int))).foldl (fun x n => withI n q x) (x : Int) = y ∧ y < 18446744073709551616 ∧ ∀ i, i < 64 → y.testBit i = (x.testBit i || decide (64 * q + i ∈ l))
  | [], x, hx => ⟨x, rfl, hx, fun i _ => by simp⟩
  | n :: l, x, hx => by
    obtain ⟨y, e, hy, hb⟩ := withI_nat n q x hx
    obtain ⟨z, e', hz, hb'⟩ := ofI_nat q l y hy
    refine ⟨z, by rw [List.map_cons, List.foldl_cons, e, e'], hz, fun i hi => ?_⟩
    rw [hb' i hi, hb i hi, Bool.or_assoc]
    congr 1
    by_cases h1 : 64 * q + i = n <;> by_cases h2 : 64 * q + i ∈ l <;> simp [h1, h2] <;> simp_all
/-- the elements as natural numbers -/
def elemsN (x0 x1 x2 x3 : Int) : List Nat := (List.range 256).filter fun (n : Nat) => hasB x0 x1 x2 x3 (n : Int)
theorem elems_map' (x0 x1 x2 x3 : Int) (k : Nat) : elems x0 x1 x2 x3 k = ((List.range k).filter fun (n : Nat) => hasB x0 x1 x2 x3 (n : Int)).map fun (n : Nat) => (n : Int) := by
  unfold elems Proofs.Ytamcfmfkmekkfaa.below
  rw [List.filter_map]
  simp only [Function.comp_def]
theorem elems_map (x0 x1 x2 x3 : Int) : elems x0 x1 x2 x3 256 = (elemsN x0 x1 x2 x3).map fun (n : Nat) => (n : Int) := elems_map' x0 x1 x2 x3 256
theorem ofI_elems {x0 x1 x2 x3 : Int} (X q : Nat) (hq : q < 4) (hX : X < 18446744073709551616) (h : ∀ i, i < 64 → hasB x0 x1 x2 x3 ((64 * q + i : Nat) : Int) = X.testBit i) :
    ofI (elems x0 x1 x2 x3 256) q = X := by
  obtain ⟨y, e, hy, hb⟩ := ofI_nat q (elemsN x0 x1 x2 x3) 0 (by omega)
  have e' : ofI (elems x0 x1 x2 x3 256) q = y := by rw [elems_map]; exact e
  rw [e']
  refine congrArg Int.ofNat (word_ext hy hX fun i hi => ?_)
  rw [hb i hi, Nat.zero_testBit, Bool.false_or]
  have hm : 64 * q + i ∈ elemsN x0 x1 x2 x3 ↔ hasB x0 x1 x2 x3 ((64 * q + i : Nat) : Int) = true := by
    unfold elemsN
    rw [List.mem_filter, List.mem_range]
    exact ⟨fun h => h.2, fun h => ⟨by omega, h⟩⟩
  rw [← h i hi]
  cases hh : hasB x0 x1 x2 x3 ((64 * q + i : Nat) : Int)
  · exact decide_eq_false (by rw [hm, hh]; simp)
  · exact decide_eq_true (by rw [hm, hh])
theorem ofI_all {x0 x1 x2 x3 : Int} (h0 : U64 x0) (h1 : U64 x1) (h2 : U64 x2) (h3 : U64 x3) :
    ofI (elems x0 x1 x2 x3 256) 0 = x0 ∧ ofI (elems x0 x1 x2 x3 256) 1 = x1 ∧ ofI (elems x0 x1 x2 x3 256) 2 = x2 ∧ ofI (elems x0 x1 x2 x3 256) 3 = x3 := by
  obtain ⟨X0, rfl, a0⟩ := nat_of h0
  obtain ⟨X1, rfl, a1⟩ := nat_of h1
  obtain ⟨X2, rfl, a2⟩ := nat_of h2
  obtain ⟨X3, rfl, a3⟩ := nat_of h3
  exact ⟨ofI_elems X0 0 (by omega) a0 fun i hi => has0 X0 X1 X2 X3 i hi a0, ofI_elems X1 1 (by omega) a1 fun i hi => has1 X1 X0 X2 X3 i hi a1,
    ofI_elems X2 2 (by omega) a2 fun i hi => has2 X2 X0 X1 X3 i hi a2, ofI_elems X3 3 (by omega) a3 fun i hi => has3 X3 X0 X1 X2 i hi a3⟩
end Go.Proofs.Ytamcfmfkmekkfaa
/- Sets as four words. No Go text walked. -/
namespace Go.Proofs.Ytamcfmfkmekkfaa
open Go.RowKit
structure S4 where
  (a b c d : Int)
deriving DecidableEq
def S4.zero : S4 := ⟨0, 0, 0, 0⟩
def S4.or (x y : S4) : S4 := ⟨bits .or .u64 x.a y.a, bits .or .u64 x.b y.b, bits .or .u64 x.c y.c, bits .or .u64 x.d y.d⟩
def ofS (l : List Int) : S4 := ⟨ofI l 0, ofI l 1, ofI l 2, ofI l 3⟩
def withS (n : Int) (x : S4) : S4 := ⟨withI n 0 x.a, withI n 1 x.b, withI n 2 x.c, withI n 3 x.d⟩
def hasS (x : S4) (n : Int) : Bool := hasB x.a x.b x.c x.d n
theorem wrap_U (x : Int) : U64 (IntKind.u64.wrap x) := by
  have e : IntKind.u64.wrap x = x % 18446744073709551616 := by simp [IntKind.wrap, IntKind.bits, IntKind.signed]
  rw [e]
  exact ⟨Int.emod_nonneg _ (by decide), by have := Int.emod_lt_of_pos x (b := 18446744073709551616) (by decide); omega⟩
theorem bits_U (o : BinOp) (x y : Int) : U64 (bits o .u64 x y) := wrap_U _
theorem or_comm' (x y : Int) : bits .or .u64 x y = bits .or .u64 y x := by
  unfold bits
  simp only [BitVec.or_comm]
theorem zero_or {x : Int} (h : U64 x) : bits .or .u64 0 x = x := by
  obtain ⟨b, rfl⟩ := u64_bv h
  have := bv_or 0#64 b
  simpa using this
structure S4.U (x : S4) : Prop where
  a : U64 x.a
  b : U64 x.b
  c : U64 x.c
  d : U64 x.d
theorem U_zero : S4.zero.U := ⟨⟨by decide, by decide⟩, ⟨by decide, by decide⟩, ⟨by decide, by decide⟩, ⟨by decide, by decide⟩⟩
theorem U_or (x y : S4) : (x.or y).U := ⟨bits_U .or x.a y.a, bits_U .or x.b y.b, bits_U .or x.c y.c, bits_U .or x.d y.d⟩
theorem S4.or_comm (x y : S4) : x.or y = y.or x := by
  unfold S4.or
  rw [or_comm' x.a, or_comm' x.b, or_comm' x.c, or_comm' x.d]
theorem S4.zero_or {x : S4} (h : x.U) : S4.zero.or x = x := by
  unfold S4.or
  show S4.mk (bits .or .u64 0 x.a) (bits .or .u64 0 x.b) (bits .or .u64 0 x.c) (bits .or .u64 0 x.d) = x
  rw [Go.Proofs.Ytamcfmfkmekkfaa.zero_or h.a, Go.Proofs.Ytamcfmfkmekkfaa.zero_or h.b, Go.Proofs.Ytamcfmfkmekkfaa.zero_or h.c, Go.Proofs.Ytamcfmfkmekkfaa.zero_or h.d]
theorem or_zero {x : Int} (h : U64 x) : bits .or .u64 x 0 = x := by rw [or_comm']; exact zero_or h
theorem withI_or (n q : Int) {x : Int} (h : U64 x) : withI n q x = bits .or .u64 x (withI n q 0) := by
  have hb : U64 (bitI n) := wrap_U _
  by_cases hc : 64 * q ≤ n ∧ n < 64 * q + 64
  · rw [withI_in hc.1 hc.2, withI_in hc.1 hc.2, zero_or hb]
  · rw [withI_out (by omega), withI_out (by omega), or_zero h]
theorem withS_or (k : Int) {S : S4} (h : S.U) : withS k S = S.or (ofS [k]) := by
  unfold withS S4.or ofS ofI
  simp only [List.foldl_cons, List.foldl_nil]
  rw [withI_or k 0 h.a, withI_or k 1 h.b, withI_or k 2 h.c, withI_or k 3 h.d]
theorem ofI_word (l : List Nat) (q : Nat) : ∃ y : Nat, ofI (l.map (fun (n : Nat) => (n : Int))) q = y ∧ y < 18446744073709551616 ∧ ∀ i, i < 64 → y.testBit i = decide (64 * q + i ∈ l) := by
  obtain ⟨y, e, hy, hb⟩ := ofI_nat q l 0 (by decide)
  exact ⟨y, e, hy, fun i hi => by rw [hb i hi]; simp⟩
theorem has_of (l : List Nat) {n : Nat} (h : n < 256) : hasS (ofS (l.map (fun (n : Nat) => (n : Int)))) n = decide (n ∈ l) := by
  unfold hasS ofS
  obtain ⟨X0, e0, h0, b0⟩ := ofI_word l 0
  obtain ⟨X1, e1, h1, b1⟩ := ofI_word l 1
  obtain ⟨X2, e2, h2, b2⟩ := ofI_word l 2
  obtain ⟨X3, e3, h3, b3⟩ := ofI_word l 3
  have e0' : ofI (l.map (fun (n : Nat) => (n : Int))) 0 = X0 := e0
  have e1' : ofI (l.map (fun (n : Nat) => (n : Int))) 1 = X1 := e1
  have e2' : ofI (l.map (fun (n : Nat) => (n : Int))) 2 = X2 := e2
  have e3' : ofI (l.map (fun (n : Nat) => (n : Int))) 3 = X3 := e3
  simp only [e0', e1', e2', e3']
  obtain ⟨q, i, hi, rfl⟩ : ∃ q i, i < 64 ∧ n = 64 * q + i := ⟨n / 64, n % 64, by omega, by omega⟩
  have hq : q = 0 ∨ q = 1 ∨ q = 2 ∨ q = 3 := by omega
  rcases hq with rfl | rfl | rfl | rfl
  · rw [has0 _ _ _ _ i hi h0, b0 i hi]
  · rw [has1 _ _ _ _ i hi h1, b1 i hi]
  · rw [has2 _ _ _ _ i hi h2, b2 i hi]
  · rw [has3 _ _ _ _ i hi h3, b3 i hi]
theorem s4_ext {x y : S4} (hx : x.U) (hy : y.U) (h : ∀ n : Nat, n < 256 → hasS x n = hasS y n) : x = y := by
  obtain ⟨a, b, c, d⟩ := sets_ext hx.a hx.b hx.c hx.d hy.a hy.b hy.c hy.d h
  cases x; cases y
  simp only at a b c d
  subst a b c d
  rfl
theorem has_word {x : S4} (hx : x.U) {i : Nat} (hi : i < 64) : hasS x ((64 * 0 + i : Nat) : Int) = x.a.toNat.testBit i ∧ hasS x ((64 * 1 + i : Nat) : Int) = x.b.toNat.testBit i ∧ hasS x ((64 * 2 + i : Nat) : Int) = x.c.toNat.testBit i ∧ hasS x ((64 * 3 + i : Nat) : Int) = x.d.toNat.testBit i := by
  obtain ⟨X0, e0, h0⟩ := nat_of hx.a
  obtain ⟨X1, e1, h1⟩ := nat_of hx.b
  obtain ⟨X2, e2, h2⟩ := nat_of hx.c
  obtain ⟨X3, e3, h3⟩ := nat_of hx.d
  unfold hasS
  simp only [e0, e1, e2, e3, Int.toNat_natCast]
  exact ⟨has0 _ _ _ _ i hi h0, has1 _ _ _ _ i hi h1, has2 _ _ _ _ i hi h2, has3 _ _ _ _ i hi h3⟩
theorem has_three {x y z : S4} (hx : x.U) (hy : y.U) (hz : z.U) (f : Bool → Bool → Bool)
    (ha : ∀ i, i < 64 → z.a.toNat.testBit i = f (x.a.toNat.testBit i) (y.a.toNat.testBit i)) (hb : ∀ i, i < 64 → z.b.toNat.testBit i = f (x.b.toNat.testBit i) (y.b.toNat.testBit i))
    (hc : ∀ i, i < 64 → z.c.toNat.testBit i = f (x.c.toNat.testBit i) (y.c.toNat.testBit i)) (hd : ∀ i, i < 64 → z.d.toNat.testBit i = f (x.d.toNat.testBit i) (y.d.toNat.testBit i))
    {n : Nat} (h : n < 256) : hasS z n = f (hasS x n) (hasS y n) := by
  obtain ⟨q, i, hi, rfl⟩ : ∃ q i, i < 64 ∧ n = 64 * q + i := ⟨n / 64, n % 64, by omega, by omega⟩
  obtain ⟨x0, x1, x2, x3⟩ := has_word hx hi
  obtain ⟨y0, y1, y2, y3⟩ := has_word hy hi
  obtain ⟨z0, z1, z2, z3⟩ := has_word hz hi
  have hq : q = 0 ∨ q = 1 ∨ q = 2 ∨ q = 3 := by omega
  rcases hq with rfl | rfl | rfl | rfl
  · rw [x0, y0, z0, ha i hi]
  · rw [x1, y1, z1, hb i hi]
  · rw [x2, y2, z2, hc i hi]
  · rw [x3, y3, z3, hd i hi]
theorem or_bit {x y : Int} (h : U64 x) (k : U64 y) (i : Nat) : (bits .or .u64 x y).toNat.testBit i = (x.toNat.testBit i || y.toNat.testBit i) := by
  obtain ⟨b, rfl⟩ := u64_bv h
  obtain ⟨c, rfl⟩ := u64_bv k
  rw [bv_or, Int.toNat_natCast, Int.toNat_natCast, Int.toNat_natCast, BitVec.toNat_or, Nat.testBit_or]
theorem has_or {x y : S4} (hx : x.U) (hy : y.U) {n : Nat} (h : n < 256) : hasS (x.or y) n = (hasS x n || hasS y n) :=
  has_three hx hy (U_or x y) (fun a b => a || b) (fun _ _ => or_bit hx.a hy.a _) (fun _ _ => or_bit hx.b hy.b _) (fun _ _ => or_bit hx.c hy.c _) (fun _ _ => or_bit hx.d hy.d _) h
theorem has_zero {n : Nat} (h : n < 256) : hasS S4.zero n = false := by
  have e : S4.zero = ofS (([] : List Nat).map (fun (n : Nat) => (n : Int))) := rfl
  rw [e, has_of _ h]
  exact decide_eq_false (by simp)
theorem has_one (j : Nat) {n : Nat} (h : n < 256) : hasS (ofS [(j : Int)]) n = decide (n = j) := by
  have e := has_of [j] h
  rw [show ([j].map (fun (n : Nat) => (n : Int))) = [(j : Int)] from rfl] at e
  rw [e]
  exact decide_eq_decide.2 (by simp)
theorem ofS1_U (k : Int) : (ofS [k]).U := by
  have u : ∀ q, U64 (ofI [k] q) := fun q => by
    unfold ofI
    rw [List.foldl_cons, List.foldl_nil]
    unfold withI
    split
    · exact bits_U _ _ _
    · exact ⟨by decide, by decide⟩
  exact ⟨u 0, u 1, u 2, u 3⟩
theorem withS_U (k : Int) {S : S4} (h : S.U) : (withS k S).U := by rw [withS_or k h]; exact U_or _ _
theorem has_with (k : Nat) {S : S4} (h : S.U) {n : Nat} (hn : n < 256) : hasS (withS k S) n = (hasS S n || decide (n = k)) := by
  rw [withS_or k h, has_or h (ofS1_U k) hn, has_one k hn]
theorem hasS_in {s : S4} {n : Int} (h : hasS s n = true) : 0 ≤ n ∧ n < 256 := by
  unfold hasS hasB at h
  simp only [Bool.and_eq_true, decide_eq_true_eq] at h
  exact ⟨h.1, h.2.1⟩
theorem has_withI {k : Int} (hk : 0 ≤ k ∧ k < 256) {S : S4} (h : S.U) (n : Int) : hasS (withS k S) n = (hasS S n || decide (n = k)) := by
  by_cases hn : 0 ≤ n ∧ n < 256
  · have e1 : n = ((n.toNat : Nat) : Int) := by omega
    have e2 : k = ((k.toNat : Nat) : Int) := by omega
    rw [e1, e2, has_with _ h (by omega)]
    congr 1
    exact decide_eq_decide.2 (by omega)
  · have e : ∀ s : S4, hasS s n = false := fun s => by
      rw [Bool.eq_false_iff]
      exact fun k => hn (hasS_in k)
    rw [e, e, decide_eq_false (by omega)]
    rfl
theorem s4_extI {x y : S4} (hx : x.U) (hy : y.U) (h : ∀ n : Int, hasS x n = hasS y n) : x = y := s4_ext hx hy fun n _ => h n
end Go.Proofs.Ytamcfmfkmekkfaa
/- Memory, over any program: a block that is known whole; a class of worlds for regions that draw their order; all but one block as it was. -/
namespace Go.Proofs.Ytamcfmfkmekkfaa
open Go.RowKit
/-- block g is just the cells cs of type t -/
def Blk (w : World) (g : Nat) (t : TypeId) (cs : Array Value) : Prop := w.heap[g]? = some (.cells cs t (0, 0))
section
variable {w w' : World} {g : Nat} {t : TypeId} {cs : Array Value}
theorem Blk.cell (h : Blk w g t cs) (i : Nat) : w.cell? ⟨g, i, none⟩ = cs[i]? := cell_of_row w g i cs t (0, 0) h
theorem Blk.frozen (h : Blk w g t cs) (i : Nat) : w.frozen? ⟨g, i, none⟩ = false := by
  unfold Blk at h
  simp [World.frozen?, h]
theorem Blk.lt (h : Blk w g t cs) : g < w.heap.size := by
  rcases Nat.lt_or_ge g w.heap.size with hlt | hge
  · exact hlt
  · unfold Blk at h; rw [Array.getElem?_eq_none hge] at h; cases h
theorem Blk.new (w : World) (t : TypeId) (cs : Array Value) : Blk (w.alloc (.cells cs t)) w.heap.size t cs := heap_alloc_new w _
theorem Blk.here (hg : g = w.heap.size) : Blk (w.alloc (.cells cs t)) g t cs := hg ▸ Blk.new w t cs
theorem Blk.alloc (h : Blk w g t cs) (o : Obj) : Blk (w.alloc o) g t cs := (Below.heap_alloc w o g h.lt).trans h
theorem Blk.drew (h : Blk w g t cs) : Blk w.drew g t cs := h
theorem Blk.drewN (h : Blk w g t cs) (n : Nat) : Blk (w.drewN n) g t cs := h
theorem Blk.below {B : Nat} (h : Blk w g t cs) (hb : Below B w w') (hg : g < B) : Blk w' g t cs := (hb.block g hg).trans h
theorem Blk.keep (h : Blk w g t cs) (hb : Below w.heap.size w w') : Blk w' g t cs := h.below hb h.lt
theorem Blk.set (h : Blk w g t cs) (i : Nat) (u : Value) : Blk (w.setCell ⟨g, i, none⟩ u) g t (cs.setIfInBounds i u) := by
  unfold Blk at h ⊢
  simp [World.setCell, Array.getElem?_modify, h]
theorem Blk.far (h : Blk w g t cs) {p : Addr} (hp : g ≠ p.block) (u : Value) : Blk (w.setCell p u) g t cs := (Below.heap_setCell w p u g hp).trans h
end
/-- the class: all that was there in W is as it was -/
def Kp (W w : World) : Prop := Below W.heap.size W w
section
variable {W w w' : World}
theorem Kp.rfl' : Kp W W := Below.refl _ _
theorem Kp.drew (h : Kp W w) : Kp W w.drew := Below.drew h
theorem Kp.alloc (h : Kp W w) (o : Obj) : Kp W (w.alloc o) := Below.alloc h (Below.size h) o
theorem Kp.step (h : Kp W w) (hb : Below w.heap.size w w') : Kp W w' := Below.trans h (hb.mono (Below.size h))
theorem Kp.size (h : Kp W w) : W.heap.size ≤ w.heap.size := Below.size h
theorem Kp.blk (hC : Kp W w) {g : Nat} {t : TypeId} {cs : Array Value} (h : Blk W g t cs) : Blk w g t cs := h.below hC h.lt
theorem Kp.onto {B : Nat} {w0 : World} (h0 : Below B w0 W) (h : Kp W w) (hB : B ≤ W.heap.size) : Below B w0 w := h0.trans (Below.mono h hB)
theorem wp_region_kp {P : Program} {id : Nat} {Q : Exit → Act → World → Prop} {a : Act} {w : World} {l : List Oper} (hm : P.follows .mixedOrders = true) (hB : Region.lexB .any l.toArray = true)
    (h : wpQuiet P l.toArray (Kp w) (fun a' => ∀ w', Kp w w' → Q .normal a' w') l a) : (Code.region id l.toArray true).wp P Q a w :=
  wp_region_quiet (C := Kp w) hm hB (Below.refl _ _).drew (by simpa using h)
theorem Kp.call {P : Program} {f : FuncId} {args : Array Value} {w0 w : World} {v : Value} (hC : Kp w0 w)
    (h : Calls P f args w fun e w' => e = .returned v ∧ Below w.heap.size w w') : Calls P f args w fun e w'' => e = .returned v ∧ Kp w0 w'' :=
  h.mono fun _ _ ⟨he, hb⟩ => ⟨he, hC.step hb⟩
theorem Kp.call_same {P : Program} {f : FuncId} {args : Array Value} {w0 w : World} {v : Value} (hC : Kp w0 w)
    (h : Calls P f args w fun e w' => e = .returned v ∧ w' = w) : Calls P f args w fun e w'' => e = .returned v ∧ Kp w0 w'' :=
  h.mono fun _ _ ⟨he, hb⟩ => ⟨he, hb ▸ hC⟩
end
/-- below block B, all but block sb is as it was -/
structure But (B sb : Nat) (w w' : World) : Prop where
  os : w'.os = w.os
  tape : w'.tape = w.tape
  output : w'.output = w.output
  size : w.heap.size ≤ w'.heap.size
  block : ∀ k, k < B → k ≠ sb → w'.heap[k]? = w.heap[k]?
section
variable {B sb : Nat} {a w w' : World}
theorem But.refl : But B sb w w := ⟨rfl, rfl, rfl, Nat.le_refl _, fun _ _ _ => rfl⟩
theorem But.trans (h : But B sb a w) (k : But B sb w w') : But B sb a w' :=
  ⟨k.os.trans h.os, k.tape.trans h.tape, k.output.trans h.output, Nat.le_trans h.size k.size, fun i hi hn => (k.block i hi hn).trans (h.block i hi hn)⟩
theorem But.mono {B' : Nat} (h : But B sb w w') (hB : B' ≤ B) : But B' sb w w' := ⟨h.os, h.tape, h.output, h.size, fun i hi hn => h.block i (Nat.lt_of_lt_of_le hi hB) hn⟩
theorem But.of_below (h : Below B w w') : But B sb w w' := ⟨h.os, h.tape, h.output, h.size, fun i hi _ => h.block i hi⟩
theorem But.below (h : But B sb a w) (k : Below B w w') : But B sb a w' := h.trans (But.of_below k)
theorem But.alloc (h : But B sb a w) (hB : B ≤ w.heap.size) (o : Obj) : But B sb a (w.alloc o) := h.below ((Below.refl _ _).alloc hB o)
theorem But.drew (h : But B sb a w) : But B sb a w.drew := h.below (Below.refl _ _).drew
theorem But.setCell (h : But B sb a w) {p : Addr} (hp : p.block = sb ∨ B ≤ p.block) (u : Value) : But B sb a (w.setCell p u) := by
  refine h.trans ⟨rfl, rfl, rfl, by simp [World.setCell], fun i hi hn => Below.heap_setCell w p u i ?_⟩
  rintro rfl
  rcases hp with hp | hp
  · exact hn hp
  · omega
theorem But.to_below (h : But B sb w w') (hs : B ≤ sb) : Below B w w' := ⟨h.os, h.tape, h.output, h.size, fun i hi => h.block i hi (by omega)⟩
theorem But.blk {g : Nat} {t : TypeId} {cs : Array Value} (h : But B sb w w') (hb : Blk w g t cs) (hg : g < B) (hn : g ≠ sb) : Blk w' g t cs := (h.block g hg hn).trans hb
theorem But.cell (h : But B sb w w') {p : Addr} (hp : p.block < B) (hn : p.block ≠ sb) : w'.cell? p = w.cell? p := World.cell?_of_block (h.block _ hp hn)
end
end Go.Proofs.Ytamcfmfkmekkfaa
/- Slices of texts in memory. -/
namespace Go.Proofs.Ytamcfmfkmekkfaa
open Go.RowKit
def SRow (w : World) (g o : Nat) (l : List ByteArray) : Prop := ∀ k (h : k < l.length), w.cell? ⟨g, o + k, none⟩ = some (.string l[k])
/-- a slice that reads as these texts -/
def Strs (w : World) (v : Value) (l : List ByteArray) : Prop := ∃ ao cap, v = .slice ao l.length cap ∧ (l ≠ [] → ∃ g o, ao = some ⟨g, o, none⟩ ∧ SRow w g o l)
theorem below_drewN {B : Nat} {w : World} (n : Nat) : Below B w (w.drewN n) := ⟨rfl, rfl, rfl, Nat.le_refl _, fun _ _ => rfl⟩
section
variable {w w' : World} {v : Value} {l : List ByteArray} {g o : Nat}
theorem SRow.lt (h : SRow w g o l) (hl : 0 < l.length) : g < w.heap.size := by
  have := h 0 hl
  rcases Nat.lt_or_ge g w.heap.size with h' | h'
  · exact h'
  · simp [World.cell?, Array.getElem?_eq_none h'] at this
theorem SRow.keep (h : SRow w g o l) (hb : w'.heap[g]? = w.heap[g]?) : SRow w' g o l := fun k hk => (World.cell?_of_block hb).trans (h k hk)
theorem Strs.nil : Strs w (.slice none 0 0) [] := ⟨none, 0, rfl, fun h => absurd rfl h⟩
theorem Strs.keep (h : Strs w v l) (hb : Below w.heap.size w w') : Strs w' v l := by
  obtain ⟨ao, cap, rfl, hr⟩ := h
  refine ⟨ao, cap, rfl, fun hl => ?_⟩
  obtain ⟨g, o, rfl, hR⟩ := hr hl
  exact ⟨g, o, rfl, hR.keep (hb.block g (hR.lt (List.length_pos_iff.2 hl)))⟩
end
def sameS (l m : List ByteArray) : Bool := decide (l = m)
theorem sameS_self (l : List ByteArray) : sameS l l = true := decide_eq_true rfl
theorem sameS_len {l m : List ByteArray} (h : l.length ≠ m.length) : sameS l m = false := decide_eq_false fun e => h (by rw [e])
theorem sameS_no {l m : List ByteArray} {i : Nat} (h1 : i < l.length) (h2 : i < m.length) (h : l[i] ≠ m[i]) : sameS l m = false := decide_eq_false fun e => h (by subst e; rfl)
theorem sameS_yes {l m : List ByteArray} (h : l.length = m.length) (hk : ∀ k (h1 : k < l.length) (h2 : k < m.length), l[k] = m[k]) : sameS l m = true := decide_eq_true (List.ext_getElem h hk)
theorem bytes_beq (a b : ByteArray) : (a.toList == b.toList) = decide (a = b) := by
  rw [Bool.eq_iff_iff]
  simp only [beq_iff_eq, decide_eq_true_eq]
  constructor
  · intro h
    rw [ByteArray.toList_eq, ByteArray.toList_eq] at h
    exact ByteArray.ext (Array.toList_inj.1 h)
  · rintro rfl; rfl
end Go.Proofs.Ytamcfmfkmekkfaa
/- Expressions, and expressions in memory. -/
namespace Go.Proofs.Ytamcfmfkmekkfaa
open Go.RowKit
def I64 (x : Int) : Prop := -9223372036854775808 ≤ x ∧ x ≤ 9223372036854775807
def U32 (x : Int) : Prop := 0 ≤ x ∧ x ≤ 4294967295
def TxW (l : List ByteArray) : Prop := ∀ s ∈ l, s.size ≤ 9223372036854775807
inductive X where
  | mk (op a r b : Int) (ns : List ByteArray) (st : S4) (ks : List X)
def X.op : X → Int | .mk o _ _ _ _ _ _ => o
def X.a : X → Int | .mk _ a _ _ _ _ _ => a
def X.r : X → Int | .mk _ _ r _ _ _ _ => r
def X.b : X → Int | .mk _ _ _ b _ _ _ => b
def X.ns : X → List ByteArray | .mk _ _ _ _ n _ _ => n
def X.st : X → S4 | .mk _ _ _ _ _ s _ => s
def X.ks : X → List X | .mk _ _ _ _ _ _ k => k
/-- a slice of elements of sz cells, each of which reads as C says -/
def SlR {α : Type} (sz : Nat) (C : World → Nat → Nat → α → Prop) (w : World) (v : Value) (L : List α) : Prop :=
  ∃ ao cap, v = .slice ao L.length cap ∧ L.length ≤ cap ∧ (L ≠ [] → ∃ g o, ao = some ⟨g, o, none⟩ ∧ g < w.heap.size ∧ ∀ i (h : i < L.length), C w g (o + i * sz) L[i])
theorem SlR.keep {α : Type} {sz : Nat} {C : World → Nat → Nat → α → Prop} {w w' : World} (hC : ∀ {g o : Nat} {x : α}, g < w.heap.size → C w g o x → C w' g o x) {v : Value} {L : List α} (h : SlR sz C w v L) (hb : Below w.heap.size w w') : SlR sz C w' v L := by
  obtain ⟨ao, cap, rfl, hc, hr⟩ := h
  refine ⟨ao, cap, rfl, hc, fun hl => ?_⟩
  obtain ⟨g, o, rfl, hg, hR⟩ := hr hl
  exact ⟨g, o, rfl, Nat.lt_of_lt_of_le hg hb.size, fun i hi => hC hg (hR i hi)⟩
theorem SlR.nil {α : Type} {sz : Nat} {C : World → Nat → Nat → α → Prop} {w : World} : SlR sz C w (.slice none 0 0) [] := ⟨none, 0, rfl, Nat.le_refl _, fun h => absurd rfl h⟩
theorem SlR.form {α : Type} {sz : Nat} {C : World → Nat → Nat → α → Prop} {w : World} {v : Value} {L : List α} (h : SlR sz C w v L) : ∃ ao cap, v = .slice ao L.length cap := by
  obtain ⟨ao, cap, rfl, _⟩ := h
  exact ⟨ao, cap, rfl⟩
/-- the elements' place -/
theorem SlR.row {α : Type} {sz : Nat} {C : World → Nat → Nat → α → Prop} {w : World} {ao : Option Addr} {n cap : Nat} {L : List α} (h : SlR sz C w (.slice ao n cap) L) {i : Nat} (hi : i < L.length) :
    ∃ g o, ao = some ⟨g, o, none⟩ ∧ g < w.heap.size ∧ ∀ i (h : i < L.length), C w g (o + i * sz) L[i] := by
  obtain ⟨ao', cap', e, _, hr⟩ := h
  simp only [Value.slice.injEq] at e
  obtain ⟨rfl, _, _⟩ := e
  exact hr (fun e => by subst e; exact absurd hi (by simp))
/-- what is known of a node by itself -/
structure XW (op a r b : Int) (ns : List ByteArray) (st : S4) (nk : Nat) : Prop where
  op : I64 op
  a : I64 a
  r : I64 r
  b : I64 b
  tx : TxW ns
  st : U64 st.a ∧ U64 st.b ∧ U64 st.c ∧ U64 st.d
  nn : ns.length ≤ maxLen
  nk : nk ≤ maxLen
mutual
def XAt (w : World) : Nat → Nat → X → Prop
  | g, o, .mk op a r b ns st ks => w.cell? ⟨g, o, none⟩ = some (.int .i64 op) ∧ w.cell? ⟨g, o + 1, none⟩ = some (.int .i64 a) ∧ w.cell? ⟨g, o + 2, none⟩ = some (.int .i64 r) ∧ w.cell? ⟨g, o + 3, none⟩ = some (.int .i64 b) ∧
    (∃ va, w.cell? ⟨g, o + 4, none⟩ = some va ∧ Strs w va ns) ∧ w.cell? ⟨g, o + 5, none⟩ = some (.int .u64 st.a) ∧ w.cell? ⟨g, o + 6, none⟩ = some (.int .u64 st.b) ∧ w.cell? ⟨g, o + 7, none⟩ = some (.int .u64 st.c) ∧ w.cell? ⟨g, o + 8, none⟩ = some (.int .u64 st.d) ∧
    (∃ ao cap, w.cell? ⟨g, o + 9, none⟩ = some (.slice ao ks.length cap) ∧ ks.length ≤ cap ∧ (ks ≠ [] → ∃ g' o', ao = some ⟨g', o', none⟩ ∧ g' < w.heap.size ∧ XRow w g' o' ks)) ∧
    XW op a r b ns st ks.length
def XRow (w : World) : Nat → Nat → List X → Prop
  | _, _, [] => True
  | g, o, k :: r => XAt w g o k ∧ XRow w g (o + 10) r
end
theorem XRow_at {w : World} : ∀ {g o : Nat} {ks : List X}, XRow w g o ks → ∀ i (h : i < ks.length), XAt w g (o + i * 10) ks[i]
  | g, o, [], _, i, hi => absurd hi (by simp)
  | g, o, k :: r, h, 0, _ => by
    unfold XRow at h
    simpa using h.1
  | g, o, k :: r, h, i + 1, hi => by
    unfold XRow at h
    have := XRow_at h.2 i (by simpa using hi)
    rw [show o + (i + 1) * 10 = o + 10 + i * 10 by omega]
    simpa using this
theorem XRow_of {w : World} : ∀ {g o : Nat} {ks : List X}, (∀ i (h : i < ks.length), XAt w g (o + i * 10) ks[i]) → XRow w g o ks
  | g, o, [], _ => by unfold XRow; trivial
  | g, o, k :: r, h => by
    unfold XRow
    refine ⟨?_, XRow_of fun i hi => ?_⟩
    · have h0 := h 0 (by simp)
      rw [Nat.zero_mul, Nat.add_zero] at h0
      exact h0
    · have := h (i + 1) (by simpa using hi)
      rw [show o + (i + 1) * 10 = o + 10 + i * 10 by omega] at this
      exact this
/-- what an expression's cells say -/
theorem XAt.facts {w : World} {g o : Nat} {x : X} (h : XAt w g o x) : w.cell? ⟨g, o, none⟩ = some (.int .i64 x.op) ∧ w.cell? ⟨g, o + 1, none⟩ = some (.int .i64 x.a) ∧ w.cell? ⟨g, o + 2, none⟩ = some (.int .i64 x.r) ∧ w.cell? ⟨g, o + 3, none⟩ = some (.int .i64 x.b) ∧
    (∃ va, w.cell? ⟨g, o + 4, none⟩ = some va ∧ Strs w va x.ns) ∧ w.cell? ⟨g, o + 5, none⟩ = some (.int .u64 x.st.a) ∧ w.cell? ⟨g, o + 6, none⟩ = some (.int .u64 x.st.b) ∧ w.cell? ⟨g, o + 7, none⟩ = some (.int .u64 x.st.c) ∧ w.cell? ⟨g, o + 8, none⟩ = some (.int .u64 x.st.d) ∧
    (∃ vk, w.cell? ⟨g, o + 9, none⟩ = some vk ∧ SlR 10 XAt w vk x.ks) ∧ XW x.op x.a x.r x.b x.ns x.st x.ks.length := by
  obtain ⟨op, a, r, b, ns, st, ks⟩ := x
  unfold XAt at h
  obtain ⟨h0, h1, h2, h3, h4, h5, h6, h7, h8, ⟨ao, cap, h9, hc, hr⟩, hw⟩ := h
  exact ⟨h0, h1, h2, h3, h4, h5, h6, h7, h8, ⟨_, h9, ao, cap, rfl, hc, fun hl => by
    obtain ⟨g', o', e, hg, hR⟩ := hr hl
    exact ⟨g', o', e, hg, XRow_at hR⟩⟩, hw⟩
mutual
theorem XAt.keep {w w' : World} (hb : Below w.heap.size w w') : ∀ {g o : Nat} {x : X}, g < w.heap.size → XAt w g o x → XAt w' g o x
  | g, o, .mk op a r b ns st ks, hg, h => by
    unfold XAt at h ⊢
    obtain ⟨h0, h1, h2, h3, ⟨va, h4, h4'⟩, h5, h6, h7, h8, ⟨ao, cap, h9, hc, hr⟩, hw⟩ := h
    have e : ∀ k, w'.cell? ⟨g, k, none⟩ = w.cell? ⟨g, k, none⟩ := fun k => hb.cell (p := ⟨g, k, none⟩) hg
    refine ⟨(e _).trans h0, (e _).trans h1, (e _).trans h2, (e _).trans h3, ⟨va, (e _).trans h4, h4'.keep hb⟩, (e _).trans h5, (e _).trans h6, (e _).trans h7, (e _).trans h8, ⟨ao, cap, (e _).trans h9, hc, fun hl => ?_⟩, hw⟩
    obtain ⟨g', o', e', hg', hR⟩ := hr hl
    exact ⟨g', o', e', Nat.lt_of_lt_of_le hg' hb.size, XRow.keep hb hg' hR⟩
theorem XRow.keep {w w' : World} (hb : Below w.heap.size w w') : ∀ {g o : Nat} {ks : List X}, g < w.heap.size → XRow w g o ks → XRow w' g o ks
  | _, _, [], _, _ => by unfold XRow; trivial
  | g, o, k :: r, hg, h => by
    unfold XRow at h ⊢
    exact ⟨XAt.keep hb hg h.1, XRow.keep hb hg h.2⟩
end
end Go.Proofs.Ytamcfmfkmekkfaa
/- Constraints: what operators, their errors and values are (plain). -/
namespace Go.Proofs.Ytamcfmfkmekkfaa
open Go.RowKit
structure Lv where
  s : Int
  c : Nat
  wf : c < 18446744073709551616
deriving DecidableEq
structure Cx where
  u : Int
  ro : Int
  ty : Int
  lo : Lv
  hi : Lv
structure Ca where
  c1 : Cx
  c2 : Cx
  c3 : Cx
def isz (s : S4) : Bool := same4 s.a s.b s.c s.d 0 0 0 0
def hasF (a r b : Int) (n : Nat) (s : S4) : Bool := !(a == 0) || (!(r == 0) || (!(b == 0) || (decide (0 < n) || !isz s)))
def sortA (a : Int) : Int := if 3 < a.tmod 5 then 3 else a.tmod 5
def cmpE (n a r b : Int) : Int := if a < 0 ∨ n ≤ a ∨ b < 0 ∨ n ≤ b ∨ r < 0 ∨ 4 < r then 3 else if sortA a ≠ sortA b ∨ (sortA a ≠ 3 ∧ 1 < r) then 13 else 0
def memE (n a : Int) : Int := if a < 0 ∨ n ≤ a then 3 else if sortA a = 3 then 13 else 0
/-- the error of an operator -/
def operE (n op a r b : Int) (nn : Nat) (s : S4) (m : Nat) : Int :=
  if op = 2 then (if m ≠ 1 ∨ hasF a r b nn s = true then 2 else 0)
  else if op = 3 ∨ op = 4 then (if m ≠ 2 ∨ hasF a r b nn s = true then 2 else 0)
  else if op = 8 then (if m ≠ 0 ∨ hasF 0 0 0 nn s = true then 2 else cmpE n a r b)
  else if op = 9 then (if m ≠ 0 ∨ hasF 0 r b nn S4.zero = true then 2 else memE n a)
  else 2
def opE (n : Int) (x : X) : Int := operE n x.op x.a x.r x.b x.ns.length x.st x.ks.length
/-- more than n levels -/
def more : Nat → X → Bool
  | 0, _ => true
  | n + 1, x => x.ks.any (more n)
def feL (F : X → Int) : List X → Int
  | [] => 0
  | k :: r => if F k ≠ 0 then F k else feL F r
/-- the first error -/
def fe (E : X → Int) : Nat → X → Int
  | 0, _ => 0
  | n + 1, x => if E x ≠ 0 then E x else feL (fe E n) x.ks
end Go.Proofs.Ytamcfmfkmekkfaa
/- A region that draws its order, whose operations may make memory: what each operation yields is told by a property that stands while memory grows; each operation is run once, from the properties of those that it waits for; behind the region all properties hold, whatever the order was. -/
namespace Go.Proofs.Ytamcfmfkmekkfaa
open Go.RowKit Go
section
variable {P : Program} {ops : Array Oper} {n : Nat} {W : World} {a0 : Act} {Φ : Nat → Value → World → Prop} {Q : Exit → Act → World → Prop}
/-- what an operation's run leaves: a value with the property, and all that was there as it was -/
def GivesR (P : Program) (w : World) (φ : Value → World → Prop) : Result Next → Prop
  | .ok (.value u) w' => Below w.heap.size w w' ∧ φ u w'
  | .ok .skip w' => Below w.heap.size w w' ∧ φ undef w'
  | .ok (.enter f args) w' => w' = w ∧ Calls P f args w fun e w'' => ∃ v, e = .returned v ∧ Below w.heap.size w w'' ∧ φ v w''
  | _ => False
def Gives (P : Program) (o : Oper) (A : Act) (w : World) (φ : Value → World → Prop) : Prop := GivesR P w φ ((execOp A.eval o).run P w)
theorem Gives.wp {o : Oper} {a : Act} {w : World} {φ : Value → World → Prop} {K : Act → World → Prop} (h : Gives P o a w φ) (hk : ∀ u w', Below w.heap.size w w' → φ u w' → K (a.put o.dst u) w') : o.wp P a w K Q := by
  unfold Gives at h
  unfold Oper.wp
  generalize (execOp a.eval o).run P w = r at *
  cases r with
  | ok nx w' =>
    cases nx <;> simp only [GivesR] at h <;> simp only [Oper.upon]
    case value u => exact hk _ _ h.1 h.2
    case skip => exact hk _ _ h.1 h.2
    case enter f args =>
      obtain ⟨e1, hc⟩ := h
      rw [e1]
      exact hc.mono fun e w'' ⟨v, he, hb, hv⟩ => by subst he; exact hk _ _ hb hv
  | halt x w' => simp only [GivesR] at h
/-- which operation of the head writes a slot -/
def srcOf (ops : Array Oper) (n : Nat) (t : Nat) : Option Nat := (List.range n).find? fun j => match ops[j]? with | some o => o.dst == some t | none => false
def waitsOn (o : Oper) (j : Nat) : Bool := o.after.any fun e => Region.binds .any e && e.on == j
/-- what is known of a slot when an operation runs -/
def factAt (ops : Array Oper) (n : Nat) (Φ : Nat → Value → World → Prop) (a0 : Act) (o : Oper) (A : Act) (w : World) (t : Nat) : Prop :=
  match srcOf ops n t with
  | none => A.eval (.tmp t) = a0.eval (.tmp t)
  | some j => waitsOn o j = true → Φ j (A.eval (.tmp t)) w
/-- what is known of a slot behind the head -/
def factEnd (ops : Array Oper) (n : Nat) (Φ : Nat → Value → World → Prop) (a0 : Act) (A : Act) (w : World) (t : Nat) : Prop :=
  match srcOf ops n t with
  | none => A.eval (.tmp t) = a0.eval (.tmp t)
  | some j => Φ j (A.eval (.tmp t)) w
def phiB (ops : Array Oper) (n N : Nat) : Bool :=
  (List.range n).all fun i => match ops[i]? with
  | some o => (o.after.all fun e => !Region.binds .any e || decide (e.on < i)) && (match o.dst with | some t => decide (t < N) && (srcOf ops n t == some i) | none => true) &&
      (match o.guard with | none => true | some (j, _) => decide (j < n) && waitsOn o j && (match ops[j]? with | some oj => oj.dst.isSome | none => false))
  | none => false
/-- what is to be shown of an operation -/
def obOf (P : Program) (ops : Array Oper) (n : Nat) (W : World) (a0 : Act) (Φ : Nat → Value → World → Prop) (i : Nat) (o : Oper) : Prop :=
  (match o.guard with | none => True | some (j, b) => ∀ v w, Φ j v w → v = .bool b) ∧ ∀ A w, Kp W w → (∀ t, factAt ops n Φ a0 o A w t) → Gives P o A w (Φ i)
structure PhInv (ops : Array Oper) (n : Nat) (W : World) (a0 : Act) (Φ : Nat → Value → World → Prop) (listed : Array Bool) (a : Act) (w : World) : Prop where
  kp : Kp W w
  size : a.tmps.size = a0.tmps.size
  defers : a.defers = a0.defers
  out : ∀ t, srcOf ops n t = none → a.eval (.tmp t) = a0.eval (.tmp t)
  phi : ∀ j oj t, j < n → ops[j]? = some oj → oj.dst = some t → listed.getD j false = true → Φ j (a.eval (.tmp t)) w
def cntU (n : Nat) (listed : Array Bool) : Nat := (List.range n).countP fun i => !listed.getD i true
theorem cnt_step (p q : Nat → Bool) (i : Nat) (hp : p i = true) (hq : q i = false) (h : ∀ j, j ≠ i → q j = p j) : ∀ N, i < N → (List.range N).countP q + 1 = (List.range N).countP p
  | 0, hi => absurd hi (by omega)
  | N + 1, hi => by
    rw [List.range_succ, List.countP_append, List.countP_append, List.countP_singleton, List.countP_singleton]
    by_cases e : i = N
    · subst e
      rw [hp, hq]
      have : (List.range i).countP q = (List.range i).countP p := List.countP_congr fun j hj => by
        rw [h j (by have := List.mem_range.1 hj; omega)]
      simp [this]
    · have ih := cnt_step p q i hp hq h N (by omega)
      rw [h N (fun e' => e e'.symm)]
      omega
theorem least {p : Nat → Prop} : ∀ (k : Nat), p k → ∃ i, i ≤ k ∧ p i ∧ ∀ j, j < i → ¬ p j := fun k => by
  induction k using Nat.strongRecOn with
  | _ k ih =>
    intro hk
    by_cases h : ∃ j, j < k ∧ p j
    · obtain ⟨j, hj, hpj⟩ := h
      obtain ⟨i, hi, hpi, hm⟩ := ih j hj hpj
      exact ⟨i, by omega, hpi, hm⟩
    · exact ⟨k, Nat.le_refl _, hk, fun j hj hpj => h ⟨j, hj, hpj⟩⟩
theorem phiB_at {N i : Nat} (h : phiB ops n N = true) (hi : i < n) : ∃ o, ops[i]? = some o ∧ (∀ e ∈ o.after, Region.binds .any e = true → e.on < i) ∧ (∀ t, o.dst = some t → t < N ∧ srcOf ops n t = some i) ∧ (∀ j b, o.guard = some (j, b) → j < n ∧ waitsOn o j = true ∧ ∃ oj t, ops[j]? = some oj ∧ oj.dst = some t) := by
  have h1 := List.all_eq_true.1 h i (List.mem_range.2 hi)
  cases ho : ops[i]? with
  | none => rw [ho] at h1; cases h1
  | some o =>
    rw [ho] at h1
    simp only [Bool.and_eq_true] at h1
    obtain ⟨⟨h2, h3⟩, h4⟩ := h1
    refine ⟨o, rfl, fun e he hb => ?_, fun t ht => ?_, fun j b hg => ?_⟩
    · have := Array.all_eq_true'.1 h2 e he
      simpa [hb] using this
    · rw [ht] at h3
      simpa using h3
    · rw [hg] at h4
      simp only [Bool.and_eq_true, decide_eq_true_eq] at h4
      obtain ⟨⟨h5, h6⟩, h7⟩ := h4
      refine ⟨h5, h6, ?_⟩
      cases hj : ops[j]? with
      | none => rw [hj] at h7; cases h7
      | some oj =>
        rw [hj] at h7
        exact ⟨oj, oj.dst.get h7, rfl, by simp⟩
theorem waitsOn_spec {o : Oper} {j : Nat} (h : waitsOn o j = true) : ∃ e ∈ o.after, Region.binds .any e = true ∧ e.on = j := by
  obtain ⟨e, he, hb⟩ := Array.any_eq_true'.1 h
  simp only [Bool.and_eq_true, beq_iff_eq] at hb
  exact ⟨e, he, hb.1, hb.2⟩
theorem srcOf_some {t j : Nat} (h : srcOf ops n t = some j) : j < n ∧ ∃ o, ops[j]? = some o ∧ o.dst = some t := by
  unfold srcOf at h
  have h1 := List.mem_of_find?_eq_some h
  have h2 := List.find?_some h
  refine ⟨List.mem_range.1 h1, ?_⟩
  cases ho : ops[j]? with
  | none => rw [ho] at h2; cases h2
  | some o => rw [ho] at h2; exact ⟨o, rfl, by simpa using h2⟩
theorem eval_same {a : Act} {t : Nat} {v : Value} (h : t < a.tmps.size) : (a.put (some t) v).eval (.tmp t) = v := by
  simp [Act.eval, Act.put, h]
theorem put_size (a : Act) (d : Option Tmp) (v : Value) : (a.put d v).tmps.size = a.tmps.size := by
  cases d <;> simp [Act.put]
theorem put_def (a : Act) (d : Option Tmp) (v : Value) : (a.put d v).defers = a.defers := by
  cases d <;> rfl
theorem phi_head {g : Nat} (hB : phiB ops n a0.tmps.size = true) (hst : ∀ i v w w', Φ i v w → Below w.heap.size w w' → Φ i v w')
    (ob : ∀ i o, i < n → ops[i]? = some o → obOf P ops n W a0 Φ i o)
    (hready : ∀ listed, HeadInv .any ops n listed → (∃ i, i < n ∧ listed.getD i true = false) → ∀ t, n ≤ t → t ∉ Region.ready .any ops listed)
    (leaf : ∀ listed a w, PhInv ops n W a0 Φ listed a w → HeadInv .any ops n listed → (∀ i, i < n → listed.getD i true = true) → wpAny P .any ops Q g listed a w) :
    ∀ (f : Nat) (listed : Array Bool) (a : Act) (w : World), HeadInv .any ops n listed → PhInv ops n W a0 Φ listed a w → cntU n listed = f → wpAny P .any ops Q (f + g) listed a w := by
  intro f
  induction f with
  | zero =>
    intro listed a w hi hv hc
    rw [Nat.zero_add]
    refine leaf listed a w hv hi fun i hin => ?_
    have := List.countP_eq_zero.1 hc i (List.mem_range.2 hin)
    simpa using this
  | succ f ih =>
    intro listed a w hi hv hc
    have hex : ∃ i, i < n ∧ listed.getD i true = false := by
      have hpos : 0 < cntU n listed := by omega
      obtain ⟨i, him, hib⟩ := List.countP_pos_iff.1 hpos
      exact ⟨i, List.mem_range.1 him, by simpa using hib⟩
    have hr := hready listed hi hex
    rw [show f + 1 + g = (f + g) + 1 by omega]
    refine ⟨fun h0 => ?_, fun i him => ?_⟩
    · obtain ⟨k, hkn, hk⟩ := hex
      obtain ⟨i, hik, hil, hmin⟩ := least (p := fun i => listed.getD i true = false) k hk
      obtain ⟨o, ho, hlow, _⟩ := phiB_at hB (show i < n by omega)
      have : i ∈ Region.ready .any ops listed := mem_ready.2 ⟨hil, o, ho, fun e he hb => by
        have h1 := hlow e he hb
        have h2 := hmin e.on h1
        have h3 : e.on < listed.size := by
          rw [hi.size]
          have := (Array.getElem?_eq_some_iff.1 ho).1
          omega
        simp only [Array.getD_eq_getD_getElem?, Array.getElem?_eq_getElem h3, Option.getD_some] at h2 ⊢
        simpa using h2⟩
      rw [h0] at this
      cases this
    · have hin : i < n := by
        rcases Nat.lt_or_ge i n with h | h
        · exact h
        · exact absurd him (hr i h)
      obtain ⟨hil, oi, hoi, hall⟩ := mem_ready.1 him
      obtain ⟨o', ho', hlow, hdst, hgd⟩ := phiB_at hB hin
      obtain rfl : o' = oi := Option.some.inj (ho'.symm.trans hoi)
      obtain ⟨og, ov⟩ := ob i o' hin hoi
      have hlist : ∀ j, waitsOn o' j = true → listed.getD j false = true := fun j hj => by
        obtain ⟨e, he, hb, rfl⟩ := waitsOn_spec hj
        exact hall e he hb
      have hfact : ∀ t, factAt ops n Φ a0 o' a w t := fun t => by
        unfold factAt
        cases hs : srcOf ops n t with
        | none => exact hv.out t hs
        | some j =>
          intro hw
          obtain ⟨hjn, oj, hoj, hdj⟩ := srcOf_some hs
          exact hv.phi j oj t hjn hoj hdj (hlist j hw)
      have hwant : Region.wanted o' (yielded ops a.tmps) = true := by
        unfold Region.wanted
        cases hg : o'.guard with
        | none => rfl
        | some jb =>
          obtain ⟨j, b⟩ := jb
          obtain ⟨hjn, hwj, oj, t, hoj, hdj⟩ := hgd j b hg
          rw [hg] at og
          have hval := og _ _ (hv.phi j oj t hjn hoj hdj (hlist j hwj))
          obtain ⟨_, hoj2, _, hd2, _⟩ := phiB_at hB hjn
          obtain rfl := Option.some.inj (hoj2.symm.trans hoj)
          have ht := (hd2 t hdj).1
          rw [← hv.size] at ht
          have hval2 : a.tmps[t]? = some (.bool b) := by
            simp only [Act.eval, Array.getD_eq_getD_getElem?, Array.getElem?_eq_getElem ht, Option.getD_some] at hval
            rw [Array.getElem?_eq_getElem ht, hval]
          simp [yielded, hoj, hdj, hval2]
      unfold wpOp
      simp only [hoi, hwant, if_true]
      refine .inl ((ov a w hv.kp hfact).wp fun u w' hb hu => ?_)
      refine ih _ _ _ (hi.set him hin) ⟨hv.kp.step hb, by rw [put_size]; exact hv.size, by rw [put_def]; exact hv.defers, fun t ht => ?_, fun j oj t hjn hoj hdj hlj => ?_⟩ ?_
      · rw [Act.eval_put (fun d hd e => ?_)]
        · exact hv.out t ht
        · cases e
          rw [(hdst t hd).2] at ht
          cases ht
      · by_cases hji : j = i
        · subst hji
          obtain rfl := Option.some.inj (hoj.symm.trans hoi)
          rw [hdj, eval_same (by rw [hv.size]; exact (hdst t hdj).1)]
          exact hu
        · rw [getD_set_ne false (Ne.symm hji)] at hlj
          rw [Act.eval_put (fun d hd e => ?_)]
          · exact hst _ _ _ _ (hv.phi j oj t hjn hoj hdj hlj) hb
          · cases e
            obtain ⟨_, hoj2, _, hd2, _⟩ := phiB_at hB hjn
            obtain rfl := Option.some.inj (hoj2.symm.trans hoj)
            have e1 := (hd2 t hdj).2
            rw [(hdst t hd).2] at e1
            exact hji (Option.some.inj e1).symm
      · have := cnt_step (fun j => !listed.getD j true) (fun j => !(listed.setIfInBounds i true).getD j true) i (by rw [hil]; rfl) (by
            have : i < listed.size := by rw [hi.size]; exact (Array.getElem?_eq_some_iff.1 hoi).1
            simp [this]) (fun j hj => by rw [getD_set_ne true (Ne.symm hj)]) n hin
        unfold cntU at hc ⊢
        omega
end
/-- the whole region: no tail -/
theorem wp_region_phi {P : Program} {id : Nat} {Q : Exit → Act → World → Prop} {a0 : Act} {W : World} {l : List Oper} (Φ : Nat → Value → World → Prop) (hm : P.follows .mixedOrders = true)
    (hB : phiB l.toArray l.toArray.size a0.tmps.size = true) (hst : ∀ i v w w', Φ i v w → Below w.heap.size w w' → Φ i v w')
    (ob : ∀ i o, i < l.toArray.size → l.toArray[i]? = some o → obOf P l.toArray l.toArray.size W a0 Φ i o)
    (h : ∀ a w, Kp W w → a.tmps.size = a0.tmps.size → a.defers = a0.defers → (∀ t, factEnd l.toArray l.toArray.size Φ a0 a w t) → Q .normal a w) : (Code.region id l.toArray true).wp P Q a0 W := by
  refine wp_region_any hm ?_
  have hno : ∀ listed t, l.toArray.size ≤ t → t ∉ Region.ready .any l.toArray listed := fun listed t ht hr => by
    obtain ⟨_, o, ho, _⟩ := mem_ready.1 hr
    have := (Array.getElem?_eq_some_iff.1 ho).1
    omega
  have := phi_head (P := P) (Q := Q) (g := 0) (W := W) (a0 := a0) hB hst ob (fun listed _ _ t ht => hno listed t ht) (fun listed a w hv hi hall => by
    refine ⟨?_, h a w hv.kp hv.size hv.defers fun t => ?_⟩
    · cases hr : Region.ready .any l.toArray listed with
      | nil => rfl
      | cons i r =>
        have him : i ∈ Region.ready .any l.toArray listed := by rw [hr]; simp
        obtain ⟨hil, o, ho, _⟩ := mem_ready.1 him
        have := hall i (Array.getElem?_eq_some_iff.1 ho).1
        rw [hil] at this
        cases this
    · unfold factEnd
      cases hs : srcOf l.toArray l.toArray.size t with
      | none => exact hv.out t hs
      | some j =>
        obtain ⟨hjn, oj, hoj, hdj⟩ := srcOf_some hs
        refine hv.phi j oj t hjn hoj hdj ?_
        have h1 := hall j hjn
        have h2 : j < listed.size := by rw [hi.size]; exact hjn
        simp only [Array.getD_eq_getD_getElem?, Array.getElem?_eq_getElem h2, Option.getD_some] at h1 ⊢
        exact h1) l.toArray.size (Array.replicate l.toArray.size false) a0 { W with drawn := W.drawn + 1 }
    ⟨by simp, fun j oj _ hl => (by rw [getD_replicate_false] at hl; cases hl), fun t ht ht' => absurd ht' (by omega)⟩
    ⟨(Below.refl _ _).drew, rfl, rfl, fun _ _ => rfl, fun j oj t _ _ _ hl => (by rw [getD_replicate_false] at hl; cases hl)⟩ (by
      unfold cntU
      rw [List.countP_eq_length.2 fun i hi => by
        rw [getD_in (by simpa using List.mem_range.1 hi) (getD_replicate_false _ _)]; rfl]
      simp)
  simpa using this
end Go.Proofs.Ytamcfmfkmekkfaa
/- Regions that draw their order: a head whose slots have properties, and a chained tail. -/
namespace Go.Proofs.Ytamcfmfkmekkfaa
open Go.RowKit
theorem fact_none {ops : Array Oper} {n t : Nat} {Φ : Nat → Value → World → Prop} {a0 A : Act} {o : Oper} {w : World} (h : factAt ops n Φ a0 o A w t) (hs : srcOf ops n t = none) : A.tmps[t]?.getD undef = a0.eval (.tmp t) := by
  unfold factAt at h; rw [hs] at h; simpa [Act.eval] using h
theorem fact_some {ops : Array Oper} {n t j : Nat} {Φ : Nat → Value → World → Prop} {a0 A : Act} {o : Oper} {w : World} (h : factAt ops n Φ a0 o A w t) (hs : srcOf ops n t = some j) (hw : waitsOn o j = true) : Φ j (A.tmps[t]?.getD undef) w := by
  unfold factAt at h; rw [hs] at h; have h2 := h hw; rwa [show A.eval (.tmp t) = A.tmps[t]?.getD undef by simp [Act.eval]] at h2
def obsL (P : Program) (ops : Array Oper) (n : Nat) (W : World) (a0 : Act) (Φ : Nat → Value → World → Prop) : Nat → List Oper → Prop
  | _, [] => True
  | k, o :: r => obOf P ops n W a0 Φ k o ∧ obsL P ops n W a0 Φ (k + 1) r
theorem obs_at {P : Program} {ops : Array Oper} {n : Nat} {W : World} {a0 : Act} {Φ : Nat → Value → World → Prop} : ∀ {l : List Oper} {k : Nat}, obsL P ops n W a0 Φ k l → ∀ i o, l[i]? = some o → obOf P ops n W a0 Φ (k + i) o
  | [], _, _, i, o, h => by simp at h
  | x :: l, k, h, 0, o, ho => by
    obtain rfl : x = o := by simpa using ho
    exact h.1
  | x :: l, k, h, i + 1, o, ho => by
    have := obs_at h.2 i o (by simpa using ho)
    rwa [show k + (i + 1) = k + 1 + i by omega]
theorem wp_region_obs {P : Program} {id : Nat} {Q : Exit → Act → World → Prop} {a0 : Act} {W : World} {l : List Oper} (Φ : Nat → Value → World → Prop) (hm : P.follows .mixedOrders = true)
    (hB : phiB l.toArray l.toArray.size a0.tmps.size = true) (hst : ∀ i v w w', Φ i v w → Below w.heap.size w w' → Φ i v w')
    (ob : obsL P l.toArray l.toArray.size W a0 Φ 0 l)
    (h : ∀ a w, Kp W w → a.tmps.size = a0.tmps.size → a.defers = a0.defers → (∀ t, factEnd l.toArray l.toArray.size Φ a0 a w t) → Q .normal a w) : (Code.region id l.toArray true).wp P Q a0 W :=
  wp_region_phi Φ hm hB hst (fun i o _ ho => by have := obs_at ob i o (by simpa using ho); rwa [Nat.zero_add] at this) h
def cutL (a : Act) (lo hi : Nat) : Nat → List Value → List Value
  | _, [] => []
  | t, v :: l => (bif Nat.ble lo t && Nat.ble t hi then a.tmps[t]?.getD undef else v) :: cutL a lo hi (t + 1) l
theorem cutL_eq (a : Act) (lo hi : Nat) : ∀ (l : List Value) (t : Nat) (m : List Value), m.length = l.length → (∀ k (h : k < m.length), a.tmps[t + k]? = some m[k]) → (∀ k (h : k < l.length) (h' : k < m.length), (Nat.ble lo (t + k) && Nat.ble (t + k) hi) = false → m[k] = l[k]) → m = cutL a lo hi t l
  | [], _, m, hm, _, _ => List.eq_nil_of_length_eq_zero hm
  | v :: l, t, [], hm, _, _ => by simp at hm
  | v :: l, t, x :: m, hm, hg, hs => by
    have h0 := hg 0 (by simp)
    unfold cutL
    congr 1
    · cases hb : (Nat.ble lo t && Nat.ble t hi)
      · exact hs 0 (by simp) (by simp) hb
      · simp only [cond_true]
        have h0' : a.tmps[t]? = some x := h0
        rw [h0']; rfl
    · refine cutL_eq a lo hi l (t + 1) m (by simpa using hm) (fun k h => ?_) (fun k h h' hb => ?_)
      · have := hg (k + 1) (by simpa using h)
        rwa [show t + (k + 1) = t + 1 + k by omega] at this
      · have := hs (k + 1) (by simpa using h) (by simpa using h') (by rwa [show t + (k + 1) = t + 1 + k by omega])
        simpa using this
theorem act_ext {a : Act} {t : Array Value} {d : List Deferred} (h1 : a.tmps = t) (h2 : a.defers = d) : a = { tmps := t, defers := d } := by subst h1 h2; rfl
theorem end_cut {ops : Array Oper} {n : Nat} {Φ : Nat → Value → World → Prop} {a0 a : Act} {w : World} (lo hi : Nat) (hs : a.tmps.size = a0.tmps.size) (hd : a.defers = a0.defers) (hF : ∀ t, factEnd ops n Φ a0 a w t)
    (hB : ((List.range a0.tmps.size).all fun t => (Nat.ble lo t && Nat.ble t hi) || (srcOf ops n t).isNone) = true) : a = { tmps := (cutL a lo hi 0 a0.tmps.toList).toArray, defers := a0.defers } := by
  have e : a.tmps = (cutL a lo hi 0 a0.tmps.toList).toArray := by
    have e2 : a.tmps.toList = cutL a lo hi 0 a0.tmps.toList := by
      refine cutL_eq a lo hi _ 0 _ (by simpa using hs) (fun k h => ?_) (fun k h h' hb => ?_)
      · have h2 : k < a.tmps.size := by simpa using h
        rw [Nat.zero_add, Array.getElem?_eq_getElem h2]
        simp
      · rw [Nat.zero_add] at hb
        have h1 : k < a0.tmps.size := by simpa using h
        have h2 : k < a.tmps.size := by simpa using h'
        have := List.all_eq_true.1 hB k (List.mem_range.2 h1)
        rw [hb, Bool.false_or] at this
        have hn : srcOf ops n k = none := by
          cases hc : srcOf ops n k with
          | none => rfl
          | some j => rw [hc] at this; cases this
        have hk := hF k
        unfold factEnd at hk
        rw [hn] at hk
        have hk2 : a.tmps[k]?.getD undef = a0.tmps[k]?.getD undef := by simpa [Act.eval] using hk
        rw [Array.getElem?_eq_getElem h1, Array.getElem?_eq_getElem h2] at hk2
        simpa using hk2
    rw [← e2]
  exact act_ext e hd
/-- whether an operation waits for another one, directly or over others -/
def reachB (md : Region.Mode) (ops : Array Oper) (i : Nat) : Nat → Nat → Bool
  | 0, _ => false
  | f + 1, t => match ops[t]? with
    | some o => o.after.any fun e => Region.binds md e && (e.on == i || reachB md ops i f e.on)
    | none => false
theorem reach_listed {md : Region.Mode} {ops : Array Oper} {i : Nat} {listed : Array Bool} (inv : ∀ j oj, ops[j]? = some oj → listed.getD j false = true → ∀ e ∈ oj.after, Region.binds md e = true → listed.getD e.on false = true) : ∀ (f t : Nat), (∀ o, ops[t]? = some o → ∀ e ∈ o.after, Region.binds md e = true → listed.getD e.on false = true) → reachB md ops i f t = true → listed.getD i false = true
  | 0, _, _, h => by cases h
  | f + 1, t, ht, h => by
    unfold reachB at h
    split at h
    · rename_i o ho
      obtain ⟨e, he, hb⟩ := Array.any_eq_true'.1 h
      simp only [Bool.and_eq_true, Bool.or_eq_true, beq_iff_eq] at hb
      have h1 := ht o ho e he hb.1
      rcases hb.2 with h2 | h2
      · rw [← h2]; exact h1
      · exact reach_listed inv f e.on (fun o' ho' e' he' hb' => inv e.on o' ho' h1 e' he' hb') h2
    · cases h
def sinkT (ops : Array Oper) (n : Nat) : Bool :=
  (List.range ops.size).all fun t => decide (t < n) || (List.range n).all fun i => reachB .any ops i ops.size t
def doneA (n m : Nat) : Array Bool := ((List.replicate n true) ++ (List.replicate m false)).toArray
theorem wp_region_phit {P : Program} {id : Nat} {Q : Exit → Act → World → Prop} {a0 : Act} {W : World} {l : List Oper} (n : Nat) (Φ : Nat → Value → World → Prop) (hm : P.follows .mixedOrders = true) (hn : n ≤ l.length)
    (hB : phiB l.toArray n a0.tmps.size = true) (hs : sinkT l.toArray n = true) (hseq : Region.seqB .any l.toArray (l.length - n) n (doneA n (l.length - n)) = true)
    (hst : ∀ i v w w', Φ i v w → Below w.heap.size w w' → Φ i v w') (ob : obsL P l.toArray n W a0 Φ 0 (l.take n))
    (h : ∀ a w, Kp W w → a.tmps.size = a0.tmps.size → a.defers = a0.defers → (∀ t, factEnd l.toArray n Φ a0 a w t) → wpList P l.toArray Q (l.drop n) a w) : (Code.region id l.toArray true).wp P Q a0 W := by
  refine wp_region_any hm ?_
  have hsz : l.toArray.size = n + (l.length - n) := by simp; omega
  have hready : ∀ listed, HeadInv .any l.toArray n listed → (∃ i, i < n ∧ listed.getD i true = false) → ∀ t, n ≤ t → t ∉ Region.ready .any l.toArray listed := fun listed inv ⟨i, hi, hun⟩ t ht hr => by
    obtain ⟨_, ot, hot, hall⟩ := mem_ready.1 hr
    have htlt : t < l.toArray.size := (Array.getElem?_eq_some_iff.1 hot).1
    have h1 := List.all_eq_true.1 hs t (List.mem_range.2 htlt)
    simp only [Bool.or_eq_true, decide_eq_true_eq] at h1
    rcases h1 with h1 | h1
    · omega
    · have h2 := List.all_eq_true.1 h1 i (List.mem_range.2 hi)
      have h3 := reach_listed inv.closed l.toArray.size t (fun o ho e he hb => by
        obtain rfl : o = ot := Option.some.inj (ho.symm.trans hot)
        exact hall e he hb) h2
      rw [getD_both hun] at h3
      cases h3
  have := phi_head (P := P) (Q := Q) (g := l.length - n) (W := W) (a0 := a0) hB hst (fun i o hi ho => by
      have h1 : (l.take n)[i]? = some o := by rw [List.getElem?_take_of_lt hi]; simpa using ho
      have := obs_at ob i o h1
      rwa [Nat.zero_add] at this) hready (fun listed a w hv hi hall => by
    have hl : listed = doneA n (l.length - n) := by
      refine Array.ext (by rw [hi.size, hsz]; simp [doneA]) fun k hk hk2 => ?_
      rcases Nat.lt_or_ge k n with hkn | hkn
      · have h1 := hall k hkn
        simp only [Array.getD_eq_getD_getElem?, Array.getElem?_eq_getElem hk, Option.getD_some] at h1
        rw [h1]
        simp [doneA, hkn]
      · have h1 := hi.tail k hkn (by rw [← hi.size]; exact hk)
        simp only [Array.getD_eq_getD_getElem?, Array.getElem?_eq_getElem hk, Option.getD_some] at h1
        rw [h1]
        simp [doneA, List.getElem_append, Nat.not_lt.2 hkn]
    subst hl
    have hw := h a w hv.kp hv.size hv.defers fun t => by
      unfold factEnd
      cases hs : srcOf l.toArray n t with
      | none => exact hv.out t hs
      | some j =>
        obtain ⟨hjn, oj, hoj, hdj⟩ := srcOf_some hs
        refine hv.phi j oj t hjn hoj hdj ?_
        have h1 := hall j hjn
        have h2 : j < (doneA n (l.length - n)).size := by simp [doneA]; omega
        simp only [Array.getD_eq_getD_getElem?, Array.getElem?_eq_getElem h2, Option.getD_some] at h1 ⊢
        exact h1
    have hd : (l.drop n).length = l.length - n := by simp
    have := wpAny_of_seq (md := .any) (Q' := Q) (l.drop n) n (doneA n (l.length - n)) a w (fun j => by simp [List.getElem?_drop]) (by rw [hd]; exact hseq) hw
    rwa [hd] at this) n (Array.replicate l.toArray.size false) a0 { W with drawn := W.drawn + 1 }
    ⟨by simp, fun j oj _ hl => (by rw [getD_replicate_false] at hl; cases hl), fun t ht ht' => getD_in (by simpa using ht') (getD_replicate_false _ _)⟩
    ⟨(Below.refl _ _).drew, rfl, rfl, fun _ _ => rfl, fun j oj t _ _ _ hl => (by rw [getD_replicate_false] at hl; cases hl)⟩ (by
      unfold cntU
      rw [List.countP_eq_length.2 fun i hi => by
        rw [getD_in (by have := List.mem_range.1 hi; simp; omega) (getD_replicate_false _ _)]; rfl]
      simp)
  rw [hsz]
  rw [hsz] at this
  exact this
theorem cutL_nil (a : Act) (lo hi t : Nat) : cutL a lo hi t [] = [] := rfl
theorem cutL_cons (a : Act) (lo hi t : Nat) (v : Value) (l : List Value) : cutL a lo hi t (v :: l) = (if lo ≤ t ∧ t ≤ hi then a.tmps[t]?.getD undef else v) :: cutL a lo hi (t + 1) l := by
  have e : (bif Nat.ble lo t && Nat.ble t hi then a.tmps[t]?.getD undef else v) = (if lo ≤ t ∧ t ≤ hi then a.tmps[t]?.getD undef else v) := by
    by_cases h : lo ≤ t ∧ t ≤ hi
    · rw [if_pos h, Nat.ble_eq_true_of_le h.1, Nat.ble_eq_true_of_le h.2]; rfl
    · rw [if_neg h]
      cases hb : (Nat.ble lo t && Nat.ble t hi)
      · rfl
      · rw [Bool.and_eq_true] at hb
        exact absurd ⟨Nat.le_of_ble_eq_true hb.1, Nat.le_of_ble_eq_true hb.2⟩ h
  show (bif Nat.ble lo t && Nat.ble t hi then a.tmps[t]?.getD undef else v) :: cutL a lo hi (t + 1) l = _
  rw [e]
theorem fact_end {ops : Array Oper} {n t j : Nat} {Φ : Nat → Value → World → Prop} {a0 a : Act} {w : World} (h : factEnd ops n Φ a0 a w t) (hs : srcOf ops n t = some j) : Φ j (a.tmps[t]?.getD undef) w := by
  unfold factEnd at h; rw [hs] at h; rwa [show a.eval (.tmp t) = a.tmps[t]?.getD undef by simp [Act.eval]] at h
theorem gives_val {P : Program} {w w' : World} {u : Value} {φ : Value → World → Prop} (hb : Below w.heap.size w w') (h : φ u w') : GivesR P w φ (.ok (.value u) w') := ⟨hb, h⟩
theorem gives_enter {P : Program} {w : World} {f : FuncId} {args : Array Value} {φ : Value → World → Prop} (h : Calls P f args w fun e w'' => ∃ v, e = .returned v ∧ Below w.heap.size w w'' ∧ φ v w'') : GivesR P w φ (.ok (.enter f args) w) := ⟨rfl, h⟩
end Go.Proofs.Ytamcfmfkmekkfaa
/- A region that draws its order, whose operations may make memory, append to a row, store, assign to a variable that an operation ahead of them reads: each operation has a relation of worlds (what it may change) and a property of what it leaves, which the other operations' relations keep; each operation is run once; behind the region all properties hold, whatever the order was. -/
namespace Go.Proofs.Ytamcfmfkmekkfaa
open Go.RowKit Go
section
variable {P : Program} {ops : Array Oper} {C : (Nat → Bool) → World → Prop} {Rel : Nat → World → World → Prop} {a0 : Act} {Φ : Nat → Value → World → Prop} {Q : Exit → Act → World → Prop}
/-- the property of what an operation has left: of its slot, or of some value where it writes none -/
def outP (φ : Value → World → Prop) (a : Act) (w : World) : Option Tmp → Prop
  | some t => φ (a.eval (.tmp t)) w
  | none => ∃ v, φ v w
theorem outP.any {φ : Value → World → Prop} {a : Act} {w : World} : ∀ {d : Option Tmp}, outP φ a w d → ∃ v, φ v w
  | some _, h => ⟨_, h⟩
  | none, h => h
/-- what an operation's run leaves -/
def GivR (P : Program) (rel : World → World → Prop) (w : World) (φ : Value → World → Prop) : Result Next → Prop
  | .ok (.value u) w' => rel w w' ∧ φ u w'
  | .ok .skip w' => rel w w' ∧ φ undef w'
  | .ok (.enter f args) w' => w' = w ∧ Calls P f args w fun e w'' => ∃ v, e = .returned v ∧ rel w w'' ∧ φ v w''
  | _ => False
def Giv (P : Program) (o : Oper) (A : Act) (rel : World → World → Prop) (w : World) (φ : Value → World → Prop) : Prop := GivR P rel w φ ((execOp A.eval o).run P w)
theorem Giv.wp {o : Oper} {a : Act} {rel : World → World → Prop} {w : World} {φ : Value → World → Prop} {K : Act → World → Prop} (h : Giv P o a rel w φ) (hk : ∀ u w', rel w w' → φ u w' → K (a.put o.dst u) w') : o.wp P a w K Q := by
  unfold Giv at h
  unfold Oper.wp
  generalize (execOp a.eval o).run P w = r at *
  cases r with
  | ok nx w' =>
    cases nx <;> simp only [GivR] at h <;> simp only [Oper.upon]
    case value u => exact hk _ _ h.1 h.2
    case skip => exact hk _ _ h.1 h.2
    case enter f args =>
      obtain ⟨e1, hc⟩ := h
      rw [e1]
      exact hc.mono fun e w'' ⟨v, he, hb, hv⟩ => by subst he; exact hk _ _ hb hv
  | halt x w' => simp only [GivR] at h
def afterB (ops : Array Oper) (j i : Nat) : Bool := match ops[j]? with
  | some oj => waitsOn oj i
  | none => false
/-- what is known of a slot when an operation runs: the property of what wrote it, or, where what writes it waits for this operation, what stood there ahead of the region -/
def facG (ops : Array Oper) (Φ : Nat → Value → World → Prop) (a0 : Act) (i : Nat) (o : Oper) (A : Act) (w : World) (t : Nat) : Prop :=
  match srcOf ops ops.size t with
  | none => A.eval (.tmp t) = a0.eval (.tmp t)
  | some j => (waitsOn o j = true → Φ j (A.eval (.tmp t)) w) ∧ (afterB ops j i = true → A.eval (.tmp t) = a0.eval (.tmp t))
def endG (ops : Array Oper) (Φ : Nat → Value → World → Prop) (a0 : Act) (A : Act) (w : World) (t : Nat) : Prop :=
  match srcOf ops ops.size t with
  | none => A.eval (.tmp t) = a0.eval (.tmp t)
  | some j => Φ j (A.eval (.tmp t)) w
/-- what is to be shown of an operation -/
def obG (P : Program) (ops : Array Oper) (C : (Nat → Bool) → World → Prop) (Rel : Nat → World → World → Prop) (a0 : Act) (Φ : Nat → Value → World → Prop) (i : Nat) (o : Oper) : Prop :=
  (match o.guard with | none => True | some (j, b) => ∀ v w, Φ j v w → v = .bool b) ∧ ∀ A w d, d i = false → C d w → (∀ t, facG ops Φ a0 i o A w t) → (∀ j, waitsOn o j = true → ∃ v, Φ j v w) → ∀ K Q, (∀ u w', Rel i w w' → Φ i u w' → K (A.put o.dst u) w') → o.wp P A w K Q
def obGs (P : Program) (ops : Array Oper) (C : (Nat → Bool) → World → Prop) (Rel : Nat → World → World → Prop) (a0 : Act) (Φ : Nat → Value → World → Prop) : Nat → List Oper → Prop
  | _, [] => True
  | k, o :: r => obG P ops C Rel a0 Φ k o ∧ obGs P ops C Rel a0 Φ (k + 1) r
theorem obGs_at : ∀ {l : List Oper} {k : Nat}, obGs P ops C Rel a0 Φ k l → ∀ i o, l[i]? = some o → obG P ops C Rel a0 Φ (k + i) o
  | [], _, _, i, o, h => by simp at h
  | x :: l, k, h, 0, o, ho => by
    obtain rfl : x = o := by simpa using ho
    exact h.1
  | x :: l, k, h, i + 1, o, ho => by
    have := obGs_at h.2 i o (by simpa using ho)
    rwa [show k + (i + 1) = k + 1 + i by omega]
structure GInv (ops : Array Oper) (C : (Nat → Bool) → World → Prop) (a0 : Act) (Φ : Nat → Value → World → Prop) (listed : Array Bool) (a : Act) (w : World) : Prop where
  c : C (fun j => listed.getD j false) w
  size : a.tmps.size = a0.tmps.size
  defers : a.defers = a0.defers
  out : ∀ t, srcOf ops ops.size t = none → a.eval (.tmp t) = a0.eval (.tmp t)
  phi : ∀ j oj, ops[j]? = some oj → listed.getD j false = true → outP (Φ j) a w oj.dst
  old : ∀ j oj t, ops[j]? = some oj → oj.dst = some t → listed.getD j false = false → a.eval (.tmp t) = a0.eval (.tmp t)
theorem gen_head (hB : phiB ops ops.size a0.tmps.size = true) (hC : ∀ i d w w', d i = false → C d w → Rel i w w' → C (fun j => if j = i then true else d j) w') (ban : List (Nat × Nat)) (hban : (ban.all fun p => afterB ops p.1 p.2) = true) (hst : ∀ i j v w w', i ≠ j → (i, j) ∉ ban → Φ i v w → Rel j w w' → Φ i v w')
    (ob : ∀ i o, ops[i]? = some o → obG P ops C Rel a0 Φ i o)
    (hready : ∀ listed t, ops.size ≤ t → t ∉ Region.ready .any ops listed)
    (leaf : ∀ listed a w, GInv ops C a0 Φ listed a w → HeadInv .any ops ops.size listed → (∀ i, i < ops.size → listed.getD i true = true) → wpAny P .any ops Q 0 listed a w) :
    ∀ (f : Nat) (listed : Array Bool) (a : Act) (w : World), HeadInv .any ops ops.size listed → GInv ops C a0 Φ listed a w → cntU ops.size listed = f → wpAny P .any ops Q f listed a w := by
  intro f
  induction f with
  | zero =>
    intro listed a w hi hv hc
    refine leaf listed a w hv hi fun i hin => ?_
    have := List.countP_eq_zero.1 hc i (List.mem_range.2 hin)
    simpa using this
  | succ f ih =>
    intro listed a w hi hv hc
    have hex : ∃ i, i < ops.size ∧ listed.getD i true = false := by
      have hpos : 0 < cntU ops.size listed := by omega
      obtain ⟨i, him, hib⟩ := List.countP_pos_iff.1 hpos
      exact ⟨i, List.mem_range.1 him, by simpa using hib⟩
    refine ⟨fun h0 => ?_, fun i him => ?_⟩
    · obtain ⟨k, hkn, hk⟩ := hex
      obtain ⟨i, hik, hil, hmin⟩ := least (p := fun i => listed.getD i true = false) k hk
      obtain ⟨o, ho, hlow, _⟩ := phiB_at hB (show i < ops.size by omega)
      have : i ∈ Region.ready .any ops listed := mem_ready.2 ⟨hil, o, ho, fun e he hb => by
        have h1 := hlow e he hb
        have h2 := hmin e.on h1
        have h3 : e.on < listed.size := by
          rw [hi.size]
          have := (Array.getElem?_eq_some_iff.1 ho).1
          omega
        simp only [Array.getD_eq_getD_getElem?, Array.getElem?_eq_getElem h3, Option.getD_some] at h2 ⊢
        simpa using h2⟩
      rw [h0] at this
      cases this
    · have hin : i < ops.size := by
        rcases Nat.lt_or_ge i ops.size with h | h
        · exact h
        · exact absurd him (hready listed i h)
      obtain ⟨hil, oi, hoi, hall⟩ := mem_ready.1 him
      have hil2 : listed.getD i false = false := by
        have h3 : i < listed.size := by rw [hi.size]; exact hin
        simp only [Array.getD_eq_getD_getElem?, Array.getElem?_eq_getElem h3, Option.getD_some] at hil ⊢
        exact hil
      obtain ⟨o', ho', hlow, hdst, hgd⟩ := phiB_at hB hin
      obtain rfl : o' = oi := Option.some.inj (ho'.symm.trans hoi)
      obtain ⟨og, ov⟩ := ob i o' hoi
      have hlist : ∀ j, waitsOn o' j = true → listed.getD j false = true := fun j hj => by
        obtain ⟨e, he, hb, rfl⟩ := waitsOn_spec hj
        exact hall e he hb
      have hfact : ∀ t, facG ops Φ a0 i o' a w t := fun t => by
        unfold facG
        cases hs : srcOf ops ops.size t with
        | none => exact hv.out t hs
        | some j =>
          obtain ⟨hjn, oj, hoj, hdj⟩ := srcOf_some hs
          refine ⟨fun hw => ?_, fun hw => ?_⟩
          · have := hv.phi j oj hoj (hlist j hw)
            rw [hdj] at this
            exact this
          · refine hv.old j oj t hoj hdj ?_
            unfold afterB at hw
            rw [hoj] at hw
            cases hl : listed.getD j false with
            | false => rfl
            | true =>
              obtain ⟨e, he, hb, rfl⟩ := waitsOn_spec hw
              have := hi.closed j oj hoj hl e he hb
              rw [hil2] at this
              cases this
      have hwaits : ∀ j, waitsOn o' j = true → ∃ v, Φ j v w := fun j hj => by
        obtain ⟨e, he, hb, rfl⟩ := waitsOn_spec hj
        have h1 := hlow e he hb
        obtain ⟨oj, hoj, _⟩ := phiB_at hB (show e.on < ops.size by omega)
        exact (hv.phi e.on oj hoj (hlist e.on hj)).any
      have hwant : Region.wanted o' (yielded ops a.tmps) = true := by
        unfold Region.wanted
        cases hg : o'.guard with
        | none => rfl
        | some jb =>
          obtain ⟨j, b⟩ := jb
          obtain ⟨hjn, hwj, oj, t, hoj, hdj⟩ := hgd j b hg
          rw [hg] at og
          have hp := hv.phi j oj hoj (hlist j hwj)
          rw [hdj] at hp
          have hval : a.eval (.tmp t) = .bool b := og _ _ hp
          obtain ⟨_, hoj2, _, hd2, _⟩ := phiB_at hB hjn
          obtain rfl := Option.some.inj (hoj2.symm.trans hoj)
          have ht := (hd2 t hdj).1
          rw [← hv.size] at ht
          have hval2 : a.tmps[t]? = some (.bool b) := by
            simp only [Act.eval, Array.getD_eq_getD_getElem?, Array.getElem?_eq_getElem ht, Option.getD_some] at hval
            rw [Array.getElem?_eq_getElem ht, hval]
          simp [yielded, hoj, hdj, hval2]
      have hother : ∀ (u : Value) j oj t, ops[j]? = some oj → oj.dst = some t → j ≠ i → (a.put o'.dst u).eval (.tmp t) = a.eval (.tmp t) := fun u j oj t hoj hdj hji => by
        rw [Act.eval_put (fun d hd e => ?_)]
        cases e
        obtain ⟨_, hoj2, _, hd2, _⟩ := phiB_at hB (Array.getElem?_eq_some_iff.1 hoj).1
        obtain rfl := Option.some.inj (hoj2.symm.trans hoj)
        have e1 := (hd2 t hdj).2
        rw [(hdst t hd).2] at e1
        exact hji (Option.some.inj e1).symm
      unfold wpOp
      simp only [hoi, hwant, if_true]
      refine .inl (ov a w (fun j => listed.getD j false) hil2 hv.c hfact hwaits _ _ fun u w' hb hu => ?_)
      refine ih _ _ _ (hi.set him hin) ⟨by
        have h1 := hC i (fun j => listed.getD j false) w w' hil2 hv.c hb
        have e : (fun j => (listed.setIfInBounds i true).getD j false) = fun j => if j = i then true else listed.getD j false := funext fun j => by
          by_cases hji : j = i
          · subst hji
            have h3 : j < listed.size := by rw [hi.size]; exact hin
            simp [h3]
          · rw [getD_set_ne false (Ne.symm hji), if_neg hji]
        rw [e]; exact h1, by rw [put_size]; exact hv.size, by rw [put_def]; exact hv.defers, fun t ht => ?_, fun j oj hoj hlj => ?_, fun j oj t hoj hdj hlj => ?_⟩ ?_
      · rw [Act.eval_put (fun d hd e => ?_)]
        · exact hv.out t ht
        · cases e
          rw [(hdst t hd).2] at ht
          cases ht
      · by_cases hji : j = i
        · subst hji
          obtain rfl := Option.some.inj (hoj.symm.trans hoi)
          cases hd : oj.dst with
          | none => exact ⟨u, hu⟩
          | some t =>
            show Φ j ((a.put (some t) u).eval (.tmp t)) w'
            rw [eval_same (by rw [hv.size]; exact (hdst t hd).1)]
            exact hu
        · rw [getD_set_ne false (Ne.symm hji)] at hlj
          have h0 := hv.phi j oj hoj hlj
          have hnb : (j, i) ∉ ban := fun hb2 => by
            have h1 := List.all_eq_true.1 hban _ hb2
            unfold afterB at h1
            rw [hoj] at h1
            obtain ⟨e, he, hbe, hei⟩ := waitsOn_spec h1
            have h2 := hi.closed j oj hoj hlj e he hbe
            rw [hei] at h2
            rw [hil2] at h2
            cases h2
          cases hd : oj.dst with
          | none =>
            rw [hd] at h0
            obtain ⟨v, h0⟩ := h0
            exact ⟨v, hst _ _ _ _ _ hji hnb h0 hb⟩
          | some t =>
            rw [hd] at h0
            have h1 := hst _ _ _ _ _ hji hnb h0 hb
            show Φ j ((a.put o'.dst u).eval (.tmp t)) w'
            rw [hother u j oj t hoj hd hji]
            exact h1
      · by_cases hji : j = i
        · subst hji
          exfalso
          have h3 : j < listed.size := by rw [hi.size]; exact hin
          simp [h3] at hlj
        · rw [getD_set_ne false (Ne.symm hji)] at hlj
          rw [hother u j oj t hoj hdj hji]
          exact hv.old j oj t hoj hdj hlj
      · have := cnt_step (fun j => !listed.getD j true) (fun j => !(listed.setIfInBounds i true).getD j true) i (by rw [hil]; rfl) (by
            have : i < listed.size := by rw [hi.size]; exact (Array.getElem?_eq_some_iff.1 hoi).1
            simp [this]) (fun j hj => by rw [getD_set_ne true (Ne.symm hj)]) ops.size hin
        unfold cntU at hc ⊢
        omega
end
theorem wp_region_gen {P : Program} {id : Nat} {Q : Exit → Act → World → Prop} {a0 : Act} {W : World} {l : List Oper} (C : (Nat → Bool) → World → Prop) (Rel : Nat → World → World → Prop) (Φ : Nat → Value → World → Prop) (hm : P.follows .mixedOrders = true)
    (hB : phiB l.toArray l.toArray.size a0.tmps.size = true) (hC0 : C (fun _ => false) { W with drawn := W.drawn + 1 }) (hC : ∀ i d w w', d i = false → C d w → Rel i w w' → C (fun j => if j = i then true else d j) w') (ban : List (Nat × Nat)) (hban : (ban.all fun p => afterB l.toArray p.1 p.2) = true) (hst : ∀ i j v w w', i ≠ j → (i, j) ∉ ban → Φ i v w → Rel j w w' → Φ i v w')
    (ob : obGs P l.toArray C Rel a0 Φ 0 l)
    (h : ∀ a w d, (∀ j, j < l.length → d j = true) → C d w → a.tmps.size = a0.tmps.size → a.defers = a0.defers → (∀ t, endG l.toArray Φ a0 a w t) → (∀ j, j < l.length → ∃ v, Φ j v w) → Q .normal a w) : (Code.region id l.toArray true).wp P Q a0 W := by
  refine wp_region_any hm ?_
  have hno : ∀ listed t, l.toArray.size ≤ t → t ∉ Region.ready .any l.toArray listed := fun listed t ht hr => by
    obtain ⟨_, o, ho, _⟩ := mem_ready.1 hr
    have := (Array.getElem?_eq_some_iff.1 ho).1
    omega
  have := gen_head (P := P) (Q := Q) (C := C) (Rel := Rel) (Φ := Φ) (a0 := a0) hB hC ban hban hst (fun i o ho => by have := obGs_at ob i o (by simpa using ho); rwa [Nat.zero_add] at this) (fun listed t ht => hno listed t ht) (fun listed a w hv hi hall => by
    have hl : ∀ j, j < l.toArray.size → listed.getD j false = true := fun j hj => by
      have h1 := hall j hj
      have h2 : j < listed.size := by rw [hi.size]; exact hj
      simp only [Array.getD_eq_getD_getElem?, Array.getElem?_eq_getElem h2, Option.getD_some] at h1 ⊢
      exact h1
    refine ⟨?_, h a w _ (fun j hj => hl j (by simpa using hj)) hv.c hv.size hv.defers (fun t => ?_) (fun j hj => ?_)⟩
    · cases hr : Region.ready .any l.toArray listed with
      | nil => rfl
      | cons i r =>
        have him : i ∈ Region.ready .any l.toArray listed := by rw [hr]; simp
        obtain ⟨hil, o, ho, _⟩ := mem_ready.1 him
        have := hall i (Array.getElem?_eq_some_iff.1 ho).1
        rw [hil] at this
        cases this
    · unfold endG
      cases hs : srcOf l.toArray l.toArray.size t with
      | none => exact hv.out t hs
      | some j =>
        obtain ⟨hjn, oj, hoj, hdj⟩ := srcOf_some hs
        have := hv.phi j oj hoj (hl j hjn)
        rw [hdj] at this
        exact this
    · have hj' : j < l.toArray.size := by simpa using hj
      exact (hv.phi j _ (Array.getElem?_eq_getElem hj') (hl j hj')).any) l.toArray.size (Array.replicate l.toArray.size false) a0 { W with drawn := W.drawn + 1 }
    ⟨by simp, fun j oj _ hl => (by rw [getD_replicate_false] at hl; cases hl), fun t ht ht' => absurd ht' (by omega)⟩
    ⟨by
      have e : (fun j => (Array.replicate l.toArray.size false).getD j false) = fun _ => false := funext fun j => getD_replicate_false _ _
      rw [e]; exact hC0, rfl, rfl, fun _ _ => rfl, fun j oj _ hl => (by rw [getD_replicate_false] at hl; cases hl), fun _ _ _ _ _ _ => rfl⟩ (by
      unfold cntU
      rw [List.countP_eq_length.2 fun i hi => by
        rw [getD_in (by simpa using List.mem_range.1 hi) (getD_replicate_false _ _)]; rfl]
      simp)
  simpa using this
end Go.Proofs.Ytamcfmfkmekkfaa
/- What the walks of drawn regions are written with. -/
namespace Go.Proofs.Ytamcfmfkmekkfaa
open Go.RowKit Go
theorem giv_val {P : Program} {rel : World → World → Prop} {w w' : World} {φ : Value → World → Prop} {u : Value} (h1 : rel w w') (h2 : φ u w') : GivR P rel w φ (.ok (.value u) w') := ⟨h1, h2⟩
theorem giv_skip {P : Program} {rel : World → World → Prop} {w w' : World} {φ : Value → World → Prop} (h1 : rel w w') (h2 : φ undef w') : GivR P rel w φ (.ok .skip w') := ⟨h1, h2⟩
theorem giv_enter {P : Program} {rel : World → World → Prop} {w : World} {φ : Value → World → Prop} {f : FuncId} {args : Array Value} (h : Calls P f args w fun e w'' => ∃ v, e = .returned v ∧ rel w w'' ∧ φ v w'') : GivR P rel w φ (.ok (.enter f args) w) := ⟨rfl, h⟩
section
variable {ops : Array Oper} {Φ : Nat → Value → World → Prop} {a0 A : Act} {i t j : Nat} {o : Oper} {w : World}
theorem fg_none (h : facG ops Φ a0 i o A w t) (hs : srcOf ops ops.size t = none) : A.tmps[t]?.getD undef = a0.eval (.tmp t) := by
  unfold facG at h; rw [hs] at h; simpa [Act.eval] using h
theorem fg_old (h : facG ops Φ a0 i o A w t) (hs : srcOf ops ops.size t = some j) (hw : afterB ops j i = true) : A.tmps[t]?.getD undef = a0.eval (.tmp t) := by
  unfold facG at h; rw [hs] at h; have h2 := h.2 hw; simpa [Act.eval] using h2
theorem fg_some (h : facG ops Φ a0 i o A w t) (hs : srcOf ops ops.size t = some j) (hw : waitsOn o j = true) : Φ j (A.tmps[t]?.getD undef) w := by
  unfold facG at h; rw [hs] at h; have h2 := h.1 hw; rwa [show A.eval (.tmp t) = A.tmps[t]?.getD undef by simp [Act.eval]] at h2
theorem fe_some (h : endG ops Φ a0 A w t) (hs : srcOf ops ops.size t = some j) : Φ j (A.tmps[t]?.getD undef) w := by
  unfold endG at h; rw [hs] at h; rwa [show A.eval (.tmp t) = A.tmps[t]?.getD undef by simp [Act.eval]] at h
end
/-- the frame written out: the slots of the mask are read off the frame, the others stand as they were -/
def cutM (a : Act) : List Bool → Nat → List Value → List Value
  | [], _, l => l
  | _ :: _, _, [] => []
  | b :: m, t, v :: l => (bif b then a.tmps[t]?.getD undef else v) :: cutM a m (t + 1) l
theorem cutM_nil (a : Act) (t : Nat) (l : List Value) : cutM a [] t l = l := by cases l <;> rfl
theorem cutM_yes (a : Act) (m : List Bool) (t : Nat) (v : Value) (l : List Value) : cutM a (true :: m) t (v :: l) = a.tmps[t]?.getD undef :: cutM a m (t + 1) l := rfl
theorem cutM_no (a : Act) (m : List Bool) (t : Nat) (v : Value) (l : List Value) : cutM a (false :: m) t (v :: l) = v :: cutM a m (t + 1) l := rfl
theorem cutM_done (a : Act) (m : List Bool) (t : Nat) : cutM a m t [] = [] := by cases m <;> rfl
theorem cutM_eq (a : Act) : ∀ (m : List Bool) (l : List Value) (t : Nat) (r : List Value), r.length = l.length → (∀ k (h : k < r.length), a.tmps[t + k]? = some r[k]) → (∀ k (h : k < l.length) (h' : k < r.length), m[k]?.getD false = false → r[k] = l[k]) → r = cutM a m t l
  | [], l, t, r, hl, _, hs => by
    rw [cutM_nil]
    exact List.ext_getElem hl fun k h1 h2 => hs k h2 h1 rfl
  | b :: m, [], t, r, hl, _, _ => by
    rw [cutM_done]
    exact List.eq_nil_of_length_eq_zero hl
  | b :: m, v :: l, t, [], hl, _, _ => by simp at hl
  | b :: m, v :: l, t, x :: r, hl, hg, hs => by
    have h0 := hg 0 (by simp)
    have ih := cutM_eq a m l (t + 1) r (by simpa using hl) (fun k h => by
      have := hg (k + 1) (by simpa using h)
      rwa [show t + (k + 1) = t + 1 + k by omega] at this) (fun k h h' hb => by
      have := hs (k + 1) (by simpa using h) (by simpa using h') (by simpa using hb)
      simpa using this)
    cases b with
    | true =>
      rw [cutM_yes, ← ih]
      have h0' : a.tmps[t]? = some x := h0
      rw [h0']; rfl
    | false =>
      rw [cutM_no, ← ih]
      congr 1
      exact hs 0 (by simp) (by simp) rfl
theorem end_gen {ops : Array Oper} {Φ : Nat → Value → World → Prop} {a0 a : Act} {w : World} (m : List Bool) (hs : a.tmps.size = a0.tmps.size) (hd : a.defers = a0.defers) (hF : ∀ t, endG ops Φ a0 a w t)
    (hB : ((List.range a0.tmps.size).all fun t => m[t]?.getD false || (srcOf ops ops.size t).isNone) = true) : a = { tmps := (cutM a m 0 a0.tmps.toList).toArray, defers := a0.defers } := by
  have e2 : a.tmps.toList = cutM a m 0 a0.tmps.toList := by
    refine cutM_eq a m _ 0 _ (by simpa using hs) (fun k h => ?_) (fun k h h' hb => ?_)
    · have h2 : k < a.tmps.size := by simpa using h
      rw [Nat.zero_add, Array.getElem?_eq_getElem h2]
      simp
    · have h1 : k < a0.tmps.size := by simpa using h
      have h2 : k < a.tmps.size := by simpa using h'
      have := List.all_eq_true.1 hB k (List.mem_range.2 h1)
      rw [hb, Bool.false_or] at this
      have hn : srcOf ops ops.size k = none := by
        cases hc : srcOf ops ops.size k with
        | none => rfl
        | some j => rw [hc] at this; cases this
      have hk := hF k
      unfold endG at hk
      rw [hn] at hk
      have hk2 : a.tmps[k]?.getD undef = a0.tmps[k]?.getD undef := by simpa [Act.eval] using hk
      rw [Array.getElem?_eq_getElem h1, Array.getElem?_eq_getElem h2] at hk2
      simpa using hk2
  exact act_ext (by rw [← e2]) hd
end Go.Proofs.Ytamcfmfkmekkfaa
/- Package expression: an operator's error. -/
namespace Go.Proofs.Ytamcfmfkmekkfaa
open Go.RowKit
theorem tmod5 (a : Int) : -5 < a.tmod 5 ∧ a.tmod 5 < 5 := by
  rcases Int.lt_or_le a 0 with h | h
  · have e : a.tmod 5 = -((-a).tmod 5) := by rw [Int.neg_tmod, Int.neg_neg]
    rw [e, Int.tmod_eq_emod_of_nonneg (by omega)]
    omega
  · rw [Int.tmod_eq_emod_of_nonneg h]
    omega
set_option maxRecDepth 100000 in
theorem sortOf_c (a : Int) (w : World) : Calls Try.prog 67 #[.int .i64 a] w fun e w' => e = .returned (.int .i64 (sortA a)) ∧ Below w.heap.size w w' := by
  have hr := tmod5 a
  have hw : IntKind.i64.wrap (a.tmod 5) = a.tmod 5 := IntWalk.i64_in _ (by omega)
  unfold sortA
  by_cases h : 3 < a.tmod 5
  · rw [if_pos h]
    have h2 : ¬ a.tmod 5 ≤ 3 := by omega
    go_enter Try.func67, Try.ntmps67
    go_wp2
    go_ret
    exact ⟨rfl, Below.refl _ _⟩
  · rw [if_neg h]
    have h2 : a.tmod 5 ≤ 3 := by omega
    go_enter Try.func67, Try.ntmps67
    go_wp2
    go_ret
    exact ⟨rfl, Below.refl _ _⟩
set_option maxRecDepth 100000 in
set_option maxHeartbeats 4000000 in
theorem hasFields_c (g o : Nat) (a r b : Int) (ao : Option Addr) (n cap : Nat) (s : S4) (w : World) (h1 : w.cell? ⟨g, o + 1, none⟩ = some (.int .i64 a)) (h2 : w.cell? ⟨g, o + 2, none⟩ = some (.int .i64 r)) (h3 : w.cell? ⟨g, o + 3, none⟩ = some (.int .i64 b)) (h4 : w.cell? ⟨g, o + 4, none⟩ = some (.slice ao n cap))
    (h5 : w.cell? ⟨g, o + 5, none⟩ = some (.int .u64 s.a)) (h6 : w.cell? ⟨g, o + 6, none⟩ = some (.int .u64 s.b)) (h7 : w.cell? ⟨g, o + 7, none⟩ = some (.int .u64 s.c)) (h8 : w.cell? ⟨g, o + 8, none⟩ = some (.int .u64 s.d)) :
    Calls Try.prog 51 #[.pointer (some ⟨g, o, none⟩)] w fun e w' => e = .returned (.bool (hasF a r b n s)) ∧ Below w.heap.size w w' := by
  unfold hasF isz
  cases q1 : (a == 0)
  · have p1 : (a != 0) = true := by rw [bne, q1]; rfl
    go_enter Try.func51, Try.ntmps51
    go_wp2
    go_ret
    exact ⟨rfl, Below.refl _ _⟩
  · have p1 : (a != 0) = false := by rw [bne, q1]; rfl
    cases q2 : (r == 0)
    · have p2 : (r != 0) = true := by rw [bne, q2]; rfl
      go_enter Try.func51, Try.ntmps51
      go_wp2
      go_ret
      exact ⟨rfl, Below.refl _ _⟩
    · have p2 : (r != 0) = false := by rw [bne, q2]; rfl
      cases q3 : (b == 0)
      · have p3 : (b != 0) = true := by rw [bne, q3]; rfl
        go_enter Try.func51, Try.ntmps51
        go_wp2
        go_ret
        exact ⟨rfl, Below.refl _ _⟩
      · have p3 : (b != 0) = false := by rw [bne, q3]; rfl
        by_cases q4 : 0 < n
        · have p4 : (0 : Int) < (n : Int) := by omega
          rw [decide_eq_true q4]
          go_enter Try.func51, Try.ntmps51
          go_wp2
          go_ret
          exact ⟨rfl, Below.refl _ _⟩
        · have p4 : ¬ (0 : Int) < (n : Int) := by omega
          rw [decide_eq_false q4]
          cases q5 : same4 s.a s.b s.c s.d 0 0 0 0
          · go_enter Try.func51, Try.ntmps51
            go_wp2
            go_ret
            exact ⟨rfl, Below.refl _ _⟩
          · go_enter Try.func51, Try.ntmps51
            go_wp2
            go_ret
            exact ⟨rfl, Below.refl _ _⟩
set_option maxRecDepth 100000 in
set_option maxHeartbeats 4000000 in
theorem membershipError_c (g o : Nat) (a n : Int) (w : World) (h1 : w.cell? ⟨g, o + 1, none⟩ = some (.int .i64 a)) :
    Calls Try.prog 53 #[.pointer (some ⟨g, o, none⟩), .int .i64 n] w fun e w' => e = .returned (.int .i64 (memE n a)) ∧ Below w.heap.size w w' := by
  unfold memE
  by_cases q1 : a < 0
  · rw [if_pos (.inl q1)]
    go_enter Try.func53, Try.ntmps53
    go_wp2
    go_ret
    exact ⟨rfl, Below.refl _ _⟩
  · by_cases q2 : n ≤ a
    · rw [if_pos (.inr q2)]
      go_enter Try.func53, Try.ntmps53
      go_wp2
      go_ret
      exact ⟨rfl, Below.refl _ _⟩
    · rw [if_neg (by omega)]
      have HS := Lib.hid (sortOf_c a)
      by_cases q3 : sortA a = 3
      · rw [if_pos q3]
        rw [q3] at HS
        clear q3
        go_enter Try.func53, Try.ntmps53
        go_wp2_with (go_at_call 67; refine (HS.out _).mono ?_; rintro e w1 ⟨rfl, hb1⟩)
        go_ret
        exact ⟨rfl, hb1⟩
      · rw [if_neg q3]
        generalize sortA a = t at *
        have q3' : (t == 3) = false := by simpa using q3
        go_enter Try.func53, Try.ntmps53
        go_wp2_with (go_at_call 67; refine (HS.out _).mono ?_; rintro e w1 ⟨rfl, hb1⟩)
        go_ret
        exact ⟨rfl, hb1⟩
set_option maxRecDepth 100000 in
set_option maxHeartbeats 8000000 in
theorem comparisonError_c (g o : Nat) (a r b n : Int) (w : World) (h1 : w.cell? ⟨g, o + 1, none⟩ = some (.int .i64 a)) (h2 : w.cell? ⟨g, o + 2, none⟩ = some (.int .i64 r)) (h3 : w.cell? ⟨g, o + 3, none⟩ = some (.int .i64 b)) (hg : g < w.heap.size) :
    Calls Try.prog 52 #[.pointer (some ⟨g, o, none⟩), .int .i64 n] w fun e w' => e = .returned (.int .i64 (cmpE n a r b)) ∧ Below w.heap.size w w' := by
  unfold cmpE
  by_cases q0 : a < 0
  · rw [if_pos (by omega)]
    go_enter Try.func52, Try.ntmps52
    go_wp2
    go_ret
    exact ⟨rfl, Below.refl _ _⟩
  · skip
    by_cases q1 : n ≤ a
    · rw [if_pos (by omega)]
      go_enter Try.func52, Try.ntmps52
      go_wp2
      go_ret
      exact ⟨rfl, Below.refl _ _⟩
    · skip
      by_cases q2 : b < 0
      · rw [if_pos (by omega)]
        go_enter Try.func52, Try.ntmps52
        go_wp2
        go_ret
        exact ⟨rfl, Below.refl _ _⟩
      · skip
        by_cases q3 : n ≤ b
        · rw [if_pos (by omega)]
          go_enter Try.func52, Try.ntmps52
          go_wp2
          go_ret
          exact ⟨rfl, Below.refl _ _⟩
        · skip
          by_cases q4 : r < 0
          · rw [if_pos (by omega)]
            go_enter Try.func52, Try.ntmps52
            go_wp2
            go_ret
            exact ⟨rfl, Below.refl _ _⟩
          · skip
            by_cases q5 : 4 < r
            · rw [if_pos (by omega)]
              go_enter Try.func52, Try.ntmps52
              go_wp2
              go_ret
              exact ⟨rfl, Below.refl _ _⟩
            · skip
              rw [if_neg (by omega)]
              obtain ⟨sa, hsa⟩ : ∃ sa, sortA a = sa := ⟨_, rfl⟩
              obtain ⟨sb, hsb⟩ : ∃ sb, sortA b = sb := ⟨_, rfl⟩
              have HA := Lib.hid (sortOf_c a)
              have HB := Lib.hid (sortOf_c b)
              rw [hsa] at HA
              rw [hsb] at HB
              rw [hsa, hsb]
              clear hsa hsb
              by_cases e1 : sa = sb
              · subst e1
                by_cases e2 : sa = 3
                · subst e2
                  rw [if_neg (by omega)]
                  have p1 : ((3 : Int) != 3) = false := rfl
                  go_enter Try.func52, Try.ntmps52
                  go_upto_region 3 with fail
                  refine wp_region_kp (by kernel_rfl) (by kernel_rfl) ?_
                  repeat (first
                      | go_big_quiet_skip
                      | (go_big_quiet_want
                         go_big_quiet_op
                         first
                           | go_big_quiet_on
                           | (apply Exists.intro
                              refine ⟨fun w1 hC => ?_, ?_⟩
                              · first
                                  | (go_at_call 67; with_reducible first | exact hC.call (HA.out _) | exact hC.call (HB.out _))
                                  | (go_simp; exact ⟨rfl, rfl⟩)
                                  | (have k1 := (World.cell?_of_block (hC.block g hg)).trans h1; have k2 := (World.cell?_of_block (hC.block g hg)).trans h2; have k3 := (World.cell?_of_block (hC.block g hg)).trans h3; go_simp; exact rfl)
                              go_big_quiet_on)))
                  refine wpQuiet_nil ?_
                  intro W1 hC
                  have HC := Lib.hid hC
                  clear hC
                  go_wp2_with fail
                  go_ret
                  exact ⟨rfl, HC.out⟩
                · have p1 : (sa != sa) = false := by simp
                  have p2 : (sa != 3) = true := by simpa using e2
                  by_cases e3 : 1 < r
                  · rw [if_pos (.inr ⟨e2, e3⟩)]
                    go_enter Try.func52, Try.ntmps52
                    go_upto_region 3 with fail
                    refine wp_region_kp (by kernel_rfl) (by kernel_rfl) ?_
                    repeat (first
                        | go_big_quiet_skip
                        | (go_big_quiet_want
                           go_big_quiet_op
                           first
                             | go_big_quiet_on
                             | (apply Exists.intro
                                refine ⟨fun w1 hC => ?_, ?_⟩
                                · first
                                    | (go_at_call 67; with_reducible first | exact hC.call (HA.out _) | exact hC.call (HB.out _))
                                    | (go_simp; exact ⟨rfl, rfl⟩)
                                    | (have k1 := (World.cell?_of_block (hC.block g hg)).trans h1; have k2 := (World.cell?_of_block (hC.block g hg)).trans h2; have k3 := (World.cell?_of_block (hC.block g hg)).trans h3; go_simp; exact rfl)
                                go_big_quiet_on)))
                    refine wpQuiet_nil ?_
                    intro W1 hC
                    have HC := Lib.hid hC
                    clear hC
                    go_wp2_with fail
                    go_ret
                    exact ⟨rfl, HC.out⟩
                  · rw [if_neg (by omega)]
                    go_enter Try.func52, Try.ntmps52
                    go_upto_region 3 with fail
                    refine wp_region_kp (by kernel_rfl) (by kernel_rfl) ?_
                    repeat (first
                        | go_big_quiet_skip
                        | (go_big_quiet_want
                           go_big_quiet_op
                           first
                             | go_big_quiet_on
                             | (apply Exists.intro
                                refine ⟨fun w1 hC => ?_, ?_⟩
                                · first
                                    | (go_at_call 67; with_reducible first | exact hC.call (HA.out _) | exact hC.call (HB.out _))
                                    | (go_simp; exact ⟨rfl, rfl⟩)
                                    | (have k1 := (World.cell?_of_block (hC.block g hg)).trans h1; have k2 := (World.cell?_of_block (hC.block g hg)).trans h2; have k3 := (World.cell?_of_block (hC.block g hg)).trans h3; go_simp; exact rfl)
                                go_big_quiet_on)))
                    refine wpQuiet_nil ?_
                    intro W1 hC
                    have HC := Lib.hid hC
                    clear hC
                    go_wp2_with fail
                    go_ret
                    exact ⟨rfl, HC.out⟩
              · rw [if_pos (.inl e1)]
                have p1 : (sa != sb) = true := by simpa using e1
                go_enter Try.func52, Try.ntmps52
                go_upto_region 3 with fail
                refine wp_region_kp (by kernel_rfl) (by kernel_rfl) ?_
                repeat (first
                    | go_big_quiet_skip
                    | (go_big_quiet_want
                       go_big_quiet_op
                       first
                         | go_big_quiet_on
                         | (apply Exists.intro
                            refine ⟨fun w1 hC => ?_, ?_⟩
                            · first
                                | (go_at_call 67; with_reducible first | exact hC.call (HA.out _) | exact hC.call (HB.out _))
                                | (go_simp; exact ⟨rfl, rfl⟩)
                                | (have k1 := (World.cell?_of_block (hC.block g hg)).trans h1; have k2 := (World.cell?_of_block (hC.block g hg)).trans h2; have k3 := (World.cell?_of_block (hC.block g hg)).trans h3; go_simp; exact rfl)
                            go_big_quiet_on)))
                refine wpQuiet_nil ?_
                intro W1 hC
                have HC := Lib.hid hC
                clear hC
                go_wp2_with fail
                go_ret
                exact ⟨rfl, HC.out⟩
end Go.Proofs.Ytamcfmfkmekkfaa
/- Package expression: Operator. -/
namespace Go.Proofs.Ytamcfmfkmekkfaa
open Go.RowKit
/-- the cells of an expression -/
structure XC (w : World) (g o : Nat) (op a r b : Int) (ao : Option Addr) (nn cap : Nat) (s : S4) (ak : Option Addr) (m ck : Nat) : Prop where
  cells : w.cell? ⟨g, o, none⟩ = some (.int .i64 op) ∧ w.cell? ⟨g, o + 1, none⟩ = some (.int .i64 a) ∧ w.cell? ⟨g, o + 2, none⟩ = some (.int .i64 r) ∧ w.cell? ⟨g, o + 3, none⟩ = some (.int .i64 b) ∧ w.cell? ⟨g, o + 4, none⟩ = some (.slice ao nn cap) ∧
    w.cell? ⟨g, o + 5, none⟩ = some (.int .u64 s.a) ∧ w.cell? ⟨g, o + 6, none⟩ = some (.int .u64 s.b) ∧ w.cell? ⟨g, o + 7, none⟩ = some (.int .u64 s.c) ∧ w.cell? ⟨g, o + 8, none⟩ = some (.int .u64 s.d) ∧ w.cell? ⟨g, o + 9, none⟩ = some (.slice ak m ck)
theorem XC.keep {w w' : World} {g o : Nat} {op a r b : Int} {ao : Option Addr} {nn cap : Nat} {s : S4} {ak : Option Addr} {m ck : Nat} (h : XC w g o op a r b ao nn cap s ak m ck) (hb : w'.heap[g]? = w.heap[g]?) : XC w' g o op a r b ao nn cap s ak m ck := by
  obtain ⟨h0, h1, h2, h3, h4, h5, h6, h7, h8, h9⟩ := h.cells
  have e : ∀ k, w'.cell? ⟨g, k, none⟩ = w.cell? ⟨g, k, none⟩ := fun k => World.cell?_of_block hb
  exact ⟨(e _).trans h0, (e _).trans h1, (e _).trans h2, (e _).trans h3, (e _).trans h4, (e _).trans h5, (e _).trans h6, (e _).trans h7, (e _).trans h8, (e _).trans h9⟩
theorem XC.of_blk {w : World} {g : Nat} {op a r b : Int} {ao : Option Addr} {nn cap : Nat} {s : S4} {ak : Option Addr} {m ck : Nat} (h : Blk w g 28 #[.int .i64 op, .int .i64 a, .int .i64 r, .int .i64 b, .slice ao nn cap, .int .u64 s.a, .int .u64 s.b, .int .u64 s.c, .int .u64 s.d, .slice ak m ck]) : XC w g 0 op a r b ao nn cap s ak m ck :=
  ⟨h.cell 0, h.cell 1, h.cell 2, h.cell 3, h.cell 4, h.cell 5, h.cell 6, h.cell 7, h.cell 8, h.cell 9⟩
theorem end_mask {ops : Array Oper} {n : Nat} {Φ : Nat → Value → World → Prop} {a0 a : Act} {w : World} (m : List Bool) (hs : a.tmps.size = a0.tmps.size) (hd : a.defers = a0.defers) (hF : ∀ t, factEnd ops n Φ a0 a w t)
    (hB : ((List.range a0.tmps.size).all fun t => m[t]?.getD false || (srcOf ops n t).isNone) = true) : a = { tmps := (cutM a m 0 a0.tmps.toList).toArray, defers := a0.defers } := by
  have e2 : a.tmps.toList = cutM a m 0 a0.tmps.toList := by
    refine cutM_eq a m _ 0 _ (by simpa using hs) (fun k h => ?_) (fun k h h' hb => ?_)
    · have h2 : k < a.tmps.size := by simpa using h
      rw [Nat.zero_add, Array.getElem?_eq_getElem h2]
      simp
    · have h1 : k < a0.tmps.size := by simpa using h
      have h2 : k < a.tmps.size := by simpa using h'
      have := List.all_eq_true.1 hB k (List.mem_range.2 h1)
      rw [hb, Bool.false_or] at this
      have hn : srcOf ops n k = none := by
        cases hc : srcOf ops n k with
        | none => rfl
        | some j => rw [hc] at this; cases this
      have hk := hF k
      unfold factEnd at hk
      rw [hn] at hk
      have hk2 : a.tmps[k]?.getD undef = a0.tmps[k]?.getD undef := by simpa [Act.eval] using hk
      rw [Array.getElem?_eq_getElem h1, Array.getElem?_eq_getElem h2] at hk2
      simpa using hk2
  exact act_ext (by rw [← e2]) hd
theorem Blk.store10 {w : World} {g : Nat} {t : TypeId} {c0 c1 c2 c3 c4 c5 c6 c7 c8 c9 : Value} (h : Blk w g t #[c0, c1, c2, c3, c4, c5, c6, c7, c8, c9]) (v0 v1 v2 v3 v4 v5 v6 v7 v8 v9 : Value) : Blk ((((((((((w.setCell ⟨g, 0, none⟩ v0).setCell ⟨g, 1, none⟩ v1).setCell ⟨g, 2, none⟩ v2).setCell ⟨g, 3, none⟩ v3).setCell ⟨g, 4, none⟩ v4).setCell ⟨g, 5, none⟩ v5).setCell ⟨g, 6, none⟩ v6).setCell ⟨g, 7, none⟩ v7).setCell ⟨g, 8, none⟩ v8).setCell ⟨g, 9, none⟩ v9) g t #[v0, v1, v2, v3, v4, v5, v6, v7, v8, v9] := by
  have k := (Blk.set (Blk.set (Blk.set (Blk.set (Blk.set (Blk.set (Blk.set (Blk.set (Blk.set (Blk.set h 0 v0) 1 v1) 2 v2) 3 v3) 4 v4) 5 v5) 6 v6) 7 v7) 8 v8) 9 v9)
  simp only [List.setIfInBounds_toArray, List.set_cons_zero, List.set_cons_succ] at k
  exact k
theorem below_set1 {B : Nat} {w w' : World} {g : Nat} (h : Below B w w') (hg : B ≤ g) (k : Nat) (u : Value) : Below B w (w'.setCell ⟨g, k, none⟩ u) :=
  ⟨h.os, h.tape, h.output, by have := h.size; simpa [World.setCell] using this, fun j hj => (Below.heap_setCell w' ⟨g, k, none⟩ u j (by show j ≠ g; omega)).trans (h.block j hj)⟩
def oPhi (g o : Nat) (op a r b : Int) (ao : Option Addr) (nn cap : Nat) (s : S4) (ak : Option Addr) (m ck : Nat) (W0 : World) (k : Nat) (v : Value) (u : World) : Prop := match k with
  | 0 => v = .pointer (some ⟨g, o, none⟩)
  | 1 => v = .pointer (some ⟨g, o, none⟩)
  | 2 => v = .agg #[.int .i64 op, .int .i64 a, .int .i64 r, .int .i64 b, .slice ao nn cap, .int .u64 s.a, .int .u64 s.b, .int .u64 s.c, .int .u64 s.d, .slice ak m ck]
  | 3 => ∃ g, v = .pointer (some ⟨g, 0, none⟩) ∧ W0.heap.size ≤ g ∧ Blk u g 28 #[.int .i64 0, .int .i64 0, .int .i64 0, .int .i64 0, .slice none 0 0, .int .u64 0, .int .u64 0, .int .u64 0, .int .u64 0, .slice none 0 0]
  | 4 => v = .int .i64 0
  | _ => True
theorem oPhi_keep {g o : Nat} {op a r b : Int} {ao : Option Addr} {nn cap : Nat} {s : S4} {ak : Option Addr} {m ck : Nat} {W0 : World} {k : Nat} {v : Value} {u u' : World} (h : oPhi g o op a r b ao nn cap s ak m ck W0 k v u) (hb : Below u.heap.size u u') : oPhi g o op a r b ao nn cap s ak m ck W0 k v u' := by
  unfold oPhi at h ⊢
  split at h
  iterate 3 exact h
  · obtain ⟨g, h1, h2, h3⟩ := h
    exact ⟨g, h1, h2, h3.keep hb⟩
  · exact h
  · trivial
end Go.Proofs.Ytamcfmfkmekkfaa
/- Package expression: Operator, one operator. -/
namespace Go.Proofs.Ytamcfmfkmekkfaa
open Go.RowKit
set_option maxRecDepth 100000 in
set_option maxHeartbeats 16000000 in
theorem operator2_c (g o : Nat) (op a r b : Int) (ao : Option Addr) (nn cap : Nat) (s : S4) (ak : Option Addr) (m ck : Nat) (n : Int) (w : World) (hX : XC w g o op a r b ao nn cap s ak m ck) (hg : g < w.heap.size) (hop : op = 2) :
    Calls Try.prog 33 #[.pointer (some ⟨g, o, none⟩), .int .i64 n] w fun e w' => e = .returned (.int .i64 (operE n op a r b nn s m)) ∧ Below w.heap.size w w' := by
  have HX := Lib.hid hX
  have HG := Lib.hid hg
  clear hX hg
  unfold operE
  rw [if_pos hop]
  have p2 : (op == 2) = true := by rw [hop]; rfl
  have p3 : (op == 3) = false := by rw [hop]; rfl
  have p4 : (op == 4) = false := by rw [hop]; rfl
  have p8 : (op == 8) = false := by rw [hop]; rfl
  have p9 : (op == 9) = false := by rw [hop]; rfl
  by_cases hm : m = 1
  · have hmi : ((m : Int) != 1) = false := by rw [hm]; rfl
    cases hh : hasF a r b nn s with
    | true =>
      rw [if_pos (.inr rfl)]
      have HH := Lib.hid hh
      clear hh hm hop
      go_enter Try.func33, Try.ntmps33
      go_upto_region 1 with fail
      refine wp_region_phit 5 (oPhi g o op a r b ao nn cap s ak m ck w) (by kernel_rfl) (by decide) (by kernel_rfl) (by kernel_rfl) (by kernel_rfl) (fun k v u u2 h hb => oPhi_keep h hb) ?_ ?_
      · refine ⟨⟨trivial, fun A u hK hF => ?_⟩, ⟨trivial, fun A u hK hF => ?_⟩, ⟨trivial, fun A u hK hF => ?_⟩, ⟨trivial, fun A u hK hF => ?_⟩, ⟨trivial, fun A u hK hF => ?_⟩, trivial⟩
        · have f0 : A.tmps[0]?.getD undef = .pointer (some ⟨g, o, none⟩) := fact_none (hF 0) (by kernel_rfl)
          unfold Gives
          go_simp
          exact gives_val (Below.refl _ _) rfl
        · have f7 : A.tmps[7]?.getD undef = .pointer (some ⟨g, o, none⟩) := fact_some (hF 7) (j := 0) (by kernel_rfl) (by kernel_rfl)
          unfold Gives
          go_simp
          exact gives_val (Below.refl _ _) rfl
        · have f8 : A.tmps[8]?.getD undef = .pointer (some ⟨g, o, none⟩) := fact_some (hF 8) (j := 1) (by kernel_rfl) (by kernel_rfl)
          obtain ⟨k0, k1, k2, k3, k4, k5, k6, k7, k8, k9⟩ := (HX.out.keep (hK.block g HG.out)).cells
          unfold Gives
          go_simp
          exact gives_val (Below.refl _ _) rfl
        · unfold Gives
          go_simp
          exact gives_val ((Below.refl _ _).alloc (Nat.le_refl _) _) ⟨_, rfl, hK.size, Blk.new _ _ _⟩
        · unfold Gives
          go_simp
          exact gives_val (Below.refl _ _) rfl
      intro a0 W2 hC hsz hdf hF
      have ha := end_mask [false, false, false, false, false, true, true, true, true, true, false, false, false, false, false, false, false, false, false, false, false, false, false, false, false, false, false, false, false, false, false, false, false, false, false, false, false, false, false, false, false, false, false, false, false, false, false, false, false, false, false, false, false, false, false, false, false, false] hsz hdf hF (by kernel_rfl)
      have f9 : a0.tmps[9]?.getD undef = .agg #[.int .i64 op, .int .i64 a, .int .i64 r, .int .i64 b, .slice ao nn cap, .int .u64 s.a, .int .u64 s.b, .int .u64 s.c, .int .u64 s.d, .slice ak m ck] := fact_end (hF 9) (j := 2) (by kernel_rfl)
      have f5 : a0.tmps[5]?.getD undef = .int .i64 0 := fact_end (hF 5) (j := 4) (by kernel_rfl)
      obtain ⟨g6, f6, hg6, hb6⟩ : ∃ g, a0.tmps[6]?.getD undef = .pointer (some ⟨g, 0, none⟩) ∧ w.heap.size ≤ g ∧ Blk W2 g 28 #[.int .i64 0, .int .i64 0, .int .i64 0, .int .i64 0, .slice none 0 0, .int .u64 0, .int .u64 0, .int .u64 0, .int .u64 0, .slice none 0 0] := fact_end (hF 6) (j := 3) (by kernel_rfl)
      rw [ha]
      clear ha hF
      simp only [cutM_yes, cutM_no, cutM_nil, Nat.reduceAdd]
      rw [f9, f5, f6]
      clear f9 f5 f6
      generalize a0.tmps[7]?.getD undef = s7
      generalize a0.tmps[8]?.getD undef = s8
      clear hsz hdf
      have HG6 := Lib.hid hg6
      have HB : Hid (Blk ((((((((((W2.setCell ⟨g6, 0, none⟩ (.int .i64 op)).setCell ⟨g6, 1, none⟩ (.int .i64 a)).setCell ⟨g6, 2, none⟩ (.int .i64 r)).setCell ⟨g6, 3, none⟩ (.int .i64 b)).setCell ⟨g6, 4, none⟩ (.slice ao nn cap)).setCell ⟨g6, 5, none⟩ (.int .u64 s.a)).setCell ⟨g6, 6, none⟩ (.int .u64 s.b)).setCell ⟨g6, 7, none⟩ (.int .u64 s.c)).setCell ⟨g6, 8, none⟩ (.int .u64 s.d)).setCell ⟨g6, 9, none⟩ (.slice ak m ck)) g6 28 #[.int .i64 op, .int .i64 a, .int .i64 r, .int .i64 b, .slice ao nn cap, .int .u64 s.a, .int .u64 s.b, .int .u64 s.c, .int .u64 s.d, .slice ak m ck]) := Lib.hid (Blk.store10 hb6 _ _ _ _ _ _ _ _ _ _)
      have HK : Hid (Below w.heap.size w ((((((((((W2.setCell ⟨g6, 0, none⟩ (.int .i64 op)).setCell ⟨g6, 1, none⟩ (.int .i64 a)).setCell ⟨g6, 2, none⟩ (.int .i64 r)).setCell ⟨g6, 3, none⟩ (.int .i64 b)).setCell ⟨g6, 4, none⟩ (.slice ao nn cap)).setCell ⟨g6, 5, none⟩ (.int .u64 s.a)).setCell ⟨g6, 6, none⟩ (.int .u64 s.b)).setCell ⟨g6, 7, none⟩ (.int .u64 s.c)).setCell ⟨g6, 8, none⟩ (.int .u64 s.d)).setCell ⟨g6, 9, none⟩ (.slice ak m ck))) := Lib.hid (below_set1 (below_set1 (below_set1 (below_set1 (below_set1 (below_set1 (below_set1 (below_set1 (below_set1 (below_set1 hC HG6.out 0 _) HG6.out 1 _) HG6.out 2 _) HG6.out 3 _) HG6.out 4 _) HG6.out 5 _) HG6.out 6 _) HG6.out 7 _) HG6.out 8 _) HG6.out 9 _)
      have c8 := hb6.cell
      have k0 := c8 0
      have k1 := c8 1
      have k2 := c8 2
      have k3 := c8 3
      have k4 := c8 4
      have k5 := c8 5
      have k6 := c8 6
      have k7 := c8 7
      have k8 := c8 8
      have k9 := c8 9
      have z6 := hb6.frozen
      clear c8 hC hb6 hg6
      go_upto_region 2 with fail
      generalize ((((((((((W2.setCell ⟨g6, 0, none⟩ (.int .i64 op)).setCell ⟨g6, 1, none⟩ (.int .i64 a)).setCell ⟨g6, 2, none⟩ (.int .i64 r)).setCell ⟨g6, 3, none⟩ (.int .i64 b)).setCell ⟨g6, 4, none⟩ (.slice ao nn cap)).setCell ⟨g6, 5, none⟩ (.int .u64 s.a)).setCell ⟨g6, 6, none⟩ (.int .u64 s.b)).setCell ⟨g6, 7, none⟩ (.int .u64 s.c)).setCell ⟨g6, 8, none⟩ (.int .u64 s.d)).setCell ⟨g6, 9, none⟩ (.slice ak m ck)) = W3 at *
      clear k0 k1 k2 k3 k4 k5 k6 k7 k8 k9 z6
      obtain ⟨x0, x1, x2, x3, x4, x5, x6, x7, x8, x9⟩ := (HX.out.keep (HK.out.block g HG.out)).cells
      have HBK := HK
      have HBB := HB
      go_wp2_with ((go_at_call 51; refine (hasFields_c g6 0 a r b ao nn cap s _ (HBB.out.cell 1) (HBB.out.cell 2) (HBB.out.cell 3) (HBB.out.cell 4) (HBB.out.cell 5) (HBB.out.cell 6) (HBB.out.cell 7) (HBB.out.cell 8)).mono ?_; rw [HH.out]; rintro e W4 ⟨rfl, hb4⟩; have HX4 := Lib.hid (HX.out.keep ((hb4.block g (by have h := HBK.out.size; have := HG.out; omega)).trans (HBK.out.block g HG.out))); obtain ⟨y0, y1, y2, y3, y4, y5, y6, y7, y8, y9⟩ := HX4.out.cells; have HB4 := Lib.hid (HBK.out.trans (hb4.mono HBK.out.size)); clear hb4))
      go_ret
      exact ⟨rfl, HB4.out⟩
    | false =>
      rw [if_neg (by simp [hm])]
      have HH := Lib.hid hh
      clear hh hm hop
      go_enter Try.func33, Try.ntmps33
      go_upto_region 1 with fail
      refine wp_region_phit 5 (oPhi g o op a r b ao nn cap s ak m ck w) (by kernel_rfl) (by decide) (by kernel_rfl) (by kernel_rfl) (by kernel_rfl) (fun k v u u2 h hb => oPhi_keep h hb) ?_ ?_
      · refine ⟨⟨trivial, fun A u hK hF => ?_⟩, ⟨trivial, fun A u hK hF => ?_⟩, ⟨trivial, fun A u hK hF => ?_⟩, ⟨trivial, fun A u hK hF => ?_⟩, ⟨trivial, fun A u hK hF => ?_⟩, trivial⟩
        · have f0 : A.tmps[0]?.getD undef = .pointer (some ⟨g, o, none⟩) := fact_none (hF 0) (by kernel_rfl)
          unfold Gives
          go_simp
          exact gives_val (Below.refl _ _) rfl
        · have f7 : A.tmps[7]?.getD undef = .pointer (some ⟨g, o, none⟩) := fact_some (hF 7) (j := 0) (by kernel_rfl) (by kernel_rfl)
          unfold Gives
          go_simp
          exact gives_val (Below.refl _ _) rfl
        · have f8 : A.tmps[8]?.getD undef = .pointer (some ⟨g, o, none⟩) := fact_some (hF 8) (j := 1) (by kernel_rfl) (by kernel_rfl)
          obtain ⟨k0, k1, k2, k3, k4, k5, k6, k7, k8, k9⟩ := (HX.out.keep (hK.block g HG.out)).cells
          unfold Gives
          go_simp
          exact gives_val (Below.refl _ _) rfl
        · unfold Gives
          go_simp
          exact gives_val ((Below.refl _ _).alloc (Nat.le_refl _) _) ⟨_, rfl, hK.size, Blk.new _ _ _⟩
        · unfold Gives
          go_simp
          exact gives_val (Below.refl _ _) rfl
      intro a0 W2 hC hsz hdf hF
      have ha := end_mask [false, false, false, false, false, true, true, true, true, true, false, false, false, false, false, false, false, false, false, false, false, false, false, false, false, false, false, false, false, false, false, false, false, false, false, false, false, false, false, false, false, false, false, false, false, false, false, false, false, false, false, false, false, false, false, false, false, false] hsz hdf hF (by kernel_rfl)
      have f9 : a0.tmps[9]?.getD undef = .agg #[.int .i64 op, .int .i64 a, .int .i64 r, .int .i64 b, .slice ao nn cap, .int .u64 s.a, .int .u64 s.b, .int .u64 s.c, .int .u64 s.d, .slice ak m ck] := fact_end (hF 9) (j := 2) (by kernel_rfl)
      have f5 : a0.tmps[5]?.getD undef = .int .i64 0 := fact_end (hF 5) (j := 4) (by kernel_rfl)
      obtain ⟨g6, f6, hg6, hb6⟩ : ∃ g, a0.tmps[6]?.getD undef = .pointer (some ⟨g, 0, none⟩) ∧ w.heap.size ≤ g ∧ Blk W2 g 28 #[.int .i64 0, .int .i64 0, .int .i64 0, .int .i64 0, .slice none 0 0, .int .u64 0, .int .u64 0, .int .u64 0, .int .u64 0, .slice none 0 0] := fact_end (hF 6) (j := 3) (by kernel_rfl)
      rw [ha]
      clear ha hF
      simp only [cutM_yes, cutM_no, cutM_nil, Nat.reduceAdd]
      rw [f9, f5, f6]
      clear f9 f5 f6
      generalize a0.tmps[7]?.getD undef = s7
      generalize a0.tmps[8]?.getD undef = s8
      clear hsz hdf
      have HG6 := Lib.hid hg6
      have HB : Hid (Blk ((((((((((W2.setCell ⟨g6, 0, none⟩ (.int .i64 op)).setCell ⟨g6, 1, none⟩ (.int .i64 a)).setCell ⟨g6, 2, none⟩ (.int .i64 r)).setCell ⟨g6, 3, none⟩ (.int .i64 b)).setCell ⟨g6, 4, none⟩ (.slice ao nn cap)).setCell ⟨g6, 5, none⟩ (.int .u64 s.a)).setCell ⟨g6, 6, none⟩ (.int .u64 s.b)).setCell ⟨g6, 7, none⟩ (.int .u64 s.c)).setCell ⟨g6, 8, none⟩ (.int .u64 s.d)).setCell ⟨g6, 9, none⟩ (.slice ak m ck)) g6 28 #[.int .i64 op, .int .i64 a, .int .i64 r, .int .i64 b, .slice ao nn cap, .int .u64 s.a, .int .u64 s.b, .int .u64 s.c, .int .u64 s.d, .slice ak m ck]) := Lib.hid (Blk.store10 hb6 _ _ _ _ _ _ _ _ _ _)
      have HK : Hid (Below w.heap.size w ((((((((((W2.setCell ⟨g6, 0, none⟩ (.int .i64 op)).setCell ⟨g6, 1, none⟩ (.int .i64 a)).setCell ⟨g6, 2, none⟩ (.int .i64 r)).setCell ⟨g6, 3, none⟩ (.int .i64 b)).setCell ⟨g6, 4, none⟩ (.slice ao nn cap)).setCell ⟨g6, 5, none⟩ (.int .u64 s.a)).setCell ⟨g6, 6, none⟩ (.int .u64 s.b)).setCell ⟨g6, 7, none⟩ (.int .u64 s.c)).setCell ⟨g6, 8, none⟩ (.int .u64 s.d)).setCell ⟨g6, 9, none⟩ (.slice ak m ck))) := Lib.hid (below_set1 (below_set1 (below_set1 (below_set1 (below_set1 (below_set1 (below_set1 (below_set1 (below_set1 (below_set1 hC HG6.out 0 _) HG6.out 1 _) HG6.out 2 _) HG6.out 3 _) HG6.out 4 _) HG6.out 5 _) HG6.out 6 _) HG6.out 7 _) HG6.out 8 _) HG6.out 9 _)
      have c8 := hb6.cell
      have k0 := c8 0
      have k1 := c8 1
      have k2 := c8 2
      have k3 := c8 3
      have k4 := c8 4
      have k5 := c8 5
      have k6 := c8 6
      have k7 := c8 7
      have k8 := c8 8
      have k9 := c8 9
      have z6 := hb6.frozen
      clear c8 hC hb6 hg6
      go_upto_region 2 with fail
      generalize ((((((((((W2.setCell ⟨g6, 0, none⟩ (.int .i64 op)).setCell ⟨g6, 1, none⟩ (.int .i64 a)).setCell ⟨g6, 2, none⟩ (.int .i64 r)).setCell ⟨g6, 3, none⟩ (.int .i64 b)).setCell ⟨g6, 4, none⟩ (.slice ao nn cap)).setCell ⟨g6, 5, none⟩ (.int .u64 s.a)).setCell ⟨g6, 6, none⟩ (.int .u64 s.b)).setCell ⟨g6, 7, none⟩ (.int .u64 s.c)).setCell ⟨g6, 8, none⟩ (.int .u64 s.d)).setCell ⟨g6, 9, none⟩ (.slice ak m ck)) = W3 at *
      clear k0 k1 k2 k3 k4 k5 k6 k7 k8 k9 z6
      obtain ⟨x0, x1, x2, x3, x4, x5, x6, x7, x8, x9⟩ := (HX.out.keep (HK.out.block g HG.out)).cells
      have HBK := HK
      have HBB := HB
      go_wp2_with ((go_at_call 51; refine (hasFields_c g6 0 a r b ao nn cap s _ (HBB.out.cell 1) (HBB.out.cell 2) (HBB.out.cell 3) (HBB.out.cell 4) (HBB.out.cell 5) (HBB.out.cell 6) (HBB.out.cell 7) (HBB.out.cell 8)).mono ?_; rw [HH.out]; rintro e W4 ⟨rfl, hb4⟩; have HX4 := Lib.hid (HX.out.keep ((hb4.block g (by have h := HBK.out.size; have := HG.out; omega)).trans (HBK.out.block g HG.out))); obtain ⟨y0, y1, y2, y3, y4, y5, y6, y7, y8, y9⟩ := HX4.out.cells; have HB4 := Lib.hid (HBK.out.trans (hb4.mono HBK.out.size)); clear hb4))
      go_ret
      exact ⟨rfl, HB4.out⟩
  · rw [if_pos (.inl hm)]
    have hmi : ((m : Int) != 1) = true := by simp; omega
    clear hm hop
    go_enter Try.func33, Try.ntmps33
    go_upto_region 1 with fail
    refine wp_region_phit 5 (oPhi g o op a r b ao nn cap s ak m ck w) (by kernel_rfl) (by decide) (by kernel_rfl) (by kernel_rfl) (by kernel_rfl) (fun k v u u2 h hb => oPhi_keep h hb) ?_ ?_
    · refine ⟨⟨trivial, fun A u hK hF => ?_⟩, ⟨trivial, fun A u hK hF => ?_⟩, ⟨trivial, fun A u hK hF => ?_⟩, ⟨trivial, fun A u hK hF => ?_⟩, ⟨trivial, fun A u hK hF => ?_⟩, trivial⟩
      · have f0 : A.tmps[0]?.getD undef = .pointer (some ⟨g, o, none⟩) := fact_none (hF 0) (by kernel_rfl)
        unfold Gives
        go_simp
        exact gives_val (Below.refl _ _) rfl
      · have f7 : A.tmps[7]?.getD undef = .pointer (some ⟨g, o, none⟩) := fact_some (hF 7) (j := 0) (by kernel_rfl) (by kernel_rfl)
        unfold Gives
        go_simp
        exact gives_val (Below.refl _ _) rfl
      · have f8 : A.tmps[8]?.getD undef = .pointer (some ⟨g, o, none⟩) := fact_some (hF 8) (j := 1) (by kernel_rfl) (by kernel_rfl)
        obtain ⟨k0, k1, k2, k3, k4, k5, k6, k7, k8, k9⟩ := (HX.out.keep (hK.block g HG.out)).cells
        unfold Gives
        go_simp
        exact gives_val (Below.refl _ _) rfl
      · unfold Gives
        go_simp
        exact gives_val ((Below.refl _ _).alloc (Nat.le_refl _) _) ⟨_, rfl, hK.size, Blk.new _ _ _⟩
      · unfold Gives
        go_simp
        exact gives_val (Below.refl _ _) rfl
    intro a0 W2 hC hsz hdf hF
    have ha := end_mask [false, false, false, false, false, true, true, true, true, true, false, false, false, false, false, false, false, false, false, false, false, false, false, false, false, false, false, false, false, false, false, false, false, false, false, false, false, false, false, false, false, false, false, false, false, false, false, false, false, false, false, false, false, false, false, false, false, false] hsz hdf hF (by kernel_rfl)
    have f9 : a0.tmps[9]?.getD undef = .agg #[.int .i64 op, .int .i64 a, .int .i64 r, .int .i64 b, .slice ao nn cap, .int .u64 s.a, .int .u64 s.b, .int .u64 s.c, .int .u64 s.d, .slice ak m ck] := fact_end (hF 9) (j := 2) (by kernel_rfl)
    have f5 : a0.tmps[5]?.getD undef = .int .i64 0 := fact_end (hF 5) (j := 4) (by kernel_rfl)
    obtain ⟨g6, f6, hg6, hb6⟩ : ∃ g, a0.tmps[6]?.getD undef = .pointer (some ⟨g, 0, none⟩) ∧ w.heap.size ≤ g ∧ Blk W2 g 28 #[.int .i64 0, .int .i64 0, .int .i64 0, .int .i64 0, .slice none 0 0, .int .u64 0, .int .u64 0, .int .u64 0, .int .u64 0, .slice none 0 0] := fact_end (hF 6) (j := 3) (by kernel_rfl)
    rw [ha]
    clear ha hF
    simp only [cutM_yes, cutM_no, cutM_nil, Nat.reduceAdd]
    rw [f9, f5, f6]
    clear f9 f5 f6
    generalize a0.tmps[7]?.getD undef = s7
    generalize a0.tmps[8]?.getD undef = s8
    clear hsz hdf
    have HG6 := Lib.hid hg6
    have HB : Hid (Blk ((((((((((W2.setCell ⟨g6, 0, none⟩ (.int .i64 op)).setCell ⟨g6, 1, none⟩ (.int .i64 a)).setCell ⟨g6, 2, none⟩ (.int .i64 r)).setCell ⟨g6, 3, none⟩ (.int .i64 b)).setCell ⟨g6, 4, none⟩ (.slice ao nn cap)).setCell ⟨g6, 5, none⟩ (.int .u64 s.a)).setCell ⟨g6, 6, none⟩ (.int .u64 s.b)).setCell ⟨g6, 7, none⟩ (.int .u64 s.c)).setCell ⟨g6, 8, none⟩ (.int .u64 s.d)).setCell ⟨g6, 9, none⟩ (.slice ak m ck)) g6 28 #[.int .i64 op, .int .i64 a, .int .i64 r, .int .i64 b, .slice ao nn cap, .int .u64 s.a, .int .u64 s.b, .int .u64 s.c, .int .u64 s.d, .slice ak m ck]) := Lib.hid (Blk.store10 hb6 _ _ _ _ _ _ _ _ _ _)
    have HK : Hid (Below w.heap.size w ((((((((((W2.setCell ⟨g6, 0, none⟩ (.int .i64 op)).setCell ⟨g6, 1, none⟩ (.int .i64 a)).setCell ⟨g6, 2, none⟩ (.int .i64 r)).setCell ⟨g6, 3, none⟩ (.int .i64 b)).setCell ⟨g6, 4, none⟩ (.slice ao nn cap)).setCell ⟨g6, 5, none⟩ (.int .u64 s.a)).setCell ⟨g6, 6, none⟩ (.int .u64 s.b)).setCell ⟨g6, 7, none⟩ (.int .u64 s.c)).setCell ⟨g6, 8, none⟩ (.int .u64 s.d)).setCell ⟨g6, 9, none⟩ (.slice ak m ck))) := Lib.hid (below_set1 (below_set1 (below_set1 (below_set1 (below_set1 (below_set1 (below_set1 (below_set1 (below_set1 (below_set1 hC HG6.out 0 _) HG6.out 1 _) HG6.out 2 _) HG6.out 3 _) HG6.out 4 _) HG6.out 5 _) HG6.out 6 _) HG6.out 7 _) HG6.out 8 _) HG6.out 9 _)
    have c8 := hb6.cell
    have k0 := c8 0
    have k1 := c8 1
    have k2 := c8 2
    have k3 := c8 3
    have k4 := c8 4
    have k5 := c8 5
    have k6 := c8 6
    have k7 := c8 7
    have k8 := c8 8
    have k9 := c8 9
    have z6 := hb6.frozen
    clear c8 hC hb6 hg6
    go_upto_region 2 with fail
    generalize ((((((((((W2.setCell ⟨g6, 0, none⟩ (.int .i64 op)).setCell ⟨g6, 1, none⟩ (.int .i64 a)).setCell ⟨g6, 2, none⟩ (.int .i64 r)).setCell ⟨g6, 3, none⟩ (.int .i64 b)).setCell ⟨g6, 4, none⟩ (.slice ao nn cap)).setCell ⟨g6, 5, none⟩ (.int .u64 s.a)).setCell ⟨g6, 6, none⟩ (.int .u64 s.b)).setCell ⟨g6, 7, none⟩ (.int .u64 s.c)).setCell ⟨g6, 8, none⟩ (.int .u64 s.d)).setCell ⟨g6, 9, none⟩ (.slice ak m ck)) = W3 at *
    clear k0 k1 k2 k3 k4 k5 k6 k7 k8 k9 z6
    obtain ⟨x0, x1, x2, x3, x4, x5, x6, x7, x8, x9⟩ := (HX.out.keep (HK.out.block g HG.out)).cells
    have HBK := HK
    have HBB := HB
    go_wp2_with fail
    go_ret
    exact ⟨rfl, HBK.out⟩
end Go.Proofs.Ytamcfmfkmekkfaa
/- Package expression: Operator, one operator. -/
namespace Go.Proofs.Ytamcfmfkmekkfaa
open Go.RowKit
set_option maxRecDepth 100000 in
set_option maxHeartbeats 16000000 in
theorem operator3_c (g o : Nat) (op a r b : Int) (ao : Option Addr) (nn cap : Nat) (s : S4) (ak : Option Addr) (m ck : Nat) (n : Int) (w : World) (hX : XC w g o op a r b ao nn cap s ak m ck) (hg : g < w.heap.size) (hop : op = 3) :
    Calls Try.prog 33 #[.pointer (some ⟨g, o, none⟩), .int .i64 n] w fun e w' => e = .returned (.int .i64 (operE n op a r b nn s m)) ∧ Below w.heap.size w w' := by
  have HX := Lib.hid hX
  have HG := Lib.hid hg
  clear hX hg
  unfold operE
  rw [if_neg (by omega), if_pos (by omega)]
  have p2 : (op == 2) = false := by rw [hop]; rfl
  have p3 : (op == 3) = true := by rw [hop]; rfl
  have p4 : (op == 4) = false := by rw [hop]; rfl
  have p8 : (op == 8) = false := by rw [hop]; rfl
  have p9 : (op == 9) = false := by rw [hop]; rfl
  by_cases hm : m = 2
  · have hmi : ((m : Int) != 2) = false := by rw [hm]; rfl
    cases hh : hasF a r b nn s with
    | true =>
      rw [if_pos (.inr rfl)]
      have HH := Lib.hid hh
      clear hh hm hop
      go_enter Try.func33, Try.ntmps33
      go_upto_region 1 with fail
      refine wp_region_phit 5 (oPhi g o op a r b ao nn cap s ak m ck w) (by kernel_rfl) (by decide) (by kernel_rfl) (by kernel_rfl) (by kernel_rfl) (fun k v u u2 h hb => oPhi_keep h hb) ?_ ?_
      · refine ⟨⟨trivial, fun A u hK hF => ?_⟩, ⟨trivial, fun A u hK hF => ?_⟩, ⟨trivial, fun A u hK hF => ?_⟩, ⟨trivial, fun A u hK hF => ?_⟩, ⟨trivial, fun A u hK hF => ?_⟩, trivial⟩
        · have f0 : A.tmps[0]?.getD undef = .pointer (some ⟨g, o, none⟩) := fact_none (hF 0) (by kernel_rfl)
          unfold Gives
          go_simp
          exact gives_val (Below.refl _ _) rfl
        · have f7 : A.tmps[7]?.getD undef = .pointer (some ⟨g, o, none⟩) := fact_some (hF 7) (j := 0) (by kernel_rfl) (by kernel_rfl)
          unfold Gives
          go_simp
          exact gives_val (Below.refl _ _) rfl
        · have f8 : A.tmps[8]?.getD undef = .pointer (some ⟨g, o, none⟩) := fact_some (hF 8) (j := 1) (by kernel_rfl) (by kernel_rfl)
          obtain ⟨k0, k1, k2, k3, k4, k5, k6, k7, k8, k9⟩ := (HX.out.keep (hK.block g HG.out)).cells
          unfold Gives
          go_simp
          exact gives_val (Below.refl _ _) rfl
        · unfold Gives
          go_simp
          exact gives_val ((Below.refl _ _).alloc (Nat.le_refl _) _) ⟨_, rfl, hK.size, Blk.new _ _ _⟩
        · unfold Gives
          go_simp
          exact gives_val (Below.refl _ _) rfl
      intro a0 W2 hC hsz hdf hF
      have ha := end_mask [false, false, false, false, false, true, true, true, true, true, false, false, false, false, false, false, false, false, false, false, false, false, false, false, false, false, false, false, false, false, false, false, false, false, false, false, false, false, false, false, false, false, false, false, false, false, false, false, false, false, false, false, false, false, false, false, false, false] hsz hdf hF (by kernel_rfl)
      have f9 : a0.tmps[9]?.getD undef = .agg #[.int .i64 op, .int .i64 a, .int .i64 r, .int .i64 b, .slice ao nn cap, .int .u64 s.a, .int .u64 s.b, .int .u64 s.c, .int .u64 s.d, .slice ak m ck] := fact_end (hF 9) (j := 2) (by kernel_rfl)
      have f5 : a0.tmps[5]?.getD undef = .int .i64 0 := fact_end (hF 5) (j := 4) (by kernel_rfl)
      obtain ⟨g6, f6, hg6, hb6⟩ : ∃ g, a0.tmps[6]?.getD undef = .pointer (some ⟨g, 0, none⟩) ∧ w.heap.size ≤ g ∧ Blk W2 g 28 #[.int .i64 0, .int .i64 0, .int .i64 0, .int .i64 0, .slice none 0 0, .int .u64 0, .int .u64 0, .int .u64 0, .int .u64 0, .slice none 0 0] := fact_end (hF 6) (j := 3) (by kernel_rfl)
      rw [ha]
      clear ha hF
      simp only [cutM_yes, cutM_no, cutM_nil, Nat.reduceAdd]
      rw [f9, f5, f6]
      clear f9 f5 f6
      generalize a0.tmps[7]?.getD undef = s7
      generalize a0.tmps[8]?.getD undef = s8
      clear hsz hdf
      have HG6 := Lib.hid hg6
      have HB : Hid (Blk ((((((((((W2.setCell ⟨g6, 0, none⟩ (.int .i64 op)).setCell ⟨g6, 1, none⟩ (.int .i64 a)).setCell ⟨g6, 2, none⟩ (.int .i64 r)).setCell ⟨g6, 3, none⟩ (.int .i64 b)).setCell ⟨g6, 4, none⟩ (.slice ao nn cap)).setCell ⟨g6, 5, none⟩ (.int .u64 s.a)).setCell ⟨g6, 6, none⟩ (.int .u64 s.b)).setCell ⟨g6, 7, none⟩ (.int .u64 s.c)).setCell ⟨g6, 8, none⟩ (.int .u64 s.d)).setCell ⟨g6, 9, none⟩ (.slice ak m ck)) g6 28 #[.int .i64 op, .int .i64 a, .int .i64 r, .int .i64 b, .slice ao nn cap, .int .u64 s.a, .int .u64 s.b, .int .u64 s.c, .int .u64 s.d, .slice ak m ck]) := Lib.hid (Blk.store10 hb6 _ _ _ _ _ _ _ _ _ _)
      have HK : Hid (Below w.heap.size w ((((((((((W2.setCell ⟨g6, 0, none⟩ (.int .i64 op)).setCell ⟨g6, 1, none⟩ (.int .i64 a)).setCell ⟨g6, 2, none⟩ (.int .i64 r)).setCell ⟨g6, 3, none⟩ (.int .i64 b)).setCell ⟨g6, 4, none⟩ (.slice ao nn cap)).setCell ⟨g6, 5, none⟩ (.int .u64 s.a)).setCell ⟨g6, 6, none⟩ (.int .u64 s.b)).setCell ⟨g6, 7, none⟩ (.int .u64 s.c)).setCell ⟨g6, 8, none⟩ (.int .u64 s.d)).setCell ⟨g6, 9, none⟩ (.slice ak m ck))) := Lib.hid (below_set1 (below_set1 (below_set1 (below_set1 (below_set1 (below_set1 (below_set1 (below_set1 (below_set1 (below_set1 hC HG6.out 0 _) HG6.out 1 _) HG6.out 2 _) HG6.out 3 _) HG6.out 4 _) HG6.out 5 _) HG6.out 6 _) HG6.out 7 _) HG6.out 8 _) HG6.out 9 _)
      have c8 := hb6.cell
      have k0 := c8 0
      have k1 := c8 1
      have k2 := c8 2
      have k3 := c8 3
      have k4 := c8 4
      have k5 := c8 5
      have k6 := c8 6
      have k7 := c8 7
      have k8 := c8 8
      have k9 := c8 9
      have z6 := hb6.frozen
      clear c8 hC hb6 hg6
      go_upto_region 2 with fail
      generalize ((((((((((W2.setCell ⟨g6, 0, none⟩ (.int .i64 op)).setCell ⟨g6, 1, none⟩ (.int .i64 a)).setCell ⟨g6, 2, none⟩ (.int .i64 r)).setCell ⟨g6, 3, none⟩ (.int .i64 b)).setCell ⟨g6, 4, none⟩ (.slice ao nn cap)).setCell ⟨g6, 5, none⟩ (.int .u64 s.a)).setCell ⟨g6, 6, none⟩ (.int .u64 s.b)).setCell ⟨g6, 7, none⟩ (.int .u64 s.c)).setCell ⟨g6, 8, none⟩ (.int .u64 s.d)).setCell ⟨g6, 9, none⟩ (.slice ak m ck)) = W3 at *
      clear k0 k1 k2 k3 k4 k5 k6 k7 k8 k9 z6
      obtain ⟨x0, x1, x2, x3, x4, x5, x6, x7, x8, x9⟩ := (HX.out.keep (HK.out.block g HG.out)).cells
      have HBK := HK
      have HBB := HB
      go_wp2_with ((go_at_call 51; refine (hasFields_c g6 0 a r b ao nn cap s _ (HBB.out.cell 1) (HBB.out.cell 2) (HBB.out.cell 3) (HBB.out.cell 4) (HBB.out.cell 5) (HBB.out.cell 6) (HBB.out.cell 7) (HBB.out.cell 8)).mono ?_; rw [HH.out]; rintro e W4 ⟨rfl, hb4⟩; have HX4 := Lib.hid (HX.out.keep ((hb4.block g (by have h := HBK.out.size; have := HG.out; omega)).trans (HBK.out.block g HG.out))); obtain ⟨y0, y1, y2, y3, y4, y5, y6, y7, y8, y9⟩ := HX4.out.cells; have HB4 := Lib.hid (HBK.out.trans (hb4.mono HBK.out.size)); clear hb4))
      go_ret
      exact ⟨rfl, HB4.out⟩
    | false =>
      rw [if_neg (by simp [hm])]
      have HH := Lib.hid hh
      clear hh hm hop
      go_enter Try.func33, Try.ntmps33
      go_upto_region 1 with fail
      refine wp_region_phit 5 (oPhi g o op a r b ao nn cap s ak m ck w) (by kernel_rfl) (by decide) (by kernel_rfl) (by kernel_rfl) (by kernel_rfl) (fun k v u u2 h hb => oPhi_keep h hb) ?_ ?_
      · refine ⟨⟨trivial, fun A u hK hF => ?_⟩, ⟨trivial, fun A u hK hF => ?_⟩, ⟨trivial, fun A u hK hF => ?_⟩, ⟨trivial, fun A u hK hF => ?_⟩, ⟨trivial, fun A u hK hF => ?_⟩, trivial⟩
        · have f0 : A.tmps[0]?.getD undef = .pointer (some ⟨g, o, none⟩) := fact_none (hF 0) (by kernel_rfl)
          unfold Gives
          go_simp
          exact gives_val (Below.refl _ _) rfl
        · have f7 : A.tmps[7]?.getD undef = .pointer (some ⟨g, o, none⟩) := fact_some (hF 7) (j := 0) (by kernel_rfl) (by kernel_rfl)
          unfold Gives
          go_simp
          exact gives_val (Below.refl _ _) rfl
        · have f8 : A.tmps[8]?.getD undef = .pointer (some ⟨g, o, none⟩) := fact_some (hF 8) (j := 1) (by kernel_rfl) (by kernel_rfl)
          obtain ⟨k0, k1, k2, k3, k4, k5, k6, k7, k8, k9⟩ := (HX.out.keep (hK.block g HG.out)).cells
          unfold Gives
          go_simp
          exact gives_val (Below.refl _ _) rfl
        · unfold Gives
          go_simp
          exact gives_val ((Below.refl _ _).alloc (Nat.le_refl _) _) ⟨_, rfl, hK.size, Blk.new _ _ _⟩
        · unfold Gives
          go_simp
          exact gives_val (Below.refl _ _) rfl
      intro a0 W2 hC hsz hdf hF
      have ha := end_mask [false, false, false, false, false, true, true, true, true, true, false, false, false, false, false, false, false, false, false, false, false, false, false, false, false, false, false, false, false, false, false, false, false, false, false, false, false, false, false, false, false, false, false, false, false, false, false, false, false, false, false, false, false, false, false, false, false, false] hsz hdf hF (by kernel_rfl)
      have f9 : a0.tmps[9]?.getD undef = .agg #[.int .i64 op, .int .i64 a, .int .i64 r, .int .i64 b, .slice ao nn cap, .int .u64 s.a, .int .u64 s.b, .int .u64 s.c, .int .u64 s.d, .slice ak m ck] := fact_end (hF 9) (j := 2) (by kernel_rfl)
      have f5 : a0.tmps[5]?.getD undef = .int .i64 0 := fact_end (hF 5) (j := 4) (by kernel_rfl)
      obtain ⟨g6, f6, hg6, hb6⟩ : ∃ g, a0.tmps[6]?.getD undef = .pointer (some ⟨g, 0, none⟩) ∧ w.heap.size ≤ g ∧ Blk W2 g 28 #[.int .i64 0, .int .i64 0, .int .i64 0, .int .i64 0, .slice none 0 0, .int .u64 0, .int .u64 0, .int .u64 0, .int .u64 0, .slice none 0 0] := fact_end (hF 6) (j := 3) (by kernel_rfl)
      rw [ha]
      clear ha hF
      simp only [cutM_yes, cutM_no, cutM_nil, Nat.reduceAdd]
      rw [f9, f5, f6]
      clear f9 f5 f6
      generalize a0.tmps[7]?.getD undef = s7
      generalize a0.tmps[8]?.getD undef = s8
      clear hsz hdf
      have HG6 := Lib.hid hg6
      have HB : Hid (Blk ((((((((((W2.setCell ⟨g6, 0, none⟩ (.int .i64 op)).setCell ⟨g6, 1, none⟩ (.int .i64 a)).setCell ⟨g6, 2, none⟩ (.int .i64 r)).setCell ⟨g6, 3, none⟩ (.int .i64 b)).setCell ⟨g6, 4, none⟩ (.slice ao nn cap)).setCell ⟨g6, 5, none⟩ (.int .u64 s.a)).setCell ⟨g6, 6, none⟩ (.int .u64 s.b)).setCell ⟨g6, 7, none⟩ (.int .u64 s.c)).setCell ⟨g6, 8, none⟩ (.int .u64 s.d)).setCell ⟨g6, 9, none⟩ (.slice ak m ck)) g6 28 #[.int .i64 op, .int .i64 a, .int .i64 r, .int .i64 b, .slice ao nn cap, .int .u64 s.a, .int .u64 s.b, .int .u64 s.c, .int .u64 s.d, .slice ak m ck]) := Lib.hid (Blk.store10 hb6 _ _ _ _ _ _ _ _ _ _)
      have HK : Hid (Below w.heap.size w ((((((((((W2.setCell ⟨g6, 0, none⟩ (.int .i64 op)).setCell ⟨g6, 1, none⟩ (.int .i64 a)).setCell ⟨g6, 2, none⟩ (.int .i64 r)).setCell ⟨g6, 3, none⟩ (.int .i64 b)).setCell ⟨g6, 4, none⟩ (.slice ao nn cap)).setCell ⟨g6, 5, none⟩ (.int .u64 s.a)).setCell ⟨g6, 6, none⟩ (.int .u64 s.b)).setCell ⟨g6, 7, none⟩ (.int .u64 s.c)).setCell ⟨g6, 8, none⟩ (.int .u64 s.d)).setCell ⟨g6, 9, none⟩ (.slice ak m ck))) := Lib.hid (below_set1 (below_set1 (below_set1 (below_set1 (below_set1 (below_set1 (below_set1 (below_set1 (below_set1 (below_set1 hC HG6.out 0 _) HG6.out 1 _) HG6.out 2 _) HG6.out 3 _) HG6.out 4 _) HG6.out 5 _) HG6.out 6 _) HG6.out 7 _) HG6.out 8 _) HG6.out 9 _)
      have c8 := hb6.cell
      have k0 := c8 0
      have k1 := c8 1
      have k2 := c8 2
      have k3 := c8 3
      have k4 := c8 4
      have k5 := c8 5
      have k6 := c8 6
      have k7 := c8 7
      have k8 := c8 8
      have k9 := c8 9
      have z6 := hb6.frozen
      clear c8 hC hb6 hg6
      go_upto_region 2 with fail
      generalize ((((((((((W2.setCell ⟨g6, 0, none⟩ (.int .i64 op)).setCell ⟨g6, 1, none⟩ (.int .i64 a)).setCell ⟨g6, 2, none⟩ (.int .i64 r)).setCell ⟨g6, 3, none⟩ (.int .i64 b)).setCell ⟨g6, 4, none⟩ (.slice ao nn cap)).setCell ⟨g6, 5, none⟩ (.int .u64 s.a)).setCell ⟨g6, 6, none⟩ (.int .u64 s.b)).setCell ⟨g6, 7, none⟩ (.int .u64 s.c)).setCell ⟨g6, 8, none⟩ (.int .u64 s.d)).setCell ⟨g6, 9, none⟩ (.slice ak m ck)) = W3 at *
      clear k0 k1 k2 k3 k4 k5 k6 k7 k8 k9 z6
      obtain ⟨x0, x1, x2, x3, x4, x5, x6, x7, x8, x9⟩ := (HX.out.keep (HK.out.block g HG.out)).cells
      have HBK := HK
      have HBB := HB
      go_wp2_with ((go_at_call 51; refine (hasFields_c g6 0 a r b ao nn cap s _ (HBB.out.cell 1) (HBB.out.cell 2) (HBB.out.cell 3) (HBB.out.cell 4) (HBB.out.cell 5) (HBB.out.cell 6) (HBB.out.cell 7) (HBB.out.cell 8)).mono ?_; rw [HH.out]; rintro e W4 ⟨rfl, hb4⟩; have HX4 := Lib.hid (HX.out.keep ((hb4.block g (by have h := HBK.out.size; have := HG.out; omega)).trans (HBK.out.block g HG.out))); obtain ⟨y0, y1, y2, y3, y4, y5, y6, y7, y8, y9⟩ := HX4.out.cells; have HB4 := Lib.hid (HBK.out.trans (hb4.mono HBK.out.size)); clear hb4))
      go_ret
      exact ⟨rfl, HB4.out⟩
  · rw [if_pos (.inl hm)]
    have hmi : ((m : Int) != 2) = true := by simp; omega
    clear hm hop
    go_enter Try.func33, Try.ntmps33
    go_upto_region 1 with fail
    refine wp_region_phit 5 (oPhi g o op a r b ao nn cap s ak m ck w) (by kernel_rfl) (by decide) (by kernel_rfl) (by kernel_rfl) (by kernel_rfl) (fun k v u u2 h hb => oPhi_keep h hb) ?_ ?_
    · refine ⟨⟨trivial, fun A u hK hF => ?_⟩, ⟨trivial, fun A u hK hF => ?_⟩, ⟨trivial, fun A u hK hF => ?_⟩, ⟨trivial, fun A u hK hF => ?_⟩, ⟨trivial, fun A u hK hF => ?_⟩, trivial⟩
      · have f0 : A.tmps[0]?.getD undef = .pointer (some ⟨g, o, none⟩) := fact_none (hF 0) (by kernel_rfl)
        unfold Gives
        go_simp
        exact gives_val (Below.refl _ _) rfl
      · have f7 : A.tmps[7]?.getD undef = .pointer (some ⟨g, o, none⟩) := fact_some (hF 7) (j := 0) (by kernel_rfl) (by kernel_rfl)
        unfold Gives
        go_simp
        exact gives_val (Below.refl _ _) rfl
      · have f8 : A.tmps[8]?.getD undef = .pointer (some ⟨g, o, none⟩) := fact_some (hF 8) (j := 1) (by kernel_rfl) (by kernel_rfl)
        obtain ⟨k0, k1, k2, k3, k4, k5, k6, k7, k8, k9⟩ := (HX.out.keep (hK.block g HG.out)).cells
        unfold Gives
        go_simp
        exact gives_val (Below.refl _ _) rfl
      · unfold Gives
        go_simp
        exact gives_val ((Below.refl _ _).alloc (Nat.le_refl _) _) ⟨_, rfl, hK.size, Blk.new _ _ _⟩
      · unfold Gives
        go_simp
        exact gives_val (Below.refl _ _) rfl
    intro a0 W2 hC hsz hdf hF
    have ha := end_mask [false, false, false, false, false, true, true, true, true, true, false, false, false, false, false, false, false, false, false, false, false, false, false, false, false, false, false, false, false, false, false, false, false, false, false, false, false, false, false, false, false, false, false, false, false, false, false, false, false, false, false, false, false, false, false, false, false, false] hsz hdf hF (by kernel_rfl)
    have f9 : a0.tmps[9]?.getD undef = .agg #[.int .i64 op, .int .i64 a, .int .i64 r, .int .i64 b, .slice ao nn cap, .int .u64 s.a, .int .u64 s.b, .int .u64 s.c, .int .u64 s.d, .slice ak m ck] := fact_end (hF 9) (j := 2) (by kernel_rfl)
    have f5 : a0.tmps[5]?.getD undef = .int .i64 0 := fact_end (hF 5) (j := 4) (by kernel_rfl)
    obtain ⟨g6, f6, hg6, hb6⟩ : ∃ g, a0.tmps[6]?.getD undef = .pointer (some ⟨g, 0, none⟩) ∧ w.heap.size ≤ g ∧ Blk W2 g 28 #[.int .i64 0, .int .i64 0, .int .i64 0, .int .i64 0, .slice none 0 0, .int .u64 0, .int .u64 0, .int .u64 0, .int .u64 0, .slice none 0 0] := fact_end (hF 6) (j := 3) (by kernel_rfl)
    rw [ha]
    clear ha hF
    simp only [cutM_yes, cutM_no, cutM_nil, Nat.reduceAdd]
    rw [f9, f5, f6]
    clear f9 f5 f6
    generalize a0.tmps[7]?.getD undef = s7
    generalize a0.tmps[8]?.getD undef = s8
    clear hsz hdf
    have HG6 := Lib.hid hg6
    have HB : Hid (Blk ((((((((((W2.setCell ⟨g6, 0, none⟩ (.int .i64 op)).setCell ⟨g6, 1, none⟩ (.int .i64 a)).setCell ⟨g6, 2, none⟩ (.int .i64 r)).setCell ⟨g6, 3, none⟩ (.int .i64 b)).setCell ⟨g6, 4, none⟩ (.slice ao nn cap)).setCell ⟨g6, 5, none⟩ (.int .u64 s.a)).setCell ⟨g6, 6, none⟩ (.int .u64 s.b)).setCell ⟨g6, 7, none⟩ (.int .u64 s.c)).setCell ⟨g6, 8, none⟩ (.int .u64 s.d)).setCell ⟨g6, 9, none⟩ (.slice ak m ck)) g6 28 #[.int .i64 op, .int .i64 a, .int .i64 r, .int .i64 b, .slice ao nn cap, .int .u64 s.a, .int .u64 s.b, .int .u64 s.c, .int .u64 s.d, .slice ak m ck]) := Lib.hid (Blk.store10 hb6 _ _ _ _ _ _ _ _ _ _)
    have HK : Hid (Below w.heap.size w ((((((((((W2.setCell ⟨g6, 0, none⟩ (.int .i64 op)).setCell ⟨g6, 1, none⟩ (.int .i64 a)).setCell ⟨g6, 2, none⟩ (.int .i64 r)).setCell ⟨g6, 3, none⟩ (.int .i64 b)).setCell ⟨g6, 4, none⟩ (.slice ao nn cap)).setCell ⟨g6, 5, none⟩ (.int .u64 s.a)).setCell ⟨g6, 6, none⟩ (.int .u64 s.b)).setCell ⟨g6, 7, none⟩ (.int .u64 s.c)).setCell ⟨g6, 8, none⟩ (.int .u64 s.d)).setCell ⟨g6, 9, none⟩ (.slice ak m ck))) := Lib.hid (below_set1 (below_set1 (below_set1 (below_set1 (below_set1 (below_set1 (below_set1 (below_set1 (below_set1 (below_set1 hC HG6.out 0 _) HG6.out 1 _) HG6.out 2 _) HG6.out 3 _) HG6.out 4 _) HG6.out 5 _) HG6.out 6 _) HG6.out 7 _) HG6.out 8 _) HG6.out 9 _)
    have c8 := hb6.cell
    have k0 := c8 0
    have k1 := c8 1
    have k2 := c8 2
    have k3 := c8 3
    have k4 := c8 4
    have k5 := c8 5
    have k6 := c8 6
    have k7 := c8 7
    have k8 := c8 8
    have k9 := c8 9
    have z6 := hb6.frozen
    clear c8 hC hb6 hg6
    go_upto_region 2 with fail
    generalize ((((((((((W2.setCell ⟨g6, 0, none⟩ (.int .i64 op)).setCell ⟨g6, 1, none⟩ (.int .i64 a)).setCell ⟨g6, 2, none⟩ (.int .i64 r)).setCell ⟨g6, 3, none⟩ (.int .i64 b)).setCell ⟨g6, 4, none⟩ (.slice ao nn cap)).setCell ⟨g6, 5, none⟩ (.int .u64 s.a)).setCell ⟨g6, 6, none⟩ (.int .u64 s.b)).setCell ⟨g6, 7, none⟩ (.int .u64 s.c)).setCell ⟨g6, 8, none⟩ (.int .u64 s.d)).setCell ⟨g6, 9, none⟩ (.slice ak m ck)) = W3 at *
    clear k0 k1 k2 k3 k4 k5 k6 k7 k8 k9 z6
    obtain ⟨x0, x1, x2, x3, x4, x5, x6, x7, x8, x9⟩ := (HX.out.keep (HK.out.block g HG.out)).cells
    have HBK := HK
    have HBB := HB
    go_wp2_with fail
    go_ret
    exact ⟨rfl, HBK.out⟩
end Go.Proofs.Ytamcfmfkmekkfaa
