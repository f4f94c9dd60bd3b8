/- Part of the proof: Bsa Bsb Bse Bsf Bpl Bsg Bsi Bpm Bsc Bsd Bpn Bsj Bpo Exs Mm Str. No conditions. -/
import Derived.Test.YtbhoofihnmmmfabGreatRows
import Derived.WalkKit
import Derived.WalkSpells
import Derived.WalkLawsBesides
import Derived.Deep.QuietTactic
import Derived.BigQuiet
import Derived.Deep.RegionWith
import Derived.Laws.BitsAllLaws
import Derived.Lib.Hide
import Derived.WalkSmall
import Derived.LoopTactic
import Derived.RegionTactic
import Derived.BigRegion
import Derived.LoopN
import Derived.Laws.StructEq
import Derived.Laws.Cover2
import Derived.OwnWalk
import Derived.Deep.RegionHeld3
namespace Go.Proofs.YtbhoofihnmmmfabGreat
open Go.RowKit
/-- the bit of a number, as the walk leaves it -/
def bitI (n : Int) : Int := IntKind.u64.wrap (2 ^ (n % 64).toNat)
/-- the word that a number's bit is in -/
def wordI (x0 x1 x2 x3 n : Int) : Int := if n < 64 then x0 else if n < 128 then x1 else if n < 192 then x2 else x3
def hasB (x0 x1 x2 x3 n : Int) : Bool := decide (0 ≤ n) && (decide (n < 256) && (bits .and .u64 (wordI x0 x1 x2 x3 n) (bitI n) != 0))
/-- what With makes of word q, and what Without makes of it -/
def withI (n q x : Int) : Int := if 64 * q ≤ n ∧ n < 64 * q + 64 then bits .or .u64 x (bitI n) else x
def lessI (n q x : Int) : Int := if 64 * q ≤ n ∧ n < 64 * q + 64 then bits .andNot .u64 x (bitI n) else x
theorem withI_in {n q x : Int} (h : 64 * q ≤ n) (h' : n < 64 * q + 64) : withI n q x = bits .or .u64 x (bitI n) := if_pos ⟨h, h'⟩
theorem withI_out {n q x : Int} (h : n < 64 * q ∨ 64 * q + 64 ≤ n) : withI n q x = x := if_neg (by omega)
theorem lessI_in {n q x : Int} (h : 64 * q ≤ n) (h' : n < 64 * q + 64) : lessI n q x = bits .andNot .u64 x (bitI n) := if_pos ⟨h, h'⟩
theorem lessI_out {n q x : Int} (h : n < 64 * q ∨ 64 * q + 64 ≤ n) : lessI n q x = x := if_neg (by omega)
theorem word0 {x0 x1 x2 x3 n : Int} (h : n < 64) : wordI x0 x1 x2 x3 n = x0 := if_pos h
theorem word1 {x0 x1 x2 x3 n : Int} (h : 64 ≤ n) (h' : n < 128) : wordI x0 x1 x2 x3 n = x1 := by unfold wordI; rw [if_neg (by omega), if_pos h']
theorem word2 {x0 x1 x2 x3 n : Int} (h : 128 ≤ n) (h' : n < 192) : wordI x0 x1 x2 x3 n = x2 := by unfold wordI; rw [if_neg (by omega), if_neg (by omega), if_pos h']
theorem word3 {x0 x1 x2 x3 n : Int} (h : 192 ≤ n) : wordI x0 x1 x2 x3 n = x3 := by unfold wordI; rw [if_neg (by omega), if_neg (by omega), if_neg (by omega)]
theorem split4 (x0 x1 x2 x3 n : Int) (h0 : 0 ≤ n) (h1 : n < 256) :
 (0 ≤ n ∧ n < 64 ∧ IntKind.i64.wrap (n.tdiv 64) = 0 ∧ wordI x0 x1 x2 x3 n = x0) ∨ (64 ≤ n ∧ n < 128 ∧ IntKind.i64.wrap (n.tdiv 64) = 1 ∧ wordI x0 x1 x2 x3 n = x1) ∨
   (128 ≤ n ∧ n < 192 ∧ IntKind.i64.wrap (n.tdiv 64) = 2 ∧ wordI x0 x1 x2 x3 n = x2) ∨ (192 ≤ n ∧ n < 256 ∧ IntKind.i64.wrap (n.tdiv 64) = 3 ∧ wordI x0 x1 x2 x3 n = x3) := by
 have hn : (0 ≤ n ∧ n < 64) ∨ (64 ≤ n ∧ n < 128) ∨ (128 ≤ n ∧ n < 192) ∨ (192 ≤ n ∧ n < 256) := by omega
 rw [Int.tdiv_eq_ediv_of_nonneg h0, IntWalk.i64_in _ (by omega)]
 rcases hn with ⟨l, u⟩ | ⟨l, u⟩ | ⟨l, u⟩ | ⟨l, u⟩
 · exact .inl ⟨l, u, by omega, word0 u⟩
 · exact .inr (.inl ⟨l, u, by omega, word1 l u⟩)
 · exact .inr (.inr (.inl ⟨l, u, by omega, word2 l u⟩))
 · exact .inr (.inr (.inr ⟨l, u, by omega, word3 l⟩))
theorem ret_bool {a b : Bool} (h : a = b) : Ending.returned (.bool a) = .returned (.bool b) := by rw [h]
theorem inr_yes (n : Int) (w : World) (h0 : 0 ≤ n) (h1 : n < 256) :
 Calls Tryz.prog 97 #[.int .i64 n] w fun e w' => e = .returned (.bool true) ∧ w' = w := by
 go_enter Tryz.func97, Tryz.ntmps97
 go_wp2
 go_ret
 exact ⟨rfl, rfl⟩
theorem inr_no (n : Int) (w : World) (h : n < 0 ∨ 256 ≤ n) :
 Calls Tryz.prog 97 #[.int .i64 n] w fun e w' => e = .returned (.bool false) ∧ w' = w := by
 rcases h with h | h
 · go_enter Tryz.func97, Tryz.ntmps97
   go_wp2
   go_ret
   exact ⟨rfl, rfl⟩
 · have h2 : 0 ≤ n := by omega
   have h3 : decide (n < 256) = false := by simp; omega
   go_enter Tryz.func97, Tryz.ntmps97
   go_wp2
   go_ret
   exact ⟨rfl, rfl⟩
theorem bit_c (n : Int) (w : World) (h0 : 0 ≤ n) (_h1 : n < 256) :
 Calls Tryz.prog 98 #[.int .i64 n] w fun e w' => e = .returned (.int .u64 (bitI n)) ∧ w' = w := by
 go_enter Tryz.func98, Tryz.ntmps98
 go_wp2
 go_ret
 exact ⟨rfl, rfl⟩
theorem rbit_c (n : Int) (w : World) (h0 : 0 ≤ n) (_h1 : n < 256) :
 Calls Tryz.prog 91 #[.int .i64 n] w fun e w' => e = .returned (.int .u64 (bitI n)) ∧ w' = w := by
 go_enter Tryz.func91, Tryz.ntmps91
 go_wp2
 go_ret
 exact ⟨rfl, rfl⟩
theorem hasB_in {x0 x1 x2 x3 n : Int} (h0 : 0 ≤ n) (h1 : n < 256) : hasB x0 x1 x2 x3 n = (bits .and .u64 (wordI x0 x1 x2 x3 n) (bitI n) != 0) := by
 unfold hasB
 rw [decide_eq_true h0, decide_eq_true h1]
 rfl
theorem hasB_out {x0 x1 x2 x3 n : Int} (h : n < 0 ∨ 256 ≤ n) : hasB x0 x1 x2 x3 n = false := by
 unfold hasB
 rcases h with h | h
 · rw [decide_eq_false (by omega)]; rfl
 · rw [decide_eq_false (p := n < 256) (by omega)]; simp
set_option maxHeartbeats 1000000 in
theorem has_c (x0 x1 x2 x3 n : Int) (w : World) :
 Calls Tryz.prog 71 #[.agg #[.int .u64 x0, .int .u64 x1, .int .u64 x2, .int .u64 x3], .int .i64 n] w fun e w' => e = .returned (.bool (hasB x0 x1 x2 x3 n)) ∧ Below w.heap.size w w' := by
 by_cases h : n < 0 ∨ 256 ≤ n
 · rw [hasB_out h]
   go_enter Tryz.func71, Tryz.ntmps71
   go_wp2_with fail
   go_quiet ((go_at_call 97; exact Calls.quiet_of_same (inr_no _ _ h)))
   go_wp2
   go_ret
   exact ⟨rfl, below_drewN ((Below.refl _ _).alloc (Nat.le_refl _) _) _⟩
 · have h0 : 0 ≤ n := by omega
   have h1 : n < 256 := by omega
   clear h
   rw [hasB_in h0 h1]
   rcases split4 x0 x1 x2 x3 n h0 h1 with ⟨l, u, hq, hx⟩ | ⟨l, u, hq, hx⟩ | ⟨l, u, hq, hx⟩ | ⟨l, u, hq, hx⟩ <;> rw [hx] <;> clear hx
   all_goals
    go_enter Tryz.func71, Tryz.ntmps71
    go_wp2_with fail
    go_quiet ((first | (go_at_call 97; exact Calls.quiet_of_same (inr_yes _ _ h0 h1)) | (go_at_call 98; exact Calls.quiet_of_same (bit_c _ _ h0 h1))))
    go_wp2
    go_ret
    exact ⟨rfl, below_drewN ((Below.refl _ _).alloc (Nat.le_refl _) _) _⟩
set_option maxHeartbeats 1000000 in
theorem rhas_c (x0 x1 x2 x3 n : Int) (w : World) :
 Calls Tryz.prog 78 #[.agg #[.int .u64 x0, .int .u64 x1, .int .u64 x2, .int .u64 x3], .int .i64 n] w fun e w' => e = .returned (.bool (hasB x0 x1 x2 x3 n)) ∧ Below w.heap.size w w' := by
 by_cases h : n < 0 ∨ 256 ≤ n
 · rw [hasB_out h]
   have h' : decide (0 ≤ n) = false ∨ (0 ≤ n ∧ decide (n < 256) = false) := by
    rcases h with h | h
    · exact .inl (decide_eq_false (by omega))
    · exact .inr ⟨by omega, decide_eq_false (by omega)⟩
   clear h
   rcases h' with d0 | ⟨d1, d0⟩
   all_goals
    go_enter Tryz.func78, Tryz.ntmps78
    go_wp2_with fail
    go_quiet (fail)
    go_wp2
    go_ret
    exact ⟨rfl, below_drewN ((Below.refl _ _).alloc (Nat.le_refl _) _) _⟩
 · have h0 : 0 ≤ n := by omega
   have h1 : n < 256 := by omega
   clear h
   rw [hasB_in h0 h1]
   rcases split4 x0 x1 x2 x3 n h0 h1 with ⟨l, u, hq, hx⟩ | ⟨l, u, hq, hx⟩ | ⟨l, u, hq, hx⟩ | ⟨l, u, hq, hx⟩ <;> rw [hx] <;> clear hx
   all_goals
    go_enter Tryz.func78, Tryz.ntmps78
    go_wp2_with fail
    go_quiet ((go_at_call 91; exact Calls.quiet_of_same (rbit_c _ _ h0 h1)))
    go_wp2
    go_ret
    exact ⟨rfl, below_drewN ((Below.refl _ _).alloc (Nat.le_refl _) _) _⟩
open Go.RowKit
set_option maxHeartbeats 2000000 in
theorem with_c (x0 x1 x2 x3 n : Int) (w : World) :
 Calls Tryz.prog 122 #[.agg #[.int .u64 x0, .int .u64 x1, .int .u64 x2, .int .u64 x3], .int .i64 n] w fun e w' => e = .returned (.agg #[.int .u64 (withI n 0 x0), .int .u64 (withI n 1 x1), .int .u64 (withI n 2 x2), .int .u64 (withI n 3 x3)]) ∧ Below w.heap.size w w' := by
 by_cases h : n < 0 ∨ 256 ≤ n
 · rw [withI_out (q := 0) (by omega), withI_out (q := 1) (by omega), withI_out (q := 2) (by omega), withI_out (q := 3) (by omega)]
   go_enter Tryz.func122, Tryz.ntmps122
   go_wp2_with (go_at_call 97; refine (inr_no _ _ h).mono ?_; rintro e w' ⟨rfl, rfl⟩)
   exact bodyPost_ret (v := .agg #[.int .u64 x0, .int .u64 x1, .int .u64 x2, .int .u64 x3]) (by simp [results, Tryz.results122, go_sem]) rfl ⟨rfl, ((Below.refl _ _).alloc (Nat.le_refl _) _).alloc (by simp) _⟩
 · have h0 : 0 ≤ n := by omega
   have h1 : n < 256 := by omega
   clear h
   rcases split4 x0 x1 x2 x3 n h0 h1 with ⟨l, u, hq, _⟩ | ⟨l, u, hq, _⟩ | ⟨l, u, hq, _⟩ | ⟨l, u, hq, _⟩
   · rw [withI_in (q := 0) (by omega) (by omega), withI_out (q := 1) (by omega), withI_out (q := 2) (by omega), withI_out (q := 3) (by omega)]
     go_enter Tryz.func122, Tryz.ntmps122
     go_wp2_with (go_at_call 97; refine (inr_yes _ _ h0 h1).mono ?_; rintro e w' ⟨rfl, rfl⟩)
     go_region_with (go_at_call 98; refine (bit_c _ _ h0 h1).mono ?_; rintro e w' ⟨rfl, rfl⟩)
     all_goals
      go_wp2
      exact bodyPost_ret (v := .agg #[.int .u64 (bits .or .u64 x0 (bitI n)), .int .u64 x1, .int .u64 x2, .int .u64 x3]) (by simp [results, Tryz.results122, go_sem]) rfl ⟨rfl, (((Below.refl _ _).alloc (Nat.le_refl _) _).alloc (by simp) _).drew⟩
   · rw [withI_out (q := 0) (by omega), withI_in (q := 1) (by omega) (by omega), withI_out (q := 2) (by omega), withI_out (q := 3) (by omega)]
     go_enter Tryz.func122, Tryz.ntmps122
     go_wp2_with (go_at_call 97; refine (inr_yes _ _ h0 h1).mono ?_; rintro e w' ⟨rfl, rfl⟩)
     go_region_with (go_at_call 98; refine (bit_c _ _ h0 h1).mono ?_; rintro e w' ⟨rfl, rfl⟩)
     all_goals
      go_wp2
      exact bodyPost_ret (v := .agg #[.int .u64 x0, .int .u64 (bits .or .u64 x1 (bitI n)), .int .u64 x2, .int .u64 x3]) (by simp [results, Tryz.results122, go_sem]) rfl ⟨rfl, (((Below.refl _ _).alloc (Nat.le_refl _) _).alloc (by simp) _).drew⟩
   · rw [withI_out (q := 0) (by omega), withI_out (q := 1) (by omega), withI_in (q := 2) (by omega) (by omega), withI_out (q := 3) (by omega)]
     go_enter Tryz.func122, Tryz.ntmps122
     go_wp2_with (go_at_call 97; refine (inr_yes _ _ h0 h1).mono ?_; rintro e w' ⟨rfl, rfl⟩)
     go_region_with (go_at_call 98; refine (bit_c _ _ h0 h1).mono ?_; rintro e w' ⟨rfl, rfl⟩)
     all_goals
      go_wp2
      exact bodyPost_ret (v := .agg #[.int .u64 x0, .int .u64 x1, .int .u64 (bits .or .u64 x2 (bitI n)), .int .u64 x3]) (by simp [results, Tryz.results122, go_sem]) rfl ⟨rfl, (((Below.refl _ _).alloc (Nat.le_refl _) _).alloc (by simp) _).drew⟩
   · rw [withI_out (q := 0) (by omega), withI_out (q := 1) (by omega), withI_out (q := 2) (by omega), withI_in (q := 3) (by omega) (by omega)]
     go_enter Tryz.func122, Tryz.ntmps122
     go_wp2_with (go_at_call 97; refine (inr_yes _ _ h0 h1).mono ?_; rintro e w' ⟨rfl, rfl⟩)
     go_region_with (go_at_call 98; refine (bit_c _ _ h0 h1).mono ?_; rintro e w' ⟨rfl, rfl⟩)
     all_goals
      go_wp2
      exact bodyPost_ret (v := .agg #[.int .u64 x0, .int .u64 x1, .int .u64 x2, .int .u64 (bits .or .u64 x3 (bitI n))]) (by simp [results, Tryz.results122, go_sem]) rfl ⟨rfl, (((Below.refl _ _).alloc (Nat.le_refl _) _).alloc (by simp) _).drew⟩
set_option maxHeartbeats 2000000 in
theorem rwith_c (x0 x1 x2 x3 n : Int) (w : World) :
 Calls Tryz.prog 65 #[.agg #[.int .u64 x0, .int .u64 x1, .int .u64 x2, .int .u64 x3], .int .i64 n] w fun e w' => e = .returned (.agg #[.int .u64 (withI n 0 x0), .int .u64 (withI n 1 x1), .int .u64 (withI n 2 x2), .int .u64 (withI n 3 x3)]) ∧ Below w.heap.size w w' := by
 by_cases h : n < 0 ∨ 256 ≤ n
 · rw [withI_out (q := 0) (by omega), withI_out (q := 1) (by omega), withI_out (q := 2) (by omega), withI_out (q := 3) (by omega)]
   have h' : decide (0 ≤ n) = false ∨ (0 ≤ n ∧ decide (n < 256) = false) := by
    rcases h with h | h
    · exact .inl (decide_eq_false (by omega))
    · exact .inr ⟨by omega, decide_eq_false (by omega)⟩
   clear h
   rcases h' with d0 | ⟨d1, d0⟩
   all_goals
    go_enter Tryz.func65, Tryz.ntmps65
    go_wp2
    exact bodyPost_ret (v := .agg #[.int .u64 x0, .int .u64 x1, .int .u64 x2, .int .u64 x3]) (by simp [results, Tryz.results65, go_sem]) rfl ⟨rfl, ((Below.refl _ _).alloc (Nat.le_refl _) _).alloc (by simp) _⟩
 · have h0 : 0 ≤ n := by omega
   have h1 : n < 256 := by omega
   clear h
   rcases split4 x0 x1 x2 x3 n h0 h1 with ⟨l, u, hq, _⟩ | ⟨l, u, hq, _⟩ | ⟨l, u, hq, _⟩ | ⟨l, u, hq, _⟩
   · rw [withI_in (q := 0) (by omega) (by omega), withI_out (q := 1) (by omega), withI_out (q := 2) (by omega), withI_out (q := 3) (by omega)]
     go_enter Tryz.func65, Tryz.ntmps65
     go_wp2_with fail
     go_region_with (go_at_call 91; refine (rbit_c _ _ h0 h1).mono ?_; rintro e w' ⟨rfl, rfl⟩)
     all_goals
      go_wp2
      exact bodyPost_ret (v := .agg #[.int .u64 (bits .or .u64 x0 (bitI n)), .int .u64 x1, .int .u64 x2, .int .u64 x3]) (by simp [results, Tryz.results65, go_sem]) rfl ⟨rfl, (((Below.refl _ _).alloc (Nat.le_refl _) _).alloc (by simp) _).drew⟩
   · rw [withI_out (q := 0) (by omega), withI_in (q := 1) (by omega) (by omega), withI_out (q := 2) (by omega), withI_out (q := 3) (by omega)]
     go_enter Tryz.func65, Tryz.ntmps65
     go_wp2_with fail
     go_region_with (go_at_call 91; refine (rbit_c _ _ h0 h1).mono ?_; rintro e w' ⟨rfl, rfl⟩)
     all_goals
      go_wp2
      exact bodyPost_ret (v := .agg #[.int .u64 x0, .int .u64 (bits .or .u64 x1 (bitI n)), .int .u64 x2, .int .u64 x3]) (by simp [results, Tryz.results65, go_sem]) rfl ⟨rfl, (((Below.refl _ _).alloc (Nat.le_refl _) _).alloc (by simp) _).drew⟩
   · rw [withI_out (q := 0) (by omega), withI_out (q := 1) (by omega), withI_in (q := 2) (by omega) (by omega), withI_out (q := 3) (by omega)]
     go_enter Tryz.func65, Tryz.ntmps65
     go_wp2_with fail
     go_region_with (go_at_call 91; refine (rbit_c _ _ h0 h1).mono ?_; rintro e w' ⟨rfl, rfl⟩)
     all_goals
      go_wp2
      exact bodyPost_ret (v := .agg #[.int .u64 x0, .int .u64 x1, .int .u64 (bits .or .u64 x2 (bitI n)), .int .u64 x3]) (by simp [results, Tryz.results65, go_sem]) rfl ⟨rfl, (((Below.refl _ _).alloc (Nat.le_refl _) _).alloc (by simp) _).drew⟩
   · rw [withI_out (q := 0) (by omega), withI_out (q := 1) (by omega), withI_out (q := 2) (by omega), withI_in (q := 3) (by omega) (by omega)]
     go_enter Tryz.func65, Tryz.ntmps65
     go_wp2_with fail
     go_region_with (go_at_call 91; refine (rbit_c _ _ h0 h1).mono ?_; rintro e w' ⟨rfl, rfl⟩)
     all_goals
      go_wp2
      exact bodyPost_ret (v := .agg #[.int .u64 x0, .int .u64 x1, .int .u64 x2, .int .u64 (bits .or .u64 x3 (bitI n))]) (by simp [results, Tryz.results65, go_sem]) rfl ⟨rfl, (((Below.refl _ _).alloc (Nat.le_refl _) _).alloc (by simp) _).drew⟩
open Go.RowKit
/-- a block that is known whole -/
def At (w : World) (g : Nat) (t : TypeId) (cs : Array Value) : Prop := w.heap[g]? = some (.cells cs t (0, 0))
theorem At.cell {w : World} {g : Nat} {t : TypeId} {cs : Array Value} (h : At w g t cs) (i : Nat) : w.cell? ⟨g, i, none⟩ = cs[i]? := cell_of_row w g i cs t (0, 0) h
theorem At.frozen {w : World} {g : Nat} {t : TypeId} {cs : Array Value} (h : At w g t cs) (i : Nat) : w.frozen? ⟨g, i, none⟩ = false := by
 unfold At at h
 simp [World.frozen?, h]
theorem At.lt {w : World} {g : Nat} {t : TypeId} {cs : Array Value} (h : At w g t cs) : g < w.heap.size := by
 rcases Nat.lt_or_ge g w.heap.size with hlt | hge
 · exact hlt
 · unfold At at h; rw [Array.getElem?_eq_none hge] at h; cases h
theorem At.new (w : World) (t : TypeId) (cs : Array Value) : At (w.alloc (.cells cs t)) w.heap.size t cs := heap_alloc_new w _
theorem At.alloc {w : World} {g : Nat} {t : TypeId} {cs : Array Value} (h : At w g t cs) (o : Obj) : At (w.alloc o) g t cs := (Below.heap_alloc w o g h.lt).trans h
theorem At.below {B : Nat} {w w' : World} {g : Nat} {t : TypeId} {cs : Array Value} (h : At w g t cs) (hb : Below B w w') (hg : g < B) : At w' g t cs := (hb.block g hg).trans h
theorem At.set {w : World} {g : Nat} {t : TypeId} {cs : Array Value} (h : At w g t cs) (i : Nat) (u : Value) : At (w.setCell ⟨g, i, none⟩ u) g t (cs.setIfInBounds i u) := by
 unfold At at h ⊢
 simp [World.setCell, Array.getElem?_modify, h]
theorem At.far {w : World} {g : Nat} {t : TypeId} {cs : Array Value} (h : At w g t cs) {p : Addr} (hp : g ≠ p.block) (u : Value) : At (w.setCell p u) g t cs := (Below.heap_setCell w p u g hp).trans h
/-- a variable that holds a set -/
def Quad (w : World) (g : Nat) (a b c d : Int) : Prop := At w g 53 #[.int .u64 a, .int .u64 b, .int .u64 c, .int .u64 d]
theorem Quad.facts {w : World} {g : Nat} {a b c d : Int} (h : Quad w g a b c d) :
 w.cell? ⟨g, 0, none⟩ = some (.int .u64 a) ∧ w.cell? ⟨g, 1, none⟩ = some (.int .u64 b) ∧ w.cell? ⟨g, 2, none⟩ = some (.int .u64 c) ∧ w.cell? ⟨g, 3, none⟩ = some (.int .u64 d) ∧
 w.frozen? ⟨g, 0, none⟩ = false ∧ w.frozen? ⟨g, 1, none⟩ = false ∧ w.frozen? ⟨g, 2, none⟩ = false ∧ w.frozen? ⟨g, 3, none⟩ = false :=
 ⟨At.cell h 0, At.cell h 1, At.cell h 2, At.cell h 3, At.frozen h 0, At.frozen h 1, At.frozen h 2, At.frozen h 3⟩
theorem Quad.set4 {w : World} {g : Nat} {a b c d : Int} (h : Quad w g a b c d) (a' b' c' d' : Int) :
 Quad ((((w.setCell ⟨g, 0, none⟩ (.int .u64 a')).setCell ⟨g, 1, none⟩ (.int .u64 b')).setCell ⟨g, 2, none⟩ (.int .u64 c')).setCell ⟨g, 3, none⟩ (.int .u64 d')) g a' b' c' d' := by
 have k := (((At.set h 0 (.int .u64 a')).set 1 (.int .u64 b')).set 2 (.int .u64 c')).set 3 (.int .u64 d')
 simpa [Quad] using k
theorem Quad.lt {w : World} {g : Nat} {a b c d : Int} (h : Quad w g a b c d) : g < w.heap.size := At.lt h
theorem Quad.new (w : World) (a b c d : Int) : Quad (w.alloc (.cells #[.int .u64 a, .int .u64 b, .int .u64 c, .int .u64 d] 53)) w.heap.size a b c d := At.new _ _ _
theorem Quad.alloc {w : World} {g : Nat} {a b c d : Int} (h : Quad w g a b c d) (o : Obj) : Quad (w.alloc o) g a b c d := At.alloc h o
theorem Quad.below {B : Nat} {w w' : World} {g : Nat} {a b c d : Int} (h : Quad w g a b c d) (hb : Below B w w') (hg : g < B) : Quad w' g a b c d := At.below h hb hg
theorem Quad.far4 {w : World} {g g' : Nat} {a b c d a' b' c' d' : Int} (h : Quad w g a b c d) (hne : g ≠ g') :
 Quad ((((w.setCell ⟨g', 0, none⟩ (.int .u64 a')).setCell ⟨g', 1, none⟩ (.int .u64 b')).setCell ⟨g', 2, none⟩ (.int .u64 c')).setCell ⟨g', 3, none⟩ (.int .u64 d')) g a b c d :=
 At.far (At.far (At.far (At.far h hne _) hne _) hne _) hne _
theorem below_set4 {B : Nat} {a w : World} (h : Below B a w) {g : Nat} (hg : B ≤ g) (x0 x1 x2 x3 : Value) :
 Below B a ((((w.setCell ⟨g, 0, none⟩ x0).setCell ⟨g, 1, none⟩ x1).setCell ⟨g, 2, none⟩ x2).setCell ⟨g, 3, none⟩ x3) :=
 (((h.setCell (p := ⟨g, 0, none⟩) hg _).setCell (p := ⟨g, 1, none⟩) hg _).setCell (p := ⟨g, 2, none⟩) hg _).setCell (p := ⟨g, 3, none⟩) hg _
def ofI (l : List Int) (q : Int) : Int := l.foldl (fun x n => withI n q x) 0
theorem ofI_snoc (l : List Int) (n q : Int) : ofI (l ++ [n]) q = withI n q (ofI l q) := by unfold ofI; rw [List.foldl_append]; rfl
/-- a slice of ints that lies in memory -/
def Ints (w : World) (A : Option Addr) (l : List Int) : Prop := ∀ i, i < l.length → ∃ b off, A = some ⟨b, off, none⟩ ∧ w.cell? ⟨b, off + i, none⟩ = some (.int .i64 (l.getD i 0)) ∧ b < w.heap.size
theorem ofI_take (l : List Int) (k : Nat) (h : k < l.length) (q : Int) : ofI (l.take (k + 1)) q = withI l[k] q (ofI (l.take k) q) := by
 rw [List.take_succ_eq_append_getElem h, ofI_snoc]
theorem set_ret {fn : Func} {tmps : Array Value} {t : Tmp} {w : World} {g : Nat} {a b c d : Int} (h : fn.results = #[.cell t 53]) (ht : tmps.getD t undef = .pointer (some ⟨g, 0, none⟩)) (q : Quad w g a b c d) :
 (results fn tmps).run Tryz.prog w = .ok (.agg #[.int .u64 a, .int .u64 b, .int .u64 c, .int .u64 d]) w := by
 obtain ⟨c0, c1, c2, c3, _⟩ := q.facts
 have ht' : tmps[t]?.getD undef = .pointer (some ⟨g, 0, none⟩) := by simpa using ht
 simp [results, h, ht', go_sem, c0, c1, c2, c3]
theorem quad_second (w : World) : Quad ((w.alloc (.cells #[.int .u64 0, .int .u64 0, .int .u64 0, .int .u64 0] 53)).alloc (.cells #[.int .u64 0, .int .u64 0, .int .u64 0, .int .u64 0] 53)) (w.heap.size + 1) 0 0 0 0 := by
 have h := Quad.new (w.alloc (.cells #[.int .u64 0, .int .u64 0, .int .u64 0, .int .u64 0] 53)) 0 0 0 0
 simpa using h
/-- the numbers below k, and those of All -/
def below (k : Nat) : List Int := (List.range k).map fun (i : Nat) => (i : Int)
def allN (n : Int) : Nat := (min n 256).toNat
def allL (n : Int) : List Int := below (allN n)
theorem allN_le (n : Int) : allN n ≤ 256 := by unfold allN; omega
theorem allN_lt {n : Int} {k : Nat} (h : k < allN n) : (k : Int) < n ∧ (k : Int) < 256 := by unfold allN at h; omega
theorem ofI_below (k : Nat) (q : Int) : ofI (below (k + 1)) q = withI k q (ofI (below k) q) := by
 unfold below
 rw [List.range_succ, List.map_append]
 exact ofI_snoc _ _ _
set_option maxHeartbeats 1000000 in
theorem rof_c (A : Option Addr) (l : List Int) (cap : Nat) (w : World) (hl : Ints w A l) (hm : l.length ≤ maxLen) :
 Calls Tryz.prog 36 #[.slice A l.length cap] w fun e w' => e = .returned (.agg #[.int .u64 (ofI l 0), .int .u64 (ofI l 1), .int .u64 (ofI l 2), .int .u64 (ofI l 3)]) ∧ Below w.heap.size w w' := by
 unfold maxLen at hm
 go_enter Tryz.func36, Tryz.ntmps36
 go_wp2
 go_loopw [4] (fun i wr => ∃ k : Nat, k ≤ l.length ∧ i = .int .i64 k ∧ Quad wr w.heap.size 0 0 0 0 ∧
  Quad wr (w.heap.size + 1) (ofI (l.take k) 0) (ofI (l.take k) 1) (ofI (l.take k) 2) (ofI (l.take k) 3) ∧ Below w.heap.size w wr)
  (fun i _ => l.length - (intOf i).toNat)
 case atStart => exact ⟨0, Nat.zero_le _, rfl, (Quad.new _ _ _ _ _).alloc _, quad_second w, ((Below.refl _ _).alloc (Nat.le_refl _) _).alloc (by simp) _⟩
 case round =>
  obtain ⟨k, hk, rfl, hz, hs, hb⟩ := hrel
  obtain ⟨c0, c1, c2, c3, _⟩ := hs.facts
  have hsz := hs.lt
  by_cases hlt : k < l.length
  · obtain ⟨b, off, hA, hc, hbl⟩ := hl k hlt
    subst hA
    have hcr := (hb.cell (p := ⟨b, off + k, none⟩) hbl).trans hc
    have E : ∀ q, Hid (ofI (l.take (k + 1)) q = withI l[k] q (ofI (l.take k) q)) := fun q => ofI_take l k hlt q
    clear hc
    go_wp2
    go_region_with (go_at_call 65; refine (rwith_c _ _ _ _ _ _).mono ?_; rintro e w' ⟨rfl, hb'⟩; obtain ⟨d0, d1, d2, d3, f0, f1, f2, f3⟩ := (Quad.below (w := wr.drew) hs hb' hsz).facts)
    all_goals
     go_wp2
     go_roundw
     case rel =>
      refine ⟨k + 1, by omega, by go_num, (Quad.below (w := wr.drew) hz hb' hz.lt).far4 (by omega), ?_, below_set4 (hb.drew.trans (hb'.mono hb.size)) (by omega) _ _ _ _⟩
      rw [(E 0).out, (E 1).out, (E 2).out, (E 3).out]
      exact (Quad.below (w := wr.drew) hs hb' hsz).set4 _ _ _ _
     case measure => simp [intOf]; omega
  · obtain ⟨d0, d1, d2, d3, f0, f1, f2, f3⟩ := hz.facts
    obtain rfl : k = l.length := by omega
    rw [List.take_length] at c0 c1 c2 c3
    go_wp2
    exact bodyPost_ret (v := (.agg #[.int .u64 (ofI l 0), .int .u64 (ofI l 1), .int .u64 (ofI l 2), .int .u64 (ofI l 3)])) (set_ret Tryz.results36 rfl (hz.set4 _ _ _ _)) rfl ⟨rfl, below_set4 hb (Nat.le_refl _) _ _ _ _⟩
open Go.RowKit
/-- how many of the first k bits are one -/
def pc : Nat → Nat → Nat
 | 0, _ => 0
 | k + 1, X => pc k X + (X.testBit k).toNat
def mask (c : Nat) : Nat → Nat
 | 0 => 0
 | m + 1 => c + 256 * mask c m
def B1 (b : Nat) : Nat := ((b / 2) &&& 0x55) + (b &&& 0x55)
def B2 (b : Nat) : Nat := ((b / 4) &&& 0x33) + (b &&& 0x33)
def B3 (b : Nat) : Nat := (b / 16 + b) % 16
open Go.RowKit
open Go.RowKit
def U64 (x : Int) : Prop := 0 ≤ x ∧ x ≤ 18446744073709551615
open Go.RowKit
open Go.RowKit
set_option maxHeartbeats 1000000 in
theorem union_c (x0 x1 x2 x3 y0 y1 y2 y3 : Int) (w : World) :
 Calls Tryz.prog 129 #[.agg #[.int .u64 x0, .int .u64 x1, .int .u64 x2, .int .u64 x3], .agg #[.int .u64 y0, .int .u64 y1, .int .u64 y2, .int .u64 y3]] w fun e w' =>
  e = .returned (.agg #[.int .u64 (bits .or .u64 x0 y0), .int .u64 (bits .or .u64 x1 y1), .int .u64 (bits .or .u64 x2 y2), .int .u64 (bits .or .u64 x3 y3)]) ∧ Below w.heap.size w w' := by
 go_enter Tryz.func129, Tryz.ntmps129
 go_wp2
 refine wp_loop_rounds 5 ?_
 iterate 4 (rw [rounds_succ]; go_wp2; go_region; go_wp2)
 rw [rounds_succ]
 go_wp2
 exact bodyPost_ret (v := .agg #[.int .u64 (bits .or .u64 x0 y0), .int .u64 (bits .or .u64 x1 y1), .int .u64 (bits .or .u64 x2 y2), .int .u64 (bits .or .u64 x3 y3)]) (by simp [results, Tryz.results129, go_sem]) rfl ⟨rfl, ((((((((Below.refl _ _).alloc (Nat.le_refl _) _).alloc (by simp) _).alloc (by simp; omega) _).drew).drew).drew).drew)⟩
open Go.RowKit
/-- equality of two sets, word by word; closed to the walk -/
def same4 (a b c d a' b' c' d' : Int) : Bool := decide (a = a' ∧ b = b' ∧ c = c' ∧ d = d')
@[go_sem] theorem same4_self (a b c d : Int) : same4 a b c d a b c d = true := by simp [same4]
@[go_sem] theorem eqSet (a b c d a' b' c' d' : Int) (w : World) :
 (Op.equalIn 10000 53 (.agg #[.int .u64 a, .int .u64 b, .int .u64 c, .int .u64 d]) (.agg #[.int .u64 a', .int .u64 b', .int .u64 c', .int .u64 d'])).run Tryz.prog w = .ok (same4 a b c d a' b' c' d') w := by
 have u3 := Tryz.underlying40
 have a3 := Tryz.isAgg40
 have z3 := Tryz.sizeOf40
 rw [show (10000 : Nat) = 9999 + 1 from rfl, Op.equalIn]
 simp only [Sem.run_bind, run_underlying Tryz.underlying53, Result.andThen_ok]
 simp only [Std.Legacy.Range.forIn_eq_forIn_range', Std.Legacy.Range.size, Nat.sub_zero, Nat.add_sub_cancel, Nat.div_one, List.range'_succ, List.range'_zero, List.forIn_cons, List.forIn_nil]
 go_simp
 by_cases h1 : a = a' <;> by_cases h2 : b = b' <;> by_cases h3 : c = c' <;> by_cases h4 : d = d' <;> simp [h1, h2, h3, h4, same4]
open Go.RowKit
open Go.RowKit
/-- the elements below k, ascending -/
def elems (x0 x1 x2 x3 : Int) (k : Nat) : List Int := (below k).filter (hasB x0 x1 x2 x3)
open Go.RowKit
open Go.RowKit
structure S4 where
 (a b c d : Int)
deriving DecidableEq
def S4.zero : S4 := ⟨0, 0, 0, 0⟩
def S4.or (x y : S4) : S4 := ⟨bits .or .u64 x.a y.a, bits .or .u64 x.b y.b, bits .or .u64 x.c y.c, bits .or .u64 x.d y.d⟩
def ofS (l : List Int) : S4 := ⟨ofI l 0, ofI l 1, ofI l 2, ofI l 3⟩
def hasS (x : S4) (n : Int) : Bool := hasB x.a x.b x.c x.d n
open Go.RowKit
/-- block g is just the cells cs of type t -/
def Blk (w : World) (g : Nat) (t : TypeId) (cs : Array Value) : Prop := w.heap[g]? = some (.cells cs t (0, 0))
section
variable {w w' : World} {g : Nat} {t : TypeId} {cs : Array Value}
theorem Blk.cell (h : Blk w g t cs) (i : Nat) : w.cell? ⟨g, i, none⟩ = cs[i]? := cell_of_row w g i cs t (0, 0) h
theorem Blk.frozen (h : Blk w g t cs) (i : Nat) : w.frozen? ⟨g, i, none⟩ = false := by
 unfold Blk at h
 simp [World.frozen?, h]
theorem Blk.lt (h : Blk w g t cs) : g < w.heap.size := by
 rcases Nat.lt_or_ge g w.heap.size with hlt | hge
 · exact hlt
 · unfold Blk at h; rw [Array.getElem?_eq_none hge] at h; cases h
theorem Blk.new (w : World) (t : TypeId) (cs : Array Value) : Blk (w.alloc (.cells cs t)) w.heap.size t cs := heap_alloc_new w _
theorem Blk.here (hg : g = w.heap.size) : Blk (w.alloc (.cells cs t)) g t cs := hg ▸ Blk.new w t cs
theorem Blk.alloc (h : Blk w g t cs) (o : Obj) : Blk (w.alloc o) g t cs := (Below.heap_alloc w o g h.lt).trans h
theorem Blk.below {B : Nat} (h : Blk w g t cs) (hb : Below B w w') (hg : g < B) : Blk w' g t cs := (hb.block g hg).trans h
theorem Blk.keep (h : Blk w g t cs) (hb : Below w.heap.size w w') : Blk w' g t cs := h.below hb h.lt
theorem Blk.set (h : Blk w g t cs) (i : Nat) (u : Value) : Blk (w.setCell ⟨g, i, none⟩ u) g t (cs.setIfInBounds i u) := by
 unfold Blk at h ⊢
 simp [World.setCell, Array.getElem?_modify, h]
theorem Blk.far (h : Blk w g t cs) {p : Addr} (hp : g ≠ p.block) (u : Value) : Blk (w.setCell p u) g t cs := (Below.heap_setCell w p u g hp).trans h
end
/-- the class: all that was there in W is as it was -/
def Kp (W w : World) : Prop := Below W.heap.size W w
section
variable {W w w' : World}
theorem Kp.rfl' : Kp W W := Below.refl _ _
theorem Kp.alloc (h : Kp W w) (o : Obj) : Kp W (w.alloc o) := Below.alloc h (Below.size h) o
theorem Kp.step (h : Kp W w) (hb : Below w.heap.size w w') : Kp W w' := Below.trans h (hb.mono (Below.size h))
theorem Kp.size (h : Kp W w) : W.heap.size ≤ w.heap.size := Below.size h
theorem Kp.blk (hC : Kp W w) {g : Nat} {t : TypeId} {cs : Array Value} (h : Blk W g t cs) : Blk w g t cs := h.below hC h.lt
theorem wp_region_kp {P : Program} {id : Nat} {Q : Exit → Act → World → Prop} {a : Act} {w : World} {l : List Oper} (hm : P.follows .mixedOrders = true) (hB : Region.lexB .any l.toArray = true)
 (h : wpQuiet P l.toArray (Kp w) (fun a' => ∀ w', Kp w w' → Q .normal a' w') l a) : (Code.region id l.toArray true).wp P Q a w :=
 wp_region_quiet (C := Kp w) hm hB (Below.refl _ _).drew (by simpa using h)
theorem Kp.call {P : Program} {f : FuncId} {args : Array Value} {w0 w : World} {v : Value} (hC : Kp w0 w)
 (h : Calls P f args w fun e w' => e = .returned v ∧ Below w.heap.size w w') : Calls P f args w fun e w'' => e = .returned v ∧ Kp w0 w'' :=
 h.mono fun _ _ ⟨he, hb⟩ => ⟨he, hC.step hb⟩
theorem Kp.call_same {P : Program} {f : FuncId} {args : Array Value} {w0 w : World} {v : Value} (hC : Kp w0 w)
 (h : Calls P f args w fun e w' => e = .returned v ∧ w' = w) : Calls P f args w fun e w'' => e = .returned v ∧ Kp w0 w'' :=
 h.mono fun _ _ ⟨he, hb⟩ => ⟨he, hb ▸ hC⟩
end
section
variable {B sb : Nat} {a w w' : World}
end
open Go.RowKit
def SRow (w : World) (g o : Nat) (l : List ByteArray) : Prop := ∀ k (h : k < l.length), w.cell? ⟨g, o + k, none⟩ = some (.string l[k])
/-- a slice that reads as these texts -/
def Strs (w : World) (v : Value) (l : List ByteArray) : Prop := ∃ ao cap, v = .slice ao l.length cap ∧ (l ≠ [] → ∃ g o, ao = some ⟨g, o, none⟩ ∧ SRow w g o l)
theorem below_drewN {B : Nat} {w : World} (n : Nat) : Below B w (w.drewN n) := ⟨rfl, rfl, rfl, Nat.le_refl _, fun _ _ => rfl⟩
section
variable {w w' : World} {v : Value} {l : List ByteArray} {g o : Nat}
theorem SRow.lt (h : SRow w g o l) (hl : 0 < l.length) : g < w.heap.size := by
 have := h 0 hl
 rcases Nat.lt_or_ge g w.heap.size with h' | h'
 · exact h'
 · simp [World.cell?, Array.getElem?_eq_none h'] at this
theorem SRow.keep (h : SRow w g o l) (hb : w'.heap[g]? = w.heap[g]?) : SRow w' g o l := fun k hk => (World.cell?_of_block hb).trans (h k hk)
theorem Strs.nil : Strs w (.slice none 0 0) [] := ⟨none, 0, rfl, fun h => absurd rfl h⟩
theorem Strs.keep (h : Strs w v l) (hb : Below w.heap.size w w') : Strs w' v l := by
 obtain ⟨ao, cap, rfl, hr⟩ := h
 refine ⟨ao, cap, rfl, fun hl => ?_⟩
 obtain ⟨g, o, rfl, hR⟩ := hr hl
 exact ⟨g, o, rfl, hR.keep (hb.block g (hR.lt (List.length_pos_iff.2 hl)))⟩
end
theorem bytes_beq (a b : ByteArray) : (a.toList == b.toList) = decide (a = b) := by
 rw [Bool.eq_iff_iff]
 simp only [beq_iff_eq, decide_eq_true_eq]
 constructor
 · intro h
   rw [ByteArray.toList_eq, ByteArray.toList_eq] at h
   exact ByteArray.ext (Array.toList_inj.1 h)
 · rintro rfl; rfl
end Go.Proofs.YtbhoofihnmmmfabGreat
