/- Levels: bits, dominance, the checks (plain mathematics). -/
import Derived.Laws.BitsAllLaws
import Derived.Laws.Shifts
import Derived.Below
namespace Go.Proofs.Ythjebccidcichaa
open Go.RowKit
def U64 : Nat := 18446744073709551616
theorem U64_pow : U64 = 2 ^ 64 := rfl
/-- has bit n -/
def hasL (c : Nat) (n : Int) : Bool := decide (0 ≤ n ∧ n < 64) && c.testBit n.toNat
theorem hasL_in (c n : Nat) (h : n < 64) : hasL c n = c.testBit n := by
  unfold hasL
  rw [decide_eq_true (by omega)]
  simp
theorem hasL_out (c : Nat) {n : Int} (h : ¬ (0 ≤ n ∧ n < 64)) : hasL c n = false := by
  unfold hasL
  rw [decide_eq_false h]
  rfl
/-- no bit from k on -/
def lowL (c : Nat) (cats : Int) : Bool := decide (c / 2 ^ min (if 0 > cats then (0 : Int) else cats).toNat 64 = 0)
theorem lowL_iff {c : Nat} (hc : c < U64) (cats : Int) : lowL c cats = true ↔ ∀ n : Nat, n < 64 → c.testBit n = true → (n : Int) < cats := by
  unfold lowL
  rw [decide_eq_true_eq, Nat.div_eq_zero_iff_lt (Nat.two_pow_pos _)]
  constructor
  · intro h n hn hb
    have h1 := Nat.ge_two_pow_of_testBit hb
    have h2 : 2 ^ n < 2 ^ min (if 0 > cats then (0 : Int) else cats).toNat 64 := Nat.lt_of_le_of_lt h1 h
    have h3 := (Nat.pow_lt_pow_iff_right (by decide : 1 < 2)).1 h2
    split at h3 <;> omega
  · intro h
    refine Nat.lt_pow_two_of_testBit c fun i hi => ?_
    cases hb : c.testBit i
    · rfl
    · have h64 : i < 64 := by
        rcases Nat.lt_or_ge i 64 with h' | h'
        · exact h'
        · have := Nat.ge_two_pow_of_testBit hb
          have h2 : 2 ^ 64 ≤ 2 ^ i := Nat.pow_le_pow_right (by decide) h'
          unfold U64 at hc
          omega
      have := h i h64 hb
      exfalso
      split at hi <;> omega
def chkL (s : Int) (c : Nat) (sens cats : Int) : Bool := decide (0 ≤ s ∧ s < sens) && lowL c cats
/-- b has no bit that a lacks -/
def subL (a b : Nat) : Bool := decide (b &&& (18446744073709551615 - a) = 0)
theorem subL_iff {a b : Nat} (ha : a < U64) : subL a b = true ↔ ∀ n : Nat, n < 64 → b.testBit n = true → a.testBit n = true := by
  unfold subL
  rw [decide_eq_true_eq]
  have ht : ∀ i, (18446744073709551615 - a).testBit i = (decide (i < 64) && !a.testBit i) := fun i => by
    have h := Nat.testBit_two_pow_sub_succ (x := a) (n := 64) ha i
    rw [← h, show 18446744073709551615 - a = 2 ^ 64 - (a + 1) by omega]
  constructor
  · intro h n hn hbn
    have := congrArg (fun x : Nat => x.testBit n) h
    simp only [Nat.testBit_and, ht, hbn, Nat.zero_testBit, Bool.true_and, decide_eq_true hn] at this
    simpa using this
  · intro h
    apply Nat.eq_of_testBit_eq
    intro i
    rw [Nat.testBit_and, ht, Nat.zero_testBit]
    by_cases hi : i < 64
    · cases hbi : b.testBit i
      · rfl
      · rw [h i hi hbi]; simp
    · rw [decide_eq_false hi]; simp
def domL (s : Int) (c : Nat) (s' : Int) (c' : Nat) : Bool := decide (s' ≤ s) && subL c c'
def relL (s : Int) (c : Nat) (s' : Int) (c' : Nat) : Int := if s = s' ∧ c = c' then 0 else if domL s c s' c' = true then 2 else if domL s' c' s c = true then 3 else 4
/-- ranges -/
structure Lv where
  sens : Int
  cats : Nat
structure Rg where
  low : Lv
  high : Lv
def joinL (a b : Lv) : Lv := ⟨max a.sens b.sens, a.cats ||| b.cats⟩
def meetL (a b : Lv) : Lv := ⟨min a.sens b.sens, a.cats &&& b.cats⟩
def dom (a b : Lv) : Bool := domL a.sens a.cats b.sens b.cats
def chk (l : Lv) (sens cats : Int) : Bool := chkL l.sens l.cats sens cats
def rng (r : Rg) (sens cats : Int) : Bool := chk r.low sens cats && (chk r.high sens cats && dom r.high r.low)
def cont (o i : Rg) : Bool := dom i.low o.low && dom o.high i.high
def span (a b : Rg) : Rg := ⟨meetL a.low b.low, joinL a.high b.high⟩
theorem or_lt {a b : Nat} (ha : a < U64) (hb : b < U64) : a ||| b < U64 := Nat.or_lt_two_pow (n := 64) ha hb
theorem and_lt {a b : Nat} (ha : a < U64) : a &&& b < U64 := Nat.lt_of_le_of_lt Nat.and_le_left ha
/-- the reference's sums over all bits -/
def allLow (c : Nat) (cats : Int) (k : Nat) : Prop := ∀ n : Nat, n < k → ¬ (hasL c n = true ∧ cats ≤ n)
theorem allLow_end {c : Nat} (hc : c < U64) {cats : Int} (h : allLow c cats 64) : lowL c cats = true := (lowL_iff hc cats).2 fun n hn hb => by
  rcases (by omega : (n : Int) < cats ∨ cats ≤ (n : Int)) with h' | h'
  · exact h'
  · exact absurd ⟨by rw [hasL_in c n hn]; exact hb, h'⟩ (h n hn)
theorem allLow_no {c : Nat} (hc : c < U64) {cats : Int} {n : Nat} (hn : n < 64) (hb : hasL c n = true) (h : cats ≤ n) : lowL c cats = false := by
  cases hl : lowL c cats
  · rfl
  · have := (lowL_iff hc cats).1 hl n hn (by rw [← hasL_in c n hn]; exact hb)
    omega
def allSub (a b : Nat) (k : Nat) : Prop := ∀ n : Nat, n < k → ¬ (hasL b n = true ∧ hasL a n = false)
theorem allSub_end {a b : Nat} (ha : a < U64) (h : allSub a b 64) : subL a b = true := (subL_iff ha).2 fun n hn hbn => by
  cases hh : a.testBit n
  · exact absurd ⟨by rw [hasL_in b n hn]; exact hbn, by rw [hasL_in a n hn]; exact hh⟩ (h n hn)
  · rfl
theorem allSub_no {a b : Nat} (ha : a < U64) {n : Nat} (hn : n < 64) (h1 : hasL b n = true) (h2 : hasL a n = false) : subL a b = false := by
  cases hl : subL a b
  · rfl
  · have := (subL_iff ha).1 hl n hn (by rw [← hasL_in b n hn]; exact h1)
    rw [hasL_in a n hn, this] at h2
    cases h2
/-- bit n, as the walk has it -/
theorem bit_walk (c n : Nat) (hc : c < U64) (hn : n < 64) : (bits .and .u64 ((c : Int) / 2 ^ n) 1 == 1) = hasL c n := by
  have h1 : ((c : Int) / 2 ^ n) = ((c / 2 ^ n : Nat) : Int) := by simp
  have h2 : c / 2 ^ n < 18446744073709551616 := Nat.lt_of_le_of_lt (Nat.div_le_self _ _) hc
  have h3 : bits .and .u64 ((c / 2 ^ n : Nat) : Int) ((1 : Nat) : Int) = ((c / 2 ^ n &&& 1 : Nat) : Int) := u64_and_nat _ _ h2 (by decide)
  rw [h1, show (1 : Int) = ((1 : Nat) : Int) from rfl, h3, Nat.and_one_is_mod, hasL_in c n hn, Nat.testBit_eq_decide_div_mod_eq]
  rw [Bool.eq_iff_iff]
  simp
  omega
end Go.Proofs.Ythjebccidcichaa
