/- Plain facts that tie Has to the bits of words: sets are equal if Has agrees; how many elements there are. -/
import Derived.Test.YtbkejoheefnmiaaBsi
namespace Go.Proofs.Ytbkejoheefnmiaa
open Go.RowKit
theorem bitI_eq (q i : Nat) (hi : i < 64) : bitI ((64 * q + i : Nat) : Int) = ((2 ^ i : Nat) : Int) := by
  unfold bitI
  have e : (((64 * q + i : Nat) : Int) % 64).toNat = i := by omega
  have h : 2 ^ i < 2 ^ 64 := Nat.pow_lt_pow_right (by omega) hi
  rw [e, IntKind.wrap_u64]
  have h2 : ((2 : Int) ^ i) = ((2 ^ i : Nat) : Int) := by simp
  rw [h2]
  generalize 2 ^ i = p at *
  omega
theorem and_pow (X i : Nat) : X &&& 2 ^ i = if X.testBit i then 2 ^ i else 0 := by
  refine Nat.eq_of_testBit_eq fun j => ?_
  rw [Nat.testBit_and, Nat.testBit_two_pow]
  by_cases h : i = j
  · subst h
    cases e : X.testBit i <;> simp
  · cases e : X.testBit i <;> simp [h]
theorem and_bit (X i : Nat) (hi : i < 64) (hX : X < 18446744073709551616) : (bits .and .u64 (X : Int) ((2 ^ i : Nat) : Int) != 0) = X.testBit i := by
  have h : 2 ^ i < 2 ^ 64 := Nat.pow_lt_pow_right (by omega) hi
  have hp : 0 < 2 ^ i := Nat.two_pow_pos i
  rw [u64_and_nat X (2 ^ i) hX h, and_pow]
  generalize 2 ^ i = p at *
  cases X.testBit i
  · rfl
  · simp only [if_true]
    rw [bne_iff_ne]
    omega
/-- Has, word by word -/
theorem has0 (X0 : Nat) (x1 x2 x3 : Int) (i : Nat) (hi : i < 64) (hX : X0 < 18446744073709551616) : hasB X0 x1 x2 x3 ((64 * 0 + i : Nat) : Int) = X0.testBit i := by
  rw [hasB_in (by omega) (by omega), word0 (by omega), bitI_eq 0 i hi, and_bit X0 i hi hX]
theorem has1 (X1 : Nat) (x0 x2 x3 : Int) (i : Nat) (hi : i < 64) (hX : X1 < 18446744073709551616) : hasB x0 X1 x2 x3 ((64 * 1 + i : Nat) : Int) = X1.testBit i := by
  rw [hasB_in (by omega) (by omega), word1 (by omega) (by omega), bitI_eq 1 i hi, and_bit X1 i hi hX]
theorem has2 (X2 : Nat) (x0 x1 x3 : Int) (i : Nat) (hi : i < 64) (hX : X2 < 18446744073709551616) : hasB x0 x1 X2 x3 ((64 * 2 + i : Nat) : Int) = X2.testBit i := by
  rw [hasB_in (by omega) (by omega), word2 (by omega) (by omega), bitI_eq 2 i hi, and_bit X2 i hi hX]
theorem has3 (X3 : Nat) (x0 x1 x2 : Int) (i : Nat) (hi : i < 64) (hX : X3 < 18446744073709551616) : hasB x0 x1 x2 X3 ((64 * 3 + i : Nat) : Int) = X3.testBit i := by
  rw [hasB_in (by omega) (by omega), word3 (by omega), bitI_eq 3 i hi, and_bit X3 i hi hX]
theorem word_ext {X Y : Nat} (hX : X < 18446744073709551616) (hY : Y < 18446744073709551616) (h : ∀ i, i < 64 → X.testBit i = Y.testBit i) : X = Y := by
  refine Nat.eq_of_testBit_eq fun i => ?_
  by_cases hi : i < 64
  · exact h i hi
  · have hp : (2 : Nat) ^ 64 ≤ 2 ^ i := Nat.pow_le_pow_right (by omega) (by omega)
    rw [Nat.testBit_lt_two_pow (Nat.lt_of_lt_of_le hX hp), Nat.testBit_lt_two_pow (Nat.lt_of_lt_of_le hY hp)]
theorem nat_of {x : Int} (h : U64 x) : ∃ X : Nat, x = X ∧ X < 18446744073709551616 := ⟨x.toNat, by have := h.1; omega, by have := h.2; omega⟩
theorem sets_ext {x0 x1 x2 x3 y0 y1 y2 y3 : Int} (h0 : U64 x0) (h1 : U64 x1) (h2 : U64 x2) (h3 : U64 x3) (k0 : U64 y0) (k1 : U64 y1) (k2 : U64 y2) (k3 : U64 y3)
    (h : ∀ n : Nat, n < 256 → hasB x0 x1 x2 x3 n = hasB y0 y1 y2 y3 n) : x0 = y0 ∧ x1 = y1 ∧ x2 = y2 ∧ x3 = y3 := by
  obtain ⟨X0, rfl, a0⟩ := nat_of h0
  obtain ⟨X1, rfl, a1⟩ := nat_of h1
  obtain ⟨X2, rfl, a2⟩ := nat_of h2
  obtain ⟨X3, rfl, a3⟩ := nat_of h3
  obtain ⟨Y0, rfl, b0⟩ := nat_of k0
  obtain ⟨Y1, rfl, b1⟩ := nat_of k1
  obtain ⟨Y2, rfl, b2⟩ := nat_of k2
  obtain ⟨Y3, rfl, b3⟩ := nat_of k3
  refine ⟨congrArg Int.ofNat (word_ext a0 b0 fun i hi => ?_), congrArg Int.ofNat (word_ext a1 b1 fun i hi => ?_), congrArg Int.ofNat (word_ext a2 b2 fun i hi => ?_), congrArg Int.ofNat (word_ext a3 b3 fun i hi => ?_)⟩
  · have e := h (64 * 0 + i) (by omega); rwa [has0 X0 _ _ _ i hi a0, has0 Y0 _ _ _ i hi b0] at e
  · have e := h (64 * 1 + i) (by omega); rwa [has1 X1 _ _ _ i hi a1, has1 Y1 _ _ _ i hi b1] at e
  · have e := h (64 * 2 + i) (by omega); rwa [has2 X2 _ _ _ i hi a2, has2 Y2 _ _ _ i hi b2] at e
  · have e := h (64 * 3 + i) (by omega); rwa [has3 X3 _ _ _ i hi a3, has3 Y3 _ _ _ i hi b3] at e
end Go.Proofs.Ytbkejoheefnmiaa
