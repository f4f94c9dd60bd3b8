/- The contract of math/bits.OnesCount64: it returns the number of one bits. Condition: the argument is a uint64. -/
import Derived.Test.YtbkejoheefnmiaaBsf
import Derived.Test.YtbkejoheefnmiaaBpl
namespace Go.Proofs.Ytbkejoheefnmiaa
open Go.RowKit
set_option maxHeartbeats 400000 in
theorem ones_walk (x A B C D : Int) (w : World) (_h0 : 0 ≤ x) (hA : bits .and .u64 (x / 2) 6148914691236517205 + bits .and .u64 x 6148914691236517205 = A) (a0 : 0 ≤ A) (a1 : A ≤ 18446744073709551615)
    (hB : bits .and .u64 (A / 4) 3689348814741910323 + bits .and .u64 A 3689348814741910323 = B) (b0 : 0 ≤ B) (b1 : B ≤ 8000000000000000000)
    (hC : bits .and .u64 (B / 16 + B) 1085102592571150095 = C) (c0 : 0 ≤ C) (c1 : C ≤ 600000000000000000)
    (hD : bits .and .i64 (C + C / 256 + (C + C / 256) / 65536 + (C + C / 256 + (C + C / 256) / 65536) / 4294967296) 127 = D) :
    Calls Try.prog 61 #[.int .u64 x] w fun e w' => e = .returned (.int .i64 D) ∧ w' = w := by
  go_enter Try.func61, Try.ntmps61
  go_wp2
  go_ret
  exact ⟨rfl, rfl⟩

theorem and127 (n : Nat) (h : n < 9223372036854775808) : bits .and .i64 (n : Int) 127 = ((n % 128 : Nat) : Int) := by
  have h1 : (BitVec.ofInt 64 (n : Int)).toNat = n := ofInt_u64 n (by omega)
  have h2 : (BitVec.ofInt 64 (127 : Int)).toNat = 127 := by decide
  show IntKind.i64.wrap ((BitVec.ofInt 64 (n : Int) &&& BitVec.ofInt 64 127).toNat : Int) = _
  rw [BitVec.toNat_and, h1, h2, show (127 : Nat) = 2 ^ 7 - 1 from rfl, Nat.and_two_pow_sub_one_eq_mod]
  rw [IntWalk.i64_in _ (by omega)]
theorem and_lt' (x M : Nat) : x &&& M ≤ M := Nat.and_le_right
theorem ones_c (x : Int) (w : World) (h0 : 0 ≤ x) (h1 : x ≤ 18446744073709551615) :
    Calls Try.prog 61 #[.int .u64 x] w fun e w' => e = .returned (.int .i64 (pc 64 x.toNat)) ∧ w' = w := by
  obtain ⟨X, rfl⟩ := Int.eq_ofNat_of_zero_le h0
  have b1 := and_lt' (X / 2) 0x5555555555555555
  have b2 := and_lt' X 0x5555555555555555
  have eA : bits .and .u64 ((X : Int) / 2) 6148914691236517205 + bits .and .u64 (X : Int) 6148914691236517205 = (((X / 2 &&& 0x5555555555555555) + (X &&& 0x5555555555555555) : Nat) : Int) := by
    have e := u64_and_nat (X / 2) 0x5555555555555555 (by omega) (by omega)
    have e' := u64_and_nat X 0x5555555555555555 (by omega) (by omega)
    rw [Int.natCast_add, ← e, ← e']
    rfl
  obtain ⟨A, hA⟩ : ∃ A, A = (X / 2 &&& 0x5555555555555555) + (X &&& 0x5555555555555555) := ⟨_, rfl⟩
  rw [← hA] at eA
  have b3 := and_lt' (A / 4) 0x3333333333333333
  have b4 := and_lt' A 0x3333333333333333
  have eB : bits .and .u64 ((A : Int) / 4) 3689348814741910323 + bits .and .u64 (A : Int) 3689348814741910323 = (((A / 4 &&& 0x3333333333333333) + (A &&& 0x3333333333333333) : Nat) : Int) := by
    have e := u64_and_nat (A / 4) 0x3333333333333333 (by omega) (by omega)
    have e' := u64_and_nat A 0x3333333333333333 (by omega) (by omega)
    rw [Int.natCast_add, ← e, ← e']
    rfl
  obtain ⟨B, hB⟩ : ∃ B, B = (A / 4 &&& 0x3333333333333333) + (A &&& 0x3333333333333333) := ⟨_, rfl⟩
  rw [← hB] at eB
  have hC : swar X = (B / 16 + B) &&& 0x0f0f0f0f0f0f0f0f := by rw [hB, hA]; rfl
  have hBle : B ≤ 8000000000000000000 := by omega
  have eC : bits .and .u64 ((B : Int) / 16 + B) 1085102592571150095 = (swar X : Int) := by
    have e := u64_and_nat (B / 16 + B) 0x0f0f0f0f0f0f0f0f (by omega) (by omega)
    rw [hC, ← e, Int.natCast_add]
    rfl
  have hs := swar_le X
  have hp := popcount X
  generalize swar X = C at *
  unfold fold3 at hp
  refine (ones_walk X A B C (pc 64 X) w h0 eA (by omega) (by omega) eB (by omega) (by omega) eC (by omega) (by omega) ?_).mono fun e w' h => h
  have e := and127 (C + C / 256 + (C + C / 256) / 65536 + (C + C / 256 + (C + C / 256) / 65536) / 4294967296) (by omega)
  rw [← hp]
  exact e
end Go.Proofs.Ytbkejoheefnmiaa
