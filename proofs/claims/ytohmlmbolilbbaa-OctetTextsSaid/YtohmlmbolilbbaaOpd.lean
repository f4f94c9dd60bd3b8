/- Bits of bytes and of words: plain mathematics, no program. -/
import Derived.Test.YtohmlmbolilbbaaOpb
import Derived.Laws.BitsAllLaws
import Derived.WalkSpells
namespace Go.Proofs.Ytohmlmbolilbbaa
theorem or128_all : ∀ c : Fin 256, c.val ||| 128 = c.val % 128 + 128 := by decide +kernel
theorem andNot128_all : ∀ c : Fin 256, c.val &&& (255 - 128) = c.val % 128 := by decide +kernel
theorem and128_all : ∀ c : Fin 256, c.val &&& 128 = if c.val < 128 then 0 else 128 := by decide +kernel
theorem or128 (n : Int) (h0 : 0 ≤ n) (h1 : n ≤ 255) : bits .or .u8 n 128 = n % 128 + 128 := by
  rw [u8_or n 128 h0 (by omega) (by omega) (by omega)]
  have := or128_all ⟨n.toNat, by omega⟩
  simp only at this
  rw [show (128 : Int).toNat = 128 from rfl, this]
  omega
theorem andNot128 (n : Int) (h0 : 0 ≤ n) (h1 : n ≤ 255) : bits .andNot .u8 n 128 = n % 128 := by
  rw [u8_andNot n 128 h0 (by omega) (by omega) (by omega)]
  have := andNot128_all ⟨n.toNat, by omega⟩
  simp only at this
  rw [show (128 : Int).toNat = 128 from rfl, this]
  omega
theorem and128 (n : Int) (h0 : 0 ≤ n) (h1 : n ≤ 255) : bits .and .u8 n 128 = if n < 128 then 0 else 128 := by
  rw [u8_and n 128 h0 (by omega) (by omega) (by omega)]
  have := and128_all ⟨n.toNat, by omega⟩
  simp only at this
  rw [show (128 : Int).toNat = 128 from rfl, this]
  split <;> split <;> omega
/-- the group i is put above those below it -/
theorem or_group (a b i : Nat) (ha : a < 128 ^ i) : a ||| (b * 128 ^ i) = a + b * 128 ^ i := by
  have e : (128 : Nat) ^ i = 2 ^ (7 * i) := by rw [Nat.pow_mul]
  rw [e] at ha ⊢
  rw [Nat.or_comm, Nat.mul_comm b, ← Nat.two_pow_add_eq_or_of_lt ha, Nat.add_comm]
theorem u64_group (a b i : Nat) (ha : a < 128 ^ i) (hs : a + b * 128 ^ i < 18446744073709551616) : bits .or .u64 (a : Int) ((b * 128 ^ i : Nat) : Int) = ((a + b * 128 ^ i : Nat) : Int) := by
  rw [u64_or_nat a _ (by omega) (by omega), or_group a b i ha]
end Go.Proofs.Ytohmlmbolilbbaa
