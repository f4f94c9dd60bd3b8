/- The laws of algebra, word by word. -/
import Derived.Test.YtaigoklmhafhcaaBpn
import Derived.Test.YtaigoklmhafhcaaBpo
namespace Go.Proofs.Ytaigoklmhafhcaa
open Go.RowKit
theorem or_comm' {x y : Int} (h : U64 x) (k : U64 y) : bits .or .u64 y x = bits .or .u64 x y := by
  obtain ⟨b, rfl⟩ := u64_bv h
  obtain ⟨c, rfl⟩ := u64_bv k
  rw [bv_or, bv_or, BitVec.or_comm]
theorem and_comm' {x y : Int} (h : U64 x) (k : U64 y) : bits .and .u64 y x = bits .and .u64 x y := by
  obtain ⟨b, rfl⟩ := u64_bv h
  obtain ⟨c, rfl⟩ := u64_bv k
  rw [bv_and, bv_and, BitVec.and_comm]
theorem or_assoc' {x y z : Int} (h : U64 x) (k : U64 y) (l : U64 z) : bits .or .u64 x (bits .or .u64 y z) = bits .or .u64 (bits .or .u64 x y) z := by
  obtain ⟨b, rfl⟩ := u64_bv h
  obtain ⟨c, rfl⟩ := u64_bv k
  obtain ⟨d, rfl⟩ := u64_bv l
  simp only [bv_or, BitVec.or_assoc]
theorem and_assoc' {x y z : Int} (h : U64 x) (k : U64 y) (l : U64 z) : bits .and .u64 x (bits .and .u64 y z) = bits .and .u64 (bits .and .u64 x y) z := by
  obtain ⟨b, rfl⟩ := u64_bv h
  obtain ⟨c, rfl⟩ := u64_bv k
  obtain ⟨d, rfl⟩ := u64_bv l
  simp only [bv_and, BitVec.and_assoc]
theorem and_or' {x y z : Int} (h : U64 x) (k : U64 y) (l : U64 z) : bits .or .u64 (bits .and .u64 x y) (bits .and .u64 x z) = bits .and .u64 x (bits .or .u64 y z) := by
  obtain ⟨b, rfl⟩ := u64_bv h
  obtain ⟨c, rfl⟩ := u64_bv k
  obtain ⟨d, rfl⟩ := u64_bv l
  simp only [bv_and, bv_or]
  rw [bv_inj]
  ext i hi
  simp
  cases b[i] <;> cases c[i] <;> cases d[i] <;> rfl
theorem or_and' {x y z : Int} (h : U64 x) (k : U64 y) (l : U64 z) : bits .and .u64 (bits .or .u64 x y) (bits .or .u64 x z) = bits .or .u64 x (bits .and .u64 y z) := by
  obtain ⟨b, rfl⟩ := u64_bv h
  obtain ⟨c, rfl⟩ := u64_bv k
  obtain ⟨d, rfl⟩ := u64_bv l
  simp only [bv_and, bv_or]
  rw [bv_inj]
  ext i hi
  simp
  cases b[i] <;> cases c[i] <;> cases d[i] <;> rfl
theorem less_and' {x y : Int} (h : U64 x) (k : U64 y) : bits .and .u64 (bits .andNot .u64 x y) (bits .and .u64 x y) = 0 := by
  obtain ⟨b, rfl⟩ := u64_bv h
  obtain ⟨c, rfl⟩ := u64_bv k
  have z : ((0 : Int)) = ((0#64).toNat : Int) := rfl
  simp only [bv_and, bv_andNot]
  rw [z, bv_inj]
  ext i hi
  simp
  cases b[i] <;> cases c[i] <;> simp
theorem less_or' {x y : Int} (h : U64 x) (k : U64 y) : bits .or .u64 (bits .andNot .u64 x y) (bits .and .u64 x y) = x := by
  obtain ⟨b, rfl⟩ := u64_bv h
  obtain ⟨c, rfl⟩ := u64_bv k
  simp only [bv_and, bv_andNot, bv_or]
  rw [bv_inj]
  ext i hi
  simp
  cases b[i] <;> cases c[i] <;> simp
theorem pc_word {x y : Int} (h : U64 x) (k : U64 y) : pc 64 (bits .or .u64 x y).toNat + pc 64 (bits .and .u64 x y).toNat = pc 64 x.toNat + pc 64 y.toNat := by
  obtain ⟨X, rfl, hX⟩ := nat_of h
  obtain ⟨Y, rfl, hY⟩ := nat_of k
  rw [u64_or_nat X Y hX hY, u64_and_nat X Y hX hY]
  exact pc_or_and X Y 64
theorem count_sum {x0 x1 x2 x3 y0 y1 y2 y3 : Int} (h0 : U64 x0) (h1 : U64 x1) (h2 : U64 x2) (h3 : U64 x3) (k0 : U64 y0) (k1 : U64 y1) (k2 : U64 y2) (k3 : U64 y3) :
    onesI (bits .or .u64 x0 y0) (bits .or .u64 x1 y1) (bits .or .u64 x2 y2) (bits .or .u64 x3 y3) + onesI (bits .and .u64 x0 y0) (bits .and .u64 x1 y1) (bits .and .u64 x2 y2) (bits .and .u64 x3 y3) =
      onesI x0 x1 x2 x3 + onesI y0 y1 y2 y3 := by
  have := pc_word h0 k0
  have := pc_word h1 k1
  have := pc_word h2 k2
  have := pc_word h3 k3
  unfold onesI
  omega
end Go.Proofs.Ytaigoklmhafhcaa
