/- Words as bit vectors: the laws of algebra. No Go text walked here. -/
import Derived.Test.YtbkejoheefnmiaaBpm
import Derived.Test.YtbkejoheefnmiaaBsd
namespace Go.Proofs.Ytbkejoheefnmiaa
open Go.RowKit
theorem u64_bv {x : Int} (h : U64 x) : ∃ b : BitVec 64, x = (b.toNat : Int) := by
  obtain ⟨X, rfl, hX⟩ := nat_of h
  exact ⟨BitVec.ofNat 64 X, by rw [BitVec.toNat_ofNat, Nat.mod_eq_of_lt (by omega)]⟩
theorem bv_u64 (b : BitVec 64) : U64 (b.toNat : Int) := by
  have := b.isLt
  unfold U64
  omega
theorem ofInt_bv (b : BitVec 64) : BitVec.ofInt 64 (b.toNat : Int) = b := by
  rw [BitVec.ofInt_natCast, BitVec.ofNat_toNat, BitVec.setWidth_eq]
theorem wrap_bv (b : BitVec 64) : IntKind.u64.wrap (b.toNat : Int) = (b.toNat : Int) := by
  have := b.isLt
  rw [IntKind.wrap_u64]
  omega
theorem bv_and (b c : BitVec 64) : bits .and .u64 (b.toNat : Int) (c.toNat : Int) = ((b &&& c).toNat : Int) := by
  show IntKind.u64.wrap ((BitVec.ofInt 64 (b.toNat : Int) &&& BitVec.ofInt 64 (c.toNat : Int)).toNat : Int) = _
  rw [ofInt_bv, ofInt_bv, wrap_bv]
theorem bv_or (b c : BitVec 64) : bits .or .u64 (b.toNat : Int) (c.toNat : Int) = ((b ||| c).toNat : Int) := by
  show IntKind.u64.wrap ((BitVec.ofInt 64 (b.toNat : Int) ||| BitVec.ofInt 64 (c.toNat : Int)).toNat : Int) = _
  rw [ofInt_bv, ofInt_bv, wrap_bv]
theorem bv_andNot (b c : BitVec 64) : bits .andNot .u64 (b.toNat : Int) (c.toNat : Int) = ((b &&& ~~~c).toNat : Int) := by
  show IntKind.u64.wrap ((BitVec.ofInt 64 (b.toNat : Int) &&& ~~~BitVec.ofInt 64 (c.toNat : Int)).toNat : Int) = _
  rw [ofInt_bv, ofInt_bv, wrap_bv]
theorem bv_inj {b c : BitVec 64} : (b.toNat : Int) = (c.toNat : Int) ↔ b = c := by
  rw [Int.ofNat_inj, BitVec.toNat_inj]
theorem and_u64 {x y : Int} (h : U64 x) (k : U64 y) : U64 (bits .and .u64 x y) := by
  obtain ⟨b, rfl⟩ := u64_bv h
  obtain ⟨c, rfl⟩ := u64_bv k
  rw [bv_and]; exact bv_u64 _
theorem or_u64 {x y : Int} (h : U64 x) (k : U64 y) : U64 (bits .or .u64 x y) := by
  obtain ⟨b, rfl⟩ := u64_bv h
  obtain ⟨c, rfl⟩ := u64_bv k
  rw [bv_or]; exact bv_u64 _
theorem andNot_u64 {x y : Int} (h : U64 x) (k : U64 y) : U64 (bits .andNot .u64 x y) := by
  obtain ⟨b, rfl⟩ := u64_bv h
  obtain ⟨c, rfl⟩ := u64_bv k
  rw [bv_andNot]; exact bv_u64 _
theorem and_eq_iff {x y : Int} (h : U64 x) (k : U64 y) : bits .and .u64 x y = x ↔ bits .andNot .u64 x y = 0 := by
  obtain ⟨b, rfl⟩ := u64_bv h
  obtain ⟨c, rfl⟩ := u64_bv k
  have z : ((0 : Int)) = ((0#64).toNat : Int) := rfl
  rw [bv_and, bv_andNot, z, bv_inj, bv_inj]
  constructor
  · intro e
    rw [← e]
    ext i hi
    simp
  · intro e
    ext i hi
    have := congrArg (fun v : BitVec 64 => v.getLsbD i) e
    simp [hi] at this
    simp
    intro hb
    exact this hb
theorem and_and_self {x y : Int} (h : U64 x) (k : U64 y) : bits .and .u64 (bits .and .u64 x y) x = bits .and .u64 x y := by
  obtain ⟨b, rfl⟩ := u64_bv h
  obtain ⟨c, rfl⟩ := u64_bv k
  rw [bv_and, bv_and, bv_inj]
  ext i hi
  simp
  intro hb _
  exact hb
theorem within_eq {x0 x1 x2 x3 y0 y1 y2 y3 : Int} (h0 : U64 x0) (h1 : U64 x1) (h2 : U64 x2) (h3 : U64 x3) (k0 : U64 y0) (k1 : U64 y1) (k2 : U64 y2) (k3 : U64 y3) :
    same4 (bits .andNot .u64 x0 y0) (bits .andNot .u64 x1 y1) (bits .andNot .u64 x2 y2) (bits .andNot .u64 x3 y3) 0 0 0 0 =
      same4 (bits .and .u64 x0 y0) (bits .and .u64 x1 y1) (bits .and .u64 x2 y2) (bits .and .u64 x3 y3) x0 x1 x2 x3 := by
  simp only [same4, and_eq_iff h0 k0, and_eq_iff h1 k1, and_eq_iff h2 k2, and_eq_iff h3 k3]
end Go.Proofs.Ytbkejoheefnmiaa
