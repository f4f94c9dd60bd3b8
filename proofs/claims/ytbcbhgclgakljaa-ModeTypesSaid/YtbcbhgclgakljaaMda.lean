/- Words, decisions and verdicts; two verdicts compared. -/
import Derived.Test.YtbcbhgclgakljaaQt
import Derived.Test.YtbcbhgclgakljaaPho
import Derived.Laws.StructEq
import Derived.LoopTactic
import Derived.Deep.LoopGhost
namespace Go.Proofs.Ytbcbhgclgakljaa
open Go.RowKit
/-- a vector as a number -/
def vI (x : BitVec 32) : Int := (x.toNat : Int)
theorem vI_lo (x : BitVec 32) : 0 ≤ vI x := Int.natCast_nonneg _
theorem vI_hi (x : BitVec 32) : vI x < 4294967296 := by have := x.isLt; unfold vI; omega
theorem vI_inj {x y : BitVec 32} (h : vI x = vI y) : x = y := by
  unfold vI at h
  exact BitVec.eq_of_toNat_eq (by omega)
@[go_sem] theorem vI_zero : vI 0#32 = 0 := rfl
theorem wrap_nat32 (n : Nat) (h : n < 4294967296) : IntKind.u32.wrap (n : Int) = n := by
  have w : IntKind.u32.wrap (n : Int) = (n : Int) % 4294967296 := by simp [IntKind.wrap, IntKind.bits, IntKind.signed]
  rw [w]; omega
@[go_sem] theorem vI_or (x y : BitVec 32) : bits .or .u32 (vI x) (vI y) = vI (x ||| y) := by
  show IntKind.u32.wrap ((BitVec.ofInt 32 (vI x) ||| BitVec.ofInt 32 (vI y)).toNat : Int) = _
  have e : ∀ z : BitVec 32, BitVec.ofInt 32 (vI z) = z := fun z => by
    apply BitVec.eq_of_toNat_eq
    unfold vI
    rw [BitVec.toNat_ofInt]
    have := z.isLt
    omega
  rw [e, e, wrap_nat32 _ (BitVec.isLt _)]
  rfl
@[go_sem] theorem vI_and (x y : BitVec 32) : bits .and .u32 (vI x) (vI y) = vI (x &&& y) := by
  show IntKind.u32.wrap ((BitVec.ofInt 32 (vI x) &&& BitVec.ofInt 32 (vI y)).toNat : Int) = _
  have e : ∀ z : BitVec 32, BitVec.ofInt 32 (vI z) = z := fun z => by
    apply BitVec.eq_of_toNat_eq
    unfold vI
    rw [BitVec.toNat_ofInt]
    have := z.isLt
    omega
  rw [e, e, wrap_nat32 _ (BitVec.isLt _)]
  rfl
theorem vI_wf (x : BitVec 32) : (Lit.int .u32 (vI x)).wf = true := by
  have h1 := vI_lo x; have h2 := vI_hi x
  show (decide (0 ≤ vI x) && decide (vI x ≤ 4294967295)) = true
  simp only [Bool.and_eq_true, decide_eq_true_eq]; omega
@[go_sem] theorem vI_andNot (x y : BitVec 32) : bits .andNot .u32 (vI x) (vI y) = vI (x &&& ~~~ y) := by
  show IntKind.u32.wrap ((BitVec.ofInt 32 (vI x) &&& ~~~ BitVec.ofInt 32 (vI y)).toNat : Int) = _
  have e : ∀ z : BitVec 32, BitVec.ofInt 32 (vI z) = z := fun z => by
    apply BitVec.eq_of_toNat_eq
    unfold vI
    rw [BitVec.toNat_ofInt]
    have := z.isLt
    omega
  rw [e, e, wrap_nat32 _ (BitVec.isLt _)]
  rfl
structure Dn where
  al : BitVec 32
  aa : BitVec 32
  ad : BitVec 32
  pm : Bool
  sq : Int
structure Vt where
  g : Bool
  dn : BitVec 32
  ag : BitVec 32
  ad : BitVec 32
  pm : Bool
deriving DecidableEq
/-- the verdict about a request -/
def jg (d : Dn) (p : BitVec 32) (e : Bool) : Vt := ⟨decide (p &&& ~~~ d.al = 0#32) || (!e || d.pm), p &&& ~~~ d.al, p &&& d.al &&& d.aa, p &&& ~~~ d.al &&& d.ad, !decide (p &&& ~~~ d.al = 0#32) && (!e || d.pm)⟩
/-- what either of two verdicts says -/
def wst (a b : Vt) : Vt := ⟨a.g && b.g, a.dn ||| b.dn, a.ag ||| b.ag, a.ad ||| b.ad, a.g && b.g && (a.pm || b.pm)⟩
theorem vI_iff {x y : BitVec 32} : vI x = vI y ↔ x = y := ⟨vI_inj, fun h => by rw [h]⟩
theorem vI_eq0 {x : BitVec 32} (h : x ≠ 0#32) : ¬ vI x = 0 := fun e => h (vI_inj e)
theorem Blk.c5 {w : World} {g : Nat} {t : TypeId} {a0 a1 a2 a3 a4 : Value} (h : Blk w g t #[a0, a1, a2, a3, a4]) :
    w.cell? ⟨g, 0, none⟩ = some a0 ∧ w.cell? ⟨g, 1, none⟩ = some a1 ∧ w.cell? ⟨g, 2, none⟩ = some a2 ∧ w.cell? ⟨g, 3, none⟩ = some a3 ∧ w.cell? ⟨g, 4, none⟩ = some a4 :=
  ⟨h.cell 0, h.cell 1, h.cell 2, h.cell 3, h.cell 4⟩
theorem Blk.f5 {w : World} {g : Nat} {t : TypeId} {cs : Array Value} (h : Blk w g t cs) :
    w.frozen? ⟨g, 0, none⟩ = false ∧ w.frozen? ⟨g, 1, none⟩ = false ∧ w.frozen? ⟨g, 2, none⟩ = false ∧ w.frozen? ⟨g, 3, none⟩ = false ∧ w.frozen? ⟨g, 4, none⟩ = false :=
  ⟨h.frozen 0, h.frozen 1, h.frozen 2, h.frozen 3, h.frozen 4⟩
def sameV (x y : Vt) : Bool := decide (x = y)
theorem eqV (x y : Vt) (w : World) :
    (Op.equalIn 10000 41 (.agg #[.bool x.g, .int .u32 (vI x.dn), .int .u32 (vI x.ag), .int .u32 (vI x.ad), .bool x.pm]) (.agg #[.bool y.g, .int .u32 (vI y.dn), .int .u32 (vI y.ag), .int .u32 (vI y.ad), .bool y.pm])).run Try.prog w = .ok (sameV x y) w := by
  have h := run_equalIn_struct (P := Try.prog) w 9999 41 #[.bool x.g, .int .u32 (vI x.dn), .int .u32 (vI x.ag), .int .u32 (vI x.ad), .bool x.pm] #[.bool y.g, .int .u32 (vI y.dn), .int .u32 (vI y.ag), .int .u32 (vI y.ad), .bool y.pm] (by kernel_rfl) (by kernel_rfl)
  rw [show (10000 : Nat) = 9999 + 1 from rfl, h]
  have u1 := Try.underlying33
  have a1 := Try.isAgg33
  have z1 := Try.sizeOf33
  have u2 := Try.underlying4
  have a2 := Try.isAgg4
  have z2 := Try.sizeOf4
  clear h
  simp only [Program.fieldsOf, Try.underlying41]
  go_simp
  clear u1 a1 z1 u2 a2 z2
  obtain ⟨p1, p2, p3, p4, p5⟩ := x
  obtain ⟨q1, q2, q3, q4, q5⟩ := y
  by_cases h1 : p1 = q1 <;> by_cases h2 : p2 = q2 <;> by_cases h3 : p3 = q3 <;> by_cases h4 : p4 = q4 <;> by_cases h5 : p5 = q5 <;> simp [h1, h2, h3, h4, h5, sameV, vI_iff]
theorem eqlV (x y : Vt) (w : World) : (binOp .eql 41 (.agg #[.bool x.g, .int .u32 (vI x.dn), .int .u32 (vI x.ag), .int .u32 (vI x.ad), .bool x.pm]) (.agg #[.bool y.g, .int .u32 (vI y.dn), .int .u32 (vI y.ag), .int .u32 (vI y.ad), .bool y.pm])).run Try.prog w = .ok (.bool (sameV x y)) w := by
  have h := eqV x y w
  simp only [binOp]
  simp [Op.equal, Op.maxDepth, h]
theorem neqV (x y : Vt) (w : World) : (binOp .neq 41 (.agg #[.bool x.g, .int .u32 (vI x.dn), .int .u32 (vI x.ag), .int .u32 (vI x.ad), .bool x.pm]) (.agg #[.bool y.g, .int .u32 (vI y.dn), .int .u32 (vI y.ag), .int .u32 (vI y.ad), .bool y.pm])).run Try.prog w = .ok (.bool (!sameV x y)) w := by
  have h := eqV x y w
  simp only [binOp]
  simp [Op.equal, Op.maxDepth, h]
end Go.Proofs.Ytbcbhgclgakljaa
