/- Decisions compared; the law CacheNil walked. -/
import Derived.Test.YtbcbhgclgakljaaKcq
import Derived.Laws.StructEq
namespace Go.Proofs.Ytbcbhgclgakljaa
open Go.RowKit Go.Maps Go.WideElems Go.WideShapes
def sameD (x y : Dc) : Bool := decide (x = y)
theorem eqD (x y : Dc) (w : World) :
    (Op.equalIn 10000 39 (.agg #[.int .u32 x.al, .int .u32 x.aa, .int .u32 x.ad, .bool x.pm, .int .i64 x.sq]) (.agg #[.int .u32 y.al, .int .u32 y.aa, .int .u32 y.ad, .bool y.pm, .int .i64 y.sq])).run Try.prog w = .ok (sameD x y) w := by
  have h := run_equalIn_struct (P := Try.prog) w 9999 39 #[.int .u32 x.al, .int .u32 x.aa, .int .u32 x.ad, .bool x.pm, .int .i64 x.sq] #[.int .u32 y.al, .int .u32 y.aa, .int .u32 y.ad, .bool y.pm, .int .i64 y.sq] (by kernel_rfl) (by kernel_rfl)
  rw [show (10000 : Nat) = 9999 + 1 from rfl, h]
  have u1 := Try.underlying33
  have a1 := Try.isAgg33
  have z1 := Try.sizeOf33
  have u2 := Try.underlying4
  have a2 := Try.isAgg4
  have z2 := Try.sizeOf4
  have u3 := Try.underlying3
  have a3 := Try.isAgg3
  have z3 := Try.sizeOf3
  clear h
  simp only [Program.fieldsOf, Try.underlying39]
  go_simp
  clear u1 a1 z1 u2 a2 z2 u3 a3 z3
  obtain ⟨p1, p2, p3, p4, p5⟩ := x
  obtain ⟨q1, q2, q3, q4, q5⟩ := y
  by_cases h1 : p1 = q1 <;> by_cases h2 : p2 = q2 <;> by_cases h3 : p3 = q3 <;> by_cases h4 : p4 = q4 <;> by_cases h5 : p5 = q5 <;> simp [h1, h2, h3, h4, h5, sameD]
theorem eqlD (x y : Dc) (w : World) : (binOp .eql 39 (.agg #[.int .u32 x.al, .int .u32 x.aa, .int .u32 x.ad, .bool x.pm, .int .i64 x.sq]) (.agg #[.int .u32 y.al, .int .u32 y.aa, .int .u32 y.ad, .bool y.pm, .int .i64 y.sq])).run Try.prog w = .ok (.bool (sameD x y)) w := by
  have h := eqD x y w
  simp only [binOp]
  simp [Op.equal, Op.maxDepth, h]
theorem neqD (x y : Dc) (w : World) : (binOp .neq 39 (.agg #[.int .u32 x.al, .int .u32 x.aa, .int .u32 x.ad, .bool x.pm, .int .i64 x.sq]) (.agg #[.int .u32 y.al, .int .u32 y.aa, .int .u32 y.ad, .bool y.pm, .int .i64 y.sq])).run Try.prog w = .ok (.bool (!sameD x y)) w := by
  have h := eqD x y w
  simp only [binOp]
  simp [Op.equal, Op.maxDepth, h]
end Go.Proofs.Ytbcbhgclgakljaa
