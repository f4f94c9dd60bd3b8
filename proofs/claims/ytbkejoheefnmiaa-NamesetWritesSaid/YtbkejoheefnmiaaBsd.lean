/- Contracts of Within, Of and All of package bitset and of its reference; equality of sets, as the walk meets it. -/
import Derived.Test.YtbkejoheefnmiaaBsb
import Derived.Test.YtbkejoheefnmiaaBsc
import Derived.Laws.StructEq
import Derived.Laws.Cover2
import Derived.Deep.RegionWith
namespace Go.Proofs.Ytbkejoheefnmiaa
open Go.RowKit
/-- equality of two sets, word by word; closed to the walk -/
def same4 (a b c d a' b' c' d' : Int) : Bool := decide (a = a' ∧ b = b' ∧ c = c' ∧ d = d')
@[go_sem] theorem same4_self (a b c d : Int) : same4 a b c d a b c d = true := by simp [same4]
@[go_sem] theorem eqSet (a b c d a' b' c' d' : Int) (w : World) :
    (Op.equalIn 10000 35 (.agg #[.int .u64 a, .int .u64 b, .int .u64 c, .int .u64 d]) (.agg #[.int .u64 a', .int .u64 b', .int .u64 c', .int .u64 d'])).run Try.prog w = .ok (same4 a b c d a' b' c' d') w := by
  have u3 := Try.underlying33
  have a3 := Try.isAgg33
  have z3 := Try.sizeOf33
  rw [show (10000 : Nat) = 9999 + 1 from rfl, Op.equalIn]
  simp only [Sem.run_bind, run_underlying Try.underlying35, Result.andThen_ok]
  simp only [Std.Legacy.Range.forIn_eq_forIn_range', Std.Legacy.Range.size, Nat.sub_zero, Nat.add_sub_cancel, Nat.div_one, List.range'_succ, List.range'_zero, List.forIn_cons, List.forIn_nil]
  go_simp
  by_cases h1 : a = a' <;> by_cases h2 : b = b' <;> by_cases h3 : c = c' <;> by_cases h4 : d = d' <;> simp [h1, h2, h3, h4, same4]
@[go_sem] theorem setZero (w : World) : (Instr.build 35 #[]).run Try.prog w = .ok (.agg #[.int .u64 0, .int .u64 0, .int .u64 0, .int .u64 0]) w := run_build w 35 _ _ (by kernel_rfl)
@[go_sem] theorem setTwo (a b : Int) (w : World) : (Instr.build 35 #[(0, .int .u64 a), (1, .int .u64 b)]).run Try.prog w = .ok (.agg #[.int .u64 a, .int .u64 b, .int .u64 0, .int .u64 0]) w := run_build w 35 _ _ (by kernel_rfl)
theorem bcell {W w1 : World} (hb : Below W.heap.size W w1) : (∀ b o, b < W.heap.size → w1.cell? ⟨b, o, none⟩ = W.cell? ⟨b, o, none⟩) ∧ (∀ b o, b < W.heap.size → w1.frozen? ⟨b, o, none⟩ = W.frozen? ⟨b, o, none⟩) :=
  ⟨fun b o h => hb.cell (p := ⟨b, o, none⟩) h, fun b o h => hb.frozen (p := ⟨b, o, none⟩) h⟩

end Go.Proofs.Ytbkejoheefnmiaa
