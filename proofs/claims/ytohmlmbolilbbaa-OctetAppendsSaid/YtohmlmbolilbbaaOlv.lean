/- What the rows of the two octet laws over values need: what values that are handed in are. -/
import Derived.Test.YtohmlmbolilbbaaOlw
import Derived.Lib.SmallJoins
namespace Go.Proofs.Ytohmlmbolilbbaa
open Go.ChangeShapes Go.WideShapes Go.ChangeAt Go.RowKit
theorem Try.cellsI64 : Try.prog.cellsOf 2 = 1 := by kernel_rfl
theorem Try.cellsStr : Try.prog.cellsOf 9 = 1 := by kernel_rfl
theorem Try.cellsVal : Try.prog.cellsOf 51 = 7 := by kernel_rfl
theorem list7 {α : Type} (l : List α) (h : l.length = 7) : ∃ a b c d e f g, l = [a, b, c, d, e, f, g] := by
  match l, h with
  | [a, b, c, d, e, f, g], _ => exact ⟨a, b, c, d, e, f, g, rfl⟩
set_option maxRecDepth 100000 in
theorem open_values {H : Type} {enc : TypeId × Value → H} {W : World} {base : Nat} {v : Value} {d : DataW H} {p : List MemPlace} (hok : Value.okWide Try.prog W .any base 51 v)
    (h : DataW.Trod enc Try.prog W 0 (fun _ => true) true 51 v d p) :
    ∃ (n : Nat) (m : Int) (s : ByteArray) (x0 x1 x2 x3 : Int), v = .agg #[.int .u64 n, .int .i64 m, .string s, .int .u64 x0, .int .u64 x1, .int .u64 x2, .int .u64 x3] ∧ n < 18446744073709551616 ∧ (-9223372036854775808 ≤ m ∧ m ≤ 9223372036854775807) ∧ s.size ≤ maxLen ∧
      ∀ x ∈ [x0, x1, x2, x3], 0 ≤ x ∧ x < 18446744073709551616 := by
  obtain ⟨cs, rfl, hsz, _⟩ : ∃ cs, v = .agg cs ∧ cs.size = Try.prog.cellsOf 51 ∧ Row.okWide Try.prog W .any base 51 cs := by
    simpa [Value.okWide, Try.underlying51] using hok
  rw [Try.cellsVal] at hsz
  obtain ⟨cl⟩ := cs
  obtain ⟨c0, c1, c2, c3, c4, c5, c6, rfl⟩ := list7 cl hsz
  obtain ⟨fuel, hf⟩ := h
  obtain ⟨y0, y1, y2, y3, k, _, _, h0, h1, h2, h3⟩ := Go.Joins.trod_struct4 Try.underlying51 hf
  simp [Value.cells, Try.cellsWord, Try.cellsI64, Try.cellsStr, Try.cellsSet] at h0 h1 h2 h3
  obtain ⟨n, e0, _, w0⟩ := DataW.trod_int Try.underlying23 h0
  obtain ⟨m, e1, _, w1⟩ := DataW.trod_int Try.underlying2 h1
  obtain ⟨s, e2, _, hs⟩ := DataW.trod_string Try.underlying9 h2
  obtain ⟨z0, z1, z2, z3, k2, _, g0, g1, g2, g3⟩ := trod_array4 Try.underlying40 Try.cellsWord h3
  obtain ⟨x0, f0, _, v0⟩ := DataW.trod_int Try.underlying23 g0
  obtain ⟨x1, f1, _, v1⟩ := DataW.trod_int Try.underlying23 g1
  obtain ⟨x2, f2, _, v2⟩ := DataW.trod_int Try.underlying23 g2
  obtain ⟨x3, f3, _, v3⟩ := DataW.trod_int Try.underlying23 g3
  simp at e0 e1 e2 f0 f1 f2 f3
  subst e0 e1 e2 f0 f1 f2 f3
  have b := u64_of_wf w0
  obtain ⟨N, rfl⟩ : ∃ N : Nat, n = N := ⟨n.toNat, by omega⟩
  refine ⟨N, m, s, x0, x1, x2, x3, rfl, by omega, i64_of_wf w1, hs, fun x hx => ?_⟩
  simp at hx
  rcases hx with rfl | rfl | rfl | rfl
  · exact u64_of_wf v0
  · exact u64_of_wf v1
  · exact u64_of_wf v2
  · exact u64_of_wf v3
end Go.Proofs.Ytohmlmbolilbbaa
