/- The law CacheBound walked. -/
import Derived.Test.YtbcbhgclgakljaaKcs
namespace Go.Proofs.Ytbcbhgclgakljaa
open Go.RowKit Go.Maps Go.WideElems Go.WideShapes
theorem Rows'.at6 {w : World} {v : Value} {L : List Opr} (h : Rows' RO w v L) {g o cap n : Nat} (hv : v = .slice (some ⟨g, o, none⟩) n cap) {i : Nat} {x : Opr} (hx : L[i]? = some x) :
    g < w.heap.size ∧ w.cell? ⟨g, o + i * 6, none⟩ = some (.int .u8 x.kind) ∧ w.cell? ⟨g, o + i * 6 + 1, none⟩ = some (.int .i64 x.k.a) ∧ w.cell? ⟨g, o + i * 6 + 2, none⟩ = some (.int .i64 x.k.b) ∧ w.cell? ⟨g, o + i * 6 + 3, none⟩ = some (.int .i64 x.k.c) ∧ w.cell? ⟨g, o + i * 6 + 4, none⟩ = some (.int .u32 x.al) ∧ w.cell? ⟨g, o + i * 6 + 5, none⟩ = some (.int .i64 x.sq) := by
  obtain ⟨ao, cap', e, _, hr⟩ := h.form
  obtain ⟨g', o', e2, hg, hR⟩ := hr (by rintro rfl; simp at hx)
  subst hv
  simp only [Value.slice.injEq] at e
  obtain ⟨e1, _, _⟩ := e
  rw [e2] at e1
  simp only [Option.some.injEq, Addr.mk.injEq] at e1
  obtain ⟨rfl, rfl, _⟩ := e1
  have := hR i x hx
  exact ⟨hg, this 0 _ rfl, this 1 _ rfl, this 2 _ rfl, this 3 _ rfl, this 4 _ rfl, this 5 _ rfl⟩
theorem Rows'.some6 {w : World} {v : Value} {L : List Opr} (h : Rows' RO w v L) (hn : L ≠ []) : ∃ g o cap, v = .slice (some ⟨g, o, none⟩) L.length cap ∧ L.length ≤ cap := by
  obtain ⟨ao, cap, rfl, hc, hr⟩ := h.form
  obtain ⟨g, o, rfl, _⟩ := hr hn
  exact ⟨g, o, cap, rfl, hc⟩
theorem sum_find (s : CS) (x : Opr) (h : x.kind % 3 = 0) : (doC s x).hits + (doC s x).misses = s.hits + s.misses + 1 := by
  unfold doC
  rw [if_pos h]
  unfold findC
  split
  · simp only; omega
  · simp only; omega
theorem sum_else (s : CS) (x : Opr) (h : ¬ x.kind % 3 = 0) : (doC s x).hits + (doC s x).misses = s.hits + s.misses := by
  unfold doC
  rw [if_neg h]
  unfold insC putC resC
  repeat' split
  all_goals rfl
theorem nodup_ne {l : List K3} (h : l.Nodup) {a b : Nat} (hab : b < a) (ha : a < l.length) {x y : K3} (hx : l[a]? = some x) (hy : l[b]? = some y) : sameK x y = false := by
  have hb : b < l.length := by omega
  rw [List.getElem?_eq_getElem ha] at hx
  rw [List.getElem?_eq_getElem hb] at hy
  have : l[b] ≠ l[a] := List.pairwise_iff_getElem.1 h b a hb ha hab
  simp only [Option.some.injEq] at hx hy
  rw [hx, hy] at this
  simp only [sameK, decide_eq_false_iff_not]
  exact fun e => this e.symm
theorem eqlK (x y : K3) (w : World) : (binOp .eql 84 (.agg #[.int .i64 x.a, .int .i64 x.b, .int .i64 x.c]) (.agg #[.int .i64 y.a, .int .i64 y.b, .int .i64 y.c])).run Try.prog w = .ok (.bool (sameK x y)) w := by
  have h := eqK x.a x.b x.c y.a y.b y.c w
  simp only [binOp]
  simp [Op.equal, Op.maxDepth, h]
end Go.Proofs.Ytbcbhgclgakljaa
