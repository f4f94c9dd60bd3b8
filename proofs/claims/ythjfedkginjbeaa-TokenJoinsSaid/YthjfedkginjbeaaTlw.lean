/- What the rows of the token laws need: the program's own facts, and what a token and a list of tokens that are handed in are. -/
import Derived.Test.YthjfedkginjbeaaTuh
import Derived.ProofKit
import Derived.OpenShut
import Derived.ChangeOld
import Derived.Laws.IdiomArrays
import Derived.Deep.Slices
import Derived.Deep.Strs
import Derived.ChangeMaps5
namespace Go.Proofs.Ythjfedkginjbeaa
open Go.ChangeShapes Go.WideShapes Go.ChangeAt Go.RowKit
theorem Try.own : ownKnob Try.prog.godebug = none := by kernel_rfl
theorem Try.laidOut : laidOutB Try.prog = true := by kernel_rfl
theorem Try.cellsTok : Try.prog.cellsOf 34 = 4 := by kernel_rfl
theorem Try.cellsPos : Try.prog.cellsOf 26 = 2 := by kernel_rfl
theorem Try.cellsInt : Try.prog.cellsOf 3 = 1 := by kernel_rfl
theorem Try.cellsStr : Try.prog.cellsOf 9 = 1 := by kernel_rfl
theorem list4 {α : Type} (l : List α) (h : l.length = 4) : ∃ a b c d, l = [a, b, c, d] := by
  match l, h with
  | [a, b, c, d], _ => exact ⟨a, b, c, d, rfl⟩
theorem trod_tok {H : Type} {enc : TypeId × Value → H} {w : World} {base : Nat} {sp : Nat → Bool} {held : Bool} {n : Nat} {cs : List Value} {x : DataW H × List MemPlace}
    (h : DataW.trod enc Try.prog w base sp held n 34 cs = some x) : ∃ k t l c, cs = [.int .i64 k, .string t, .int .i64 l, .int .i64 c] ∧ t.size ≤ maxLen := by
  obtain ⟨y0, y1, y2, m, _, hl, h0, h1, h2⟩ := Go.Deep.trod_struct3 Try.underlying34 h
  rw [Try.cellsTok] at hl
  obtain ⟨c0, c1, c2, c3, rfl⟩ := list4 cs hl
  simp [Try.cellsInt, Try.cellsStr, Try.cellsPos] at h0 h1 h2
  obtain ⟨k, e0, _, _⟩ := DataW.trod_int Try.underlying3 h0
  obtain ⟨t, e1, _, ht⟩ := DataW.trod_string Try.underlying9 h1
  obtain ⟨z0, z1, m2, _, _, g0, g1⟩ := trod_struct2 Try.underlying26 h2
  simp [Try.cellsInt] at g0 g1
  obtain ⟨l, e2, _, _⟩ := DataW.trod_int Try.underlying3 g0
  obtain ⟨c, e3, _, _⟩ := DataW.trod_int Try.underlying3 g1
  simp at e0 e1 e2 e3
  subst e0 e1 e2 e3
  exact ⟨k, t, l, c, rfl, ht⟩
theorem open_token {H : Type} {enc : TypeId × Value → H} {W : World} {base : Nat} {v : Value} {d : DataW H} {p : List MemPlace} (hok : Value.okWide Try.prog W .any base 34 v)
    (h : DataW.Trod enc Try.prog W 0 (fun _ => true) true 34 v d p) :
    ∃ k t l c, v = .agg #[.int .i64 k, .string t, .int .i64 l, .int .i64 c] ∧ t.size ≤ maxLen := by
  obtain ⟨cs, rfl, _, _⟩ : ∃ cs, v = .agg cs ∧ cs.size = Try.prog.cellsOf 34 ∧ Row.okWide Try.prog W .any base 34 cs := by
    simpa [Value.okWide, Try.underlying34] using hok
  obtain ⟨fuel, hf⟩ := h
  obtain ⟨k, t, l, c, hcs, ht⟩ := trod_tok hf
  obtain ⟨cl⟩ := cs
  have e : cl = [.int .i64 k, .string t, .int .i64 l, .int .i64 c] := by simpa [Value.cells] using hcs
  subst e
  exact ⟨k, t, l, c, rfl, ht⟩
instance : Inhabited TI := ⟨⟨0, ⟨#[]⟩, 0, 0⟩⟩
theorem open_tokens {H : Type} {enc : TypeId × Value → H} {W : World} {base : Nat} {v : Value} {d : DataW H} {p : List MemPlace} (hok : Value.okWide Try.prog W .any base 23 v)
    (h : DataW.Trod enc Try.prog W 0 (fun _ => true) true 23 v d p) :
    ∃ l : List TI, Toks W v l ∧ l.length ≤ maxLen ∧ ∀ t ∈ l, t.text.size ≤ maxLen := by
  obtain ⟨a0, len0, cap0, rfl⟩ := okWide_slice Try.underlying23 hok
  obtain ⟨fuel, hf⟩ := h
  rcases Go.Deep.open_slice Try.underlying23 hf with ⟨hcs, _⟩ | ⟨a, len, cap, m, n, D, Pl, hcs, _, hl, hm, hmm, _, hx⟩
  · simp [Value.cells] at hcs
    obtain ⟨rfl, rfl, rfl⟩ := hcs
    exact ⟨[], ⟨none, 0, rfl, Nat.le_refl _, fun h => absurd rfl h⟩, Nat.zero_le _, fun t ht => absurd ht (by simp)⟩
  · simp [Value.cells] at hcs
    obtain ⟨rfl, rfl, rfl⟩ := hcs
    have hlm : len0 ≤ m := by rw [hmm]; split <;> omega
    have each : ∀ i, i < len0 → ∃ t : TI, (∃ b o, a = ⟨b, o, none⟩ ∧ W.cell? ⟨b, o + i * 4, none⟩ = some (.int .i64 t.kind) ∧ W.cell? ⟨b, o + i * 4 + 1, none⟩ = some (.string t.text) ∧ W.cell? ⟨b, o + i * 4 + 2, none⟩ = some (.int .i64 t.line) ∧ W.cell? ⟨b, o + i * 4 + 3, none⟩ = some (.int .i64 t.col)) ∧ t.text.size ≤ maxLen := by
      intro i hi
      obtain ⟨cs', h1, h2⟩ := hx i (by omega)
      obtain ⟨k, t, l, c, rfl, ht⟩ := trod_tok h2
      rw [Try.cellsTok] at h1
      obtain ⟨_, _, hcell⟩ := World.cells?_some h1
      obtain ⟨cs0, h10, h20⟩ := hx 0 (by omega)
      obtain ⟨k0, t0, l0, c0, rfl, _⟩ := trod_tok h20
      rw [Try.cellsTok] at h10
      obtain ⟨_, _, hcell0⟩ := World.cells?_some h10
      obtain ⟨b, o, spot⟩ := a
      have g0 := hcell 0 (by omega)
      have g1 := hcell 1 (by omega)
      have g2 := hcell 2 (by omega)
      have g3 := hcell 3 (by omega)
      rw [Go.Deep.add_add] at g0 g1 g2 g3
      have hspot : spot = none := by
        have g : W.cell? (((⟨b, o, spot⟩ : Addr).add (0 * 4)).add 0) = some (.int .i64 k0) := by simpa using hcell0 0 (by omega)
        simpa [Addr.add] using World.cell?_spot g
      subst hspot
      have e : ∀ j, (⟨b, o, none⟩ : Addr).add j = ⟨b, o + j, none⟩ := fun j => by unfold Addr.add; split <;> simp_all
      rw [e] at g0 g1 g2 g3
      exact ⟨⟨k, t, l, c⟩, ⟨b, o, rfl, by simpa using g0, by simpa [Nat.add_assoc] using g1, by simpa [Nat.add_assoc] using g2, by simpa [Nat.add_assoc] using g3⟩, ht⟩
    obtain ⟨V, hV⟩ := Go.Deep.choose_lt each
    refine ⟨(List.range len0).map V, ⟨some a, cap0, by simp, by simpa using hl, fun hne => ?_⟩, by simp; omega, ?_⟩
    · have h0 : 0 < len0 := by
        rcases Nat.eq_zero_or_pos len0 with e | e
        · subst e; simp at hne
        · exact e
      obtain ⟨⟨b, o, rfl, _⟩, _⟩ := hV 0 h0
      refine ⟨b, o, rfl, fun i t ht => ?_⟩
      rw [List.getElem?_map] at ht
      obtain ⟨j, hj, rfl⟩ := Option.map_eq_some_iff.1 ht
      have hil : i < len0 := by
        rcases Nat.lt_or_ge i len0 with h' | h'
        · exact h'
        · rw [List.getElem?_eq_none (by simpa using h')] at hj; cases hj
      rw [List.getElem?_range hil] at hj
      cases hj
      obtain ⟨⟨b', o', hbo, c0, c1, c2, c3⟩, _⟩ := hV i hil
      cases hbo
      exact ⟨c0, c1, c2, c3⟩
    · intro t ht
      obtain ⟨i, hi, rfl⟩ := List.mem_map.1 ht
      exact (hV i (List.mem_range.1 hi)).2
end Go.Proofs.Ythjfedkginjbeaa
