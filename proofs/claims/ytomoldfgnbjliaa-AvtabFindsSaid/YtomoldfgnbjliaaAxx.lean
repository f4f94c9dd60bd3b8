/- Bools that are handed in: nil or in memory. -/
import Derived.Test.YtomoldfgnbjliaaAxw
namespace Go.Proofs.Ytomoldfgnbjliaa
open Go.ChangeShapes Go.WideShapes Go.ChangeAt Go.RowKit
section
variable {H : Type} {enc : TypeId × Value → H} {W : World} {base : Nat} {sp : Nat → Bool} {held : Bool} {n : Nat} {x : DataW H × List MemPlace}
set_option maxRecDepth 100000 in
theorem trod_boolsK {cs : List Value} (h : DataW.trod enc Try.prog W base sp held n 23 cs = some x) : ∃ (v : Value) (L : List Bool), cs = [v] ∧ Bools W v L ∧ (v = .slice none 0 0 ∨ ∃ ad n c, v = .slice (some ad) n c) := by
  rcases Go.Deep.open_slice Try.underlying23 h with ⟨hcs, _⟩ | ⟨a, len, cap, m, k, D, Pl, hcs, _, hl, hm, hmm, _, hx⟩
  · exact ⟨_, [], hcs, Bools.nil, .inl rfl⟩
  · have hlm : len ≤ m := by rw [hmm]; split <;> omega
    have each : ∀ i, i < len → ∃ y : Bool, ∃ b o, a = ⟨b, o, none⟩ ∧ W.cell? ⟨b, o + i, none⟩ = some (.bool y) := by
      intro i hi
      obtain ⟨cs', h1, h2⟩ := hx i (by omega)
      obtain ⟨y, rfl, _⟩ := DataW.trod_bool Try.underlying4 h2
      rw [Try.cellsBool] at h1
      obtain ⟨_, _, hcell⟩ := World.cells?_some h1
      obtain ⟨cs0, h10, h20⟩ := hx 0 (by omega)
      obtain ⟨y0, rfl, _⟩ := DataW.trod_bool Try.underlying4 h20
      rw [Try.cellsBool] at h10
      obtain ⟨_, _, hcell0⟩ := World.cells?_some h10
      obtain ⟨b, o, spot⟩ := a
      have g0 := hcell 0 (by omega)
      rw [Go.Deep.add_add] at g0
      have hspot : spot = none := by
        have g : W.cell? (((⟨b, o, spot⟩ : Addr).add (0 * 1)).add 0) = some (.bool y0) := by simpa using hcell0 0 (by omega)
        simpa [Addr.add] using World.cell?_spot g
      subst hspot
      rw [addr_some] at g0
      exact ⟨y, b, o, rfl, by simpa using g0⟩
    obtain ⟨V, hV⟩ := Go.Deep.choose_lt each
    refine ⟨_, (List.range len).map V, hcs, ⟨some a, cap, by simp, by simp; omega, fun hne => ?_⟩, .inr ⟨_, _, _, rfl⟩⟩
    have h0 : 0 < len := by
      rcases Nat.eq_zero_or_pos len with e | e
      · subst e; simp at hne
      · exact e
    obtain ⟨b, o, rfl, _⟩ := hV 0 h0
    refine ⟨b, o, rfl, fun i y hi => ?_⟩
    rw [List.getElem?_map] at hi
    rcases Nat.lt_or_ge i len with hil | hil
    · rw [List.getElem?_range hil] at hi
      simp only [Option.map_some, Option.some.injEq] at hi
      subst hi
      obtain ⟨b', o', hbo, hc⟩ := hV i hil
      cases hbo
      exact hc
    · rw [List.getElem?_eq_none (by simpa using hil)] at hi
      simp at hi
end
section
variable {H : Type} {enc : TypeId × Value → H} {W : World} {base : Nat} {v : Value} {d : DataW H} {p : List MemPlace}
set_option maxRecDepth 100000 in
theorem open_boolsK (hok : Value.okWide Try.prog W .any base 23 v) (h : DataW.Trod enc Try.prog W 0 (fun _ => true) true 23 v d p) : ∃ L : List Bool, Bools W v L ∧ (v = .slice none 0 0 ∨ ∃ ad n c, v = .slice (some ad) n c) := by
  obtain ⟨a0, len0, cap0, rfl⟩ := okWide_slice Try.underlying23 hok
  obtain ⟨fuel, hf⟩ := h
  obtain ⟨v1, l, e0, b0, b1⟩ := trod_boolsK hf
  simp [Value.cells] at e0
  subst e0
  exact ⟨l, b0, b1⟩
end
end Go.Proofs.Ytomoldfgnbjliaa
