/- What the rows of the avtab laws need: the program's own facts, and what entries, bools and questions that are handed in are. -/
import Derived.Test.YtomoldfgnbjliaaAvr
import Derived.ProofKit
import Derived.OpenShut
import Derived.ChangeOld
import Derived.Deep.Slices
import Derived.ChangeMaps5
import Derived.Laws.IdiomArrays
namespace Go.Proofs.Ytomoldfgnbjliaa
open Go.ChangeShapes Go.WideShapes Go.ChangeAt Go.RowKit
theorem Try.own : ownKnob Try.prog.godebug = none := by kernel_rfl
theorem Try.laidOut : laidOutB Try.prog = true := by kernel_rfl
theorem Try.cellsInt : Try.prog.cellsOf 3 = 1 := by kernel_rfl
theorem Try.cellsU32 : Try.prog.cellsOf 37 = 1 := by kernel_rfl
theorem Try.cellsBool : Try.prog.cellsOf 4 = 1 := by kernel_rfl
theorem Try.cellsEntry : Try.prog.cellsOf 39 = 7 := by kernel_rfl
theorem Try.cellsQ : Try.prog.cellsOf 48 = 4 := by kernel_rfl
theorem list4 {α : Type} (l : List α) (h : l.length = 4) : ∃ a b c d, l = [a, b, c, d] := by
  match l, h with
  | [a, b, c, d], _ => exact ⟨a, b, c, d, rfl⟩
theorem list7 {α : Type} (l : List α) (h : l.length = 7) : ∃ a b c d e f g, l = [a, b, c, d, e, f, g] := by
  match l, h with
  | [a, b, c, d, e, f, g], _ => exact ⟨a, b, c, d, e, f, g, rfl⟩
theorem u32_vI {x : Int} (h : (Lit.int .u32 x).wf = true) : ∃ b : BitVec 32, x = vI b := by
  have := bounds_u32 h
  refine ⟨BitVec.ofNat 32 x.toNat, ?_⟩
  unfold vI
  rw [BitVec.toNat_ofNat]
  omega
theorem choose_ltE {α : Type} [Inhabited α] {len : Nat} {p : Nat → α → Prop} (h : ∀ i, i < len → ∃ x, p i x) : ∃ V : Nat → α, ∀ i, i < len → p i (V i) := by
  classical
  exact ⟨fun i => if hi : i < len then (h i hi).choose else default, fun i hi => by simp only [hi, dif_pos]; exact (h i hi).choose_spec⟩
instance : Inhabited E := ⟨⟨0, 0, 0, 0, 0#32, 0#32, 0#32, by decide⟩⟩
theorem addr_some {b o : Nat} (j : Nat) : (⟨b, o, none⟩ : Addr).add j = ⟨b, o + j, none⟩ := by unfold Addr.add; split <;> simp_all
theorem trod_struct4' {H : Type} {enc : TypeId × Value → H} {P : Program} {w : World} {base : Nat} {spare : Nat → Bool} {held : Bool} {t : TypeId} {f0 f1 f2 f3 : Field} {fuel : Nat} {cs : List Value} {x : DataW H × List MemPlace} (ht : P.underlying t = some (.struct #[f0, f1, f2, f3])) (h : DataW.trod enc P w base spare held fuel t cs = some x) :
    ∃ y0 y1 y2 y3 n, cs.length = P.cellsOf t ∧ DataW.trod enc P w base spare held n f0.type ((cs.drop f0.offset).take (P.cellsOf f0.type)) = some y0 ∧ DataW.trod enc P w base spare held n f1.type ((cs.drop f1.offset).take (P.cellsOf f1.type)) = some y1 ∧ DataW.trod enc P w base spare held n f2.type ((cs.drop f2.offset).take (P.cellsOf f2.type)) = some y2 ∧ DataW.trod enc P w base spare held n f3.type ((cs.drop f3.offset).take (P.cellsOf f3.type)) = some y3 := by
  obtain ⟨xs, n, _, rfl, hl, hlen, hf⟩ := DataW.trod_struct ht h
  match xs, hlen with
  | [y0, y1, y2, y3], _ => exact ⟨y0, y1, y2, y3, n, hl, by simpa using hf 0 f0 rfl, by simpa using hf 1 f1 rfl, by simpa using hf 2 f2 rfl, by simpa using hf 3 f3 rfl⟩
theorem trod_struct7' {H : Type} {enc : TypeId × Value → H} {P : Program} {w : World} {base : Nat} {spare : Nat → Bool} {held : Bool} {t : TypeId} {f0 f1 f2 f3 f4 f5 f6 : Field} {fuel : Nat} {cs : List Value} {x : DataW H × List MemPlace} (ht : P.underlying t = some (.struct #[f0, f1, f2, f3, f4, f5, f6])) (h : DataW.trod enc P w base spare held fuel t cs = some x) :
    ∃ y0 y1 y2 y3 y4 y5 y6 n, cs.length = P.cellsOf t ∧ DataW.trod enc P w base spare held n f0.type ((cs.drop f0.offset).take (P.cellsOf f0.type)) = some y0 ∧ DataW.trod enc P w base spare held n f1.type ((cs.drop f1.offset).take (P.cellsOf f1.type)) = some y1 ∧ DataW.trod enc P w base spare held n f2.type ((cs.drop f2.offset).take (P.cellsOf f2.type)) = some y2 ∧ DataW.trod enc P w base spare held n f3.type ((cs.drop f3.offset).take (P.cellsOf f3.type)) = some y3 ∧ DataW.trod enc P w base spare held n f4.type ((cs.drop f4.offset).take (P.cellsOf f4.type)) = some y4 ∧ DataW.trod enc P w base spare held n f5.type ((cs.drop f5.offset).take (P.cellsOf f5.type)) = some y5 ∧ DataW.trod enc P w base spare held n f6.type ((cs.drop f6.offset).take (P.cellsOf f6.type)) = some y6 := by
  obtain ⟨xs, n, _, rfl, hl, hlen, hf⟩ := DataW.trod_struct ht h
  match xs, hlen with
  | [y0, y1, y2, y3, y4, y5, y6], _ => exact ⟨y0, y1, y2, y3, y4, y5, y6, n, hl, by simpa using hf 0 f0 rfl, by simpa using hf 1 f1 rfl, by simpa using hf 2 f2 rfl, by simpa using hf 3 f3 rfl, by simpa using hf 4 f4 rfl, by simpa using hf 5 f5 rfl, by simpa using hf 6 f6 rfl⟩
section
variable {H : Type} {enc : TypeId × Value → H} {W : World} {base : Nat} {sp : Nat → Bool} {held : Bool} {n : Nat} {x : DataW H × List MemPlace}
theorem trod_entry {cs : List Value} (h : DataW.trod enc Try.prog W base sp held n 39 cs = some x) : ∃ y : E, cs = cellsE y := by
  obtain ⟨y0, y1, y2, y3, y4, y5, y6, m, hl, h0, h1, h2, h3, h4, h5, h6⟩ := trod_struct7' Try.underlying39 h
  rw [Try.cellsEntry] at hl
  obtain ⟨c0, c1, c2, c3, c4, c5, c6, rfl⟩ := list7 cs hl
  simp [Try.cellsInt, Try.cellsU32] at h0 h1 h2 h3 h4 h5 h6
  obtain ⟨x0, e0, rfl, w0⟩ := DataW.trod_int Try.underlying3 h0
  obtain ⟨x1, e1, rfl, w1⟩ := DataW.trod_int Try.underlying3 h1
  obtain ⟨x2, e2, rfl, w2⟩ := DataW.trod_int Try.underlying3 h2
  obtain ⟨x3, e3, rfl, w3⟩ := DataW.trod_int Try.underlying3 h3
  obtain ⟨x4, e4, rfl, w4⟩ := DataW.trod_int Try.underlying37 h4
  obtain ⟨x5, e5, rfl, w5⟩ := DataW.trod_int Try.underlying37 h5
  obtain ⟨x6, e6, rfl, w6⟩ := DataW.trod_int Try.underlying37 h6
  simp at e0 e1 e2 e3 e4 e5 e6
  subst e0 e1 e2 e3 e4 e5 e6
  obtain ⟨b4, rfl⟩ := u32_vI w4
  obtain ⟨b5, rfl⟩ := u32_vI w5
  obtain ⟨b6, rfl⟩ := u32_vI w6
  exact ⟨⟨x0, x1, x2, x3, b4, b5, b6, bounds_i64 w0, bounds_i64 w1, bounds_i64 w2, bounds_i64 w3⟩, rfl⟩
theorem trod_q {cs : List Value} (h : DataW.trod enc Try.prog W base sp held n 48 cs = some x) : ∃ (a b c : Int) (d : BitVec 32), cs = [.int .i64 a, .int .i64 b, .int .i64 c, .int .u32 (vI d)] ∧ (Lit.int .i64 a).wf = true ∧ (Lit.int .i64 b).wf = true ∧ (Lit.int .i64 c).wf = true := by
  obtain ⟨y0, y1, y2, y3, m, hl, h0, h1, h2, h3⟩ := trod_struct4' Try.underlying48 h
  rw [Try.cellsQ] at hl
  obtain ⟨c0, c1, c2, c3, rfl⟩ := list4 cs hl
  simp [Try.cellsInt, Try.cellsU32] at h0 h1 h2 h3
  obtain ⟨x0, e0, rfl, w0⟩ := DataW.trod_int Try.underlying3 h0
  obtain ⟨x1, e1, rfl, w1⟩ := DataW.trod_int Try.underlying3 h1
  obtain ⟨x2, e2, rfl, w2⟩ := DataW.trod_int Try.underlying3 h2
  obtain ⟨x3, e3, rfl, w3⟩ := DataW.trod_int Try.underlying37 h3
  simp at e0 e1 e2 e3
  subst e0 e1 e2 e3
  obtain ⟨b3, rfl⟩ := u32_vI w3
  exact ⟨x0, x1, x2, b3, rfl, w0, w1, w2⟩
set_option maxRecDepth 100000 in
theorem trod_ents {cs : List Value} (h : DataW.trod enc Try.prog W base sp held n 22 cs = some x) : ∃ (v : Value) (L : List E), cs = [v] ∧ Ents W v L ∧ L.length ≤ maxLen := by
  rcases Go.Deep.open_slice Try.underlying22 h with ⟨hcs, _⟩ | ⟨a, len, cap, m, k, D, Pl, hcs, _, hl, hm, hmm, _, hx⟩
  · exact ⟨_, [], hcs, Ents.nil, Nat.zero_le _⟩
  · have hlm : len ≤ m := by rw [hmm]; split <;> omega
    have each : ∀ i, i < len → ∃ y : E, ∃ b o, a = ⟨b, o, none⟩ ∧ At7 W b (o + i * 7) y := by
      intro i hi
      obtain ⟨cs', h1, h2⟩ := hx i (by omega)
      obtain ⟨y, rfl⟩ := trod_entry h2
      rw [Try.cellsEntry] at h1
      obtain ⟨_, _, hcell⟩ := World.cells?_some h1
      obtain ⟨cs0, h10, h20⟩ := hx 0 (by omega)
      obtain ⟨y0, rfl⟩ := trod_entry h20
      rw [Try.cellsEntry] at h10
      obtain ⟨_, _, hcell0⟩ := World.cells?_some h10
      obtain ⟨b, o, spot⟩ := a
      have g0 := hcell 0 (by omega)
      have g1 := hcell 1 (by omega)
      have g2 := hcell 2 (by omega)
      have g3 := hcell 3 (by omega)
      have g4 := hcell 4 (by omega)
      have g5 := hcell 5 (by omega)
      have g6 := hcell 6 (by omega)
      rw [Go.Deep.add_add] at g0 g1 g2 g3 g4 g5 g6
      have hspot : spot = none := by
        have g : W.cell? (((⟨b, o, spot⟩ : Addr).add (0 * 7)).add 0) = some (.int .i64 y0.s) := by simpa [cellsE] using hcell0 0 (by omega)
        simpa [Addr.add] using World.cell?_spot g
      subst hspot
      rw [addr_some] at g0 g1 g2 g3 g4 g5 g6
      exact ⟨y, b, o, rfl, by simpa [cellsE] using g0, by simpa [cellsE, Nat.add_assoc] using g1, by simpa [cellsE, Nat.add_assoc] using g2, by simpa [cellsE, Nat.add_assoc] using g3, by simpa [cellsE, Nat.add_assoc] using g4, by simpa [cellsE, Nat.add_assoc] using g5, by simpa [cellsE, Nat.add_assoc] using g6⟩
    obtain ⟨V, hV⟩ := choose_ltE each
    refine ⟨_, (List.range len).map V, hcs, ⟨some a, cap, by simp, by simp; omega, fun hne => ?_⟩, by simp; omega⟩
    have h0 : 0 < len := by
      rcases Nat.eq_zero_or_pos len with e | e
      · subst e; simp at hne
      · exact e
    obtain ⟨b, o, rfl, _⟩ := hV 0 h0
    refine ⟨b, o, rfl, fun i y hi => ?_⟩
    rw [List.getElem?_map] at hi
    rcases Nat.lt_or_ge i len with hil | hil
    · rw [List.getElem?_range hil] at hi
      simp only [Option.map_some, Option.some.injEq] at hi
      subst hi
      obtain ⟨b', o', hbo, hc⟩ := hV i hil
      cases hbo
      exact hc
    · rw [List.getElem?_eq_none (by simpa using hil)] at hi
      simp at hi
set_option maxRecDepth 100000 in
theorem trod_bools {cs : List Value} (h : DataW.trod enc Try.prog W base sp held n 23 cs = some x) : ∃ (v : Value) (L : List Bool), cs = [v] ∧ Bools W v L ∧ L.length ≤ maxLen := by
  rcases Go.Deep.open_slice Try.underlying23 h with ⟨hcs, _⟩ | ⟨a, len, cap, m, k, D, Pl, hcs, _, hl, hm, hmm, _, hx⟩
  · exact ⟨_, [], hcs, Bools.nil, Nat.zero_le _⟩
  · have hlm : len ≤ m := by rw [hmm]; split <;> omega
    have each : ∀ i, i < len → ∃ y : Bool, ∃ b o, a = ⟨b, o, none⟩ ∧ W.cell? ⟨b, o + i, none⟩ = some (.bool y) := by
      intro i hi
      obtain ⟨cs', h1, h2⟩ := hx i (by omega)
      obtain ⟨y, rfl, _⟩ := DataW.trod_bool Try.underlying4 h2
      rw [Try.cellsBool] at h1
      obtain ⟨_, _, hcell⟩ := World.cells?_some h1
      obtain ⟨cs0, h10, h20⟩ := hx 0 (by omega)
      obtain ⟨y0, rfl, _⟩ := DataW.trod_bool Try.underlying4 h20
      rw [Try.cellsBool] at h10
      obtain ⟨_, _, hcell0⟩ := World.cells?_some h10
      obtain ⟨b, o, spot⟩ := a
      have g0 := hcell 0 (by omega)
      rw [Go.Deep.add_add] at g0
      have hspot : spot = none := by
        have g : W.cell? (((⟨b, o, spot⟩ : Addr).add (0 * 1)).add 0) = some (.bool y0) := by simpa using hcell0 0 (by omega)
        simpa [Addr.add] using World.cell?_spot g
      subst hspot
      rw [addr_some] at g0
      exact ⟨y, b, o, rfl, by simpa using g0⟩
    obtain ⟨V, hV⟩ := Go.Deep.choose_lt each
    refine ⟨_, (List.range len).map V, hcs, ⟨some a, cap, by simp, by simp; omega, fun hne => ?_⟩, by simp; omega⟩
    have h0 : 0 < len := by
      rcases Nat.eq_zero_or_pos len with e | e
      · subst e; simp at hne
      · exact e
    obtain ⟨b, o, rfl, _⟩ := hV 0 h0
    refine ⟨b, o, rfl, fun i y hi => ?_⟩
    rw [List.getElem?_map] at hi
    rcases Nat.lt_or_ge i len with hil | hil
    · rw [List.getElem?_range hil] at hi
      simp only [Option.map_some, Option.some.injEq] at hi
      subst hi
      obtain ⟨b', o', hbo, hc⟩ := hV i hil
      cases hbo
      exact hc
    · rw [List.getElem?_eq_none (by simpa using hil)] at hi
      simp at hi
end
section
variable {H : Type} {enc : TypeId × Value → H} {W : World} {base : Nat} {v : Value} {d : DataW H} {p : List MemPlace}
set_option maxRecDepth 100000 in
theorem open_ents (hok : Value.okWide Try.prog W .any base 22 v) (h : DataW.Trod enc Try.prog W 0 (fun _ => true) true 22 v d p) : ∃ L : List E, Ents W v L ∧ L.length ≤ maxLen := by
  obtain ⟨a0, len0, cap0, rfl⟩ := okWide_slice Try.underlying22 hok
  obtain ⟨fuel, hf⟩ := h
  obtain ⟨v1, l, e0, b0, b1⟩ := trod_ents hf
  simp [Value.cells] at e0
  subst e0
  exact ⟨l, b0, b1⟩
set_option maxRecDepth 100000 in
theorem open_bools (hok : Value.okWide Try.prog W .any base 23 v) (h : DataW.Trod enc Try.prog W 0 (fun _ => true) true 23 v d p) : ∃ L : List Bool, Bools W v L ∧ L.length ≤ maxLen := by
  obtain ⟨a0, len0, cap0, rfl⟩ := okWide_slice Try.underlying23 hok
  obtain ⟨fuel, hf⟩ := h
  obtain ⟨v1, l, e0, b0, b1⟩ := trod_bools hf
  simp [Value.cells] at e0
  subst e0
  exact ⟨l, b0, b1⟩
set_option maxRecDepth 100000 in
theorem open_q (hok : Value.okWide Try.prog W .any base 48 v) (h : DataW.Trod enc Try.prog W 0 (fun _ => true) true 48 v d p) :
    ∃ (a b c : Int) (e : BitVec 32), v = .agg #[.int .i64 a, .int .i64 b, .int .i64 c, .int .u32 (vI e)] := by
  obtain ⟨⟨cl⟩, rfl, hsz, _⟩ : ∃ cs, v = .agg cs ∧ cs.size = Try.prog.cellsOf 48 ∧ Row.okWide Try.prog W .any base 48 cs := by
    simpa [Value.okWide, Try.underlying48] using hok
  rw [Try.cellsQ] at hsz
  obtain ⟨fuel, hf⟩ := h
  obtain ⟨a, b, c, e, he, _⟩ := trod_q hf
  simp [Value.cells] at he
  subst he
  exact ⟨a, b, c, e, rfl⟩
end
end Go.Proofs.Ytomoldfgnbjliaa
