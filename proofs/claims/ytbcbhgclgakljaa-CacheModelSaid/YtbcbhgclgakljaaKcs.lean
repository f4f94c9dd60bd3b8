/- What operations that are handed in are. -/
import Derived.Test.YtbcbhgclgakljaaKcr
import Derived.OpenShut
import Derived.ChangeOld
import Derived.Laws.IdiomArrays
import Derived.Deep.Slices
import Derived.Deep.Strs
import Derived.ChangeMaps5
namespace Go.Proofs.Ytbcbhgclgakljaa
open Go.ChangeShapes Go.WideShapes Go.ChangeAt Go.RowKit
theorem Try.cellsOp : Try.prog.cellsOf 35 = 6 := by kernel_rfl
theorem Try.cellsInt : Try.prog.cellsOf 3 = 1 := by kernel_rfl
theorem Try.cellsU8 : Try.prog.cellsOf 5 = 1 := by kernel_rfl
theorem Try.cellsU32 : Try.prog.cellsOf 33 = 1 := by kernel_rfl
theorem list6 {α : Type} (l : List α) (h : l.length = 6) : ∃ c0 c1 c2 c3 c4 c5, l = [c0, c1, c2, c3, c4, c5] := by
  match l, h with
  | [a, b, c, d, e, f], _ => exact ⟨a, b, c, d, e, f, rfl⟩
theorem i64_of_wf {x : Int} (h : (Lit.int .i64 x).wf = true) : W64 x := by
  have h' : (decide (-9223372036854775808 ≤ x) && decide (x ≤ 9223372036854775807)) = true := h
  simpa [W64] using h'
theorem u32_of_wf {x : Int} (h : (Lit.int .u32 x).wf = true) : 0 ≤ x ∧ x ≤ 4294967295 := by
  have h' : (decide (0 ≤ x) && decide (x ≤ 4294967295)) = true := h
  simpa using h'
theorem u8_of_wf {x : Int} (h : (Lit.int .u8 x).wf = true) : 0 ≤ x ∧ x ≤ 255 := by
  have h' : (decide (0 ≤ x) && decide (x ≤ 255)) = true := h
  simpa using h'
def cellsO (x : Opr) : List Value := [.int .u8 x.kind, .int .i64 x.k.a, .int .i64 x.k.b, .int .i64 x.k.c, .int .u32 x.al, .int .i64 x.sq]
def RO : RowT Opr := ⟨35, 22, cellsO, 6, 48, .agg #[.int .u8 0, .int .i64 0, .int .i64 0, .int .i64 0, .int .u32 0, .int .i64 0], fun _ => rfl, by decide, (by intro x u hu; simp only [cellsO, List.mem_cons, List.not_mem_nil, or_false] at hu; rcases hu with rfl | rfl | rfl | rfl | rfl | rfl <;> rfl), Try.underlying22, by kernel_rfl, rfl, by decide⟩
section
variable {H : Type} {enc : TypeId × Value → H} {W : World} {base : Nat} {sp : Nat → Bool} {held : Bool} {n : Nat} {x : DataW H × List MemPlace}
theorem trod_op {cs : List Value} (h : DataW.trod enc Try.prog W base sp held n 35 cs = some x) : ∃ y : Opr, cs = cellsO y ∧ WO y := by
  obtain ⟨xs, m, _, _, hl, hlen, hx⟩ := DataW.trod_struct Try.underlying35 h
  have h0 := hx 0 _ rfl
  rw [List.getElem?_eq_getElem (show 0 < xs.length by rw [hlen]; decide)] at h0
  have h1 := hx 1 _ rfl
  rw [List.getElem?_eq_getElem (show 1 < xs.length by rw [hlen]; decide)] at h1
  have h2 := hx 2 _ rfl
  rw [List.getElem?_eq_getElem (show 2 < xs.length by rw [hlen]; decide)] at h2
  have h3 := hx 3 _ rfl
  rw [List.getElem?_eq_getElem (show 3 < xs.length by rw [hlen]; decide)] at h3
  have h4 := hx 4 _ rfl
  rw [List.getElem?_eq_getElem (show 4 < xs.length by rw [hlen]; decide)] at h4
  have h5 := hx 5 _ rfl
  rw [List.getElem?_eq_getElem (show 5 < xs.length by rw [hlen]; decide)] at h5
  rw [Try.cellsOp] at hl
  obtain ⟨c0, c1, c2, c3, c4, c5, rfl⟩ := list6 cs hl
  simp [Try.cellsInt, Try.cellsU8, Try.cellsU32] at h0 h1 h2 h3 h4 h5
  obtain ⟨x0, e0, _, w0⟩ := DataW.trod_int Try.underlying5 h0
  obtain ⟨x1, e1, _, w1⟩ := DataW.trod_int Try.underlying3 h1
  obtain ⟨x2, e2, _, w2⟩ := DataW.trod_int Try.underlying3 h2
  obtain ⟨x3, e3, _, w3⟩ := DataW.trod_int Try.underlying3 h3
  obtain ⟨x4, e4, _, w4⟩ := DataW.trod_int Try.underlying33 h4
  obtain ⟨x5, e5, _, w5⟩ := DataW.trod_int Try.underlying3 h5
  simp at e0 e1 e2 e3 e4 e5
  subst e0 e1 e2 e3 e4 e5
  exact ⟨⟨x0, ⟨x1, x2, x3⟩, x4, x5⟩, rfl, ⟨u8_of_wf w0, ⟨i64_of_wf w1, i64_of_wf w2, i64_of_wf w3⟩, u32_of_wf w4, i64_of_wf w5⟩⟩
end
section
variable {H : Type} {enc : TypeId × Value → H} {W : World} {base : Nat} {v : Value} {d : DataW H} {p : List MemPlace}
set_option maxRecDepth 100000 in
theorem open_op (hok : Value.okWide Try.prog W .any base 35 v) (h : DataW.Trod enc Try.prog W 0 (fun _ => true) true 35 v d p) : ∃ x : Opr, v = .agg #[.int .u8 x.kind, .int .i64 x.k.a, .int .i64 x.k.b, .int .i64 x.k.c, .int .u32 x.al, .int .i64 x.sq] ∧ WO x := by
  obtain ⟨⟨cl⟩, rfl, hsz, _⟩ : ∃ cs, v = .agg cs ∧ cs.size = Try.prog.cellsOf 35 ∧ Row.okWide Try.prog W .any base 35 cs := by
    simpa [Value.okWide, Try.underlying35] using hok
  obtain ⟨fuel, hf⟩ := h
  obtain ⟨y, he, hw⟩ := trod_op hf
  simp [Value.cells] at he
  exact ⟨y, by rw [he]; rfl, hw⟩
instance : Inhabited Opr := ⟨⟨0, K3.z, 0, 0⟩⟩
set_option maxRecDepth 100000 in
theorem open_ops (hok : Value.okWide Try.prog W .any base 22 v) (h : DataW.Trod enc Try.prog W 0 (fun _ => true) true 22 v d p) :
    ∃ l : List Opr, Rows' RO W v l ∧ (∀ x ∈ l, WO x) ∧ l.length ≤ maxLen := by
  obtain ⟨a0, len0, cap0, rfl⟩ := okWide_slice Try.underlying22 hok
  obtain ⟨fuel, hf⟩ := h
  rcases DataW.trod_slice Try.underlying22 hf with ⟨e6, _⟩ | ⟨a, len, cap, elems, rest, k, hmk, e6, _, hb, hle, hcap, hel, hx6, _⟩
  · simp [Value.cells] at e6
    obtain ⟨rfl, rfl, rfl⟩ := e6
    exact ⟨[], ⟨⟨none, 0, rfl, Nat.le_refl _, fun h => absurd rfl h⟩⟩, (fun x hx => by cases hx), Nat.zero_le _⟩
  · simp [Value.cells] at e6
    obtain ⟨rfl, rfl, rfl⟩ := e6
    have each : ∀ i, i < len0 → ∃ y : Opr, (∃ b o, a = ⟨b, o, none⟩ ∧ b < W.heap.size ∧ ∀ k u, (cellsO y)[k]? = some u → W.cell? ⟨b, o + i * 6 + k, none⟩ = some u) ∧ WO y := by
      intro i hi
      have hi2 := hx6 i hi
      rw [List.getElem?_eq_getElem (by omega), Option.bind_eq_some_iff] at hi2
      obtain ⟨cs', h1, h2⟩ := hi2
      obtain ⟨y, rfl, hw⟩ := trod_op h2
      rw [Try.cellsOp] at h1
      obtain ⟨_, hlen, hcell⟩ := World.cells?_some h1
      obtain ⟨b, o, spot⟩ := a
      have hj := hx6 0 (by omega)
      rw [List.getElem?_eq_getElem (by omega), Option.bind_eq_some_iff] at hj
      obtain ⟨cs0, h10, h20⟩ := hj
      obtain ⟨y0, rfl, _⟩ := trod_op h20
      rw [Try.cellsOp] at h10
      obtain ⟨_, _, hcell0⟩ := World.cells?_some h10
      have g0 : W.cell? (((⟨b, o, spot⟩ : Addr).add (0 * 6)).add 0) = some (.int .u8 y0.kind) := hcell0 0 (by decide)
      have hspot : spot = none := by simpa [Addr.add] using World.cell?_spot g0
      subst hspot
      have e : ∀ j, (⟨b, o, none⟩ : Addr).add j = ⟨b, o + j, none⟩ := fun j => by unfold Addr.add; split <;> simp_all
      refine ⟨y, ⟨b, o, rfl, ?_, fun k u hu => ?_⟩, hw⟩
      · rcases Nat.lt_or_ge b W.heap.size with h' | h'
        · exact h'
        · simp [World.cell?, Addr.add, Array.getElem?_eq_none h'] at g0
      · have hk : k < 6 := (List.getElem?_eq_some_iff.1 hu).1
        have hc := hcell k hk
        rw [Go.Deep.add_add, e, hu] at hc
        rw [← hc]
        congr 2
        omega
    obtain ⟨V, hV⟩ := Go.Deep.choose_lt each
    refine ⟨(List.range len0).map V, ⟨⟨some a, cap0, by simp, by simp; omega, fun hne => ?_⟩⟩, ?_, by simp; omega⟩
    · have h0 : 0 < len0 := by
        rcases Nat.eq_zero_or_pos len0 with e | e
        · subst e; simp at hne
        · exact e
      obtain ⟨⟨b, o, rfl, hb1, _⟩, _⟩ := hV 0 h0
      refine ⟨b, o, rfl, hb1, fun i y hy k u hu => ?_⟩
      have hil : i < len0 := by have := (List.getElem?_eq_some_iff.1 hy).1; simpa using this
      obtain ⟨⟨b', o', hbo, _, hc⟩, _⟩ := hV i hil
      cases hbo
      have e2 : V i = y := by simpa [hil] using hy
      rw [e2] at hc
      exact hc k u hu
    · intro t ht
      obtain ⟨i, hi, rfl⟩ := List.mem_map.1 ht
      exact (hV i (List.mem_range.1 hi)).2
end
end Go.Proofs.Ytbcbhgclgakljaa
