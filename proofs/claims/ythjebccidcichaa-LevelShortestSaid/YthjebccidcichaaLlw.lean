/- What the rows of the level laws need: the program's own facts, and what levels, ranges, names and spans that are handed in are. -/
import Derived.Test.YthjebccidcichaaLvh
import Derived.ProofKit
import Derived.OpenShut
import Derived.ChangeOld
import Derived.Deep.Slices
import Derived.Deep.Strs
import Derived.ChangeMaps5
namespace Go.Proofs.Ythjebccidcichaa
open Go.ChangeShapes Go.WideShapes Go.ChangeAt Go.RowKit
theorem Try.own : ownKnob Try.prog.godebug = none := by kernel_rfl
theorem Try.laidOut : laidOutB Try.prog = true := by kernel_rfl
theorem Try.cellsWord : Try.prog.cellsOf 22 = 1 := by kernel_rfl
theorem Try.cellsInt : Try.prog.cellsOf 3 = 1 := by kernel_rfl
theorem Try.cellsStr : Try.prog.cellsOf 9 = 1 := by kernel_rfl
theorem Try.cellsSS : Try.prog.cellsOf 37 = 1 := by kernel_rfl
theorem Try.cellsSSp : Try.prog.cellsOf 48 = 1 := by kernel_rfl
theorem Try.cellsLv : Try.prog.cellsOf 24 = 2 := by kernel_rfl
theorem Try.cellsRg : Try.prog.cellsOf 26 = 4 := by kernel_rfl
theorem Try.cellsLt : Try.prog.cellsOf 50 = 2 := by kernel_rfl
theorem Try.cellsRt : Try.prog.cellsOf 52 = 4 := by kernel_rfl
theorem Try.cellsSp : Try.prog.cellsOf 68 = 2 := by kernel_rfl
theorem Try.cellsNm : Try.prog.cellsOf 39 = 2 := by kernel_rfl
theorem list4 {α : Type} (l : List α) (h : l.length = 4) : ∃ a b c d, l = [a, b, c, d] := by
  match l, h with
  | [a, b, c, d], _ => exact ⟨a, b, c, d, rfl⟩
theorem list2 {α : Type} (l : List α) (h : l.length = 2) : ∃ a b, l = [a, b] := by
  match l, h with
  | [a, b], _ => exact ⟨a, b, rfl⟩
theorem u64_of_wf {x : Int} (h : (Lit.int .u64 x).wf = true) : 0 ≤ x ∧ x < 18446744073709551616 := by
  have := bounds_u64 h
  exact ⟨this.1, by omega⟩
theorem i64_of_wf {x : Int} (h : (Lit.int .i64 x).wf = true) : -9223372036854775808 ≤ x ∧ x ≤ 9223372036854775807 := bounds_i64 h
theorem trod_struct2 {H : Type} {enc : TypeId × Value → H} {P : Program} {w : World} {base : Nat} {spare : Nat → Bool} {held : Bool} {t : TypeId} {f0 f1 : Field} {fuel : Nat} {cs : List Value} {x : DataW H × List MemPlace} (ht : P.underlying t = some (.struct #[f0, f1])) (h : DataW.trod enc P w base spare held fuel t cs = some x) :
    ∃ y0 y1 n, cs.length = P.cellsOf t ∧ DataW.trod enc P w base spare held n f0.type ((cs.drop f0.offset).take (P.cellsOf f0.type)) = some y0 ∧
      DataW.trod enc P w base spare held n f1.type ((cs.drop f1.offset).take (P.cellsOf f1.type)) = some y1 := by
  obtain ⟨xs, n, _, rfl, hl, hlen, hf⟩ := DataW.trod_struct ht h
  match xs, hlen with
  | [y0, y1], _ => exact ⟨y0, y1, n, hl, by simpa using hf 0 f0 rfl, by simpa using hf 1 f1 rfl⟩
section
variable {H : Type} {enc : TypeId × Value → H} {W : World} {base : Nat} {sp : Nat → Bool} {held : Bool} {n : Nat} {x : DataW H × List MemPlace}
/-- a level's bounds -/
def LvIs (s : Int) (c : Nat) : Prop := (-9223372036854775808 ≤ s ∧ s ≤ 9223372036854775807) ∧ c < U64
theorem trod_lv {cs : List Value} (h : DataW.trod enc Try.prog W base sp held n 24 cs = some x) : ∃ (s : Int) (c : Nat), cs = [.int .i64 s, .int .u64 c] ∧ LvIs s c := by
  obtain ⟨y0, y1, m, hl, h0, h1⟩ := trod_struct2 Try.underlying24 h
  rw [Try.cellsLv] at hl
  obtain ⟨c0, c1, rfl⟩ := list2 cs hl
  simp [Try.cellsInt, Try.cellsWord] at h0 h1
  obtain ⟨s, e0, _, w0⟩ := DataW.trod_int Try.underlying3 h0
  obtain ⟨c, e1, _, w1⟩ := DataW.trod_int Try.underlying22 h1
  simp at e0 e1
  subst e0 e1
  have b := u64_of_wf w1
  obtain ⟨N, rfl⟩ : ∃ N : Nat, c = N := ⟨c.toNat, by omega⟩
  exact ⟨s, N, rfl, i64_of_wf w0, by unfold U64; omega⟩
theorem addr_some {b o : Nat} (j : Nat) : (⟨b, o, none⟩ : Addr).add j = ⟨b, o + j, none⟩ := by unfold Addr.add; split <;> simp_all
theorem trod_ss {cs : List Value} (h : DataW.trod enc Try.prog W base sp held n 37 cs = some x) : ∃ (v : Value) (l : List ByteArray), cs = [v] ∧ Strs W v l ∧ l.length ≤ maxLen ∧ ∀ s ∈ l, s.size ≤ maxLen := by
  rcases Go.Deep.open_strs Try.underlying37 Try.underlying9 Try.cellsStr h with ⟨hcs, _⟩ | ⟨a, len, cap, m, S, hcs, _, hl, hm, hmm, _, hx⟩
  · exact ⟨_, [], hcs, Strs.nil, Nat.zero_le _, fun s hs => by cases hs⟩
  · have hlm : len ≤ m := by rw [hmm]; split <;> omega
    refine ⟨_, (List.range len).map S, hcs, ⟨some a, cap, by simp, fun hne => ?_⟩, by simp; omega, fun s hs => ?_⟩
    · have h0 : 0 < len := by
        rcases Nat.eq_zero_or_pos len with e | e
        · subst e; simp at hne
        · exact e
      obtain ⟨h10, _⟩ := hx 0 (by omega)
      obtain ⟨b, o, spot⟩ := a
      have hspot : spot = none := by simpa [Addr.add] using World.cell?_spot h10
      subst hspot
      refine ⟨b, o, rfl, fun k hk => ?_⟩
      simp only [List.length_map, List.length_range] at hk
      obtain ⟨h1, _⟩ := hx k (by omega)
      rw [addr_some] at h1
      rw [h1]
      simp
    · obtain ⟨i, hi, rfl⟩ := List.mem_map.1 hs
      exact (hx i (by have := List.mem_range.1 hi; omega)).2
theorem trod_sp {cs : List Value} (h : DataW.trod enc Try.prog W base sp held n 68 cs = some x) : ∃ (a b : ByteArray), cs = [.string a, .string b] ∧ a.size ≤ maxLen ∧ b.size ≤ maxLen := by
  obtain ⟨y0, y1, m, hl, h0, h1⟩ := trod_struct2 Try.underlying68 h
  rw [Try.cellsSp] at hl
  obtain ⟨c0, c1, rfl⟩ := list2 cs hl
  simp [Try.cellsStr] at h0 h1
  obtain ⟨s, e0, _, w0⟩ := DataW.trod_string Try.underlying9 h0
  obtain ⟨c, e1, _, w1⟩ := DataW.trod_string Try.underlying9 h1
  simp at e0 e1
  subst e0 e1
  exact ⟨s, c, rfl, w0, w1⟩
set_option maxRecDepth 100000 in
theorem trod_ssp {cs : List Value} (h : DataW.trod enc Try.prog W base sp held n 48 cs = some x) : ∃ (v : Value) (L : List Sp), cs = [v] ∧ Spans W v L ∧ L.length ≤ maxLen := by
  rcases Go.Deep.open_slice Try.underlying48 h with ⟨hcs, _⟩ | ⟨a, len, cap, m, k, D, Pl, hcs, _, hl, hm, hmm, _, hx⟩
  · exact ⟨_, [], hcs, Spans.nil, Nat.zero_le _⟩
  · have hlm : len ≤ m := by rw [hmm]; split <;> omega
    have each : ∀ i, i < len → ∃ t : Sp, ∃ b o, a = ⟨b, o, none⟩ ∧ W.cell? ⟨b, o + i * 2, none⟩ = some (.string t.1) ∧ W.cell? ⟨b, o + i * 2 + 1, none⟩ = some (.string t.2) := by
      intro i hi
      obtain ⟨cs', h1, h2⟩ := hx i (by omega)
      obtain ⟨u, v, rfl, _, _⟩ := trod_sp h2
      rw [Try.cellsSp] at h1
      obtain ⟨_, _, hcell⟩ := World.cells?_some h1
      obtain ⟨cs0, h10, h20⟩ := hx 0 (by omega)
      obtain ⟨u0, v0, rfl, _, _⟩ := trod_sp h20
      rw [Try.cellsSp] at h10
      obtain ⟨_, _, hcell0⟩ := World.cells?_some h10
      obtain ⟨b, o, spot⟩ := a
      have g0 := hcell 0 (by omega)
      have g1 := hcell 1 (by omega)
      rw [Go.Deep.add_add] at g0 g1
      have hspot : spot = none := by
        have g : W.cell? (((⟨b, o, spot⟩ : Addr).add (0 * 2)).add 0) = some (.string u0) := by simpa using hcell0 0 (by omega)
        simpa [Addr.add] using World.cell?_spot g
      subst hspot
      rw [addr_some] at g0 g1
      exact ⟨(u, v), b, o, rfl, by simpa using g0, by simpa [Nat.add_assoc] using g1⟩
    obtain ⟨V, hV⟩ := Go.Deep.choose_lt each
    refine ⟨_, (List.range len).map V, hcs, ⟨some a, cap, by simp, fun hne => ?_⟩, by simp; omega⟩
    have h0 : 0 < len := by
      rcases Nat.eq_zero_or_pos len with e | e
      · subst e; simp at hne
      · exact e
    obtain ⟨b, o, rfl, _⟩ := hV 0 h0
    refine ⟨b, o, rfl, fun i hi => ?_⟩
    have hil : i < len := by simpa using hi
    obtain ⟨b', o', hbo, c0, c1⟩ := hV i hil
    cases hbo
    simp only [List.getElem_map, List.getElem_range]
    exact ⟨c0, c1⟩
end
section
variable {H : Type} {enc : TypeId × Value → H} {W : World} {base : Nat} {v : Value} {d : DataW H} {p : List MemPlace}
set_option maxRecDepth 100000 in
theorem open_level (hok : Value.okWide Try.prog W .any base 24 v) (h : DataW.Trod enc Try.prog W 0 (fun _ => true) true 24 v d p) :
    ∃ (s : Int) (c : Nat), v = .agg #[.int .i64 s, .int .u64 c] ∧ LvIs s c := by
  obtain ⟨⟨cl⟩, rfl, _, _⟩ : ∃ cs, v = .agg cs ∧ cs.size = Try.prog.cellsOf 24 ∧ Row.okWide Try.prog W .any base 24 cs := by
    simpa [Value.okWide, Try.underlying24] using hok
  obtain ⟨fuel, hf⟩ := h
  obtain ⟨s, c, rfl, hb⟩ := trod_lv hf
  exact ⟨s, c, rfl, hb⟩
set_option maxRecDepth 100000 in
theorem open_range (hok : Value.okWide Try.prog W .any base 26 v) (h : DataW.Trod enc Try.prog W 0 (fun _ => true) true 26 v d p) :
    ∃ (s : Int) (c : Nat) (s2 : Int) (c2 : Nat), v = .agg #[.int .i64 s, .int .u64 c, .int .i64 s2, .int .u64 c2] ∧ LvIs s c ∧ LvIs s2 c2 := by
  obtain ⟨⟨cl⟩, rfl, hsz, _⟩ : ∃ cs, v = .agg cs ∧ cs.size = Try.prog.cellsOf 26 ∧ Row.okWide Try.prog W .any base 26 cs := by
    simpa [Value.okWide, Try.underlying26] using hok
  rw [Try.cellsRg] at hsz
  obtain ⟨c0, c1, c2, c3, rfl⟩ := list4 cl hsz
  obtain ⟨fuel, hf⟩ := h
  obtain ⟨y0, y1, m, _, h0, h1⟩ := trod_struct2 Try.underlying26 hf
  simp [Value.cells, Try.cellsLv] at h0 h1
  obtain ⟨s, c, e0, b0⟩ := trod_lv h0
  obtain ⟨s2, c2', e1, b1⟩ := trod_lv h1
  simp at e0 e1
  obtain ⟨rfl, rfl⟩ := e0
  obtain ⟨rfl, rfl⟩ := e1
  exact ⟨s, c, s2, c2', rfl, b0, b1⟩
set_option maxRecDepth 100000 in
theorem open_names (hok : Value.okWide Try.prog W .any base 39 v) (h : DataW.Trod enc Try.prog W 0 (fun _ => true) true 39 v d p) :
    ∃ (v1 v2 : Value) (l m : List ByteArray), v = .agg #[v1, v2] ∧ Strs W v1 l ∧ Strs W v2 m ∧ l.length ≤ maxLen ∧ m.length ≤ maxLen := by
  obtain ⟨⟨cl⟩, rfl, hsz, _⟩ : ∃ cs, v = .agg cs ∧ cs.size = Try.prog.cellsOf 39 ∧ Row.okWide Try.prog W .any base 39 cs := by
    simpa [Value.okWide, Try.underlying39] using hok
  rw [Try.cellsNm] at hsz
  obtain ⟨c0, c1, rfl⟩ := list2 cl hsz
  obtain ⟨fuel, hf⟩ := h
  obtain ⟨y0, y1, m, _, h0, h1⟩ := trod_struct2 Try.underlying39 hf
  simp [Value.cells, Try.cellsSS] at h0 h1
  obtain ⟨v1, l, e0, b0, b1, _⟩ := trod_ss h0
  obtain ⟨v2, l2, e1, b2, b3, _⟩ := trod_ss h1
  simp at e0 e1
  subst e0 e1
  exact ⟨_, _, l, l2, rfl, b0, b2, b1, b3⟩
set_option maxRecDepth 100000 in
theorem open_rtext (hok : Value.okWide Try.prog W .any base 52 v) (h : DataW.Trod enc Try.prog W 0 (fun _ => true) true 52 v d p) :
    ∃ (s s2 : ByteArray) (v1 v2 : Value) (L L2 : List Sp), v = .agg #[.string s, v1, .string s2, v2] ∧ Spans W v1 L ∧ Spans W v2 L2 ∧ L.length ≤ maxLen ∧ L2.length ≤ maxLen := by
  obtain ⟨⟨cl⟩, rfl, hsz, _⟩ : ∃ cs, v = .agg cs ∧ cs.size = Try.prog.cellsOf 52 ∧ Row.okWide Try.prog W .any base 52 cs := by
    simpa [Value.okWide, Try.underlying52] using hok
  rw [Try.cellsRt] at hsz
  obtain ⟨c0, c1, c2, c3, rfl⟩ := list4 cl hsz
  obtain ⟨fuel, hf⟩ := h
  obtain ⟨y0, y1, m, _, h0, h1⟩ := trod_struct2 Try.underlying52 hf
  simp [Value.cells, Try.cellsLt] at h0 h1
  obtain ⟨z0, z1, k, _, g0, g1⟩ := trod_struct2 Try.underlying50 h0
  obtain ⟨z2, z3, k2, _, g2, g3⟩ := trod_struct2 Try.underlying50 h1
  simp [Try.cellsStr, Try.cellsSSp] at g0 g1 g2 g3
  obtain ⟨s, e0, _, _⟩ := DataW.trod_string Try.underlying9 g0
  obtain ⟨s2, e2, _, _⟩ := DataW.trod_string Try.underlying9 g2
  obtain ⟨v1, L, e1, b0, b1⟩ := trod_ssp g1
  obtain ⟨v2, L2, e3, b2, b3⟩ := trod_ssp g3
  simp at e0 e1 e2 e3
  subst e0 e1 e2 e3
  exact ⟨s, s2, _, _, L, L2, rfl, b0, b2, b1, b3⟩
end
end Go.Proofs.Ythjebccidcichaa
