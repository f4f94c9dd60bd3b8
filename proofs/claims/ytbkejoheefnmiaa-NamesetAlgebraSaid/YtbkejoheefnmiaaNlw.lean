/- What the rows of the nameset laws need: the program's own facts, and what texts, lists of texts, sets, sets of names and environments that are handed in are. -/
import Derived.Test.YtbkejoheefnmiaaNtc
import Derived.ProofKit
import Derived.OpenShut
import Derived.ChangeOld
import Derived.Deep.Slices
import Derived.Deep.Strs
import Derived.ChangeMaps5
import Derived.Laws.IdiomArrays
namespace Go.Proofs.Ytbkejoheefnmiaa
open Go.ChangeShapes Go.WideShapes Go.ChangeAt Go.RowKit
theorem Try.own : ownKnob Try.prog.godebug = none := by kernel_rfl
theorem Try.laidOut : laidOutB Try.prog = true := by kernel_rfl
theorem Try.cellsWord : Try.prog.cellsOf 33 = 1 := by kernel_rfl
theorem Try.cellsStr : Try.prog.cellsOf 9 = 1 := by kernel_rfl
theorem Try.cellsBool : Try.prog.cellsOf 4 = 1 := by kernel_rfl
theorem Try.cellsSS : Try.prog.cellsOf 27 = 1 := by kernel_rfl
theorem Try.cellsSTy : Try.prog.cellsOf 22 = 1 := by kernel_rfl
theorem Try.cellsSAt : Try.prog.cellsOf 23 = 1 := by kernel_rfl
theorem Try.cellsSet : Try.prog.cellsOf 35 = 4 := by kernel_rfl
theorem Try.cellsTy : Try.prog.cellsOf 53 = 3 := by kernel_rfl
theorem Try.cellsAt : Try.prog.cellsOf 65 = 5 := by kernel_rfl
theorem Try.cellsEnv : Try.prog.cellsOf 25 = 2 := by kernel_rfl
theorem Try.cellsNS : Try.prog.cellsOf 29 = 5 := by kernel_rfl
instance : Inhabited S4 := ⟨S4.zero⟩
theorem list5 {α : Type} (l : List α) (h : l.length = 5) : ∃ a b c d e, l = [a, b, c, d, e] := by
  match l, h with
  | [a, b, c, d, e], _ => exact ⟨a, b, c, d, e, rfl⟩
theorem list4 {α : Type} (l : List α) (h : l.length = 4) : ∃ a b c d, l = [a, b, c, d] := by
  match l, h with
  | [a, b, c, d], _ => exact ⟨a, b, c, d, rfl⟩
theorem list3 {α : Type} (l : List α) (h : l.length = 3) : ∃ a b c, l = [a, b, c] := by
  match l, h with
  | [a, b, c], _ => exact ⟨a, b, c, rfl⟩
theorem list2 {α : Type} (l : List α) (h : l.length = 2) : ∃ a b, l = [a, b] := by
  match l, h with
  | [a, b], _ => exact ⟨a, b, rfl⟩
theorem u64_of_wf {x : Int} (h : (Lit.int .u64 x).wf = true) : U64 x := by
  have := bounds_u64 h
  exact ⟨this.1, this.2⟩
theorem addr_some {b o : Nat} (j : Nat) : (⟨b, o, none⟩ : Addr).add j = ⟨b, o + j, none⟩ := by unfold Addr.add; split <;> simp_all
theorem trod_struct2 {H : Type} {enc : TypeId × Value → H} {P : Program} {w : World} {base : Nat} {spare : Nat → Bool} {held : Bool} {t : TypeId} {f0 f1 : Field} {fuel : Nat} {cs : List Value} {x : DataW H × List MemPlace} (ht : P.underlying t = some (.struct #[f0, f1])) (h : DataW.trod enc P w base spare held fuel t cs = some x) :
    ∃ y0 y1 n, cs.length = P.cellsOf t ∧ DataW.trod enc P w base spare held n f0.type ((cs.drop f0.offset).take (P.cellsOf f0.type)) = some y0 ∧
      DataW.trod enc P w base spare held n f1.type ((cs.drop f1.offset).take (P.cellsOf f1.type)) = some y1 := by
  obtain ⟨xs, n, _, rfl, hl, hlen, hf⟩ := DataW.trod_struct ht h
  match xs, hlen with
  | [y0, y1], _ => exact ⟨y0, y1, n, hl, by simpa using hf 0 f0 rfl, by simpa using hf 1 f1 rfl⟩
theorem trod_struct5 {H : Type} {enc : TypeId × Value → H} {P : Program} {w : World} {base : Nat} {spare : Nat → Bool} {held : Bool} {t : TypeId} {f0 f1 f2 f3 f4 : Field} {fuel : Nat} {cs : List Value} {x : DataW H × List MemPlace} (ht : P.underlying t = some (.struct #[f0, f1, f2, f3, f4])) (h : DataW.trod enc P w base spare held fuel t cs = some x) :
    ∃ y0 y1 y2 y3 y4 n, cs.length = P.cellsOf t ∧ DataW.trod enc P w base spare held n f0.type ((cs.drop f0.offset).take (P.cellsOf f0.type)) = some y0 ∧
      DataW.trod enc P w base spare held n f1.type ((cs.drop f1.offset).take (P.cellsOf f1.type)) = some y1 ∧ DataW.trod enc P w base spare held n f2.type ((cs.drop f2.offset).take (P.cellsOf f2.type)) = some y2 ∧
      DataW.trod enc P w base spare held n f3.type ((cs.drop f3.offset).take (P.cellsOf f3.type)) = some y3 ∧ DataW.trod enc P w base spare held n f4.type ((cs.drop f4.offset).take (P.cellsOf f4.type)) = some y4 := by
  obtain ⟨xs, n, _, rfl, hl, hlen, hf⟩ := DataW.trod_struct ht h
  match xs, hlen with
  | [y0, y1, y2, y3, y4], _ => exact ⟨y0, y1, y2, y3, y4, n, hl, by simpa using hf 0 f0 rfl, by simpa using hf 1 f1 rfl, by simpa using hf 2 f2 rfl, by simpa using hf 3 f3 rfl, by simpa using hf 4 f4 rfl⟩
section
variable {H : Type} {enc : TypeId × Value → H} {W : World} {base : Nat} {sp : Nat → Bool} {held : Bool} {n : Nat} {x : DataW H × List MemPlace}
theorem trod_ss {cs : List Value} (h : DataW.trod enc Try.prog W base sp held n 27 cs = some x) : ∃ (v : Value) (l : List ByteArray), cs = [v] ∧ Strs W v l ∧ l.length ≤ maxLen ∧ ∃ ao cap, v = .slice ao l.length cap ∧ l.length ≤ cap := by
  rcases Go.Deep.open_strs Try.underlying27 Try.underlying9 Try.cellsStr h with ⟨hcs, _⟩ | ⟨a, len, cap, m, S, hcs, _, hl, hm, hmm, _, hx⟩
  · exact ⟨_, [], hcs, Strs.nil, Nat.zero_le _, none, 0, rfl, Nat.le_refl _⟩
  · have hlm : len ≤ m := by rw [hmm]; split <;> omega
    refine ⟨_, (List.range len).map S, hcs, ⟨some a, cap, by simp, fun hne => ?_⟩, by simp; omega, some a, cap, by simp, by simp; omega⟩
    have h0 : 0 < len := by
      rcases Nat.eq_zero_or_pos len with e | e
      · subst e; simp at hne
      · exact e
    obtain ⟨h10, _⟩ := hx 0 (by omega)
    obtain ⟨b, o, spot⟩ := a
    have hspot : spot = none := by simpa [Addr.add] using World.cell?_spot h10
    subst hspot
    refine ⟨b, o, rfl, fun k hk => ?_⟩
    simp only [List.length_map, List.length_range] at hk
    obtain ⟨h1, _⟩ := hx k (by omega)
    rw [addr_some] at h1
    rw [h1]
    simp
theorem trod_set {cs : List Value} (hl : cs.length = 4) (h : DataW.trod enc Try.prog W base sp held n 35 cs = some x) : ∃ s : S4, cs = [.int .u64 s.a, .int .u64 s.b, .int .u64 s.c, .int .u64 s.d] ∧ s.U := by
  obtain ⟨c0, c1, c2, c3, rfl⟩ := list4 cs hl
  obtain ⟨y0, y1, y2, y3, m, hx, hy0, hy1, hy2, hy3⟩ := trod_array4 Try.underlying35 Try.cellsWord h
  obtain ⟨x0, e0, rfl, w0⟩ := DataW.trod_int Try.underlying33 hy0
  obtain ⟨x1, e1, rfl, w1⟩ := DataW.trod_int Try.underlying33 hy1
  obtain ⟨x2, e2, rfl, w2⟩ := DataW.trod_int Try.underlying33 hy2
  obtain ⟨x3, e3, rfl, w3⟩ := DataW.trod_int Try.underlying33 hy3
  simp at e0 e1 e2 e3
  subst e0 e1 e2 e3
  exact ⟨⟨x0, x1, x2, x3⟩, rfl, ⟨u64_of_wf w0, u64_of_wf w1, u64_of_wf w2, u64_of_wf w3⟩⟩
theorem trod_ty {cs : List Value} (h : DataW.trod enc Try.prog W base sp held n 53 cs = some x) : ∃ (s : ByteArray) (v : Value) (l : List ByteArray) (b : Bool), cs = [.string s, v, .bool b] ∧ Strs W v l ∧ l.length ≤ maxLen := by
  obtain ⟨y0, y1, y2, m, _, hl, h0, h1, h2⟩ := Go.Deep.trod_struct3 Try.underlying53 h
  rw [Try.cellsTy] at hl
  obtain ⟨c0, c1, c2, rfl⟩ := list3 cs hl
  simp [Try.cellsStr, Try.cellsSS, Try.cellsBool] at h0 h1 h2
  obtain ⟨s, e0, _, _⟩ := DataW.trod_string Try.underlying9 h0
  obtain ⟨v, l, e1, b0, b1, _⟩ := trod_ss h1
  obtain ⟨b, e2, _⟩ := DataW.trod_bool Try.underlying4 h2
  simp at e0 e1 e2
  subst e0 e1 e2
  exact ⟨s, _, l, b, rfl, b0, b1⟩
theorem trod_at {cs : List Value} (h : DataW.trod enc Try.prog W base sp held n 65 cs = some x) : ∃ (s : ByteArray) (S : S4), cs = [.string s, .int .u64 S.a, .int .u64 S.b, .int .u64 S.c, .int .u64 S.d] ∧ S.U := by
  obtain ⟨y0, y1, m, hl, h0, h1⟩ := trod_struct2 Try.underlying65 h
  rw [Try.cellsAt] at hl
  obtain ⟨c0, c1, c2, c3, c4, rfl⟩ := list5 cs hl
  simp [Try.cellsStr, Try.cellsSet] at h0 h1
  obtain ⟨s, e0, _, _⟩ := DataW.trod_string Try.underlying9 h0
  obtain ⟨S, e1, hU⟩ := trod_set rfl h1
  simp at e0 e1
  subst e0
  obtain ⟨rfl, rfl, rfl, rfl⟩ := e1
  exact ⟨s, S, rfl, hU⟩
set_option maxRecDepth 100000 in
theorem trod_tys {cs : List Value} (h : DataW.trod enc Try.prog W base sp held n 22 cs = some x) : ∃ (v : Value) (L : List TyE), cs = [v] ∧ Tys W v L ∧ L.length ≤ maxLen ∧ ∀ k (h : k < L.length), L[k].2.length ≤ maxLen := by
  rcases Go.Deep.open_slice Try.underlying22 h with ⟨hcs, _⟩ | ⟨a, len, cap, m, k, D, Pl, hcs, _, hl, hm, hmm, _, hx⟩
  · exact ⟨_, [], hcs, ⟨none, 0, rfl, fun h => absurd rfl h⟩, Nat.zero_le _, fun k h => absurd h (by simp)⟩
  · have hlm : len ≤ m := by rw [hmm]; split <;> omega
    have each : ∀ i, i < len → ∃ t : TyE, ∃ b o, a = ⟨b, o, none⟩ ∧ b < W.heap.size ∧ W.cell? ⟨b, o + i * 3, none⟩ = some (.string t.1) ∧ (∃ va, W.cell? ⟨b, o + i * 3 + 1, none⟩ = some va ∧ Strs W va t.2) ∧ t.2.length ≤ maxLen := by
      intro i hi
      obtain ⟨cs', h1, h2⟩ := hx i (by omega)
      obtain ⟨u, v, l, bb, rfl, hv, hlen⟩ := trod_ty h2
      rw [Try.cellsTy] at h1
      obtain ⟨_, _, hcell⟩ := World.cells?_some h1
      obtain ⟨cs0, h10, h20⟩ := hx 0 (by omega)
      obtain ⟨u0, v0, l0, bb0, rfl, _, _⟩ := trod_ty h20
      rw [Try.cellsTy] at h10
      obtain ⟨_, _, hcell0⟩ := World.cells?_some h10
      obtain ⟨b, o, spot⟩ := a
      have g0 := hcell 0 (by omega)
      have g1 := hcell 1 (by omega)
      rw [Go.Deep.add_add] at g0 g1
      have hspot : spot = none := by
        have g : W.cell? (((⟨b, o, spot⟩ : Addr).add (0 * 3)).add 0) = some (.string u0) := by simpa using hcell0 0 (by omega)
        simpa [Addr.add] using World.cell?_spot g
      subst hspot
      rw [addr_some] at g0 g1
      have g0' : W.cell? ⟨b, o + i * 3, none⟩ = some (.string u) := by simpa using g0
      refine ⟨(u, l), b, o, rfl, ?_, g0', ⟨v, by simpa [Nat.add_assoc] using g1, hv⟩, hlen⟩
      rcases Nat.lt_or_ge b W.heap.size with h' | h'
      · exact h'
      · simp [World.cell?, Array.getElem?_eq_none h'] at g0'
    obtain ⟨V, hV⟩ := Go.Deep.choose_lt each
    refine ⟨_, (List.range len).map V, hcs, ⟨some a, cap, by simp, fun hne => ?_⟩, by simp; omega, fun i hi => ?_⟩
    · have h0 : 0 < len := by
        rcases Nat.eq_zero_or_pos len with e | e
        · subst e; simp at hne
        · exact e
      obtain ⟨b, o, rfl, hb, _⟩ := hV 0 h0
      refine ⟨b, o, rfl, hb, fun i hi => ?_⟩
      have hil : i < len := by simpa using hi
      obtain ⟨b', o', hbo, _, c0, c1, _⟩ := hV i hil
      cases hbo
      simp only [List.getElem_map, List.getElem_range]
      exact ⟨c0, c1⟩
    · have hil : i < len := by simpa using hi
      obtain ⟨b', o', hbo, _, c0, c1, c2⟩ := hV i hil
      simp only [List.getElem_map, List.getElem_range]
      exact c2
set_option maxRecDepth 100000 in
theorem trod_ats {cs : List Value} (h : DataW.trod enc Try.prog W base sp held n 23 cs = some x) : ∃ (v : Value) (L : List AtE), cs = [v] ∧ Ats W v L ∧ L.length ≤ maxLen := by
  rcases Go.Deep.open_slice Try.underlying23 h with ⟨hcs, _⟩ | ⟨a, len, cap, m, k, D, Pl, hcs, _, hl, hm, hmm, _, hx⟩
  · exact ⟨_, [], hcs, ⟨none, 0, rfl, fun h => absurd rfl h⟩, Nat.zero_le _⟩
  · have hlm : len ≤ m := by rw [hmm]; split <;> omega
    have each : ∀ i, i < len → ∃ t : AtE, ∃ b o, a = ⟨b, o, none⟩ ∧ b < W.heap.size ∧ W.cell? ⟨b, o + i * 5, none⟩ = some (.string t.1) ∧ W.cell? ⟨b, o + i * 5 + 1, none⟩ = some (.int .u64 t.2.a) ∧ W.cell? ⟨b, o + i * 5 + 1 + 1, none⟩ = some (.int .u64 t.2.b) ∧ W.cell? ⟨b, o + i * 5 + 1 + 2, none⟩ = some (.int .u64 t.2.c) ∧ W.cell? ⟨b, o + i * 5 + 1 + 3, none⟩ = some (.int .u64 t.2.d) := by
      intro i hi
      obtain ⟨cs', h1, h2⟩ := hx i (by omega)
      obtain ⟨u, S, rfl, hU⟩ := trod_at h2
      rw [Try.cellsAt] at h1
      obtain ⟨_, _, hcell⟩ := World.cells?_some h1
      obtain ⟨cs0, h10, h20⟩ := hx 0 (by omega)
      obtain ⟨u0, S0, rfl, _⟩ := trod_at h20
      rw [Try.cellsAt] at h10
      obtain ⟨_, _, hcell0⟩ := World.cells?_some h10
      obtain ⟨b, o, spot⟩ := a
      have g0 := hcell 0 (by omega)
      have g1 := hcell 1 (by omega)
      have g2 := hcell 2 (by omega)
      have g3 := hcell 3 (by omega)
      have g4 := hcell 4 (by omega)
      rw [Go.Deep.add_add] at g0 g1 g2 g3 g4
      have hspot : spot = none := by
        have g : W.cell? (((⟨b, o, spot⟩ : Addr).add (0 * 5)).add 0) = some (.string u0) := by simpa using hcell0 0 (by omega)
        simpa [Addr.add] using World.cell?_spot g
      subst hspot
      rw [addr_some] at g0 g1 g2 g3 g4
      have g0' : W.cell? ⟨b, o + i * 5, none⟩ = some (.string u) := by simpa using g0
      refine ⟨(u, S), b, o, rfl, ?_, g0', by simpa [Nat.add_assoc] using g1, by simpa [Nat.add_assoc] using g2, by simpa [Nat.add_assoc] using g3, by simpa [Nat.add_assoc] using g4⟩
      rcases Nat.lt_or_ge b W.heap.size with h' | h'
      · exact h'
      · simp [World.cell?, Array.getElem?_eq_none h'] at g0'
    obtain ⟨V, hV⟩ := Go.Deep.choose_lt each
    refine ⟨_, (List.range len).map V, hcs, ⟨some a, cap, by simp, fun hne => ?_⟩, by simp; omega⟩
    have h0 : 0 < len := by
      rcases Nat.eq_zero_or_pos len with e | e
      · subst e; simp at hne
      · exact e
    obtain ⟨b, o, rfl, hb, _⟩ := hV 0 h0
    refine ⟨b, o, rfl, hb, fun i hi => ?_⟩
    have hil : i < len := by simpa using hi
    obtain ⟨b', o', hbo, _, c0, c1, c2, c3, c4⟩ := hV i hil
    cases hbo
    simp only [List.getElem_map, List.getElem_range]
    exact ⟨c0, c1, c2, c3, c4⟩
end
section
variable {H : Type} {enc : TypeId × Value → H} {W : World} {base : Nat} {v : Value} {d : DataW H} {p : List MemPlace}
set_option maxRecDepth 100000 in
theorem open_env (hok : Value.okWide Try.prog W .any base 25 v) (h : DataW.Trod enc Try.prog W 0 (fun _ => true) true 25 v d p) :
    ∃ (vT vA : Value) (Ts : List TyE) (As : List AtE), v = .agg #[vT, vA] ∧ Tys W vT Ts ∧ Ats W vA As ∧ Ts.length ≤ maxLen ∧ As.length ≤ maxLen ∧ ∀ k (h : k < Ts.length), Ts[k].2.length ≤ maxLen := by
  obtain ⟨⟨cl⟩, rfl, hsz, _⟩ : ∃ cs, v = .agg cs ∧ cs.size = Try.prog.cellsOf 25 ∧ Row.okWide Try.prog W .any base 25 cs := by
    simpa [Value.okWide, Try.underlying25] using hok
  rw [Try.cellsEnv] at hsz
  obtain ⟨c0, c1, rfl⟩ := list2 cl hsz
  obtain ⟨fuel, hf⟩ := h
  obtain ⟨y0, y1, m, _, h0, h1⟩ := trod_struct2 Try.underlying25 hf
  simp [Value.cells, Try.cellsSTy, Try.cellsSAt] at h0 h1
  obtain ⟨v1, l, e0, b0, b1, b2⟩ := trod_tys h0
  obtain ⟨v2, l2, e1, b3, b4⟩ := trod_ats h1
  simp at e0 e1
  subst e0 e1
  exact ⟨_, _, l, l2, rfl, b0, b3, b1, b4, b2⟩
set_option maxRecDepth 100000 in
theorem open_ns (hok : Value.okWide Try.prog W .any base 29 v) (h : DataW.Trod enc Try.prog W 0 (fun _ => true) true 29 v d p) :
    ∃ (al no sf : Bool) (vN vE : Value) (N E : List ByteArray), v = .agg #[.bool al, .bool no, .bool sf, vN, vE] ∧ Strs W vN N ∧ Strs W vE E ∧ N.length ≤ maxLen ∧ E.length ≤ maxLen := by
  obtain ⟨⟨cl⟩, rfl, hsz, _⟩ : ∃ cs, v = .agg cs ∧ cs.size = Try.prog.cellsOf 29 ∧ Row.okWide Try.prog W .any base 29 cs := by
    simpa [Value.okWide, Try.underlying29] using hok
  rw [Try.cellsNS] at hsz
  obtain ⟨c0, c1, c2, c3, c4, rfl⟩ := list5 cl hsz
  obtain ⟨fuel, hf⟩ := h
  obtain ⟨y0, y1, y2, y3, y4, m, _, h0, h1, h2, h3, h4⟩ := trod_struct5 Try.underlying29 hf
  simp [Value.cells, Try.cellsBool, Try.cellsSS] at h0 h1 h2 h3 h4
  obtain ⟨a, e0, _⟩ := DataW.trod_bool Try.underlying4 h0
  obtain ⟨b, e1, _⟩ := DataW.trod_bool Try.underlying4 h1
  obtain ⟨c, e2, _⟩ := DataW.trod_bool Try.underlying4 h2
  obtain ⟨v1, l, e3, b0, b1, _⟩ := trod_ss h3
  obtain ⟨v2, l2, e4, b3, b4, _⟩ := trod_ss h4
  simp at e0 e1 e2 e3 e4
  subst e0 e1 e2 e3 e4
  exact ⟨a, b, c, _, _, l, l2, rfl, b0, b3, b1, b4⟩
set_option maxRecDepth 100000 in
theorem open_strl (hok : Value.okWide Try.prog W .any base 27 v) (h : DataW.Trod enc Try.prog W 0 (fun _ => true) true 27 v d p) :
    ∃ (ao : Option Addr) (cap : Nat) (l : List ByteArray), v = .slice ao l.length cap ∧ Strs W (.slice ao l.length cap) l ∧ l.length ≤ cap ∧ l.length ≤ maxLen := by
  obtain ⟨a0, len0, cap0, rfl⟩ := okWide_slice Try.underlying27 hok
  obtain ⟨fuel, hf⟩ := h
  obtain ⟨v1, l, e0, b0, b1, ao, cap, rfl, b2⟩ := trod_ss hf
  simp [Value.cells] at e0
  obtain ⟨rfl, e1, rfl⟩ := e0
  exact ⟨_, _, l, by rw [e1], b0, b2, b1⟩
set_option maxRecDepth 100000 in
theorem open_set (hok : Value.okWide Try.prog W .any base 35 v) (h : DataW.Trod enc Try.prog W 0 (fun _ => true) true 35 v d p) :
    ∃ s : S4, v = .agg #[.int .u64 s.a, .int .u64 s.b, .int .u64 s.c, .int .u64 s.d] ∧ s.U := by
  obtain ⟨⟨cl⟩, rfl, hsz, _⟩ : ∃ cs, v = .agg cs ∧ cs.size = Try.prog.cellsOf 35 ∧ Row.okWide Try.prog W .any base 35 cs := by
    simpa [Value.okWide, Try.underlying35] using hok
  rw [Try.cellsSet] at hsz
  obtain ⟨fuel, hf⟩ := h
  obtain ⟨s, e, hU⟩ := trod_set hsz hf
  subst e
  exact ⟨s, rfl, hU⟩
end
end Go.Proofs.Ytbkejoheefnmiaa
