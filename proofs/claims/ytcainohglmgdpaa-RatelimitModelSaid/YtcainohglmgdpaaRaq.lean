/- Rows of events that are handed in; cases. -/
import Derived.Test.YtcainohglmgdpaaRae
import Derived.Test.YtcainohglmgdpaaRap
namespace Go.Proofs.Ytcainohglmgdpaa
open Go.ChangeShapes Go.WideShapes Go.ChangeAt Go.RowKit
structure Ev where
  k : ByteArray
  n : Int
instance : Inhabited Ev := ⟨⟨ByteArray.empty, 0⟩⟩
def W64 (z : Int) : Prop := -9223372036854775808 ≤ z ∧ z ≤ 9223372036854775807
theorem w64_of {z : Int} (h : (Lit.int .i64 z).wf = true) : W64 z := by
  have h : (decide (-9223372036854775808 ≤ z) && decide (z ≤ 9223372036854775807)) = true := h
  rw [Bool.and_eq_true, decide_eq_true_eq, decide_eq_true_eq] at h
  exact h
def cellsE (x : Ev) : List Value := [.string x.k, .int .i64 x.n]
def REv : RowT Ev := ⟨41, 22, cellsE, 2, 24, .agg #[.string ⟨#[]⟩, .int .i64 0], fun _ => rfl, by decide, (by intro x u hu; simp only [cellsE, List.mem_cons, List.not_mem_nil, or_false] at hu; rcases hu with rfl | rfl <;> rfl), Try.underlying22, by kernel_rfl, rfl, by decide⟩
def RIn : RowT Int := ⟨3, 37, fun x => [.int .i64 x], 1, 8, .int .i64 0, fun _ => rfl, by decide, (by intro x u hu; simp only [List.mem_cons, List.not_mem_nil, or_false] at hu; subst hu; rfl), Try.underlying37, by kernel_rfl, rfl, by decide⟩
theorem Try.cells_int1 : Try.prog.cellsOf 3 = 1 := by kernel_rfl
theorem Try.cells_str1 : Try.prog.cellsOf 9 = 1 := by kernel_rfl
theorem Try.cells_evs1 : Try.prog.cellsOf 22 = 1 := by kernel_rfl
section
variable {H : Type} {enc : TypeId × Value → H} {W : World} {base fuel : Nat} {v : Value} {d : DataW H} {p : List MemPlace}
/-- a slice that is handed in is a row, if its elements are -/
theorem rows_good {α : Type} [Inhabited α] (R : RowT α) {P : α → Prop} (hsz : Try.prog.cellsOf R.te = R.sz) (hb : Try.prog.bytesOf R.te = R.by') (hc : covB Try.prog 5 R.te = true)
    (dec : ∀ k cs, Good enc Try.prog W k R.te cs → ∃ x, cs = R.c x ∧ P x) (h : Good enc Try.prog W fuel R.ts [v]) : ∃ L : List α, Rows' R W v L ∧ ∀ x ∈ L, P x := by
  obtain ⟨v1, n, xs, q, e, S, _, G⟩ := Good.sl R.und hsz R.pos hb hc h
  obtain rfl : v = v1 := by simpa using e
  have each : ∀ i, i < n → ∃ x : α, (xs.drop (i * R.sz)).take R.sz = R.c x ∧ P x := fun i hi => dec q _ (G i hi)
  obtain ⟨V, hV⟩ := Go.Deep.choose_lt each
  refine ⟨(List.range n).map V, ?_, fun x hx => by
    obtain ⟨i, hi, rfl⟩ := List.mem_map.1 hx
    exact (hV i (List.mem_range.1 hi)).2⟩
  have hTl : ((List.range n).map V).length = n := by simp
  have hat : ∀ i, i < n → ∀ k u, (R.c (V i))[k]? = some u → xs[i * R.sz + k]? = some u := fun i hi k u hk => by
    rw [← (hV i hi).1, List.getElem?_take] at hk
    split at hk
    · rw [List.getElem?_drop] at hk; exact hk
    · cases hk
  rcases S with ⟨h1, h2, _⟩ | ⟨a, c, h1, h2, _, _, h5, h6, _⟩
  · exact ⟨none, 0, by rw [hTl, h1, h2], by rw [hTl, h2]; exact Nat.le_refl _, fun hne => absurd (by rw [h2]; rfl) hne⟩
  · refine ⟨some a, c, by rw [hTl, h1], by rw [hTl]; exact h2, fun hne => ?_⟩
    have hz : 0 < n := by
      rcases Nat.eq_zero_or_pos n with e | e
      · subst e; exact absurd rfl hne
      · exact e
    obtain ⟨b, o, spot⟩ := a
    have hp := R.pos
    obtain ⟨u0, hu0⟩ : ∃ u, (R.c (V 0))[0]? = some u := ⟨_, List.getElem?_eq_getElem (by rw [R.len]; exact hp)⟩
    have g0 := h6 _ _ (hat 0 hz 0 u0 hu0)
    have hspot : spot = none := by simpa [Addr.add] using World.cell?_spot g0
    subst hspot
    have hadd : ∀ j, (⟨b, o, none⟩ : Addr).add j = ⟨b, o + j, none⟩ := fun j => by unfold Addr.add; split <;> simp_all
    have hbl := cell_block g0
    rw [add_block] at hbl
    refine ⟨b, o, rfl, hbl, fun i x hx k u hk => ?_⟩
    have hi : i < n := by rw [← hTl]; exact (List.getElem?_eq_some_iff.1 hx).1
    have hx2 : V i = x := by simpa [hi] using hx
    rw [← hx2] at hk
    have h7 := h6 _ _ (hat i hi k u hk)
    rw [hadd, ← Nat.add_assoc] at h7
    exact h7
set_option maxRecDepth 100000 in
theorem dec_int (k : Nat) (cs : List Value) (h : Good enc Try.prog W k 3 cs) : ∃ x, cs = RIn.c x ∧ W64 x := by
  obtain ⟨y0, h0, _⟩ := h
  obtain ⟨x, rfl, _, hw⟩ := DataW.trod_int Try.underlying3 h0
  exact ⟨x, rfl, w64_of hw⟩
set_option maxRecDepth 100000 in
theorem dec_ev (k : Nat) (cs : List Value) (h : Good enc Try.prog W k 41 cs) : ∃ x, cs = REv.c x ∧ (x.k.size ≤ maxLen ∧ W64 x.n) := by
  obtain ⟨k0, _, h0, hl⟩ := h.fld Try.underlying41 (i := 0) rfl
  obtain ⟨k1, _, h1, _⟩ := h.fld Try.underlying41 (i := 1) rfl
  have hl : cs.length = 2 := hl
  match cs, hl with
  | [v0, v1], _ =>
    replace h0 : Good enc Try.prog W k0 9 [v0] := h0
    replace h1 : Good enc Try.prog W k1 3 [v1] := h1
    obtain ⟨y0, h0, _⟩ := h0
    obtain ⟨s, e0, _, hs⟩ := DataW.trod_string Try.underlying9 h0
    obtain ⟨y1, h1, _⟩ := h1
    obtain ⟨n, e1, _, hw⟩ := DataW.trod_int Try.underlying3 h1
    simp only [List.cons.injEq, and_true] at e0 e1
    subst e0 e1
    exact ⟨⟨s, n⟩, rfl, hs, w64_of hw⟩
def OkE (L : List Ev) : Prop := ∀ x ∈ L, x.k.size ≤ maxLen ∧ W64 x.n
set_option maxRecDepth 100000 in
theorem open_ints (hok : Value.okWide Try.prog W .any base 37 v) (h : DataW.Trod enc Try.prog W 0 (fun _ => true) true 37 v d p) (hw : (d.weights Try.prog 37).all (· ≤ reachBytes) = true) : ∃ (al : Option Addr) (m cl : Nat) (L : List Int), v = .slice al m cl ∧ Rows' RIn W v L ∧ ∀ x ∈ L, W64 x := by
  obtain ⟨a, len, cap, rfl⟩ := okWide_slice Try.underlying37 hok
  obtain ⟨fuel, hf⟩ := h
  obtain ⟨L, hL, hP⟩ := rows_good (enc := enc) (fuel := fuel) (v := .slice a len cap) RIn (by kernel_rfl) (by kernel_rfl) (by kernel_rfl) dec_int ⟨_, hf, hw⟩
  exact ⟨a, len, cap, L, rfl, hL, hP⟩
set_option maxRecDepth 100000 in
theorem open_case (hok : Value.okWide Try.prog W .any base 24 v) (h : DataW.Trod enc Try.prog W 0 (fun _ => true) true 24 v d p) (hw : (d.weights Try.prog 24).all (· ≤ reachBytes) = true) :
    ∃ (b i n : Int) (a1 : Option Addr) (n1 c1 : Nat) (a2 : Option Addr) (n2 c2 : Nat) (L M : List Ev), v = .agg #[.int .i64 b, .int .i64 i, .int .i64 n, .slice a1 n1 c1, .slice a2 n2 c2] ∧ Rows' REv W (.slice a1 n1 c1) L ∧ Rows' REv W (.slice a2 n2 c2) M ∧ OkE L ∧ OkE M := by
  obtain ⟨⟨cl⟩, rfl, hsz, _⟩ : ∃ cs, v = .agg cs ∧ cs.size = Try.prog.cellsOf 24 ∧ Row.okWide Try.prog W .any base 24 cs := by
    simpa [Value.okWide, Try.underlying24] using hok
  obtain ⟨fuel, hf⟩ := h
  have hl : cl.length = 5 := by rw [show Try.prog.cellsOf 24 = 5 by kernel_rfl] at hsz; simpa using hsz
  match cl, hl with
  | [v0, v1, v2, v3, v4], _ =>
    have G : Good enc Try.prog W fuel 24 [v0, v1, v2, v3, v4] := ⟨_, hf, hw⟩
    obtain ⟨k0, _, h0, _⟩ := G.fld Try.underlying24 (i := 0) rfl
    obtain ⟨k1, _, h1, _⟩ := G.fld Try.underlying24 (i := 1) rfl
    obtain ⟨k2, _, h2, _⟩ := G.fld Try.underlying24 (i := 2) rfl
    obtain ⟨k3, _, h3, _⟩ := G.fld Try.underlying24 (i := 3) rfl
    obtain ⟨k4, _, h4, _⟩ := G.fld Try.underlying24 (i := 4) rfl
    have h0 : Good enc Try.prog W k0 3 [v0] := h0
    have h1 : Good enc Try.prog W k1 3 [v1] := h1
    have h2 : Good enc Try.prog W k2 3 [v2] := h2
    have h3 : Good enc Try.prog W k3 22 [v3] := h3
    have h4 : Good enc Try.prog W k4 22 [v4] := h4
    obtain ⟨b, e0, _⟩ := dec_int k0 _ h0
    obtain ⟨i, e1, _⟩ := dec_int k1 _ h1
    obtain ⟨n, e2, _⟩ := dec_int k2 _ h2
    have e0 : [v0] = [Value.int .i64 b] := e0
    have e1 : [v1] = [Value.int .i64 i] := e1
    have e2 : [v2] = [Value.int .i64 n] := e2
    simp only [List.cons.injEq, and_true] at e0 e1 e2
    subst e0 e1 e2
    obtain ⟨L, hL, hPL⟩ := rows_good REv (by kernel_rfl) (by kernel_rfl) (by kernel_rfl) dec_ev h3
    obtain ⟨M, hM, hPM⟩ := rows_good REv (by kernel_rfl) (by kernel_rfl) (by kernel_rfl) dec_ev h4
    obtain ⟨a1, c1, rfl, _⟩ := rows_at hL
    obtain ⟨a2, c2, rfl, _⟩ := rows_at hM
    exact ⟨b, i, n, a1, _, c1, a2, _, c2, L, M, rfl, hL, hM, hPL, hPM⟩
end
end Go.Proofs.Ytcainohglmgdpaa
