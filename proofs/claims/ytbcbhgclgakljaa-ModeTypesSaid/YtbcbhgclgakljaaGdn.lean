/- What a policy and a list of numbers that are handed in are. -/
import Derived.Test.YtbcbhgclgakljaaGdm
import Derived.Test.YtbcbhgclgakljaaMdo
namespace Go.Proofs.Ytbcbhgclgakljaa
open Go.ChangeShapes Go.WideShapes Go.ChangeAt Go.RowKit
theorem Try.cells_pol : Try.prog.cellsOf 62 = 17 := by kernel_rfl
theorem Try.cells_int1 : Try.prog.cellsOf 3 = 1 := by kernel_rfl
theorem Try.bytes_int1 : Try.prog.bytesOf 3 = 8 := by kernel_rfl
theorem Try.cov_int1 : covB Try.prog 5 3 = true := by kernel_rfl
theorem list17 {α : Type} (l : List α) (h : l.length = 17) : ∃ v0 v1 v2 v3 v4 v5 v6 v7 v8 v9 v10 v11 v12 v13 v14 v15 v16, l = [v0, v1, v2, v3, v4, v5, v6, v7, v8, v9, v10, v11, v12, v13, v14, v15, v16] := by
  match l, h with
  | [v0, v1, v2, v3, v4, v5, v6, v7, v8, v9, v10, v11, v12, v13, v14, v15, v16], _ => exact ⟨v0, v1, v2, v3, v4, v5, v6, v7, v8, v9, v10, v11, v12, v13, v14, v15, v16, rfl⟩
section
variable {H : Type} {enc : TypeId × Value → H} {W : World} {base fuel : Nat} {v : Value} {d : DataW H} {p : List MemPlace}
set_option maxRecDepth 100000 in
theorem gIntsR (h : Good enc Try.prog W fuel 63 [v]) : ∃ L : List Int, Rows' RIn W v L := by
  obtain ⟨v1, n, xs, q, e, S, _, G⟩ := Good.sl Try.underlying63 Try.cells_int1 (by decide) Try.bytes_int1 Try.cov_int1 h
  obtain rfl : v = v1 := by simpa using e
  have each : ∀ i, i < n → ∃ x : Int, xs[i * 1]? = some (.int .i64 x) := by
    intro i hi
    obtain ⟨y0, h0, _⟩ := G i hi
    obtain ⟨x, e0, _⟩ := DataW.trod_int Try.underlying3 h0
    refine ⟨x, ?_⟩
    have h5 : ((xs.drop (i * 1)).take 1)[0]? = some (.int .i64 x) := by rw [e0]; rfl
    rw [List.getElem?_take, if_pos (by decide), List.getElem?_drop] at h5
    exact h5
  have : Inhabited Int := ⟨0⟩
  obtain ⟨V, hV⟩ := Go.Deep.choose_lt each
  refine ⟨(List.range n).map V, ?_⟩
  have hTl : ((List.range n).map V).length = n := by simp
  rcases S with ⟨h1, h2, _⟩ | ⟨a, c, h1, h2, _, _, h5, h6, _⟩
  · exact ⟨none, 0, by rw [hTl, h1, h2], by rw [hTl, h2]; exact Nat.le_refl _, fun hne => absurd (by rw [h2]; rfl) hne⟩
  · refine ⟨some a, c, by rw [hTl, h1], by rw [hTl]; exact h2, fun hne => ?_⟩
    have hz : 0 < n := by
      rcases Nat.eq_zero_or_pos n with e | e
      · subst e; exact absurd rfl hne
      · exact e
    obtain ⟨b, o, spot⟩ := a
    have g0 := h6 (0 * 1) _ (hV 0 hz)
    have hspot : spot = none := by simpa [Addr.add] using World.cell?_spot g0
    subst hspot
    have hadd : ∀ j, (⟨b, o, none⟩ : Addr).add j = ⟨b, o + j, none⟩ := fun j => by unfold Addr.add; split <;> simp_all
    have hbl := cell_block g0
    rw [add_block] at hbl
    refine ⟨b, o, rfl, hbl, fun i x hx k u hk => ?_⟩
    have hi : i < n := by rw [← hTl]; exact (List.getElem?_eq_some_iff.1 hx).1
    have hx2 : V i = x := by simpa [hi] using hx
    have hk0 : k = 0 ∧ u = .int .i64 x := by
      have hk2 : ([Value.int .i64 x] : List Value)[k]? = some u := hk
      cases k with
      | zero => exact ⟨rfl, by simpa using hk2.symm⟩
      | succ k => simp at hk2
    obtain ⟨rfl, rfl⟩ := hk0
    have k0 := hV i hi
    rw [hx2] at k0
    have h7 := h6 _ _ k0
    rw [hadd] at h7
    exact h7
set_option maxRecDepth 100000 in
theorem open_pol (hok : Value.okWide Try.prog W .any base 62 v) (h : DataW.Trod enc Try.prog W 0 (fun _ => true) true 62 v d p) (hw : (d.weights Try.prog 62).all (· ≤ reachBytes) = true) : ∃ fuel v0 v1 v2 v3 v4 v5 v6 v7 v8 v9 v10 v11 v12 v13 v14 v15 v16, v = .agg #[v0, v1, v2, v3, v4, v5, v6, v7, v8, v9, v10, v11, v12, v13, v14, v15, v16] ∧ Good enc Try.prog W fuel 62 [v0, v1, v2, v3, v4, v5, v6, v7, v8, v9, v10, v11, v12, v13, v14, v15, v16] := by
  obtain ⟨⟨cl⟩, rfl, hsz, _⟩ : ∃ cs, v = .agg cs ∧ cs.size = Try.prog.cellsOf 62 ∧ Row.okWide Try.prog W .any base 62 cs := by
    simpa [Value.okWide, Try.underlying62] using hok
  obtain ⟨fuel, hf⟩ := h
  have hl : cl.length = 17 := by rw [Try.cells_pol] at hsz; simpa using hsz
  obtain ⟨v0, v1, v2, v3, v4, v5, v6, v7, v8, v9, v10, v11, v12, v13, v14, v15, v16, rfl⟩ := list17 cl hl
  exact ⟨fuel, v0, v1, v2, v3, v4, v5, v6, v7, v8, v9, v10, v11, v12, v13, v14, v15, v16, rfl, ⟨_, hf, hw⟩⟩
set_option maxRecDepth 100000 in
theorem open_intsR (hok : Value.okWide Try.prog W .any base 63 v) (h : DataW.Trod enc Try.prog W 0 (fun _ => true) true 63 v d p) (hw : (d.weights Try.prog 63).all (· ≤ reachBytes) = true) : ∃ (al : Option Addr) (m cl : Nat) (L : List Int), v = .slice al m cl ∧ Rows' RIn W v L := by
  obtain ⟨a, len, cap, rfl⟩ := okWide_slice Try.underlying63 hok
  obtain ⟨fuel, hf⟩ := h
  obtain ⟨L, hL⟩ := gIntsR (enc := enc) (fuel := fuel) (v := .slice a len cap) ⟨_, hf, hw⟩
  exact ⟨a, len, cap, L, rfl, hL⟩
set_option maxRecDepth 100000 in
set_option maxHeartbeats 4000000 in
theorem lawTypes_c {v0 v1 v2 v3 v4 v5 v6 v7 v8 v9 v10 v11 v12 v13 v14 v15 v16 : Value} {al : Option Addr} {m cl : Nat} {L : List Int} (h : Good enc Try.prog W fuel 62 [v0, v1, v2, v3, v4, v5, v6, v7, v8, v9, v10, v11, v12, v13, v14, v15, v16]) (hi : Rows' RIn W (.slice al m cl) L) :
    Calls Try.prog 5 #[.agg #[v0, v1, v2, v3, v4, v5, v6, v7, v8, v9, v10, v11, v12, v13, v14, v15, v16], .slice al m cl] W fun e w' => e = .returned (.bool true) ∧ Below W.heap.size W w' := by
  obtain ⟨n0, n2, n3, n4, n5, n6, n7, n8, n9, n10, n11, n12, n13, n14, n15, n16, T, h⟩ := polIn h
  obtain ⟨a0, c0, rfl⟩ := h.s0
  obtain ⟨a2, c2, rfl⟩ := h.s2
  obtain ⟨a3, c3, rfl⟩ := h.s3
  obtain ⟨a4, c4, rfl⟩ := h.s4
  obtain ⟨a5, c5, rfl⟩ := h.s5
  obtain ⟨a6, c6, rfl⟩ := h.s6
  obtain ⟨a7, c7, rfl⟩ := h.s7
  obtain ⟨a8, c8, rfl⟩ := h.s8
  obtain ⟨a9, c9, rfl⟩ := h.s9
  obtain ⟨a10, c10, rfl⟩ := h.s10
  obtain ⟨a11, c11, rfl⟩ := h.s11
  obtain ⟨a12, c12, rfl⟩ := h.s12
  obtain ⟨a13, c13, rfl⟩ := h.s13
  obtain ⟨a14, c14, rfl⟩ := h.s14
  obtain ⟨a15, c15, rfl⟩ := h.s15
  obtain ⟨a16, c16, rfl⟩ := h.s16
  obtain ⟨a1, c1, rfl, _, _⟩ := id h.t
  exact lawTypes_n h rfl hi
end
end Go.Proofs.Ytbcbhgclgakljaa
