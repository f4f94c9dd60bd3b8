/- A bucket stored into a row of the call's own. -/
import Derived.Test.YtcainohglmgdpaaRvf
namespace Go.Proofs.Ytcainohglmgdpaa
open Go.RowKit Go.Maps Go.WideElems Go.WideMaps Go.WideShapes Go.Sort Go.Shelf
section
variable {w w' : World} {g m B : Nat} {S : RS} {a : Option Addr} {n c : Nat} {e : Int}
theorem own_mk {α : Type} {R : RowT α} {L : List α} {cap : Nat} {cur : Array Value} (hB : B ≤ g) (hg : Blk w g R.te cur) (hl : L.length ≤ cap) (hm : cap ≤ maxLen) (hs : cur.size = cap * R.sz)
    (hc : ∀ i x, L[i]? = some x → ∀ k, k < R.sz → cur[i * R.sz + k]? = (R.c x)[k]?) : Own R w B (.slice (some ⟨g, 0, none⟩) L.length cap) L := by
  refine ⟨fmR_len R L, .inr ⟨g, cap, cur, rfl, hB, hg, hl, hm, hs, ?_⟩⟩
  apply List.ext_getElem?
  intro j
  rw [List.getElem?_take]
  by_cases hj : j < L.length * R.sz
  · rw [if_pos hj]
    have hq : j / R.sz < L.length := (Nat.div_lt_iff_lt_mul R.pos).2 hj
    have h1 := hc (j / R.sz) _ (List.getElem?_eq_getElem hq) (j % R.sz) (Nat.mod_lt _ R.pos)
    have h2 := fmR_get R L (j / R.sz) (j % R.sz) _ (List.getElem?_eq_getElem hq) (Nat.mod_lt _ R.pos)
    rw [Nat.div_add_mod' j R.sz] at h1 h2
    rw [h2, ← h1]
    simp
  · rw [if_neg hj, List.getElem?_eq_none (by rw [fmR_len]; omega)]
theorem own_set4 {L : List Bk} {i : Nat} (y : Bk) (h : Own RBk w B (.slice (some ⟨g, 0, none⟩) n c) L) (hi : i < L.length) :
    Own RBk ((((w.setCell ⟨g, i * 4, none⟩ (.string y.k)).setCell ⟨g, i * 4 + 1, none⟩ (.int .i64 y.l)).setCell ⟨g, i * 4 + 2, none⟩ (.int .i64 y.c)).setCell ⟨g, i * 4 + 3, none⟩ (.int .i64 y.d)) B (.slice (some ⟨g, 0, none⟩) n c) (L.set i y) ∧
    Apart (fun k => k = g) w ((((w.setCell ⟨g, i * 4, none⟩ (.string y.k)).setCell ⟨g, i * 4 + 1, none⟩ (.int .i64 y.l)).setCell ⟨g, i * 4 + 2, none⟩ (.int .i64 y.c)).setCell ⟨g, i * 4 + 3, none⟩ (.int .i64 y.d)) ∧ B ≤ g := by
  rcases h.form with ⟨e1, _⟩ | ⟨g', cap, cur, e1, hB, hg, hl, hm, hs, hc⟩
  · cases e1
  · simp only [Value.slice.injEq, Option.some.injEq, Addr.mk.injEq] at e1
    obtain ⟨⟨rfl, _⟩, rfl, rfl⟩ := e1
    have hg : Blk w g 71 cur := hg
    refine ⟨?_, ?_, hB⟩
    · have hb := (((hg.set (i * 4) (.string y.k)).set (i * 4 + 1) (.int .i64 y.l)).set (i * 4 + 2) (.int .i64 y.c)).set (i * 4 + 3) (.int .i64 y.d)
      have hsz : i * 4 + 3 < cur.size := by rw [hs]; show i * 4 + 3 < c * 4; omega
      have := own_mk (R := RBk) (L := L.set i y) (cap := c) hB hb (by rw [List.length_set]; exact hl) hm (by simpa using hs) (fun q z hz k hk => by
        have hk : k < 4 := hk
        show _ = (cellsB z)[k]?
        rw [show RBk.sz = 4 from rfl]
        by_cases hq : q = i
        · subst hq
          have hz : y = z := by
            rw [List.getElem?_set_self (by simpa using hi)] at hz
            exact Option.some.inj hz
          subst hz
          rcases (by omega : k = 0 ∨ k = 1 ∨ k = 2 ∨ k = 3) with rfl | rfl | rfl | rfl <;> simp [Array.getElem?_setIfInBounds, cellsB] <;> omega
        · rw [List.getElem?_set_ne (by omega)] at hz
          have h0 := hc q z hz k hk
          rw [show RBk.sz = 4 from rfl] at h0
          have h1 : i * 4 + 3 ≠ q * 4 + k := by omega
          have h2 : i * 4 + 2 ≠ q * 4 + k := by omega
          have h3 : i * 4 + 1 ≠ q * 4 + k := by omega
          have h4 : i * 4 ≠ q * 4 + k := by omega
          rw [Array.getElem?_setIfInBounds_ne h1, Array.getElem?_setIfInBounds_ne h2, Array.getElem?_setIfInBounds_ne h3, Array.getElem?_setIfInBounds_ne h4]
          exact h0)
      rw [List.length_set] at this
      exact this
    · exact (((Apart.setCell (F := fun k => k = g) (p := ⟨g, i * 4, none⟩) Apart.refl (.inl rfl) _).setCell (p := ⟨g, i * 4 + 1, none⟩) (.inl rfl) _).setCell (p := ⟨g, i * 4 + 2, none⟩) (.inl rfl) _).setCell (p := ⟨g, i * 4 + 3, none⟩) (.inl rfl) _
end
end Go.Proofs.Ytcainohglmgdpaa
