/- Entries in a row that a call owns: appending, joining. -/
import Derived.Test.YtomoldfgnbjliaaAvc
namespace Go.Proofs.Ytomoldfgnbjliaa
open Go.RowKit Go.Sort
def OwnE (w : World) (B : Nat) (v : Value) (L : List E) : Prop := w.ownsRow B 39 7 v L.length (L.flatMap cellsE)
theorem fm_len (L : List E) : (L.flatMap cellsE).length = L.length * 7 := by
  induction L with
  | nil => rfl
  | cons x r ih => rw [List.flatMap_cons, List.length_append, ih, cellsE_len, List.length_cons]; omega
theorem fm_get : ∀ (L : List E) (i k : Nat) (x : E), L[i]? = some x → k < 7 → (L.flatMap cellsE)[i * 7 + k]? = (cellsE x)[k]?
  | [], i, k, x, h, _ => by simp at h
  | y :: r, 0, k, x, h, hk => by
    obtain rfl : y = x := by simpa using h
    rw [List.flatMap_cons, List.getElem?_append_left (by rw [cellsE_len]; omega)]
    congr 1; omega
  | y :: r, i + 1, k, x, h, hk => by
    have h' : r[i]? = some x := by simpa using h
    rw [List.flatMap_cons, List.getElem?_append_right (by rw [cellsE_len]; omega), cellsE_len, show (i + 1) * 7 + k - 7 = i * 7 + k by omega]
    exact fm_get r i k x h' hk
theorem fm_of (L : List E) (j : Nat) (u : Value) (h : (L.flatMap cellsE)[j]? = some u) : ∃ x, L[j / 7]? = some x ∧ (cellsE x)[j % 7]? = some u := by
  have hj : j < L.length * 7 := by
    rw [← fm_len]
    exact (List.getElem?_eq_some_iff.1 h).1
  have hi : j / 7 < L.length := by omega
  refine ⟨L[j / 7], List.getElem?_eq_getElem hi, ?_⟩
  rw [← fm_get L (j / 7) (j % 7) _ (List.getElem?_eq_getElem hi) (by omega), show j / 7 * 7 + j % 7 = j by omega]
  exact h
theorem OwnE.nil (w : World) (B : Nat) : OwnE w B (.slice none 0 0) [] := World.ownsRow_nil _ _ _ _
/-- what a row of its own looks like -/
theorem OwnE.form {w : World} {B : Nat} {v : Value} {L : List E} (h : OwnE w B v L) :
    (v = .slice none 0 0 ∧ L = []) ∨ ∃ g cap cur, v = .slice (some ⟨g, 0, none⟩) L.length cap ∧ B ≤ g ∧ w.heap[g]? = some (.cells cur 39 (0, 0)) ∧ L.length ≤ cap ∧ cap ≤ maxLen ∧ cur.size = cap * 7 ∧ ∀ i x, L[i]? = some x → ∀ k, k < 7 → cur[i * 7 + k]? = (cellsE x)[k]? := by
  rcases h.2 with ⟨h1, h2⟩ | ⟨g, cap, cur, h1, h2, h3, h4, h5, h6, h7⟩
  · exact .inl ⟨h1, List.eq_nil_of_length_eq_zero h2⟩
  · refine .inr ⟨g, cap, cur, h1, h2, h3, h4, h5, h6, fun i x hx k hk => ?_⟩
    rw [← fm_get L i k x hx hk, ← h7, List.getElem?_take]
    have : i < L.length := (List.getElem?_eq_some_iff.1 hx).1
    rw [if_pos (by omega)]
    simp
theorem OwnE.mk {w : World} {B g cap : Nat} {cur : Array Value} {L : List E} (hB : B ≤ g) (hg : w.heap[g]? = some (.cells cur 39 (0, 0))) (h4 : L.length ≤ cap) (h5 : cap ≤ maxLen) (h6 : cur.size = cap * 7)
    (h : ∀ i x, L[i]? = some x → ∀ k, k < 7 → cur[i * 7 + k]? = (cellsE x)[k]?) : OwnE w B (.slice (some ⟨g, 0, none⟩) L.length cap) L := by
  refine ⟨fm_len L, .inr ⟨g, cap, cur, rfl, hB, hg, h4, h5, h6, ?_⟩⟩
  apply List.ext_getElem?
  intro j
  rw [List.getElem?_take]
  split
  · rename_i hj
    have hi : j / 7 < L.length := by omega
    have h1 := h (j / 7) L[j / 7] (List.getElem?_eq_getElem hi) (j % 7) (by omega)
    have h2 := fm_get L (j / 7) (j % 7) L[j / 7] (List.getElem?_eq_getElem hi) (by omega)
    rw [show j / 7 * 7 + j % 7 = j by omega] at h1 h2
    rw [h2, ← h1]
    simp
  · rename_i hj
    rw [List.getElem?_eq_none (by rw [fm_len]; omega)]
theorem cells_get {x : E} : (cellsE x)[0]? = some (.int .i64 x.s) ∧ (cellsE x)[1]? = some (.int .i64 x.t) ∧ (cellsE x)[2]? = some (.int .i64 x.c) ∧ (cellsE x)[3]? = some (.int .i64 x.d) ∧
    (cellsE x)[4]? = some (.int .u32 (vI x.a)) ∧ (cellsE x)[5]? = some (.int .u32 (vI x.b)) ∧ (cellsE x)[6]? = some (.int .u32 (vI x.e)) := ⟨rfl, rfl, rfl, rfl, rfl, rfl, rfl⟩
theorem at7_of {w : World} {g o : Nat} {x : E} (h : ∀ k, k < 7 → w.cell? ⟨g, o + k, none⟩ = (cellsE x)[k]?) : At7 w g o x :=
  ⟨h 0 (by decide), h 1 (by decide), h 2 (by decide), h 3 (by decide), h 4 (by decide), h 5 (by decide), h 6 (by decide)⟩
theorem OwnE.ents {w : World} {B : Nat} {v : Value} {L : List E} (h : OwnE w B v L) : Ents w v L := by
  rcases h.form with ⟨rfl, rfl⟩ | ⟨g, cap, cur, rfl, _, hg, h4, _, _, h7⟩
  · exact Ents.nil
  · refine ⟨_, cap, rfl, h4, fun _ => ⟨g, 0, rfl, fun i x hx => at7_of fun k hk => ?_⟩⟩
    rw [cell_of_row w g _ cur _ (0, 0) hg, Nat.zero_add]
    exact h7 i x hx k hk
theorem OwnE.isSl {w : World} {B : Nat} {v : Value} {L : List E} (h : OwnE w B v L) : ∃ ao cap, v = .slice ao L.length cap := by
  rcases h.form with ⟨rfl, rfl⟩ | ⟨g, cap, cur, rfl, _⟩
  · exact ⟨_, _, rfl⟩
  · exact ⟨_, _, rfl⟩
theorem OwnE.kept {w w' : World} {B : Nat} {v : Value} {L : List E} {row : Option Nat} (h : OwnE w B v L) (hg : w.grownBy w' row) (hne : v.ownBlock = none ∨ v.ownBlock ≠ row) : OwnE w' B v L := World.ownsRow.kept h hg hne
theorem OwnE.below {w w' : World} {B : Nat} {v : Value} {L : List E} (h : OwnE w B v L) (hb : Below w.heap.size w w') : OwnE w' B v L :=
  World.ownsRow.kept (row := none) h ⟨hb.os, hb.tape, hb.output, hb.size, fun k hk _ => hb.block k hk⟩ (by cases v.ownBlock <;> simp)
theorem OwnE.base {w : World} {B B' : Nat} {v : Value} {L : List E} (h : OwnE w B v L) (hb : B' ≤ B) : OwnE w B' v L := by
  refine ⟨h.1, ?_⟩
  rcases h.2 with hn | ⟨g, cap, cur, hv, hbg, rest⟩
  · exact .inl hn
  · exact .inr ⟨g, cap, cur, hv, Nat.le_trans hb hbg, rest⟩
theorem infoE : (Try.prog.info? 39).map (fun i => (i.zero, i.size, i.bytes)) = some (some (.agg #[.int .i64 0, .int .i64 0, .int .i64 0, .int .i64 0, .int .u32 0, .int .u32 0, .int .u32 0]), 7, 48) := by kernel_rfl
/-- appending an entry -/
theorem wpList_append_E {w : World} {ops : Array Oper} {rest : List Oper} {o : Oper} {a : Act} {Q : Exit → Act → World → Prop} (hgd : o.guard = none) (s x : Operand)
    (ho : o.op = .call { callee := .builtin .append, args := #[s, x], argTypes := #[22, 22] }) (B : Nat) (v : Value) (L : List E) (N : Nat) (hN : L.length = N) (hs : a.eval s = v) (hown : OwnE w B v L)
    (g : Nat) (y : E) (hx : a.eval x = .slice (some ⟨g, 0, none⟩) 1 1) (hy : Box w g y) (hl : N ≤ 1000000) (hb : B ≤ w.heap.size)
    (h : ∀ g' cap w', OwnE w' B (.slice (some ⟨g', 0, none⟩) (N + 1) cap) (L ++ [y]) → w.grownBy w' v.ownBlock → (v.ownBlock = some g' ∨ g' = w.heap.size) → wpList Try.prog ops Q rest (a.put o.dst (.slice (some ⟨g', 0, none⟩) (N + 1) cap)) w') :
    wpList Try.prog ops Q (o :: rest) a w := by
  subst hN
  obtain ⟨i0, hinf, hz0, hz1, hz2⟩ := info_parts infoE
  refine wpList_append_lies w hgd s x 22 ho B 39 i0 _ 7 48 Try.underlying22 hinf hz0 hz1 hz2 rfl (by decide) v L.length (L.flatMap cellsE) hs hown ⟨g, 0, none⟩ 1 1 (cellsE y) hx rfl
    (World.news_of_block hy) (cellsE_one y) (by decide) (by unfold maxLen; omega) (by omega) hb _ rfl ?_
  intro g' cap w' h1 h2 h3 _
  refine h g' cap w' ?_ h2 h3
  unfold OwnE
  rw [List.length_append, List.flatMap_append]
  simpa using h1
/-- a cell of the last entry is written -/
theorem OwnE.set1 {w : World} {B g n cap : Nat} {m : List E} {y z : E} (k : Nat) (u : Value) (hk : k < 7) (hz : ∀ j, j < 7 → (cellsE z)[j]? = if j = k then some u else (cellsE y)[j]?) (hm : m.length = n) (h : OwnE w B (.slice (some ⟨g, 0, none⟩) (n + 1) cap) (m ++ [y])) :
    OwnE (w.setCell ⟨g, n * 7 + k, none⟩ u) B (.slice (some ⟨g, 0, none⟩) (n + 1) cap) (m ++ [z]) := by
  rcases h.form with ⟨h1, _⟩ | ⟨g', cap', cur, h1, hB, hg, h4, h5, h6, h7⟩
  · simp at h1
  · obtain ⟨rfl, -, rfl⟩ : g = g' ∧ n + 1 = (m ++ [y]).length ∧ cap = cap' := by simpa using h1
    have hl : (m ++ [z]).length = n + 1 := by simp [hm]
    have hl' : (m ++ [y]).length = n + 1 := by simp [hm]
    have hb := Blk.set (show Blk w g _ cur from hg) (n * 7 + k) u
    rw [hl'] at h4
    rw [← hl]
    refine OwnE.mk hB hb (by rw [hl]; exact h4) h5 (by simp [h6]) fun i x hx j hj => ?_
    have hi : i < n + 1 := by rw [← hl]; exact (List.getElem?_eq_some_iff.1 hx).1
    rcases Nat.lt_or_ge i n with hin | hin
    · rw [List.getElem?_append_left (by omega)] at hx
      have := h7 i x (by rw [List.getElem?_append_left (by omega)]; exact hx) j hj
      rw [Array.getElem?_setIfInBounds_ne (by omega)]
      exact this
    · obtain rfl : i = n := by omega
      have e : z = x := by
        rw [List.getElem?_append_right (by omega)] at hx
        simpa [hm] using hx
      subst e
      have h0 := h7 i y (by rw [List.getElem?_append_right (by omega)]; simp [hm]) j hj
      rw [hz j hj]
      split
      · rename_i e
        subst e
        rw [Array.getElem?_setIfInBounds_self_of_lt (by omega)]
      · rw [Array.getElem?_setIfInBounds_ne (by omega)]
        exact h0
theorem OwnE.last {w : World} {B g n cap : Nat} {m : List E} {y : E} (hm : m.length = n) (h : OwnE w B (.slice (some ⟨g, 0, none⟩) (n + 1) cap) (m ++ [y])) :
    At7 w g (n * 7) y ∧ (∀ k, w.frozen? ⟨g, k, none⟩ = false) ∧ g < w.heap.size ∧ n + 1 ≤ cap ∧ B ≤ g ∧ cap ≤ maxLen := by
  rcases h.form with ⟨h1, _⟩ | ⟨g', cap', cur, h1, hB, hg, h4, h5, h6, h7⟩
  · simp at h1
  · obtain ⟨rfl, -, rfl⟩ : g = g' ∧ n + 1 = (m ++ [y]).length ∧ cap = cap' := by simpa using h1
    refine ⟨at7_of fun k hk => ?_, fun k => Blk.frozen (show Blk w g _ cur from hg) k, Blk.lt (show Blk w g _ cur from hg), by simp [hm] at h4; omega, hB, h5⟩
    rw [cell_of_row w g _ cur _ (0, 0) hg]
    exact h7 n y (by rw [List.getElem?_append_right (by omega)]; simp [hm]) k hk
theorem cmpE_eq {x y : E} : cmpE x y = 0 ↔ eqP x y := by
  unfold cmpE eqP
  have h : ∀ a b : Int, cmpI a b = 0 ↔ a = b := fun a b => by
    unfold cmpI; split
    · omega
    · split <;> omega
  rw [← h x.s y.s, ← h x.t y.t, ← h x.c y.c, ← h x.d y.d]
  simp only [orL]
  by_cases h1 : cmpI x.s y.s = 0 <;> by_cases h2 : cmpI x.t y.t = 0 <;> by_cases h3 : cmpI x.c y.c = 0 <;> by_cases h4 : cmpI x.d y.d = 0 <;> simp [h1, h2, h3, h4]
theorem cmpE_lt {x y : E} : cmpE x y < 0 ↔ ltP x y := by
  unfold cmpE ltP
  have h : ∀ a b : Int, cmpI a b = 0 ↔ a = b := fun a b => by
    unfold cmpI; split
    · omega
    · split <;> omega
  have k : ∀ a b : Int, cmpI a b < 0 ↔ a < b := fun a b => by
    unfold cmpI; split
    · omega
    · split <;> omega
  rw [← h x.s y.s, ← h x.t y.t, ← h x.c y.c, ← k x.s y.s, ← k x.t y.t, ← k x.c y.c, ← k x.d y.d]
  simp only [orL]
  by_cases h1 : cmpI x.s y.s = 0 <;> by_cases h2 : cmpI x.t y.t = 0 <;> by_cases h3 : cmpI x.c y.c = 0 <;> by_cases h4 : cmpI x.d y.d = 0 <;> simp [h1, h2, h3, h4]
end Go.Proofs.Ytomoldfgnbjliaa
