/- Slices that are handed in: their cells in memory, their size, their elements. No program is named. -/
import Derived.Test.YtcainohglmgdpaaRad
namespace Go.Proofs.Ytcainohglmgdpaa
open Go.RowKit
/-- n elements of sz cells and by' bytes in memory -/
def Sl (sz by' : Nat) (w : World) (v : Value) (n : Nat) (xs : List Value) : Prop :=
  (v = .slice none 0 0 ∧ n = 0 ∧ xs = []) ∨ ∃ a c, v = .slice (some a) n c ∧ n ≤ c ∧ n ≤ maxLen ∧ n * by' ≤ 140737488355328 ∧ xs.length = n * sz ∧ (∀ j u, xs[j]? = some u → w.cell? (a.add j) = some u) ∧ ∀ u ∈ xs, u.oneCell' = true
theorem cell_block {w : World} {a : Addr} {u : Value} (h : w.cell? a = some u) : a.block < w.heap.size := by
  rcases Nat.lt_or_ge a.block w.heap.size with h' | h'
  · exact h'
  · simp [World.cell?, Array.getElem?_eq_none h'] at h
theorem add_block (a : Addr) (j : Nat) : (a.add j).block = a.block := by
  unfold Addr.add; split <;> rfl
theorem Sl.same {sz by' n : Nat} {w w' : World} {v : Value} {xs : List Value} (h : Sl sz by' w v n xs) (hb : ∀ k, k < w.heap.size → w'.heap[k]? = w.heap[k]?) : Sl sz by' w' v n xs := by
  rcases h with h | ⟨a, c, h1, h2, h3, h4, h5, h6, h7⟩
  · exact .inl h
  · refine .inr ⟨a, c, h1, h2, h3, h4, h5, fun j u hj => ?_, h7⟩
    have h8 := h6 j u hj
    exact (World.cell?_of_block (hb _ (cell_block h8))).trans h8
theorem Sl.below {sz by' n : Nat} {w w' : World} {v : Value} {xs : List Value} (h : Sl sz by' w v n xs) (hb : Below w.heap.size w w') : Sl sz by' w' v n xs := h.same hb.block
theorem Sl.isSl {sz by' n : Nat} {w : World} {v : Value} {xs : List Value} (h : Sl sz by' w v n xs) : ∃ a c, v = .slice a n c ∧ n ≤ c := by
  rcases h with ⟨h1, h2, _⟩ | ⟨a, c, h1, h2, _⟩
  · exact ⟨none, 0, by rw [h1, h2], by omega⟩
  · exact ⟨_, c, h1, h2⟩
section
variable {H : Type} {enc : TypeId × Value → H} {P : Program} {W : World}
/-- cells that are read as a value of a type, in the sizes that are handed in -/
def Good (enc : TypeId × Value → H) (P : Program) (W : World) (n : Nat) (t : TypeId) (cs : List Value) : Prop :=
  ∃ x : DataW H × List MemPlace, DataW.trod enc P W 0 (fun _ => true) true n t cs = some x ∧ (x.1.weights P t).all (· ≤ reachBytes) = true
theorem weights_all {e : TypeId} : ∀ {l : List (DataW H)} {d : DataW H}, d ∈ l → ∀ n ∈ d.weights P e, n ∈ DataW.weightsAll P e l
  | x :: l, d, h, n, hn => by
    unfold DataW.weightsAll
    rw [List.mem_append]
    rcases List.mem_cons.1 h with rfl | h
    · exact .inl hn
    · exact .inr (weights_all h n hn)
theorem Good.fld {n : Nat} {t : TypeId} {cs : List Value} {fs : Array Field} (ht : P.underlying t = some (.struct fs)) (h : Good enc P W n t cs) {i : Nat} {f : Field} (hf : fs[i]? = some f) :
    ∃ k, n = k + 1 ∧ Good enc P W k f.type ((cs.drop f.offset).take (P.cellsOf f.type)) ∧ cs.length = P.cellsOf t := by
  obtain ⟨x, h1, h2⟩ := h
  obtain ⟨xs, k, hk, rfl, hl, hlen, hx⟩ := DataW.trod_struct ht h1
  have hxi := hx i f hf
  have hil : i < xs.length := by rw [hlen]; exact (Array.getElem?_eq_some_iff.1 hf).1
  rw [List.getElem?_eq_getElem hil] at hxi
  refine ⟨k, hk, ⟨xs[i], hxi, ?_⟩, hl⟩
  rw [List.all_eq_true] at h2 ⊢
  intro m hm
  refine h2 m ?_
  simp only [DataW.weights, ht]
  refine DataW.weights_mem_each (j := i) (t := f.type) (d := xs[i].1) ?_ ?_ m hm
  · simp [hf]
  · simp [List.getElem?_eq_getElem hil]
theorem Good.sl {n m sz by' : Nat} {t e : TypeId} {cs : List Value} (ht : P.underlying t = some (.slice e)) (hsz : P.cellsOf e = sz) (h0 : 0 < sz) (hb : P.bytesOf e = by') (hc : covB P m e = true) (h : Good enc P W n t cs) :
    ∃ v len xs k, cs = [v] ∧ Sl sz by' W v len xs ∧ (len = 0 ∨ n = k + 1) ∧ ∀ i, i < len → Good enc P W k e ((xs.drop (i * sz)).take sz) := by
  obtain ⟨x, h1, h2⟩ := h
  rcases DataW.trod_slice ht h1 with ⟨e6, _⟩ | ⟨a, len, cap, elems, rest, k, hk, e6, rfl, hba, hle, hcap, hel, hx6, hrest, _⟩
  · exact ⟨_, 0, [], 0, e6, .inl ⟨rfl, rfl, rfl⟩, .inl rfl, fun i hi => absurd hi (Nat.not_lt_zero _)⟩
  · have hw : (elems.length + rest.length) * by' ≤ reachBytes := by
      have := List.all_eq_true.1 h2 ((elems.length + rest.length) * by') (by simp [DataW.weights, ht, hb])
      simpa using this
    have each : ∀ i, i < len → ∃ cs', cs'.length = sz ∧ (∀ j, j < sz → W.cell? ((a.add (i * sz)).add j) = cs'[j]?) ∧ Good enc P W k e cs' := by
      intro i hi
      have hi2 := hx6 i hi
      rw [List.getElem?_eq_getElem (by omega), Option.bind_eq_some_iff] at hi2
      obtain ⟨cs', h3, h4⟩ := hi2
      rw [hsz] at h3
      obtain ⟨_, hlen, hcell⟩ := World.cells?_some h3
      refine ⟨cs', hlen, hcell, ⟨_, h4, ?_⟩⟩
      rw [List.all_eq_true] at h2 ⊢
      intro q hq
      refine h2 q ?_
      simp only [DataW.weights, ht]
      refine List.mem_cons_of_mem _ (List.mem_append.2 (.inl (weights_all (d := (elems[i]'(by omega)).1) ?_ q hq)))
      exact List.mem_map.2 ⟨_, List.getElem_mem _, rfl⟩
    -- the cells, one after the other
    have hcell : ∀ j, j < len * sz → ∃ u, W.cell? (a.add j) = some u ∧ u.oneCell' = true := by
      intro j hj
      have hi : j / sz < len := (Nat.div_lt_iff_lt_mul h0).2 hj
      obtain ⟨cs', hl, hcs, x', hx', _⟩ := each _ hi
      have h3 := hcs (j % sz) (Nat.mod_lt _ h0)
      rw [Go.Deep.add_add, Nat.div_add_mod' j sz, List.getElem?_eq_getElem (by rw [hl]; exact Nat.mod_lt _ h0)] at h3
      exact ⟨_, h3, one_of m k e _ _ hc hx' _ (List.getElem_mem _)⟩
    let xs : List Value := (List.range (len * sz)).map fun j => (W.cell? (a.add j)).getD undef
    have hxs : ∀ j u, xs[j]? = some u → W.cell? (a.add j) = some u ∧ u.oneCell' = true := by
      intro j u hj
      have hjl : j < len * sz := by have := (List.getElem?_eq_some_iff.1 hj).1; simpa [xs] using this
      obtain ⟨u', h3, h4⟩ := hcell j hjl
      have : xs[j]? = some u' := by simp [xs, hjl, h3]
      rw [this] at hj
      obtain rfl := Option.some.inj hj
      exact ⟨h3, h4⟩
    refine ⟨_, len, xs, k, e6, .inr ⟨a, cap, rfl, hle, by omega, ?_, by simp [xs], fun j u hj => (hxs j u hj).1, fun u hu => ?_⟩, .inr hk, fun i hi => ?_⟩
    · have h3 : len * by' ≤ (elems.length + rest.length) * by' := Nat.mul_le_mul_right _ (by omega)
      have h4 : reachBytes = 140737488351232 := rfl
      omega
    · obtain ⟨j, hj⟩ := List.mem_iff_getElem?.1 hu
      exact (hxs j u hj).2
    · obtain ⟨cs', hl, hcs, hg⟩ := each i hi
      have e2 : (xs.drop (i * sz)).take sz = cs' := by
        apply List.ext_getElem?
        intro j
        rw [List.getElem?_take]
        by_cases hj : j < sz
        · rw [if_pos hj, List.getElem?_drop]
          have hjl : i * sz + j < len * sz := by
            have h1 : (i + 1) * sz ≤ len * sz := Nat.mul_le_mul_right _ hi
            rw [Nat.add_mul] at h1
            omega
          have h3 := hcs j hj
          rw [Go.Deep.add_add] at h3
          rw [← h3]
          obtain ⟨u', h4, _⟩ := hcell _ hjl
          rw [h4]
          simp [xs, hjl, h4]
        · rw [if_neg hj, List.getElem?_eq_none (by omega)]
      rw [e2]
      exact hg
end
end Go.Proofs.Ytcainohglmgdpaa
