/- The reference of a cache, plainly: places and what the cache does. -/
import Derived.Test.YtbcbhgclgakljaaKef
namespace Go.Proofs.Ytbcbhgclgakljaa
open Go.RowKit Go.Maps Go.WideElems Go.WideShapes
section
variable {L : List En} {k : K3} {d : Dc} {s : CS}
theorem ix_look (h : lookK L k = some d) : ∃ i : Nat, idxK L k = (i : Int) ∧ L[i]? = some (k, d) ∧ ∀ j, j < i → ∀ p, L[j]? = some p → p.1 ≠ k := by
  unfold lookK at h
  obtain ⟨p, hp, rfl⟩ := Option.map_eq_some_iff.1 h
  obtain ⟨hk, i, hi, hpi, hb⟩ := List.find?_eq_some_iff_getElem.1 hp
  have hk' : p.1 = k := by simpa using hk
  have hb' : ∀ j, j < i → ∀ q, L[j]? = some q → q.1 ≠ k := by
    intro j hj q hq
    have h1 := hb j hj
    have : L[j]'(by omega) = q := by
      rw [List.getElem?_eq_getElem (by omega)] at hq
      simpa using hq
    rw [this] at h1
    simpa using h1
  have hL : L[i]? = some p := by rw [List.getElem?_eq_getElem hi, hpi]
  refine ⟨i, ix_bound L k hb' hL hk', ?_, hb'⟩
  rw [hL, ← hk']
theorem ix_miss (h : lookK L k = none) : idxK L k = -1 := by
  unfold lookK at h
  have h1 := Option.map_eq_none_iff.1 h
  refine ix_none L k (fun j hj p hp => ?_)
  have := List.find?_eq_none.1 h1 p (List.mem_of_getElem? hp)
  simpa using this
theorem del_erase (hn : (keysK L).Nodup) {i : Nat} (h : L[i]? = some (k, d)) : delK L k = L.eraseIdx i := by
  induction L generalizing i with
  | nil => simp at h
  | cons p t ih =>
    have hn' : (p.1 :: keysK t).Nodup := hn
    rw [List.nodup_cons] at hn'
    cases i with
    | zero =>
      simp only [List.getElem?_cons_zero, Option.some.injEq] at h
      subst h
      rw [List.eraseIdx_zero, List.tail_cons]
      unfold delK
      rw [List.filter_cons_of_neg (by simp)]
      refine List.filter_eq_self.2 (fun q hq => ?_)
      have : q.1 ≠ k := fun e => hn'.1 (List.mem_map.2 ⟨q, hq, e⟩)
      simpa using this
    | succ i =>
      have h' : t[i]? = some (k, d) := by simpa using h
      have hne : p.1 ≠ k := fun e => hn'.1 (by
        rw [e]
        exact List.mem_map.2 ⟨(k, d), List.mem_of_getElem? h', rfl⟩)
      rw [List.eraseIdx_cons_succ]
      unfold delK
      rw [List.filter_cons_of_pos (by simpa using hne)]
      congr 1
      exact ih hn'.2 h'
theorem del_none (h : lookK L k = none) : delK L k = L := by
  unfold lookK at h
  have h1 := List.find?_eq_none.1 (Option.map_eq_none_iff.1 h)
  exact List.filter_eq_self.2 (fun p hp => by have := h1 p hp; simpa using this)
theorem has_look : hasK L k = (lookK L k).isSome := by
  unfold hasK lookK
  rw [Option.isSome_map, Bool.eq_iff_iff, List.any_eq_true, List.find?_isSome]
theorem del_lastE (h : lookK L k = none) : delK L.dropLast k = L.eraseIdx (L.length - 1) := by
  have e : L.eraseIdx (L.length - 1) = L.dropLast := by
    rw [List.eraseIdx_eq_take_drop_succ, List.dropLast_eq_take]
    have : L.drop (L.length - 1 + 1) = [] := List.drop_eq_nil_of_le (by omega)
    rw [this, List.append_nil]
  rw [e]
  have h1 := List.find?_eq_none.1 (Option.map_eq_none_iff.1 (show (L.find? _).map _ = none from h))
  exact List.filter_eq_self.2 (fun p hp => by have := h1 p (List.dropLast_subset _ hp); simpa using this)
/-- what the reference's Find says -/
theorem find_some_ref (ok : OkC s) (h : lookK s.L k = some d) : ∃ i : Nat, idxK s.L k = (i : Int) ∧ i < s.L.length ∧ s.L[i]? = some (k, d) ∧ findC s k = { s with hits := s.hits + 1, L := (k, d) :: s.L.eraseIdx i } ∧ gotC s k = d ∧ isC s k = true := by
  obtain ⟨i, h1, h2, _⟩ := ix_look h
  refine ⟨i, h1, (List.getElem?_eq_some_iff.1 h2).1, h2, ?_, ?_, ?_⟩
  · unfold findC; rw [h]; simp only; rw [del_erase ok.nd h2]
  · unfold gotC; rw [h]; rfl
  · unfold isC; rw [h]; rfl
theorem find_none_ref (h : lookK s.L k = none) : idxK s.L k = -1 ∧ findC s k = { s with misses := s.misses + 1 } ∧ gotC s k = Dc.z ∧ isC s k = false := by
  refine ⟨ix_miss h, ?_, ?_, ?_⟩
  · unfold findC; rw [h]
  · unfold gotC; rw [h]; rfl
  · unfold isC; rw [h]; rfl
/-- .. Insert -/
theorem ins_has_ref (ok : OkC s) (hs : ¬ d.sq < s.seq) {d0 : Dc} (h : lookK s.L k = some d0) : ∃ i : Nat, idxK s.L k = (i : Int) ∧ i < s.L.length ∧ insC s k d = { s with L := (k, d) :: s.L.eraseIdx i } := by
  obtain ⟨i, h1, h2, _⟩ := ix_look h
  refine ⟨i, h1, (List.getElem?_eq_some_iff.1 h2).1, ?_⟩
  unfold insC putC fullC
  rw [if_neg hs, has_look, h]
  simp [del_erase ok.nd h2]
theorem ins_full_ref (hs : ¬ d.sq < s.seq) (h : lookK s.L k = none) (hf : (s.L.length : Int) = s.size) : insC s k d = { s with evicted := s.evicted + 1, L := (k, d) :: s.L.eraseIdx (s.L.length - 1) } := by
  unfold insC putC fullC
  rw [if_neg hs, has_look, h, if_pos (by simp [hf]), del_lastE h]
theorem ins_new_ref (hs : ¬ d.sq < s.seq) (h : lookK s.L k = none) (hf : (s.L.length : Int) ≠ s.size) : insC s k d = { s with L := (k, d) :: s.L } := by
  unfold insC putC fullC
  rw [if_neg hs, has_look, h, if_neg (by simp [hf]), del_none h]
end
end Go.Proofs.Ytbcbhgclgakljaa
