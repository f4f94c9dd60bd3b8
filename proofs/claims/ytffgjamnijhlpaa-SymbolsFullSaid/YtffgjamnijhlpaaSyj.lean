/- The reference's tables: names by number, aliases; what both hold (plain mathematics). -/
import Derived.Test.YtffgjamnijhlpaaSya
namespace Go.Proofs.Ytffgjamnijhlpaa
open Go.RowKit Go.Maps Go.Sort
/-- names with their numbers -/
def numE (names : List ByteArray) : List (ByteArray × Int) := names.zipIdx.map (fun p => (p.1, (p.2 : Int)))
theorem numE_snoc (names : List ByteArray) (s : ByteArray) : numE (names ++ [s]) = numE names ++ [(s, (names.length : Int))] := by
  unfold numE
  rw [List.zipIdx_append]
  simp
theorem numE_keys (names : List ByteArray) : Keys (numE names) = names := by
  unfold Keys numE
  rw [List.map_map]
  have : ((fun x : ByteArray × Int => x.1) ∘ fun p : ByteArray × Nat => (p.1, (p.2 : Int))) = Prod.fst := rfl
  rw [this, List.zipIdx_map_fst]
theorem numE_length (names : List ByteArray) : (numE names).length = names.length := by simp [numE]
theorem numE_mem {names : List ByteArray} {i : Nat} (h : i < names.length) : (names[i], (i : Int)) ∈ numE names := by
  unfold numE
  rw [List.mem_map]
  exact ⟨(names[i], i), by rw [List.mem_iff_getElem]; exact ⟨i, by simpa using h, by simp⟩, rfl⟩
theorem numE_range {names : List ByteArray} {p : ByteArray × Int} (h : p ∈ numE names) : 0 ≤ p.2 ∧ p.2 < names.length := by
  unfold numE at h
  rw [List.mem_map] at h
  obtain ⟨⟨a, i⟩, hm, rfl⟩ := h
  obtain ⟨_, h2, _⟩ := List.mem_zipIdx hm
  simp
  omega
/-- both: names, then aliases -/
def Fe (names : List ByteArray) (als : List (ByteArray × Int)) : List (ByteArray × Int) := numE names ++ als
theorem Fe_keys (names : List ByteArray) (als : List (ByteArray × Int)) : Keys (Fe names als) = names ++ Keys als := by
  unfold Fe
  have : Keys (numE names ++ als) = Keys (numE names) ++ Keys als := by simp [Keys]
  rw [this, numE_keys]
theorem Fe_length (names : List ByteArray) (als : List (ByteArray × Int)) : (Fe names als).length = names.length + als.length := by simp [Fe, numE_length]
theorem hasE_mem {E : List (ByteArray × Int)} {s : ByteArray} {n : Int} (h : (s, n) ∈ E) : hasE E s = true := (hasE_keys E s).2 (by unfold Keys; exact List.mem_map.2 ⟨_, h, rfl⟩)
theorem lookE_mem {E : List (ByteArray × Int)} {s : ByteArray} {n : Int} (hn : (Keys E).Nodup) (hm : (s, n) ∈ E) : lookE E s = n := by
  refine ind_snoc (P := fun E => (Keys E).Nodup → (s, n) ∈ E → lookE E s = n) (fun _ h => by cases h) (fun l a ih hn hm => ?_) E hn hm
  rw [lookE_snoc]
  unfold Keys at hn
  rw [List.map_append, List.nodup_append] at hn
  rcases List.mem_append.1 hm with h | h
  · rw [if_neg, ih hn.1 h]
    intro e
    exact hn.2.2 s (List.mem_map.2 ⟨_, h, rfl⟩) a.1 (by simp) e.symm
  · simp at h
    subst h
    rw [if_pos rfl]
theorem lookE_no {E : List (ByteArray × Int)} {s : ByteArray} (h : hasE E s = false) : lookE E s = 0 := by
  refine ind_snoc (P := fun E => hasE E s = false → lookE E s = 0) (fun _ => rfl) (fun l a ih h => ?_) E h
  rw [hasE_snoc] at h
  simp at h
  rw [lookE_snoc, if_neg h.2, ih h.1]
theorem hasE_perm {E F : List (ByteArray × Int)} (h : E.Perm F) (s : ByteArray) : hasE E s = hasE F s := by
  rw [Bool.eq_iff_iff, hasE_keys, hasE_keys]
  exact (h.map _).mem_iff
theorem lookE_perm {E F : List (ByteArray × Int)} (h : E.Perm F) (hn : (Keys E).Nodup) (s : ByteArray) : lookE E s = lookE F s := by
  have hF : (Keys F).Nodup := (h.map _).nodup_iff.1 hn
  cases hh : hasE E s
  · rw [lookE_no hh, lookE_no (by rw [← hasE_perm h]; exact hh)]
  · obtain ⟨p, hp, rfl⟩ := List.mem_map.1 ((hasE_keys E s).1 hh)
    obtain ⟨a, n⟩ := p
    rw [lookE_mem hn hp, lookE_mem hF (h.mem_iff.1 hp)]
theorem hasE_no {E : List (ByteArray × Int)} {s : ByteArray} (h : ∀ p ∈ E, p.1 ≠ s) : hasE E s = false := by
  cases hh : hasE E s
  · rfl
  · obtain ⟨p, hp, e⟩ := List.mem_map.1 ((hasE_keys E s).1 hh)
    exact absurd e (h p hp)
/-- the reference's table and the program's hold the same -/
def Mate (names : List ByteArray) (als E : List (ByteArray × Int)) : Prop := E.Perm (Fe names als) ∧ (Keys E).Nodup ∧ ∀ p ∈ als, 0 ≤ p.2 ∧ p.2 < names.length
section
variable {names : List ByteArray} {als E : List (ByteArray × Int)}
theorem Mate.start : Mate [] [] [] := ⟨List.Perm.refl _, List.nodup_nil, fun p h => by cases h⟩
theorem Mate.has (h : Mate names als E) (s : ByteArray) : hasE (Fe names als) s = hasE E s := (hasE_perm h.1 s).symm
theorem Mate.look (h : Mate names als E) (s : ByteArray) : lookE (Fe names als) s = lookE E s := (lookE_perm h.1 h.2.1 s).symm
theorem Mate.nodup (h : Mate names als E) : (Keys (Fe names als)).Nodup := (h.1.map _).nodup_iff.1 h.2.1
theorem Mate.len (h : Mate names als E) : E.length = names.length + als.length := by rw [h.1.length_eq, Fe_length]
theorem nodup_end {s : ByteArray} {k : Int} (h : (Keys E).Nodup) (hh : hasE E s = false) : (Keys (E ++ [(s, k)])).Nodup := by
  have hn : s ∉ Keys E := fun hm => by rw [(hasE_keys E s).2 hm] at hh; cases hh
  unfold Keys at hn h ⊢
  rw [List.map_append, List.nodup_append]
  refine ⟨h, by simp, ?_⟩
  intro a ha b hb hab
  simp only [List.map_cons, List.map_nil, List.mem_singleton] at hb
  subst hab
  exact hn (hb ▸ ha)
theorem Mate.add (h : Mate names als E) {s : ByteArray} (hh : hasE E s = false) : Mate (names ++ [s]) als (E ++ [(s, (names.length : Int))]) := by
  refine ⟨?_, nodup_end h.2.1 hh, fun p hp => ?_⟩
  · unfold Fe
    rw [numE_snoc, List.append_assoc]
    refine (h.1.append_right _).trans ?_
    unfold Fe
    rw [List.append_assoc]
    exact List.Perm.append_left _ List.perm_append_comm
  · have := h.2.2 p hp
    rw [List.length_append]
    simp
    omega
theorem Mate.alias (h : Mate names als E) {s : ByteArray} {n : Int} (hh : hasE E s = false) (h0 : 0 ≤ n) (h1 : n < names.length) : Mate names (als ++ [(s, n)]) (E ++ [(s, n)]) := by
  refine ⟨?_, nodup_end h.2.1 hh, fun p hp => ?_⟩
  · unfold Fe
    rw [← List.append_assoc]
    exact h.1.append_right _
  · rcases List.mem_append.1 hp with hp | hp
    · exact h.2.2 p hp
    · simp at hp
      subst hp
      exact ⟨h0, h1⟩
theorem Mate.found (h : Mate names als E) {i : Nat} (hi : i < names.length) : lookE E names[i] = i ∧ hasE E names[i] = true := by
  have hm : (names[i], (i : Int)) ∈ E := h.1.mem_iff.2 (List.mem_append.2 (.inl (numE_mem hi)))
  exact ⟨lookE_mem h.2.1 hm, hasE_mem hm⟩
end
end Go.Proofs.Ytffgjamnijhlpaa
