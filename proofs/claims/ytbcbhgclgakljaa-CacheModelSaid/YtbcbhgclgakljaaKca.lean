/- The cache, plainly: keys, decisions, what is found, stored, put aside; rings of neighbours. -/
import Derived.Test.YtbcbhgclgakljaaMm
namespace Go.Proofs.Ytbcbhgclgakljaa
structure K3 where
  a : Int
  b : Int
  c : Int
deriving DecidableEq
structure Dc where
  al : Int
  aa : Int
  ad : Int
  pm : Bool
  sq : Int
deriving DecidableEq
def K3.z : K3 := ⟨0, 0, 0⟩
def Dc.z : Dc := ⟨0, 0, 0, false, 0⟩
/-- a link: its block, its key, its decision -/
structure Lk where
  g : Nat
  k : K3
  d : Dc
abbrev En := K3 × Dc
def Lk.en (x : Lk) : En := (x.k, x.d)
def lookK (L : List En) (k : K3) : Option Dc := (L.find? (fun p => decide (p.1 = k))).map (·.2)
def hasK (L : List En) (k : K3) : Bool := L.any (fun p => decide (p.1 = k))
def delK (L : List En) (k : K3) : List En := L.filter (fun p => decide (p.1 ≠ k))
def keysK (L : List En) : List K3 := L.map (·.1)
/-- a cache -/
structure CS where
  size : Int
  seq : Int
  hits : Int
  misses : Int
  evicted : Int
  resets : Int
  L : List En
def newC (n : Int) : CS := ⟨n, 0, 0, 0, 0, 0, []⟩
def findC (s : CS) (k : K3) : CS := match lookK s.L k with
  | some d => { s with hits := s.hits + 1, L := (k, d) :: delK s.L k }
  | none => { s with misses := s.misses + 1 }
def gotC (s : CS) (k : K3) : Dc := (lookK s.L k).getD Dc.z
def isC (s : CS) (k : K3) : Bool := (lookK s.L k).isSome
def fullC (s : CS) (k : K3) : Bool := !hasK s.L k && decide ((s.L.length : Int) = s.size)
def putC (s : CS) (k : K3) (d : Dc) : CS :=
  if fullC s k then { s with evicted := s.evicted + 1, L := (k, d) :: delK s.L.dropLast k } else { s with L := (k, d) :: delK s.L k }
def insC (s : CS) (k : K3) (d : Dc) : CS := if d.sq < s.seq then s else putC s k d
/-- the error of what is stored, of a reset -/
def staleE (a b : Int) : Int := if a < b then 24 else 0
def resC (s : CS) (n : Int) : CS := if n < s.seq then s else { s with seq := n, resets := s.resets + 1, L := [] }
/-- what holds of every cache: keys are different, at most as many as the size -/
structure OkC (s : CS) : Prop where
  nd : (keysK s.L).Nodup
  sz : (s.L.length : Int) ≤ s.size
  pos : 1 ≤ s.size
section
variable {L : List En} {k : K3} {d : Dc} {s : CS}
theorem hasK_iff : hasK L k = true ↔ k ∈ keysK L := by
  unfold hasK keysK
  simp only [List.any_eq_true, decide_eq_true_eq, List.mem_map]
theorem hasK_look : hasK L k = (lookK L k).isSome := by
  unfold hasK lookK
  induction L with
  | nil => rfl
  | cons p L ih =>
    rw [List.any_cons, List.find?_cons]
    by_cases h : p.1 = k
    · simp [h]
    · simp only [h, decide_false, Bool.false_or]
      exact ih
theorem lookK_mem (h : lookK L k = some d) : (k, d) ∈ L := by
  unfold lookK at h
  obtain ⟨p, hp, rfl⟩ := Option.map_eq_some_iff.1 h
  have h1 := List.mem_of_find?_eq_some hp
  have h2 := List.find?_some hp
  simp only [decide_eq_true_eq] at h2
  rw [← h2]
  exact h1
theorem lookK_of (hn : (keysK L).Nodup) (h : (k, d) ∈ L) : lookK L k = some d := by
  unfold lookK
  induction L with
  | nil => cases h
  | cons p L ih =>
    have hn' := List.nodup_cons.1 hn
    rw [List.find?_cons]
    rcases List.mem_cons.1 h with rfl | h
    · simp
    · have : p.1 ≠ k := by
        intro e
        exact hn'.1 (by show p.1 ∈ List.map (·.1) L; rw [e]; exact List.mem_map_of_mem (f := (·.1)) h)
      simp only [this, decide_false]
      exact ih hn'.2 h
theorem delK_of_not (h : hasK L k = false) : delK L k = L := by
  unfold delK
  refine List.filter_eq_self.2 fun p hp => ?_
  unfold hasK at h
  have := List.any_eq_false.1 h p hp
  simpa using this
theorem keys_del : keysK (delK L k) = (keysK L).filter (fun x => decide (x ≠ k)) := by
  unfold keysK delK
  induction L with
  | nil => rfl
  | cons p L ih =>
    by_cases h : p.1 = k
    · simp [h]; simpa using ih
    · simp [h]; simpa using ih
theorem nodup_del (h : (keysK L).Nodup) : (keysK (delK L k)).Nodup := by rw [keys_del]; exact h.filter _
theorem not_mem_del : k ∉ keysK (delK L k) := by rw [keys_del]; simp
theorem hasK_del : hasK (delK L k) k = false := by
  cases h : hasK (delK L k) k
  · rfl
  · exact absurd (hasK_iff.1 h) not_mem_del
theorem nodup_front (h : (keysK L).Nodup) : (keysK ((k, d) :: delK L k)).Nodup := List.nodup_cons.2 ⟨not_mem_del, nodup_del h⟩
theorem length_del (h : (keysK L).Nodup) : (delK L k).length + (if hasK L k then 1 else 0) = L.length := by
  induction L with
  | nil => rfl
  | cons p L ih =>
    have h' := List.nodup_cons.1 h
    by_cases hk : p.1 = k
    · have hh : hasK L k = false := by
        cases e : hasK L k
        · rfl
        · exact absurd (hasK_iff.1 e) (hk ▸ h'.1)
      have e1 : delK (p :: L) k = delK L k := by unfold delK; simp [hk]
      have e2 : hasK (p :: L) k = true := by unfold hasK; simp [hk]
      rw [e1, e2, delK_of_not hh]
      simp
    · have e1 : delK (p :: L) k = p :: delK L k := by unfold delK; simp [hk]
      have e2 : hasK (p :: L) k = hasK L k := by unfold hasK; simp [hk]
      have := ih h'.2
      rw [e1, e2]
      simp only [List.length_cons]
      omega
theorem length_del_le : (delK L k).length ≤ L.length := List.length_filter_le _ _
theorem keys_dropLast : keysK L.dropLast = (keysK L).dropLast := by unfold keysK; rw [List.map_dropLast]
theorem nodup_dropLast (h : (keysK L).Nodup) : (keysK L.dropLast).Nodup := by
  rw [keys_dropLast]
  exact h.sublist (List.dropLast_sublist _)
theorem hasK_dropLast (h : hasK L k = false) : hasK L.dropLast k = false := by
  cases e : hasK L.dropLast k
  · rfl
  · have := hasK_iff.1 e
    rw [keys_dropLast] at this
    have := hasK_iff.2 (List.dropLast_subset _ this)
    rw [h] at this
    cases this
/-- without its last key, a list is without its last entry -/
theorem del_last {p : En} (h : (keysK (L ++ [p])).Nodup) : delK (L ++ [p]) p.1 = L := by
  have hh : hasK L p.1 = false := by
    cases e : hasK L p.1
    · rfl
    · unfold keysK at h
      rw [List.map_append, List.nodup_append] at h
      exact absurd rfl (h.2.2 _ (hasK_iff.1 e) p.1 (by simp))
  have := delK_of_not hh
  unfold delK at this ⊢
  rw [List.filter_append, this]
  simp
theorem OkC.new {n : Int} (h : 1 ≤ n) : OkC (newC n) := ⟨List.nodup_nil, by simp [newC]; omega, h⟩
theorem OkC.find (h : OkC s) (k : K3) : OkC (findC s k) := by
  unfold findC
  cases e : lookK s.L k with
  | none => exact ⟨h.nd, h.sz, h.pos⟩
  | some d =>
    have hh : hasK s.L k = true := by rw [hasK_look, e]; rfl
    have hl := length_del (k := k) h.nd
    rw [hh] at hl
    refine ⟨nodup_front h.nd, ?_, h.pos⟩
    have := h.sz
    simp only [List.length_cons]
    simp only [if_true] at hl
    omega
theorem OkC.put (h : OkC s) (k : K3) (d : Dc) : OkC (putC s k d) := by
  have hs := h.sz
  have hp := h.pos
  unfold putC
  by_cases hf : fullC s k = true
  · rw [if_pos hf]
    have hf' := hf
    unfold fullC at hf'
    simp only [Bool.and_eq_true, Bool.not_eq_true', decide_eq_true_eq] at hf'
    refine ⟨nodup_front (nodup_dropLast h.nd), ?_, h.pos⟩
    rw [delK_of_not (hasK_dropLast hf'.1)]
    simp only [List.length_cons, List.length_dropLast]
    omega
  · rw [if_neg hf]
    refine ⟨nodup_front h.nd, ?_, h.pos⟩
    have hl := length_del (k := k) h.nd
    simp only [List.length_cons]
    cases hh : hasK s.L k
    · have hne : ¬ (s.L.length : Int) = s.size := fun e => hf (by unfold fullC; rw [hh, e]; simp)
      have := length_del_le (L := s.L) (k := k)
      omega
    · rw [hh] at hl
      simp only [if_true] at hl
      omega
theorem OkC.ins (h : OkC s) (k : K3) (d : Dc) : OkC (insC s k d) := by
  unfold insC
  split
  · exact h
  · exact h.put k d
theorem OkC.res (h : OkC s) (n : Int) : OkC (resC s n) := by
  unfold resC
  split
  · exact h
  · exact ⟨List.nodup_nil, by have := h.pos; simp; omega, h.pos⟩
end
/-! rings: each one's next, each one's previous -/
def updN (N : Nat → Nat) (a b : Nat) : Nat → Nat := fun x => if x = a then b else N x
theorem updN_same (N : Nat → Nat) (a b : Nat) : updN N a b a = b := if_pos rfl
theorem updN_ne {N : Nat → Nat} {a b x : Nat} (h : x ≠ a) : updN N a b x = N x := if_neg h
def Chn (N V : Nat → Nat) : List Nat → Prop
  | x :: y :: t => N x = y ∧ V y = x ∧ Chn N V (y :: t)
  | _ => True
section
variable {N V : Nat → Nat}
theorem chn_split : ∀ (X : List Nat) (a : Nat) (Y : List Nat), Chn N V (X ++ a :: Y) ↔ Chn N V (X ++ [a]) ∧ Chn N V (a :: Y)
  | [], a, Y => by simp [Chn]
  | [x], a, Y => by simp [Chn, and_assoc]
  | x :: y :: X, a, Y => by
    have := chn_split (y :: X) a Y
    simp only [List.cons_append, Chn] at this ⊢
    rw [this]
    simp [and_assoc]
theorem chn_updN {p n : Nat} : ∀ {l : List Nat}, Chn N V l → p ∉ l.dropLast → Chn (updN N p n) V l
  | [], _, _ => trivial
  | [x], _, _ => trivial
  | x :: y :: t, h, hp => by
    simp only [List.dropLast_cons_cons, List.mem_cons, not_or] at hp
    exact ⟨(updN_ne (fun e => hp.1 e.symm)).trans h.1, h.2.1, chn_updN h.2.2 hp.2⟩
theorem chn_updV {p n : Nat} : ∀ {l : List Nat}, Chn N V l → p ∉ l.tail → Chn N (updN V p n) l
  | [], _, _ => trivial
  | [x], _, _ => trivial
  | x :: y :: t, h, hp => by
    simp only [List.tail_cons, List.mem_cons, not_or] at hp
    refine ⟨h.1, (updN_ne (fun e => hp.1 e.symm)).trans h.2.1, chn_updV h.2.2 (by simpa using hp.2)⟩
/-- the neighbours of one in the middle -/
theorem chn_mid {X Y : List Nat} {p l n : Nat} (h : Chn N V (X ++ p :: l :: n :: Y)) : N p = l ∧ V l = p ∧ N l = n ∧ V n = l := by
  have h2 := ((chn_split X p (l :: n :: Y)).1 h).2
  exact ⟨h2.1, h2.2.1, h2.2.2.1, h2.2.2.2.1⟩
theorem chn_leave {X Y : List Nat} {p l n : Nat} (h : Chn N V (X ++ p :: l :: n :: Y)) (hd : (X ++ p :: l :: n :: Y).dropLast.Nodup) (ht : (X ++ p :: l :: n :: Y).tail.Nodup) :
    Chn (updN N p n) (updN V n p) (X ++ p :: n :: Y) := by
  obtain ⟨h1, h2⟩ := (chn_split X p (l :: n :: Y)).1 h
  have h3 : Chn N V (n :: Y) := h2.2.2.2.2
  have e1 : (X ++ p :: l :: n :: Y).dropLast = X ++ p :: l :: (n :: Y).dropLast := by
    rw [List.dropLast_append_of_ne_nil (by simp)]
    rfl
  rw [e1] at hd
  have hd1 := (List.nodup_append.1 hd)
  have hpX : p ∉ X := fun hm => hd1.2.2 p hm p (by simp) rfl
  have hpY : p ∉ (n :: Y).dropLast := fun hm => (List.nodup_cons.1 hd1.2.1).1 (by simp [hm])
  have hnX : n ∉ (X ++ [p]).tail := by
    intro hm
    have e2 : (X ++ p :: l :: n :: Y).tail = (X ++ [p]).tail ++ (l :: n :: Y) := by
      cases X <;> simp
    rw [e2] at ht
    exact (List.nodup_append.1 ht).2.2 n hm n (by simp) rfl
  have hnY : n ∉ Y := by
    have e2 : (X ++ p :: l :: n :: Y).tail = (X ++ [p]).tail ++ (l :: n :: Y) := by
      cases X <;> simp
    rw [e2] at ht
    exact (List.nodup_cons.1 (List.nodup_cons.1 (List.nodup_append.1 ht).2.1).2).1
  refine (chn_split X p (n :: Y)).2 ⟨chn_updV (chn_updN h1 (by simpa using hpX)) hnX, ?_, ?_, chn_updV (chn_updN h3 hpY) (by simpa using hnY)⟩
  · exact updN_same _ _ _
  · exact updN_same _ _ _
/-- a new one behind the first -/
theorem chn_follow {r l n : Nat} {Y : List Nat} (h : Chn N V (r :: n :: Y)) (hl : l ∉ r :: n :: Y) (hd : (r :: n :: Y).dropLast.Nodup) (ht : (n :: Y).Nodup) :
    Chn (updN (updN N l n) r l) (updN (updN V l r) n l) (r :: l :: n :: Y) := by
  have hlr : l ≠ r := fun e => hl (by simp [e])
  have hln : l ≠ n := fun e => hl (by simp [e])
  have hrY : r ∉ (n :: Y).dropLast := by
    rw [List.dropLast_cons_cons] at hd
    exact (List.nodup_cons.1 hd).1
  refine ⟨updN_same _ _ _, ?_, ?_, updN_same _ _ _, ?_⟩
  · rw [updN_ne hln]; exact updN_same _ _ _
  · rw [updN_ne hlr]; exact updN_same _ _ _
  · refine chn_updV (chn_updV (chn_updN (chn_updN h.2.2 (fun hm => hl ?_)) hrY) (fun hm => hl ?_)) ?_
    · exact List.mem_cons_of_mem _ (List.dropLast_subset _ hm)
    · exact List.mem_cons_of_mem _ (List.mem_of_mem_tail hm)
    · simpa using (List.nodup_cons.1 ht).1
end
end Go.Proofs.Ytbcbhgclgakljaa
