/- The law CacheKeeps: what is stored after each round, plainly. -/
import Derived.Test.YtbhoofihnmmmfaaKcu
namespace Go.Proofs.Ytbhoofihnmmmfaa
def kk (j : Nat) : K3 := ⟨j, 2 * j, 3 * j⟩
def dd (j : Nat) : Dc := ⟨j, 0, 0, false, 0⟩
def km : K3 := ⟨-1, -1, -1⟩
def d7 : Dc := ⟨7, 0, 0, false, 0⟩
/-- the e keys below i, the last one first -/
def dsc (i e : Nat) : List En := (List.range e).map fun t => (kk (i - 1 - t), dd (i - 1 - t))
def Qn (z : Nat) : Nat → List En
  | 0 => [(km, d7)]
  | i + 1 => (kk i, dd i) :: (km, d7) :: dsc i (min i (z - 2))
theorem kk_inj {a b : Nat} (h : kk a = kk b) : a = b := by
  have := congrArg K3.a h
  simp only [kk] at this
  omega
theorem kk_km (a : Nat) : kk a ≠ km := by
  intro h
  have := congrArg K3.a h
  simp only [kk, km] at this
  omega
theorem dsc_len (i e : Nat) : (dsc i e).length = e := by simp [dsc]
theorem dsc_cons (i e : Nat) : dsc (i + 1) (e + 1) = (kk i, dd i) :: dsc i e := by
  unfold dsc
  rw [List.range_succ_eq_map, List.map_cons, List.map_map]
  refine List.cons_eq_cons.2 ⟨by simp, ?_⟩
  apply List.map_congr_left
  intro t ht
  simp only [Function.comp]
  have : i + 1 - 1 - (t + 1) = i - 1 - t := by omega
  rw [this]
theorem dsc_drop (i e : Nat) : (dsc i (e + 1)).dropLast = dsc i e := by
  unfold dsc
  rw [List.range_succ, List.map_append, List.map_cons, List.map_nil, List.dropLast_concat]
theorem dsc_look (i e j : Nat) (he : e ≤ i) : lookK (dsc i e) (kk j) = if i - e ≤ j ∧ j < i then some (dd j) else none := by
  induction e generalizing i with
  | zero =>
    have : ¬ (i - 0 ≤ j ∧ j < i) := by omega
    rw [if_neg this]
    rfl
  | succ e ih =>
    obtain ⟨i, rfl⟩ : ∃ i', i = i' + 1 := ⟨i - 1, by omega⟩
    rw [dsc_cons]
    unfold lookK
    rw [List.find?_cons]
    by_cases h : kk i = kk j
    · have := kk_inj h
      subst this
      simp only [decide_true, Option.map_some]
      rw [if_pos (by omega)]
    · have hne : i ≠ j := fun e => h (by rw [e])
      simp only [h, decide_false]
      have := ih i (by omega)
      unfold lookK at this
      rw [this]
      by_cases hc : i - e ≤ j ∧ j < i
      · rw [if_pos hc, if_pos (by omega)]
      · rw [if_neg hc, if_neg (by omega)]
theorem dsc_has_km (i e : Nat) : hasK (dsc i e) km = false := by
  cases h : hasK (dsc i e) km
  · rfl
  · have := hasK_iff.1 h
    unfold keysK dsc at this
    rw [List.map_map, List.mem_map] at this
    obtain ⟨t, _, ht⟩ := this
    exact absurd ht (kk_km _)
theorem hasK_cons (p : En) (L : List En) (k : K3) : hasK (p :: L) k = (decide (p.1 = k) || hasK L k) := by unfold hasK; rw [List.any_cons]
theorem lookK_cons (p : En) (L : List En) (k : K3) : lookK (p :: L) k = if p.1 = k then some p.2 else lookK L k := by
  unfold lookK
  rw [List.find?_cons]
  by_cases h : p.1 = k
  · simp [h]
  · simp [h]
theorem delK_cons (p : En) (L : List En) (k : K3) : delK (p :: L) k = if p.1 = k then delK L k else p :: delK L k := by
  unfold delK
  rw [List.filter_cons]
  by_cases h : p.1 = k
  · simp [h]
  · simp [h]
theorem Qn_km (z i : Nat) : lookK (Qn z i) km = some d7 := by
  cases i with
  | zero => rfl
  | succ i =>
    unfold Qn
    rw [lookK_cons, if_neg (kk_km i), lookK_cons, if_pos rfl]
theorem Qn_del (z i : Nat) (hz : 2 ≤ z) : delK (Qn z i) km = dsc i (min i (z - 1)) := by
  cases i with
  | zero => rw [Nat.zero_min]; rfl
  | succ i =>
    unfold Qn
    rw [delK_cons, if_neg (kk_km i), delK_cons, if_pos rfl, delK_of_not (dsc_has_km _ _)]
    have : min (i + 1) (z - 1) = min i (z - 2) + 1 := by omega
    rw [this, dsc_cons]
theorem Qn_len (z i : Nat) (hz : 2 ≤ z) : (Qn z i).length = min (i + 1) z := by
  cases i with
  | zero => simp [Qn]; omega
  | succ i => simp only [Qn, List.length_cons, dsc_len]; omega
theorem Qn_look (z n j : Nat) (hz : 2 ≤ z) (hj : j < n) : lookK (Qn z n) (kk j) = if n < j + z then some (dd j) else none := by
  obtain ⟨n, rfl⟩ : ∃ n', n = n' + 1 := ⟨n - 1, by omega⟩
  unfold Qn
  rw [lookK_cons]
  by_cases h : kk n = kk j
  · have := kk_inj h
    subst this
    rw [if_pos rfl, if_pos (by omega)]
  · have hne : n ≠ j := fun e => h (by rw [e])
    rw [if_neg h, lookK_cons, if_neg (fun e => kk_km j e.symm), dsc_look _ _ _ (Nat.min_le_left _ _)]
    by_cases hc : n - min n (z - 2) ≤ j ∧ j < n
    · rw [if_pos hc, if_pos (by omega)]
    · rw [if_neg hc, if_neg (by omega)]
/-- a cache after i rounds -/
structure Kq (z i : Nat) (s : CS) : Prop where
  L : s.L = Qn z i
  seq : s.seq = 0
  size : s.size = z
theorem Kq.find {z i : Nat} {s : CS} (h : Kq z i s) (hz : 2 ≤ z) : (findC s km).L = (km, d7) :: dsc i (min i (z - 1)) ∧ (findC s km).seq = 0 ∧ (findC s km).size = z ∧ gotC s km = d7 ∧ isC s km = true := by
  have hk := Qn_km z i
  rw [← h.L] at hk
  unfold findC gotC isC
  rw [hk]
  refine ⟨?_, h.seq, h.size, rfl, rfl⟩
  simp only
  rw [h.L, Qn_del z i hz]
theorem Kq.ins {z i : Nat} {s : CS} (h1 : s.L = (km, d7) :: dsc i (min i (z - 1))) (h2 : s.seq = 0) (h3 : s.size = z) (hz : 2 ≤ z) : Kq z (i + 1) (insC s (kk i) (dd i)) := by
  have hno : hasK s.L (kk i) = false := by
    rw [h1, hasK_cons, decide_eq_false (fun e => kk_km i e.symm), Bool.false_or, hasK_look, dsc_look _ _ _ (Nat.min_le_left _ _), if_neg (by omega)]
    rfl
  have hlt : ¬ (dd i).sq < s.seq := by rw [h2]; simp [dd]
  unfold insC
  rw [if_neg hlt]
  unfold putC
  have hl : s.L.length = min i (z - 1) + 1 := by rw [h1, List.length_cons, dsc_len]
  by_cases hf : fullC s (kk i) = true
  · rw [if_pos hf]
    unfold fullC at hf
    simp only [Bool.and_eq_true, Bool.not_eq_true', decide_eq_true_eq] at hf
    have hfull : z - 1 ≤ i := by have := hf.2; rw [hl, h3] at this; omega
    refine ⟨?_, h2, h3⟩
    simp only
    rw [delK_of_not (hasK_dropLast hno), h1]
    have e1 : min i (z - 1) = (z - 2) + 1 := by omega
    have e2 : min i (z - 2) = z - 2 := by omega
    rw [e1]
    show _ = (kk i, dd i) :: (km, d7) :: dsc i (min i (z - 2))
    rw [e2]
    have hne : dsc i (z - 2 + 1) ≠ [] := by
      intro e
      have := congrArg List.length e
      rw [dsc_len] at this
      simp at this
    rw [List.dropLast_cons_of_ne_nil hne, dsc_drop]
  · rw [if_neg hf]
    have hnf : ¬ ((s.L.length : Int) = s.size) := by
      intro e
      refine hf ?_
      unfold fullC
      rw [hno, e]
      simp
    have hlt2 : i < z - 1 := by rw [hl, h3] at hnf; omega
    refine ⟨?_, h2, h3⟩
    simp only
    rw [delK_of_not hno, h1]
    have e1 : min i (z - 1) = min i (z - 2) := by omega
    rw [e1]
    rfl
theorem Kq.start (z : Nat) : Kq z 0 (insC (newC z) km d7) := by
  have hf : fullC (newC z) km = false ∨ fullC (newC z) km = true := by cases fullC (newC z) km <;> simp
  unfold insC
  rw [if_neg (by simp [newC, d7])]
  unfold putC
  rcases hf with hf | hf
  · rw [hf]; exact ⟨rfl, rfl, rfl⟩
  · rw [hf]; exact ⟨rfl, rfl, rfl⟩
end Go.Proofs.Ytbhoofihnmmmfaa
