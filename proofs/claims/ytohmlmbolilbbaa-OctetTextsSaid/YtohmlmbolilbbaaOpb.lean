/- Encodings of strings and sets as lists of bytes: plain mathematics, no program. -/
import Derived.Test.YtohmlmbolilbbaaOpa
import Derived.Laws.BytesArg
namespace Go.Proofs.Ytohmlmbolilbbaa
/-- the bytes of a string -/
def bts (s : ByteArray) : List Int := s.data.toList.map fun b => (b.toNat : Int)
theorem bts_len (s : ByteArray) : (bts s).length = s.size := by unfold bts; rw [List.length_map]; rfl
theorem bts_all (s : ByteArray) : AllB (bts s) := fun x hx => by
  obtain ⟨b, _, rfl⟩ := List.mem_map.1 hx
  have := b.toNat_lt
  omega
theorem str_bts (s : ByteArray) : strOfNums (bts s) = s := by
  unfold strOfNums bts
  rw [List.map_map]
  have : (fun n : Int => UInt8.ofNat n.toNat) ∘ (fun b : UInt8 => (b.toNat : Int)) = id := by
    funext b; simp
  rw [this]
  simp
theorem bts_str {l : List Int} (h : AllB l) : bts (strOfNums l) = l := by
  unfold strOfNums bts
  simp only [List.map_map]
  conv => rhs; rw [← List.map_id l]
  apply List.map_congr_left
  intro x hx
  have := h x hx
  simp
  omega
/-- PutText and Text -/
def encT (s : ByteArray) : List Int := code s.size ++ bts s
def decT (l : List Int) (most : Int) : Int × ByteArray × List Int :=
  if (dec l).1 ≠ 0 then ((dec l).1, ByteArray.empty, [])
  else if most < 0 ∨ most < (dec l).2.1 then (4, ByteArray.empty, [])
  else if l.length - (dec l).2.2 < (dec l).2.1 then (5, ByteArray.empty, [])
  else (0, strOfNums ((l.drop (dec l).2.2).take (dec l).2.1), (l.drop (dec l).2.2).drop (dec l).2.1)
theorem decT_enc (s : ByteArray) (r : List Int) (most : Int) (hs : s.size < 18446744073709551616) (hm : (s.size : Int) ≤ most) : decT (encT s ++ r) most = (0, s, r) := by
  unfold decT encT
  rw [List.append_assoc, dec_code _ _ hs]
  have hl := bts_len s
  have h1 : ¬ (most < 0 ∨ most < ((s.size : Nat) : Int)) := by omega
  have h2 : ¬ ((code s.size ++ (bts s ++ r)).length - (code s.size).length < s.size) := by rw [List.length_append, List.length_append, hl]; omega
  rw [if_neg (fun h => h rfl), if_neg h1, if_neg h2]
  simp only [List.drop_left]
  rw [← hl, List.take_left, List.drop_left, str_bts]
theorem decT_back {l : List Int} {most : Int} (hb : AllB l) (h : (decT l most).1 = 0) : encT (decT l most).2.1 ++ (decT l most).2.2 = l := by
  unfold decT at h ⊢
  by_cases h0 : (dec l).1 ≠ 0
  · rw [if_pos h0] at h; exact absurd h h0
  · rw [if_neg h0] at h ⊢
    have h0' : (dec l).1 = 0 := by omega
    by_cases h1 : most < 0 ∨ most < ((dec l).2.1 : Int)
    · rw [if_pos h1] at h; simp at h
    · rw [if_neg h1] at h ⊢
      by_cases h2 : l.length - (dec l).2.2 < (dec l).2.1
      · rw [if_pos h2] at h; simp at h
      · rw [if_neg h2]
        obtain ⟨_, e⟩ := dec_back hb h0'
        simp only
        have hz : (strOfNums ((l.drop (dec l).2.2).take (dec l).2.1)).size = (dec l).2.1 := by
          rw [strOfNums_size, List.length_take, List.length_drop]; omega
        unfold encT
        rw [hz, bts_str ((hb.drop _).take _), List.append_assoc, List.take_append_drop]
        exact e
/-- the least number such that all elements from it on are 0 -/
def elemN : List Int → Nat
  | [] => 0
  | x :: r => if elemN r = 0 then (if x = 0 then 0 else 1) else elemN r + 1
theorem elemN_le : ∀ l, elemN l ≤ l.length
  | [] => Nat.le_refl _
  | x :: r => by have := elemN_le r; simp only [elemN, List.length_cons]; split <;> (try split) <;> omega
theorem elemN_zero : ∀ l k, elemN l ≤ k → l.getD k 0 = 0
  | [], _, _ => by simp
  | x :: r, k, h => by
    simp only [elemN] at h
    cases k with
    | zero =>
      split at h
      · split at h
        · simpa using ‹x = 0›
        · omega
      · omega
    | succ k =>
      have : elemN r ≤ k := by split at h <;> (try split at h) <;> omega
      simpa using elemN_zero r k this
theorem elemN_last : ∀ l, 0 < elemN l → l.getD (elemN l - 1) 0 ≠ 0
  | [], h => by simp [elemN] at h
  | x :: r, h => by
    simp only [elemN] at h ⊢
    split
    · rename_i h0
      rw [if_pos h0] at h
      split
      · rename_i h1; rw [if_pos h1] at h; omega
      · simpa
    · rename_i h0
      have := elemN_last r (by omega)
      obtain ⟨m, hm⟩ : ∃ m, elemN r = m + 1 := ⟨elemN r - 1, by omega⟩
      rw [hm] at this ⊢
      simpa using this
theorem elemN_spec {l : List Int} {k : Nat} (h1 : ∀ j, k ≤ j → l.getD j 0 = 0) (h2 : 0 < k → l.getD (k - 1) 0 ≠ 0) : elemN l = k := by
  rcases Nat.lt_trichotomy (elemN l) k with h | h | h
  · exact absurd (elemN_zero l (k - 1) (by omega)) (h2 (by omega))
  · exact h
  · exact absurd (h1 (elemN l - 1) (by omega)) (elemN_last l (by omega))
/-- PutSet -/
def encS (xs : List Int) : List Int := code (elemN xs) ++ (xs.take (elemN xs)).flatMap (fun x => code x.toNat)
/-- i numbers, one after the other -/
def decP : Nat → List Int → Int × List Int × List Int
  | 0, l => (0, [], l)
  | i + 1, l =>
    if (decP i l).1 ≠ 0 then ((decP i l).1, [], [])
    else if (dec (decP i l).2.2).1 ≠ 0 then ((dec (decP i l).2.2).1, [], [])
    else (0, (decP i l).2.1 ++ [((dec (decP i l).2.2).2.1 : Int)], (decP i l).2.2.drop (dec (decP i l).2.2).2.2)
theorem decP_stuck {i : Nat} {l : List Int} (h : (decP i l).1 ≠ 0) : decP i l = ((decP i l).1, [], []) := by
  cases i with
  | zero => simp [decP] at h
  | succ i =>
    simp only [decP] at h ⊢
    by_cases h1 : (decP i l).1 ≠ 0
    · rw [if_pos h1]
    · rw [if_neg h1] at h ⊢
      by_cases h2 : (dec (decP i l).2.2).1 ≠ 0
      · rw [if_pos h2]
      · rw [if_neg h2] at h; simp at h
theorem decP_more {i : Nat} {l : List Int} (h : (decP i l).1 ≠ 0) : ∀ d, decP (i + d) l = decP i l
  | 0 => rfl
  | d + 1 => by
    have e : decP (i + d) l = decP i l := decP_more h d
    show decP (i + d + 1) l = _
    rw [decP, e, if_pos h, ← decP_stuck h]
theorem decP_len : ∀ (i : Nat) (l : List Int), (decP i l).1 = 0 → (decP i l).2.1.length = i
  | 0, l, _ => rfl
  | i + 1, l, h => by
    rw [decP] at h ⊢
    by_cases h1 : (decP i l).1 ≠ 0
    · rw [if_pos h1] at h; exact absurd h h1
    · rw [if_neg h1] at h ⊢
      by_cases h2 : (dec (decP i l).2.2).1 ≠ 0
      · rw [if_pos h2] at h; exact absurd h h2
      · rw [if_neg h2]
        simp [decP_len i l (by omega)]
theorem decP_all : ∀ (i : Nat) (l : List Int), AllB l → AllB (decP i l).2.2
  | 0, l, h => h
  | i + 1, l, h => by
    rw [decP]
    split
    · exact AllB.nil
    · split
      · exact AllB.nil
      · exact (decP_all i l h).drop _
theorem decP_bd : ∀ (i : Nat) (l : List Int), AllB l → ∀ x ∈ (decP i l).2.1, 0 ≤ x ∧ x < 18446744073709551616
  | 0, l, _ => by simp [decP]
  | i + 1, l, h => by
    rw [decP]
    split
    · simp
    · split
      · simp
      · intro x hx
        rcases List.mem_append.1 hx with hx | hx
        · exact decP_bd i l h x hx
        · rw [List.mem_singleton] at hx
          subst hx
          have := dec_lt (decP_all i l h)
          omega
/-- Set -/
def setR (k : Nat) (p : Int × List Int × List Int) : Int × List Int × List Int :=
  if p.1 ≠ 0 then (p.1, [0, 0, 0, 0], [])
  else if 0 < k ∧ p.2.1.getD (k - 1) 0 = 0 then (6, [0, 0, 0, 0], [])
  else (0, p.2.1 ++ List.replicate (4 - k) 0, p.2.2)
def decS (l : List Int) : Int × List Int × List Int :=
  if (dec l).1 ≠ 0 then ((dec l).1, [0, 0, 0, 0], [])
  else if 4 < (dec l).2.1 then (6, [0, 0, 0, 0], [])
  else setR (dec l).2.1 (decP (dec l).2.1 (l.drop (dec l).2.2))
theorem decP_enc (r : List Int) : ∀ (i : Nat) (xs : List Int), i ≤ xs.length → (∀ x ∈ xs, 0 ≤ x ∧ x < 18446744073709551616) →
    decP i (xs.flatMap (fun x => code x.toNat) ++ r) = (0, xs.take i, (xs.drop i).flatMap (fun x => code x.toNat) ++ r)
  | 0, xs, _, _ => by simp [decP]
  | i + 1, xs, hi, hx => by
    have ih := decP_enc r i xs (by omega) hx
    have e : xs.drop i = xs[i] :: xs.drop (i + 1) := (List.drop_eq_getElem_cons (by omega))
    have hb := hx xs[i] (List.getElem_mem _)
    rw [decP, ih]
    simp only [ne_eq, not_true, if_false]
    rw [e, List.flatMap_cons, List.append_assoc, dec_code _ _ (by omega)]
    simp only [not_true, if_false, List.drop_left]
    have e2 : ((xs[i].toNat : Nat) : Int) = xs[i] := by omega
    rw [e2]
    congr 2
    rw [List.take_add_one, List.getElem?_eq_getElem (by omega)]
    rfl
theorem decS_enc (xs r : List Int) (h4 : xs.length = 4) (hx : ∀ x ∈ xs, 0 ≤ x ∧ x < 18446744073709551616) : decS (encS xs ++ r) = (0, xs, r) := by
  have hle := elemN_le xs
  have hz := elemN_zero xs
  have hla := elemN_last xs
  unfold decS encS
  rw [List.append_assoc, dec_code _ _ (by omega)]
  simp only [ne_eq, not_true, if_false, List.drop_left]
  rw [if_neg (by omega)]
  generalize hk : elemN xs = k at *
  have hxk : ∀ x ∈ xs.take k, 0 ≤ x ∧ x < 18446744073709551616 := fun x h => hx x (List.mem_of_mem_take h)
  have hlk : (xs.take k).length = k := by rw [List.length_take]; omega
  rw [decP_enc r k (xs.take k) (by omega) hxk]
  unfold setR
  simp only [ne_eq, not_true, if_false]
  have h2 : ¬ (0 < k ∧ ((xs.take k).take k).getD (k - 1) 0 = 0) := by
    rintro ⟨h0, h1⟩
    apply hla h0
    rw [List.take_take, Nat.min_self, List.getD, List.getElem?_take, if_pos (by omega)] at h1
    exact h1
  rw [if_neg h2]
  refine Prod.ext rfl (Prod.ext ?_ ?_)
  · show (xs.take k).take k ++ List.replicate (4 - k) 0 = xs
    apply List.ext_getElem
    · simp; omega
    · intro j h3 h4'
      by_cases hj : j < k
      · rw [List.getElem_append_left (by simp; omega)]
        simp
      · rw [List.getElem_append_right (by simp; omega)]
        have := hz j (by omega)
        rw [List.getD, List.getElem?_eq_getElem h4'] at this
        simpa using this.symm
  · show ((xs.take k).drop k).flatMap _ ++ r = r
    rw [List.drop_of_length_le (by omega)]
    rfl
theorem decP_back : ∀ (i : Nat) (l : List Int), AllB l → (decP i l).1 = 0 → (decP i l).2.1.flatMap (fun x => code x.toNat) ++ (decP i l).2.2 = l
  | 0, l, _, _ => by simp [decP]
  | i + 1, l, hb, h => by
    rw [decP] at h ⊢
    by_cases h1 : (decP i l).1 ≠ 0
    · rw [if_pos h1] at h; exact absurd h h1
    · rw [if_neg h1] at h ⊢
      by_cases h2 : (dec (decP i l).2.2).1 ≠ 0
      · rw [if_pos h2] at h; exact absurd h h2
      · rw [if_neg h2]
        have ih := decP_back i l hb (by omega)
        obtain ⟨_, e⟩ := dec_back (decP_all i l hb) (show (dec (decP i l).2.2).1 = 0 by omega)
        simp only [List.flatMap_append, List.flatMap_cons, List.flatMap_nil, List.append_nil, List.append_assoc, Int.toNat_natCast]
        rw [e]
        exact ih
theorem decS_len {l : List Int} : (decS l).2.1.length = 4 := by
  unfold decS
  split
  · rfl
  · split
    · rfl
    · rename_i h1 h2
      unfold setR
      split
      · rfl
      · rename_i h3
        split
        · rfl
        · have := decP_len _ _ (show (decP (dec l).2.1 (l.drop (dec l).2.2)).1 = 0 by omega)
          simp only [List.length_append, List.length_replicate, this]
          omega
theorem decS_back {l : List Int} (hb : AllB l) (h : (decS l).1 = 0) : encS (decS l).2.1 ++ (decS l).2.2 = l := by
  unfold decS at h ⊢
  by_cases h0 : (dec l).1 ≠ 0
  · rw [if_pos h0] at h; exact absurd h h0
  · rw [if_neg h0] at h ⊢
    have h0' : (dec l).1 = 0 := by omega
    by_cases h1 : 4 < (dec l).2.1
    · rw [if_pos h1] at h; simp at h
    · rw [if_neg h1] at h ⊢
      unfold setR at h ⊢
      have hP := decP_back (dec l).2.1 _ (hb.drop (dec l).2.2)
      have hL := decP_len (dec l).2.1 (l.drop (dec l).2.2)
      generalize decP (dec l).2.1 (l.drop (dec l).2.2) = p at *
      by_cases h2 : p.1 ≠ 0
      · rw [if_pos h2] at h; exact absurd h h2
      · rw [if_neg h2] at h ⊢
        by_cases h3 : 0 < (dec l).2.1 ∧ p.2.1.getD ((dec l).2.1 - 1) 0 = 0
        · rw [if_pos h3] at h; simp at h
        · rw [if_neg h3]
          have hl := hL (by omega)
          have e : elemN (p.2.1 ++ List.replicate (4 - (dec l).2.1) 0) = (dec l).2.1 := by
            apply elemN_spec
            · intro j hj
              rw [List.getD, List.getElem?_append_right (by omega), List.getElem?_replicate]
              split <;> rfl
            · intro hk hc
              apply h3
              refine ⟨hk, ?_⟩
              rw [List.getD, List.getElem?_append_left (by omega)] at hc
              exact hc
          simp only
          unfold encS
          rw [e, List.take_append_of_le_length (by omega), List.take_of_length_le (by omega), List.append_assoc, hP (by omega)]
          exact (dec_back hb h0').2
/-- folded numbers -/
def foldN (m : Int) : Int := if 0 ≤ m then 2 * m else -2 * m - 1
def unfoldI (n : Int) : Int := if n % 2 = 0 then n / 2 else -(n / 2) - 1
theorem unfold_fold (m : Int) : unfoldI (foldN m) = m := by unfold unfoldI foldN; split <;> split <;> omega
theorem fold_unfold (n : Int) (h : 0 ≤ n) : foldN (unfoldI n) = n := by unfold unfoldI foldN; split <;> split <;> omega
theorem foldN_bd {m : Int} (h1 : -9223372036854775808 ≤ m) (h2 : m ≤ 9223372036854775807) : 0 ≤ foldN m ∧ foldN m < 18446744073709551616 := by unfold foldN; split <;> omega
end Go.Proofs.Ytohmlmbolilbbaa
