/- Levels: the sequences of categories of a set; the texts of levels and ranges, and how they are read (plain mathematics). -/
import Derived.Test.YthjebccidcichaaLvl
import Derived.Lib.Strings
namespace Go.Proofs.Ythjebccidcichaa
open Go.RowKit
/-- the sequences of numbers in a set, from n on; p: where the open one began -/
def runsP (c : Nat) : Nat → Nat → Option Nat → List (Nat × Nat)
  | 0, _, none => []
  | 0, n, some a => [(a, n - 1)]
  | f + 1, n, p => if hasL c n = true then runsP c f (n + 1) (some (p.getD n)) else match p with
    | none => runsP c f (n + 1) none
    | some a => (a, n - 1) :: runsP c f (n + 1) none
def runsQ (c n : Nat) (p : Option Nat) : List (Nat × Nat) := runsP c (64 - n) n p
theorem runsQ_end (c : Nat) : runsQ c 64 none = [] := rfl
theorem runsQ_no {c n : Nat} (h : n < 64) (hh : hasL c n = false) : runsQ c n none = runsQ c (n + 1) none := by
  unfold runsQ
  rw [show 64 - n = (64 - (n + 1)) + 1 by omega]
  conv => lhs; unfold runsP
  rw [if_neg (by rw [hh]; decide)]
theorem runsQ_open {c n : Nat} (h : n < 64) (hh : hasL c n = true) : runsQ c n none = runsQ c (n + 1) (some n) := by
  unfold runsQ
  rw [show 64 - n = (64 - (n + 1)) + 1 by omega]
  conv => lhs; unfold runsP
  rw [if_pos hh]; rfl
theorem hasL_lt {c n : Nat} (hh : hasL c n = true) : n < 64 := by
  rcases Nat.lt_or_ge n 64 with h | h
  · exact h
  · rw [hasL_out c (by omega)] at hh; cases hh
theorem runsQ_go {c n a : Nat} (hh : hasL c n = true) : runsQ c n (some a) = runsQ c (n + 1) (some a) := by
  have h := hasL_lt hh
  unfold runsQ
  rw [show 64 - n = (64 - (n + 1)) + 1 by omega]
  conv => lhs; unfold runsP
  rw [if_pos hh]; rfl
theorem runsQ_stop {c n a : Nat} (h : n ≤ 64) (hh : hasL c n = false) : runsQ c n (some a) = (a, n - 1) :: runsQ c n none := by
  rcases Nat.lt_or_ge n 64 with h' | h'
  · rw [runsQ_no h' hh]
    unfold runsQ
    rw [show 64 - n = (64 - (n + 1)) + 1 by omega]
    conv => lhs; unfold runsP
    rw [if_neg (by rw [hh]; decide)]
  · obtain rfl : n = 64 := by omega
    rfl
theorem runsQ_none {c m : Nat} (hl : ∀ k, m ≤ k → hasL c k = false) : runsQ c m none = [] := by
  have : ∀ f n, m ≤ n → runsP c f n none = [] := by
    intro f
    induction f with
    | zero => intro n _; rfl
    | succ f ih =>
      intro n hn
      unfold runsP
      rw [if_neg (by rw [hl n hn]; decide)]
      exact ih (n + 1) (by omega)
  exact this _ _ (Nat.le_refl _)
/-- what the sequences hold -/
theorem runsP_in (c : Nat) : ∀ (f n : Nat) (p : Option Nat), f + n ≤ 64 → (∀ a, p = some a → a < n) → ∀ x ∈ runsP c f n p, x.1 ≤ x.2 ∧ x.2 < n + f ∧ (x.1 < n → p = some x.1) ∧ (∀ k, n ≤ k → x.1 ≤ k → k ≤ x.2 → hasL c k = true)
  | 0, n, none, _, _, x, hx => by cases hx
  | 0, n, some a, _, hp, x, hx => by
    obtain rfl : x = (a, n - 1) := by simpa [runsP] using hx
    have := hp a rfl
    exact ⟨by simp; omega, by simp; omega, fun _ => rfl, fun k h1 _ h2 => by simp at h2; omega⟩
  | f + 1, n, p, hf, hp, x, hx => by
    unfold runsP at hx
    split at hx
    · rename_i hh
      have hb : p.getD n ≤ n := by
        cases p with
        | none => exact Nat.le_refl _
        | some a => exact Nat.le_of_lt (hp a rfl)
      obtain ⟨h1, h2, h3, h4⟩ := runsP_in c f (n + 1) (some (p.getD n)) (by omega) (fun a ha => by obtain rfl := Option.some.inj ha; omega) x hx
      refine ⟨h1, by omega, fun h => ?_, fun k hk h5 h6 => ?_⟩
      · have := Option.some.inj (h3 (by omega))
        cases p with
        | none => exact absurd this (by simp; omega)
        | some a => exact congrArg some this
      · rcases Nat.lt_or_ge n k with h' | h'
        · exact h4 k h' h5 h6
        · obtain rfl : k = n := by omega
          exact hh
    · cases p with
      | none =>
        obtain ⟨h1, h2, h3, h4⟩ := runsP_in c f (n + 1) none (by omega) (fun a ha => by cases ha) x hx
        exact ⟨h1, by omega, fun h => absurd (h3 (by omega)) (by simp), fun k hk h5 h6 => by
          rcases Nat.lt_or_ge n k with h' | h'
          · exact h4 k h' h5 h6
          · exact absurd (h3 (by omega)) (by simp)⟩
      | some a =>
        rcases List.mem_cons.1 hx with rfl | hx
        · have := hp a rfl
          exact ⟨by simp; omega, by simp; omega, fun _ => rfl, fun k h1 _ h2 => by simp at h2; omega⟩
        · obtain ⟨h1, h2, h3, h4⟩ := runsP_in c f (n + 1) none (by omega) (fun a ha => by cases ha) x hx
          exact ⟨h1, by omega, fun h => absurd (h3 (by omega)) (by simp), fun k hk h5 h6 => by
            rcases Nat.lt_or_ge n k with h' | h'
            · exact h4 k h' h5 h6
            · exact absurd (h3 (by omega)) (by simp)⟩
theorem runs_in (c : Nat) {x : Nat × Nat} (hx : x ∈ runsQ c 0 none) : x.1 ≤ x.2 ∧ x.2 < 64 ∧ ∀ k, x.1 ≤ k → k ≤ x.2 → hasL c k = true := by
  obtain ⟨h1, h2, _, h4⟩ := runsP_in c 64 0 none (by omega) (fun a ha => by cases ha) x hx
  exact ⟨h1, by omega, fun k => h4 k (Nat.zero_le _)⟩
/-- every number is in one of the sequences -/
theorem runsP_all (c : Nat) : ∀ (f n : Nat) (p : Option Nat), f + n = 64 → (∀ a, p = some a → a < n) → ∀ (k : Nat), ((n ≤ k ∧ hasL c k = true) ∨ (∃ a, p = some a ∧ a ≤ k ∧ k < n)) → ∃ x ∈ runsP c f n p, x.1 ≤ k ∧ k ≤ x.2
  | 0, n, none, hf, _, k, h => by
    rcases h with ⟨h1, h2⟩ | ⟨a, h, _⟩
    · have := hasL_lt h2; omega
    · cases h
  | 0, n, some a, hf, hp, k, h => by
    have ha := hp a rfl
    rcases h with ⟨h1, h2⟩ | ⟨b, h, h1, h2⟩
    · have := hasL_lt h2; omega
    · obtain rfl := Option.some.inj h
      exact ⟨(a, n - 1), by simp [runsP], h1, by simp; omega⟩
  | f + 1, n, p, hf, hp, k, h => by
    unfold runsP
    split
    · rename_i hh
      have hb : p.getD n ≤ n := by
        cases p with
        | none => exact Nat.le_refl _
        | some a => exact Nat.le_of_lt (hp a rfl)
      refine runsP_all c f (n + 1) (some (p.getD n)) (by omega) (fun a ha => by obtain rfl := Option.some.inj ha; omega) k ?_
      rcases h with ⟨h1, h2⟩ | ⟨a, rfl, h1, h2⟩
      · rcases Nat.lt_or_ge n k with h' | h'
        · exact .inl ⟨h', h2⟩
        · exact .inr ⟨_, rfl, by omega, by omega⟩
      · exact .inr ⟨_, rfl, h1, by omega⟩
    · rename_i hh
      cases p with
      | none =>
        refine runsP_all c f (n + 1) none (by omega) (fun a ha => by cases ha) k ?_
        rcases h with ⟨h1, h2⟩ | ⟨a, h, _⟩
        · rcases Nat.lt_or_ge n k with h' | h'
          · exact .inl ⟨h', h2⟩
          · obtain rfl : n = k := by omega
            exact absurd h2 hh
        · cases h
      | some a =>
        rcases h with ⟨h1, h2⟩ | ⟨b, hb, h1, h2⟩
        · have h' : n < k := by
            rcases Nat.lt_or_ge n k with h' | h'
            · exact h'
            · obtain rfl : n = k := by omega
              exact absurd h2 hh
          obtain ⟨x, hx, hr⟩ := runsP_all c f (n + 1) none (by omega) (fun a ha => by cases ha) k (.inl ⟨h', h2⟩)
          exact ⟨x, List.mem_cons_of_mem _ hx, hr⟩
        · obtain rfl := Option.some.inj hb
          exact ⟨(a, n - 1), List.mem_cons_self .., h1, by simp; omega⟩
theorem runs_all (c : Nat) {k : Nat} (h : hasL c k = true) : ∃ x ∈ runsQ c 0 none, x.1 ≤ k ∧ k ≤ x.2 :=
  runsP_all c 64 0 none rfl (fun a ha => by cases ha) k (.inl ⟨Nat.zero_le _, h⟩)
theorem orB_bit (f k : Nat) : ∀ c i, (orB c f k).testBit i = (c.testBit i || decide (f ≤ i ∧ i < f + k)) := by
  induction k with
  | zero => intro c i; simp [orB]; omega
  | succ k ih =>
    intro c i
    unfold orB
    rw [Nat.testBit_or, ih, Nat.testBit_two_pow]
    cases hc : c.testBit i
    · rw [Bool.false_or, Bool.false_or, Bool.eq_iff_iff, Bool.or_eq_true, decide_eq_true_eq, decide_eq_true_eq, decide_eq_true_eq]
      omega
    · rfl
def nmAt (l : List ByteArray) (i : Nat) : ByteArray := l.getD i ⟨#[]⟩
def spL (m : List ByteArray) (p : Nat × Nat) : Sp := (nmAt m p.1, if p.1 = p.2 then ⟨#[]⟩ else nmAt m p.2)
def spansL (m : List ByteArray) (c : Nat) : List Sp := (runsQ c 0 none).map (spL m)
theorem foldl_or_bit (g : Sp → Nat) (i : Nat) : ∀ (L : List Sp) (a : Nat), (L.foldl (fun a sp => a ||| g sp) a).testBit i = (a.testBit i || L.any fun sp => (g sp).testBit i)
  | [], a => by simp
  | x :: L, a => by rw [List.foldl_cons, foldl_or_bit g i L, Nat.testBit_or, List.any_cons, Bool.or_assoc]
theorem propL_at {l : List ByteArray} {most : Int} (h : propL l most = true) {i : Nat} (hi : i < l.length) : okN l i l[i] = true := by
  unfold propL at h
  rw [Bool.and_eq_true] at h
  have := List.all_eq_true.1 h.2 (l[i], i) (List.mem_zipIdx_iff_getElem?.2 (by simp [hi]))
  exact this
theorem okN_parts {l : List ByteArray} {i : Nat} {x : ByteArray} (h : okN l i x = true) : x.size ≤ 32 ∧ nameS x = true ∧ idxS l x = i := by
  unfold okN at h
  simp only [Bool.and_eq_true, decide_eq_true_eq] at h
  exact ⟨h.1, h.2.1, h.2.2⟩
theorem nmAt_lt {l : List ByteArray} {i : Nat} (hi : i < l.length) : nmAt l i = l[i] := by
  unfold nmAt
  rw [List.getD_eq_getElem?_getD, List.getElem?_eq_getElem hi]
  rfl
theorem nameS_size {s : ByteArray} (h : nameS s = true) : 0 < s.size := by
  unfold nameS at h
  exact (of_decide_eq_true h).1
/-- the spans of a set are those of the set -/
theorem spansL_sp {m : List ByteArray} {most : Int} (hp : propL m most = true) {a b : Nat} (hab : a ≤ b) (hb : b < m.length) : spCode m (spL m (a, b)) = 0 ∧ spBits m (spL m (a, b)) = orB 0 a (b + 1 - a) := by
  have ha' : a < m.length := by omega
  obtain ⟨_, a2, a3⟩ := okN_parts (propL_at hp ha')
  obtain ⟨_, b2, b3⟩ := okN_parts (propL_at hp hb)
  have hF : spF m (spL m (a, b)) = a := by
    unfold spF spL
    rw [nmAt_lt ha']; exact a3
  have hT : spT m (spL m (a, b)) = b := by
    unfold spT spL
    by_cases h : a = b
    · subst h
      simp only [if_pos]
      rw [if_pos (by rfl), nmAt_lt ha']; exact a3
    · simp only [if_neg h]
      rw [nmAt_lt hb, if_neg (by have := nameS_size b2; omega)]; exact b3
  have hC : spCode m (spL m (a, b)) = 0 := by
    unfold spCode
    rw [hF, hT, if_neg (by omega), if_neg (by omega)]
  refine ⟨hC, ?_⟩
  unfold spBits
  rw [if_pos hC, hF, hT]
  rfl
theorem spansL_ok {m : List ByteArray} {most : Int} (hp : propL m most = true) {c : Nat} (hc : c < U64) (hl : ∀ k : Nat, hasL c k = true → k < m.length) : spsC m (spansL m c) = 0 ∧ spsB m (spansL m c) = c := by
  constructor
  · refine spsC_all fun k h => ?_
    obtain ⟨x, hx, he⟩ := List.mem_map.1 (List.getElem_mem h)
    rw [← he]
    obtain ⟨h1, h2, h3⟩ := runs_in c hx
    exact (spansL_sp hp h1 (hl _ (h3 _ h1 (Nat.le_refl _)))).1
  · apply Nat.eq_of_testBit_eq
    intro i
    unfold spsB
    rw [foldl_or_bit (spBits m)]
    rw [Nat.zero_testBit, Bool.false_or, Bool.eq_iff_iff, List.any_eq_true]
    constructor
    · rintro ⟨sp, hsp, hb⟩
      obtain ⟨x, hx, rfl⟩ := List.mem_map.1 hsp
      obtain ⟨h1, h2, h3⟩ := runs_in c hx
      rw [(spansL_sp hp h1 (hl _ (h3 _ h1 (Nat.le_refl _)))).2, orB_bit] at hb
      simp only [Nat.zero_testBit, Bool.false_or, decide_eq_true_eq] at hb
      have := h3 i (by omega) (by omega)
      rwa [hasL_in c i (by omega)] at this
    · intro hb
      have hi : i < 64 := by
        rcases Nat.lt_or_ge i 64 with h | h
        · exact h
        · have h1 := Nat.ge_two_pow_of_testBit hb
          have h2 : 2 ^ 64 ≤ 2 ^ i := Nat.pow_le_pow_right (by decide) h
          unfold U64 at hc
          omega
      obtain ⟨x, hx, h1, h2⟩ := runs_all c (k := i) (by rw [hasL_in c i hi]; exact hb)
      refine ⟨_, List.mem_map.2 ⟨x, hx, rfl⟩, ?_⟩
      obtain ⟨h4, h5, h6⟩ := runs_in c hx
      rw [(spansL_sp hp h4 (hl _ (h6 _ h4 (Nat.le_refl _)))).2, orB_bit]
      simp only [Nat.zero_testBit, Bool.false_or, decide_eq_true_eq]
      omega
end Go.Proofs.Ythjebccidcichaa
