/- Encodings of numbers as lists of bytes: plain mathematics, no program. -/
import Derived.WalkKit
namespace Go.Proofs.Ytohmlmbolilbbaa
/-- the encoding of a number -/
def code (n : Nat) : List Int := if n < 128 then [(n : Int)] else ((n % 128 + 128 : Nat) : Int) :: code (n / 128)
termination_by n
decreasing_by omega
theorem code_lt {n : Nat} (h : n < 128) : code n = [(n : Int)] := by rw [code, if_pos h]
theorem code_ge {n : Nat} (h : ¬ n < 128) : code n = ((n % 128 + 128 : Nat) : Int) :: code (n / 128) := by rw [code, if_neg h]
/-- decoding from the byte i on: the error, the number, how many bytes -/
def decG : List Int → Nat → Nat → Int × Nat × Nat
  | [], _, _ => (5, 0, 0)
  | c :: r, i, a =>
    if (i = 9 ∧ 1 < c) ∨ (0 < i ∧ c = 0) then (6, 0, 0)
    else if c < 128 then (0, a + c.toNat * 128 ^ i, i + 1)
    else decG r (i + 1) (a + (c.toNat - 128) * 128 ^ i)
def dec (l : List Int) : Int × Nat × Nat := decG l 0 0
def AllB (l : List Int) : Prop := ∀ x ∈ l, 0 ≤ x ∧ x ≤ 255
theorem AllB.nil : AllB [] := fun _ h => absurd h (by simp)
theorem AllB.cons {c : Int} {l : List Int} (h : 0 ≤ c ∧ c ≤ 255) (hl : AllB l) : AllB (c :: l) := fun x hx => by
  rcases List.mem_cons.1 hx with rfl | hx
  · exact h
  · exact hl x hx
theorem AllB.app {a b : List Int} (ha : AllB a) (hb : AllB b) : AllB (a ++ b) := fun x hx => (List.mem_append.1 hx).elim (ha x) (hb x)
theorem AllB.take {a : List Int} (ha : AllB a) (n : Nat) : AllB (a.take n) := fun x hx => ha x (List.mem_of_mem_take hx)
theorem AllB.drop {a : List Int} (ha : AllB a) (n : Nat) : AllB (a.drop n) := fun x hx => ha x (List.mem_of_mem_drop hx)
theorem AllB.at {a : List Int} (ha : AllB a) {k : Nat} (h : k < a.length) : 0 ≤ a[k] ∧ a[k] ≤ 255 := ha _ (List.getElem_mem h)
theorem code_all (n : Nat) : AllB (code n) := by
  induction n using Nat.strongRecOn with
  | ind n ih =>
    by_cases h : n < 128
    · rw [code_lt h]; exact AllB.nil.cons (by omega)
    · rw [code_ge h]; exact (ih _ (by omega)).cons (by omega)
theorem code_pos (n : Nat) : 0 < (code n).length := by rw [code]; split <;> simp
theorem pow9 : (128 : Nat) ^ 9 = 9223372036854775808 := by decide
theorem pow_le {i j : Nat} (h : i ≤ j) : (128 : Nat) ^ i ≤ 128 ^ j := Nat.pow_le_pow_right (by omega) h
theorem decG_code (r : List Int) : ∀ (n i a : Nat), n * 128 ^ i < 18446744073709551616 → (0 < i → 0 < n) → decG (code n ++ r) i a = (0, a + n * 128 ^ i, i + (code n).length) := by
  intro n
  induction n using Nat.strongRecOn with
  | ind n ih =>
    intro i a hn hi
    have hi9 : 9 < i → False := fun h => by
      have h10 := pow_le (i := 10) (j := i) (by omega)
      have : (128 : Nat) ^ 10 = 1180591620717411303424 := by decide
      have hp := hi (by omega)
      have := Nat.mul_le_mul hp h10
      omega
    by_cases h : n < 128
    · rw [code_lt h]
      have h1 : ¬ ((i = 9 ∧ 1 < (n : Int)) ∨ (0 < i ∧ (n : Int) = 0)) := by
        rintro (⟨rfl, h1⟩ | ⟨h1, h2⟩)
        · rw [pow9] at hn; omega
        · have := hi h1; omega
      simp only [List.cons_append, List.nil_append, decG, h1, if_false, List.length_cons, List.length_nil]
      rw [if_pos (by omega)]
      simp
    · rw [code_ge h]
      have h9 : ¬ i = 9 := by rintro rfl; rw [pow9] at hn; omega
      have h1 : ¬ ((i = 9 ∧ 1 < ((n % 128 + 128 : Nat) : Int)) ∨ (0 < i ∧ ((n % 128 + 128 : Nat) : Int) = 0)) := by omega
      simp only [List.cons_append, decG, h1, if_false, List.length_cons]
      rw [if_neg (by omega)]
      have e : n / 128 * 128 ^ (i + 1) + n % 128 * 128 ^ i = n * 128 ^ i := by
        rw [Nat.pow_succ, Nat.mul_comm (128 ^ i) 128, ← Nat.mul_assoc, ← Nat.add_mul, Nat.mul_comm (n / 128) 128, Nat.div_add_mod]
      rw [ih (n / 128) (by omega) (i + 1) _ (by have := Nat.zero_le (n % 128 * 128 ^ i); omega) (fun _ => by omega)]
      have e2 : (((n % 128 + 128 : Nat) : Int).toNat - 128) = n % 128 := by omega
      rw [e2]
      refine Prod.ext rfl (Prod.ext ?_ ?_)
      · show a + n % 128 * 128 ^ i + n / 128 * 128 ^ (i + 1) = a + n * 128 ^ i
        omega
      · show i + 1 + _ = i + (_ + 1)
        omega
theorem dec_code (n : Nat) (r : List Int) (h : n < 18446744073709551616) : dec (code n ++ r) = (0, n, (code n).length) := by
  have := decG_code r n 0 0 (by simpa using h) (fun h => absurd h (by omega))
  simpa [dec] using this
theorem code_dec : ∀ (l : List Int) (i a : Nat), AllB l → (decG l i a).1 = 0 → ∃ m, (decG l i a).2.1 = a + m * 128 ^ i ∧ (decG l i a).2.2 = i + (code m).length ∧ code m ++ l.drop (code m).length = l ∧ (0 < i → 0 < m)
  | [], i, a, _, h => by simp [decG] at h
  | c :: r, i, a, hb, h => by
    have hc := hb c (by simp)
    have hr : AllB r := fun x hx => hb x (by simp [hx])
    by_cases h1 : (i = 9 ∧ 1 < c) ∨ (0 < i ∧ c = 0)
    · simp [decG, h1] at h
    · by_cases h2 : c < 128
      · simp only [decG, h1, h2, if_false, if_true]
        have e := code_lt (n := c.toNat) (by omega)
        refine ⟨c.toNat, rfl, by rw [e]; rfl, ?_, fun h => by omega⟩
        rw [e]
        simp
        omega
      · simp only [decG, h1, h2, if_false] at h ⊢
        obtain ⟨m, e1, e2, e3, e4⟩ := code_dec r (i + 1) _ hr h
        have hm := e4 (by omega)
        have hq : ¬ (c.toNat - 128) + 128 * m < 128 := by omega
        have e : code ((c.toNat - 128) + 128 * m) = c :: code m := by
          rw [code_ge hq]
          congr 1
          · omega
          · congr 1; omega
        refine ⟨(c.toNat - 128) + 128 * m, ?_, ?_, ?_, fun _ => by omega⟩
        · rw [e1, Nat.add_mul, Nat.add_assoc, Nat.pow_succ, Nat.mul_comm (128 ^ i) 128, ← Nat.mul_assoc, Nat.mul_comm m 128]
        · rw [e2, e]; simp; omega
        · rw [e]; simp only [List.length_cons, List.drop_succ_cons, List.cons_append, e3]
theorem dec_back {l : List Int} (hb : AllB l) (h : (dec l).1 = 0) : (dec l).2.2 = (code (dec l).2.1).length ∧ code (dec l).2.1 ++ l.drop (dec l).2.2 = l := by
  obtain ⟨m, e1, e2, e3, _⟩ := code_dec l 0 0 hb h
  have e : (dec l).2.1 = m := by unfold dec; simpa using e1
  have e' : (dec l).2.2 = (code m).length := by unfold dec; simpa using e2
  rw [e', e]
  exact ⟨rfl, e3⟩
theorem decG_lt : ∀ (l : List Int) (i a : Nat), AllB l → a < 128 ^ i → i ≤ 9 → (decG l i a).2.1 < 18446744073709551616
  | [], i, a, _, _, _ => by simp [decG]
  | c :: r, i, a, hb, ha, hi => by
    have hc := hb c (by simp)
    have hr : AllB r := fun x hx => hb x (by simp [hx])
    by_cases h1 : (i = 9 ∧ 1 < c) ∨ (0 < i ∧ c = 0)
    · simp [decG, h1]
    · have hp : 128 ^ (i + 1) = 128 * 128 ^ i := by rw [Nat.pow_succ, Nat.mul_comm]
      by_cases h2 : c < 128
      · simp only [decG, h1, h2, if_false, if_true]
        by_cases h9 : i = 9
        · subst h9
          have : c.toNat ≤ 1 := by omega
          have := Nat.mul_le_mul_right (128 ^ 9) this
          rw [pow9] at *
          omega
        · have h8 := pow_le (i := i + 1) (j := 9) (by omega)
          have := Nat.mul_le_mul_right (128 ^ i) (show c.toNat ≤ 127 by omega)
          rw [pow9] at h8
          omega
      · have h9 : i ≠ 9 := by omega
        simp only [decG, h1, h2, if_false]
        have := Nat.mul_le_mul_right (128 ^ i) (show c.toNat - 128 ≤ 127 by omega)
        exact decG_lt r (i + 1) _ hr (by omega) (by omega)
theorem dec_lt {l : List Int} (hb : AllB l) : (dec l).2.1 < 18446744073709551616 := decG_lt l 0 0 hb (by decide) (by omega)
theorem decG_le : ∀ (l : List Int) (i a : Nat), (decG l i a).2.2 ≤ i + l.length
  | [], i, a => by simp [decG]
  | c :: r, i, a => by
    by_cases h1 : (i = 9 ∧ 1 < c) ∨ (0 < i ∧ c = 0)
    · simp [decG, h1]
    · by_cases h2 : c < 128
      · simp only [decG, h1, h2, if_false, if_true, List.length_cons]; omega
      · simp only [decG, h1, h2, if_false, List.length_cons]
        have := decG_le r (i + 1) (a + (c.toNat - 128) * 128 ^ i)
        omega
theorem dec_le (l : List Int) : (dec l).2.2 ≤ l.length := by have := decG_le l 0 0; unfold dec; omega
theorem decG_err : ∀ (l : List Int) (i a : Nat), (decG l i a).1 ≠ 0 → (decG l i a).2 = (0, 0)
  | [], i, a, _ => by simp [decG]
  | c :: r, i, a, h => by
    by_cases h1 : (i = 9 ∧ 1 < c) ∨ (0 < i ∧ c = 0)
    · simp [decG, h1]
    · by_cases h2 : c < 128
      · simp [decG, h1, h2] at h
      · simp only [decG, h1, h2, if_false] at h ⊢
        exact decG_err r _ _ h
theorem dec_err {l : List Int} (h : (dec l).1 ≠ 0) : (dec l).2 = (0, 0) := decG_err l 0 0 h
theorem decG_code3 : ∀ (l : List Int) (i a : Nat), (decG l i a).1 = 0 ∨ (decG l i a).1 = 5 ∨ (decG l i a).1 = 6
  | [], i, a => by simp [decG]
  | c :: r, i, a => by
    by_cases h1 : (i = 9 ∧ 1 < c) ∨ (0 < i ∧ c = 0)
    · simp [decG, h1]
    · by_cases h2 : c < 128
      · simp [decG, h1, h2]
      · simp only [decG, h1, h2, if_false]
        exact decG_code3 r _ _
end Go.Proofs.Ytohmlmbolilbbaa
