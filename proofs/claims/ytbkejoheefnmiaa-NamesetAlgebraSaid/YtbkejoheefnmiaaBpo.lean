/- Plain facts on lists of elements: how long they are, and that they make up the set; the least element. -/
import Derived.Test.YtbkejoheefnmiaaBpm
import Derived.Test.YtbkejoheefnmiaaBsj
namespace Go.Proofs.Ytbkejoheefnmiaa
open Go.RowKit
theorem least_upTo (x0 x1 x2 x3 : Int) : ∀ k, k ≤ 256 → NoneBelow x0 x1 x2 x3 k ∨ ∃ j : Nat, j < 256 ∧ hasB x0 x1 x2 x3 j = true ∧ NoneBelow x0 x1 x2 x3 j
  | 0, _ => .inl fun _ h => absurd h (by omega)
  | k + 1, hk => by
    rcases least_upTo x0 x1 x2 x3 k (by omega) with h | h
    · cases hh : hasB x0 x1 x2 x3 k
      · exact .inl (h.next hh)
      · exact .inr ⟨k, by omega, hh, h⟩
    · exact .inr h
theorem least_ex (x0 x1 x2 x3 : Int) : ∃ m, IsLeast x0 x1 x2 x3 m := by
  rcases least_upTo x0 x1 x2 x3 256 (by omega) with h | ⟨j, hj, ht, hn⟩
  · exact ⟨-1, .inl ⟨rfl, h⟩⟩
  · exact ⟨j, .inr ⟨j, hj, rfl, ht, hn⟩⟩
theorem elems_word {x0 x1 x2 x3 : Int} (X q : Nat) (h : ∀ i, i < 64 → hasB x0 x1 x2 x3 ((64 * q + i : Nat) : Int) = X.testBit i) :
    ∀ i, i ≤ 64 → (elems x0 x1 x2 x3 (64 * q + i)).length = (elems x0 x1 x2 x3 (64 * q)).length + pc i X
  | 0, _ => rfl
  | i + 1, hi => by
    have ih := elems_word X q h i (by omega)
    have e := h i (by omega)
    show (elems x0 x1 x2 x3 ((64 * q + i) + 1)).length = (elems x0 x1 x2 x3 (64 * q)).length + (pc i X + (X.testBit i).toNat)
    cases hb : X.testBit i
    · rw [elems_miss (by rw [e, hb]), ih]; rfl
    · rw [elems_hit (by rw [e, hb]), List.length_append, ih]; rfl
theorem elems_count {x0 x1 x2 x3 : Int} (h0 : U64 x0) (h1 : U64 x1) (h2 : U64 x2) (h3 : U64 x3) : ((elems x0 x1 x2 x3 256).length : Int) = onesI x0 x1 x2 x3 := by
  obtain ⟨X0, rfl, a0⟩ := nat_of h0
  obtain ⟨X1, rfl, a1⟩ := nat_of h1
  obtain ⟨X2, rfl, a2⟩ := nat_of h2
  obtain ⟨X3, rfl, a3⟩ := nat_of h3
  have e0 := elems_word X0 0 (fun i hi => has0 X0 X1 X2 X3 i hi a0) 64 (by omega)
  have e1 := elems_word X1 1 (fun i hi => has1 X1 X0 X2 X3 i hi a1) 64 (by omega)
  have e2 := elems_word X2 2 (fun i hi => has2 X2 X0 X1 X3 i hi a2) 64 (by omega)
  have e3 := elems_word X3 3 (fun i hi => has3 X3 X0 X1 X2 i hi a3) 64 (by omega)
  have z : (elems X0 X1 X2 X3 (64 * 0)).length = 0 := rfl
  simp only [show 64 * 3 + 64 = 256 from rfl, show 64 * 2 + 64 = 64 * 3 from rfl, show 64 * 1 + 64 = 64 * 2 from rfl, show 64 * 0 + 64 = 64 * 1 from rfl] at e0 e1 e2 e3
  unfold onesI
  simp only [Int.toNat_natCast]
  omega
theorem withI_nat (n q : Nat) (x : Nat) (hx : x < 18446744073709551616) : ∃ y : Nat, withI n q x = y ∧ y < 18446744073709551616 ∧ ∀ i, i < 64 → y.testBit i = (x.testBit i || decide (64 * q + i = n)) := by
  by_cases h : 64 * q ≤ n ∧ n < 64 * q + 64
  · obtain ⟨j, rfl⟩ : ∃ j, n = 64 * q + j := ⟨n - 64 * q, by omega⟩
    have hj : j < 64 := by omega
    have hp : 2 ^ j < 2 ^ 64 := Nat.pow_lt_pow_right (by omega) hj
    refine ⟨x ||| 2 ^ j, ?_, Nat.or_lt_two_pow (n := 64) hx hp, fun i hi => ?_⟩
    · rw [withI_in (by omega) (by omega), bitI_eq q j hj, u64_or_nat x (2 ^ j) hx hp]
    · rw [Nat.testBit_or, Nat.testBit_two_pow]
      congr 1
      exact decide_eq_decide.2 ⟨fun e => by omega, fun e => by omega⟩
  · refine ⟨x, withI_out (by omega), hx, fun i hi => ?_⟩
    rw [decide_eq_false (by omega), Bool.or_false]
theorem ofI_nat (q : Nat) : ∀ (l : List Nat) (x : Nat), x < 18446744073709551616 → ∃ y : Nat, (l.map (fun (n : Nat) => (n : Int))).foldl (fun x n => withI n q x) (x : Int) = y ∧ y < 18446744073709551616 ∧ ∀ i, i < 64 → y.testBit i = (x.testBit i || decide (64 * q + i ∈ l))
  | [], x, hx => ⟨x, rfl, hx, fun i _ => by simp⟩
  | n :: l, x, hx => by
    obtain ⟨y, e, hy, hb⟩ := withI_nat n q x hx
    obtain ⟨z, e', hz, hb'⟩ := ofI_nat q l y hy
    refine ⟨z, by rw [List.map_cons, List.foldl_cons, e, e'], hz, fun i hi => ?_⟩
    rw [hb' i hi, hb i hi, Bool.or_assoc]
    congr 1
    by_cases h1 : 64 * q + i = n <;> by_cases h2 : 64 * q + i ∈ l <;> simp [h1, h2] <;> simp_all
/-- the elements as natural numbers -/
def elemsN (x0 x1 x2 x3 : Int) : List Nat := (List.range 256).filter fun (n : Nat) => hasB x0 x1 x2 x3 (n : Int)
theorem elems_map' (x0 x1 x2 x3 : Int) (k : Nat) : elems x0 x1 x2 x3 k = ((List.range k).filter fun (n : Nat) => hasB x0 x1 x2 x3 (n : Int)).map fun (n : Nat) => (n : Int) := by
  unfold elems Proofs.Ytbkejoheefnmiaa.below
  rw [List.filter_map]
  simp only [Function.comp_def]
theorem elems_map (x0 x1 x2 x3 : Int) : elems x0 x1 x2 x3 256 = (elemsN x0 x1 x2 x3).map fun (n : Nat) => (n : Int) := elems_map' x0 x1 x2 x3 256
theorem ofI_elems {x0 x1 x2 x3 : Int} (X q : Nat) (hq : q < 4) (hX : X < 18446744073709551616) (h : ∀ i, i < 64 → hasB x0 x1 x2 x3 ((64 * q + i : Nat) : Int) = X.testBit i) :
    ofI (elems x0 x1 x2 x3 256) q = X := by
  obtain ⟨y, e, hy, hb⟩ := ofI_nat q (elemsN x0 x1 x2 x3) 0 (by omega)
  have e' : ofI (elems x0 x1 x2 x3 256) q = y := by rw [elems_map]; exact e
  rw [e']
  refine congrArg Int.ofNat (word_ext hy hX fun i hi => ?_)
  rw [hb i hi, Nat.zero_testBit, Bool.false_or]
  have hm : 64 * q + i ∈ elemsN x0 x1 x2 x3 ↔ hasB x0 x1 x2 x3 ((64 * q + i : Nat) : Int) = true := by
    unfold elemsN
    rw [List.mem_filter, List.mem_range]
    exact ⟨fun h => h.2, fun h => ⟨by omega, h⟩⟩
  rw [← h i hi]
  cases hh : hasB x0 x1 x2 x3 ((64 * q + i : Nat) : Int)
  · exact decide_eq_false (by rw [hm, hh]; simp)
  · exact decide_eq_true (by rw [hm, hh])
theorem ofI_all {x0 x1 x2 x3 : Int} (h0 : U64 x0) (h1 : U64 x1) (h2 : U64 x2) (h3 : U64 x3) :
    ofI (elems x0 x1 x2 x3 256) 0 = x0 ∧ ofI (elems x0 x1 x2 x3 256) 1 = x1 ∧ ofI (elems x0 x1 x2 x3 256) 2 = x2 ∧ ofI (elems x0 x1 x2 x3 256) 3 = x3 := by
  obtain ⟨X0, rfl, a0⟩ := nat_of h0
  obtain ⟨X1, rfl, a1⟩ := nat_of h1
  obtain ⟨X2, rfl, a2⟩ := nat_of h2
  obtain ⟨X3, rfl, a3⟩ := nat_of h3
  exact ⟨ofI_elems X0 0 (by omega) a0 fun i hi => has0 X0 X1 X2 X3 i hi a0, ofI_elems X1 1 (by omega) a1 fun i hi => has1 X1 X0 X2 X3 i hi a1,
    ofI_elems X2 2 (by omega) a2 fun i hi => has2 X2 X0 X1 X3 i hi a2, ofI_elems X3 3 (by omega) a3 fun i hi => has3 X3 X0 X1 X2 i hi a3⟩
end Go.Proofs.Ytbkejoheefnmiaa
