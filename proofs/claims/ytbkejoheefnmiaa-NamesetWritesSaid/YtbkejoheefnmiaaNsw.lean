/- Plain facts on sets and lists: the elements of what is common to a set and the numbers below a bound; the names that a set lists. No Go text walked. -/
import Derived.Test.YtbkejoheefnmiaaNsl
import Derived.Test.YtbkejoheefnmiaaBpo
namespace Go.Proofs.Ytbkejoheefnmiaa
open Go.RowKit
def hasS (x : S4) (n : Int) : Bool := hasB x.a x.b x.c x.d n
theorem u64_and_nat (x y : Nat) (hx : x < 2 ^ 64) (hy : y < 2 ^ 64) : bits .and .u64 (x : Int) (y : Int) = ((x &&& y : Nat) : Int) := by
  have e1 : (x : Int) = ((BitVec.ofNat 64 x).toNat : Int) := by rw [BitVec.toNat_ofNat, Nat.mod_eq_of_lt hx]
  have e2 : (y : Int) = ((BitVec.ofNat 64 y).toNat : Int) := by rw [BitVec.toNat_ofNat, Nat.mod_eq_of_lt hy]
  rw [e1, e2, bv_and, BitVec.toNat_and, BitVec.toNat_ofNat, BitVec.toNat_ofNat, Nat.mod_eq_of_lt hx, Nat.mod_eq_of_lt hy]
theorem has_and {x y : S4} (hx : x.U) (hy : y.U) (n : Nat) : hasS (x.and y) n = (hasS x n && hasS y n) := by
  unfold hasS S4.and
  rcases Nat.lt_or_ge n 256 with h | h
  · obtain ⟨X0, e0, h0⟩ := nat_of hx.a
    obtain ⟨X1, e1, h1⟩ := nat_of hx.b
    obtain ⟨X2, e2, h2⟩ := nat_of hx.c
    obtain ⟨X3, e3, h3⟩ := nat_of hx.d
    obtain ⟨Y0, f0, k0⟩ := nat_of hy.a
    obtain ⟨Y1, f1, k1⟩ := nat_of hy.b
    obtain ⟨Y2, f2, k2⟩ := nat_of hy.c
    obtain ⟨Y3, f3, k3⟩ := nat_of hy.d
    have l : ∀ a b : Nat, a < 18446744073709551616 → a &&& b < 18446744073709551616 := fun a b ha => Nat.lt_of_le_of_lt Nat.and_le_left ha
    simp only [e0, e1, e2, e3, f0, f1, f2, f3, u64_and_nat X0 Y0 h0 k0, u64_and_nat X1 Y1 h1 k1, u64_and_nat X2 Y2 h2 k2, u64_and_nat X3 Y3 h3 k3]
    obtain ⟨q, i, hi, rfl⟩ : ∃ q i, i < 64 ∧ n = 64 * q + i := ⟨n / 64, n % 64, by omega, by omega⟩
    have hq : q = 0 ∨ q = 1 ∨ q = 2 ∨ q = 3 := by omega
    rcases hq with rfl | rfl | rfl | rfl
    · rw [has0 _ _ _ _ i hi (l _ _ h0), has0 _ _ _ _ i hi h0, has0 _ _ _ _ i hi k0, Nat.testBit_and]
    · rw [has1 _ _ _ _ i hi (l _ _ h1), has1 _ _ _ _ i hi h1, has1 _ _ _ _ i hi k1, Nat.testBit_and]
    · rw [has2 _ _ _ _ i hi (l _ _ h2), has2 _ _ _ _ i hi h2, has2 _ _ _ _ i hi k2, Nat.testBit_and]
    · rw [has3 _ _ _ _ i hi (l _ _ h3), has3 _ _ _ _ i hi h3, has3 _ _ _ _ i hi k3, Nat.testBit_and]
  · rw [hasB_out (by omega), hasB_out (by omega), hasB_out (by omega)]; rfl
theorem ofI_word (l : List Nat) (q : Nat) : ∃ y : Nat, ofI (l.map (fun (n : Nat) => (n : Int))) q = y ∧ y < 18446744073709551616 ∧ ∀ i, i < 64 → y.testBit i = decide (64 * q + i ∈ l) := by
  obtain ⟨y, e, hy, hb⟩ := ofI_nat q l 0 (by decide)
  exact ⟨y, e, hy, fun i hi => by rw [hb i hi]; simp⟩
theorem has_of (l : List Nat) {n : Nat} (h : n < 256) : hasS (ofS (l.map (fun (n : Nat) => (n : Int)))) n = decide (n ∈ l) := by
  unfold hasS ofS
  obtain ⟨X0, e0, h0, b0⟩ := ofI_word l 0
  obtain ⟨X1, e1, h1, b1⟩ := ofI_word l 1
  obtain ⟨X2, e2, h2, b2⟩ := ofI_word l 2
  obtain ⟨X3, e3, h3, b3⟩ := ofI_word l 3
  have e0' : ofI (l.map (fun (n : Nat) => (n : Int))) 0 = X0 := e0
  have e1' : ofI (l.map (fun (n : Nat) => (n : Int))) 1 = X1 := e1
  have e2' : ofI (l.map (fun (n : Nat) => (n : Int))) 2 = X2 := e2
  have e3' : ofI (l.map (fun (n : Nat) => (n : Int))) 3 = X3 := e3
  simp only [e0', e1', e2', e3']
  obtain ⟨q, i, hi, rfl⟩ : ∃ q i, i < 64 ∧ n = 64 * q + i := ⟨n / 64, n % 64, by omega, by omega⟩
  have hq : q = 0 ∨ q = 1 ∨ q = 2 ∨ q = 3 := by omega
  rcases hq with rfl | rfl | rfl | rfl
  · rw [has0 _ _ _ _ i hi h0, b0 i hi]
  · rw [has1 _ _ _ _ i hi h1, b1 i hi]
  · rw [has2 _ _ _ _ i hi h2, b2 i hi]
  · rw [has3 _ _ _ _ i hi h3, b3 i hi]
theorem allS_U (m : Nat) : (allS m).U := by
  unfold allS ofS allL below
  obtain ⟨X0, e0, h0, _⟩ := ofI_word (List.range (allN m)) 0
  obtain ⟨X1, e1, h1, _⟩ := ofI_word (List.range (allN m)) 1
  obtain ⟨X2, e2, h2, _⟩ := ofI_word (List.range (allN m)) 2
  obtain ⟨X3, e3, h3, _⟩ := ofI_word (List.range (allN m)) 3
  have u : ∀ X : Nat, X < 18446744073709551616 → U64 (X : Int) := fun X h => ⟨by omega, by omega⟩
  exact ⟨by show U64 _; rw [show ofI _ 0 = (X0 : Int) from e0]; exact u _ h0, by show U64 _; rw [show ofI _ 1 = (X1 : Int) from e1]; exact u _ h1, by show U64 _; rw [show ofI _ 2 = (X2 : Int) from e2]; exact u _ h2, by show U64 _; rw [show ofI _ 3 = (X3 : Int) from e3]; exact u _ h3⟩
theorem has_all (m : Nat) {n : Nat} (h : n < 256) : hasS (allS m) n = decide (n < m) := by
  unfold allS allL below
  rw [has_of _ h]
  refine decide_eq_decide.2 ?_
  rw [List.mem_range]
  unfold allN
  omega
theorem has_hi (x : S4) {n : Nat} (h : 256 ≤ n) : hasS x n = false := hasB_out (by omega)
/-- the names of the first so many symbols that are in a set -/
def nmL (x : S4) (L : List ByteArray) (k : Nat) : List ByteArray := (List.range k).filterMap fun (n : Nat) => if hasS x n then L[n]? else none
theorem nmL_succ (x : S4) {L : List ByteArray} {i : Nat} (h : i < L.length) : nmL x L (i + 1) = nmL x L i ++ if hasS x i then [L[i]] else [] := by
  have hc : List.filterMap (fun (n : Nat) => if hasS x n then L[n]? else none) [i] = if hasS x i then [L[i]] else [] := by
    cases hb : hasS x i <;> simp [hb, h]
  unfold nmL
  rw [List.range_succ, List.filterMap_append, hc]
theorem nmL_len (x : S4) (L : List ByteArray) (i : Nat) : (nmL x L i).length ≤ i := by
  unfold nmL
  have := List.length_filterMap_le (fun n : Nat => if hasS x n then L[n]? else none) (List.range i)
  simpa using this
theorem nmL_same (x : S4) (L : List ByteArray) {i : Nat} (h : ∀ n, i ≤ n → (if hasS x (n : Nat) then L[n]? else none) = none) : ∀ {j : Nat}, i ≤ j → nmL x L j = nmL x L i
  | j, hj => by
    obtain ⟨d, rfl⟩ : ∃ d, j = i + d := ⟨j - i, by omega⟩
    clear hj
    induction d with
    | zero => rfl
    | succ d ih =>
      rw [← ih]
      unfold nmL
      have hc : List.filterMap (fun (n : Nat) => if hasS x n then L[n]? else none) [i + d] = [] := by
        rw [List.filterMap_cons, h (i + d) (by omega), List.filterMap_nil]
      rw [show i + (d + 1) = (i + d) + 1 by omega, List.range_succ, List.filterMap_append, hc, List.append_nil]
/-- the elements that are numbers of symbols, in their order -/
def elN (x : S4) (m : Nat) : List Nat := (List.range 256).filter fun (n : Nat) => hasS (x.and (allS m)) n
theorem fm_congr {f g : Nat → Option ByteArray} : ∀ (l : List Nat), (∀ n ∈ l, f n = g n) → l.filterMap f = l.filterMap g
  | [], _ => rfl
  | n :: l, h => by
    rw [List.filterMap_cons, List.filterMap_cons, h n (by simp), fm_congr l fun m hm => h m (by simp [hm])]
theorem elN_map {x : S4} (hx : x.U) (L : List ByteArray) : (elN x L.length).filterMap (fun n => L[n]?) = nmL x L L.length := by
  have e : (elN x L.length).filterMap (fun n => L[n]?) = nmL x L 256 := by
    unfold elN nmL
    rw [List.filterMap_filter]
    refine fm_congr _ fun n hn => ?_
    have hn' := List.mem_range.1 hn
    rw [has_and hx (allS_U _), has_all _ hn']
    by_cases h : n < L.length
    · simp [h]
    · simp [h]
  rw [e]
  rcases Nat.le_total 256 L.length with h | h
  · exact (nmL_same x L (i := 256) (fun n hn => by rw [has_hi x hn]; rfl) h).symm
  · exact nmL_same x L (i := L.length) (fun n hn => by rw [List.getElem?_eq_none hn]; simp) h
theorem elN_lt {x : S4} (hx : x.U) {m n : Nat} (h : n ∈ elN x m) : n < m ∧ n < 256 := by
  unfold elN at h
  obtain ⟨h1, h2⟩ := List.mem_filter.1 h
  have h1 := List.mem_range.1 h1
  rw [has_and hx (allS_U _), has_all _ h1] at h2
  simp at h2
  exact ⟨h2.2, h1⟩
theorem elN_len (x : S4) (m : Nat) : (elN x m).length ≤ 256 := by
  unfold elN
  have := List.length_filter_le (fun n : Nat => hasS (x.and (allS m)) n) (List.range 256)
  simpa using this
theorem elems_N (x : S4) (m : Nat) : elems (x.and (allS m)).a (x.and (allS m)).b (x.and (allS m)).c (x.and (allS m)).d 256 = (elN x m).map fun (n : Nat) => (n : Int) := elems_map' _ _ _ _ 256
theorem U_and (x y : S4) : (x.and y).U := ⟨bits_U .and x.a y.a, bits_U .and x.b y.b, bits_U .and x.c y.c, bits_U .and x.d y.d⟩
end Go.Proofs.Ytbkejoheefnmiaa
