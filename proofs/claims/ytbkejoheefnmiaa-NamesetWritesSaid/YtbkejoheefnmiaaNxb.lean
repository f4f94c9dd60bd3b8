/- Plain facts: what the names that a set or a vector lists mean, where all names are different. No Go text walked. -/
import Derived.Test.YtbkejoheefnmiaaNxa
namespace Go.Proofs.Ytbkejoheefnmiaa
open Go.RowKit
/-- the first so many names are found at their own places, and there are at most 256 types -/
def difB (Ts : List TyE) (i : Nat) : Bool := decide (Ts.length ≤ 256) && (List.range i).all fun j => decide (tyK Ts ((Ts.map (·.1)).getD j ⟨#[]⟩) = (j : Int))
theorem difB_zero (Ts : List TyE) : difB Ts 0 = decide (Ts.length ≤ 256) := by unfold difB; simp
theorem difB_succ {Ts : List TyE} {i : Nat} (h : i < Ts.length) : difB Ts (i + 1) = (difB Ts i && decide (tyK Ts Ts[i].1 = (i : Int))) := by
  have e : (Ts.map (·.1)).getD i ⟨#[]⟩ = Ts[i].1 := by rw [List.getD_eq_getElem?_getD, List.getElem?_map, List.getElem?_eq_getElem h]; rfl
  unfold difB
  rw [List.range_succ, List.all_append, List.all_cons, List.all_nil, Bool.and_true, e, Bool.and_assoc]
theorem difB_at {Ts : List TyE} (h : difB Ts Ts.length = true) : Ts.length ≤ 256 ∧ ∀ j (k : j < Ts.length), tyK Ts Ts[j].1 = (j : Int) := by
  unfold difB at h
  rw [Bool.and_eq_true, List.all_eq_true] at h
  refine ⟨of_decide_eq_true h.1, fun j k => ?_⟩
  have e : (Ts.map (·.1)).getD j ⟨#[]⟩ = Ts[j].1 := by rw [List.getD_eq_getElem?_getD, List.getElem?_map, List.getElem?_eq_getElem k]; rfl
  have := of_decide_eq_true (h.2 j (List.mem_range.2 k))
  rwa [e] at this
theorem ty_own (Ts : List TyE) {j : Nat} (k : j < Ts.length) : tyN Ts Ts[j].1 < Ts.length := by
  unfold tyN
  exact List.findIdx_lt_length_of_exists ⟨Ts[j], List.getElem_mem k, by unfold hitT; simp⟩
theorem ty_at {Ts : List TyE} {j : Nat} (k : j < Ts.length) (h : tyK Ts Ts[j].1 = (j : Int)) : tyN Ts Ts[j].1 = j := by
  have l := ty_own Ts k
  unfold tyK at h
  rw [if_pos l] at h
  exact Int.ofNat_inj.1 h
theorem one_at {Ts : List TyE} (As : List AtE) {j : Nat} (k : j < Ts.length) (h2 : Ts.length ≤ 256) (h : tyK Ts Ts[j].1 = (j : Int)) : oneB Ts As Ts[j].1 = true ∧ oneS Ts As Ts[j].1 = ofS [(j : Int)] := by
  have l := ty_own Ts k
  have o : oneT Ts Ts[j].1 = true := by
    unfold oneT tyB
    rw [h, decide_eq_true l, Bool.true_and]
    exact decide_eq_true (by omega)
  have := one_yes (As := As) o
  rwa [h] at this
theorem nm_mem (x : S4) (L : List ByteArray) (y : ByteArray) : y ∈ nmL x L L.length ↔ ∃ j, ∃ k : j < L.length, hasS x (j : Int) = true ∧ L[j] = y := by
  unfold nmL
  rw [List.mem_filterMap]
  constructor
  · rintro ⟨j, hj, e⟩
    have k := List.mem_range.1 hj
    cases hb : hasS x (j : Int)
    · rw [hb] at e; simp at e
    · rw [hb, if_pos rfl, List.getElem?_eq_getElem k] at e
      exact ⟨j, k, hb, Option.some.inj e⟩
  · rintro ⟨j, k, hb, rfl⟩
    exact ⟨j, List.mem_range.2 k, by rw [hb, if_pos rfl, List.getElem?_eq_getElem k]⟩
theorem vec_mem (x : Int) (L : List ByteArray) (y : ByteArray) : y ∈ vecL x L L.length ↔ ∃ j, ∃ k : j < L.length, vecB x j = true ∧ L[j] = y := by
  unfold vecL
  rw [List.mem_filterMap]
  constructor
  · rintro ⟨j, hj, e⟩
    have k := List.mem_range.1 hj
    cases hb : vecB x j
    · rw [hb] at e; simp at e
    · rw [hb, if_pos rfl, List.getElem?_eq_getElem k] at e
      exact ⟨j, k, hb, Option.some.inj e⟩
  · rintro ⟨j, k, hb, rfl⟩
    exact ⟨j, List.mem_range.2 k, by rw [hb, if_pos rfl, List.getElem?_eq_getElem k]⟩
theorem sub_zero {x : S4} (h : x.U) : x.sub S4.zero = x := s4_ext (U_sub _ _) h fun n hn => by rw [has_sub h U_zero hn, has_zero hn]; simp
theorem mean_plain (cnt : Int) {f : ByteArray → S4} {g : ByteArray → Bool} {N : List ByteArray} (h : unB g N = true) : meanB g N [] = true ∧ meanS false false cnt f g N [] = unF f N := by
  have e : unB g ([] : List ByteArray) = true := rfl
  refine ⟨by unfold meanB; rw [h, e]; rfl, ?_⟩
  have e1 : unS f g N = unF f N := by unfold unS; rw [h, if_pos rfl]
  have e2 : unS f g ([] : List ByteArray) = S4.zero := by unfold unS; rw [e, if_pos rfl]; rfl
  unfold meanS combS
  rw [h, e, e1, e2]
  exact sub_zero (unF_U f N)
/-- the types that the names of a set mean are those of the set -/
theorem names_mean {Ts : List TyE} (As : List AtE) {x : S4} (hx : x.U) (h : difB Ts Ts.length = true) :
    meanB (oneB Ts As) (nmL x (Ts.map (·.1)) (Ts.map (·.1)).length) [] = true ∧ meanS false false Ts.length (oneS Ts As) (oneB Ts As) (nmL x (Ts.map (·.1)) (Ts.map (·.1)).length) [] = x.and (allS Ts.length) := by
  obtain ⟨h2, hk⟩ := difB_at h
  have hm : ∀ y, y ∈ nmL x (Ts.map (·.1)) (Ts.map (·.1)).length ↔ ∃ j, ∃ k : j < Ts.length, hasS x (j : Int) = true ∧ Ts[j].1 = y := fun y => by
    rw [nm_mem]
    constructor
    · rintro ⟨j, k, hb, e⟩
      exact ⟨j, by simpa using k, hb, by simpa using e⟩
    · rintro ⟨j, k, hb, e⟩
      exact ⟨j, by simpa using k, hb, by simpa using e⟩
  generalize nmL x (Ts.map (·.1)) (Ts.map (·.1)).length = M at hm
  have hb : unB (oneB Ts As) M = true := by
    unfold unB
    rw [List.all_eq_true]
    intro y hy
    obtain ⟨j, k, _, rfl⟩ := (hm y).1 hy
    exact (one_at As k h2 (hk j k)).1
  obtain ⟨r1, r2⟩ := mean_plain (f := oneS Ts As) (Ts.length : Int) hb
  refine ⟨r1, r2.trans ?_⟩
  refine s4_ext (unF_U _ _) (U_and _ _) fun n hn => ?_
  rw [has_unF (oneS_U Ts As) hn, has_and hx (allS_U _), has_all _ hn, Bool.eq_iff_iff, List.any_eq_true, Bool.and_eq_true, decide_eq_true_iff]
  constructor
  · rintro ⟨y, hy, hn2⟩
    obtain ⟨j, k, hb, rfl⟩ := (hm y).1 hy
    rw [(one_at As k h2 (hk j k)).2, has_one j hn] at hn2
    obtain rfl := of_decide_eq_true hn2
    exact ⟨hb, k⟩
  · rintro ⟨hb, k⟩
    refine ⟨Ts[n].1, (hm _).2 ⟨n, k, hb, rfl⟩, ?_⟩
    rw [(one_at As k h2 (hk n k)).2, has_one n hn]
    exact decide_eq_true rfl
theorem u32_and_nat (x y : Nat) (hx : x < 4294967296) (hy : y < 4294967296) : bits .and .u32 (x : Int) (y : Int) = ((x &&& y : Nat) : Int) := by
  have e : ∀ z : Nat, BitVec.ofInt 32 (z : Int) = BitVec.ofNat 32 z := fun z => BitVec.ofInt_natCast ..
  show IntKind.u32.wrap ((BitVec.ofInt 32 (x : Int) &&& BitVec.ofInt 32 (y : Int)).toNat : Int) = _
  rw [e, e, BitVec.toNat_and, BitVec.toNat_ofNat, BitVec.toNat_ofNat, Nat.mod_eq_of_lt hx, Nat.mod_eq_of_lt hy]
  have l : x &&& y < 4294967296 := Nat.lt_of_le_of_lt Nat.and_le_left hx
  have w : IntKind.u32.wrap ((x &&& y : Nat) : Int) = ((x &&& y : Nat) : Int) % 4294967296 := by simp [IntKind.wrap, IntKind.bits, IntKind.signed]
  rw [w]
  omega
theorem wrap32_nat (x : Nat) (hx : x < 4294967296) : IntKind.u32.wrap (x : Int) = x := by
  have w : IntKind.u32.wrap (x : Int) = (x : Int) % 4294967296 := by simp [IntKind.wrap, IntKind.bits, IntKind.signed]
  rw [w]
  omega
theorem vecB_bit (X n : Nat) (hX : X < 4294967296) : vecB (X : Int) n = X.testBit n := by
  have e : (X : Int) / 2 ^ n = ((X / 2 ^ n : Nat) : Int) := by simp
  have l : X / 2 ^ n < 4294967296 := Nat.lt_of_le_of_lt (Nat.div_le_self _ _) hX
  unfold vecB
  rw [e, show (1 : Int) = ((1 : Nat) : Int) from rfl, u32_and_nat _ 1 l (by decide), Nat.and_one_is_mod, Nat.testBit_eq_decide_div_mod_eq, Bool.eq_iff_iff, beq_iff_eq, decide_eq_true_iff]
  exact Int.ofNat_inj
/-- the vector that the names of a vector make is that vector, within what there is -/
theorem vec_mean {Ts : List TyE} {x : Int} (h0 : 0 ≤ x) (h1 : x < 4294967296) (h : difB Ts Ts.length = true) {L : List ByteArray} (hL : L = Ts.map (·.1)) :
    meanB (numB L 32) (vecL x L L.length) [] = true ∧ permI true (meanS false false ((min L.length 32 : Nat) : Int) (numS L) (numB L 32) (vecL x L L.length) []).a = bits .and .u32 x (IntKind.u32.wrap (allS ((min L.length 32 : Nat) : Int)).a) := by
  obtain ⟨h2, hk⟩ := difB_at h
  obtain ⟨X, rfl⟩ : ∃ X : Nat, x = X := ⟨x.toNat, by omega⟩
  have hX : X < 4294967296 := by omega
  have hlen : L.length = Ts.length := by rw [hL]; simp
  have hget : ∀ j (k : j < L.length), ∃ k2 : j < Ts.length, L[j] = Ts[j].1 := fun j k => by
    subst hL
    exact ⟨by simpa using k, by simp⟩
  have hid : ∀ j (k : j < L.length), idxI L L[j] = (j : Int) := fun j k => by
    refine idxI_hit k rfl fun i hi hil e => ?_
    obtain ⟨k2, ek⟩ := hget j k
    obtain ⟨i2, ei⟩ := hget i hil
    have t := ty_at k2 (hk j k2)
    have : i < tyN Ts Ts[j].1 := by omega
    have n := List.not_of_lt_findIdx this
    unfold hitT at n
    rw [← ei, e, ek] at n
    simp at n
  have hm := vec_mem (X : Int) L
  have hbit : ∀ j, vecB (X : Int) j = true → j < 32 := fun j hj => by
    rcases Nat.lt_or_ge j 32 with h | h
    · exact h
    · rw [vecB_hi h0 h1 h] at hj; cases hj
  generalize vecL (X : Int) L L.length = V at hm
  have hb : unB (numB L 32) V = true := by
    unfold unB
    rw [List.all_eq_true]
    intro y hy
    obtain ⟨j, k, hj, rfl⟩ := (hm y).1 hy
    unfold numB
    rw [hid j k]
    exact decide_eq_true ⟨by omega, by have := hbit j hj; omega⟩
  obtain ⟨r1, r2⟩ := mean_plain (f := numS L) ((min L.length 32 : Nat) : Int) hb
  refine ⟨r1, ?_⟩
  rw [r2]
  have hU := unF_U (numS L) V
  have hA := allS_U (min L.length 32)
  obtain ⟨A, eA, lA⟩ := nat_of hU.a
  obtain ⟨B, eB, lB⟩ := nat_of hA.a
  have bA : ∀ i, i < 64 → A.testBit i = (X.testBit i && decide (i < L.length)) := fun i hi => by
    have w := (has_word hU hi).1
    have hi2 : 64 * 0 + i < 256 := by omega
    rw [eA, Int.toNat_natCast, has_unF (f := numS L) (fun y => ofS1_U _) hi2] at w
    rw [← w, Bool.eq_iff_iff, List.any_eq_true, Bool.and_eq_true, decide_eq_true_iff]
    constructor
    · rintro ⟨y, hy, hn⟩
      obtain ⟨j, k, hj, rfl⟩ := (hm y).1 hy
      unfold numS at hn
      rw [hid j k, has_one j hi2] at hn
      have := of_decide_eq_true hn
      obtain rfl : i = j := by omega
      rw [vecB_bit X i hX] at hj
      exact ⟨hj, k⟩
    · rintro ⟨hj, k⟩
      rw [← vecB_bit X i hX] at hj
      refine ⟨L[i], (hm _).2 ⟨i, k, hj, rfl⟩, ?_⟩
      unfold numS
      rw [hid i k, has_one i hi2]
      exact decide_eq_true (by omega)
  have bB : ∀ i, i < 64 → B.testBit i = decide (i < min L.length 32) := fun i hi => by
    have w := (has_word hA hi).1
    rw [eB, Int.toNat_natCast, has_all _ (by omega)] at w
    rw [← w]
    exact decide_eq_decide.2 (by omega)
  have hi : ∀ Z : Nat, Z < 18446744073709551616 → (∀ i, i < 64 → Z.testBit i = true → i < 32) → Z < 4294967296 := fun Z hZ hz => by
    refine Nat.lt_pow_two_of_testBit (n := 32) Z fun i h32 => ?_
    rcases Nat.lt_or_ge i 64 with h | h
    · cases hc : Z.testBit i
      · rfl
      · have := hz i h hc; omega
    · exact Nat.testBit_lt_two_pow (Nat.lt_of_lt_of_le (show Z < 2 ^ 64 from hZ) (Nat.pow_le_pow_right (by omega) h))
  have l2 : B < 4294967296 := hi B lB fun i hi hz => by rw [bB i hi] at hz; have := of_decide_eq_true hz; omega
  have l1 : A < 4294967296 := hi A lA fun i hi hz => by
    rw [bA i hi, Bool.and_eq_true] at hz
    have := hz.1
    rw [← vecB_bit X i hX] at this
    exact hbit i this
  unfold permI
  rw [if_pos rfl, eA, eB, wrap32_nat A l1, wrap32_nat B l2, u32_and_nat X B hX l2]
  refine congrArg (fun n : Nat => (n : Int)) (Nat.eq_of_testBit_eq fun i => ?_)
  rw [Nat.testBit_and]
  rcases Nat.lt_or_ge i 64 with h | h
  · rw [bA i h, bB i h]
    cases hz : X.testBit i
    · rfl
    · rw [← vecB_bit X i hX] at hz
      have := hbit i hz
      simp only [Bool.true_and]
      exact decide_eq_decide.2 (by omega)
  · have p : 2 ^ 64 ≤ 2 ^ i := Nat.pow_le_pow_right (by omega) h
    rw [Nat.testBit_lt_two_pow (Nat.lt_of_lt_of_le (show A < 2 ^ 64 from lA) p), Nat.testBit_lt_two_pow (Nat.lt_of_lt_of_le (show B < 2 ^ 64 from lB) p), Bool.and_false]
end Go.Proofs.Ytbkejoheefnmiaa
