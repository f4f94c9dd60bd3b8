/- Plain facts: sets by their elements; names in another order or repeated mean the same; complements; what a set's or a vector's own names mean. No Go text walked. -/
import Derived.Test.YtbkejoheefnmiaaNsq
import Derived.Test.YtbkejoheefnmiaaNsv
import Derived.Test.YtbkejoheefnmiaaNsw
namespace Go.Proofs.Ytbkejoheefnmiaa
open Go.RowKit
theorem s4_ext {x y : S4} (hx : x.U) (hy : y.U) (h : ∀ n : Nat, n < 256 → hasS x n = hasS y n) : x = y := by
  obtain ⟨a, b, c, d⟩ := sets_ext hx.a hx.b hx.c hx.d hy.a hy.b hy.c hy.d h
  cases x; cases y
  simp only at a b c d
  subst a b c d
  rfl
theorem has_word {x : S4} (hx : x.U) {i : Nat} (hi : i < 64) : hasS x ((64 * 0 + i : Nat) : Int) = x.a.toNat.testBit i ∧ hasS x ((64 * 1 + i : Nat) : Int) = x.b.toNat.testBit i ∧ hasS x ((64 * 2 + i : Nat) : Int) = x.c.toNat.testBit i ∧ hasS x ((64 * 3 + i : Nat) : Int) = x.d.toNat.testBit i := by
  obtain ⟨X0, e0, h0⟩ := nat_of hx.a
  obtain ⟨X1, e1, h1⟩ := nat_of hx.b
  obtain ⟨X2, e2, h2⟩ := nat_of hx.c
  obtain ⟨X3, e3, h3⟩ := nat_of hx.d
  unfold hasS
  simp only [e0, e1, e2, e3, Int.toNat_natCast]
  exact ⟨has0 _ _ _ _ i hi h0, has1 _ _ _ _ i hi h1, has2 _ _ _ _ i hi h2, has3 _ _ _ _ i hi h3⟩
theorem has_three {x y z : S4} (hx : x.U) (hy : y.U) (hz : z.U) (f : Bool → Bool → Bool)
    (ha : ∀ i, i < 64 → z.a.toNat.testBit i = f (x.a.toNat.testBit i) (y.a.toNat.testBit i)) (hb : ∀ i, i < 64 → z.b.toNat.testBit i = f (x.b.toNat.testBit i) (y.b.toNat.testBit i))
    (hc : ∀ i, i < 64 → z.c.toNat.testBit i = f (x.c.toNat.testBit i) (y.c.toNat.testBit i)) (hd : ∀ i, i < 64 → z.d.toNat.testBit i = f (x.d.toNat.testBit i) (y.d.toNat.testBit i))
    {n : Nat} (h : n < 256) : hasS z n = f (hasS x n) (hasS y n) := by
  obtain ⟨q, i, hi, rfl⟩ : ∃ q i, i < 64 ∧ n = 64 * q + i := ⟨n / 64, n % 64, by omega, by omega⟩
  obtain ⟨x0, x1, x2, x3⟩ := has_word hx hi
  obtain ⟨y0, y1, y2, y3⟩ := has_word hy hi
  obtain ⟨z0, z1, z2, z3⟩ := has_word hz hi
  have hq : q = 0 ∨ q = 1 ∨ q = 2 ∨ q = 3 := by omega
  rcases hq with rfl | rfl | rfl | rfl
  · rw [x0, y0, z0, ha i hi]
  · rw [x1, y1, z1, hb i hi]
  · rw [x2, y2, z2, hc i hi]
  · rw [x3, y3, z3, hd i hi]
theorem or_bit {x y : Int} (h : U64 x) (k : U64 y) (i : Nat) : (bits .or .u64 x y).toNat.testBit i = (x.toNat.testBit i || y.toNat.testBit i) := by
  obtain ⟨b, rfl⟩ := u64_bv h
  obtain ⟨c, rfl⟩ := u64_bv k
  rw [bv_or, Int.toNat_natCast, Int.toNat_natCast, Int.toNat_natCast, BitVec.toNat_or, Nat.testBit_or]
theorem and_bitS {x y : Int} (h : U64 x) (k : U64 y) (i : Nat) : (bits .and .u64 x y).toNat.testBit i = (x.toNat.testBit i && y.toNat.testBit i) := by
  obtain ⟨b, rfl⟩ := u64_bv h
  obtain ⟨c, rfl⟩ := u64_bv k
  rw [bv_and, Int.toNat_natCast, Int.toNat_natCast, Int.toNat_natCast, BitVec.toNat_and, Nat.testBit_and]
theorem sub_bit {x y : Int} (h : U64 x) (k : U64 y) {i : Nat} (hi : i < 64) : (bits .andNot .u64 x y).toNat.testBit i = (x.toNat.testBit i && !y.toNat.testBit i) := by
  obtain ⟨b, rfl⟩ := u64_bv h
  obtain ⟨c, rfl⟩ := u64_bv k
  rw [bv_andNot, Int.toNat_natCast, Int.toNat_natCast, Int.toNat_natCast]
  rw [BitVec.testBit_toNat, BitVec.testBit_toNat, BitVec.testBit_toNat, BitVec.getLsbD_and, BitVec.getLsbD_not]
  simp [hi]
theorem U_sub (x y : S4) : (x.sub y).U := ⟨bits_U .andNot x.a y.a, bits_U .andNot x.b y.b, bits_U .andNot x.c y.c, bits_U .andNot x.d y.d⟩
theorem has_or {x y : S4} (hx : x.U) (hy : y.U) {n : Nat} (h : n < 256) : hasS (x.or y) n = (hasS x n || hasS y n) :=
  has_three hx hy (U_or x y) (fun a b => a || b) (fun _ _ => or_bit hx.a hy.a _) (fun _ _ => or_bit hx.b hy.b _) (fun _ _ => or_bit hx.c hy.c _) (fun _ _ => or_bit hx.d hy.d _) h
theorem has_sub {x y : S4} (hx : x.U) (hy : y.U) {n : Nat} (h : n < 256) : hasS (x.sub y) n = (hasS x n && !hasS y n) :=
  has_three hx hy (U_sub x y) (fun a b => a && !b) (fun _ hi => sub_bit hx.a hy.a hi) (fun _ hi => sub_bit hx.b hy.b hi) (fun _ hi => sub_bit hx.c hy.c hi) (fun _ hi => sub_bit hx.d hy.d hi) h
theorem has_zero {n : Nat} (h : n < 256) : hasS S4.zero n = false := by
  have e : S4.zero = ofS (([] : List Nat).map (fun (n : Nat) => (n : Int))) := rfl
  rw [e, has_of _ h]
  exact decide_eq_false (by simp)
theorem has_one (j : Nat) {n : Nat} (h : n < 256) : hasS (ofS [(j : Int)]) n = decide (n = j) := by
  have e := has_of [j] h
  rw [show ([j].map (fun (n : Nat) => (n : Int))) = [(j : Int)] from rfl] at e
  rw [e]
  exact decide_eq_decide.2 (by simp)
theorem ofS1_U (k : Int) : (ofS [k]).U := by
  have u : ∀ q, U64 (ofI [k] q) := fun q => by
    unfold ofI
    rw [List.foldl_cons, List.foldl_nil]
    unfold withI
    split
    · exact bits_U _ _ _
    · exact ⟨by decide, by decide⟩
  exact ⟨u 0, u 1, u 2, u 3⟩
theorem atS_U (As : List AtE) (cnt : Int) (n : ByteArray) : (atS As cnt n).U := by
  unfold atS
  split
  · exact U_and _ _
  · exact U_zero
theorem oneS_U (Ts : List TyE) (As : List AtE) (n : ByteArray) : (oneS Ts As n).U := by
  unfold oneS
  split
  · exact ofS1_U _
  · exact atS_U _ _ _
theorem has_fold {f : ByteArray → S4} (hf : ∀ x, (f x).U) {n : Nat} (h : n < 256) : ∀ (l : List ByteArray) (s : S4), s.U → hasS (l.foldl (fun s x => s.or (f x)) s) n = (hasS s n || l.any fun x => hasS (f x) n)
  | [], s, hs => by simp
  | x :: l, s, hs => by rw [List.foldl_cons, has_fold hf h l _ (U_or _ _), has_or hs (hf x) h, List.any_cons, Bool.or_assoc]
theorem has_unF {f : ByteArray → S4} (hf : ∀ x, (f x).U) {n : Nat} (h : n < 256) (l : List ByteArray) : hasS (unF f l) n = l.any fun x => hasS (f x) n := by
  unfold unF
  rw [has_fold hf h l _ U_zero, has_zero h, Bool.false_or]
/-- lists of the same names mean the same -/
theorem un_mem {f : ByteArray → S4} {g : ByteArray → Bool} (hf : ∀ x, (f x).U) {l m : List ByteArray} (h : ∀ x, x ∈ l ↔ x ∈ m) : unB g l = unB g m ∧ unS f g l = unS f g m := by
  have e1 : unB g l = unB g m := by
    unfold unB
    rw [Bool.eq_iff_iff, List.all_eq_true, List.all_eq_true]
    exact ⟨fun k x hx => k x ((h x).2 hx), fun k x hx => k x ((h x).1 hx)⟩
  refine ⟨e1, ?_⟩
  have e2 : unF f l = unF f m := by
    refine s4_ext (unF_U f l) (unF_U f m) fun n hn => ?_
    rw [has_unF hf hn, has_unF hf hn, Bool.eq_iff_iff, List.any_eq_true, List.any_eq_true]
    exact ⟨fun ⟨x, hx, k⟩ => ⟨x, (h x).1 hx, k⟩, fun ⟨x, hx, k⟩ => ⟨x, (h x).2 hx, k⟩⟩
  unfold unS
  rw [e1, e2]
theorem mean_mem {f : ByteArray → S4} {g : ByteArray → Bool} (hf : ∀ x, (f x).U) (al no : Bool) (cnt : Int) {N N' E E' : List ByteArray} (h : ∀ x, x ∈ N ↔ x ∈ N') (k : ∀ x, x ∈ E ↔ x ∈ E') : meanB g N E = meanB g N' E' ∧ meanS al no cnt f g N E = meanS al no cnt f g N' E' := by
  obtain ⟨a, b⟩ := un_mem (g := g) hf h
  obtain ⟨c, d⟩ := un_mem (g := g) hf k
  unfold meanB meanS
  rw [a, b, c, d]
  exact ⟨rfl, rfl⟩
/-- the names from behind, the first one behind each -/
def twL (l : List ByteArray) (k : Nat) : List ByteArray := (List.range k).flatMap fun i => [l.getD (l.length - 1 - i) ⟨#[]⟩, l.getD 0 ⟨#[]⟩]
theorem twL_succ (l : List ByteArray) (k : Nat) : twL l (k + 1) = twL l k ++ [l.getD (l.length - 1 - k) ⟨#[]⟩, l.getD 0 ⟨#[]⟩] := by
  unfold twL
  rw [List.range_succ, List.flatMap_append]
  simp
theorem twL_len (l : List ByteArray) : ∀ k, (twL l k).length = 2 * k
  | 0 => rfl
  | k + 1 => by rw [twL_succ, List.length_append, twL_len l k]; simp; omega
theorem twL_mem (l : List ByteArray) (x : ByteArray) : x ∈ twL l l.length ↔ x ∈ l := by
  unfold twL
  rw [List.mem_flatMap]
  constructor
  · rintro ⟨i, hi, hx⟩
    have hi := List.mem_range.1 hi
    have g : ∀ k, k < l.length → l.getD k ⟨#[]⟩ ∈ l := fun k hk => by
      rw [List.getD_eq_getElem?_getD, List.getElem?_eq_getElem hk]; exact List.getElem_mem hk
    rw [List.mem_cons, List.mem_singleton] at hx
    rcases hx with rfl | rfl
    · exact g _ (by omega)
    · exact g _ (by omega)
  · intro hx
    obtain ⟨k, hk, rfl⟩ := List.mem_iff_getElem.1 hx
    refine ⟨l.length - 1 - k, List.mem_range.2 (by omega), ?_⟩
    have e : l.length - 1 - (l.length - 1 - k) = k := by omega
    rw [e, List.getD_eq_getElem?_getD, List.getElem?_eq_getElem hk]
    simp
theorem has_ofW (x : Int) : ∃ y : Nat, y < 18446744073709551616 ∧ ∀ z, bits .and .u64 x z = bits .and .u64 (y : Int) z := by
  refine ⟨(BitVec.ofInt 64 x).toNat, (BitVec.ofInt 64 x).isLt, fun z => ?_⟩
  show IntKind.u64.wrap ((BitVec.ofInt 64 x &&& BitVec.ofInt 64 z).toNat : Int) = IntKind.u64.wrap ((BitVec.ofInt 64 ((BitVec.ofInt 64 x).toNat : Int) &&& BitVec.ofInt 64 z).toNat : Int)
  rw [ofInt_bv]
theorem and_within (x : S4) {y : S4} (hy : y.U) (n : Nat) (h : hasS (x.and y) n = true) : hasS y n = true := by
  obtain ⟨a, ha, ea⟩ := has_ofW x.a
  obtain ⟨b, hb, eb⟩ := has_ofW x.b
  obtain ⟨c, hc, ec⟩ := has_ofW x.c
  obtain ⟨d, hd, ed⟩ := has_ofW x.d
  have e : x.and y = S4.and ⟨a, b, c, d⟩ y := by unfold S4.and; rw [ea, eb, ec, ed]
  have u : ∀ X : Nat, X < 18446744073709551616 → U64 (X : Int) := fun X h => ⟨by omega, by omega⟩
  rw [e, has_and ⟨u a ha, u b hb, u c hc, u d hd⟩ hy, Bool.and_eq_true] at h
  exact h.2
theorem one_lt (Ts : List TyE) (As : List AtE) (x : ByteArray) {n : Nat} (hn : n < 256) (h : hasS (oneS Ts As x) n = true) : n < Ts.length := by
  unfold oneS at h
  cases ho : oneT Ts x
  · rw [ho, if_neg (by simp)] at h
    unfold atS at h
    split at h
    · have h2 := and_within _ (allS_U Ts.length) n h
      rw [has_all _ hn] at h2
      exact of_decide_eq_true h2
    · rw [has_zero hn] at h; cases h
  · rw [ho, if_pos rfl] at h
    unfold oneT at ho
    rw [Bool.and_eq_true] at ho
    have hb : tyN Ts x < Ts.length := of_decide_eq_true ho.1
    have e : tyK Ts x = (tyN Ts x : Nat) := if_pos hb
    rw [e, has_one _ hn] at h
    have := of_decide_eq_true h
    omega
theorem unS_lt {f : ByteArray → S4} {g : ByteArray → Bool} (hf : ∀ x, (f x).U) {m : Nat} (h : ∀ x (n : Nat), n < 256 → hasS (f x) n = true → n < m) (l : List ByteArray) {n : Nat} (hn : n < 256) (k : hasS (unS f g l) n = true) : n < m := by
  unfold unS at k
  split at k
  · rw [has_unF hf hn, List.any_eq_true] at k
    obtain ⟨x, _, hx⟩ := k
    exact h x n hn hx
  · rw [has_zero hn] at k; cases k
theorem comb_U (al no : Bool) (cnt : Int) (I O : S4) : (combS al no cnt I O).U := by
  unfold combS
  split
  · exact U_sub _ _
  · exact U_sub _ _
theorem comb_has (al no : Bool) (m : Nat) {I O : S4} (hI : I.U) (hO : O.U) {n : Nat} (hn : n < 256) :
    hasS (combS al no m I O) n = if no then (decide (n < m) && !((hasS I n || al && decide (n < m)) && !hasS O n)) else ((hasS I n || al && decide (n < m)) && !hasS O n) := by
  have e : hasS ((if al then I.or (allS m) else I).sub O) n = ((hasS I n || al && decide (n < m)) && !hasS O n) := by
    cases al
    · rw [if_neg (by simp), has_sub hI hO hn]; simp
    · rw [if_pos rfl, has_sub (U_or _ _) hO hn, has_or hI (allS_U m) hn, has_all m hn]; simp
  unfold combS
  cases no
  · simp only [Bool.false_eq_true, if_false]
    exact e
  · simp only [if_true]
    rw [has_sub (allS_U m) (U_sub _ _) hn, e, has_all m hn]
/-- a set and its complement -/
theorem comb_both (al no : Bool) (m : Nat) {I O : S4} (hI : I.U) (hO : O.U) (hl : ∀ n : Nat, n < 256 → hasS I n = true → n < m) :
    (combS al no m I O).or (combS al (!no) m I O) = allS m ∧ (combS al no m I O).and (combS al (!no) m I O) = S4.zero := by
  constructor
  · refine s4_ext (U_or _ _) (allS_U m) fun n hn => ?_
    rw [has_or (comb_U _ _ _ _ _) (comb_U _ _ _ _ _) hn, comb_has al no m hI hO hn, comb_has al (!no) m hI hO hn, has_all m hn]
    have := hl n hn
    revert this
    generalize hasS I n = a
    generalize hasS O n = b
    by_cases hm : n < m <;> cases a <;> cases b <;> cases al <;> cases no <;> simp [hm]
  · refine s4_ext (U_and _ _) U_zero fun n hn => ?_
    rw [has_and (comb_U _ _ _ _ _) (comb_U _ _ _ _ _), comb_has al no m hI hO hn, comb_has al (!no) m hI hO hn, has_zero hn]
    have := hl n hn
    revert this
    generalize hasS I n = a
    generalize hasS O n = b
    by_cases hm : n < m <;> cases a <;> cases b <;> cases al <;> cases no <;> simp [hm]
theorem comb_out (al : Bool) (m : Nat) {I O : S4} (hI : I.U) (hO : O.U) : (combS al false m I O).and (combS false false m O S4.zero) = S4.zero := by
  refine s4_ext (U_and _ _) U_zero fun n hn => ?_
  rw [has_and (comb_U _ _ _ _ _) (comb_U _ _ _ _ _), comb_has al false m hI hO hn, comb_has false false m hO U_zero hn, has_zero hn]
  generalize hasS I n = a
  generalize hasS O n = b
  cases a <;> cases b <;> cases al <;> simp
section
variable (Ts : List TyE) (As : List AtE) (N E : List ByteArray)
theorem mean_no {al no : Bool} (h : meanB (oneB Ts As) N E = false) : meanS al no Ts.length (oneS Ts As) (oneB Ts As) N E = S4.zero := meanS_zero h
theorem mean_yes {al no : Bool} (h : meanB (oneB Ts As) N E = true) : meanS al no Ts.length (oneS Ts As) (oneB Ts As) N E = combS al no Ts.length (unS (oneS Ts As) (oneB Ts As) N) (unS (oneS Ts As) (oneB Ts As) E) := by
  unfold meanB at h
  unfold meanS
  rw [h, if_pos rfl]
theorem mean_both {al no : Bool} (h : meanB (oneB Ts As) N E = true) :
    (meanS al no Ts.length (oneS Ts As) (oneB Ts As) N E).or (meanS al (!no) Ts.length (oneS Ts As) (oneB Ts As) N E) = allS Ts.length ∧ (meanS al no Ts.length (oneS Ts As) (oneB Ts As) N E).and (meanS al (!no) Ts.length (oneS Ts As) (oneB Ts As) N E) = S4.zero := by
  rw [mean_yes Ts As N E h, mean_yes Ts As N E h]
  exact comb_both al no Ts.length (unS_U _ _ _) (unS_U _ _ _) fun n hn k => unS_lt (oneS_U Ts As) (fun x n hn => one_lt Ts As x hn) N hn k
theorem mean_out {al : Bool} (h : meanB (oneB Ts As) N E = true) :
    meanB (oneB Ts As) (N ++ E) E = true ∧ meanB (oneB Ts As) E [] = true ∧ (meanS al false Ts.length (oneS Ts As) (oneB Ts As) (N ++ E) E).and (meanS false false Ts.length (oneS Ts As) (oneB Ts As) E []) = S4.zero := by
  have h0 := h
  unfold meanB at h
  rw [Bool.and_eq_true] at h
  have h1 : meanB (oneB Ts As) (N ++ E) E = true := by
    unfold meanB unB
    unfold unB at h
    rw [List.all_append, h.1, h.2]; rfl
  have h2 : meanB (oneB Ts As) E [] = true := by unfold meanB; rw [h.2]; rfl
  refine ⟨h1, h2, ?_⟩
  rw [mean_yes Ts As _ _ h1, mean_yes Ts As _ _ h2]
  exact comb_out al Ts.length (unS_U _ _ _) (unS_U _ _ _)
end
end Go.Proofs.Ytbkejoheefnmiaa
