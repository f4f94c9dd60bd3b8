/- Sets of names as plain lists and words; types and attributes as they lie in memory. No Go text walked. -/
import Derived.Test.YtbkejoheefnmiaaStr
import Derived.Test.YtbkejoheefnmiaaBsf
namespace Go.Proofs.Ytbkejoheefnmiaa
open Go.RowKit
/-- the four words of a set -/
structure S4 where
  (a b c d : Int)
def S4.zero : S4 := ⟨0, 0, 0, 0⟩
def S4.or (x y : S4) : S4 := ⟨bits .or .u64 x.a y.a, bits .or .u64 x.b y.b, bits .or .u64 x.c y.c, bits .or .u64 x.d y.d⟩
def S4.and (x y : S4) : S4 := ⟨bits .and .u64 x.a y.a, bits .and .u64 x.b y.b, bits .and .u64 x.c y.c, bits .and .u64 x.d y.d⟩
def S4.sub (x y : S4) : S4 := ⟨bits .andNot .u64 x.a y.a, bits .andNot .u64 x.b y.b, bits .andNot .u64 x.c y.c, bits .andNot .u64 x.d y.d⟩
def ofS (l : List Int) : S4 := ⟨ofI l 0, ofI l 1, ofI l 2, ofI l 3⟩
def allS (n : Int) : S4 := ofS (allL n)
def withS (n : Int) (x : S4) : S4 := ⟨withI n 0 x.a, withI n 1 x.b, withI n 2 x.c, withI n 3 x.d⟩
/-- where a text stands first in a list; the length if nowhere -/
def idxN (l : List ByteArray) (s : ByteArray) : Nat := l.findIdx fun x => decide (x = s)
def idxI (l : List ByteArray) (s : ByteArray) : Int := if idxN l s < l.length then (idxN l s : Int) else -1
theorem idxN_hit {l : List ByteArray} {s : ByteArray} {i : Nat} (hi : i < l.length) (h : l[i] = s) (ha : ∀ k (_ : k < i) (h' : k < l.length), l[k] ≠ s) : idxN l s = i :=
  (List.findIdx_eq hi).2 ⟨decide_eq_true h, fun j hj => decide_eq_false (ha j hj (by omega))⟩
theorem idxN_none {l : List ByteArray} {s : ByteArray} (ha : ∀ k (h' : k < l.length), l[k] ≠ s) : idxN l s = l.length :=
  List.findIdx_eq_length.2 fun x hx => by
    obtain ⟨i, hi, rfl⟩ := List.mem_iff_getElem.1 hx
    exact decide_eq_false (ha i hi)
theorem idxI_hit {l : List ByteArray} {s : ByteArray} {i : Nat} (hi : i < l.length) (h : l[i] = s) (ha : ∀ k (_ : k < i) (h' : k < l.length), l[k] ≠ s) : idxI l s = i := by
  unfold idxI; rw [idxN_hit hi h ha, if_pos hi]
theorem idxI_none {l : List ByteArray} {s : ByteArray} (ha : ∀ k (h' : k < l.length), l[k] ≠ s) : idxI l s = -1 := by
  unfold idxI; rw [idxN_none ha, if_neg (by omega)]
theorem idxI_lo (l : List ByteArray) (s : ByteArray) : -1 ≤ idxI l s ∧ idxI l s < (l.length : Int) ∨ idxI l s = -1 := by
  unfold idxI; split <;> omega
/-- a list has a text -/
def hasT (l : List ByteArray) (s : ByteArray) : Bool := decide (0 ≤ idxI l s)
abbrev TyE := ByteArray × List ByteArray
abbrev AtE := ByteArray × S4
/-- a type has this name or alias -/
def hitT (n : ByteArray) (t : TyE) : Bool := decide (t.1 = n) || hasT t.2 n
def tyN (L : List TyE) (n : ByteArray) : Nat := L.findIdx (hitT n)
def tyB (L : List TyE) (n : ByteArray) : Bool := decide (tyN L n < L.length)
def tyK (L : List TyE) (n : ByteArray) : Int := if tyN L n < L.length then (tyN L n : Int) else 0
theorem tyN_hit {L : List TyE} {n : ByteArray} {i : Nat} (hi : i < L.length) (h : hitT n L[i] = true) (ha : ∀ k (_ : k < i) (h' : k < L.length), hitT n L[k] = false) : tyN L n = i :=
  (List.findIdx_eq hi).2 ⟨h, fun j hj => ha j hj (by omega)⟩
theorem tyN_none {L : List TyE} {n : ByteArray} (ha : ∀ k (h' : k < L.length), hitT n L[k] = false) : tyN L n = L.length :=
  List.findIdx_eq_length.2 fun x hx => by
    obtain ⟨i, hi, rfl⟩ := List.mem_iff_getElem.1 hx
    exact ha i hi
theorem ty_yes {L : List TyE} {n : ByteArray} {i : Nat} (hi : i < L.length) (h : hitT n L[i] = true) (ha : ∀ k (_ : k < i) (h' : k < L.length), hitT n L[k] = false) : tyB L n = true ∧ tyK L n = i := by
  unfold tyB tyK; rw [tyN_hit hi h ha]; exact ⟨decide_eq_true hi, if_pos hi⟩
theorem ty_no {L : List TyE} {n : ByteArray} (ha : ∀ k (h' : k < L.length), hitT n L[k] = false) : tyB L n = false ∧ tyK L n = 0 := by
  unfold tyB tyK; rw [tyN_none ha]; exact ⟨decide_eq_false (by omega), if_neg (by omega)⟩
theorem tyK_le (L : List TyE) (n : ByteArray) : 0 ≤ tyK L n ∧ tyK L n ≤ L.length := by unfold tyK; split <;> omega
def atN (L : List AtE) (n : ByteArray) : Nat := L.findIdx fun t => decide (t.1 = n)
def atB (L : List AtE) (n : ByteArray) : Bool := decide (atN L n < L.length)
def atS (L : List AtE) (cnt : Int) (n : ByteArray) : S4 := match L[atN L n]? with
  | some t => t.2.and (allS cnt)
  | none => S4.zero
theorem at_yes {L : List AtE} {n : ByteArray} {i : Nat} (cnt : Int) (hi : i < L.length) (h : L[i].1 = n) (ha : ∀ k (_ : k < i) (h' : k < L.length), L[k].1 ≠ n) : atB L n = true ∧ atS L cnt n = L[i].2.and (allS cnt) := by
  have e : atN L n = i := (List.findIdx_eq hi).2 ⟨decide_eq_true h, fun j hj => decide_eq_false (ha j hj (by omega))⟩
  unfold atB atS; rw [e, List.getElem?_eq_getElem hi]; exact ⟨decide_eq_true hi, rfl⟩
theorem at_no {L : List AtE} {n : ByteArray} (cnt : Int) (ha : ∀ k (h' : k < L.length), L[k].1 ≠ n) : atB L n = false ∧ atS L cnt n = S4.zero := by
  have e : atN L n = L.length := List.findIdx_eq_length.2 fun x hx => by
    obtain ⟨i, hi, rfl⟩ := List.mem_iff_getElem.1 hx
    exact decide_eq_false (ha i hi)
  unfold atB atS; rw [e, List.getElem?_eq_none (Nat.le_refl _)]; exact ⟨decide_eq_false (by omega), rfl⟩
/-- what a name means -/
def oneT (Ts : List TyE) (n : ByteArray) : Bool := tyB Ts n && decide (tyK Ts n < 256)
def oneB (Ts : List TyE) (As : List AtE) (n : ByteArray) : Bool := if oneT Ts n then true else atB As n
def oneS (Ts : List TyE) (As : List AtE) (n : ByteArray) : S4 := if oneT Ts n then ofS [tyK Ts n] else atS As Ts.length n
theorem one_yes {Ts : List TyE} {As : List AtE} {n : ByteArray} (h : oneT Ts n = true) : oneB Ts As n = true ∧ oneS Ts As n = ofS [tyK Ts n] := by unfold oneB oneS; rw [h]; exact ⟨rfl, rfl⟩
theorem one_no {Ts : List TyE} {As : List AtE} {n : ByteArray} (h : oneT Ts n = false) : oneB Ts As n = atB As n ∧ oneS Ts As n = atS As Ts.length n := by unfold oneB oneS; rw [h]; exact ⟨rfl, rfl⟩
/-- a slice that reads as these types -/
def Tys (w : World) (v : Value) (L : List TyE) : Prop := ∃ ao cap, v = .slice ao L.length cap ∧ (L ≠ [] → ∃ g o, ao = some ⟨g, o, none⟩ ∧ g < w.heap.size ∧ ∀ k (h : k < L.length), w.cell? ⟨g, o + k * 3, none⟩ = some (.string L[k].1) ∧ ∃ va, w.cell? ⟨g, o + k * 3 + 1, none⟩ = some va ∧ Strs w va L[k].2)
/-- a slice that reads as these attributes -/
def Ats (w : World) (v : Value) (L : List AtE) : Prop := ∃ ao cap, v = .slice ao L.length cap ∧ (L ≠ [] → ∃ g o, ao = some ⟨g, o, none⟩ ∧ g < w.heap.size ∧ ∀ k (h : k < L.length), w.cell? ⟨g, o + k * 5, none⟩ = some (.string L[k].1) ∧ w.cell? ⟨g, o + k * 5 + 1, none⟩ = some (.int .u64 L[k].2.a) ∧ w.cell? ⟨g, o + k * 5 + 1 + 1, none⟩ = some (.int .u64 L[k].2.b) ∧ w.cell? ⟨g, o + k * 5 + 1 + 2, none⟩ = some (.int .u64 L[k].2.c) ∧ w.cell? ⟨g, o + k * 5 + 1 + 3, none⟩ = some (.int .u64 L[k].2.d))
section
variable {w w' : World} {v : Value}
theorem Tys.keep {L : List TyE} (h : Tys w v L) (hb : Below w.heap.size w w') : Tys w' v L := by
  obtain ⟨ao, cap, rfl, hr⟩ := h
  refine ⟨ao, cap, rfl, fun hl => ?_⟩
  obtain ⟨g, o, rfl, hg, hR⟩ := hr hl
  refine ⟨g, o, rfl, Nat.lt_of_lt_of_le hg hb.size, fun k hk => ?_⟩
  obtain ⟨h0, va, h1, h2⟩ := hR k hk
  exact ⟨(World.cell?_of_block (hb.block g hg)).trans h0, va, (World.cell?_of_block (hb.block g hg)).trans h1, h2.keep hb⟩
theorem Ats.keep {L : List AtE} (h : Ats w v L) (hb : Below w.heap.size w w') : Ats w' v L := by
  obtain ⟨ao, cap, rfl, hr⟩ := h
  refine ⟨ao, cap, rfl, fun hl => ?_⟩
  obtain ⟨g, o, rfl, hg, hR⟩ := hr hl
  refine ⟨g, o, rfl, Nat.lt_of_lt_of_le hg hb.size, fun k hk => ?_⟩
  obtain ⟨h0, h1, h2, h3, h4⟩ := hR k hk
  exact ⟨(World.cell?_of_block (hb.block g hg)).trans h0, (World.cell?_of_block (hb.block g hg)).trans h1, (World.cell?_of_block (hb.block g hg)).trans h2, (World.cell?_of_block (hb.block g hg)).trans h3, (World.cell?_of_block (hb.block g hg)).trans h4⟩
end
end Go.Proofs.Ytbkejoheefnmiaa
