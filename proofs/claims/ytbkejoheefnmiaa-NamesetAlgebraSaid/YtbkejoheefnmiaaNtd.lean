/- What the examples of the laws are, as plain facts. Condition: at most a million names, types, attributes and aliases. -/
import Derived.Test.YtbkejoheefnmiaaNtb
import Derived.Test.YtbkejoheefnmiaaNss
import Derived.Test.YtbkejoheefnmiaaNsu
import Derived.Test.YtbkejoheefnmiaaNsy
import Derived.Test.YtbkejoheefnmiaaNsz
namespace Go.Proofs.Ytbkejoheefnmiaa
open Go.RowKit
theorem s4_eq {x y : S4} (a : x.a = y.a) (b : x.b = y.b) (c : x.c = y.c) (d : x.d = y.d) : x = y := by
  cases x; cases y; simp_all
theorem mn0 : meanS false false sTs.length (oneS sTs sAs) (oneB sTs sAs) [⟨#[97]⟩, ⟨#[100]⟩] [] = ofS [0, 1, 2] := s4_eq (by decide +kernel) (by decide +kernel) (by decide +kernel) (by decide +kernel)
theorem mb0 : meanB (oneB sTs sAs) [⟨#[97]⟩, ⟨#[100]⟩] [] = true := by decide +kernel
theorem mn1 : meanS true false sTs.length (oneS sTs sAs) (oneB sTs sAs) [] [⟨#[100]⟩] = ofS [0] := s4_eq (by decide +kernel) (by decide +kernel) (by decide +kernel) (by decide +kernel)
theorem mb1 : meanB (oneB sTs sAs) [] [⟨#[100]⟩] = true := by decide +kernel
theorem mn2 : meanS false true sTs.length (oneS sTs sAs) (oneB sTs sAs) [⟨#[100]⟩] [] = ofS [0] := s4_eq (by decide +kernel) (by decide +kernel) (by decide +kernel) (by decide +kernel)
theorem mb2 : meanB (oneB sTs sAs) [⟨#[100]⟩] [] = true := by decide +kernel
theorem mn3 : meanS false false sTs.length (oneS sTs sAs) (oneB sTs sAs) [⟨#[100]⟩] [⟨#[99]⟩] = ofS [1] := s4_eq (by decide +kernel) (by decide +kernel) (by decide +kernel) (by decide +kernel)
theorem mb3 : meanB (oneB sTs sAs) [⟨#[100]⟩] [⟨#[99]⟩] = true := by decide +kernel
theorem mn4 : meanS false false sTs.length (oneS sTs sAs) (oneB sTs sAs) [] [⟨#[97]⟩] = ofS [] := s4_eq (by decide +kernel) (by decide +kernel) (by decide +kernel) (by decide +kernel)
theorem mb4 : meanB (oneB sTs sAs) [] [⟨#[97]⟩] = true := by decide +kernel
theorem mn5 : meanS false true sTs.length (oneS sTs sAs) (oneB sTs sAs) [] [⟨#[97]⟩] = ofS [0, 1, 2] := s4_eq (by decide +kernel) (by decide +kernel) (by decide +kernel) (by decide +kernel)
theorem mb5 : meanB (oneB sTs sAs) [] [⟨#[97]⟩] = true := by decide +kernel
theorem awE : errI (meanB (oneB sTs sAs) [⟨#[101]⟩] []) 11 = 11 := by decide +kernel
def rw2 : List ByteArray := [⟨#[114, 101, 97, 100]⟩, ⟨#[119, 114, 105, 116, 101]⟩]
def pqr : List ByteArray := [⟨#[112]⟩, ⟨#[113]⟩, ⟨#[114]⟩]
def dfl : List ByteArray := [⟨#[100, 105, 114]⟩, ⟨#[102, 105, 108, 101]⟩]
theorem awP1 : permI (meanB (numB rw2 32) [] [⟨#[114, 101, 97, 100]⟩]) (meanS true false ((min rw2.length 32 : Nat) : Int) (numS rw2) (numB rw2 32) [] [⟨#[114, 101, 97, 100]⟩]).a = 2 := by decide +kernel
theorem awP2 : errI (meanB (numB rw2 32) [] [⟨#[114, 101, 97, 100]⟩]) 21 = 0 := by decide +kernel
theorem awT1 : tyK sTs ⟨#[120]⟩ = 0 := by decide +kernel
theorem awT2 : tyB sTs ⟨#[120]⟩ = true := by decide +kernel
theorem awA1 : atS sAs sTs.length ⟨#[100]⟩ = ofS [1, 2] := s4_eq (by decide +kernel) (by decide +kernel) (by decide +kernel) (by decide +kernel)
theorem awA2 : atB sAs ⟨#[100]⟩ = true := by decide +kernel
theorem awL1 : meanS false true ((min pqr.length 256 : Nat) : Int) (numS pqr) (numB pqr 256) [⟨#[113]⟩] [] = ofS [0, 2] := s4_eq (by decide +kernel) (by decide +kernel) (by decide +kernel) (by decide +kernel)
theorem awL2 : errI (meanB (numB pqr 256) [⟨#[113]⟩] []) 11 = 0 := by decide +kernel
theorem awC1 : meanS false false ((min dfl.length 256 : Nat) : Int) (numS dfl) (numB dfl 256) [⟨#[102, 105, 108, 101]⟩] [] = ofS [1] := s4_eq (by decide +kernel) (by decide +kernel) (by decide +kernel) (by decide +kernel)
theorem awC2 : errI (meanB (numB dfl 256) [⟨#[102, 105, 108, 101]⟩] []) 20 = 0 := by decide +kernel
theorem awC3 : meanS false false ((min ([] : List ByteArray).length 256 : Nat) : Int) (numS []) (numB [] 256) [⟨#[108, 105, 110, 107]⟩] [] = ofS [] := s4_eq (by decide +kernel) (by decide +kernel) (by decide +kernel) (by decide +kernel)
theorem awC4 : errI (meanB (numB [] 256) [⟨#[108, 105, 110, 107]⟩] []) 20 = 20 := by decide +kernel
theorem awN : nmL (ofS [0, 2, 9]) (sTs.map (·.1)) (sTs.map (·.1)).length = [⟨#[97]⟩, ⟨#[99]⟩] := by decide +kernel
theorem awV : vecL 6 rw2 rw2.length = [⟨#[119, 114, 105, 116, 101]⟩] := by decide +kernel
theorem of_U (l : List Nat) : (ofS (l.map (fun (n : Nat) => (n : Int)))).U := by
  have u : ∀ X : Nat, X < 18446744073709551616 → U64 (X : Int) := fun X h => ⟨by omega, by omega⟩
  obtain ⟨X0, e0, h0, _⟩ := ofI_word l 0
  obtain ⟨X1, e1, h1, _⟩ := ofI_word l 1
  obtain ⟨X2, e2, h2, _⟩ := ofI_word l 2
  obtain ⟨X3, e3, h3, _⟩ := ofI_word l 3
  exact ⟨by show U64 (ofI _ 0); rw [show ofI _ 0 = (X0 : Int) from e0]; exact u _ h0, by show U64 (ofI _ 1); rw [show ofI _ 1 = (X1 : Int) from e1]; exact u _ h1, by show U64 (ofI _ 2); rw [show ofI _ 2 = (X2 : Int) from e2]; exact u _ h2, by show U64 (ofI _ 3); rw [show ofI _ 3 = (X3 : Int) from e3]; exact u _ h3⟩
section
variable {w : World} {g : Nat} {t : TypeId}
theorem strs_new1 (s : ByteArray) (hg : g = w.heap.size) : Strs (w.alloc (.cells #[.string s] t)) (.slice (some ⟨g, 0, none⟩) 1 1) [s] := by
  subst hg
  refine ⟨_, _, rfl, fun _ => ⟨_, _, rfl, fun k hk => ?_⟩⟩
  obtain rfl : k = 0 := by simpa using hk
  exact (Blk.new w t #[.string s]).cell 0
theorem strs_new2 (s u : ByteArray) (hg : g = w.heap.size) : Strs (w.alloc (.cells #[.string s, .string u] t)) (.slice (some ⟨g, 0, none⟩) 2 2) [s, u] := by
  subst hg
  refine ⟨_, _, rfl, fun _ => ⟨_, _, rfl, fun k hk => ?_⟩⟩
  have hk2 : k = 0 ∨ k = 1 := by simp at hk; omega
  rcases hk2 with rfl | rfl
  · exact (Blk.new w t #[.string s, .string u]).cell 0
  · exact (Blk.new w t #[.string s, .string u]).cell 1
theorem strs_new3 (s u v : ByteArray) (hg : g = w.heap.size) : Strs (w.alloc (.cells #[.string s, .string u, .string v] t)) (.slice (some ⟨g, 0, none⟩) 3 3) [s, u, v] := by
  subst hg
  refine ⟨_, _, rfl, fun _ => ⟨_, _, rfl, fun k hk => ?_⟩⟩
  have hk2 : k = 0 ∨ k = 1 ∨ k = 2 := by simp at hk; omega
  rcases hk2 with rfl | rfl | rfl
  · exact (Blk.new w t #[.string s, .string u, .string v]).cell 0
  · exact (Blk.new w t #[.string s, .string u, .string v]).cell 1
  · exact (Blk.new w t #[.string s, .string u, .string v]).cell 2
theorem cls_new2 (s u : ByteArray) (hg : g = w.heap.size) : Cls (w.alloc (.cells #[.string s, .slice none 0 0, .string u, .slice none 0 0] t)) (.slice (some ⟨g, 0, none⟩) 2 2) [s, u] := by
  subst hg
  refine ⟨_, _, rfl, Nat.le_refl _, fun _ => ⟨_, _, rfl, by simp, fun k hk => ?_⟩⟩
  have hk2 : k = 0 ∨ k = 1 := by simp at hk; omega
  have B := Blk.new w t #[.string s, .slice none 0 0, .string u, .slice none 0 0]
  rcases hk2 with rfl | rfl
  · exact ⟨B.cell 0, _, _, _, B.cell 1⟩
  · exact ⟨B.cell 2, _, _, _, B.cell 3⟩
theorem ints_at (l : List Int) (hg : g = w.heap.size) : Ints (w.alloc (.cells (l.map (Value.int .i64)).toArray t)) (some ⟨g, 0, none⟩) l := fun i hi => by
  subst hg
  refine ⟨w.heap.size, 0, rfl, ?_, by simp⟩
  rw [Nat.zero_add, cell_of_row _ w.heap.size i _ _ _ (heap_alloc_new w _)]
  simp [hi]
end
end Go.Proofs.Ytbkejoheefnmiaa
