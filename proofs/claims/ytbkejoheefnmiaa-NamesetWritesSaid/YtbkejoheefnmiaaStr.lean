/- Slices of texts in memory. -/
import Derived.Test.YtbkejoheefnmiaaMm
namespace Go.Proofs.Ytbkejoheefnmiaa
open Go.RowKit
def SRow (w : World) (g o : Nat) (l : List ByteArray) : Prop := ∀ k (h : k < l.length), w.cell? ⟨g, o + k, none⟩ = some (.string l[k])
/-- a slice that reads as these texts -/
def Strs (w : World) (v : Value) (l : List ByteArray) : Prop := ∃ ao cap, v = .slice ao l.length cap ∧ (l ≠ [] → ∃ g o, ao = some ⟨g, o, none⟩ ∧ SRow w g o l)
theorem below_drewN {B : Nat} {w : World} (n : Nat) : Below B w (w.drewN n) := ⟨rfl, rfl, rfl, Nat.le_refl _, fun _ _ => rfl⟩
section
variable {w w' : World} {v : Value} {l : List ByteArray} {g o : Nat}
theorem SRow.lt (h : SRow w g o l) (hl : 0 < l.length) : g < w.heap.size := by
  have := h 0 hl
  rcases Nat.lt_or_ge g w.heap.size with h' | h'
  · exact h'
  · simp [World.cell?, Array.getElem?_eq_none h'] at this
theorem SRow.keep (h : SRow w g o l) (hb : w'.heap[g]? = w.heap[g]?) : SRow w' g o l := fun k hk => (World.cell?_of_block hb).trans (h k hk)
theorem Strs.nil : Strs w (.slice none 0 0) [] := ⟨none, 0, rfl, fun h => absurd rfl h⟩
theorem Strs.keep (h : Strs w v l) (hb : Below w.heap.size w w') : Strs w' v l := by
  obtain ⟨ao, cap, rfl, hr⟩ := h
  refine ⟨ao, cap, rfl, fun hl => ?_⟩
  obtain ⟨g, o, rfl, hR⟩ := hr hl
  exact ⟨g, o, rfl, hR.keep (hb.block g (hR.lt (List.length_pos_iff.2 hl)))⟩
end
def sameS (l m : List ByteArray) : Bool := decide (l = m)
theorem sameS_self (l : List ByteArray) : sameS l l = true := decide_eq_true rfl
theorem sameS_len {l m : List ByteArray} (h : l.length ≠ m.length) : sameS l m = false := decide_eq_false fun e => h (by rw [e])
theorem sameS_no {l m : List ByteArray} {i : Nat} (h1 : i < l.length) (h2 : i < m.length) (h : l[i] ≠ m[i]) : sameS l m = false := decide_eq_false fun e => h (by subst e; rfl)
theorem sameS_yes {l m : List ByteArray} (h : l.length = m.length) (hk : ∀ k (h1 : k < l.length) (h2 : k < m.length), l[k] = m[k]) : sameS l m = true := decide_eq_true (List.ext_getElem h hk)
theorem bytes_beq (a b : ByteArray) : (a.toList == b.toList) = decide (a = b) := by
  rw [Bool.eq_iff_iff]
  simp only [beq_iff_eq, decide_eq_true_eq]
  constructor
  · intro h
    rw [ByteArray.toList_eq, ByteArray.toList_eq] at h
    exact ByteArray.ext (Array.toList_inj.1 h)
  · rintro rfl; rfl
end Go.Proofs.Ytbkejoheefnmiaa
