/- Behind a statement whose order is left open: the frame, but for the statement's own slots, is what it was (for a cut around it). -/
import Derived.Test.YtbkejoheefnmiaaNte
import Derived.Deep.DeepCutAuto
namespace Go.Proofs.Ytbkejoheefnmiaa
open Go.RowKit
/-- the slots from lo to hi as they are now, the others as they were -/
def cutL (a : Act) (lo hi : Nat) : Nat → List Value → List Value
  | _, [] => []
  | t, v :: l => (bif Nat.ble lo t && Nat.ble t hi then a.tmps[t]?.getD undef else v) :: cutL a lo hi (t + 1) l
theorem cutL_eq (a : Act) (lo hi : Nat) : ∀ (l : List Value) (t : Nat) (m : List Value), m.length = l.length → (∀ k (h : k < m.length), a.tmps[t + k]? = some m[k]) → (∀ k (h : k < l.length) (h' : k < m.length), (Nat.ble lo (t + k) && Nat.ble (t + k) hi) = false → m[k] = l[k]) → m = cutL a lo hi t l
  | [], _, m, hm, _, _ => List.eq_nil_of_length_eq_zero hm
  | v :: l, t, [], hm, _, _ => by simp at hm
  | v :: l, t, x :: m, hm, hg, hs => by
    have h0 := hg 0 (by simp)
    unfold cutL
    congr 1
    · cases hb : (Nat.ble lo t && Nat.ble t hi)
      · exact hs 0 (by simp) (by simp) hb
      · simp only [cond_true]
        have h0' : a.tmps[t]? = some x := h0
        rw [h0']; rfl
    · refine cutL_eq a lo hi l (t + 1) m (by simpa using hm) (fun k h => ?_) (fun k h h' hb => ?_)
      · have := hg (k + 1) (by simpa using h)
        rwa [show t + (k + 1) = t + 1 + k by omega] at this
      · have := hs (k + 1) (by simpa using h) (by simpa using h') (by rwa [show t + (k + 1) = t + 1 + k by omega])
        simpa using this
theorem act_ext {a : Act} {t : Array Value} {d : List Deferred} (h1 : a.tmps = t) (h2 : a.defers = d) : a = { tmps := t, defers := d } := by subst h1 h2; rfl
theorem end_cut {ops : Array Oper} {n : Nat} {Φ : Nat → Value → World → Prop} {a0 a : Act} {w : World} (lo hi : Nat) (hs : a.tmps.size = a0.tmps.size) (hd : a.defers = a0.defers) (hF : ∀ t, factEnd ops n Φ a0 a w t)
    (hB : ((List.range a0.tmps.size).all fun t => (Nat.ble lo t && Nat.ble t hi) || (srcOf ops n t).isNone) = true) : a = { tmps := (cutL a lo hi 0 a0.tmps.toList).toArray, defers := a0.defers } := by
  have e : a.tmps = (cutL a lo hi 0 a0.tmps.toList).toArray := by
    have e2 : a.tmps.toList = cutL a lo hi 0 a0.tmps.toList := by
      refine cutL_eq a lo hi _ 0 _ (by simpa using hs) (fun k h => ?_) (fun k h h' hb => ?_)
      · have h2 : k < a.tmps.size := by simpa using h
        rw [Nat.zero_add, Array.getElem?_eq_getElem h2]
        simp
      · rw [Nat.zero_add] at hb
        have h1 : k < a0.tmps.size := by simpa using h
        have h2 : k < a.tmps.size := by simpa using h'
        have := List.all_eq_true.1 hB k (List.mem_range.2 h1)
        rw [hb, Bool.false_or] at this
        have hn : srcOf ops n k = none := by
          cases hc : srcOf ops n k with
          | none => rfl
          | some j => rw [hc] at this; cases this
        have hk := hF k
        unfold factEnd at hk
        rw [hn] at hk
        have hk2 : a.tmps[k]?.getD undef = a0.tmps[k]?.getD undef := by simpa [Act.eval] using hk
        rw [Array.getElem?_eq_getElem h1, Array.getElem?_eq_getElem h2] at hk2
        simpa using hk2
    rw [← e2]
  exact act_ext e hd
end Go.Proofs.Ytbkejoheefnmiaa
