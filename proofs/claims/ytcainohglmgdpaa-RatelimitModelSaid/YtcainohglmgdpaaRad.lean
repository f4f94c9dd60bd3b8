/- What is read of a slice, of a struct: cells, each of one cell, and what they hold. No program is named. -/
import Derived.Test.YtcainohglmgdpaaRac
import Derived.OpenShut
import Derived.DataReads
import Derived.ChangeArms
import Derived.SizedLaws
import Derived.Deep.Slices
namespace Go.Proofs.Ytcainohglmgdpaa
open Go.RowKit
section
variable {H : Type} {enc : TypeId × Value → H} {P : Program} {W : World} {base : Nat} {sp : Nat → Bool} {held : Bool}
/-- all cells of a type are of one cell, as far as what is read tells -/
def covB (P : Program) : Nat → TypeId → Bool
  | 0, _ => false
  | n + 1, t => match P.underlying t with
    | some (.struct fs) => (List.range (P.cellsOf t)).all fun j => fs.toList.any fun f => decide (f.offset ≤ j) && decide (j < f.offset + P.cellsOf f.type) && covB P n f.type
    | some (.array k e) => decide (P.cellsOf t = k * P.cellsOf e) && decide (0 < P.cellsOf e) && covB P n e
    | _ => true
theorem one_of : ∀ (m n : Nat) (t : TypeId) (cs : List Value) (x : DataW H × List MemPlace), covB P m t = true → DataW.trod enc P W base sp held n t cs = some x → ∀ u ∈ cs, u.oneCell' = true
  | 0, _, _, _, _, hc, _ => by simp [covB] at hc
  | m + 1, n, t, cs, x, hc, h => by
    unfold covB at hc
    cases hu : P.underlying t with
    | none =>
      cases n with
      | zero => simp [DataW.trod] at h
      | succ k => unfold DataW.trod at h; rw [hu] at h; simp at h
    | some d =>
      rw [hu] at hc
      cases d
      case struct fs =>
        obtain ⟨xs, k, _, _, hl, hlen, hx⟩ := DataW.trod_struct hu h
        intro u hmem
        obtain ⟨j, hj⟩ := List.mem_iff_getElem?.1 hmem
        have hjl : j < P.cellsOf t := by rw [← hl]; exact (List.getElem?_eq_some_iff.1 hj).1
        have h1 := List.all_eq_true.1 hc j (List.mem_range.2 hjl)
        obtain ⟨f, hf, h2⟩ := List.any_eq_true.1 h1
        simp only [Bool.and_eq_true, decide_eq_true_eq] at h2
        obtain ⟨i, hi⟩ := List.mem_iff_getElem?.1 hf
        have hi2 : fs[i]? = some f := by simpa using hi
        have hxi := hx i f hi2
        have hil : i < xs.length := by rw [hlen]; exact (Array.getElem?_eq_some_iff.1 hi2).1
        rw [List.getElem?_eq_getElem hil] at hxi
        refine one_of m k f.type _ _ h2.2 hxi u ?_
        refine List.mem_iff_getElem?.2 ⟨j - f.offset, ?_⟩
        rw [List.getElem?_take, if_pos (by omega), List.getElem?_drop, show f.offset + (j - f.offset) = j by omega, hj]
      case array k e =>
        obtain ⟨xs, q, _, _, hl, hlen, hx⟩ := DataW.trod_array hu h
        simp only [Bool.and_eq_true, decide_eq_true_eq] at hc
        obtain ⟨⟨hk, h0⟩, hce⟩ := hc
        intro u hmem
        obtain ⟨j, hj⟩ := List.mem_iff_getElem?.1 hmem
        have hjl : j < k * P.cellsOf e := by rw [← hk, ← hl]; exact (List.getElem?_eq_some_iff.1 hj).1
        have hi : j / P.cellsOf e < k := (Nat.div_lt_iff_lt_mul h0).2 hjl
        have hxi := hx _ hi
        rw [List.getElem?_eq_getElem (by omega)] at hxi
        refine one_of m q e _ _ hce hxi u ?_
        refine List.mem_iff_getElem?.2 ⟨j % P.cellsOf e, ?_⟩
        rw [List.getElem?_take, if_pos (Nat.mod_lt _ h0), List.getElem?_drop, Nat.div_add_mod' j (P.cellsOf e), hj]
      all_goals
        cases n with
        | zero => simp [DataW.trod] at h
        | succ k =>
          unfold DataW.trod at h
          rw [hu] at h
          intro u hmem
          split at h <;> first
            | (simp only [List.mem_cons, List.not_mem_nil, or_false] at hmem; subst hmem; rfl)
            | (simp at h; done)
            | simp_all
end
end Go.Proofs.Ytcainohglmgdpaa
