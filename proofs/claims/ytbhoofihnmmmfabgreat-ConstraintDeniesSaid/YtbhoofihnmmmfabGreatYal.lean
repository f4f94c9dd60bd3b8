/- Part of the proof: Cxo. No conditions. -/
import Derived.Test.YtbhoofihnmmmfabGreatYak
namespace Go.Proofs.YtbhoofihnmmmfabGreat
open Go.RowKit
def nodeR (op a r b : Int) (nn : Nat) (s : S4) (m : Nat) : Int :=
 if fldR (kidsN op) op a r b nn s m = false then 2 else if 0 < kidsN op then 0 else if inB a 15 = false ∨ inB b 15 = false ∨ inB r 5 = false then 3 else if op = 9 ∧ sortA a = 3 then 13 else if op = 8 ∧ (sortA a ≠ sortA b ∨ (sortA a ≠ 3 ∧ 1 < r)) then 13 else 0
theorem hasF_no (a r b : Int) (nn : Nat) (s : S4) : hasF a r b nn s = false ↔ a = 0 ∧ r = 0 ∧ b = 0 ∧ nn = 0 ∧ isz s = true := by
 unfold hasF
 simp only [Bool.or_eq_false_iff, Bool.not_eq_false', beq_iff_eq, decide_eq_false_iff_not]
 constructor
 · rintro ⟨h1, h2, h3, h4, h5⟩; exact ⟨h1, h2, h3, by omega, h5⟩
 · rintro ⟨h1, h2, h3, h4, h5⟩; exact ⟨h1, h2, h3, by omega, h5⟩
theorem fldR_yes (K op a r b : Int) (nn : Nat) (s : S4) (m : Nat) : fldR K op a r b nn s m = true ↔ K = (m : Int) ∧ (op = 8 ∨ (r = 0 ∧ b = 0)) ∧ (¬ 0 < K ∨ a = 0) ∧ nn = 0 ∧ (op = 9 ∨ isz s = true) := by
 unfold fldR
 simp only [Bool.and_eq_true, Bool.or_eq_true, Bool.not_eq_true', bne_eq_false_iff_eq, beq_iff_eq, decide_eq_false_iff_not]
 constructor
 · rintro ⟨h1, h2, h3, h4, h5⟩; exact ⟨h1, h2, h3, by omega, h5⟩
 · rintro ⟨h1, h2, h3, h4, h5⟩; exact ⟨h1, h2, h3, by omega, h5⟩
theorem isz_zero : isz S4.zero = true := by unfold isz; decide
theorem node0 (op a r b : Int) (nn : Nat) (s : S4) (m : Nat) : nodeR op a r b nn s m = 0 ↔ operE 15 op a r b nn s m = 0 := by
 have hi : ∀ x n : Int, inB x n = false ↔ (x < 0 ∨ n ≤ x) := fun x n => by unfold inB; rw [decide_eq_false_iff_not]; omega
 unfold nodeR operE
 cases hf : fldR (kidsN op) op a r b nn s m with
 | false =>
   rw [if_pos rfl]
   have hn : ¬ (fldR (kidsN op) op a r b nn s m = true) := by rw [hf]; simp
   rw [fldR_yes] at hn
   refine ⟨fun h => by omega, fun h => absurd h ?_⟩
   unfold kidsN at hn
   by_cases h2 : op = 2
   · rw [if_pos h2] at hn ⊢
     have : m ≠ 1 ∨ hasF a r b nn s = true := by
      by_cases e : m = 1
      · refine .inr ?_
        cases hh : hasF a r b nn s with
        | true => rfl
        | false => rw [hasF_no] at hh; exact absurd ⟨by omega, .inr ⟨hh.2.1, hh.2.2.1⟩, .inr hh.1, hh.2.2.2.1, .inr hh.2.2.2.2⟩ hn
      · exact .inl e
     rw [if_pos this]; omega
   · rw [if_neg h2] at hn ⊢
     by_cases h3 : op = 3 ∨ op = 4
     · rw [if_pos h3] at hn ⊢
       have : m ≠ 2 ∨ hasF a r b nn s = true := by
        by_cases e : m = 2
        · refine .inr ?_
          cases hh : hasF a r b nn s with
          | true => rfl
          | false => rw [hasF_no] at hh; exact absurd ⟨by omega, .inr ⟨hh.2.1, hh.2.2.1⟩, .inr hh.1, hh.2.2.2.1, .inr hh.2.2.2.2⟩ hn
        · exact .inl e
       rw [if_pos this]; omega
     · rw [if_neg h3] at hn ⊢
       by_cases h8 : op = 8
       · rw [if_pos (.inl h8)] at hn
         rw [if_pos h8]
         have : m ≠ 0 ∨ hasF 0 0 0 nn s = true := by
          by_cases e : m = 0
          · refine .inr ?_
            cases hh : hasF 0 0 0 nn s with
            | true => rfl
            | false => rw [hasF_no] at hh; exact absurd ⟨by omega, .inl h8, .inl (by omega), hh.2.2.2.1, .inr hh.2.2.2.2⟩ hn
          · exact .inl e
         rw [if_pos this]; omega
       · by_cases h9 : op = 9
         · rw [if_pos (.inr h9)] at hn
           rw [if_neg h8, if_pos h9]
           have : m ≠ 0 ∨ hasF 0 r b nn S4.zero = true := by
            by_cases e : m = 0
            · refine .inr ?_
              cases hh : hasF 0 r b nn S4.zero with
              | true => rfl
              | false => rw [hasF_no] at hh; exact absurd ⟨by omega, .inr ⟨hh.2.1, hh.2.2.1⟩, .inl (by omega), hh.2.2.2.1, .inl h9⟩ hn
            · exact .inl e
           rw [if_pos this]; omega
         · rw [if_neg h8, if_neg h9]; omega
 | true =>
   rw [if_neg (by simp)]
   rw [fldR_yes] at hf
   by_cases h2 : op = 2
   · have hk : kidsN op = 1 := by unfold kidsN; rw [if_pos h2]
     rw [hk] at hf ⊢
     rw [if_pos (by omega), if_pos h2]
     have : ¬ (m ≠ 1 ∨ hasF a r b nn s = true) := by
      rintro (e | e)
      · omega
      · have : hasF a r b nn s = false := (hasF_no _ _ _ _ _).2 ⟨by omega, by omega, by omega, hf.2.2.2.1, hf.2.2.2.2.resolve_left (by omega)⟩
        rw [this] at e; cases e
     rw [if_neg this]
   · by_cases h3 : op = 3 ∨ op = 4
     · have hk : kidsN op = 2 := by unfold kidsN; rw [if_neg h2, if_pos h3]
       rw [hk] at hf ⊢
       rw [if_pos (by omega), if_neg h2, if_pos h3]
       have : ¬ (m ≠ 2 ∨ hasF a r b nn s = true) := by
        rintro (e | e)
        · omega
        · have : hasF a r b nn s = false := (hasF_no _ _ _ _ _).2 ⟨by omega, by omega, by omega, hf.2.2.2.1, hf.2.2.2.2.resolve_left (by omega)⟩
          rw [this] at e; cases e
       rw [if_neg this]
     · by_cases h8 : op = 8
       · have hk : kidsN op = 0 := by unfold kidsN; rw [if_neg h2, if_neg h3, if_pos (show op = 8 ∨ op = 9 from .inl h8)]
         rw [hk] at hf ⊢
         rw [if_neg (by omega : ¬ (0 : Int) < 0), if_neg h2, if_neg h3, if_pos h8]
         have : ¬ (m ≠ 0 ∨ hasF 0 0 0 nn s = true) := by
          rintro (e | e)
          · omega
          · have : hasF 0 0 0 nn s = false := (hasF_no _ _ _ _ _).2 ⟨rfl, rfl, rfl, hf.2.2.2.1, hf.2.2.2.2.resolve_left (by omega)⟩
            rw [this] at e; cases e
         rw [if_neg this]
         unfold cmpE
         by_cases g1 : a < 0 ∨ 15 ≤ a ∨ b < 0 ∨ 15 ≤ b ∨ r < 0 ∨ 4 < r
         · rw [if_pos (by rw [hi, hi, hi]; omega), if_pos g1]
         · rw [if_neg (by rw [hi, hi, hi]; omega), if_neg g1, if_neg (show ¬ (op = 9 ∧ sortA a = 3) from fun k => by omega)]
           by_cases g2 : sortA a ≠ sortA b ∨ (sortA a ≠ 3 ∧ 1 < r)
           · rw [if_pos ⟨h8, g2⟩, if_pos g2]
           · rw [if_neg (fun k => g2 k.2), if_neg g2]
       · by_cases h9 : op = 9
         · have hk : kidsN op = 0 := by unfold kidsN; rw [if_neg h2, if_neg h3, if_pos (show op = 8 ∨ op = 9 from .inr h9)]
           rw [hk] at hf ⊢
           rw [if_neg (by omega : ¬ (0 : Int) < 0), if_neg h2, if_neg h3, if_neg h8, if_pos h9]
           have hrb : r = 0 ∧ b = 0 := hf.2.1.resolve_left h8
           have : ¬ (m ≠ 0 ∨ hasF 0 r b nn S4.zero = true) := by
            rintro (e | e)
            · omega
            · have : hasF 0 r b nn S4.zero = false := (hasF_no _ _ _ _ _).2 ⟨rfl, hrb.1, hrb.2, hf.2.2.2.1, isz_zero⟩
              rw [this] at e; cases e
           rw [if_neg this]
           unfold memE
           by_cases g1 : a < 0 ∨ 15 ≤ a
           · rw [if_pos (by rw [hi, hi, hi]; omega), if_pos g1]
           · rw [if_neg (by rw [hi, hi, hi]; omega), if_neg g1]
             by_cases g2 : sortA a = 3
             · rw [if_pos ⟨h9, g2⟩, if_pos g2]
             · rw [if_neg (fun k => g2 k.2), if_neg g2, if_neg (fun k => h8 k.1)]
         · have hk : kidsN op = -1 := by unfold kidsN; rw [if_neg h2, if_neg h3, if_neg (show ¬ (op = 8 ∨ op = 9) by omega)]
           rw [hk] at hf
           omega
end Go.Proofs.YtbhoofihnmmmfabGreat
