/- Words in a text, by their places (plain mathematics). -/
import Derived.Test.YthjebccidcichaaLvo
namespace Go.Proofs.Ythjebccidcichaa
open Go.RowKit
theorem byI_at {S : ByteArray} {i : Nat} (h : i < S.size) : ∃ c, S.data.toList.drop i = c :: S.data.toList.drop (i + 1) ∧ byI S i = (c.toNat : Int) ∧ wdB (byI S i) = wd c := by
  have hl : i < S.data.toList.length := by rw [← Go.Lib.size_eq]; exact h
  have hg : S.data.toList.getD i 0 = S.data.toList[i] := by rw [List.getD_eq_getElem?_getD, List.getElem?_eq_getElem hl]; rfl
  refine ⟨S.data.toList[i], List.drop_eq_getElem_cons hl, ?_, ?_⟩
  · unfold byI; rw [hg]
  · unfold wd byI; rw [hg]
theorem wEnd_list {S : ByteArray} : ∀ (n : Nat) {i : Nat}, S.size - i = n → i ≤ S.size → wEnd S i = i + ((S.data.toList.drop i).takeWhile wd).length
  | 0, i, h, hi => by
    obtain rfl : i = S.size := by omega
    rw [wEnd_stop (fun h => absurd h.1 (Nat.lt_irrefl _)), List.drop_eq_nil_of_le (by rw [← Go.Lib.size_eq]; exact Nat.le_refl _)]
    rfl
  | n + 1, i, h, hi => by
    have hlt : i < S.size := by omega
    obtain ⟨c, h1, _, h3⟩ := byI_at hlt
    rw [h1, List.takeWhile_cons]
    by_cases hw : wd c = true
    · rw [wEnd_step hlt (h3.trans hw), wEnd_list n (by omega) (by omega), if_pos hw, List.length_cons]
      omega
    · rw [wEnd_stop (fun h => hw (h3.symm.trans h.2)), if_neg hw]
      rfl
theorem wEnd_is {S : ByteArray} {i : Nat} (hi : i ≤ S.size) : wEnd S i = i + ((S.data.toList.drop i).takeWhile wd).length := wEnd_list _ rfl hi
theorem take_of_eq {l a b : Bs} (h : l = a ++ b) : l.take a.length = a ∧ l.drop a.length = b := by
  subst h
  exact ⟨by simp, by simp⟩
theorem ext_word {S : ByteArray} {i : Nat} (hi : i ≤ S.size) : S.extract i (wEnd S i) = mk ((S.data.toList.drop i).takeWhile wd) := by
  rw [Go.Lib.extract_eq, wEnd_is hi, Nat.add_sub_cancel_left]
  rw [(take_of_eq (span_take (S.data.toList.drop i))).1]
  rfl
theorem drop_word {S : ByteArray} {i : Nat} (hi : i ≤ S.size) : S.data.toList.drop (wEnd S i) = (S.data.toList.drop i).dropWhile wd := by
  rw [wEnd_is hi, ← List.drop_drop]
  exact (take_of_eq (span_take (S.data.toList.drop i))).2
theorem word_none {S : ByteArray} {i : Nat} (hi : i ≤ S.size) : wEnd S i = i ↔ (S.data.toList.drop i).takeWhile wd = [] := by
  rw [wEnd_is hi]
  constructor
  · intro h; exact List.eq_nil_of_length_eq_zero (by omega)
  · intro h; rw [h]; rfl
theorem drop_all (S : ByteArray) : S.data.toList.drop S.size = [] := List.drop_eq_nil_of_le (by rw [← Go.Lib.size_eq]; exact Nat.le_refl _)
/-- one span at a place -/
theorem rfSp_bad {s : Bs} (h : s.takeWhile wd = []) : rfSp s = none := by unfold rfSp; rw [if_pos h]
theorem rfSp_plain {s : Bs} (h : s.takeWhile wd ≠ []) (h2 : (s.dropWhile wd).head? ≠ some 46) : rfSp s = some ((s.takeWhile wd, []), s.dropWhile wd) := by
  unfold rfSp
  rw [if_neg h]
  split
  · rename_i r he; rw [he] at h2; exact absurd rfl h2
  · rfl
theorem rfSp_bad2 {s r : Bs} (h : s.takeWhile wd ≠ []) (h2 : s.dropWhile wd = 46 :: r) (h3 : r.takeWhile wd = []) : rfSp s = none := by
  unfold rfSp
  rw [if_neg h, h2]
  simp only [h3, if_true]
theorem rfSp_two {s r : Bs} (h : s.takeWhile wd ≠ []) (h2 : s.dropWhile wd = 46 :: r) (h3 : r.takeWhile wd ≠ []) : rfSp s = some ((s.takeWhile wd, r.takeWhile wd), r.dropWhile wd) := by
  unfold rfSp
  rw [if_neg h, h2]
  simp only [if_neg h3]
end Go.Proofs.Ythjebccidcichaa
