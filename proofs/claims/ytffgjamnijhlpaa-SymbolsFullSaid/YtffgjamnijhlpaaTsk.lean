/- What Scan gives: plain facts. -/
import Derived.Test.YtffgjamnijhlpaaTsj
namespace Go.Proofs.Ytffgjamnijhlpaa
open Go.RowKit
structure Tk where
  kind : Nat
  text : ByteArray
  line : Int
  col : Int
def Tk.cells (t : Tk) : List Value := [.int .i64 (t.kind : Int), .string t.text, .int .i64 t.line, .int .i64 t.col]
def Tk.val (t : Tk) : Value := .agg #[.int .i64 (t.kind : Int), .string t.text, .int .i64 t.line, .int .i64 t.col]
def posI (s : ByteArray) (i : Nat) : Int × Int := adv s 0 (1, 1) i
/-- the token that begins at j -/
def tkAt (s : ByteArray) (j : Nat) : Tk := ⟨oneK s j, ttext (oneK s j) s j (oneE s j), (posI s j).1, (posI s j).2⟩
/-- what Scan gives from index i on, behind the tokens l -/
def scF (s : ByteArray) : Nat → Nat → List Tk → Option (Int × Nat) × List Tk
  | 0, _, _ => (none, [])
  | n + 1, i, l =>
    if oneC s (sk s i) ≠ 0 then (some (oneC s (sk s i), oneF s (sk s i)), [])
    else if oneK s (sk s i) = 0 then (none, l ++ [tkAt s (sk s i)])
    else scF s n (oneE s (sk s i)) (l ++ [tkAt s (sk s i)])
theorem scF_bad {s : ByteArray} {n i : Nat} {l : List Tk} (h : oneC s (sk s i) ≠ 0) : scF s (n + 1) i l = (some (oneC s (sk s i), oneF s (sk s i)), []) := by simp [scF, h]
theorem scF_end {s : ByteArray} {n i : Nat} {l : List Tk} (h : oneC s (sk s i) = 0) (hk : oneK s (sk s i) = 0) : scF s (n + 1) i l = (none, l ++ [tkAt s (sk s i)]) := by simp [scF, h, hk]
theorem scF_go {s : ByteArray} {n i : Nat} {l : List Tk} (h : oneC s (sk s i) = 0) (hk : oneK s (sk s i) ≠ 0) : scF s (n + 1) i l = scF s n (oneE s (sk s i)) (l ++ [tkAt s (sk s i)]) := by simp [scF, h, hk]
theorem skF_le (s : ByteArray) : ∀ n i, i ≤ s.size → i ≤ skF s n i ∧ skF s n i ≤ s.size
  | 0, i, h => by simp [skF, h]
  | n + 1, i, h => by
    unfold skF
    by_cases hb : chBlk (chI s i) = true
    · rw [if_pos hb]
      have hlt : i < s.size := ch_in (by intro e; rw [e] at hb; exact absurd hb (by decide))
      have := skF_le s n (i + 1) hlt
      omega
    · rw [if_neg hb]
      by_cases h3 : chI s i = 35
      · rw [if_pos h3]
        have hr := run_le lineC s i h
        have := skF_le s n (run lineC s i) hr.2
        omega
      · rw [if_neg h3]; omega
theorem sk_le {s : ByteArray} {i : Nat} (h : i ≤ s.size) : i ≤ sk s i ∧ sk s i ≤ s.size := skF_le s _ i h
theorem oneE_lt {s : ByteArray} {j : Nat} (hc : oneC s j = 0) (hk : oneK s j ≠ 0) : j + 1 ≤ oneE s j ∧ oneE s j ≤ s.size := by
  have h1 : chI s j ≠ -1 := fun e => hk (by simp [oneK, e])
  have hlt := ch_in h1
  by_cases hl : chLet (chI s j) = true
  · have := one_name hl rfl
    rw [this.2.1, run_go hlt (by unfold wordC; rw [hl]; rfl)]
    exact run_le _ s (j + 1) hlt
  · by_cases hd : chDig (chI s j) = true
    · have := one_number hd rfl
      rw [this.2.1, run_go hlt hd]
      exact run_le _ s (j + 1) hlt
    · by_cases h6 : chI s j = 34
      · have hq := one_quoted h6 rfl
        have hr := run_le quoC s (j + 1) hlt
        by_cases e1 : chI s (run quoC s (j + 1)) = 34
        · rw [(hq.1 e1).2.1]
          have := ch_in (s := s) (i := run quoC s (j + 1)) (by rw [e1]; decide)
          omega
        · by_cases e2 : chI s (run quoC s (j + 1)) = -1
          · rw [(hq.2.1 e2).1] at hc; exact absurd hc (by decide)
          · rw [(hq.2.2 e1 e2).1] at hc; exact absurd hc (by decide)
      · have hm := one_mark (code := terr 4 (s.extract j (j + mkN (chI s j) (chI s (j + 1))))) h1 (by simpa using hl) (by simpa using hd) h6 rfl rfl
        rw [hm.2.1]
        have hb := mkN_bd (s := s) hlt
        have hz : mkN (chI s j) (chI s (j + 1)) ≠ 0 := by
          intro e
          rw [hm.2.2.1, e] at hc
          simp [terr] at hc
        omega
theorem posI_adv (s : ByteArray) {i j : Nat} (h : i ≤ j) : adv s i (posI s i) (j - i) = posI s j := by
  unfold posI
  rw [adv_comp s 0 i i (1, 1) (Nat.zero_le _) (by omega) (j - i), show i + (j - i) - 0 = j by omega]
theorem posI_bd (s : ByteArray) (i : Nat) : 0 ≤ (posI s i).1 ∧ (posI s i).1 ≤ 1 + i ∧ 0 ≤ (posI s i).2 ∧ (posI s i).2 ≤ 2 + i := by
  have := adv_bd s 0 (1, 1) (by decide) (by decide) i
  unfold posI
  simp only at this
  omega
theorem oneF_le {s : ByteArray} {j : Nat} : j ≤ oneF s j := by
  unfold oneF
  split
  · rename_i hh
    have hlt : j < s.size := ch_in (by rw [hh.1]; decide)
    have := run_le quoC s (j + 1) hlt
    omega
  · exact Nat.le_refl _
end Go.Proofs.Ytffgjamnijhlpaa
