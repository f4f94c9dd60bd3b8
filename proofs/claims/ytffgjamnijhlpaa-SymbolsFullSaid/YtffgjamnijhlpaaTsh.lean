/- What a source's next token is: plain functions on bytes. -/
import Derived.Test.YtffgjamnijhlpaaTsg
namespace Go.Proofs.Ytffgjamnijhlpaa
open Go.RowKit
/-- the first index from i on at which p does not hold -/
def runF (p : Int → Bool) (s : ByteArray) : Nat → Nat → Nat
  | 0, i => i
  | n + 1, i => if p (chI s i) = true then runF p s n (i + 1) else i
def run (p : Int → Bool) (s : ByteArray) (i : Nat) : Nat := runF p s (s.size - i) i
theorem run_go {p : Int → Bool} {s : ByteArray} {i : Nat} (h : i < s.size) (hp : p (chI s i) = true) : run p s i = run p s (i + 1) := by
  unfold run
  rw [show s.size - i = (s.size - (i + 1)) + 1 by omega, runF, if_pos hp]
theorem run_stop {p : Int → Bool} {s : ByteArray} {i : Nat} (hp : p (chI s i) = false) : run p s i = i := by
  unfold run
  cases hn : s.size - i with
  | zero => rfl
  | succ n => rw [runF, if_neg (by rw [hp]; exact Bool.false_ne_true)]
theorem runF_le (p : Int → Bool) (s : ByteArray) : ∀ n i, i ≤ runF p s n i ∧ runF p s n i ≤ i + n
  | 0, i => by simp [runF]
  | n + 1, i => by
    have := runF_le p s n (i + 1)
    simp only [runF]
    split <;> omega
theorem run_le (p : Int → Bool) (s : ByteArray) (i : Nat) (h : i ≤ s.size) : i ≤ run p s i ∧ run p s i ≤ s.size := by
  have := runF_le p s (s.size - i) i
  unfold run
  omega
def wordC (c : Int) : Bool := chLet c || chDig c
def quoC (c : Int) : Bool := chPrt c && !decide (c = 34)
def lineC (c : Int) : Bool := !decide (c = 10) && !decide (c = -1)
/-- the first index from i on that begins a token, or the end -/
def skF (s : ByteArray) : Nat → Nat → Nat
  | 0, i => i
  | n + 1, i => if chBlk (chI s i) = true then skF s n (i + 1) else if chI s i = 35 then skF s n (run lineC s i) else i
def sk (s : ByteArray) (i : Nat) : Nat := skF s (s.size + 1 - i) i
theorem ch_in {s : ByteArray} {i : Nat} (h : chI s i ≠ -1) : i < s.size := by
  by_cases hh : i < s.size
  · exact hh
  · exact absurd (chI_ge hh) h
theorem hash_run {s : ByteArray} {i : Nat} (h : chI s i = 35) : i < run lineC s i := by
  have hi := ch_in (s := s) (i := i) (by rw [h]; decide)
  rw [run_go hi (by rw [h]; decide)]
  have := run_le lineC s (i + 1) (by omega)
  omega
theorem skF_fuel (s : ByteArray) : ∀ n m i, s.size + 1 - i ≤ n → s.size + 1 - i ≤ m → i ≤ s.size → skF s n i = skF s m i
  | 0, _, i, h, _, hi => by omega
  | _ + 1, 0, i, _, h, hi => by omega
  | n + 1, m + 1, i, hn, hm, hi => by
    simp only [skF]
    by_cases hb : chBlk (chI s i) = true
    · have hlt : i < s.size := ch_in fun e => by rw [e] at hb; exact absurd hb (by decide)
      rw [if_pos hb, if_pos hb]
      exact skF_fuel s n m (i + 1) (by omega) (by omega) (by omega)
    · rw [if_neg hb, if_neg hb]
      by_cases hh : chI s i = 35
      · have hlt : i < s.size := ch_in (by rw [hh]; decide)
        have h1 := hash_run hh
        have h2 := run_le lineC s i (by omega)
        rw [if_pos hh, if_pos hh]
        exact skF_fuel s n m _ (by omega) (by omega) (by omega)
      · rw [if_neg hh, if_neg hh]
theorem sk_blank {s : ByteArray} {i : Nat} (hb : chBlk (chI s i) = true) : sk s i = sk s (i + 1) := by
  have hlt : i < s.size := ch_in fun e => by rw [e] at hb; exact absurd hb (by decide)
  unfold sk
  rw [show s.size + 1 - i = (s.size + 1 - (i + 1)) + 1 by omega, skF, if_pos hb]
theorem sk_hash {s : ByteArray} {i : Nat} (hh : chI s i = 35) : sk s i = sk s (run lineC s i) := by
  have hlt : i < s.size := ch_in (by rw [hh]; decide)
  have hb : ¬ chBlk (chI s i) = true := by rw [hh]; decide
  have h1 := hash_run hh
  have h2 := run_le lineC s i (by omega)
  unfold sk
  rw [show s.size + 1 - i = (s.size - i) + 1 by omega, skF, if_neg hb, if_pos hh]
  exact skF_fuel s _ _ _ (by omega) (by omega) (by omega)
theorem sk_stop {s : ByteArray} {i : Nat} (hb : chBlk (chI s i) = false) (hh : chI s i ≠ 35) : sk s i = i := by
  unfold sk
  cases hn : s.size + 1 - i with
  | zero => rfl
  | succ n => rw [skF, if_neg (by rw [hb]; exact Bool.false_ne_true), if_neg hh]
/-- the kind of the token that begins at j, where it ends, its error, and where that error stands -/
def oneK (s : ByteArray) (j : Nat) : Nat := if chI s j = -1 then 0 else if chLet (chI s j) = true then 1 else if chDig (chI s j) = true then 2 else if chI s j = 34 then 3 else 4
def oneE (s : ByteArray) (j : Nat) : Nat :=
  if chI s j = -1 then j else if chLet (chI s j) = true then run wordC s j else if chDig (chI s j) = true then run chDig s j else if chI s j = 34 then run quoC s (j + 1) + 1
  else j + mkN (chI s j) (chI s (j + 1))
def oneC (s : ByteArray) (j : Nat) : Int :=
  if chI s j = 34 ∧ chI s (run quoC s (j + 1)) = -1 then 5 else if chI s j = 34 ∧ chI s (run quoC s (j + 1)) ≠ 34 then 9 else terr (oneK s j) (ttext (oneK s j) s j (oneE s j))
def oneF (s : ByteArray) (j : Nat) : Nat := if chI s j = 34 ∧ chI s (run quoC s (j + 1)) ≠ -1 ∧ chI s (run quoC s (j + 1)) ≠ 34 then run quoC s (j + 1) else j
end Go.Proofs.Ytffgjamnijhlpaa
