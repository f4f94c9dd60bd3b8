/- The scanner of package token: token, for every kind and text; mark. -/
import Derived.Test.YtffgjamnijhlpaaTsd
import Derived.LoopN
namespace Go.Proofs.Ytffgjamnijhlpaa
open Go.RowKit
/-- what stands in a result with an error c, and without one -/
def zi (c x : Int) : Int := if c = 0 then x else 0
def zn (c x : Int) : Int := if c = 0 then 0 else x
def zs (c : Int) (t : ByteArray) : ByteArray := if c = 0 then t else ⟨#[]⟩
theorem zi_0 (x : Int) : zi 0 x = x := rfl
theorem zn_0 (x : Int) : zn 0 x = 0 := rfl
theorem zs_0 (t : ByteArray) : zs 0 t = t := rfl
theorem zi_n {c : Int} (h : c ≠ 0) (x : Int) : zi c x = 0 := if_neg h
theorem zn_n {c : Int} (h : c ≠ 0) (x : Int) : zn c x = x := if_neg h
theorem zs_n {c : Int} (h : c ≠ 0) (t : ByteArray) : zs c t = ⟨#[]⟩ := if_neg h
/-- a token and a fault: the token of a kind, or its error -/
theorem tok_c (kind : Nat) (hk : kind ≤ 4) (s : ByteArray) (i j sb : Nat) (li ki l k : Int) (w : World) (hs : Scn w sb s i li ki) (hj : j ≤ i) (hi : i ≤ s.size) (hm : s.size ≤ 9223372036854775807) (h3 : kind = 3 → j + 2 ≤ i)
    (code : Int) (t : ByteArray) (ht : ttext kind s j i = t) (hc : terr kind t = code) :
    Calls Try.prog 55 #[.pointer (some ⟨sb, 0, none⟩), .int .i64 (kind : Int), .agg #[.string s, .int .i64 j, .int .i64 l, .int .i64 k]] w fun e w' =>
      e = .returned (.tuple #[.agg #[.int .i64 (zi code kind), .string (zs code t), .int .i64 (zi code l), .int .i64 (zi code k)], .agg #[.int .i64 code, .int .i64 (zn code l), .int .i64 (zn code k), .string ⟨#[]⟩]]) ∧ Below w.heap.size w w' := by
  by_cases e3 : kind = 3
  · subst e3
    have ht' : (s.extract j i).extract 1 (i - j - 1) = t := by simpa [ttext] using ht
    rw [← ht'] at hc ⊢
    clear ht ht'
    by_cases h0 : code = 0
    · subst h0
      rw [zi_0, zi_0, zi_0, zn_0, zn_0, zs_0]
      exact tokC s i j sb li ki l k w hs (h3 rfl) hi hm hc
    · rw [zi_n h0, zi_n h0, zi_n h0, zn_n h0, zn_n h0, zs_n h0]
      exact tokD code s i j sb li ki l k w hs (h3 rfl) hi hm hc (by simpa using h0)
  · have ht' : s.extract j i = t := by simpa [ttext, e3] using ht
    rw [← ht'] at hc ⊢
    clear ht ht'
    have e3' : ((kind : Int) == 3) = false := by simp; omega
    by_cases h0 : code = 0
    · subst h0
      rw [zi_0, zi_0, zi_0, zn_0, zn_0, zs_0]
      exact tokA kind s i j sb li ki l k w hk e3' hs hj hi hm hc
    · rw [zi_n h0, zi_n h0, zi_n h0, zn_n h0, zn_n h0, zs_n h0]
      exact tokB kind code s i j sb li ki l k w hk e3' hs hj hi hm hc (by simpa using h0)
/-- the position n bytes behind index i -/
def adv (s : ByteArray) (i : Nat) (p : Int × Int) : Nat → Int × Int
  | 0 => p
  | n + 1 => (nxL (adv s i p n).1 (chI s (i + n)), nxC (adv s i p n).2 (chI s (i + n)))
theorem adv_bd (s : ByteArray) (i : Nat) (p : Int × Int) (h1 : 0 ≤ p.1) (h2 : 0 ≤ p.2) : ∀ n : Nat, 0 ≤ (adv s i p n).1 ∧ (adv s i p n).1 ≤ p.1 + n ∧ 0 ≤ (adv s i p n).2 ∧ (adv s i p n).2 ≤ p.2 + n
  | 0 => by simp only [adv]; omega
  | n + 1 => by
    have ih := adv_bd s i p h1 h2 n
    simp only [adv]
    unfold nxL nxC
    refine ⟨?_, ?_, ?_, ?_⟩ <;> split <;> omega
theorem adv_next (s : ByteArray) (i : Nat) (p : Int × Int) (n : Nat) : adv s i p (n + 1) = adv s (i + 1) (adv s i p 1) n := by
  induction n with
  | zero => rfl
  | succ n ih =>
    show (nxL (adv s i p (n + 1)).1 (chI s (i + (n + 1))), nxC (adv s i p (n + 1)).2 (chI s (i + (n + 1)))) = (nxL (adv s (i + 1) (adv s i p 1) n).1 (chI s (i + 1 + n)), nxC (adv s (i + 1) (adv s i p 1) n).2 (chI s (i + 1 + n)))
    rw [ih, show i + (n + 1) = i + 1 + n by omega]
theorem chI_extract (s : ByteArray) (j i : Nat) (hj : j ≤ s.size) : chI (s.extract j s.size) i = chI s (j + i) := by
  have hsz : (s.extract j s.size).size = s.size - j := by simp
  by_cases h : j + i < s.size
  · rw [chI_lt h, chI_lt (by omega)]
    congr 2
    rw [ByteArray.getElem_extract]
  · rw [chI_ge h, chI_ge (by omega)]
end Go.Proofs.Ytffgjamnijhlpaa
