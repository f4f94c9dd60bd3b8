/- The scanner of package token: next: a state machine with goto. -/
import Derived.Test.YtffgjamnijhlpaaTsh
import Derived.Test.YtffgjamnijhlpaaTse
namespace Go.Proofs.Ytffgjamnijhlpaa
open Go.RowKit
/-- the frame at a label: the scanner, the two results and begin; all else whatever -/
def NxF (sb g : Nat) (a : Act) : Prop := ∃ u : Nat → Value, a = { tmps := #[.pointer (some ⟨sb, 0, none⟩), u 1, .pointer (some ⟨g, 0, none⟩), .pointer (some ⟨g + 1, 0, none⟩), .pointer (some ⟨g + 1 + 1, 0, none⟩), u 5, u 6, u 7, u 8, u 9, u 10, u 11, u 12, u 13, u 14, u 15, u 16, u 17, u 18, u 19, u 20, u 21, u 22, u 23, u 24, u 25, u 26, u 27, u 28, u 29, u 30, u 31, u 32, u 33, u 34, u 35, u 36, u 37, u 38, u 39, u 40, u 41, u 42, u 43, u 44, u 45, u 46, u 47, u 48, u 49, u 50, u 51, u 52, u 53, u 54, u 55, u 56, u 57, u 58, u 59, u 60, u 61, u 62, u 63, u 64, u 65, u 66, u 67, u 68, u 69, u 70, u 71, u 72, u 73, u 74, u 75, u 76, u 77, u 78, u 79, u 80, u 81, u 82, u 83, u 84, u 85, u 86, u 87, u 88, u 89, u 90, u 91, u 92, u 93, u 94, u 95, u 96, u 97, u 98, u 99, u 100, u 101, u 102, u 103, u 104, u 105, u 106, u 107, u 108, u 109, u 110, u 111], defers := [] }
/-- the world at a label: the scanner stands at index i' -/
structure NxW (w : World) (sb : Nat) (s : ByteArray) (i : Nat) (p : Int × Int) (i' : Nat) (w' : World) : Prop where
  lo : i ≤ i'
  hi : i' ≤ s.size
  scn : Scn w' sb s i' (adv s i p (i' - i)).1 (adv s i p (i' - i)).2
  tok : Blk w' w.heap.size 82 #[.int .i64 0, .string ⟨#[]⟩, .int .i64 0, .int .i64 0]
  flt : Blk w' (w.heap.size + 1) 88 #[.int .i64 0, .int .i64 0, .int .i64 0, .string ⟨#[]⟩]
  but : But w.heap.size sb w w'
/-- begin: the scanner as it stood at index j -/
def Beg (w : World) (s : ByteArray) (i : Nat) (p : Int × Int) (j : Nat) (w' : World) : Prop := Blk w' (w.heap.size + 1 + 1) 86 #[.string s, .int .i64 (j : Int), .int .i64 (adv s i p (j - i)).1, .int .i64 (adv s i p (j - i)).2]
def BegAny (w w' : World) : Prop := ∃ a b c d, Blk w' (w.heap.size + 1 + 1) 86 #[a, b, c, d]
/-- what holds at each label -/
def NxJ (w : World) (sb : Nat) (s : ByteArray) (i : Nat) (p : Int × Int) : Nat → Act → World → Prop
  | 0, a, w' => NxF sb w.heap.size a ∧ ∃ i', NxW w sb s i p i' w' ∧ BegAny w w' ∧ sk s i' = sk s i
  | 1, a, w' => NxF sb w.heap.size a ∧ ∃ i', NxW w sb s i p i' w' ∧ BegAny w w' ∧ sk s (run lineC s i') = sk s i
  | 2, a, w' => NxF sb w.heap.size a ∧ ∃ i', NxW w sb s i p i' w' ∧ Beg w s i p (sk s i) w' ∧ sk s i ≤ i' ∧ run wordC s i' = run wordC s (sk s i) ∧ chLet (chI s (sk s i)) = true
  | 3, a, w' => NxF sb w.heap.size a ∧ ∃ i', NxW w sb s i p i' w' ∧ Beg w s i p (sk s i) w' ∧ sk s i ≤ i' ∧ run chDig s i' = run chDig s (sk s i) ∧ chDig (chI s (sk s i)) = true
  | 4, a, w' => NxF sb w.heap.size a ∧ ∃ i', NxW w sb s i p i' w' ∧ Beg w s i p (sk s i) w' ∧ sk s i + 1 ≤ i' ∧ run quoC s i' = run quoC s (sk s i + 1) ∧ chI s (sk s i) = 34
  | _, _, _ => False
/-- where the scanner in block sb stands -/
def atOf (sb : Nat) (w : World) : Nat := match w.cell? ⟨sb, 1, none⟩ with
  | some v => (intOf v).toNat
  | none => 0
def NxM (s : ByteArray) (sb : Nat) (l : Nat) (w : World) : Nat :=
  let r := s.size - atOf sb w
  match l with
  | 0 => 3 * r + (if chI s (atOf sb w) = 35 then 2 else 0)
  | 1 => 3 * r + 1
  | _ => r
theorem NxW.at' {w w' : World} {sb i i' : Nat} {s : ByteArray} {p : Int × Int} (h : NxW w sb s i p i' w') : atOf sb w' = i' := by
  obtain ⟨_, c1, _⟩ := h.scn.facts
  unfold atOf
  rw [c1]
  simp [intOf]
theorem adv_at (s : ByteArray) (i i' : Nat) (p : Int × Int) (h : i ≤ i') : adv s i p (i' + 1 - i) = (nxL (adv s i p (i' - i)).1 (chI s i'), nxC (adv s i p (i' - i)).2 (chI s i')) := by
  rw [show i' + 1 - i = (i' - i) + 1 by omega, adv, show i + (i' - i) = i' by omega]
theorem NxW.step {w w' w1 : World} {sb i i' : Nat} {s : ByteArray} {p : Int × Int} (h : NxW w sb s i p i' w') (hsb : sb < w.heap.size) (hlt : i' < s.size)
    (hs : Scn w1 sb s (i' + 1) (nxL (adv s i p (i' - i)).1 (chI s i')) (nxC (adv s i p (i' - i)).2 (chI s i'))) (hb : But w'.heap.size sb w' w1) : NxW w sb s i p (i' + 1) w1 :=
  ⟨by have := h.lo; omega, hlt, by rw [adv_at s i i' p h.lo]; exact hs, hb.blk h.tok h.tok.lt (by omega), hb.blk h.flt h.flt.lt (by omega), h.but.trans (hb.mono h.but.size)⟩
theorem NxW.drewN {w w' : World} {sb i i' : Nat} {s : ByteArray} {p : Int × Int} (h : NxW w sb s i p i' w') (n : Nat) : NxW w sb s i p i' (w'.drewN n) :=
  ⟨h.lo, h.hi, h.scn, h.tok, h.flt, h.but.below (below_drewN (Below.refl _ _) _)⟩
theorem Beg.step {w w' w1 : World} {sb i j : Nat} {s : ByteArray} {p : Int × Int} (h : Beg w s i p j w') (hsb : sb < w.heap.size) (hb : But w'.heap.size sb w' w1) : Beg w s i p j w1 := hb.blk h (Blk.lt h) (by omega)
theorem BegAny.step {w w' w1 : World} {sb : Nat} (h : BegAny w w') (hsb : sb < w.heap.size) (hb : But w'.heap.size sb w' w1) : BegAny w w1 := by
  obtain ⟨a, b, c, d, h⟩ := h
  exact ⟨a, b, c, d, hb.blk h h.lt (by omega)⟩
/-- begin is set -/
theorem NxW.setBeg {w w' : World} {sb i i' : Nat} {s : ByteArray} {p : Int × Int} (h : NxW w sb s i p i' w') (hsb : sb < w.heap.size) (hb : BegAny w w') {x0 x1 x2 x3 : Value} (h0 : x0 = .string s) (h1 : x1 = .int .i64 (i' : Int)) (h2 : x2 = .int .i64 (adv s i p (i' - i)).1) (h3 : x3 = .int .i64 (adv s i p (i' - i)).2) :
    NxW w sb s i p i' ((((w'.setCell ⟨w.heap.size + 1 + 1, 0, none⟩ x0).setCell ⟨w.heap.size + 1 + 1, 1, none⟩ x1).setCell ⟨w.heap.size + 1 + 1, 2, none⟩ x2).setCell ⟨w.heap.size + 1 + 1, 3, none⟩ x3) ∧
    Beg w s i p i' ((((w'.setCell ⟨w.heap.size + 1 + 1, 0, none⟩ x0).setCell ⟨w.heap.size + 1 + 1, 1, none⟩ x1).setCell ⟨w.heap.size + 1 + 1, 2, none⟩ x2).setCell ⟨w.heap.size + 1 + 1, 3, none⟩ x3) := by
  subst h0 h1 h2 h3
  obtain ⟨a, b, c, d, hb⟩ := hb
  have e := (((hb.set 0 (.string s)).set 1 (.int .i64 (i' : Int))).set 2 (.int .i64 (adv s i p (i' - i)).1)).set 3 (.int .i64 (adv s i p (i' - i)).2)
  have far : ∀ {g : Nat} {t : TypeId} {cs : Array Value}, Blk w' g t cs → g ≠ w.heap.size + 1 + 1 → ∀ y0 y1 y2 y3, Blk ((((w'.setCell ⟨w.heap.size + 1 + 1, 0, none⟩ y0).setCell ⟨w.heap.size + 1 + 1, 1, none⟩ y1).setCell ⟨w.heap.size + 1 + 1, 2, none⟩ y2).setCell ⟨w.heap.size + 1 + 1, 3, none⟩ y3) g t cs :=
    fun k hn y0 y1 y2 y3 => (((k.far (p := ⟨w.heap.size + 1 + 1, 0, none⟩) hn y0).far (p := ⟨w.heap.size + 1 + 1, 1, none⟩) hn y1).far (p := ⟨w.heap.size + 1 + 1, 2, none⟩) hn y2).far (p := ⟨w.heap.size + 1 + 1, 3, none⟩) hn y3
  have hB : w.heap.size ≤ w.heap.size + 1 + 1 := by omega
  exact ⟨⟨h.lo, h.hi, far h.scn (by omega) _ _ _ _, far h.tok (by omega) _ _ _ _, far h.flt (by omega) _ _ _ _,
    (((h.but.setCell (p := ⟨w.heap.size + 1 + 1, 0, none⟩) (.inr hB) _).setCell (p := ⟨w.heap.size + 1 + 1, 1, none⟩) (.inr hB) _).setCell (p := ⟨w.heap.size + 1 + 1, 2, none⟩) (.inr hB) _).setCell (p := ⟨w.heap.size + 1 + 1, 3, none⟩) (.inr hB) _⟩, by simpa [Beg] using e⟩
/-- the outcome of next -/
def NextOut (s : ByteArray) (i : Nat) (p : Int × Int) (sb : Nat) (w : World) (e : Ending) (w' : World) : Prop :=
  ∃ code, code = oneC s (sk s i) ∧
    e = .returned (.tuple #[.agg #[.int .i64 (zi code (oneK s (sk s i))), .string (zs code (ttext (oneK s (sk s i)) s (sk s i) (oneE s (sk s i)))), .int .i64 (zi code (adv s i p (sk s i - i)).1), .int .i64 (zi code (adv s i p (sk s i - i)).2)],
      .agg #[.int .i64 code, .int .i64 (zn code (adv s i p (oneF s (sk s i) - i)).1), .int .i64 (zn code (adv s i p (oneF s (sk s i) - i)).2), .string ⟨#[]⟩]]) ∧
    (code = 0 → Scn w' sb s (oneE s (sk s i)) (adv s i p (oneE s (sk s i) - i)).1 (adv s i p (oneE s (sk s i) - i)).2) ∧ But w.heap.size sb w w'
end Go.Proofs.Ytffgjamnijhlpaa
