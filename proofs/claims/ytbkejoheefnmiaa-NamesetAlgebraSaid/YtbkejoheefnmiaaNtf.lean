/- What the slots of the examples' last statement hold, whatever the order. -/
import Derived.Test.YtbkejoheefnmiaaNtd
import Derived.Test.YtbkejoheefnmiaaPh
namespace Go.Proofs.Ytbkejoheefnmiaa
open Go.RowKit
/-- what a slot of the examples' last statement holds -/
inductive Spec where
  | val (v : Value)
  | strs (l : List ByteArray)
  | ints (l : List Int)
  | ns (al no : Bool) (N E : List ByteArray)
  | env
  | tys
  | nms (l : List ByteArray)
def Spec.ok : Spec → Value → World → Prop
  | .val u, v, _ => v = u
  | .strs l, v, w => ∃ ao cap, v = .slice ao l.length cap ∧ Strs w (.slice ao l.length cap) l
  | .ints l, v, w => ∃ A, v = .slice A l.length l.length ∧ Ints w A l
  | .ns al no N E, v, w => ∃ aN cN aE cE, v = .agg #[.bool al, .bool no, .bool false, .slice aN N.length cN, .slice aE E.length cE] ∧ Strs w (.slice aN N.length cN) N ∧ Strs w (.slice aE E.length cE) E
  | .env, v, w => ∃ aT cT aA cA, v = .agg #[.slice aT sTs.length cT, .slice aA sAs.length cA] ∧ Tys w (.slice aT sTs.length cT) sTs ∧ Ats w (.slice aA sAs.length cA) sAs
  | .tys, v, w => ∃ aT cT, v = .slice aT sTs.length cT ∧ Tys w (.slice aT sTs.length cT) sTs
  | .nms l, v, w => ∃ aN cN, v = .agg #[.bool false, .bool false, .bool false, .slice aN l.length cN, .slice none 0 0] ∧ Strs w (.slice aN l.length cN) l
theorem Spec.keep {s : Spec} {v : Value} {w w' : World} (h : s.ok v w) (hb : Below w.heap.size w w') : s.ok v w' := by
  cases s with
  | val u => exact h
  | strs l => obtain ⟨ao, cap, e, hs⟩ := h; exact ⟨ao, cap, e, hs.keep hb⟩
  | ints l => obtain ⟨A, e, hs⟩ := h; exact ⟨A, e, hs.below hb⟩
  | ns al no N E => obtain ⟨aN, cN, aE, cE, e, h1, h2⟩ := h; exact ⟨aN, cN, aE, cE, e, h1.keep hb, h2.keep hb⟩
  | env => obtain ⟨aT, cT, aA, cA, e, h1, h2⟩ := h; exact ⟨aT, cT, aA, cA, e, h1.keep hb, h2.keep hb⟩
  | tys => obtain ⟨aT, cT, e, h1⟩ := h; exact ⟨aT, cT, e, h1.keep hb⟩
  | nms l => obtain ⟨aN, cN, e, h1⟩ := h; exact ⟨aN, cN, e, h1.keep hb⟩
theorem fact_none {ops : Array Oper} {n t : Nat} {Φ : Nat → Value → World → Prop} {a0 A : Act} {o : Oper} {w : World} (h : factAt ops n Φ a0 o A w t) (hs : srcOf ops n t = none) : A.tmps[t]?.getD undef = a0.eval (.tmp t) := by
  unfold factAt at h; rw [hs] at h; simpa [Act.eval] using h
theorem fact_some {ops : Array Oper} {n t j : Nat} {Φ : Nat → Value → World → Prop} {a0 A : Act} {o : Oper} {w : World} (h : factAt ops n Φ a0 o A w t) (hs : srcOf ops n t = some j) (hw : waitsOn o j = true) : Φ j (A.tmps[t]?.getD undef) w := by
  unfold factAt at h; rw [hs] at h; have h2 := h hw; rwa [show A.eval (.tmp t) = A.tmps[t]?.getD undef by simp [Act.eval]] at h2
def obsL (P : Program) (ops : Array Oper) (n : Nat) (W : World) (a0 : Act) (Φ : Nat → Value → World → Prop) : Nat → List Oper → Prop
  | _, [] => True
  | k, o :: r => obOf P ops n W a0 Φ k o ∧ obsL P ops n W a0 Φ (k + 1) r
theorem obs_at {P : Program} {ops : Array Oper} {n : Nat} {W : World} {a0 : Act} {Φ : Nat → Value → World → Prop} : ∀ {l : List Oper} {k : Nat}, obsL P ops n W a0 Φ k l → ∀ i o, l[i]? = some o → obOf P ops n W a0 Φ (k + i) o
  | [], _, _, i, o, h => by simp at h
  | x :: l, k, h, 0, o, ho => by
    obtain rfl : x = o := by simpa using ho
    exact h.1
  | x :: l, k, h, i + 1, o, ho => by
    have := obs_at h.2 i o (by simpa using ho)
    rwa [show k + (i + 1) = k + 1 + i by omega]
theorem wp_region_obs {P : Program} {id : Nat} {Q : Exit → Act → World → Prop} {a0 : Act} {W : World} {l : List Oper} (Φ : Nat → Value → World → Prop) (hm : P.follows .mixedOrders = true)
    (hB : phiB l.toArray l.toArray.size a0.tmps.size = true) (hst : ∀ i v w w', Φ i v w → Below w.heap.size w w' → Φ i v w')
    (ob : obsL P l.toArray l.toArray.size W a0 Φ 0 l)
    (h : ∀ a w, Kp W w → a.tmps.size = a0.tmps.size → a.defers = a0.defers → (∀ t, factEnd l.toArray l.toArray.size Φ a0 a w t) → Q .normal a w) : (Code.region id l.toArray true).wp P Q a0 W :=
  wp_region_phi Φ hm hB hst (fun i o _ ho => by have := obs_at ob i o (by simpa using ho); rwa [Nat.zero_add] at this) h
def awSpecs (rwv : Value) : List Spec := [
  .strs [⟨#[97]⟩, ⟨#[100]⟩],
  .ns false false [⟨#[97]⟩, ⟨#[100]⟩] [],
  .ints [0, 1, 2],
  .val (.bool true),
  .val (.bool true),
  .strs [⟨#[100]⟩],
  .ns true false [] [⟨#[100]⟩],
  .ints [0],
  .val (.bool true),
  .val (.bool true),
  .val (.bool true),
  .strs [⟨#[100]⟩],
  .ns false true [⟨#[100]⟩] [],
  .ints [0],
  .val (.bool true),
  .val (.bool true),
  .val (.bool true),
  .strs [⟨#[100]⟩],
  .strs [⟨#[99]⟩],
  .ns false false [⟨#[100]⟩] [⟨#[99]⟩],
  .ints [1],
  .val (.bool true),
  .val (.bool true),
  .val (.bool true),
  .strs [⟨#[97]⟩],
  .ns false false [] [⟨#[97]⟩],
  .val (.bool true),
  .val (.bool true),
  .val (.bool true),
  .strs [⟨#[97]⟩],
  .ns false true [] [⟨#[97]⟩],
  .ints [0, 1, 2],
  .val (.bool true),
  .val (.bool true),
  .val (.bool true),
  .val (.int .i64 11),
  .val (.bool true),
  .val (.bool true),
  .val (.bool true),
  .val (.int .u32 2),
  .val (.bool true),
  .val (.bool true),
  .val (.bool true),
  .val (.int .i64 0),
  .val (.bool true),
  .val (.bool true),
  .val (.bool true),
  .val (.int .i64 0),
  .val (.bool true),
  .val (.bool true),
  .val (.bool true),
  .val (.bool true),
  .val (.bool true),
  .val (.bool true),
  .val (.agg #[.int .u64 (ofI [1, 2] 0), .int .u64 (ofI [1, 2] 1), .int .u64 (ofI [1, 2] 2), .int .u64 (ofI [1, 2] 3)]),
  .ints [1, 2],
  .val (.agg #[.int .u64 (ofI [1, 2] 0), .int .u64 (ofI [1, 2] 1), .int .u64 (ofI [1, 2] 2), .int .u64 (ofI [1, 2] 3)]),
  .val (.bool true),
  .val (.bool true),
  .val (.bool true),
  .val (.bool true),
  .val (.bool true),
  .val (.bool true),
  .val (.agg #[.int .u64 (ofI [0, 2] 0), .int .u64 (ofI [0, 2] 1), .int .u64 (ofI [0, 2] 2), .int .u64 (ofI [0, 2] 3)]),
  .ints [0, 2],
  .val (.agg #[.int .u64 (ofI [0, 2] 0), .int .u64 (ofI [0, 2] 1), .int .u64 (ofI [0, 2] 2), .int .u64 (ofI [0, 2] 3)]),
  .val (.bool true),
  .val (.bool true),
  .val (.bool true),
  .val (.int .i64 0),
  .val (.bool true),
  .val (.bool true),
  .val (.bool true),
  .val (.agg #[.int .u64 (ofI [1] 0), .int .u64 (ofI [1] 1), .int .u64 (ofI [1] 2), .int .u64 (ofI [1] 3)]),
  .ints [1],
  .val (.agg #[.int .u64 (ofI [1] 0), .int .u64 (ofI [1] 1), .int .u64 (ofI [1] 2), .int .u64 (ofI [1] 3)]),
  .val (.bool true),
  .val (.bool true),
  .val (.bool true),
  .val (.int .i64 0),
  .val (.bool true),
  .val (.bool true),
  .val (.bool true),
  .val (.int .i64 20),
  .val (.bool true),
  .val (.bool true),
  .val (.bool true),
  .ints [0, 2, 9],
  .val (.agg #[.int .u64 (ofI [0, 2, 9] 0), .int .u64 (ofI [0, 2, 9] 1), .int .u64 (ofI [0, 2, 9] 2), .int .u64 (ofI [0, 2, 9] 3)]),
  .env,
  .tys,
  .nms [⟨#[97]⟩, ⟨#[99]⟩],
  .strs [⟨#[97]⟩, ⟨#[99]⟩],
  .strs [⟨#[97]⟩, ⟨#[99]⟩],
  .val (.bool true),
  .val (.bool true),
  .val (.bool true),
  .val (.agg #[.string ⟨#[]⟩, rwv]),
  .strs [⟨#[119, 114, 105, 116, 101]⟩],
  .strs [⟨#[119, 114, 105, 116, 101]⟩],
  .val (.bool true),
  .val (.bool true),
  .val (.bool true)]
end Go.Proofs.Ytbkejoheefnmiaa
