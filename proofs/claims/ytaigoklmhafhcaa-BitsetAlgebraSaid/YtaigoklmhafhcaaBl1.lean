/- The law BitsetEqual: two sets are equal exactly if Has says the same of both for every number. -/
import Derived.Test.YtaigoklmhafhcaaBsk
namespace Go.Proofs.Ytaigoklmhafhcaa
open Go.RowKit
def EqUpTo (x0 x1 x2 x3 y0 y1 y2 y3 : Int) (k : Nat) : Prop := ∀ j : Nat, j < k → hasB x0 x1 x2 x3 ((j : Int) - 1) = hasB y0 y1 y2 y3 ((j : Int) - 1)
def Holds (b : Bool) (p : Prop) : Prop := b = true ↔ p
theorem quad_snd (w : World) (x0 x1 x2 x3 y0 y1 y2 y3 : Int) : Quad ((w.alloc (.cells #[.int .u64 x0, .int .u64 x1, .int .u64 x2, .int .u64 x3] 24)).alloc (.cells #[.int .u64 y0, .int .u64 y1, .int .u64 y2, .int .u64 y3] 24)) (w.heap.size + 1) y0 y1 y2 y3 := by
  have h := Quad.new (w.alloc (.cells #[.int .u64 x0, .int .u64 x1, .int .u64 x2, .int .u64 x3] 24)) y0 y1 y2 y3
  simpa using h
theorem upTo_next {x0 x1 x2 x3 y0 y1 y2 y3 : Int} {k : Nat} (h : EqUpTo x0 x1 x2 x3 y0 y1 y2 y3 k) :
    (hasB x0 x1 x2 x3 ((k : Int) - 1) == hasB y0 y1 y2 y3 ((k : Int) - 1)) = true ↔ EqUpTo x0 x1 x2 x3 y0 y1 y2 y3 (k + 1) := by
  rw [beq_iff_eq]
  constructor
  · intro e j hj
    rcases Nat.lt_succ_iff_lt_or_eq.1 hj with h' | h'
    · exact h j h'
    · rw [h']; exact e
  · intro h'
    exact h' k (by omega)
theorem falls {x0 x1 x2 x3 y0 y1 y2 y3 : Int} {k : Nat} (h : Holds false (EqUpTo x0 x1 x2 x3 y0 y1 y2 y3 k)) : Holds false (EqUpTo x0 x1 x2 x3 y0 y1 y2 y3 (k + 1)) :=
  ⟨fun h => (Bool.false_ne_true h).elim, fun h' => h.2 fun j hj => h' j (by omega)⟩
set_option maxRecDepth 100000 in
set_option maxHeartbeats 2000000 in
theorem equal_c (x0 x1 x2 x3 y0 y1 y2 y3 : Int) (w : World) (hE : EqUpTo x0 x1 x2 x3 y0 y1 y2 y3 258 ↔ (x0 = y0 ∧ x1 = y1 ∧ x2 = y2 ∧ x3 = y3)) :
    Calls Try.prog 7 #[.agg #[.int .u64 x0, .int .u64 x1, .int .u64 x2, .int .u64 x3], .agg #[.int .u64 y0, .int .u64 y1, .int .u64 y2, .int .u64 y3]] w fun e w' => e = .returned (.bool true) ∧ Below w.heap.size w w' := by
  go_enter Try.func7, Try.ntmps7
  go_wp2
  go_loopw [5, 6] (fun s i wr => ∃ (k : Nat) (b : Bool), k ≤ 258 ∧ i = .int .i64 ((k : Int) - 1) ∧ s = .bool b ∧ Holds b (EqUpTo x0 x1 x2 x3 y0 y1 y2 y3 k) ∧ Quad wr w.heap.size x0 x1 x2 x3 ∧ Quad wr (w.heap.size + 1) y0 y1 y2 y3 ∧ Below w.heap.size w wr)
    (fun _ i _ => (257 - intOf i).toNat)
  case atStart => exact ⟨0, true, by omega, by simp, rfl, ⟨fun _ j hj => absurd hj (by omega), fun _ => rfl⟩, (Quad.new _ _ _ _ _).alloc _, quad_snd w x0 x1 x2 x3 y0 y1 y2 y3, ((Below.refl _ _).alloc (Nat.le_refl _) _).alloc (by simp) _⟩
  case round =>
    obtain ⟨k, b, hk, rfl, rfl, hb, qa, qb, hbl⟩ := hrel
    obtain ⟨a0, a1, a2, a3, _⟩ := qa.facts
    obtain ⟨b0, b1, b2, b3, _⟩ := qb.facts
    by_cases hlt : k < 258
    · cases b
      · go_wp2
        go_quiet (fail)
        go_wp2
        go_roundw
        case rel => exact ⟨k + 1, false, by omega, by go_num, rfl, falls hb, qa, qb, below_drewN hbl _⟩
        case measure => simp [intOf]; omega
      · go_wp2
        have HB : Below w.heap.size w wr.drew := hbl.drew
        go_region_with (first
          | (go_at_call 20; refine (has_c _ _ _ _ _ wr.drew).mono ?_; rintro e w1 ⟨rfl, hb1⟩; obtain ⟨a0', a1', a2', a3', _⟩ := (Quad.below (w := wr.drew) qa hb1 qa.lt).facts; obtain ⟨b0', b1', b2', b3', _⟩ := (Quad.below (w := wr.drew) qb hb1 qb.lt).facts)
          | (go_at_call 20; refine (has_c _ _ _ _ _ _).mono ?_; rintro e w2 ⟨rfl, hb2⟩))
        all_goals
          go_wp2
          go_roundw
          case rel =>
            refine ⟨k + 1, _, by omega, by go_num, rfl, ?_, (Quad.below (w := wr.drew) qa hb1 qa.lt).below hb2 (Nat.lt_of_lt_of_le qa.lt hb1.size), (Quad.below (w := wr.drew) qb hb1 qb.lt).below hb2 (Nat.lt_of_lt_of_le qb.lt hb1.size), (hbl.drew.trans (hb1.mono hbl.drew.size)).trans (hb2.mono (hbl.drew.trans (hb1.mono hbl.drew.size)).size)⟩
            exact upTo_next (hb.1 rfl)
          case measure => simp [intOf]; omega
    · obtain rfl : k = 258 := by omega
      have e : b = same4 x0 x1 x2 x3 y0 y1 y2 y3 := by
        rw [Bool.eq_iff_iff, show b = true ↔ _ from hb, hE]
        simp [same4]
      clear hb
      subst e
      go_wp2_with (go_at_call 15; refine (alive_c _).mono ?_; rintro e w1 ⟨rfl, hb1⟩)
      go_ret
      exact ⟨rfl, hbl.trans (hb1.mono hbl.size)⟩
end Go.Proofs.Ytaigoklmhafhcaa
