/- awake: the examples of the chapter. -/
import Derived.Test.YtbcbhgclgakljaaMdk
namespace Go.Proofs.Ytbcbhgclgakljaa
open Go.RowKit Go.Maps
def d0 : Dn := ⟨3#32, 1#32, 4#32, false, 0⟩
section
variable (w : World)
theorem j1_c : Calls Try.prog 14 #[.agg #[.int .u32 3, .int .u32 1, .int .u32 4, .bool false, .int .i64 0], .int .u32 7, .bool true] w fun r w' => r = .returned (.agg #[.bool false, .int .u32 4, .int .u32 1, .int .u32 4, .bool false]) ∧ Below w.heap.size w w' := by
  have h := judge_c d0 7#32 true w
  rw [show jg d0 7#32 true = ⟨false, 4#32, 1#32, 4#32, false⟩ by decide] at h
  exact h
theorem j2_c : Calls Try.prog 14 #[.agg #[.int .u32 3, .int .u32 1, .int .u32 4, .bool false, .int .i64 0], .int .u32 7, .bool false] w fun r w' => r = .returned (.agg #[.bool true, .int .u32 4, .int .u32 1, .int .u32 4, .bool true]) ∧ Below w.heap.size w w' := by
  have h := judge_c d0 7#32 false w
  rw [show jg d0 7#32 false = ⟨true, 4#32, 1#32, 4#32, true⟩ by decide] at h
  exact h
theorem j3_c : Calls Try.prog 14 #[.agg #[.int .u32 3, .int .u32 1, .int .u32 4, .bool false, .int .i64 0], .int .u32 3, .bool true] w fun r w' => r = .returned (.agg #[.bool true, .int .u32 0, .int .u32 1, .int .u32 0, .bool false]) ∧ Below w.heap.size w w' := by
  have h := judge_c d0 3#32 true w
  rw [show jg d0 3#32 true = ⟨true, 0#32, 1#32, 0#32, false⟩ by decide] at h
  exact h
theorem a1_c : Calls Try.prog 16 #[.agg #[.bool false, .int .u32 4, .int .u32 1, .int .u32 4, .bool false]] w fun r w' => r = .returned (.int .u32 5) ∧ Below w.heap.size w w' := audited_c ⟨false, 4#32, 1#32, 4#32, false⟩ w
theorem w1_c : Calls Try.prog 25 #[.agg #[.bool false, .int .u32 4, .int .u32 1, .int .u32 4, .bool false], .agg #[.bool true, .int .u32 4, .int .u32 1, .int .u32 4, .bool true]] w fun r w' => r = .returned (.agg #[.bool false, .int .u32 4, .int .u32 1, .int .u32 4, .bool false]) ∧ Below w.heap.size w w' := by
  have h := worst_c ⟨false, 4#32, 1#32, 4#32, false⟩ ⟨true, 4#32, 1#32, 4#32, true⟩ w
  rw [show wst ⟨false, 4#32, 1#32, 4#32, false⟩ ⟨true, 4#32, 1#32, 4#32, true⟩ = ⟨false, 4#32, 1#32, 4#32, false⟩ by decide] at h
  exact h
theorem e1_c : (binOp .eql 41 (.agg #[.bool false, .int .u32 4, .int .u32 1, .int .u32 4, .bool false]) (.agg #[.bool false, .int .u32 4, .int .u32 1, .int .u32 4, .bool false])).run Try.prog w = .ok (.bool true) w := eqlV ⟨false, 4#32, 1#32, 4#32, false⟩ ⟨false, 4#32, 1#32, 4#32, false⟩ w
theorem e2_c : (binOp .eql 41 (.agg #[.bool true, .int .u32 4, .int .u32 1, .int .u32 4, .bool true]) (.agg #[.bool true, .int .u32 4, .int .u32 1, .int .u32 4, .bool true])).run Try.prog w = .ok (.bool true) w := eqlV ⟨true, 4#32, 1#32, 4#32, true⟩ ⟨true, 4#32, 1#32, 4#32, true⟩ w
theorem e3_c : (binOp .eql 41 (.agg #[.bool true, .int .u32 0, .int .u32 1, .int .u32 0, .bool false]) (.agg #[.bool true, .int .u32 0, .int .u32 1, .int .u32 0, .bool false])).run Try.prog w = .ok (.bool true) w := eqlV ⟨true, 0#32, 1#32, 0#32, false⟩ ⟨true, 0#32, 1#32, 0#32, false⟩ w
end
def T0 : List Ty := [⟨{ data := #[97] }, true⟩, ⟨{ data := #[98] }, false⟩, ⟨{ data := #[99] }, false⟩]
theorem rows_T0 {w : World} {g : Nat} (h : Blk w g 99 #[.string { data := #[97] }, .slice none 0 0, .bool true, .string { data := #[98] }, .slice none 0 0, .bool false, .string { data := #[99] }, .slice none 0 0, .bool false]) : Rows' RTy w (.slice (some ⟨g, 0, none⟩) 3 3) T0 := by
  refine ⟨⟨_, 3, rfl, Nat.le_refl _, fun _ => ⟨g, 0, rfl, h.lt, fun i x hx k u hu => ?_⟩⟩⟩
  have hs : RTy.sz = 3 := rfl
  rw [hs, Nat.zero_add, h.cell]
  rcases i with _ | _ | _ | i
  all_goals first
    | (simp only [T0, List.getElem?_cons_zero, List.getElem?_cons_succ, Option.some.injEq] at hx
       subst hx
       rcases k with _ | _ | _ | k
       all_goals first
         | (simp [RTy, cellsT] at hu; done)
         | (simpa [RTy, cellsT] using hu))
    | simp [T0] at hx
theorem rows_L0 {w : World} {g : Nat} (h : Blk w g 3 #[.int .i64 2, .int .i64 7, .int .i64 2]) : Rows' RIn w (.slice (some ⟨g, 0, none⟩) 3 3) [2, 7, 2] := by
  refine ⟨⟨_, 3, rfl, Nat.le_refl _, fun _ => ⟨g, 0, rfl, h.lt, fun i x hx k u hu => ?_⟩⟩⟩
  have hs : RIn.sz = 1 := rfl
  rw [hs, Nat.zero_add, Nat.mul_one, h.cell]
  rcases i with _ | _ | _ | i
  all_goals first
    | (simp only [List.getElem?_cons_zero, List.getElem?_cons_succ, Option.some.injEq] at hx
       subst hx
       rcases k with _ | k
       all_goals first
         | (simp [RIn] at hu; done)
         | (simpa [RIn] using hu))
    | simp at hx
theorem rows_L1 {w : World} {g : Nat} (h : Blk w g 3 #[.int .i64 2]) : Rows' RIn w (.slice (some ⟨g, 0, none⟩) 1 1) [2] := by
  refine ⟨⟨_, 1, rfl, Nat.le_refl _, fun _ => ⟨g, 0, rfl, h.lt, fun i x hx k u hu => ?_⟩⟩⟩
  have hs : RIn.sz = 1 := rfl
  rw [hs, Nat.zero_add, Nat.mul_one, h.cell]
  rcases i with _ | i
  all_goals first
    | (simp only [List.getElem?_cons_zero, Option.some.injEq] at hx
       subst hx
       rcases k with _ | k
       all_goals first
         | (simp [RIn] at hu; done)
         | (simpa [RIn] using hu))
    | simp at hx
theorem pt_T0 {Tc : List Ty} (h : PT (fun j _ => inL [2, 7, 2] j) T0 Tc) : prm Tc 3 = [2] := by
  have h0 := h 0
  have h1 := h 1
  have h2 := h 2
  simp only [T0, List.getElem?_cons_zero, List.getElem?_cons_succ, Option.map_some] at h0 h1 h2
  unfold prm
  rw [show List.range 3 = [0, 1, 2] from rfl]
  have e0 : inL [2, 7, 2] 0 = false := by decide
  have e1 : inL [2, 7, 2] 1 = false := by decide
  have e2 : inL [2, 7, 2] 2 = true := by decide
  simp [h0, h1, h2, e0, e1, e2]
theorem gives_mono {P : Program} {o : Oper} {A : Act} {w : World} {φ ψ : Value → World → Prop} (h : Gives P o A w φ) (hm : ∀ u w', φ u w' → ψ u w') : Gives P o A w ψ := by
  unfold Gives at *
  generalize (execOp A.eval o).run P w = r at *
  cases r with
  | ok nx w' =>
    cases nx <;> simp only [GivesR] at h ⊢
    case value u => exact ⟨h.1, hm _ _ h.2⟩
    case skip => exact ⟨h.1, hm _ _ h.2⟩
    case enter f args =>
      obtain ⟨e1, hc⟩ := h
      exact ⟨e1, hc.mono fun e w'' ⟨v, he, hb, hv⟩ => ⟨v, he, hb, hm _ _ hv⟩⟩
  | halt x w' => simp only [GivesR] at h
def awP (N : Nat) (val : Nat → Option Value) (i : Nat) (u : Value) (w : World) : Prop :=
  if i = 4 ∨ i = 5 then ∃ b, u = .pointer (some ⟨b, 0, none⟩) ∧ N ≤ b ∧ Blk w b 41 #[.bool false, .int .u32 0, .int .u32 0, .int .u32 0, .bool false] else ∀ y, val i = some y → u = y
theorem awP_val {N : Nat} {val : Nat → Option Value} {i : Nat} {u y : Value} {w : World} (h : awP N val i u w) (h1 : i ≠ 4) (h2 : i ≠ 5) (hy : val i = some y) : u = y := by
  unfold awP at h
  rw [if_neg (by omega)] at h
  exact h y hy
theorem awP_mk {N : Nat} {val : Nat → Option Value} {i : Nat} {u : Value} {w : World} (h1 : i ≠ 4) (h2 : i ≠ 5) (hy : val i = some u) : awP N val i u w := by
  unfold awP
  rw [if_neg (by omega)]
  intro y hz
  rw [hy] at hz
  exact Option.some.inj hz
theorem awP_keep {N : Nat} {val : Nat → Option Value} (i : Nat) (u : Value) (w w' : World) (h : awP N val i u w) (hb : Below w.heap.size w w') : awP N val i u w' := by
  unfold awP at h ⊢
  split
  · rename_i e
    rw [if_pos e] at h
    obtain ⟨b, h1, h0, h2⟩ := h
    exact ⟨b, h1, h0, h2.keep hb⟩
  · rename_i e
    rwa [if_neg e] at h
def awV : Nat → Option Value
  | 0 => some (.agg #[.int .u32 3, .int .u32 1, .int .u32 4, .bool false, .int .i64 0])
  | 1 => some (.agg #[.bool false, .int .u32 4, .int .u32 1, .int .u32 4, .bool false])
  | 2 => some (.agg #[.int .u32 3, .int .u32 1, .int .u32 4, .bool false, .int .i64 0])
  | 3 => some (.agg #[.bool true, .int .u32 4, .int .u32 1, .int .u32 4, .bool true])
  | _ => none
set_option maxRecDepth 100000 in
set_option maxHeartbeats 16000000 in
theorem awake_c (w : World) : Calls Try.prog 18 #[] w fun e w' => e = .returned (.bool true) ∧ Below w.heap.size w w' := by
  have HJ1 := Lib.hid j1_c
  have HJ2 := Lib.hid j2_c
  have HJ3 := Lib.hid j3_c
  have HA1 := Lib.hid a1_c
  have HW1 := Lib.hid w1_c
  have HB1 : Hid (Below w.heap.size w (w.alloc (.cells #[.int .u32 3, .int .u32 1, .int .u32 4, .bool false, .int .i64 0] 39))) := Lib.hid ((Below.refl _ _).alloc (Nat.le_refl _) _)
  have HD1 : Hid (Blk (w.alloc (.cells #[.int .u32 3, .int .u32 1, .int .u32 4, .bool false, .int .i64 0] 39)) w.heap.size 39 #[.int .u32 3, .int .u32 1, .int .u32 4, .bool false, .int .i64 0]) := Lib.hid (Blk.here rfl)
  go_enter Try.func18, Try.ntmps18
  go_upto_region 2 with fail
  generalize w.alloc (.cells #[.int .u32 3, .int .u32 1, .int .u32 4, .bool false, .int .i64 0] 39) = w1 at *
  generalize hgx : w.heap.size = g1 at *
  have HR2 : Hid (Rows' RTy ((w1.alloc (.cells #[.string { data := #[97] }, .slice none 0 0, .bool true, .string { data := #[98] }, .slice none 0 0, .bool false, .string { data := #[99] }, .slice none 0 0, .bool false] 99)).alloc (.cells #[.int .i64 2, .int .i64 7, .int .i64 2] 3)) (.slice (some ⟨w1.heap.size, 0, none⟩) 3 3) T0) := Lib.hid (rows_T0 ((Blk.here rfl).alloc _))
  have HI2 : Hid (Rows' RIn ((w1.alloc (.cells #[.string { data := #[97] }, .slice none 0 0, .bool true, .string { data := #[98] }, .slice none 0 0, .bool false, .string { data := #[99] }, .slice none 0 0, .bool false] 99)).alloc (.cells #[.int .i64 2, .int .i64 7, .int .i64 2] 3)) (.slice (some ⟨w1.heap.size + 1, 0, none⟩) 3 3) [2, 7, 2]) := Lib.hid (rows_L0 (Blk.here (by simp)))
  have HB2 : Hid (Below g1 w ((w1.alloc (.cells #[.string { data := #[97] }, .slice none 0 0, .bool true, .string { data := #[98] }, .slice none 0 0, .bool false, .string { data := #[99] }, .slice none 0 0, .bool false] 99)).alloc (.cells #[.int .i64 2, .int .i64 7, .int .i64 2] 3))) := Lib.hid ((HB1.out.alloc (Nat.le_of_lt HD1.out.lt) _).alloc (by have := HD1.out.lt; simp; omega) _)
  have HD2 : Hid (Blk ((w1.alloc (.cells #[.string { data := #[97] }, .slice none 0 0, .bool true, .string { data := #[98] }, .slice none 0 0, .bool false, .string { data := #[99] }, .slice none 0 0, .bool false] 99)).alloc (.cells #[.int .i64 2, .int .i64 7, .int .i64 2] 3)) g1 39 #[.int .u32 3, .int .u32 1, .int .u32 4, .bool false, .int .i64 0]) := Lib.hid ((HD1.out.alloc _).alloc _)
  go_upto_region 3 with (first | (go_at_call 19; refine (with_c _ T0 [2, 7, 2] w1.heap.size 0 3 3 (w1.heap.size + 1) 0 3 3 HR2.out rfl (by decide) (by decide) HI2.out rfl (by decide) (by decide)).mono ?_; rintro e w3 ⟨gt, ct, Tc, rfl, h1, h2, h3⟩; have HO3 := Lib.hid h1; have HT3 := Lib.hid (pt_T0 h2); have HTL := Lib.hid h2.len; have HB3 := Lib.hid h3; clear h1 h2 h3) | fail)
  have HB4 : Hid (Below g1 w (w3.alloc (.cells #[.slice none 0 0, (.slice (some ⟨gt, 0, none⟩) 3 ct), .slice none 0 0, .slice none 0 0, .slice none 0 0, .slice none 0 0, .slice none 0 0, .slice none 0 0, .slice none 0 0, .slice none 0 0, .slice none 0 0, .slice none 0 0, .slice none 0 0, .slice none 0 0, .slice none 0 0, .slice none 0 0, .slice none 0 0] 62))) := Lib.hid ((HB2.out.trans (HB3.out.mono (by have := HB2.out.size; have := HD2.out.lt; omega))).alloc (by have := HB3.out.size; have := HD2.out.lt; omega) _)
  have HP4 : Hid (Blk (w3.alloc (.cells #[.slice none 0 0, (.slice (some ⟨gt, 0, none⟩) 3 ct), .slice none 0 0, .slice none 0 0, .slice none 0 0, .slice none 0 0, .slice none 0 0, .slice none 0 0, .slice none 0 0, .slice none 0 0, .slice none 0 0, .slice none 0 0, .slice none 0 0, .slice none 0 0, .slice none 0 0, .slice none 0 0, .slice none 0 0] 62)) w3.heap.size 62 #[.slice none 0 0, (.slice (some ⟨gt, 0, none⟩) 3 ct), .slice none 0 0, .slice none 0 0, .slice none 0 0, .slice none 0 0, .slice none 0 0, .slice none 0 0, .slice none 0 0, .slice none 0 0, .slice none 0 0, .slice none 0 0, .slice none 0 0, .slice none 0 0, .slice none 0 0, .slice none 0 0, .slice none 0 0]) := Lib.hid (Blk.here rfl)
  have HD4 : Hid (Blk (w3.alloc (.cells #[.slice none 0 0, (.slice (some ⟨gt, 0, none⟩) 3 ct), .slice none 0 0, .slice none 0 0, .slice none 0 0, .slice none 0 0, .slice none 0 0, .slice none 0 0, .slice none 0 0, .slice none 0 0, .slice none 0 0, .slice none 0 0, .slice none 0 0, .slice none 0 0, .slice none 0 0, .slice none 0 0, .slice none 0 0] 62)) g1 39 #[.int .u32 3, .int .u32 1, .int .u32 4, .bool false, .int .i64 0]) := Lib.hid ((HD2.out.keep HB3.out).alloc _)
  have HO4 := Lib.hid (HO3.out.below ((Below.refl w3.heap.size w3).alloc (Nat.le_refl _) (.cells #[.slice none 0 0, (.slice (some ⟨gt, 0, none⟩) 3 ct), .slice none 0 0, .slice none 0 0, .slice none 0 0, .slice none 0 0, .slice none 0 0, .slice none 0 0, .slice none 0 0, .slice none 0 0, .slice none 0 0, .slice none 0 0, .slice none 0 0, .slice none 0 0, .slice none 0 0, .slice none 0 0, .slice none 0 0] 62)))
  generalize w3.alloc (.cells #[.slice none 0 0, (.slice (some ⟨gt, 0, none⟩) 3 ct), .slice none 0 0, .slice none 0 0, .slice none 0 0, .slice none 0 0, .slice none 0 0, .slice none 0 0, .slice none 0 0, .slice none 0 0, .slice none 0 0, .slice none 0 0, .slice none 0 0, .slice none 0 0, .slice none 0 0, .slice none 0 0, .slice none 0 0] 62) = w4 at *
  generalize w3.heap.size = g2 at *
  refine wp_region_phip 6 (fun j => j == 4 || j == 5) (awP w4.heap.size awV) (by kernel_rfl) (by decide) (by kernel_rfl) (by kernel_rfl) (by kernel_rfl) awP_keep (fun j v w hj h => by
    have e : j = 4 ∨ j = 5 := by simpa using hj
    unfold awP at h
    rw [if_pos e] at h
    obtain ⟨b, h1, _, h2⟩ := h
    exact ⟨b, h1, h2.lt⟩) ?_ ?_
  · refine ⟨⟨trivial, fun A u hK hF => ?_⟩, ⟨trivial, fun A u hK hF => ?_⟩, ⟨trivial, fun A u hK hF => ?_⟩, ⟨trivial, fun A u hK hF => ?_⟩, ⟨trivial, fun A u hK hF => ?_⟩, ⟨trivial, fun A u hK hF => ?_⟩, trivial⟩
    · have f1 : A.tmps[1]?.getD undef = .pointer (some ⟨g1, 0, none⟩) := fact_none (hF 1) (by kernel_rfl)
      obtain ⟨y0, y1, y2, y3, y4⟩ := (HD4.out.keep hK).c5
      refine gives_mono (φ := awP w4.heap.size awV 0) ?_ (fun v w2 h => ⟨h, fun e => by cases e⟩)
      unfold Gives
      go_simp
      exact gives_val (Below.refl _ _) (awP_mk (by decide) (by decide) rfl)
    · have f13 : A.tmps[13]?.getD undef = .agg #[.int .u32 3, .int .u32 1, .int .u32 4, .bool false, .int .i64 0] := awP_val (fact_some (hF 13) (j := 0) (by kernel_rfl) (by kernel_rfl)) (by decide) (by decide) rfl
      refine gives_mono (φ := awP w4.heap.size awV 1) ?_ (fun v w2 h => ⟨h, fun e => by cases e⟩)
      unfold Gives
      go_simp
      exact gives_enter ((HJ1.out _).mono fun _ _ ⟨he, hb⟩ => ⟨_, he, hb, awP_mk (by decide) (by decide) rfl⟩)
    · have f1 : A.tmps[1]?.getD undef = .pointer (some ⟨g1, 0, none⟩) := fact_none (hF 1) (by kernel_rfl)
      obtain ⟨y0, y1, y2, y3, y4⟩ := (HD4.out.keep hK).c5
      refine gives_mono (φ := awP w4.heap.size awV 2) ?_ (fun v w2 h => ⟨h, fun e => by cases e⟩)
      unfold Gives
      go_simp
      exact gives_val (Below.refl _ _) (awP_mk (by decide) (by decide) rfl)
    · have f15 : A.tmps[15]?.getD undef = .agg #[.int .u32 3, .int .u32 1, .int .u32 4, .bool false, .int .i64 0] := awP_val (fact_some (hF 15) (j := 2) (by kernel_rfl) (by kernel_rfl)) (by decide) (by decide) rfl
      refine gives_mono (φ := awP w4.heap.size awV 3) ?_ (fun v w2 h => ⟨h, fun e => by cases e⟩)
      unfold Gives
      go_simp
      exact gives_enter ((HJ2.out _).mono fun _ _ ⟨he, hb⟩ => ⟨_, he, hb, awP_mk (by decide) (by decide) rfl⟩)
    · refine gives_mono (φ := fun v w2 => ∃ b, v = .pointer (some ⟨b, 0, none⟩) ∧ w4.heap.size ≤ b ∧ u.heap.size ≤ b ∧ Blk w2 b 41 #[.bool false, .int .u32 0, .int .u32 0, .int .u32 0, .bool false]) ?_ (fun v w2 ⟨b, h1, h2, h3, h4⟩ => ⟨by unfold awP; rw [if_pos (by decide)]; exact ⟨b, h1, h2, h4⟩, fun _ => ⟨b, h1, h3⟩⟩)
      unfold Gives
      go_simp
      exact gives_val ((Below.refl _ _).alloc (Nat.le_refl _) _) ⟨_, rfl, hK.size, Nat.le_refl _, Blk.new _ _ _⟩
    · refine gives_mono (φ := fun v w2 => ∃ b, v = .pointer (some ⟨b, 0, none⟩) ∧ w4.heap.size ≤ b ∧ u.heap.size ≤ b ∧ Blk w2 b 41 #[.bool false, .int .u32 0, .int .u32 0, .int .u32 0, .bool false]) ?_ (fun v w2 ⟨b, h1, h2, h3, h4⟩ => ⟨by unfold awP; rw [if_pos (by decide)]; exact ⟨b, h1, h2, h4⟩, fun _ => ⟨b, h1, h3⟩⟩)
      unfold Gives
      go_simp
      exact gives_val ((Below.refl _ _).alloc (Nat.le_refl _) _) ⟨_, rfl, hK.size, Nat.le_refl _, Blk.new _ _ _⟩
  · intro a W9 hC hsz hdf hF hpr
    have ha := end_cut 3 16 hsz hdf hF (by kernel_rfl)
    have f14 : a.tmps[14]?.getD undef = .agg #[.bool false, .int .u32 4, .int .u32 1, .int .u32 4, .bool false] := awP_val (fact_end (hF 14) (j := 1) (by kernel_rfl)) (by decide) (by decide) rfl
    have f16 : a.tmps[16]?.getD undef = .agg #[.bool true, .int .u32 4, .int .u32 1, .int .u32 4, .bool true] := awP_val (fact_end (hF 16) (j := 3) (by kernel_rfl)) (by decide) (by decide) rfl
    obtain ⟨b3, f3, hg3, hb3⟩ : ∃ b, a.tmps[3]?.getD undef = .pointer (some ⟨b, 0, none⟩) ∧ w4.heap.size ≤ b ∧ Blk W9 b 41 #[.bool false, .int .u32 0, .int .u32 0, .int .u32 0, .bool false] := by
      have h := fact_end (hF 3) (j := 4) (by kernel_rfl)
      unfold awP at h
      rwa [if_pos (.inl rfl)] at h
    obtain ⟨b4, f4, hg4, hb4⟩ : ∃ b, a.tmps[4]?.getD undef = .pointer (some ⟨b, 0, none⟩) ∧ w4.heap.size ≤ b ∧ Blk W9 b 41 #[.bool false, .int .u32 0, .int .u32 0, .int .u32 0, .bool false] := by
      have h := fact_end (hF 4) (j := 5) (by kernel_rfl)
      unfold awP at h
      rwa [if_pos (.inr rfl)] at h
    have hne : b3 ≠ b4 := fun e => by
      have h := hpr 4 5 _ _ 3 4 (by decide) (by decide) (by decide) rfl rfl rfl rfl rfl rfl
      apply h
      show a.tmps.getD 3 undef = a.tmps.getD 4 undef
      have e3 : a.tmps.getD 3 undef = a.tmps[3]?.getD undef := by simp
      have e4 : a.tmps.getD 4 undef = a.tmps[4]?.getD undef := by simp
      rw [e3, e4, f3, f4, e]
    have hne2 : b4 ≠ b3 := fun e => hne e.symm
    rw [ha]
    clear ha hF hpr
    simp only [cutL_cons, cutL_nil, Nat.reduceAdd, Nat.reduceLeDiff, and_true, and_false, if_true, if_false, and_self]
    rw [f3, f4, f14, f16]
    clear f3 f4 f14 f16
    generalize a.tmps[5]?.getD undef = s5
    generalize a.tmps[6]?.getD undef = s6
    generalize a.tmps[7]?.getD undef = s7
    generalize a.tmps[8]?.getD undef = s8
    generalize a.tmps[9]?.getD undef = s9
    generalize a.tmps[10]?.getD undef = s10
    generalize a.tmps[11]?.getD undef = s11
    generalize a.tmps[12]?.getD undef = s12
    generalize a.tmps[13]?.getD undef = s13
    generalize a.tmps[15]?.getD undef = s15
    clear hsz hdf
    obtain ⟨x0, x1, x2, x3, x4⟩ := hb3.c5
    obtain ⟨f0, f1, f2, f3, f4⟩ := hb3.f5
    obtain ⟨y0, y1, y2, y3, y4⟩ := hb4.c5
    obtain ⟨z0, z1, z2, z3, z4⟩ := hb4.f5
    have HK : Hid (Below w4.heap.size w4 W9) := Lib.hid hC
    have HG3 := Lib.hid hg3
    have HG4 := Lib.hid hg4
    have HB3b := Lib.hid hb3
    have HB4b := Lib.hid hb4
    clear hC hg3 hg4 hb3 hb4
    go_upto_region 4 with fail
    have h3a : Blk (((((W9.setCell ⟨b3, 0, none⟩ (.bool false)).setCell ⟨b3, 1, none⟩ (.int .u32 4)).setCell ⟨b3, 2, none⟩ (.int .u32 1)).setCell ⟨b3, 3, none⟩ (.int .u32 4)).setCell ⟨b3, 4, none⟩ (.bool false)) b3 41 #[.bool false, .int .u32 4, .int .u32 1, .int .u32 4, .bool false] := by simpa using (((((HB3b.out.set 0 (.bool false)).set 1 (.int .u32 4)).set 2 (.int .u32 1)).set 3 (.int .u32 4)).set 4 (.bool false))
    have H3 : Hid (Blk ((((((((((W9.setCell ⟨b3, 0, none⟩ (.bool false)).setCell ⟨b3, 1, none⟩ (.int .u32 4)).setCell ⟨b3, 2, none⟩ (.int .u32 1)).setCell ⟨b3, 3, none⟩ (.int .u32 4)).setCell ⟨b3, 4, none⟩ (.bool false)).setCell ⟨b4, 0, none⟩ (.bool true)).setCell ⟨b4, 1, none⟩ (.int .u32 4)).setCell ⟨b4, 2, none⟩ (.int .u32 1)).setCell ⟨b4, 3, none⟩ (.int .u32 4)).setCell ⟨b4, 4, none⟩ (.bool true)) b3 41 #[.bool false, .int .u32 4, .int .u32 1, .int .u32 4, .bool false]) := Lib.hid (((((h3a.far (p := ⟨b4, 0, none⟩) hne (.bool true)).far (p := ⟨b4, 1, none⟩) hne (.int .u32 4)).far (p := ⟨b4, 2, none⟩) hne (.int .u32 1)).far (p := ⟨b4, 3, none⟩) hne (.int .u32 4)).far (p := ⟨b4, 4, none⟩) hne (.bool true))
    clear h3a
    have H4 : Hid (Blk ((((((((((W9.setCell ⟨b3, 0, none⟩ (.bool false)).setCell ⟨b3, 1, none⟩ (.int .u32 4)).setCell ⟨b3, 2, none⟩ (.int .u32 1)).setCell ⟨b3, 3, none⟩ (.int .u32 4)).setCell ⟨b3, 4, none⟩ (.bool false)).setCell ⟨b4, 0, none⟩ (.bool true)).setCell ⟨b4, 1, none⟩ (.int .u32 4)).setCell ⟨b4, 2, none⟩ (.int .u32 1)).setCell ⟨b4, 3, none⟩ (.int .u32 4)).setCell ⟨b4, 4, none⟩ (.bool true)) b4 41 #[.bool true, .int .u32 4, .int .u32 1, .int .u32 4, .bool true]) := Lib.hid (by simpa using ((((((((((HB4b.out.far (p := ⟨b3, 0, none⟩) hne2 (.bool false)).far (p := ⟨b3, 1, none⟩) hne2 (.int .u32 4)).far (p := ⟨b3, 2, none⟩) hne2 (.int .u32 1)).far (p := ⟨b3, 3, none⟩) hne2 (.int .u32 4)).far (p := ⟨b3, 4, none⟩) hne2 (.bool false)).set 0 (.bool true)).set 1 (.int .u32 4)).set 2 (.int .u32 1)).set 3 (.int .u32 4)).set 4 (.bool true)))
    have HK5 : Hid (Below w4.heap.size w4 ((((((((((W9.setCell ⟨b3, 0, none⟩ (.bool false)).setCell ⟨b3, 1, none⟩ (.int .u32 4)).setCell ⟨b3, 2, none⟩ (.int .u32 1)).setCell ⟨b3, 3, none⟩ (.int .u32 4)).setCell ⟨b3, 4, none⟩ (.bool false)).setCell ⟨b4, 0, none⟩ (.bool true)).setCell ⟨b4, 1, none⟩ (.int .u32 4)).setCell ⟨b4, 2, none⟩ (.int .u32 1)).setCell ⟨b4, 3, none⟩ (.int .u32 4)).setCell ⟨b4, 4, none⟩ (.bool true))) := Lib.hid ((((((((((HK.out.setCell (p := ⟨b3, 0, none⟩) HG3.out (.bool false)).setCell (p := ⟨b3, 1, none⟩) HG3.out (.int .u32 4)).setCell (p := ⟨b3, 2, none⟩) HG3.out (.int .u32 1)).setCell (p := ⟨b3, 3, none⟩) HG3.out (.int .u32 4)).setCell (p := ⟨b3, 4, none⟩) HG3.out (.bool false)).setCell (p := ⟨b4, 0, none⟩) HG4.out (.bool true)).setCell (p := ⟨b4, 1, none⟩) HG4.out (.int .u32 4)).setCell (p := ⟨b4, 2, none⟩) HG4.out (.int .u32 1)).setCell (p := ⟨b4, 3, none⟩) HG4.out (.int .u32 4)).setCell (p := ⟨b4, 4, none⟩) HG4.out (.bool true))
    clear x0 x1 x2 x3 x4 f0 f1 f2 f3 f4 y0 y1 y2 y3 y4 z0 z1 z2 z3 z4 HB3b HB4b
    generalize ((((((((((W9.setCell ⟨b3, 0, none⟩ (.bool false)).setCell ⟨b3, 1, none⟩ (.int .u32 4)).setCell ⟨b3, 2, none⟩ (.int .u32 1)).setCell ⟨b3, 3, none⟩ (.int .u32 4)).setCell ⟨b3, 4, none⟩ (.bool false)).setCell ⟨b4, 0, none⟩ (.bool true)).setCell ⟨b4, 1, none⟩ (.int .u32 4)).setCell ⟨b4, 2, none⟩ (.int .u32 1)).setCell ⟨b4, 3, none⟩ (.int .u32 4)).setCell ⟨b4, 4, none⟩ (.bool true)) = w5 at *
    have HD5 := Lib.hid (HD4.out.keep HK5.out)
    have HP5 := Lib.hid (HP4.out.keep HK5.out)
    have HO5 := Lib.hid (HO4.out.below HK5.out)
    have hq1 := e1_c
    have hq2 := e2_c
    have hq3 := e3_c
    obtain ⟨x0, x1, x2, x3, x4⟩ := H3.out.c5
    obtain ⟨y0, y1, y2, y3, y4⟩ := H4.out.c5
    obtain ⟨d0, d1, d2, d3, d4⟩ := HD5.out.c5
    go_wp2_with (first
      | (go_at_call 14; refine (HJ3.out _).mono ?_; rintro e w6 ⟨rfl, hb6⟩; have HC6 := Lib.hid hb6; clear hb6 x0 x1 x2 x3 x4 y0 y1 y2 y3 y4 d0 d1 d2 d3 d4; obtain ⟨x0, x1, x2, x3, x4⟩ := (H3.out.keep HC6.out).c5)
      | (go_at_call 16; refine (HA1.out _).mono ?_; rintro e w7 ⟨rfl, hb7⟩; have HC7 : Hid (Below w5.heap.size w5 w7) := Lib.hid (HC6.out.trans (hb7.mono HC6.out.size)); clear hb7 x0 x1 x2 x3 x4; have hp7 := (HP5.out.keep HC7.out).cell; have p0 := hp7 0; have p1 := hp7 1; have p2 := hp7 2; have p3 := hp7 3; have p4 := hp7 4; have p5 := hp7 5; have p6 := hp7 6; have p7 := hp7 7; have p8 := hp7 8; have p9 := hp7 9; have p10 := hp7 10; have p11 := hp7 11; have p12 := hp7 12; have p13 := hp7 13; have p14 := hp7 14; have p15 := hp7 15; have p16 := hp7 16; clear hp7)
      | (go_at_call 21; refine (perm_c Tc gt 0 3 ct (HO5.out.below HC7.out).rows (by rw [HTL.out]; rfl) (by decide)).mono ?_; rintro e w8 ⟨v8, rfl, h8, hb8⟩; rw [HT3.out] at h8; obtain ⟨a8, k8, e8⟩ := h8.isSl; have e8b : v8 = .slice a8 1 k8 := e8; clear e8; subst e8b; have HC8 : Hid (Below w5.heap.size w5 w8) := Lib.hid (HC7.out.trans (hb8.mono HC7.out.size)); have H8 : Hid (Rows' RIn (w8.alloc (.cells #[.int .i64 2] 3)) (.slice a8 1 k8) [2]) := Lib.hid (h8.rows.below ((Below.refl _ _).alloc (Nat.le_refl _) _)); have HC9 : Hid (Below w5.heap.size w5 (w8.alloc (.cells #[.int .i64 2] 3))) := Lib.hid (HC8.out.alloc HC8.out.size _); have H9 : Hid (Rows' RIn (w8.alloc (.cells #[.int .i64 2] 3)) (.slice (some ⟨w8.heap.size, 0, none⟩) 1 1) [2]) := Lib.hid (rows_L1 (Blk.here rfl)); clear hb8 h8 p0 p1 p2 p3 p4 p5 p6 p7 p8 p9 p10 p11 p12 p13 p14 p15 p16)
      | (go_at_call 22; refine (ints_c _ _ [2] [2] H8.out H9.out (by decide)).mono ?_; rintro e w10 ⟨rfl, hb10⟩; have HC10 : Hid (Below w5.heap.size w5 w10) := Lib.hid (HC9.out.trans (hb10.mono HC9.out.size)); clear hb10; obtain ⟨x0, x1, x2, x3, x4⟩ := (H3.out.keep HC10.out).c5; obtain ⟨y0, y1, y2, y3, y4⟩ := (H4.out.keep HC10.out).c5)
      | (go_at_call 25; refine (HW1.out _).mono ?_; rintro e w11 ⟨rfl, hb11⟩; have HC11 : Hid (Below w5.heap.size w5 w11) := Lib.hid (HC10.out.trans (hb11.mono HC10.out.size)); clear hb11 x0 x1 x2 x3 x4 y0 y1 y2 y3 y4)
      | fail)
    go_ret
    refine ⟨rfl, ?_⟩
    rw [hgx]
    have h1 := HB4.out.trans (HK5.out.mono (by have := HD4.out.lt; omega))
    exact h1.trans (HC11.out.mono (by have := HD5.out.lt; omega))
end Go.Proofs.Ytbcbhgclgakljaa
