/- The law ModeEnforces walked. -/
import Derived.Test.YtbcbhgclgakljaaMdm
namespace Go.Proofs.Ytbcbhgclgakljaa
open Go.RowKit Go.Maps
def enP (N : Nat) (val : Nat → Option Value) (i : Nat) (u : Value) (w : World) : Prop :=
  if i = 6 ∨ i = 7 then ∃ b, u = .pointer (some ⟨b, 0, none⟩) ∧ N ≤ b ∧ Blk w b 41 #[.bool false, .int .u32 0, .int .u32 0, .int .u32 0, .bool false] else ∀ y, val i = some y → u = y
theorem enP_val {N : Nat} {val : Nat → Option Value} {i : Nat} {u y : Value} {w : World} (h : enP N val i u w) (h1 : i ≠ 6) (h2 : i ≠ 7) (hy : val i = some y) : u = y := by
  unfold enP at h
  rw [if_neg (by omega)] at h
  exact h y hy
theorem enP_mk {N : Nat} {val : Nat → Option Value} {i : Nat} {u : Value} {w : World} (h1 : i ≠ 6) (h2 : i ≠ 7) (hy : val i = some u) : enP N val i u w := by
  unfold enP
  rw [if_neg (by omega)]
  intro y hz
  rw [hy] at hz
  exact Option.some.inj hz
theorem enP_keep {N : Nat} {val : Nat → Option Value} (i : Nat) (u : Value) (w w' : World) (h : enP N val i u w) (hb : Below w.heap.size w w') : enP N val i u w' := by
  unfold enP at h ⊢
  split
  · rename_i e
    rw [if_pos e] at h
    obtain ⟨b, h1, h0, h2⟩ := h
    exact ⟨b, h1, h0, h2.keep hb⟩
  · rename_i e
    rwa [if_neg e] at h
def enV (al aa ad : BitVec 32) (pm : Bool) (sq : Int) (p : BitVec 32) (g1 : Bool) (x y z : BitVec 32) (q1 q2 : Bool) : Nat → Option Value
  | 0 => some (.agg #[.int .u32 (vI al), .int .u32 (vI aa), .int .u32 (vI ad), .bool pm, .int .i64 sq])
  | 1 => some (.int .u32 (vI p))
  | 2 => some (.agg #[.bool g1, .int .u32 (vI x), .int .u32 (vI y), .int .u32 (vI z), .bool q1])
  | 3 => some (.agg #[.int .u32 (vI al), .int .u32 (vI aa), .int .u32 (vI ad), .bool pm, .int .i64 sq])
  | 4 => some (.int .u32 (vI p))
  | 5 => some (.agg #[.bool true, .int .u32 (vI x), .int .u32 (vI y), .int .u32 (vI z), .bool q2])
  | _ => none
set_option maxRecDepth 100000 in
set_option maxHeartbeats 16000000 in
theorem enf_n (al aa ad : BitVec 32) (pm : Bool) (sq : Int) (p : BitVec 32) (g1 : Bool) (x y z : BitVec 32) (q1 q2 : Bool) (w : World)
    (h1 : ∀ u, Calls Try.prog 14 #[.agg #[.int .u32 (vI al), .int .u32 (vI aa), .int .u32 (vI ad), .bool pm, .int .i64 sq], .int .u32 (vI p), .bool true] u fun r w' => r = .returned (.agg #[.bool g1, .int .u32 (vI x), .int .u32 (vI y), .int .u32 (vI z), .bool q1]) ∧ Below u.heap.size u w')
    (h2 : ∀ u, Calls Try.prog 14 #[.agg #[.int .u32 (vI al), .int .u32 (vI aa), .int .u32 (vI ad), .bool pm, .int .i64 sq], .int .u32 (vI p), .bool false] u fun r w' => r = .returned (.agg #[.bool true, .int .u32 (vI x), .int .u32 (vI y), .int .u32 (vI z), .bool q2]) ∧ Below u.heap.size u w')
    (hyz : y &&& z = 0#32) (hp : (y ||| z) &&& ~~~ p = 0#32) (hx : p &&& ~~~ al = x) (hpm : pm = true → g1 = true) (hq : pm = false → q1 = false ∧ g1 = decide (x = 0#32)) :
    Calls Try.prog 8 #[.agg #[.int .u32 (vI al), .int .u32 (vI aa), .int .u32 (vI ad), .bool pm, .int .i64 sq], .int .u32 (vI p)] w fun r w' => r = .returned (.bool true) ∧ Below w.heap.size w w' := by
  have HJ1 := Lib.hid h1
  have HJ2 := Lib.hid h2
  have HA : Hid (∀ u, Calls Try.prog 16 #[.agg #[.bool g1, .int .u32 (vI x), .int .u32 (vI y), .int .u32 (vI z), .bool q1]] u fun r w' => r = .returned (.int .u32 (vI (y ||| z))) ∧ Below u.heap.size u w') := Lib.hid (fun u => audited_c ⟨g1, x, y, z, q1⟩ u)
  have HB1 : Hid (Below w.heap.size w (w.alloc (.cells #[.int .u32 (vI al), .int .u32 (vI aa), .int .u32 (vI ad), .bool pm, .int .i64 sq] 39))) := Lib.hid ((Below.refl _ _).alloc (Nat.le_refl _) _)
  have HD1 : Hid (Blk (w.alloc (.cells #[.int .u32 (vI al), .int .u32 (vI aa), .int .u32 (vI ad), .bool pm, .int .i64 sq] 39)) w.heap.size 39 #[.int .u32 (vI al), .int .u32 (vI aa), .int .u32 (vI ad), .bool pm, .int .i64 sq]) := Lib.hid (Blk.here rfl)
  have HX := Lib.hid hx
  have HPM := Lib.hid hpm
  have HQ := Lib.hid hq
  have HYZ := Lib.hid hyz
  have HPP := Lib.hid hp
  clear h1 h2 hx hpm hq hyz hp
  go_enter Try.func8, Try.ntmps8
  go_upto_region 1 with fail
  generalize w.alloc (.cells #[.int .u32 (vI al), .int .u32 (vI aa), .int .u32 (vI ad), .bool pm, .int .i64 sq] 39) = w1 at *
  generalize hgx : w.heap.size = g2 at *
  refine wp_region_phip 8 (fun j => j == 6 || j == 7) (enP w1.heap.size (enV al aa ad pm sq p g1 x y z q1 q2)) (by kernel_rfl) (by decide) (by kernel_rfl) (by kernel_rfl) (by kernel_rfl) enP_keep (fun j v w hj h => by
    have e : j = 6 ∨ j = 7 := by simpa using hj
    unfold enP at h
    rw [if_pos e] at h
    obtain ⟨b, h1, _, h2⟩ := h
    exact ⟨b, h1, h2.lt⟩) ?_ ?_
  · refine ⟨⟨trivial, fun A u hK hF => ?_⟩, ⟨trivial, fun A u hK hF => ?_⟩, ⟨trivial, fun A u hK hF => ?_⟩, ⟨trivial, fun A u hK hF => ?_⟩, ⟨trivial, fun A u hK hF => ?_⟩, ⟨trivial, fun A u hK hF => ?_⟩, ⟨trivial, fun A u hK hF => ?_⟩, ⟨trivial, fun A u hK hF => ?_⟩, trivial⟩
    · have f2 : A.tmps[2]?.getD undef = .pointer (some ⟨g2, 0, none⟩) := fact_none (hF 2) (by kernel_rfl)
      obtain ⟨y0, y1, y2, y3, y4⟩ := (HD1.out.keep hK).c5
      refine gives_mono (φ := enP w1.heap.size (enV al aa ad pm sq p g1 x y z q1 q2) 0) ?_ (fun v w2 h => ⟨h, fun e => by cases e⟩)
      unfold Gives
      go_simp
      exact gives_val (Below.refl _ _) (enP_mk (by decide) (by decide) rfl)
    · have f1 : A.tmps[1]?.getD undef = .int .u32 (vI p) := fact_none (hF 1) (by kernel_rfl)
      refine gives_mono (φ := enP w1.heap.size (enV al aa ad pm sq p g1 x y z q1 q2) 1) ?_ (fun v w2 h => ⟨h, fun e => by cases e⟩)
      unfold Gives
      go_simp
      exact gives_val (Below.refl _ _) (enP_mk (by decide) (by decide) rfl)
    · have f7 : A.tmps[7]?.getD undef = .agg #[.int .u32 (vI al), .int .u32 (vI aa), .int .u32 (vI ad), .bool pm, .int .i64 sq] := enP_val (fact_some (hF 7) (j := 0) (by kernel_rfl) (by kernel_rfl)) (by decide) (by decide) rfl
      have f8 : A.tmps[8]?.getD undef = .int .u32 (vI p) := enP_val (fact_some (hF 8) (j := 1) (by kernel_rfl) (by kernel_rfl)) (by decide) (by decide) rfl
      refine gives_mono (φ := enP w1.heap.size (enV al aa ad pm sq p g1 x y z q1 q2) 2) ?_ (fun v w2 h => ⟨h, fun e => by cases e⟩)
      unfold Gives
      go_simp
      exact gives_enter ((HJ1.out _).mono fun _ _ ⟨he, hb⟩ => ⟨_, he, hb, enP_mk (by decide) (by decide) rfl⟩)
    · have f2 : A.tmps[2]?.getD undef = .pointer (some ⟨g2, 0, none⟩) := fact_none (hF 2) (by kernel_rfl)
      obtain ⟨y0, y1, y2, y3, y4⟩ := (HD1.out.keep hK).c5
      refine gives_mono (φ := enP w1.heap.size (enV al aa ad pm sq p g1 x y z q1 q2) 3) ?_ (fun v w2 h => ⟨h, fun e => by cases e⟩)
      unfold Gives
      go_simp
      exact gives_val (Below.refl _ _) (enP_mk (by decide) (by decide) rfl)
    · have f1 : A.tmps[1]?.getD undef = .int .u32 (vI p) := fact_none (hF 1) (by kernel_rfl)
      refine gives_mono (φ := enP w1.heap.size (enV al aa ad pm sq p g1 x y z q1 q2) 4) ?_ (fun v w2 h => ⟨h, fun e => by cases e⟩)
      unfold Gives
      go_simp
      exact gives_val (Below.refl _ _) (enP_mk (by decide) (by decide) rfl)
    · have f10 : A.tmps[10]?.getD undef = .agg #[.int .u32 (vI al), .int .u32 (vI aa), .int .u32 (vI ad), .bool pm, .int .i64 sq] := enP_val (fact_some (hF 10) (j := 3) (by kernel_rfl) (by kernel_rfl)) (by decide) (by decide) rfl
      have f11 : A.tmps[11]?.getD undef = .int .u32 (vI p) := enP_val (fact_some (hF 11) (j := 4) (by kernel_rfl) (by kernel_rfl)) (by decide) (by decide) rfl
      refine gives_mono (φ := enP w1.heap.size (enV al aa ad pm sq p g1 x y z q1 q2) 5) ?_ (fun v w2 h => ⟨h, fun e => by cases e⟩)
      unfold Gives
      go_simp
      exact gives_enter ((HJ2.out _).mono fun _ _ ⟨he, hb⟩ => ⟨_, he, hb, enP_mk (by decide) (by decide) rfl⟩)
    · refine gives_mono (φ := fun v w2 => ∃ b, v = .pointer (some ⟨b, 0, none⟩) ∧ w1.heap.size ≤ b ∧ u.heap.size ≤ b ∧ Blk w2 b 41 #[.bool false, .int .u32 0, .int .u32 0, .int .u32 0, .bool false]) ?_ (fun v w2 ⟨b, h1, h2, h3, h4⟩ => ⟨by unfold enP; rw [if_pos (by decide)]; exact ⟨b, h1, h2, h4⟩, fun _ => ⟨b, h1, h3⟩⟩)
      unfold Gives
      go_simp
      exact gives_val ((Below.refl _ _).alloc (Nat.le_refl _) _) ⟨_, rfl, hK.size, Nat.le_refl _, Blk.new _ _ _⟩
    · refine gives_mono (φ := fun v w2 => ∃ b, v = .pointer (some ⟨b, 0, none⟩) ∧ w1.heap.size ≤ b ∧ u.heap.size ≤ b ∧ Blk w2 b 41 #[.bool false, .int .u32 0, .int .u32 0, .int .u32 0, .bool false]) ?_ (fun v w2 ⟨b, h1, h2, h3, h4⟩ => ⟨by unfold enP; rw [if_pos (by decide)]; exact ⟨b, h1, h2, h4⟩, fun _ => ⟨b, h1, h3⟩⟩)
      unfold Gives
      go_simp
      exact gives_val ((Below.refl _ _).alloc (Nat.le_refl _) _) ⟨_, rfl, hK.size, Nat.le_refl _, Blk.new _ _ _⟩
  · intro a W9 hC hsz hdf hF hpr
    have ha := end_cut 5 12 hsz hdf hF (by kernel_rfl)
    have f9 : a.tmps[9]?.getD undef = .agg #[.bool g1, .int .u32 (vI x), .int .u32 (vI y), .int .u32 (vI z), .bool q1] := enP_val (fact_end (hF 9) (j := 2) (by kernel_rfl)) (by decide) (by decide) rfl
    have f12 : a.tmps[12]?.getD undef = .agg #[.bool true, .int .u32 (vI x), .int .u32 (vI y), .int .u32 (vI z), .bool q2] := enP_val (fact_end (hF 12) (j := 5) (by kernel_rfl)) (by decide) (by decide) rfl
    obtain ⟨b5, f5, hg5, hb5⟩ : ∃ b, a.tmps[5]?.getD undef = .pointer (some ⟨b, 0, none⟩) ∧ w1.heap.size ≤ b ∧ Blk W9 b 41 #[.bool false, .int .u32 0, .int .u32 0, .int .u32 0, .bool false] := by
      have h := fact_end (hF 5) (j := 6) (by kernel_rfl)
      unfold enP at h
      rwa [if_pos (.inl rfl)] at h
    obtain ⟨b6, f6, hg6, hb6⟩ : ∃ b, a.tmps[6]?.getD undef = .pointer (some ⟨b, 0, none⟩) ∧ w1.heap.size ≤ b ∧ Blk W9 b 41 #[.bool false, .int .u32 0, .int .u32 0, .int .u32 0, .bool false] := by
      have h := fact_end (hF 6) (j := 7) (by kernel_rfl)
      unfold enP at h
      rwa [if_pos (.inr rfl)] at h
    have hne : b5 ≠ b6 := fun e => by
      have h := hpr 6 7 _ _ 5 6 (by decide) (by decide) (by decide) rfl rfl rfl rfl rfl rfl
      apply h
      show a.tmps.getD 5 undef = a.tmps.getD 6 undef
      have e3 : a.tmps.getD 5 undef = a.tmps[5]?.getD undef := by simp
      have e4 : a.tmps.getD 6 undef = a.tmps[6]?.getD undef := by simp
      rw [e3, e4, f5, f6, e]
    have hne2 : b6 ≠ b5 := fun e => hne e.symm
    rw [ha]
    clear ha hF hpr
    simp only [cutL_cons, cutL_nil, Nat.reduceAdd, Nat.reduceLeDiff, and_true, and_false, if_true, if_false, and_self]
    rw [f5, f6, f9, f12]
    clear f5 f6 f9 f12
    generalize a.tmps[7]?.getD undef = s7
    generalize a.tmps[8]?.getD undef = s8
    generalize a.tmps[10]?.getD undef = s10
    generalize a.tmps[11]?.getD undef = s11
    clear hsz hdf
    obtain ⟨x0, x1, x2, x3, x4⟩ := hb5.c5
    obtain ⟨f0, f1, f2, f3, f4⟩ := hb5.f5
    obtain ⟨y0, y1, y2, y3, y4⟩ := hb6.c5
    obtain ⟨z0, z1, z2, z3, z4⟩ := hb6.f5
    have HK : Hid (Below w1.heap.size w1 W9) := Lib.hid hC
    have HG5 := Lib.hid hg5
    have HG6 := Lib.hid hg6
    have HB5b := Lib.hid hb5
    have HB6b := Lib.hid hb6
    clear hC hg5 hg6 hb5 hb6
    go_upto_region 2 with fail
    have h3a : Blk (((((W9.setCell ⟨b5, 0, none⟩ (.bool g1)).setCell ⟨b5, 1, none⟩ (.int .u32 (vI x))).setCell ⟨b5, 2, none⟩ (.int .u32 (vI y))).setCell ⟨b5, 3, none⟩ (.int .u32 (vI z))).setCell ⟨b5, 4, none⟩ (.bool q1)) b5 41 #[.bool g1, .int .u32 (vI x), .int .u32 (vI y), .int .u32 (vI z), .bool q1] := by simpa using (((((HB5b.out.set 0 (.bool g1)).set 1 (.int .u32 (vI x))).set 2 (.int .u32 (vI y))).set 3 (.int .u32 (vI z))).set 4 (.bool q1))
    have H5 : Hid (Blk ((((((((((W9.setCell ⟨b5, 0, none⟩ (.bool g1)).setCell ⟨b5, 1, none⟩ (.int .u32 (vI x))).setCell ⟨b5, 2, none⟩ (.int .u32 (vI y))).setCell ⟨b5, 3, none⟩ (.int .u32 (vI z))).setCell ⟨b5, 4, none⟩ (.bool q1)).setCell ⟨b6, 0, none⟩ (.bool true)).setCell ⟨b6, 1, none⟩ (.int .u32 (vI x))).setCell ⟨b6, 2, none⟩ (.int .u32 (vI y))).setCell ⟨b6, 3, none⟩ (.int .u32 (vI z))).setCell ⟨b6, 4, none⟩ (.bool q2)) b5 41 #[.bool g1, .int .u32 (vI x), .int .u32 (vI y), .int .u32 (vI z), .bool q1]) := Lib.hid (((((h3a.far (p := ⟨b6, 0, none⟩) hne (.bool true)).far (p := ⟨b6, 1, none⟩) hne (.int .u32 (vI x))).far (p := ⟨b6, 2, none⟩) hne (.int .u32 (vI y))).far (p := ⟨b6, 3, none⟩) hne (.int .u32 (vI z))).far (p := ⟨b6, 4, none⟩) hne (.bool q2))
    clear h3a
    have H6 : Hid (Blk ((((((((((W9.setCell ⟨b5, 0, none⟩ (.bool g1)).setCell ⟨b5, 1, none⟩ (.int .u32 (vI x))).setCell ⟨b5, 2, none⟩ (.int .u32 (vI y))).setCell ⟨b5, 3, none⟩ (.int .u32 (vI z))).setCell ⟨b5, 4, none⟩ (.bool q1)).setCell ⟨b6, 0, none⟩ (.bool true)).setCell ⟨b6, 1, none⟩ (.int .u32 (vI x))).setCell ⟨b6, 2, none⟩ (.int .u32 (vI y))).setCell ⟨b6, 3, none⟩ (.int .u32 (vI z))).setCell ⟨b6, 4, none⟩ (.bool q2)) b6 41 #[.bool true, .int .u32 (vI x), .int .u32 (vI y), .int .u32 (vI z), .bool q2]) := Lib.hid (by simpa using ((((((((((HB6b.out.far (p := ⟨b5, 0, none⟩) hne2 (.bool g1)).far (p := ⟨b5, 1, none⟩) hne2 (.int .u32 (vI x))).far (p := ⟨b5, 2, none⟩) hne2 (.int .u32 (vI y))).far (p := ⟨b5, 3, none⟩) hne2 (.int .u32 (vI z))).far (p := ⟨b5, 4, none⟩) hne2 (.bool q1)).set 0 (.bool true)).set 1 (.int .u32 (vI x))).set 2 (.int .u32 (vI y))).set 3 (.int .u32 (vI z))).set 4 (.bool q2)))
    have HK5 : Hid (Below w1.heap.size w1 ((((((((((W9.setCell ⟨b5, 0, none⟩ (.bool g1)).setCell ⟨b5, 1, none⟩ (.int .u32 (vI x))).setCell ⟨b5, 2, none⟩ (.int .u32 (vI y))).setCell ⟨b5, 3, none⟩ (.int .u32 (vI z))).setCell ⟨b5, 4, none⟩ (.bool q1)).setCell ⟨b6, 0, none⟩ (.bool true)).setCell ⟨b6, 1, none⟩ (.int .u32 (vI x))).setCell ⟨b6, 2, none⟩ (.int .u32 (vI y))).setCell ⟨b6, 3, none⟩ (.int .u32 (vI z))).setCell ⟨b6, 4, none⟩ (.bool q2))) := Lib.hid ((((((((((HK.out.setCell (p := ⟨b5, 0, none⟩) HG5.out (.bool g1)).setCell (p := ⟨b5, 1, none⟩) HG5.out (.int .u32 (vI x))).setCell (p := ⟨b5, 2, none⟩) HG5.out (.int .u32 (vI y))).setCell (p := ⟨b5, 3, none⟩) HG5.out (.int .u32 (vI z))).setCell (p := ⟨b5, 4, none⟩) HG5.out (.bool q1)).setCell (p := ⟨b6, 0, none⟩) HG6.out (.bool true)).setCell (p := ⟨b6, 1, none⟩) HG6.out (.int .u32 (vI x))).setCell (p := ⟨b6, 2, none⟩) HG6.out (.int .u32 (vI y))).setCell (p := ⟨b6, 3, none⟩) HG6.out (.int .u32 (vI z))).setCell (p := ⟨b6, 4, none⟩) HG6.out (.bool q2))
    clear x0 x1 x2 x3 x4 f0 f1 f2 f3 f4 y0 y1 y2 y3 y4 z0 z1 z2 z3 z4 HB5b HB6b
    generalize ((((((((((W9.setCell ⟨b5, 0, none⟩ (.bool g1)).setCell ⟨b5, 1, none⟩ (.int .u32 (vI x))).setCell ⟨b5, 2, none⟩ (.int .u32 (vI y))).setCell ⟨b5, 3, none⟩ (.int .u32 (vI z))).setCell ⟨b5, 4, none⟩ (.bool q1)).setCell ⟨b6, 0, none⟩ (.bool true)).setCell ⟨b6, 1, none⟩ (.int .u32 (vI x))).setCell ⟨b6, 2, none⟩ (.int .u32 (vI y))).setCell ⟨b6, 3, none⟩ (.int .u32 (vI z))).setCell ⟨b6, 4, none⟩ (.bool q2)) = w5 at *
    have HD5 := Lib.hid (HD1.out.keep HK5.out)
    obtain ⟨x0, x1, x2, x3, x4⟩ := H5.out.c5
    obtain ⟨y0, y1, y2, y3, y4⟩ := H6.out.c5
    have hyz := HYZ.out
    have hp := HPP.out
    go_upto_region 4 with (first
      | (go_at_call 16; refine (HA.out _).mono ?_; rintro e w7 ⟨rfl, hb7⟩; have HC7 := Lib.hid hb7; clear hb7 x0 x1 x2 x3 x4 y0 y1 y2 y3 y4)
      | fail)
    clear hyz hp
    have H57 := Lib.hid (H5.out.keep HC7.out)
    have HD7 := Lib.hid (HD5.out.keep HC7.out)
    have HBE : Hid (Below g2 w w7) := Lib.hid ((HB1.out.trans (HK5.out.mono (Nat.le_of_lt HD1.out.lt))).trans (HC7.out.mono (Nat.le_of_lt HD5.out.lt)))
    cases hpm : pm
    · obtain ⟨rfl, rfl⟩ := HQ.out hpm
      rw [hpm] at HD7
      obtain ⟨d0, d1, d2, d3, d4⟩ := HD7.out.c5
      obtain ⟨x0, x1, x2, x3, x4⟩ := H57.out.c5
      have hxx := HX.out
      clear hpm
      by_cases hx0 : x = 0#32
      · have hd : decide (x = 0#32) = true := by simpa using hx0
        rw [hd] at x0
        rw [hx0] at hxx
        clear hx0 hd
        go_wp2_with (go_at_call 18; refine (awake_c _).mono ?_; rintro e w8 ⟨rfl, hb8⟩)
        go_ret
        exact ⟨rfl, by rw [hgx]; exact HBE.out.trans (hb8.mono (by have := HBE.out.size; have := HD7.out.lt; omega))⟩
      · have hd : decide (x = 0#32) = false := by simpa using hx0
        rw [hd] at x0
        have hz1 : (vI x == 0) = false := by simpa using vI_eq0 hx0
        have hz3 : (vI x = 0) = False := by simpa using vI_eq0 hx0
        clear hx0 hd
        go_wp2_with (go_at_call 18; refine (awake_c _).mono ?_; rintro e w8 ⟨rfl, hb8⟩)
        go_ret
        exact ⟨rfl, by rw [hgx]; exact HBE.out.trans (hb8.mono (by have := HBE.out.size; have := HD7.out.lt; omega))⟩
    · have hg := HPM.out hpm
      rw [hpm] at HD7
      obtain ⟨d0, d1, d2, d3, d4⟩ := HD7.out.c5
      obtain ⟨x0, x1, x2, x3, x4⟩ := H57.out.c5
      rw [hg] at x0
      clear hpm hg
      go_wp2_with (go_at_call 18; refine (awake_c _).mono ?_; rintro e w8 ⟨rfl, hb8⟩)
      go_ret
      exact ⟨rfl, by rw [hgx]; exact HBE.out.trans (hb8.mono (by have := HBE.out.size; have := HD7.out.lt; omega))⟩
theorem and_none (p al aa ad : BitVec 32) : (p &&& al &&& aa) &&& (p &&& ~~~ al &&& ad) = 0#32 := by
  apply BitVec.eq_of_getLsbD_eq
  intro i hi
  simp only [BitVec.getLsbD_and, BitVec.getLsbD_not, BitVec.getLsbD_zero]
  cases p.getLsbD i <;> cases al.getLsbD i <;> cases aa.getLsbD i <;> cases ad.getLsbD i <;> simp
theorem or_within (p al aa ad : BitVec 32) : ((p &&& al &&& aa) ||| (p &&& ~~~ al &&& ad)) &&& ~~~ p = 0#32 := by
  apply BitVec.eq_of_getLsbD_eq
  intro i hi
  simp only [BitVec.getLsbD_and, BitVec.getLsbD_or, BitVec.getLsbD_not, BitVec.getLsbD_zero]
  cases p.getLsbD i <;> cases al.getLsbD i <;> cases aa.getLsbD i <;> cases ad.getLsbD i <;> simp
theorem lawEnforces_c (d : Dn) (p : BitVec 32) (w : World) : Calls Try.prog 8 #[.agg #[.int .u32 (vI d.al), .int .u32 (vI d.aa), .int .u32 (vI d.ad), .bool d.pm, .int .i64 d.sq], .int .u32 (vI p)] w fun r w' => r = .returned (.bool true) ∧ Below w.heap.size w w' := by
  refine enf_n d.al d.aa d.ad d.pm d.sq p (jg d p true).g (p &&& ~~~ d.al) (p &&& d.al &&& d.aa) (p &&& ~~~ d.al &&& d.ad) (jg d p true).pm (jg d p false).pm w (fun u => judge_c d p true u) (fun u => ?_) (and_none _ _ _ _) (or_within _ _ _ _) rfl ?_ ?_
  · have h := judge_c d p false u
    rw [show (jg d p false).g = true by simp [jg]] at h
    exact h
  · intro h
    simp [jg, h]
  · intro h
    simp [jg, h]
end Go.Proofs.Ytbcbhgclgakljaa
