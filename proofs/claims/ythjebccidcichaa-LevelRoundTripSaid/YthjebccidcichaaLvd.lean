/- Span. -/
import Derived.Test.YthjebccidcichaaLvc
namespace Go.Proofs.Ythjebccidcichaa
open Go.RowKit
section
variable {w w' : World} {g : Nat} {t : TypeId} {a b c d : Value}
theorem Blk.cells4 (h : Blk w g t #[a, b, c, d]) : w.cell? ⟨g, 0, none⟩ = some a ∧ w.cell? ⟨g, 1, none⟩ = some b ∧ w.cell? ⟨g, 2, none⟩ = some c ∧ w.cell? ⟨g, 3, none⟩ = some d ∧
    w.frozen? ⟨g, 0, none⟩ = false ∧ w.frozen? ⟨g, 1, none⟩ = false ∧ w.frozen? ⟨g, 2, none⟩ = false ∧ w.frozen? ⟨g, 3, none⟩ = false := ⟨h.cell 0, h.cell 1, h.cell 2, h.cell 3, h.frozen 0, h.frozen 1, h.frozen 2, h.frozen 3⟩
theorem Blk.set4 (h : Blk w g t #[a, b, c, d]) (x y z u : Value) : Blk ((((w.setCell ⟨g, 0, none⟩ x).setCell ⟨g, 1, none⟩ y).setCell ⟨g, 2, none⟩ z).setCell ⟨g, 3, none⟩ u) g t #[x, y, z, u] := by
  simpa using (((h.set 0 x).set 1 y).set 2 z).set 3 u
theorem Blk.far4 {g' : Nat} {cs : Array Value} (h : Blk w g t cs) (hn : g ≠ g') (x y z u : Value) : Blk ((((w.setCell ⟨g', 0, none⟩ x).setCell ⟨g', 1, none⟩ y).setCell ⟨g', 2, none⟩ z).setCell ⟨g', 3, none⟩ u) g t cs :=
  (((h.far (p := ⟨g', 0, none⟩) hn x).far (p := ⟨g', 1, none⟩) hn y).far (p := ⟨g', 2, none⟩) hn z).far (p := ⟨g', 3, none⟩) hn u
theorem below_set4 {B g : Nat} (h : Below B w w') (hg : B ≤ g) (x y z u : Value) : Below B w ((((w'.setCell ⟨g, 0, none⟩ x).setCell ⟨g, 1, none⟩ y).setCell ⟨g, 2, none⟩ z).setCell ⟨g, 3, none⟩ u) :=
  (((h.setCell (p := ⟨g, 0, none⟩) hg _).setCell (p := ⟨g, 1, none⟩) hg _).setCell (p := ⟨g, 2, none⟩) hg _).setCell (p := ⟨g, 3, none⟩) hg _
end
set_option maxRecDepth 100000 in
set_option maxHeartbeats 8000000 in
theorem span_c (s : Int) (c : Nat) (s2 : Int) (c2 : Nat) (t : Int) (d : Nat) (t2 : Int) (d2 : Nat) (w : World) (h1 : c < U64) (h3 : c2 < U64) (h5 : d < U64) (h7 : d2 < U64) :
    Calls Try.prog 23 #[.agg #[.int .i64 s, .int .u64 c, .int .i64 s2, .int .u64 c2], .agg #[.int .i64 t, .int .u64 d, .int .i64 t2, .int .u64 d2]] w fun e w' => e = .returned (.agg #[.int .i64 (min s t), .int .u64 ((c &&& d : Nat) : Int), .int .i64 (max s2 t2), .int .u64 ((c2 ||| d2 : Nat) : Int)]) ∧ Below w.heap.size w w' := by
  obtain ⟨hB, hB2, hW, hz⟩ := two_box w 26 26 #[.int .i64 s, .int .u64 c, .int .i64 s2, .int .u64 c2] #[.int .i64 t, .int .u64 d, .int .i64 t2, .int .u64 d2]
  have hB3 : Blk (((w.alloc (.cells #[.int .i64 s, .int .u64 c, .int .i64 s2, .int .u64 c2] 26)).alloc (.cells #[.int .i64 t, .int .u64 d, .int .i64 t2, .int .u64 d2] 26)).alloc (.cells #[.int .i64 0, .int .u64 0, .int .i64 0, .int .u64 0] 26)) (w.heap.size + 1 + 1) 26 #[.int .i64 0, .int .u64 0, .int .i64 0, .int .u64 0] := by
    have := Blk.new ((w.alloc (.cells #[.int .i64 s, .int .u64 c, .int .i64 s2, .int .u64 c2] 26)).alloc (.cells #[.int .i64 t, .int .u64 d, .int .i64 t2, .int .u64 d2] 26)) 26 #[.int .i64 0, .int .u64 0, .int .i64 0, .int .u64 0]
    rwa [hz] at this
  have hB' := hB.alloc (.cells #[.int .i64 0, .int .u64 0, .int .i64 0, .int .u64 0] 26)
  have hB2' := hB2.alloc (.cells #[.int .i64 0, .int .u64 0, .int .i64 0, .int .u64 0] 26)
  have hW' : Below w.heap.size w (((w.alloc (.cells #[.int .i64 s, .int .u64 c, .int .i64 s2, .int .u64 c2] 26)).alloc (.cells #[.int .i64 t, .int .u64 d, .int .i64 t2, .int .u64 d2] 26)).alloc (.cells #[.int .i64 0, .int .u64 0, .int .i64 0, .int .u64 0] 26)) := hW.alloc (by omega) _
  have HM := Lib.hid (fun w => meet_c s c t d w h1 h5)
  have HJ := Lib.hid (fun w => join_c s2 c2 t2 d2 w h3 h7)
  clear hB hB2 hW hz
  go_enter Try.func23, Try.ntmps23
  go_wp2_with fail
  generalize ((w.alloc (.cells #[.int .i64 s, .int .u64 c, .int .i64 s2, .int .u64 c2] 26)).alloc (.cells #[.int .i64 t, .int .u64 d, .int .i64 t2, .int .u64 d2] 26)).alloc (.cells #[.int .i64 0, .int .u64 0, .int .i64 0, .int .u64 0] 26) = W at *
  obtain ⟨g0, hg0⟩ : ∃ g, w.heap.size = g := ⟨_, rfl⟩
  rw [hg0] at hB' hB2' hB3 hW'
  simp only [hg0]
  have HB := Lib.hid hB'
  have HB2 := Lib.hid hB2'
  have HB3 := Lib.hid hB3
  have HW := Lib.hid hW'
  have HG := Lib.hid hg0
  have HSK : Hid (∀ w', Kp W w' → w'.cell? ⟨g0, 0, none⟩ = some (.int .i64 s) ∧ w'.cell? ⟨g0, 1, none⟩ = some (.int .u64 c) ∧ w'.cell? ⟨g0, 2, none⟩ = some (.int .i64 s2) ∧ w'.cell? ⟨g0, 3, none⟩ = some (.int .u64 c2) ∧ w'.cell? ⟨g0 + 1, 0, none⟩ = some (.int .i64 t) ∧ w'.cell? ⟨g0 + 1, 1, none⟩ = some (.int .u64 d) ∧ w'.cell? ⟨g0 + 1, 2, none⟩ = some (.int .i64 t2) ∧ w'.cell? ⟨g0 + 1, 3, none⟩ = some (.int .u64 d2)) := Lib.hid fun w' h => by
    obtain ⟨a0, a1, a2, a3⟩ := (h.blk HB.out).box4
    obtain ⟨b0, b1, b2, b3⟩ := (h.blk HB2.out).box4
    exact ⟨a0, a1, a2, a3, b0, b1, b2, b3⟩
  have HSL : Hid (∀ w1 x y z u, Kp W w1 → (fun w' => w'.cell? ⟨g0, 0, none⟩ = some (.int .i64 s) ∧ w'.cell? ⟨g0, 1, none⟩ = some (.int .u64 c) ∧ w'.cell? ⟨g0, 2, none⟩ = some (.int .i64 s2) ∧ w'.cell? ⟨g0, 3, none⟩ = some (.int .u64 c2) ∧ w'.cell? ⟨g0 + 1, 0, none⟩ = some (.int .i64 t) ∧ w'.cell? ⟨g0 + 1, 1, none⟩ = some (.int .u64 d) ∧ w'.cell? ⟨g0 + 1, 2, none⟩ = some (.int .i64 t2) ∧ w'.cell? ⟨g0 + 1, 3, none⟩ = some (.int .u64 d2)) ((((w1.setCell ⟨g0 + 1 + 1, 0, none⟩ x).setCell ⟨g0 + 1 + 1, 1, none⟩ y).setCell ⟨g0 + 1 + 1, 2, none⟩ z).setCell ⟨g0 + 1 + 1, 3, none⟩ u)) := Lib.hid fun w1 x y z u h => by
    obtain ⟨a0, a1, a2, a3⟩ := ((h.blk HB.out).far4 (Nat.ne_of_lt (Nat.lt_succ_of_lt (Nat.lt_succ_self _))) x y z u).box4
    obtain ⟨b0, b1, b2, b3⟩ := ((h.blk HB2.out).far4 (Nat.ne_of_lt (Nat.lt_succ_self _)) x y z u).box4
    exact ⟨a0, a1, a2, a3, b0, b1, b2, b3⟩
  clear hB' hB2' hB3 hW' hg0
  have hC0 : Kp W W.drew := Kp.rfl'.drew
  go_region_held3 (fun w' => w'.cell? ⟨g0, 0, none⟩ = some (.int .i64 s) ∧ w'.cell? ⟨g0, 1, none⟩ = some (.int .u64 c) ∧ w'.cell? ⟨g0, 2, none⟩ = some (.int .i64 s2) ∧ w'.cell? ⟨g0, 3, none⟩ = some (.int .u64 c2) ∧ w'.cell? ⟨g0 + 1, 0, none⟩ = some (.int .i64 t) ∧ w'.cell? ⟨g0 + 1, 1, none⟩ = some (.int .u64 d) ∧ w'.cell? ⟨g0 + 1, 2, none⟩ = some (.int .i64 t2) ∧ w'.cell? ⟨g0 + 1, 3, none⟩ = some (.int .u64 d2)) (first | exact HSK.out _ (by assumption) | exact HSL.out _ _ _ _ _ (by assumption))
    (first
      | (go_at_call 22; refine (HM.out _).mono ?_; rintro e w2 ⟨rfl, hb2⟩; have hC2 := Kp.step (by assumption) hb2; obtain ⟨y0, y1, y2, y3, y4, y5, y6, y7⟩ := (hC2.blk HB3.out).cells4; clear hb2)
      | (go_at_call 21; refine (HJ.out _).mono ?_; rintro e w3 ⟨rfl, hb3⟩; have hC3 := Kp.step (by assumption) hb3; obtain ⟨z0, z1, z2, z3, z4, z5, z6, z7⟩ := (hC3.blk HB3.out).cells4; clear hb3))
  all_goals
    go_wp2_with fail
    have RB := (hC3.blk HB3.out).set4 (.int .i64 (min s t)) (.int .u64 ((c &&& d : Nat) : Int)) (.int .i64 (max s2 t2)) (.int .u64 ((c2 ||| d2 : Nat) : Int))
    obtain ⟨r0, r1, r2, r3⟩ := RB.box4
    exact bodyPost_ret (v := .agg #[.int .i64 (min s t), .int .u64 ((c &&& d : Nat) : Int), .int .i64 (max s2 t2), .int .u64 ((c2 ||| d2 : Nat) : Int)]) (by simp [results, Try.results23, go_sem, r0, r1, r2, r3]) rfl ⟨rfl, by have h := HG.out; subst h; exact below_set4 (HW.out.trans (Below.mono hC3 HW.out.size)) (Nat.le_succ_of_le (Nat.le_succ _)) _ _ _ _⟩
set_option maxRecDepth 100000 in
set_option maxHeartbeats 8000000 in
theorem rspan_c (s : Int) (c : Nat) (s2 : Int) (c2 : Nat) (t : Int) (d : Nat) (t2 : Int) (d2 : Nat) (w : World) (h1 : c < U64) (h3 : c2 < U64) (h5 : d < U64) (h7 : d2 < U64) :
    Calls Try.prog 24 #[.agg #[.int .i64 s, .int .u64 c, .int .i64 s2, .int .u64 c2], .agg #[.int .i64 t, .int .u64 d, .int .i64 t2, .int .u64 d2]] w fun e w' => e = .returned (.agg #[.int .i64 (min s t), .int .u64 ((c &&& d : Nat) : Int), .int .i64 (max s2 t2), .int .u64 ((c2 ||| d2 : Nat) : Int)]) ∧ Below w.heap.size w w' := by
  obtain ⟨hB, hB2, hW, hz⟩ := two_box w 26 26 #[.int .i64 s, .int .u64 c, .int .i64 s2, .int .u64 c2] #[.int .i64 t, .int .u64 d, .int .i64 t2, .int .u64 d2]
  have hB3 : Blk (((w.alloc (.cells #[.int .i64 s, .int .u64 c, .int .i64 s2, .int .u64 c2] 26)).alloc (.cells #[.int .i64 t, .int .u64 d, .int .i64 t2, .int .u64 d2] 26)).alloc (.cells #[.int .i64 0, .int .u64 0, .int .i64 0, .int .u64 0] 26)) (w.heap.size + 1 + 1) 26 #[.int .i64 0, .int .u64 0, .int .i64 0, .int .u64 0] := by
    have := Blk.new ((w.alloc (.cells #[.int .i64 s, .int .u64 c, .int .i64 s2, .int .u64 c2] 26)).alloc (.cells #[.int .i64 t, .int .u64 d, .int .i64 t2, .int .u64 d2] 26)) 26 #[.int .i64 0, .int .u64 0, .int .i64 0, .int .u64 0]
    rwa [hz] at this
  have hB' := hB.alloc (.cells #[.int .i64 0, .int .u64 0, .int .i64 0, .int .u64 0] 26)
  have hB2' := hB2.alloc (.cells #[.int .i64 0, .int .u64 0, .int .i64 0, .int .u64 0] 26)
  have hW' : Below w.heap.size w (((w.alloc (.cells #[.int .i64 s, .int .u64 c, .int .i64 s2, .int .u64 c2] 26)).alloc (.cells #[.int .i64 t, .int .u64 d, .int .i64 t2, .int .u64 d2] 26)).alloc (.cells #[.int .i64 0, .int .u64 0, .int .i64 0, .int .u64 0] 26)) := hW.alloc (by omega) _
  have HM := Lib.hid (fun w => rmeet_c s c t d w h1 h5)
  have HJ := Lib.hid (fun w => rjoin_c s2 c2 t2 d2 w h3 h7)
  clear hB hB2 hW hz
  go_enter Try.func24, Try.ntmps24
  go_wp2_with fail
  generalize ((w.alloc (.cells #[.int .i64 s, .int .u64 c, .int .i64 s2, .int .u64 c2] 26)).alloc (.cells #[.int .i64 t, .int .u64 d, .int .i64 t2, .int .u64 d2] 26)).alloc (.cells #[.int .i64 0, .int .u64 0, .int .i64 0, .int .u64 0] 26) = W at *
  obtain ⟨g0, hg0⟩ : ∃ g, w.heap.size = g := ⟨_, rfl⟩
  rw [hg0] at hB' hB2' hB3 hW'
  simp only [hg0]
  have HB := Lib.hid hB'
  have HB2 := Lib.hid hB2'
  have HB3 := Lib.hid hB3
  have HW := Lib.hid hW'
  have HG := Lib.hid hg0
  have HSK : Hid (∀ w', Kp W w' → w'.cell? ⟨g0, 0, none⟩ = some (.int .i64 s) ∧ w'.cell? ⟨g0, 1, none⟩ = some (.int .u64 c) ∧ w'.cell? ⟨g0, 2, none⟩ = some (.int .i64 s2) ∧ w'.cell? ⟨g0, 3, none⟩ = some (.int .u64 c2) ∧ w'.cell? ⟨g0 + 1, 0, none⟩ = some (.int .i64 t) ∧ w'.cell? ⟨g0 + 1, 1, none⟩ = some (.int .u64 d) ∧ w'.cell? ⟨g0 + 1, 2, none⟩ = some (.int .i64 t2) ∧ w'.cell? ⟨g0 + 1, 3, none⟩ = some (.int .u64 d2)) := Lib.hid fun w' h => by
    obtain ⟨a0, a1, a2, a3⟩ := (h.blk HB.out).box4
    obtain ⟨b0, b1, b2, b3⟩ := (h.blk HB2.out).box4
    exact ⟨a0, a1, a2, a3, b0, b1, b2, b3⟩
  have HSL : Hid (∀ w1 x y z u, Kp W w1 → (fun w' => w'.cell? ⟨g0, 0, none⟩ = some (.int .i64 s) ∧ w'.cell? ⟨g0, 1, none⟩ = some (.int .u64 c) ∧ w'.cell? ⟨g0, 2, none⟩ = some (.int .i64 s2) ∧ w'.cell? ⟨g0, 3, none⟩ = some (.int .u64 c2) ∧ w'.cell? ⟨g0 + 1, 0, none⟩ = some (.int .i64 t) ∧ w'.cell? ⟨g0 + 1, 1, none⟩ = some (.int .u64 d) ∧ w'.cell? ⟨g0 + 1, 2, none⟩ = some (.int .i64 t2) ∧ w'.cell? ⟨g0 + 1, 3, none⟩ = some (.int .u64 d2)) ((((w1.setCell ⟨g0 + 1 + 1, 0, none⟩ x).setCell ⟨g0 + 1 + 1, 1, none⟩ y).setCell ⟨g0 + 1 + 1, 2, none⟩ z).setCell ⟨g0 + 1 + 1, 3, none⟩ u)) := Lib.hid fun w1 x y z u h => by
    obtain ⟨a0, a1, a2, a3⟩ := ((h.blk HB.out).far4 (Nat.ne_of_lt (Nat.lt_succ_of_lt (Nat.lt_succ_self _))) x y z u).box4
    obtain ⟨b0, b1, b2, b3⟩ := ((h.blk HB2.out).far4 (Nat.ne_of_lt (Nat.lt_succ_self _)) x y z u).box4
    exact ⟨a0, a1, a2, a3, b0, b1, b2, b3⟩
  clear hB' hB2' hB3 hW' hg0
  have hC0 : Kp W W.drew := Kp.rfl'.drew
  go_region_held3 (fun w' => w'.cell? ⟨g0, 0, none⟩ = some (.int .i64 s) ∧ w'.cell? ⟨g0, 1, none⟩ = some (.int .u64 c) ∧ w'.cell? ⟨g0, 2, none⟩ = some (.int .i64 s2) ∧ w'.cell? ⟨g0, 3, none⟩ = some (.int .u64 c2) ∧ w'.cell? ⟨g0 + 1, 0, none⟩ = some (.int .i64 t) ∧ w'.cell? ⟨g0 + 1, 1, none⟩ = some (.int .u64 d) ∧ w'.cell? ⟨g0 + 1, 2, none⟩ = some (.int .i64 t2) ∧ w'.cell? ⟨g0 + 1, 3, none⟩ = some (.int .u64 d2)) (first | exact HSK.out _ (by assumption) | exact HSL.out _ _ _ _ _ (by assumption))
    (first
      | (go_at_call 28; refine (HM.out _).mono ?_; rintro e w2 ⟨rfl, hb2⟩; have hC2 := Kp.step (by assumption) hb2; obtain ⟨y0, y1, y2, y3, y4, y5, y6, y7⟩ := (hC2.blk HB3.out).cells4; clear hb2)
      | (go_at_call 27; refine (HJ.out _).mono ?_; rintro e w3 ⟨rfl, hb3⟩; have hC3 := Kp.step (by assumption) hb3; obtain ⟨z0, z1, z2, z3, z4, z5, z6, z7⟩ := (hC3.blk HB3.out).cells4; clear hb3))
  all_goals
    go_wp2_with fail
    have RB := (hC3.blk HB3.out).set4 (.int .i64 (min s t)) (.int .u64 ((c &&& d : Nat) : Int)) (.int .i64 (max s2 t2)) (.int .u64 ((c2 ||| d2 : Nat) : Int))
    obtain ⟨r0, r1, r2, r3⟩ := RB.box4
    exact bodyPost_ret (v := .agg #[.int .i64 (min s t), .int .u64 ((c &&& d : Nat) : Int), .int .i64 (max s2 t2), .int .u64 ((c2 ||| d2 : Nat) : Int)]) (by simp [results, Try.results24, go_sem, r0, r1, r2, r3]) rfl ⟨rfl, by have h := HG.out; subst h; exact below_set4 (HW.out.trans (Below.mono hC3 HW.out.size)) (Nat.le_succ_of_le (Nat.le_succ _)) _ _ _ _⟩
end Go.Proofs.Ythjebccidcichaa
