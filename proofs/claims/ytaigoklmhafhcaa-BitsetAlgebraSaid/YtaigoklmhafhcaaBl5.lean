/- The law BitsetAlgebra: sets obey the laws of algebra. -/
import Derived.Test.YtaigoklmhafhcaaBl4
import Derived.Test.YtaigoklmhafhcaaBpq
import Derived.Test.YtaigoklmhafhcaaBsx
import Derived.Deep.DeepCutAuto
namespace Go.Proofs.Ytaigoklmhafhcaa
open Go.RowKit
theorem quad_here {w : World} {g : Nat} (a b c d : Int) (h : g = w.heap.size) : Quad (w.alloc (.cells #[.int .u64 a, .int .u64 b, .int .u64 c, .int .u64 d] 24)) g a b c d := h ▸ Quad.new w a b c d
theorem quad_drew {w : World} {g : Nat} {a b c d : Int} (h : Quad w g a b c d) : Quad w.drew g a b c d := h
/-- what the first statement leaves: u and m, and all that was there -/
def Post (x0 x1 x2 x3 y0 y1 y2 y3 : Int) (W : World) (s7 s8 : Value) (wx : World) : Prop :=
  ∃ gu gm : Nat, s7 = .pointer (some ⟨gu, 0, none⟩) ∧ s8 = .pointer (some ⟨gm, 0, none⟩) ∧ Cls W wx ∧ Quad wx gu (bits .or .u64 x0 y0) (bits .or .u64 x1 y1) (bits .or .u64 x2 y2) (bits .or .u64 x3 y3) ∧
    Quad wx gm (bits .and .u64 x0 y0) (bits .and .u64 x1 y1) (bits .and .u64 x2 y2) (bits .and .u64 x3 y3)
theorem Cls.rfl {W : World} : Cls W W := Below.refl _ _
theorem Cls.drew {W w : World} (h : Cls W w) : Cls W w.drew := Below.drew h
theorem Cls.size {W w : World} (h : Cls W w) : W.heap.size ≤ w.heap.size := Below.size h
theorem Cls.set4 {W w : World} (h : Cls W w) {g : Nat} (hg : W.heap.size ≤ g) (a b c d : Value) : Cls W ((((w.setCell ⟨g, 0, none⟩ a).setCell ⟨g, 1, none⟩ b).setCell ⟨g, 2, none⟩ c).setCell ⟨g, 3, none⟩ d) := below_set4 h hg a b c d
theorem alloc_lt {w w' : World} {o : Obj} (h : Below (w.alloc o).heap.size (w.alloc o) w') : w.heap.size < w'.heap.size := by have := h.size; simp at this; omega
theorem alloc2_lt {w w' : World} {o o' : Obj} (h : Below ((w.alloc o).alloc o').heap.size ((w.alloc o).alloc o') w') : w.heap.size < w'.heap.size ∧ w.heap.size + 1 < w'.heap.size := by have := h.size; simp at this; omega
theorem Cls.alloc {W w : World} (h : Cls W w) (o : Obj) : Cls W (w.alloc o) := Below.alloc h (Below.size h) o
theorem two_cls {W w : World} {g g' : Nat} {a b c d a' b' c' d' : Int} (h : Quad W g a b c d) (h' : Quad W g' a' b' c' d') (hC : Cls W w) :
    w.cell? ⟨g, 0, none⟩ = some (.int .u64 a) ∧ w.cell? ⟨g, 1, none⟩ = some (.int .u64 b) ∧ w.cell? ⟨g, 2, none⟩ = some (.int .u64 c) ∧ w.cell? ⟨g, 3, none⟩ = some (.int .u64 d) ∧
    w.cell? ⟨g', 0, none⟩ = some (.int .u64 a') ∧ w.cell? ⟨g', 1, none⟩ = some (.int .u64 b') ∧ w.cell? ⟨g', 2, none⟩ = some (.int .u64 c') ∧ w.cell? ⟨g', 3, none⟩ = some (.int .u64 d') := by
  obtain ⟨p0, p1, p2, p3⟩ := h.cls hC
  obtain ⟨r0, r1, r2, r3⟩ := h'.cls hC
  exact ⟨p0, p1, p2, p3, r0, r1, r2, r3⟩
set_option maxRecDepth 100000 in
set_option maxHeartbeats 4000000 in
theorem algebra_c (x0 x1 x2 x3 y0 y1 y2 y3 z0 z1 z2 z3 : Int) (w : World) (h0 : U64 x0) (h1 : U64 x1) (h2 : U64 x2) (h3 : U64 x3) (k0 : U64 y0) (k1 : U64 y1) (k2 : U64 y2) (k3 : U64 y3) (l0 : U64 z0) (l1 : U64 z1) (l2 : U64 z2) (l3 : U64 z3) :
    Calls Try.prog 6 #[.agg #[.int .u64 x0, .int .u64 x1, .int .u64 x2, .int .u64 x3], .agg #[.int .u64 y0, .int .u64 y1, .int .u64 y2, .int .u64 y3], .agg #[.int .u64 z0, .int .u64 z1, .int .u64 z2, .int .u64 z3]] w fun e w' => e = .returned (.bool true) ∧ Below w.heap.size w w' := by
  obtain ⟨NC1, eNC1⟩ : ∃ N, N = onesI (bits .or .u64 x0 y0) (bits .or .u64 x1 y1) (bits .or .u64 x2 y2) (bits .or .u64 x3 y3) := ⟨_, rfl⟩
  obtain ⟨NC2, eNC2⟩ : ∃ N, N = onesI (bits .and .u64 x0 y0) (bits .and .u64 x1 y1) (bits .and .u64 x2 y2) (bits .and .u64 x3 y3) := ⟨_, rfl⟩
  obtain ⟨NC3, eNC3⟩ : ∃ N, N = onesI x0 x1 x2 x3 := ⟨_, rfl⟩
  obtain ⟨NC4, eNC4⟩ : ∃ N, N = onesI y0 y1 y2 y3 := ⟨_, rfl⟩
  have hsum := count_sum h0 h1 h2 h3 k0 k1 k2 k3
  rw [← eNC1, ← eNC2, ← eNC3, ← eNC4] at hsum
  have F1 : Hid (∀ w, Calls Try.prog 26 #[.agg #[.int .u64 y0, .int .u64 y1, .int .u64 y2, .int .u64 y3], .agg #[.int .u64 x0, .int .u64 x1, .int .u64 x2, .int .u64 x3]] w fun e w' => e = .returned (.agg #[.int .u64 (bits .or .u64 x0 y0), .int .u64 (bits .or .u64 x1 y1), .int .u64 (bits .or .u64 x2 y2), .int .u64 (bits .or .u64 x3 y3)]) ∧ Below w.heap.size w w') := fun w => by
    have h := union_c y0 y1 y2 y3 x0 x1 x2 x3 w
    rwa [or_comm' h0 k0, or_comm' h1 k1, or_comm' h2 k2, or_comm' h3 k3] at h
  have F2 : Hid (∀ w, Calls Try.prog 28 #[.agg #[.int .u64 y0, .int .u64 y1, .int .u64 y2, .int .u64 y3], .agg #[.int .u64 x0, .int .u64 x1, .int .u64 x2, .int .u64 x3]] w fun e w' => e = .returned (.agg #[.int .u64 (bits .and .u64 x0 y0), .int .u64 (bits .and .u64 x1 y1), .int .u64 (bits .and .u64 x2 y2), .int .u64 (bits .and .u64 x3 y3)]) ∧ Below w.heap.size w w') := fun w => by
    have h := meet_c y0 y1 y2 y3 x0 x1 x2 x3 w
    rwa [and_comm' h0 k0, and_comm' h1 k1, and_comm' h2 k2, and_comm' h3 k3] at h
  have F3 : Hid (∀ w, Calls Try.prog 26 #[.agg #[.int .u64 x0, .int .u64 x1, .int .u64 x2, .int .u64 x3], .agg #[.int .u64 (bits .or .u64 y0 z0), .int .u64 (bits .or .u64 y1 z1), .int .u64 (bits .or .u64 y2 z2), .int .u64 (bits .or .u64 y3 z3)]] w fun e w' => e = .returned (.agg #[.int .u64 (bits .or .u64 (bits .or .u64 x0 y0) z0), .int .u64 (bits .or .u64 (bits .or .u64 x1 y1) z1), .int .u64 (bits .or .u64 (bits .or .u64 x2 y2) z2), .int .u64 (bits .or .u64 (bits .or .u64 x3 y3) z3)]) ∧ Below w.heap.size w w') := fun w => by
    have h := union_c x0 x1 x2 x3 (bits .or .u64 y0 z0) (bits .or .u64 y1 z1) (bits .or .u64 y2 z2) (bits .or .u64 y3 z3) w
    rwa [or_assoc' h0 k0 l0, or_assoc' h1 k1 l1, or_assoc' h2 k2 l2, or_assoc' h3 k3 l3] at h
  have F4 : Hid (∀ w, Calls Try.prog 28 #[.agg #[.int .u64 x0, .int .u64 x1, .int .u64 x2, .int .u64 x3], .agg #[.int .u64 (bits .and .u64 y0 z0), .int .u64 (bits .and .u64 y1 z1), .int .u64 (bits .and .u64 y2 z2), .int .u64 (bits .and .u64 y3 z3)]] w fun e w' => e = .returned (.agg #[.int .u64 (bits .and .u64 (bits .and .u64 x0 y0) z0), .int .u64 (bits .and .u64 (bits .and .u64 x1 y1) z1), .int .u64 (bits .and .u64 (bits .and .u64 x2 y2) z2), .int .u64 (bits .and .u64 (bits .and .u64 x3 y3) z3)]) ∧ Below w.heap.size w w') := fun w => by
    have h := meet_c x0 x1 x2 x3 (bits .and .u64 y0 z0) (bits .and .u64 y1 z1) (bits .and .u64 y2 z2) (bits .and .u64 y3 z3) w
    rwa [and_assoc' h0 k0 l0, and_assoc' h1 k1 l1, and_assoc' h2 k2 l2, and_assoc' h3 k3 l3] at h
  have F5 : Hid (∀ w, Calls Try.prog 26 #[.agg #[.int .u64 (bits .and .u64 x0 y0), .int .u64 (bits .and .u64 x1 y1), .int .u64 (bits .and .u64 x2 y2), .int .u64 (bits .and .u64 x3 y3)], .agg #[.int .u64 (bits .and .u64 x0 z0), .int .u64 (bits .and .u64 x1 z1), .int .u64 (bits .and .u64 x2 z2), .int .u64 (bits .and .u64 x3 z3)]] w fun e w' => e = .returned (.agg #[.int .u64 (bits .and .u64 x0 (bits .or .u64 y0 z0)), .int .u64 (bits .and .u64 x1 (bits .or .u64 y1 z1)), .int .u64 (bits .and .u64 x2 (bits .or .u64 y2 z2)), .int .u64 (bits .and .u64 x3 (bits .or .u64 y3 z3))]) ∧ Below w.heap.size w w') := fun w => by
    have h := union_c (bits .and .u64 x0 y0) (bits .and .u64 x1 y1) (bits .and .u64 x2 y2) (bits .and .u64 x3 y3) (bits .and .u64 x0 z0) (bits .and .u64 x1 z1) (bits .and .u64 x2 z2) (bits .and .u64 x3 z3) w
    rwa [and_or' h0 k0 l0, and_or' h1 k1 l1, and_or' h2 k2 l2, and_or' h3 k3 l3] at h
  have F6 : Hid (∀ w, Calls Try.prog 28 #[.agg #[.int .u64 (bits .or .u64 x0 y0), .int .u64 (bits .or .u64 x1 y1), .int .u64 (bits .or .u64 x2 y2), .int .u64 (bits .or .u64 x3 y3)], .agg #[.int .u64 (bits .or .u64 x0 z0), .int .u64 (bits .or .u64 x1 z1), .int .u64 (bits .or .u64 x2 z2), .int .u64 (bits .or .u64 x3 z3)]] w fun e w' => e = .returned (.agg #[.int .u64 (bits .or .u64 x0 (bits .and .u64 y0 z0)), .int .u64 (bits .or .u64 x1 (bits .and .u64 y1 z1)), .int .u64 (bits .or .u64 x2 (bits .and .u64 y2 z2)), .int .u64 (bits .or .u64 x3 (bits .and .u64 y3 z3))]) ∧ Below w.heap.size w w') := fun w => by
    have h := meet_c (bits .or .u64 x0 y0) (bits .or .u64 x1 y1) (bits .or .u64 x2 y2) (bits .or .u64 x3 y3) (bits .or .u64 x0 z0) (bits .or .u64 x1 z1) (bits .or .u64 x2 z2) (bits .or .u64 x3 z3) w
    rwa [or_and' h0 k0 l0, or_and' h1 k1 l1, or_and' h2 k2 l2, or_and' h3 k3 l3] at h
  have F7 : Hid (∀ w, Calls Try.prog 28 #[.agg #[.int .u64 (bits .andNot .u64 x0 y0), .int .u64 (bits .andNot .u64 x1 y1), .int .u64 (bits .andNot .u64 x2 y2), .int .u64 (bits .andNot .u64 x3 y3)], .agg #[.int .u64 (bits .and .u64 x0 y0), .int .u64 (bits .and .u64 x1 y1), .int .u64 (bits .and .u64 x2 y2), .int .u64 (bits .and .u64 x3 y3)]] w fun e w' => e = .returned (.agg #[.int .u64 0, .int .u64 0, .int .u64 0, .int .u64 0]) ∧ Below w.heap.size w w') := fun w => by
    have h := meet_c (bits .andNot .u64 x0 y0) (bits .andNot .u64 x1 y1) (bits .andNot .u64 x2 y2) (bits .andNot .u64 x3 y3) (bits .and .u64 x0 y0) (bits .and .u64 x1 y1) (bits .and .u64 x2 y2) (bits .and .u64 x3 y3) w
    rwa [less_and' h0 k0, less_and' h1 k1, less_and' h2 k2, less_and' h3 k3] at h
  have F8 : Hid (∀ w, Calls Try.prog 26 #[.agg #[.int .u64 (bits .andNot .u64 x0 y0), .int .u64 (bits .andNot .u64 x1 y1), .int .u64 (bits .andNot .u64 x2 y2), .int .u64 (bits .andNot .u64 x3 y3)], .agg #[.int .u64 (bits .and .u64 x0 y0), .int .u64 (bits .and .u64 x1 y1), .int .u64 (bits .and .u64 x2 y2), .int .u64 (bits .and .u64 x3 y3)]] w fun e w' => e = .returned (.agg #[.int .u64 x0, .int .u64 x1, .int .u64 x2, .int .u64 x3]) ∧ Below w.heap.size w w') := fun w => by
    have h := union_c (bits .andNot .u64 x0 y0) (bits .andNot .u64 x1 y1) (bits .andNot .u64 x2 y2) (bits .andNot .u64 x3 y3) (bits .and .u64 x0 y0) (bits .and .u64 x1 y1) (bits .and .u64 x2 y2) (bits .and .u64 x3 y3) w
    rwa [less_or' h0 k0, less_or' h1 k1, less_or' h2 k2, less_or' h3 k3] at h
  have F9 : Hid (∀ w, Calls Try.prog 32 #[.agg #[.int .u64 x0, .int .u64 x1, .int .u64 x2, .int .u64 x3], .agg #[.int .u64 y0, .int .u64 y1, .int .u64 y2, .int .u64 y3]] w fun e w' => e = .returned (.bool (same4 (bits .andNot .u64 x0 y0) (bits .andNot .u64 x1 y1) (bits .andNot .u64 x2 y2) (bits .andNot .u64 x3 y3) 0 0 0 0)) ∧ Below w.heap.size w w') := fun w => by
    have h := within_c x0 x1 x2 x3 y0 y1 y2 y3 w
    rwa [← within_eq h0 h1 h2 h3 k0 k1 k2 k3] at h
  have C1 : Hid (∀ w, Calls Try.prog 35 #[.agg #[.int .u64 (bits .or .u64 x0 y0), .int .u64 (bits .or .u64 x1 y1), .int .u64 (bits .or .u64 x2 y2), .int .u64 (bits .or .u64 x3 y3)]] w fun e w' => e = .returned (.int .i64 NC1) ∧ Below w.heap.size w w') := fun w => by
    have h := count_c (bits .or .u64 x0 y0) (bits .or .u64 x1 y1) (bits .or .u64 x2 y2) (bits .or .u64 x3 y3) w (or_u64 h0 k0) (or_u64 h1 k1) (or_u64 h2 k2) (or_u64 h3 k3)
    rwa [← eNC1] at h
  have C2 : Hid (∀ w, Calls Try.prog 35 #[.agg #[.int .u64 (bits .and .u64 x0 y0), .int .u64 (bits .and .u64 x1 y1), .int .u64 (bits .and .u64 x2 y2), .int .u64 (bits .and .u64 x3 y3)]] w fun e w' => e = .returned (.int .i64 NC2) ∧ Below w.heap.size w w') := fun w => by
    have h := count_c (bits .and .u64 x0 y0) (bits .and .u64 x1 y1) (bits .and .u64 x2 y2) (bits .and .u64 x3 y3) w (and_u64 h0 k0) (and_u64 h1 k1) (and_u64 h2 k2) (and_u64 h3 k3)
    rwa [← eNC2] at h
  have C3 : Hid (∀ w, Calls Try.prog 35 #[.agg #[.int .u64 x0, .int .u64 x1, .int .u64 x2, .int .u64 x3]] w fun e w' => e = .returned (.int .i64 NC3) ∧ Below w.heap.size w w') := fun w => by
    have h := count_c x0 x1 x2 x3 w (h0) (h1) (h2) (h3)
    rwa [← eNC3] at h
  have C4 : Hid (∀ w, Calls Try.prog 35 #[.agg #[.int .u64 y0, .int .u64 y1, .int .u64 y2, .int .u64 y3]] w fun e w' => e = .returned (.int .i64 NC4) ∧ Below w.heap.size w w') := fun w => by
    have h := count_c y0 y1 y2 y3 w (k0) (k1) (k2) (k3)
    rwa [← eNC4] at h
  have bC1 := onesI_le (bits .or .u64 x0 y0) (bits .or .u64 x1 y1) (bits .or .u64 x2 y2) (bits .or .u64 x3 y3)
  rw [← eNC1] at bC1
  have bC2 := onesI_le (bits .and .u64 x0 y0) (bits .and .u64 x1 y1) (bits .and .u64 x2 y2) (bits .and .u64 x3 y3)
  rw [← eNC2] at bC2
  have bC3 := onesI_le x0 x1 x2 x3
  rw [← eNC3] at bC3
  have bC4 := onesI_le y0 y1 y2 y3
  rw [← eNC4] at bC4
  have hS : IntKind.i64.wrap (NC1 + NC2) = NC1 + NC2 := IntWalk.i64_in _ (by omega)
  have hS' : IntKind.i64.wrap (NC3 + NC4) = NC1 + NC2 := by rw [IntWalk.i64_in _ (by omega)]; omega
  have HS := Lib.hid hS
  have HS' := Lib.hid hS'
  clear hS hS' hsum bC1 bC2 bC3 bC4 eNC1 eNC2 eNC3 eNC4
  clear h0 h1 h2 h3 k0 k1 k2 k3 l0 l1 l2 l3
  go_enter Try.func6, Try.ntmps6
  go_wp2_with fail
  have qa := quad_fst w x0 x1 x2 x3 (.cells #[.int .u64 y0, .int .u64 y1, .int .u64 y2, .int .u64 y3] 24)
  have qa := Quad.alloc qa (.cells #[.int .u64 z0, .int .u64 z1, .int .u64 z2, .int .u64 z3] 24)
  have qb := (quad_snd w x0 x1 x2 x3 y0 y1 y2 y3).alloc (.cells #[.int .u64 z0, .int .u64 z1, .int .u64 z2, .int .u64 z3] 24)
  have qc := quad_snd (w.alloc (.cells #[.int .u64 x0, .int .u64 x1, .int .u64 x2, .int .u64 x3] 24)) y0 y1 y2 y3 z0 z1 z2 z3
  have hB : Below w.heap.size w (((w.alloc (.cells #[.int .u64 x0, .int .u64 x1, .int .u64 x2, .int .u64 x3] 24)).alloc (.cells #[.int .u64 y0, .int .u64 y1, .int .u64 y2, .int .u64 y3] 24)).alloc (.cells #[.int .u64 z0, .int .u64 z1, .int .u64 z2, .int .u64 z3] 24)) := (((Below.refl _ _).alloc (Nat.le_refl _) _).alloc (by simp) _).alloc (by simp; omega) _
  rw [show (w.alloc (.cells #[.int .u64 x0, .int .u64 x1, .int .u64 x2, .int .u64 x3] 24)).heap.size = w.heap.size + 1 by simp] at qc
  generalize ((w.alloc (.cells #[.int .u64 x0, .int .u64 x1, .int .u64 x2, .int .u64 x3] 24)).alloc (.cells #[.int .u64 y0, .int .u64 y1, .int .u64 y2, .int .u64 y3] 24)).alloc (.cells #[.int .u64 z0, .int .u64 z1, .int .u64 z2, .int .u64 z3] 24) = W at *
  obtain ⟨a0, a1, a2, a3, _⟩ := qa.facts
  obtain ⟨b0, b1, b2, b3, _⟩ := qb.facts
  have QA := Lib.hid qa
  have QB := Lib.hid qb
  have QC := Lib.hid qc
  have la := qa.lt
  have lb := qb.lt
  clear qa qb qc
  go_cut [7, 8] (fun s7 s8 wx => Post x0 x1 x2 x3 y0 y1 y2 y3 W s7 s8 wx)
  case first =>
    go_region_held3 (fun w' => w'.cell? ⟨w.heap.size, 0, none⟩ = some (.int .u64 x0) ∧ w'.cell? ⟨w.heap.size, 1, none⟩ = some (.int .u64 x1) ∧ w'.cell? ⟨w.heap.size, 2, none⟩ = some (.int .u64 x2) ∧ w'.cell? ⟨w.heap.size, 3, none⟩ = some (.int .u64 x3) ∧
        w'.cell? ⟨w.heap.size + 1, 0, none⟩ = some (.int .u64 y0) ∧ w'.cell? ⟨w.heap.size + 1, 1, none⟩ = some (.int .u64 y1) ∧ w'.cell? ⟨w.heap.size + 1, 2, none⟩ = some (.int .u64 y2) ∧ w'.cell? ⟨w.heap.size + 1, 3, none⟩ = some (.int .u64 y3))
      ((refine two_cls QA.out QB.out ?_; repeat (first | exact Cls.rfl | refine Cls.drew ?_ | refine Cls.alloc ?_ _)))
      (first
        | (go_at_call 26; refine (union_x _ _ _ _ _ _ _ _ _).mono ?_; rintro e w2 ⟨rfl, rfl⟩)
        | (go_at_call 28; refine (meet_x _ _ _ _ _ _ _ _ _).mono ?_; rintro e w3 ⟨rfl, rfl⟩))
    all_goals
      go_wp2_with fail
      go_meet
      refine ⟨_, _, rfl, rfl, ?_, ?_, ?_⟩
      · repeat (first | with_reducible exact Cls.rfl | with_reducible refine Cls.drew ?_ | with_reducible refine Cls.alloc ?_ _)
      · repeat (first | ((with_reducible refine quad_here _ _ _ _ ?_); simp; done) | with_reducible refine quad_drew ?_ | with_reducible refine Quad.alloc ?_ _)
      · repeat (first | ((with_reducible refine quad_here _ _ _ _ ?_); simp; done) | with_reducible refine quad_drew ?_ | with_reducible refine Quad.alloc ?_ _)
  case rest =>
    obtain ⟨gu, gm, rfl, rfl, hc1, qu, qm⟩ := hcut
    have RA := Lib.hid (QA.out.below hc1 QA.out.lt)
    have RB := Lib.hid (QB.out.below hc1 QB.out.lt)
    have RC := Lib.hid (QC.out.below hc1 QC.out.lt)
    have RU := Lib.hid qu
    have RM := Lib.hid qm
    clear qu qm QA QB QC la lb
    have hB1 : Below w.heap.size w wc := hB.trans (Below.mono hc1 hB.size)
    clear hc1 hB
    go_wp2_with fail
    refine wp_region_cls (by kernel_rfl) (by kernel_rfl) ?_
    repeat (first
      | go_big_quiet_skip
      | (go_big_quiet_want
         go_big_quiet_op
         first
           | go_big_quiet_on
           | (apply Exists.intro
              refine ⟨fun w1 hC => ?_, ?_⟩
              · first
                  | (go_at_call 26; with_reducible exact hC.call (F1.out _))
                  | (go_at_call 26; with_reducible exact hC.call (F3.out _))
                  | (go_at_call 26; with_reducible exact hC.call (F5.out _))
                  | (go_at_call 26; with_reducible exact hC.call (F8.out _))
                  | (go_at_call 28; with_reducible exact hC.call (F2.out _))
                  | (go_at_call 28; with_reducible exact hC.call (F4.out _))
                  | (go_at_call 28; with_reducible exact hC.call (F6.out _))
                  | (go_at_call 28; with_reducible exact hC.call (F7.out _))
                  | (go_at_call 26; with_reducible exact hC.call (union_c _ _ _ _ _ _ _ _ _))
                  | (go_at_call 28; with_reducible exact hC.call (meet_c _ _ _ _ _ _ _ _ _))
                  | (go_at_call 32; with_reducible exact hC.call (F9.out _))
                  | (go_at_call 35; with_reducible exact hC.call (C1.out _))
                  | (go_at_call 35; with_reducible exact hC.call (C2.out _))
                  | (go_at_call 35; with_reducible exact hC.call (C3.out _))
                  | (go_at_call 35; with_reducible exact hC.call (C4.out _))
                  | (go_at_call 15; exact hC.call (alive_c _))
                  | (obtain ⟨pRA0, pRA1, pRA2, pRA3⟩ := RA.out.cls hC; obtain ⟨pRB0, pRB1, pRB2, pRB3⟩ := RB.out.cls hC; obtain ⟨pRC0, pRC1, pRC2, pRC3⟩ := RC.out.cls hC; obtain ⟨pRU0, pRU1, pRU2, pRU3⟩ := RU.out.cls hC; obtain ⟨pRM0, pRM1, pRM2, pRM3⟩ := RM.out.cls hC; go_simp; exact rfl)
              go_big_quiet_on)))
    refine wpQuiet_nil ?_
    intro W' hC
    have SA := Lib.hid (RA.out.below hC RA.out.lt)
    have SB := Lib.hid (RB.out.below hC RB.out.lt)
    have SC := Lib.hid (RC.out.below hC RC.out.lt)
    have SU := Lib.hid (RU.out.below hC RU.out.lt)
    have SM := Lib.hid (RM.out.below hC RM.out.lt)
    have hB2 : Below w.heap.size w W' := hB1.trans (Below.mono hC hB1.size)
    clear hC hB1 RA RB RC RU RM
    go_wp2_with fail
    refine wp_region_cls (by kernel_rfl) (by kernel_rfl) ?_
    repeat (first
      | go_big_quiet_skip
      | (go_big_quiet_want
         go_big_quiet_op
         first
           | go_big_quiet_on
           | (apply Exists.intro
              refine ⟨fun w1 hC => ?_, ?_⟩
              · first
                  | (go_at_call 26; with_reducible exact hC.call (F1.out _))
                  | (go_at_call 26; with_reducible exact hC.call (F3.out _))
                  | (go_at_call 26; with_reducible exact hC.call (F5.out _))
                  | (go_at_call 26; with_reducible exact hC.call (F8.out _))
                  | (go_at_call 28; with_reducible exact hC.call (F2.out _))
                  | (go_at_call 28; with_reducible exact hC.call (F4.out _))
                  | (go_at_call 28; with_reducible exact hC.call (F6.out _))
                  | (go_at_call 28; with_reducible exact hC.call (F7.out _))
                  | (go_at_call 26; with_reducible exact hC.call (union_c _ _ _ _ _ _ _ _ _))
                  | (go_at_call 28; with_reducible exact hC.call (meet_c _ _ _ _ _ _ _ _ _))
                  | (go_at_call 32; with_reducible exact hC.call (F9.out _))
                  | (go_at_call 35; with_reducible exact hC.call (C1.out _))
                  | (go_at_call 35; with_reducible exact hC.call (C2.out _))
                  | (go_at_call 35; with_reducible exact hC.call (C3.out _))
                  | (go_at_call 35; with_reducible exact hC.call (C4.out _))
                  | (go_at_call 15; exact hC.call (alive_c _))
                  | (obtain ⟨pSA0, pSA1, pSA2, pSA3⟩ := SA.out.cls hC; obtain ⟨pSB0, pSB1, pSB2, pSB3⟩ := SB.out.cls hC; obtain ⟨pSC0, pSC1, pSC2, pSC3⟩ := SC.out.cls hC; obtain ⟨pSU0, pSU1, pSU2, pSU3⟩ := SU.out.cls hC; obtain ⟨pSM0, pSM1, pSM2, pSM3⟩ := SM.out.cls hC; go_simp; exact rfl)
              go_big_quiet_on)))
    refine wpQuiet_nil ?_
    intro W2 hC
    have TA := SA.out.below hC SA.out.lt
    have TB := SB.out.below hC SB.out.lt
    have TU := Lib.hid (SU.out.below hC SU.out.lt)
    have TM := Lib.hid (SM.out.below hC SM.out.lt)
    have hB3 : Below w.heap.size w W2 := hB2.trans (Below.mono hC hB2.size)
    clear hC hB2 SA SB SC SU SM
    obtain ⟨a0, a1, a2, a3, _⟩ := TA.facts
    obtain ⟨b0, b1, b2, b3, _⟩ := TB.facts
    go_wp2_with fail
    refine (minus_c _ _ _ _ _ _ _ _ _).mono ?_
    rintro e W3 ⟨rfl, hb3⟩
    have HTA := Lib.hid TA
    have HTB := Lib.hid TB
    clear a0 a1 a2 a3 b0 b1 b2 b3 TA TB
    go_wp2_with fail
    have hB4 : Below w.heap.size w W3 := hB3.trans (hb3.mono hB3.size)
    have KA := ((HTA.out.below hb3 HTA.out.lt).alloc (.cells #[.int .u64 (bits .andNot .u64 x0 y0), .int .u64 (bits .andNot .u64 x1 y1), .int .u64 (bits .andNot .u64 x2 y2), .int .u64 (bits .andNot .u64 x3 y3)] 24))
    have KB := ((HTB.out.below hb3 HTB.out.lt).alloc (.cells #[.int .u64 (bits .andNot .u64 x0 y0), .int .u64 (bits .andNot .u64 x1 y1), .int .u64 (bits .andNot .u64 x2 y2), .int .u64 (bits .andNot .u64 x3 y3)] 24))
    have KU := ((TU.out.below hb3 TU.out.lt).alloc (.cells #[.int .u64 (bits .andNot .u64 x0 y0), .int .u64 (bits .andNot .u64 x1 y1), .int .u64 (bits .andNot .u64 x2 y2), .int .u64 (bits .andNot .u64 x3 y3)] 24))
    have KM := ((TM.out.below hb3 TM.out.lt).alloc (.cells #[.int .u64 (bits .andNot .u64 x0 y0), .int .u64 (bits .andNot .u64 x1 y1), .int .u64 (bits .andNot .u64 x2 y2), .int .u64 (bits .andNot .u64 x3 y3)] 24))
    have KD := Quad.new W3 (bits .andNot .u64 x0 y0) (bits .andNot .u64 x1 y1) (bits .andNot .u64 x2 y2) (bits .andNot .u64 x3 y3)
    have hB5 : Below w.heap.size w (W3.alloc (.cells #[.int .u64 (bits .andNot .u64 x0 y0), .int .u64 (bits .andNot .u64 x1 y1), .int .u64 (bits .andNot .u64 x2 y2), .int .u64 (bits .andNot .u64 x3 y3)] 24)) := hB4.alloc hB4.size _
    generalize W3.alloc (.cells #[.int .u64 (bits .andNot .u64 x0 y0), .int .u64 (bits .andNot .u64 x1 y1), .int .u64 (bits .andNot .u64 x2 y2), .int .u64 (bits .andNot .u64 x3 y3)] 24) = W4 at *
    have LA := Lib.hid KA
    have LB := Lib.hid KB
    have LU := Lib.hid KU
    have LM := Lib.hid KM
    have LD := Lib.hid KD
    clear KA KB KU KM KD HTA HTB TU TM hb3 hB3 hB4
    have hS := HS.out
    have hS' := HS'.out
    refine wp_region_cls (by kernel_rfl) (by kernel_rfl) ?_
    repeat (first
      | go_big_quiet_skip
      | (go_big_quiet_want
         go_big_quiet_op
         first
           | go_big_quiet_on
           | (apply Exists.intro
              refine ⟨fun w1 hC => ?_, ?_⟩
              · first
                  | (go_at_call 26; with_reducible exact hC.call (F1.out _))
                  | (go_at_call 26; with_reducible exact hC.call (F3.out _))
                  | (go_at_call 26; with_reducible exact hC.call (F5.out _))
                  | (go_at_call 26; with_reducible exact hC.call (F8.out _))
                  | (go_at_call 28; with_reducible exact hC.call (F2.out _))
                  | (go_at_call 28; with_reducible exact hC.call (F4.out _))
                  | (go_at_call 28; with_reducible exact hC.call (F6.out _))
                  | (go_at_call 28; with_reducible exact hC.call (F7.out _))
                  | (go_at_call 26; with_reducible exact hC.call (union_c _ _ _ _ _ _ _ _ _))
                  | (go_at_call 28; with_reducible exact hC.call (meet_c _ _ _ _ _ _ _ _ _))
                  | (go_at_call 32; with_reducible exact hC.call (F9.out _))
                  | (go_at_call 35; with_reducible exact hC.call (C1.out _))
                  | (go_at_call 35; with_reducible exact hC.call (C2.out _))
                  | (go_at_call 35; with_reducible exact hC.call (C3.out _))
                  | (go_at_call 35; with_reducible exact hC.call (C4.out _))
                  | (go_at_call 15; exact hC.call (alive_c _))
                  | (obtain ⟨pLA0, pLA1, pLA2, pLA3⟩ := LA.out.cls hC; obtain ⟨pLB0, pLB1, pLB2, pLB3⟩ := LB.out.cls hC; obtain ⟨pLU0, pLU1, pLU2, pLU3⟩ := LU.out.cls hC; obtain ⟨pLM0, pLM1, pLM2, pLM3⟩ := LM.out.cls hC; obtain ⟨pLD0, pLD1, pLD2, pLD3⟩ := LD.out.cls hC; go_simp; exact rfl)
              go_big_quiet_on)))
    refine wpQuiet_nil ?_
    intro W5 hC
    go_wp2
    go_ret
    exact ⟨rfl, hB5.trans (Below.mono hC hB5.size)⟩
end Go.Proofs.Ytaigoklmhafhcaa
