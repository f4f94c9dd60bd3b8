/- The law LevelLattice, walked. -/
import Derived.Test.YthjebccidcichaaLl2
import Derived.Deep.DeepCutAuto
namespace Go.Proofs.Ythjebccidcichaa
open Go.RowKit
set_option maxRecDepth 100000 in
set_option maxHeartbeats 4000000 in
theorem join_x (s : Int) (c : Nat) (s' : Int) (c' : Nat) (w : World) (hc : c < U64) (hc' : c' < U64) :
    Calls Try.prog 21 #[.agg #[.int .i64 s, .int .u64 c], .agg #[.int .i64 s', .int .u64 c']] w fun e w' => e = .returned (.agg #[.int .i64 (max s s'), .int .u64 ((c ||| c' : Nat) : Int)]) ∧
      w' = ((w.alloc (.cells #[.int .i64 s, .int .u64 c] 24)).alloc (.cells #[.int .i64 s', .int .u64 c'] 24)).alloc (.cells #[.int .i64 (max s s'), .int .u64 (bits .or .u64 (c : Int) (c' : Int))] 24) := by
  have hm := max_int s s'
  have HL := Lib.hid (u64_or_nat c c' hc hc')
  go_enter Try.func21, Try.ntmps21
  go_wp2_with fail
  exact bodyPost_ret (v := .agg #[.int .i64 (max s s'), .int .u64 (bits .or .u64 (c : Int) (c' : Int))]) (by simp [results, Try.results21, go_sem]) rfl ⟨by rw [HL.out], rfl⟩
set_option maxRecDepth 100000 in
set_option maxHeartbeats 4000000 in
theorem meet_x (s : Int) (c : Nat) (s' : Int) (c' : Nat) (w : World) (hc : c < U64) (hc' : c' < U64) :
    Calls Try.prog 22 #[.agg #[.int .i64 s, .int .u64 c], .agg #[.int .i64 s', .int .u64 c']] w fun e w' => e = .returned (.agg #[.int .i64 (min s s'), .int .u64 ((c &&& c' : Nat) : Int)]) ∧
      w' = ((w.alloc (.cells #[.int .i64 s, .int .u64 c] 24)).alloc (.cells #[.int .i64 s', .int .u64 c'] 24)).alloc (.cells #[.int .i64 (min s s'), .int .u64 (bits .and .u64 (c : Int) (c' : Int))] 24) := by
  have hm := min_int s s'
  have HL := Lib.hid (u64_and_nat c c' hc hc')
  go_enter Try.func22, Try.ntmps22
  go_wp2_with fail
  exact bodyPost_ret (v := .agg #[.int .i64 (min s s'), .int .u64 (bits .and .u64 (c : Int) (c' : Int))]) (by simp [results, Try.results22, go_sem]) rfl ⟨by rw [HL.out], rfl⟩

theorem sub_trans {a b c : Nat} (ha : a < U64) (hb : b < U64) (h1 : subL a b = true) (h2 : subL b c = true) : subL a c = true :=
  (subL_iff ha).2 fun n hn h => (subL_iff ha).1 h1 n hn ((subL_iff hb).1 h2 n hn h)
theorem dom_trans {s t r : Int} {c d q : Nat} (hc : c < U64) (hd : d < U64) (h1 : domL s c t d = true) (h2 : domL t d r q = true) : domL s c r q = true := by
  unfold domL at *
  rw [Bool.and_eq_true, decide_eq_true_eq] at *
  exact ⟨by omega, sub_trans hc hd h1.2 h2.2⟩
theorem sub_or {a b x : Nat} (hx : x < U64) : subL x (a ||| b) = true ↔ subL x a = true ∧ subL x b = true := by
  rw [subL_iff hx, subL_iff hx, subL_iff hx]
  constructor
  · exact fun h => ⟨fun n hn hb => h n hn (by rw [Nat.testBit_or, hb]; rfl), fun n hn hb => h n hn (by rw [Nat.testBit_or, hb]; simp)⟩
  · rintro ⟨h1, h2⟩ n hn hb
    rw [Nat.testBit_or, Bool.or_eq_true] at hb
    exact hb.elim (h1 n hn) (h2 n hn)
theorem sub_and {a b x : Nat} (ha : a < U64) (hb : b < U64) : subL (a &&& b) x = true ↔ subL a x = true ∧ subL b x = true := by
  rw [subL_iff ha, subL_iff hb, subL_iff (and_lt ha)]
  constructor
  · exact fun h => ⟨fun n hn hx => by have := h n hn hx; rw [Nat.testBit_and, Bool.and_eq_true] at this; exact this.1, fun n hn hx => by have := h n hn hx; rw [Nat.testBit_and, Bool.and_eq_true] at this; exact this.2⟩
  · rintro ⟨h1, h2⟩ n hn hx
    rw [Nat.testBit_and, h1 n hn hx, h2 n hn hx]; rfl
theorem dom_join {s t r : Int} {c d q : Nat} (hq : q < U64) : domL r q (max s t) (c ||| d) = (domL r q s c && domL r q t d) := by
  unfold domL
  rw [Bool.eq_iff_iff]
  simp only [Bool.and_eq_true, decide_eq_true_eq]
  rw [sub_or hq]
  constructor
  · rintro ⟨h, h1, h2⟩; exact ⟨⟨by omega, h1⟩, by omega, h2⟩
  · rintro ⟨⟨h, h1⟩, h', h2⟩; exact ⟨by omega, h1, h2⟩
theorem dom_meet {s t r : Int} {c d q : Nat} (hc : c < U64) (hd : d < U64) : domL (min s t) (c &&& d) r q = (domL s c r q && domL t d r q) := by
  unfold domL
  rw [Bool.eq_iff_iff]
  simp only [Bool.and_eq_true, decide_eq_true_eq]
  rw [sub_and hc hd]
  constructor
  · rintro ⟨h, h1, h2⟩; exact ⟨⟨by omega, h1⟩, by omega, h2⟩
  · rintro ⟨⟨h, h1⟩, h', h2⟩; exact ⟨by omega, h1, h2⟩
theorem or_and (c d : Nat) : c ||| (c &&& d) = c := by
  apply Nat.eq_of_testBit_eq
  intro i
  rw [Nat.testBit_or, Nat.testBit_and]
  cases c.testBit i <;> simp
theorem and_or (c d : Nat) : c &&& (c ||| d) = c := by
  apply Nat.eq_of_testBit_eq
  intro i
  rw [Nat.testBit_and, Nat.testBit_or]
  cases c.testBit i <;> simp
def LatP (s : Int) (c : Nat) (t : Int) (d : Nat) (W : World) (v7 v8 : Value) (wx : World) : Prop :=
  ∃ g7 g8, v7 = .pointer (some ⟨g7, 0, none⟩) ∧ v8 = .pointer (some ⟨g8, 0, none⟩) ∧ Blk wx g7 24 #[.int .i64 (max s t), .int .u64 ((c ||| d : Nat) : Int)] ∧ Blk wx g8 24 #[.int .i64 (min s t), .int .u64 ((c &&& d : Nat) : Int)] ∧ Kp W wx
set_option maxRecDepth 100000 in
set_option maxHeartbeats 16000000 in
theorem llattice_c (s : Int) (c : Nat) (t : Int) (d : Nat) (r : Int) (q : Nat) (w : World) (h1 : c < U64) (h3 : d < U64) (h5 : q < U64) :
    Calls Try.prog 5 #[.agg #[.int .i64 s, .int .u64 c], .agg #[.int .i64 t, .int .u64 d], .agg #[.int .i64 r, .int .u64 q]] w fun e w' => e = .returned (.bool true) ∧ Below w.heap.size w w' := by
  obtain ⟨hB1, hB2, hW, hz⟩ := two_box w 24 24 #[.int .i64 s, .int .u64 c] #[.int .i64 t, .int .u64 d]
  have hB3 := Blk.new ((w.alloc (.cells #[.int .i64 s, .int .u64 c] 24)).alloc (.cells #[.int .i64 t, .int .u64 d] 24)) 24 #[.int .i64 r, .int .u64 q]
  rw [hz] at hB3
  replace hB1 := hB1.alloc (.cells #[.int .i64 r, .int .u64 q] 24)
  replace hB2 := hB2.alloc (.cells #[.int .i64 r, .int .u64 q] 24)
  replace hW := hW.alloc (by omega) (.cells #[.int .i64 r, .int .u64 q] 24)
  clear hz
  go_enter Try.func5, Try.ntmps5
  go_wp2_with fail
  generalize ((w.alloc (.cells #[.int .i64 s, .int .u64 c] 24)).alloc (.cells #[.int .i64 t, .int .u64 d] 24)).alloc (.cells #[.int .i64 r, .int .u64 q] 24) = W at *
  have HB1 := Lib.hid hB1
  have HB2 := Lib.hid hB2
  have HB3 := Lib.hid hB3
  have HW := Lib.hid hW
  have HSK : Hid (∀ w', Kp W w' → w'.cell? ⟨w.heap.size, 0, none⟩ = some (.int .i64 s) ∧ w'.cell? ⟨w.heap.size, 1, none⟩ = some (.int .u64 c) ∧ w'.cell? ⟨w.heap.size + 1, 0, none⟩ = some (.int .i64 t) ∧ w'.cell? ⟨w.heap.size + 1, 1, none⟩ = some (.int .u64 d)) := Lib.hid fun w' h => by
    obtain ⟨a0, a1⟩ := (h.blk HB1.out).box2
    obtain ⟨b0, b1⟩ := (h.blk HB2.out).box2
    exact ⟨a0, a1, b0, b1⟩
  clear hB1 hB2 hB3 hW
  have HJ := Lib.hid (fun W => join_x s c t d W h1 h3)
  have HM := Lib.hid (fun W => meet_x s c t d W h1 h3)
  go_cut [7, 8] (fun v7 v8 wx => LatP s c t d W v7 v8 wx)
  case first =>
    go_region_held3 (fun w' => w'.cell? ⟨w.heap.size, 0, none⟩ = some (.int .i64 s) ∧ w'.cell? ⟨w.heap.size, 1, none⟩ = some (.int .u64 c) ∧ w'.cell? ⟨w.heap.size + 1, 0, none⟩ = some (.int .i64 t) ∧ w'.cell? ⟨w.heap.size + 1, 1, none⟩ = some (.int .u64 d))
      ((refine HSK.out _ ?_; repeat (first | exact Kp.rfl' | refine Kp.drew ?_ | refine Kp.alloc ?_ _)))
      (first
        | (go_at_call 21; refine (HJ.out _).mono ?_; rintro e w2 ⟨rfl, rfl⟩)
        | (go_at_call 22; refine (HM.out _).mono ?_; rintro e w3 ⟨rfl, rfl⟩))
    all_goals
      go_wp2_with fail
      go_meet
      refine ⟨_, _, rfl, rfl, ?_, ?_, ?_⟩
      · repeat (first | ((with_reducible refine Blk.here ?_); simp; done) | with_reducible refine Blk.drew ?_ | with_reducible refine Blk.alloc ?_ _)
      · repeat (first | ((with_reducible refine Blk.here ?_); simp; done) | with_reducible refine Blk.drew ?_ | with_reducible refine Blk.alloc ?_ _)
      · repeat (first | with_reducible exact Kp.rfl' | with_reducible refine Kp.drew ?_ | with_reducible refine Kp.alloc ?_ _)
  case rest =>
    obtain ⟨g7, g8, rfl, rfl, q7, q8, hK⟩ := hcut
    have hj := or_lt h1 h3
    have hm := and_lt (b := d) h1
    have hdr := or_lt h3 h5
    obtain ⟨X1, hX1⟩ : ∃ X, domL s c t d = X := ⟨_, rfl⟩
    obtain ⟨X2, hX2⟩ : ∃ X, domL t d r q = X := ⟨_, rfl⟩
    obtain ⟨X3, hX3⟩ : ∃ X, domL s c r q = X := ⟨_, rfl⟩
    obtain ⟨X4, hX4⟩ : ∃ X, domL t d s c = X := ⟨_, rfl⟩
    obtain ⟨Y1, hY1⟩ : ∃ X, domL r q s c = X := ⟨_, rfl⟩
    obtain ⟨Y2, hY2⟩ : ∃ X, domL r q t d = X := ⟨_, rfl⟩
    have Haa : ∀ W, Calls Try.prog 17 #[.agg #[.int .i64 s, .int .u64 c], .agg #[.int .i64 s, .int .u64 c]] W fun e w' => e = .returned (.bool true) ∧ Below W.heap.size W w' := fun W => by have := dominates_c s c s c W h1 h1; rwa [domL_self s h1] at this
    have Hab : ∀ W, Calls Try.prog 17 #[.agg #[.int .i64 s, .int .u64 c], .agg #[.int .i64 t, .int .u64 d]] W fun e w' => e = .returned (.bool X1) ∧ Below W.heap.size W w' := fun W => hX1 ▸ dominates_c s c t d W h1 h3
    have Hbx : ∀ W, Calls Try.prog 17 #[.agg #[.int .i64 t, .int .u64 d], .agg #[.int .i64 r, .int .u64 q]] W fun e w' => e = .returned (.bool X2) ∧ Below W.heap.size W w' := fun W => hX2 ▸ dominates_c t d r q W h3 h5
    have Hax : ∀ W, Calls Try.prog 17 #[.agg #[.int .i64 s, .int .u64 c], .agg #[.int .i64 r, .int .u64 q]] W fun e w' => e = .returned (.bool X3) ∧ Below W.heap.size W w' := fun W => hX3 ▸ dominates_c s c r q W h1 h5
    have Hba : ∀ W, Calls Try.prog 17 #[.agg #[.int .i64 t, .int .u64 d], .agg #[.int .i64 s, .int .u64 c]] W fun e w' => e = .returned (.bool X4) ∧ Below W.heap.size W w' := fun W => hX4 ▸ dominates_c t d s c W h3 h1
    have Hxa : ∀ W, Calls Try.prog 17 #[.agg #[.int .i64 r, .int .u64 q], .agg #[.int .i64 s, .int .u64 c]] W fun e w' => e = .returned (.bool Y1) ∧ Below W.heap.size W w' := fun W => hY1 ▸ dominates_c r q s c W h5 h1
    have Hxb : ∀ W, Calls Try.prog 17 #[.agg #[.int .i64 r, .int .u64 q], .agg #[.int .i64 t, .int .u64 d]] W fun e w' => e = .returned (.bool Y2) ∧ Below W.heap.size W w' := fun W => hY2 ▸ dominates_c r q t d W h5 h3
    have Hxj : ∀ W, Calls Try.prog 17 #[.agg #[.int .i64 r, .int .u64 q], .agg #[.int .i64 (max s t), .int .u64 ((c ||| d : Nat) : Int)]] W fun e w' => e = .returned (.bool (Y1 && Y2)) ∧ Below W.heap.size W w' := fun W => by have := dominates_c r q (max s t) (c ||| d) W h5 hj; rwa [dom_join h5, hY1, hY2] at this
    have Hmx : ∀ W, Calls Try.prog 17 #[.agg #[.int .i64 (min s t), .int .u64 ((c &&& d : Nat) : Int)], .agg #[.int .i64 r, .int .u64 q]] W fun e w' => e = .returned (.bool (X3 && X2)) ∧ Below W.heap.size W w' := fun W => by have := dominates_c (min s t) (c &&& d) r q W hm h5; rwa [dom_meet h1 h3, hX3, hX2] at this
    have Hja : ∀ W, Calls Try.prog 17 #[.agg #[.int .i64 (max s t), .int .u64 ((c ||| d : Nat) : Int)], .agg #[.int .i64 s, .int .u64 c]] W fun e w' => e = .returned (.bool true) ∧ Below W.heap.size W w' := fun W => by have := dominates_c (max s t) (c ||| d) s c W hj h1; rwa [((Bool.and_eq_true _ _).mp ((dom_join hj).symm.trans (domL_self (max s t) hj))).1] at this
    have Hjb : ∀ W, Calls Try.prog 17 #[.agg #[.int .i64 (max s t), .int .u64 ((c ||| d : Nat) : Int)], .agg #[.int .i64 t, .int .u64 d]] W fun e w' => e = .returned (.bool true) ∧ Below W.heap.size W w' := fun W => by have := dominates_c (max s t) (c ||| d) t d W hj h3; rwa [((Bool.and_eq_true _ _).mp ((dom_join hj).symm.trans (domL_self (max s t) hj))).2] at this
    have Ham : ∀ W, Calls Try.prog 17 #[.agg #[.int .i64 s, .int .u64 c], .agg #[.int .i64 (min s t), .int .u64 ((c &&& d : Nat) : Int)]] W fun e w' => e = .returned (.bool true) ∧ Below W.heap.size W w' := fun W => by have := dominates_c s c (min s t) (c &&& d) W h1 hm; rwa [((Bool.and_eq_true _ _).mp ((dom_meet h1 h3).symm.trans (domL_self (min s t) hm))).1] at this
    have Hbm : ∀ W, Calls Try.prog 17 #[.agg #[.int .i64 t, .int .u64 d], .agg #[.int .i64 (min s t), .int .u64 ((c &&& d : Nat) : Int)]] W fun e w' => e = .returned (.bool true) ∧ Below W.heap.size W w' := fun W => by have := dominates_c t d (min s t) (c &&& d) W h3 hm; rwa [((Bool.and_eq_true _ _).mp ((dom_meet h1 h3).symm.trans (domL_self (min s t) hm))).2] at this
    have Jba : ∀ W, Calls Try.prog 21 #[.agg #[.int .i64 t, .int .u64 d], .agg #[.int .i64 s, .int .u64 c]] W fun e w' => e = .returned (.agg #[.int .i64 (max s t), .int .u64 ((c ||| d : Nat) : Int)]) ∧ Below W.heap.size W w' := fun W => by have := join_c t d s c W h3 h1; rwa [Int.max_comm t s, Nat.or_comm d c] at this
    have Mba : ∀ W, Calls Try.prog 22 #[.agg #[.int .i64 t, .int .u64 d], .agg #[.int .i64 s, .int .u64 c]] W fun e w' => e = .returned (.agg #[.int .i64 (min s t), .int .u64 ((c &&& d : Nat) : Int)]) ∧ Below W.heap.size W w' := fun W => by have := meet_c t d s c W h3 h1; rwa [Int.min_comm t s, Nat.and_comm d c] at this
    have Jam : ∀ W, Calls Try.prog 21 #[.agg #[.int .i64 s, .int .u64 c], .agg #[.int .i64 (min s t), .int .u64 ((c &&& d : Nat) : Int)]] W fun e w' => e = .returned (.agg #[.int .i64 s, .int .u64 c]) ∧ Below W.heap.size W w' := fun W => by have := join_c s c (min s t) (c &&& d) W h1 hm; rwa [show max s (min s t) = s by omega, show c ||| (c &&& d) = c from or_and c d] at this
    have Maj : ∀ W, Calls Try.prog 22 #[.agg #[.int .i64 s, .int .u64 c], .agg #[.int .i64 (max s t), .int .u64 ((c ||| d : Nat) : Int)]] W fun e w' => e = .returned (.agg #[.int .i64 s, .int .u64 c]) ∧ Below W.heap.size W w' := fun W => by have := meet_c s c (max s t) (c ||| d) W h1 hj; rwa [show min s (max s t) = s by omega, show c &&& (c ||| d) = c from and_or c d] at this
    have Jab : ∀ W, Calls Try.prog 21 #[.agg #[.int .i64 s, .int .u64 c], .agg #[.int .i64 t, .int .u64 d]] W fun e w' => e = .returned (.agg #[.int .i64 (max s t), .int .u64 ((c ||| d : Nat) : Int)]) ∧ Below W.heap.size W w' := fun W => join_c s c t d W h1 h3
    have Jbx : ∀ W, Calls Try.prog 21 #[.agg #[.int .i64 t, .int .u64 d], .agg #[.int .i64 r, .int .u64 q]] W fun e w' => e = .returned (.agg #[.int .i64 (max t r), .int .u64 ((d ||| q : Nat) : Int)]) ∧ Below W.heap.size W w' := fun W => join_c t d r q W h3 h5
    have Jjx : ∀ W, Calls Try.prog 21 #[.agg #[.int .i64 (max s t), .int .u64 ((c ||| d : Nat) : Int)], .agg #[.int .i64 r, .int .u64 q]] W fun e w' => e = .returned (.agg #[.int .i64 (max (max s t) r), .int .u64 ((c ||| d ||| q : Nat) : Int)]) ∧ Below W.heap.size W w' := fun W => join_c (max s t) (c ||| d) r q W hj h5
    have Jay : ∀ W, Calls Try.prog 21 #[.agg #[.int .i64 s, .int .u64 c], .agg #[.int .i64 (max t r), .int .u64 ((d ||| q : Nat) : Int)]] W fun e w' => e = .returned (.agg #[.int .i64 (max (max s t) r), .int .u64 ((c ||| d ||| q : Nat) : Int)]) ∧ Below W.heap.size W w' := fun W => by have := join_c s c (max t r) (d ||| q) W h1 hdr; rwa [show max s (max t r) = max (max s t) r by omega, ← Nat.or_assoc] at this
    have hcases : X1 = false ∨ (X1 = true ∧ X2 = false ∧ X4 = false) ∨ (X1 = true ∧ X4 = true ∧ s = t ∧ c = d) ∨ (X1 = true ∧ X2 = true ∧ X3 = true ∧ X4 = false) := by
      cases X1
      · exact .inl rfl
      · cases X4
        · cases X2
          · exact .inr (.inl ⟨rfl, rfl, rfl⟩)
          · exact .inr (.inr (.inr ⟨rfl, rfl, by rw [← hX3]; exact dom_trans h1 h3 hX1 hX2, rfl⟩))
        · exact .inr (.inr (.inl ⟨rfl, rfl, dom_antisymm h1 h3 hX1 hX4⟩))
    have hd3 : s = t ∧ c = d → X2 = X3 ∧ Y2 = Y1 := by rintro ⟨rfl, rfl⟩; exact ⟨by rw [← hX2, ← hX3], by rw [← hY2, ← hY1]⟩
    obtain ⟨jj, hjj⟩ : ∃ j, max s t = j := ⟨_, rfl⟩
    obtain ⟨jc, hjc⟩ : ∃ j, c ||| d = j := ⟨_, rfl⟩
    obtain ⟨mm, hmm⟩ : ∃ j, min s t = j := ⟨_, rfl⟩
    obtain ⟨mc, hmc⟩ : ∃ j, c &&& d = j := ⟨_, rfl⟩
    rw [hjj, hjc] at q7
    rw [hmm, hmc] at q8
    simp only [hjj, hjc] at Hxj
    simp only [hmm, hmc] at Hmx
    simp only [hjj, hjc] at Hja
    simp only [hjj, hjc] at Hjb
    simp only [hmm, hmc] at Ham
    simp only [hmm, hmc] at Hbm
    simp only [hjj, hjc] at Jba
    simp only [hmm, hmc] at Mba
    simp only [hmm, hmc] at Jam
    simp only [hjj, hjc] at Maj
    simp only [hjj, hjc] at Jab
    simp only [hjj, hjc] at Jjx
    simp only [hjj, hjc] at Jay
    clear hX1 hX2 hX3 hX4 hY1 hY2 hjj hjc hmm hmc hj hm hdr
    replace Haa := Lib.hid Haa
    replace Hab := Lib.hid Hab
    replace Hbx := Lib.hid Hbx
    replace Hax := Lib.hid Hax
    replace Hba := Lib.hid Hba
    replace Hxa := Lib.hid Hxa
    replace Hxb := Lib.hid Hxb
    replace Hxj := Lib.hid Hxj
    replace Hmx := Lib.hid Hmx
    replace Hja := Lib.hid Hja
    replace Hjb := Lib.hid Hjb
    replace Ham := Lib.hid Ham
    replace Hbm := Lib.hid Hbm
    replace Jba := Lib.hid Jba
    replace Mba := Lib.hid Mba
    replace Jam := Lib.hid Jam
    replace Maj := Lib.hid Maj
    replace Jab := Lib.hid Jab
    replace Jbx := Lib.hid Jbx
    replace Jjx := Lib.hid Jjx
    replace Jay := Lib.hid Jay
    have HA := Lib.hid awake_c
    have HQ1 := Lib.hid (hK.blk HB1.out)
    have HQ2 := Lib.hid (hK.blk HB2.out)
    have HQ3 := Lib.hid (hK.blk HB3.out)
    have HQ7 := Lib.hid q7
    have HQ8 := Lib.hid q8
    have hCC : Below w.heap.size w wc := HW.out.trans (Below.mono hK HW.out.size)
    have HCC := Lib.hid hCC
    have hK0 : Kp wc wc := Kp.rfl'
    clear q7 q8 hK HW HB1 HB2 HB3 HSK HJ HM hCC
    rcases hcases with rfl | ⟨rfl, rfl, rfl⟩ | ⟨rfl, rfl, he1, he2⟩ | ⟨rfl, rfl, rfl, rfl⟩
    · clear hd3
      cases Y1 <;> cases X3
      all_goals
        simp only [Bool.true_and, Bool.false_and] at Hxj Hmx
        have HC := Lib.hid hK0
        clear hK0
        obtain ⟨p0, p1⟩ := (HC.out.blk HQ1.out).box2; obtain ⟨p2, p3⟩ := (HC.out.blk HQ2.out).box2; obtain ⟨p4, p5⟩ := (HC.out.blk HQ3.out).box2; obtain ⟨p6, p7⟩ := (HC.out.blk HQ7.out).box2; obtain ⟨p8, p9⟩ := (HC.out.blk HQ8.out).box2
        go_wp2_with (first
          | (go_at_call 17; (with_reducible refine (Haa.out _).mono ?_); rintro e w2 ⟨rfl, hb⟩; have HC := Lib.hid (Kp.step HC.out hb); clear hb p0 p1 p2 p3 p4 p5 p6 p7 p8 p9; obtain ⟨p0, p1⟩ := (HC.out.blk HQ1.out).box2; obtain ⟨p2, p3⟩ := (HC.out.blk HQ2.out).box2; obtain ⟨p4, p5⟩ := (HC.out.blk HQ3.out).box2; obtain ⟨p6, p7⟩ := (HC.out.blk HQ7.out).box2; obtain ⟨p8, p9⟩ := (HC.out.blk HQ8.out).box2)
          | (go_at_call 17; (with_reducible refine (Hab.out _).mono ?_); rintro e w2 ⟨rfl, hb⟩; have HC := Lib.hid (Kp.step HC.out hb); clear hb p0 p1 p2 p3 p4 p5 p6 p7 p8 p9; obtain ⟨p0, p1⟩ := (HC.out.blk HQ1.out).box2; obtain ⟨p2, p3⟩ := (HC.out.blk HQ2.out).box2; obtain ⟨p4, p5⟩ := (HC.out.blk HQ3.out).box2; obtain ⟨p6, p7⟩ := (HC.out.blk HQ7.out).box2; obtain ⟨p8, p9⟩ := (HC.out.blk HQ8.out).box2)
          | (go_at_call 17; (with_reducible refine (Hbx.out _).mono ?_); rintro e w2 ⟨rfl, hb⟩; have HC := Lib.hid (Kp.step HC.out hb); clear hb p0 p1 p2 p3 p4 p5 p6 p7 p8 p9; obtain ⟨p0, p1⟩ := (HC.out.blk HQ1.out).box2; obtain ⟨p2, p3⟩ := (HC.out.blk HQ2.out).box2; obtain ⟨p4, p5⟩ := (HC.out.blk HQ3.out).box2; obtain ⟨p6, p7⟩ := (HC.out.blk HQ7.out).box2; obtain ⟨p8, p9⟩ := (HC.out.blk HQ8.out).box2)
          | (go_at_call 17; (with_reducible refine (Hax.out _).mono ?_); rintro e w2 ⟨rfl, hb⟩; have HC := Lib.hid (Kp.step HC.out hb); clear hb p0 p1 p2 p3 p4 p5 p6 p7 p8 p9; obtain ⟨p0, p1⟩ := (HC.out.blk HQ1.out).box2; obtain ⟨p2, p3⟩ := (HC.out.blk HQ2.out).box2; obtain ⟨p4, p5⟩ := (HC.out.blk HQ3.out).box2; obtain ⟨p6, p7⟩ := (HC.out.blk HQ7.out).box2; obtain ⟨p8, p9⟩ := (HC.out.blk HQ8.out).box2)
          | (go_at_call 17; (with_reducible refine (Hba.out _).mono ?_); rintro e w2 ⟨rfl, hb⟩; have HC := Lib.hid (Kp.step HC.out hb); clear hb p0 p1 p2 p3 p4 p5 p6 p7 p8 p9; obtain ⟨p0, p1⟩ := (HC.out.blk HQ1.out).box2; obtain ⟨p2, p3⟩ := (HC.out.blk HQ2.out).box2; obtain ⟨p4, p5⟩ := (HC.out.blk HQ3.out).box2; obtain ⟨p6, p7⟩ := (HC.out.blk HQ7.out).box2; obtain ⟨p8, p9⟩ := (HC.out.blk HQ8.out).box2)
          | (go_at_call 17; (with_reducible refine (Hja.out _).mono ?_); rintro e w2 ⟨rfl, hb⟩; have HC := Lib.hid (Kp.step HC.out hb); clear hb p0 p1 p2 p3 p4 p5 p6 p7 p8 p9; obtain ⟨p0, p1⟩ := (HC.out.blk HQ1.out).box2; obtain ⟨p2, p3⟩ := (HC.out.blk HQ2.out).box2; obtain ⟨p4, p5⟩ := (HC.out.blk HQ3.out).box2; obtain ⟨p6, p7⟩ := (HC.out.blk HQ7.out).box2; obtain ⟨p8, p9⟩ := (HC.out.blk HQ8.out).box2)
          | (go_at_call 17; (with_reducible refine (Hjb.out _).mono ?_); rintro e w2 ⟨rfl, hb⟩; have HC := Lib.hid (Kp.step HC.out hb); clear hb p0 p1 p2 p3 p4 p5 p6 p7 p8 p9; obtain ⟨p0, p1⟩ := (HC.out.blk HQ1.out).box2; obtain ⟨p2, p3⟩ := (HC.out.blk HQ2.out).box2; obtain ⟨p4, p5⟩ := (HC.out.blk HQ3.out).box2; obtain ⟨p6, p7⟩ := (HC.out.blk HQ7.out).box2; obtain ⟨p8, p9⟩ := (HC.out.blk HQ8.out).box2)
          | (go_at_call 17; (with_reducible refine (Ham.out _).mono ?_); rintro e w2 ⟨rfl, hb⟩; have HC := Lib.hid (Kp.step HC.out hb); clear hb p0 p1 p2 p3 p4 p5 p6 p7 p8 p9; obtain ⟨p0, p1⟩ := (HC.out.blk HQ1.out).box2; obtain ⟨p2, p3⟩ := (HC.out.blk HQ2.out).box2; obtain ⟨p4, p5⟩ := (HC.out.blk HQ3.out).box2; obtain ⟨p6, p7⟩ := (HC.out.blk HQ7.out).box2; obtain ⟨p8, p9⟩ := (HC.out.blk HQ8.out).box2)
          | (go_at_call 17; (with_reducible refine (Hbm.out _).mono ?_); rintro e w2 ⟨rfl, hb⟩; have HC := Lib.hid (Kp.step HC.out hb); clear hb p0 p1 p2 p3 p4 p5 p6 p7 p8 p9; obtain ⟨p0, p1⟩ := (HC.out.blk HQ1.out).box2; obtain ⟨p2, p3⟩ := (HC.out.blk HQ2.out).box2; obtain ⟨p4, p5⟩ := (HC.out.blk HQ3.out).box2; obtain ⟨p6, p7⟩ := (HC.out.blk HQ7.out).box2; obtain ⟨p8, p9⟩ := (HC.out.blk HQ8.out).box2))
        have HB1 := Lib.hid (HC.out.blk HQ1.out)
        have HB2 := Lib.hid (HC.out.blk HQ2.out)
        have HB3 := Lib.hid (HC.out.blk HQ3.out)
        have HB7 := Lib.hid (HC.out.blk HQ7.out)
        have HB8 := Lib.hid (HC.out.blk HQ8.out)
        have HCC2 := Lib.hid (HCC.out.trans (Below.mono HC.out HCC.out.size))
        clear p0 p1 p2 p3 p4 p5 p6 p7 p8 p9 HQ1 HQ2 HQ3 HQ7 HQ8 HC HCC
        refine wp_region_kp (by kernel_rfl) (by kernel_rfl) ?_
        repeat (first
          | go_big_quiet_skip
          | (go_big_quiet_want
             go_big_quiet_op
             first
               | go_big_quiet_on
               | (apply Exists.intro
                  refine ⟨fun w1 hC => ?_, ?_⟩
                  · first
                      | (go_at_call 17; with_reducible exact hC.call (Hxa.out _))
                      | (go_at_call 17; with_reducible exact hC.call (Hxb.out _))
                      | (go_at_call 17; with_reducible exact hC.call (Hxj.out _))
                      | (go_at_call 17; with_reducible exact hC.call (Hax.out _))
                      | (go_at_call 17; with_reducible exact hC.call (Hbx.out _))
                      | (go_at_call 17; with_reducible exact hC.call (Hmx.out _))
                      | (obtain ⟨p0, p1⟩ := (hC.blk HB1.out).box2; obtain ⟨p2, p3⟩ := (hC.blk HB2.out).box2; obtain ⟨p4, p5⟩ := (hC.blk HB3.out).box2; obtain ⟨p6, p7⟩ := (hC.blk HB7.out).box2; obtain ⟨p8, p9⟩ := (hC.blk HB8.out).box2; go_simp; exact rfl)
                      | (go_simp; exact ⟨rfl, rfl⟩)
                  go_big_quiet_on)))
        refine wpQuiet_nil ?_
        intro W' hC
        replace HB1 := Lib.hid (hC.blk HB1.out)
        replace HB2 := Lib.hid (hC.blk HB2.out)
        replace HB3 := Lib.hid (hC.blk HB3.out)
        replace HB7 := Lib.hid (hC.blk HB7.out)
        replace HB8 := Lib.hid (hC.blk HB8.out)
        have HCC3 := Lib.hid (HCC2.out.trans (Below.mono hC HCC2.out.size))
        clear hC HCC2
        go_wp2_with fail
        refine wp_region_kp (by kernel_rfl) (by kernel_rfl) ?_
        repeat (first
          | go_big_quiet_skip
          | (go_big_quiet_want
             go_big_quiet_op
             first
               | go_big_quiet_on
               | (apply Exists.intro
                  refine ⟨fun w1 hC => ?_, ?_⟩
                  · first
                      | (go_at_call 21; with_reducible exact hC.call (Jba.out _))
                      | (go_at_call 21; with_reducible exact hC.call (Jam.out _))
                      | (go_at_call 21; with_reducible exact hC.call (Jab.out _))
                      | (go_at_call 21; with_reducible exact hC.call (Jjx.out _))
                      | (go_at_call 21; with_reducible exact hC.call (Jbx.out _))
                      | (go_at_call 21; with_reducible exact hC.call (Jay.out _))
                      | (go_at_call 22; with_reducible exact hC.call (Mba.out _))
                      | (go_at_call 22; with_reducible exact hC.call (Maj.out _))
                      | (go_at_call 16; with_reducible exact hC.call (HA.out _))
                      | (obtain ⟨p0, p1⟩ := (hC.blk HB1.out).box2; obtain ⟨p2, p3⟩ := (hC.blk HB2.out).box2; obtain ⟨p4, p5⟩ := (hC.blk HB3.out).box2; obtain ⟨p6, p7⟩ := (hC.blk HB7.out).box2; obtain ⟨p8, p9⟩ := (hC.blk HB8.out).box2; go_simp; exact rfl)
                      | (go_simp; exact ⟨rfl, rfl⟩)
                  go_big_quiet_on)))
        refine wpQuiet_nil ?_
        intro W' hC
        go_wp2_with fail
        go_ret
        exact ⟨by first | rfl | simp, HCC3.out.trans (Below.mono hC HCC3.out.size)⟩
    · clear hd3
      cases Y1 <;> cases X3
      all_goals
        simp only [Bool.true_and, Bool.false_and, Bool.and_false] at Hxj Hmx
        have HC := Lib.hid hK0
        clear hK0
        obtain ⟨p0, p1⟩ := (HC.out.blk HQ1.out).box2; obtain ⟨p2, p3⟩ := (HC.out.blk HQ2.out).box2; obtain ⟨p4, p5⟩ := (HC.out.blk HQ3.out).box2; obtain ⟨p6, p7⟩ := (HC.out.blk HQ7.out).box2; obtain ⟨p8, p9⟩ := (HC.out.blk HQ8.out).box2
        go_wp2_with (first
          | (go_at_call 17; (with_reducible refine (Haa.out _).mono ?_); rintro e w2 ⟨rfl, hb⟩; have HC := Lib.hid (Kp.step HC.out hb); clear hb p0 p1 p2 p3 p4 p5 p6 p7 p8 p9; obtain ⟨p0, p1⟩ := (HC.out.blk HQ1.out).box2; obtain ⟨p2, p3⟩ := (HC.out.blk HQ2.out).box2; obtain ⟨p4, p5⟩ := (HC.out.blk HQ3.out).box2; obtain ⟨p6, p7⟩ := (HC.out.blk HQ7.out).box2; obtain ⟨p8, p9⟩ := (HC.out.blk HQ8.out).box2)
          | (go_at_call 17; (with_reducible refine (Hab.out _).mono ?_); rintro e w2 ⟨rfl, hb⟩; have HC := Lib.hid (Kp.step HC.out hb); clear hb p0 p1 p2 p3 p4 p5 p6 p7 p8 p9; obtain ⟨p0, p1⟩ := (HC.out.blk HQ1.out).box2; obtain ⟨p2, p3⟩ := (HC.out.blk HQ2.out).box2; obtain ⟨p4, p5⟩ := (HC.out.blk HQ3.out).box2; obtain ⟨p6, p7⟩ := (HC.out.blk HQ7.out).box2; obtain ⟨p8, p9⟩ := (HC.out.blk HQ8.out).box2)
          | (go_at_call 17; (with_reducible refine (Hbx.out _).mono ?_); rintro e w2 ⟨rfl, hb⟩; have HC := Lib.hid (Kp.step HC.out hb); clear hb p0 p1 p2 p3 p4 p5 p6 p7 p8 p9; obtain ⟨p0, p1⟩ := (HC.out.blk HQ1.out).box2; obtain ⟨p2, p3⟩ := (HC.out.blk HQ2.out).box2; obtain ⟨p4, p5⟩ := (HC.out.blk HQ3.out).box2; obtain ⟨p6, p7⟩ := (HC.out.blk HQ7.out).box2; obtain ⟨p8, p9⟩ := (HC.out.blk HQ8.out).box2)
          | (go_at_call 17; (with_reducible refine (Hax.out _).mono ?_); rintro e w2 ⟨rfl, hb⟩; have HC := Lib.hid (Kp.step HC.out hb); clear hb p0 p1 p2 p3 p4 p5 p6 p7 p8 p9; obtain ⟨p0, p1⟩ := (HC.out.blk HQ1.out).box2; obtain ⟨p2, p3⟩ := (HC.out.blk HQ2.out).box2; obtain ⟨p4, p5⟩ := (HC.out.blk HQ3.out).box2; obtain ⟨p6, p7⟩ := (HC.out.blk HQ7.out).box2; obtain ⟨p8, p9⟩ := (HC.out.blk HQ8.out).box2)
          | (go_at_call 17; (with_reducible refine (Hba.out _).mono ?_); rintro e w2 ⟨rfl, hb⟩; have HC := Lib.hid (Kp.step HC.out hb); clear hb p0 p1 p2 p3 p4 p5 p6 p7 p8 p9; obtain ⟨p0, p1⟩ := (HC.out.blk HQ1.out).box2; obtain ⟨p2, p3⟩ := (HC.out.blk HQ2.out).box2; obtain ⟨p4, p5⟩ := (HC.out.blk HQ3.out).box2; obtain ⟨p6, p7⟩ := (HC.out.blk HQ7.out).box2; obtain ⟨p8, p9⟩ := (HC.out.blk HQ8.out).box2)
          | (go_at_call 17; (with_reducible refine (Hja.out _).mono ?_); rintro e w2 ⟨rfl, hb⟩; have HC := Lib.hid (Kp.step HC.out hb); clear hb p0 p1 p2 p3 p4 p5 p6 p7 p8 p9; obtain ⟨p0, p1⟩ := (HC.out.blk HQ1.out).box2; obtain ⟨p2, p3⟩ := (HC.out.blk HQ2.out).box2; obtain ⟨p4, p5⟩ := (HC.out.blk HQ3.out).box2; obtain ⟨p6, p7⟩ := (HC.out.blk HQ7.out).box2; obtain ⟨p8, p9⟩ := (HC.out.blk HQ8.out).box2)
          | (go_at_call 17; (with_reducible refine (Hjb.out _).mono ?_); rintro e w2 ⟨rfl, hb⟩; have HC := Lib.hid (Kp.step HC.out hb); clear hb p0 p1 p2 p3 p4 p5 p6 p7 p8 p9; obtain ⟨p0, p1⟩ := (HC.out.blk HQ1.out).box2; obtain ⟨p2, p3⟩ := (HC.out.blk HQ2.out).box2; obtain ⟨p4, p5⟩ := (HC.out.blk HQ3.out).box2; obtain ⟨p6, p7⟩ := (HC.out.blk HQ7.out).box2; obtain ⟨p8, p9⟩ := (HC.out.blk HQ8.out).box2)
          | (go_at_call 17; (with_reducible refine (Ham.out _).mono ?_); rintro e w2 ⟨rfl, hb⟩; have HC := Lib.hid (Kp.step HC.out hb); clear hb p0 p1 p2 p3 p4 p5 p6 p7 p8 p9; obtain ⟨p0, p1⟩ := (HC.out.blk HQ1.out).box2; obtain ⟨p2, p3⟩ := (HC.out.blk HQ2.out).box2; obtain ⟨p4, p5⟩ := (HC.out.blk HQ3.out).box2; obtain ⟨p6, p7⟩ := (HC.out.blk HQ7.out).box2; obtain ⟨p8, p9⟩ := (HC.out.blk HQ8.out).box2)
          | (go_at_call 17; (with_reducible refine (Hbm.out _).mono ?_); rintro e w2 ⟨rfl, hb⟩; have HC := Lib.hid (Kp.step HC.out hb); clear hb p0 p1 p2 p3 p4 p5 p6 p7 p8 p9; obtain ⟨p0, p1⟩ := (HC.out.blk HQ1.out).box2; obtain ⟨p2, p3⟩ := (HC.out.blk HQ2.out).box2; obtain ⟨p4, p5⟩ := (HC.out.blk HQ3.out).box2; obtain ⟨p6, p7⟩ := (HC.out.blk HQ7.out).box2; obtain ⟨p8, p9⟩ := (HC.out.blk HQ8.out).box2))
        have HB1 := Lib.hid (HC.out.blk HQ1.out)
        have HB2 := Lib.hid (HC.out.blk HQ2.out)
        have HB3 := Lib.hid (HC.out.blk HQ3.out)
        have HB7 := Lib.hid (HC.out.blk HQ7.out)
        have HB8 := Lib.hid (HC.out.blk HQ8.out)
        have HCC2 := Lib.hid (HCC.out.trans (Below.mono HC.out HCC.out.size))
        clear p0 p1 p2 p3 p4 p5 p6 p7 p8 p9 HQ1 HQ2 HQ3 HQ7 HQ8 HC HCC
        refine wp_region_kp (by kernel_rfl) (by kernel_rfl) ?_
        repeat (first
          | go_big_quiet_skip
          | (go_big_quiet_want
             go_big_quiet_op
             first
               | go_big_quiet_on
               | (apply Exists.intro
                  refine ⟨fun w1 hC => ?_, ?_⟩
                  · first
                      | (go_at_call 17; with_reducible exact hC.call (Hxa.out _))
                      | (go_at_call 17; with_reducible exact hC.call (Hxb.out _))
                      | (go_at_call 17; with_reducible exact hC.call (Hxj.out _))
                      | (go_at_call 17; with_reducible exact hC.call (Hax.out _))
                      | (go_at_call 17; with_reducible exact hC.call (Hbx.out _))
                      | (go_at_call 17; with_reducible exact hC.call (Hmx.out _))
                      | (obtain ⟨p0, p1⟩ := (hC.blk HB1.out).box2; obtain ⟨p2, p3⟩ := (hC.blk HB2.out).box2; obtain ⟨p4, p5⟩ := (hC.blk HB3.out).box2; obtain ⟨p6, p7⟩ := (hC.blk HB7.out).box2; obtain ⟨p8, p9⟩ := (hC.blk HB8.out).box2; go_simp; exact rfl)
                      | (go_simp; exact ⟨rfl, rfl⟩)
                  go_big_quiet_on)))
        refine wpQuiet_nil ?_
        intro W' hC
        replace HB1 := Lib.hid (hC.blk HB1.out)
        replace HB2 := Lib.hid (hC.blk HB2.out)
        replace HB3 := Lib.hid (hC.blk HB3.out)
        replace HB7 := Lib.hid (hC.blk HB7.out)
        replace HB8 := Lib.hid (hC.blk HB8.out)
        have HCC3 := Lib.hid (HCC2.out.trans (Below.mono hC HCC2.out.size))
        clear hC HCC2
        go_wp2_with fail
        refine wp_region_kp (by kernel_rfl) (by kernel_rfl) ?_
        repeat (first
          | go_big_quiet_skip
          | (go_big_quiet_want
             go_big_quiet_op
             first
               | go_big_quiet_on
               | (apply Exists.intro
                  refine ⟨fun w1 hC => ?_, ?_⟩
                  · first
                      | (go_at_call 21; with_reducible exact hC.call (Jba.out _))
                      | (go_at_call 21; with_reducible exact hC.call (Jam.out _))
                      | (go_at_call 21; with_reducible exact hC.call (Jab.out _))
                      | (go_at_call 21; with_reducible exact hC.call (Jjx.out _))
                      | (go_at_call 21; with_reducible exact hC.call (Jbx.out _))
                      | (go_at_call 21; with_reducible exact hC.call (Jay.out _))
                      | (go_at_call 22; with_reducible exact hC.call (Mba.out _))
                      | (go_at_call 22; with_reducible exact hC.call (Maj.out _))
                      | (go_at_call 16; with_reducible exact hC.call (HA.out _))
                      | (obtain ⟨p0, p1⟩ := (hC.blk HB1.out).box2; obtain ⟨p2, p3⟩ := (hC.blk HB2.out).box2; obtain ⟨p4, p5⟩ := (hC.blk HB3.out).box2; obtain ⟨p6, p7⟩ := (hC.blk HB7.out).box2; obtain ⟨p8, p9⟩ := (hC.blk HB8.out).box2; go_simp; exact rfl)
                      | (go_simp; exact ⟨rfl, rfl⟩)
                  go_big_quiet_on)))
        refine wpQuiet_nil ?_
        intro W' hC
        go_wp2_with fail
        go_ret
        exact ⟨by first | rfl | simp, HCC3.out.trans (Below.mono hC HCC3.out.size)⟩
    · obtain ⟨rfl, rfl⟩ := hd3 ⟨he1, he2⟩

      subst he1
      subst he2
      clear hd3
      generalize X2 = Z at *
      generalize Y2 = Z2 at *
      cases Z2 <;> cases Z
      all_goals
        simp only [Bool.true_and, Bool.false_and] at Hxj Hmx
        have HC := Lib.hid hK0
        clear hK0
        obtain ⟨p0, p1⟩ := (HC.out.blk HQ1.out).box2; obtain ⟨p2, p3⟩ := (HC.out.blk HQ2.out).box2; obtain ⟨p4, p5⟩ := (HC.out.blk HQ3.out).box2; obtain ⟨p6, p7⟩ := (HC.out.blk HQ7.out).box2; obtain ⟨p8, p9⟩ := (HC.out.blk HQ8.out).box2
        go_wp2_with (first
          | (go_at_call 17; (with_reducible refine (Haa.out _).mono ?_); rintro e w2 ⟨rfl, hb⟩; have HC := Lib.hid (Kp.step HC.out hb); clear hb p0 p1 p2 p3 p4 p5 p6 p7 p8 p9; obtain ⟨p0, p1⟩ := (HC.out.blk HQ1.out).box2; obtain ⟨p2, p3⟩ := (HC.out.blk HQ2.out).box2; obtain ⟨p4, p5⟩ := (HC.out.blk HQ3.out).box2; obtain ⟨p6, p7⟩ := (HC.out.blk HQ7.out).box2; obtain ⟨p8, p9⟩ := (HC.out.blk HQ8.out).box2)
          | (go_at_call 17; (with_reducible refine (Hab.out _).mono ?_); rintro e w2 ⟨rfl, hb⟩; have HC := Lib.hid (Kp.step HC.out hb); clear hb p0 p1 p2 p3 p4 p5 p6 p7 p8 p9; obtain ⟨p0, p1⟩ := (HC.out.blk HQ1.out).box2; obtain ⟨p2, p3⟩ := (HC.out.blk HQ2.out).box2; obtain ⟨p4, p5⟩ := (HC.out.blk HQ3.out).box2; obtain ⟨p6, p7⟩ := (HC.out.blk HQ7.out).box2; obtain ⟨p8, p9⟩ := (HC.out.blk HQ8.out).box2)
          | (go_at_call 17; (with_reducible refine (Hbx.out _).mono ?_); rintro e w2 ⟨rfl, hb⟩; have HC := Lib.hid (Kp.step HC.out hb); clear hb p0 p1 p2 p3 p4 p5 p6 p7 p8 p9; obtain ⟨p0, p1⟩ := (HC.out.blk HQ1.out).box2; obtain ⟨p2, p3⟩ := (HC.out.blk HQ2.out).box2; obtain ⟨p4, p5⟩ := (HC.out.blk HQ3.out).box2; obtain ⟨p6, p7⟩ := (HC.out.blk HQ7.out).box2; obtain ⟨p8, p9⟩ := (HC.out.blk HQ8.out).box2)
          | (go_at_call 17; (with_reducible refine (Hax.out _).mono ?_); rintro e w2 ⟨rfl, hb⟩; have HC := Lib.hid (Kp.step HC.out hb); clear hb p0 p1 p2 p3 p4 p5 p6 p7 p8 p9; obtain ⟨p0, p1⟩ := (HC.out.blk HQ1.out).box2; obtain ⟨p2, p3⟩ := (HC.out.blk HQ2.out).box2; obtain ⟨p4, p5⟩ := (HC.out.blk HQ3.out).box2; obtain ⟨p6, p7⟩ := (HC.out.blk HQ7.out).box2; obtain ⟨p8, p9⟩ := (HC.out.blk HQ8.out).box2)
          | (go_at_call 17; (with_reducible refine (Hba.out _).mono ?_); rintro e w2 ⟨rfl, hb⟩; have HC := Lib.hid (Kp.step HC.out hb); clear hb p0 p1 p2 p3 p4 p5 p6 p7 p8 p9; obtain ⟨p0, p1⟩ := (HC.out.blk HQ1.out).box2; obtain ⟨p2, p3⟩ := (HC.out.blk HQ2.out).box2; obtain ⟨p4, p5⟩ := (HC.out.blk HQ3.out).box2; obtain ⟨p6, p7⟩ := (HC.out.blk HQ7.out).box2; obtain ⟨p8, p9⟩ := (HC.out.blk HQ8.out).box2)
          | (go_at_call 17; (with_reducible refine (Hja.out _).mono ?_); rintro e w2 ⟨rfl, hb⟩; have HC := Lib.hid (Kp.step HC.out hb); clear hb p0 p1 p2 p3 p4 p5 p6 p7 p8 p9; obtain ⟨p0, p1⟩ := (HC.out.blk HQ1.out).box2; obtain ⟨p2, p3⟩ := (HC.out.blk HQ2.out).box2; obtain ⟨p4, p5⟩ := (HC.out.blk HQ3.out).box2; obtain ⟨p6, p7⟩ := (HC.out.blk HQ7.out).box2; obtain ⟨p8, p9⟩ := (HC.out.blk HQ8.out).box2)
          | (go_at_call 17; (with_reducible refine (Hjb.out _).mono ?_); rintro e w2 ⟨rfl, hb⟩; have HC := Lib.hid (Kp.step HC.out hb); clear hb p0 p1 p2 p3 p4 p5 p6 p7 p8 p9; obtain ⟨p0, p1⟩ := (HC.out.blk HQ1.out).box2; obtain ⟨p2, p3⟩ := (HC.out.blk HQ2.out).box2; obtain ⟨p4, p5⟩ := (HC.out.blk HQ3.out).box2; obtain ⟨p6, p7⟩ := (HC.out.blk HQ7.out).box2; obtain ⟨p8, p9⟩ := (HC.out.blk HQ8.out).box2)
          | (go_at_call 17; (with_reducible refine (Ham.out _).mono ?_); rintro e w2 ⟨rfl, hb⟩; have HC := Lib.hid (Kp.step HC.out hb); clear hb p0 p1 p2 p3 p4 p5 p6 p7 p8 p9; obtain ⟨p0, p1⟩ := (HC.out.blk HQ1.out).box2; obtain ⟨p2, p3⟩ := (HC.out.blk HQ2.out).box2; obtain ⟨p4, p5⟩ := (HC.out.blk HQ3.out).box2; obtain ⟨p6, p7⟩ := (HC.out.blk HQ7.out).box2; obtain ⟨p8, p9⟩ := (HC.out.blk HQ8.out).box2)
          | (go_at_call 17; (with_reducible refine (Hbm.out _).mono ?_); rintro e w2 ⟨rfl, hb⟩; have HC := Lib.hid (Kp.step HC.out hb); clear hb p0 p1 p2 p3 p4 p5 p6 p7 p8 p9; obtain ⟨p0, p1⟩ := (HC.out.blk HQ1.out).box2; obtain ⟨p2, p3⟩ := (HC.out.blk HQ2.out).box2; obtain ⟨p4, p5⟩ := (HC.out.blk HQ3.out).box2; obtain ⟨p6, p7⟩ := (HC.out.blk HQ7.out).box2; obtain ⟨p8, p9⟩ := (HC.out.blk HQ8.out).box2))
        have HB1 := Lib.hid (HC.out.blk HQ1.out)
        have HB2 := Lib.hid (HC.out.blk HQ2.out)
        have HB3 := Lib.hid (HC.out.blk HQ3.out)
        have HB7 := Lib.hid (HC.out.blk HQ7.out)
        have HB8 := Lib.hid (HC.out.blk HQ8.out)
        have HCC2 := Lib.hid (HCC.out.trans (Below.mono HC.out HCC.out.size))
        clear p0 p1 p2 p3 p4 p5 p6 p7 p8 p9 HQ1 HQ2 HQ3 HQ7 HQ8 HC HCC
        refine wp_region_kp (by kernel_rfl) (by kernel_rfl) ?_
        repeat (first
          | go_big_quiet_skip
          | (go_big_quiet_want
             go_big_quiet_op
             first
               | go_big_quiet_on
               | (apply Exists.intro
                  refine ⟨fun w1 hC => ?_, ?_⟩
                  · first
                      | (go_at_call 17; with_reducible exact hC.call (Hxa.out _))
                      | (go_at_call 17; with_reducible exact hC.call (Hxb.out _))
                      | (go_at_call 17; with_reducible exact hC.call (Hxj.out _))
                      | (go_at_call 17; with_reducible exact hC.call (Hax.out _))
                      | (go_at_call 17; with_reducible exact hC.call (Hbx.out _))
                      | (go_at_call 17; with_reducible exact hC.call (Hmx.out _))
                      | (obtain ⟨p0, p1⟩ := (hC.blk HB1.out).box2; obtain ⟨p2, p3⟩ := (hC.blk HB2.out).box2; obtain ⟨p4, p5⟩ := (hC.blk HB3.out).box2; obtain ⟨p6, p7⟩ := (hC.blk HB7.out).box2; obtain ⟨p8, p9⟩ := (hC.blk HB8.out).box2; go_simp; exact rfl)
                      | (go_simp; exact ⟨rfl, rfl⟩)
                  go_big_quiet_on)))
        refine wpQuiet_nil ?_
        intro W' hC
        replace HB1 := Lib.hid (hC.blk HB1.out)
        replace HB2 := Lib.hid (hC.blk HB2.out)
        replace HB3 := Lib.hid (hC.blk HB3.out)
        replace HB7 := Lib.hid (hC.blk HB7.out)
        replace HB8 := Lib.hid (hC.blk HB8.out)
        have HCC3 := Lib.hid (HCC2.out.trans (Below.mono hC HCC2.out.size))
        clear hC HCC2
        go_wp2_with fail
        refine wp_region_kp (by kernel_rfl) (by kernel_rfl) ?_
        repeat (first
          | go_big_quiet_skip
          | (go_big_quiet_want
             go_big_quiet_op
             first
               | go_big_quiet_on
               | (apply Exists.intro
                  refine ⟨fun w1 hC => ?_, ?_⟩
                  · first
                      | (go_at_call 21; with_reducible exact hC.call (Jba.out _))
                      | (go_at_call 21; with_reducible exact hC.call (Jam.out _))
                      | (go_at_call 21; with_reducible exact hC.call (Jab.out _))
                      | (go_at_call 21; with_reducible exact hC.call (Jjx.out _))
                      | (go_at_call 21; with_reducible exact hC.call (Jbx.out _))
                      | (go_at_call 21; with_reducible exact hC.call (Jay.out _))
                      | (go_at_call 22; with_reducible exact hC.call (Mba.out _))
                      | (go_at_call 22; with_reducible exact hC.call (Maj.out _))
                      | (go_at_call 16; with_reducible exact hC.call (HA.out _))
                      | (obtain ⟨p0, p1⟩ := (hC.blk HB1.out).box2; obtain ⟨p2, p3⟩ := (hC.blk HB2.out).box2; obtain ⟨p4, p5⟩ := (hC.blk HB3.out).box2; obtain ⟨p6, p7⟩ := (hC.blk HB7.out).box2; obtain ⟨p8, p9⟩ := (hC.blk HB8.out).box2; go_simp; exact rfl)
                      | (go_simp; exact ⟨rfl, rfl⟩)
                  go_big_quiet_on)))
        refine wpQuiet_nil ?_
        intro W' hC
        go_wp2_with fail
        go_ret
        exact ⟨by first | rfl | simp, HCC3.out.trans (Below.mono hC HCC3.out.size)⟩
    · clear hd3
      cases Y1
      all_goals
        simp only [Bool.true_and, Bool.false_and] at Hxj Hmx
        have HC := Lib.hid hK0
        clear hK0
        obtain ⟨p0, p1⟩ := (HC.out.blk HQ1.out).box2; obtain ⟨p2, p3⟩ := (HC.out.blk HQ2.out).box2; obtain ⟨p4, p5⟩ := (HC.out.blk HQ3.out).box2; obtain ⟨p6, p7⟩ := (HC.out.blk HQ7.out).box2; obtain ⟨p8, p9⟩ := (HC.out.blk HQ8.out).box2
        go_wp2_with (first
          | (go_at_call 17; (with_reducible refine (Haa.out _).mono ?_); rintro e w2 ⟨rfl, hb⟩; have HC := Lib.hid (Kp.step HC.out hb); clear hb p0 p1 p2 p3 p4 p5 p6 p7 p8 p9; obtain ⟨p0, p1⟩ := (HC.out.blk HQ1.out).box2; obtain ⟨p2, p3⟩ := (HC.out.blk HQ2.out).box2; obtain ⟨p4, p5⟩ := (HC.out.blk HQ3.out).box2; obtain ⟨p6, p7⟩ := (HC.out.blk HQ7.out).box2; obtain ⟨p8, p9⟩ := (HC.out.blk HQ8.out).box2)
          | (go_at_call 17; (with_reducible refine (Hab.out _).mono ?_); rintro e w2 ⟨rfl, hb⟩; have HC := Lib.hid (Kp.step HC.out hb); clear hb p0 p1 p2 p3 p4 p5 p6 p7 p8 p9; obtain ⟨p0, p1⟩ := (HC.out.blk HQ1.out).box2; obtain ⟨p2, p3⟩ := (HC.out.blk HQ2.out).box2; obtain ⟨p4, p5⟩ := (HC.out.blk HQ3.out).box2; obtain ⟨p6, p7⟩ := (HC.out.blk HQ7.out).box2; obtain ⟨p8, p9⟩ := (HC.out.blk HQ8.out).box2)
          | (go_at_call 17; (with_reducible refine (Hbx.out _).mono ?_); rintro e w2 ⟨rfl, hb⟩; have HC := Lib.hid (Kp.step HC.out hb); clear hb p0 p1 p2 p3 p4 p5 p6 p7 p8 p9; obtain ⟨p0, p1⟩ := (HC.out.blk HQ1.out).box2; obtain ⟨p2, p3⟩ := (HC.out.blk HQ2.out).box2; obtain ⟨p4, p5⟩ := (HC.out.blk HQ3.out).box2; obtain ⟨p6, p7⟩ := (HC.out.blk HQ7.out).box2; obtain ⟨p8, p9⟩ := (HC.out.blk HQ8.out).box2)
          | (go_at_call 17; (with_reducible refine (Hax.out _).mono ?_); rintro e w2 ⟨rfl, hb⟩; have HC := Lib.hid (Kp.step HC.out hb); clear hb p0 p1 p2 p3 p4 p5 p6 p7 p8 p9; obtain ⟨p0, p1⟩ := (HC.out.blk HQ1.out).box2; obtain ⟨p2, p3⟩ := (HC.out.blk HQ2.out).box2; obtain ⟨p4, p5⟩ := (HC.out.blk HQ3.out).box2; obtain ⟨p6, p7⟩ := (HC.out.blk HQ7.out).box2; obtain ⟨p8, p9⟩ := (HC.out.blk HQ8.out).box2)
          | (go_at_call 17; (with_reducible refine (Hba.out _).mono ?_); rintro e w2 ⟨rfl, hb⟩; have HC := Lib.hid (Kp.step HC.out hb); clear hb p0 p1 p2 p3 p4 p5 p6 p7 p8 p9; obtain ⟨p0, p1⟩ := (HC.out.blk HQ1.out).box2; obtain ⟨p2, p3⟩ := (HC.out.blk HQ2.out).box2; obtain ⟨p4, p5⟩ := (HC.out.blk HQ3.out).box2; obtain ⟨p6, p7⟩ := (HC.out.blk HQ7.out).box2; obtain ⟨p8, p9⟩ := (HC.out.blk HQ8.out).box2)
          | (go_at_call 17; (with_reducible refine (Hja.out _).mono ?_); rintro e w2 ⟨rfl, hb⟩; have HC := Lib.hid (Kp.step HC.out hb); clear hb p0 p1 p2 p3 p4 p5 p6 p7 p8 p9; obtain ⟨p0, p1⟩ := (HC.out.blk HQ1.out).box2; obtain ⟨p2, p3⟩ := (HC.out.blk HQ2.out).box2; obtain ⟨p4, p5⟩ := (HC.out.blk HQ3.out).box2; obtain ⟨p6, p7⟩ := (HC.out.blk HQ7.out).box2; obtain ⟨p8, p9⟩ := (HC.out.blk HQ8.out).box2)
          | (go_at_call 17; (with_reducible refine (Hjb.out _).mono ?_); rintro e w2 ⟨rfl, hb⟩; have HC := Lib.hid (Kp.step HC.out hb); clear hb p0 p1 p2 p3 p4 p5 p6 p7 p8 p9; obtain ⟨p0, p1⟩ := (HC.out.blk HQ1.out).box2; obtain ⟨p2, p3⟩ := (HC.out.blk HQ2.out).box2; obtain ⟨p4, p5⟩ := (HC.out.blk HQ3.out).box2; obtain ⟨p6, p7⟩ := (HC.out.blk HQ7.out).box2; obtain ⟨p8, p9⟩ := (HC.out.blk HQ8.out).box2)
          | (go_at_call 17; (with_reducible refine (Ham.out _).mono ?_); rintro e w2 ⟨rfl, hb⟩; have HC := Lib.hid (Kp.step HC.out hb); clear hb p0 p1 p2 p3 p4 p5 p6 p7 p8 p9; obtain ⟨p0, p1⟩ := (HC.out.blk HQ1.out).box2; obtain ⟨p2, p3⟩ := (HC.out.blk HQ2.out).box2; obtain ⟨p4, p5⟩ := (HC.out.blk HQ3.out).box2; obtain ⟨p6, p7⟩ := (HC.out.blk HQ7.out).box2; obtain ⟨p8, p9⟩ := (HC.out.blk HQ8.out).box2)
          | (go_at_call 17; (with_reducible refine (Hbm.out _).mono ?_); rintro e w2 ⟨rfl, hb⟩; have HC := Lib.hid (Kp.step HC.out hb); clear hb p0 p1 p2 p3 p4 p5 p6 p7 p8 p9; obtain ⟨p0, p1⟩ := (HC.out.blk HQ1.out).box2; obtain ⟨p2, p3⟩ := (HC.out.blk HQ2.out).box2; obtain ⟨p4, p5⟩ := (HC.out.blk HQ3.out).box2; obtain ⟨p6, p7⟩ := (HC.out.blk HQ7.out).box2; obtain ⟨p8, p9⟩ := (HC.out.blk HQ8.out).box2))
        have HB1 := Lib.hid (HC.out.blk HQ1.out)
        have HB2 := Lib.hid (HC.out.blk HQ2.out)
        have HB3 := Lib.hid (HC.out.blk HQ3.out)
        have HB7 := Lib.hid (HC.out.blk HQ7.out)
        have HB8 := Lib.hid (HC.out.blk HQ8.out)
        have HCC2 := Lib.hid (HCC.out.trans (Below.mono HC.out HCC.out.size))
        clear p0 p1 p2 p3 p4 p5 p6 p7 p8 p9 HQ1 HQ2 HQ3 HQ7 HQ8 HC HCC
        refine wp_region_kp (by kernel_rfl) (by kernel_rfl) ?_
        repeat (first
          | go_big_quiet_skip
          | (go_big_quiet_want
             go_big_quiet_op
             first
               | go_big_quiet_on
               | (apply Exists.intro
                  refine ⟨fun w1 hC => ?_, ?_⟩
                  · first
                      | (go_at_call 17; with_reducible exact hC.call (Hxa.out _))
                      | (go_at_call 17; with_reducible exact hC.call (Hxb.out _))
                      | (go_at_call 17; with_reducible exact hC.call (Hxj.out _))
                      | (go_at_call 17; with_reducible exact hC.call (Hax.out _))
                      | (go_at_call 17; with_reducible exact hC.call (Hbx.out _))
                      | (go_at_call 17; with_reducible exact hC.call (Hmx.out _))
                      | (obtain ⟨p0, p1⟩ := (hC.blk HB1.out).box2; obtain ⟨p2, p3⟩ := (hC.blk HB2.out).box2; obtain ⟨p4, p5⟩ := (hC.blk HB3.out).box2; obtain ⟨p6, p7⟩ := (hC.blk HB7.out).box2; obtain ⟨p8, p9⟩ := (hC.blk HB8.out).box2; go_simp; exact rfl)
                      | (go_simp; exact ⟨rfl, rfl⟩)
                  go_big_quiet_on)))
        refine wpQuiet_nil ?_
        intro W' hC
        replace HB1 := Lib.hid (hC.blk HB1.out)
        replace HB2 := Lib.hid (hC.blk HB2.out)
        replace HB3 := Lib.hid (hC.blk HB3.out)
        replace HB7 := Lib.hid (hC.blk HB7.out)
        replace HB8 := Lib.hid (hC.blk HB8.out)
        have HCC3 := Lib.hid (HCC2.out.trans (Below.mono hC HCC2.out.size))
        clear hC HCC2
        go_wp2_with fail
        refine wp_region_kp (by kernel_rfl) (by kernel_rfl) ?_
        repeat (first
          | go_big_quiet_skip
          | (go_big_quiet_want
             go_big_quiet_op
             first
               | go_big_quiet_on
               | (apply Exists.intro
                  refine ⟨fun w1 hC => ?_, ?_⟩
                  · first
                      | (go_at_call 21; with_reducible exact hC.call (Jba.out _))
                      | (go_at_call 21; with_reducible exact hC.call (Jam.out _))
                      | (go_at_call 21; with_reducible exact hC.call (Jab.out _))
                      | (go_at_call 21; with_reducible exact hC.call (Jjx.out _))
                      | (go_at_call 21; with_reducible exact hC.call (Jbx.out _))
                      | (go_at_call 21; with_reducible exact hC.call (Jay.out _))
                      | (go_at_call 22; with_reducible exact hC.call (Mba.out _))
                      | (go_at_call 22; with_reducible exact hC.call (Maj.out _))
                      | (go_at_call 16; with_reducible exact hC.call (HA.out _))
                      | (obtain ⟨p0, p1⟩ := (hC.blk HB1.out).box2; obtain ⟨p2, p3⟩ := (hC.blk HB2.out).box2; obtain ⟨p4, p5⟩ := (hC.blk HB3.out).box2; obtain ⟨p6, p7⟩ := (hC.blk HB7.out).box2; obtain ⟨p8, p9⟩ := (hC.blk HB8.out).box2; go_simp; exact rfl)
                      | (go_simp; exact ⟨rfl, rfl⟩)
                  go_big_quiet_on)))
        refine wpQuiet_nil ?_
        intro W' hC
        go_wp2_with fail
        go_ret
        exact ⟨by first | rfl | simp, HCC3.out.trans (Below.mono hC HCC3.out.size)⟩
end Go.Proofs.Ythjebccidcichaa
