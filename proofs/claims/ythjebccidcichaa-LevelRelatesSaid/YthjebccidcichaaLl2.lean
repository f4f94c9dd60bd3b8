/- The law LevelRelates, walked. -/
import Derived.Test.YthjebccidcichaaLl1
namespace Go.Proofs.Ythjebccidcichaa
open Go.RowKit
theorem sub_antisymm {c d : Nat} (hc : c < U64) (hd : d < U64) (h1 : subL c d = true) (h2 : subL d c = true) : c = d := by
  have g1 := (subL_iff hc).1 h1
  have g2 := (subL_iff hd).1 h2
  apply Nat.eq_of_testBit_eq
  intro i
  by_cases hi : i < 64
  · cases h : c.testBit i
    · cases h' : d.testBit i
      · rfl
      · rw [g1 i hi h'] at h; cases h
    · exact (g2 i hi h).symm
  · have e : ∀ x, x < U64 → x.testBit i = false := fun x hx => Nat.testBit_lt_two_pow (Nat.lt_of_lt_of_le hx (show 2 ^ 64 ≤ 2 ^ i from Nat.pow_le_pow_right (by decide) (by omega)))
    rw [e c hc, e d hd]
theorem dom_antisymm {s t : Int} {c d : Nat} (hc : c < U64) (hd : d < U64) (h1 : domL s c t d = true) (h2 : domL t d s c = true) : s = t ∧ c = d := by
  unfold domL at h1 h2
  rw [Bool.and_eq_true, decide_eq_true_eq] at h1 h2
  exact ⟨by omega, sub_antisymm hc hd h1.2 h2.2⟩
theorem rel_val {s t : Int} {c d : Nat} (hc : c < U64) (hd : d < U64) : relL s c t d = if domL s c t d = true then (if domL t d s c = true then 0 else 2) else (if domL t d s c = true then 3 else 4) := by
  unfold relL
  by_cases he : s = t ∧ c = d
  · rw [if_pos he]
    obtain ⟨rfl, rfl⟩ := he
    rw [if_pos (domL_self s hc), if_pos (domL_self s hc)]
  · rw [if_neg he]
    by_cases h1 : domL s c t d = true
    · rw [if_pos h1, if_pos h1, if_neg fun h2 => he (dom_antisymm hc hd h1 h2)]
    · rw [if_neg h1, if_neg h1]
set_option maxRecDepth 100000 in
set_option maxHeartbeats 16000000 in
theorem lrelates_c (s : Int) (c : Nat) (t : Int) (d : Nat) (w : World) (h1 : c < U64) (h3 : d < U64) :
    Calls Try.prog 4 #[.agg #[.int .i64 s, .int .u64 c], .agg #[.int .i64 t, .int .u64 d]] w fun e w' => e = .returned (.bool true) ∧ Below w.heap.size w w' := by
  obtain ⟨hB1, hB2, hW, hz⟩ := two_box w 24 24 #[.int .i64 s, .int .u64 c] #[.int .i64 t, .int .u64 d]
  have hD1 := fun W => dominates_c s c t d W h1 h3
  have hD2 := fun W => dominates_c t d s c W h3 h1
  have hE1 := fun W => rdominates_c s c t d W h1 h3
  have hE2 := fun W => rdominates_c t d s c W h3 h1
  have hR1 := fun W => relation_c s c t d W h1 h3
  have hR2 := fun W => rrelation_c s c t d W h1 h3
  rw [rel_val h1 h3] at hR1 hR2
  generalize domL s c t d = X at *
  generalize domL t d s c = Y at *
  have HD1 := Lib.hid hD1
  have HD2 := Lib.hid hD2
  have HE1 := Lib.hid hE1
  have HE2 := Lib.hid hE2
  have HR1 := Lib.hid hR1
  have HR2 := Lib.hid hR2
  have HA := Lib.hid awake_c
  clear hD1 hD2 hE1 hE2 hR1 hR2 hz
  have HX1 := Lib.hid hB1
  have HX2 := Lib.hid hB2
  have HW := Lib.hid hW
  cases X <;> cases Y
  all_goals
    simp only [if_true, Bool.false_eq_true, if_false] at HR1 HR2
    go_enter Try.func4, Try.ntmps4
    go_wp2_with fail
    generalize (w.alloc (.cells #[.int .i64 s, .int .u64 c] 24)).alloc (.cells #[.int .i64 t, .int .u64 d] 24) = W at *
    have HF1 := Lib.hid (fun W1 (_ : Kp W W1) => HD1.out W1)
    have HF2 := Lib.hid (fun W1 (_ : Kp W W1) => HD2.out W1)
    clear hB1 hB2 hW
    refine wp_region_kp (by kernel_rfl) (by kernel_rfl) ?_
    repeat (first
      | go_big_quiet_skip
      | (go_big_quiet_want
         go_big_quiet_op
         first
           | go_big_quiet_on
           | (apply Exists.intro
              refine ⟨fun w1 hC => ?_, ?_⟩
              · first
                  | (go_at_call 17; with_reducible exact hC.call (HF1.out _ hC))
                  | (go_at_call 17; with_reducible exact hC.call (HF2.out _ hC))
                  | (obtain ⟨p0, p1⟩ := (hC.blk HX1.out).box2; obtain ⟨q0, q1⟩ := (hC.blk HX2.out).box2; go_simp; exact rfl)
                  | (go_simp; exact ⟨rfl, rfl⟩)
              go_big_quiet_on)))
    refine wpQuiet_nil ?_
    intro W' hC
    obtain ⟨p0, p1⟩ := (hC.blk HX1.out).box2
    obtain ⟨q0, q1⟩ := (hC.blk HX2.out).box2
    have HC := Lib.hid hC
    clear hC HF1 HF2 HD1 HD2
    go_wp2_with (first
      | (go_at_call 18; (with_reducible refine (HR1.out _).mono ?_); rintro e w2 ⟨rfl, hb⟩; have HC := Lib.hid (Kp.step HC.out hb); clear hb p0 p1 q0 q1; obtain ⟨p0, p1⟩ := (HC.out.blk HX1.out).box2; obtain ⟨q0, q1⟩ := (HC.out.blk HX2.out).box2)
      | (go_at_call 19; (with_reducible refine (HE1.out _).mono ?_); rintro e w3 ⟨rfl, hb⟩; have HC := Lib.hid (Kp.step HC.out hb); clear hb p0 p1 q0 q1; obtain ⟨p0, p1⟩ := (HC.out.blk HX1.out).box2; obtain ⟨q0, q1⟩ := (HC.out.blk HX2.out).box2)
      | (go_at_call 19; (with_reducible refine (HE2.out _).mono ?_); rintro e w4 ⟨rfl, hb⟩; have HC := Lib.hid (Kp.step HC.out hb); clear hb p0 p1 q0 q1; obtain ⟨p0, p1⟩ := (HC.out.blk HX1.out).box2; obtain ⟨q0, q1⟩ := (HC.out.blk HX2.out).box2)
      | (go_at_call 20; (with_reducible refine (HR2.out _).mono ?_); rintro e w5 ⟨rfl, hb⟩; have HC := Lib.hid (Kp.step HC.out hb); clear hb p0 p1 q0 q1; obtain ⟨p0, p1⟩ := (HC.out.blk HX1.out).box2; obtain ⟨q0, q1⟩ := (HC.out.blk HX2.out).box2)
      | (go_at_call 16; (with_reducible refine (HA.out _).mono ?_); rintro e w6 ⟨rfl, hb⟩; have HC := Lib.hid (Kp.step HC.out hb); clear hb p0 p1 q0 q1; obtain ⟨p0, p1⟩ := (HC.out.blk HX1.out).box2; obtain ⟨q0, q1⟩ := (HC.out.blk HX2.out).box2))
    go_ret
    exact ⟨rfl, HW.out.trans (Below.mono HC.out HW.out.size)⟩
end Go.Proofs.Ythjebccidcichaa
