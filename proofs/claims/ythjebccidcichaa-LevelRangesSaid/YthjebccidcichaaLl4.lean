/- The law LevelRanges, walked. -/
import Derived.Test.YthjebccidcichaaLl3
namespace Go.Proofs.Ythjebccidcichaa
open Go.RowKit
theorem and4 (a b c d : Bool) : ((a && b) && (c && d)) = ((a && c) && (b && d)) := by cases a <;> cases b <;> cases c <;> cases d <;> rfl
set_option maxRecDepth 100000 in
set_option maxHeartbeats 16000000 in
theorem lranges_c (s : Int) (c : Nat) (s2 : Int) (c2 : Nat) (t : Int) (d : Nat) (t2 : Int) (d2 : Nat) (r : Int) (q : Nat) (r2 : Int) (q2 : Nat) (w : World) (h1 : c < U64) (h2 : c2 < U64) (h3 : d < U64) (h4 : d2 < U64) (h5 : q < U64) (h6 : q2 < U64) :
    Calls Try.prog 6 #[.agg #[.int .i64 s, .int .u64 c, .int .i64 s2, .int .u64 c2], .agg #[.int .i64 t, .int .u64 d, .int .i64 t2, .int .u64 d2], .agg #[.int .i64 r, .int .u64 q, .int .i64 r2, .int .u64 q2]] w fun e w' => e = .returned (.bool true) ∧ Below w.heap.size w w' := by
  obtain ⟨hB1, hB2, hW, hz⟩ := two_box w 26 26 #[.int .i64 s, .int .u64 c, .int .i64 s2, .int .u64 c2] #[.int .i64 t, .int .u64 d, .int .i64 t2, .int .u64 d2]
  have hB3 := Blk.new ((w.alloc (.cells #[.int .i64 s, .int .u64 c, .int .i64 s2, .int .u64 c2] 26)).alloc (.cells #[.int .i64 t, .int .u64 d, .int .i64 t2, .int .u64 d2] 26)) 26 #[.int .i64 r, .int .u64 q, .int .i64 r2, .int .u64 q2]
  rw [hz] at hB3
  replace hB1 := hB1.alloc (.cells #[.int .i64 r, .int .u64 q, .int .i64 r2, .int .u64 q2] 26)
  replace hB2 := hB2.alloc (.cells #[.int .i64 r, .int .u64 q, .int .i64 r2, .int .u64 q2] 26)
  replace hW := hW.alloc (by omega) (.cells #[.int .i64 r, .int .u64 q, .int .i64 r2, .int .u64 q2] 26)
  have hm := and_lt (b := d) h1
  have hj := or_lt h2 h4
  obtain ⟨K0, hK0⟩ : ∃ X, (domL t d s c && domL s2 c2 t2 d2) = X := ⟨_, rfl⟩
  obtain ⟨K1, hK1⟩ : ∃ X, (domL s c r q && domL r2 q2 s2 c2) = X := ⟨_, rfl⟩
  obtain ⟨K2, hK2⟩ : ∃ X, (domL t d r q && domL r2 q2 t2 d2) = X := ⟨_, rfl⟩
  have Hs : ∀ W, Calls Try.prog 23 #[.agg #[.int .i64 s, .int .u64 c, .int .i64 s2, .int .u64 c2], .agg #[.int .i64 t, .int .u64 d, .int .i64 t2, .int .u64 d2]] W fun e w' => e = .returned (.agg #[.int .i64 (min s t), .int .u64 ((c &&& d : Nat) : Int), .int .i64 (max s2 t2), .int .u64 ((c2 ||| d2 : Nat) : Int)]) ∧ Below W.heap.size W w' := fun W => span_c s c s2 c2 t d t2 d2 W h1 h2 h3 h4
  have Hrs : ∀ W, Calls Try.prog 24 #[.agg #[.int .i64 s, .int .u64 c, .int .i64 s2, .int .u64 c2], .agg #[.int .i64 t, .int .u64 d, .int .i64 t2, .int .u64 d2]] W fun e w' => e = .returned (.agg #[.int .i64 (min s t), .int .u64 ((c &&& d : Nat) : Int), .int .i64 (max s2 t2), .int .u64 ((c2 ||| d2 : Nat) : Int)]) ∧ Below W.heap.size W w' := fun W => rspan_c s c s2 c2 t d t2 d2 W h1 h2 h3 h4
  have Hc : ∀ W, Calls Try.prog 25 #[.agg #[.int .i64 s, .int .u64 c, .int .i64 s2, .int .u64 c2], .agg #[.int .i64 t, .int .u64 d, .int .i64 t2, .int .u64 d2]] W fun e w' => e = .returned (.bool K0) ∧ Below W.heap.size W w' := fun W => hK0 ▸ contains_c s c s2 c2 t d t2 d2 W h1 h2 h3 h4
  have Hrc : ∀ W, Calls Try.prog 26 #[.agg #[.int .i64 s, .int .u64 c, .int .i64 s2, .int .u64 c2], .agg #[.int .i64 t, .int .u64 d, .int .i64 t2, .int .u64 d2]] W fun e w' => e = .returned (.bool K0) ∧ Below W.heap.size W w' := fun W => hK0 ▸ rcontains_c s c s2 c2 t d t2 d2 W h1 h2 h3 h4
  have Hj : ∀ W, Calls Try.prog 21 #[.agg #[.int .i64 s, .int .u64 c], .agg #[.int .i64 t2, .int .u64 d2]] W fun e w' => e = .returned (.agg #[.int .i64 (max s t2), .int .u64 ((c ||| d2 : Nat) : Int)]) ∧ Below W.heap.size W w' := fun W => join_c s c t2 d2 W h1 h4
  have Hrj : ∀ W, Calls Try.prog 27 #[.agg #[.int .i64 s, .int .u64 c], .agg #[.int .i64 t2, .int .u64 d2]] W fun e w' => e = .returned (.agg #[.int .i64 (max s t2), .int .u64 ((c ||| d2 : Nat) : Int)]) ∧ Below W.heap.size W w' := fun W => rjoin_c s c t2 d2 W h1 h4
  have Hm : ∀ W, Calls Try.prog 22 #[.agg #[.int .i64 s, .int .u64 c], .agg #[.int .i64 t2, .int .u64 d2]] W fun e w' => e = .returned (.agg #[.int .i64 (min s t2), .int .u64 ((c &&& d2 : Nat) : Int)]) ∧ Below W.heap.size W w' := fun W => meet_c s c t2 d2 W h1 h4
  have Hrm : ∀ W, Calls Try.prog 28 #[.agg #[.int .i64 s, .int .u64 c], .agg #[.int .i64 t2, .int .u64 d2]] W fun e w' => e = .returned (.agg #[.int .i64 (min s t2), .int .u64 ((c &&& d2 : Nat) : Int)]) ∧ Below W.heap.size W w' := fun W => rmeet_c s c t2 d2 W h1 h4
  have Hsa : ∀ W, Calls Try.prog 25 #[.agg #[.int .i64 (min s t), .int .u64 ((c &&& d : Nat) : Int), .int .i64 (max s2 t2), .int .u64 ((c2 ||| d2 : Nat) : Int)], .agg #[.int .i64 s, .int .u64 c, .int .i64 s2, .int .u64 c2]] W fun e w' => e = .returned (.bool true) ∧ Below W.heap.size W w' := fun W => by have := contains_c (min s t) (c &&& d) (max s2 t2) (c2 ||| d2) s c s2 c2 W hm hj h1 h2; rwa [((Bool.and_eq_true _ _).mp ((dom_meet h1 h3).symm.trans (domL_self (min s t) hm))).1, ((Bool.and_eq_true _ _).mp ((dom_join hj).symm.trans (domL_self (max s2 t2) hj))).1] at this
  have Hsb : ∀ W, Calls Try.prog 25 #[.agg #[.int .i64 (min s t), .int .u64 ((c &&& d : Nat) : Int), .int .i64 (max s2 t2), .int .u64 ((c2 ||| d2 : Nat) : Int)], .agg #[.int .i64 t, .int .u64 d, .int .i64 t2, .int .u64 d2]] W fun e w' => e = .returned (.bool true) ∧ Below W.heap.size W w' := fun W => by have := contains_c (min s t) (c &&& d) (max s2 t2) (c2 ||| d2) t d t2 d2 W hm hj h3 h4; rwa [((Bool.and_eq_true _ _).mp ((dom_meet h1 h3).symm.trans (domL_self (min s t) hm))).2, ((Bool.and_eq_true _ _).mp ((dom_join hj).symm.trans (domL_self (max s2 t2) hj))).2] at this
  have Hxa : ∀ W, Calls Try.prog 25 #[.agg #[.int .i64 r, .int .u64 q, .int .i64 r2, .int .u64 q2], .agg #[.int .i64 s, .int .u64 c, .int .i64 s2, .int .u64 c2]] W fun e w' => e = .returned (.bool K1) ∧ Below W.heap.size W w' := fun W => hK1 ▸ contains_c r q r2 q2 s c s2 c2 W h5 h6 h1 h2
  have Hxb : ∀ W, Calls Try.prog 25 #[.agg #[.int .i64 r, .int .u64 q, .int .i64 r2, .int .u64 q2], .agg #[.int .i64 t, .int .u64 d, .int .i64 t2, .int .u64 d2]] W fun e w' => e = .returned (.bool K2) ∧ Below W.heap.size W w' := fun W => hK2 ▸ contains_c r q r2 q2 t d t2 d2 W h5 h6 h3 h4
  have Hxs : ∀ W, Calls Try.prog 25 #[.agg #[.int .i64 r, .int .u64 q, .int .i64 r2, .int .u64 q2], .agg #[.int .i64 (min s t), .int .u64 ((c &&& d : Nat) : Int), .int .i64 (max s2 t2), .int .u64 ((c2 ||| d2 : Nat) : Int)]] W fun e w' => e = .returned (.bool (K1 && K2)) ∧ Below W.heap.size W w' := fun W => by have := contains_c r q r2 q2 (min s t) (c &&& d) (max s2 t2) (c2 ||| d2) W h5 h6 hm hj; rw [dom_meet h1 h3, dom_join h6] at this; rw [← hK1, ← hK2]; rwa [and4] at this
  obtain ⟨mm, hmm⟩ : ∃ j, min s t = j := ⟨_, rfl⟩
  obtain ⟨mc, hmc⟩ : ∃ j, c &&& d = j := ⟨_, rfl⟩
  obtain ⟨jj, hjj⟩ : ∃ j, max s2 t2 = j := ⟨_, rfl⟩
  obtain ⟨jc, hjc⟩ : ∃ j, c2 ||| d2 = j := ⟨_, rfl⟩
  simp only [hmm, hmc, hjj, hjc] at Hs
  simp only [hmm, hmc, hjj, hjc] at Hrs
  simp only [hmm, hmc, hjj, hjc] at Hsa
  simp only [hmm, hmc, hjj, hjc] at Hsb
  simp only [hmm, hmc, hjj, hjc] at Hxs
  clear hK0 hK1 hK2 hmm hmc hjj hjc hm hj hz
  replace Hs := Lib.hid Hs
  replace Hrs := Lib.hid Hrs
  replace Hc := Lib.hid Hc
  replace Hrc := Lib.hid Hrc
  replace Hj := Lib.hid Hj
  replace Hrj := Lib.hid Hrj
  replace Hm := Lib.hid Hm
  replace Hrm := Lib.hid Hrm
  replace Hsa := Lib.hid Hsa
  replace Hsb := Lib.hid Hsb
  replace Hxa := Lib.hid Hxa
  replace Hxb := Lib.hid Hxb
  replace Hxs := Lib.hid Hxs
  have HA := Lib.hid awake_c
  go_enter Try.func6, Try.ntmps6
  go_wp2_with fail
  generalize ((w.alloc (.cells #[.int .i64 s, .int .u64 c, .int .i64 s2, .int .u64 c2] 26)).alloc (.cells #[.int .i64 t, .int .u64 d, .int .i64 t2, .int .u64 d2] 26)).alloc (.cells #[.int .i64 r, .int .u64 q, .int .i64 r2, .int .u64 q2] 26) = W at *
  refine (Hs.out _).mono ?_
  rintro e w2 ⟨rfl, hb⟩
  have HB1 := Lib.hid ((hB1.keep hb).alloc (.cells #[.int .i64 mm, .int .u64 (mc : Int), .int .i64 jj, .int .u64 (jc : Int)] 26))
  have HB2 := Lib.hid ((hB2.keep hb).alloc (.cells #[.int .i64 mm, .int .u64 (mc : Int), .int .i64 jj, .int .u64 (jc : Int)] 26))
  have HB3 := Lib.hid ((hB3.keep hb).alloc (.cells #[.int .i64 mm, .int .u64 (mc : Int), .int .i64 jj, .int .u64 (jc : Int)] 26))
  have HB4 := Lib.hid (Blk.new w2 26 #[.int .i64 mm, .int .u64 (mc : Int), .int .i64 jj, .int .u64 (jc : Int)])
  have HCC := Lib.hid ((Kp.step hW hb).alloc (.cells #[.int .i64 mm, .int .u64 (mc : Int), .int .i64 jj, .int .u64 (jc : Int)] 26))
  clear hB1 hB2 hB3 hW hb Hs
  go_wp2_with fail
  refine wp_region_kp (by kernel_rfl) (by kernel_rfl) ?_
  repeat (first
    | go_big_quiet_skip
    | (go_big_quiet_want
       go_big_quiet_op
       first
         | go_big_quiet_on
         | (apply Exists.intro
            refine ⟨fun w1 hC => ?_, ?_⟩
            · first
                | (go_at_call 24; with_reducible exact hC.call (Hrs.out _))
                | (go_at_call 25; with_reducible exact hC.call (Hc.out _))
                | (go_at_call 26; with_reducible exact hC.call (Hrc.out _))
                | (go_at_call 21; with_reducible exact hC.call (Hj.out _))
                | (go_at_call 27; with_reducible exact hC.call (Hrj.out _))
                | (go_at_call 22; with_reducible exact hC.call (Hm.out _))
                | (go_at_call 28; with_reducible exact hC.call (Hrm.out _))
                | (obtain ⟨p0, p1, p2, p3⟩ := (hC.blk HB1.out).box4; obtain ⟨p4, p5, p6, p7⟩ := (hC.blk HB2.out).box4; obtain ⟨p8, p9, p10, p11⟩ := (hC.blk HB3.out).box4; obtain ⟨p12, p13, p14, p15⟩ := (hC.blk HB4.out).box4; go_simp; exact rfl)
                | (go_simp; exact ⟨rfl, rfl⟩)
            go_big_quiet_on)))
  refine wpQuiet_nil ?_
  intro W' hC
  replace HCC := Lib.hid (HCC.out.trans (Below.mono hC HCC.out.size))
  have HB1 := Lib.hid (hC.blk HB1.out)
  have HB2 := Lib.hid (hC.blk HB2.out)
  have HB3 := Lib.hid (hC.blk HB3.out)
  have HB4 := Lib.hid (hC.blk HB4.out)
  have hK0 : Kp W' W' := Kp.rfl'
  clear hC Hrs Hc Hrc Hj Hrj Hm Hrm
  cases K1 <;> cases K2
  all_goals
    simp only [Bool.true_and, Bool.false_and] at Hxs
    have HC := Lib.hid hK0
    clear hK0
    obtain ⟨p0, p1, p2, p3⟩ := (HC.out.blk HB1.out).box4; obtain ⟨p4, p5, p6, p7⟩ := (HC.out.blk HB2.out).box4; obtain ⟨p8, p9, p10, p11⟩ := (HC.out.blk HB3.out).box4; obtain ⟨p12, p13, p14, p15⟩ := (HC.out.blk HB4.out).box4
    go_wp2_with (first
        | (go_at_call 25; (with_reducible refine (Hsa.out _).mono ?_); rintro e w3 ⟨rfl, hb⟩; have HC := Lib.hid (Kp.step HC.out hb); clear hb p0 p1 p2 p3 p4 p5 p6 p7 p8 p9 p10 p11 p12 p13 p14 p15; obtain ⟨p0, p1, p2, p3⟩ := (HC.out.blk HB1.out).box4; obtain ⟨p4, p5, p6, p7⟩ := (HC.out.blk HB2.out).box4; obtain ⟨p8, p9, p10, p11⟩ := (HC.out.blk HB3.out).box4; obtain ⟨p12, p13, p14, p15⟩ := (HC.out.blk HB4.out).box4)
        | (go_at_call 25; (with_reducible refine (Hsb.out _).mono ?_); rintro e w3 ⟨rfl, hb⟩; have HC := Lib.hid (Kp.step HC.out hb); clear hb p0 p1 p2 p3 p4 p5 p6 p7 p8 p9 p10 p11 p12 p13 p14 p15; obtain ⟨p0, p1, p2, p3⟩ := (HC.out.blk HB1.out).box4; obtain ⟨p4, p5, p6, p7⟩ := (HC.out.blk HB2.out).box4; obtain ⟨p8, p9, p10, p11⟩ := (HC.out.blk HB3.out).box4; obtain ⟨p12, p13, p14, p15⟩ := (HC.out.blk HB4.out).box4)
        | (go_at_call 25; (with_reducible refine (Hxa.out _).mono ?_); rintro e w3 ⟨rfl, hb⟩; have HC := Lib.hid (Kp.step HC.out hb); clear hb p0 p1 p2 p3 p4 p5 p6 p7 p8 p9 p10 p11 p12 p13 p14 p15; obtain ⟨p0, p1, p2, p3⟩ := (HC.out.blk HB1.out).box4; obtain ⟨p4, p5, p6, p7⟩ := (HC.out.blk HB2.out).box4; obtain ⟨p8, p9, p10, p11⟩ := (HC.out.blk HB3.out).box4; obtain ⟨p12, p13, p14, p15⟩ := (HC.out.blk HB4.out).box4)
        | (go_at_call 25; (with_reducible refine (Hxb.out _).mono ?_); rintro e w3 ⟨rfl, hb⟩; have HC := Lib.hid (Kp.step HC.out hb); clear hb p0 p1 p2 p3 p4 p5 p6 p7 p8 p9 p10 p11 p12 p13 p14 p15; obtain ⟨p0, p1, p2, p3⟩ := (HC.out.blk HB1.out).box4; obtain ⟨p4, p5, p6, p7⟩ := (HC.out.blk HB2.out).box4; obtain ⟨p8, p9, p10, p11⟩ := (HC.out.blk HB3.out).box4; obtain ⟨p12, p13, p14, p15⟩ := (HC.out.blk HB4.out).box4)
        | (go_at_call 25; (with_reducible refine (Hxs.out _).mono ?_); rintro e w3 ⟨rfl, hb⟩; have HC := Lib.hid (Kp.step HC.out hb); clear hb p0 p1 p2 p3 p4 p5 p6 p7 p8 p9 p10 p11 p12 p13 p14 p15; obtain ⟨p0, p1, p2, p3⟩ := (HC.out.blk HB1.out).box4; obtain ⟨p4, p5, p6, p7⟩ := (HC.out.blk HB2.out).box4; obtain ⟨p8, p9, p10, p11⟩ := (HC.out.blk HB3.out).box4; obtain ⟨p12, p13, p14, p15⟩ := (HC.out.blk HB4.out).box4)
        | (go_at_call 16; (with_reducible refine (HA.out _).mono ?_); rintro e w3 ⟨rfl, hb⟩; have HC := Lib.hid (Kp.step HC.out hb); clear hb p0 p1 p2 p3 p4 p5 p6 p7 p8 p9 p10 p11 p12 p13 p14 p15; obtain ⟨p0, p1, p2, p3⟩ := (HC.out.blk HB1.out).box4; obtain ⟨p4, p5, p6, p7⟩ := (HC.out.blk HB2.out).box4; obtain ⟨p8, p9, p10, p11⟩ := (HC.out.blk HB3.out).box4; obtain ⟨p12, p13, p14, p15⟩ := (HC.out.blk HB4.out).box4))
    go_ret
    exact ⟨rfl, HCC.out.trans (Below.mono HC.out HCC.out.size)⟩
end Go.Proofs.Ythjebccidcichaa
