/- The laws ModeJudge, ModeWorst, ModeParts walked. -/
import Derived.Test.YtbcbhgclgakljaaMdl
namespace Go.Proofs.Ytbcbhgclgakljaa
open Go.RowKit Go.Maps
structure Rq where
  a : BitVec 32
  b : BitVec 32
  e : Bool
theorem wst_comm (a b : Vt) : wst b a = wst a b := by
  unfold wst
  rw [BitVec.or_comm, BitVec.or_comm b.ag, BitVec.or_comm b.ad, Bool.and_comm b.g a.g, Bool.or_comm b.pm a.pm]
theorem or_zero (x y : BitVec 32) : x ||| y = 0#32 ↔ x = 0#32 ∧ y = 0#32 := by
  constructor
  · intro h
    have hb : ∀ i, (x.getLsbD i || y.getLsbD i) = false := fun i => by
      have := congrArg (fun z : BitVec 32 => z.getLsbD i) h
      simpa using this
    constructor
    · apply BitVec.eq_of_getLsbD_eq
      intro i hi
      have := hb i
      simp only [Bool.or_eq_false_iff] at this
      simpa using this.1
    · apply BitVec.eq_of_getLsbD_eq
      intro i hi
      have := hb i
      simp only [Bool.or_eq_false_iff] at this
      simpa using this.2
  · rintro ⟨rfl, rfl⟩
    rfl
theorem and_or (x y z : BitVec 32) : (x ||| y) &&& z = (x &&& z) ||| (y &&& z) := by
  apply BitVec.eq_of_getLsbD_eq
  intro i hi
  simp only [BitVec.getLsbD_and, BitVec.getLsbD_or]
  cases x.getLsbD i <;> cases y.getLsbD i <;> cases z.getLsbD i <;> rfl
theorem jg_or (d : Dn) (a b : BitVec 32) (e : Bool) : wst (jg d a e) (jg d b e) = jg d (a ||| b) e := by
  unfold wst jg
  simp only [and_or, or_zero, Vt.mk.injEq, true_and]
  by_cases h1 : a &&& ~~~ d.al = 0#32 <;> by_cases h2 : b &&& ~~~ d.al = 0#32 <;> cases e <;> cases d.pm <;> simp [h1, h2]
section
variable (d : Dn) (p : BitVec 32) (e : Bool) (a b : Vt) (x : Rq) (w : World)
set_option maxRecDepth 100000 in
set_option maxHeartbeats 16000000 in
theorem lawWorst_c : Calls Try.prog 6 #[.agg #[.bool a.g, .int .u32 (vI a.dn), .int .u32 (vI a.ag), .int .u32 (vI a.ad), .bool a.pm], .agg #[.bool b.g, .int .u32 (vI b.dn), .int .u32 (vI b.ag), .int .u32 (vI b.ad), .bool b.pm]] w fun r w' => r = .returned (.bool true) ∧ Below w.heap.size w w' := by
  have HB : Hid (Below w.heap.size w ((w.alloc (.cells #[.bool a.g, .int .u32 (vI a.dn), .int .u32 (vI a.ag), .int .u32 (vI a.ad), .bool a.pm] 41)).alloc (.cells #[.bool b.g, .int .u32 (vI b.dn), .int .u32 (vI b.ag), .int .u32 (vI b.ad), .bool b.pm] 41))) := Lib.hid (((Below.refl _ _).alloc (Nat.le_refl _) _).alloc (by simp) _)
  have H2 : Hid (Blk ((w.alloc (.cells #[.bool a.g, .int .u32 (vI a.dn), .int .u32 (vI a.ag), .int .u32 (vI a.ad), .bool a.pm] 41)).alloc (.cells #[.bool b.g, .int .u32 (vI b.dn), .int .u32 (vI b.ag), .int .u32 (vI b.ad), .bool b.pm] 41)) w.heap.size 41 #[.bool a.g, .int .u32 (vI a.dn), .int .u32 (vI a.ag), .int .u32 (vI a.ad), .bool a.pm]) := Lib.hid ((Blk.here rfl).alloc _)
  have H3 : Hid (Blk ((w.alloc (.cells #[.bool a.g, .int .u32 (vI a.dn), .int .u32 (vI a.ag), .int .u32 (vI a.ad), .bool a.pm] 41)).alloc (.cells #[.bool b.g, .int .u32 (vI b.dn), .int .u32 (vI b.ag), .int .u32 (vI b.ad), .bool b.pm] 41)) (w.heap.size + 1) 41 #[.bool b.g, .int .u32 (vI b.dn), .int .u32 (vI b.ag), .int .u32 (vI b.ad), .bool b.pm]) := Lib.hid (Blk.here (by simp))
  have H1 := Lib.hid (fun u => worst_c a b u)
  have H1' := Lib.hid (fun u => worst_c b a u)
  have H4 := Lib.hid (fun u => worst_c a a u)
  have H5 := Lib.hid (fun u => rworst_c a b u)
  have H6 := Lib.hid (fun u => rworst_c a a u)
  rw [wst_comm] at H1'
  have HE1 := Lib.hid (fun u => eqlV (wst a b) (wst a b) u)
  have HE2 := Lib.hid (fun u => eqlV (wst a a) (wst a a) u)
  rw [show sameV (wst a b) (wst a b) = true from decide_eq_true rfl] at HE1
  rw [show sameV (wst a a) (wst a a) = true from decide_eq_true rfl] at HE2
  generalize wst a b = v1 at *
  generalize wst a a = v2 at *
  go_enter Try.func6, Try.ntmps6
  go_upto_region 1 with fail
  generalize (w.alloc (.cells #[.bool a.g, .int .u32 (vI a.dn), .int .u32 (vI a.ag), .int .u32 (vI a.ad), .bool a.pm] 41)).alloc (.cells #[.bool b.g, .int .u32 (vI b.dn), .int .u32 (vI b.ag), .int .u32 (vI b.ad), .bool b.pm] 41) = W at *
  generalize w.heap.size + 1 = g3 at *
  generalize hgx : w.heap.size = g2 at *
  refine wp_region_kp (by kernel_rfl) (by kernel_rfl) ?_
  repeat (first
    | go_big_quiet_skip
    | (go_big_quiet_want
       first
         | (go_big_quiet_op
            first
              | go_big_quiet_on
              | (apply Exists.intro
                 refine ⟨fun w1 hC => ?_, ?_⟩
                 · first
                     | (obtain ⟨c0, c1, c2, c3, c4⟩ := (H2.out.keep hC).c5; obtain ⟨x0, x1, x2, x3, x4⟩ := (H3.out.keep hC).c5; go_simp; exact ⟨rfl, rfl⟩)
                     | (obtain ⟨c0, c1, c2, c3, c4⟩ := (H2.out.keep hC).c5; obtain ⟨x0, x1, x2, x3, x4⟩ := (H3.out.keep hC).c5; go_simp; exact rfl)
                     | (go_at_call 25; with_reducible exact hC.call (H1.out _))
                     | (go_at_call 25; with_reducible exact hC.call (H1'.out _))
                     | (go_at_call 25; with_reducible exact hC.call (H4.out _))
                     | (go_at_call 26; with_reducible exact hC.call (H5.out _))
                     | (go_at_call 26; with_reducible exact hC.call (H6.out _))
                     | (go_at_call 18; with_reducible exact hC.call (awake_c _))
                     | (have hq := HE1.out w1; go_simp; exact ⟨rfl, rfl⟩)
                     | (have hq := HE2.out w1; go_simp; exact ⟨rfl, rfl⟩)
                     | exact rfl
                     | (go_simp; exact ⟨rfl, rfl⟩)
                 go_big_quiet_on))))
  refine wpQuiet_nil ?_
  intro W1 hC1
  have HB1 : Hid (Below g2 w W1) := Lib.hid (HB.out.trans (Below.mono hC1 (by have := HB.out.size; omega)))
  clear hC1
  go_wp2_with fail
  go_ret
  exact ⟨rfl, by rw [hgx]; exact HB1.out⟩
set_option maxRecDepth 100000 in
set_option maxHeartbeats 16000000 in
theorem lawParts_c : Calls Try.prog 7 #[.agg #[.int .u32 (vI d.al), .int .u32 (vI d.aa), .int .u32 (vI d.ad), .bool d.pm, .int .i64 d.sq], .agg #[.int .u32 (vI x.a), .int .u32 (vI x.b), .bool x.e]] w fun r w' => r = .returned (.bool true) ∧ Below w.heap.size w w' := by
  have HB : Hid (Below w.heap.size w ((w.alloc (.cells #[.int .u32 (vI d.al), .int .u32 (vI d.aa), .int .u32 (vI d.ad), .bool d.pm, .int .i64 d.sq] 39)).alloc (.cells #[.int .u32 (vI x.a), .int .u32 (vI x.b), .bool x.e] 72))) := Lib.hid (((Below.refl _ _).alloc (Nat.le_refl _) _).alloc (by simp) _)
  have H2 : Hid (Blk ((w.alloc (.cells #[.int .u32 (vI d.al), .int .u32 (vI d.aa), .int .u32 (vI d.ad), .bool d.pm, .int .i64 d.sq] 39)).alloc (.cells #[.int .u32 (vI x.a), .int .u32 (vI x.b), .bool x.e] 72)) w.heap.size 39 #[.int .u32 (vI d.al), .int .u32 (vI d.aa), .int .u32 (vI d.ad), .bool d.pm, .int .i64 d.sq]) := Lib.hid ((Blk.here rfl).alloc _)
  have H3 : Hid (Blk ((w.alloc (.cells #[.int .u32 (vI d.al), .int .u32 (vI d.aa), .int .u32 (vI d.ad), .bool d.pm, .int .i64 d.sq] 39)).alloc (.cells #[.int .u32 (vI x.a), .int .u32 (vI x.b), .bool x.e] 72)) (w.heap.size + 1) 72 #[.int .u32 (vI x.a), .int .u32 (vI x.b), .bool x.e]) := Lib.hid (Blk.here (by simp))
  have H1 := Lib.hid (fun u => judge_c d (x.a ||| x.b) x.e u)
  have H4 := Lib.hid (fun u => judge_c d x.a x.e u)
  have H5 := Lib.hid (fun u => judge_c d x.b x.e u)
  have H6 := Lib.hid (fun u => worst_c (jg d x.a x.e) (jg d x.b x.e) u)
  rw [jg_or] at H6
  have HE1 := Lib.hid (fun u => eqlV (jg d (x.a ||| x.b) x.e) (jg d (x.a ||| x.b) x.e) u)
  rw [show sameV (jg d (x.a ||| x.b) x.e) (jg d (x.a ||| x.b) x.e) = true from decide_eq_true rfl] at HE1
  generalize jg d (x.a ||| x.b) x.e = v1 at *
  generalize jg d x.a x.e = v2 at *
  generalize jg d x.b x.e = v3 at *
  go_enter Try.func7, Try.ntmps7
  go_upto_region 1 with fail
  generalize (w.alloc (.cells #[.int .u32 (vI d.al), .int .u32 (vI d.aa), .int .u32 (vI d.ad), .bool d.pm, .int .i64 d.sq] 39)).alloc (.cells #[.int .u32 (vI x.a), .int .u32 (vI x.b), .bool x.e] 72) = W at *
  generalize w.heap.size + 1 = g3 at *
  generalize hgx : w.heap.size = g2 at *
  refine wp_region_kp (by kernel_rfl) (by kernel_rfl) ?_
  repeat (first
    | go_big_quiet_skip
    | (go_big_quiet_want
       first
         | (go_big_quiet_op
            first
              | go_big_quiet_on
              | (apply Exists.intro
                 refine ⟨fun w1 hC => ?_, ?_⟩
                 · first
                     | (obtain ⟨c0, c1, c2, c3, c4⟩ := (H2.out.keep hC).c5; have x0 := (H3.out.keep hC).cell 0; have x1 := (H3.out.keep hC).cell 1; have x2 := (H3.out.keep hC).cell 2; go_simp; exact ⟨rfl, rfl⟩)
                     | (obtain ⟨c0, c1, c2, c3, c4⟩ := (H2.out.keep hC).c5; have x0 := (H3.out.keep hC).cell 0; have x1 := (H3.out.keep hC).cell 1; have x2 := (H3.out.keep hC).cell 2; go_simp; exact rfl)
                     | (go_at_call 14; with_reducible exact hC.call (H1.out _))
                     | (go_at_call 14; with_reducible exact hC.call (H4.out _))
                     | (go_at_call 14; with_reducible exact hC.call (H5.out _))
                     | (go_at_call 25; with_reducible exact hC.call (H6.out _))
                     | (go_at_call 18; with_reducible exact hC.call (awake_c _))
                     | (have hq := HE1.out w1; go_simp; exact ⟨rfl, rfl⟩)
                     | exact rfl
                     | (go_simp; exact ⟨rfl, rfl⟩)
                 go_big_quiet_on))))
  refine wpQuiet_nil ?_
  intro W1 hC1
  have HB1 : Hid (Below g2 w W1) := Lib.hid (HB.out.trans (Below.mono hC1 (by have := HB.out.size; omega)))
  clear hC1
  go_wp2_with fail
  go_ret
  exact ⟨rfl, by rw [hgx]; exact HB1.out⟩
set_option maxRecDepth 100000 in
set_option maxHeartbeats 16000000 in
theorem lawJudge_c : Calls Try.prog 4 #[.agg #[.int .u32 (vI d.al), .int .u32 (vI d.aa), .int .u32 (vI d.ad), .bool d.pm, .int .i64 d.sq], .int .u32 (vI p), .bool e] w fun r w' => r = .returned (.bool true) ∧ Below w.heap.size w w' := by
  have HB : Hid (Below w.heap.size w (w.alloc (.cells #[.int .u32 (vI d.al), .int .u32 (vI d.aa), .int .u32 (vI d.ad), .bool d.pm, .int .i64 d.sq] 39))) := Lib.hid ((Below.refl _ _).alloc (Nat.le_refl _) _)
  have H2 : Hid (Blk (w.alloc (.cells #[.int .u32 (vI d.al), .int .u32 (vI d.aa), .int .u32 (vI d.ad), .bool d.pm, .int .i64 d.sq] 39)) w.heap.size 39 #[.int .u32 (vI d.al), .int .u32 (vI d.aa), .int .u32 (vI d.ad), .bool d.pm, .int .i64 d.sq]) := Lib.hid (Blk.here rfl)
  have H1 := Lib.hid (fun u => judge_c d p e u)
  have H4 := Lib.hid (fun u => rjudge_c d p e u)
  have H5 := Lib.hid (fun u => audited_c (jg d p e) u)
  have H6 := Lib.hid (fun u => raudited_c (jg d p e) u)
  have HE1 := Lib.hid (fun u => eqlV (jg d p e) (jg d p e) u)
  rw [show sameV (jg d p e) (jg d p e) = true from decide_eq_true rfl] at HE1
  generalize jg d p e = v1 at *
  go_enter Try.func4, Try.ntmps4
  go_upto_region 1 with fail
  generalize w.alloc (.cells #[.int .u32 (vI d.al), .int .u32 (vI d.aa), .int .u32 (vI d.ad), .bool d.pm, .int .i64 d.sq] 39) = W at *
  generalize hgx : w.heap.size = g2 at *
  obtain ⟨c0, c1, c2, c3, c4⟩ := H2.out.c5
  go_upto_region 2 with (first | (go_at_call 14; refine (H1.out _).mono ?_; rintro r w2 ⟨rfl, hb2⟩; have HB2 := Lib.hid hb2; clear hb2) | fail)
  clear c0 c1 c2 c3 c4
  have H72 : Hid (Blk (w2.alloc (.cells #[.bool v1.g, .int .u32 (vI v1.dn), .int .u32 (vI v1.ag), .int .u32 (vI v1.ad), .bool v1.pm] 41)) w2.heap.size 41 #[.bool v1.g, .int .u32 (vI v1.dn), .int .u32 (vI v1.ag), .int .u32 (vI v1.ad), .bool v1.pm]) := Lib.hid (Blk.here rfl)
  have H22 : Hid (Blk (w2.alloc (.cells #[.bool v1.g, .int .u32 (vI v1.dn), .int .u32 (vI v1.ag), .int .u32 (vI v1.ad), .bool v1.pm] 41)) g2 39 #[.int .u32 (vI d.al), .int .u32 (vI d.aa), .int .u32 (vI d.ad), .bool d.pm, .int .i64 d.sq]) := Lib.hid ((H2.out.keep HB2.out).alloc _)
  have HB3 : Hid (Below g2 w (w2.alloc (.cells #[.bool v1.g, .int .u32 (vI v1.dn), .int .u32 (vI v1.ag), .int .u32 (vI v1.ad), .bool v1.pm] 41))) := Lib.hid ((HB.out.trans (HB2.out.mono (by have := HB.out.size; omega))).alloc (by have := HB.out.size; have := HB2.out.size; omega) _)
  generalize w2.alloc (.cells #[.bool v1.g, .int .u32 (vI v1.dn), .int .u32 (vI v1.ag), .int .u32 (vI v1.ad), .bool v1.pm] 41) = w3 at *
  generalize w2.heap.size = g7 at *
  refine wp_region_kp (by kernel_rfl) (by kernel_rfl) ?_
  repeat (first
    | go_big_quiet_skip
    | (go_big_quiet_want
       first
         | (go_big_quiet_op
            first
              | go_big_quiet_on
              | (apply Exists.intro
                 refine ⟨fun w1 hC => ?_, ?_⟩
                 · first
                     | (obtain ⟨c0, c1, c2, c3, c4⟩ := (H22.out.keep hC).c5; obtain ⟨x0, x1, x2, x3, x4⟩ := (H72.out.keep hC).c5; go_simp; exact ⟨rfl, rfl⟩)
                     | (obtain ⟨c0, c1, c2, c3, c4⟩ := (H22.out.keep hC).c5; obtain ⟨x0, x1, x2, x3, x4⟩ := (H72.out.keep hC).c5; go_simp; exact rfl)
                     | (go_at_call 15; with_reducible exact hC.call (H4.out _))
                     | (go_at_call 16; with_reducible exact hC.call (H5.out _))
                     | (go_at_call 17; with_reducible exact hC.call (H6.out _))
                     | (go_at_call 18; with_reducible exact hC.call (awake_c _))
                     | (have hq := HE1.out w1; go_simp; exact ⟨rfl, rfl⟩)
                     | exact rfl
                     | (go_simp; exact ⟨rfl, rfl⟩)
                 go_big_quiet_on))))
  refine wpQuiet_nil ?_
  intro W1 hC1
  have HB1 : Hid (Below g2 w W1) := Lib.hid (HB3.out.trans (Below.mono hC1 (by have := HB3.out.size; have := H2.out.lt; have := HB.out.size; omega)))
  clear hC1
  go_wp2_with fail
  go_ret
  exact ⟨rfl, by rw [hgx]; exact HB1.out⟩
end
end Go.Proofs.Ytbcbhgclgakljaa
