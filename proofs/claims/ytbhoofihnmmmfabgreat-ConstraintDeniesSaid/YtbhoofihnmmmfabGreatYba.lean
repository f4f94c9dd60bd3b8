/- Part of the proof: Pnb Pnc. No conditions. -/
import Derived.Test.YtbhoofihnmmmfabGreatYaz
namespace Go.Proofs.YtbhoofihnmmmfabGreat
open Go.RowKit Go
set_option maxRecDepth 100000 in
set_option maxHeartbeats 16000000 in
theorem ndom_c (a b : PLv) (w : World) : Calls Tryz.prog 56 #[.agg #[.int .i64 a.s, .int .u64 a.c], .agg #[.int .i64 b.s, .int .u64 b.c]] w fun e w' => e = .returned (.bool (domB a b)) ∧ Below w.heap.size w w' := by
 obtain ⟨b1, hb1⟩ : ∃ x, decide (b.s ≤ a.s) = x := ⟨_, rfl⟩
 obtain ⟨b2, hb2⟩ : ∃ x, (bits .andNot .u64 b.c a.c == 0) = x := ⟨_, rfl⟩
 have HR : Hid ((b1 && b2) = domB a b) := Lib.hid (by rw [← hb1, ← hb2]; rfl)
 generalize domB a b = R at *
 obtain ⟨W, ZW⟩ : ∃ v, Hid (((w.alloc (.cells #[.int .i64 a.s, .int .u64 a.c] 42)).alloc (.cells #[.int .i64 b.s, .int .u64 b.c] 42)) = v) := ⟨_, Lib.hid rfl⟩
 have HB : Hid (Below w.heap.size w W) := by cases ZW.out; exact Lib.hid (((Below.refl _ _).alloc (Nat.le_refl _) _).alloc (by first | (simp; done) | (simp; omega)) _)
 have HX0 : Hid (Blk W (w.heap.size) 42 #[.int .i64 a.s, .int .u64 a.c]) := by cases ZW.out; exact Lib.hid ((Blk.here (by simp)).alloc _)
 have HX1 : Hid (Blk W (w.heap.size + 1) 42 #[.int .i64 b.s, .int .u64 b.c]) := by cases ZW.out; exact Lib.hid (Blk.here (by simp))
 have HLE : Hid (w.heap.size ≤ W.heap.size) := by cases ZW.out; exact Lib.hid HB.out.size
 go_enter Tryz.func56, Tryz.ntmps56
 go_upto_region 1 with fail
 rw [ZW.out]
 generalize w.heap.size + 1 = g1 at *
 generalize hg0 : w.heap.size = g0 at *
 have HA : Hid (∀ u, Kp W u → Blk u g0 42 #[.int .i64 a.s, .int .u64 a.c]) := Lib.hid (fun u hu => HX0.out.keep hu)
 have HBB : Hid (∀ u, Kp W u → Blk u g1 42 #[.int .i64 b.s, .int .u64 b.c]) := Lib.hid (fun u hu => HX1.out.keep hu)
 refine wp_region_kq ?_
 repeat' (first | go_big_quiet_skip | (go_big_quiet_want; first | (go_big_quiet_op; first | go_big_quiet_on | (apply Exists.intro; refine ⟨fun w1 hC => ?_, ?_⟩; (first | (have x0 := (HA.out w1 hC).cell 0; have x1 := (HA.out w1 hC).cell 1; have y0 := (HBB.out w1 hC).cell 0; have y1 := (HBB.out w1 hC).cell 1; go_simp; exact rfl) | exact rfl | (go_simp; exact ⟨rfl, rfl⟩)); go_big_quiet_on))) | (cases b1 <;> try simp only [Bool.not_true, Bool.not_false]))
 all_goals refine wpQuiet_nil ?_
 all_goals intro W1 hC
 all_goals have HF := Lib.hid (HB.out.trans (hC.mono HLE.out))
 all_goals clear hC
 all_goals go_wp2_with fail
 all_goals go_ret
 all_goals exact ⟨ret_bool (by rw [← HR.out] <;> rfl), by first | exact HF.out | (rw [hg0]; exact HF.out)⟩
set_option maxRecDepth 100000 in
set_option maxHeartbeats 16000000 in
theorem nlevel_c (q : PV) (p : PP) (l : PLv) (w : World) (hP : PolV w q p) (hc : p.cats.length ≤ 1000000) (_hs : p.sens.length ≤ 1000000) : Calls Tryz.prog 55 #[q.val, .agg #[.int .i64 l.s, .int .u64 l.c]] w fun e w' => e = .returned (.bool (levB p l)) ∧ Below w.heap.size w w' := by
 obtain ⟨b1, hb1⟩ : ∃ x, bel l.s p.sens.length = x := ⟨_, rfl⟩
 obtain ⟨b3, hb3⟩ : ∃ x, (l.c / 2 ^ p.cats.length == 0) = x := ⟨_, rfl⟩
 have HBL : Hid (∀ u, Calls Tryz.prog 60 #[.int .i64 l.s, .int .i64 p.sens.length] u fun e w' => e = .returned (.bool b1) ∧ w' = u) := Lib.hid (fun u => by rw [← hb1]; exact nbel_c _ _ u)
 by_cases h64 : (64 : Int) ≤ (p.cats.length : Int)
 · have HR : Hid ((b1 && (true || b3)) = levB p l) := Lib.hid (by rw [← hb1, ← hb3]; unfold levB; rw [decide_eq_true h64]; rfl)
   generalize levB p l = R at *
   clear hb1
   obtain ⟨a6, c6, e6⟩ := hP.sens.form
   have E6 := Lib.hid e6
   clear e6
   obtain ⟨a7, c7, e7⟩ := hP.cats.form
   have E7 := Lib.hid e7
   clear e7
   obtain ⟨W, ZW⟩ : ∃ v, Hid (((w.alloc (.cells #[q.v0, q.v1, q.v2, q.v3, q.v4, q.v5, q.v6, q.v7, q.v8, q.v9, q.v10, q.v11, q.v12, q.v13, q.v14, q.v15, q.v16] 39)).alloc (.cells #[.int .i64 l.s, .int .u64 l.c] 42)) = v) := ⟨_, Lib.hid rfl⟩
   have HB : Hid (Below w.heap.size w W) := by cases ZW.out; exact Lib.hid (((Below.refl _ _).alloc (Nat.le_refl _) _).alloc (by first | (simp; done) | (simp; omega)) _)
   have HX0 : Hid (Blk W (w.heap.size) 39 #[q.v0, q.v1, q.v2, q.v3, q.v4, q.v5, q.v6, q.v7, q.v8, q.v9, q.v10, q.v11, q.v12, q.v13, q.v14, q.v15, q.v16]) := by cases ZW.out; exact Lib.hid ((Blk.here (by simp)).alloc _)
   have HX1 : Hid (Blk W (w.heap.size + 1) 42 #[.int .i64 l.s, .int .u64 l.c]) := by cases ZW.out; exact Lib.hid (Blk.here (by simp))
   have HQ : Hid (PolV W q p) := by cases ZW.out; exact Lib.hid (hP.keep HB.out)
   have HLE : Hid (w.heap.size ≤ W.heap.size) := by cases ZW.out; exact Lib.hid HB.out.size
   try unfold PV.val
   go_enter Tryz.func55, Tryz.ntmps55
   go_upto_region 1 with fail
   rw [ZW.out]
   generalize w.heap.size + 1 = g1 at *
   generalize hg0 : w.heap.size = g0 at *
   have HR6 : Hid (∀ u, Kp W u → u.cell? ⟨g0, 6, none⟩ = some (.slice a6 p.sens.length c6)) := Lib.hid (fun u hu => pol_cell (HX0.out.keep hu) rfl E6.out)
   have HR7 : Hid (∀ u, Kp W u → u.cell? ⟨g0, 7, none⟩ = some (.slice a7 p.cats.length c7)) := Lib.hid (fun u hu => pol_cell (HX0.out.keep hu) rfl E7.out)
   generalize Value.agg #[q.v0, q.v1, q.v2, q.v3, q.v4, q.v5, q.v6, q.v7, q.v8, q.v9, q.v10, q.v11, q.v12, q.v13, q.v14, q.v15, q.v16] = P0
   have HL : Hid (∀ u, Kp W u → Blk u g1 42 #[.int .i64 l.s, .int .u64 l.c]) := Lib.hid (fun u hu => HX1.out.keep hu)
   refine wp_region_kq ?_
   repeat' (first | go_big_quiet_skip | (go_big_quiet_want; first | (go_big_quiet_op; first | go_big_quiet_on | (apply Exists.intro; refine ⟨fun w1 hC => ?_, ?_⟩; (first | (go_at_call 60; with_reducible exact hC.call_same (HBL.out _)) | (have x0 := (HL.out w1 hC).cell 0; have x1 := (HL.out w1 hC).cell 1; go_simp; exact rfl) | (have y6 := HR6.out w1 hC; have y7 := HR7.out w1 hC; go_simp; exact rfl) | exact rfl | (go_simp; exact ⟨rfl, rfl⟩)); go_big_quiet_on))) | (cases b1 <;> try simp only [Bool.not_true, Bool.not_false]))
   all_goals refine wpQuiet_nil ?_
   all_goals intro W1 hC
   all_goals have HF := Lib.hid (HB.out.trans (hC.mono HLE.out))
   all_goals clear hC
   all_goals go_wp2_with fail
   all_goals go_ret
   all_goals exact ⟨ret_bool (by rw [← HR.out] <;> rfl), by first | exact HF.out | (rw [hg0]; exact HF.out)⟩
 · have HR : Hid ((b1 && (false || b3)) = levB p l) := Lib.hid (by rw [← hb1, ← hb3]; unfold levB; rw [decide_eq_false h64]; rfl)
   generalize levB p l = R at *
   have h64' : (p.cats.length : Int) ≤ 64 := by omega
   clear hb1
   obtain ⟨a6, c6, e6⟩ := hP.sens.form
   have E6 := Lib.hid e6
   clear e6
   obtain ⟨a7, c7, e7⟩ := hP.cats.form
   have E7 := Lib.hid e7
   clear e7
   have HB : Hid (Below w.heap.size w ((w.alloc (.cells #[q.v0, q.v1, q.v2, q.v3, q.v4, q.v5, q.v6, q.v7, q.v8, q.v9, q.v10, q.v11, q.v12, q.v13, q.v14, q.v15, q.v16] 39)).alloc (.cells #[.int .i64 l.s, .int .u64 l.c] 42))) := Lib.hid (((Below.refl _ _).alloc (Nat.le_refl _) _).alloc (by first | (simp; done) | (simp; omega)) _)
   have HX0 : Hid (Blk ((w.alloc (.cells #[q.v0, q.v1, q.v2, q.v3, q.v4, q.v5, q.v6, q.v7, q.v8, q.v9, q.v10, q.v11, q.v12, q.v13, q.v14, q.v15, q.v16] 39)).alloc (.cells #[.int .i64 l.s, .int .u64 l.c] 42)) (w.heap.size) 39 #[q.v0, q.v1, q.v2, q.v3, q.v4, q.v5, q.v6, q.v7, q.v8, q.v9, q.v10, q.v11, q.v12, q.v13, q.v14, q.v15, q.v16]) := Lib.hid ((Blk.here (by simp)).alloc _)
   have HX1 : Hid (Blk ((w.alloc (.cells #[q.v0, q.v1, q.v2, q.v3, q.v4, q.v5, q.v6, q.v7, q.v8, q.v9, q.v10, q.v11, q.v12, q.v13, q.v14, q.v15, q.v16] 39)).alloc (.cells #[.int .i64 l.s, .int .u64 l.c] 42)) (w.heap.size + 1) 42 #[.int .i64 l.s, .int .u64 l.c]) := Lib.hid (Blk.here (by simp))
   have HQ : Hid (PolV ((w.alloc (.cells #[q.v0, q.v1, q.v2, q.v3, q.v4, q.v5, q.v6, q.v7, q.v8, q.v9, q.v10, q.v11, q.v12, q.v13, q.v14, q.v15, q.v16] 39)).alloc (.cells #[.int .i64 l.s, .int .u64 l.c] 42)) q p) := Lib.hid (hP.keep HB.out)
   have HLE : Hid (w.heap.size ≤ ((w.alloc (.cells #[q.v0, q.v1, q.v2, q.v3, q.v4, q.v5, q.v6, q.v7, q.v8, q.v9, q.v10, q.v11, q.v12, q.v13, q.v14, q.v15, q.v16] 39)).alloc (.cells #[.int .i64 l.s, .int .u64 l.c] 42)).heap.size) := Lib.hid HB.out.size
   try unfold PV.val
   go_enter Tryz.func55, Tryz.ntmps55
   go_upto_region 1 with fail
   generalize (w.alloc (.cells #[q.v0, q.v1, q.v2, q.v3, q.v4, q.v5, q.v6, q.v7, q.v8, q.v9, q.v10, q.v11, q.v12, q.v13, q.v14, q.v15, q.v16] 39)).alloc (.cells #[.int .i64 l.s, .int .u64 l.c] 42) = W at *
   generalize w.heap.size + 1 = g1 at *
   generalize hg0 : w.heap.size = g0 at *
   have HR6 : Hid (∀ u, Kp W u → u.cell? ⟨g0, 6, none⟩ = some (.slice a6 p.sens.length c6)) := Lib.hid (fun u hu => pol_cell (HX0.out.keep hu) rfl E6.out)
   have HR7 : Hid (∀ u, Kp W u → u.cell? ⟨g0, 7, none⟩ = some (.slice a7 p.cats.length c7)) := Lib.hid (fun u hu => pol_cell (HX0.out.keep hu) rfl E7.out)
   generalize Value.agg #[q.v0, q.v1, q.v2, q.v3, q.v4, q.v5, q.v6, q.v7, q.v8, q.v9, q.v10, q.v11, q.v12, q.v13, q.v14, q.v15, q.v16] = P0
   have HL : Hid (∀ u, Kp W u → Blk u g1 42 #[.int .i64 l.s, .int .u64 l.c]) := Lib.hid (fun u hu => HX1.out.keep hu)
   refine wp_region_kq ?_
   repeat' (first | go_big_quiet_skip | (go_big_quiet_want; first | (go_big_quiet_op; first | go_big_quiet_on | (apply Exists.intro; refine ⟨fun w1 hC => ?_, ?_⟩; (first | (go_at_call 60; with_reducible exact hC.call_same (HBL.out _)) | (have x0 := (HL.out w1 hC).cell 0; have x1 := (HL.out w1 hC).cell 1; go_simp; exact rfl) | (have y6 := HR6.out w1 hC; have y7 := HR7.out w1 hC; go_simp; exact rfl) | exact rfl | (go_simp; exact ⟨rfl, rfl⟩)); go_big_quiet_on))) | (cases b1 <;> try simp only [Bool.not_true, Bool.not_false]))
   all_goals refine wpQuiet_nil ?_
   all_goals intro W1 hC
   all_goals have HF := Lib.hid (HB.out.trans (hC.mono HLE.out))
   all_goals clear hC
   all_goals go_wp2_with fail
   all_goals go_ret
   all_goals exact ⟨ret_bool (by rw [← HR.out] <;> rfl), by first | exact HF.out | (rw [hg0]; exact HF.out)⟩
set_option maxRecDepth 100000 in
set_option maxHeartbeats 16000000 in
theorem nrange_c (q : PV) (p : PP) (lo hi : PLv) (w : World) (hP : PolV w q p) (hc : p.cats.length ≤ 1000000) (hs : p.sens.length ≤ 1000000) : Calls Tryz.prog 54 #[q.val, .agg #[.int .i64 lo.s, .int .u64 lo.c, .int .i64 hi.s, .int .u64 hi.c]] w fun e w' => e = .returned (.bool (rngB p lo hi)) ∧ Below w.heap.size w w' := by
 obtain ⟨b1, hb1⟩ : ∃ x, levB p lo = x := ⟨_, rfl⟩
 obtain ⟨b2, hb2⟩ : ∃ x, levB p hi = x := ⟨_, rfl⟩
 obtain ⟨b3, hb3⟩ : ∃ x, domB hi lo = x := ⟨_, rfl⟩
 have HR : Hid ((b1 && (b2 && b3)) = rngB p lo hi) := Lib.hid (by rw [← hb1, ← hb2, ← hb3]; rfl)
 generalize rngB p lo hi = R at *
 obtain ⟨W, ZW⟩ : ∃ v, Hid (((w.alloc (.cells #[q.v0, q.v1, q.v2, q.v3, q.v4, q.v5, q.v6, q.v7, q.v8, q.v9, q.v10, q.v11, q.v12, q.v13, q.v14, q.v15, q.v16] 39)).alloc (.cells #[.int .i64 lo.s, .int .u64 lo.c, .int .i64 hi.s, .int .u64 hi.c] 44)) = v) := ⟨_, Lib.hid rfl⟩
 have HB : Hid (Below w.heap.size w W) := by cases ZW.out; exact Lib.hid (((Below.refl _ _).alloc (Nat.le_refl _) _).alloc (by first | (simp; done) | (simp; omega)) _)
 have HX0 : Hid (Blk W (w.heap.size) 39 #[q.v0, q.v1, q.v2, q.v3, q.v4, q.v5, q.v6, q.v7, q.v8, q.v9, q.v10, q.v11, q.v12, q.v13, q.v14, q.v15, q.v16]) := by cases ZW.out; exact Lib.hid ((Blk.here (by simp)).alloc _)
 have HX1 : Hid (Blk W (w.heap.size + 1) 44 #[.int .i64 lo.s, .int .u64 lo.c, .int .i64 hi.s, .int .u64 hi.c]) := by cases ZW.out; exact Lib.hid (Blk.here (by simp))
 have HQ : Hid (PolV W q p) := by cases ZW.out; exact Lib.hid (hP.keep HB.out)
 have HLE : Hid (w.heap.size ≤ W.heap.size) := by cases ZW.out; exact Lib.hid HB.out.size
 try unfold PV.val
 go_enter Tryz.func54, Tryz.ntmps54
 go_upto_region 1 with fail
 rw [ZW.out]
 generalize w.heap.size + 1 = g1 at *
 generalize hg0 : w.heap.size = g0 at *
 generalize Value.agg #[q.v0, q.v1, q.v2, q.v3, q.v4, q.v5, q.v6, q.v7, q.v8, q.v9, q.v10, q.v11, q.v12, q.v13, q.v14, q.v15, q.v16] = P0
 have HL : Hid (∀ u, Kp W u → Blk u g1 44 #[.int .i64 lo.s, .int .u64 lo.c, .int .i64 hi.s, .int .u64 hi.c]) := Lib.hid (fun u hu => HX1.out.keep hu)
 have HV1 : Hid (∀ u, Kp W u → Calls Tryz.prog 55 #[q.val, .agg #[.int .i64 lo.s, .int .u64 lo.c]] u fun e w' => e = .returned (.bool b1) ∧ Below u.heap.size u w') := Lib.hid (fun u hu => by rw [← hb1]; exact nlevel_c q p lo u (HQ.out.keep hu) hc hs)
 have HV2 : Hid (∀ u, Kp W u → Calls Tryz.prog 55 #[q.val, .agg #[.int .i64 hi.s, .int .u64 hi.c]] u fun e w' => e = .returned (.bool b2) ∧ Below u.heap.size u w') := Lib.hid (fun u hu => by rw [← hb2]; exact nlevel_c q p hi u (HQ.out.keep hu) hc hs)
 have HD : Hid (∀ u, Calls Tryz.prog 56 #[.agg #[.int .i64 hi.s, .int .u64 hi.c], .agg #[.int .i64 lo.s, .int .u64 lo.c]] u fun e w' => e = .returned (.bool b3) ∧ Below u.heap.size u w') := Lib.hid (fun u => by rw [← hb3]; exact ndom_c hi lo u)
 clear hb1 hb2 hb3
 refine wp_region_kq ?_
 repeat' (first | go_big_quiet_skip | (go_big_quiet_want; first | (refine quiet_load (t := 39) (.tmp 2) rfl rfl (fun w1 hC => loadAt_pol (HX0.out.keep hC)) ?_; simp only [Act.put, List.setIfInBounds_toArray, List.set_cons_succ, List.set_cons_zero]; go_big_quiet_on) | (go_big_quiet_op; first | go_big_quiet_on | (apply Exists.intro; refine ⟨fun w1 hC => ?_, ?_⟩; (first | (go_at_call 55; with_reducible exact hC.call (HV1.out _ hC)) | (go_at_call 55; with_reducible exact hC.call (HV2.out _ hC)) | (go_at_call 56; with_reducible exact hC.call (HD.out _)) | (have x0 := (HL.out w1 hC).cell 0; have x1 := (HL.out w1 hC).cell 1; have x2 := (HL.out w1 hC).cell 2; have x3 := (HL.out w1 hC).cell 3; go_simp; exact rfl) | exact rfl | (go_simp; exact ⟨rfl, rfl⟩)); go_big_quiet_on))) | (cases b1 <;> try simp only [Bool.not_true, Bool.not_false]) | (cases b2 <;> try simp only [Bool.not_true, Bool.not_false]))
 all_goals refine wpQuiet_nil ?_
 all_goals intro W1 hC
 all_goals have HF := Lib.hid (HB.out.trans (hC.mono HLE.out))
 all_goals clear hC
 all_goals go_wp2_with fail
 all_goals go_ret
 all_goals exact ⟨ret_bool (by rw [← HR.out] <;> rfl), by first | exact HF.out | (rw [hg0]; exact HF.out)⟩
open Go.RowKit Go
set_option maxRecDepth 100000 in
set_option maxHeartbeats 16000000 in
theorem nproc_c (q : PV) (p : PP) (s : S4) (w : World) (hP : PolV w q p) (hr : p.ros.length ≤ 1000000) : Calls Tryz.prog 53 #[q.val, .agg #[.int .u64 s.a, .int .u64 s.b, .int .u64 s.c, .int .u64 s.d]] w fun e w' => e = .returned (.bool (procB p s)) ∧ Below w.heap.size w w' := by
 obtain ⟨t1, ht1⟩ : ∃ t, allS p.ros.length = t := ⟨_, rfl⟩
 obtain ⟨t2, ht2⟩ : ∃ t, lessS 0 t1 = t := ⟨_, rfl⟩
 obtain ⟨b1, hb1⟩ : ∃ x, wiB s t2 = x := ⟨_, rfl⟩
 have HR : Hid (b1 = procB p s) := Lib.hid (by rw [← hb1, ← ht2, ← ht1]; rfl)
 generalize procB p s = R at *
 have hlr : (p.ros.length : Int) ≤ 9223372036854775807 := by omega
 obtain ⟨a3, c3, e3⟩ := hP.ros.form
 have E3 := Lib.hid e3
 clear e3
 obtain ⟨W, ZW⟩ : ∃ v, Hid (((w.alloc (.cells #[q.v0, q.v1, q.v2, q.v3, q.v4, q.v5, q.v6, q.v7, q.v8, q.v9, q.v10, q.v11, q.v12, q.v13, q.v14, q.v15, q.v16] 39)).alloc (.cells #[.int .u64 s.a, .int .u64 s.b, .int .u64 s.c, .int .u64 s.d] 53)) = v) := ⟨_, Lib.hid rfl⟩
 have HB : Hid (Below w.heap.size w W) := by cases ZW.out; exact Lib.hid (((Below.refl _ _).alloc (Nat.le_refl _) _).alloc (by simp) _)
 have HX0 : Hid (Blk W (w.heap.size) 39 #[q.v0, q.v1, q.v2, q.v3, q.v4, q.v5, q.v6, q.v7, q.v8, q.v9, q.v10, q.v11, q.v12, q.v13, q.v14, q.v15, q.v16]) := by cases ZW.out; exact Lib.hid ((Blk.here (by simp)).alloc _)
 have HX1 : Hid (Blk W (w.heap.size + 1) 53 #[.int .u64 s.a, .int .u64 s.b, .int .u64 s.c, .int .u64 s.d]) := by cases ZW.out; exact Lib.hid (Blk.here (by simp))
 have HQ : Hid (PolV W q p) := by cases ZW.out; exact Lib.hid (hP.keep HB.out)
 have HLE : Hid (w.heap.size ≤ W.heap.size) := by cases ZW.out; exact Lib.hid HB.out.size
 try unfold PV.val
 go_enter Tryz.func53, Tryz.ntmps53
 go_upto_region 1 with fail
 rw [ZW.out]
 generalize w.heap.size + 1 = g1 at *
 generalize hg0 : w.heap.size = g0 at *
 have HR3 : Hid (∀ u, Kp W u → u.cell? ⟨g0, 3, none⟩ = some (.slice a3 p.ros.length c3)) := Lib.hid (fun u hu => pol_cell (HX0.out.keep hu) rfl E3.out)
 generalize Value.agg #[q.v0, q.v1, q.v2, q.v3, q.v4, q.v5, q.v6, q.v7, q.v8, q.v9, q.v10, q.v11, q.v12, q.v13, q.v14, q.v15, q.v16] = P0
 have HS : Hid (∀ u, Kp W u → Blk u g1 53 #[.int .u64 s.a, .int .u64 s.b, .int .u64 s.c, .int .u64 s.d]) := Lib.hid (fun u hu => HX1.out.keep hu)
 have HA : Hid (∀ u, Kp W u → Calls Tryz.prog 51 #[.int .i64 p.ros.length] u fun e w' => e = .returned (.agg #[.int .u64 t1.a, .int .u64 t1.b, .int .u64 t1.c, .int .u64 t1.d]) ∧ Below u.heap.size u w') := Lib.hid (fun u hu => by rw [← ht1]; exact rall_c _ u (by omega) hlr)
 have HW : Hid (∀ u, Kp W u → Calls Tryz.prog 84 #[.agg #[.int .u64 t1.a, .int .u64 t1.b, .int .u64 t1.c, .int .u64 t1.d], .int .i64 0] u fun e w' => e = .returned (.agg #[.int .u64 t2.a, .int .u64 t2.b, .int .u64 t2.c, .int .u64 t2.d]) ∧ Below u.heap.size u w') := Lib.hid (fun u hu => by rw [← ht2]; exact rless_c _ _ _ _ _ u)
 have HI : Hid (∀ u, Kp W u → Calls Tryz.prog 52 #[.agg #[.int .u64 s.a, .int .u64 s.b, .int .u64 s.c, .int .u64 s.d], .agg #[.int .u64 t2.a, .int .u64 t2.b, .int .u64 t2.c, .int .u64 t2.d]] u fun e w' => e = .returned (.bool b1) ∧ Below u.heap.size u w') := Lib.hid (fun u hu => by rw [← hb1]; exact rwithin_c _ _ _ _ _ _ _ _ u)
 clear ht1 ht2 hb1 hlr
 refine wp_region_kp (by kernel_rfl) (by kernel_rfl) ?_
 repeat' (first | go_big_quiet_skip | (go_big_quiet_want; first | (go_big_quiet_op; first | go_big_quiet_on | (apply Exists.intro; refine ⟨fun w1 hC => ?_, ?_⟩; (first | (go_at_call 51; with_reducible exact hC.call (HA.out _ hC)) | (go_at_call 84; with_reducible exact hC.call (HW.out _ hC)) | (go_at_call 52; with_reducible exact hC.call (HI.out _ hC)) | (have x0 := (HS.out w1 hC).cell 0; have x1 := (HS.out w1 hC).cell 1; have x2 := (HS.out w1 hC).cell 2; have x3 := (HS.out w1 hC).cell 3; go_simp; exact rfl) | (have y3 := HR3.out w1 hC; go_simp; exact rfl) | exact rfl | (go_simp; exact ⟨rfl, rfl⟩)); go_big_quiet_on))))
 all_goals refine wpQuiet_nil ?_
 all_goals intro W1 hC
 all_goals have HF := Lib.hid (HB.out.trans (hC.mono HLE.out))
 all_goals clear hC
 all_goals go_wp2_with fail
 all_goals go_ret
 all_goals exact ⟨ret_bool (by rw [← HR.out] <;> rfl), by first | exact HF.out | (rw [hg0]; exact HF.out)⟩
set_option maxRecDepth 100000 in
set_option maxHeartbeats 16000000 in
theorem nsome_c (s : S4) (n : Int) (w : World) (h0 : -9223372036854775808 ≤ n) (h1 : n ≤ 9223372036854775807) : Calls Tryz.prog 50 #[.agg #[.int .u64 s.a, .int .u64 s.b, .int .u64 s.c, .int .u64 s.d], .int .i64 n] w fun e w' => e = .returned (.tuple #[.bool (someN s), .bool (someW s n)]) ∧ Below w.heap.size w w' := by
 obtain ⟨t1, ht1⟩ : ∃ t, allS n = t := ⟨_, rfl⟩
 obtain ⟨b1, hb1⟩ : ∃ x, wiB s t1 = x := ⟨_, rfl⟩
 obtain ⟨b2, hb2⟩ : ∃ x, same4 s.a s.b s.c s.d 0 0 0 0 = x := ⟨_, rfl⟩
 have HR : Hid (b1 = someW s n) := Lib.hid (by rw [← hb1, ← ht1]; rfl)
 have HR2 : Hid ((!b2) = someN s) := Lib.hid (by rw [← hb2]; rfl)
 generalize someW s n = R at *
 generalize someN s = R2 at *
 obtain ⟨W, ZW⟩ : ∃ v, Hid ((w.alloc (.cells #[.int .u64 s.a, .int .u64 s.b, .int .u64 s.c, .int .u64 s.d] 53)) = v) := ⟨_, Lib.hid rfl⟩
 have HB : Hid (Below w.heap.size w W) := by cases ZW.out; exact Lib.hid ((Below.refl _ _).alloc (Nat.le_refl _) _)
 have HX0 : Hid (Blk W (w.heap.size) 53 #[.int .u64 s.a, .int .u64 s.b, .int .u64 s.c, .int .u64 s.d]) := by cases ZW.out; exact Lib.hid (Blk.here (by simp))
 have HLE : Hid (w.heap.size ≤ W.heap.size) := by cases ZW.out; exact Lib.hid HB.out.size
 go_enter Tryz.func50, Tryz.ntmps50
 go_upto_region 1 with fail
 rw [ZW.out]
 generalize hg0 : w.heap.size = g0 at *
 have HS : Hid (∀ u, Kp W u → Blk u g0 53 #[.int .u64 s.a, .int .u64 s.b, .int .u64 s.c, .int .u64 s.d]) := Lib.hid (fun u hu => HX0.out.keep hu)
 have HA : Hid (∀ u, Kp W u → Calls Tryz.prog 51 #[.int .i64 n] u fun e w' => e = .returned (.agg #[.int .u64 t1.a, .int .u64 t1.b, .int .u64 t1.c, .int .u64 t1.d]) ∧ Below u.heap.size u w') := Lib.hid (fun u hu => by rw [← ht1]; exact rall_c _ u h0 h1)
 have HI : Hid (∀ u, Kp W u → Calls Tryz.prog 52 #[.agg #[.int .u64 s.a, .int .u64 s.b, .int .u64 s.c, .int .u64 s.d], .agg #[.int .u64 t1.a, .int .u64 t1.b, .int .u64 t1.c, .int .u64 t1.d]] u fun e w' => e = .returned (.bool b1) ∧ Below u.heap.size u w') := Lib.hid (fun u hu => by rw [← hb1]; exact rwithin_c _ _ _ _ _ _ _ _ u)
 clear ht1 hb1 h0 h1
 refine wp_region_kp (by kernel_rfl) (by kernel_rfl) ?_
 repeat' (first | go_big_quiet_skip | (go_big_quiet_want; first | (go_big_quiet_op; first | go_big_quiet_on | (apply Exists.intro; refine ⟨fun w1 hC => ?_, ?_⟩; (first | (go_at_call 51; with_reducible exact hC.call (HA.out _ hC)) | (go_at_call 52; with_reducible exact hC.call (HI.out _ hC)) | (have x0 := (HS.out w1 hC).cell 0; have x1 := (HS.out w1 hC).cell 1; have x2 := (HS.out w1 hC).cell 2; have x3 := (HS.out w1 hC).cell 3; go_simp; exact rfl) | exact rfl | (go_simp; exact ⟨rfl, rfl⟩)); go_big_quiet_on))))
 all_goals refine wpQuiet_nil ?_
 all_goals intro W1 hC
 all_goals have HF := Lib.hid (HB.out.trans (hC.mono HLE.out))
 all_goals clear hC
 all_goals go_wp2_with fail
 exact bodyPost_ret (v := .tuple #[.bool (!b2), .bool b1]) (by simp [results, Tryz.results50, go_sem]) rfl ⟨by rw [← HR.out, ← HR2.out], by first | exact HF.out | (rw [hg0]; exact HF.out)⟩
set_option maxRecDepth 100000 in
set_option maxHeartbeats 16000000 in
theorem ncond_c (q : PV) (p : PP) (n : Int) (w : World) (hP : PolV w q p) (hr : p.cds.length ≤ 1000000) : Calls Tryz.prog 59 #[q.val, .int .i64 n] w fun e w' => e = .returned (.bool (cdB p n)) ∧ Below w.heap.size w w' := by
 obtain ⟨b1, hb1⟩ : ∃ x, decide (-(p.cds.length : Int) ≤ n) = x := ⟨_, rfl⟩
 obtain ⟨b2, hb2⟩ : ∃ x, decide (n ≤ (p.cds.length : Int)) = x := ⟨_, rfl⟩
 have HR : Hid ((b1 && b2) = cdB p n) := Lib.hid (by rw [← hb1, ← hb2]; rfl)
 generalize cdB p n = R at *
 have hlr : (p.cds.length : Int) ≤ 9223372036854775807 := by omega
 obtain ⟨a8, c8, e8⟩ := hP.cds.form
 have E8 := Lib.hid e8
 clear e8
 obtain ⟨W, ZW⟩ : ∃ v, Hid ((w.alloc (.cells #[q.v0, q.v1, q.v2, q.v3, q.v4, q.v5, q.v6, q.v7, q.v8, q.v9, q.v10, q.v11, q.v12, q.v13, q.v14, q.v15, q.v16] 39)) = v) := ⟨_, Lib.hid rfl⟩
 have HB : Hid (Below w.heap.size w W) := by cases ZW.out; exact Lib.hid ((Below.refl _ _).alloc (Nat.le_refl _) _)
 have HX0 : Hid (Blk W (w.heap.size) 39 #[q.v0, q.v1, q.v2, q.v3, q.v4, q.v5, q.v6, q.v7, q.v8, q.v9, q.v10, q.v11, q.v12, q.v13, q.v14, q.v15, q.v16]) := by cases ZW.out; exact Lib.hid (Blk.here (by simp))
 have HQ : Hid (PolV W q p) := by cases ZW.out; exact Lib.hid (hP.keep HB.out)
 have HLE : Hid (w.heap.size ≤ W.heap.size) := by cases ZW.out; exact Lib.hid HB.out.size
 try unfold PV.val
 go_enter Tryz.func59, Tryz.ntmps59
 go_upto_region 1 with fail
 rw [ZW.out]
 generalize hg0 : w.heap.size = g0 at *
 have HR8 : Hid (∀ u, Kp W u → u.cell? ⟨g0, 8, none⟩ = some (.slice a8 p.cds.length c8)) := Lib.hid (fun u hu => pol_cell (HX0.out.keep hu) rfl E8.out)
 generalize Value.agg #[q.v0, q.v1, q.v2, q.v3, q.v4, q.v5, q.v6, q.v7, q.v8, q.v9, q.v10, q.v11, q.v12, q.v13, q.v14, q.v15, q.v16] = P0
 refine wp_region_kq ?_
 repeat' (first | go_big_quiet_skip | (go_big_quiet_want; first | (go_big_quiet_op; first | go_big_quiet_on | (apply Exists.intro; refine ⟨fun w1 hC => ?_, ?_⟩; (first | (have y8 := HR8.out w1 hC; go_simp; exact rfl) | exact rfl | (go_simp; exact ⟨rfl, rfl⟩)); go_big_quiet_on))) | (cases b1 <;> try simp only [Bool.not_true, Bool.not_false]))
 all_goals refine wpQuiet_nil ?_
 all_goals intro W1 hC
 all_goals have HF := Lib.hid (HB.out.trans (hC.mono HLE.out))
 all_goals clear hC
 all_goals go_wp2_with fail
 all_goals go_ret
 all_goals exact ⟨ret_bool (by rw [← HR.out] <;> rfl), by first | exact HF.out | (rw [hg0]; exact HF.out)⟩
set_option maxRecDepth 100000 in
set_option maxHeartbeats 16000000 in
theorem nvector_c (q : PV) (p : PP) (c v : Int) (w : World) (hP : PolV w q p) (hr : p.cls.length ≤ 1000000) : Calls Tryz.prog 58 #[q.val, .int .i64 c, .int .u32 v] w fun e w' => e = .returned (.bool (vecB p c v)) ∧ Below w.heap.size w w' := by
 by_cases hc : 0 ≤ c ∧ c < (p.cls.length : Int)
 · obtain ⟨i, rfl⟩ : ∃ i : Nat, c = i := ⟨c.toNat, by omega⟩
   have hlt : i < p.cls.length := by omega
   obtain ⟨x, hx⟩ : ∃ x, p.cls[i] = x := ⟨_, rfl⟩
   have HXX := Lib.hid hx
   have HN : Hid (nPerms p i = x.ps.length) := Lib.hid (by unfold nPerms; rw [Int.toNat_natCast, List.getElem?_eq_getElem hlt, hx])
   have HBT : Hid (bel i p.cls.length = true) := Lib.hid (by unfold bel; rw [decide_eq_true hc.1, decide_eq_true hc.2]; rfl)
   obtain ⟨b3, hb3⟩ : ∃ z, (v / 2 ^ x.ps.length == 0) = z := ⟨_, rfl⟩
   have hli : (i : Int) < (p.cls.length : Int) := hc.2
   have hlr : (p.cls.length : Int) ≤ 9223372036854775807 := by omega
   clear hx hc
   by_cases h32 : (32 : Int) ≤ (x.ps.length : Int)
   · have HR : Hid ((true || b3) = vecB p i v) := Lib.hid (by rw [← hb3]; unfold vecB; rw [HBT.out, HN.out, decide_eq_true h32]; rfl)
     generalize vecB p i v = R at *
     obtain ⟨a0, c0, e0⟩ := hP.cls.form
     have E0 := Lib.hid e0
     clear e0
     obtain ⟨W, ZW⟩ : ∃ v, Hid ((w.alloc (.cells #[q.v0, q.v1, q.v2, q.v3, q.v4, q.v5, q.v6, q.v7, q.v8, q.v9, q.v10, q.v11, q.v12, q.v13, q.v14, q.v15, q.v16] 39)) = v) := ⟨_, Lib.hid rfl⟩
     have HB : Hid (Below w.heap.size w W) := by cases ZW.out; exact Lib.hid ((Below.refl _ _).alloc (Nat.le_refl _) _)
     have HX0 : Hid (Blk W (w.heap.size) 39 #[q.v0, q.v1, q.v2, q.v3, q.v4, q.v5, q.v6, q.v7, q.v8, q.v9, q.v10, q.v11, q.v12, q.v13, q.v14, q.v15, q.v16]) := by cases ZW.out; exact Lib.hid (Blk.here (by simp))
     have HQ : Hid (PolV W q p) := by cases ZW.out; exact Lib.hid (hP.keep HB.out)
     have HLE : Hid (w.heap.size ≤ W.heap.size) := by cases ZW.out; exact Lib.hid HB.out.size
     try unfold PV.val
     go_enter Tryz.func58, Tryz.ntmps58
     go_upto_region 1 with fail
     rw [ZW.out]
     generalize hg0 : w.heap.size = g0 at *
     have HR0 : Hid (∀ u, Kp W u → u.cell? ⟨g0, 0, none⟩ = some (.slice a0 p.cls.length c0)) := Lib.hid (fun u hu => pol_cell (HX0.out.keep hu) rfl E0.out)
     generalize Value.agg #[q.v0, q.v1, q.v2, q.v3, q.v4, q.v5, q.v6, q.v7, q.v8, q.v9, q.v10, q.v11, q.v12, q.v13, q.v14, q.v15, q.v16] = P0
     obtain ⟨g, oo, hak, hg, hE⟩ := (show SlR 2 CCl W (.slice a0 p.cls.length c0) p.cls by rw [← E0.out]; exact HQ.out.cls).row hlt
     subst hak
     have hE1 := hE i hlt
     rw [HXX.out] at hE1
     obtain ⟨-, ⟨va, hv1, hv2, -⟩, -⟩ := hE1
     obtain ⟨ap, cp, rfl⟩ := hv2.form
     have HE : Hid (∀ u, Kp W u → u.cell? ⟨g, oo + i * 2 + 1, none⟩ = some (.slice ap x.ps.length cp)) := Lib.hid (fun u hu => (Below.cell hu (p := ⟨g, oo + i * 2 + 1, none⟩) hg).trans hv1)
     clear hv1 hv2 hE hg
     have HBL : Hid (∀ u, Kp W u → Calls Tryz.prog 60 #[.int .i64 i, .int .i64 p.cls.length] u fun e w' => e = .returned (.bool true) ∧ w' = u) := Lib.hid (fun u _ => by rw [← HBT.out]; exact nbel_c _ _ u)
     refine wp_region_kq ?_
     repeat' (first | go_big_quiet_skip | (go_big_quiet_want; first | (go_big_quiet_op; first | go_big_quiet_on | (apply Exists.intro; refine ⟨fun w1 hC => ?_, ?_⟩; (first | (go_at_call 60; with_reducible exact hC.call_same (HBL.out _ hC)) | (have y0 := HR0.out w1 hC; go_simp; exact rfl) | (have y0 := HE.out w1 hC; go_simp; exact rfl) | exact rfl | (go_simp; exact ⟨rfl, rfl⟩)); go_big_quiet_on))))
     all_goals refine wpQuiet_nil ?_
     all_goals intro W1 hC
     all_goals have HF := Lib.hid (HB.out.trans (hC.mono HLE.out))
     all_goals clear hC
     all_goals go_wp2_with fail
     all_goals go_ret
     all_goals exact ⟨ret_bool (by rw [← HR.out] <;> rfl), by first | exact HF.out | (rw [hg0]; exact HF.out)⟩
   · have HR : Hid ((false || b3) = vecB p i v) := Lib.hid (by rw [← hb3]; unfold vecB; rw [HBT.out, HN.out, decide_eq_false h32]; rfl)
     generalize vecB p i v = R at *
     have h32' : (x.ps.length : Int) ≤ 32 := by omega
     obtain ⟨a0, c0, e0⟩ := hP.cls.form
     have E0 := Lib.hid e0
     clear e0
     have HB : Hid (Below w.heap.size w (w.alloc (.cells #[q.v0, q.v1, q.v2, q.v3, q.v4, q.v5, q.v6, q.v7, q.v8, q.v9, q.v10, q.v11, q.v12, q.v13, q.v14, q.v15, q.v16] 39))) := Lib.hid ((Below.refl _ _).alloc (Nat.le_refl _) _)
     have HX0 : Hid (Blk (w.alloc (.cells #[q.v0, q.v1, q.v2, q.v3, q.v4, q.v5, q.v6, q.v7, q.v8, q.v9, q.v10, q.v11, q.v12, q.v13, q.v14, q.v15, q.v16] 39)) (w.heap.size) 39 #[q.v0, q.v1, q.v2, q.v3, q.v4, q.v5, q.v6, q.v7, q.v8, q.v9, q.v10, q.v11, q.v12, q.v13, q.v14, q.v15, q.v16]) := Lib.hid (Blk.here (by simp))
     have HQ : Hid (PolV (w.alloc (.cells #[q.v0, q.v1, q.v2, q.v3, q.v4, q.v5, q.v6, q.v7, q.v8, q.v9, q.v10, q.v11, q.v12, q.v13, q.v14, q.v15, q.v16] 39)) q p) := Lib.hid (hP.keep HB.out)
     have HLE : Hid (w.heap.size ≤ (w.alloc (.cells #[q.v0, q.v1, q.v2, q.v3, q.v4, q.v5, q.v6, q.v7, q.v8, q.v9, q.v10, q.v11, q.v12, q.v13, q.v14, q.v15, q.v16] 39)).heap.size) := Lib.hid HB.out.size
     try unfold PV.val
     go_enter Tryz.func58, Tryz.ntmps58
     go_upto_region 1 with fail
     generalize w.alloc (.cells #[q.v0, q.v1, q.v2, q.v3, q.v4, q.v5, q.v6, q.v7, q.v8, q.v9, q.v10, q.v11, q.v12, q.v13, q.v14, q.v15, q.v16] 39) = W at *
     generalize hg0 : w.heap.size = g0 at *
     have HR0 : Hid (∀ u, Kp W u → u.cell? ⟨g0, 0, none⟩ = some (.slice a0 p.cls.length c0)) := Lib.hid (fun u hu => pol_cell (HX0.out.keep hu) rfl E0.out)
     generalize Value.agg #[q.v0, q.v1, q.v2, q.v3, q.v4, q.v5, q.v6, q.v7, q.v8, q.v9, q.v10, q.v11, q.v12, q.v13, q.v14, q.v15, q.v16] = P0
     obtain ⟨g, oo, hak, hg, hE⟩ := (show SlR 2 CCl W (.slice a0 p.cls.length c0) p.cls by rw [← E0.out]; exact HQ.out.cls).row hlt
     subst hak
     have hE1 := hE i hlt
     rw [HXX.out] at hE1
     obtain ⟨-, ⟨va, hv1, hv2, -⟩, -⟩ := hE1
     obtain ⟨ap, cp, rfl⟩ := hv2.form
     have HE : Hid (∀ u, Kp W u → u.cell? ⟨g, oo + i * 2 + 1, none⟩ = some (.slice ap x.ps.length cp)) := Lib.hid (fun u hu => (Below.cell hu (p := ⟨g, oo + i * 2 + 1, none⟩) hg).trans hv1)
     clear hv1 hv2 hE hg
     have HBL : Hid (∀ u, Kp W u → Calls Tryz.prog 60 #[.int .i64 i, .int .i64 p.cls.length] u fun e w' => e = .returned (.bool true) ∧ w' = u) := Lib.hid (fun u _ => by rw [← HBT.out]; exact nbel_c _ _ u)
     refine wp_region_kq ?_
     repeat' (first | go_big_quiet_skip | (go_big_quiet_want; first | (go_big_quiet_op; first | go_big_quiet_on | (apply Exists.intro; refine ⟨fun w1 hC => ?_, ?_⟩; (first | (go_at_call 60; with_reducible exact hC.call_same (HBL.out _ hC)) | (have y0 := HR0.out w1 hC; go_simp; exact rfl) | (have y0 := HE.out w1 hC; go_simp; exact rfl) | exact rfl | (go_simp; exact ⟨rfl, rfl⟩)); go_big_quiet_on))))
     all_goals refine wpQuiet_nil ?_
     all_goals intro W1 hC
     all_goals have HF := Lib.hid (HB.out.trans (hC.mono HLE.out))
     all_goals clear hC
     all_goals go_wp2_with fail
     all_goals go_ret
     all_goals exact ⟨ret_bool (by rw [← HR.out] <;> rfl), by first | exact HF.out | (rw [hg0]; exact HF.out)⟩
 · have hbf : bel c p.cls.length = false := by unfold bel; rcases Classical.em (c < 0) with h | h; (rw [decide_eq_false (by omega)]; rfl); (rw [decide_eq_false (show ¬ c < (p.cls.length : Int) by omega), Bool.and_false])
   have HBF := Lib.hid hbf
   have HR : Hid (false = vecB p c v) := Lib.hid (by unfold vecB; rw [hbf]; rfl)
   generalize vecB p c v = R at *
   clear hc hbf
   have hlr : (p.cls.length : Int) ≤ 9223372036854775807 := by omega
   obtain ⟨a0, c0, e0⟩ := hP.cls.form
   have E0 := Lib.hid e0
   clear e0
   have HB : Hid (Below w.heap.size w (w.alloc (.cells #[q.v0, q.v1, q.v2, q.v3, q.v4, q.v5, q.v6, q.v7, q.v8, q.v9, q.v10, q.v11, q.v12, q.v13, q.v14, q.v15, q.v16] 39))) := Lib.hid ((Below.refl _ _).alloc (Nat.le_refl _) _)
   have HX0 : Hid (Blk (w.alloc (.cells #[q.v0, q.v1, q.v2, q.v3, q.v4, q.v5, q.v6, q.v7, q.v8, q.v9, q.v10, q.v11, q.v12, q.v13, q.v14, q.v15, q.v16] 39)) (w.heap.size) 39 #[q.v0, q.v1, q.v2, q.v3, q.v4, q.v5, q.v6, q.v7, q.v8, q.v9, q.v10, q.v11, q.v12, q.v13, q.v14, q.v15, q.v16]) := Lib.hid (Blk.here (by simp))
   have HQ : Hid (PolV (w.alloc (.cells #[q.v0, q.v1, q.v2, q.v3, q.v4, q.v5, q.v6, q.v7, q.v8, q.v9, q.v10, q.v11, q.v12, q.v13, q.v14, q.v15, q.v16] 39)) q p) := Lib.hid (hP.keep HB.out)
   have HLE : Hid (w.heap.size ≤ (w.alloc (.cells #[q.v0, q.v1, q.v2, q.v3, q.v4, q.v5, q.v6, q.v7, q.v8, q.v9, q.v10, q.v11, q.v12, q.v13, q.v14, q.v15, q.v16] 39)).heap.size) := Lib.hid HB.out.size
   try unfold PV.val
   go_enter Tryz.func58, Tryz.ntmps58
   go_upto_region 1 with fail
   generalize w.alloc (.cells #[q.v0, q.v1, q.v2, q.v3, q.v4, q.v5, q.v6, q.v7, q.v8, q.v9, q.v10, q.v11, q.v12, q.v13, q.v14, q.v15, q.v16] 39) = W at *
   generalize hg0 : w.heap.size = g0 at *
   have HR0 : Hid (∀ u, Kp W u → u.cell? ⟨g0, 0, none⟩ = some (.slice a0 p.cls.length c0)) := Lib.hid (fun u hu => pol_cell (HX0.out.keep hu) rfl E0.out)
   generalize Value.agg #[q.v0, q.v1, q.v2, q.v3, q.v4, q.v5, q.v6, q.v7, q.v8, q.v9, q.v10, q.v11, q.v12, q.v13, q.v14, q.v15, q.v16] = P0
   have HBL : Hid (∀ u, Kp W u → Calls Tryz.prog 60 #[.int .i64 c, .int .i64 p.cls.length] u fun e w' => e = .returned (.bool false) ∧ w' = u) := Lib.hid (fun u _ => by rw [← HBF.out]; exact nbel_c _ _ u)
   refine wp_region_kq ?_
   repeat' (first | go_big_quiet_skip | (go_big_quiet_want; first | (go_big_quiet_op; first | go_big_quiet_on | (apply Exists.intro; refine ⟨fun w1 hC => ?_, ?_⟩; (first | (go_at_call 60; with_reducible exact hC.call_same (HBL.out _ hC)) | (have y0 := HR0.out w1 hC; go_simp; exact rfl) | exact rfl | (go_simp; exact ⟨rfl, rfl⟩)); go_big_quiet_on))))
   all_goals refine wpQuiet_nil ?_
   all_goals intro W1 hC
   all_goals have HF := Lib.hid (HB.out.trans (hC.mono HLE.out))
   all_goals clear hC
   all_goals go_wp2_with fail
   all_goals go_ret
   all_goals exact ⟨ret_bool (by rw [← HR.out] <;> rfl), by first | exact HF.out | (rw [hg0]; exact HF.out)⟩
end Go.Proofs.YtbhoofihnmmmfabGreat
