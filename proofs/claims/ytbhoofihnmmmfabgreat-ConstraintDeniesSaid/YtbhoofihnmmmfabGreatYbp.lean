/- Part of the proof: Pnp. No conditions. -/
import Derived.Test.YtbhoofihnmmmfabGreatYbg
namespace Go.Proofs.YtbhoofihnmmmfabGreat
open Go.RowKit Go
set_option maxRecDepth 100000 in
set_option maxHeartbeats 16000000 in
theorem nchanges_c (q : PV) (p : PP) (w : World) (hP : PolV w q p) (hsm : SmP p) : Calls Tryz.prog 32 #[q.val] w fun e w' => ∃ c : Int, e = .returned (.int .i64 c) ∧ Below w.heap.size w w' := by
 have HSM := Lib.hid hsm
 have qrts : ((1024 : Int) < (p.rts.length : Int)) = False := eq_false (by have := HSM.out.rts; omega)
 have hIrts : (p.rts.length : Int) ≤ 9223372036854775807 := by have := HSM.out.rts; omega
 have qrgs : ((1024 : Int) < (p.rgs.length : Int)) = False := eq_false (by have := HSM.out.rgs; omega)
 have hIrgs : (p.rgs.length : Int) ≤ 9223372036854775807 := by have := HSM.out.rgs; omega
 have hItys : (p.tys.length : Int) ≤ 9223372036854775807 := by have := HSM.out.tys; omega
 have hIcls : (p.cls.length : Int) ≤ 9223372036854775807 := by have := HSM.out.cls; omega
 have hIros : (p.ros.length : Int) ≤ 9223372036854775807 := by have := HSM.out.ros; omega
 obtain ⟨a0, c0, e0⟩ := hP.cls.form
 have E0 := Lib.hid e0
 clear e0
 obtain ⟨a1, c1, e1⟩ := hP.tys.form
 have E1 := Lib.hid e1
 clear e1
 obtain ⟨a3, c3, e3⟩ := hP.ros.form
 have E3 := Lib.hid e3
 clear e3
 obtain ⟨a11, c11, e11⟩ := hP.rts.form
 have E11 := Lib.hid e11
 clear e11
 obtain ⟨a12, c12, e12⟩ := hP.rgs.form
 have E12 := Lib.hid e12
 clear e12
 obtain ⟨W, ZW⟩ : ∃ v, Hid ((w.alloc (.cells #[q.v0, q.v1, q.v2, q.v3, q.v4, q.v5, q.v6, q.v7, q.v8, q.v9, q.v10, q.v11, q.v12, q.v13, q.v14, q.v15, q.v16] 39)) = v) := ⟨_, Lib.hid rfl⟩
 have HB : Hid (Below w.heap.size w W) := by cases ZW.out; exact Lib.hid ((Below.refl _ _).alloc (Nat.le_refl _) _)
 have HX0 : Hid (Blk W (w.heap.size) 39 #[q.v0, q.v1, q.v2, q.v3, q.v4, q.v5, q.v6, q.v7, q.v8, q.v9, q.v10, q.v11, q.v12, q.v13, q.v14, q.v15, q.v16]) := by cases ZW.out; exact Lib.hid (Blk.here (by simp))
 have HQ : Hid (PolV W q p) := by cases ZW.out; exact Lib.hid (hP.keep HB.out)
 have HLE : Hid (w.heap.size ≤ W.heap.size) := by cases ZW.out; exact Lib.hid HB.out.size
 try unfold PV.val
 go_enter Tryz.func32, Tryz.ntmps32
 go_upto_region 1 with fail
 rw [ZW.out]
 generalize hg0 : w.heap.size = g0 at *
 have HR0 : Hid (∀ u, Kp W u → u.cell? ⟨g0, 0, none⟩ = some (.slice a0 p.cls.length c0)) := Lib.hid (fun u hu => pol_cell (HX0.out.keep hu) rfl E0.out)
 have HR1 : Hid (∀ u, Kp W u → u.cell? ⟨g0, 1, none⟩ = some (.slice a1 p.tys.length c1)) := Lib.hid (fun u hu => pol_cell (HX0.out.keep hu) rfl E1.out)
 have HR3 : Hid (∀ u, Kp W u → u.cell? ⟨g0, 3, none⟩ = some (.slice a3 p.ros.length c3)) := Lib.hid (fun u hu => pol_cell (HX0.out.keep hu) rfl E3.out)
 have HR11 : Hid (∀ u, Kp W u → u.cell? ⟨g0, 11, none⟩ = some (.slice a11 p.rts.length c11)) := Lib.hid (fun u hu => pol_cell (HX0.out.keep hu) rfl E11.out)
 have HR12 : Hid (∀ u, Kp W u → u.cell? ⟨g0, 12, none⟩ = some (.slice a12 p.rgs.length c12)) := Lib.hid (fun u hu => pol_cell (HX0.out.keep hu) rfl E12.out)
 generalize Value.agg #[q.v0, q.v1, q.v2, q.v3, q.v4, q.v5, q.v6, q.v7, q.v8, q.v9, q.v10, q.v11, q.v12, q.v13, q.v14, q.v15, q.v16] = P0
 clear hP
 have HL11 : Hid (SlR 10 CRt W (.slice a11 p.rts.length c11) p.rts) := Lib.hid (by rw [← E11.out]; exact HQ.out.rts)
 have HL12 : Hid (SlR 13 CRg W (.slice a12 p.rgs.length c12) p.rgs) := Lib.hid (by rw [← E12.out]; exact HQ.out.rgs)
 have r11 := HR11.out W Kp.rfl'
 go_wp2_with fail
 clear r11
 go_loopw [3] (fun vi wr => ∃ (i : Nat), i ≤ p.rts.length ∧ vi = .int .i64 i ∧ Hid (Kp W wr)) (fun vi _ => p.rts.length - (intOf vi).toNat)
 case atStart => exact ⟨0, Nat.zero_le _, rfl, Lib.hid Kp.rfl'⟩
 case round =>
  obtain ⟨i, hi, rfl, HK⟩ := hrel
  have r11 := HR11.out wr HK.out
  by_cases hlt : i < p.rts.length
  · have hlt' : (i : Int) < (p.rts.length : Int) := by omega
    obtain ⟨x, hx⟩ : ∃ x, p.rts[i] = x := ⟨_, rfl⟩
    obtain ⟨g, oo, hak, hg, hE⟩ := HL11.out.row hlt
    subst hak
    have hE1 := hE i hlt
    rw [hx] at hE1
    obtain ⟨m0, m1, m2, m3, m4, m5, m6, m7, m8, m9, mw⟩ := hE1.keep HK.out hg
    have HMWW := Lib.hid mw
    clear hx hg hE hE1 mw
    go_upto_region 7 with fail
    obtain ⟨WX, hWX⟩ : ∃ u, wr.alloc (.cells #[.int .u64 x.rs.a, .int .u64 x.rs.b, .int .u64 x.rs.c, .int .u64 x.rs.d, .int .u64 x.ts.a, .int .u64 x.ts.b, .int .u64 x.ts.c, .int .u64 x.ts.d, .int .i64 x.cl, .int .i64 x.res] 130) = u := ⟨_, rfl⟩
    have HBX : Hid (Blk WX wr.heap.size 130 #[.int .u64 x.rs.a, .int .u64 x.rs.b, .int .u64 x.rs.c, .int .u64 x.rs.d, .int .u64 x.ts.a, .int .u64 x.ts.b, .int .u64 x.ts.c, .int .u64 x.ts.d, .int .i64 x.cl, .int .i64 x.res]) := Lib.hid (by rw [← hWX]; exact Blk.new _ _ _)
    have HKX : Hid (Kp W WX) := Lib.hid (by rw [← hWX]; exact HK.out.alloc _)
    rw [hWX]
    clear r11 m0 m1 m2 m3 m4 m5 m6 m7 m8 m9
    generalize wr.heap.size = gx at *
    clear hWX
    have HBU : Hid (∀ u, Kp WX u → Blk u gx 130 #[.int .u64 x.rs.a, .int .u64 x.rs.b, .int .u64 x.rs.c, .int .u64 x.rs.d, .int .u64 x.ts.a, .int .u64 x.ts.b, .int .u64 x.ts.c, .int .u64 x.ts.d, .int .i64 x.cl, .int .i64 x.res]) := Lib.hid (fun u hu => HBX.out.keep hu)
    have HWX : Hid (∀ u, Kp WX u → Kp W u) := Lib.hid (fun u hu => kp_trans HKX.out hu)
    obtain ⟨rn, hrn⟩ : ∃ z, same4 x.rs.a x.rs.b x.rs.c x.rs.d 0 0 0 0 = z := ⟨_, rfl⟩
    obtain ⟨ok, hok⟩ : ∃ z, procB p x.rs = z := ⟨_, rfl⟩
    obtain ⟨t1, ht1⟩ : ∃ z, someN x.ts = z := ⟨_, rfl⟩
    obtain ⟨t2, ht2⟩ : ∃ z, someW x.ts p.tys.length = z := ⟨_, rfl⟩
    obtain ⟨c1, hc1⟩ : ∃ z, bel x.cl p.cls.length = z := ⟨_, rfl⟩
    obtain ⟨c2, hc2⟩ : ∃ z, bel x.res p.ros.length = z := ⟨_, rfl⟩
    obtain ⟨rz, hrz⟩ : ∃ z, (x.res == 0) = z := ⟨_, rfl⟩
    have HC1 : Hid (∀ u, Kp W u → Calls Tryz.prog 53 #[q.val, .agg #[.int .u64 x.rs.a, .int .u64 x.rs.b, .int .u64 x.rs.c, .int .u64 x.rs.d]] u fun e w' => e = .returned (.bool ok) ∧ Below u.heap.size u w') := Lib.hid (fun u hu => by rw [← hok]; exact nproc_c q p x.rs u (HQ.out.keep hu) (by have := HSM.out.ros; omega))
    have HC2 : Hid (∀ u, Kp W u → Calls Tryz.prog 50 #[.agg #[.int .u64 x.ts.a, .int .u64 x.ts.b, .int .u64 x.ts.c, .int .u64 x.ts.d], .int .i64 p.tys.length] u fun e w' => e = .returned (.tuple #[.bool t1, .bool t2]) ∧ Below u.heap.size u w') := Lib.hid (fun u hu => by rw [← ht1, ← ht2]; exact nsome_c x.ts _ u (by omega) (by have := HSM.out.tys; omega))
    have HC3 : Hid (∀ u, Kp W u → Calls Tryz.prog 60 #[.int .i64 x.cl, .int .i64 p.cls.length] u fun e w' => e = .returned (.bool c1) ∧ w' = u) := Lib.hid (fun u hu => by rw [← hc1]; exact nbel_c _ _ u)
    have HC4 : Hid (∀ u, Kp W u → Calls Tryz.prog 60 #[.int .i64 x.res, .int .i64 p.ros.length] u fun e w' => e = .returned (.bool c2) ∧ w' = u) := Lib.hid (fun u hu => by rw [← hc2]; exact nbel_c _ _ u)
    try clear hok ht1 ht2 hc1 hc2
    all_goals refine wp_region_kp (by kernel_rfl) (by kernel_rfl) ?_
    repeat' (first | go_big_quiet_skip | (go_big_quiet_want; first | (refine quiet_load (t := 39) (.tmp 1) rfl rfl (fun w1 hC => loadAt_pol (HX0.out.keep (HWX.out _ hC))) ?_; simp only [Act.put, List.setIfInBounds_toArray, List.set_cons_succ, List.set_cons_zero]; go_big_quiet_on) | (go_big_quiet_op; first | go_big_quiet_on | (apply Exists.intro; refine ⟨fun w1 hC => ?_, ?_⟩; (first | (go_at_call 53; with_reducible exact hC.call (HC1.out _ (HWX.out _ hC))) | (have z0 := (HBU.out w1 hC).cell 0; have z1 := (HBU.out w1 hC).cell 1; have z2 := (HBU.out w1 hC).cell 2; have z3 := (HBU.out w1 hC).cell 3; have z4 := (HBU.out w1 hC).cell 4; have z5 := (HBU.out w1 hC).cell 5; have z6 := (HBU.out w1 hC).cell 6; have z7 := (HBU.out w1 hC).cell 7; have z8 := (HBU.out w1 hC).cell 8; have z9 := (HBU.out w1 hC).cell 9; go_simp; exact rfl) | exact rfl | (go_simp; exact ⟨rfl, rfl⟩)); go_big_quiet_on))))
    all_goals refine wpQuiet_nil ?_
    all_goals intro ZW1 hC
    all_goals have HF1 := Lib.hid (HB.out.trans (Below.mono (HWX.out _ hC) HLE.out))
    all_goals have HT1 : Hid (∀ u, Kp ZW1 u → Kp W u) := Lib.hid (fun u hu => kp_trans (HWX.out _ hC) hu)
    all_goals have HY1 : Hid (∀ u, Kp ZW1 u → Kp WX u) := Lib.hid (fun u hu => kp_trans hC hu)
    all_goals clear hC
    all_goals (go_upto_region 8 with fail
               all_goals refine wp_region_kq ?_
               repeat' (first | go_big_quiet_skip | (go_big_quiet_want; first | (go_big_quiet_op; first | go_big_quiet_on | (apply Exists.intro; refine ⟨fun w1 hC => ?_, ?_⟩; (first | (go_at_call 50; with_reducible exact hC.call (HC2.out _ (HT1.out _ hC))) | (have z0 := (HBU.out w1 (HY1.out _ hC)).cell 0; have z1 := (HBU.out w1 (HY1.out _ hC)).cell 1; have z2 := (HBU.out w1 (HY1.out _ hC)).cell 2; have z3 := (HBU.out w1 (HY1.out _ hC)).cell 3; have z4 := (HBU.out w1 (HY1.out _ hC)).cell 4; have z5 := (HBU.out w1 (HY1.out _ hC)).cell 5; have z6 := (HBU.out w1 (HY1.out _ hC)).cell 6; have z7 := (HBU.out w1 (HY1.out _ hC)).cell 7; have z8 := (HBU.out w1 (HY1.out _ hC)).cell 8; have z9 := (HBU.out w1 (HY1.out _ hC)).cell 9; go_simp; exact rfl) | (have y1 := HR1.out w1 (HT1.out _ hC); go_simp; exact rfl) | exact rfl | (go_simp; exact ⟨rfl, rfl⟩)); go_big_quiet_on))))
               all_goals refine wpQuiet_nil ?_
               all_goals intro ZW2 hC
               all_goals have HF2 := Lib.hid (HB.out.trans (Below.mono (HT1.out _ hC) HLE.out))
               all_goals have HT2 : Hid (∀ u, Kp ZW2 u → Kp W u) := Lib.hid (fun u hu => kp_trans (HT1.out _ hC) hu)
               all_goals have HY2 : Hid (∀ u, Kp ZW2 u → Kp WX u) := Lib.hid (fun u hu => kp_trans (HY1.out _ hC) hu)
               all_goals clear hC
               all_goals (go_upto_region 9 with fail
                          all_goals refine wp_region_kq ?_
                          repeat' (first | go_big_quiet_skip | (go_big_quiet_want; first | (go_big_quiet_op; first | go_big_quiet_on | (apply Exists.intro; refine ⟨fun w1 hC => ?_, ?_⟩; (first | (go_at_call 60; with_reducible exact hC.call_same (HC3.out _ (HT2.out _ hC))) | (go_at_call 60; with_reducible exact hC.call_same (HC4.out _ (HT2.out _ hC))) | (have z0 := (HBU.out w1 (HY2.out _ hC)).cell 0; have z1 := (HBU.out w1 (HY2.out _ hC)).cell 1; have z2 := (HBU.out w1 (HY2.out _ hC)).cell 2; have z3 := (HBU.out w1 (HY2.out _ hC)).cell 3; have z4 := (HBU.out w1 (HY2.out _ hC)).cell 4; have z5 := (HBU.out w1 (HY2.out _ hC)).cell 5; have z6 := (HBU.out w1 (HY2.out _ hC)).cell 6; have z7 := (HBU.out w1 (HY2.out _ hC)).cell 7; have z8 := (HBU.out w1 (HY2.out _ hC)).cell 8; have z9 := (HBU.out w1 (HY2.out _ hC)).cell 9; go_simp; exact rfl) | (have y0 := HR0.out w1 (HT2.out _ hC); go_simp; exact rfl) | (have y3 := HR3.out w1 (HT2.out _ hC); go_simp; exact rfl) | exact rfl | (go_simp; exact ⟨rfl, rfl⟩)); go_big_quiet_on))) | (cases ok <;> try simp only [Bool.not_true, Bool.not_false]) | (cases t2 <;> try simp only [Bool.not_true, Bool.not_false]) | (cases c1 <;> try simp only [Bool.not_true, Bool.not_false]) | (cases c2 <;> try simp only [Bool.not_true, Bool.not_false]) | (cases rz <;> try simp only [Bool.not_true, Bool.not_false]))
                          all_goals refine wpQuiet_nil ?_
                          all_goals intro ZW3 hC
                          all_goals have HF3 := Lib.hid (HB.out.trans (Below.mono (HT2.out _ hC) HLE.out))
                          all_goals have HT3 : Hid (∀ u, Kp ZW3 u → Kp W u) := Lib.hid (fun u hu => kp_trans (HT2.out _ hC) hu)
                          all_goals have HY3 : Hid (∀ u, Kp ZW3 u → Kp WX u) := Lib.hid (fun u hu => kp_trans (HY2.out _ hC) hu)
                          all_goals clear hC
                          all_goals first
                           | (go_wp2_with fail
                              go_ret
                              first | exact ⟨⟨_, rfl⟩, HF3.out⟩ | exact ⟨⟨_, rfl⟩, by rw [hg0]; exact HF3.out⟩ | exact ⟨_, rfl, HF3.out⟩ | exact ⟨_, rfl, by rw [hg0]; exact HF3.out⟩
                              done)
                           | (go_upto_region 11 with fail
                              all_goals refine wp_region_kq ?_
                              repeat' (first | go_big_quiet_skip | (go_big_quiet_want; first | (go_big_quiet_op; first | go_big_quiet_on | (apply Exists.intro; refine ⟨fun w1 hC => ?_, ?_⟩; (first | exact rfl | (go_simp; exact ⟨rfl, rfl⟩)); go_big_quiet_on))) | (cases rn <;> try simp only [Bool.not_true, Bool.not_false]) | (cases t1 <;> try simp only [Bool.not_true, Bool.not_false]))
                              all_goals refine wpQuiet_nil ?_
                              all_goals intro ZW4 hC
                              all_goals have HF4 := Lib.hid (HB.out.trans (Below.mono (HT3.out _ hC) HLE.out))
                              all_goals have HT4 : Hid (∀ u, Kp ZW4 u → Kp W u) := Lib.hid (fun u hu => kp_trans (HT3.out _ hC) hu)
                              all_goals have HY4 : Hid (∀ u, Kp ZW4 u → Kp WX u) := Lib.hid (fun u hu => kp_trans (HY3.out _ hC) hu)
                              all_goals clear hC
                              all_goals first
                               | (go_wp2_with fail
                                  go_ret
                                  first | exact ⟨⟨_, rfl⟩, HF4.out⟩ | exact ⟨⟨_, rfl⟩, by rw [hg0]; exact HF4.out⟩ | exact ⟨_, rfl, HF4.out⟩ | exact ⟨_, rfl, by rw [hg0]; exact HF4.out⟩
                                  done)
                               | (go_wp2_with fail
                                  go_roundw
                                  case rel => exact ⟨i + 1, hlt, by go_num, Lib.hid (HT4.out _ Kp.rfl')⟩
                                  case measure => simp [intOf]; omega))))
  · have hlt' : ¬ (i : Int) < (p.rts.length : Int) := by omega
    have HF := Lib.hid (HB.out.trans (Below.mono HK.out HLE.out))
    generalize wr = wq at *
    have HKQ := HK
    have r12 := HR12.out wq HKQ.out
    go_wp2_with fail
    clear r12
    go_loopw [9] (fun vi wr => ∃ (i : Nat), i ≤ p.rgs.length ∧ vi = .int .i64 i ∧ Hid (Kp W wr)) (fun vi _ => p.rgs.length - (intOf vi).toNat)
    case atStart => exact ⟨0, Nat.zero_le _, rfl, Lib.hid HKQ.out⟩
    case round =>
     obtain ⟨i, hi, rfl, HK⟩ := hrel
     have r12 := HR12.out wr HK.out
     by_cases hlt : i < p.rgs.length
     · have hlt' : (i : Int) < (p.rgs.length : Int) := by omega
       obtain ⟨x, hx⟩ : ∃ x, p.rgs[i] = x := ⟨_, rfl⟩
       obtain ⟨g, oo, hak, hg, hE⟩ := HL12.out.row hlt
       subst hak
       have hE1 := hE i hlt
       rw [hx] at hE1
       obtain ⟨m0, m1, m2, m3, m4, m5, m6, m7, m8, m9, m10, m11, m12, mw⟩ := hE1.keep HK.out hg
       have HMWW := Lib.hid mw
       clear hx hg hE hE1 mw
       go_upto_region 19 with fail
       obtain ⟨WX, hWX⟩ : ∃ u, wr.alloc (.cells #[.int .u64 x.src.a, .int .u64 x.src.b, .int .u64 x.src.c, .int .u64 x.src.d, .int .u64 x.tgt.a, .int .u64 x.tgt.b, .int .u64 x.tgt.c, .int .u64 x.tgt.d, .int .i64 x.cl, .int .i64 x.lo.s, .int .u64 x.lo.c, .int .i64 x.hi.s, .int .u64 x.hi.c] 132) = u := ⟨_, rfl⟩
       have HBX : Hid (Blk WX wr.heap.size 132 #[.int .u64 x.src.a, .int .u64 x.src.b, .int .u64 x.src.c, .int .u64 x.src.d, .int .u64 x.tgt.a, .int .u64 x.tgt.b, .int .u64 x.tgt.c, .int .u64 x.tgt.d, .int .i64 x.cl, .int .i64 x.lo.s, .int .u64 x.lo.c, .int .i64 x.hi.s, .int .u64 x.hi.c]) := Lib.hid (by rw [← hWX]; exact Blk.new _ _ _)
       have HKX : Hid (Kp W WX) := Lib.hid (by rw [← hWX]; exact HK.out.alloc _)
       rw [hWX]
       clear r12 m0 m1 m2 m3 m4 m5 m6 m7 m8 m9 m10 m11 m12
       generalize wr.heap.size = gx at *
       clear hWX
       have HBU : Hid (∀ u, Kp WX u → Blk u gx 132 #[.int .u64 x.src.a, .int .u64 x.src.b, .int .u64 x.src.c, .int .u64 x.src.d, .int .u64 x.tgt.a, .int .u64 x.tgt.b, .int .u64 x.tgt.c, .int .u64 x.tgt.d, .int .i64 x.cl, .int .i64 x.lo.s, .int .u64 x.lo.c, .int .i64 x.hi.s, .int .u64 x.hi.c]) := Lib.hid (fun u hu => HBX.out.keep hu)
       have HWX : Hid (∀ u, Kp WX u → Kp W u) := Lib.hid (fun u hu => kp_trans HKX.out hu)
       obtain ⟨s1, hs1⟩ : ∃ z, someN x.src = z := ⟨_, rfl⟩
       obtain ⟨s2, hs2⟩ : ∃ z, someW x.src p.tys.length = z := ⟨_, rfl⟩
       obtain ⟨t1, ht1⟩ : ∃ z, someN x.tgt = z := ⟨_, rfl⟩
       obtain ⟨t2, ht2⟩ : ∃ z, someW x.tgt p.tys.length = z := ⟨_, rfl⟩
       obtain ⟨c1, hc1⟩ : ∃ z, bel x.cl p.cls.length = z := ⟨_, rfl⟩
       obtain ⟨rg, hrg⟩ : ∃ z, rngB p x.lo x.hi = z := ⟨_, rfl⟩
       have HC1 : Hid (∀ u, Kp W u → Calls Tryz.prog 50 #[.agg #[.int .u64 x.src.a, .int .u64 x.src.b, .int .u64 x.src.c, .int .u64 x.src.d], .int .i64 p.tys.length] u fun e w' => e = .returned (.tuple #[.bool s1, .bool s2]) ∧ Below u.heap.size u w') := Lib.hid (fun u hu => by rw [← hs1, ← hs2]; exact nsome_c x.src _ u (by omega) (by have := HSM.out.tys; omega))
       have HC2 : Hid (∀ u, Kp W u → Calls Tryz.prog 50 #[.agg #[.int .u64 x.tgt.a, .int .u64 x.tgt.b, .int .u64 x.tgt.c, .int .u64 x.tgt.d], .int .i64 p.tys.length] u fun e w' => e = .returned (.tuple #[.bool t1, .bool t2]) ∧ Below u.heap.size u w') := Lib.hid (fun u hu => by rw [← ht1, ← ht2]; exact nsome_c x.tgt _ u (by omega) (by have := HSM.out.tys; omega))
       have HC3 : Hid (∀ u, Kp W u → Calls Tryz.prog 60 #[.int .i64 x.cl, .int .i64 p.cls.length] u fun e w' => e = .returned (.bool c1) ∧ w' = u) := Lib.hid (fun u hu => by rw [← hc1]; exact nbel_c _ _ u)
       have HC4 : Hid (∀ u, Kp W u → Calls Tryz.prog 54 #[q.val, .agg #[.int .i64 x.lo.s, .int .u64 x.lo.c, .int .i64 x.hi.s, .int .u64 x.hi.c]] u fun e w' => e = .returned (.bool rg) ∧ Below u.heap.size u w') := Lib.hid (fun u hu => by rw [← hrg]; exact nrange_c q p x.lo x.hi u (HQ.out.keep hu) (by have := HSM.out.cats; omega) (by have := HSM.out.sens; omega))
       try clear hs1 hs2 ht1 ht2 hc1 hrg
       all_goals refine wp_region_kq ?_
       repeat' (first | go_big_quiet_skip | (go_big_quiet_want; first | (go_big_quiet_op; first | go_big_quiet_on | (apply Exists.intro; refine ⟨fun w1 hC => ?_, ?_⟩; (first | (go_at_call 50; with_reducible exact hC.call (HC1.out _ (HWX.out _ hC))) | (have z0 := (HBU.out w1 hC).cell 0; have z1 := (HBU.out w1 hC).cell 1; have z2 := (HBU.out w1 hC).cell 2; have z3 := (HBU.out w1 hC).cell 3; have z4 := (HBU.out w1 hC).cell 4; have z5 := (HBU.out w1 hC).cell 5; have z6 := (HBU.out w1 hC).cell 6; have z7 := (HBU.out w1 hC).cell 7; have z8 := (HBU.out w1 hC).cell 8; have z9 := (HBU.out w1 hC).cell 9; have z10 := (HBU.out w1 hC).cell 10; have z11 := (HBU.out w1 hC).cell 11; have z12 := (HBU.out w1 hC).cell 12; go_simp; exact rfl) | (have y1 := HR1.out w1 (HWX.out _ hC); go_simp; exact rfl) | exact rfl | (go_simp; exact ⟨rfl, rfl⟩)); go_big_quiet_on))))
       all_goals refine wpQuiet_nil ?_
       all_goals intro ZW1 hC
       all_goals have HF1 := Lib.hid (HB.out.trans (Below.mono (HWX.out _ hC) HLE.out))
       all_goals have HT1 : Hid (∀ u, Kp ZW1 u → Kp W u) := Lib.hid (fun u hu => kp_trans (HWX.out _ hC) hu)
       all_goals have HY1 : Hid (∀ u, Kp ZW1 u → Kp WX u) := Lib.hid (fun u hu => kp_trans hC hu)
       all_goals clear hC
       all_goals (go_upto_region 20 with fail
                  all_goals refine wp_region_kq ?_
                  repeat' (first | go_big_quiet_skip | (go_big_quiet_want; first | (go_big_quiet_op; first | go_big_quiet_on | (apply Exists.intro; refine ⟨fun w1 hC => ?_, ?_⟩; (first | (go_at_call 50; with_reducible exact hC.call (HC2.out _ (HT1.out _ hC))) | (have z0 := (HBU.out w1 (HY1.out _ hC)).cell 0; have z1 := (HBU.out w1 (HY1.out _ hC)).cell 1; have z2 := (HBU.out w1 (HY1.out _ hC)).cell 2; have z3 := (HBU.out w1 (HY1.out _ hC)).cell 3; have z4 := (HBU.out w1 (HY1.out _ hC)).cell 4; have z5 := (HBU.out w1 (HY1.out _ hC)).cell 5; have z6 := (HBU.out w1 (HY1.out _ hC)).cell 6; have z7 := (HBU.out w1 (HY1.out _ hC)).cell 7; have z8 := (HBU.out w1 (HY1.out _ hC)).cell 8; have z9 := (HBU.out w1 (HY1.out _ hC)).cell 9; have z10 := (HBU.out w1 (HY1.out _ hC)).cell 10; have z11 := (HBU.out w1 (HY1.out _ hC)).cell 11; have z12 := (HBU.out w1 (HY1.out _ hC)).cell 12; go_simp; exact rfl) | (have y1 := HR1.out w1 (HT1.out _ hC); go_simp; exact rfl) | exact rfl | (go_simp; exact ⟨rfl, rfl⟩)); go_big_quiet_on))))
                  all_goals refine wpQuiet_nil ?_
                  all_goals intro ZW2 hC
                  all_goals have HF2 := Lib.hid (HB.out.trans (Below.mono (HT1.out _ hC) HLE.out))
                  all_goals have HT2 : Hid (∀ u, Kp ZW2 u → Kp W u) := Lib.hid (fun u hu => kp_trans (HT1.out _ hC) hu)
                  all_goals have HY2 : Hid (∀ u, Kp ZW2 u → Kp WX u) := Lib.hid (fun u hu => kp_trans (HY1.out _ hC) hu)
                  all_goals clear hC
                  all_goals (go_upto_region 21 with fail
                             all_goals refine wp_region_kq ?_
                             repeat' (first | go_big_quiet_skip | (go_big_quiet_want; first | (go_big_quiet_op; first | go_big_quiet_on | (apply Exists.intro; refine ⟨fun w1 hC => ?_, ?_⟩; (first | (go_at_call 60; with_reducible exact hC.call_same (HC3.out _ (HT2.out _ hC))) | (have z0 := (HBU.out w1 (HY2.out _ hC)).cell 0; have z1 := (HBU.out w1 (HY2.out _ hC)).cell 1; have z2 := (HBU.out w1 (HY2.out _ hC)).cell 2; have z3 := (HBU.out w1 (HY2.out _ hC)).cell 3; have z4 := (HBU.out w1 (HY2.out _ hC)).cell 4; have z5 := (HBU.out w1 (HY2.out _ hC)).cell 5; have z6 := (HBU.out w1 (HY2.out _ hC)).cell 6; have z7 := (HBU.out w1 (HY2.out _ hC)).cell 7; have z8 := (HBU.out w1 (HY2.out _ hC)).cell 8; have z9 := (HBU.out w1 (HY2.out _ hC)).cell 9; have z10 := (HBU.out w1 (HY2.out _ hC)).cell 10; have z11 := (HBU.out w1 (HY2.out _ hC)).cell 11; have z12 := (HBU.out w1 (HY2.out _ hC)).cell 12; go_simp; exact rfl) | (have y0 := HR0.out w1 (HT2.out _ hC); go_simp; exact rfl) | exact rfl | (go_simp; exact ⟨rfl, rfl⟩)); go_big_quiet_on))) | (cases s2 <;> try simp only [Bool.not_true, Bool.not_false]) | (cases t2 <;> try simp only [Bool.not_true, Bool.not_false]) | (cases c1 <;> try simp only [Bool.not_true, Bool.not_false]))
                             all_goals refine wpQuiet_nil ?_
                             all_goals intro ZW3 hC
                             all_goals have HF3 := Lib.hid (HB.out.trans (Below.mono (HT2.out _ hC) HLE.out))
                             all_goals have HT3 : Hid (∀ u, Kp ZW3 u → Kp W u) := Lib.hid (fun u hu => kp_trans (HT2.out _ hC) hu)
                             all_goals have HY3 : Hid (∀ u, Kp ZW3 u → Kp WX u) := Lib.hid (fun u hu => kp_trans (HY2.out _ hC) hu)
                             all_goals clear hC
                             all_goals first
                              | (go_wp2_with fail
                                 go_ret
                                 first | exact ⟨⟨_, rfl⟩, HF3.out⟩ | exact ⟨⟨_, rfl⟩, by rw [hg0]; exact HF3.out⟩ | exact ⟨_, rfl, HF3.out⟩ | exact ⟨_, rfl, by rw [hg0]; exact HF3.out⟩
                                 done)
                              | (go_upto_region 23 with fail
                                 all_goals refine wp_region_kq ?_
                                 repeat' (first | go_big_quiet_skip | (go_big_quiet_want; first | (go_big_quiet_op; first | go_big_quiet_on | (apply Exists.intro; refine ⟨fun w1 hC => ?_, ?_⟩; (first | exact rfl | (go_simp; exact ⟨rfl, rfl⟩)); go_big_quiet_on))) | (cases s1 <;> try simp only [Bool.not_true, Bool.not_false]) | (cases t1 <;> try simp only [Bool.not_true, Bool.not_false]))
                                 all_goals refine wpQuiet_nil ?_
                                 all_goals intro ZW4 hC
                                 all_goals have HF4 := Lib.hid (HB.out.trans (Below.mono (HT3.out _ hC) HLE.out))
                                 all_goals have HT4 : Hid (∀ u, Kp ZW4 u → Kp W u) := Lib.hid (fun u hu => kp_trans (HT3.out _ hC) hu)
                                 all_goals have HY4 : Hid (∀ u, Kp ZW4 u → Kp WX u) := Lib.hid (fun u hu => kp_trans (HY3.out _ hC) hu)
                                 all_goals clear hC
                                 all_goals first
                                  | (go_wp2_with fail
                                     go_ret
                                     first | exact ⟨⟨_, rfl⟩, HF4.out⟩ | exact ⟨⟨_, rfl⟩, by rw [hg0]; exact HF4.out⟩ | exact ⟨_, rfl, HF4.out⟩ | exact ⟨_, rfl, by rw [hg0]; exact HF4.out⟩
                                     done)
                                  | (go_upto_region 25 with fail
                                     all_goals refine wp_region_kq ?_
                                     repeat' (first | go_big_quiet_skip | (go_big_quiet_want; first | (refine quiet_load (t := 39) (.tmp 1) rfl rfl (fun w1 hC => loadAt_pol (HX0.out.keep (HT4.out _ hC))) ?_; simp only [Act.put, List.setIfInBounds_toArray, List.set_cons_succ, List.set_cons_zero]; go_big_quiet_on) | (go_big_quiet_op; first | go_big_quiet_on | (apply Exists.intro; refine ⟨fun w1 hC => ?_, ?_⟩; (first | (go_at_call 54; with_reducible exact hC.call (HC4.out _ (HT4.out _ hC))) | (have z0 := (HBU.out w1 (HY4.out _ hC)).cell 0; have z1 := (HBU.out w1 (HY4.out _ hC)).cell 1; have z2 := (HBU.out w1 (HY4.out _ hC)).cell 2; have z3 := (HBU.out w1 (HY4.out _ hC)).cell 3; have z4 := (HBU.out w1 (HY4.out _ hC)).cell 4; have z5 := (HBU.out w1 (HY4.out _ hC)).cell 5; have z6 := (HBU.out w1 (HY4.out _ hC)).cell 6; have z7 := (HBU.out w1 (HY4.out _ hC)).cell 7; have z8 := (HBU.out w1 (HY4.out _ hC)).cell 8; have z9 := (HBU.out w1 (HY4.out _ hC)).cell 9; have z10 := (HBU.out w1 (HY4.out _ hC)).cell 10; have z11 := (HBU.out w1 (HY4.out _ hC)).cell 11; have z12 := (HBU.out w1 (HY4.out _ hC)).cell 12; go_simp; exact rfl) | exact rfl | (go_simp; exact ⟨rfl, rfl⟩)); go_big_quiet_on))) | (cases rg <;> try simp only [Bool.not_true, Bool.not_false]))
                                     all_goals refine wpQuiet_nil ?_
                                     all_goals intro ZW5 hC
                                     all_goals have HF5 := Lib.hid (HB.out.trans (Below.mono (HT4.out _ hC) HLE.out))
                                     all_goals have HT5 : Hid (∀ u, Kp ZW5 u → Kp W u) := Lib.hid (fun u hu => kp_trans (HT4.out _ hC) hu)
                                     all_goals have HY5 : Hid (∀ u, Kp ZW5 u → Kp WX u) := Lib.hid (fun u hu => kp_trans (HY4.out _ hC) hu)
                                     all_goals clear hC
                                     all_goals first
                                      | (go_wp2_with fail
                                         go_ret
                                         first | exact ⟨⟨_, rfl⟩, HF5.out⟩ | exact ⟨⟨_, rfl⟩, by rw [hg0]; exact HF5.out⟩ | exact ⟨_, rfl, HF5.out⟩ | exact ⟨_, rfl, by rw [hg0]; exact HF5.out⟩
                                         done)
                                      | (go_wp2_with fail
                                         go_roundw
                                         case rel => exact ⟨i + 1, hlt, by go_num, Lib.hid (HT5.out _ Kp.rfl')⟩
                                         case measure => simp [intOf]; omega)))))
     · have hlt' : ¬ (i : Int) < (p.rgs.length : Int) := by omega
       have HF := Lib.hid (HB.out.trans (Below.mono HK.out HLE.out))
       go_wp2_with fail
       go_ret
       first | exact ⟨⟨_, rfl⟩, HF.out⟩ | exact ⟨⟨_, rfl⟩, by rw [hg0]; exact HF.out⟩ | exact ⟨_, rfl, HF.out⟩ | exact ⟨_, rfl, by rw [hg0]; exact HF.out⟩
end Go.Proofs.YtbhoofihnmmmfabGreat
