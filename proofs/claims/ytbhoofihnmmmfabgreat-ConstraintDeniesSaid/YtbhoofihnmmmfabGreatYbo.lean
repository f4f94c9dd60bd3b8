/- Part of the proof: Pno. No conditions. -/
import Derived.Test.YtbhoofihnmmmfabGreatYbg
namespace Go.Proofs.YtbhoofihnmmmfabGreat
open Go.RowKit Go
set_option maxRecDepth 100000 in
set_option maxHeartbeats 16000000 in
theorem nrules_c (q : PV) (p : PP) (w : World) (hP : PolV w q p) (hsm : SmP p) : Calls Tryz.prog 30 #[q.val] w fun e w' => ∃ c : Int, e = .returned (.int .i64 c) ∧ Below w.heap.size w w' := by
 have HSM := Lib.hid hsm
 have qcds : ((64 : Int) < (p.cds.length : Int)) = False := eq_false (by have := HSM.out.cds; omega)
 have hIcds : (p.cds.length : Int) ≤ 9223372036854775807 := by have := HSM.out.cds; omega
 have qrus : ((4096 : Int) < (p.rus.length : Int)) = False := eq_false (by have := HSM.out.rus; omega)
 have hIrus : (p.rus.length : Int) ≤ 9223372036854775807 := by have := HSM.out.rus; omega
 have hItys : (p.tys.length : Int) ≤ 9223372036854775807 := by have := HSM.out.tys; omega
 obtain ⟨a1, c1, e1⟩ := hP.tys.form
 have E1 := Lib.hid e1
 clear e1
 obtain ⟨a8, c8, e8⟩ := hP.cds.form
 have E8 := Lib.hid e8
 clear e8
 obtain ⟨a9, c9, e9⟩ := hP.rus.form
 have E9 := Lib.hid e9
 clear e9
 obtain ⟨W, ZW⟩ : ∃ v, Hid ((w.alloc (.cells #[q.v0, q.v1, q.v2, q.v3, q.v4, q.v5, q.v6, q.v7, q.v8, q.v9, q.v10, q.v11, q.v12, q.v13, q.v14, q.v15, q.v16] 39)) = v) := ⟨_, Lib.hid rfl⟩
 have HB : Hid (Below w.heap.size w W) := by cases ZW.out; exact Lib.hid ((Below.refl _ _).alloc (Nat.le_refl _) _)
 have HX0 : Hid (Blk W (w.heap.size) 39 #[q.v0, q.v1, q.v2, q.v3, q.v4, q.v5, q.v6, q.v7, q.v8, q.v9, q.v10, q.v11, q.v12, q.v13, q.v14, q.v15, q.v16]) := by cases ZW.out; exact Lib.hid (Blk.here (by simp))
 have HQ : Hid (PolV W q p) := by cases ZW.out; exact Lib.hid (hP.keep HB.out)
 have HLE : Hid (w.heap.size ≤ W.heap.size) := by cases ZW.out; exact Lib.hid HB.out.size
 try unfold PV.val
 go_enter Tryz.func30, Tryz.ntmps30
 go_upto_region 1 with fail
 rw [ZW.out]
 generalize hg0 : w.heap.size = g0 at *
 have HR1 : Hid (∀ u, Kp W u → u.cell? ⟨g0, 1, none⟩ = some (.slice a1 p.tys.length c1)) := Lib.hid (fun u hu => pol_cell (HX0.out.keep hu) rfl E1.out)
 have HR8 : Hid (∀ u, Kp W u → u.cell? ⟨g0, 8, none⟩ = some (.slice a8 p.cds.length c8)) := Lib.hid (fun u hu => pol_cell (HX0.out.keep hu) rfl E8.out)
 have HR9 : Hid (∀ u, Kp W u → u.cell? ⟨g0, 9, none⟩ = some (.slice a9 p.rus.length c9)) := Lib.hid (fun u hu => pol_cell (HX0.out.keep hu) rfl E9.out)
 generalize Value.agg #[q.v0, q.v1, q.v2, q.v3, q.v4, q.v5, q.v6, q.v7, q.v8, q.v9, q.v10, q.v11, q.v12, q.v13, q.v14, q.v15, q.v16] = P0
 clear hP
 have HL8 : Hid (SlR 10 XAt W (.slice a8 p.cds.length c8) p.cds) := Lib.hid (by rw [← E8.out]; exact HQ.out.cds)
 have HL9 : Hid (SlR 13 CRu W (.slice a9 p.rus.length c9) p.rus) := Lib.hid (by rw [← E9.out]; exact HQ.out.rus)
 have r8 := HR8.out W Kp.rfl'
 go_wp2_with fail
 clear r8
 go_loopw [3] (fun vi wr => ∃ (i : Nat), i ≤ p.cds.length ∧ vi = .int .i64 i ∧ Hid (Kp W wr)) (fun vi _ => p.cds.length - (intOf vi).toNat)
 case atStart => exact ⟨0, Nat.zero_le _, rfl, Lib.hid Kp.rfl'⟩
 case round =>
  obtain ⟨i, hi, rfl, HK⟩ := hrel
  have r8 := HR8.out wr HK.out
  by_cases hlt : i < p.cds.length
  · have hlt' : (i : Int) < (p.cds.length : Int) := by omega
    obtain ⟨y, hy⟩ : ∃ y, p.cds[i] = y := ⟨_, rfl⟩
    obtain ⟨g', o', hak, hg', hR⟩ := HL8.out.row hlt
    subst hak
    have hA := hR i hlt
    rw [hy] at hA
    obtain ⟨ao2, cap2, ak2, ck2, hc2, hv2⟩ := hA.xv
    have HXE : Hid (∀ u, Kp W u → XC u g' (o' + i * 10) y.op y.a y.r y.b ao2 y.ns.length cap2 y.st ak2 y.ks.length ck2) := Lib.hid (fun u hu => hc2.keep (Below.block hu g' hg'))
    obtain ⟨c, hc⟩ : ∃ c, condE p.bos.length y = c := ⟨_, rfl⟩
    have HCL : Hid (∀ u, Kp W u → Calls Tryz.prog 57 #[q.val, .agg #[.int .i64 y.op, .int .i64 y.a, .int .i64 y.r, .int .i64 y.b, .slice ao2 y.ns.length cap2, .int .u64 y.st.a, .int .u64 y.st.b, .int .u64 y.st.c, .int .u64 y.st.d, .slice ak2 y.ks.length ck2]] u fun e w' => e = .returned (.int .i64 c) ∧ Below u.heap.size u w') := Lib.hid (fun u hu => by rw [← hc]; exact nCondition_c y q p _ _ u (HQ.out.keep hu) (by have := HSM.out.bos; omega) (hv2.keep hu))
    clear hA hR hg' hy hc2 hv2 hc
    have HKW : Hid (∀ u, Kp wr u → Kp W u) := Lib.hid (fun u hu => kp_trans HK.out hu)
    go_upto_region 6 with fail
    clear r8
    refine wp_region_kp (by kernel_rfl) (by kernel_rfl) ?_
    repeat' (first | go_big_quiet_skip | (go_big_quiet_want; first | (refine quiet_load (t := 39) (.tmp 1) rfl rfl (fun w1 hC => loadAt_pol (HX0.out.keep (HKW.out _ hC))) ?_; simp only [Act.put, List.setIfInBounds_toArray, List.set_cons_succ, List.set_cons_zero]; go_big_quiet_on) | (refine quiet_load (t := 55) (.tmp 26) rfl rfl (fun w1 hC => loadAt_expr (HXE.out w1 (HKW.out _ hC))) ?_; simp only [Act.put, List.setIfInBounds_toArray, List.set_cons_succ, List.set_cons_zero]; go_big_quiet_on) | (go_big_quiet_op; first | go_big_quiet_on | (apply Exists.intro; refine ⟨fun w1 hC => ?_, ?_⟩; (first | (go_at_call 57; with_reducible exact hC.call (HCL.out _ (HKW.out _ hC))) | (have y8 := HR8.out w1 (HKW.out _ hC); go_simp; exact rfl) | exact rfl | (go_simp; exact ⟨rfl, rfl⟩)); go_big_quiet_on))))
    refine wpQuiet_nil ?_
    intro W5 hC
    have HK5 := Lib.hid (HKW.out _ hC)
    have HF5 := Lib.hid (HB.out.trans (HK5.out.mono HLE.out))
    clear hC
    by_cases h0 : c = 0
    · subst h0
      go_wp2_with fail
      go_roundw
      case rel => exact ⟨i + 1, hlt, by go_num, HK5⟩
      case measure => simp [intOf]; omega
    · have hb : (c == 0) = false := by simpa using h0
      have hb2 : (c != 0) = true := by simpa using h0
      go_wp2_with fail
      go_ret
      first | exact ⟨⟨_, rfl⟩, HF5.out⟩ | exact ⟨⟨_, rfl⟩, by rw [hg0]; exact HF5.out⟩ | exact ⟨_, rfl, HF5.out⟩ | exact ⟨_, rfl, by rw [hg0]; exact HF5.out⟩
  · have hlt' : ¬ (i : Int) < (p.cds.length : Int) := by omega
    have HF := Lib.hid (HB.out.trans (Below.mono HK.out HLE.out))
    generalize wr = wq at *
    have HKQ := HK
    have r9 := HR9.out wq HKQ.out
    go_wp2_with fail
    clear r9
    go_loopw [5] (fun vi wr => ∃ (i : Nat), i ≤ p.rus.length ∧ vi = .int .i64 i ∧ Hid (Kp W wr)) (fun vi _ => p.rus.length - (intOf vi).toNat)
    case atStart => exact ⟨0, Nat.zero_le _, rfl, Lib.hid HKQ.out⟩
    case round =>
     obtain ⟨i, hi, rfl, HK⟩ := hrel
     have r9 := HR9.out wr HK.out
     by_cases hlt : i < p.rus.length
     · have hlt' : (i : Int) < (p.rus.length : Int) := by omega
       obtain ⟨x, hx⟩ : ∃ x, p.rus[i] = x := ⟨_, rfl⟩
       obtain ⟨g, oo, hak, hg, hE⟩ := HL9.out.row hlt
       subst hak
       have hE1 := hE i hlt
       rw [hx] at hE1
       obtain ⟨m0, m1, m2, m3, m4, m5, m6, m7, m8, m9, m10, m11, m12, mw⟩ := hE1.keep HK.out hg
       have HMWW := Lib.hid mw
       clear hx hg hE hE1 mw
       go_upto_region 15 with fail
       obtain ⟨WX, hWX⟩ : ∃ u, wr.alloc (.cells #[.int .i64 x.k, .int .u64 x.src.a, .int .u64 x.src.b, .int .u64 x.src.c, .int .u64 x.src.d, .int .u64 x.tgt.a, .int .u64 x.tgt.b, .int .u64 x.tgt.c, .int .u64 x.tgt.d, .bool x.self, .int .i64 x.cl, .int .u32 x.pm, .int .i64 x.cd] 97) = u := ⟨_, rfl⟩
       have HBX : Hid (Blk WX wr.heap.size 97 #[.int .i64 x.k, .int .u64 x.src.a, .int .u64 x.src.b, .int .u64 x.src.c, .int .u64 x.src.d, .int .u64 x.tgt.a, .int .u64 x.tgt.b, .int .u64 x.tgt.c, .int .u64 x.tgt.d, .bool x.self, .int .i64 x.cl, .int .u32 x.pm, .int .i64 x.cd]) := Lib.hid (by rw [← hWX]; exact Blk.new _ _ _)
       have HKX : Hid (Kp W WX) := Lib.hid (by rw [← hWX]; exact HK.out.alloc _)
       rw [hWX]
       clear r9 m0 m1 m2 m3 m4 m5 m6 m7 m8 m9 m10 m11 m12
       generalize wr.heap.size = gx at *
       clear hWX
       have HBU : Hid (∀ u, Kp WX u → Blk u gx 97 #[.int .i64 x.k, .int .u64 x.src.a, .int .u64 x.src.b, .int .u64 x.src.c, .int .u64 x.src.d, .int .u64 x.tgt.a, .int .u64 x.tgt.b, .int .u64 x.tgt.c, .int .u64 x.tgt.d, .bool x.self, .int .i64 x.cl, .int .u32 x.pm, .int .i64 x.cd]) := Lib.hid (fun u hu => HBX.out.keep hu)
       have HWX : Hid (∀ u, Kp WX u → Kp W u) := Lib.hid (fun u hu => kp_trans HKX.out hu)
       obtain ⟨b1, hb1⟩ : ∃ z, decide (x.k < 1) = z := ⟨_, rfl⟩
       obtain ⟨b2, hb2⟩ : ∃ z, decide ((4 : Int) < x.k) = z := ⟨_, rfl⟩
       obtain ⟨s1, hs1⟩ : ∃ z, someN x.src = z := ⟨_, rfl⟩
       obtain ⟨s2, hs2⟩ : ∃ z, someW x.src p.tys.length = z := ⟨_, rfl⟩
       obtain ⟨t1, ht1⟩ : ∃ z, someN x.tgt = z := ⟨_, rfl⟩
       obtain ⟨t2, ht2⟩ : ∃ z, someW x.tgt p.tys.length = z := ⟨_, rfl⟩
       obtain ⟨v1, hv1⟩ : ∃ z, vecB p x.cl x.pm = z := ⟨_, rfl⟩
       obtain ⟨d1, hd1⟩ : ∃ z, cdB p x.cd = z := ⟨_, rfl⟩
       obtain ⟨sl, hsl⟩ : ∃ z, x.self = z := ⟨_, rfl⟩
       obtain ⟨pz, hpz⟩ : ∃ z, (x.pm == 0) = z := ⟨_, rfl⟩
       obtain ⟨k4, hk4⟩ : ∃ z, (x.k == 4) = z := ⟨_, rfl⟩
       obtain ⟨cz, hcz⟩ : ∃ z, (x.cd == 0) = z := ⟨_, rfl⟩
       have hczn : (x.cd != 0) = !cz := by rw [bne, hcz]
       have HC1 : Hid (∀ u, Kp W u → Calls Tryz.prog 50 #[.agg #[.int .u64 x.src.a, .int .u64 x.src.b, .int .u64 x.src.c, .int .u64 x.src.d], .int .i64 p.tys.length] u fun e w' => e = .returned (.tuple #[.bool s1, .bool s2]) ∧ Below u.heap.size u w') := Lib.hid (fun u hu => by rw [← hs1, ← hs2]; exact nsome_c x.src _ u (by omega) (by have := HSM.out.tys; omega))
       have HC2 : Hid (∀ u, Kp W u → Calls Tryz.prog 50 #[.agg #[.int .u64 x.tgt.a, .int .u64 x.tgt.b, .int .u64 x.tgt.c, .int .u64 x.tgt.d], .int .i64 p.tys.length] u fun e w' => e = .returned (.tuple #[.bool t1, .bool t2]) ∧ Below u.heap.size u w') := Lib.hid (fun u hu => by rw [← ht1, ← ht2]; exact nsome_c x.tgt _ u (by omega) (by have := HSM.out.tys; omega))
       have HC3 : Hid (∀ u, Kp W u → Calls Tryz.prog 58 #[q.val, .int .i64 x.cl, .int .u32 x.pm] u fun e w' => e = .returned (.bool v1) ∧ Below u.heap.size u w') := Lib.hid (fun u hu => by rw [← hv1]; exact nvector_c q p x.cl x.pm u (HQ.out.keep hu) (by have := HSM.out.cls; omega))
       have HC4 : Hid (∀ u, Kp W u → Calls Tryz.prog 59 #[q.val, .int .i64 x.cd] u fun e w' => e = .returned (.bool d1) ∧ Below u.heap.size u w') := Lib.hid (fun u hu => by rw [← hd1]; exact ncond_c q p x.cd u (HQ.out.keep hu) (by have := HSM.out.cds; omega))
       try clear hs1 hs2 ht1 ht2 hv1 hd1
       all_goals refine wp_region_kq ?_
       repeat' (first | go_big_quiet_skip | (go_big_quiet_want; first | (go_big_quiet_op; first | go_big_quiet_on | (apply Exists.intro; refine ⟨fun w1 hC => ?_, ?_⟩; (first | (have z0 := (HBU.out w1 hC).cell 0; have z1 := (HBU.out w1 hC).cell 1; have z2 := (HBU.out w1 hC).cell 2; have z3 := (HBU.out w1 hC).cell 3; have z4 := (HBU.out w1 hC).cell 4; have z5 := (HBU.out w1 hC).cell 5; have z6 := (HBU.out w1 hC).cell 6; have z7 := (HBU.out w1 hC).cell 7; have z8 := (HBU.out w1 hC).cell 8; have z9 := (HBU.out w1 hC).cell 9; have z10 := (HBU.out w1 hC).cell 10; have z11 := (HBU.out w1 hC).cell 11; have z12 := (HBU.out w1 hC).cell 12; go_simp; exact rfl) | exact rfl | (go_simp; exact ⟨rfl, rfl⟩)); go_big_quiet_on))) | (cases b1 <;> try simp only [Bool.not_true, Bool.not_false]) | (cases b2 <;> try simp only [Bool.not_true, Bool.not_false]))
       all_goals refine wpQuiet_nil ?_
       all_goals intro ZW1 hC
       all_goals have HF1 := Lib.hid (HB.out.trans (Below.mono (HWX.out _ hC) HLE.out))
       all_goals have HT1 : Hid (∀ u, Kp ZW1 u → Kp W u) := Lib.hid (fun u hu => kp_trans (HWX.out _ hC) hu)
       all_goals have HY1 : Hid (∀ u, Kp ZW1 u → Kp WX u) := Lib.hid (fun u hu => kp_trans hC hu)
       all_goals clear hC
       all_goals first
        | (go_wp2_with fail
           go_ret
           first | exact ⟨⟨_, rfl⟩, HF1.out⟩ | exact ⟨⟨_, rfl⟩, by rw [hg0]; exact HF1.out⟩ | exact ⟨_, rfl, HF1.out⟩ | exact ⟨_, rfl, by rw [hg0]; exact HF1.out⟩
           done)
        | (go_upto_region 17 with fail
           all_goals refine wp_region_kq ?_
           repeat' (first | go_big_quiet_skip | (go_big_quiet_want; first | (go_big_quiet_op; first | go_big_quiet_on | (apply Exists.intro; refine ⟨fun w1 hC => ?_, ?_⟩; (first | (go_at_call 50; with_reducible exact hC.call (HC1.out _ (HT1.out _ hC))) | (have z0 := (HBU.out w1 (HY1.out _ hC)).cell 0; have z1 := (HBU.out w1 (HY1.out _ hC)).cell 1; have z2 := (HBU.out w1 (HY1.out _ hC)).cell 2; have z3 := (HBU.out w1 (HY1.out _ hC)).cell 3; have z4 := (HBU.out w1 (HY1.out _ hC)).cell 4; have z5 := (HBU.out w1 (HY1.out _ hC)).cell 5; have z6 := (HBU.out w1 (HY1.out _ hC)).cell 6; have z7 := (HBU.out w1 (HY1.out _ hC)).cell 7; have z8 := (HBU.out w1 (HY1.out _ hC)).cell 8; have z9 := (HBU.out w1 (HY1.out _ hC)).cell 9; have z10 := (HBU.out w1 (HY1.out _ hC)).cell 10; have z11 := (HBU.out w1 (HY1.out _ hC)).cell 11; have z12 := (HBU.out w1 (HY1.out _ hC)).cell 12; go_simp; exact rfl) | (have y1 := HR1.out w1 (HT1.out _ hC); go_simp; exact rfl) | exact rfl | (go_simp; exact ⟨rfl, rfl⟩)); go_big_quiet_on))))
           all_goals refine wpQuiet_nil ?_
           all_goals intro ZW2 hC
           all_goals have HF2 := Lib.hid (HB.out.trans (Below.mono (HT1.out _ hC) HLE.out))
           all_goals have HT2 : Hid (∀ u, Kp ZW2 u → Kp W u) := Lib.hid (fun u hu => kp_trans (HT1.out _ hC) hu)
           all_goals have HY2 : Hid (∀ u, Kp ZW2 u → Kp WX u) := Lib.hid (fun u hu => kp_trans (HY1.out _ hC) hu)
           all_goals clear hC
           all_goals (go_upto_region 18 with fail
                      all_goals refine wp_region_kq ?_
                      repeat' (first | go_big_quiet_skip | (go_big_quiet_want; first | (go_big_quiet_op; first | go_big_quiet_on | (apply Exists.intro; refine ⟨fun w1 hC => ?_, ?_⟩; (first | (go_at_call 50; with_reducible exact hC.call (HC2.out _ (HT2.out _ hC))) | (have z0 := (HBU.out w1 (HY2.out _ hC)).cell 0; have z1 := (HBU.out w1 (HY2.out _ hC)).cell 1; have z2 := (HBU.out w1 (HY2.out _ hC)).cell 2; have z3 := (HBU.out w1 (HY2.out _ hC)).cell 3; have z4 := (HBU.out w1 (HY2.out _ hC)).cell 4; have z5 := (HBU.out w1 (HY2.out _ hC)).cell 5; have z6 := (HBU.out w1 (HY2.out _ hC)).cell 6; have z7 := (HBU.out w1 (HY2.out _ hC)).cell 7; have z8 := (HBU.out w1 (HY2.out _ hC)).cell 8; have z9 := (HBU.out w1 (HY2.out _ hC)).cell 9; have z10 := (HBU.out w1 (HY2.out _ hC)).cell 10; have z11 := (HBU.out w1 (HY2.out _ hC)).cell 11; have z12 := (HBU.out w1 (HY2.out _ hC)).cell 12; go_simp; exact rfl) | (have y1 := HR1.out w1 (HT2.out _ hC); go_simp; exact rfl) | exact rfl | (go_simp; exact ⟨rfl, rfl⟩)); go_big_quiet_on))))
                      all_goals refine wpQuiet_nil ?_
                      all_goals intro ZW3 hC
                      all_goals have HF3 := Lib.hid (HB.out.trans (Below.mono (HT2.out _ hC) HLE.out))
                      all_goals have HT3 : Hid (∀ u, Kp ZW3 u → Kp W u) := Lib.hid (fun u hu => kp_trans (HT2.out _ hC) hu)
                      all_goals have HY3 : Hid (∀ u, Kp ZW3 u → Kp WX u) := Lib.hid (fun u hu => kp_trans (HY2.out _ hC) hu)
                      all_goals clear hC
                      all_goals (go_upto_region 19 with fail
                                 all_goals refine wp_region_kq ?_
                                 repeat' (first | go_big_quiet_skip | (go_big_quiet_want; first | (refine quiet_load (t := 39) (.tmp 1) rfl rfl (fun w1 hC => loadAt_pol (HX0.out.keep (HT3.out _ hC))) ?_; simp only [Act.put, List.setIfInBounds_toArray, List.set_cons_succ, List.set_cons_zero]; go_big_quiet_on) | (go_big_quiet_op; first | go_big_quiet_on | (apply Exists.intro; refine ⟨fun w1 hC => ?_, ?_⟩; (first | (go_at_call 58; with_reducible exact hC.call (HC3.out _ (HT3.out _ hC))) | (go_at_call 59; with_reducible exact hC.call (HC4.out _ (HT3.out _ hC))) | (have z0 := (HBU.out w1 (HY3.out _ hC)).cell 0; have z1 := (HBU.out w1 (HY3.out _ hC)).cell 1; have z2 := (HBU.out w1 (HY3.out _ hC)).cell 2; have z3 := (HBU.out w1 (HY3.out _ hC)).cell 3; have z4 := (HBU.out w1 (HY3.out _ hC)).cell 4; have z5 := (HBU.out w1 (HY3.out _ hC)).cell 5; have z6 := (HBU.out w1 (HY3.out _ hC)).cell 6; have z7 := (HBU.out w1 (HY3.out _ hC)).cell 7; have z8 := (HBU.out w1 (HY3.out _ hC)).cell 8; have z9 := (HBU.out w1 (HY3.out _ hC)).cell 9; have z10 := (HBU.out w1 (HY3.out _ hC)).cell 10; have z11 := (HBU.out w1 (HY3.out _ hC)).cell 11; have z12 := (HBU.out w1 (HY3.out _ hC)).cell 12; go_simp; exact rfl) | exact rfl | (go_simp; exact ⟨rfl, rfl⟩)); go_big_quiet_on))) | (cases s2 <;> try simp only [Bool.not_true, Bool.not_false]) | (cases t2 <;> try simp only [Bool.not_true, Bool.not_false]) | (cases v1 <;> try simp only [Bool.not_true, Bool.not_false]) | (cases d1 <;> try simp only [Bool.not_true, Bool.not_false]))
                                 all_goals refine wpQuiet_nil ?_
                                 all_goals intro ZW4 hC
                                 all_goals have HF4 := Lib.hid (HB.out.trans (Below.mono (HT3.out _ hC) HLE.out))
                                 all_goals have HT4 : Hid (∀ u, Kp ZW4 u → Kp W u) := Lib.hid (fun u hu => kp_trans (HT3.out _ hC) hu)
                                 all_goals have HY4 : Hid (∀ u, Kp ZW4 u → Kp WX u) := Lib.hid (fun u hu => kp_trans (HY3.out _ hC) hu)
                                 all_goals clear hC
                                 all_goals first
                                  | (go_wp2_with fail
                                     go_ret
                                     first | exact ⟨⟨_, rfl⟩, HF4.out⟩ | exact ⟨⟨_, rfl⟩, by rw [hg0]; exact HF4.out⟩ | exact ⟨_, rfl, HF4.out⟩ | exact ⟨_, rfl, by rw [hg0]; exact HF4.out⟩
                                     done)
                                  | (go_upto_region 21 with fail
                                     all_goals refine wp_region_kq ?_
                                     repeat' (first | go_big_quiet_skip | (go_big_quiet_want; first | (go_big_quiet_op; first | go_big_quiet_on | (apply Exists.intro; refine ⟨fun w1 hC => ?_, ?_⟩; (first | (have z0 := (HBU.out w1 (HY4.out _ hC)).cell 0; have z1 := (HBU.out w1 (HY4.out _ hC)).cell 1; have z2 := (HBU.out w1 (HY4.out _ hC)).cell 2; have z3 := (HBU.out w1 (HY4.out _ hC)).cell 3; have z4 := (HBU.out w1 (HY4.out _ hC)).cell 4; have z5 := (HBU.out w1 (HY4.out _ hC)).cell 5; have z6 := (HBU.out w1 (HY4.out _ hC)).cell 6; have z7 := (HBU.out w1 (HY4.out _ hC)).cell 7; have z8 := (HBU.out w1 (HY4.out _ hC)).cell 8; have z9 := (HBU.out w1 (HY4.out _ hC)).cell 9; have z10 := (HBU.out w1 (HY4.out _ hC)).cell 10; have z11 := (HBU.out w1 (HY4.out _ hC)).cell 11; have z12 := (HBU.out w1 (HY4.out _ hC)).cell 12; go_simp; exact rfl) | exact rfl | (go_simp; exact ⟨rfl, rfl⟩)); go_big_quiet_on))) | (cases s1 <;> try simp only [Bool.not_true, Bool.not_false]) | (cases t1 <;> try simp only [Bool.not_true, Bool.not_false]) | (cases sl <;> try simp only [Bool.not_true, Bool.not_false]) | (cases pz <;> try simp only [Bool.not_true, Bool.not_false]) | (cases k4 <;> try simp only [Bool.not_true, Bool.not_false]) | (cases cz <;> try simp only [Bool.not_true, Bool.not_false]))
                                     all_goals refine wpQuiet_nil ?_
                                     all_goals intro ZW5 hC
                                     all_goals have HF5 := Lib.hid (HB.out.trans (Below.mono (HT4.out _ hC) HLE.out))
                                     all_goals have HT5 : Hid (∀ u, Kp ZW5 u → Kp W u) := Lib.hid (fun u hu => kp_trans (HT4.out _ hC) hu)
                                     all_goals have HY5 : Hid (∀ u, Kp ZW5 u → Kp WX u) := Lib.hid (fun u hu => kp_trans (HY4.out _ hC) hu)
                                     all_goals clear hC
                                     all_goals first
                                      | (go_wp2_with fail
                                         go_ret
                                         first | exact ⟨⟨_, rfl⟩, HF5.out⟩ | exact ⟨⟨_, rfl⟩, by rw [hg0]; exact HF5.out⟩ | exact ⟨_, rfl, HF5.out⟩ | exact ⟨_, rfl, by rw [hg0]; exact HF5.out⟩
                                         done)
                                      | (go_wp2_with fail
                                         go_roundw
                                         case rel => exact ⟨i + 1, hlt, by go_num, Lib.hid (HT5.out _ Kp.rfl')⟩
                                         case measure => simp [intOf]; omega)))))
     · have hlt' : ¬ (i : Int) < (p.rus.length : Int) := by omega
       have HF := Lib.hid (HB.out.trans (Below.mono HK.out HLE.out))
       go_wp2_with fail
       go_ret
       first | exact ⟨⟨_, rfl⟩, HF.out⟩ | exact ⟨⟨_, rfl⟩, by rw [hg0]; exact HF.out⟩ | exact ⟨_, rfl, HF.out⟩ | exact ⟨_, rfl, by rw [hg0]; exact HF.out⟩
end Go.Proofs.YtbhoofihnmmmfabGreat
