/- Part of the proof: Pnz. No conditions. -/
import Derived.Test.YtbhoofihnmmmfabGreatYbg
namespace Go.Proofs.YtbhoofihnmmmfabGreat
open Go.RowKit Go
/-- every list of a policy has a length that a machine can hold -/
structure PLen (p : PP) : Prop where
 cls : p.cls.length ≤ 9223372036854775807
 tys : p.tys.length ≤ 9223372036854775807
 ats : p.ats.length ≤ 9223372036854775807
 ros : p.ros.length ≤ 9223372036854775807
 uss : p.uss.length ≤ 9223372036854775807
 bos : p.bos.length ≤ 9223372036854775807
 sens : p.sens.length ≤ 9223372036854775807
 cats : p.cats.length ≤ 9223372036854775807
 cds : p.cds.length ≤ 9223372036854775807
 rus : p.rus.length ≤ 9223372036854775807
 trs : p.trs.length ≤ 9223372036854775807
 rts : p.rts.length ≤ 9223372036854775807
 rgs : p.rgs.length ≤ 9223372036854775807
 cos : p.cos.length ≤ 9223372036854775807
 sis : p.sis.length ≤ 9223372036854775807
 fis : p.fis.length ≤ 9223372036854775807
 ass : p.ass.length ≤ 9223372036854775807
set_option maxRecDepth 100000 in
set_option maxHeartbeats 16000000 in
theorem nSmall_c (q : PV) (p : PP) (w : World) (hP : PolV w q p) (hpl : PLen p) : Calls Tryz.prog 11 #[q.val] w fun e w' => ∃ b : Bool, e = .returned (.bool b) ∧ (b = true → SmP p) ∧ Below w.heap.size w w' := by
 have HPL := Lib.hid hpl
 have hIcls : (p.cls.length : Int) ≤ 9223372036854775807 := by have := HPL.out.cls; omega
 have hItys : (p.tys.length : Int) ≤ 9223372036854775807 := by have := HPL.out.tys; omega
 have hIats : (p.ats.length : Int) ≤ 9223372036854775807 := by have := HPL.out.ats; omega
 have hIros : (p.ros.length : Int) ≤ 9223372036854775807 := by have := HPL.out.ros; omega
 have hIuss : (p.uss.length : Int) ≤ 9223372036854775807 := by have := HPL.out.uss; omega
 have hIbos : (p.bos.length : Int) ≤ 9223372036854775807 := by have := HPL.out.bos; omega
 have hIsens : (p.sens.length : Int) ≤ 9223372036854775807 := by have := HPL.out.sens; omega
 have hIcats : (p.cats.length : Int) ≤ 9223372036854775807 := by have := HPL.out.cats; omega
 have hIcds : (p.cds.length : Int) ≤ 9223372036854775807 := by have := HPL.out.cds; omega
 have hIrus : (p.rus.length : Int) ≤ 9223372036854775807 := by have := HPL.out.rus; omega
 have hItrs : (p.trs.length : Int) ≤ 9223372036854775807 := by have := HPL.out.trs; omega
 have hIrts : (p.rts.length : Int) ≤ 9223372036854775807 := by have := HPL.out.rts; omega
 have hIrgs : (p.rgs.length : Int) ≤ 9223372036854775807 := by have := HPL.out.rgs; omega
 have hIcos : (p.cos.length : Int) ≤ 9223372036854775807 := by have := HPL.out.cos; omega
 have hIsis : (p.sis.length : Int) ≤ 9223372036854775807 := by have := HPL.out.sis; omega
 have hIfis : (p.fis.length : Int) ≤ 9223372036854775807 := by have := HPL.out.fis; omega
 have hIass : (p.ass.length : Int) ≤ 9223372036854775807 := by have := HPL.out.ass; omega
 obtain ⟨qtys, hqtys⟩ : ∃ z, decide ((12 : Int) < (p.tys.length : Int)) = z := ⟨_, rfl⟩
 obtain ⟨qats, hqats⟩ : ∃ z, decide ((6 : Int) < (p.ats.length : Int)) = z := ⟨_, rfl⟩
 obtain ⟨qcls, hqcls⟩ : ∃ z, decide ((6 : Int) < (p.cls.length : Int)) = z := ⟨_, rfl⟩
 obtain ⟨qrus, hqrus⟩ : ∃ z, decide ((40 : Int) < (p.rus.length : Int)) = z := ⟨_, rfl⟩
 obtain ⟨qcds, hqcds⟩ : ∃ z, decide ((6 : Int) < (p.cds.length : Int)) = z := ⟨_, rfl⟩
 obtain ⟨qbos, hqbos⟩ : ∃ z, decide ((6 : Int) < (p.bos.length : Int)) = z := ⟨_, rfl⟩
 obtain ⟨qcos, hqcos⟩ : ∃ z, decide ((12 : Int) < (p.cos.length : Int)) = z := ⟨_, rfl⟩
 obtain ⟨quss, hquss⟩ : ∃ z, decide ((8 : Int) < (p.uss.length : Int)) = z := ⟨_, rfl⟩
 obtain ⟨qros, hqros⟩ : ∃ z, decide ((8 : Int) < (p.ros.length : Int)) = z := ⟨_, rfl⟩
 obtain ⟨qtrs, hqtrs⟩ : ∃ z, decide ((36 : Int) < (p.trs.length : Int)) = z := ⟨_, rfl⟩
 obtain ⟨qrts, hqrts⟩ : ∃ z, decide ((12 : Int) < (p.rts.length : Int)) = z := ⟨_, rfl⟩
 obtain ⟨qrgs, hqrgs⟩ : ∃ z, decide ((12 : Int) < (p.rgs.length : Int)) = z := ⟨_, rfl⟩
 obtain ⟨qsens, hqsens⟩ : ∃ z, decide ((6 : Int) < (p.sens.length : Int)) = z := ⟨_, rfl⟩
 obtain ⟨qcats, hqcats⟩ : ∃ z, decide ((10 : Int) < (p.cats.length : Int)) = z := ⟨_, rfl⟩
 obtain ⟨qsis, hqsis⟩ : ∃ z, decide ((8 : Int) < (p.sis.length : Int)) = z := ⟨_, rfl⟩
 obtain ⟨qfis, hqfis⟩ : ∃ z, decide ((12 : Int) < (p.fis.length : Int)) = z := ⟨_, rfl⟩
 obtain ⟨qass, hqass⟩ : ∃ z, decide ((8 : Int) < (p.ass.length : Int)) = z := ⟨_, rfl⟩
 obtain ⟨a0, c0, e0⟩ := hP.cls.form
 have E0 := Lib.hid e0
 clear e0
 obtain ⟨a1, c1, e1⟩ := hP.tys.form
 have E1 := Lib.hid e1
 clear e1
 obtain ⟨a2, c2, e2⟩ := hP.ats.form
 have E2 := Lib.hid e2
 clear e2
 obtain ⟨a3, c3, e3⟩ := hP.ros.form
 have E3 := Lib.hid e3
 clear e3
 obtain ⟨a4, c4, e4⟩ := hP.uss.form
 have E4 := Lib.hid e4
 clear e4
 obtain ⟨a5, c5, e5⟩ := hP.bos.form
 have E5 := Lib.hid e5
 clear e5
 obtain ⟨a6, c6, e6⟩ := hP.sens.form
 have E6 := Lib.hid e6
 clear e6
 obtain ⟨a7, c7, e7⟩ := hP.cats.form
 have E7 := Lib.hid e7
 clear e7
 obtain ⟨a8, c8, e8⟩ := hP.cds.form
 have E8 := Lib.hid e8
 clear e8
 obtain ⟨a9, c9, e9⟩ := hP.rus.form
 have E9 := Lib.hid e9
 clear e9
 obtain ⟨a10, c10, e10⟩ := hP.trs.form
 have E10 := Lib.hid e10
 clear e10
 obtain ⟨a11, c11, e11⟩ := hP.rts.form
 have E11 := Lib.hid e11
 clear e11
 obtain ⟨a12, c12, e12⟩ := hP.rgs.form
 have E12 := Lib.hid e12
 clear e12
 obtain ⟨a13, c13, e13⟩ := hP.cos.form
 have E13 := Lib.hid e13
 clear e13
 obtain ⟨a14, c14, e14⟩ := hP.sis.form
 have E14 := Lib.hid e14
 clear e14
 obtain ⟨a15, c15, e15⟩ := hP.fis.form
 have E15 := Lib.hid e15
 clear e15
 obtain ⟨a16, c16, e16⟩ := hP.ass.form
 have E16 := Lib.hid e16
 clear e16
 obtain ⟨W, ZW⟩ : ∃ v, Hid ((w.alloc (.cells #[q.v0, q.v1, q.v2, q.v3, q.v4, q.v5, q.v6, q.v7, q.v8, q.v9, q.v10, q.v11, q.v12, q.v13, q.v14, q.v15, q.v16] 39)) = v) := ⟨_, Lib.hid rfl⟩
 have HB : Hid (Below w.heap.size w W) := by cases ZW.out; exact Lib.hid ((Below.refl _ _).alloc (Nat.le_refl _) _)
 have HX0 : Hid (Blk W (w.heap.size) 39 #[q.v0, q.v1, q.v2, q.v3, q.v4, q.v5, q.v6, q.v7, q.v8, q.v9, q.v10, q.v11, q.v12, q.v13, q.v14, q.v15, q.v16]) := by cases ZW.out; exact Lib.hid (Blk.here (by simp))
 have HQ : Hid (PolV W q p) := by cases ZW.out; exact Lib.hid (hP.keep HB.out)
 have HLE : Hid (w.heap.size ≤ W.heap.size) := by cases ZW.out; exact Lib.hid HB.out.size
 try unfold PV.val
 go_enter Tryz.func11, Tryz.ntmps11
 go_upto_region 1 with fail
 rw [ZW.out]
 generalize hg0 : w.heap.size = g0 at *
 have HR0 : Hid (∀ u, Kp W u → u.cell? ⟨g0, 0, none⟩ = some (.slice a0 p.cls.length c0)) := Lib.hid (fun u hu => pol_cell (HX0.out.keep hu) rfl E0.out)
 have HR1 : Hid (∀ u, Kp W u → u.cell? ⟨g0, 1, none⟩ = some (.slice a1 p.tys.length c1)) := Lib.hid (fun u hu => pol_cell (HX0.out.keep hu) rfl E1.out)
 have HR2 : Hid (∀ u, Kp W u → u.cell? ⟨g0, 2, none⟩ = some (.slice a2 p.ats.length c2)) := Lib.hid (fun u hu => pol_cell (HX0.out.keep hu) rfl E2.out)
 have HR3 : Hid (∀ u, Kp W u → u.cell? ⟨g0, 3, none⟩ = some (.slice a3 p.ros.length c3)) := Lib.hid (fun u hu => pol_cell (HX0.out.keep hu) rfl E3.out)
 have HR4 : Hid (∀ u, Kp W u → u.cell? ⟨g0, 4, none⟩ = some (.slice a4 p.uss.length c4)) := Lib.hid (fun u hu => pol_cell (HX0.out.keep hu) rfl E4.out)
 have HR5 : Hid (∀ u, Kp W u → u.cell? ⟨g0, 5, none⟩ = some (.slice a5 p.bos.length c5)) := Lib.hid (fun u hu => pol_cell (HX0.out.keep hu) rfl E5.out)
 have HR6 : Hid (∀ u, Kp W u → u.cell? ⟨g0, 6, none⟩ = some (.slice a6 p.sens.length c6)) := Lib.hid (fun u hu => pol_cell (HX0.out.keep hu) rfl E6.out)
 have HR7 : Hid (∀ u, Kp W u → u.cell? ⟨g0, 7, none⟩ = some (.slice a7 p.cats.length c7)) := Lib.hid (fun u hu => pol_cell (HX0.out.keep hu) rfl E7.out)
 have HR8 : Hid (∀ u, Kp W u → u.cell? ⟨g0, 8, none⟩ = some (.slice a8 p.cds.length c8)) := Lib.hid (fun u hu => pol_cell (HX0.out.keep hu) rfl E8.out)
 have HR9 : Hid (∀ u, Kp W u → u.cell? ⟨g0, 9, none⟩ = some (.slice a9 p.rus.length c9)) := Lib.hid (fun u hu => pol_cell (HX0.out.keep hu) rfl E9.out)
 have HR10 : Hid (∀ u, Kp W u → u.cell? ⟨g0, 10, none⟩ = some (.slice a10 p.trs.length c10)) := Lib.hid (fun u hu => pol_cell (HX0.out.keep hu) rfl E10.out)
 have HR11 : Hid (∀ u, Kp W u → u.cell? ⟨g0, 11, none⟩ = some (.slice a11 p.rts.length c11)) := Lib.hid (fun u hu => pol_cell (HX0.out.keep hu) rfl E11.out)
 have HR12 : Hid (∀ u, Kp W u → u.cell? ⟨g0, 12, none⟩ = some (.slice a12 p.rgs.length c12)) := Lib.hid (fun u hu => pol_cell (HX0.out.keep hu) rfl E12.out)
 have HR13 : Hid (∀ u, Kp W u → u.cell? ⟨g0, 13, none⟩ = some (.slice a13 p.cos.length c13)) := Lib.hid (fun u hu => pol_cell (HX0.out.keep hu) rfl E13.out)
 have HR14 : Hid (∀ u, Kp W u → u.cell? ⟨g0, 14, none⟩ = some (.slice a14 p.sis.length c14)) := Lib.hid (fun u hu => pol_cell (HX0.out.keep hu) rfl E14.out)
 have HR15 : Hid (∀ u, Kp W u → u.cell? ⟨g0, 15, none⟩ = some (.slice a15 p.fis.length c15)) := Lib.hid (fun u hu => pol_cell (HX0.out.keep hu) rfl E15.out)
 have HR16 : Hid (∀ u, Kp W u → u.cell? ⟨g0, 16, none⟩ = some (.slice a16 p.ass.length c16)) := Lib.hid (fun u hu => pol_cell (HX0.out.keep hu) rfl E16.out)
 generalize Value.agg #[q.v0, q.v1, q.v2, q.v3, q.v4, q.v5, q.v6, q.v7, q.v8, q.v9, q.v10, q.v11, q.v12, q.v13, q.v14, q.v15, q.v16] = P0
 clear hP
 have HL1 : Hid (SlR 3 CTyA W (.slice a1 p.tys.length c1) p.tys) := Lib.hid (by rw [← E1.out]; exact HQ.out.tys)
 have HL8 : Hid (SlR 10 XAt W (.slice a8 p.cds.length c8) p.cds) := Lib.hid (by rw [← E8.out]; exact HQ.out.cds)
 have HL10 : Hid (SlR 13 CTr W (.slice a10 p.trs.length c10) p.trs) := Lib.hid (by rw [← E10.out]; exact HQ.out.trs)
 have HL13 : Hid (SlR 13 CCo W (.slice a13 p.cos.length c13) p.cos) := Lib.hid (by rw [← E13.out]; exact HQ.out.cos)
 have HAM : Hid (∀ x ∈ p.tys, x.al.length ≤ maxLen) := Lib.hid (fun x hx => by obtain ⟨j, hj, rfl⟩ := List.getElem_of_mem hx; obtain ⟨g, oo, -, -, hE⟩ := HL1.out.row hj; exact (hE j hj).1.2.2.2.2.2)
 all_goals refine wp_region_kq ?_
 repeat' (first | go_big_quiet_skip | (go_big_quiet_want; first | (go_big_quiet_op; first | go_big_quiet_on | (apply Exists.intro; refine ⟨fun w1 hC => ?_, ?_⟩; (first | (have y1 := HR1.out w1 hC; go_simp; exact rfl) | (have y2 := HR2.out w1 hC; go_simp; exact rfl) | (have y0 := HR0.out w1 hC; go_simp; exact rfl) | (have y9 := HR9.out w1 hC; go_simp; exact rfl) | (have y8 := HR8.out w1 hC; go_simp; exact rfl) | (have y5 := HR5.out w1 hC; go_simp; exact rfl) | (have y13 := HR13.out w1 hC; go_simp; exact rfl) | (have y4 := HR4.out w1 hC; go_simp; exact rfl) | (have y3 := HR3.out w1 hC; go_simp; exact rfl) | exact rfl | (go_simp; exact ⟨rfl, rfl⟩)); go_big_quiet_on))) | (cases qtys <;> try simp only [Bool.not_true, Bool.not_false]) | (cases qats <;> try simp only [Bool.not_true, Bool.not_false]) | (cases qcls <;> try simp only [Bool.not_true, Bool.not_false]) | (cases qrus <;> try simp only [Bool.not_true, Bool.not_false]) | (cases qcds <;> try simp only [Bool.not_true, Bool.not_false]) | (cases qbos <;> try simp only [Bool.not_true, Bool.not_false]) | (cases qcos <;> try simp only [Bool.not_true, Bool.not_false]) | (cases quss <;> try simp only [Bool.not_true, Bool.not_false]) | (cases qros <;> try simp only [Bool.not_true, Bool.not_false]))
 all_goals refine wpQuiet_nil ?_
 all_goals intro ZW1 hC
 all_goals have HF1 := Lib.hid (HB.out.trans (Below.mono hC HLE.out))
 all_goals have HT1 : Hid (∀ u, Kp ZW1 u → Kp W u) := Lib.hid (fun u hu => kp_trans hC hu)
 all_goals clear hC
 all_goals first
  | (go_wp2_with fail
     go_ret
     first | exact ⟨⟨false, rfl, fun h => by cases h⟩, HF1.out⟩ | exact ⟨⟨false, rfl, fun h => by cases h⟩, by rw [hg0]; exact HF1.out⟩ | exact ⟨false, rfl, (fun h => by cases h), HF1.out⟩ | exact ⟨false, rfl, (fun h => by cases h), by rw [hg0]; exact HF1.out⟩
     done)
  | (go_upto_region 3 with fail
     all_goals refine wp_region_kq ?_
     repeat' (first | go_big_quiet_skip | (go_big_quiet_want; first | (go_big_quiet_op; first | go_big_quiet_on | (apply Exists.intro; refine ⟨fun w1 hC => ?_, ?_⟩; (first | (have y10 := HR10.out w1 (HT1.out _ hC); go_simp; exact rfl) | (have y11 := HR11.out w1 (HT1.out _ hC); go_simp; exact rfl) | (have y12 := HR12.out w1 (HT1.out _ hC); go_simp; exact rfl) | (have y6 := HR6.out w1 (HT1.out _ hC); go_simp; exact rfl) | (have y7 := HR7.out w1 (HT1.out _ hC); go_simp; exact rfl) | (have y14 := HR14.out w1 (HT1.out _ hC); go_simp; exact rfl) | (have y15 := HR15.out w1 (HT1.out _ hC); go_simp; exact rfl) | (have y16 := HR16.out w1 (HT1.out _ hC); go_simp; exact rfl) | exact rfl | (go_simp; exact ⟨rfl, rfl⟩)); go_big_quiet_on))) | (cases qtrs <;> try simp only [Bool.not_true, Bool.not_false]) | (cases qrts <;> try simp only [Bool.not_true, Bool.not_false]) | (cases qrgs <;> try simp only [Bool.not_true, Bool.not_false]) | (cases qsens <;> try simp only [Bool.not_true, Bool.not_false]) | (cases qcats <;> try simp only [Bool.not_true, Bool.not_false]) | (cases qsis <;> try simp only [Bool.not_true, Bool.not_false]) | (cases qfis <;> try simp only [Bool.not_true, Bool.not_false]) | (cases qass <;> try simp only [Bool.not_true, Bool.not_false]))
     all_goals refine wpQuiet_nil ?_
     all_goals intro ZW2 hC
     all_goals have HF2 := Lib.hid (HB.out.trans (Below.mono (HT1.out _ hC) HLE.out))
     all_goals have HT2 : Hid (∀ u, Kp ZW2 u → Kp W u) := Lib.hid (fun u hu => kp_trans (HT1.out _ hC) hu)
     all_goals clear hC
     all_goals first
      | (go_wp2_with fail
         go_ret
         first | exact ⟨⟨false, rfl, fun h => by cases h⟩, HF2.out⟩ | exact ⟨⟨false, rfl, fun h => by cases h⟩, by rw [hg0]; exact HF2.out⟩ | exact ⟨false, rfl, (fun h => by cases h), HF2.out⟩ | exact ⟨false, rfl, (fun h => by cases h), by rw [hg0]; exact HF2.out⟩
         done)
      | (have HLM : Hid (p.cls.length ≤ 6 ∧ p.tys.length ≤ 12 ∧ p.ats.length ≤ 6 ∧ p.ros.length ≤ 8 ∧ p.uss.length ≤ 8 ∧ p.bos.length ≤ 6 ∧ p.sens.length ≤ 6 ∧ p.cats.length ≤ 10 ∧ p.cds.length ≤ 6 ∧ p.rus.length ≤ 40 ∧ p.trs.length ≤ 36 ∧ p.rts.length ≤ 12 ∧ p.rgs.length ≤ 12 ∧ p.cos.length ≤ 12 ∧ p.sis.length ≤ 8 ∧ p.fis.length ≤ 12 ∧ p.ass.length ≤ 8) := Lib.hid (by simp only [decide_eq_false_iff_not] at hqcls hqtys hqats hqros hquss hqbos hqsens hqcats hqcds hqrus hqtrs hqrts hqrgs hqcos hqsis hqfis hqass; refine ⟨?_, ?_, ?_, ?_, ?_, ?_, ?_, ?_, ?_, ?_, ?_, ?_, ?_, ?_, ?_, ?_, ?_⟩ <;> omega)
         have HW : Hid (Kp W ZW2) := Lib.hid (HT2.out _ Kp.rfl')
         clear hqcls hqtys hqats hqros hquss hqbos hqsens hqcats hqcds hqrus hqtrs hqrts hqrgs hqcos hqsis hqfis hqass
         generalize ZW2 = WZ at *
         have r10 := HR10.out WZ HW.out
         go_upto_region 6 with fail
         obtain ⟨WA, ZWA⟩ : ∃ v, Hid ((WZ.alloc (.cells #[.int .i64 0, .int .i64 0, .int .i64 0, .int .i64 0] 78)) = v) := ⟨_, Lib.hid rfl⟩
         have HKA : Hid (Kp W WA) := by cases ZWA.out; exact Lib.hid (HW.out.alloc _)
         have HA0 : Hid (Blk WA WZ.heap.size 78 #[.int .i64 0, .int .i64 0, .int .i64 0, .int .i64 0]) := by cases ZWA.out; exact Lib.hid (Blk.new _ _ _)
         have HGA : Hid (W.heap.size ≤ WZ.heap.size) := Lib.hid HW.out.size
         rw [ZWA.out]
         generalize WZ.heap.size = ga at *
         clear r10
         have r10 := HR10.out WA HKA.out
         go_wp2_with fail
         go_loopw [4] (fun vi wr => ∃ (i : Nat) (n0 n1 n2 n3 : Int), i ≤ p.trs.length ∧ vi = .int .i64 i ∧ 0 ≤ n1 ∧ n1 ≤ i ∧ 0 ≤ n2 ∧ n2 ≤ i ∧ 0 ≤ n3 ∧ n3 ≤ i ∧ Hid (Kp W wr) ∧ Hid (Blk wr ga 78 #[.int .i64 n0, .int .i64 n1, .int .i64 n2, .int .i64 n3])) (fun vi _ => p.trs.length - (intOf vi).toNat)
         case atStart => exact ⟨0, 0, 0, 0, 0, Nat.zero_le _, rfl, by omega, by omega, by omega, by omega, by omega, by omega, HKA, HA0⟩
         case round =>
          clear HKA HA0 r10
          obtain ⟨i, n0, n1, n2, n3, hi, rfl, g1, g2, g3, g4, g5, g6, HK, HA⟩ := hrel
          have r10 := HR10.out wr HK.out
          have hb36 : p.trs.length ≤ 36 := by obtain ⟨-, -, -, -, -, -, -, -, -, -, h, -⟩ := HLM.out; exact h
          by_cases hlt : i < p.trs.length
          · have hlt' : (i : Int) < (p.trs.length : Int) := by omega
            obtain ⟨x, hx⟩ : ∃ x, p.trs[i] = x := ⟨_, rfl⟩
            obtain ⟨g, oo, hak, hg, hE⟩ := HL10.out.row hlt
            subst hak
            have hE1 := hE i hlt
            rw [hx] at hE1
            obtain ⟨m0, -⟩ := hE1.keep HK.out hg
            clear hx hE hE1 hg
            have a0 := HA.out.cell 0
            have a1 := HA.out.cell 1
            have a2 := HA.out.cell 2
            have a3 := HA.out.cell 3
            have zf := HA.out.frozen
            by_cases h1 : 0 < x.k ∧ x.k < 4
            · obtain ⟨h1a, h1b⟩ := h1
              have hk : x.k = 1 ∨ x.k = 2 ∨ x.k = 3 := by omega
              clear h1a h1b
              rcases hk with hk | hk | hk
              · rw [hk] at m0
                have HA2 : Hid (Blk (wr.setCell ⟨ga, 1, none⟩ (.int .i64 (n1 + 1))) ga 78 #[.int .i64 n0, .int .i64 (n1 + 1), .int .i64 n2, .int .i64 n3]) := Lib.hid (by have h := HA.out.set 1 (.int .i64 (n1 + 1)); simpa using h)
                have HK2 : Hid (Kp W (wr.setCell ⟨ga, 1, none⟩ (.int .i64 (n1 + 1)))) := Lib.hid (below_set1 HK.out HGA.out _ _)
                go_wp2_with fail
                go_roundw
                case rel => exact ⟨i + 1, n0, (n1 + 1), n2, n3, hlt, by go_num, by omega, by omega, by omega, by omega, by omega, by omega, HK2, HA2⟩
                case measure => simp [intOf]; omega
              · rw [hk] at m0
                have HA2 : Hid (Blk (wr.setCell ⟨ga, 2, none⟩ (.int .i64 (n2 + 1))) ga 78 #[.int .i64 n0, .int .i64 n1, .int .i64 (n2 + 1), .int .i64 n3]) := Lib.hid (by have h := HA.out.set 2 (.int .i64 (n2 + 1)); simpa using h)
                have HK2 : Hid (Kp W (wr.setCell ⟨ga, 2, none⟩ (.int .i64 (n2 + 1)))) := Lib.hid (below_set1 HK.out HGA.out _ _)
                go_wp2_with fail
                go_roundw
                case rel => exact ⟨i + 1, n0, n1, (n2 + 1), n3, hlt, by go_num, by omega, by omega, by omega, by omega, by omega, by omega, HK2, HA2⟩
                case measure => simp [intOf]; omega
              · rw [hk] at m0
                have HA2 : Hid (Blk (wr.setCell ⟨ga, 3, none⟩ (.int .i64 (n3 + 1))) ga 78 #[.int .i64 n0, .int .i64 n1, .int .i64 n2, .int .i64 (n3 + 1)]) := Lib.hid (by have h := HA.out.set 3 (.int .i64 (n3 + 1)); simpa using h)
                have HK2 : Hid (Kp W (wr.setCell ⟨ga, 3, none⟩ (.int .i64 (n3 + 1)))) := Lib.hid (below_set1 HK.out HGA.out _ _)
                go_wp2_with fail
                go_roundw
                case rel => exact ⟨i + 1, n0, n1, n2, (n3 + 1), hlt, by go_num, by omega, by omega, by omega, by omega, by omega, by omega, HK2, HA2⟩
                case measure => simp [intOf]; omega
            · by_cases h2 : 0 < x.k
              · have h3b : (x.k < 4) = False := eq_false (fun h => h1 ⟨h2, h⟩)
                clear h1
                go_wp2_with fail
                go_roundw
                case rel => exact ⟨i + 1, n0, n1, n2, n3, hlt, by go_num, by omega, by omega, by omega, by omega, by omega, by omega, HK, HA⟩
                case measure => simp [intOf]; omega
              · have h2b : ((0 : Int) < x.k) = False := eq_false h2
                clear h1
                go_wp2_with fail
                go_roundw
                case rel => exact ⟨i + 1, n0, n1, n2, n3, hlt, by go_num, by omega, by omega, by omega, by omega, by omega, by omega, HK, HA⟩
                case measure => simp [intOf]; omega
          · have hlt' : ¬ (i : Int) < (p.trs.length : Int) := by omega
            generalize wr = wq at *
            have HKQ := HK
            have HAQ := HA
            clear r10
            have r10 := HR10.out wq HKQ.out
            have r1 := HR1.out wq HKQ.out
            go_wp2_with fail
            clear r10 r1
            go_loopw [6] (fun vi wr => ∃ i : Nat, i ≤ p.tys.length ∧ vi = .int .i64 i ∧ Hid (∀ j (hj : j < p.tys.length), j < i → p.tys[j].al.length ≤ 4) ∧ Hid (Kp wq wr)) (fun vi _ => p.tys.length - (intOf vi).toNat)
            case atStart => exact ⟨0, Nat.zero_le _, rfl, Lib.hid (fun j _ h => absurd h (by omega)), Lib.hid Kp.rfl'⟩
            case round =>
             obtain ⟨i, hi, rfl, HJ, HK6⟩ := hrel
             have HKW : Hid (∀ u, Kp wr u → Kp W u) := Lib.hid (fun u hu => kp_trans HKQ.out (kp_trans HK6.out hu))
             have r1 := HR1.out wr (HKW.out _ Kp.rfl')
             have HFR := Lib.hid (HB.out.trans (Below.mono (HKW.out _ Kp.rfl') HLE.out))
             by_cases hlt : i < p.tys.length
             · have hlt' : (i : Int) < (p.tys.length : Int) := by omega
               obtain ⟨x, hx⟩ : ∃ x, p.tys[i] = x := ⟨_, rfl⟩
               have HXX := Lib.hid hx
               obtain ⟨g, oo, hak, hg, hE⟩ := HL1.out.row hlt
               subst hak
               have hE1 := hE i hlt
               rw [hx] at hE1
               have hE2 := hE1.keep (HKW.out _ Kp.rfl') hg
               clear hx hg hE hE1
               obtain ⟨-, va, m1, -, mc⟩ := hE2
               obtain ⟨ap, cp, e, -⟩ := mc
               subst e
               have haI : (x.al.length : Int) ≤ 9223372036854775807 := by have h := HAM.out x (by rw [← HXX.out]; exact List.getElem_mem hlt); unfold maxLen at h; omega
               by_cases h4 : 4 < x.al.length
               · have q4 : ((4 : Int) < (x.al.length : Int)) = True := eq_true (by omega)
                 go_wp2_with fail
                 go_ret
                 first | exact ⟨⟨false, rfl, fun h => by cases h⟩, HFR.out⟩ | exact ⟨⟨false, rfl, fun h => by cases h⟩, by rw [hg0]; exact HFR.out⟩ | exact ⟨false, rfl, (fun h => by cases h), HFR.out⟩ | exact ⟨false, rfl, (fun h => by cases h), by rw [hg0]; exact HFR.out⟩
               · have q4 : ((4 : Int) < (x.al.length : Int)) = False := eq_false (by omega)
                 have H4 : Hid (x.al.length ≤ 4) := Lib.hid (by omega)
                 have HKN := HK6
                 go_wp2_with fail
                 go_roundw
                 case rel =>
                  refine ⟨i + 1, hlt, by go_num, Lib.hid (fun j hj hji => ?_), HKN⟩
                  by_cases e : j < i
                  · exact HJ.out j hj e
                  · obtain rfl : j = i := by omega
                    rw [HXX.out]; exact H4.out
                 case measure => simp [intOf]; omega
             · have hlt' : ¬ (i : Int) < (p.tys.length : Int) := by omega
               have HALL6 : Hid (∀ x ∈ p.tys, x.al.length ≤ 4) := Lib.hid (fun x hx => by obtain ⟨j, hj, rfl⟩ := List.getElem_of_mem hx; exact HJ.out j hj (by omega))
               clear HJ
               generalize wr = ws at *
               have r8 := HR8.out ws (kp_trans HKQ.out HK6.out)
               go_wp2_with fail
               clear r8 r1
               go_loopw [7] (fun vi wr => ∃ i : Nat, i ≤ p.cds.length ∧ vi = .int .i64 i ∧ Hid (∀ j (hj : j < p.cds.length), j < i → lvls 13 p.cds[j] ≤ 6) ∧ Hid (Kp wq wr)) (fun vi _ => p.cds.length - (intOf vi).toNat)
               case atStart => exact ⟨0, Nat.zero_le _, rfl, Lib.hid (fun j _ h => absurd h (by omega)), HK6⟩
               case round =>
                obtain ⟨i, hi, rfl, HJ, HK7⟩ := hrel
                have HKW : Hid (∀ u, Kp wr u → Kp W u) := Lib.hid (fun u hu => kp_trans HKQ.out (kp_trans HK7.out hu))
                have r8 := HR8.out wr (HKW.out _ Kp.rfl')
                have HFR := Lib.hid (HB.out.trans (Below.mono (HKW.out _ Kp.rfl') HLE.out))
                by_cases hlt : i < p.cds.length
                · have hlt' : (i : Int) < (p.cds.length : Int) := by omega
                  obtain ⟨x, hx⟩ : ∃ x, p.cds[i] = x := ⟨_, rfl⟩
                  have HXX := Lib.hid hx
                  obtain ⟨g, oo, hak, hg, hE⟩ := HL8.out.row hlt
                  subst hak
                  have hE1 := hE i hlt
                  rw [hx] at hE1
                  have hE2 := hE1.keep (HKW.out _ Kp.rfl') hg
                  clear hx hg hE hE1
                  have hX2 := hE2
                  clear hE2
                  obtain ⟨ao2, cap2, ak2, ck2, hc2, hv2⟩ := hX2.xv
                  obtain ⟨z0, z1, z2, z3, z4, z5, z6, z7, z8, z9⟩ := hc2.cells
                  obtain ⟨lv, hlv⟩ : ∃ z, lvls 13 x = z := ⟨_, rfl⟩
                  have HLV := Lib.hid hlv
                  have hl13 : lv ≤ 13 := by rw [← hlv]; exact lvls_le _ _
                  have HCL : Hid (Calls Tryz.prog 23 #[.agg #[.int .i64 x.op, .int .i64 x.a, .int .i64 x.r, .int .i64 x.b, .slice ao2 x.ns.length cap2, .int .u64 x.st.a, .int .u64 x.st.b, .int .u64 x.st.c, .int .u64 x.st.d, .slice ak2 x.ks.length ck2]] wr fun e w' => e = .returned (.int .i64 lv) ∧ Below wr.heap.size wr w') := Lib.hid (by rw [← hlv]; exact nLevels_c x _ _ wr hv2)
                  clear hc2 hv2 hX2 hlv
                  by_cases h6 : 6 < lv
                  · have q6 : ((6 : Int) < (lv : Int)) = True := eq_true (by omega)
                    go_wp2_with (go_at_call 23; (with_reducible refine HCL.out.mono ?_); rintro e V1 ⟨rfl, hb1⟩; have HFN := Lib.hid (HB.out.trans (Below.mono (HKW.out _ hb1) HLE.out)); clear hb1)
                    go_ret
                    first | exact ⟨⟨false, rfl, fun h => by cases h⟩, HFN.out⟩ | exact ⟨⟨false, rfl, fun h => by cases h⟩, by rw [hg0]; exact HFN.out⟩ | exact ⟨false, rfl, (fun h => by cases h), HFN.out⟩ | exact ⟨false, rfl, (fun h => by cases h), by rw [hg0]; exact HFN.out⟩
                  · have q6 : ((6 : Int) < (lv : Int)) = False := eq_false (by omega)
                    have H6 : Hid (lvls 13 x ≤ 6) := Lib.hid (by rw [HLV.out]; omega)
                    go_wp2_with (go_at_call 23; (with_reducible refine HCL.out.mono ?_); rintro e V1 ⟨rfl, hb1⟩; have HKN : Hid (Kp wq V1) := Lib.hid (kp_trans HK7.out hb1); clear hb1)
                    go_roundw
                    case rel =>
                     refine ⟨i + 1, hlt, by go_num, Lib.hid (fun j hj hji => ?_), HKN⟩
                     by_cases e : j < i
                     · exact HJ.out j hj e
                     · obtain rfl : j = i := by omega
                       rw [HXX.out]; exact H6.out
                    case measure => simp [intOf]; omega
                · have hlt' : ¬ (i : Int) < (p.cds.length : Int) := by omega
                  have HALL7 : Hid (∀ x ∈ p.cds, lvls 13 x ≤ 6) := Lib.hid (fun x hx => by obtain ⟨j, hj, rfl⟩ := List.getElem_of_mem hx; exact HJ.out j hj (by omega))
                  clear HJ
                  generalize wr = wt at *
                  have r13 := HR13.out wt (kp_trans HKQ.out HK7.out)
                  go_wp2_with fail
                  clear r13 r8
                  go_loopw [8] (fun vi wr => ∃ i : Nat, i ≤ p.cos.length ∧ vi = .int .i64 i ∧ Hid (∀ j (hj : j < p.cos.length), j < i → lvls 13 p.cos[j].e ≤ 6) ∧ Hid (Kp wq wr)) (fun vi _ => p.cos.length - (intOf vi).toNat)
                  case atStart => exact ⟨0, Nat.zero_le _, rfl, Lib.hid (fun j _ h => absurd h (by omega)), HK7⟩
                  case round =>
                   obtain ⟨i, hi, rfl, HJ, HK8⟩ := hrel
                   have HKW : Hid (∀ u, Kp wr u → Kp W u) := Lib.hid (fun u hu => kp_trans HKQ.out (kp_trans HK8.out hu))
                   have r13 := HR13.out wr (HKW.out _ Kp.rfl')
                   have HFR := Lib.hid (HB.out.trans (Below.mono (HKW.out _ Kp.rfl') HLE.out))
                   by_cases hlt : i < p.cos.length
                   · have hlt' : (i : Int) < (p.cos.length : Int) := by omega
                     obtain ⟨x, hx⟩ : ∃ x, p.cos[i] = x := ⟨_, rfl⟩
                     have HXX := Lib.hid hx
                     obtain ⟨g, oo, hak, hg, hE⟩ := HL13.out.row hlt
                     subst hak
                     have hE1 := hE i hlt
                     rw [hx] at hE1
                     have hE2 := hE1.keep (HKW.out _ Kp.rfl') hg
                     clear hx hg hE hE1
                     obtain ⟨-, -, -, hX2, -, -⟩ := hE2
                     obtain ⟨y, hy⟩ : ∃ y, x.e = y := ⟨_, rfl⟩
                     have HY := Lib.hid hy
                     rw [hy] at hX2
                     clear hy
                     obtain ⟨ao2, cap2, ak2, ck2, hc2, hv2⟩ := hX2.xv
                     obtain ⟨z0, z1, z2, z3, z4, z5, z6, z7, z8, z9⟩ := hc2.cells
                     obtain ⟨lv, hlv⟩ : ∃ z, lvls 13 y = z := ⟨_, rfl⟩
                     have HLV := Lib.hid hlv
                     have hl13 : lv ≤ 13 := by rw [← hlv]; exact lvls_le _ _
                     have HCL : Hid (Calls Tryz.prog 23 #[.agg #[.int .i64 y.op, .int .i64 y.a, .int .i64 y.r, .int .i64 y.b, .slice ao2 y.ns.length cap2, .int .u64 y.st.a, .int .u64 y.st.b, .int .u64 y.st.c, .int .u64 y.st.d, .slice ak2 y.ks.length ck2]] wr fun e w' => e = .returned (.int .i64 lv) ∧ Below wr.heap.size wr w') := Lib.hid (by rw [← hlv]; exact nLevels_c y _ _ wr hv2)
                     clear hc2 hv2 hX2 hlv
                     by_cases h6 : 6 < lv
                     · have q6 : ((6 : Int) < (lv : Int)) = True := eq_true (by omega)
                       go_wp2_with (go_at_call 23; (with_reducible refine HCL.out.mono ?_); rintro e V1 ⟨rfl, hb1⟩; have HFN := Lib.hid (HB.out.trans (Below.mono (HKW.out _ hb1) HLE.out)); clear hb1)
                       go_ret
                       first | exact ⟨⟨false, rfl, fun h => by cases h⟩, HFN.out⟩ | exact ⟨⟨false, rfl, fun h => by cases h⟩, by rw [hg0]; exact HFN.out⟩ | exact ⟨false, rfl, (fun h => by cases h), HFN.out⟩ | exact ⟨false, rfl, (fun h => by cases h), by rw [hg0]; exact HFN.out⟩
                     · have q6 : ((6 : Int) < (lv : Int)) = False := eq_false (by omega)
                       have H6 : Hid (lvls 13 y ≤ 6) := Lib.hid (by rw [HLV.out]; omega)
                       go_wp2_with (go_at_call 23; (with_reducible refine HCL.out.mono ?_); rintro e V1 ⟨rfl, hb1⟩; have HKN : Hid (Kp wq V1) := Lib.hid (kp_trans HK8.out hb1); clear hb1)
                       go_roundw
                       case rel =>
                        refine ⟨i + 1, hlt, by go_num, Lib.hid (fun j hj hji => ?_), HKN⟩
                        by_cases e : j < i
                        · exact HJ.out j hj e
                        · obtain rfl : j = i := by omega
                          rw [HXX.out, HY.out]; exact H6.out
                       case measure => simp [intOf]; omega
                   · have hlt' : ¬ (i : Int) < (p.cos.length : Int) := by omega
                     have HALL8 : Hid (∀ x ∈ p.cos, lvls 13 x.e ≤ 6) := Lib.hid (fun x hx => by obtain ⟨j, hj, rfl⟩ := List.getElem_of_mem hx; exact HJ.out j hj (by omega))
                     clear HJ
                     generalize wr = we at *
                     have a1 := (HAQ.out.keep HK8.out).cell 1
                     have a2 := (HAQ.out.keep HK8.out).cell 2
                     have a3 := (HAQ.out.keep HK8.out).cell 3
                     have HSM : Hid (SmP p) := Lib.hid (by obtain ⟨lcls, ltys, lats, lros, luss, lbos, lsens, lcats, lcds, lrus, ltrs, lrts, lrgs, lcos, lsis, lfis, lass⟩ := HLM.out; exact ⟨ltys, lats, lcls, lrus, lcds, lbos, lcos, luss, lros, ltrs, lrts, lrgs, lsens, lcats, lsis, lfis, lass, HALL6.out, HALL7.out, HALL8.out⟩)
                     obtain ⟨u1, hu1⟩ : ∃ z, decide (n1 ≤ (12 : Int)) = z := ⟨_, rfl⟩
                     obtain ⟨u2, hu2⟩ : ∃ z, decide (n2 ≤ (12 : Int)) = z := ⟨_, rfl⟩
                     obtain ⟨u3, hu3⟩ : ∃ z, decide (n3 ≤ (12 : Int)) = z := ⟨_, rfl⟩
                     cases u1 <;> cases u2 <;> cases u3
                     all_goals go_wp2_with fail
                     all_goals first
                      | (go_ret; first | exact Or.inl ⟨rfl, HFR.out⟩ | exact Or.inl ⟨rfl, by rw [hg0]; exact HFR.out⟩ | exact Or.inr ⟨rfl, HSM.out, HFR.out⟩ | exact Or.inr ⟨rfl, HSM.out, by rw [hg0]; exact HFR.out⟩)
                      | exact bodyPost_ret (v := .bool false) (by simp [results, Tryz.results11, go_sem]) rfl (Or.inl ⟨rfl, by first | exact HFR.out | (rw [hg0]; exact HFR.out)⟩)
                      | exact bodyPost_ret (v := .bool true) (by simp [results, Tryz.results11, go_sem]) rfl (Or.inr ⟨rfl, HSM.out, by first | exact HFR.out | (rw [hg0]; exact HFR.out)⟩)))
end Go.Proofs.YtbhoofihnmmmfabGreat
