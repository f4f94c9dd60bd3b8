/- Part of the proof: Pnt Pnv. No conditions. -/
import Derived.Test.YtbhoofihnmmmfabGreatYbr
import Derived.Test.YtbhoofihnmmmfabGreatYbg
namespace Go.Proofs.YtbhoofihnmmmfabGreat
open Go.RowKit Go
set_option maxRecDepth 100000 in
set_option maxHeartbeats 16000000 in
theorem nlabels_c (q : PV) (p : PP) (w : World) (hP : PolV w q p) (hsm : SmP p) : Calls Tryz.prog 34 #[q.val] w fun e w' => ∃ c : Int, e = .returned (.int .i64 c) ∧ Below w.heap.size w w' := by
 have HSM := Lib.hid hsm
 have qsis : ((1024 : Int) < (p.sis.length : Int)) = False := eq_false (by have := HSM.out.sis; omega)
 have hIsis : (p.sis.length : Int) ≤ 9223372036854775807 := by have := HSM.out.sis; omega
 have qfis : ((256 : Int) < (p.fis.length : Int)) = False := eq_false (by have := HSM.out.fis; omega)
 have hIfis : (p.fis.length : Int) ≤ 9223372036854775807 := by have := HSM.out.fis; omega
 obtain ⟨a14, c14, e14⟩ := hP.sis.form
 have E14 := Lib.hid e14
 clear e14
 obtain ⟨a15, c15, e15⟩ := hP.fis.form
 have E15 := Lib.hid e15
 clear e15
 obtain ⟨W, ZW⟩ : ∃ v, Hid ((w.alloc (.cells #[q.v0, q.v1, q.v2, q.v3, q.v4, q.v5, q.v6, q.v7, q.v8, q.v9, q.v10, q.v11, q.v12, q.v13, q.v14, q.v15, q.v16] 39)) = v) := ⟨_, Lib.hid rfl⟩
 have HB : Hid (Below w.heap.size w W) := by cases ZW.out; exact Lib.hid ((Below.refl _ _).alloc (Nat.le_refl _) _)
 have HX0 : Hid (Blk W (w.heap.size) 39 #[q.v0, q.v1, q.v2, q.v3, q.v4, q.v5, q.v6, q.v7, q.v8, q.v9, q.v10, q.v11, q.v12, q.v13, q.v14, q.v15, q.v16]) := by cases ZW.out; exact Lib.hid (Blk.here (by simp))
 have HQ : Hid (PolV W q p) := by cases ZW.out; exact Lib.hid (hP.keep HB.out)
 have HLE : Hid (w.heap.size ≤ W.heap.size) := by cases ZW.out; exact Lib.hid HB.out.size
 try unfold PV.val
 go_enter Tryz.func34, Tryz.ntmps34
 go_upto_region 1 with fail
 rw [ZW.out]
 generalize hg0 : w.heap.size = g0 at *
 have HR14 : Hid (∀ u, Kp W u → u.cell? ⟨g0, 14, none⟩ = some (.slice a14 p.sis.length c14)) := Lib.hid (fun u hu => pol_cell (HX0.out.keep hu) rfl E14.out)
 have HR15 : Hid (∀ u, Kp W u → u.cell? ⟨g0, 15, none⟩ = some (.slice a15 p.fis.length c15)) := Lib.hid (fun u hu => pol_cell (HX0.out.keep hu) rfl E15.out)
 generalize Value.agg #[q.v0, q.v1, q.v2, q.v3, q.v4, q.v5, q.v6, q.v7, q.v8, q.v9, q.v10, q.v11, q.v12, q.v13, q.v14, q.v15, q.v16] = P0
 clear hP
 have HL14 : Hid (SlR 8 CSi W (.slice a14 p.sis.length c14) p.sis) := Lib.hid (by rw [← E14.out]; exact HQ.out.sis)
 have HL15 : Hid (SlR 9 CFi W (.slice a15 p.fis.length c15) p.fis) := Lib.hid (by rw [← E15.out]; exact HQ.out.fis)
 have r14 := HR14.out W Kp.rfl'
 go_wp2_with fail
 clear r14
 go_loopw [3, 4] (fun vl vi wr => ∃ (i : Nat) (vv : Value), vv = vl ∧ i ≤ p.sis.length ∧ vi = .int .i64 i ∧ Hid (Kp W wr) ∧ Hid (OwnS wr W.heap.size vv ((p.sis.take i).map (·.n)))) (fun _ vi _ => p.sis.length - (intOf vi).toNat)
 case atStart => exact ⟨0, _, rfl, Nat.zero_le _, rfl, Lib.hid Kp.rfl', Lib.hid (by exact OwnS.nil)⟩
 case round =>
  obtain ⟨i, v, rfl, hi, rfl, HK, HO⟩ := hrel
  have r14 := HR14.out wr HK.out
  by_cases hlt : i < p.sis.length
  · have hlt' : (i : Int) < (p.sis.length : Int) := by omega
    obtain ⟨x, hx⟩ : ∃ x, p.sis[i] = x := ⟨_, rfl⟩
    have HXX := Lib.hid hx
    obtain ⟨g, oo, hak, hg, hE⟩ := HL14.out.row hlt
    subst hak
    have hE1 := hE i hlt
    rw [hx] at hE1
    have HEL : Hid (∀ u, Kp W u → CSi u g (oo + i * 8) x) := Lib.hid (fun u hu => hE1.keep hu hg)
    have HNM : Hid (∀ u, Kp W u → u.cell? ⟨g, oo + i * 8, none⟩ = some (.string x.n)) := Lib.hid (fun u hu => (hE1.keep hu hg).1)
    have HRC : Hid (∀ u, Kp W u → u.cell? ⟨g0, 14, none⟩ = some (.slice (some ⟨g, oo, none⟩) p.sis.length c14)) := HR14
    have HMW : Hid (x.n.size ≤ 9223372036854775807) := Lib.hid (by obtain ⟨-, -, -, -, -, -, -, -, h, -⟩ := hE1; exact h)
    clear hx hg hE hE1
    obtain ⟨T, hT⟩ : ∃ T, (p.sis.take i).map (·.n) = T := ⟨_, rfl⟩
    have hTl : T.length = i := by rw [← hT]; simp; omega
    have HX : Hid ((p.sis.take (i + 1)).map (·.n) = T ++ [x.n]) := Lib.hid (by rw [← hT]; exact take_map (·.n) hlt HXX.out)
    rw [hT] at HO
    have HTI := Lib.hid hTl
    obtain ⟨aoT, capT, rfl, -, -⟩ := HO.out.cap
    have HIL : Hid (i ≤ 8) := Lib.hid (by have := HSM.out.sis; omega)
    clear hT hTl
    obtain ⟨c1, hc1⟩ : ∃ c, namesE [x.n] T = c := ⟨_, rfl⟩
    have b0 := HNM.out wr HK.out
    generalize wr = WX at *
    have HKX := HK
    have HOX := HO
    have HCN : Hid (Calls Tryz.prog 48 #[.slice (some ⟨WX.heap.size, 0, none⟩) 1 1, .slice aoT T.length capT] (WX.alloc (.cells #[.string x.n] 9)) fun e w' => e = .returned (.int .i64 c1) ∧ Below (WX.alloc (.cells #[.string x.n] 9)).heap.size (WX.alloc (.cells #[.string x.n] 9)) w') := Lib.hid (by rw [← hc1]; exact nnames_c _ _ [x.n] T _ (Strs.one ((Blk.new WX 9 #[.string x.n]).cell 0)) CapOK.one (by obtain ⟨_, _, e, _, h⟩ := (HOX.out.alloc (.cells #[.string x.n] 9)).cap; cases e; exact h) (TxW.one HMW.out) (by unfold maxLen; simp) (by have := HTI.out; have := HIL.out; unfold maxLen; omega))
    clear hc1
    by_cases h1 : c1 = 0
    · have k1 : (c1 == 0) = true := by simpa using h1
      have k2 : (c1 != 0) = false := by simpa using h1
      go_upto_region 10 with (go_at_call 48; (with_reducible refine HCN.out.mono ?_); rintro e V ⟨rfl, hb1⟩; have HBV := Lib.hid (Below.trans ((Below.refl WX.heap.size WX).alloc (Nat.le_refl _) _) (hb1.mono (by simp))); clear hb1)
      clear b0 r14
      have HKV : Hid (Kp W V) := Lib.hid (kp_trans HKX.out HBV.out)
      have HOV : Hid (OwnS V W.heap.size (.slice aoT T.length capT) T) := Lib.hid (HOX.out.keep HBV.out)
      have b0 := HNM.out V HKV.out
      have r14 := HRC.out V HKV.out
      go_upto_region 11 with (at_builtin; refine wpList_name rfl _ _ rfl rfl (HOV.out.alloc _) rfl ((Blk.new V 9 #[.string x.n]).cell 0) (by have := HTI.out; have := HIL.out; omega) (by have := HKV.out.size; simp; omega) ?_; intro v2 V2 hO2 hB2 hk2; have HO2 := Lib.hid hO2; have HK2 : Hid (Kp W V2) := Lib.hid ((HKV.out.alloc _).trans hB2); clear hO2 hB2 hk2)
      clear b0
      try clear r0
      try clear r14
      obtain ⟨pc, hpc⟩ : ∃ z, placeE p x.c = z := ⟨_, rfl⟩
      have HWX : Hid (∀ u, Kp V2 u → Kp W u) := Lib.hid (fun u hu => kp_trans HK2.out hu)
      have HC1 : Hid (∀ u, Kp W u → Calls Tryz.prog 63 #[q.val, .agg #[.int .i64 x.c.u, .int .i64 x.c.r, .int .i64 x.c.t, .int .i64 x.c.lo.s, .int .u64 x.c.lo.c, .int .i64 x.c.hi.s, .int .u64 x.c.hi.c]] u fun e w' => e = .returned (.int .i64 pc) ∧ Below u.heap.size u w') := Lib.hid (fun u hu => by rw [← hpc]; exact nplace_c q p x.c u (HQ.out.keep hu) HSM.out)
      clear hpc
      all_goals refine wp_region_kp (by kernel_rfl) (by kernel_rfl) ?_
      repeat' (first | go_big_quiet_skip | (go_big_quiet_want; first | (refine quiet_load (t := 39) (.tmp 1) rfl rfl (fun w1 hC => loadAt_pol (HX0.out.keep (HWX.out _ hC))) ?_; simp only [Act.put, List.setIfInBounds_toArray, List.set_cons_succ, List.set_cons_zero]; go_big_quiet_on) | (go_big_quiet_op; first | go_big_quiet_on | (apply Exists.intro; refine ⟨fun w1 hC => ?_, ?_⟩; (first | (go_at_call 63; with_reducible exact hC.call (HC1.out _ (HWX.out _ hC))) | (have y14 := HR14.out w1 (HWX.out _ hC); go_simp; exact rfl) | (obtain ⟨q0, q1, q2, q3, q4, q5, q6, q7, -⟩ := HEL.out w1 (HWX.out _ hC); go_simp; exact rfl) | exact rfl | (go_simp; exact ⟨rfl, rfl⟩)); go_big_quiet_on))))
      all_goals refine wpQuiet_nil ?_
      all_goals intro ZW1 hC
      all_goals have HF1 := Lib.hid (HB.out.trans (Below.mono (HWX.out _ hC) HLE.out))
      all_goals have HT1 : Hid (∀ u, Kp ZW1 u → Kp W u) := Lib.hid (fun u hu => kp_trans (HWX.out _ hC) hu)
      all_goals have HY1 : Hid (∀ u, Kp ZW1 u → Kp V2 u) := Lib.hid (fun u hu => kp_trans hC hu)
      all_goals clear hC
      all_goals (by_cases h0 : pc = 0
                 · subst h0
                   go_wp2_with fail
                   go_roundw
                   case rel => exact ⟨i + 1, _, rfl, hlt, by go_num, Lib.hid (HT1.out _ Kp.rfl'), Lib.hid (by rw [HX.out]; exact HO2.out.keep (HY1.out _ Kp.rfl'))⟩
                   case measure => simp [intOf]; omega
                 · have hb : (pc == 0) = false := by simpa using h0
                   have hb2 : (pc != 0) = true := by simpa using h0
                   go_wp2_with fail
                   go_ret
                   first | exact ⟨⟨_, rfl⟩, HF1.out⟩ | exact ⟨⟨_, rfl⟩, by rw [hg0]; exact HF1.out⟩ | exact ⟨_, rfl, HF1.out⟩ | exact ⟨_, rfl, by rw [hg0]; exact HF1.out⟩)
    · have k1 : (c1 == 0) = false := by simpa using h1
      have k2 : (c1 != 0) = true := by simpa using h1
      clear h1
      go_wp2_with (go_at_call 48; (with_reducible refine HCN.out.mono ?_); rintro e V ⟨rfl, hb1⟩; have HBV := Lib.hid (Below.trans ((Below.refl WX.heap.size WX).alloc (Nat.le_refl _) _) (hb1.mono (by simp))); clear hb1)
      have HF := Lib.hid (HB.out.trans (Below.mono (kp_trans HKX.out HBV.out) HLE.out))
      go_ret
      first | exact ⟨⟨_, rfl⟩, HF.out⟩ | exact ⟨⟨_, rfl⟩, by rw [hg0]; exact HF.out⟩ | exact ⟨_, rfl, HF.out⟩ | exact ⟨_, rfl, by rw [hg0]; exact HF.out⟩
  · have hlt' : ¬ (i : Int) < (p.sis.length : Int) := by omega
    have HF := Lib.hid (HB.out.trans (Below.mono HK.out HLE.out))
    generalize wr = wq at *
    have HKQ := HK
    have r15 := HR15.out wq HKQ.out
    go_wp2_with fail
    clear r15
    go_loopw [7] (fun vi wr => ∃ (i : Nat), i ≤ p.fis.length ∧ vi = .int .i64 i ∧ Hid (Kp W wr)) (fun vi _ => p.fis.length - (intOf vi).toNat)
    case atStart => exact ⟨0, Nat.zero_le _, rfl, Lib.hid HKQ.out⟩
    case round =>
     obtain ⟨i, hi, rfl, HK⟩ := hrel
     have r15 := HR15.out wr HK.out
     by_cases hlt : i < p.fis.length
     · have hlt' : (i : Int) < (p.fis.length : Int) := by omega
       obtain ⟨x, hx⟩ : ∃ x, p.fis[i] = x := ⟨_, rfl⟩
       obtain ⟨g, oo, hak, hg, hE⟩ := HL15.out.row hlt
       subst hak
       have hE1 := hE i hlt
       rw [hx] at hE1
       obtain ⟨m0, m1, m2, m3, m4, m5, m6, m7, m8, mw⟩ := hE1.keep HK.out hg
       have HMWW := Lib.hid mw
       have HNM : Hid (x.p.size ≤ 9223372036854775807) := Lib.hid HMWW.out.1
       clear hx hg hE hE1 mw
       go_upto_region 20 with fail
       obtain ⟨WX, hWX⟩ : ∃ u, wr.alloc (.cells #[.string x.p, .int .i64 x.k, .int .i64 x.c.u, .int .i64 x.c.r, .int .i64 x.c.t, .int .i64 x.c.lo.s, .int .u64 x.c.lo.c, .int .i64 x.c.hi.s, .int .u64 x.c.hi.c] 136) = u := ⟨_, rfl⟩
       have HBX : Hid (Blk WX wr.heap.size 136 #[.string x.p, .int .i64 x.k, .int .i64 x.c.u, .int .i64 x.c.r, .int .i64 x.c.t, .int .i64 x.c.lo.s, .int .u64 x.c.lo.c, .int .i64 x.c.hi.s, .int .u64 x.c.hi.c]) := Lib.hid (by rw [← hWX]; exact Blk.new _ _ _)
       have HKX : Hid (Kp W WX) := Lib.hid (by rw [← hWX]; exact HK.out.alloc _)
       rw [hWX]
       clear r15 m0 m1 m2 m3 m4 m5 m6 m7 m8
       generalize wr.heap.size = gx at *
       clear hWX
       have HBU : Hid (∀ u, Kp WX u → Blk u gx 136 #[.string x.p, .int .i64 x.k, .int .i64 x.c.u, .int .i64 x.c.r, .int .i64 x.c.t, .int .i64 x.c.lo.s, .int .u64 x.c.lo.c, .int .i64 x.c.hi.s, .int .u64 x.c.hi.c]) := Lib.hid (fun u hu => HBX.out.keep hu)
       have HWX : Hid (∀ u, Kp WX u → Kp W u) := Lib.hid (fun u hu => kp_trans HKX.out hu)
       obtain ⟨pe, hpe⟩ : ∃ z, (x.p.toList == []) = z := ⟨_, rfl⟩
       obtain ⟨tk, htk⟩ : ∃ z, refB 3 x.p = z := ⟨_, rfl⟩
       obtain ⟨k1, hk1⟩ : ∃ z, decide (x.k < 0) = z := ⟨_, rfl⟩
       obtain ⟨k2, hk2⟩ : ∃ z, decide ((4 : Int) < x.k) = z := ⟨_, rfl⟩
       obtain ⟨pc, hpc⟩ : ∃ z, placeE p x.c = z := ⟨_, rfl⟩
       have hpee : x.p.toList.isEmpty = pe := by rw [← hpe]; cases x.p.toList <;> rfl
       have HC1 : Hid (∀ u, Kp W u → Calls Tryz.prog 64 #[.agg #[.int .i64 3, .string x.p, .int .i64 0, .int .i64 0]] u fun e w' => e = .returned (.bool tk) ∧ Below u.heap.size u w') := Lib.hid (fun u hu => by rw [← htk]; exact rCheck_c 3 x.p 0 0 u HNM.out)
       have HC2 : Hid (∀ u, Kp W u → Calls Tryz.prog 63 #[q.val, .agg #[.int .i64 x.c.u, .int .i64 x.c.r, .int .i64 x.c.t, .int .i64 x.c.lo.s, .int .u64 x.c.lo.c, .int .i64 x.c.hi.s, .int .u64 x.c.hi.c]] u fun e w' => e = .returned (.int .i64 pc) ∧ Below u.heap.size u w') := Lib.hid (fun u hu => by rw [← hpc]; exact nplace_c q p x.c u (HQ.out.keep hu) HSM.out)
       try clear htk hpc
       all_goals refine wp_region_kq ?_
       repeat' (first | go_big_quiet_skip | (go_big_quiet_want; first | (go_big_quiet_op; first | go_big_quiet_on | (apply Exists.intro; refine ⟨fun w1 hC => ?_, ?_⟩; (first | (go_at_call 64; with_reducible exact hC.call (HC1.out _ (HWX.out _ hC))) | (have z0 := (HBU.out w1 hC).cell 0; have z1 := (HBU.out w1 hC).cell 1; have z2 := (HBU.out w1 hC).cell 2; have z3 := (HBU.out w1 hC).cell 3; have z4 := (HBU.out w1 hC).cell 4; have z5 := (HBU.out w1 hC).cell 5; have z6 := (HBU.out w1 hC).cell 6; have z7 := (HBU.out w1 hC).cell 7; have z8 := (HBU.out w1 hC).cell 8; go_simp; exact rfl) | exact rfl | (go_simp; exact ⟨rfl, rfl⟩)); go_big_quiet_on))) | (cases pe <;> try simp only [Bool.not_true, Bool.not_false]) | (cases tk <;> try simp only [Bool.not_true, Bool.not_false]))
       all_goals refine wpQuiet_nil ?_
       all_goals intro ZW1 hC
       all_goals have HF1 := Lib.hid (HB.out.trans (Below.mono (HWX.out _ hC) HLE.out))
       all_goals have HT1 : Hid (∀ u, Kp ZW1 u → Kp W u) := Lib.hid (fun u hu => kp_trans (HWX.out _ hC) hu)
       all_goals have HY1 : Hid (∀ u, Kp ZW1 u → Kp WX u) := Lib.hid (fun u hu => kp_trans hC hu)
       all_goals clear hC
       all_goals first
        | (go_wp2_with fail
           go_ret
           first | exact ⟨⟨_, rfl⟩, HF1.out⟩ | exact ⟨⟨_, rfl⟩, by rw [hg0]; exact HF1.out⟩ | exact ⟨_, rfl, HF1.out⟩ | exact ⟨_, rfl, by rw [hg0]; exact HF1.out⟩
           done)
        | (go_upto_region 22 with fail
           all_goals refine wp_region_kq ?_
           repeat' (first | go_big_quiet_skip | (go_big_quiet_want; first | (go_big_quiet_op; first | go_big_quiet_on | (apply Exists.intro; refine ⟨fun w1 hC => ?_, ?_⟩; (first | (have z0 := (HBU.out w1 (HY1.out _ hC)).cell 0; have z1 := (HBU.out w1 (HY1.out _ hC)).cell 1; have z2 := (HBU.out w1 (HY1.out _ hC)).cell 2; have z3 := (HBU.out w1 (HY1.out _ hC)).cell 3; have z4 := (HBU.out w1 (HY1.out _ hC)).cell 4; have z5 := (HBU.out w1 (HY1.out _ hC)).cell 5; have z6 := (HBU.out w1 (HY1.out _ hC)).cell 6; have z7 := (HBU.out w1 (HY1.out _ hC)).cell 7; have z8 := (HBU.out w1 (HY1.out _ hC)).cell 8; go_simp; exact rfl) | exact rfl | (go_simp; exact ⟨rfl, rfl⟩)); go_big_quiet_on))) | (cases k1 <;> try simp only [Bool.not_true, Bool.not_false]) | (cases k2 <;> try simp only [Bool.not_true, Bool.not_false]))
           all_goals refine wpQuiet_nil ?_
           all_goals intro ZW2 hC
           all_goals have HF2 := Lib.hid (HB.out.trans (Below.mono (HT1.out _ hC) HLE.out))
           all_goals have HT2 : Hid (∀ u, Kp ZW2 u → Kp W u) := Lib.hid (fun u hu => kp_trans (HT1.out _ hC) hu)
           all_goals have HY2 : Hid (∀ u, Kp ZW2 u → Kp WX u) := Lib.hid (fun u hu => kp_trans (HY1.out _ hC) hu)
           all_goals clear hC
           all_goals first
            | (go_wp2_with fail
               go_ret
               first | exact ⟨⟨_, rfl⟩, HF2.out⟩ | exact ⟨⟨_, rfl⟩, by rw [hg0]; exact HF2.out⟩ | exact ⟨_, rfl, HF2.out⟩ | exact ⟨_, rfl, by rw [hg0]; exact HF2.out⟩
               done)
            | (go_upto_region 24 with fail
               all_goals refine wp_region_kq ?_
               repeat' (first | go_big_quiet_skip | (go_big_quiet_want; first | (refine quiet_load (t := 39) (.tmp 1) rfl rfl (fun w1 hC => loadAt_pol (HX0.out.keep (HT2.out _ hC))) ?_; simp only [Act.put, List.setIfInBounds_toArray, List.set_cons_succ, List.set_cons_zero]; go_big_quiet_on) | (go_big_quiet_op; first | go_big_quiet_on | (apply Exists.intro; refine ⟨fun w1 hC => ?_, ?_⟩; (first | (go_at_call 63; with_reducible exact hC.call (HC2.out _ (HT2.out _ hC))) | (have z0 := (HBU.out w1 (HY2.out _ hC)).cell 0; have z1 := (HBU.out w1 (HY2.out _ hC)).cell 1; have z2 := (HBU.out w1 (HY2.out _ hC)).cell 2; have z3 := (HBU.out w1 (HY2.out _ hC)).cell 3; have z4 := (HBU.out w1 (HY2.out _ hC)).cell 4; have z5 := (HBU.out w1 (HY2.out _ hC)).cell 5; have z6 := (HBU.out w1 (HY2.out _ hC)).cell 6; have z7 := (HBU.out w1 (HY2.out _ hC)).cell 7; have z8 := (HBU.out w1 (HY2.out _ hC)).cell 8; go_simp; exact rfl) | exact rfl | (go_simp; exact ⟨rfl, rfl⟩)); go_big_quiet_on))))
               all_goals refine wpQuiet_nil ?_
               all_goals intro ZW3 hC
               all_goals have HF3 := Lib.hid (HB.out.trans (Below.mono (HT2.out _ hC) HLE.out))
               all_goals have HT3 : Hid (∀ u, Kp ZW3 u → Kp W u) := Lib.hid (fun u hu => kp_trans (HT2.out _ hC) hu)
               all_goals have HY3 : Hid (∀ u, Kp ZW3 u → Kp WX u) := Lib.hid (fun u hu => kp_trans (HY2.out _ hC) hu)
               all_goals clear hC
               all_goals (by_cases h0 : pc = 0
                          · subst h0
                            go_wp2_with fail
                            go_roundw
                            case rel => exact ⟨i + 1, hlt, by go_num, Lib.hid (HT3.out _ Kp.rfl')⟩
                            case measure => simp [intOf]; omega
                          · have hb : (pc == 0) = false := by simpa using h0
                            have hb2 : (pc != 0) = true := by simpa using h0
                            go_wp2_with fail
                            go_ret
                            first | exact ⟨⟨_, rfl⟩, HF3.out⟩ | exact ⟨⟨_, rfl⟩, by rw [hg0]; exact HF3.out⟩ | exact ⟨_, rfl, HF3.out⟩ | exact ⟨_, rfl, by rw [hg0]; exact HF3.out⟩)))
     · have hlt' : ¬ (i : Int) < (p.fis.length : Int) := by omega
       have HF := Lib.hid (HB.out.trans (Below.mono HK.out HLE.out))
       go_wp2_with fail
       go_ret
       first | exact ⟨⟨_, rfl⟩, HF.out⟩ | exact ⟨⟨_, rfl⟩, by rw [hg0]; exact HF.out⟩ | exact ⟨_, rfl, HF.out⟩ | exact ⟨_, rfl, by rw [hg0]; exact HF.out⟩
open Go.RowKit Go
set_option maxRecDepth 100000 in
set_option maxHeartbeats 16000000 in
theorem nothers_c (q : PV) (p : PP) (w : World) (hP : PolV w q p) (hsm : SmP p) : Calls Tryz.prog 29 #[q.val] w fun e w' => ∃ c : Int, e = .returned (.int .i64 c) ∧ Below w.heap.size w w' := by
 have HSM := Lib.hid hsm
 have qbos : ((16 : Int) < (p.bos.length : Int)) = False := eq_false (by have := HSM.out.bos; omega)
 have hIbos : (p.bos.length : Int) ≤ 9223372036854775807 := by have := HSM.out.bos; omega
 have qsens : ((16 : Int) < (p.sens.length : Int)) = False := eq_false (by have := HSM.out.sens; omega)
 have hIsens : (p.sens.length : Int) ≤ 9223372036854775807 := by have := HSM.out.sens; omega
 have qcats : ((64 : Int) < (p.cats.length : Int)) = False := eq_false (by have := HSM.out.cats; omega)
 have hIcats : (p.cats.length : Int) ≤ 9223372036854775807 := by have := HSM.out.cats; omega
 obtain ⟨a5, c5, e5⟩ := hP.bos.form
 have E5 := Lib.hid e5
 clear e5
 obtain ⟨a6, c6, e6⟩ := hP.sens.form
 have E6 := Lib.hid e6
 clear e6
 obtain ⟨a7, c7, e7⟩ := hP.cats.form
 have E7 := Lib.hid e7
 clear e7
 obtain ⟨W, ZW⟩ : ∃ v, Hid ((w.alloc (.cells #[q.v0, q.v1, q.v2, q.v3, q.v4, q.v5, q.v6, q.v7, q.v8, q.v9, q.v10, q.v11, q.v12, q.v13, q.v14, q.v15, q.v16] 39)) = v) := ⟨_, Lib.hid rfl⟩
 have HB : Hid (Below w.heap.size w W) := by cases ZW.out; exact Lib.hid ((Below.refl _ _).alloc (Nat.le_refl _) _)
 have HX0 : Hid (Blk W (w.heap.size) 39 #[q.v0, q.v1, q.v2, q.v3, q.v4, q.v5, q.v6, q.v7, q.v8, q.v9, q.v10, q.v11, q.v12, q.v13, q.v14, q.v15, q.v16]) := by cases ZW.out; exact Lib.hid (Blk.here (by simp))
 have HQ : Hid (PolV W q p) := by cases ZW.out; exact Lib.hid (hP.keep HB.out)
 have HLE : Hid (w.heap.size ≤ W.heap.size) := by cases ZW.out; exact Lib.hid HB.out.size
 try unfold PV.val
 go_enter Tryz.func29, Tryz.ntmps29
 go_upto_region 1 with fail
 rw [ZW.out]
 generalize hg0 : w.heap.size = g0 at *
 have HR5 : Hid (∀ u, Kp W u → u.cell? ⟨g0, 5, none⟩ = some (.slice a5 p.bos.length c5)) := Lib.hid (fun u hu => pol_cell (HX0.out.keep hu) rfl E5.out)
 have HR6 : Hid (∀ u, Kp W u → u.cell? ⟨g0, 6, none⟩ = some (.slice a6 p.sens.length c6)) := Lib.hid (fun u hu => pol_cell (HX0.out.keep hu) rfl E6.out)
 have HR7 : Hid (∀ u, Kp W u → u.cell? ⟨g0, 7, none⟩ = some (.slice a7 p.cats.length c7)) := Lib.hid (fun u hu => pol_cell (HX0.out.keep hu) rfl E7.out)
 generalize Value.agg #[q.v0, q.v1, q.v2, q.v3, q.v4, q.v5, q.v6, q.v7, q.v8, q.v9, q.v10, q.v11, q.v12, q.v13, q.v14, q.v15, q.v16] = P0
 clear hP
 have HL5 : Hid (SlR 2 CBo W (.slice a5 p.bos.length c5) p.bos) := Lib.hid (by rw [← E5.out]; exact HQ.out.bos)
 have HWB : Hid (∀ j (h : j < p.bos.length), (p.bos[j]).n.size ≤ 9223372036854775807) := Lib.hid (fun j h => by obtain ⟨g, oo, -, -, hE⟩ := HL5.out.row h; exact (hE j h).2.2)
 have r5 := HR5.out W Kp.rfl'
 go_wp2_with fail
 clear r5
 go_loopw [3, 4] (fun vl vi wr => ∃ (i : Nat) (vv : Value), vv = vl ∧ i ≤ p.bos.length ∧ vi = .int .i64 i ∧ Hid (Kp W wr) ∧ Hid (OwnS wr W.heap.size vv ((p.bos.take i).map (·.n)))) (fun _ vi _ => p.bos.length - (intOf vi).toNat)
 case atStart => exact ⟨0, _, rfl, Nat.zero_le _, rfl, Lib.hid Kp.rfl', Lib.hid (by exact OwnS.nil)⟩
 case round =>
  obtain ⟨i, v, rfl, hi, rfl, HK, HO⟩ := hrel
  have r5 := HR5.out wr HK.out
  by_cases hlt : i < p.bos.length
  · have hlt' : (i : Int) < (p.bos.length : Int) := by omega
    obtain ⟨x, hx⟩ : ∃ x, p.bos[i] = x := ⟨_, rfl⟩
    have HXX := Lib.hid hx
    obtain ⟨g, oo, hak, hg, hE⟩ := HL5.out.row hlt
    subst hak
    have hE1 := hE i hlt
    rw [hx] at hE1
    have m0 : wr.cell? ⟨g, oo + i * 2, none⟩ = some (.string x.n) := (hE1.keep HK.out hg).1
    have HMW := Lib.hid hE1.2.2
    clear hx hg hE hE1
    obtain ⟨T, hT⟩ : ∃ T, (p.bos.take i).map (·.n) = T := ⟨_, rfl⟩
    have hTl : T.length = i := by rw [← hT]; simp; omega
    have HX : Hid ((p.bos.take (i + 1)).map (·.n) = T ++ [x.n]) := Lib.hid (by rw [← hT]; exact take_map (·.n) hlt HXX.out)
    rw [hT] at HO
    have HTI := Lib.hid hTl
    obtain ⟨aoT, capT, rfl, -, -⟩ := HO.out.cap
    have HIL : Hid (i ≤ 6) := Lib.hid (by have := HSM.out.bos; omega)
    clear hT hTl
    go_wp2_with (at_builtin; refine wpList_name rfl _ _ rfl rfl (HO.out.alloc _) rfl ((Blk.new wr 9 #[.string x.n]).cell 0) (by have := HTI.out; have := HIL.out; omega) (by have := HK.out.size; simp; omega) ?_; intro v2 V2 hO2 hB2 hk2; have HO2 := Lib.hid hO2; have HK2 : Hid (Kp W V2) := Lib.hid ((HK.out.alloc _).trans hB2); clear hO2 hB2 hk2)
    go_roundw
    case rel => exact ⟨i + 1, _, rfl, hlt, by go_num, HK2, Lib.hid (by rw [HX.out]; exact HO2.out)⟩
    case measure => simp [intOf]; omega
  · have hlt' : ¬ (i : Int) < (p.bos.length : Int) := by omega
    obtain ⟨T, hT⟩ : ∃ T, (p.bos.take i).map (·.n) = T := ⟨_, rfl⟩
    have HTW : Hid (TxW T) := Lib.hid (by rw [← hT]; intro s hs; obtain ⟨x, hx, rfl⟩ := List.mem_map.1 hs; obtain ⟨j, hj, rfl⟩ := List.getElem_of_mem (List.mem_of_mem_take hx); exact HWB.out j hj)
    have HTL : Hid (T.length ≤ 6) := Lib.hid (by rw [← hT]; have := HSM.out.bos; simp; omega)
    rw [hT] at HO
    clear hT
    obtain ⟨aoT, capT, rfl, hcT, hsT⟩ := HO.out.cap
    have HCT := Lib.hid hcT
    have HST := Lib.hid hsT
    clear hcT hsT
    obtain ⟨c1, hc1⟩ : ∃ c, namesE T [] = c := ⟨_, rfl⟩
    obtain ⟨c2, hc2⟩ : ∃ c, namesE p.sens [] = c := ⟨_, rfl⟩
    obtain ⟨c3, hc3⟩ : ∃ c, namesE p.cats [] = c := ⟨_, rfl⟩
    have HC2 := Lib.hid hc2
    have HC3 := Lib.hid hc3
    have HN1 : Hid (Calls Tryz.prog 48 #[.slice aoT T.length capT, .slice none 0 0] wr fun e w' => e = .returned (.int .i64 c1) ∧ Below wr.heap.size wr w') := Lib.hid (by rw [← hc1]; exact nnames_c _ _ T [] _ HST.out ⟨_, _, rfl, HCT.out⟩ Strs.nil HTW.out (by have := HTL.out; unfold maxLen; omega) (by unfold maxLen; simp))
    clear hc1 hc2 hc3
    by_cases h1 : c1 = 0
    · have kc1 : (c1 == 0) = true := by simpa using h1
      have jc1 : (c1 != 0) = false := by simpa using h1
      clear h1
      go_upto_region 11 with (go_at_call 48; (with_reducible refine HN1.out.mono ?_); rintro e V1 ⟨rfl, hb⟩; have HBV1 := Lib.hid hb; clear hb)
      have HK1 : Hid (Kp W V1) := Lib.hid (kp_trans HK.out HBV1.out)
      have r6 := HR6.out V1 HK1.out
      have HN2 : Hid (Calls Tryz.prog 48 #[.slice a6 p.sens.length c6, .slice none 0 0] V1 fun e w' => e = .returned (.int .i64 c2) ∧ Below V1.heap.size V1 w') := Lib.hid (by rw [← HC2.out]; exact nnames_c _ _ p.sens [] _ (by have h := (HQ.out.keep HK1.out).sens; rw [E6.out] at h; exact h) (by have h := HQ.out.ksens; rw [E6.out] at h; exact h) Strs.nil HQ.out.wsens (by have := HSM.out.sens; unfold maxLen; omega) (by unfold maxLen; simp))
      by_cases h2 : c2 = 0
      · have kc2 : (c2 == 0) = true := by simpa using h2
        have jc2 : (c2 != 0) = false := by simpa using h2
        clear h2
        go_upto_region 16 with (go_at_call 48; (with_reducible refine HN2.out.mono ?_); rintro e V2 ⟨rfl, hb⟩; have HBV2 := Lib.hid hb; clear hb)
        have HK2 : Hid (Kp W V2) := Lib.hid (kp_trans HK1.out HBV2.out)
        clear r6
        have r7 := HR7.out V2 HK2.out
        have HN3 : Hid (Calls Tryz.prog 48 #[.slice a7 p.cats.length c7, .slice none 0 0] V2 fun e w' => e = .returned (.int .i64 c3) ∧ Below V2.heap.size V2 w') := Lib.hid (by rw [← HC3.out]; exact nnames_c _ _ p.cats [] _ (by have h := (HQ.out.keep HK2.out).cats; rw [E7.out] at h; exact h) (by have h := HQ.out.kcats; rw [E7.out] at h; exact h) Strs.nil HQ.out.wcats (by have := HSM.out.cats; unfold maxLen; omega) (by unfold maxLen; simp))
        go_wp2_with (go_at_call 48; (with_reducible refine HN3.out.mono ?_); rintro e V3 ⟨rfl, hb⟩; have HBV3 := Lib.hid hb; clear hb)
        have HF := Lib.hid (HB.out.trans (Below.mono (kp_trans HK2.out HBV3.out) HLE.out))
        go_ret
        first | exact ⟨⟨_, rfl⟩, HF.out⟩ | exact ⟨⟨_, rfl⟩, by rw [hg0]; exact HF.out⟩ | exact ⟨_, rfl, HF.out⟩ | exact ⟨_, rfl, by rw [hg0]; exact HF.out⟩
      · have kc2 : (c2 == 0) = false := by simpa using h2
        have jc2 : (c2 != 0) = true := by simpa using h2
        clear h2
        go_wp2_with (go_at_call 48; (with_reducible refine HN2.out.mono ?_); rintro e V2 ⟨rfl, hb⟩; have HBV2 := Lib.hid hb; clear hb)
        have HF := Lib.hid (HB.out.trans (Below.mono (kp_trans HK1.out HBV2.out) HLE.out))
        go_ret
        first | exact ⟨⟨_, rfl⟩, HF.out⟩ | exact ⟨⟨_, rfl⟩, by rw [hg0]; exact HF.out⟩ | exact ⟨_, rfl, HF.out⟩ | exact ⟨_, rfl, by rw [hg0]; exact HF.out⟩
    · have kc1 : (c1 == 0) = false := by simpa using h1
      have jc1 : (c1 != 0) = true := by simpa using h1
      clear h1
      go_wp2_with (go_at_call 48; (with_reducible refine HN1.out.mono ?_); rintro e V1 ⟨rfl, hb⟩; have HBV1 := Lib.hid hb; clear hb)
      have HF := Lib.hid (HB.out.trans (Below.mono (kp_trans HK.out HBV1.out) HLE.out))
      go_ret
      first | exact ⟨⟨_, rfl⟩, HF.out⟩ | exact ⟨⟨_, rfl⟩, by rw [hg0]; exact HF.out⟩ | exact ⟨_, rfl, HF.out⟩ | exact ⟨_, rfl, by rw [hg0]; exact HF.out⟩
end Go.Proofs.YtbhoofihnmmmfabGreat
