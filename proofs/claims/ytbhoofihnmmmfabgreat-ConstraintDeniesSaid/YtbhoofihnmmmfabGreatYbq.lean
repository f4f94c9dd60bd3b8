/- Part of the proof: Pnq. No conditions. -/
import Derived.Test.YtbhoofihnmmmfabGreatYbg
namespace Go.Proofs.YtbhoofihnmmmfabGreat
open Go.RowKit Go
set_option maxRecDepth 100000 in
set_option maxHeartbeats 16000000 in
theorem ntrans_c (q : PV) (p : PP) (w : World) (hP : PolV w q p) (hsm : SmP p) : Calls Tryz.prog 31 #[q.val] w fun e w' => ∃ c : Int, e = .returned (.int .i64 c) ∧ Below w.heap.size w w' := by
 have HSM := Lib.hid hsm
 have hItrs : (p.trs.length : Int) ≤ 9223372036854775807 := by have := HSM.out.trs; omega
 have hItys : (p.tys.length : Int) ≤ 9223372036854775807 := by have := HSM.out.tys; omega
 have hIcls : (p.cls.length : Int) ≤ 9223372036854775807 := by have := HSM.out.cls; omega
 obtain ⟨a0, c0, e0⟩ := hP.cls.form
 have E0 := Lib.hid e0
 clear e0
 obtain ⟨a1, c1, e1⟩ := hP.tys.form
 have E1 := Lib.hid e1
 clear e1
 obtain ⟨a8, c8, e8⟩ := hP.cds.form
 have E8 := Lib.hid e8
 clear e8
 obtain ⟨a10, c10, e10⟩ := hP.trs.form
 have E10 := Lib.hid e10
 clear e10
 obtain ⟨W, ZW⟩ : ∃ v, Hid ((w.alloc (.cells #[q.v0, q.v1, q.v2, q.v3, q.v4, q.v5, q.v6, q.v7, q.v8, q.v9, q.v10, q.v11, q.v12, q.v13, q.v14, q.v15, q.v16] 39)) = v) := ⟨_, Lib.hid rfl⟩
 have HB : Hid (Below w.heap.size w W) := by cases ZW.out; exact Lib.hid ((Below.refl _ _).alloc (Nat.le_refl _) _)
 have HX0 : Hid (Blk W (w.heap.size) 39 #[q.v0, q.v1, q.v2, q.v3, q.v4, q.v5, q.v6, q.v7, q.v8, q.v9, q.v10, q.v11, q.v12, q.v13, q.v14, q.v15, q.v16]) := by cases ZW.out; exact Lib.hid (Blk.here (by simp))
 have HQ : Hid (PolV W q p) := by cases ZW.out; exact Lib.hid (hP.keep HB.out)
 have HLE : Hid (w.heap.size ≤ W.heap.size) := by cases ZW.out; exact Lib.hid HB.out.size
 try unfold PV.val
 go_enter Tryz.func31, Tryz.ntmps31
 go_upto_region 1 with fail
 rw [ZW.out]
 generalize hg0 : w.heap.size = g0 at *
 have HR0 : Hid (∀ u, Kp W u → u.cell? ⟨g0, 0, none⟩ = some (.slice a0 p.cls.length c0)) := Lib.hid (fun u hu => pol_cell (HX0.out.keep hu) rfl E0.out)
 have HR1 : Hid (∀ u, Kp W u → u.cell? ⟨g0, 1, none⟩ = some (.slice a1 p.tys.length c1)) := Lib.hid (fun u hu => pol_cell (HX0.out.keep hu) rfl E1.out)
 have HR8 : Hid (∀ u, Kp W u → u.cell? ⟨g0, 8, none⟩ = some (.slice a8 p.cds.length c8)) := Lib.hid (fun u hu => pol_cell (HX0.out.keep hu) rfl E8.out)
 have HR10 : Hid (∀ u, Kp W u → u.cell? ⟨g0, 10, none⟩ = some (.slice a10 p.trs.length c10)) := Lib.hid (fun u hu => pol_cell (HX0.out.keep hu) rfl E10.out)
 generalize Value.agg #[q.v0, q.v1, q.v2, q.v3, q.v4, q.v5, q.v6, q.v7, q.v8, q.v9, q.v10, q.v11, q.v12, q.v13, q.v14, q.v15, q.v16] = P0
 clear hP
 have HL10 : Hid (SlR 13 CTr W (.slice a10 p.trs.length c10) p.trs) := Lib.hid (by rw [← E10.out]; exact HQ.out.trs)
 have r10 := HR10.out W Kp.rfl'
 obtain ⟨WA, ZWA⟩ : ∃ v, Hid ((W.alloc (.cells #[.int .i64 0, .int .i64 0, .int .i64 0, .int .i64 0] 78)) = v) := ⟨_, Lib.hid rfl⟩
 have HA0 : Hid (Blk WA W.heap.size 78 #[.int .i64 0, .int .i64 0, .int .i64 0, .int .i64 0]) := by cases ZWA.out; exact Lib.hid (Blk.new _ _ _)
 have HKA : Hid (Kp W WA) := by cases ZWA.out; exact Lib.hid (Kp.rfl'.alloc _)
 go_wp2_with fail
 rw [ZWA.out]
 generalize hga : W.heap.size = ga at *
 have HLE : Hid (g0 ≤ W.heap.size) := Lib.hid (by rw [hga]; exact HLE.out)
 go_loopw [4] (fun vi wr => ∃ (i : Nat) (n0 n1 n2 n3 : Int), i ≤ p.trs.length ∧ vi = .int .i64 i ∧ 0 ≤ n1 ∧ n1 ≤ i ∧ 0 ≤ n2 ∧ n2 ≤ i ∧ 0 ≤ n3 ∧ n3 ≤ i ∧ Hid (Kp W wr) ∧ Hid (Blk wr ga 78 #[.int .i64 n0, .int .i64 n1, .int .i64 n2, .int .i64 n3])) (fun vi _ => p.trs.length - (intOf vi).toNat)
 case atStart => exact ⟨0, 0, 0, 0, 0, Nat.zero_le _, rfl, by omega, by omega, by omega, by omega, by omega, by omega, HKA, HA0⟩
 case round =>
  clear HKA HA0
  obtain ⟨i, n0, n1, n2, n3, hi, rfl, g1, g2, g3, g4, g5, g6, HK, HA⟩ := hrel
  have r10 := HR10.out wr HK.out
  have hb36 := HSM.out.trs
  by_cases hlt : i < p.trs.length
  · have hlt' : (i : Int) < (p.trs.length : Int) := by omega
    obtain ⟨x, hx⟩ : ∃ x, p.trs[i] = x := ⟨_, rfl⟩
    obtain ⟨g, oo, hak, hg, hE⟩ := HL10.out.row hlt
    subst hak
    have hE1 := hE i hlt
    rw [hx] at hE1
    obtain ⟨m0, -⟩ := hE1.keep HK.out hg
    clear hx hE hE1 hg
    have a0 := HA.out.cell 0
    have a1 := HA.out.cell 1
    have a2 := HA.out.cell 2
    have a3 := HA.out.cell 3
    have zf := HA.out.frozen
    by_cases h1 : 1 ≤ x.k ∧ x.k ≤ 3
    · obtain ⟨h1a, h1b⟩ := h1
      have hk : x.k = 1 ∨ x.k = 2 ∨ x.k = 3 := by omega
      clear h1a h1b
      rcases hk with hk | hk | hk
      · rw [hk] at m0
        go_upto_region 8 with fail
        have HA2 : Hid (Blk (wr.setCell ⟨ga, 1, none⟩ (.int .i64 (n1 + 1))) ga 78 #[.int .i64 n0, .int .i64 (n1 + 1), .int .i64 n2, .int .i64 n3]) := Lib.hid (by have h := HA.out.set 1 (.int .i64 (n1 + 1)); simpa using h)
        have HK2 : Hid (Kp W (wr.setCell ⟨ga, 1, none⟩ (.int .i64 (n1 + 1)))) := Lib.hid (below_set1 HK.out (by rw [hga]; exact Nat.le_refl _) _ _)
        generalize wr.setCell ⟨ga, 1, none⟩ (.int .i64 (n1 + 1)) = W2 at *
        clear a0 a1 a2 a3 zf r10 m0
        have a1 := HA2.out.cell 1
        have qk : ((1024 : Int) < n1 + 1) = False := eq_false (by omega)
        go_wp2_with fail
        go_roundw
        case rel => exact ⟨i + 1, n0, (n1 + 1), n2, n3, hlt, by go_num, by omega, by omega, by omega, by omega, by omega, by omega, HK2, HA2⟩
        case measure => simp [intOf]; omega
      · rw [hk] at m0
        go_upto_region 8 with fail
        have HA2 : Hid (Blk (wr.setCell ⟨ga, 2, none⟩ (.int .i64 (n2 + 1))) ga 78 #[.int .i64 n0, .int .i64 n1, .int .i64 (n2 + 1), .int .i64 n3]) := Lib.hid (by have h := HA.out.set 2 (.int .i64 (n2 + 1)); simpa using h)
        have HK2 : Hid (Kp W (wr.setCell ⟨ga, 2, none⟩ (.int .i64 (n2 + 1)))) := Lib.hid (below_set1 HK.out (by rw [hga]; exact Nat.le_refl _) _ _)
        generalize wr.setCell ⟨ga, 2, none⟩ (.int .i64 (n2 + 1)) = W2 at *
        clear a0 a1 a2 a3 zf r10 m0
        have a2 := HA2.out.cell 2
        have qk : ((1024 : Int) < n2 + 1) = False := eq_false (by omega)
        go_wp2_with fail
        go_roundw
        case rel => exact ⟨i + 1, n0, n1, (n2 + 1), n3, hlt, by go_num, by omega, by omega, by omega, by omega, by omega, by omega, HK2, HA2⟩
        case measure => simp [intOf]; omega
      · rw [hk] at m0
        go_upto_region 8 with fail
        have HA2 : Hid (Blk (wr.setCell ⟨ga, 3, none⟩ (.int .i64 (n3 + 1))) ga 78 #[.int .i64 n0, .int .i64 n1, .int .i64 n2, .int .i64 (n3 + 1)]) := Lib.hid (by have h := HA.out.set 3 (.int .i64 (n3 + 1)); simpa using h)
        have HK2 : Hid (Kp W (wr.setCell ⟨ga, 3, none⟩ (.int .i64 (n3 + 1)))) := Lib.hid (below_set1 HK.out (by rw [hga]; exact Nat.le_refl _) _ _)
        generalize wr.setCell ⟨ga, 3, none⟩ (.int .i64 (n3 + 1)) = W2 at *
        clear a0 a1 a2 a3 zf r10 m0
        have a3 := HA2.out.cell 3
        have qk : ((1024 : Int) < n3 + 1) = False := eq_false (by omega)
        go_wp2_with fail
        go_roundw
        case rel => exact ⟨i + 1, n0, n1, n2, (n3 + 1), hlt, by go_num, by omega, by omega, by omega, by omega, by omega, by omega, HK2, HA2⟩
        case measure => simp [intOf]; omega
    · by_cases h2 : 1 ≤ x.k
      · have h3 : ¬ x.k ≤ 3 := fun h => h1 ⟨h2, h⟩
        have h3b : (x.k ≤ 3) = False := eq_false h3
        clear h1
        go_wp2_with fail
        go_roundw
        case rel => exact ⟨i + 1, n0, n1, n2, n3, hlt, by go_num, by omega, by omega, by omega, by omega, by omega, by omega, HK, HA⟩
        case measure => simp [intOf]; omega
      · have h2b : ((1 : Int) ≤ x.k) = False := eq_false h2
        clear h1
        go_wp2_with fail
        go_roundw
        case rel => exact ⟨i + 1, n0, n1, n2, n3, hlt, by go_num, by omega, by omega, by omega, by omega, by omega, by omega, HK, HA⟩
        case measure => simp [intOf]; omega
  · have hlt' : ¬ (i : Int) < (p.trs.length : Int) := by omega
    have HF := Lib.hid (HB.out.trans (Below.mono HK.out HLE.out))
    clear r10
    generalize wr = wq at *
    have HKQ := HK
    have r10 := HR10.out wq HKQ.out
    go_wp2_with fail
    clear r10
    go_loopw [6] (fun vi wr => ∃ (i : Nat), i ≤ p.trs.length ∧ vi = .int .i64 i ∧ Hid (Kp W wr)) (fun vi _ => p.trs.length - (intOf vi).toNat)
    case atStart => exact ⟨0, Nat.zero_le _, rfl, Lib.hid HKQ.out⟩
    case round =>
     obtain ⟨i, hi, rfl, HK⟩ := hrel
     have r10 := HR10.out wr HK.out
     by_cases hlt : i < p.trs.length
     · have hlt' : (i : Int) < (p.trs.length : Int) := by omega
       obtain ⟨x, hx⟩ : ∃ x, p.trs[i] = x := ⟨_, rfl⟩
       obtain ⟨g, oo, hak, hg, hE⟩ := HL10.out.row hlt
       subst hak
       have hE1 := hE i hlt
       rw [hx] at hE1
       obtain ⟨m0, m1, m2, m3, m4, m5, m6, m7, m8, m9, m10, m11, m12, mw⟩ := hE1.keep HK.out hg
       have HMWW := Lib.hid mw
       have HNM : Hid (x.nm.size ≤ 9223372036854775807) := Lib.hid HMWW.out.2.2.2.2.2.2.2.2.2.2.1
       clear hx hg hE hE1 mw
       go_upto_region 14 with fail
       obtain ⟨WX, hWX⟩ : ∃ u, wr.alloc (.cells #[.int .i64 x.k, .int .u64 x.src.a, .int .u64 x.src.b, .int .u64 x.src.c, .int .u64 x.src.d, .int .u64 x.tgt.a, .int .u64 x.tgt.b, .int .u64 x.tgt.c, .int .u64 x.tgt.d, .int .i64 x.cl, .string x.nm, .int .i64 x.res, .int .i64 x.cd] 80) = u := ⟨_, rfl⟩
       have HBX : Hid (Blk WX wr.heap.size 80 #[.int .i64 x.k, .int .u64 x.src.a, .int .u64 x.src.b, .int .u64 x.src.c, .int .u64 x.src.d, .int .u64 x.tgt.a, .int .u64 x.tgt.b, .int .u64 x.tgt.c, .int .u64 x.tgt.d, .int .i64 x.cl, .string x.nm, .int .i64 x.res, .int .i64 x.cd]) := Lib.hid (by rw [← hWX]; exact Blk.new _ _ _)
       have HKX : Hid (Kp W WX) := Lib.hid (by rw [← hWX]; exact HK.out.alloc _)
       rw [hWX]
       clear r10 m0 m1 m2 m3 m4 m5 m6 m7 m8 m9 m10 m11 m12
       generalize wr.heap.size = gx at *
       clear hWX
       have HBU : Hid (∀ u, Kp WX u → Blk u gx 80 #[.int .i64 x.k, .int .u64 x.src.a, .int .u64 x.src.b, .int .u64 x.src.c, .int .u64 x.src.d, .int .u64 x.tgt.a, .int .u64 x.tgt.b, .int .u64 x.tgt.c, .int .u64 x.tgt.d, .int .i64 x.cl, .string x.nm, .int .i64 x.res, .int .i64 x.cd]) := Lib.hid (fun u hu => HBX.out.keep hu)
       have HWX : Hid (∀ u, Kp WX u → Kp W u) := Lib.hid (fun u hu => kp_trans HKX.out hu)
       obtain ⟨b1, hb1⟩ : ∃ z, decide (x.k < 1) = z := ⟨_, rfl⟩
       obtain ⟨b2, hb2⟩ : ∃ z, decide ((3 : Int) < x.k) = z := ⟨_, rfl⟩
       obtain ⟨s1, hs1⟩ : ∃ z, someN x.src = z := ⟨_, rfl⟩
       obtain ⟨s2, hs2⟩ : ∃ z, someW x.src p.tys.length = z := ⟨_, rfl⟩
       obtain ⟨t1, ht1⟩ : ∃ z, someN x.tgt = z := ⟨_, rfl⟩
       obtain ⟨t2, ht2⟩ : ∃ z, someW x.tgt p.tys.length = z := ⟨_, rfl⟩
       obtain ⟨c1, hc1⟩ : ∃ z, bel x.cl p.cls.length = z := ⟨_, rfl⟩
       obtain ⟨c2, hc2⟩ : ∃ z, bel x.res p.tys.length = z := ⟨_, rfl⟩
       obtain ⟨d1, hd1⟩ : ∃ z, cdB p x.cd = z := ⟨_, rfl⟩
       obtain ⟨k1, hk1⟩ : ∃ z, (x.k == 1) = z := ⟨_, rfl⟩
       obtain ⟨ne, hne⟩ : ∃ z, (x.nm.toList == []) = z := ⟨_, rfl⟩
       obtain ⟨ob, hob⟩ : ∃ z, objB x.nm = z := ⟨_, rfl⟩
       have hk1n : (x.k != 1) = !k1 := by rw [bne, hk1]
       have hnen : (x.nm.toList != []) = !ne := by rw [bne, hne]
       have hnee : x.nm.toList.isEmpty = ne := by rw [← hne]; cases x.nm.toList <;> rfl
       have HC1 : Hid (∀ u, Kp W u → Calls Tryz.prog 50 #[.agg #[.int .u64 x.src.a, .int .u64 x.src.b, .int .u64 x.src.c, .int .u64 x.src.d], .int .i64 p.tys.length] u fun e w' => e = .returned (.tuple #[.bool s1, .bool s2]) ∧ Below u.heap.size u w') := Lib.hid (fun u hu => by rw [← hs1, ← hs2]; exact nsome_c x.src _ u (by omega) (by have := HSM.out.tys; omega))
       have HC2 : Hid (∀ u, Kp W u → Calls Tryz.prog 50 #[.agg #[.int .u64 x.tgt.a, .int .u64 x.tgt.b, .int .u64 x.tgt.c, .int .u64 x.tgt.d], .int .i64 p.tys.length] u fun e w' => e = .returned (.tuple #[.bool t1, .bool t2]) ∧ Below u.heap.size u w') := Lib.hid (fun u hu => by rw [← ht1, ← ht2]; exact nsome_c x.tgt _ u (by omega) (by have := HSM.out.tys; omega))
       have HC3 : Hid (∀ u, Kp W u → Calls Tryz.prog 60 #[.int .i64 x.cl, .int .i64 p.cls.length] u fun e w' => e = .returned (.bool c1) ∧ w' = u) := Lib.hid (fun u hu => by rw [← hc1]; exact nbel_c _ _ u)
       have HC4 : Hid (∀ u, Kp W u → Calls Tryz.prog 60 #[.int .i64 x.res, .int .i64 p.tys.length] u fun e w' => e = .returned (.bool c2) ∧ w' = u) := Lib.hid (fun u hu => by rw [← hc2]; exact nbel_c _ _ u)
       have HC5 : Hid (∀ u, Kp W u → Calls Tryz.prog 59 #[q.val, .int .i64 x.cd] u fun e w' => e = .returned (.bool d1) ∧ Below u.heap.size u w') := Lib.hid (fun u hu => by rw [← hd1]; exact ncond_c q p x.cd u (HQ.out.keep hu) (by have := HSM.out.cds; omega))
       have HC6 : Hid (∀ u, Kp W u → Calls Tryz.prog 61 #[.string x.nm] u fun e w' => e = .returned (.bool ob) ∧ Below u.heap.size u w') := Lib.hid (fun u hu => by rw [← hob]; exact nobj_c x.nm u HNM.out)
       try clear hs1 hs2 ht1 ht2 hc1 hc2 hd1 hob
       all_goals refine wp_region_kq ?_
       repeat' (first | go_big_quiet_skip | (go_big_quiet_want; first | (go_big_quiet_op; first | go_big_quiet_on | (apply Exists.intro; refine ⟨fun w1 hC => ?_, ?_⟩; (first | (have z0 := (HBU.out w1 hC).cell 0; have z1 := (HBU.out w1 hC).cell 1; have z2 := (HBU.out w1 hC).cell 2; have z3 := (HBU.out w1 hC).cell 3; have z4 := (HBU.out w1 hC).cell 4; have z5 := (HBU.out w1 hC).cell 5; have z6 := (HBU.out w1 hC).cell 6; have z7 := (HBU.out w1 hC).cell 7; have z8 := (HBU.out w1 hC).cell 8; have z9 := (HBU.out w1 hC).cell 9; have z10 := (HBU.out w1 hC).cell 10; have z11 := (HBU.out w1 hC).cell 11; have z12 := (HBU.out w1 hC).cell 12; go_simp; exact rfl) | exact rfl | (go_simp; exact ⟨rfl, rfl⟩)); go_big_quiet_on))) | (cases b1 <;> try simp only [Bool.not_true, Bool.not_false]) | (cases b2 <;> try simp only [Bool.not_true, Bool.not_false]))
       all_goals refine wpQuiet_nil ?_
       all_goals intro ZW1 hC
       all_goals have HF1 := Lib.hid (HB.out.trans (Below.mono (HWX.out _ hC) HLE.out))
       all_goals have HT1 : Hid (∀ u, Kp ZW1 u → Kp W u) := Lib.hid (fun u hu => kp_trans (HWX.out _ hC) hu)
       all_goals have HY1 : Hid (∀ u, Kp ZW1 u → Kp WX u) := Lib.hid (fun u hu => kp_trans hC hu)
       all_goals clear hC
       all_goals first
        | (go_wp2_with fail
           go_ret
           first | exact ⟨⟨_, rfl⟩, HF1.out⟩ | exact ⟨⟨_, rfl⟩, by rw [hg0]; exact HF1.out⟩ | exact ⟨_, rfl, HF1.out⟩ | exact ⟨_, rfl, by rw [hg0]; exact HF1.out⟩
           done)
        | (go_upto_region 16 with fail
           all_goals refine wp_region_kq ?_
           repeat' (first | go_big_quiet_skip | (go_big_quiet_want; first | (go_big_quiet_op; first | go_big_quiet_on | (apply Exists.intro; refine ⟨fun w1 hC => ?_, ?_⟩; (first | (go_at_call 50; with_reducible exact hC.call (HC1.out _ (HT1.out _ hC))) | (have z0 := (HBU.out w1 (HY1.out _ hC)).cell 0; have z1 := (HBU.out w1 (HY1.out _ hC)).cell 1; have z2 := (HBU.out w1 (HY1.out _ hC)).cell 2; have z3 := (HBU.out w1 (HY1.out _ hC)).cell 3; have z4 := (HBU.out w1 (HY1.out _ hC)).cell 4; have z5 := (HBU.out w1 (HY1.out _ hC)).cell 5; have z6 := (HBU.out w1 (HY1.out _ hC)).cell 6; have z7 := (HBU.out w1 (HY1.out _ hC)).cell 7; have z8 := (HBU.out w1 (HY1.out _ hC)).cell 8; have z9 := (HBU.out w1 (HY1.out _ hC)).cell 9; have z10 := (HBU.out w1 (HY1.out _ hC)).cell 10; have z11 := (HBU.out w1 (HY1.out _ hC)).cell 11; have z12 := (HBU.out w1 (HY1.out _ hC)).cell 12; go_simp; exact rfl) | (have y1 := HR1.out w1 (HT1.out _ hC); go_simp; exact rfl) | exact rfl | (go_simp; exact ⟨rfl, rfl⟩)); go_big_quiet_on))))
           all_goals refine wpQuiet_nil ?_
           all_goals intro ZW2 hC
           all_goals have HF2 := Lib.hid (HB.out.trans (Below.mono (HT1.out _ hC) HLE.out))
           all_goals have HT2 : Hid (∀ u, Kp ZW2 u → Kp W u) := Lib.hid (fun u hu => kp_trans (HT1.out _ hC) hu)
           all_goals have HY2 : Hid (∀ u, Kp ZW2 u → Kp WX u) := Lib.hid (fun u hu => kp_trans (HY1.out _ hC) hu)
           all_goals clear hC
           all_goals (go_upto_region 17 with fail
                      all_goals refine wp_region_kq ?_
                      repeat' (first | go_big_quiet_skip | (go_big_quiet_want; first | (go_big_quiet_op; first | go_big_quiet_on | (apply Exists.intro; refine ⟨fun w1 hC => ?_, ?_⟩; (first | (go_at_call 50; with_reducible exact hC.call (HC2.out _ (HT2.out _ hC))) | (have z0 := (HBU.out w1 (HY2.out _ hC)).cell 0; have z1 := (HBU.out w1 (HY2.out _ hC)).cell 1; have z2 := (HBU.out w1 (HY2.out _ hC)).cell 2; have z3 := (HBU.out w1 (HY2.out _ hC)).cell 3; have z4 := (HBU.out w1 (HY2.out _ hC)).cell 4; have z5 := (HBU.out w1 (HY2.out _ hC)).cell 5; have z6 := (HBU.out w1 (HY2.out _ hC)).cell 6; have z7 := (HBU.out w1 (HY2.out _ hC)).cell 7; have z8 := (HBU.out w1 (HY2.out _ hC)).cell 8; have z9 := (HBU.out w1 (HY2.out _ hC)).cell 9; have z10 := (HBU.out w1 (HY2.out _ hC)).cell 10; have z11 := (HBU.out w1 (HY2.out _ hC)).cell 11; have z12 := (HBU.out w1 (HY2.out _ hC)).cell 12; go_simp; exact rfl) | (have y1 := HR1.out w1 (HT2.out _ hC); go_simp; exact rfl) | exact rfl | (go_simp; exact ⟨rfl, rfl⟩)); go_big_quiet_on))))
                      all_goals refine wpQuiet_nil ?_
                      all_goals intro ZW3 hC
                      all_goals have HF3 := Lib.hid (HB.out.trans (Below.mono (HT2.out _ hC) HLE.out))
                      all_goals have HT3 : Hid (∀ u, Kp ZW3 u → Kp W u) := Lib.hid (fun u hu => kp_trans (HT2.out _ hC) hu)
                      all_goals have HY3 : Hid (∀ u, Kp ZW3 u → Kp WX u) := Lib.hid (fun u hu => kp_trans (HY2.out _ hC) hu)
                      all_goals clear hC
                      all_goals (go_upto_region 18 with fail
                                 all_goals refine wp_region_kq ?_
                                 repeat' (first | go_big_quiet_skip | (go_big_quiet_want; first | (refine quiet_load (t := 39) (.tmp 1) rfl rfl (fun w1 hC => loadAt_pol (HX0.out.keep (HT3.out _ hC))) ?_; simp only [Act.put, List.setIfInBounds_toArray, List.set_cons_succ, List.set_cons_zero]; go_big_quiet_on) | (go_big_quiet_op; first | go_big_quiet_on | (apply Exists.intro; refine ⟨fun w1 hC => ?_, ?_⟩; (first | (go_at_call 60; with_reducible exact hC.call_same (HC3.out _ (HT3.out _ hC))) | (go_at_call 60; with_reducible exact hC.call_same (HC4.out _ (HT3.out _ hC))) | (go_at_call 59; with_reducible exact hC.call (HC5.out _ (HT3.out _ hC))) | (have z0 := (HBU.out w1 (HY3.out _ hC)).cell 0; have z1 := (HBU.out w1 (HY3.out _ hC)).cell 1; have z2 := (HBU.out w1 (HY3.out _ hC)).cell 2; have z3 := (HBU.out w1 (HY3.out _ hC)).cell 3; have z4 := (HBU.out w1 (HY3.out _ hC)).cell 4; have z5 := (HBU.out w1 (HY3.out _ hC)).cell 5; have z6 := (HBU.out w1 (HY3.out _ hC)).cell 6; have z7 := (HBU.out w1 (HY3.out _ hC)).cell 7; have z8 := (HBU.out w1 (HY3.out _ hC)).cell 8; have z9 := (HBU.out w1 (HY3.out _ hC)).cell 9; have z10 := (HBU.out w1 (HY3.out _ hC)).cell 10; have z11 := (HBU.out w1 (HY3.out _ hC)).cell 11; have z12 := (HBU.out w1 (HY3.out _ hC)).cell 12; go_simp; exact rfl) | (have y0 := HR0.out w1 (HT3.out _ hC); go_simp; exact rfl) | (have y1 := HR1.out w1 (HT3.out _ hC); go_simp; exact rfl) | exact rfl | (go_simp; exact ⟨rfl, rfl⟩)); go_big_quiet_on))) | (cases s2 <;> try simp only [Bool.not_true, Bool.not_false]) | (cases t2 <;> try simp only [Bool.not_true, Bool.not_false]) | (cases c1 <;> try simp only [Bool.not_true, Bool.not_false]) | (cases c2 <;> try simp only [Bool.not_true, Bool.not_false]) | (cases d1 <;> try simp only [Bool.not_true, Bool.not_false]))
                                 all_goals refine wpQuiet_nil ?_
                                 all_goals intro ZW4 hC
                                 all_goals have HF4 := Lib.hid (HB.out.trans (Below.mono (HT3.out _ hC) HLE.out))
                                 all_goals have HT4 : Hid (∀ u, Kp ZW4 u → Kp W u) := Lib.hid (fun u hu => kp_trans (HT3.out _ hC) hu)
                                 all_goals have HY4 : Hid (∀ u, Kp ZW4 u → Kp WX u) := Lib.hid (fun u hu => kp_trans (HY3.out _ hC) hu)
                                 all_goals clear hC
                                 all_goals first
                                  | (go_wp2_with fail
                                     go_ret
                                     first | exact ⟨⟨_, rfl⟩, HF4.out⟩ | exact ⟨⟨_, rfl⟩, by rw [hg0]; exact HF4.out⟩ | exact ⟨_, rfl, HF4.out⟩ | exact ⟨_, rfl, by rw [hg0]; exact HF4.out⟩
                                     done)
                                  | (go_upto_region 20 with fail
                                     all_goals refine wp_region_kq ?_
                                     repeat' (first | go_big_quiet_skip | (go_big_quiet_want; first | (go_big_quiet_op; first | go_big_quiet_on | (apply Exists.intro; refine ⟨fun w1 hC => ?_, ?_⟩; (first | (have z0 := (HBU.out w1 (HY4.out _ hC)).cell 0; have z1 := (HBU.out w1 (HY4.out _ hC)).cell 1; have z2 := (HBU.out w1 (HY4.out _ hC)).cell 2; have z3 := (HBU.out w1 (HY4.out _ hC)).cell 3; have z4 := (HBU.out w1 (HY4.out _ hC)).cell 4; have z5 := (HBU.out w1 (HY4.out _ hC)).cell 5; have z6 := (HBU.out w1 (HY4.out _ hC)).cell 6; have z7 := (HBU.out w1 (HY4.out _ hC)).cell 7; have z8 := (HBU.out w1 (HY4.out _ hC)).cell 8; have z9 := (HBU.out w1 (HY4.out _ hC)).cell 9; have z10 := (HBU.out w1 (HY4.out _ hC)).cell 10; have z11 := (HBU.out w1 (HY4.out _ hC)).cell 11; have z12 := (HBU.out w1 (HY4.out _ hC)).cell 12; go_simp; exact rfl) | exact rfl | (go_simp; exact ⟨rfl, rfl⟩)); go_big_quiet_on))) | (cases s1 <;> try simp only [Bool.not_true, Bool.not_false]) | (cases t1 <;> try simp only [Bool.not_true, Bool.not_false]) | (cases k1 <;> try simp only [Bool.not_true, Bool.not_false]) | (cases ne <;> try simp only [Bool.not_true, Bool.not_false]))
                                     all_goals refine wpQuiet_nil ?_
                                     all_goals intro ZW5 hC
                                     all_goals have HF5 := Lib.hid (HB.out.trans (Below.mono (HT4.out _ hC) HLE.out))
                                     all_goals have HT5 : Hid (∀ u, Kp ZW5 u → Kp W u) := Lib.hid (fun u hu => kp_trans (HT4.out _ hC) hu)
                                     all_goals have HY5 : Hid (∀ u, Kp ZW5 u → Kp WX u) := Lib.hid (fun u hu => kp_trans (HY4.out _ hC) hu)
                                     all_goals clear hC
                                     all_goals first
                                      | (go_wp2_with fail
                                         go_ret
                                         first | exact ⟨⟨_, rfl⟩, HF5.out⟩ | exact ⟨⟨_, rfl⟩, by rw [hg0]; exact HF5.out⟩ | exact ⟨_, rfl, HF5.out⟩ | exact ⟨_, rfl, by rw [hg0]; exact HF5.out⟩
                                         done)
                                      | (go_upto_region 22 with fail
                                         all_goals refine wp_region_kq ?_
                                         repeat' (first | go_big_quiet_skip | (go_big_quiet_want; first | (go_big_quiet_op; first | go_big_quiet_on | (apply Exists.intro; refine ⟨fun w1 hC => ?_, ?_⟩; (first | (go_at_call 61; with_reducible exact hC.call (HC6.out _ (HT5.out _ hC))) | (have z0 := (HBU.out w1 (HY5.out _ hC)).cell 0; have z1 := (HBU.out w1 (HY5.out _ hC)).cell 1; have z2 := (HBU.out w1 (HY5.out _ hC)).cell 2; have z3 := (HBU.out w1 (HY5.out _ hC)).cell 3; have z4 := (HBU.out w1 (HY5.out _ hC)).cell 4; have z5 := (HBU.out w1 (HY5.out _ hC)).cell 5; have z6 := (HBU.out w1 (HY5.out _ hC)).cell 6; have z7 := (HBU.out w1 (HY5.out _ hC)).cell 7; have z8 := (HBU.out w1 (HY5.out _ hC)).cell 8; have z9 := (HBU.out w1 (HY5.out _ hC)).cell 9; have z10 := (HBU.out w1 (HY5.out _ hC)).cell 10; have z11 := (HBU.out w1 (HY5.out _ hC)).cell 11; have z12 := (HBU.out w1 (HY5.out _ hC)).cell 12; go_simp; exact rfl) | exact rfl | (go_simp; exact ⟨rfl, rfl⟩)); go_big_quiet_on))) | (cases ne <;> try simp only [Bool.not_true, Bool.not_false]) | (cases ob <;> try simp only [Bool.not_true, Bool.not_false]))
                                         all_goals refine wpQuiet_nil ?_
                                         all_goals intro ZW6 hC
                                         all_goals have HF6 := Lib.hid (HB.out.trans (Below.mono (HT5.out _ hC) HLE.out))
                                         all_goals have HT6 : Hid (∀ u, Kp ZW6 u → Kp W u) := Lib.hid (fun u hu => kp_trans (HT5.out _ hC) hu)
                                         all_goals have HY6 : Hid (∀ u, Kp ZW6 u → Kp WX u) := Lib.hid (fun u hu => kp_trans (HY5.out _ hC) hu)
                                         all_goals clear hC
                                         all_goals first
                                          | (go_wp2_with fail
                                             go_ret
                                             first | exact ⟨⟨_, rfl⟩, HF6.out⟩ | exact ⟨⟨_, rfl⟩, by rw [hg0]; exact HF6.out⟩ | exact ⟨_, rfl, HF6.out⟩ | exact ⟨_, rfl, by rw [hg0]; exact HF6.out⟩
                                             done)
                                          | (go_wp2_with fail
                                             go_roundw
                                             case rel => exact ⟨i + 1, hlt, by go_num, Lib.hid (HT6.out _ Kp.rfl')⟩
                                             case measure => simp [intOf]; omega))))))
     · have hlt' : ¬ (i : Int) < (p.trs.length : Int) := by omega
       have HF := Lib.hid (HB.out.trans (Below.mono HK.out HLE.out))
       go_wp2_with fail
       go_ret
       first | exact ⟨⟨_, rfl⟩, HF.out⟩ | exact ⟨⟨_, rfl⟩, by rw [hg0]; exact HF.out⟩ | exact ⟨_, rfl, HF.out⟩ | exact ⟨_, rfl, by rw [hg0]; exact HF.out⟩
end Go.Proofs.YtbhoofihnmmmfabGreat
