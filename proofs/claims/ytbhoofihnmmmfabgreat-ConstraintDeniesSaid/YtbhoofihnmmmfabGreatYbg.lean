/- Part of the proof: Pnl. No conditions. -/
import Derived.Test.YtbhoofihnmmmfabGreatYbf
namespace Go.Proofs.YtbhoofihnmmmfabGreat
open Go.RowKit Go
theorem take_map {α : Type} (f : α → ByteArray) {L : List α} {i : Nat} (hi : i < L.length) {x : α} (hx : L[i] = x) : (L.take (i + 1)).map f = (L.take i).map f ++ [f x] := by
 rw [List.take_succ_eq_append_getElem hi, hx, List.map_append]; rfl
set_option maxRecDepth 100000 in
set_option maxHeartbeats 16000000 in
theorem nusers_c (q : PV) (p : PP) (w : World) (hP : PolV w q p) (hsm : SmP p) : Calls Tryz.prog 28 #[q.val] w fun e w' => ∃ c : Int, e = .returned (.int .i64 c) ∧ Below w.heap.size w w' := by
 have HSM := Lib.hid hsm
 have q32 : ((32 : Int) < (p.uss.length : Int)) = False := eq_false (by have := HSM.out.uss; omega)
 have hlI : (p.uss.length : Int) ≤ 9223372036854775807 := by have := HSM.out.uss; omega
 obtain ⟨a4, c4, e4⟩ := hP.uss.form
 have E4 := Lib.hid e4
 clear e4
 obtain ⟨W, ZW⟩ : ∃ v, Hid ((w.alloc (.cells #[q.v0, q.v1, q.v2, q.v3, q.v4, q.v5, q.v6, q.v7, q.v8, q.v9, q.v10, q.v11, q.v12, q.v13, q.v14, q.v15, q.v16] 39)) = v) := ⟨_, Lib.hid rfl⟩
 have HB : Hid (Below w.heap.size w W) := by cases ZW.out; exact Lib.hid ((Below.refl _ _).alloc (Nat.le_refl _) _)
 have HX0 : Hid (Blk W (w.heap.size) 39 #[q.v0, q.v1, q.v2, q.v3, q.v4, q.v5, q.v6, q.v7, q.v8, q.v9, q.v10, q.v11, q.v12, q.v13, q.v14, q.v15, q.v16]) := by cases ZW.out; exact Lib.hid (Blk.here (by simp))
 have HQ : Hid (PolV W q p) := by cases ZW.out; exact Lib.hid (hP.keep HB.out)
 have HLE : Hid (w.heap.size ≤ W.heap.size) := by cases ZW.out; exact Lib.hid HB.out.size
 try unfold PV.val
 go_enter Tryz.func28, Tryz.ntmps28
 go_upto_region 1 with fail
 rw [ZW.out]
 generalize hg0 : w.heap.size = g0 at *
 have HR4 : Hid (∀ u, Kp W u → u.cell? ⟨g0, 4, none⟩ = some (.slice a4 p.uss.length c4)) := Lib.hid (fun u hu => pol_cell (HX0.out.keep hu) rfl E4.out)
 generalize Value.agg #[q.v0, q.v1, q.v2, q.v3, q.v4, q.v5, q.v6, q.v7, q.v8, q.v9, q.v10, q.v11, q.v12, q.v13, q.v14, q.v15, q.v16] = P0
 clear hP
 have HL4 : Hid (SlR 11 CUs W (.slice a4 p.uss.length c4) p.uss) := Lib.hid (by rw [← E4.out]; exact HQ.out.uss)
 have r4 := HR4.out W Kp.rfl'
 go_wp2_with fail
 clear r4
 go_loopw [3, 4] (fun vl vi wr => ∃ (i : Nat) (vv : Value), vv = vl ∧ i ≤ p.uss.length ∧ vi = .int .i64 i ∧ Hid (Kp W wr) ∧ Hid (OwnS wr W.heap.size vv ((p.uss.take i).map (·.n)))) (fun _ vi _ => p.uss.length - (intOf vi).toNat)
 case atStart => exact ⟨0, _, rfl, Nat.zero_le _, rfl, Lib.hid Kp.rfl', Lib.hid (by exact OwnS.nil)⟩
 case round =>
  obtain ⟨i, v, rfl, hi, rfl, HK, HO⟩ := hrel
  have r4 := HR4.out wr HK.out
  by_cases hlt : i < p.uss.length
  · have hlt' : (i : Int) < (p.uss.length : Int) := by omega
    obtain ⟨x, hx⟩ : ∃ x, p.uss[i] = x := ⟨_, rfl⟩
    have HXX := Lib.hid hx
    obtain ⟨g, oo, hak, hg, hE⟩ := HL4.out.row hlt
    subst hak
    have hE1 := hE i hlt
    rw [hx] at hE1
    obtain ⟨m0, m1, m2, m3, m4, m5, m6, m7, m8, m9, m10, mw⟩ := hE1.keep HK.out hg
    have HMWW := Lib.hid mw
    clear hx hg hE hE1 mw
    have HMW := Lib.hid HMWW.out.1
    obtain ⟨T, hT⟩ : ∃ T, (p.uss.take i).map (·.n) = T := ⟨_, rfl⟩
    have hTl : T.length = i := by rw [← hT]; simp; omega
    have HX : Hid ((p.uss.take (i + 1)).map (·.n) = T ++ [x.n]) := Lib.hid (by rw [← hT]; exact take_map (·.n) hlt HXX.out)
    rw [hT] at HO
    have HTI := Lib.hid hTl
    obtain ⟨aoT, capT, rfl, -, -⟩ := HO.out.cap
    have HIL : Hid (i ≤ 8) := Lib.hid (by have := HSM.out.uss; omega)
    clear hT hTl
    go_upto_region 8 with fail
    obtain ⟨WX, hWX⟩ : ∃ u, wr.alloc (.cells #[.string x.n, .int .u64 x.rs.a, .int .u64 x.rs.b, .int .u64 x.rs.c, .int .u64 x.rs.d, .int .i64 x.df.s, .int .u64 x.df.c, .int .i64 x.lo.s, .int .u64 x.lo.c, .int .i64 x.hi.s, .int .u64 x.hi.c] 93) = u := ⟨_, rfl⟩
    have HBX : Hid (Blk WX wr.heap.size 93 #[.string x.n, .int .u64 x.rs.a, .int .u64 x.rs.b, .int .u64 x.rs.c, .int .u64 x.rs.d, .int .i64 x.df.s, .int .u64 x.df.c, .int .i64 x.lo.s, .int .u64 x.lo.c, .int .i64 x.hi.s, .int .u64 x.hi.c]) := Lib.hid (by rw [← hWX]; exact Blk.new _ _ _)
    have HKX : Hid (Kp W WX) := Lib.hid (by rw [← hWX]; exact HK.out.alloc _)
    have HOX : Hid (OwnS WX W.heap.size (.slice aoT T.length capT) T) := Lib.hid (by rw [← hWX]; exact HO.out.alloc _)
    have HOB : Hid (∀ k, (Value.slice aoT T.length capT).ownBlock = some k → k < wr.heap.size) := Lib.hid (fun k e => (HO.out.lt k e).2)
    rw [hWX]
    clear r4 m0 m1 m2 m3 m4 m5 m6 m7 m8 m9 m10
    generalize wr.heap.size = gx at *
    clear hWX
    obtain ⟨c1, hc1⟩ : ∃ c, namesE [x.n] T = c := ⟨_, rfl⟩
    have b0 := HBX.out.cell 0
    have HCN : Hid (Calls Tryz.prog 48 #[.slice (some ⟨WX.heap.size, 0, none⟩) 1 1, .slice aoT T.length capT] (WX.alloc (.cells #[.string x.n] 9)) fun e w' => e = .returned (.int .i64 c1) ∧ Below (WX.alloc (.cells #[.string x.n] 9)).heap.size (WX.alloc (.cells #[.string x.n] 9)) w') := Lib.hid (by rw [← hc1]; exact nnames_c _ _ [x.n] T _ (Strs.one ((Blk.new WX 9 #[.string x.n]).cell 0)) CapOK.one (by obtain ⟨_, _, e, _, h⟩ := (HOX.out.alloc (.cells #[.string x.n] 9)).cap; cases e; exact h) (TxW.one HMW.out) (by unfold maxLen; simp) (by have := HTI.out; have := HIL.out; unfold maxLen; omega))
    clear hc1
    by_cases h1 : c1 = 0
    · have k1 : (c1 == 0) = true := by simpa using h1
      have k2 : (c1 != 0) = false := by simpa using h1
      go_upto_region 11 with (go_at_call 48; (with_reducible refine HCN.out.mono ?_); rintro e V ⟨rfl, hb1⟩; have HBV := Lib.hid (Below.trans ((Below.refl WX.heap.size WX).alloc (Nat.le_refl _) _) (hb1.mono (by simp))); clear hb1)
      clear b0
      have HKV : Hid (Kp W V) := Lib.hid (kp_trans HKX.out HBV.out)
      have HOV : Hid (OwnS V W.heap.size (.slice aoT T.length capT) T) := Lib.hid (HOX.out.keep HBV.out)
      have HBW : Hid (Blk V gx 93 #[.string x.n, .int .u64 x.rs.a, .int .u64 x.rs.b, .int .u64 x.rs.c, .int .u64 x.rs.d, .int .i64 x.df.s, .int .u64 x.df.c, .int .i64 x.lo.s, .int .u64 x.lo.c, .int .i64 x.hi.s, .int .u64 x.hi.c]) := Lib.hid (HBX.out.keep HBV.out)
      have b0 := HBW.out.cell 0
      go_upto_region 12 with (at_builtin; refine wpList_name rfl _ _ rfl rfl (HOV.out.alloc _) rfl ((Blk.new V 9 #[.string x.n]).cell 0) (by have := HTI.out; have := HIL.out; omega) (by have := HKV.out.size; simp; omega) ?_; intro v2 V2 hO2 hB2 hk2; have HO2 := Lib.hid hO2; have HK2 : Hid (Kp W V2) := Lib.hid ((HKV.out.alloc _).trans hB2); have HB2 : Hid (Blk V2 gx 93 #[.string x.n, .int .u64 x.rs.a, .int .u64 x.rs.b, .int .u64 x.rs.c, .int .u64 x.rs.d, .int .i64 x.df.s, .int .u64 x.df.c, .int .i64 x.lo.s, .int .u64 x.lo.c, .int .i64 x.hi.s, .int .u64 x.hi.c]) := Lib.hid ((hk2 gx (by have := HBW.out.lt; simp; omega) (fun e => by have := HOB.out _ e; omega)).trans (HBW.out.alloc _)); clear hO2 hB2 hk2)
      clear b0
      have HBU : Hid (∀ u, Kp V2 u → Blk u gx 93 #[.string x.n, .int .u64 x.rs.a, .int .u64 x.rs.b, .int .u64 x.rs.c, .int .u64 x.rs.d, .int .i64 x.df.s, .int .u64 x.df.c, .int .i64 x.lo.s, .int .u64 x.lo.c, .int .i64 x.hi.s, .int .u64 x.hi.c]) := Lib.hid (fun u hu => HB2.out.keep hu)
      have HWX : Hid (∀ u, Kp V2 u → Kp W u) := Lib.hid (fun u hu => kp_trans HK2.out hu)
      obtain ⟨b1, hb1⟩ : ∃ z, procB p x.rs = z := ⟨_, rfl⟩
      obtain ⟨b2, hb2⟩ : ∃ z, rngB p x.lo x.hi = z := ⟨_, rfl⟩
      obtain ⟨b3, hb3⟩ : ∃ z, levB p x.df = z := ⟨_, rfl⟩
      obtain ⟨b4, hb4⟩ : ∃ z, domB x.hi x.df = z := ⟨_, rfl⟩
      obtain ⟨b5, hb5⟩ : ∃ z, domB x.df x.lo = z := ⟨_, rfl⟩
      have HC1 : Hid (∀ u, Kp W u → Calls Tryz.prog 53 #[q.val, .agg #[.int .u64 x.rs.a, .int .u64 x.rs.b, .int .u64 x.rs.c, .int .u64 x.rs.d]] u fun e w' => e = .returned (.bool b1) ∧ Below u.heap.size u w') := Lib.hid (fun u hu => by rw [← hb1]; exact nproc_c q p x.rs u (HQ.out.keep hu) (by have := HSM.out.ros; omega))
      have HC2 : Hid (∀ u, Kp W u → Calls Tryz.prog 54 #[q.val, .agg #[.int .i64 x.lo.s, .int .u64 x.lo.c, .int .i64 x.hi.s, .int .u64 x.hi.c]] u fun e w' => e = .returned (.bool b2) ∧ Below u.heap.size u w') := Lib.hid (fun u hu => by rw [← hb2]; exact nrange_c q p x.lo x.hi u (HQ.out.keep hu) (by have := HSM.out.cats; omega) (by have := HSM.out.sens; omega))
      have HC3 : Hid (∀ u, Kp W u → Calls Tryz.prog 55 #[q.val, .agg #[.int .i64 x.df.s, .int .u64 x.df.c]] u fun e w' => e = .returned (.bool b3) ∧ Below u.heap.size u w') := Lib.hid (fun u hu => by rw [← hb3]; exact nlevel_c q p x.df u (HQ.out.keep hu) (by have := HSM.out.cats; omega) (by have := HSM.out.sens; omega))
      have HC4 : Hid (∀ u, Kp W u → Calls Tryz.prog 56 #[.agg #[.int .i64 x.hi.s, .int .u64 x.hi.c], .agg #[.int .i64 x.df.s, .int .u64 x.df.c]] u fun e w' => e = .returned (.bool b4) ∧ Below u.heap.size u w') := Lib.hid (fun u hu => by rw [← hb4]; exact ndom_c x.hi x.df u)
      have HC5 : Hid (∀ u, Kp W u → Calls Tryz.prog 56 #[.agg #[.int .i64 x.df.s, .int .u64 x.df.c], .agg #[.int .i64 x.lo.s, .int .u64 x.lo.c]] u fun e w' => e = .returned (.bool b5) ∧ Below u.heap.size u w') := Lib.hid (fun u hu => by rw [← hb5]; exact ndom_c x.df x.lo u)
      try clear hb1 hb2 hb3 hb4 hb5
      all_goals refine wp_region_kq ?_
      repeat' (first | go_big_quiet_skip | (go_big_quiet_want; first | (refine quiet_load (t := 39) (.tmp 1) rfl rfl (fun w1 hC => loadAt_pol (HX0.out.keep (HWX.out _ hC))) ?_; simp only [Act.put, List.setIfInBounds_toArray, List.set_cons_succ, List.set_cons_zero]; go_big_quiet_on) | (go_big_quiet_op; first | go_big_quiet_on | (apply Exists.intro; refine ⟨fun w1 hC => ?_, ?_⟩; (first | (go_at_call 53; with_reducible exact hC.call (HC1.out _ (HWX.out _ hC))) | (have z0 := (HBU.out w1 hC).cell 0; have z1 := (HBU.out w1 hC).cell 1; have z2 := (HBU.out w1 hC).cell 2; have z3 := (HBU.out w1 hC).cell 3; have z4 := (HBU.out w1 hC).cell 4; have z5 := (HBU.out w1 hC).cell 5; have z6 := (HBU.out w1 hC).cell 6; have z7 := (HBU.out w1 hC).cell 7; have z8 := (HBU.out w1 hC).cell 8; have z9 := (HBU.out w1 hC).cell 9; have z10 := (HBU.out w1 hC).cell 10; go_simp; exact rfl) | exact rfl | (go_simp; exact ⟨rfl, rfl⟩)); go_big_quiet_on))) | (cases b1 <;> try simp only [Bool.not_true, Bool.not_false]))
      all_goals refine wpQuiet_nil ?_
      all_goals intro ZW1 hC
      all_goals have HF1 := Lib.hid (HB.out.trans (Below.mono (HWX.out _ hC) HLE.out))
      all_goals have HT1 : Hid (∀ u, Kp ZW1 u → Kp W u) := Lib.hid (fun u hu => kp_trans (HWX.out _ hC) hu)
      all_goals have HY1 : Hid (∀ u, Kp ZW1 u → Kp V2 u) := Lib.hid (fun u hu => kp_trans hC hu)
      all_goals clear hC
      all_goals first
       | (go_wp2_with fail
          go_ret
          first | exact ⟨⟨_, rfl⟩, HF1.out⟩ | exact ⟨⟨_, rfl⟩, by rw [hg0]; exact HF1.out⟩ | exact ⟨_, rfl, HF1.out⟩ | exact ⟨_, rfl, by rw [hg0]; exact HF1.out⟩
          done)
       | (go_upto_region 14 with fail
          all_goals refine wp_region_kq ?_
          repeat' (first | go_big_quiet_skip | (go_big_quiet_want; first | (refine quiet_load (t := 39) (.tmp 1) rfl rfl (fun w1 hC => loadAt_pol (HX0.out.keep (HT1.out _ hC))) ?_; simp only [Act.put, List.setIfInBounds_toArray, List.set_cons_succ, List.set_cons_zero]; go_big_quiet_on) | (go_big_quiet_op; first | go_big_quiet_on | (apply Exists.intro; refine ⟨fun w1 hC => ?_, ?_⟩; (first | (go_at_call 54; with_reducible exact hC.call (HC2.out _ (HT1.out _ hC))) | (go_at_call 55; with_reducible exact hC.call (HC3.out _ (HT1.out _ hC))) | (go_at_call 56; with_reducible exact hC.call (HC4.out _ (HT1.out _ hC))) | (go_at_call 56; with_reducible exact hC.call (HC5.out _ (HT1.out _ hC))) | (have z0 := (HBU.out w1 (HY1.out _ hC)).cell 0; have z1 := (HBU.out w1 (HY1.out _ hC)).cell 1; have z2 := (HBU.out w1 (HY1.out _ hC)).cell 2; have z3 := (HBU.out w1 (HY1.out _ hC)).cell 3; have z4 := (HBU.out w1 (HY1.out _ hC)).cell 4; have z5 := (HBU.out w1 (HY1.out _ hC)).cell 5; have z6 := (HBU.out w1 (HY1.out _ hC)).cell 6; have z7 := (HBU.out w1 (HY1.out _ hC)).cell 7; have z8 := (HBU.out w1 (HY1.out _ hC)).cell 8; have z9 := (HBU.out w1 (HY1.out _ hC)).cell 9; have z10 := (HBU.out w1 (HY1.out _ hC)).cell 10; go_simp; exact rfl) | exact rfl | (go_simp; exact ⟨rfl, rfl⟩)); go_big_quiet_on))) | (cases b2 <;> try simp only [Bool.not_true, Bool.not_false]) | (cases b3 <;> try simp only [Bool.not_true, Bool.not_false]) | (cases b4 <;> try simp only [Bool.not_true, Bool.not_false]) | (cases b5 <;> try simp only [Bool.not_true, Bool.not_false]))
          all_goals refine wpQuiet_nil ?_
          all_goals intro ZW2 hC
          all_goals have HF2 := Lib.hid (HB.out.trans (Below.mono (HT1.out _ hC) HLE.out))
          all_goals have HT2 : Hid (∀ u, Kp ZW2 u → Kp W u) := Lib.hid (fun u hu => kp_trans (HT1.out _ hC) hu)
          all_goals have HY2 : Hid (∀ u, Kp ZW2 u → Kp V2 u) := Lib.hid (fun u hu => kp_trans (HY1.out _ hC) hu)
          all_goals clear hC
          all_goals first
           | (go_wp2_with fail
              go_ret
              first | exact ⟨⟨_, rfl⟩, HF2.out⟩ | exact ⟨⟨_, rfl⟩, by rw [hg0]; exact HF2.out⟩ | exact ⟨_, rfl, HF2.out⟩ | exact ⟨_, rfl, by rw [hg0]; exact HF2.out⟩
              done)
           | (go_wp2_with fail
              go_roundw
              case rel => exact ⟨i + 1, _, rfl, hlt, by go_num, Lib.hid (HT2.out _ Kp.rfl'), Lib.hid (by rw [HX.out]; exact HO2.out.keep (HY2.out _ Kp.rfl'))⟩
              case measure => simp [intOf]; omega))
    · have k1 : (c1 == 0) = false := by simpa using h1
      have k2 : (c1 != 0) = true := by simpa using h1
      clear h1
      go_wp2_with (go_at_call 48; (with_reducible refine HCN.out.mono ?_); rintro e V ⟨rfl, hb1⟩; have HBV := Lib.hid (Below.trans ((Below.refl WX.heap.size WX).alloc (Nat.le_refl _) _) (hb1.mono (by simp))); clear hb1)
      have HF := Lib.hid (HB.out.trans (Below.mono (kp_trans HKX.out HBV.out) HLE.out))
      go_ret
      first | exact ⟨⟨_, rfl⟩, HF.out⟩ | exact ⟨⟨_, rfl⟩, by rw [hg0]; exact HF.out⟩ | exact ⟨_, rfl, HF.out⟩ | exact ⟨_, rfl, by rw [hg0]; exact HF.out⟩
  · have hlt' : ¬ (i : Int) < (p.uss.length : Int) := by omega
    have HF := Lib.hid (HB.out.trans (Below.mono HK.out HLE.out))
    go_wp2_with fail
    go_ret
    first | exact ⟨⟨_, rfl⟩, HF.out⟩ | exact ⟨⟨_, rfl⟩, by rw [hg0]; exact HF.out⟩ | exact ⟨_, rfl, HF.out⟩ | exact ⟨_, rfl, by rw [hg0]; exact HF.out⟩
set_option maxRecDepth 100000 in
set_option maxHeartbeats 16000000 in
theorem nasserts_c (q : PV) (p : PP) (w : World) (hP : PolV w q p) (hsm : SmP p) : Calls Tryz.prog 35 #[q.val] w fun e w' => ∃ c : Int, e = .returned (.int .i64 c) ∧ Below w.heap.size w w' := by
 have HSM := Lib.hid hsm
 have q64 : ((64 : Int) < (p.ass.length : Int)) = False := eq_false (by have := HSM.out.ass; omega)
 have hlI : (p.ass.length : Int) ≤ 9223372036854775807 := by have := HSM.out.ass; omega
 have hlT : (p.tys.length : Int) ≤ 9223372036854775807 := by have := HSM.out.tys; omega
 obtain ⟨a1, c1, e1⟩ := hP.tys.form
 have E1 := Lib.hid e1
 clear e1
 obtain ⟨a16, c16, e16⟩ := hP.ass.form
 have E16 := Lib.hid e16
 clear e16
 obtain ⟨W, ZW⟩ : ∃ v, Hid ((w.alloc (.cells #[q.v0, q.v1, q.v2, q.v3, q.v4, q.v5, q.v6, q.v7, q.v8, q.v9, q.v10, q.v11, q.v12, q.v13, q.v14, q.v15, q.v16] 39)) = v) := ⟨_, Lib.hid rfl⟩
 have HB : Hid (Below w.heap.size w W) := by cases ZW.out; exact Lib.hid ((Below.refl _ _).alloc (Nat.le_refl _) _)
 have HX0 : Hid (Blk W (w.heap.size) 39 #[q.v0, q.v1, q.v2, q.v3, q.v4, q.v5, q.v6, q.v7, q.v8, q.v9, q.v10, q.v11, q.v12, q.v13, q.v14, q.v15, q.v16]) := by cases ZW.out; exact Lib.hid (Blk.here (by simp))
 have HQ : Hid (PolV W q p) := by cases ZW.out; exact Lib.hid (hP.keep HB.out)
 have HLE : Hid (w.heap.size ≤ W.heap.size) := by cases ZW.out; exact Lib.hid HB.out.size
 try unfold PV.val
 go_enter Tryz.func35, Tryz.ntmps35
 go_upto_region 1 with fail
 rw [ZW.out]
 generalize hg0 : w.heap.size = g0 at *
 have HR1 : Hid (∀ u, Kp W u → u.cell? ⟨g0, 1, none⟩ = some (.slice a1 p.tys.length c1)) := Lib.hid (fun u hu => pol_cell (HX0.out.keep hu) rfl E1.out)
 have HR16 : Hid (∀ u, Kp W u → u.cell? ⟨g0, 16, none⟩ = some (.slice a16 p.ass.length c16)) := Lib.hid (fun u hu => pol_cell (HX0.out.keep hu) rfl E16.out)
 generalize Value.agg #[q.v0, q.v1, q.v2, q.v3, q.v4, q.v5, q.v6, q.v7, q.v8, q.v9, q.v10, q.v11, q.v12, q.v13, q.v14, q.v15, q.v16] = P0
 clear hP
 have HL16 : Hid (SlR 10 CAs W (.slice a16 p.ass.length c16) p.ass) := Lib.hid (by rw [← E16.out]; exact HQ.out.ass)
 have r16 := HR16.out W Kp.rfl'
 go_wp2_with fail
 clear r16
 go_loopw [3, 4] (fun vl vi wr => ∃ (i : Nat) (vv : Value), vv = vl ∧ i ≤ p.ass.length ∧ vi = .int .i64 i ∧ Hid (Kp W wr) ∧ Hid (OwnS wr W.heap.size vv ((p.ass.take i).map (·.n)))) (fun _ vi _ => p.ass.length - (intOf vi).toNat)
 case atStart => exact ⟨0, _, rfl, Nat.zero_le _, rfl, Lib.hid Kp.rfl', Lib.hid (by exact OwnS.nil)⟩
 case round =>
  obtain ⟨i, v, rfl, hi, rfl, HK, HO⟩ := hrel
  have r16 := HR16.out wr HK.out
  by_cases hlt : i < p.ass.length
  · have hlt' : (i : Int) < (p.ass.length : Int) := by omega
    obtain ⟨x, hx⟩ : ∃ x, p.ass[i] = x := ⟨_, rfl⟩
    have HXX := Lib.hid hx
    obtain ⟨g, oo, hak, hg, hE⟩ := HL16.out.row hlt
    subst hak
    have hE1 := hE i hlt
    rw [hx] at hE1
    obtain ⟨m0, m1, m2, m3, m4, m5, m6, m7, m8, m9, mw⟩ := hE1.keep HK.out hg
    have HMWW := Lib.hid mw
    clear hx hg hE hE1 mw
    have HMW := Lib.hid HMWW.out.1
    obtain ⟨T, hT⟩ : ∃ T, (p.ass.take i).map (·.n) = T := ⟨_, rfl⟩
    have hTl : T.length = i := by rw [← hT]; simp; omega
    have HX : Hid ((p.ass.take (i + 1)).map (·.n) = T ++ [x.n]) := Lib.hid (by rw [← hT]; exact take_map (·.n) hlt HXX.out)
    rw [hT] at HO
    have HTI := Lib.hid hTl
    obtain ⟨aoT, capT, rfl, -, -⟩ := HO.out.cap
    have HIL : Hid (i ≤ 8) := Lib.hid (by have := HSM.out.ass; omega)
    clear hT hTl
    go_upto_region 8 with fail
    obtain ⟨WX, hWX⟩ : ∃ u, wr.alloc (.cells #[.string x.n, .int .i64 x.k, .int .u64 x.src.a, .int .u64 x.src.b, .int .u64 x.src.c, .int .u64 x.src.d, .int .u64 x.tgt.a, .int .u64 x.tgt.b, .int .u64 x.tgt.c, .int .u64 x.tgt.d] 143) = u := ⟨_, rfl⟩
    have HBX : Hid (Blk WX wr.heap.size 143 #[.string x.n, .int .i64 x.k, .int .u64 x.src.a, .int .u64 x.src.b, .int .u64 x.src.c, .int .u64 x.src.d, .int .u64 x.tgt.a, .int .u64 x.tgt.b, .int .u64 x.tgt.c, .int .u64 x.tgt.d]) := Lib.hid (by rw [← hWX]; exact Blk.new _ _ _)
    have HKX : Hid (Kp W WX) := Lib.hid (by rw [← hWX]; exact HK.out.alloc _)
    have HOX : Hid (OwnS WX W.heap.size (.slice aoT T.length capT) T) := Lib.hid (by rw [← hWX]; exact HO.out.alloc _)
    have HOB : Hid (∀ k, (Value.slice aoT T.length capT).ownBlock = some k → k < wr.heap.size) := Lib.hid (fun k e => (HO.out.lt k e).2)
    rw [hWX]
    clear r16 m0 m1 m2 m3 m4 m5 m6 m7 m8 m9
    generalize wr.heap.size = gx at *
    clear hWX
    obtain ⟨c1, hc1⟩ : ∃ c, namesE [x.n] T = c := ⟨_, rfl⟩
    have b0 := HBX.out.cell 0
    have HCN : Hid (Calls Tryz.prog 48 #[.slice (some ⟨WX.heap.size, 0, none⟩) 1 1, .slice aoT T.length capT] (WX.alloc (.cells #[.string x.n] 9)) fun e w' => e = .returned (.int .i64 c1) ∧ Below (WX.alloc (.cells #[.string x.n] 9)).heap.size (WX.alloc (.cells #[.string x.n] 9)) w') := Lib.hid (by rw [← hc1]; exact nnames_c _ _ [x.n] T _ (Strs.one ((Blk.new WX 9 #[.string x.n]).cell 0)) CapOK.one (by obtain ⟨_, _, e, _, h⟩ := (HOX.out.alloc (.cells #[.string x.n] 9)).cap; cases e; exact h) (TxW.one HMW.out) (by unfold maxLen; simp) (by have := HTI.out; have := HIL.out; unfold maxLen; omega))
    clear hc1
    by_cases h1 : c1 = 0
    · have k1 : (c1 == 0) = true := by simpa using h1
      have k2 : (c1 != 0) = false := by simpa using h1
      go_upto_region 11 with (go_at_call 48; (with_reducible refine HCN.out.mono ?_); rintro e V ⟨rfl, hb1⟩; have HBV := Lib.hid (Below.trans ((Below.refl WX.heap.size WX).alloc (Nat.le_refl _) _) (hb1.mono (by simp))); clear hb1)
      clear b0
      have HKV : Hid (Kp W V) := Lib.hid (kp_trans HKX.out HBV.out)
      have HOV : Hid (OwnS V W.heap.size (.slice aoT T.length capT) T) := Lib.hid (HOX.out.keep HBV.out)
      have HBW : Hid (Blk V gx 143 #[.string x.n, .int .i64 x.k, .int .u64 x.src.a, .int .u64 x.src.b, .int .u64 x.src.c, .int .u64 x.src.d, .int .u64 x.tgt.a, .int .u64 x.tgt.b, .int .u64 x.tgt.c, .int .u64 x.tgt.d]) := Lib.hid (HBX.out.keep HBV.out)
      have b0 := HBW.out.cell 0
      go_upto_region 12 with (at_builtin; refine wpList_name rfl _ _ rfl rfl (HOV.out.alloc _) rfl ((Blk.new V 9 #[.string x.n]).cell 0) (by have := HTI.out; have := HIL.out; omega) (by have := HKV.out.size; simp; omega) ?_; intro v2 V2 hO2 hB2 hk2; have HO2 := Lib.hid hO2; have HK2 : Hid (Kp W V2) := Lib.hid ((HKV.out.alloc _).trans hB2); have HB2 : Hid (Blk V2 gx 143 #[.string x.n, .int .i64 x.k, .int .u64 x.src.a, .int .u64 x.src.b, .int .u64 x.src.c, .int .u64 x.src.d, .int .u64 x.tgt.a, .int .u64 x.tgt.b, .int .u64 x.tgt.c, .int .u64 x.tgt.d]) := Lib.hid ((hk2 gx (by have := HBW.out.lt; simp; omega) (fun e => by have := HOB.out _ e; omega)).trans (HBW.out.alloc _)); clear hO2 hB2 hk2)
      clear b0
      have HBU : Hid (∀ u, Kp V2 u → Blk u gx 143 #[.string x.n, .int .i64 x.k, .int .u64 x.src.a, .int .u64 x.src.b, .int .u64 x.src.c, .int .u64 x.src.d, .int .u64 x.tgt.a, .int .u64 x.tgt.b, .int .u64 x.tgt.c, .int .u64 x.tgt.d]) := Lib.hid (fun u hu => HB2.out.keep hu)
      have HWX : Hid (∀ u, Kp V2 u → Kp W u) := Lib.hid (fun u hu => kp_trans HK2.out hu)
      obtain ⟨b1, hb1⟩ : ∃ z, decide (x.k < 1) = z := ⟨_, rfl⟩
      obtain ⟨b2, hb2⟩ : ∃ z, decide ((3 : Int) < x.k) = z := ⟨_, rfl⟩
      obtain ⟨s1, hs1⟩ : ∃ z, someN x.src = z := ⟨_, rfl⟩
      obtain ⟨s2, hs2⟩ : ∃ z, someW x.src p.tys.length = z := ⟨_, rfl⟩
      obtain ⟨t1, ht1⟩ : ∃ z, someN x.tgt = z := ⟨_, rfl⟩
      obtain ⟨t2, ht2⟩ : ∃ z, someW x.tgt p.tys.length = z := ⟨_, rfl⟩
      have HC1 : Hid (∀ u, Kp W u → Calls Tryz.prog 50 #[.agg #[.int .u64 x.src.a, .int .u64 x.src.b, .int .u64 x.src.c, .int .u64 x.src.d], .int .i64 p.tys.length] u fun e w' => e = .returned (.tuple #[.bool s1, .bool s2]) ∧ Below u.heap.size u w') := Lib.hid (fun u hu => by rw [← hs1, ← hs2]; exact nsome_c x.src _ u (by omega) (by have := HSM.out.tys; omega))
      have HC2 : Hid (∀ u, Kp W u → Calls Tryz.prog 50 #[.agg #[.int .u64 x.tgt.a, .int .u64 x.tgt.b, .int .u64 x.tgt.c, .int .u64 x.tgt.d], .int .i64 p.tys.length] u fun e w' => e = .returned (.tuple #[.bool t1, .bool t2]) ∧ Below u.heap.size u w') := Lib.hid (fun u hu => by rw [← ht1, ← ht2]; exact nsome_c x.tgt _ u (by omega) (by have := HSM.out.tys; omega))
      try clear hs1 hs2 ht1 ht2
      all_goals refine wp_region_kq ?_
      repeat' (first | go_big_quiet_skip | (go_big_quiet_want; first | (go_big_quiet_op; first | go_big_quiet_on | (apply Exists.intro; refine ⟨fun w1 hC => ?_, ?_⟩; (first | (have z0 := (HBU.out w1 hC).cell 0; have z1 := (HBU.out w1 hC).cell 1; have z2 := (HBU.out w1 hC).cell 2; have z3 := (HBU.out w1 hC).cell 3; have z4 := (HBU.out w1 hC).cell 4; have z5 := (HBU.out w1 hC).cell 5; have z6 := (HBU.out w1 hC).cell 6; have z7 := (HBU.out w1 hC).cell 7; have z8 := (HBU.out w1 hC).cell 8; have z9 := (HBU.out w1 hC).cell 9; go_simp; exact rfl) | exact rfl | (go_simp; exact ⟨rfl, rfl⟩)); go_big_quiet_on))) | (cases b1 <;> try simp only [Bool.not_true, Bool.not_false]) | (cases b2 <;> try simp only [Bool.not_true, Bool.not_false]))
      all_goals refine wpQuiet_nil ?_
      all_goals intro ZW1 hC
      all_goals have HF1 := Lib.hid (HB.out.trans (Below.mono (HWX.out _ hC) HLE.out))
      all_goals have HT1 : Hid (∀ u, Kp ZW1 u → Kp W u) := Lib.hid (fun u hu => kp_trans (HWX.out _ hC) hu)
      all_goals have HY1 : Hid (∀ u, Kp ZW1 u → Kp V2 u) := Lib.hid (fun u hu => kp_trans hC hu)
      all_goals clear hC
      all_goals first
       | (go_wp2_with fail
          go_ret
          first | exact ⟨⟨_, rfl⟩, HF1.out⟩ | exact ⟨⟨_, rfl⟩, by rw [hg0]; exact HF1.out⟩ | exact ⟨_, rfl, HF1.out⟩ | exact ⟨_, rfl, by rw [hg0]; exact HF1.out⟩
          done)
       | (go_upto_region 14 with fail
          all_goals refine wp_region_kq ?_
          repeat' (first | go_big_quiet_skip | (go_big_quiet_want; first | (go_big_quiet_op; first | go_big_quiet_on | (apply Exists.intro; refine ⟨fun w1 hC => ?_, ?_⟩; (first | (go_at_call 50; with_reducible exact hC.call (HC1.out _ (HT1.out _ hC))) | (have z0 := (HBU.out w1 (HY1.out _ hC)).cell 0; have z1 := (HBU.out w1 (HY1.out _ hC)).cell 1; have z2 := (HBU.out w1 (HY1.out _ hC)).cell 2; have z3 := (HBU.out w1 (HY1.out _ hC)).cell 3; have z4 := (HBU.out w1 (HY1.out _ hC)).cell 4; have z5 := (HBU.out w1 (HY1.out _ hC)).cell 5; have z6 := (HBU.out w1 (HY1.out _ hC)).cell 6; have z7 := (HBU.out w1 (HY1.out _ hC)).cell 7; have z8 := (HBU.out w1 (HY1.out _ hC)).cell 8; have z9 := (HBU.out w1 (HY1.out _ hC)).cell 9; go_simp; exact rfl) | (have y1 := HR1.out w1 (HT1.out _ hC); go_simp; exact rfl) | exact rfl | (go_simp; exact ⟨rfl, rfl⟩)); go_big_quiet_on))))
          all_goals refine wpQuiet_nil ?_
          all_goals intro ZW2 hC
          all_goals have HF2 := Lib.hid (HB.out.trans (Below.mono (HT1.out _ hC) HLE.out))
          all_goals have HT2 : Hid (∀ u, Kp ZW2 u → Kp W u) := Lib.hid (fun u hu => kp_trans (HT1.out _ hC) hu)
          all_goals have HY2 : Hid (∀ u, Kp ZW2 u → Kp V2 u) := Lib.hid (fun u hu => kp_trans (HY1.out _ hC) hu)
          all_goals clear hC
          all_goals (go_upto_region 15 with fail
                     all_goals refine wp_region_kq ?_
                     repeat' (first | go_big_quiet_skip | (go_big_quiet_want; first | (go_big_quiet_op; first | go_big_quiet_on | (apply Exists.intro; refine ⟨fun w1 hC => ?_, ?_⟩; (first | (go_at_call 50; with_reducible exact hC.call (HC2.out _ (HT2.out _ hC))) | (have z0 := (HBU.out w1 (HY2.out _ hC)).cell 0; have z1 := (HBU.out w1 (HY2.out _ hC)).cell 1; have z2 := (HBU.out w1 (HY2.out _ hC)).cell 2; have z3 := (HBU.out w1 (HY2.out _ hC)).cell 3; have z4 := (HBU.out w1 (HY2.out _ hC)).cell 4; have z5 := (HBU.out w1 (HY2.out _ hC)).cell 5; have z6 := (HBU.out w1 (HY2.out _ hC)).cell 6; have z7 := (HBU.out w1 (HY2.out _ hC)).cell 7; have z8 := (HBU.out w1 (HY2.out _ hC)).cell 8; have z9 := (HBU.out w1 (HY2.out _ hC)).cell 9; go_simp; exact rfl) | (have y1 := HR1.out w1 (HT2.out _ hC); go_simp; exact rfl) | exact rfl | (go_simp; exact ⟨rfl, rfl⟩)); go_big_quiet_on))))
                     all_goals refine wpQuiet_nil ?_
                     all_goals intro ZW3 hC
                     all_goals have HF3 := Lib.hid (HB.out.trans (Below.mono (HT2.out _ hC) HLE.out))
                     all_goals have HT3 : Hid (∀ u, Kp ZW3 u → Kp W u) := Lib.hid (fun u hu => kp_trans (HT2.out _ hC) hu)
                     all_goals have HY3 : Hid (∀ u, Kp ZW3 u → Kp V2 u) := Lib.hid (fun u hu => kp_trans (HY2.out _ hC) hu)
                     all_goals clear hC
                     all_goals (go_upto_region 16 with fail
                                all_goals refine wp_region_kq ?_
                                repeat' (first | go_big_quiet_skip | (go_big_quiet_want; first | (go_big_quiet_op; first | go_big_quiet_on | (apply Exists.intro; refine ⟨fun w1 hC => ?_, ?_⟩; (first | exact rfl | (go_simp; exact ⟨rfl, rfl⟩)); go_big_quiet_on))) | (cases s2 <;> try simp only [Bool.not_true, Bool.not_false]) | (cases t2 <;> try simp only [Bool.not_true, Bool.not_false]))
                                all_goals refine wpQuiet_nil ?_
                                all_goals intro ZW4 hC
                                all_goals have HF4 := Lib.hid (HB.out.trans (Below.mono (HT3.out _ hC) HLE.out))
                                all_goals have HT4 : Hid (∀ u, Kp ZW4 u → Kp W u) := Lib.hid (fun u hu => kp_trans (HT3.out _ hC) hu)
                                all_goals have HY4 : Hid (∀ u, Kp ZW4 u → Kp V2 u) := Lib.hid (fun u hu => kp_trans (HY3.out _ hC) hu)
                                all_goals clear hC
                                all_goals first
                                 | (go_wp2_with fail
                                    go_ret
                                    first | exact ⟨⟨_, rfl⟩, HF4.out⟩ | exact ⟨⟨_, rfl⟩, by rw [hg0]; exact HF4.out⟩ | exact ⟨_, rfl, HF4.out⟩ | exact ⟨_, rfl, by rw [hg0]; exact HF4.out⟩
                                    done)
                                 | (go_upto_region 18 with fail
                                    all_goals refine wp_region_kq ?_
                                    repeat' (first | go_big_quiet_skip | (go_big_quiet_want; first | (go_big_quiet_op; first | go_big_quiet_on | (apply Exists.intro; refine ⟨fun w1 hC => ?_, ?_⟩; (first | exact rfl | (go_simp; exact ⟨rfl, rfl⟩)); go_big_quiet_on))) | (cases s1 <;> try simp only [Bool.not_true, Bool.not_false]) | (cases t1 <;> try simp only [Bool.not_true, Bool.not_false]))
                                    all_goals refine wpQuiet_nil ?_
                                    all_goals intro ZW5 hC
                                    all_goals have HF5 := Lib.hid (HB.out.trans (Below.mono (HT4.out _ hC) HLE.out))
                                    all_goals have HT5 : Hid (∀ u, Kp ZW5 u → Kp W u) := Lib.hid (fun u hu => kp_trans (HT4.out _ hC) hu)
                                    all_goals have HY5 : Hid (∀ u, Kp ZW5 u → Kp V2 u) := Lib.hid (fun u hu => kp_trans (HY4.out _ hC) hu)
                                    all_goals clear hC
                                    all_goals first
                                     | (go_wp2_with fail
                                        go_ret
                                        first | exact ⟨⟨_, rfl⟩, HF5.out⟩ | exact ⟨⟨_, rfl⟩, by rw [hg0]; exact HF5.out⟩ | exact ⟨_, rfl, HF5.out⟩ | exact ⟨_, rfl, by rw [hg0]; exact HF5.out⟩
                                        done)
                                     | (go_wp2_with fail
                                        go_roundw
                                        case rel => exact ⟨i + 1, _, rfl, hlt, by go_num, Lib.hid (HT5.out _ Kp.rfl'), Lib.hid (by rw [HX.out]; exact HO2.out.keep (HY5.out _ Kp.rfl'))⟩
                                        case measure => simp [intOf]; omega)))))
    · have k1 : (c1 == 0) = false := by simpa using h1
      have k2 : (c1 != 0) = true := by simpa using h1
      clear h1
      go_wp2_with (go_at_call 48; (with_reducible refine HCN.out.mono ?_); rintro e V ⟨rfl, hb1⟩; have HBV := Lib.hid (Below.trans ((Below.refl WX.heap.size WX).alloc (Nat.le_refl _) _) (hb1.mono (by simp))); clear hb1)
      have HF := Lib.hid (HB.out.trans (Below.mono (kp_trans HKX.out HBV.out) HLE.out))
      go_ret
      first | exact ⟨⟨_, rfl⟩, HF.out⟩ | exact ⟨⟨_, rfl⟩, by rw [hg0]; exact HF.out⟩ | exact ⟨_, rfl, HF.out⟩ | exact ⟨_, rfl, by rw [hg0]; exact HF.out⟩
  · have hlt' : ¬ (i : Int) < (p.ass.length : Int) := by omega
    have HF := Lib.hid (HB.out.trans (Below.mono HK.out HLE.out))
    go_wp2_with fail
    go_ret
    first | exact ⟨⟨_, rfl⟩, HF.out⟩ | exact ⟨⟨_, rfl⟩, by rw [hg0]; exact HF.out⟩ | exact ⟨_, rfl, HF.out⟩ | exact ⟨_, rfl, by rw [hg0]; exact HF.out⟩
end Go.Proofs.YtbhoofihnmmmfabGreat
