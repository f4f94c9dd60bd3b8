/- Part of the proof: Pda. No conditions. -/
import Derived.Test.YtbhoofihnmmmfabGreatYbr
namespace Go.Proofs.YtbhoofihnmmmfabGreat
open Go.RowKit Go
set_option maxRecDepth 100000 in
set_option maxHeartbeats 16000000 in
theorem rdenied_c (q : PV) (p : PP) (cl : Int) (s t : Cx) (w : World) (hP : PolV w q p) (hl : p.cos.length ≤ 1000000) : Calls Tryz.prog 7 #[q.val, .int .i64 cl, .agg #[.int .i64 s.u, .int .i64 s.ro, .int .i64 s.ty, .int .i64 s.lo.s, .int .u64 s.lo.c, .int .i64 s.hi.s, .int .u64 s.hi.c], .agg #[.int .i64 t.u, .int .i64 t.ro, .int .i64 t.ty, .int .i64 t.lo.s, .int .u64 t.lo.c, .int .i64 t.hi.s, .int .u64 t.hi.c]] w fun e w' => e = .returned (.tuple #[.int .u32 (dnL (evX ⟨s, t, nocx⟩) cl 0 p.cos 0 (-1)).1, .int .i64 (dnL (evX ⟨s, t, nocx⟩) cl 0 p.cos 0 (-1)).2]) ∧ Below w.heap.size w w' := by
 obtain ⟨R, hR⟩ : ∃ R, dnL (evX ⟨s, t, nocx⟩) cl 0 p.cos 0 (-1) = R := ⟨_, rfl⟩
 rw [hR]
 have HR0 : Hid (dnL (evX ⟨s, t, nocx⟩) cl 0 (p.cos.drop 0) 0 (-1) = R) := Lib.hid hR
 have hIcos : (p.cos.length : Int) ≤ 9223372036854775807 := by omega
 clear hR hl
 obtain ⟨a13, c13, e13⟩ := hP.cos.form
 have E13 := Lib.hid e13
 clear e13
 obtain ⟨W, ZW⟩ : ∃ v, Hid ((((w.alloc (.cells #[q.v0, q.v1, q.v2, q.v3, q.v4, q.v5, q.v6, q.v7, q.v8, q.v9, q.v10, q.v11, q.v12, q.v13, q.v14, q.v15, q.v16] 39)).alloc (.cells #[.int .i64 s.u, .int .i64 s.ro, .int .i64 s.ty, .int .i64 s.lo.s, .int .u64 s.lo.c, .int .i64 s.hi.s, .int .u64 s.hi.c] 46)).alloc (.cells #[.int .i64 t.u, .int .i64 t.ro, .int .i64 t.ty, .int .i64 t.lo.s, .int .u64 t.lo.c, .int .i64 t.hi.s, .int .u64 t.hi.c] 46)) = v) := ⟨_, Lib.hid rfl⟩
 have HB : Hid (Below w.heap.size w W) := by cases ZW.out; exact Lib.hid ((((Below.refl _ _).alloc (Nat.le_refl _) _).alloc (by first | (simp; done) | (simp; omega)) _).alloc (by first | (simp; done) | (simp; omega)) _)
 have HX0 : Hid (Blk W (w.heap.size) 39 #[q.v0, q.v1, q.v2, q.v3, q.v4, q.v5, q.v6, q.v7, q.v8, q.v9, q.v10, q.v11, q.v12, q.v13, q.v14, q.v15, q.v16]) := by cases ZW.out; exact Lib.hid (((Blk.here (by simp)).alloc _).alloc _)
 have HX1 : Hid (Blk W (w.heap.size + 1) 46 #[.int .i64 s.u, .int .i64 s.ro, .int .i64 s.ty, .int .i64 s.lo.s, .int .u64 s.lo.c, .int .i64 s.hi.s, .int .u64 s.hi.c]) := by cases ZW.out; exact Lib.hid ((Blk.here (by simp)).alloc _)
 have HX2 : Hid (Blk W (w.heap.size + 1 + 1) 46 #[.int .i64 t.u, .int .i64 t.ro, .int .i64 t.ty, .int .i64 t.lo.s, .int .u64 t.lo.c, .int .i64 t.hi.s, .int .u64 t.hi.c]) := by cases ZW.out; exact Lib.hid (Blk.here (by simp))
 have HQ : Hid (PolV W q p) := by cases ZW.out; exact Lib.hid (hP.keep HB.out)
 have HLE : Hid (w.heap.size ≤ W.heap.size) := by cases ZW.out; exact Lib.hid HB.out.size
 try unfold PV.val
 go_enter Tryz.func7, Tryz.ntmps7
 go_upto_region 1 with fail
 rw [ZW.out]
 generalize w.heap.size + 1 + 1 = g2 at *
 generalize w.heap.size + 1 = g1 at *
 generalize hg0 : w.heap.size = g0 at *
 have HR13 : Hid (∀ u, Kp W u → u.cell? ⟨g0, 13, none⟩ = some (.slice a13 p.cos.length c13)) := Lib.hid (fun u hu => pol_cell (HX0.out.keep hu) rfl E13.out)
 generalize Value.agg #[q.v0, q.v1, q.v2, q.v3, q.v4, q.v5, q.v6, q.v7, q.v8, q.v9, q.v10, q.v11, q.v12, q.v13, q.v14, q.v15, q.v16] = P0
 clear hP
 have HL13 : Hid (SlR 13 CCo W (.slice a13 p.cos.length c13) p.cos) := Lib.hid (by rw [← E13.out]; exact HQ.out.cos)
 have HS : Hid (∀ u, Kp W u → Blk u g1 46 #[.int .i64 s.u, .int .i64 s.ro, .int .i64 s.ty, .int .i64 s.lo.s, .int .u64 s.lo.c, .int .i64 s.hi.s, .int .u64 s.hi.c]) := Lib.hid (fun u hu => HX1.out.keep hu)
 have HT : Hid (∀ u, Kp W u → Blk u g2 46 #[.int .i64 t.u, .int .i64 t.ro, .int .i64 t.ty, .int .i64 t.lo.s, .int .u64 t.lo.c, .int .i64 t.hi.s, .int .u64 t.hi.c]) := Lib.hid (fun u hu => HX2.out.keep hu)
 have r13 := HR13.out W Kp.rfl'
 go_wp2_with fail
 clear r13
 go_loopw [10, 11, 12] (fun v10 v11 v12 wr => ∃ (i : Nat) (d f : Int), i ≤ p.cos.length ∧ v10 = .int .u32 d ∧ v11 = .int .i64 f ∧ v12 = .int .i64 i ∧ -1 ≤ f ∧ Hid (dnL (evX ⟨s, t, nocx⟩) cl i (p.cos.drop i) d f = R) ∧ Hid (Kp W wr)) (fun _ _ v12 _ => p.cos.length - (intOf v12).toNat)
 case atStart => exact ⟨0, 0, -1, Nat.zero_le _, rfl, rfl, rfl, Int.le_refl _, HR0, Lib.hid Kp.rfl'⟩
 case round =>
  obtain ⟨i, d, f, hi, rfl, rfl, rfl, hf1, HM, HK⟩ := hrel
  have r13 := HR13.out wr HK.out
  by_cases hlt : i < p.cos.length
  · have hlt' : (i : Int) < (p.cos.length : Int) := by omega
    obtain ⟨x, hx⟩ : ∃ x, p.cos[i] = x := ⟨_, rfl⟩
    have HXX := Lib.hid hx
    obtain ⟨g, oo, hak, hg, hE⟩ := HL13.out.row hlt
    subst hak
    have hE1 := hE i hlt
    rw [hx] at hE1
    obtain ⟨m0, m1, m2, mX, -⟩ := hE1.keep HK.out hg
    obtain ⟨y, hy⟩ : ∃ y, x.e = y := ⟨_, rfl⟩
    have HYY := Lib.hid hy
    rw [hy] at mX
    obtain ⟨ao2, cap2, ak2, ck2, hc2, hv2⟩ := mX.xv
    obtain ⟨n0, n1, n2, n3, n4, n5, n6, n7, n8, n9⟩ := hc2.cells
    have HVY := Lib.hid hv2
    clear hx hy hg hE hE1 mX hc2 hv2
    go_upto_region 6 with fail
    obtain ⟨WX, hWX⟩ : ∃ u, wr.alloc (.cells #[.int .i64 x.cl, .int .u32 x.pm, .bool x.vd, .int .i64 y.op, .int .i64 y.a, .int .i64 y.r, .int .i64 y.b, .slice ao2 y.ns.length cap2, .int .u64 y.st.a, .int .u64 y.st.b, .int .u64 y.st.c, .int .u64 y.st.d, .slice ak2 y.ks.length ck2] 71) = u := ⟨_, rfl⟩
    have HBX : Hid (Blk WX wr.heap.size 71 #[.int .i64 x.cl, .int .u32 x.pm, .bool x.vd, .int .i64 y.op, .int .i64 y.a, .int .i64 y.r, .int .i64 y.b, .slice ao2 y.ns.length cap2, .int .u64 y.st.a, .int .u64 y.st.b, .int .u64 y.st.c, .int .u64 y.st.d, .slice ak2 y.ks.length ck2]) := Lib.hid (by rw [← hWX]; exact Blk.new _ _ _)
    have HKX : Hid (Kp W WX) := Lib.hid (by rw [← hWX]; exact HK.out.alloc _)
    have HVX : Hid (XV WX (.slice ao2 y.ns.length cap2) (.slice ak2 y.ks.length ck2) y) := Lib.hid (by rw [← hWX]; exact HVY.out.keep ((Below.refl _ _).alloc (Nat.le_refl _) _))
    rw [hWX]
    clear r13 m0 m1 m2 n0 n1 n2 n3 n4 n5 n6 n7 n8 n9 HVY
    generalize wr.heap.size = gx at *
    clear hWX
    have HBU : Hid (∀ u, Kp WX u → Blk u gx 71 #[.int .i64 x.cl, .int .u32 x.pm, .bool x.vd, .int .i64 y.op, .int .i64 y.a, .int .i64 y.r, .int .i64 y.b, .slice ao2 y.ns.length cap2, .int .u64 y.st.a, .int .u64 y.st.b, .int .u64 y.st.c, .int .u64 y.st.d, .slice ak2 y.ks.length ck2]) := Lib.hid (fun u hu => HBX.out.keep hu)
    have HWX : Hid (∀ u, Kp WX u → Kp W u) := Lib.hid (fun u hu => kp_trans HKX.out hu)
    obtain ⟨ev, hev⟩ : ∃ z, evX ⟨s, t, nocx⟩ y = z := ⟨_, rfl⟩
    obtain ⟨vd, hvd⟩ : ∃ z, x.vd = z := ⟨_, rfl⟩
    obtain ⟨ec, hec⟩ : ∃ z, (x.cl == cl) = z := ⟨_, rfl⟩
    have hecn : (x.cl != cl) = !ec := by rw [bne, hec]
    have HM2 : Hid ((if (vd || (!ec || ev)) = true then dnL (evX ⟨s, t, nocx⟩) cl (i + 1) (p.cos.drop (i + 1)) d f else dnL (evX ⟨s, t, nocx⟩) cl (i + 1) (p.cos.drop (i + 1)) (bits .or .u32 d x.pm) (if f = -1 then (i : Int) else f)) = R) := Lib.hid (by rw [← HM.out, List.drop_eq_getElem_cons hlt, HXX.out, dnL, HYY.out, hev, hvd, ← hec]; by_cases e : x.cl = cl <;> simp [e])
    have HEV : Hid (∀ u, Kp WX u → Calls Tryz.prog 20 #[.agg #[.int .i64 y.op, .int .i64 y.a, .int .i64 y.r, .int .i64 y.b, .slice ao2 y.ns.length cap2, .int .u64 y.st.a, .int .u64 y.st.b, .int .u64 y.st.c, .int .u64 y.st.d, .slice ak2 y.ks.length ck2], .agg #[.int .i64 s.u, .int .i64 s.ro, .int .i64 s.ty, .int .i64 s.lo.s, .int .u64 s.lo.c, .int .i64 s.hi.s, .int .u64 s.hi.c, .int .i64 t.u, .int .i64 t.ro, .int .i64 t.ty, .int .i64 t.lo.s, .int .u64 t.lo.c, .int .i64 t.hi.s, .int .u64 t.hi.c, .int .i64 0, .int .i64 0, .int .i64 0, .int .i64 0, .int .u64 0, .int .i64 0, .int .u64 0]] u fun e w' => e = .returned (.bool ev) ∧ Below u.heap.size u w') := Lib.hid (fun u hu => by rw [← hev]; exact reval_c y _ _ ⟨s, t, nocx⟩ u (HVX.out.keep hu))
    clear HM hev
    all_goals refine wp_region_kq ?_
    repeat' (first | go_big_quiet_skip | (go_big_quiet_want; first | (refine quiet_load (t := 55) (.tmp 35) rfl rfl (fun w1 hC => loadAt_cexpr (HBU.out w1 hC)) ?_; simp only [Act.put, List.setIfInBounds_toArray, List.set_cons_succ, List.set_cons_zero]; go_big_quiet_on) | (go_big_quiet_op; first | go_big_quiet_on | (apply Exists.intro; refine ⟨fun w1 hC => ?_, ?_⟩; (first | (go_at_call 20; with_reducible exact hC.call (HEV.out _ hC)) | (have z0 := (HBU.out w1 hC).cell 0; have z1 := (HBU.out w1 hC).cell 1; have z2 := (HBU.out w1 hC).cell 2; have z3 := (HBU.out w1 hC).cell 3; have z4 := (HBU.out w1 hC).cell 4; have z5 := (HBU.out w1 hC).cell 5; have z6 := (HBU.out w1 hC).cell 6; have z7 := (HBU.out w1 hC).cell 7; have z8 := (HBU.out w1 hC).cell 8; have z9 := (HBU.out w1 hC).cell 9; have z10 := (HBU.out w1 hC).cell 10; have z11 := (HBU.out w1 hC).cell 11; have z12 := (HBU.out w1 hC).cell 12; go_simp; exact rfl) | (have z0 := (HS.out w1 (HWX.out _ hC)).cell 0; have z1 := (HS.out w1 (HWX.out _ hC)).cell 1; have z2 := (HS.out w1 (HWX.out _ hC)).cell 2; have z3 := (HS.out w1 (HWX.out _ hC)).cell 3; have z4 := (HS.out w1 (HWX.out _ hC)).cell 4; have z5 := (HS.out w1 (HWX.out _ hC)).cell 5; have z6 := (HS.out w1 (HWX.out _ hC)).cell 6; go_simp; exact rfl) | (have z0 := (HT.out w1 (HWX.out _ hC)).cell 0; have z1 := (HT.out w1 (HWX.out _ hC)).cell 1; have z2 := (HT.out w1 (HWX.out _ hC)).cell 2; have z3 := (HT.out w1 (HWX.out _ hC)).cell 3; have z4 := (HT.out w1 (HWX.out _ hC)).cell 4; have z5 := (HT.out w1 (HWX.out _ hC)).cell 5; have z6 := (HT.out w1 (HWX.out _ hC)).cell 6; go_simp; exact rfl) | exact rfl | (go_simp; exact ⟨rfl, rfl⟩)); go_big_quiet_on))) | (cases vd <;> try simp only [Bool.not_true, Bool.not_false]) | (cases ec <;> try simp only [Bool.not_true, Bool.not_false]) | (cases ev <;> try simp only [Bool.not_true, Bool.not_false]))
    all_goals refine wpQuiet_nil ?_
    all_goals intro ZW1 hC
    all_goals have HF1 := Lib.hid (HB.out.trans (Below.mono (HWX.out _ hC) HLE.out))
    all_goals have HT1 : Hid (∀ u, Kp ZW1 u → Kp W u) := Lib.hid (fun u hu => kp_trans (HWX.out _ hC) hu)
    all_goals have HY1 : Hid (∀ u, Kp ZW1 u → Kp WX u) := Lib.hid (fun u hu => kp_trans hC hu)
    all_goals clear hC
    all_goals first
     | (go_wp2_with fail
        go_roundw
        case rel => exact ⟨i + 1, d, f, hlt, rfl, rfl, by go_num, hf1, Lib.hid (by rw [← HM2.out] <;> rfl), Lib.hid (HT1.out _ Kp.rfl')⟩
        case measure => simp [intOf]; omega
        done)
     | (have k1 := (HBU.out ZW1 (HY1.out _ Kp.rfl')).cell 1
        by_cases hf : f = -1
        · have qf : (f < 0) = True := eq_true (by omega)
          have HM3 : Hid (dnL (evX ⟨s, t, nocx⟩) cl (i + 1) (p.cos.drop (i + 1)) (bits .or .u32 d x.pm) i = R) := Lib.hid (by have h := HM2.out; rw [if_pos hf] at h; exact h)
          clear HM2 hf
          go_wp2_with fail
          go_roundw
          case rel => exact ⟨i + 1, _, _, hlt, rfl, rfl, by go_num, by omega, HM3, Lib.hid (HT1.out _ Kp.rfl')⟩
          case measure => simp [intOf]; omega
        · have qf : (f < 0) = False := eq_false (by omega)
          have HM3 : Hid (dnL (evX ⟨s, t, nocx⟩) cl (i + 1) (p.cos.drop (i + 1)) (bits .or .u32 d x.pm) f = R) := Lib.hid (by have h := HM2.out; rw [if_neg hf] at h; exact h)
          clear HM2 hf
          go_wp2_with fail
          go_roundw
          case rel => exact ⟨i + 1, _, _, hlt, rfl, rfl, by go_num, hf1, HM3, Lib.hid (HT1.out _ Kp.rfl')⟩
          case measure => simp [intOf]; omega)
  · have hlt' : ¬ (i : Int) < (p.cos.length : Int) := by omega
    have HF := Lib.hid (HB.out.trans (Below.mono HK.out HLE.out))
    obtain rfl : (d, f) = R := by have h := HM.out; rw [List.drop_of_length_le (by omega)] at h; exact h
    go_wp2_with fail
    exact bodyPost_ret (v := .tuple #[.int .u32 d, .int .i64 f]) (by simp [results, Tryz.results7, go_sem]) rfl ⟨rfl, by first | exact HF.out | (rw [hg0]; exact HF.out)⟩
def vlB (ev : X → Bool) (cl : Int) (x : PCo) : Bool := x.vd && ((x.cl == cl) && !ev x.e)
set_option maxRecDepth 100000 in
set_option maxHeartbeats 16000000 in
theorem rvalid_c (q : PV) (p : PP) (cl : Int) (c : Ca) (w : World) (hP : PolV w q p) (hl : p.cos.length ≤ 1000000) : Calls Tryz.prog 9 #[q.val, .int .i64 cl, .agg #[.int .i64 c.c1.u, .int .i64 c.c1.ro, .int .i64 c.c1.ty, .int .i64 c.c1.lo.s, .int .u64 c.c1.lo.c, .int .i64 c.c1.hi.s, .int .u64 c.c1.hi.c], .agg #[.int .i64 c.c2.u, .int .i64 c.c2.ro, .int .i64 c.c2.ty, .int .i64 c.c2.lo.s, .int .u64 c.c2.lo.c, .int .i64 c.c2.hi.s, .int .u64 c.c2.hi.c], .agg #[.int .i64 c.c3.u, .int .i64 c.c3.ro, .int .i64 c.c3.ty, .int .i64 c.c3.lo.s, .int .u64 c.c3.lo.c, .int .i64 c.c3.hi.s, .int .u64 c.c3.hi.c]] w fun e w' => e = .returned (.tuple #[.bool (fdI (vlB (evX c) cl) p.cos == -1), .int .i64 (fdI (vlB (evX c) cl) p.cos)]) ∧ Below w.heap.size w w' := by
 obtain ⟨R, hR⟩ : ∃ R, fdI (vlB (evX c) cl) p.cos = R := ⟨_, rfl⟩
 rw [hR]
 have HR := Lib.hid hR
 have hIcos : (p.cos.length : Int) ≤ 9223372036854775807 := by omega
 clear hR hl
 obtain ⟨a13, c13, e13⟩ := hP.cos.form
 have E13 := Lib.hid e13
 clear e13
 obtain ⟨W, ZW⟩ : ∃ v, Hid (((((w.alloc (.cells #[q.v0, q.v1, q.v2, q.v3, q.v4, q.v5, q.v6, q.v7, q.v8, q.v9, q.v10, q.v11, q.v12, q.v13, q.v14, q.v15, q.v16] 39)).alloc (.cells #[.int .i64 c.c1.u, .int .i64 c.c1.ro, .int .i64 c.c1.ty, .int .i64 c.c1.lo.s, .int .u64 c.c1.lo.c, .int .i64 c.c1.hi.s, .int .u64 c.c1.hi.c] 46)).alloc (.cells #[.int .i64 c.c2.u, .int .i64 c.c2.ro, .int .i64 c.c2.ty, .int .i64 c.c2.lo.s, .int .u64 c.c2.lo.c, .int .i64 c.c2.hi.s, .int .u64 c.c2.hi.c] 46)).alloc (.cells #[.int .i64 c.c3.u, .int .i64 c.c3.ro, .int .i64 c.c3.ty, .int .i64 c.c3.lo.s, .int .u64 c.c3.lo.c, .int .i64 c.c3.hi.s, .int .u64 c.c3.hi.c] 46)) = v) := ⟨_, Lib.hid rfl⟩
 have HB : Hid (Below w.heap.size w W) := by cases ZW.out; exact Lib.hid (((((Below.refl _ _).alloc (Nat.le_refl _) _).alloc (by first | (simp; done) | (simp; omega)) _).alloc (by first | (simp; done) | (simp; omega)) _).alloc (by first | (simp; done) | (simp; omega)) _)
 have HX0 : Hid (Blk W (w.heap.size) 39 #[q.v0, q.v1, q.v2, q.v3, q.v4, q.v5, q.v6, q.v7, q.v8, q.v9, q.v10, q.v11, q.v12, q.v13, q.v14, q.v15, q.v16]) := by cases ZW.out; exact Lib.hid ((((Blk.here (by simp)).alloc _).alloc _).alloc _)
 have HX1 : Hid (Blk W (w.heap.size + 1) 46 #[.int .i64 c.c1.u, .int .i64 c.c1.ro, .int .i64 c.c1.ty, .int .i64 c.c1.lo.s, .int .u64 c.c1.lo.c, .int .i64 c.c1.hi.s, .int .u64 c.c1.hi.c]) := by cases ZW.out; exact Lib.hid (((Blk.here (by simp)).alloc _).alloc _)
 have HX2 : Hid (Blk W (w.heap.size + 1 + 1) 46 #[.int .i64 c.c2.u, .int .i64 c.c2.ro, .int .i64 c.c2.ty, .int .i64 c.c2.lo.s, .int .u64 c.c2.lo.c, .int .i64 c.c2.hi.s, .int .u64 c.c2.hi.c]) := by cases ZW.out; exact Lib.hid ((Blk.here (by simp)).alloc _)
 have HX3 : Hid (Blk W (w.heap.size + 1 + 1 + 1) 46 #[.int .i64 c.c3.u, .int .i64 c.c3.ro, .int .i64 c.c3.ty, .int .i64 c.c3.lo.s, .int .u64 c.c3.lo.c, .int .i64 c.c3.hi.s, .int .u64 c.c3.hi.c]) := by cases ZW.out; exact Lib.hid (Blk.here (by simp))
 have HQ : Hid (PolV W q p) := by cases ZW.out; exact Lib.hid (hP.keep HB.out)
 have HLE : Hid (w.heap.size ≤ W.heap.size) := by cases ZW.out; exact Lib.hid HB.out.size
 try unfold PV.val
 go_enter Tryz.func9, Tryz.ntmps9
 go_upto_region 1 with fail
 rw [ZW.out]
 generalize w.heap.size + 1 + 1 + 1 = g3 at *
 generalize w.heap.size + 1 + 1 = g2 at *
 generalize w.heap.size + 1 = g1 at *
 generalize hg0 : w.heap.size = g0 at *
 have HR13 : Hid (∀ u, Kp W u → u.cell? ⟨g0, 13, none⟩ = some (.slice a13 p.cos.length c13)) := Lib.hid (fun u hu => pol_cell (HX0.out.keep hu) rfl E13.out)
 generalize Value.agg #[q.v0, q.v1, q.v2, q.v3, q.v4, q.v5, q.v6, q.v7, q.v8, q.v9, q.v10, q.v11, q.v12, q.v13, q.v14, q.v15, q.v16] = P0
 clear hP
 have HL13 : Hid (SlR 13 CCo W (.slice a13 p.cos.length c13) p.cos) := Lib.hid (by rw [← E13.out]; exact HQ.out.cos)
 have HS1 : Hid (∀ u, Kp W u → Blk u g1 46 #[.int .i64 c.c1.u, .int .i64 c.c1.ro, .int .i64 c.c1.ty, .int .i64 c.c1.lo.s, .int .u64 c.c1.lo.c, .int .i64 c.c1.hi.s, .int .u64 c.c1.hi.c]) := Lib.hid (fun u hu => HX1.out.keep hu)
 have HS2 : Hid (∀ u, Kp W u → Blk u g2 46 #[.int .i64 c.c2.u, .int .i64 c.c2.ro, .int .i64 c.c2.ty, .int .i64 c.c2.lo.s, .int .u64 c.c2.lo.c, .int .i64 c.c2.hi.s, .int .u64 c.c2.hi.c]) := Lib.hid (fun u hu => HX2.out.keep hu)
 have HS3 : Hid (∀ u, Kp W u → Blk u g3 46 #[.int .i64 c.c3.u, .int .i64 c.c3.ro, .int .i64 c.c3.ty, .int .i64 c.c3.lo.s, .int .u64 c.c3.lo.c, .int .i64 c.c3.hi.s, .int .u64 c.c3.hi.c]) := Lib.hid (fun u hu => HX3.out.keep hu)
 have r13 := HR13.out W Kp.rfl'
 go_wp2_with fail
 clear r13
 go_loopw [12] (fun vi wr => ∃ i : Nat, i ≤ p.cos.length ∧ vi = .int .i64 i ∧ Hid (∀ j (hj : j < p.cos.length), j < i → vlB (evX c) cl p.cos[j] = false) ∧ Hid (Kp W wr)) (fun vi _ => p.cos.length - (intOf vi).toNat)
 case atStart => exact ⟨0, Nat.zero_le _, rfl, Lib.hid (fun j _ h => absurd h (by omega)), Lib.hid Kp.rfl'⟩
 case round =>
  obtain ⟨i, hi, rfl, HJ, HK⟩ := hrel
  have r13 := HR13.out wr HK.out
  by_cases hlt : i < p.cos.length
  · have hlt' : (i : Int) < (p.cos.length : Int) := by omega
    obtain ⟨x, hx⟩ : ∃ x, p.cos[i] = x := ⟨_, rfl⟩
    have HXX := Lib.hid hx
    obtain ⟨g, oo, hak, hg, hE⟩ := HL13.out.row hlt
    subst hak
    have hE1 := hE i hlt
    rw [hx] at hE1
    obtain ⟨m0, m1, m2, mX, -⟩ := hE1.keep HK.out hg
    obtain ⟨y, hy⟩ : ∃ y, x.e = y := ⟨_, rfl⟩
    have HYY := Lib.hid hy
    rw [hy] at mX
    obtain ⟨ao2, cap2, ak2, ck2, hc2, hv2⟩ := mX.xv
    obtain ⟨n0, n1, n2, n3, n4, n5, n6, n7, n8, n9⟩ := hc2.cells
    have HVY := Lib.hid hv2
    clear hx hy hg hE hE1 mX hc2 hv2
    go_upto_region 5 with fail
    obtain ⟨WX, hWX⟩ : ∃ u, wr.alloc (.cells #[.int .i64 x.cl, .int .u32 x.pm, .bool x.vd, .int .i64 y.op, .int .i64 y.a, .int .i64 y.r, .int .i64 y.b, .slice ao2 y.ns.length cap2, .int .u64 y.st.a, .int .u64 y.st.b, .int .u64 y.st.c, .int .u64 y.st.d, .slice ak2 y.ks.length ck2] 71) = u := ⟨_, rfl⟩
    have HBX : Hid (Blk WX wr.heap.size 71 #[.int .i64 x.cl, .int .u32 x.pm, .bool x.vd, .int .i64 y.op, .int .i64 y.a, .int .i64 y.r, .int .i64 y.b, .slice ao2 y.ns.length cap2, .int .u64 y.st.a, .int .u64 y.st.b, .int .u64 y.st.c, .int .u64 y.st.d, .slice ak2 y.ks.length ck2]) := Lib.hid (by rw [← hWX]; exact Blk.new _ _ _)
    have HKX : Hid (Kp W WX) := Lib.hid (by rw [← hWX]; exact HK.out.alloc _)
    have HVX : Hid (XV WX (.slice ao2 y.ns.length cap2) (.slice ak2 y.ks.length ck2) y) := Lib.hid (by rw [← hWX]; exact HVY.out.keep ((Below.refl _ _).alloc (Nat.le_refl _) _))
    rw [hWX]
    clear r13 m0 m1 m2 n0 n1 n2 n3 n4 n5 n6 n7 n8 n9 HVY
    generalize wr.heap.size = gx at *
    clear hWX
    have HBU : Hid (∀ u, Kp WX u → Blk u gx 71 #[.int .i64 x.cl, .int .u32 x.pm, .bool x.vd, .int .i64 y.op, .int .i64 y.a, .int .i64 y.r, .int .i64 y.b, .slice ao2 y.ns.length cap2, .int .u64 y.st.a, .int .u64 y.st.b, .int .u64 y.st.c, .int .u64 y.st.d, .slice ak2 y.ks.length ck2]) := Lib.hid (fun u hu => HBX.out.keep hu)
    have HWX : Hid (∀ u, Kp WX u → Kp W u) := Lib.hid (fun u hu => kp_trans HKX.out hu)
    obtain ⟨ev, hev⟩ : ∃ z, evX c y = z := ⟨_, rfl⟩
    obtain ⟨vd, hvd⟩ : ∃ z, x.vd = z := ⟨_, rfl⟩
    obtain ⟨ec, hec⟩ : ∃ z, (x.cl == cl) = z := ⟨_, rfl⟩
    have HB1 : Hid (vlB (evX c) cl x = (vd && (ec && !ev))) := Lib.hid (by unfold vlB; rw [hvd, hec, HYY.out, hev])
    have HEV : Hid (∀ u, Kp WX u → Calls Tryz.prog 20 #[.agg #[.int .i64 y.op, .int .i64 y.a, .int .i64 y.r, .int .i64 y.b, .slice ao2 y.ns.length cap2, .int .u64 y.st.a, .int .u64 y.st.b, .int .u64 y.st.c, .int .u64 y.st.d, .slice ak2 y.ks.length ck2], .agg #[.int .i64 c.c1.u, .int .i64 c.c1.ro, .int .i64 c.c1.ty, .int .i64 c.c1.lo.s, .int .u64 c.c1.lo.c, .int .i64 c.c1.hi.s, .int .u64 c.c1.hi.c, .int .i64 c.c2.u, .int .i64 c.c2.ro, .int .i64 c.c2.ty, .int .i64 c.c2.lo.s, .int .u64 c.c2.lo.c, .int .i64 c.c2.hi.s, .int .u64 c.c2.hi.c, .int .i64 c.c3.u, .int .i64 c.c3.ro, .int .i64 c.c3.ty, .int .i64 c.c3.lo.s, .int .u64 c.c3.lo.c, .int .i64 c.c3.hi.s, .int .u64 c.c3.hi.c]] u fun e w' => e = .returned (.bool ev) ∧ Below u.heap.size u w') := Lib.hid (fun u hu => by rw [← hev]; exact reval_c y _ _ c u (HVX.out.keep hu))
    clear hev
    all_goals refine wp_region_kq ?_
    repeat' (first | go_big_quiet_skip | (go_big_quiet_want; first | (refine quiet_load (t := 55) (.tmp 35) rfl rfl (fun w1 hC => loadAt_cexpr (HBU.out w1 hC)) ?_; simp only [Act.put, List.setIfInBounds_toArray, List.set_cons_succ, List.set_cons_zero]; go_big_quiet_on) | (go_big_quiet_op; first | go_big_quiet_on | (apply Exists.intro; refine ⟨fun w1 hC => ?_, ?_⟩; (first | (go_at_call 20; with_reducible exact hC.call (HEV.out _ hC)) | (have z0 := (HBU.out w1 hC).cell 0; have z1 := (HBU.out w1 hC).cell 1; have z2 := (HBU.out w1 hC).cell 2; have z3 := (HBU.out w1 hC).cell 3; have z4 := (HBU.out w1 hC).cell 4; have z5 := (HBU.out w1 hC).cell 5; have z6 := (HBU.out w1 hC).cell 6; have z7 := (HBU.out w1 hC).cell 7; have z8 := (HBU.out w1 hC).cell 8; have z9 := (HBU.out w1 hC).cell 9; have z10 := (HBU.out w1 hC).cell 10; have z11 := (HBU.out w1 hC).cell 11; have z12 := (HBU.out w1 hC).cell 12; go_simp; exact rfl) | (have z0 := (HS1.out w1 (HWX.out _ hC)).cell 0; have z1 := (HS1.out w1 (HWX.out _ hC)).cell 1; have z2 := (HS1.out w1 (HWX.out _ hC)).cell 2; have z3 := (HS1.out w1 (HWX.out _ hC)).cell 3; have z4 := (HS1.out w1 (HWX.out _ hC)).cell 4; have z5 := (HS1.out w1 (HWX.out _ hC)).cell 5; have z6 := (HS1.out w1 (HWX.out _ hC)).cell 6; go_simp; exact rfl) | (have z0 := (HS2.out w1 (HWX.out _ hC)).cell 0; have z1 := (HS2.out w1 (HWX.out _ hC)).cell 1; have z2 := (HS2.out w1 (HWX.out _ hC)).cell 2; have z3 := (HS2.out w1 (HWX.out _ hC)).cell 3; have z4 := (HS2.out w1 (HWX.out _ hC)).cell 4; have z5 := (HS2.out w1 (HWX.out _ hC)).cell 5; have z6 := (HS2.out w1 (HWX.out _ hC)).cell 6; go_simp; exact rfl) | (have z0 := (HS3.out w1 (HWX.out _ hC)).cell 0; have z1 := (HS3.out w1 (HWX.out _ hC)).cell 1; have z2 := (HS3.out w1 (HWX.out _ hC)).cell 2; have z3 := (HS3.out w1 (HWX.out _ hC)).cell 3; have z4 := (HS3.out w1 (HWX.out _ hC)).cell 4; have z5 := (HS3.out w1 (HWX.out _ hC)).cell 5; have z6 := (HS3.out w1 (HWX.out _ hC)).cell 6; go_simp; exact rfl) | exact rfl | (go_simp; exact ⟨rfl, rfl⟩)); go_big_quiet_on))) | (cases vd <;> try simp only [Bool.not_true, Bool.not_false]) | (cases ec <;> try simp only [Bool.not_true, Bool.not_false]) | (cases ev <;> try simp only [Bool.not_true, Bool.not_false]))
    all_goals refine wpQuiet_nil ?_
    all_goals intro ZW1 hC
    all_goals have HF1 := Lib.hid (HB.out.trans (Below.mono (HWX.out _ hC) HLE.out))
    all_goals have HT1 : Hid (∀ u, Kp ZW1 u → Kp W u) := Lib.hid (fun u hu => kp_trans (HWX.out _ hC) hu)
    all_goals have HY1 : Hid (∀ u, Kp ZW1 u → Kp WX u) := Lib.hid (fun u hu => kp_trans hC hu)
    all_goals clear hC
    all_goals first
     | (have HTN := HT1
        go_wp2_with fail
        go_roundw
        case rel =>
         refine ⟨i + 1, hlt, by go_num, Lib.hid (fun j hj hji => ?_), Lib.hid (HTN.out _ Kp.rfl')⟩
         by_cases e : j < i
         · exact HJ.out j hj e
         · obtain rfl : j = i := by omega
           rw [HXX.out, HB1.out] <;> rfl
        case measure => simp [intOf]; omega
        done)
     | (obtain rfl : (i : Int) = R := by rw [← HR.out]; exact (fdI_hit hlt (by rw [HXX.out, HB1.out] <;> rfl) HJ.out).symm
        have qi : ((i : Int) == -1) = false := by rw [beq_eq_false_iff_ne]; omega
        go_wp2_with fail
        exact bodyPost_ret (v := .tuple #[.bool false, .int .i64 i]) (by simp [results, Tryz.results9, go_sem]) rfl ⟨by rw [qi], by first | exact HF1.out | (rw [hg0]; exact HF1.out)⟩)
  · have hlt' : ¬ (i : Int) < (p.cos.length : Int) := by omega
    have HF := Lib.hid (HB.out.trans (Below.mono HK.out HLE.out))
    obtain rfl : -1 = R := by rw [← HR.out]; exact (fdI_none fun k h => HJ.out k h (by omega)).symm
    go_wp2_with fail
    exact bodyPost_ret (v := .tuple #[.bool true, .int .i64 (-1)]) (by simp [results, Tryz.results9, go_sem]) rfl ⟨rfl, by first | exact HF.out | (rw [hg0]; exact HF.out)⟩
set_option maxRecDepth 100000 in
set_option maxHeartbeats 16000000 in
theorem vclos_c (x : PCo) (vn vk : Value) (cl : Int) (c : Ca) (gcl gc1 gc2 gc3 : Nat) (w : World) (hV : XV w vn vk x.e) (hcl : Blk w gcl 3 #[.int .i64 cl]) (hc1 : Blk w gc1 46 #[.int .i64 c.c1.u, .int .i64 c.c1.ro, .int .i64 c.c1.ty, .int .i64 c.c1.lo.s, .int .u64 c.c1.lo.c, .int .i64 c.c1.hi.s, .int .u64 c.c1.hi.c]) (hc2 : Blk w gc2 46 #[.int .i64 c.c2.u, .int .i64 c.c2.ro, .int .i64 c.c2.ty, .int .i64 c.c2.lo.s, .int .u64 c.c2.lo.c, .int .i64 c.c2.hi.s, .int .u64 c.c2.hi.c]) (hc3 : Blk w gc3 46 #[.int .i64 c.c3.u, .int .i64 c.c3.ro, .int .i64 c.c3.ty, .int .i64 c.c3.lo.s, .int .u64 c.c3.lo.c, .int .i64 c.c3.hi.s, .int .u64 c.c3.hi.c]) : Calls Tryz.prog 22 #[.agg #[.int .i64 x.cl, .int .u32 x.pm, .bool x.vd, .int .i64 x.e.op, .int .i64 x.e.a, .int .i64 x.e.r, .int .i64 x.e.b, vn, .int .u64 x.e.st.a, .int .u64 x.e.st.b, .int .u64 x.e.st.c, .int .u64 x.e.st.d, vk], .pointer (some ⟨gcl, 0, none⟩), .pointer (some ⟨gc1, 0, none⟩), .pointer (some ⟨gc2, 0, none⟩), .pointer (some ⟨gc3, 0, none⟩)] w fun e w' => e = .returned (.bool (vlB (evX c) cl x)) ∧ Below w.heap.size w w' := by
 obtain ⟨y, hy⟩ : ∃ y, x.e = y := ⟨_, rfl⟩
 have HYY := Lib.hid hy
 rw [hy] at hV
 obtain ⟨ao2, cap2, ak2, ck2, rfl, rfl⟩ := hV.form
 have HR0 : Hid (vlB (evX c) cl x = vlB (evX c) cl x) := Lib.hid rfl
 rw [hy]
 clear hy
 obtain ⟨W, ZW⟩ : ∃ v, Hid ((w.alloc (.cells #[.int .i64 x.cl, .int .u32 x.pm, .bool x.vd, .int .i64 y.op, .int .i64 y.a, .int .i64 y.r, .int .i64 y.b, .slice ao2 y.ns.length cap2, .int .u64 y.st.a, .int .u64 y.st.b, .int .u64 y.st.c, .int .u64 y.st.d, .slice ak2 y.ks.length ck2] 71)) = v) := ⟨_, Lib.hid rfl⟩
 have HB : Hid (Below w.heap.size w W) := by cases ZW.out; exact Lib.hid ((Below.refl _ _).alloc (Nat.le_refl _) _)
 have HX0 : Hid (Blk W (w.heap.size) 71 #[.int .i64 x.cl, .int .u32 x.pm, .bool x.vd, .int .i64 y.op, .int .i64 y.a, .int .i64 y.r, .int .i64 y.b, .slice ao2 y.ns.length cap2, .int .u64 y.st.a, .int .u64 y.st.b, .int .u64 y.st.c, .int .u64 y.st.d, .slice ak2 y.ks.length ck2]) := by cases ZW.out; exact Lib.hid (Blk.here (by simp))
 have HVX := Lib.hid (hV.keep HB.out)
 have HS30 : Hid (Blk W gc3 46 #[.int .i64 c.c3.u, .int .i64 c.c3.ro, .int .i64 c.c3.ty, .int .i64 c.c3.lo.s, .int .u64 c.c3.lo.c, .int .i64 c.c3.hi.s, .int .u64 c.c3.hi.c]) := by cases ZW.out; exact Lib.hid (hc3.alloc _)
 have HS20 : Hid (Blk W gc2 46 #[.int .i64 c.c2.u, .int .i64 c.c2.ro, .int .i64 c.c2.ty, .int .i64 c.c2.lo.s, .int .u64 c.c2.lo.c, .int .i64 c.c2.hi.s, .int .u64 c.c2.hi.c]) := by cases ZW.out; exact Lib.hid (hc2.alloc _)
 have HS10 : Hid (Blk W gc1 46 #[.int .i64 c.c1.u, .int .i64 c.c1.ro, .int .i64 c.c1.ty, .int .i64 c.c1.lo.s, .int .u64 c.c1.lo.c, .int .i64 c.c1.hi.s, .int .u64 c.c1.hi.c]) := by cases ZW.out; exact Lib.hid (hc1.alloc _)
 have HC0 : Hid (Blk W gcl 3 #[.int .i64 cl]) := by cases ZW.out; exact Lib.hid (hcl.alloc _)
 have HLE : Hid (w.heap.size ≤ W.heap.size) := by cases ZW.out; exact Lib.hid HB.out.size
 go_enter Tryz.func22, Tryz.ntmps22
 go_upto_region 1 with fail
 rw [ZW.out]
 generalize hg0 : w.heap.size = g0 at *
 clear hV hcl hc1 hc2 hc3
 obtain ⟨ev, hev⟩ : ∃ z, evX c y = z := ⟨_, rfl⟩
 obtain ⟨vd, hvd⟩ : ∃ z, x.vd = z := ⟨_, rfl⟩
 obtain ⟨ec, hec⟩ : ∃ z, (x.cl == cl) = z := ⟨_, rfl⟩
 have HR : Hid ((vd && (ec && !ev)) = vlB (evX c) cl x) := Lib.hid (by unfold vlB; rw [hvd, hec, HYY.out, hev])
 have HBU : Hid (∀ u, Kp W u → Blk u g0 71 #[.int .i64 x.cl, .int .u32 x.pm, .bool x.vd, .int .i64 y.op, .int .i64 y.a, .int .i64 y.r, .int .i64 y.b, .slice ao2 y.ns.length cap2, .int .u64 y.st.a, .int .u64 y.st.b, .int .u64 y.st.c, .int .u64 y.st.d, .slice ak2 y.ks.length ck2]) := Lib.hid (fun u hu => HX0.out.keep hu)
 have HCL : Hid (∀ u, Kp W u → Blk u gcl 3 #[.int .i64 cl]) := Lib.hid (fun u hu => HC0.out.keep hu)
 have HS1 : Hid (∀ u, Kp W u → Blk u gc1 46 #[.int .i64 c.c1.u, .int .i64 c.c1.ro, .int .i64 c.c1.ty, .int .i64 c.c1.lo.s, .int .u64 c.c1.lo.c, .int .i64 c.c1.hi.s, .int .u64 c.c1.hi.c]) := Lib.hid (fun u hu => HS10.out.keep hu)
 have HS2 : Hid (∀ u, Kp W u → Blk u gc2 46 #[.int .i64 c.c2.u, .int .i64 c.c2.ro, .int .i64 c.c2.ty, .int .i64 c.c2.lo.s, .int .u64 c.c2.lo.c, .int .i64 c.c2.hi.s, .int .u64 c.c2.hi.c]) := Lib.hid (fun u hu => HS20.out.keep hu)
 have HS3 : Hid (∀ u, Kp W u → Blk u gc3 46 #[.int .i64 c.c3.u, .int .i64 c.c3.ro, .int .i64 c.c3.ty, .int .i64 c.c3.lo.s, .int .u64 c.c3.lo.c, .int .i64 c.c3.hi.s, .int .u64 c.c3.hi.c]) := Lib.hid (fun u hu => HS30.out.keep hu)
 have HEV : Hid (∀ u, Kp W u → Calls Tryz.prog 17 #[.agg #[.int .i64 y.op, .int .i64 y.a, .int .i64 y.r, .int .i64 y.b, .slice ao2 y.ns.length cap2, .int .u64 y.st.a, .int .u64 y.st.b, .int .u64 y.st.c, .int .u64 y.st.d, .slice ak2 y.ks.length ck2], .agg #[.int .i64 c.c1.u, .int .i64 c.c1.ro, .int .i64 c.c1.ty, .int .i64 c.c1.lo.s, .int .u64 c.c1.lo.c, .int .i64 c.c1.hi.s, .int .u64 c.c1.hi.c, .int .i64 c.c2.u, .int .i64 c.c2.ro, .int .i64 c.c2.ty, .int .i64 c.c2.lo.s, .int .u64 c.c2.lo.c, .int .i64 c.c2.hi.s, .int .u64 c.c2.hi.c, .int .i64 c.c3.u, .int .i64 c.c3.ro, .int .i64 c.c3.ty, .int .i64 c.c3.lo.s, .int .u64 c.c3.lo.c, .int .i64 c.c3.hi.s, .int .u64 c.c3.hi.c]] u fun e w' => e = .returned (.bool ev) ∧ Below u.heap.size u w') := Lib.hid (fun u hu => by rw [← hev]; exact eval_c y _ _ c u (HVX.out.keep hu))
 clear hev
 all_goals refine wp_region_kq ?_
 repeat' (first | go_big_quiet_skip | (go_big_quiet_want; first | (refine quiet_load (t := 55) (.tmp 16) rfl rfl (fun w1 hC => loadAt_cexpr (HBU.out w1 hC)) ?_; simp only [Act.put, List.setIfInBounds_toArray, List.set_cons_succ, List.set_cons_zero]; go_big_quiet_on) | (go_big_quiet_op; first | go_big_quiet_on | (apply Exists.intro; refine ⟨fun w1 hC => ?_, ?_⟩; (first | (go_at_call 17; with_reducible exact hC.call (HEV.out _ hC)) | (have z0 := (HBU.out w1 hC).cell 0; have z1 := (HBU.out w1 hC).cell 1; have z2 := (HBU.out w1 hC).cell 2; have z3 := (HBU.out w1 hC).cell 3; have z4 := (HBU.out w1 hC).cell 4; have z5 := (HBU.out w1 hC).cell 5; have z6 := (HBU.out w1 hC).cell 6; have z7 := (HBU.out w1 hC).cell 7; have z8 := (HBU.out w1 hC).cell 8; have z9 := (HBU.out w1 hC).cell 9; have z10 := (HBU.out w1 hC).cell 10; have z11 := (HBU.out w1 hC).cell 11; have z12 := (HBU.out w1 hC).cell 12; go_simp; exact rfl) | (have k0 := (HCL.out w1 hC).cell 0; go_simp; exact rfl) | (have z0 := (HS1.out w1 hC).cell 0; have z1 := (HS1.out w1 hC).cell 1; have z2 := (HS1.out w1 hC).cell 2; have z3 := (HS1.out w1 hC).cell 3; have z4 := (HS1.out w1 hC).cell 4; have z5 := (HS1.out w1 hC).cell 5; have z6 := (HS1.out w1 hC).cell 6; go_simp; exact rfl) | (have z0 := (HS2.out w1 hC).cell 0; have z1 := (HS2.out w1 hC).cell 1; have z2 := (HS2.out w1 hC).cell 2; have z3 := (HS2.out w1 hC).cell 3; have z4 := (HS2.out w1 hC).cell 4; have z5 := (HS2.out w1 hC).cell 5; have z6 := (HS2.out w1 hC).cell 6; go_simp; exact rfl) | (have z0 := (HS3.out w1 hC).cell 0; have z1 := (HS3.out w1 hC).cell 1; have z2 := (HS3.out w1 hC).cell 2; have z3 := (HS3.out w1 hC).cell 3; have z4 := (HS3.out w1 hC).cell 4; have z5 := (HS3.out w1 hC).cell 5; have z6 := (HS3.out w1 hC).cell 6; go_simp; exact rfl) | exact rfl | (go_simp; exact ⟨rfl, rfl⟩)); go_big_quiet_on))) | (cases vd <;> try simp only [Bool.not_true, Bool.not_false]) | (cases ec <;> try simp only [Bool.not_true, Bool.not_false]) | (cases ev <;> try simp only [Bool.not_true, Bool.not_false]))
 all_goals refine wpQuiet_nil ?_
 all_goals intro V1 hC
 all_goals have HF1 := Lib.hid (HB.out.trans (Below.mono hC HLE.out))
 all_goals have HT1 : Hid (∀ u, Kp V1 u → Kp W u) := Lib.hid (fun u hu => kp_trans hC hu)
 all_goals clear hC
 all_goals (go_wp2_with fail
            go_ret
            exact ⟨ret_bool (by rw [← HR.out] <;> rfl), by first | exact HF1.out | (rw [hg0]; exact HF1.out)⟩)
end Go.Proofs.YtbhoofihnmmmfabGreat
