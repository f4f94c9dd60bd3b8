/- Part of the proof: Pnr Pns. No conditions. -/
import Derived.Test.YtbhoofihnmmmfabGreatYbg
namespace Go.Proofs.YtbhoofihnmmmfabGreat
open Go.RowKit Go
def CosOK (p : PP) : Prop := ∀ x ∈ p.cos, x.vd = (x.pm == 0)
/-- what constraints gives: an error, 0 only if each constraint has permissions or is about changes -/
def COut (p : PP) (B : Nat) (w w' : World) (v : Value) : Prop := ∃ c : Int, v = .int .i64 c ∧ (c = 0 → CosOK p) ∧ Below B w w'
theorem loadAt_cexpr {x : PCo} {y : X} {ao ak : Option Addr} {cap ck g : Nat} {ty : TypeId} {u : World} (h : Blk u g ty #[.int .i64 x.cl, .int .u32 x.pm, .bool x.vd, .int .i64 y.op, .int .i64 y.a, .int .i64 y.r, .int .i64 y.b, .slice ao y.ns.length cap, .int .u64 y.st.a, .int .u64 y.st.b, .int .u64 y.st.c, .int .u64 y.st.d, .slice ak y.ks.length ck]) : (Instr.loadAt 55 (.pointer (some ⟨g, 3, none⟩))).run Tryz.prog u = .ok (.agg #[.int .i64 y.op, .int .i64 y.a, .int .i64 y.r, .int .i64 y.b, .slice ao y.ns.length cap, .int .u64 y.st.a, .int .u64 y.st.b, .int .u64 y.st.c, .int .u64 y.st.d, .slice ak y.ks.length ck]) u := by
 refine loadAt_agg [.int .i64 y.op, .int .i64 y.a, .int .i64 y.r, .int .i64 y.b, .slice ao y.ns.length cap, .int .u64 y.st.a, .int .u64 y.st.b, .int .u64 y.st.c, .int .u64 y.st.d, .slice ak y.ks.length ck] (agg_expr u) (size_expr u) (fun j v hj => ?_)
 have e := h.cell (3 + j)
 rw [e]
 rcases j with _ | _ | _ | _ | _ | _ | _ | _ | _ | _ | j
 all_goals first
  | (simp only [List.getElem?_cons_zero, List.getElem?_cons_succ, Option.some.injEq] at hj; subst hj; rfl)
  | simp at hj
set_option maxRecDepth 100000 in
set_option maxHeartbeats 16000000 in
theorem nconstraints_c (q : PV) (p : PP) (w : World) (hP : PolV w q p) (hsm : SmP p) : Calls Tryz.prog 33 #[q.val] w fun e w' => ∃ v, e = .returned v ∧ COut p w.heap.size w w' v := by
 have HSM := Lib.hid hsm
 have qcos : ((64 : Int) < (p.cos.length : Int)) = False := eq_false (by have := HSM.out.cos; omega)
 have hIcos : (p.cos.length : Int) ≤ 9223372036854775807 := by have := HSM.out.cos; omega
 obtain ⟨a13, c13, e13⟩ := hP.cos.form
 have E13 := Lib.hid e13
 clear e13
 obtain ⟨W, ZW⟩ : ∃ v, Hid ((w.alloc (.cells #[q.v0, q.v1, q.v2, q.v3, q.v4, q.v5, q.v6, q.v7, q.v8, q.v9, q.v10, q.v11, q.v12, q.v13, q.v14, q.v15, q.v16] 39)) = v) := ⟨_, Lib.hid rfl⟩
 have HB : Hid (Below w.heap.size w W) := by cases ZW.out; exact Lib.hid ((Below.refl _ _).alloc (Nat.le_refl _) _)
 have HX0 : Hid (Blk W (w.heap.size) 39 #[q.v0, q.v1, q.v2, q.v3, q.v4, q.v5, q.v6, q.v7, q.v8, q.v9, q.v10, q.v11, q.v12, q.v13, q.v14, q.v15, q.v16]) := by cases ZW.out; exact Lib.hid (Blk.here (by simp))
 have HQ : Hid (PolV W q p) := by cases ZW.out; exact Lib.hid (hP.keep HB.out)
 have HLE : Hid (w.heap.size ≤ W.heap.size) := by cases ZW.out; exact Lib.hid HB.out.size
 try unfold PV.val
 go_enter Tryz.func33, Tryz.ntmps33
 go_upto_region 1 with fail
 rw [ZW.out]
 generalize hg0 : w.heap.size = g0 at *
 have HR13 : Hid (∀ u, Kp W u → u.cell? ⟨g0, 13, none⟩ = some (.slice a13 p.cos.length c13)) := Lib.hid (fun u hu => pol_cell (HX0.out.keep hu) rfl E13.out)
 generalize Value.agg #[q.v0, q.v1, q.v2, q.v3, q.v4, q.v5, q.v6, q.v7, q.v8, q.v9, q.v10, q.v11, q.v12, q.v13, q.v14, q.v15, q.v16] = P0
 clear hP
 have HL13 : Hid (SlR 13 CCo W (.slice a13 p.cos.length c13) p.cos) := Lib.hid (by rw [← E13.out]; exact HQ.out.cos)
 have r13 := HR13.out W Kp.rfl'
 go_wp2_with fail
 clear r13
 go_loopw [3] (fun vi wr => ∃ (i : Nat), i ≤ p.cos.length ∧ vi = .int .i64 i ∧ Hid (∀ j (hj : j < p.cos.length), j < i → p.cos[j].vd = (p.cos[j].pm == 0)) ∧ Hid (Kp W wr)) (fun vi _ => p.cos.length - (intOf vi).toNat)
 case atStart => exact ⟨0, Nat.zero_le _, rfl, Lib.hid (fun j _ h => absurd h (by omega)), Lib.hid Kp.rfl'⟩
 case round =>
  obtain ⟨i, hi, rfl, HJ, HK⟩ := hrel
  have r13 := HR13.out wr HK.out
  by_cases hlt : i < p.cos.length
  · have hlt' : (i : Int) < (p.cos.length : Int) := by omega
    obtain ⟨x, hx⟩ : ∃ x, p.cos[i] = x := ⟨_, rfl⟩
    have HXX := Lib.hid hx
    obtain ⟨g, oo, hak, hg, hE⟩ := HL13.out.row hlt
    subst hak
    have hE1 := hE i hlt
    rw [hx] at hE1
    obtain ⟨m0, m1, m2, mX, -⟩ := hE1.keep HK.out hg
    obtain ⟨y, hy⟩ : ∃ y, x.e = y := ⟨_, rfl⟩
    rw [hy] at mX
    obtain ⟨ao2, cap2, ak2, ck2, hc2, hv2⟩ := mX.xv
    obtain ⟨n0, n1, n2, n3, n4, n5, n6, n7, n8, n9⟩ := hc2.cells
    have HVY := Lib.hid hv2
    clear hx hy hg hE hE1 mX hc2 hv2
    go_upto_region 7 with fail
    obtain ⟨WX, hWX⟩ : ∃ u, wr.alloc (.cells #[.int .i64 x.cl, .int .u32 x.pm, .bool x.vd, .int .i64 y.op, .int .i64 y.a, .int .i64 y.r, .int .i64 y.b, .slice ao2 y.ns.length cap2, .int .u64 y.st.a, .int .u64 y.st.b, .int .u64 y.st.c, .int .u64 y.st.d, .slice ak2 y.ks.length ck2] 71) = u := ⟨_, rfl⟩
    have HBX : Hid (Blk WX wr.heap.size 71 #[.int .i64 x.cl, .int .u32 x.pm, .bool x.vd, .int .i64 y.op, .int .i64 y.a, .int .i64 y.r, .int .i64 y.b, .slice ao2 y.ns.length cap2, .int .u64 y.st.a, .int .u64 y.st.b, .int .u64 y.st.c, .int .u64 y.st.d, .slice ak2 y.ks.length ck2]) := Lib.hid (by rw [← hWX]; exact Blk.new _ _ _)
    have HKX : Hid (Kp W WX) := Lib.hid (by rw [← hWX]; exact HK.out.alloc _)
    have HVX : Hid (XV WX (.slice ao2 y.ns.length cap2) (.slice ak2 y.ks.length ck2) y) := Lib.hid (by rw [← hWX]; exact HVY.out.keep ((Below.refl _ _).alloc (Nat.le_refl _) _))
    rw [hWX]
    clear r13 m0 m1 m2 n0 n1 n2 n3 n4 n5 n6 n7 n8 n9 HVY
    generalize wr.heap.size = gx at *
    clear hWX
    have HBU : Hid (∀ u, Kp WX u → Blk u gx 71 #[.int .i64 x.cl, .int .u32 x.pm, .bool x.vd, .int .i64 y.op, .int .i64 y.a, .int .i64 y.r, .int .i64 y.b, .slice ao2 y.ns.length cap2, .int .u64 y.st.a, .int .u64 y.st.b, .int .u64 y.st.c, .int .u64 y.st.d, .slice ak2 y.ks.length ck2]) := Lib.hid (fun u hu => HBX.out.keep hu)
    have HWX : Hid (∀ u, Kp WX u → Kp W u) := Lib.hid (fun u hu => kp_trans HKX.out hu)
    obtain ⟨v1, hv1⟩ : ∃ z, vecB p x.cl x.pm = z := ⟨_, rfl⟩
    obtain ⟨vd, hvd⟩ : ∃ z, x.vd = z := ⟨_, rfl⟩
    obtain ⟨pz, hpz⟩ : ∃ z, (x.pm == 0) = z := ⟨_, rfl⟩
    obtain ⟨ex, hex⟩ : ∃ z, exprE p y x.vd = z := ⟨_, rfl⟩
    have HC1 : Hid (∀ u, Kp W u → Calls Tryz.prog 58 #[q.val, .int .i64 x.cl, .int .u32 x.pm] u fun e w' => e = .returned (.bool v1) ∧ Below u.heap.size u w') := Lib.hid (fun u hu => by rw [← hv1]; exact nvector_c q p x.cl x.pm u (HQ.out.keep hu) (by have := HSM.out.cls; omega))
    have HC2 : Hid (∀ u, Kp WX u → Calls Tryz.prog 62 #[q.val, .agg #[.int .i64 y.op, .int .i64 y.a, .int .i64 y.r, .int .i64 y.b, .slice ao2 y.ns.length cap2, .int .u64 y.st.a, .int .u64 y.st.b, .int .u64 y.st.c, .int .u64 y.st.d, .slice ak2 y.ks.length ck2], .bool vd] u fun e w' => e = .returned (.int .i64 ex) ∧ Below u.heap.size u w') := Lib.hid (fun u hu => by rw [← hex, ← hvd]; exact nExpression_c y x.vd q p _ _ u (HQ.out.keep (HWX.out _ hu)) (by have := HSM.out.uss; omega) (by have := HSM.out.ros; omega) (by have := HSM.out.tys; omega) (HVX.out.keep hu))
    clear hv1 hex
    all_goals refine wp_region_kq ?_
    repeat' (first | go_big_quiet_skip | (go_big_quiet_want; first | (refine quiet_load (t := 39) (.tmp 1) rfl rfl (fun w1 hC => loadAt_pol (HX0.out.keep (HWX.out _ hC))) ?_; simp only [Act.put, List.setIfInBounds_toArray, List.set_cons_succ, List.set_cons_zero]; go_big_quiet_on) | (go_big_quiet_op; first | go_big_quiet_on | (apply Exists.intro; refine ⟨fun w1 hC => ?_, ?_⟩; (first | (go_at_call 58; with_reducible exact hC.call (HC1.out _ (HWX.out _ hC))) | (have z0 := (HBU.out w1 hC).cell 0; have z1 := (HBU.out w1 hC).cell 1; have z2 := (HBU.out w1 hC).cell 2; have z3 := (HBU.out w1 hC).cell 3; have z4 := (HBU.out w1 hC).cell 4; have z5 := (HBU.out w1 hC).cell 5; have z6 := (HBU.out w1 hC).cell 6; have z7 := (HBU.out w1 hC).cell 7; have z8 := (HBU.out w1 hC).cell 8; have z9 := (HBU.out w1 hC).cell 9; have z10 := (HBU.out w1 hC).cell 10; have z11 := (HBU.out w1 hC).cell 11; have z12 := (HBU.out w1 hC).cell 12; go_simp; exact rfl) | exact rfl | (go_simp; exact ⟨rfl, rfl⟩)); go_big_quiet_on))) | (cases v1 <;> try simp only [Bool.not_true, Bool.not_false]))
    all_goals refine wpQuiet_nil ?_
    all_goals intro ZW1 hC
    all_goals have HF1 := Lib.hid (HB.out.trans (Below.mono (HWX.out _ hC) HLE.out))
    all_goals have HT1 : Hid (∀ u, Kp ZW1 u → Kp W u) := Lib.hid (fun u hu => kp_trans (HWX.out _ hC) hu)
    all_goals have HY1 : Hid (∀ u, Kp ZW1 u → Kp WX u) := Lib.hid (fun u hu => kp_trans hC hu)
    all_goals clear hC
    all_goals first
     | (go_wp2_with fail
        go_ret
        first | exact ⟨_, rfl, (fun h => absurd h (by decide)), HF1.out⟩ | exact ⟨_, rfl, ⟨_, rfl, (fun h => absurd h (by decide)), HF1.out⟩⟩ | (rw [hg0]; first | exact ⟨_, rfl, (fun h => absurd h (by decide)), HF1.out⟩ | exact ⟨_, rfl, ⟨_, rfl, (fun h => absurd h (by decide)), HF1.out⟩⟩)
        done)
     | (go_upto_region 9 with fail
        all_goals cases vd <;> cases pz
        all_goals refine wp_region_kq ?_
        repeat' (first | go_big_quiet_skip | (go_big_quiet_want; first | (go_big_quiet_op; first | go_big_quiet_on | (apply Exists.intro; refine ⟨fun w1 hC => ?_, ?_⟩; (first | (have z0 := (HBU.out w1 (HY1.out _ hC)).cell 0; have z1 := (HBU.out w1 (HY1.out _ hC)).cell 1; have z2 := (HBU.out w1 (HY1.out _ hC)).cell 2; have z3 := (HBU.out w1 (HY1.out _ hC)).cell 3; have z4 := (HBU.out w1 (HY1.out _ hC)).cell 4; have z5 := (HBU.out w1 (HY1.out _ hC)).cell 5; have z6 := (HBU.out w1 (HY1.out _ hC)).cell 6; have z7 := (HBU.out w1 (HY1.out _ hC)).cell 7; have z8 := (HBU.out w1 (HY1.out _ hC)).cell 8; have z9 := (HBU.out w1 (HY1.out _ hC)).cell 9; have z10 := (HBU.out w1 (HY1.out _ hC)).cell 10; have z11 := (HBU.out w1 (HY1.out _ hC)).cell 11; have z12 := (HBU.out w1 (HY1.out _ hC)).cell 12; go_simp; exact rfl) | exact rfl | (go_simp; exact ⟨rfl, rfl⟩)); go_big_quiet_on))))
        all_goals refine wpQuiet_nil ?_
        all_goals intro ZW2 hC
        all_goals have HF2 := Lib.hid (HB.out.trans (Below.mono (HT1.out _ hC) HLE.out))
        all_goals have HT2 : Hid (∀ u, Kp ZW2 u → Kp W u) := Lib.hid (fun u hu => kp_trans (HT1.out _ hC) hu)
        all_goals have HY2 : Hid (∀ u, Kp ZW2 u → Kp WX u) := Lib.hid (fun u hu => kp_trans (HY1.out _ hC) hu)
        all_goals clear hC
        all_goals first
         | (go_wp2_with fail
            go_ret
            first | exact ⟨_, rfl, (fun h => absurd h (by decide)), HF2.out⟩ | exact ⟨_, rfl, ⟨_, rfl, (fun h => absurd h (by decide)), HF2.out⟩⟩ | (rw [hg0]; first | exact ⟨_, rfl, (fun h => absurd h (by decide)), HF2.out⟩ | exact ⟨_, rfl, ⟨_, rfl, (fun h => absurd h (by decide)), HF2.out⟩⟩)
            done)
         | (go_upto_region 11 with fail
            all_goals refine wp_region_kq ?_
            repeat' (first | go_big_quiet_skip | (go_big_quiet_want; first | (refine quiet_load (t := 39) (.tmp 1) rfl rfl (fun w1 hC => loadAt_pol (HX0.out.keep (HT2.out _ hC))) ?_; simp only [Act.put, List.setIfInBounds_toArray, List.set_cons_succ, List.set_cons_zero]; go_big_quiet_on) | (refine quiet_load (t := 55) (.tmp 36) rfl rfl (fun w1 hC => loadAt_cexpr (HBU.out w1 (HY2.out _ hC))) ?_; simp only [Act.put, List.setIfInBounds_toArray, List.set_cons_succ, List.set_cons_zero]; go_big_quiet_on) | (go_big_quiet_op; first | go_big_quiet_on | (apply Exists.intro; refine ⟨fun w1 hC => ?_, ?_⟩; (first | (go_at_call 62; with_reducible exact hC.call (HC2.out _ (HY2.out _ hC))) | (have z0 := (HBU.out w1 (HY2.out _ hC)).cell 0; have z1 := (HBU.out w1 (HY2.out _ hC)).cell 1; have z2 := (HBU.out w1 (HY2.out _ hC)).cell 2; have z3 := (HBU.out w1 (HY2.out _ hC)).cell 3; have z4 := (HBU.out w1 (HY2.out _ hC)).cell 4; have z5 := (HBU.out w1 (HY2.out _ hC)).cell 5; have z6 := (HBU.out w1 (HY2.out _ hC)).cell 6; have z7 := (HBU.out w1 (HY2.out _ hC)).cell 7; have z8 := (HBU.out w1 (HY2.out _ hC)).cell 8; have z9 := (HBU.out w1 (HY2.out _ hC)).cell 9; have z10 := (HBU.out w1 (HY2.out _ hC)).cell 10; have z11 := (HBU.out w1 (HY2.out _ hC)).cell 11; have z12 := (HBU.out w1 (HY2.out _ hC)).cell 12; go_simp; exact rfl) | exact rfl | (go_simp; exact ⟨rfl, rfl⟩)); go_big_quiet_on))))
            all_goals refine wpQuiet_nil ?_
            all_goals intro ZW3 hC
            all_goals have HF3 := Lib.hid (HB.out.trans (Below.mono (HT2.out _ hC) HLE.out))
            all_goals have HT3 : Hid (∀ u, Kp ZW3 u → Kp W u) := Lib.hid (fun u hu => kp_trans (HT2.out _ hC) hu)
            all_goals have HY3 : Hid (∀ u, Kp ZW3 u → Kp WX u) := Lib.hid (fun u hu => kp_trans (HY2.out _ hC) hu)
            all_goals clear hC
            all_goals (have HPV : Hid (x.vd = (x.pm == 0)) := Lib.hid (by rw [hvd, hpz])
                       by_cases h0 : ex = 0
                       · subst h0
                         go_wp2_with fail
                         go_roundw
                         case rel =>
                          refine ⟨i + 1, hlt, by go_num, Lib.hid (fun j hj hji => ?_), Lib.hid (HT3.out _ Kp.rfl')⟩
                          by_cases e : j < i
                          · exact HJ.out j hj e
                          · obtain rfl : j = i := by omega
                            rw [HXX.out]; exact HPV.out
                         case measure => simp [intOf]; omega
                       · have hb : (ex == 0) = false := by simpa using h0
                         have hb2 : (ex != 0) = true := by simpa using h0
                         go_wp2_with fail
                         go_ret
                         first | exact ⟨_, rfl, (fun h => absurd h h0), HF3.out⟩ | exact ⟨_, rfl, ⟨_, rfl, (fun h => absurd h h0), HF3.out⟩⟩ | (rw [hg0]; first | exact ⟨_, rfl, (fun h => absurd h h0), HF3.out⟩ | exact ⟨_, rfl, ⟨_, rfl, (fun h => absurd h h0), HF3.out⟩⟩))))
  · have hlt' : ¬ (i : Int) < (p.cos.length : Int) := by omega
    have HF := Lib.hid (HB.out.trans (Below.mono HK.out HLE.out))
    have HALL : Hid (CosOK p) := Lib.hid (fun x hx => by obtain ⟨j, hj, rfl⟩ := List.getElem_of_mem hx; exact HJ.out j hj (by omega))
    clear HJ
    go_wp2_with fail
    go_ret
    first | exact ⟨_, rfl, (fun _ => HALL.out), HF.out⟩ | exact ⟨_, rfl, ⟨_, rfl, (fun _ => HALL.out), HF.out⟩⟩ | (rw [hg0]; first | exact ⟨_, rfl, (fun _ => HALL.out), HF.out⟩ | exact ⟨_, rfl, ⟨_, rfl, (fun _ => HALL.out), HF.out⟩⟩)
open Go.RowKit Go
set_option maxRecDepth 100000 in
set_option maxHeartbeats 16000000 in
theorem nplace_c (q : PV) (p : PP) (c : PCx) (w : World) (hP : PolV w q p) (hsm : SmP p) : Calls Tryz.prog 63 #[q.val, .agg #[.int .i64 c.u, .int .i64 c.r, .int .i64 c.t, .int .i64 c.lo.s, .int .u64 c.lo.c, .int .i64 c.hi.s, .int .u64 c.hi.c]] w fun e w' => e = .returned (.int .i64 (placeE p c)) ∧ Below w.heap.size w w' := by
 have HSM := Lib.hid hsm
 obtain ⟨b1, hb1⟩ : ∃ z, bel c.u p.uss.length = z := ⟨_, rfl⟩
 obtain ⟨b2, hb2⟩ : ∃ z, bel c.r p.ros.length = z := ⟨_, rfl⟩
 obtain ⟨b3, hb3⟩ : ∃ z, bel c.t p.tys.length = z := ⟨_, rfl⟩
 obtain ⟨b4, hb4⟩ : ∃ z, rngB p c.lo c.hi = z := ⟨_, rfl⟩
 obtain ⟨X0, hX0⟩ : ∃ z : Int, (match p.uss[c.u.toNat]?, p.ros[c.r.toNat]? with | some u, some r => if domB c.lo u.lo && domB u.hi c.hi && (hasB u.rs.a u.rs.b u.rs.c u.rs.d c.r && hasB r.ts.a r.ts.b r.ts.c r.ts.d c.t) then 0 else 19 | _, _ => 19) = z := ⟨_, rfl⟩
 have HX0M := Lib.hid hX0
 have HV : Hid ((if (b1 && (b2 && b3)) = true then (if b4 = false then 18 else if c.r = 0 then 0 else X0) else 3) = placeE p c) := Lib.hid (by rw [← hX0]; unfold placeE; rw [hb1, hb2, hb3, hb4] <;> rfl)
 generalize placeE p c = R at *
 clear hX0
 have HBU1 := Lib.hid hb1
 have HBU2 := Lib.hid hb2
 have hIuss : (p.uss.length : Int) ≤ 9223372036854775807 := by have := HSM.out.uss; omega
 have hIros : (p.ros.length : Int) ≤ 9223372036854775807 := by have := HSM.out.ros; omega
 have hItys : (p.tys.length : Int) ≤ 9223372036854775807 := by have := HSM.out.tys; omega
 obtain ⟨a1, c1, e1⟩ := hP.tys.form
 have E1 := Lib.hid e1
 clear e1
 obtain ⟨a3, c3, e3⟩ := hP.ros.form
 have E3 := Lib.hid e3
 clear e3
 obtain ⟨a4, c4, e4⟩ := hP.uss.form
 have E4 := Lib.hid e4
 clear e4
 obtain ⟨W, ZW⟩ : ∃ v, Hid (((w.alloc (.cells #[q.v0, q.v1, q.v2, q.v3, q.v4, q.v5, q.v6, q.v7, q.v8, q.v9, q.v10, q.v11, q.v12, q.v13, q.v14, q.v15, q.v16] 39)).alloc (.cells #[.int .i64 c.u, .int .i64 c.r, .int .i64 c.t, .int .i64 c.lo.s, .int .u64 c.lo.c, .int .i64 c.hi.s, .int .u64 c.hi.c] 46)) = v) := ⟨_, Lib.hid rfl⟩
 have HB : Hid (Below w.heap.size w W) := by cases ZW.out; exact Lib.hid (((Below.refl _ _).alloc (Nat.le_refl _) _).alloc (by simp) _)
 have HX0 : Hid (Blk W (w.heap.size) 39 #[q.v0, q.v1, q.v2, q.v3, q.v4, q.v5, q.v6, q.v7, q.v8, q.v9, q.v10, q.v11, q.v12, q.v13, q.v14, q.v15, q.v16]) := by cases ZW.out; exact Lib.hid ((Blk.here (by simp)).alloc _)
 have HX1 : Hid (Blk W (w.heap.size + 1) 46 #[.int .i64 c.u, .int .i64 c.r, .int .i64 c.t, .int .i64 c.lo.s, .int .u64 c.lo.c, .int .i64 c.hi.s, .int .u64 c.hi.c]) := by cases ZW.out; exact Lib.hid (Blk.here (by simp))
 have HQ : Hid (PolV W q p) := by cases ZW.out; exact Lib.hid (hP.keep HB.out)
 have HLE : Hid (w.heap.size ≤ W.heap.size) := by cases ZW.out; exact Lib.hid HB.out.size
 try unfold PV.val
 go_enter Tryz.func63, Tryz.ntmps63
 go_upto_region 1 with fail
 rw [ZW.out]
 generalize w.heap.size + 1 = g1 at *
 generalize hg0 : w.heap.size = g0 at *
 have HR1 : Hid (∀ u, Kp W u → u.cell? ⟨g0, 1, none⟩ = some (.slice a1 p.tys.length c1)) := Lib.hid (fun u hu => pol_cell (HX0.out.keep hu) rfl E1.out)
 have HR3 : Hid (∀ u, Kp W u → u.cell? ⟨g0, 3, none⟩ = some (.slice a3 p.ros.length c3)) := Lib.hid (fun u hu => pol_cell (HX0.out.keep hu) rfl E3.out)
 have HR4 : Hid (∀ u, Kp W u → u.cell? ⟨g0, 4, none⟩ = some (.slice a4 p.uss.length c4)) := Lib.hid (fun u hu => pol_cell (HX0.out.keep hu) rfl E4.out)
 generalize Value.agg #[q.v0, q.v1, q.v2, q.v3, q.v4, q.v5, q.v6, q.v7, q.v8, q.v9, q.v10, q.v11, q.v12, q.v13, q.v14, q.v15, q.v16] = P0
 clear hP
 have HL4 : Hid (SlR 11 CUs W (.slice a4 p.uss.length c4) p.uss) := Lib.hid (by rw [← E4.out]; exact HQ.out.uss)
 have HL3 : Hid (SlR 9 CRo W (.slice a3 p.ros.length c3) p.ros) := Lib.hid (by rw [← E3.out]; exact HQ.out.ros)
 have HCX : Hid (∀ u, Kp W u → Blk u g1 46 #[.int .i64 c.u, .int .i64 c.r, .int .i64 c.t, .int .i64 c.lo.s, .int .u64 c.lo.c, .int .i64 c.hi.s, .int .u64 c.hi.c]) := Lib.hid (fun u hu => HX1.out.keep hu)
 have HC1 : Hid (∀ u, Kp W u → Calls Tryz.prog 60 #[.int .i64 c.u, .int .i64 p.uss.length] u fun e w' => e = .returned (.bool b1) ∧ w' = u) := Lib.hid (fun u hu => by rw [← hb1]; exact nbel_c _ _ u)
 have HC2 : Hid (∀ u, Kp W u → Calls Tryz.prog 60 #[.int .i64 c.r, .int .i64 p.ros.length] u fun e w' => e = .returned (.bool b2) ∧ w' = u) := Lib.hid (fun u hu => by rw [← hb2]; exact nbel_c _ _ u)
 have HC3 : Hid (∀ u, Kp W u → Calls Tryz.prog 60 #[.int .i64 c.t, .int .i64 p.tys.length] u fun e w' => e = .returned (.bool b3) ∧ w' = u) := Lib.hid (fun u hu => by rw [← hb3]; exact nbel_c _ _ u)
 have HC4 : Hid (∀ u, Kp W u → Calls Tryz.prog 54 #[q.val, .agg #[.int .i64 c.lo.s, .int .u64 c.lo.c, .int .i64 c.hi.s, .int .u64 c.hi.c]] u fun e w' => e = .returned (.bool b4) ∧ Below u.heap.size u w') := Lib.hid (fun u hu => by rw [← hb4]; exact nrange_c q p c.lo c.hi u (HQ.out.keep hu) (by have := HSM.out.cats; omega) (by have := HSM.out.sens; omega))
 clear hb1 hb2 hb3 hb4
 all_goals refine wp_region_kq ?_
 repeat' (first | go_big_quiet_skip | (go_big_quiet_want; first | (go_big_quiet_op; first | go_big_quiet_on | (apply Exists.intro; refine ⟨fun w1 hC => ?_, ?_⟩; (first | (go_at_call 60; with_reducible exact hC.call_same (HC1.out _ hC)) | (go_at_call 60; with_reducible exact hC.call_same (HC2.out _ hC)) | (go_at_call 60; with_reducible exact hC.call_same (HC3.out _ hC)) | (have z0 := (HCX.out w1 hC).cell 0; have z1 := (HCX.out w1 hC).cell 1; have z2 := (HCX.out w1 hC).cell 2; have z3 := (HCX.out w1 hC).cell 3; have z4 := (HCX.out w1 hC).cell 4; have z5 := (HCX.out w1 hC).cell 5; have z6 := (HCX.out w1 hC).cell 6; go_simp; exact rfl) | (have y4 := HR4.out w1 hC; go_simp; exact rfl) | (have y3 := HR3.out w1 hC; go_simp; exact rfl) | (have y1 := HR1.out w1 hC; go_simp; exact rfl) | exact rfl | (go_simp; exact ⟨rfl, rfl⟩)); go_big_quiet_on))) | (cases b1 <;> try simp only [Bool.not_true, Bool.not_false]) | (cases b2 <;> try simp only [Bool.not_true, Bool.not_false]) | (cases b3 <;> try simp only [Bool.not_true, Bool.not_false]))
 all_goals refine wpQuiet_nil ?_
 all_goals intro ZW1 hC
 all_goals have HF1 := Lib.hid (HB.out.trans (Below.mono hC HLE.out))
 all_goals have HT1 : Hid (∀ u, Kp ZW1 u → Kp W u) := Lib.hid (fun u hu => kp_trans hC hu)
 all_goals clear hC
 all_goals first
  | (go_wp2_with fail
     go_ret
     exact ⟨by rw [← HV.out] <;> rfl, by first | exact HF1.out | (rw [hg0]; exact HF1.out)⟩
     done)
  | (go_upto_region 3 with fail
     all_goals refine wp_region_kq ?_
     repeat' (first | go_big_quiet_skip | (go_big_quiet_want; first | (refine quiet_load (t := 39) (.tmp 2) rfl rfl (fun w1 hC => loadAt_pol (HX0.out.keep (HT1.out _ hC))) ?_; simp only [Act.put, List.setIfInBounds_toArray, List.set_cons_succ, List.set_cons_zero]; go_big_quiet_on) | (go_big_quiet_op; first | go_big_quiet_on | (apply Exists.intro; refine ⟨fun w1 hC => ?_, ?_⟩; (first | (go_at_call 54; with_reducible exact hC.call (HC4.out _ (HT1.out _ hC))) | (have z0 := (HCX.out w1 (HT1.out _ hC)).cell 0; have z1 := (HCX.out w1 (HT1.out _ hC)).cell 1; have z2 := (HCX.out w1 (HT1.out _ hC)).cell 2; have z3 := (HCX.out w1 (HT1.out _ hC)).cell 3; have z4 := (HCX.out w1 (HT1.out _ hC)).cell 4; have z5 := (HCX.out w1 (HT1.out _ hC)).cell 5; have z6 := (HCX.out w1 (HT1.out _ hC)).cell 6; go_simp; exact rfl) | exact rfl | (go_simp; exact ⟨rfl, rfl⟩)); go_big_quiet_on))) | (cases b4 <;> try simp only [Bool.not_true, Bool.not_false]))
     all_goals refine wpQuiet_nil ?_
     all_goals intro ZW2 hC
     all_goals have HF2 := Lib.hid (HB.out.trans (Below.mono (HT1.out _ hC) HLE.out))
     all_goals have HT2 : Hid (∀ u, Kp ZW2 u → Kp W u) := Lib.hid (fun u hu => kp_trans (HT1.out _ hC) hu)
     all_goals clear hC
     all_goals first
      | (go_wp2_with fail
         go_ret
         exact ⟨by rw [← HV.out] <;> rfl, by first | exact HF2.out | (rw [hg0]; exact HF2.out)⟩
         done)
      | (have k1 := (HCX.out ZW2 (HT2.out _ Kp.rfl')).cell 1
         have k0 := (HCX.out ZW2 (HT2.out _ Kp.rfl')).cell 0
         by_cases hr0 : c.r = 0
         · have e0 : (c.r == 0) = true := by simpa using hr0
           obtain rfl : (0 : Int) = R := by rw [← HV.out]; simp [hr0]
           clear hr0
           go_wp2_with fail
           go_ret
           exact ⟨rfl, by first | exact HF2.out | (rw [hg0]; exact HF2.out)⟩
         · have e0 : (c.r == 0) = false := by simpa using hr0
           have HVX : Hid (X0 = R) := Lib.hid (by rw [← HV.out]; simp [hr0])
           clear hr0 HV
           have hu1 : 0 ≤ c.u ∧ c.u < (p.uss.length : Int) := by have h := HBU1.out; unfold bel at h; simpa using h
           have hr1 : 0 ≤ c.r ∧ c.r < (p.ros.length : Int) := by have h := HBU2.out; unfold bel at h; simpa using h
           obtain ⟨iu, hiu⟩ : ∃ i : Nat, c.u = i := ⟨c.u.toNat, by omega⟩
           obtain ⟨ir, hir⟩ : ∃ i : Nat, c.r = i := ⟨c.r.toNat, by omega⟩
           have hiu2 : iu < p.uss.length := by omega
           have hir2 : ir < p.ros.length := by omega
           obtain ⟨us, hus⟩ : ∃ x, p.uss[iu] = x := ⟨_, rfl⟩
           obtain ⟨ro, hro⟩ : ∃ x, p.ros[ir] = x := ⟨_, rfl⟩
           obtain ⟨g, oo, hak, hg, hE⟩ := HL4.out.row hiu2
           subst hak
           have hE1 := hE iu hiu2
           rw [hus] at hE1
           obtain ⟨m0, m1, m2, m3, m4, m5, m6, m7, m8, m9, m10, -⟩ := hE1.keep (HT2.out _ Kp.rfl') hg
           obtain ⟨g3, o3, hak3, hg3, hE3⟩ := HL3.out.row hir2
           subst hak3
           have hE4 := hE3 ir hir2
           rw [hro] at hE4
           have HRO : Hid (∀ u, Kp W u → CRo u g3 (o3 + ir * 9) ro) := Lib.hid (fun u hu => hE4.keep hu hg3)
           have iuI : (iu : Int) < (p.uss.length : Int) := by omega
           have irI : (ir : Int) < (p.ros.length : Int) := by omega
           have r4 := HR4.out ZW2 (HT2.out _ Kp.rfl')
           rw [show (#[.int .i64 c.u, .int .i64 c.r, .int .i64 c.t, .int .i64 c.lo.s, .int .u64 c.lo.c, .int .i64 c.hi.s, .int .u64 c.hi.c] : Array Value)[0]? = some (.int .i64 c.u) from rfl, hiu] at k0
           clear hE hE1 hE3 hE4 hg hg3 hu1 hr1
           go_upto_region 8 with fail
           obtain ⟨WX, hWX⟩ : ∃ u, ZW2.alloc (.cells #[.string us.n, .int .u64 us.rs.a, .int .u64 us.rs.b, .int .u64 us.rs.c, .int .u64 us.rs.d, .int .i64 us.df.s, .int .u64 us.df.c, .int .i64 us.lo.s, .int .u64 us.lo.c, .int .i64 us.hi.s, .int .u64 us.hi.c] 93) = u := ⟨_, rfl⟩
           have HBX : Hid (Blk WX ZW2.heap.size 93 #[.string us.n, .int .u64 us.rs.a, .int .u64 us.rs.b, .int .u64 us.rs.c, .int .u64 us.rs.d, .int .i64 us.df.s, .int .u64 us.df.c, .int .i64 us.lo.s, .int .u64 us.lo.c, .int .i64 us.hi.s, .int .u64 us.hi.c]) := Lib.hid (by rw [← hWX]; exact Blk.new _ _ _)
           have HKX : Hid (Kp W WX) := Lib.hid (by rw [← hWX]; exact Kp.alloc (HT2.out _ Kp.rfl') _)
           rw [hWX]
           clear r4 k0 k1 m0 m1 m2 m3 m4 m5 m6 m7 m8 m9 m10
           generalize ZW2.heap.size = gx at *
           clear hWX
           have HBU : Hid (∀ u, Kp WX u → Blk u gx 93 #[.string us.n, .int .u64 us.rs.a, .int .u64 us.rs.b, .int .u64 us.rs.c, .int .u64 us.rs.d, .int .i64 us.df.s, .int .u64 us.df.c, .int .i64 us.lo.s, .int .u64 us.lo.c, .int .i64 us.hi.s, .int .u64 us.hi.c]) := Lib.hid (fun u hu => HBX.out.keep hu)
           have HWX : Hid (∀ u, Kp WX u → Kp W u) := Lib.hid (fun u hu => kp_trans HKX.out hu)
           obtain ⟨d1, hd1⟩ : ∃ z, domB c.lo us.lo = z := ⟨_, rfl⟩
           obtain ⟨d2, hd2⟩ : ∃ z, domB us.hi c.hi = z := ⟨_, rfl⟩
           obtain ⟨a1, ha1⟩ : ∃ z, hasB us.rs.a us.rs.b us.rs.c us.rs.d (ir : Int) = z := ⟨_, rfl⟩
           obtain ⟨a2, ha2⟩ : ∃ z, hasB ro.ts.a ro.ts.b ro.ts.c ro.ts.d c.t = z := ⟨_, rfl⟩
           have HV4 : Hid ((if (d1 && d2 && (a1 && a2)) = true then 0 else 19) = R) := Lib.hid (by rw [← HVX.out, ← HX0M.out, hiu, hir, Int.toNat_natCast, Int.toNat_natCast, List.getElem?_eq_getElem hiu2, List.getElem?_eq_getElem hir2, hus, hro]; simp only [hd1, hd2, ha1, ha2])
           clear hus hro
           have HD1 : Hid (∀ u, Kp W u → Calls Tryz.prog 56 #[.agg #[.int .i64 c.lo.s, .int .u64 c.lo.c], .agg #[.int .i64 us.lo.s, .int .u64 us.lo.c]] u fun e w' => e = .returned (.bool d1) ∧ Below u.heap.size u w') := Lib.hid (fun u hu => by rw [← hd1]; exact ndom_c c.lo us.lo u)
           have HD2 : Hid (∀ u, Kp W u → Calls Tryz.prog 56 #[.agg #[.int .i64 us.hi.s, .int .u64 us.hi.c], .agg #[.int .i64 c.hi.s, .int .u64 c.hi.c]] u fun e w' => e = .returned (.bool d2) ∧ Below u.heap.size u w') := Lib.hid (fun u hu => by rw [← hd2]; exact ndom_c us.hi c.hi u)
           have HD3 : Hid (∀ u, Kp W u → Calls Tryz.prog 78 #[.agg #[.int .u64 us.rs.a, .int .u64 us.rs.b, .int .u64 us.rs.c, .int .u64 us.rs.d], .int .i64 ir] u fun e w' => e = .returned (.bool a1) ∧ Below u.heap.size u w') := Lib.hid (fun u hu => by rw [← ha1]; exact rhas_c _ _ _ _ _ u)
           have HD4 : Hid (∀ u, Kp W u → Calls Tryz.prog 78 #[.agg #[.int .u64 ro.ts.a, .int .u64 ro.ts.b, .int .u64 ro.ts.c, .int .u64 ro.ts.d], .int .i64 c.t] u fun e w' => e = .returned (.bool a2) ∧ Below u.heap.size u w') := Lib.hid (fun u hu => by rw [← ha2]; exact rhas_c _ _ _ _ _ u)
           clear hd1 hd2 ha1 ha2
           all_goals refine wp_region_kq ?_
           repeat' (first | go_big_quiet_skip | (go_big_quiet_want; first | (go_big_quiet_op; first | go_big_quiet_on | (apply Exists.intro; refine ⟨fun w1 hC => ?_, ?_⟩; (first | (go_at_call 56; with_reducible exact hC.call (HD1.out _ (HWX.out _ hC))) | (go_at_call 56; with_reducible exact hC.call (HD2.out _ (HWX.out _ hC))) | (have z0 := (HBU.out w1 hC).cell 0; have z1 := (HBU.out w1 hC).cell 1; have z2 := (HBU.out w1 hC).cell 2; have z3 := (HBU.out w1 hC).cell 3; have z4 := (HBU.out w1 hC).cell 4; have z5 := (HBU.out w1 hC).cell 5; have z6 := (HBU.out w1 hC).cell 6; have z7 := (HBU.out w1 hC).cell 7; have z8 := (HBU.out w1 hC).cell 8; have z9 := (HBU.out w1 hC).cell 9; have z10 := (HBU.out w1 hC).cell 10; go_simp; exact rfl) | (have z0 := (HCX.out w1 (HWX.out _ hC)).cell 0; have z1 := (HCX.out w1 (HWX.out _ hC)).cell 1; have z2 := (HCX.out w1 (HWX.out _ hC)).cell 2; have z3 := (HCX.out w1 (HWX.out _ hC)).cell 3; have z4 := (HCX.out w1 (HWX.out _ hC)).cell 4; have z5 := (HCX.out w1 (HWX.out _ hC)).cell 5; have z6 := (HCX.out w1 (HWX.out _ hC)).cell 6; go_simp; exact rfl) | exact rfl | (go_simp; exact ⟨rfl, rfl⟩)); go_big_quiet_on))) | (cases d1 <;> try simp only [Bool.not_true, Bool.not_false]) | (cases d2 <;> try simp only [Bool.not_true, Bool.not_false]))
           all_goals refine wpQuiet_nil ?_
           all_goals intro YW1 hC
           all_goals have HF1 := Lib.hid (HB.out.trans (Below.mono (HWX.out _ hC) HLE.out))
           all_goals have HT1 : Hid (∀ u, Kp YW1 u → Kp W u) := Lib.hid (fun u hu => kp_trans (HWX.out _ hC) hu)
           all_goals have HY1 : Hid (∀ u, Kp YW1 u → Kp WX u) := Lib.hid (fun u hu => kp_trans hC hu)
           all_goals clear hC
           all_goals (go_upto_region 9 with fail
                      all_goals refine wp_region_kp (by kernel_rfl) (by kernel_rfl) ?_
                      repeat' (first | go_big_quiet_skip | (go_big_quiet_want; first | (go_big_quiet_op; first | go_big_quiet_on | (apply Exists.intro; refine ⟨fun w1 hC => ?_, ?_⟩; (first | (go_at_call 78; with_reducible exact hC.call (HD3.out _ (HT1.out _ hC))) | (go_at_call 78; with_reducible exact hC.call (HD4.out _ (HT1.out _ hC))) | (have z0 := (HBU.out w1 (HY1.out _ hC)).cell 0; have z1 := (HBU.out w1 (HY1.out _ hC)).cell 1; have z2 := (HBU.out w1 (HY1.out _ hC)).cell 2; have z3 := (HBU.out w1 (HY1.out _ hC)).cell 3; have z4 := (HBU.out w1 (HY1.out _ hC)).cell 4; have z5 := (HBU.out w1 (HY1.out _ hC)).cell 5; have z6 := (HBU.out w1 (HY1.out _ hC)).cell 6; have z7 := (HBU.out w1 (HY1.out _ hC)).cell 7; have z8 := (HBU.out w1 (HY1.out _ hC)).cell 8; have z9 := (HBU.out w1 (HY1.out _ hC)).cell 9; have z10 := (HBU.out w1 (HY1.out _ hC)).cell 10; go_simp; exact rfl) | (have z0 := (HCX.out w1 (HT1.out _ hC)).cell 0; have z1 := (HCX.out w1 (HT1.out _ hC)).cell 1; have z2 := (HCX.out w1 (HT1.out _ hC)).cell 2; have z3 := (HCX.out w1 (HT1.out _ hC)).cell 3; have z4 := (HCX.out w1 (HT1.out _ hC)).cell 4; have z5 := (HCX.out w1 (HT1.out _ hC)).cell 5; have z6 := (HCX.out w1 (HT1.out _ hC)).cell 6; go_simp; exact rfl) | (have y3 := HR3.out w1 (HT1.out _ hC); go_simp; exact rfl) | (obtain ⟨q0, q1, q2, q3, q4, -⟩ := HRO.out w1 (HT1.out _ hC); go_simp; exact rfl) | ((first | (rw [hir]) | skip); go_simp; exact rfl) | exact rfl | (go_simp; exact ⟨rfl, rfl⟩)); go_big_quiet_on))) | (cases d1 <;> try simp only [Bool.not_true, Bool.not_false]) | (cases a1 <;> try simp only [Bool.not_true, Bool.not_false]) | (cases a2 <;> try simp only [Bool.not_true, Bool.not_false]))
                      all_goals refine wpQuiet_nil ?_
                      all_goals intro YW2 hC
                      all_goals have HF2 := Lib.hid (HB.out.trans (Below.mono (HT1.out _ hC) HLE.out))
                      all_goals have HT2 : Hid (∀ u, Kp YW2 u → Kp W u) := Lib.hid (fun u hu => kp_trans (HT1.out _ hC) hu)
                      all_goals have HY2 : Hid (∀ u, Kp YW2 u → Kp WX u) := Lib.hid (fun u hu => kp_trans (HY1.out _ hC) hu)
                      all_goals clear hC
                      all_goals first
                       | (go_wp2_with fail
                          go_ret
                          exact ⟨by rw [← HV4.out] <;> rfl, by first | exact HF2.out | (rw [hg0]; exact HF2.out)⟩
                          done)
                       | (go_wp2_with fail
                          go_ret
                          exact ⟨by rw [← HV4.out] <;> rfl, by first | exact HF2.out | (rw [hg0]; exact HF2.out)⟩))))
end Go.Proofs.YtbhoofihnmmmfabGreat
