/- Part of the proof: Pni. No conditions. -/
import Derived.Test.YtbhoofihnmmmfabGreatYbd
namespace Go.Proofs.YtbhoofihnmmmfabGreat
open Go.RowKit Go
theorem inE_eq (p : PP) (a : Int) (st : S4) (n : Int) : inE p a st n = if bel a n = false then 3 else if decide (numP p a < 0) = true then 13 else if someW st (numP p a) = false then 3 else if someN st = false then 2 else 0 := by unfold inE; simp only [decide_eq_true_eq]
theorem numP_b (p : PP) (a : Int) (h1 : p.uss.length ≤ 1000000) (h2 : p.ros.length ≤ 1000000) (h3 : p.tys.length ≤ 1000000) : -1 ≤ numP p a ∧ numP p a ≤ 1000000 := by
 unfold numP
 split
 · omega
 · split
   · omega
   · split <;> omega
set_option maxRecDepth 100000 in
set_option maxHeartbeats 16000000 in
theorem nCondition_c (x : X) (q : PV) (p : PP) (vn vk : Value) (w : World) (hP : PolV w q p) (hbl : p.bos.length ≤ 1000000) (hV : XV w vn vk x) : Calls Tryz.prog 57 #[q.val, .agg #[.int .i64 x.op, .int .i64 x.a, .int .i64 x.r, .int .i64 x.b, vn, .int .u64 x.st.a, .int .u64 x.st.b, .int .u64 x.st.c, .int .u64 x.st.d, vk]] w fun e w' => e = .returned (.int .i64 (condE p.bos.length x)) ∧ Below w.heap.size w w' := by
 obtain ⟨ao, cap, ak, ck, rfl, rfl⟩ := hV.form
 obtain ⟨lv, hlv⟩ : ∃ z, lvls 13 x = z := ⟨_, rfl⟩
 have HLV := Lib.hid hlv
 have hl13 : lv ≤ 13 := by rw [← hlv]; exact lvls_le _ _
 have HBL := Lib.hid hbl
 by_cases hl : 12 < lv
 · have hl2 : ((12 : Int) < (lv : Int)) = True := by simp; omega
   have hl3 : decide ((12 : Int) < (lv : Int)) = true := by simp; omega
   have e : condE p.bos.length x = 4 := by unfold condE; rw [HLV.out, if_pos hl]
   rw [e]
   clear e hl hlv hl13
   obtain ⟨W, ZW⟩ : ∃ v, Hid (((w.alloc (.cells #[q.v0, q.v1, q.v2, q.v3, q.v4, q.v5, q.v6, q.v7, q.v8, q.v9, q.v10, q.v11, q.v12, q.v13, q.v14, q.v15, q.v16] 39)).alloc (.cells #[.int .i64 x.op, .int .i64 x.a, .int .i64 x.r, .int .i64 x.b, .slice ao x.ns.length cap, .int .u64 x.st.a, .int .u64 x.st.b, .int .u64 x.st.c, .int .u64 x.st.d, .slice ak x.ks.length ck] 55)) = v) := ⟨_, Lib.hid rfl⟩
   have HB : Hid (Below w.heap.size w W) := by cases ZW.out; exact Lib.hid (((Below.refl _ _).alloc (Nat.le_refl _) _).alloc (by simp) _)
   have HX0 : Hid (Blk W (w.heap.size) 39 #[q.v0, q.v1, q.v2, q.v3, q.v4, q.v5, q.v6, q.v7, q.v8, q.v9, q.v10, q.v11, q.v12, q.v13, q.v14, q.v15, q.v16]) := by cases ZW.out; exact Lib.hid ((Blk.here (by simp)).alloc _)
   have HX1 : Hid (Blk W (w.heap.size + 1) 55 #[.int .i64 x.op, .int .i64 x.a, .int .i64 x.r, .int .i64 x.b, .slice ao x.ns.length cap, .int .u64 x.st.a, .int .u64 x.st.b, .int .u64 x.st.c, .int .u64 x.st.d, .slice ak x.ks.length ck]) := by cases ZW.out; exact Lib.hid (Blk.here (by simp))
   have HQ : Hid (PolV W q p) := by cases ZW.out; exact Lib.hid (hP.keep HB.out)
   have HVX := Lib.hid (hV.keep HB.out)
   clear hV hP
   have HLE : Hid (w.heap.size ≤ W.heap.size) := by cases ZW.out; exact Lib.hid HB.out.size
   try unfold PV.val
   go_enter Tryz.func57, Tryz.ntmps57
   go_upto_region 1 with fail
   rw [ZW.out]
   generalize w.heap.size + 1 = g1 at *
   generalize hg0 : w.heap.size = g0 at *
   generalize Value.agg #[q.v0, q.v1, q.v2, q.v3, q.v4, q.v5, q.v6, q.v7, q.v8, q.v9, q.v10, q.v11, q.v12, q.v13, q.v14, q.v15, q.v16] = P0
   have HXC : Hid (∀ u, Kp W u → XC u g1 0 x.op x.a x.r x.b ao x.ns.length cap x.st ak x.ks.length ck) := Lib.hid (fun u hu => XC.of_blk (HX1.out.keep hu))
   have HCV : Hid (∀ u, Kp W u → Calls Tryz.prog 23 #[.agg #[.int .i64 x.op, .int .i64 x.a, .int .i64 x.r, .int .i64 x.b, .slice ao x.ns.length cap, .int .u64 x.st.a, .int .u64 x.st.b, .int .u64 x.st.c, .int .u64 x.st.d, .slice ak x.ks.length ck]] u fun e w' => e = .returned (.int .i64 lv) ∧ Below u.heap.size u w') := Lib.hid (fun u hu => by rw [← HLV.out]; exact nLevels_c x _ _ u (HVX.out.keep hu))
   all_goals refine wp_region_kq ?_
   repeat' (first | go_big_quiet_skip | (go_big_quiet_want; first | (refine quiet_load (t := 55) (.tmp 3) rfl rfl (fun w1 hC => loadAt_expr (HXC.out w1 hC)) ?_; simp only [Act.put, List.setIfInBounds_toArray, List.set_cons_succ, List.set_cons_zero]; go_big_quiet_on) | (go_big_quiet_op; first | go_big_quiet_on | (apply Exists.intro; refine ⟨fun w1 hC => ?_, ?_⟩; (first | (go_at_call 23; with_reducible exact hC.call (HCV.out _ hC)) | exact rfl | (go_simp; exact ⟨rfl, rfl⟩)); go_big_quiet_on))))
   all_goals refine wpQuiet_nil ?_
   all_goals intro V1 hC
   all_goals have HF1 := Lib.hid (HB.out.trans (Below.mono hC HLE.out))
   all_goals have HT1 : Hid (∀ u, Kp V1 u → Kp W u) := Lib.hid (fun u hu => kp_trans hC hu)
   all_goals clear hC
   all_goals (go_wp2_with fail
              go_ret
              exact ⟨rfl, by first | exact HF1.out | (rw [hg0]; exact HF1.out)⟩)
 · have hl2 : ((12 : Int) < (lv : Int)) = False := by simp; omega
   have hl3 : decide ((12 : Int) < (lv : Int)) = false := by simp; omega
   have e : condE p.bos.length x = cndE p.bos.length x := by unfold condE; rw [HLV.out, if_neg hl]
   rw [e]
   have HL12 : Hid (lvls (12 + 1) x ≤ 12) := Lib.hid (by rw [HLV.out]; omega)
   clear e hl hlv hl13
   have HB : Hid (Below w.heap.size w ((w.alloc (.cells #[q.v0, q.v1, q.v2, q.v3, q.v4, q.v5, q.v6, q.v7, q.v8, q.v9, q.v10, q.v11, q.v12, q.v13, q.v14, q.v15, q.v16] 39)).alloc (.cells #[.int .i64 x.op, .int .i64 x.a, .int .i64 x.r, .int .i64 x.b, .slice ao x.ns.length cap, .int .u64 x.st.a, .int .u64 x.st.b, .int .u64 x.st.c, .int .u64 x.st.d, .slice ak x.ks.length ck] 55))) := Lib.hid (((Below.refl _ _).alloc (Nat.le_refl _) _).alloc (by simp) _)
   have HX0 : Hid (Blk ((w.alloc (.cells #[q.v0, q.v1, q.v2, q.v3, q.v4, q.v5, q.v6, q.v7, q.v8, q.v9, q.v10, q.v11, q.v12, q.v13, q.v14, q.v15, q.v16] 39)).alloc (.cells #[.int .i64 x.op, .int .i64 x.a, .int .i64 x.r, .int .i64 x.b, .slice ao x.ns.length cap, .int .u64 x.st.a, .int .u64 x.st.b, .int .u64 x.st.c, .int .u64 x.st.d, .slice ak x.ks.length ck] 55)) (w.heap.size) 39 #[q.v0, q.v1, q.v2, q.v3, q.v4, q.v5, q.v6, q.v7, q.v8, q.v9, q.v10, q.v11, q.v12, q.v13, q.v14, q.v15, q.v16]) := Lib.hid ((Blk.here (by simp)).alloc _)
   have HX1 : Hid (Blk ((w.alloc (.cells #[q.v0, q.v1, q.v2, q.v3, q.v4, q.v5, q.v6, q.v7, q.v8, q.v9, q.v10, q.v11, q.v12, q.v13, q.v14, q.v15, q.v16] 39)).alloc (.cells #[.int .i64 x.op, .int .i64 x.a, .int .i64 x.r, .int .i64 x.b, .slice ao x.ns.length cap, .int .u64 x.st.a, .int .u64 x.st.b, .int .u64 x.st.c, .int .u64 x.st.d, .slice ak x.ks.length ck] 55)) (w.heap.size + 1) 55 #[.int .i64 x.op, .int .i64 x.a, .int .i64 x.r, .int .i64 x.b, .slice ao x.ns.length cap, .int .u64 x.st.a, .int .u64 x.st.b, .int .u64 x.st.c, .int .u64 x.st.d, .slice ak x.ks.length ck]) := Lib.hid (Blk.here (by simp))
   have HQ : Hid (PolV ((w.alloc (.cells #[q.v0, q.v1, q.v2, q.v3, q.v4, q.v5, q.v6, q.v7, q.v8, q.v9, q.v10, q.v11, q.v12, q.v13, q.v14, q.v15, q.v16] 39)).alloc (.cells #[.int .i64 x.op, .int .i64 x.a, .int .i64 x.r, .int .i64 x.b, .slice ao x.ns.length cap, .int .u64 x.st.a, .int .u64 x.st.b, .int .u64 x.st.c, .int .u64 x.st.d, .slice ak x.ks.length ck] 55)) q p) := Lib.hid (hP.keep HB.out)
   have HVX := Lib.hid (hV.keep HB.out)
   clear hV hP
   have HLE : Hid (w.heap.size ≤ ((w.alloc (.cells #[q.v0, q.v1, q.v2, q.v3, q.v4, q.v5, q.v6, q.v7, q.v8, q.v9, q.v10, q.v11, q.v12, q.v13, q.v14, q.v15, q.v16] 39)).alloc (.cells #[.int .i64 x.op, .int .i64 x.a, .int .i64 x.r, .int .i64 x.b, .slice ao x.ns.length cap, .int .u64 x.st.a, .int .u64 x.st.b, .int .u64 x.st.c, .int .u64 x.st.d, .slice ak x.ks.length ck] 55)).heap.size) := Lib.hid HB.out.size
   try unfold PV.val
   go_enter Tryz.func57, Tryz.ntmps57
   go_upto_region 1 with fail
   generalize (w.alloc (.cells #[q.v0, q.v1, q.v2, q.v3, q.v4, q.v5, q.v6, q.v7, q.v8, q.v9, q.v10, q.v11, q.v12, q.v13, q.v14, q.v15, q.v16] 39)).alloc (.cells #[.int .i64 x.op, .int .i64 x.a, .int .i64 x.r, .int .i64 x.b, .slice ao x.ns.length cap, .int .u64 x.st.a, .int .u64 x.st.b, .int .u64 x.st.c, .int .u64 x.st.d, .slice ak x.ks.length ck] 55) = W at *
   generalize w.heap.size + 1 = g1 at *
   generalize hg0 : w.heap.size = g0 at *
   generalize Value.agg #[q.v0, q.v1, q.v2, q.v3, q.v4, q.v5, q.v6, q.v7, q.v8, q.v9, q.v10, q.v11, q.v12, q.v13, q.v14, q.v15, q.v16] = P0
   have HXC : Hid (∀ u, Kp W u → XC u g1 0 x.op x.a x.r x.b ao x.ns.length cap x.st ak x.ks.length ck) := Lib.hid (fun u hu => XC.of_blk (HX1.out.keep hu))
   have HCV : Hid (∀ u, Kp W u → Calls Tryz.prog 23 #[.agg #[.int .i64 x.op, .int .i64 x.a, .int .i64 x.r, .int .i64 x.b, .slice ao x.ns.length cap, .int .u64 x.st.a, .int .u64 x.st.b, .int .u64 x.st.c, .int .u64 x.st.d, .slice ak x.ks.length ck]] u fun e w' => e = .returned (.int .i64 lv) ∧ Below u.heap.size u w') := Lib.hid (fun u hu => by rw [← HLV.out]; exact nLevels_c x _ _ u (HVX.out.keep hu))
   have HCC : Hid (∀ u, Kp W u → Calls Tryz.prog 85 #[q.val, .agg #[.int .i64 x.op, .int .i64 x.a, .int .i64 x.r, .int .i64 x.b, .slice ao x.ns.length cap, .int .u64 x.st.a, .int .u64 x.st.b, .int .u64 x.st.c, .int .u64 x.st.d, .slice ak x.ks.length ck]] u fun e w' => e = .returned (.int .i64 (cndE p.bos.length x)) ∧ Below u.heap.size u w') := Lib.hid (fun u hu => ncondition_c 12 x q p _ _ u HL12.out (HQ.out.keep hu) HBL.out (HVX.out.keep hu))
   all_goals refine wp_region_kq ?_
   repeat' (first | go_big_quiet_skip | (go_big_quiet_want; first | (refine quiet_load (t := 55) (.tmp 3) rfl rfl (fun w1 hC => loadAt_expr (HXC.out w1 hC)) ?_; simp only [Act.put, List.setIfInBounds_toArray, List.set_cons_succ, List.set_cons_zero]; go_big_quiet_on) | (go_big_quiet_op; first | go_big_quiet_on | (apply Exists.intro; refine ⟨fun w1 hC => ?_, ?_⟩; (first | (go_at_call 23; with_reducible exact hC.call (HCV.out _ hC)) | exact rfl | (go_simp; exact ⟨rfl, rfl⟩)); go_big_quiet_on))))
   all_goals refine wpQuiet_nil ?_
   all_goals intro V1 hC
   all_goals have HF1 := Lib.hid (HB.out.trans (Below.mono hC HLE.out))
   all_goals have HT1 : Hid (∀ u, Kp V1 u → Kp W u) := Lib.hid (fun u hu => kp_trans hC hu)
   all_goals clear hC
   all_goals (go_upto_region 3 with fail
              all_goals refine wp_region_kq ?_
              repeat' (first | go_big_quiet_skip | (go_big_quiet_want; first | (refine quiet_load (t := 39) (.tmp 2) rfl rfl (fun w1 hC => loadAt_pol (HX0.out.keep (HT1.out _ hC))) ?_; simp only [Act.put, List.setIfInBounds_toArray, List.set_cons_succ, List.set_cons_zero]; go_big_quiet_on) | (refine quiet_load (t := 55) (.tmp 3) rfl rfl (fun w1 hC => loadAt_expr (HXC.out w1 (HT1.out _ hC))) ?_; simp only [Act.put, List.setIfInBounds_toArray, List.set_cons_succ, List.set_cons_zero]; go_big_quiet_on) | (go_big_quiet_op; first | go_big_quiet_on | (apply Exists.intro; refine ⟨fun w1 hC => ?_, ?_⟩; (first | (go_at_call 85; with_reducible exact hC.call (HCC.out _ (HT1.out _ hC))) | exact rfl | (go_simp; exact ⟨rfl, rfl⟩)); go_big_quiet_on))))
              all_goals refine wpQuiet_nil ?_
              all_goals intro V2 hC
              all_goals have HF2 := Lib.hid (HB.out.trans (Below.mono (HT1.out _ hC) HLE.out))
              all_goals have HT2 : Hid (∀ u, Kp V2 u → Kp W u) := Lib.hid (fun u hu => kp_trans (HT1.out _ hC) hu)
              all_goals clear hC
              all_goals (go_wp2_with fail
                         go_ret
                         exact ⟨rfl, by first | exact HF2.out | (rw [hg0]; exact HF2.out)⟩))
set_option maxRecDepth 100000 in
set_option maxHeartbeats 16000000 in
theorem nexpression_c : ∀ (k : Nat) (x : X) (at_ : Int) (q : PV) (p : PP) (vn vk : Value) (w : World), lvls (k + 1) x ≤ k → PolV w q p → p.uss.length ≤ 1000000 → p.ros.length ≤ 1000000 → p.tys.length ≤ 1000000 → XV w vn vk x → Calls Tryz.prog 86 #[q.val, .agg #[.int .i64 x.op, .int .i64 x.a, .int .i64 x.r, .int .i64 x.b, vn, .int .u64 x.st.a, .int .u64 x.st.b, .int .u64 x.st.c, .int .u64 x.st.d, vk], .int .i64 at_] w fun e w' => e = .returned (.int .i64 (expE p at_ x)) ∧ Below w.heap.size w w' := by
 intro k
 induction k with
 | zero => intro x at_ q p vn vk w h; rw [lvls_succ] at h; omega
 | succ k ih =>
   intro x at_ q p vn vk w hk hP hu1 hu2 hu3 hV
   have HIH := Lib.hid ih
   obtain ⟨ao, cap, ak, ck, rfl, rfl⟩ := hV.form
   have hkI : (x.ks.length : Int) ≤ 9223372036854775807 := by have h := hV.wf.nk; unfold maxLen at h; omega
   have HKL : Hid (∀ i (h : i < x.ks.length), lvls (k + 1) x.ks[i] ≤ k) := Lib.hid (fun i h => by rw [lvls_succ] at hk; have := lvlsL_mem (m := k + 1) h; omega)
   have HU := Lib.hid (And.intro hu1 (And.intro hu2 hu3))
   have HNB := Lib.hid (numP_b p x.a hu1 hu2 hu3)
   obtain ⟨np, hnp⟩ : ∃ z, numP p x.a = z := ⟨_, rfl⟩
   rw [hnp] at HNB
   obtain ⟨f, hf⟩ : ∃ z, fldB x.op x.a x.r x.b x.ns x.st x.ks.length = z := ⟨_, rfl⟩
   obtain ⟨e8, he8⟩ : ∃ z, (x.op == 8) = z := ⟨_, rfl⟩
   obtain ⟨e9, he9⟩ : ∃ z, (x.op == 9) = z := ⟨_, rfl⟩
   obtain ⟨b1, hb1⟩ : ∃ z, bel x.a at_ = z := ⟨_, rfl⟩
   obtain ⟨bn, hbn⟩ : ∃ z, decide (np < 0) = z := ⟨_, rfl⟩
   obtain ⟨sw, hsw⟩ : ∃ z, someW x.st np = z := ⟨_, rfl⟩
   obtain ⟨sn, hsn⟩ : ∃ z, someN x.st = z := ⟨_, rfl⟩
   obtain ⟨cm, hcm⟩ : ∃ z, cmpX x.a x.r x.b at_ = z := ⟨_, rfl⟩
   obtain ⟨T, hT⟩ : ∃ T, expL p at_ x.ks = T := ⟨_, rfl⟩
   have HTV : Hid (expL p at_ (x.ks.drop 0) = T) := Lib.hid hT
   have HV : Hid ((if f = false then 2 else if e8 = true then cm else if e9 = true ∧ (if b1 = false then (3 : Int) else if bn = true then 13 else if sw = false then 3 else if sn = false then 2 else 0) ≠ 0 then (if b1 = false then 3 else if bn = true then 13 else if sw = false then 3 else if sn = false then 2 else 0) else T) = expE p at_ x) := Lib.hid (by rw [expE_eq, inE_eq, hT, hnp, hf, he8, he9, hb1, hbn, hsw, hsn, hcm])
   generalize expE p at_ x = R at *
   clear ih hk hu1 hu2 hu3 hT
   obtain ⟨W, ZW⟩ : ∃ v, Hid (((w.alloc (.cells #[q.v0, q.v1, q.v2, q.v3, q.v4, q.v5, q.v6, q.v7, q.v8, q.v9, q.v10, q.v11, q.v12, q.v13, q.v14, q.v15, q.v16] 39)).alloc (.cells #[.int .i64 x.op, .int .i64 x.a, .int .i64 x.r, .int .i64 x.b, .slice ao x.ns.length cap, .int .u64 x.st.a, .int .u64 x.st.b, .int .u64 x.st.c, .int .u64 x.st.d, .slice ak x.ks.length ck] 55)) = v) := ⟨_, Lib.hid rfl⟩
   have HB : Hid (Below w.heap.size w W) := by cases ZW.out; exact Lib.hid (((Below.refl _ _).alloc (Nat.le_refl _) _).alloc (by simp) _)
   have HX0 : Hid (Blk W (w.heap.size) 39 #[q.v0, q.v1, q.v2, q.v3, q.v4, q.v5, q.v6, q.v7, q.v8, q.v9, q.v10, q.v11, q.v12, q.v13, q.v14, q.v15, q.v16]) := by cases ZW.out; exact Lib.hid ((Blk.here (by simp)).alloc _)
   have HX1 : Hid (Blk W (w.heap.size + 1) 55 #[.int .i64 x.op, .int .i64 x.a, .int .i64 x.r, .int .i64 x.b, .slice ao x.ns.length cap, .int .u64 x.st.a, .int .u64 x.st.b, .int .u64 x.st.c, .int .u64 x.st.d, .slice ak x.ks.length ck]) := by cases ZW.out; exact Lib.hid (Blk.here (by simp))
   have HQ : Hid (PolV W q p) := by cases ZW.out; exact Lib.hid (hP.keep HB.out)
   have HVX := Lib.hid (hV.keep HB.out)
   clear hV hP
   have HLE : Hid (w.heap.size ≤ W.heap.size) := by cases ZW.out; exact Lib.hid HB.out.size
   try unfold PV.val
   go_enter Tryz.func86, Tryz.ntmps86
   go_upto_region 1 with fail
   rw [ZW.out]
   generalize w.heap.size + 1 = g1 at *
   generalize hg0 : w.heap.size = g0 at *
   generalize Value.agg #[q.v0, q.v1, q.v2, q.v3, q.v4, q.v5, q.v6, q.v7, q.v8, q.v9, q.v10, q.v11, q.v12, q.v13, q.v14, q.v15, q.v16] = P0
   have HXC : Hid (∀ u, Kp W u → XC u g1 0 x.op x.a x.r x.b ao x.ns.length cap x.st ak x.ks.length ck) := Lib.hid (fun u hu => XC.of_blk (HX1.out.keep hu))
   have HKS := Lib.hid HVX.out.ks
   have HCF : Hid (∀ u, Kp W u → Calls Tryz.prog 115 #[.agg #[.int .i64 x.op, .int .i64 x.a, .int .i64 x.r, .int .i64 x.b, .slice ao x.ns.length cap, .int .u64 x.st.a, .int .u64 x.st.b, .int .u64 x.st.c, .int .u64 x.st.d, .slice ak x.ks.length ck]] u fun e w' => e = .returned (.bool f) ∧ Below u.heap.size u w') := Lib.hid (fun u hu => by rw [← hf]; exact nfields_c x _ _ u (HVX.out.keep hu))
   have HCM : Hid (∀ u, Kp W u → Calls Tryz.prog 116 #[.agg #[.int .i64 x.op, .int .i64 x.a, .int .i64 x.r, .int .i64 x.b, .slice ao x.ns.length cap, .int .u64 x.st.a, .int .u64 x.st.b, .int .u64 x.st.c, .int .u64 x.st.d, .slice ak x.ks.length ck], .int .i64 at_] u fun e w' => e = .returned (.int .i64 cm) ∧ Below u.heap.size u w') := Lib.hid (fun u hu => by rw [← hcm]; exact ncompare_c x at_ _ _ u (HVX.out.keep hu))
   have HCB : Hid (∀ u, Kp W u → Calls Tryz.prog 60 #[.int .i64 x.a, .int .i64 at_] u fun e w' => e = .returned (.bool b1) ∧ w' = u) := Lib.hid (fun u hu => by rw [← hb1]; exact nbel_c _ _ u)
   have HCN : Hid (∀ u, Kp W u → Calls Tryz.prog 117 #[q.val, .int .i64 x.a] u fun e w' => e = .returned (.int .i64 np) ∧ Below u.heap.size u w') := Lib.hid (fun u hu => by rw [← hnp]; exact nnumber_c q p _ u (HQ.out.keep hu))
   have HCS : Hid (∀ u, Kp W u → Calls Tryz.prog 50 #[.agg #[.int .u64 x.st.a, .int .u64 x.st.b, .int .u64 x.st.c, .int .u64 x.st.d], .int .i64 np] u fun e w' => e = .returned (.tuple #[.bool sn, .bool sw]) ∧ Below u.heap.size u w') := Lib.hid (fun u hu => by rw [← hsn, ← hsw]; exact nsome_c x.st np u (by have := HNB.out; omega) (by have := HNB.out; omega))
   clear hf hcm hb1 hnp hsn hsw
   cases f
   · skip
     all_goals refine wp_region_kq ?_
     repeat' (first | go_big_quiet_skip | (go_big_quiet_want; first | (refine quiet_load (t := 55) (.tmp 4) rfl rfl (fun w1 hC => loadAt_expr (HXC.out w1 hC)) ?_; simp only [Act.put, List.setIfInBounds_toArray, List.set_cons_succ, List.set_cons_zero]; go_big_quiet_on) | (go_big_quiet_op; first | go_big_quiet_on | (apply Exists.intro; refine ⟨fun w1 hC => ?_, ?_⟩; (first | (go_at_call 115; with_reducible exact hC.call (HCF.out _ hC)) | exact rfl | (go_simp; exact ⟨rfl, rfl⟩)); go_big_quiet_on))))
     all_goals refine wpQuiet_nil ?_
     all_goals intro V1 hC
     all_goals have HF1 := Lib.hid (HB.out.trans (Below.mono hC HLE.out))
     all_goals have HT1 : Hid (∀ u, Kp V1 u → Kp W u) := Lib.hid (fun u hu => kp_trans hC hu)
     all_goals clear hC
     all_goals (go_wp2_with fail
                go_ret
                exact ⟨by rw [← HV.out] <;> rfl, by first | exact HF1.out | (rw [hg0]; exact HF1.out)⟩)
   · cases e8
     · cases e9
       · skip
         all_goals refine wp_region_kq ?_
         repeat' (first | go_big_quiet_skip | (go_big_quiet_want; first | (refine quiet_load (t := 55) (.tmp 4) rfl rfl (fun w1 hC => loadAt_expr (HXC.out w1 hC)) ?_; simp only [Act.put, List.setIfInBounds_toArray, List.set_cons_succ, List.set_cons_zero]; go_big_quiet_on) | (go_big_quiet_op; first | go_big_quiet_on | (apply Exists.intro; refine ⟨fun w1 hC => ?_, ?_⟩; (first | (go_at_call 115; with_reducible exact hC.call (HCF.out _ hC)) | exact rfl | (go_simp; exact ⟨rfl, rfl⟩)); go_big_quiet_on))))
         all_goals refine wpQuiet_nil ?_
         all_goals intro V1 hC
         all_goals have HF1 := Lib.hid (HB.out.trans (Below.mono hC HLE.out))
         all_goals have HT1 : Hid (∀ u, Kp V1 u → Kp W u) := Lib.hid (fun u hu => kp_trans hC hu)
         all_goals clear hC
         all_goals (go_upto_region 3 with fail
                    all_goals refine wp_region_kq ?_
                    repeat' (first | go_big_quiet_skip | (go_big_quiet_want; first | (go_big_quiet_op; first | go_big_quiet_on | (apply Exists.intro; refine ⟨fun w1 hC => ?_, ?_⟩; (first | (obtain ⟨y0, y1, y2, y3, y4, y5, y6, y7, y8, y9⟩ := (HXC.out w1 (HT1.out _ hC)).cells; go_simp; exact rfl) | exact rfl | (go_simp; exact ⟨rfl, rfl⟩)); go_big_quiet_on))))
                    all_goals refine wpQuiet_nil ?_
                    all_goals intro V2 hC
                    all_goals have HF2 := Lib.hid (HB.out.trans (Below.mono (HT1.out _ hC) HLE.out))
                    all_goals have HT2 : Hid (∀ u, Kp V2 u → Kp W u) := Lib.hid (fun u hu => kp_trans (HT1.out _ hC) hu)
                    all_goals clear hC
                    all_goals (go_upto_region 5 with fail
                               all_goals refine wp_region_kq ?_
                               repeat' (first | go_big_quiet_skip | (go_big_quiet_want; first | (go_big_quiet_op; first | go_big_quiet_on | (apply Exists.intro; refine ⟨fun w1 hC => ?_, ?_⟩; (first | (obtain ⟨y0, y1, y2, y3, y4, y5, y6, y7, y8, y9⟩ := (HXC.out w1 (HT2.out _ hC)).cells; go_simp; exact rfl) | exact rfl | (go_simp; exact ⟨rfl, rfl⟩)); go_big_quiet_on))))
                               all_goals refine wpQuiet_nil ?_
                               all_goals intro V3 hC
                               all_goals have HF3 := Lib.hid (HB.out.trans (Below.mono (HT2.out _ hC) HLE.out))
                               all_goals have HT3 : Hid (∀ u, Kp V3 u → Kp W u) := Lib.hid (fun u hu => kp_trans (HT2.out _ hC) hu)
                               all_goals clear hC
                               all_goals (obtain ⟨y0, y1, y2, y3, y4, y5, y6, y7, y8, y9⟩ := (HXC.out V3 (HT3.out _ Kp.rfl')).cells
                                          clear y0 y1 y2 y3 y4 y5 y6 y7 y8
                                          go_wp2_with fail
                                          go_loopw [10] (fun vi wr => ∃ i : Nat, i ≤ x.ks.length ∧ vi = .int .i64 i ∧ Hid (expL p at_ (x.ks.drop i) = T) ∧ Hid (Kp W wr)) (fun vi _ => x.ks.length - (intOf vi).toNat)
                                          case atStart => exact ⟨0, Nat.zero_le _, rfl, Lib.hid HTV.out, Lib.hid (HT3.out _ Kp.rfl')⟩
                                          case round =>
                                           obtain ⟨i, hi, rfl, HJ, HK⟩ := hrel
                                           obtain ⟨y0, y1, y2, y3, y4, y5, y6, y7, y8, y9⟩ := (HXC.out wr HK.out).cells
                                           clear y0 y1 y2 y3 y4 y5 y6 y7 y8
                                           by_cases hlt : i < x.ks.length
                                           · have hlt' : (i : Int) < (x.ks.length : Int) := by omega
                                             obtain ⟨y, hy⟩ : ∃ y, x.ks[i] = y := ⟨_, rfl⟩
                                             obtain ⟨g', o', hak, hg', hR⟩ := HKS.out.row hlt
                                             subst hak
                                             have hA := hR i hlt
                                             rw [hy] at hA
                                             obtain ⟨ao2, cap2, ak2, ck2, hc2, hv2⟩ := hA.xv
                                             have HXE : Hid (∀ u, Kp W u → XC u g' (o' + i * 10) y.op y.a y.r y.b ao2 y.ns.length cap2 y.st ak2 y.ks.length ck2) := Lib.hid (fun u hu => hc2.keep (Below.block hu g' hg'))
                                             obtain ⟨c, hc⟩ : ∃ c, expE p at_ y = c := ⟨_, rfl⟩
                                             have HCL : Hid (∀ u, Kp W u → Calls Tryz.prog 86 #[q.val, .agg #[.int .i64 y.op, .int .i64 y.a, .int .i64 y.r, .int .i64 y.b, .slice ao2 y.ns.length cap2, .int .u64 y.st.a, .int .u64 y.st.b, .int .u64 y.st.c, .int .u64 y.st.d, .slice ak2 y.ks.length ck2], .int .i64 at_] u fun e w' => e = .returned (.int .i64 c) ∧ Below u.heap.size u w') := Lib.hid (fun u hu => by rw [← hc]; exact HIH.out y at_ q p _ _ u (by rw [← hy]; exact HKL.out i hlt) (HQ.out.keep hu) HU.out.1 HU.out.2.1 HU.out.2.2 (hv2.keep hu))
                                             have HV2 : Hid ((if c ≠ 0 then c else expL p at_ (x.ks.drop (i + 1))) = T) := Lib.hid (by rw [← HJ.out, expL_at _ _ hlt, hy, hc])
                                             clear hA hR hg' hy hc2 hv2 hc HJ
                                             have HKW : Hid (∀ u, Kp wr u → Kp W u) := Lib.hid (fun u hu => kp_trans HK.out hu)
                                             go_upto_region 19 with fail
                                             refine wp_region_kp (by kernel_rfl) (by kernel_rfl) ?_
                                             repeat' (first | go_big_quiet_skip | (go_big_quiet_want; first | (refine quiet_load (t := 39) (.tmp 3) rfl rfl (fun w1 hC => loadAt_pol (HX0.out.keep (HKW.out _ hC))) ?_; simp only [Act.put, List.setIfInBounds_toArray, List.set_cons_succ, List.set_cons_zero]; go_big_quiet_on) | (refine quiet_load (t := 55) (.tmp 57) rfl rfl (fun w1 hC => loadAt_expr (HXE.out w1 (HKW.out _ hC))) ?_; simp only [Act.put, List.setIfInBounds_toArray, List.set_cons_succ, List.set_cons_zero]; go_big_quiet_on) | (go_big_quiet_op; first | go_big_quiet_on | (apply Exists.intro; refine ⟨fun w1 hC => ?_, ?_⟩; (first | (go_at_call 86; with_reducible exact hC.call (HCL.out _ (HKW.out _ hC))) | (obtain ⟨y0, y1, y2, y3, y4, y5, y6, y7, y8, y9⟩ := (HXC.out w1 (HKW.out _ hC)).cells; go_simp; exact rfl) | exact rfl | (go_simp; exact ⟨rfl, rfl⟩)); go_big_quiet_on))))
                                             refine wpQuiet_nil ?_
                                             intro W5 hC
                                             have HK5 := Lib.hid (HKW.out _ hC)
                                             have HF5 := Lib.hid (HB.out.trans (HK5.out.mono HLE.out))
                                             clear hC
                                             by_cases h0 : c = 0
                                             · subst h0
                                               have HV3 : Hid (expL p at_ (x.ks.drop (i + 1)) = T) := Lib.hid (by rw [← HV2.out, if_neg (by simp)])
                                               clear HV2
                                               go_wp2_with fail
                                               go_roundw
                                               case rel => exact ⟨i + 1, hlt, by go_num, HV3, HK5⟩
                                               case measure => simp [intOf]; omega
                                             · have hb : (c == 0) = false := by simpa using h0
                                               have hb2 : (c != 0) = true := by simpa using h0
                                               have ec : c = T := by rw [← HV2.out, if_pos h0]
                                               clear HV2
                                               go_wp2_with fail
                                               go_ret
                                               exact ⟨by rw [ec, ← HV.out] <;> rfl, by first | exact HF5.out | (rw [hg0]; exact HF5.out)⟩
                                           · have hlt' : ¬ (i : Int) < (x.ks.length : Int) := by omega
                                             have e0 : T = 0 := by rw [← HJ.out, List.drop_eq_nil_of_le (by omega)]; rfl
                                             have HF6 := Lib.hid (HB.out.trans (HK.out.mono HLE.out))
                                             clear HJ
                                             go_wp2_with fail
                                             go_ret
                                             exact ⟨by rw [← HV.out, e0] <;> rfl, by first | exact HF6.out | (rw [hg0]; exact HF6.out)⟩)))
       · cases b1 <;> cases bn <;> cases sw <;> cases sn
         all_goals (all_goals refine wp_region_kq ?_
                    repeat' (first | go_big_quiet_skip | (go_big_quiet_want; first | (refine quiet_load (t := 55) (.tmp 4) rfl rfl (fun w1 hC => loadAt_expr (HXC.out w1 hC)) ?_; simp only [Act.put, List.setIfInBounds_toArray, List.set_cons_succ, List.set_cons_zero]; go_big_quiet_on) | (go_big_quiet_op; first | go_big_quiet_on | (apply Exists.intro; refine ⟨fun w1 hC => ?_, ?_⟩; (first | (go_at_call 115; with_reducible exact hC.call (HCF.out _ hC)) | exact rfl | (go_simp; exact ⟨rfl, rfl⟩)); go_big_quiet_on))))
                    all_goals refine wpQuiet_nil ?_
                    all_goals intro V1 hC
                    all_goals have HF1 := Lib.hid (HB.out.trans (Below.mono hC HLE.out))
                    all_goals have HT1 : Hid (∀ u, Kp V1 u → Kp W u) := Lib.hid (fun u hu => kp_trans hC hu)
                    all_goals clear hC
                    all_goals (go_upto_region 3 with fail
                               all_goals refine wp_region_kq ?_
                               repeat' (first | go_big_quiet_skip | (go_big_quiet_want; first | (go_big_quiet_op; first | go_big_quiet_on | (apply Exists.intro; refine ⟨fun w1 hC => ?_, ?_⟩; (first | (obtain ⟨y0, y1, y2, y3, y4, y5, y6, y7, y8, y9⟩ := (HXC.out w1 (HT1.out _ hC)).cells; go_simp; exact rfl) | exact rfl | (go_simp; exact ⟨rfl, rfl⟩)); go_big_quiet_on))))
                               all_goals refine wpQuiet_nil ?_
                               all_goals intro V2 hC
                               all_goals have HF2 := Lib.hid (HB.out.trans (Below.mono (HT1.out _ hC) HLE.out))
                               all_goals have HT2 : Hid (∀ u, Kp V2 u → Kp W u) := Lib.hid (fun u hu => kp_trans (HT1.out _ hC) hu)
                               all_goals clear hC
                               all_goals (go_upto_region 5 with fail
                                          all_goals refine wp_region_kq ?_
                                          repeat' (first | go_big_quiet_skip | (go_big_quiet_want; first | (go_big_quiet_op; first | go_big_quiet_on | (apply Exists.intro; refine ⟨fun w1 hC => ?_, ?_⟩; (first | (obtain ⟨y0, y1, y2, y3, y4, y5, y6, y7, y8, y9⟩ := (HXC.out w1 (HT2.out _ hC)).cells; go_simp; exact rfl) | exact rfl | (go_simp; exact ⟨rfl, rfl⟩)); go_big_quiet_on))))
                                          all_goals refine wpQuiet_nil ?_
                                          all_goals intro V3 hC
                                          all_goals have HF3 := Lib.hid (HB.out.trans (Below.mono (HT2.out _ hC) HLE.out))
                                          all_goals have HT3 : Hid (∀ u, Kp V3 u → Kp W u) := Lib.hid (fun u hu => kp_trans (HT2.out _ hC) hu)
                                          all_goals clear hC
                                          all_goals (go_upto_region 6 with fail
                                                     all_goals refine wp_region_kq ?_
                                                     repeat' (first | go_big_quiet_skip | (go_big_quiet_want; first | (go_big_quiet_op; first | go_big_quiet_on | (apply Exists.intro; refine ⟨fun w1 hC => ?_, ?_⟩; (first | (go_at_call 60; with_reducible exact hC.call_same (HCB.out _ (HT3.out _ hC))) | (obtain ⟨y0, y1, y2, y3, y4, y5, y6, y7, y8, y9⟩ := (HXC.out w1 (HT3.out _ hC)).cells; go_simp; exact rfl) | exact rfl | (go_simp; exact ⟨rfl, rfl⟩)); go_big_quiet_on))) | (cases b1 <;> try simp only [Bool.not_true, Bool.not_false]))
                                                     all_goals refine wpQuiet_nil ?_
                                                     all_goals intro V4 hC
                                                     all_goals have HF4 := Lib.hid (HB.out.trans (Below.mono (HT3.out _ hC) HLE.out))
                                                     all_goals have HT4 : Hid (∀ u, Kp V4 u → Kp W u) := Lib.hid (fun u hu => kp_trans (HT3.out _ hC) hu)
                                                     all_goals clear hC
                                                     all_goals first
                                                      | (go_wp2_with fail
                                                         go_ret
                                                         exact ⟨by rw [← HV.out] <;> rfl, by first | exact HF4.out | (rw [hg0]; exact HF4.out)⟩)
                                                      | (go_upto_region 8 with fail
                                                         all_goals refine wp_region_kq ?_
                                                         repeat' (first | go_big_quiet_skip | (go_big_quiet_want; first | (refine quiet_load (t := 39) (.tmp 3) rfl rfl (fun w1 hC => loadAt_pol (HX0.out.keep (HT4.out _ hC))) ?_; simp only [Act.put, List.setIfInBounds_toArray, List.set_cons_succ, List.set_cons_zero]; go_big_quiet_on) | (go_big_quiet_op; first | go_big_quiet_on | (apply Exists.intro; refine ⟨fun w1 hC => ?_, ?_⟩; (first | (go_at_call 117; with_reducible exact hC.call (HCN.out _ (HT4.out _ hC))) | (obtain ⟨y0, y1, y2, y3, y4, y5, y6, y7, y8, y9⟩ := (HXC.out w1 (HT4.out _ hC)).cells; go_simp; exact rfl) | exact rfl | (go_simp; exact ⟨rfl, rfl⟩)); go_big_quiet_on))))
                                                         all_goals refine wpQuiet_nil ?_
                                                         all_goals intro V5 hC
                                                         all_goals have HF5 := Lib.hid (HB.out.trans (Below.mono (HT4.out _ hC) HLE.out))
                                                         all_goals have HT5 : Hid (∀ u, Kp V5 u → Kp W u) := Lib.hid (fun u hu => kp_trans (HT4.out _ hC) hu)
                                                         all_goals clear hC
                                                         all_goals (go_upto_region 9 with fail
                                                                    all_goals refine wp_region_kq ?_
                                                                    repeat' (first | go_big_quiet_skip | (go_big_quiet_want; first | (go_big_quiet_op; first | go_big_quiet_on | (apply Exists.intro; refine ⟨fun w1 hC => ?_, ?_⟩; (first | exact rfl | (go_simp; exact ⟨rfl, rfl⟩)); go_big_quiet_on))) | (cases bn <;> try simp only [Bool.not_true, Bool.not_false]))
                                                                    all_goals refine wpQuiet_nil ?_
                                                                    all_goals intro V6 hC
                                                                    all_goals have HF6 := Lib.hid (HB.out.trans (Below.mono (HT5.out _ hC) HLE.out))
                                                                    all_goals have HT6 : Hid (∀ u, Kp V6 u → Kp W u) := Lib.hid (fun u hu => kp_trans (HT5.out _ hC) hu)
                                                                    all_goals clear hC
                                                                    all_goals first
                                                                     | (go_wp2_with fail
                                                                        go_ret
                                                                        exact ⟨by rw [← HV.out] <;> rfl, by first | exact HF6.out | (rw [hg0]; exact HF6.out)⟩)
                                                                     | (go_upto_region 11 with fail
                                                                        all_goals refine wp_region_kq ?_
                                                                        repeat' (first | go_big_quiet_skip | (go_big_quiet_want; first | (go_big_quiet_op; first | go_big_quiet_on | (apply Exists.intro; refine ⟨fun w1 hC => ?_, ?_⟩; (first | (go_at_call 50; with_reducible exact hC.call (HCS.out _ (HT6.out _ hC))) | (obtain ⟨y0, y1, y2, y3, y4, y5, y6, y7, y8, y9⟩ := (HXC.out w1 (HT6.out _ hC)).cells; go_simp; exact rfl) | exact rfl | (go_simp; exact ⟨rfl, rfl⟩)); go_big_quiet_on))))
                                                                        all_goals refine wpQuiet_nil ?_
                                                                        all_goals intro V7 hC
                                                                        all_goals have HF7 := Lib.hid (HB.out.trans (Below.mono (HT6.out _ hC) HLE.out))
                                                                        all_goals have HT7 : Hid (∀ u, Kp V7 u → Kp W u) := Lib.hid (fun u hu => kp_trans (HT6.out _ hC) hu)
                                                                        all_goals clear hC
                                                                        all_goals (go_upto_region 12 with fail
                                                                                   all_goals refine wp_region_kq ?_
                                                                                   repeat' (first | go_big_quiet_skip | (go_big_quiet_want; first | (go_big_quiet_op; first | go_big_quiet_on | (apply Exists.intro; refine ⟨fun w1 hC => ?_, ?_⟩; (first | exact rfl | (go_simp; exact ⟨rfl, rfl⟩)); go_big_quiet_on))) | (cases sw <;> try simp only [Bool.not_true, Bool.not_false]))
                                                                                   all_goals refine wpQuiet_nil ?_
                                                                                   all_goals intro V8 hC
                                                                                   all_goals have HF8 := Lib.hid (HB.out.trans (Below.mono (HT7.out _ hC) HLE.out))
                                                                                   all_goals have HT8 : Hid (∀ u, Kp V8 u → Kp W u) := Lib.hid (fun u hu => kp_trans (HT7.out _ hC) hu)
                                                                                   all_goals clear hC
                                                                                   all_goals first
                                                                                    | (go_wp2_with fail
                                                                                       go_ret
                                                                                       exact ⟨by rw [← HV.out] <;> rfl, by first | exact HF8.out | (rw [hg0]; exact HF8.out)⟩)
                                                                                    | (go_upto_region 14 with fail
                                                                                       all_goals refine wp_region_kq ?_
                                                                                       repeat' (first | go_big_quiet_skip | (go_big_quiet_want; first | (go_big_quiet_op; first | go_big_quiet_on | (apply Exists.intro; refine ⟨fun w1 hC => ?_, ?_⟩; (first | exact rfl | (go_simp; exact ⟨rfl, rfl⟩)); go_big_quiet_on))) | (cases sn <;> try simp only [Bool.not_true, Bool.not_false]))
                                                                                       all_goals refine wpQuiet_nil ?_
                                                                                       all_goals intro V9 hC
                                                                                       all_goals have HF9 := Lib.hid (HB.out.trans (Below.mono (HT8.out _ hC) HLE.out))
                                                                                       all_goals have HT9 : Hid (∀ u, Kp V9 u → Kp W u) := Lib.hid (fun u hu => kp_trans (HT8.out _ hC) hu)
                                                                                       all_goals clear hC
                                                                                       all_goals first
                                                                                        | (go_wp2_with fail
                                                                                           go_ret
                                                                                           exact ⟨by rw [← HV.out] <;> rfl, by first | exact HF9.out | (rw [hg0]; exact HF9.out)⟩)
                                                                                        | (obtain ⟨y0, y1, y2, y3, y4, y5, y6, y7, y8, y9⟩ := (HXC.out V9 (HT9.out _ Kp.rfl')).cells
                                                                                           clear y0 y1 y2 y3 y4 y5 y6 y7 y8
                                                                                           go_wp2_with fail
                                                                                           go_loopw [10] (fun vi wr => ∃ i : Nat, i ≤ x.ks.length ∧ vi = .int .i64 i ∧ Hid (expL p at_ (x.ks.drop i) = T) ∧ Hid (Kp W wr)) (fun vi _ => x.ks.length - (intOf vi).toNat)
                                                                                           case atStart => exact ⟨0, Nat.zero_le _, rfl, Lib.hid HTV.out, Lib.hid (HT9.out _ Kp.rfl')⟩
                                                                                           case round =>
                                                                                            obtain ⟨i, hi, rfl, HJ, HK⟩ := hrel
                                                                                            obtain ⟨y0, y1, y2, y3, y4, y5, y6, y7, y8, y9⟩ := (HXC.out wr HK.out).cells
                                                                                            clear y0 y1 y2 y3 y4 y5 y6 y7 y8
                                                                                            by_cases hlt : i < x.ks.length
                                                                                            · have hlt' : (i : Int) < (x.ks.length : Int) := by omega
                                                                                              obtain ⟨y, hy⟩ : ∃ y, x.ks[i] = y := ⟨_, rfl⟩
                                                                                              obtain ⟨g', o', hak, hg', hR⟩ := HKS.out.row hlt
                                                                                              subst hak
                                                                                              have hA := hR i hlt
                                                                                              rw [hy] at hA
                                                                                              obtain ⟨ao2, cap2, ak2, ck2, hc2, hv2⟩ := hA.xv
                                                                                              have HXE : Hid (∀ u, Kp W u → XC u g' (o' + i * 10) y.op y.a y.r y.b ao2 y.ns.length cap2 y.st ak2 y.ks.length ck2) := Lib.hid (fun u hu => hc2.keep (Below.block hu g' hg'))
                                                                                              obtain ⟨c, hc⟩ : ∃ c, expE p at_ y = c := ⟨_, rfl⟩
                                                                                              have HCL : Hid (∀ u, Kp W u → Calls Tryz.prog 86 #[q.val, .agg #[.int .i64 y.op, .int .i64 y.a, .int .i64 y.r, .int .i64 y.b, .slice ao2 y.ns.length cap2, .int .u64 y.st.a, .int .u64 y.st.b, .int .u64 y.st.c, .int .u64 y.st.d, .slice ak2 y.ks.length ck2], .int .i64 at_] u fun e w' => e = .returned (.int .i64 c) ∧ Below u.heap.size u w') := Lib.hid (fun u hu => by rw [← hc]; exact HIH.out y at_ q p _ _ u (by rw [← hy]; exact HKL.out i hlt) (HQ.out.keep hu) HU.out.1 HU.out.2.1 HU.out.2.2 (hv2.keep hu))
                                                                                              have HV2 : Hid ((if c ≠ 0 then c else expL p at_ (x.ks.drop (i + 1))) = T) := Lib.hid (by rw [← HJ.out, expL_at _ _ hlt, hy, hc])
                                                                                              clear hA hR hg' hy hc2 hv2 hc HJ
                                                                                              have HKW : Hid (∀ u, Kp wr u → Kp W u) := Lib.hid (fun u hu => kp_trans HK.out hu)
                                                                                              go_upto_region 19 with fail
                                                                                              refine wp_region_kp (by kernel_rfl) (by kernel_rfl) ?_
                                                                                              repeat' (first | go_big_quiet_skip | (go_big_quiet_want; first | (refine quiet_load (t := 39) (.tmp 3) rfl rfl (fun w1 hC => loadAt_pol (HX0.out.keep (HKW.out _ hC))) ?_; simp only [Act.put, List.setIfInBounds_toArray, List.set_cons_succ, List.set_cons_zero]; go_big_quiet_on) | (refine quiet_load (t := 55) (.tmp 57) rfl rfl (fun w1 hC => loadAt_expr (HXE.out w1 (HKW.out _ hC))) ?_; simp only [Act.put, List.setIfInBounds_toArray, List.set_cons_succ, List.set_cons_zero]; go_big_quiet_on) | (go_big_quiet_op; first | go_big_quiet_on | (apply Exists.intro; refine ⟨fun w1 hC => ?_, ?_⟩; (first | (go_at_call 86; with_reducible exact hC.call (HCL.out _ (HKW.out _ hC))) | (obtain ⟨y0, y1, y2, y3, y4, y5, y6, y7, y8, y9⟩ := (HXC.out w1 (HKW.out _ hC)).cells; go_simp; exact rfl) | exact rfl | (go_simp; exact ⟨rfl, rfl⟩)); go_big_quiet_on))))
                                                                                              refine wpQuiet_nil ?_
                                                                                              intro W5 hC
                                                                                              have HK5 := Lib.hid (HKW.out _ hC)
                                                                                              have HF5 := Lib.hid (HB.out.trans (HK5.out.mono HLE.out))
                                                                                              clear hC
                                                                                              by_cases h0 : c = 0
                                                                                              · subst h0
                                                                                                have HV3 : Hid (expL p at_ (x.ks.drop (i + 1)) = T) := Lib.hid (by rw [← HV2.out, if_neg (by simp)])
                                                                                                clear HV2
                                                                                                go_wp2_with fail
                                                                                                go_roundw
                                                                                                case rel => exact ⟨i + 1, hlt, by go_num, HV3, HK5⟩
                                                                                                case measure => simp [intOf]; omega
                                                                                              · have hb : (c == 0) = false := by simpa using h0
                                                                                                have hb2 : (c != 0) = true := by simpa using h0
                                                                                                have ec : c = T := by rw [← HV2.out, if_pos h0]
                                                                                                clear HV2
                                                                                                go_wp2_with fail
                                                                                                go_ret
                                                                                                exact ⟨by rw [ec, ← HV.out] <;> rfl, by first | exact HF5.out | (rw [hg0]; exact HF5.out)⟩
                                                                                            · have hlt' : ¬ (i : Int) < (x.ks.length : Int) := by omega
                                                                                              have e0 : T = 0 := by rw [← HJ.out, List.drop_eq_nil_of_le (by omega)]; rfl
                                                                                              have HF6 := Lib.hid (HB.out.trans (HK.out.mono HLE.out))
                                                                                              clear HJ
                                                                                              go_wp2_with fail
                                                                                              go_ret
                                                                                              exact ⟨by rw [← HV.out, e0] <;> rfl, by first | exact HF6.out | (rw [hg0]; exact HF6.out)⟩))))))))))
     · skip
       all_goals refine wp_region_kq ?_
       repeat' (first | go_big_quiet_skip | (go_big_quiet_want; first | (refine quiet_load (t := 55) (.tmp 4) rfl rfl (fun w1 hC => loadAt_expr (HXC.out w1 hC)) ?_; simp only [Act.put, List.setIfInBounds_toArray, List.set_cons_succ, List.set_cons_zero]; go_big_quiet_on) | (go_big_quiet_op; first | go_big_quiet_on | (apply Exists.intro; refine ⟨fun w1 hC => ?_, ?_⟩; (first | (go_at_call 115; with_reducible exact hC.call (HCF.out _ hC)) | exact rfl | (go_simp; exact ⟨rfl, rfl⟩)); go_big_quiet_on))))
       all_goals refine wpQuiet_nil ?_
       all_goals intro V1 hC
       all_goals have HF1 := Lib.hid (HB.out.trans (Below.mono hC HLE.out))
       all_goals have HT1 : Hid (∀ u, Kp V1 u → Kp W u) := Lib.hid (fun u hu => kp_trans hC hu)
       all_goals clear hC
       all_goals (go_upto_region 3 with fail
                  all_goals refine wp_region_kq ?_
                  repeat' (first | go_big_quiet_skip | (go_big_quiet_want; first | (go_big_quiet_op; first | go_big_quiet_on | (apply Exists.intro; refine ⟨fun w1 hC => ?_, ?_⟩; (first | (obtain ⟨y0, y1, y2, y3, y4, y5, y6, y7, y8, y9⟩ := (HXC.out w1 (HT1.out _ hC)).cells; go_simp; exact rfl) | exact rfl | (go_simp; exact ⟨rfl, rfl⟩)); go_big_quiet_on))))
                  all_goals refine wpQuiet_nil ?_
                  all_goals intro V2 hC
                  all_goals have HF2 := Lib.hid (HB.out.trans (Below.mono (HT1.out _ hC) HLE.out))
                  all_goals have HT2 : Hid (∀ u, Kp V2 u → Kp W u) := Lib.hid (fun u hu => kp_trans (HT1.out _ hC) hu)
                  all_goals clear hC
                  all_goals (go_upto_region 4 with fail
                             all_goals refine wp_region_kq ?_
                             repeat' (first | go_big_quiet_skip | (go_big_quiet_want; first | (refine quiet_load (t := 55) (.tmp 4) rfl rfl (fun w1 hC => loadAt_expr (HXC.out w1 (HT2.out _ hC))) ?_; simp only [Act.put, List.setIfInBounds_toArray, List.set_cons_succ, List.set_cons_zero]; go_big_quiet_on) | (go_big_quiet_op; first | go_big_quiet_on | (apply Exists.intro; refine ⟨fun w1 hC => ?_, ?_⟩; (first | (go_at_call 116; with_reducible exact hC.call (HCM.out _ (HT2.out _ hC))) | exact rfl | (go_simp; exact ⟨rfl, rfl⟩)); go_big_quiet_on))))
                             all_goals refine wpQuiet_nil ?_
                             all_goals intro V3 hC
                             all_goals have HF3 := Lib.hid (HB.out.trans (Below.mono (HT2.out _ hC) HLE.out))
                             all_goals have HT3 : Hid (∀ u, Kp V3 u → Kp W u) := Lib.hid (fun u hu => kp_trans (HT2.out _ hC) hu)
                             all_goals clear hC
                             all_goals (go_wp2_with fail
                                        go_ret
                                        exact ⟨by rw [← HV.out] <;> rfl, by first | exact HF3.out | (rw [hg0]; exact HF3.out)⟩)))
end Go.Proofs.YtbhoofihnmmmfabGreat
