/- Part of the proof: Pnh. No conditions. -/
import Derived.Test.YtbhoofihnmmmfabGreatYbc
namespace Go.Proofs.YtbhoofihnmmmfabGreat
open Go.RowKit Go
theorem cndE_eq (nb : Nat) (x : X) : cndE nb x = if cndBad x.op x.a x.r x.b x.ns x.st x.ks.length = true then 2 else if ((x.op == 1) && !bel x.a nb) = true then 3 else cndL nb x.ks := by cases x; rw [cndE]; rfl
theorem cndL_at (nb : Nat) {ks : List X} {i : Nat} (hi : i < ks.length) : cndL nb (ks.drop i) = if cndE nb ks[i] ≠ 0 then cndE nb ks[i] else cndL nb (ks.drop (i + 1)) := by
 rw [List.drop_eq_getElem_cons hi, cndL]
theorem expE_eq (p : PP) (n : Int) (x : X) : expE p n x = if fldB x.op x.a x.r x.b x.ns x.st x.ks.length = false then 2 else if (x.op == 8) = true then cmpX x.a x.r x.b n else if (x.op == 9) = true ∧ inE p x.a x.st n ≠ 0 then inE p x.a x.st n else expL p n x.ks := by cases x; rw [expE]; rfl
theorem expL_at (p : PP) (n : Int) {ks : List X} {i : Nat} (hi : i < ks.length) : expL p n (ks.drop i) = if expE p n ks[i] ≠ 0 then expE p n ks[i] else expL p n (ks.drop (i + 1)) := by
 rw [List.drop_eq_getElem_cons hi, expL]
set_option maxRecDepth 100000 in
set_option maxHeartbeats 16000000 in
theorem ncondition_c : ∀ (k : Nat) (x : X) (q : PV) (p : PP) (vn vk : Value) (w : World), lvls (k + 1) x ≤ k → PolV w q p → p.bos.length ≤ 1000000 → XV w vn vk x → Calls Tryz.prog 85 #[q.val, .agg #[.int .i64 x.op, .int .i64 x.a, .int .i64 x.r, .int .i64 x.b, vn, .int .u64 x.st.a, .int .u64 x.st.b, .int .u64 x.st.c, .int .u64 x.st.d, vk]] w fun e w' => e = .returned (.int .i64 (cndE p.bos.length x)) ∧ Below w.heap.size w w' := by
 intro k
 induction k with
 | zero => intro x q p vn vk w h; rw [lvls_succ] at h; omega
 | succ k ih =>
   intro x q p vn vk w hk hP hbl hV
   have HIH := Lib.hid ih
   obtain ⟨ao, cap, ak, ck, rfl, rfl⟩ := hV.form
   have hkI : (x.ks.length : Int) ≤ 9223372036854775807 := by have h := hV.wf.nk; unfold maxLen at h; omega
   have hnI : (x.ns.length : Int) ≤ 9223372036854775807 := by have h := hV.wf.nn; unfold maxLen at h; omega
   have hbI : (p.bos.length : Int) ≤ 9223372036854775807 := by omega
   have HKL : Hid (∀ i (h : i < x.ks.length), lvls (k + 1) x.ks[i] ≤ k) := Lib.hid (fun i h => by rw [lvls_succ] at hk; have := lvlsL_mem (m := k + 1) h; omega)
   have HBL0 := Lib.hid hbl
   obtain ⟨e8, he8⟩ : ∃ z, (x.op == 8) = z := ⟨_, rfl⟩
   obtain ⟨e9, he9⟩ : ∃ z, (x.op == 9) = z := ⟨_, rfl⟩
   obtain ⟨ek, hek⟩ : ∃ z, (kidsM x.op == (x.ks.length : Int)) = z := ⟨_, rfl⟩
   obtain ⟨er, her⟩ : ∃ z, (x.r == 0) = z := ⟨_, rfl⟩
   obtain ⟨eb, heb⟩ : ∃ z, (x.b == 0) = z := ⟨_, rfl⟩
   obtain ⟨en, hen⟩ : ∃ z, decide (0 < x.ns.length) = z := ⟨_, rfl⟩
   obtain ⟨es, hes⟩ : ∃ z, same4 x.st.a x.st.b x.st.c x.st.d 0 0 0 0 = z := ⟨_, rfl⟩
   obtain ⟨e1, he1⟩ : ∃ z, (x.op == 1) = z := ⟨_, rfl⟩
   obtain ⟨ea, hea⟩ : ∃ z, (x.a == 0) = z := ⟨_, rfl⟩
   obtain ⟨bb, hbb⟩ : ∃ z, bel x.a p.bos.length = z := ⟨_, rfl⟩
   have hekn : (kidsM x.op != (x.ks.length : Int)) = !ek := by rw [bne, hek]
   have hern : (x.r != 0) = !er := by rw [bne, her]
   have hebn : (x.b != 0) = !eb := by rw [bne, heb]
   have he1n : (x.op != 1) = !e1 := by rw [bne, he1]
   have hean : (x.a != 0) = !ea := by rw [bne, hea]
   obtain ⟨T, hT⟩ : ∃ T, cndL p.bos.length x.ks = T := ⟨_, rfl⟩
   have HTV : Hid (cndL p.bos.length (x.ks.drop 0) = T) := Lib.hid hT
   have HV : Hid ((if (e8 || (e9 || (!ek || (!er || (!eb || (en || (!es || (!e1 && !ea)))))))) = true then 2 else if (e1 && !bb) = true then 3 else T) = cndE p.bos.length x) := Lib.hid (by rw [cndE_eq, hT, ← he8, ← he9, ← hek, ← her, ← heb, ← hen, ← hes, ← he1, ← hea, ← hbb]; rfl)
   generalize cndE p.bos.length x = R at *
   have HKI : Hid (∀ u, Calls Tryz.prog 114 #[.int .i64 x.op] u fun e w' => e = .returned (.int .i64 (kidsM x.op)) ∧ w' = u) := Lib.hid (fun u => nkids_c _ u)
   have HBE : Hid (∀ u, Calls Tryz.prog 60 #[.int .i64 x.a, .int .i64 p.bos.length] u fun e w' => e = .returned (.bool bb) ∧ w' = u) := Lib.hid (fun u => by rw [← hbb]; exact nbel_c _ _ u)
   generalize kidsM x.op = km at *
   clear ih hk hbl hT hbb
   obtain ⟨a5, c5, e5⟩ := hP.bos.form
   have E5 := Lib.hid e5
   clear e5
   obtain ⟨W, ZW⟩ : ∃ v, Hid (((w.alloc (.cells #[q.v0, q.v1, q.v2, q.v3, q.v4, q.v5, q.v6, q.v7, q.v8, q.v9, q.v10, q.v11, q.v12, q.v13, q.v14, q.v15, q.v16] 39)).alloc (.cells #[.int .i64 x.op, .int .i64 x.a, .int .i64 x.r, .int .i64 x.b, .slice ao x.ns.length cap, .int .u64 x.st.a, .int .u64 x.st.b, .int .u64 x.st.c, .int .u64 x.st.d, .slice ak x.ks.length ck] 55)) = v) := ⟨_, Lib.hid rfl⟩
   have HB : Hid (Below w.heap.size w W) := by cases ZW.out; exact Lib.hid (((Below.refl _ _).alloc (Nat.le_refl _) _).alloc (by simp) _)
   have HX0 : Hid (Blk W (w.heap.size) 39 #[q.v0, q.v1, q.v2, q.v3, q.v4, q.v5, q.v6, q.v7, q.v8, q.v9, q.v10, q.v11, q.v12, q.v13, q.v14, q.v15, q.v16]) := by cases ZW.out; exact Lib.hid ((Blk.here (by simp)).alloc _)
   have HX1 : Hid (Blk W (w.heap.size + 1) 55 #[.int .i64 x.op, .int .i64 x.a, .int .i64 x.r, .int .i64 x.b, .slice ao x.ns.length cap, .int .u64 x.st.a, .int .u64 x.st.b, .int .u64 x.st.c, .int .u64 x.st.d, .slice ak x.ks.length ck]) := by cases ZW.out; exact Lib.hid (Blk.here (by simp))
   have HQ : Hid (PolV W q p) := by cases ZW.out; exact Lib.hid (hP.keep HB.out)
   have HKS := Lib.hid ((hV.keep HB.out).ks)
   clear hV hP
   have HLE : Hid (w.heap.size ≤ W.heap.size) := by cases ZW.out; exact Lib.hid HB.out.size
   try unfold PV.val
   go_enter Tryz.func85, Tryz.ntmps85
   go_upto_region 1 with fail
   rw [ZW.out]
   generalize w.heap.size + 1 = g1 at *
   generalize hg0 : w.heap.size = g0 at *
   have HR5 : Hid (∀ u, Kp W u → u.cell? ⟨g0, 5, none⟩ = some (.slice a5 p.bos.length c5)) := Lib.hid (fun u hu => pol_cell (HX0.out.keep hu) rfl E5.out)
   generalize Value.agg #[q.v0, q.v1, q.v2, q.v3, q.v4, q.v5, q.v6, q.v7, q.v8, q.v9, q.v10, q.v11, q.v12, q.v13, q.v14, q.v15, q.v16] = P0
   have HXC : Hid (∀ u, Kp W u → XC u g1 0 x.op x.a x.r x.b ao x.ns.length cap x.st ak x.ks.length ck) := Lib.hid (fun u hu => XC.of_blk (HX1.out.keep hu))
   cases ea
   all_goals refine wp_region_kp (by kernel_rfl) (by kernel_rfl) ?_
   repeat' (first | go_big_quiet_skip | (go_big_quiet_want; first | (go_big_quiet_op; first | go_big_quiet_on | (apply Exists.intro; refine ⟨fun w1 hC => ?_, ?_⟩; (first | (go_at_call 114; with_reducible exact hC.call_same (HKI.out _)) | (obtain ⟨y0, y1, y2, y3, y4, y5, y6, y7, y8, y9⟩ := (HXC.out w1 hC).cells; go_simp; exact rfl) | exact rfl | (go_simp; exact ⟨rfl, rfl⟩)); go_big_quiet_on))) | (cases e8 <;> try simp only [Bool.not_true, Bool.not_false]) | (cases e9 <;> try simp only [Bool.not_true, Bool.not_false]) | (cases ek <;> try simp only [Bool.not_true, Bool.not_false]) | (cases er <;> try simp only [Bool.not_true, Bool.not_false]) | (cases eb <;> try simp only [Bool.not_true, Bool.not_false]) | (cases en <;> try simp only [Bool.not_true, Bool.not_false]) | (cases es <;> try simp only [Bool.not_true, Bool.not_false]) | (cases e1 <;> try simp only [Bool.not_true, Bool.not_false]))
   all_goals refine wpQuiet_nil ?_
   all_goals intro W1 hC
   all_goals have HF1 := Lib.hid (HB.out.trans ((hC).mono HLE.out))
   all_goals have HT1 : Hid (∀ u, Kp W1 u → Kp W u) := Lib.hid (fun u hu => kp_trans hC hu)
   all_goals clear hC
   all_goals first
    | (go_wp2_with fail; go_ret; exact ⟨by rw [← HV.out] <;> rfl, by first | exact HF1.out | (rw [hg0]; exact HF1.out)⟩)
    | (go_upto_region 3 with fail
       refine wp_region_kq ?_
       repeat' (first | go_big_quiet_skip | (go_big_quiet_want; first | (go_big_quiet_op; first | go_big_quiet_on | (apply Exists.intro; refine ⟨fun w1 hC => ?_, ?_⟩; (first | (go_at_call 60; with_reducible exact hC.call_same (HBE.out _)) | (obtain ⟨y0, y1, y2, y3, y4, y5, y6, y7, y8, y9⟩ := (HXC.out w1 (HT1.out _ hC)).cells; go_simp; exact rfl) | (have y5 := HR5.out w1 (HT1.out _ hC); go_simp; exact rfl) | exact rfl | (go_simp; exact ⟨rfl, rfl⟩)); go_big_quiet_on))) | (cases bb <;> try simp only [Bool.not_true, Bool.not_false]))
       all_goals refine wpQuiet_nil ?_
       all_goals intro W2 hC
       all_goals have HF2 := Lib.hid (HB.out.trans (((HT1.out _ hC)).mono HLE.out))
       all_goals have HT2 : Hid (∀ u, Kp W2 u → Kp W u) := Lib.hid (fun u hu => kp_trans (HT1.out _ hC) hu)
       all_goals clear hC
       all_goals first
        | (go_wp2_with fail; go_ret; exact ⟨by rw [← HV.out] <;> rfl, by first | exact HF2.out | (rw [hg0]; exact HF2.out)⟩)
        | (obtain ⟨y0, y1, y2, y3, y4, y5, y6, y7, y8, y9⟩ := (HXC.out W2 (HT2.out _ Kp.rfl')).cells
           clear y0 y1 y2 y3 y4 y5 y6 y7 y8
           go_wp2_with fail
           go_loopw [5] (fun vi wr => ∃ i : Nat, i ≤ x.ks.length ∧ vi = .int .i64 i ∧ Hid (cndL p.bos.length (x.ks.drop i) = T) ∧ Hid (Kp W wr)) (fun vi _ => x.ks.length - (intOf vi).toNat)
           case atStart => exact ⟨0, Nat.zero_le _, rfl, Lib.hid HTV.out, Lib.hid (HT2.out _ Kp.rfl')⟩
           case round =>
            obtain ⟨i, hi, rfl, HJ, HK⟩ := hrel
            obtain ⟨y0, y1, y2, y3, y4, y5, y6, y7, y8, y9⟩ := (HXC.out wr HK.out).cells
            clear y0 y1 y2 y3 y4 y5 y6 y7 y8
            by_cases hlt : i < x.ks.length
            · have hlt' : (i : Int) < (x.ks.length : Int) := by omega
              obtain ⟨y, hy⟩ : ∃ y, x.ks[i] = y := ⟨_, rfl⟩
              obtain ⟨g', o', hak, hg', hR⟩ := HKS.out.row hlt
              subst hak
              have hA := hR i hlt
              rw [hy] at hA
              obtain ⟨ao2, cap2, ak2, ck2, hc2, hv2⟩ := hA.xv
              have HXE : Hid (∀ u, Kp W u → XC u g' (o' + i * 10) y.op y.a y.r y.b ao2 y.ns.length cap2 y.st ak2 y.ks.length ck2) := Lib.hid (fun u hu => hc2.keep (Below.block hu g' hg'))
              obtain ⟨c, hc⟩ : ∃ c, cndE p.bos.length y = c := ⟨_, rfl⟩
              have HCL : Hid (∀ u, Kp W u → Calls Tryz.prog 85 #[q.val, .agg #[.int .i64 y.op, .int .i64 y.a, .int .i64 y.r, .int .i64 y.b, .slice ao2 y.ns.length cap2, .int .u64 y.st.a, .int .u64 y.st.b, .int .u64 y.st.c, .int .u64 y.st.d, .slice ak2 y.ks.length ck2]] u fun e w' => e = .returned (.int .i64 c) ∧ Below u.heap.size u w') := Lib.hid (fun u hu => by rw [← hc]; exact HIH.out y q p _ _ u (by rw [← hy]; exact HKL.out i hlt) (HQ.out.keep hu) HBL0.out (hv2.keep hu))
              have HV2 : Hid ((if c ≠ 0 then c else cndL p.bos.length (x.ks.drop (i + 1))) = T) := Lib.hid (by rw [← HJ.out, cndL_at _ hlt, hy, hc])
              clear hA hR hg' hy hc2 hv2 hc HJ
              have HKW : Hid (∀ u, Kp wr u → Kp W u) := Lib.hid (fun u hu => kp_trans HK.out hu)
              go_upto_region 8 with fail
              refine wp_region_kp (by kernel_rfl) (by kernel_rfl) ?_
              repeat' (first | go_big_quiet_skip | (go_big_quiet_want; first | (refine quiet_load (t := 39) (.tmp 2) rfl rfl (fun w1 hC => loadAt_pol (HX0.out.keep (HKW.out _ hC))) ?_; simp only [Act.put, List.setIfInBounds_toArray, List.set_cons_succ, List.set_cons_zero]; go_big_quiet_on) | (refine quiet_load (t := 55) (.tmp 79) rfl rfl (fun w1 hC => loadAt_expr (HXE.out w1 (HKW.out _ hC))) ?_; simp only [Act.put, List.setIfInBounds_toArray, List.set_cons_succ, List.set_cons_zero]; go_big_quiet_on) | (go_big_quiet_op; first | go_big_quiet_on | (apply Exists.intro; refine ⟨fun w1 hC => ?_, ?_⟩; (first | (go_at_call 85; with_reducible exact hC.call (HCL.out _ (HKW.out _ hC))) | (obtain ⟨y0, y1, y2, y3, y4, y5, y6, y7, y8, y9⟩ := (HXC.out w1 (HKW.out _ hC)).cells; go_simp; exact rfl) | exact rfl | (go_simp; exact ⟨rfl, rfl⟩)); go_big_quiet_on))))
              refine wpQuiet_nil ?_
              intro W5 hC
              have HK5 := Lib.hid (HKW.out _ hC)
              have HF5 := Lib.hid (HB.out.trans (HK5.out.mono HLE.out))
              clear hC
              by_cases h0 : c = 0
              · subst h0
                have HV3 : Hid (cndL p.bos.length (x.ks.drop (i + 1)) = T) := Lib.hid (by rw [← HV2.out, if_neg (by simp)])
                clear HV2
                go_wp2_with fail
                go_roundw
                case rel => exact ⟨i + 1, hlt, by go_num, HV3, HK5⟩
                case measure => simp [intOf]; omega
              · have hb : (c == 0) = false := by simpa using h0
                have hb2 : (c != 0) = true := by simpa using h0
                have ec : c = T := by rw [← HV2.out, if_pos h0]
                clear HV2
                go_wp2_with fail
                go_ret
                exact ⟨by rw [ec, ← HV.out] <;> rfl, by first | exact HF5.out | (rw [hg0]; exact HF5.out)⟩
            · have hlt' : ¬ (i : Int) < (x.ks.length : Int) := by omega
              have e0 : T = 0 := by rw [← HJ.out, List.drop_eq_nil_of_le (by omega)]; rfl
              have HF6 := Lib.hid (HB.out.trans (HK.out.mono HLE.out))
              clear HJ
              go_wp2_with fail
              go_ret
              exact ⟨by rw [← HV.out, e0] <;> rfl, by first | exact HF6.out | (rw [hg0]; exact HF6.out)⟩))
end Go.Proofs.YtbhoofihnmmmfabGreat
