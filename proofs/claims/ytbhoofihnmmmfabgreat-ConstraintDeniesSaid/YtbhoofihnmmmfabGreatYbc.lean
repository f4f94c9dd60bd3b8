/- Part of the proof: Png. No conditions. -/
import Derived.Test.YtbhoofihnmmmfabGreatYbb
namespace Go.Proofs.YtbhoofihnmmmfabGreat
open Go.RowKit Go
set_option maxRecDepth 100000 in
set_option maxHeartbeats 16000000 in
theorem nnumber_c (q : PV) (p : PP) (a : Int) (w : World) (hP : PolV w q p) : Calls Tryz.prog 117 #[q.val, .int .i64 a] w fun e w' => e = .returned (.int .i64 (numP p a)) ∧ Below w.heap.size w w' := by
 obtain ⟨m, hm⟩ : ∃ m, a.tmod 5 = m := ⟨_, rfl⟩
 have HM := Lib.hid hm
 by_cases h0 : m = 0
 · have e : numP p a = p.uss.length := by unfold numP; rw [HM.out, if_pos h0]
   rw [e]
   subst h0
   clear e
   obtain ⟨a4, c4, e4⟩ := hP.uss.form
   have E4 := Lib.hid e4
   clear e4
   obtain ⟨W, ZW⟩ : ∃ v, Hid ((w.alloc (.cells #[q.v0, q.v1, q.v2, q.v3, q.v4, q.v5, q.v6, q.v7, q.v8, q.v9, q.v10, q.v11, q.v12, q.v13, q.v14, q.v15, q.v16] 39)) = v) := ⟨_, Lib.hid rfl⟩
   have HB : Hid (Below w.heap.size w W) := by cases ZW.out; exact Lib.hid ((Below.refl _ _).alloc (Nat.le_refl _) _)
   have HX0 : Hid (Blk W (w.heap.size) 39 #[q.v0, q.v1, q.v2, q.v3, q.v4, q.v5, q.v6, q.v7, q.v8, q.v9, q.v10, q.v11, q.v12, q.v13, q.v14, q.v15, q.v16]) := by cases ZW.out; exact Lib.hid (Blk.here (by simp))
   have HQ : Hid (PolV W q p) := by cases ZW.out; exact Lib.hid (hP.keep HB.out)
   have HLE : Hid (w.heap.size ≤ W.heap.size) := by cases ZW.out; exact Lib.hid HB.out.size
   try unfold PV.val
   go_enter Tryz.func117, Tryz.ntmps117
   go_upto_region 1 with fail
   rw [ZW.out]
   generalize hg0 : w.heap.size = g0 at *
   have HR4 : Hid (∀ u, Kp W u → u.cell? ⟨g0, 4, none⟩ = some (.slice a4 p.uss.length c4)) := Lib.hid (fun u hu => pol_cell (HX0.out.keep hu) rfl E4.out)
   generalize Value.agg #[q.v0, q.v1, q.v2, q.v3, q.v4, q.v5, q.v6, q.v7, q.v8, q.v9, q.v10, q.v11, q.v12, q.v13, q.v14, q.v15, q.v16] = P0
   have y := HR4.out W Kp.rfl'
   go_wp2_with fail
   go_ret
   exact ⟨rfl, by first | exact HB.out | (rw [hg0]; exact HB.out)⟩
 by_cases h1 : m = 1
 · have e : numP p a = p.ros.length := by unfold numP; rw [HM.out, if_neg h0]; rw [if_pos h1]
   rw [e]
   subst h1
   clear h0
   clear e
   obtain ⟨a3, c3, e3⟩ := hP.ros.form
   have E3 := Lib.hid e3
   clear e3
   have HB : Hid (Below w.heap.size w (w.alloc (.cells #[q.v0, q.v1, q.v2, q.v3, q.v4, q.v5, q.v6, q.v7, q.v8, q.v9, q.v10, q.v11, q.v12, q.v13, q.v14, q.v15, q.v16] 39))) := Lib.hid ((Below.refl _ _).alloc (Nat.le_refl _) _)
   have HX0 : Hid (Blk (w.alloc (.cells #[q.v0, q.v1, q.v2, q.v3, q.v4, q.v5, q.v6, q.v7, q.v8, q.v9, q.v10, q.v11, q.v12, q.v13, q.v14, q.v15, q.v16] 39)) (w.heap.size) 39 #[q.v0, q.v1, q.v2, q.v3, q.v4, q.v5, q.v6, q.v7, q.v8, q.v9, q.v10, q.v11, q.v12, q.v13, q.v14, q.v15, q.v16]) := Lib.hid (Blk.here (by simp))
   have HQ : Hid (PolV (w.alloc (.cells #[q.v0, q.v1, q.v2, q.v3, q.v4, q.v5, q.v6, q.v7, q.v8, q.v9, q.v10, q.v11, q.v12, q.v13, q.v14, q.v15, q.v16] 39)) q p) := Lib.hid (hP.keep HB.out)
   have HLE : Hid (w.heap.size ≤ (w.alloc (.cells #[q.v0, q.v1, q.v2, q.v3, q.v4, q.v5, q.v6, q.v7, q.v8, q.v9, q.v10, q.v11, q.v12, q.v13, q.v14, q.v15, q.v16] 39)).heap.size) := Lib.hid HB.out.size
   try unfold PV.val
   go_enter Tryz.func117, Tryz.ntmps117
   go_upto_region 1 with fail
   generalize w.alloc (.cells #[q.v0, q.v1, q.v2, q.v3, q.v4, q.v5, q.v6, q.v7, q.v8, q.v9, q.v10, q.v11, q.v12, q.v13, q.v14, q.v15, q.v16] 39) = W at *
   generalize hg0 : w.heap.size = g0 at *
   have HR3 : Hid (∀ u, Kp W u → u.cell? ⟨g0, 3, none⟩ = some (.slice a3 p.ros.length c3)) := Lib.hid (fun u hu => pol_cell (HX0.out.keep hu) rfl E3.out)
   generalize Value.agg #[q.v0, q.v1, q.v2, q.v3, q.v4, q.v5, q.v6, q.v7, q.v8, q.v9, q.v10, q.v11, q.v12, q.v13, q.v14, q.v15, q.v16] = P0
   have y := HR3.out W Kp.rfl'
   go_wp2_with fail
   go_ret
   exact ⟨rfl, by first | exact HB.out | (rw [hg0]; exact HB.out)⟩
 by_cases h2 : m = 2
 · have e : numP p a = p.tys.length := by unfold numP; rw [HM.out, if_neg h0]; rw [if_neg h1]; rw [if_pos h2]
   rw [e]
   subst h2
   clear h0 h1
   clear e
   obtain ⟨a1, c1, e1⟩ := hP.tys.form
   have E1 := Lib.hid e1
   clear e1
   have HB : Hid (Below w.heap.size w (w.alloc (.cells #[q.v0, q.v1, q.v2, q.v3, q.v4, q.v5, q.v6, q.v7, q.v8, q.v9, q.v10, q.v11, q.v12, q.v13, q.v14, q.v15, q.v16] 39))) := Lib.hid ((Below.refl _ _).alloc (Nat.le_refl _) _)
   have HX0 : Hid (Blk (w.alloc (.cells #[q.v0, q.v1, q.v2, q.v3, q.v4, q.v5, q.v6, q.v7, q.v8, q.v9, q.v10, q.v11, q.v12, q.v13, q.v14, q.v15, q.v16] 39)) (w.heap.size) 39 #[q.v0, q.v1, q.v2, q.v3, q.v4, q.v5, q.v6, q.v7, q.v8, q.v9, q.v10, q.v11, q.v12, q.v13, q.v14, q.v15, q.v16]) := Lib.hid (Blk.here (by simp))
   have HQ : Hid (PolV (w.alloc (.cells #[q.v0, q.v1, q.v2, q.v3, q.v4, q.v5, q.v6, q.v7, q.v8, q.v9, q.v10, q.v11, q.v12, q.v13, q.v14, q.v15, q.v16] 39)) q p) := Lib.hid (hP.keep HB.out)
   have HLE : Hid (w.heap.size ≤ (w.alloc (.cells #[q.v0, q.v1, q.v2, q.v3, q.v4, q.v5, q.v6, q.v7, q.v8, q.v9, q.v10, q.v11, q.v12, q.v13, q.v14, q.v15, q.v16] 39)).heap.size) := Lib.hid HB.out.size
   try unfold PV.val
   go_enter Tryz.func117, Tryz.ntmps117
   go_upto_region 1 with fail
   generalize w.alloc (.cells #[q.v0, q.v1, q.v2, q.v3, q.v4, q.v5, q.v6, q.v7, q.v8, q.v9, q.v10, q.v11, q.v12, q.v13, q.v14, q.v15, q.v16] 39) = W at *
   generalize hg0 : w.heap.size = g0 at *
   have HR1 : Hid (∀ u, Kp W u → u.cell? ⟨g0, 1, none⟩ = some (.slice a1 p.tys.length c1)) := Lib.hid (fun u hu => pol_cell (HX0.out.keep hu) rfl E1.out)
   generalize Value.agg #[q.v0, q.v1, q.v2, q.v3, q.v4, q.v5, q.v6, q.v7, q.v8, q.v9, q.v10, q.v11, q.v12, q.v13, q.v14, q.v15, q.v16] = P0
   have y := HR1.out W Kp.rfl'
   go_wp2_with fail
   go_ret
   exact ⟨rfl, by first | exact HB.out | (rw [hg0]; exact HB.out)⟩
 have e : numP p a = -1 := by unfold numP; rw [HM.out, if_neg h0, if_neg h1, if_neg h2]
 rw [e]
 have p0 : (m == 0) = false := by simpa using h0
 have p1 : (m == 1) = false := by simpa using h1
 have p2 : (m == 2) = false := by simpa using h2
 clear h0 h1 h2 e
 have HB : Hid (Below w.heap.size w (w.alloc (.cells #[q.v0, q.v1, q.v2, q.v3, q.v4, q.v5, q.v6, q.v7, q.v8, q.v9, q.v10, q.v11, q.v12, q.v13, q.v14, q.v15, q.v16] 39))) := Lib.hid ((Below.refl _ _).alloc (Nat.le_refl _) _)
 have HX0 : Hid (Blk (w.alloc (.cells #[q.v0, q.v1, q.v2, q.v3, q.v4, q.v5, q.v6, q.v7, q.v8, q.v9, q.v10, q.v11, q.v12, q.v13, q.v14, q.v15, q.v16] 39)) (w.heap.size) 39 #[q.v0, q.v1, q.v2, q.v3, q.v4, q.v5, q.v6, q.v7, q.v8, q.v9, q.v10, q.v11, q.v12, q.v13, q.v14, q.v15, q.v16]) := Lib.hid (Blk.here (by simp))
 have HQ : Hid (PolV (w.alloc (.cells #[q.v0, q.v1, q.v2, q.v3, q.v4, q.v5, q.v6, q.v7, q.v8, q.v9, q.v10, q.v11, q.v12, q.v13, q.v14, q.v15, q.v16] 39)) q p) := Lib.hid (hP.keep HB.out)
 have HLE : Hid (w.heap.size ≤ (w.alloc (.cells #[q.v0, q.v1, q.v2, q.v3, q.v4, q.v5, q.v6, q.v7, q.v8, q.v9, q.v10, q.v11, q.v12, q.v13, q.v14, q.v15, q.v16] 39)).heap.size) := Lib.hid HB.out.size
 try unfold PV.val
 go_enter Tryz.func117, Tryz.ntmps117
 go_upto_region 1 with fail
 generalize w.alloc (.cells #[q.v0, q.v1, q.v2, q.v3, q.v4, q.v5, q.v6, q.v7, q.v8, q.v9, q.v10, q.v11, q.v12, q.v13, q.v14, q.v15, q.v16] 39) = W at *
 generalize hg0 : w.heap.size = g0 at *
 generalize Value.agg #[q.v0, q.v1, q.v2, q.v3, q.v4, q.v5, q.v6, q.v7, q.v8, q.v9, q.v10, q.v11, q.v12, q.v13, q.v14, q.v15, q.v16] = P0
 go_wp2_with fail
 go_ret
 exact ⟨rfl, by first | exact HB.out | (rw [hg0]; exact HB.out)⟩
set_option maxRecDepth 100000 in
set_option maxHeartbeats 16000000 in
theorem nfields_c (x : X) (vn vk : Value) (w : World) (hV : XV w vn vk x) : Calls Tryz.prog 115 #[.agg #[.int .i64 x.op, .int .i64 x.a, .int .i64 x.r, .int .i64 x.b, vn, .int .u64 x.st.a, .int .u64 x.st.b, .int .u64 x.st.c, .int .u64 x.st.d, vk]] w fun e w' => e = .returned (.bool (fldB x.op x.a x.r x.b x.ns x.st x.ks.length)) ∧ Below w.heap.size w w' := by
 obtain ⟨ao, cap, ak, ck, rfl, rfl⟩ := hV.form
 have hkI : (x.ks.length : Int) ≤ 9223372036854775807 := by have h := hV.wf.nk; unfold maxLen at h; omega
 have hnI : (x.ns.length : Int) ≤ 9223372036854775807 := by have h := hV.wf.nn; unfold maxLen at h; omega
 clear hV
 obtain ⟨km, hkm⟩ : ∃ k, kidsM x.op = k := ⟨_, rfl⟩
 obtain ⟨bk, hbk⟩ : ∃ z, ((x.ks.length : Int) == km) = z := ⟨_, rfl⟩
 obtain ⟨bk0, hbk0⟩ : ∃ z, ((x.ks.length : Int) == 0) = z := ⟨_, rfl⟩
 obtain ⟨ba, hba⟩ : ∃ z, (x.a == 0) = z := ⟨_, rfl⟩
 obtain ⟨br, hbr⟩ : ∃ z, (x.r == 0) = z := ⟨_, rfl⟩
 obtain ⟨bb, hbb⟩ : ∃ z, (x.b == 0) = z := ⟨_, rfl⟩
 obtain ⟨bn, hbn⟩ : ∃ z, ((x.ns.length : Int) == 0) = z := ⟨_, rfl⟩
 obtain ⟨bs, hbs⟩ : ∃ z, same4 x.st.a x.st.b x.st.c x.st.d 0 0 0 0 = z := ⟨_, rfl⟩
 have HKI : Hid (∀ u, Calls Tryz.prog 114 #[.int .i64 x.op] u fun e w' => e = .returned (.int .i64 km) ∧ w' = u) := Lib.hid (fun u => by rw [← hkm]; exact nkids_c _ u)
 by_cases h2 : x.op = 2
 · have hs : (if x.op = 2 ∨ x.op = 3 ∨ x.op = 4 then bk && (ba && (br && (bb && (bn && bs)))) else if x.op = 8 then bk0 && (bn && bs) else if x.op = 9 then bk0 && (br && (bb && bn)) else false) = fldB x.op x.a x.r x.b x.ns x.st x.ks.length := by rw [← hbk, ← hbk0, ← hba, ← hbr, ← hbb, ← hbn, ← hbs, ← hkm]; rfl
   have HR : Hid ((bk && (ba && (br && (bb && (bn && bs))))) = fldB x.op x.a x.r x.b x.ns x.st x.ks.length) := Lib.hid (by rw [← hs]; rw [if_pos (by omega)])
   generalize fldB x.op x.a x.r x.b x.ns x.st x.ks.length = R at *
   clear hs hkm
   have p2 : (x.op == 2) = true := by rw [h2]; rfl
   have p3 : (x.op == 3) = false := by rw [h2]; rfl
   have p4 : (x.op == 4) = false := by rw [h2]; rfl
   have p8 : (x.op == 8) = false := by rw [h2]; rfl
   have p9 : (x.op == 9) = false := by rw [h2]; rfl
   clear h2
   obtain ⟨W, ZW⟩ : ∃ v, Hid ((w.alloc (.cells #[.int .i64 x.op, .int .i64 x.a, .int .i64 x.r, .int .i64 x.b, .slice ao x.ns.length cap, .int .u64 x.st.a, .int .u64 x.st.b, .int .u64 x.st.c, .int .u64 x.st.d, .slice ak x.ks.length ck] 55)) = v) := ⟨_, Lib.hid rfl⟩
   have HB : Hid (Below w.heap.size w W) := by cases ZW.out; exact Lib.hid ((Below.refl _ _).alloc (Nat.le_refl _) _)
   have HX0 : Hid (Blk W (w.heap.size) 55 #[.int .i64 x.op, .int .i64 x.a, .int .i64 x.r, .int .i64 x.b, .slice ao x.ns.length cap, .int .u64 x.st.a, .int .u64 x.st.b, .int .u64 x.st.c, .int .u64 x.st.d, .slice ak x.ks.length ck]) := by cases ZW.out; exact Lib.hid (Blk.here (by simp))
   have HLE : Hid (w.heap.size ≤ W.heap.size) := by cases ZW.out; exact Lib.hid HB.out.size
   go_enter Tryz.func115, Tryz.ntmps115
   go_upto_region 1 with fail
   rw [ZW.out]
   generalize hg0 : w.heap.size = g0 at *
   have HXC : Hid (∀ u, Kp W u → XC u g0 0 x.op x.a x.r x.b ao x.ns.length cap x.st ak x.ks.length ck) := Lib.hid (fun u hu => XC.of_blk (HX0.out.keep hu))
   obtain ⟨y0, y1, y2, y3, y4, y5, y6, y7, y8, y9⟩ := (HXC.out W Kp.rfl').cells
   clear y1 y2 y3 y4 y5 y6 y7 y8 y9
   go_upto_region 5 with fail
   refine wp_region_kp (by kernel_rfl) (by kernel_rfl) ?_
   repeat' (first | go_big_quiet_skip | (go_big_quiet_want; first | (go_big_quiet_op; first | go_big_quiet_on | (apply Exists.intro; refine ⟨fun w1 hC => ?_, ?_⟩; (first | (go_at_call 114; with_reducible exact hC.call_same (HKI.out _)) | (obtain ⟨y0, y1, y2, y3, y4, y5, y6, y7, y8, y9⟩ := (HXC.out w1 hC).cells; go_simp; exact rfl) | exact rfl | (go_simp; exact ⟨rfl, rfl⟩)); go_big_quiet_on))) | (cases bk <;> try simp only [Bool.not_true, Bool.not_false]) | (cases ba <;> try simp only [Bool.not_true, Bool.not_false]) | (cases br <;> try simp only [Bool.not_true, Bool.not_false]) | (cases bb <;> try simp only [Bool.not_true, Bool.not_false]) | (cases bn <;> try simp only [Bool.not_true, Bool.not_false]))
   all_goals refine wpQuiet_nil ?_
   all_goals intro W1 hC
   all_goals have HF := Lib.hid (HB.out.trans (hC.mono HLE.out))
   all_goals clear hC
   all_goals go_wp2_with fail
   all_goals go_ret
   all_goals exact ⟨ret_bool (by rw [← HR.out] <;> rfl), by first | exact HF.out | (rw [hg0]; exact HF.out)⟩
 by_cases h3 : x.op = 3
 · have hs : (if x.op = 2 ∨ x.op = 3 ∨ x.op = 4 then bk && (ba && (br && (bb && (bn && bs)))) else if x.op = 8 then bk0 && (bn && bs) else if x.op = 9 then bk0 && (br && (bb && bn)) else false) = fldB x.op x.a x.r x.b x.ns x.st x.ks.length := by rw [← hbk, ← hbk0, ← hba, ← hbr, ← hbb, ← hbn, ← hbs, ← hkm]; rfl
   have HR : Hid ((bk && (ba && (br && (bb && (bn && bs))))) = fldB x.op x.a x.r x.b x.ns x.st x.ks.length) := Lib.hid (by rw [← hs]; rw [if_pos (by omega)])
   generalize fldB x.op x.a x.r x.b x.ns x.st x.ks.length = R at *
   clear hs hkm
   have p2 : (x.op == 2) = false := by rw [h3]; rfl
   have p3 : (x.op == 3) = true := by rw [h3]; rfl
   have p4 : (x.op == 4) = false := by rw [h3]; rfl
   have p8 : (x.op == 8) = false := by rw [h3]; rfl
   have p9 : (x.op == 9) = false := by rw [h3]; rfl
   clear h2 h3
   have HB : Hid (Below w.heap.size w (w.alloc (.cells #[.int .i64 x.op, .int .i64 x.a, .int .i64 x.r, .int .i64 x.b, .slice ao x.ns.length cap, .int .u64 x.st.a, .int .u64 x.st.b, .int .u64 x.st.c, .int .u64 x.st.d, .slice ak x.ks.length ck] 55))) := Lib.hid ((Below.refl _ _).alloc (Nat.le_refl _) _)
   have HX0 : Hid (Blk (w.alloc (.cells #[.int .i64 x.op, .int .i64 x.a, .int .i64 x.r, .int .i64 x.b, .slice ao x.ns.length cap, .int .u64 x.st.a, .int .u64 x.st.b, .int .u64 x.st.c, .int .u64 x.st.d, .slice ak x.ks.length ck] 55)) (w.heap.size) 55 #[.int .i64 x.op, .int .i64 x.a, .int .i64 x.r, .int .i64 x.b, .slice ao x.ns.length cap, .int .u64 x.st.a, .int .u64 x.st.b, .int .u64 x.st.c, .int .u64 x.st.d, .slice ak x.ks.length ck]) := Lib.hid (Blk.here (by simp))
   have HLE : Hid (w.heap.size ≤ (w.alloc (.cells #[.int .i64 x.op, .int .i64 x.a, .int .i64 x.r, .int .i64 x.b, .slice ao x.ns.length cap, .int .u64 x.st.a, .int .u64 x.st.b, .int .u64 x.st.c, .int .u64 x.st.d, .slice ak x.ks.length ck] 55)).heap.size) := Lib.hid HB.out.size
   go_enter Tryz.func115, Tryz.ntmps115
   go_upto_region 1 with fail
   generalize w.alloc (.cells #[.int .i64 x.op, .int .i64 x.a, .int .i64 x.r, .int .i64 x.b, .slice ao x.ns.length cap, .int .u64 x.st.a, .int .u64 x.st.b, .int .u64 x.st.c, .int .u64 x.st.d, .slice ak x.ks.length ck] 55) = W at *
   generalize hg0 : w.heap.size = g0 at *
   have HXC : Hid (∀ u, Kp W u → XC u g0 0 x.op x.a x.r x.b ao x.ns.length cap x.st ak x.ks.length ck) := Lib.hid (fun u hu => XC.of_blk (HX0.out.keep hu))
   obtain ⟨y0, y1, y2, y3, y4, y5, y6, y7, y8, y9⟩ := (HXC.out W Kp.rfl').cells
   clear y1 y2 y3 y4 y5 y6 y7 y8 y9
   go_upto_region 5 with fail
   refine wp_region_kp (by kernel_rfl) (by kernel_rfl) ?_
   repeat' (first | go_big_quiet_skip | (go_big_quiet_want; first | (go_big_quiet_op; first | go_big_quiet_on | (apply Exists.intro; refine ⟨fun w1 hC => ?_, ?_⟩; (first | (go_at_call 114; with_reducible exact hC.call_same (HKI.out _)) | (obtain ⟨y0, y1, y2, y3, y4, y5, y6, y7, y8, y9⟩ := (HXC.out w1 hC).cells; go_simp; exact rfl) | exact rfl | (go_simp; exact ⟨rfl, rfl⟩)); go_big_quiet_on))) | (cases bk <;> try simp only [Bool.not_true, Bool.not_false]) | (cases ba <;> try simp only [Bool.not_true, Bool.not_false]) | (cases br <;> try simp only [Bool.not_true, Bool.not_false]) | (cases bb <;> try simp only [Bool.not_true, Bool.not_false]) | (cases bn <;> try simp only [Bool.not_true, Bool.not_false]))
   all_goals refine wpQuiet_nil ?_
   all_goals intro W1 hC
   all_goals have HF := Lib.hid (HB.out.trans (hC.mono HLE.out))
   all_goals clear hC
   all_goals go_wp2_with fail
   all_goals go_ret
   all_goals exact ⟨ret_bool (by rw [← HR.out] <;> rfl), by first | exact HF.out | (rw [hg0]; exact HF.out)⟩
 by_cases h4 : x.op = 4
 · have hs : (if x.op = 2 ∨ x.op = 3 ∨ x.op = 4 then bk && (ba && (br && (bb && (bn && bs)))) else if x.op = 8 then bk0 && (bn && bs) else if x.op = 9 then bk0 && (br && (bb && bn)) else false) = fldB x.op x.a x.r x.b x.ns x.st x.ks.length := by rw [← hbk, ← hbk0, ← hba, ← hbr, ← hbb, ← hbn, ← hbs, ← hkm]; rfl
   have HR : Hid ((bk && (ba && (br && (bb && (bn && bs))))) = fldB x.op x.a x.r x.b x.ns x.st x.ks.length) := Lib.hid (by rw [← hs]; rw [if_pos (by omega)])
   generalize fldB x.op x.a x.r x.b x.ns x.st x.ks.length = R at *
   clear hs hkm
   have p2 : (x.op == 2) = false := by rw [h4]; rfl
   have p3 : (x.op == 3) = false := by rw [h4]; rfl
   have p4 : (x.op == 4) = true := by rw [h4]; rfl
   have p8 : (x.op == 8) = false := by rw [h4]; rfl
   have p9 : (x.op == 9) = false := by rw [h4]; rfl
   clear h2 h3 h4
   have HB : Hid (Below w.heap.size w (w.alloc (.cells #[.int .i64 x.op, .int .i64 x.a, .int .i64 x.r, .int .i64 x.b, .slice ao x.ns.length cap, .int .u64 x.st.a, .int .u64 x.st.b, .int .u64 x.st.c, .int .u64 x.st.d, .slice ak x.ks.length ck] 55))) := Lib.hid ((Below.refl _ _).alloc (Nat.le_refl _) _)
   have HX0 : Hid (Blk (w.alloc (.cells #[.int .i64 x.op, .int .i64 x.a, .int .i64 x.r, .int .i64 x.b, .slice ao x.ns.length cap, .int .u64 x.st.a, .int .u64 x.st.b, .int .u64 x.st.c, .int .u64 x.st.d, .slice ak x.ks.length ck] 55)) (w.heap.size) 55 #[.int .i64 x.op, .int .i64 x.a, .int .i64 x.r, .int .i64 x.b, .slice ao x.ns.length cap, .int .u64 x.st.a, .int .u64 x.st.b, .int .u64 x.st.c, .int .u64 x.st.d, .slice ak x.ks.length ck]) := Lib.hid (Blk.here (by simp))
   have HLE : Hid (w.heap.size ≤ (w.alloc (.cells #[.int .i64 x.op, .int .i64 x.a, .int .i64 x.r, .int .i64 x.b, .slice ao x.ns.length cap, .int .u64 x.st.a, .int .u64 x.st.b, .int .u64 x.st.c, .int .u64 x.st.d, .slice ak x.ks.length ck] 55)).heap.size) := Lib.hid HB.out.size
   go_enter Tryz.func115, Tryz.ntmps115
   go_upto_region 1 with fail
   generalize w.alloc (.cells #[.int .i64 x.op, .int .i64 x.a, .int .i64 x.r, .int .i64 x.b, .slice ao x.ns.length cap, .int .u64 x.st.a, .int .u64 x.st.b, .int .u64 x.st.c, .int .u64 x.st.d, .slice ak x.ks.length ck] 55) = W at *
   generalize hg0 : w.heap.size = g0 at *
   have HXC : Hid (∀ u, Kp W u → XC u g0 0 x.op x.a x.r x.b ao x.ns.length cap x.st ak x.ks.length ck) := Lib.hid (fun u hu => XC.of_blk (HX0.out.keep hu))
   obtain ⟨y0, y1, y2, y3, y4, y5, y6, y7, y8, y9⟩ := (HXC.out W Kp.rfl').cells
   clear y1 y2 y3 y4 y5 y6 y7 y8 y9
   go_upto_region 5 with fail
   refine wp_region_kp (by kernel_rfl) (by kernel_rfl) ?_
   repeat' (first | go_big_quiet_skip | (go_big_quiet_want; first | (go_big_quiet_op; first | go_big_quiet_on | (apply Exists.intro; refine ⟨fun w1 hC => ?_, ?_⟩; (first | (go_at_call 114; with_reducible exact hC.call_same (HKI.out _)) | (obtain ⟨y0, y1, y2, y3, y4, y5, y6, y7, y8, y9⟩ := (HXC.out w1 hC).cells; go_simp; exact rfl) | exact rfl | (go_simp; exact ⟨rfl, rfl⟩)); go_big_quiet_on))) | (cases bk <;> try simp only [Bool.not_true, Bool.not_false]) | (cases ba <;> try simp only [Bool.not_true, Bool.not_false]) | (cases br <;> try simp only [Bool.not_true, Bool.not_false]) | (cases bb <;> try simp only [Bool.not_true, Bool.not_false]) | (cases bn <;> try simp only [Bool.not_true, Bool.not_false]))
   all_goals refine wpQuiet_nil ?_
   all_goals intro W1 hC
   all_goals have HF := Lib.hid (HB.out.trans (hC.mono HLE.out))
   all_goals clear hC
   all_goals go_wp2_with fail
   all_goals go_ret
   all_goals exact ⟨ret_bool (by rw [← HR.out] <;> rfl), by first | exact HF.out | (rw [hg0]; exact HF.out)⟩
 by_cases h8 : x.op = 8
 · have hs : (if x.op = 2 ∨ x.op = 3 ∨ x.op = 4 then bk && (ba && (br && (bb && (bn && bs)))) else if x.op = 8 then bk0 && (bn && bs) else if x.op = 9 then bk0 && (br && (bb && bn)) else false) = fldB x.op x.a x.r x.b x.ns x.st x.ks.length := by rw [← hbk, ← hbk0, ← hba, ← hbr, ← hbb, ← hbn, ← hbs, ← hkm]; rfl
   have HR : Hid ((bk0 && (bn && bs)) = fldB x.op x.a x.r x.b x.ns x.st x.ks.length) := Lib.hid (by rw [← hs]; rw [if_neg (by omega), if_pos (by omega)])
   generalize fldB x.op x.a x.r x.b x.ns x.st x.ks.length = R at *
   clear hs hkm
   have p2 : (x.op == 2) = false := by rw [h8]; rfl
   have p3 : (x.op == 3) = false := by rw [h8]; rfl
   have p4 : (x.op == 4) = false := by rw [h8]; rfl
   have p8 : (x.op == 8) = true := by rw [h8]; rfl
   have p9 : (x.op == 9) = false := by rw [h8]; rfl
   clear h2 h3 h4 h8
   have HB : Hid (Below w.heap.size w (w.alloc (.cells #[.int .i64 x.op, .int .i64 x.a, .int .i64 x.r, .int .i64 x.b, .slice ao x.ns.length cap, .int .u64 x.st.a, .int .u64 x.st.b, .int .u64 x.st.c, .int .u64 x.st.d, .slice ak x.ks.length ck] 55))) := Lib.hid ((Below.refl _ _).alloc (Nat.le_refl _) _)
   have HX0 : Hid (Blk (w.alloc (.cells #[.int .i64 x.op, .int .i64 x.a, .int .i64 x.r, .int .i64 x.b, .slice ao x.ns.length cap, .int .u64 x.st.a, .int .u64 x.st.b, .int .u64 x.st.c, .int .u64 x.st.d, .slice ak x.ks.length ck] 55)) (w.heap.size) 55 #[.int .i64 x.op, .int .i64 x.a, .int .i64 x.r, .int .i64 x.b, .slice ao x.ns.length cap, .int .u64 x.st.a, .int .u64 x.st.b, .int .u64 x.st.c, .int .u64 x.st.d, .slice ak x.ks.length ck]) := Lib.hid (Blk.here (by simp))
   have HLE : Hid (w.heap.size ≤ (w.alloc (.cells #[.int .i64 x.op, .int .i64 x.a, .int .i64 x.r, .int .i64 x.b, .slice ao x.ns.length cap, .int .u64 x.st.a, .int .u64 x.st.b, .int .u64 x.st.c, .int .u64 x.st.d, .slice ak x.ks.length ck] 55)).heap.size) := Lib.hid HB.out.size
   go_enter Tryz.func115, Tryz.ntmps115
   go_upto_region 1 with fail
   generalize w.alloc (.cells #[.int .i64 x.op, .int .i64 x.a, .int .i64 x.r, .int .i64 x.b, .slice ao x.ns.length cap, .int .u64 x.st.a, .int .u64 x.st.b, .int .u64 x.st.c, .int .u64 x.st.d, .slice ak x.ks.length ck] 55) = W at *
   generalize hg0 : w.heap.size = g0 at *
   have HXC : Hid (∀ u, Kp W u → XC u g0 0 x.op x.a x.r x.b ao x.ns.length cap x.st ak x.ks.length ck) := Lib.hid (fun u hu => XC.of_blk (HX0.out.keep hu))
   obtain ⟨y0, y1, y2, y3, y4, y5, y6, y7, y8, y9⟩ := (HXC.out W Kp.rfl').cells
   clear y1 y2 y3 y4 y5 y6 y7 y8 y9
   go_upto_region 7 with fail
   refine wp_region_kq ?_
   repeat' (first | go_big_quiet_skip | (go_big_quiet_want; first | (go_big_quiet_op; first | go_big_quiet_on | (apply Exists.intro; refine ⟨fun w1 hC => ?_, ?_⟩; (first | (go_at_call 114; with_reducible exact hC.call_same (HKI.out _)) | (obtain ⟨y0, y1, y2, y3, y4, y5, y6, y7, y8, y9⟩ := (HXC.out w1 hC).cells; go_simp; exact rfl) | exact rfl | (go_simp; exact ⟨rfl, rfl⟩)); go_big_quiet_on))) | (cases bk0 <;> try simp only [Bool.not_true, Bool.not_false]) | (cases bn <;> try simp only [Bool.not_true, Bool.not_false]))
   all_goals refine wpQuiet_nil ?_
   all_goals intro W1 hC
   all_goals have HF := Lib.hid (HB.out.trans (hC.mono HLE.out))
   all_goals clear hC
   all_goals go_wp2_with fail
   all_goals go_ret
   all_goals exact ⟨ret_bool (by rw [← HR.out] <;> rfl), by first | exact HF.out | (rw [hg0]; exact HF.out)⟩
 by_cases h9 : x.op = 9
 · have hs : (if x.op = 2 ∨ x.op = 3 ∨ x.op = 4 then bk && (ba && (br && (bb && (bn && bs)))) else if x.op = 8 then bk0 && (bn && bs) else if x.op = 9 then bk0 && (br && (bb && bn)) else false) = fldB x.op x.a x.r x.b x.ns x.st x.ks.length := by rw [← hbk, ← hbk0, ← hba, ← hbr, ← hbb, ← hbn, ← hbs, ← hkm]; rfl
   have HR : Hid ((bk0 && (br && (bb && bn))) = fldB x.op x.a x.r x.b x.ns x.st x.ks.length) := Lib.hid (by rw [← hs]; rw [if_neg (by omega), if_neg (by omega), if_pos (by omega)])
   generalize fldB x.op x.a x.r x.b x.ns x.st x.ks.length = R at *
   clear hs hkm
   have p2 : (x.op == 2) = false := by rw [h9]; rfl
   have p3 : (x.op == 3) = false := by rw [h9]; rfl
   have p4 : (x.op == 4) = false := by rw [h9]; rfl
   have p8 : (x.op == 8) = false := by rw [h9]; rfl
   have p9 : (x.op == 9) = true := by rw [h9]; rfl
   clear h2 h3 h4 h8 h9
   have HB : Hid (Below w.heap.size w (w.alloc (.cells #[.int .i64 x.op, .int .i64 x.a, .int .i64 x.r, .int .i64 x.b, .slice ao x.ns.length cap, .int .u64 x.st.a, .int .u64 x.st.b, .int .u64 x.st.c, .int .u64 x.st.d, .slice ak x.ks.length ck] 55))) := Lib.hid ((Below.refl _ _).alloc (Nat.le_refl _) _)
   have HX0 : Hid (Blk (w.alloc (.cells #[.int .i64 x.op, .int .i64 x.a, .int .i64 x.r, .int .i64 x.b, .slice ao x.ns.length cap, .int .u64 x.st.a, .int .u64 x.st.b, .int .u64 x.st.c, .int .u64 x.st.d, .slice ak x.ks.length ck] 55)) (w.heap.size) 55 #[.int .i64 x.op, .int .i64 x.a, .int .i64 x.r, .int .i64 x.b, .slice ao x.ns.length cap, .int .u64 x.st.a, .int .u64 x.st.b, .int .u64 x.st.c, .int .u64 x.st.d, .slice ak x.ks.length ck]) := Lib.hid (Blk.here (by simp))
   have HLE : Hid (w.heap.size ≤ (w.alloc (.cells #[.int .i64 x.op, .int .i64 x.a, .int .i64 x.r, .int .i64 x.b, .slice ao x.ns.length cap, .int .u64 x.st.a, .int .u64 x.st.b, .int .u64 x.st.c, .int .u64 x.st.d, .slice ak x.ks.length ck] 55)).heap.size) := Lib.hid HB.out.size
   go_enter Tryz.func115, Tryz.ntmps115
   go_upto_region 1 with fail
   generalize w.alloc (.cells #[.int .i64 x.op, .int .i64 x.a, .int .i64 x.r, .int .i64 x.b, .slice ao x.ns.length cap, .int .u64 x.st.a, .int .u64 x.st.b, .int .u64 x.st.c, .int .u64 x.st.d, .slice ak x.ks.length ck] 55) = W at *
   generalize hg0 : w.heap.size = g0 at *
   have HXC : Hid (∀ u, Kp W u → XC u g0 0 x.op x.a x.r x.b ao x.ns.length cap x.st ak x.ks.length ck) := Lib.hid (fun u hu => XC.of_blk (HX0.out.keep hu))
   obtain ⟨y0, y1, y2, y3, y4, y5, y6, y7, y8, y9⟩ := (HXC.out W Kp.rfl').cells
   clear y1 y2 y3 y4 y5 y6 y7 y8 y9
   go_upto_region 9 with fail
   refine wp_region_kq ?_
   repeat' (first | go_big_quiet_skip | (go_big_quiet_want; first | (go_big_quiet_op; first | go_big_quiet_on | (apply Exists.intro; refine ⟨fun w1 hC => ?_, ?_⟩; (first | (go_at_call 114; with_reducible exact hC.call_same (HKI.out _)) | (obtain ⟨y0, y1, y2, y3, y4, y5, y6, y7, y8, y9⟩ := (HXC.out w1 hC).cells; go_simp; exact rfl) | exact rfl | (go_simp; exact ⟨rfl, rfl⟩)); go_big_quiet_on))) | (cases bk0 <;> try simp only [Bool.not_true, Bool.not_false]) | (cases br <;> try simp only [Bool.not_true, Bool.not_false]) | (cases bb <;> try simp only [Bool.not_true, Bool.not_false]))
   all_goals refine wpQuiet_nil ?_
   all_goals intro W1 hC
   all_goals have HF := Lib.hid (HB.out.trans (hC.mono HLE.out))
   all_goals clear hC
   all_goals go_wp2_with fail
   all_goals go_ret
   all_goals exact ⟨ret_bool (by rw [← HR.out] <;> rfl), by first | exact HF.out | (rw [hg0]; exact HF.out)⟩
 have hs : (if x.op = 2 ∨ x.op = 3 ∨ x.op = 4 then bk && (ba && (br && (bb && (bn && bs)))) else if x.op = 8 then bk0 && (bn && bs) else if x.op = 9 then bk0 && (br && (bb && bn)) else false) = fldB x.op x.a x.r x.b x.ns x.st x.ks.length := by rw [← hbk, ← hbk0, ← hba, ← hbr, ← hbb, ← hbn, ← hbs, ← hkm]; rfl
 have HR : Hid ((false) = fldB x.op x.a x.r x.b x.ns x.st x.ks.length) := Lib.hid (by rw [← hs]; rw [if_neg (by omega), if_neg (by omega), if_neg (by omega)])
 generalize fldB x.op x.a x.r x.b x.ns x.st x.ks.length = R at *
 clear hs hkm
 have p2 : (x.op == 2) = false := by simpa using h2
 have p3 : (x.op == 3) = false := by simpa using h3
 have p4 : (x.op == 4) = false := by simpa using h4
 have p8 : (x.op == 8) = false := by simpa using h8
 have p9 : (x.op == 9) = false := by simpa using h9
 clear h2 h3 h4 h8 h9
 have HB : Hid (Below w.heap.size w (w.alloc (.cells #[.int .i64 x.op, .int .i64 x.a, .int .i64 x.r, .int .i64 x.b, .slice ao x.ns.length cap, .int .u64 x.st.a, .int .u64 x.st.b, .int .u64 x.st.c, .int .u64 x.st.d, .slice ak x.ks.length ck] 55))) := Lib.hid ((Below.refl _ _).alloc (Nat.le_refl _) _)
 have HX0 : Hid (Blk (w.alloc (.cells #[.int .i64 x.op, .int .i64 x.a, .int .i64 x.r, .int .i64 x.b, .slice ao x.ns.length cap, .int .u64 x.st.a, .int .u64 x.st.b, .int .u64 x.st.c, .int .u64 x.st.d, .slice ak x.ks.length ck] 55)) (w.heap.size) 55 #[.int .i64 x.op, .int .i64 x.a, .int .i64 x.r, .int .i64 x.b, .slice ao x.ns.length cap, .int .u64 x.st.a, .int .u64 x.st.b, .int .u64 x.st.c, .int .u64 x.st.d, .slice ak x.ks.length ck]) := Lib.hid (Blk.here (by simp))
 have HLE : Hid (w.heap.size ≤ (w.alloc (.cells #[.int .i64 x.op, .int .i64 x.a, .int .i64 x.r, .int .i64 x.b, .slice ao x.ns.length cap, .int .u64 x.st.a, .int .u64 x.st.b, .int .u64 x.st.c, .int .u64 x.st.d, .slice ak x.ks.length ck] 55)).heap.size) := Lib.hid HB.out.size
 go_enter Tryz.func115, Tryz.ntmps115
 go_upto_region 1 with fail
 generalize w.alloc (.cells #[.int .i64 x.op, .int .i64 x.a, .int .i64 x.r, .int .i64 x.b, .slice ao x.ns.length cap, .int .u64 x.st.a, .int .u64 x.st.b, .int .u64 x.st.c, .int .u64 x.st.d, .slice ak x.ks.length ck] 55) = W at *
 generalize hg0 : w.heap.size = g0 at *
 have HXC : Hid (∀ u, Kp W u → XC u g0 0 x.op x.a x.r x.b ao x.ns.length cap x.st ak x.ks.length ck) := Lib.hid (fun u hu => XC.of_blk (HX0.out.keep hu))
 obtain ⟨y0, y1, y2, y3, y4, y5, y6, y7, y8, y9⟩ := (HXC.out W Kp.rfl').cells
 clear y1 y2 y3 y4 y5 y6 y7 y8 y9
 go_wp2_with fail
 go_ret
 exact ⟨ret_bool (by rw [← HR.out]), by first | exact HB.out | (rw [hg0]; exact HB.out)⟩
set_option maxRecDepth 100000 in
set_option maxHeartbeats 16000000 in
theorem ncompare_c (x : X) (n : Int) (vn vk : Value) (w : World) (hV : XV w vn vk x) : Calls Tryz.prog 116 #[.agg #[.int .i64 x.op, .int .i64 x.a, .int .i64 x.r, .int .i64 x.b, vn, .int .u64 x.st.a, .int .u64 x.st.b, .int .u64 x.st.c, .int .u64 x.st.d, vk], .int .i64 n] w fun e w' => e = .returned (.int .i64 (cmpX x.a x.r x.b n)) ∧ Below w.heap.size w w' := by
 obtain ⟨ao, cap, ak, ck, rfl, rfl⟩ := hV.form
 clear hV
 obtain ⟨ma, hma⟩ : ∃ m, x.a.tmod 5 = m := ⟨_, rfl⟩
 obtain ⟨mb, hmb⟩ : ∃ m, x.b.tmod 5 = m := ⟨_, rfl⟩
 obtain ⟨b1, hb1⟩ : ∃ z, bel x.a n = z := ⟨_, rfl⟩
 obtain ⟨b2, hb2⟩ : ∃ z, bel x.b n = z := ⟨_, rfl⟩
 obtain ⟨b3, hb3⟩ : ∃ z, bel x.r 5 = z := ⟨_, rfl⟩
 obtain ⟨b4, hb4⟩ : ∃ z, decide ((3 : Int) ≤ ma) = z := ⟨_, rfl⟩
 obtain ⟨b5, hb5⟩ : ∃ z, decide ((3 : Int) ≤ mb) = z := ⟨_, rfl⟩
 obtain ⟨b6, hb6⟩ : ∃ z, (ma == mb) = z := ⟨_, rfl⟩
 obtain ⟨b7, hb7⟩ : ∃ z, decide ((1 : Int) < x.r) = z := ⟨_, rfl⟩
 have HR : Hid ((if b1 = false then 3 else if b2 = false then 3 else if b3 = false then 3 else if (b4 && b5) = true then 0 else if b6 = false then 13 else if b7 = true then 13 else 0) = cmpX x.a x.r x.b n) := Lib.hid (by rw [← hb1, ← hb2, ← hb3, ← hb4, ← hb5, ← hb6, ← hb7, ← hma, ← hmb]; rfl)
 generalize cmpX x.a x.r x.b n = R at *
 have HB1 : Hid (∀ u, Calls Tryz.prog 60 #[.int .i64 x.a, .int .i64 n] u fun e w' => e = .returned (.bool b1) ∧ w' = u) := Lib.hid (fun u => by rw [← hb1]; exact nbel_c _ _ u)
 have HB2 : Hid (∀ u, Calls Tryz.prog 60 #[.int .i64 x.b, .int .i64 n] u fun e w' => e = .returned (.bool b2) ∧ w' = u) := Lib.hid (fun u => by rw [← hb2]; exact nbel_c _ _ u)
 have HB3 : Hid (∀ u, Calls Tryz.prog 60 #[.int .i64 x.r, .int .i64 5] u fun e w' => e = .returned (.bool b3) ∧ w' = u) := Lib.hid (fun u => by rw [← hb3]; exact nbel_c _ _ u)
 have hb6n : (ma != mb) = !b6 := by rw [bne, hb6]
 clear hb1 hb2 hb3
 obtain ⟨W, ZW⟩ : ∃ v, Hid ((w.alloc (.cells #[.int .i64 x.op, .int .i64 x.a, .int .i64 x.r, .int .i64 x.b, .slice ao x.ns.length cap, .int .u64 x.st.a, .int .u64 x.st.b, .int .u64 x.st.c, .int .u64 x.st.d, .slice ak x.ks.length ck] 55)) = v) := ⟨_, Lib.hid rfl⟩
 have HB : Hid (Below w.heap.size w W) := by cases ZW.out; exact Lib.hid ((Below.refl _ _).alloc (Nat.le_refl _) _)
 have HX0 : Hid (Blk W (w.heap.size) 55 #[.int .i64 x.op, .int .i64 x.a, .int .i64 x.r, .int .i64 x.b, .slice ao x.ns.length cap, .int .u64 x.st.a, .int .u64 x.st.b, .int .u64 x.st.c, .int .u64 x.st.d, .slice ak x.ks.length ck]) := by cases ZW.out; exact Lib.hid (Blk.here (by simp))
 have HLE : Hid (w.heap.size ≤ W.heap.size) := by cases ZW.out; exact Lib.hid HB.out.size
 go_enter Tryz.func116, Tryz.ntmps116
 go_upto_region 1 with fail
 rw [ZW.out]
 generalize hg0 : w.heap.size = g0 at *
 have HXC : Hid (∀ u, Kp W u → XC u g0 0 x.op x.a x.r x.b ao x.ns.length cap x.st ak x.ks.length ck) := Lib.hid (fun u hu => XC.of_blk (HX0.out.keep hu))
 refine wp_region_kq ?_
 repeat' (first | go_big_quiet_skip | (go_big_quiet_want; first | (go_big_quiet_op; first | go_big_quiet_on | (apply Exists.intro; refine ⟨fun w1 hC => ?_, ?_⟩; (first | (go_at_call 60; with_reducible exact hC.call_same (HB1.out _)) | (go_at_call 60; with_reducible exact hC.call_same (HB2.out _)) | (go_at_call 60; with_reducible exact hC.call_same (HB3.out _)) | (obtain ⟨y0, y1, y2, y3, y4, y5, y6, y7, y8, y9⟩ := (HXC.out w1 hC).cells; go_simp; exact rfl) | exact rfl | (go_simp; exact ⟨rfl, rfl⟩)); go_big_quiet_on))) | (cases b1 <;> try simp only [Bool.not_true, Bool.not_false]) | (cases b2 <;> try simp only [Bool.not_true, Bool.not_false]) | (cases b3 <;> try simp only [Bool.not_true, Bool.not_false]))
 all_goals refine wpQuiet_nil ?_
 all_goals intro W1 hC
 all_goals have HF := Lib.hid (HB.out.trans (hC.mono HLE.out))
 all_goals have HXD : Hid (∀ u, Kp W1 u → Kp W u) := Lib.hid (fun u hu => kp_trans hC hu)
 all_goals clear hC
 all_goals first
  | (go_wp2_with fail; go_ret; exact ⟨by rw [← HR.out] <;> rfl, by first | exact HF.out | (rw [hg0]; exact HF.out)⟩)
  | (obtain ⟨y0, y1, y2, y3, y4, y5, y6, y7, y8, y9⟩ := (HXC.out W1 (HXD.out _ Kp.rfl')).cells
     cases b4 <;> cases b5 <;> cases b6 <;> cases b7
     all_goals simp only [Bool.not_true, Bool.not_false] at hb6n
     all_goals go_upto_region 3 with fail
     all_goals refine wp_region_kp (by kernel_rfl) (by kernel_rfl) ?_
     repeat' (first | go_big_quiet_skip | (go_big_quiet_want; first | (go_big_quiet_op; first | go_big_quiet_on | (apply Exists.intro; refine ⟨fun w1 hC => ?_, ?_⟩; (first | (obtain ⟨y0, y1, y2, y3, y4, y5, y6, y7, y8, y9⟩ := (HXC.out w1 (HXD.out _ hC)).cells; go_simp; exact rfl) | exact rfl | (go_simp; exact ⟨rfl, rfl⟩)); go_big_quiet_on))))
     all_goals refine wpQuiet_nil ?_
     all_goals intro W2 hC
     all_goals have HF := Lib.hid (HB.out.trans ((HXD.out _ hC).mono HLE.out))
     all_goals obtain ⟨y0, y1, y2, y3, y4, y5, y6, y7, y8, y9⟩ := (HXC.out W2 (HXD.out _ hC)).cells
     all_goals clear hC
     all_goals (go_wp2_with fail; go_ret; exact ⟨by rw [← HR.out] <;> rfl, by first | exact HF.out | (rw [hg0]; exact HF.out)⟩))
end Go.Proofs.YtbhoofihnmmmfabGreat
