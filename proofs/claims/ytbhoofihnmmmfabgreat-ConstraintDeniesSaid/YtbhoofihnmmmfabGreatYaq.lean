/- Part of the proof: Cv2 Cv3 Cv4 Cv8. No conditions. -/
import Derived.Test.YtbhoofihnmmmfabGreatYap
namespace Go.Proofs.YtbhoofihnmmmfabGreat
open Go.RowKit Go
set_option maxRecDepth 100000 in
set_option maxHeartbeats 32000000 in
theorem rv2 (c : Ca) (n : Nat) (ih : ∀ (x : X) (vn vk : Value) (w : World), okW n x → XV w vn vk x → Calls Tryz.prog 46 #[.agg #[.int .i64 x.op, .int .i64 x.a, .int .i64 x.r, .int .i64 x.b, vn, .int .u64 x.st.a, .int .u64 x.st.b, .int .u64 x.st.c, .int .u64 x.st.d, vk], .agg #[.int .i64 c.c1.u, .int .i64 c.c1.ro, .int .i64 c.c1.ty, .int .i64 c.c1.lo.s, .int .u64 c.c1.lo.c, .int .i64 c.c1.hi.s, .int .u64 c.c1.hi.c, .int .i64 c.c2.u, .int .i64 c.c2.ro, .int .i64 c.c2.ty, .int .i64 c.c2.lo.s, .int .u64 c.c2.lo.c, .int .i64 c.c2.hi.s, .int .u64 c.c2.hi.c, .int .i64 c.c3.u, .int .i64 c.c3.ro, .int .i64 c.c3.ty, .int .i64 c.c3.lo.s, .int .u64 c.c3.lo.c, .int .i64 c.c3.hi.s, .int .u64 c.c3.hi.c]] w fun e w' => e = .returned (.bool (valX c n x)) ∧ Below w.heap.size w w') (x : X) (vn vk : Value) (w : World) (hok : okW (n + 1) x) (hV : XV w vn vk x) (hop : x.op = 2) (hlen : x.ks.length = 1) :
 Calls Tryz.prog 46 #[.agg #[.int .i64 x.op, .int .i64 x.a, .int .i64 x.r, .int .i64 x.b, vn, .int .u64 x.st.a, .int .u64 x.st.b, .int .u64 x.st.c, .int .u64 x.st.d, vk], .agg #[.int .i64 c.c1.u, .int .i64 c.c1.ro, .int .i64 c.c1.ty, .int .i64 c.c1.lo.s, .int .u64 c.c1.lo.c, .int .i64 c.c1.hi.s, .int .u64 c.c1.hi.c, .int .i64 c.c2.u, .int .i64 c.c2.ro, .int .i64 c.c2.ty, .int .i64 c.c2.lo.s, .int .u64 c.c2.lo.c, .int .i64 c.c2.hi.s, .int .u64 c.c2.hi.c, .int .i64 c.c3.u, .int .i64 c.c3.ro, .int .i64 c.c3.ty, .int .i64 c.c3.lo.s, .int .u64 c.c3.lo.c, .int .i64 c.c3.hi.s, .int .u64 c.c3.hi.c]] w fun e w' => e = .returned (.bool (valX c (n + 1) x)) ∧ Below w.heap.size w w' := by
 obtain ⟨-, hk8, hk9, hks⟩ := hok
 have HIH := Lib.hid ih
 have HKS := Lib.hid hks
 obtain ⟨ao, cap, ak, ck, rfl, rfl⟩ := hV.form
 have HK := Lib.hid hV.ks
 have hu : valX c (n + 1) x = if x.op = 2 then !valX c n (kidX x 0) else if x.op = 3 then valX c n (kidX x 0) && valX c n (kidX x 1) else if x.op = 4 then valX c n (kidX x 0) || valX c n (kidX x 1) else if x.op = 9 then hasS x.st (rdX c x.a.toNat).s else relX (rdX c x.a.toNat) x.r (rdX c x.b.toNat) := rfl
 rw [hu]
 have HKID : Hid (∀ (i : Nat) (hi : i < x.ks.length), ∃ g' o', ak = some ⟨g', o', none⟩ ∧ g' < w.heap.size ∧ ∃ ao2 cap2 ak2 ck2, (∀ W, Below w.heap.size w W → XC W g' (o' + i * 10) (kidX x i).op (kidX x i).a (kidX x i).r (kidX x i).b ao2 (kidX x i).ns.length cap2 (kidX x i).st ak2 (kidX x i).ks.length ck2) ∧ ∀ W, Below w.heap.size w W → Calls Tryz.prog 46 #[.agg #[.int .i64 (kidX x i).op, .int .i64 (kidX x i).a, .int .i64 (kidX x i).r, .int .i64 (kidX x i).b, .slice ao2 (kidX x i).ns.length cap2, .int .u64 (kidX x i).st.a, .int .u64 (kidX x i).st.b, .int .u64 (kidX x i).st.c, .int .u64 (kidX x i).st.d, .slice ak2 (kidX x i).ks.length ck2], .agg #[.int .i64 c.c1.u, .int .i64 c.c1.ro, .int .i64 c.c1.ty, .int .i64 c.c1.lo.s, .int .u64 c.c1.lo.c, .int .i64 c.c1.hi.s, .int .u64 c.c1.hi.c, .int .i64 c.c2.u, .int .i64 c.c2.ro, .int .i64 c.c2.ty, .int .i64 c.c2.lo.s, .int .u64 c.c2.lo.c, .int .i64 c.c2.hi.s, .int .u64 c.c2.hi.c, .int .i64 c.c3.u, .int .i64 c.c3.ro, .int .i64 c.c3.ty, .int .i64 c.c3.lo.s, .int .u64 c.c3.lo.c, .int .i64 c.c3.hi.s, .int .u64 c.c3.hi.c]] W fun e w' => e = .returned (.bool (valX c n (kidX x i))) ∧ Below W.heap.size W w') := Lib.hid fun i hi => by
  obtain ⟨g', o', hak, hg', hR⟩ := HK.out.row hi
  have hA := hR i hi
  rw [← kid_at hi] at hA
  obtain ⟨ao2, cap2, ak2, ck2, hc2, hv2⟩ := hA.xv
  refine ⟨g', o', hak, hg', ao2, cap2, ak2, ck2, fun W hW => hc2.keep (hW.block g' hg'), fun W hW => ?_⟩
  refine HIH.out _ _ _ W ?_ (hv2.keep hW)
  rw [kid_at hi]
  exact HKS.out _ (List.getElem_mem hi)
 clear ih hks hu hV
 have p2 : (x.op == 2) = true := by rw [hop]; rfl
 have p3 : (x.op == 3) = false := by rw [hop]; rfl
 have p4 : (x.op == 4) = false := by rw [hop]; rfl
 have p9 : (x.op == 9) = false := by rw [hop]; rfl
 rw [if_pos hop]
 obtain ⟨g0, o0, hak0, hg0, ao0, cap0, ak0, ck0, HXK0, HV0⟩ := HKID.out 0 (by omega)
 subst hak0
 rw [Nat.zero_mul, Nat.add_zero] at HXK0
 have HXK0 := Lib.hid HXK0
 have HV0 := Lib.hid HV0
 generalize kidX x 0 = k0 at *
 obtain ⟨v0, hv0⟩ : ∃ v, valX c n k0 = v := ⟨_, rfl⟩
 rw [hv0] at HV0 ⊢
 clear hv0
 rw [hlen]
 obtain ⟨W, ZW⟩ : ∃ v, Hid (((w.alloc (.cells #[.int .i64 x.op, .int .i64 x.a, .int .i64 x.r, .int .i64 x.b, .slice ao x.ns.length cap, .int .u64 x.st.a, .int .u64 x.st.b, .int .u64 x.st.c, .int .u64 x.st.d, .slice (some ⟨g0, o0, none⟩) 1 ck] 55)).alloc (.cells #[.int .i64 c.c1.u, .int .i64 c.c1.ro, .int .i64 c.c1.ty, .int .i64 c.c1.lo.s, .int .u64 c.c1.lo.c, .int .i64 c.c1.hi.s, .int .u64 c.c1.hi.c, .int .i64 c.c2.u, .int .i64 c.c2.ro, .int .i64 c.c2.ty, .int .i64 c.c2.lo.s, .int .u64 c.c2.lo.c, .int .i64 c.c2.hi.s, .int .u64 c.c2.hi.c, .int .i64 c.c3.u, .int .i64 c.c3.ro, .int .i64 c.c3.ty, .int .i64 c.c3.lo.s, .int .u64 c.c3.lo.c, .int .i64 c.c3.hi.s, .int .u64 c.c3.hi.c] 48)) = v) := ⟨_, Lib.hid rfl⟩
 have HXC : Hid (XC W w.heap.size 0 x.op x.a x.r x.b ao x.ns.length cap x.st (some ⟨g0, o0, none⟩) 1 ck) := by cases ZW.out; exact Lib.hid (XC.of_blk ((Blk.new w _ _).alloc _))
 have HC : Hid (Blk W (w.heap.size + 1) 48 #[.int .i64 c.c1.u, .int .i64 c.c1.ro, .int .i64 c.c1.ty, .int .i64 c.c1.lo.s, .int .u64 c.c1.lo.c, .int .i64 c.c1.hi.s, .int .u64 c.c1.hi.c, .int .i64 c.c2.u, .int .i64 c.c2.ro, .int .i64 c.c2.ty, .int .i64 c.c2.lo.s, .int .u64 c.c2.lo.c, .int .i64 c.c2.hi.s, .int .u64 c.c2.hi.c, .int .i64 c.c3.u, .int .i64 c.c3.ro, .int .i64 c.c3.ty, .int .i64 c.c3.lo.s, .int .u64 c.c3.lo.c, .int .i64 c.c3.hi.s, .int .u64 c.c3.hi.c]) := by cases ZW.out; exact Lib.hid (two_new' _ _ _ _)
 have HB : Hid (Below w.heap.size w W) := by cases ZW.out; exact Lib.hid (((Below.refl _ _).alloc (Nat.le_refl _) _).alloc (by simp) _)
 have HG : Hid (w.heap.size < W.heap.size) := by cases ZW.out; exact Lib.hid (by simp; omega)
 clear hop hlen hk8 hk9 HKID HK HKS HIH
 go_enter Tryz.func46, Tryz.ntmps46
 go_upto_region 1 with fail
 rw [ZW.out]
 have HLE : Hid (w.heap.size ≤ W.heap.size) := Lib.hid HB.out.size
 generalize w.heap.size + 1 = gc at *
 generalize hge : w.heap.size = ge at *
 obtain ⟨y0, y1, y2, y3, y4, y5, y6, y7, y8, y9⟩ := HXC.out.cells
 go_upto_region 3 with fail
 clear y0 y1 y2 y3 y4 y5 y6 y7 y8 y9
 refine wp_region_kp (by kernel_rfl) (by kernel_rfl) ?_
 repeat (first | go_big_quiet_skip | (go_big_quiet_want; first | (refine quiet_load _ rfl rfl (fun w1 hC => loadAt_case (Blk.keep HC.out hC)) ?_; simp only [Act.put, List.setIfInBounds_toArray, List.set_cons_succ, List.set_cons_zero]; go_big_quiet_on) | (go_big_quiet_op; first | go_big_quiet_on | (apply Exists.intro; refine ⟨fun w1 hC => ?_, ?_⟩; (first | (go_at_call 46; with_reducible exact hC.call (HV0.out _ (kpb HB.out HLE.out hC))) | (go_simp; exact ⟨rfl, rfl⟩) | (obtain ⟨y0, y1, y2, y3, y4, y5, y6, y7, y8, y9⟩ := (HXC.out.keep (Below.block hC ge HG.out)).cells; obtain ⟨z0, z1, z2, z3, z4, z5, z6, z7, z8, z9⟩ := (HXK0.out _ (HB.out.trans (hC.mono HLE.out))).cells; go_simp; exact rfl)); go_big_quiet_on))))
 refine wpQuiet_nil ?_
 intro W1 hC
 have HCC := Lib.hid (HB.out.trans (hC.mono HLE.out))
 clear hC
 go_wp2_with fail
 go_ret
 exact ⟨rfl, by first | exact HCC.out | (rw [hge]; exact HCC.out)⟩
open Go.RowKit Go
set_option maxRecDepth 100000 in
set_option maxHeartbeats 32000000 in
theorem rv3 (c : Ca) (n : Nat) (ih : ∀ (x : X) (vn vk : Value) (w : World), okW n x → XV w vn vk x → Calls Tryz.prog 46 #[.agg #[.int .i64 x.op, .int .i64 x.a, .int .i64 x.r, .int .i64 x.b, vn, .int .u64 x.st.a, .int .u64 x.st.b, .int .u64 x.st.c, .int .u64 x.st.d, vk], .agg #[.int .i64 c.c1.u, .int .i64 c.c1.ro, .int .i64 c.c1.ty, .int .i64 c.c1.lo.s, .int .u64 c.c1.lo.c, .int .i64 c.c1.hi.s, .int .u64 c.c1.hi.c, .int .i64 c.c2.u, .int .i64 c.c2.ro, .int .i64 c.c2.ty, .int .i64 c.c2.lo.s, .int .u64 c.c2.lo.c, .int .i64 c.c2.hi.s, .int .u64 c.c2.hi.c, .int .i64 c.c3.u, .int .i64 c.c3.ro, .int .i64 c.c3.ty, .int .i64 c.c3.lo.s, .int .u64 c.c3.lo.c, .int .i64 c.c3.hi.s, .int .u64 c.c3.hi.c]] w fun e w' => e = .returned (.bool (valX c n x)) ∧ Below w.heap.size w w') (x : X) (vn vk : Value) (w : World) (hok : okW (n + 1) x) (hV : XV w vn vk x) (hop : x.op = 3) (hlen : x.ks.length = 2) :
 Calls Tryz.prog 46 #[.agg #[.int .i64 x.op, .int .i64 x.a, .int .i64 x.r, .int .i64 x.b, vn, .int .u64 x.st.a, .int .u64 x.st.b, .int .u64 x.st.c, .int .u64 x.st.d, vk], .agg #[.int .i64 c.c1.u, .int .i64 c.c1.ro, .int .i64 c.c1.ty, .int .i64 c.c1.lo.s, .int .u64 c.c1.lo.c, .int .i64 c.c1.hi.s, .int .u64 c.c1.hi.c, .int .i64 c.c2.u, .int .i64 c.c2.ro, .int .i64 c.c2.ty, .int .i64 c.c2.lo.s, .int .u64 c.c2.lo.c, .int .i64 c.c2.hi.s, .int .u64 c.c2.hi.c, .int .i64 c.c3.u, .int .i64 c.c3.ro, .int .i64 c.c3.ty, .int .i64 c.c3.lo.s, .int .u64 c.c3.lo.c, .int .i64 c.c3.hi.s, .int .u64 c.c3.hi.c]] w fun e w' => e = .returned (.bool (valX c (n + 1) x)) ∧ Below w.heap.size w w' := by
 obtain ⟨-, hk8, hk9, hks⟩ := hok
 have HIH := Lib.hid ih
 have HKS := Lib.hid hks
 obtain ⟨ao, cap, ak, ck, rfl, rfl⟩ := hV.form
 have HK := Lib.hid hV.ks
 have hu : valX c (n + 1) x = if x.op = 2 then !valX c n (kidX x 0) else if x.op = 3 then valX c n (kidX x 0) && valX c n (kidX x 1) else if x.op = 4 then valX c n (kidX x 0) || valX c n (kidX x 1) else if x.op = 9 then hasS x.st (rdX c x.a.toNat).s else relX (rdX c x.a.toNat) x.r (rdX c x.b.toNat) := rfl
 rw [hu]
 have HKID : Hid (∀ (i : Nat) (hi : i < x.ks.length), ∃ g' o', ak = some ⟨g', o', none⟩ ∧ g' < w.heap.size ∧ ∃ ao2 cap2 ak2 ck2, (∀ W, Below w.heap.size w W → XC W g' (o' + i * 10) (kidX x i).op (kidX x i).a (kidX x i).r (kidX x i).b ao2 (kidX x i).ns.length cap2 (kidX x i).st ak2 (kidX x i).ks.length ck2) ∧ ∀ W, Below w.heap.size w W → Calls Tryz.prog 46 #[.agg #[.int .i64 (kidX x i).op, .int .i64 (kidX x i).a, .int .i64 (kidX x i).r, .int .i64 (kidX x i).b, .slice ao2 (kidX x i).ns.length cap2, .int .u64 (kidX x i).st.a, .int .u64 (kidX x i).st.b, .int .u64 (kidX x i).st.c, .int .u64 (kidX x i).st.d, .slice ak2 (kidX x i).ks.length ck2], .agg #[.int .i64 c.c1.u, .int .i64 c.c1.ro, .int .i64 c.c1.ty, .int .i64 c.c1.lo.s, .int .u64 c.c1.lo.c, .int .i64 c.c1.hi.s, .int .u64 c.c1.hi.c, .int .i64 c.c2.u, .int .i64 c.c2.ro, .int .i64 c.c2.ty, .int .i64 c.c2.lo.s, .int .u64 c.c2.lo.c, .int .i64 c.c2.hi.s, .int .u64 c.c2.hi.c, .int .i64 c.c3.u, .int .i64 c.c3.ro, .int .i64 c.c3.ty, .int .i64 c.c3.lo.s, .int .u64 c.c3.lo.c, .int .i64 c.c3.hi.s, .int .u64 c.c3.hi.c]] W fun e w' => e = .returned (.bool (valX c n (kidX x i))) ∧ Below W.heap.size W w') := Lib.hid fun i hi => by
  obtain ⟨g', o', hak, hg', hR⟩ := HK.out.row hi
  have hA := hR i hi
  rw [← kid_at hi] at hA
  obtain ⟨ao2, cap2, ak2, ck2, hc2, hv2⟩ := hA.xv
  refine ⟨g', o', hak, hg', ao2, cap2, ak2, ck2, fun W hW => hc2.keep (hW.block g' hg'), fun W hW => ?_⟩
  refine HIH.out _ _ _ W ?_ (hv2.keep hW)
  rw [kid_at hi]
  exact HKS.out _ (List.getElem_mem hi)
 clear ih hks hu hV
 have p2 : (x.op == 2) = false := by rw [hop]; rfl
 have p3 : (x.op == 3) = true := by rw [hop]; rfl
 have p4 : (x.op == 4) = false := by rw [hop]; rfl
 have p9 : (x.op == 9) = false := by rw [hop]; rfl
 rw [if_neg (by omega), if_pos hop]
 obtain ⟨g0, o0, hak0, hg0, ao0, cap0, ak0, ck0, HXK0, HV0⟩ := HKID.out 0 (by omega)
 obtain ⟨g1, o1, hak1, hg1, ao1, cap1, ak1, ck1, HXK1, HV1⟩ := HKID.out 1 (by omega)
 rw [hak0] at hak1
 obtain ⟨rfl, rfl⟩ : g0 = g1 ∧ o0 = o1 := by simpa using hak1
 subst hak0
 rw [Nat.zero_mul, Nat.add_zero] at HXK0
 rw [Nat.one_mul] at HXK1
 have HXK0 := Lib.hid HXK0
 have HV0 := Lib.hid HV0
 generalize kidX x 0 = k0 at *
 obtain ⟨v0, hv0⟩ : ∃ v, valX c n k0 = v := ⟨_, rfl⟩
 rw [hv0] at HV0 ⊢
 clear hv0
 have HXK1 := Lib.hid HXK1
 have HV1 := Lib.hid HV1
 generalize kidX x 1 = k1 at *
 obtain ⟨v1, hv1⟩ : ∃ v, valX c n k1 = v := ⟨_, rfl⟩
 rw [hv1] at HV1 ⊢
 clear hv1
 rw [hlen]
 obtain ⟨W, ZW⟩ : ∃ v, Hid (((w.alloc (.cells #[.int .i64 x.op, .int .i64 x.a, .int .i64 x.r, .int .i64 x.b, .slice ao x.ns.length cap, .int .u64 x.st.a, .int .u64 x.st.b, .int .u64 x.st.c, .int .u64 x.st.d, .slice (some ⟨g0, o0, none⟩) 2 ck] 55)).alloc (.cells #[.int .i64 c.c1.u, .int .i64 c.c1.ro, .int .i64 c.c1.ty, .int .i64 c.c1.lo.s, .int .u64 c.c1.lo.c, .int .i64 c.c1.hi.s, .int .u64 c.c1.hi.c, .int .i64 c.c2.u, .int .i64 c.c2.ro, .int .i64 c.c2.ty, .int .i64 c.c2.lo.s, .int .u64 c.c2.lo.c, .int .i64 c.c2.hi.s, .int .u64 c.c2.hi.c, .int .i64 c.c3.u, .int .i64 c.c3.ro, .int .i64 c.c3.ty, .int .i64 c.c3.lo.s, .int .u64 c.c3.lo.c, .int .i64 c.c3.hi.s, .int .u64 c.c3.hi.c] 48)) = v) := ⟨_, Lib.hid rfl⟩
 have HXC : Hid (XC W w.heap.size 0 x.op x.a x.r x.b ao x.ns.length cap x.st (some ⟨g0, o0, none⟩) 2 ck) := by cases ZW.out; exact Lib.hid (XC.of_blk ((Blk.new w _ _).alloc _))
 have HC : Hid (Blk W (w.heap.size + 1) 48 #[.int .i64 c.c1.u, .int .i64 c.c1.ro, .int .i64 c.c1.ty, .int .i64 c.c1.lo.s, .int .u64 c.c1.lo.c, .int .i64 c.c1.hi.s, .int .u64 c.c1.hi.c, .int .i64 c.c2.u, .int .i64 c.c2.ro, .int .i64 c.c2.ty, .int .i64 c.c2.lo.s, .int .u64 c.c2.lo.c, .int .i64 c.c2.hi.s, .int .u64 c.c2.hi.c, .int .i64 c.c3.u, .int .i64 c.c3.ro, .int .i64 c.c3.ty, .int .i64 c.c3.lo.s, .int .u64 c.c3.lo.c, .int .i64 c.c3.hi.s, .int .u64 c.c3.hi.c]) := by cases ZW.out; exact Lib.hid (two_new' _ _ _ _)
 have HB : Hid (Below w.heap.size w W) := by cases ZW.out; exact Lib.hid (((Below.refl _ _).alloc (Nat.le_refl _) _).alloc (by simp) _)
 have HG : Hid (w.heap.size < W.heap.size) := by cases ZW.out; exact Lib.hid (by simp; omega)
 clear hop hlen hk8 hk9 hak1 HKID HK HKS HIH
 cases v0 with
 | true =>
   go_enter Tryz.func46, Tryz.ntmps46
   go_upto_region 1 with fail
   rw [ZW.out]
   have HLE : Hid (w.heap.size ≤ W.heap.size) := Lib.hid HB.out.size
   generalize w.heap.size + 1 = gc at *
   generalize hge : w.heap.size = ge at *
   obtain ⟨y0, y1, y2, y3, y4, y5, y6, y7, y8, y9⟩ := HXC.out.cells
   go_upto_region 5 with fail
   clear y0 y1 y2 y3 y4 y5 y6 y7 y8 y9
   refine wp_region_kp (by kernel_rfl) (by kernel_rfl) ?_
   repeat (first | go_big_quiet_skip | (go_big_quiet_want; first | (refine quiet_load _ rfl rfl (fun w1 hC => loadAt_case (Blk.keep HC.out hC)) ?_; simp only [Act.put, List.setIfInBounds_toArray, List.set_cons_succ, List.set_cons_zero]; go_big_quiet_on) | (go_big_quiet_op; first | go_big_quiet_on | (apply Exists.intro; refine ⟨fun w1 hC => ?_, ?_⟩; (first | (go_at_call 46; with_reducible first | exact hC.call (HV1.out _ (kpb HB.out HLE.out hC)) | exact hC.call (HV0.out _ (kpb HB.out HLE.out hC))) | (go_simp; exact ⟨rfl, rfl⟩) | (obtain ⟨y0, y1, y2, y3, y4, y5, y6, y7, y8, y9⟩ := (HXC.out.keep (Below.block hC ge HG.out)).cells; obtain ⟨z0, z1, z2, z3, z4, z5, z6, z7, z8, z9⟩ := (HXK0.out _ (HB.out.trans (hC.mono HLE.out))).cells; obtain ⟨t0, t1, t2, t3, t4, t5, t6, t7, t8, t9⟩ := (HXK1.out _ (HB.out.trans (hC.mono HLE.out))).cells; go_simp; exact rfl) | (obtain ⟨y0, y1, y2, y3, y4, y5, y6, y7, y8, y9⟩ := (HXC.out.keep (Below.block hC ge HG.out)).cells; obtain ⟨z0, z1, z2, z3, z4, z5, z6, z7, z8, z9⟩ := (HXK0.out _ (HB.out.trans (hC.mono HLE.out))).cells; go_simp; exact rfl)); go_big_quiet_on))))
   refine wpQuiet_nil ?_
   intro W1 hC
   have HCC := Lib.hid (HB.out.trans (hC.mono HLE.out))
   clear hC
   go_wp2_with fail
   go_ret
   exact ⟨rfl, by first | exact HCC.out | (rw [hge]; exact HCC.out)⟩
 | false =>
   go_enter Tryz.func46, Tryz.ntmps46
   go_upto_region 1 with fail
   rw [ZW.out]
   have HLE : Hid (w.heap.size ≤ W.heap.size) := Lib.hid HB.out.size
   generalize w.heap.size + 1 = gc at *
   generalize hge : w.heap.size = ge at *
   obtain ⟨y0, y1, y2, y3, y4, y5, y6, y7, y8, y9⟩ := HXC.out.cells
   go_upto_region 5 with fail
   clear y0 y1 y2 y3 y4 y5 y6 y7 y8 y9
   refine wp_region_kp (by kernel_rfl) (by kernel_rfl) ?_
   repeat (first | go_big_quiet_skip | (go_big_quiet_want; first | (refine quiet_load _ rfl rfl (fun w1 hC => loadAt_case (Blk.keep HC.out hC)) ?_; simp only [Act.put, List.setIfInBounds_toArray, List.set_cons_succ, List.set_cons_zero]; go_big_quiet_on) | (go_big_quiet_op; first | go_big_quiet_on | (apply Exists.intro; refine ⟨fun w1 hC => ?_, ?_⟩; (first | (go_at_call 46; with_reducible first | exact hC.call (HV1.out _ (kpb HB.out HLE.out hC)) | exact hC.call (HV0.out _ (kpb HB.out HLE.out hC))) | (go_simp; exact ⟨rfl, rfl⟩) | (obtain ⟨y0, y1, y2, y3, y4, y5, y6, y7, y8, y9⟩ := (HXC.out.keep (Below.block hC ge HG.out)).cells; obtain ⟨z0, z1, z2, z3, z4, z5, z6, z7, z8, z9⟩ := (HXK0.out _ (HB.out.trans (hC.mono HLE.out))).cells; obtain ⟨t0, t1, t2, t3, t4, t5, t6, t7, t8, t9⟩ := (HXK1.out _ (HB.out.trans (hC.mono HLE.out))).cells; go_simp; exact rfl) | (obtain ⟨y0, y1, y2, y3, y4, y5, y6, y7, y8, y9⟩ := (HXC.out.keep (Below.block hC ge HG.out)).cells; obtain ⟨z0, z1, z2, z3, z4, z5, z6, z7, z8, z9⟩ := (HXK0.out _ (HB.out.trans (hC.mono HLE.out))).cells; go_simp; exact rfl)); go_big_quiet_on))))
   refine wpQuiet_nil ?_
   intro W1 hC
   have HCC := Lib.hid (HB.out.trans (hC.mono HLE.out))
   clear hC
   go_wp2_with fail
   go_ret
   exact ⟨rfl, by first | exact HCC.out | (rw [hge]; exact HCC.out)⟩
open Go.RowKit Go
set_option maxRecDepth 100000 in
set_option maxHeartbeats 32000000 in
theorem rv4 (c : Ca) (n : Nat) (ih : ∀ (x : X) (vn vk : Value) (w : World), okW n x → XV w vn vk x → Calls Tryz.prog 46 #[.agg #[.int .i64 x.op, .int .i64 x.a, .int .i64 x.r, .int .i64 x.b, vn, .int .u64 x.st.a, .int .u64 x.st.b, .int .u64 x.st.c, .int .u64 x.st.d, vk], .agg #[.int .i64 c.c1.u, .int .i64 c.c1.ro, .int .i64 c.c1.ty, .int .i64 c.c1.lo.s, .int .u64 c.c1.lo.c, .int .i64 c.c1.hi.s, .int .u64 c.c1.hi.c, .int .i64 c.c2.u, .int .i64 c.c2.ro, .int .i64 c.c2.ty, .int .i64 c.c2.lo.s, .int .u64 c.c2.lo.c, .int .i64 c.c2.hi.s, .int .u64 c.c2.hi.c, .int .i64 c.c3.u, .int .i64 c.c3.ro, .int .i64 c.c3.ty, .int .i64 c.c3.lo.s, .int .u64 c.c3.lo.c, .int .i64 c.c3.hi.s, .int .u64 c.c3.hi.c]] w fun e w' => e = .returned (.bool (valX c n x)) ∧ Below w.heap.size w w') (x : X) (vn vk : Value) (w : World) (hok : okW (n + 1) x) (hV : XV w vn vk x) (hop : x.op = 4) (hlen : x.ks.length = 2) :
 Calls Tryz.prog 46 #[.agg #[.int .i64 x.op, .int .i64 x.a, .int .i64 x.r, .int .i64 x.b, vn, .int .u64 x.st.a, .int .u64 x.st.b, .int .u64 x.st.c, .int .u64 x.st.d, vk], .agg #[.int .i64 c.c1.u, .int .i64 c.c1.ro, .int .i64 c.c1.ty, .int .i64 c.c1.lo.s, .int .u64 c.c1.lo.c, .int .i64 c.c1.hi.s, .int .u64 c.c1.hi.c, .int .i64 c.c2.u, .int .i64 c.c2.ro, .int .i64 c.c2.ty, .int .i64 c.c2.lo.s, .int .u64 c.c2.lo.c, .int .i64 c.c2.hi.s, .int .u64 c.c2.hi.c, .int .i64 c.c3.u, .int .i64 c.c3.ro, .int .i64 c.c3.ty, .int .i64 c.c3.lo.s, .int .u64 c.c3.lo.c, .int .i64 c.c3.hi.s, .int .u64 c.c3.hi.c]] w fun e w' => e = .returned (.bool (valX c (n + 1) x)) ∧ Below w.heap.size w w' := by
 obtain ⟨-, hk8, hk9, hks⟩ := hok
 have HIH := Lib.hid ih
 have HKS := Lib.hid hks
 obtain ⟨ao, cap, ak, ck, rfl, rfl⟩ := hV.form
 have HK := Lib.hid hV.ks
 have hu : valX c (n + 1) x = if x.op = 2 then !valX c n (kidX x 0) else if x.op = 3 then valX c n (kidX x 0) && valX c n (kidX x 1) else if x.op = 4 then valX c n (kidX x 0) || valX c n (kidX x 1) else if x.op = 9 then hasS x.st (rdX c x.a.toNat).s else relX (rdX c x.a.toNat) x.r (rdX c x.b.toNat) := rfl
 rw [hu]
 have HKID : Hid (∀ (i : Nat) (hi : i < x.ks.length), ∃ g' o', ak = some ⟨g', o', none⟩ ∧ g' < w.heap.size ∧ ∃ ao2 cap2 ak2 ck2, (∀ W, Below w.heap.size w W → XC W g' (o' + i * 10) (kidX x i).op (kidX x i).a (kidX x i).r (kidX x i).b ao2 (kidX x i).ns.length cap2 (kidX x i).st ak2 (kidX x i).ks.length ck2) ∧ ∀ W, Below w.heap.size w W → Calls Tryz.prog 46 #[.agg #[.int .i64 (kidX x i).op, .int .i64 (kidX x i).a, .int .i64 (kidX x i).r, .int .i64 (kidX x i).b, .slice ao2 (kidX x i).ns.length cap2, .int .u64 (kidX x i).st.a, .int .u64 (kidX x i).st.b, .int .u64 (kidX x i).st.c, .int .u64 (kidX x i).st.d, .slice ak2 (kidX x i).ks.length ck2], .agg #[.int .i64 c.c1.u, .int .i64 c.c1.ro, .int .i64 c.c1.ty, .int .i64 c.c1.lo.s, .int .u64 c.c1.lo.c, .int .i64 c.c1.hi.s, .int .u64 c.c1.hi.c, .int .i64 c.c2.u, .int .i64 c.c2.ro, .int .i64 c.c2.ty, .int .i64 c.c2.lo.s, .int .u64 c.c2.lo.c, .int .i64 c.c2.hi.s, .int .u64 c.c2.hi.c, .int .i64 c.c3.u, .int .i64 c.c3.ro, .int .i64 c.c3.ty, .int .i64 c.c3.lo.s, .int .u64 c.c3.lo.c, .int .i64 c.c3.hi.s, .int .u64 c.c3.hi.c]] W fun e w' => e = .returned (.bool (valX c n (kidX x i))) ∧ Below W.heap.size W w') := Lib.hid fun i hi => by
  obtain ⟨g', o', hak, hg', hR⟩ := HK.out.row hi
  have hA := hR i hi
  rw [← kid_at hi] at hA
  obtain ⟨ao2, cap2, ak2, ck2, hc2, hv2⟩ := hA.xv
  refine ⟨g', o', hak, hg', ao2, cap2, ak2, ck2, fun W hW => hc2.keep (hW.block g' hg'), fun W hW => ?_⟩
  refine HIH.out _ _ _ W ?_ (hv2.keep hW)
  rw [kid_at hi]
  exact HKS.out _ (List.getElem_mem hi)
 clear ih hks hu hV
 have p2 : (x.op == 2) = false := by rw [hop]; rfl
 have p3 : (x.op == 3) = false := by rw [hop]; rfl
 have p4 : (x.op == 4) = true := by rw [hop]; rfl
 have p9 : (x.op == 9) = false := by rw [hop]; rfl
 rw [if_neg (by omega), if_neg (by omega), if_pos hop]
 obtain ⟨g0, o0, hak0, hg0, ao0, cap0, ak0, ck0, HXK0, HV0⟩ := HKID.out 0 (by omega)
 obtain ⟨g1, o1, hak1, hg1, ao1, cap1, ak1, ck1, HXK1, HV1⟩ := HKID.out 1 (by omega)
 rw [hak0] at hak1
 obtain ⟨rfl, rfl⟩ : g0 = g1 ∧ o0 = o1 := by simpa using hak1
 subst hak0
 rw [Nat.zero_mul, Nat.add_zero] at HXK0
 rw [Nat.one_mul] at HXK1
 have HXK0 := Lib.hid HXK0
 have HV0 := Lib.hid HV0
 generalize kidX x 0 = k0 at *
 obtain ⟨v0, hv0⟩ : ∃ v, valX c n k0 = v := ⟨_, rfl⟩
 rw [hv0] at HV0 ⊢
 clear hv0
 have HXK1 := Lib.hid HXK1
 have HV1 := Lib.hid HV1
 generalize kidX x 1 = k1 at *
 obtain ⟨v1, hv1⟩ : ∃ v, valX c n k1 = v := ⟨_, rfl⟩
 rw [hv1] at HV1 ⊢
 clear hv1
 rw [hlen]
 obtain ⟨W, ZW⟩ : ∃ v, Hid (((w.alloc (.cells #[.int .i64 x.op, .int .i64 x.a, .int .i64 x.r, .int .i64 x.b, .slice ao x.ns.length cap, .int .u64 x.st.a, .int .u64 x.st.b, .int .u64 x.st.c, .int .u64 x.st.d, .slice (some ⟨g0, o0, none⟩) 2 ck] 55)).alloc (.cells #[.int .i64 c.c1.u, .int .i64 c.c1.ro, .int .i64 c.c1.ty, .int .i64 c.c1.lo.s, .int .u64 c.c1.lo.c, .int .i64 c.c1.hi.s, .int .u64 c.c1.hi.c, .int .i64 c.c2.u, .int .i64 c.c2.ro, .int .i64 c.c2.ty, .int .i64 c.c2.lo.s, .int .u64 c.c2.lo.c, .int .i64 c.c2.hi.s, .int .u64 c.c2.hi.c, .int .i64 c.c3.u, .int .i64 c.c3.ro, .int .i64 c.c3.ty, .int .i64 c.c3.lo.s, .int .u64 c.c3.lo.c, .int .i64 c.c3.hi.s, .int .u64 c.c3.hi.c] 48)) = v) := ⟨_, Lib.hid rfl⟩
 have HXC : Hid (XC W w.heap.size 0 x.op x.a x.r x.b ao x.ns.length cap x.st (some ⟨g0, o0, none⟩) 2 ck) := by cases ZW.out; exact Lib.hid (XC.of_blk ((Blk.new w _ _).alloc _))
 have HC : Hid (Blk W (w.heap.size + 1) 48 #[.int .i64 c.c1.u, .int .i64 c.c1.ro, .int .i64 c.c1.ty, .int .i64 c.c1.lo.s, .int .u64 c.c1.lo.c, .int .i64 c.c1.hi.s, .int .u64 c.c1.hi.c, .int .i64 c.c2.u, .int .i64 c.c2.ro, .int .i64 c.c2.ty, .int .i64 c.c2.lo.s, .int .u64 c.c2.lo.c, .int .i64 c.c2.hi.s, .int .u64 c.c2.hi.c, .int .i64 c.c3.u, .int .i64 c.c3.ro, .int .i64 c.c3.ty, .int .i64 c.c3.lo.s, .int .u64 c.c3.lo.c, .int .i64 c.c3.hi.s, .int .u64 c.c3.hi.c]) := by cases ZW.out; exact Lib.hid (two_new' _ _ _ _)
 have HB : Hid (Below w.heap.size w W) := by cases ZW.out; exact Lib.hid (((Below.refl _ _).alloc (Nat.le_refl _) _).alloc (by simp) _)
 have HG : Hid (w.heap.size < W.heap.size) := by cases ZW.out; exact Lib.hid (by simp; omega)
 clear hop hlen hk8 hk9 hak1 HKID HK HKS HIH
 cases v0 with
 | true =>
   go_enter Tryz.func46, Tryz.ntmps46
   go_upto_region 1 with fail
   rw [ZW.out]
   have HLE : Hid (w.heap.size ≤ W.heap.size) := Lib.hid HB.out.size
   generalize w.heap.size + 1 = gc at *
   generalize hge : w.heap.size = ge at *
   obtain ⟨y0, y1, y2, y3, y4, y5, y6, y7, y8, y9⟩ := HXC.out.cells
   go_upto_region 7 with fail
   clear y0 y1 y2 y3 y4 y5 y6 y7 y8 y9
   refine wp_region_kp (by kernel_rfl) (by kernel_rfl) ?_
   repeat (first | go_big_quiet_skip | (go_big_quiet_want; first | (refine quiet_load _ rfl rfl (fun w1 hC => loadAt_case (Blk.keep HC.out hC)) ?_; simp only [Act.put, List.setIfInBounds_toArray, List.set_cons_succ, List.set_cons_zero]; go_big_quiet_on) | (go_big_quiet_op; first | go_big_quiet_on | (apply Exists.intro; refine ⟨fun w1 hC => ?_, ?_⟩; (first | (go_at_call 46; with_reducible first | exact hC.call (HV1.out _ (kpb HB.out HLE.out hC)) | exact hC.call (HV0.out _ (kpb HB.out HLE.out hC))) | (go_simp; exact ⟨rfl, rfl⟩) | (obtain ⟨y0, y1, y2, y3, y4, y5, y6, y7, y8, y9⟩ := (HXC.out.keep (Below.block hC ge HG.out)).cells; obtain ⟨z0, z1, z2, z3, z4, z5, z6, z7, z8, z9⟩ := (HXK0.out _ (HB.out.trans (hC.mono HLE.out))).cells; obtain ⟨t0, t1, t2, t3, t4, t5, t6, t7, t8, t9⟩ := (HXK1.out _ (HB.out.trans (hC.mono HLE.out))).cells; go_simp; exact rfl) | (obtain ⟨y0, y1, y2, y3, y4, y5, y6, y7, y8, y9⟩ := (HXC.out.keep (Below.block hC ge HG.out)).cells; obtain ⟨z0, z1, z2, z3, z4, z5, z6, z7, z8, z9⟩ := (HXK0.out _ (HB.out.trans (hC.mono HLE.out))).cells; go_simp; exact rfl)); go_big_quiet_on))))
   refine wpQuiet_nil ?_
   intro W1 hC
   have HCC := Lib.hid (HB.out.trans (hC.mono HLE.out))
   clear hC
   go_wp2_with fail
   go_ret
   exact ⟨rfl, by first | exact HCC.out | (rw [hge]; exact HCC.out)⟩
 | false =>
   go_enter Tryz.func46, Tryz.ntmps46
   go_upto_region 1 with fail
   rw [ZW.out]
   have HLE : Hid (w.heap.size ≤ W.heap.size) := Lib.hid HB.out.size
   generalize w.heap.size + 1 = gc at *
   generalize hge : w.heap.size = ge at *
   obtain ⟨y0, y1, y2, y3, y4, y5, y6, y7, y8, y9⟩ := HXC.out.cells
   go_upto_region 7 with fail
   clear y0 y1 y2 y3 y4 y5 y6 y7 y8 y9
   refine wp_region_kp (by kernel_rfl) (by kernel_rfl) ?_
   repeat (first | go_big_quiet_skip | (go_big_quiet_want; first | (refine quiet_load _ rfl rfl (fun w1 hC => loadAt_case (Blk.keep HC.out hC)) ?_; simp only [Act.put, List.setIfInBounds_toArray, List.set_cons_succ, List.set_cons_zero]; go_big_quiet_on) | (go_big_quiet_op; first | go_big_quiet_on | (apply Exists.intro; refine ⟨fun w1 hC => ?_, ?_⟩; (first | (go_at_call 46; with_reducible first | exact hC.call (HV1.out _ (kpb HB.out HLE.out hC)) | exact hC.call (HV0.out _ (kpb HB.out HLE.out hC))) | (go_simp; exact ⟨rfl, rfl⟩) | (obtain ⟨y0, y1, y2, y3, y4, y5, y6, y7, y8, y9⟩ := (HXC.out.keep (Below.block hC ge HG.out)).cells; obtain ⟨z0, z1, z2, z3, z4, z5, z6, z7, z8, z9⟩ := (HXK0.out _ (HB.out.trans (hC.mono HLE.out))).cells; obtain ⟨t0, t1, t2, t3, t4, t5, t6, t7, t8, t9⟩ := (HXK1.out _ (HB.out.trans (hC.mono HLE.out))).cells; go_simp; exact rfl) | (obtain ⟨y0, y1, y2, y3, y4, y5, y6, y7, y8, y9⟩ := (HXC.out.keep (Below.block hC ge HG.out)).cells; obtain ⟨z0, z1, z2, z3, z4, z5, z6, z7, z8, z9⟩ := (HXK0.out _ (HB.out.trans (hC.mono HLE.out))).cells; go_simp; exact rfl)); go_big_quiet_on))))
   refine wpQuiet_nil ?_
   intro W1 hC
   have HCC := Lib.hid (HB.out.trans (hC.mono HLE.out))
   clear hC
   go_wp2_with fail
   go_ret
   exact ⟨rfl, by first | exact HCC.out | (rw [hge]; exact HCC.out)⟩
open Go.RowKit Go
set_option maxRecDepth 100000 in
set_option maxHeartbeats 32000000 in
theorem rv8 (c : Ca) (n : Nat) (ih : ∀ (x : X) (vn vk : Value) (w : World), okW n x → XV w vn vk x → Calls Tryz.prog 46 #[.agg #[.int .i64 x.op, .int .i64 x.a, .int .i64 x.r, .int .i64 x.b, vn, .int .u64 x.st.a, .int .u64 x.st.b, .int .u64 x.st.c, .int .u64 x.st.d, vk], .agg #[.int .i64 c.c1.u, .int .i64 c.c1.ro, .int .i64 c.c1.ty, .int .i64 c.c1.lo.s, .int .u64 c.c1.lo.c, .int .i64 c.c1.hi.s, .int .u64 c.c1.hi.c, .int .i64 c.c2.u, .int .i64 c.c2.ro, .int .i64 c.c2.ty, .int .i64 c.c2.lo.s, .int .u64 c.c2.lo.c, .int .i64 c.c2.hi.s, .int .u64 c.c2.hi.c, .int .i64 c.c3.u, .int .i64 c.c3.ro, .int .i64 c.c3.ty, .int .i64 c.c3.lo.s, .int .u64 c.c3.lo.c, .int .i64 c.c3.hi.s, .int .u64 c.c3.hi.c]] w fun e w' => e = .returned (.bool (valX c n x)) ∧ Below w.heap.size w w') (x : X) (vn vk : Value) (w : World) (hok : okW (n + 1) x) (hV : XV w vn vk x) (hop : x.op = 8) (ha : 0 ≤ x.a ∧ x.a < 15) (hb : 0 ≤ x.b ∧ x.b < 15) :
 Calls Tryz.prog 46 #[.agg #[.int .i64 x.op, .int .i64 x.a, .int .i64 x.r, .int .i64 x.b, vn, .int .u64 x.st.a, .int .u64 x.st.b, .int .u64 x.st.c, .int .u64 x.st.d, vk], .agg #[.int .i64 c.c1.u, .int .i64 c.c1.ro, .int .i64 c.c1.ty, .int .i64 c.c1.lo.s, .int .u64 c.c1.lo.c, .int .i64 c.c1.hi.s, .int .u64 c.c1.hi.c, .int .i64 c.c2.u, .int .i64 c.c2.ro, .int .i64 c.c2.ty, .int .i64 c.c2.lo.s, .int .u64 c.c2.lo.c, .int .i64 c.c2.hi.s, .int .u64 c.c2.hi.c, .int .i64 c.c3.u, .int .i64 c.c3.ro, .int .i64 c.c3.ty, .int .i64 c.c3.lo.s, .int .u64 c.c3.lo.c, .int .i64 c.c3.hi.s, .int .u64 c.c3.hi.c]] w fun e w' => e = .returned (.bool (valX c (n + 1) x)) ∧ Below w.heap.size w w' := by
 obtain ⟨-, hk8, hk9, hks⟩ := hok
 have HIH := Lib.hid ih
 have HKS := Lib.hid hks
 obtain ⟨ao, cap, ak, ck, rfl, rfl⟩ := hV.form
 have HK := Lib.hid hV.ks
 have hu : valX c (n + 1) x = if x.op = 2 then !valX c n (kidX x 0) else if x.op = 3 then valX c n (kidX x 0) && valX c n (kidX x 1) else if x.op = 4 then valX c n (kidX x 0) || valX c n (kidX x 1) else if x.op = 9 then hasS x.st (rdX c x.a.toNat).s else relX (rdX c x.a.toNat) x.r (rdX c x.b.toNat) := rfl
 rw [hu]
 have HKID : Hid (∀ (i : Nat) (hi : i < x.ks.length), ∃ g' o', ak = some ⟨g', o', none⟩ ∧ g' < w.heap.size ∧ ∃ ao2 cap2 ak2 ck2, (∀ W, Below w.heap.size w W → XC W g' (o' + i * 10) (kidX x i).op (kidX x i).a (kidX x i).r (kidX x i).b ao2 (kidX x i).ns.length cap2 (kidX x i).st ak2 (kidX x i).ks.length ck2) ∧ ∀ W, Below w.heap.size w W → Calls Tryz.prog 46 #[.agg #[.int .i64 (kidX x i).op, .int .i64 (kidX x i).a, .int .i64 (kidX x i).r, .int .i64 (kidX x i).b, .slice ao2 (kidX x i).ns.length cap2, .int .u64 (kidX x i).st.a, .int .u64 (kidX x i).st.b, .int .u64 (kidX x i).st.c, .int .u64 (kidX x i).st.d, .slice ak2 (kidX x i).ks.length ck2], .agg #[.int .i64 c.c1.u, .int .i64 c.c1.ro, .int .i64 c.c1.ty, .int .i64 c.c1.lo.s, .int .u64 c.c1.lo.c, .int .i64 c.c1.hi.s, .int .u64 c.c1.hi.c, .int .i64 c.c2.u, .int .i64 c.c2.ro, .int .i64 c.c2.ty, .int .i64 c.c2.lo.s, .int .u64 c.c2.lo.c, .int .i64 c.c2.hi.s, .int .u64 c.c2.hi.c, .int .i64 c.c3.u, .int .i64 c.c3.ro, .int .i64 c.c3.ty, .int .i64 c.c3.lo.s, .int .u64 c.c3.lo.c, .int .i64 c.c3.hi.s, .int .u64 c.c3.hi.c]] W fun e w' => e = .returned (.bool (valX c n (kidX x i))) ∧ Below W.heap.size W w') := Lib.hid fun i hi => by
  obtain ⟨g', o', hak, hg', hR⟩ := HK.out.row hi
  have hA := hR i hi
  rw [← kid_at hi] at hA
  obtain ⟨ao2, cap2, ak2, ck2, hc2, hv2⟩ := hA.xv
  refine ⟨g', o', hak, hg', ao2, cap2, ak2, ck2, fun W hW => hc2.keep (hW.block g' hg'), fun W hW => ?_⟩
  refine HIH.out _ _ _ W ?_ (hv2.keep hW)
  rw [kid_at hi]
  exact HKS.out _ (List.getElem_mem hi)
 clear ih hks hu hV
 have p2 : (x.op == 2) = false := by rw [hop]; rfl
 have p3 : (x.op == 3) = false := by rw [hop]; rfl
 have p4 : (x.op == 4) = false := by rw [hop]; rfl
 have p9 : (x.op == 9) = false := by rw [hop]; rfl
 rw [if_neg (by omega), if_neg (by omega), if_neg (by omega), if_neg (by omega)]
 obtain ⟨na, hna⟩ : ∃ na : Nat, x.a = na := ⟨x.a.toNat, by omega⟩
 obtain ⟨nb, hnb⟩ : ∃ nb : Nat, x.b = nb := ⟨x.b.toNat, by omega⟩
 obtain ⟨hk8a, hk8b, hk8c, hk8d⟩ := hk8 hop
 have hna15 : na < 15 := by omega
 have hnb15 : nb < 15 := by omega
 have hta : x.a.toNat = na := by omega
 have htb : x.b.toNat = nb := by omega
 rw [hna, hnb] at hk8a
 rw [hna] at hk8b
 have HCP : Hid (∀ W, Calls Tryz.prog 80 #[.agg #[.int .i64 x.op, .int .i64 x.a, .int .i64 x.r, .int .i64 x.b, .slice ao x.ns.length cap, .int .u64 x.st.a, .int .u64 x.st.b, .int .u64 x.st.c, .int .u64 x.st.d, .slice ak x.ks.length ck], .agg #[.int .i64 c.c1.u, .int .i64 c.c1.ro, .int .i64 c.c1.ty, .int .i64 c.c1.lo.s, .int .u64 c.c1.lo.c, .int .i64 c.c1.hi.s, .int .u64 c.c1.hi.c, .int .i64 c.c2.u, .int .i64 c.c2.ro, .int .i64 c.c2.ty, .int .i64 c.c2.lo.s, .int .u64 c.c2.lo.c, .int .i64 c.c2.hi.s, .int .u64 c.c2.hi.c, .int .i64 c.c3.u, .int .i64 c.c3.ro, .int .i64 c.c3.ty, .int .i64 c.c3.lo.s, .int .u64 c.c3.lo.c, .int .i64 c.c3.hi.s, .int .u64 c.c3.hi.c]] W fun e w' => e = .returned (.bool (relX (rdX c x.a.toNat) x.r (rdX c x.b.toNat))) ∧ Below W.heap.size W w') := Lib.hid fun W => by
  have h := rcompare_c x.op x.r x.st ao ak x.ns.length x.ks.length cap ck na nb c hna15 hnb15 hk8a hk8b hk8c hk8d W
  rw [← hna, ← hnb] at h
  rw [hta, htb]
  exact h
 generalize relX (rdX c x.a.toNat) x.r (rdX c x.b.toNat) = R at *
 obtain ⟨W, ZW⟩ : ∃ v, Hid (((w.alloc (.cells #[.int .i64 x.op, .int .i64 x.a, .int .i64 x.r, .int .i64 x.b, .slice ao x.ns.length cap, .int .u64 x.st.a, .int .u64 x.st.b, .int .u64 x.st.c, .int .u64 x.st.d, .slice ak x.ks.length ck] 55)).alloc (.cells #[.int .i64 c.c1.u, .int .i64 c.c1.ro, .int .i64 c.c1.ty, .int .i64 c.c1.lo.s, .int .u64 c.c1.lo.c, .int .i64 c.c1.hi.s, .int .u64 c.c1.hi.c, .int .i64 c.c2.u, .int .i64 c.c2.ro, .int .i64 c.c2.ty, .int .i64 c.c2.lo.s, .int .u64 c.c2.lo.c, .int .i64 c.c2.hi.s, .int .u64 c.c2.hi.c, .int .i64 c.c3.u, .int .i64 c.c3.ro, .int .i64 c.c3.ty, .int .i64 c.c3.lo.s, .int .u64 c.c3.lo.c, .int .i64 c.c3.hi.s, .int .u64 c.c3.hi.c] 48)) = v) := ⟨_, Lib.hid rfl⟩
 have HXC : Hid (XC W w.heap.size 0 x.op x.a x.r x.b ao x.ns.length cap x.st ak x.ks.length ck) := by cases ZW.out; exact Lib.hid (XC.of_blk ((Blk.new w _ _).alloc _))
 have HC : Hid (Blk W (w.heap.size + 1) 48 #[.int .i64 c.c1.u, .int .i64 c.c1.ro, .int .i64 c.c1.ty, .int .i64 c.c1.lo.s, .int .u64 c.c1.lo.c, .int .i64 c.c1.hi.s, .int .u64 c.c1.hi.c, .int .i64 c.c2.u, .int .i64 c.c2.ro, .int .i64 c.c2.ty, .int .i64 c.c2.lo.s, .int .u64 c.c2.lo.c, .int .i64 c.c2.hi.s, .int .u64 c.c2.hi.c, .int .i64 c.c3.u, .int .i64 c.c3.ro, .int .i64 c.c3.ty, .int .i64 c.c3.lo.s, .int .u64 c.c3.lo.c, .int .i64 c.c3.hi.s, .int .u64 c.c3.hi.c]) := by cases ZW.out; exact Lib.hid (two_new' _ _ _ _)
 have HB : Hid (Below w.heap.size w W) := by cases ZW.out; exact Lib.hid (((Below.refl _ _).alloc (Nat.le_refl _) _).alloc (by simp) _)
 have HG : Hid (w.heap.size < W.heap.size) := by cases ZW.out; exact Lib.hid (by simp; omega)
 clear hop ha hb hna hnb hna15 hnb15 hta htb hk8 hk9 hk8a hk8b hk8c hk8d HKID HK HKS HIH
 go_enter Tryz.func46, Tryz.ntmps46
 go_upto_region 1 with fail
 rw [ZW.out]
 have HLE : Hid (w.heap.size ≤ W.heap.size) := Lib.hid HB.out.size
 generalize w.heap.size + 1 = gc at *
 generalize hge : w.heap.size = ge at *
 obtain ⟨y0, y1, y2, y3, y4, y5, y6, y7, y8, y9⟩ := HXC.out.cells
 go_upto_region 10 with fail
 clear y0 y1 y2 y3 y4 y5 y6 y7 y8 y9
 refine wp_region_lit ?_
 refine wpList_load (by rfl) _ rfl rfl (loadAt_expr HXC.out) ?_
 simp only [Act.put, List.setIfInBounds_toArray, List.set_cons_succ, List.set_cons_zero]
 refine wpList_load (by rfl) _ rfl rfl (loadAt_case HC.out) ?_
 simp only [Act.put, List.setIfInBounds_toArray, List.set_cons_succ, List.set_cons_zero]
 go_wp2_with (first
  | (go_at_call 80; (with_reducible refine (HCP.out _).mono ?_); rintro e w1 ⟨rfl, hb1⟩; have HCC := Lib.hid (HB.out.trans (hb1.mono HLE.out)); clear hb1))
 go_ret
 exact ⟨rfl, by first | exact HCC.out | (rw [hge]; exact HCC.out)⟩
end Go.Proofs.YtbhoofihnmmmfabGreat
