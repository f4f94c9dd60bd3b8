/- Cv2 Cv3 Cv4 Cv8 Cv9 Cxw Cxx Cya Cyb Cyc Cyd Cye Cyf Cyg Phl -/
import Derived.Test.YtamcfmfkmekkfaaZad
import Derived.OwnWalk
/- The reference's value, operator 2. -/
namespace Go.Proofs.Ytamcfmfkmekkfaa
open Go.RowKit Go
set_option maxRecDepth 100000 in
set_option maxHeartbeats 32000000 in
theorem rv2 (c : Ca) (n : Nat) (ih : ∀ (x : X) (vn vk : Value) (w : World), okW n x → XV w vn vk x → Calls Try.prog 22 #[.agg #[.int .i64 x.op, .int .i64 x.a, .int .i64 x.r, .int .i64 x.b, vn, .int .u64 x.st.a, .int .u64 x.st.b, .int .u64 x.st.c, .int .u64 x.st.d, vk], .agg #[.int .i64 c.c1.u, .int .i64 c.c1.ro, .int .i64 c.c1.ty, .int .i64 c.c1.lo.s, .int .u64 c.c1.lo.c, .int .i64 c.c1.hi.s, .int .u64 c.c1.hi.c, .int .i64 c.c2.u, .int .i64 c.c2.ro, .int .i64 c.c2.ty, .int .i64 c.c2.lo.s, .int .u64 c.c2.lo.c, .int .i64 c.c2.hi.s, .int .u64 c.c2.hi.c, .int .i64 c.c3.u, .int .i64 c.c3.ro, .int .i64 c.c3.ty, .int .i64 c.c3.lo.s, .int .u64 c.c3.lo.c, .int .i64 c.c3.hi.s, .int .u64 c.c3.hi.c]] w fun e w' => e = .returned (.bool (valX c n x)) ∧ Below w.heap.size w w') (x : X) (vn vk : Value) (w : World) (hok : okW (n + 1) x) (hV : XV w vn vk x) (hop : x.op = 2) (hlen : x.ks.length = 1) :
    Calls Try.prog 22 #[.agg #[.int .i64 x.op, .int .i64 x.a, .int .i64 x.r, .int .i64 x.b, vn, .int .u64 x.st.a, .int .u64 x.st.b, .int .u64 x.st.c, .int .u64 x.st.d, vk], .agg #[.int .i64 c.c1.u, .int .i64 c.c1.ro, .int .i64 c.c1.ty, .int .i64 c.c1.lo.s, .int .u64 c.c1.lo.c, .int .i64 c.c1.hi.s, .int .u64 c.c1.hi.c, .int .i64 c.c2.u, .int .i64 c.c2.ro, .int .i64 c.c2.ty, .int .i64 c.c2.lo.s, .int .u64 c.c2.lo.c, .int .i64 c.c2.hi.s, .int .u64 c.c2.hi.c, .int .i64 c.c3.u, .int .i64 c.c3.ro, .int .i64 c.c3.ty, .int .i64 c.c3.lo.s, .int .u64 c.c3.lo.c, .int .i64 c.c3.hi.s, .int .u64 c.c3.hi.c]] w fun e w' => e = .returned (.bool (valX c (n + 1) x)) ∧ Below w.heap.size w w' := by
  obtain ⟨-, hk8, hk9, hks⟩ := hok
  have HIH := Lib.hid ih
  have HKS := Lib.hid hks
  obtain ⟨ao, cap, ak, ck, rfl, rfl⟩ := hV.form
  have HK := Lib.hid hV.ks
  have hu : valX c (n + 1) x = if x.op = 2 then !valX c n (kidX x 0) else if x.op = 3 then valX c n (kidX x 0) && valX c n (kidX x 1) else if x.op = 4 then valX c n (kidX x 0) || valX c n (kidX x 1) else if x.op = 9 then hasS x.st (rdX c x.a.toNat).s else relX (rdX c x.a.toNat) x.r (rdX c x.b.toNat) := rfl
  rw [hu]
  have HKID : Hid (∀ (i : Nat) (hi : i < x.ks.length), ∃ g' o', ak = some ⟨g', o', none⟩ ∧ g' < w.heap.size ∧ ∃ ao2 cap2 ak2 ck2, (∀ W, Below w.heap.size w W → XC W g' (o' + i * 10) (kidX x i).op (kidX x i).a (kidX x i).r (kidX x i).b ao2 (kidX x i).ns.length cap2 (kidX x i).st ak2 (kidX x i).ks.length ck2) ∧ ∀ W, Below w.heap.size w W → Calls Try.prog 22 #[.agg #[.int .i64 (kidX x i).op, .int .i64 (kidX x i).a, .int .i64 (kidX x i).r, .int .i64 (kidX x i).b, .slice ao2 (kidX x i).ns.length cap2, .int .u64 (kidX x i).st.a, .int .u64 (kidX x i).st.b, .int .u64 (kidX x i).st.c, .int .u64 (kidX x i).st.d, .slice ak2 (kidX x i).ks.length ck2], .agg #[.int .i64 c.c1.u, .int .i64 c.c1.ro, .int .i64 c.c1.ty, .int .i64 c.c1.lo.s, .int .u64 c.c1.lo.c, .int .i64 c.c1.hi.s, .int .u64 c.c1.hi.c, .int .i64 c.c2.u, .int .i64 c.c2.ro, .int .i64 c.c2.ty, .int .i64 c.c2.lo.s, .int .u64 c.c2.lo.c, .int .i64 c.c2.hi.s, .int .u64 c.c2.hi.c, .int .i64 c.c3.u, .int .i64 c.c3.ro, .int .i64 c.c3.ty, .int .i64 c.c3.lo.s, .int .u64 c.c3.lo.c, .int .i64 c.c3.hi.s, .int .u64 c.c3.hi.c]] W fun e w' => e = .returned (.bool (valX c n (kidX x i))) ∧ Below W.heap.size W w') := Lib.hid fun i hi => by
    obtain ⟨g', o', hak, hg', hR⟩ := HK.out.row hi
    have hA := hR i hi
    rw [← kid_at hi] at hA
    obtain ⟨ao2, cap2, ak2, ck2, hc2, hv2⟩ := hA.xv
    refine ⟨g', o', hak, hg', ao2, cap2, ak2, ck2, fun W hW => hc2.keep (hW.block g' hg'), fun W hW => ?_⟩
    refine HIH.out _ _ _ W ?_ (hv2.keep hW)
    rw [kid_at hi]
    exact HKS.out _ (List.getElem_mem hi)
  clear ih hks hu hV
  have p2 : (x.op == 2) = true := by rw [hop]; rfl
  have p3 : (x.op == 3) = false := by rw [hop]; rfl
  have p4 : (x.op == 4) = false := by rw [hop]; rfl
  have p9 : (x.op == 9) = false := by rw [hop]; rfl
  rw [if_pos hop]
  obtain ⟨g0, o0, hak0, hg0, ao0, cap0, ak0, ck0, HXK0, HV0⟩ := HKID.out 0 (by omega)
  subst hak0
  rw [Nat.zero_mul, Nat.add_zero] at HXK0
  have HXK0 := Lib.hid HXK0
  have HV0 := Lib.hid HV0
  generalize kidX x 0 = k0 at *
  obtain ⟨v0, hv0⟩ : ∃ v, valX c n k0 = v := ⟨_, rfl⟩
  rw [hv0] at HV0 ⊢
  clear hv0
  rw [hlen]
  have HXC : Hid (XC ((w.alloc (.cells #[.int .i64 x.op, .int .i64 x.a, .int .i64 x.r, .int .i64 x.b, .slice ao x.ns.length cap, .int .u64 x.st.a, .int .u64 x.st.b, .int .u64 x.st.c, .int .u64 x.st.d, .slice (some ⟨g0, o0, none⟩) 1 ck] 28)).alloc (.cells #[.int .i64 c.c1.u, .int .i64 c.c1.ro, .int .i64 c.c1.ty, .int .i64 c.c1.lo.s, .int .u64 c.c1.lo.c, .int .i64 c.c1.hi.s, .int .u64 c.c1.hi.c, .int .i64 c.c2.u, .int .i64 c.c2.ro, .int .i64 c.c2.ty, .int .i64 c.c2.lo.s, .int .u64 c.c2.lo.c, .int .i64 c.c2.hi.s, .int .u64 c.c2.hi.c, .int .i64 c.c3.u, .int .i64 c.c3.ro, .int .i64 c.c3.ty, .int .i64 c.c3.lo.s, .int .u64 c.c3.lo.c, .int .i64 c.c3.hi.s, .int .u64 c.c3.hi.c] 36)) w.heap.size 0 x.op x.a x.r x.b ao x.ns.length cap x.st (some ⟨g0, o0, none⟩) 1 ck) := Lib.hid (XC.of_blk ((Blk.new w _ _).alloc _))
  have HC : Hid (Blk ((w.alloc (.cells #[.int .i64 x.op, .int .i64 x.a, .int .i64 x.r, .int .i64 x.b, .slice ao x.ns.length cap, .int .u64 x.st.a, .int .u64 x.st.b, .int .u64 x.st.c, .int .u64 x.st.d, .slice (some ⟨g0, o0, none⟩) 1 ck] 28)).alloc (.cells #[.int .i64 c.c1.u, .int .i64 c.c1.ro, .int .i64 c.c1.ty, .int .i64 c.c1.lo.s, .int .u64 c.c1.lo.c, .int .i64 c.c1.hi.s, .int .u64 c.c1.hi.c, .int .i64 c.c2.u, .int .i64 c.c2.ro, .int .i64 c.c2.ty, .int .i64 c.c2.lo.s, .int .u64 c.c2.lo.c, .int .i64 c.c2.hi.s, .int .u64 c.c2.hi.c, .int .i64 c.c3.u, .int .i64 c.c3.ro, .int .i64 c.c3.ty, .int .i64 c.c3.lo.s, .int .u64 c.c3.lo.c, .int .i64 c.c3.hi.s, .int .u64 c.c3.hi.c] 36)) (w.heap.size + 1) 36 #[.int .i64 c.c1.u, .int .i64 c.c1.ro, .int .i64 c.c1.ty, .int .i64 c.c1.lo.s, .int .u64 c.c1.lo.c, .int .i64 c.c1.hi.s, .int .u64 c.c1.hi.c, .int .i64 c.c2.u, .int .i64 c.c2.ro, .int .i64 c.c2.ty, .int .i64 c.c2.lo.s, .int .u64 c.c2.lo.c, .int .i64 c.c2.hi.s, .int .u64 c.c2.hi.c, .int .i64 c.c3.u, .int .i64 c.c3.ro, .int .i64 c.c3.ty, .int .i64 c.c3.lo.s, .int .u64 c.c3.lo.c, .int .i64 c.c3.hi.s, .int .u64 c.c3.hi.c]) := Lib.hid (two_new' _ _ _ _)
  have HB : Hid (Below w.heap.size w ((w.alloc (.cells #[.int .i64 x.op, .int .i64 x.a, .int .i64 x.r, .int .i64 x.b, .slice ao x.ns.length cap, .int .u64 x.st.a, .int .u64 x.st.b, .int .u64 x.st.c, .int .u64 x.st.d, .slice (some ⟨g0, o0, none⟩) 1 ck] 28)).alloc (.cells #[.int .i64 c.c1.u, .int .i64 c.c1.ro, .int .i64 c.c1.ty, .int .i64 c.c1.lo.s, .int .u64 c.c1.lo.c, .int .i64 c.c1.hi.s, .int .u64 c.c1.hi.c, .int .i64 c.c2.u, .int .i64 c.c2.ro, .int .i64 c.c2.ty, .int .i64 c.c2.lo.s, .int .u64 c.c2.lo.c, .int .i64 c.c2.hi.s, .int .u64 c.c2.hi.c, .int .i64 c.c3.u, .int .i64 c.c3.ro, .int .i64 c.c3.ty, .int .i64 c.c3.lo.s, .int .u64 c.c3.lo.c, .int .i64 c.c3.hi.s, .int .u64 c.c3.hi.c] 36))) := Lib.hid (((Below.refl _ _).alloc (Nat.le_refl _) _).alloc (by simp) _)
  have HG : Hid (w.heap.size < ((w.alloc (.cells #[.int .i64 x.op, .int .i64 x.a, .int .i64 x.r, .int .i64 x.b, .slice ao x.ns.length cap, .int .u64 x.st.a, .int .u64 x.st.b, .int .u64 x.st.c, .int .u64 x.st.d, .slice (some ⟨g0, o0, none⟩) 1 ck] 28)).alloc (.cells #[.int .i64 c.c1.u, .int .i64 c.c1.ro, .int .i64 c.c1.ty, .int .i64 c.c1.lo.s, .int .u64 c.c1.lo.c, .int .i64 c.c1.hi.s, .int .u64 c.c1.hi.c, .int .i64 c.c2.u, .int .i64 c.c2.ro, .int .i64 c.c2.ty, .int .i64 c.c2.lo.s, .int .u64 c.c2.lo.c, .int .i64 c.c2.hi.s, .int .u64 c.c2.hi.c, .int .i64 c.c3.u, .int .i64 c.c3.ro, .int .i64 c.c3.ty, .int .i64 c.c3.lo.s, .int .u64 c.c3.lo.c, .int .i64 c.c3.hi.s, .int .u64 c.c3.hi.c] 36)).heap.size) := Lib.hid (by simp; omega)
  clear hop hlen hk8 hk9 HKID HK HKS HIH
  go_enter Try.func22, Try.ntmps22
  go_upto_region 1 with fail
  generalize (w.alloc (.cells #[.int .i64 x.op, .int .i64 x.a, .int .i64 x.r, .int .i64 x.b, .slice ao x.ns.length cap, .int .u64 x.st.a, .int .u64 x.st.b, .int .u64 x.st.c, .int .u64 x.st.d, .slice (some ⟨g0, o0, none⟩) 1 ck] 28)).alloc (.cells #[.int .i64 c.c1.u, .int .i64 c.c1.ro, .int .i64 c.c1.ty, .int .i64 c.c1.lo.s, .int .u64 c.c1.lo.c, .int .i64 c.c1.hi.s, .int .u64 c.c1.hi.c, .int .i64 c.c2.u, .int .i64 c.c2.ro, .int .i64 c.c2.ty, .int .i64 c.c2.lo.s, .int .u64 c.c2.lo.c, .int .i64 c.c2.hi.s, .int .u64 c.c2.hi.c, .int .i64 c.c3.u, .int .i64 c.c3.ro, .int .i64 c.c3.ty, .int .i64 c.c3.lo.s, .int .u64 c.c3.lo.c, .int .i64 c.c3.hi.s, .int .u64 c.c3.hi.c] 36) = W at *
  have HLE : Hid (w.heap.size ≤ W.heap.size) := Lib.hid HB.out.size
  generalize w.heap.size + 1 = gc at *
  generalize hge : w.heap.size = ge at *
  obtain ⟨y0, y1, y2, y3, y4, y5, y6, y7, y8, y9⟩ := HXC.out.cells
  go_upto_region 3 with fail
  clear y0 y1 y2 y3 y4 y5 y6 y7 y8 y9
  refine wp_region_kp (by kernel_rfl) (by kernel_rfl) ?_
  repeat (first
      | go_big_quiet_skip
      | (go_big_quiet_want
         first
           | (refine quiet_load _ rfl rfl (fun w1 hC => loadAt_case (Blk.keep HC.out hC)) ?_; simp only [Act.put, List.setIfInBounds_toArray, List.set_cons_succ, List.set_cons_zero]; go_big_quiet_on)
           | (go_big_quiet_op
              first
                | go_big_quiet_on
                | (apply Exists.intro
                   refine ⟨fun w1 hC => ?_, ?_⟩
                   · first
                       | (go_at_call 22; with_reducible exact hC.call (HV0.out _ (kpb HB.out HLE.out hC)))
                       | (go_simp; exact ⟨rfl, rfl⟩)
                       | (obtain ⟨y0, y1, y2, y3, y4, y5, y6, y7, y8, y9⟩ := (HXC.out.keep (Below.block hC ge HG.out)).cells; obtain ⟨z0, z1, z2, z3, z4, z5, z6, z7, z8, z9⟩ := (HXK0.out _ (HB.out.trans (hC.mono HLE.out))).cells; go_simp; exact rfl)
                   go_big_quiet_on))))
  refine wpQuiet_nil ?_
  intro W1 hC
  have HCC := Lib.hid (HB.out.trans (hC.mono HLE.out))
  clear hC
  go_wp2_with fail
  go_ret
  exact ⟨rfl, by first | exact HCC.out | (rw [hge]; exact HCC.out)⟩
end Go.Proofs.Ytamcfmfkmekkfaa
/- The reference's value, operator 3. -/
namespace Go.Proofs.Ytamcfmfkmekkfaa
open Go.RowKit Go
set_option maxRecDepth 100000 in
set_option maxHeartbeats 32000000 in
theorem rv3 (c : Ca) (n : Nat) (ih : ∀ (x : X) (vn vk : Value) (w : World), okW n x → XV w vn vk x → Calls Try.prog 22 #[.agg #[.int .i64 x.op, .int .i64 x.a, .int .i64 x.r, .int .i64 x.b, vn, .int .u64 x.st.a, .int .u64 x.st.b, .int .u64 x.st.c, .int .u64 x.st.d, vk], .agg #[.int .i64 c.c1.u, .int .i64 c.c1.ro, .int .i64 c.c1.ty, .int .i64 c.c1.lo.s, .int .u64 c.c1.lo.c, .int .i64 c.c1.hi.s, .int .u64 c.c1.hi.c, .int .i64 c.c2.u, .int .i64 c.c2.ro, .int .i64 c.c2.ty, .int .i64 c.c2.lo.s, .int .u64 c.c2.lo.c, .int .i64 c.c2.hi.s, .int .u64 c.c2.hi.c, .int .i64 c.c3.u, .int .i64 c.c3.ro, .int .i64 c.c3.ty, .int .i64 c.c3.lo.s, .int .u64 c.c3.lo.c, .int .i64 c.c3.hi.s, .int .u64 c.c3.hi.c]] w fun e w' => e = .returned (.bool (valX c n x)) ∧ Below w.heap.size w w') (x : X) (vn vk : Value) (w : World) (hok : okW (n + 1) x) (hV : XV w vn vk x) (hop : x.op = 3) (hlen : x.ks.length = 2) :
    Calls Try.prog 22 #[.agg #[.int .i64 x.op, .int .i64 x.a, .int .i64 x.r, .int .i64 x.b, vn, .int .u64 x.st.a, .int .u64 x.st.b, .int .u64 x.st.c, .int .u64 x.st.d, vk], .agg #[.int .i64 c.c1.u, .int .i64 c.c1.ro, .int .i64 c.c1.ty, .int .i64 c.c1.lo.s, .int .u64 c.c1.lo.c, .int .i64 c.c1.hi.s, .int .u64 c.c1.hi.c, .int .i64 c.c2.u, .int .i64 c.c2.ro, .int .i64 c.c2.ty, .int .i64 c.c2.lo.s, .int .u64 c.c2.lo.c, .int .i64 c.c2.hi.s, .int .u64 c.c2.hi.c, .int .i64 c.c3.u, .int .i64 c.c3.ro, .int .i64 c.c3.ty, .int .i64 c.c3.lo.s, .int .u64 c.c3.lo.c, .int .i64 c.c3.hi.s, .int .u64 c.c3.hi.c]] w fun e w' => e = .returned (.bool (valX c (n + 1) x)) ∧ Below w.heap.size w w' := by
  obtain ⟨-, hk8, hk9, hks⟩ := hok
  have HIH := Lib.hid ih
  have HKS := Lib.hid hks
  obtain ⟨ao, cap, ak, ck, rfl, rfl⟩ := hV.form
  have HK := Lib.hid hV.ks
  have hu : valX c (n + 1) x = if x.op = 2 then !valX c n (kidX x 0) else if x.op = 3 then valX c n (kidX x 0) && valX c n (kidX x 1) else if x.op = 4 then valX c n (kidX x 0) || valX c n (kidX x 1) else if x.op = 9 then hasS x.st (rdX c x.a.toNat).s else relX (rdX c x.a.toNat) x.r (rdX c x.b.toNat) := rfl
  rw [hu]
  have HKID : Hid (∀ (i : Nat) (hi : i < x.ks.length), ∃ g' o', ak = some ⟨g', o', none⟩ ∧ g' < w.heap.size ∧ ∃ ao2 cap2 ak2 ck2, (∀ W, Below w.heap.size w W → XC W g' (o' + i * 10) (kidX x i).op (kidX x i).a (kidX x i).r (kidX x i).b ao2 (kidX x i).ns.length cap2 (kidX x i).st ak2 (kidX x i).ks.length ck2) ∧ ∀ W, Below w.heap.size w W → Calls Try.prog 22 #[.agg #[.int .i64 (kidX x i).op, .int .i64 (kidX x i).a, .int .i64 (kidX x i).r, .int .i64 (kidX x i).b, .slice ao2 (kidX x i).ns.length cap2, .int .u64 (kidX x i).st.a, .int .u64 (kidX x i).st.b, .int .u64 (kidX x i).st.c, .int .u64 (kidX x i).st.d, .slice ak2 (kidX x i).ks.length ck2], .agg #[.int .i64 c.c1.u, .int .i64 c.c1.ro, .int .i64 c.c1.ty, .int .i64 c.c1.lo.s, .int .u64 c.c1.lo.c, .int .i64 c.c1.hi.s, .int .u64 c.c1.hi.c, .int .i64 c.c2.u, .int .i64 c.c2.ro, .int .i64 c.c2.ty, .int .i64 c.c2.lo.s, .int .u64 c.c2.lo.c, .int .i64 c.c2.hi.s, .int .u64 c.c2.hi.c, .int .i64 c.c3.u, .int .i64 c.c3.ro, .int .i64 c.c3.ty, .int .i64 c.c3.lo.s, .int .u64 c.c3.lo.c, .int .i64 c.c3.hi.s, .int .u64 c.c3.hi.c]] W fun e w' => e = .returned (.bool (valX c n (kidX x i))) ∧ Below W.heap.size W w') := Lib.hid fun i hi => by
    obtain ⟨g', o', hak, hg', hR⟩ := HK.out.row hi
    have hA := hR i hi
    rw [← kid_at hi] at hA
    obtain ⟨ao2, cap2, ak2, ck2, hc2, hv2⟩ := hA.xv
    refine ⟨g', o', hak, hg', ao2, cap2, ak2, ck2, fun W hW => hc2.keep (hW.block g' hg'), fun W hW => ?_⟩
    refine HIH.out _ _ _ W ?_ (hv2.keep hW)
    rw [kid_at hi]
    exact HKS.out _ (List.getElem_mem hi)
  clear ih hks hu hV
  have p2 : (x.op == 2) = false := by rw [hop]; rfl
  have p3 : (x.op == 3) = true := by rw [hop]; rfl
  have p4 : (x.op == 4) = false := by rw [hop]; rfl
  have p9 : (x.op == 9) = false := by rw [hop]; rfl
  rw [if_neg (by omega), if_pos hop]
  obtain ⟨g0, o0, hak0, hg0, ao0, cap0, ak0, ck0, HXK0, HV0⟩ := HKID.out 0 (by omega)
  obtain ⟨g1, o1, hak1, hg1, ao1, cap1, ak1, ck1, HXK1, HV1⟩ := HKID.out 1 (by omega)
  rw [hak0] at hak1
  obtain ⟨rfl, rfl⟩ : g0 = g1 ∧ o0 = o1 := by simpa using hak1
  subst hak0
  rw [Nat.zero_mul, Nat.add_zero] at HXK0
  rw [Nat.one_mul] at HXK1
  have HXK0 := Lib.hid HXK0
  have HV0 := Lib.hid HV0
  generalize kidX x 0 = k0 at *
  obtain ⟨v0, hv0⟩ : ∃ v, valX c n k0 = v := ⟨_, rfl⟩
  rw [hv0] at HV0 ⊢
  clear hv0
  have HXK1 := Lib.hid HXK1
  have HV1 := Lib.hid HV1
  generalize kidX x 1 = k1 at *
  obtain ⟨v1, hv1⟩ : ∃ v, valX c n k1 = v := ⟨_, rfl⟩
  rw [hv1] at HV1 ⊢
  clear hv1
  rw [hlen]
  have HXC : Hid (XC ((w.alloc (.cells #[.int .i64 x.op, .int .i64 x.a, .int .i64 x.r, .int .i64 x.b, .slice ao x.ns.length cap, .int .u64 x.st.a, .int .u64 x.st.b, .int .u64 x.st.c, .int .u64 x.st.d, .slice (some ⟨g0, o0, none⟩) 2 ck] 28)).alloc (.cells #[.int .i64 c.c1.u, .int .i64 c.c1.ro, .int .i64 c.c1.ty, .int .i64 c.c1.lo.s, .int .u64 c.c1.lo.c, .int .i64 c.c1.hi.s, .int .u64 c.c1.hi.c, .int .i64 c.c2.u, .int .i64 c.c2.ro, .int .i64 c.c2.ty, .int .i64 c.c2.lo.s, .int .u64 c.c2.lo.c, .int .i64 c.c2.hi.s, .int .u64 c.c2.hi.c, .int .i64 c.c3.u, .int .i64 c.c3.ro, .int .i64 c.c3.ty, .int .i64 c.c3.lo.s, .int .u64 c.c3.lo.c, .int .i64 c.c3.hi.s, .int .u64 c.c3.hi.c] 36)) w.heap.size 0 x.op x.a x.r x.b ao x.ns.length cap x.st (some ⟨g0, o0, none⟩) 2 ck) := Lib.hid (XC.of_blk ((Blk.new w _ _).alloc _))
  have HC : Hid (Blk ((w.alloc (.cells #[.int .i64 x.op, .int .i64 x.a, .int .i64 x.r, .int .i64 x.b, .slice ao x.ns.length cap, .int .u64 x.st.a, .int .u64 x.st.b, .int .u64 x.st.c, .int .u64 x.st.d, .slice (some ⟨g0, o0, none⟩) 2 ck] 28)).alloc (.cells #[.int .i64 c.c1.u, .int .i64 c.c1.ro, .int .i64 c.c1.ty, .int .i64 c.c1.lo.s, .int .u64 c.c1.lo.c, .int .i64 c.c1.hi.s, .int .u64 c.c1.hi.c, .int .i64 c.c2.u, .int .i64 c.c2.ro, .int .i64 c.c2.ty, .int .i64 c.c2.lo.s, .int .u64 c.c2.lo.c, .int .i64 c.c2.hi.s, .int .u64 c.c2.hi.c, .int .i64 c.c3.u, .int .i64 c.c3.ro, .int .i64 c.c3.ty, .int .i64 c.c3.lo.s, .int .u64 c.c3.lo.c, .int .i64 c.c3.hi.s, .int .u64 c.c3.hi.c] 36)) (w.heap.size + 1) 36 #[.int .i64 c.c1.u, .int .i64 c.c1.ro, .int .i64 c.c1.ty, .int .i64 c.c1.lo.s, .int .u64 c.c1.lo.c, .int .i64 c.c1.hi.s, .int .u64 c.c1.hi.c, .int .i64 c.c2.u, .int .i64 c.c2.ro, .int .i64 c.c2.ty, .int .i64 c.c2.lo.s, .int .u64 c.c2.lo.c, .int .i64 c.c2.hi.s, .int .u64 c.c2.hi.c, .int .i64 c.c3.u, .int .i64 c.c3.ro, .int .i64 c.c3.ty, .int .i64 c.c3.lo.s, .int .u64 c.c3.lo.c, .int .i64 c.c3.hi.s, .int .u64 c.c3.hi.c]) := Lib.hid (two_new' _ _ _ _)
  have HB : Hid (Below w.heap.size w ((w.alloc (.cells #[.int .i64 x.op, .int .i64 x.a, .int .i64 x.r, .int .i64 x.b, .slice ao x.ns.length cap, .int .u64 x.st.a, .int .u64 x.st.b, .int .u64 x.st.c, .int .u64 x.st.d, .slice (some ⟨g0, o0, none⟩) 2 ck] 28)).alloc (.cells #[.int .i64 c.c1.u, .int .i64 c.c1.ro, .int .i64 c.c1.ty, .int .i64 c.c1.lo.s, .int .u64 c.c1.lo.c, .int .i64 c.c1.hi.s, .int .u64 c.c1.hi.c, .int .i64 c.c2.u, .int .i64 c.c2.ro, .int .i64 c.c2.ty, .int .i64 c.c2.lo.s, .int .u64 c.c2.lo.c, .int .i64 c.c2.hi.s, .int .u64 c.c2.hi.c, .int .i64 c.c3.u, .int .i64 c.c3.ro, .int .i64 c.c3.ty, .int .i64 c.c3.lo.s, .int .u64 c.c3.lo.c, .int .i64 c.c3.hi.s, .int .u64 c.c3.hi.c] 36))) := Lib.hid (((Below.refl _ _).alloc (Nat.le_refl _) _).alloc (by simp) _)
  have HG : Hid (w.heap.size < ((w.alloc (.cells #[.int .i64 x.op, .int .i64 x.a, .int .i64 x.r, .int .i64 x.b, .slice ao x.ns.length cap, .int .u64 x.st.a, .int .u64 x.st.b, .int .u64 x.st.c, .int .u64 x.st.d, .slice (some ⟨g0, o0, none⟩) 2 ck] 28)).alloc (.cells #[.int .i64 c.c1.u, .int .i64 c.c1.ro, .int .i64 c.c1.ty, .int .i64 c.c1.lo.s, .int .u64 c.c1.lo.c, .int .i64 c.c1.hi.s, .int .u64 c.c1.hi.c, .int .i64 c.c2.u, .int .i64 c.c2.ro, .int .i64 c.c2.ty, .int .i64 c.c2.lo.s, .int .u64 c.c2.lo.c, .int .i64 c.c2.hi.s, .int .u64 c.c2.hi.c, .int .i64 c.c3.u, .int .i64 c.c3.ro, .int .i64 c.c3.ty, .int .i64 c.c3.lo.s, .int .u64 c.c3.lo.c, .int .i64 c.c3.hi.s, .int .u64 c.c3.hi.c] 36)).heap.size) := Lib.hid (by simp; omega)
  clear hop hlen hk8 hk9 hak1 HKID HK HKS HIH
  cases v0 with
  | true =>
    go_enter Try.func22, Try.ntmps22
    go_upto_region 1 with fail
    generalize (w.alloc (.cells #[.int .i64 x.op, .int .i64 x.a, .int .i64 x.r, .int .i64 x.b, .slice ao x.ns.length cap, .int .u64 x.st.a, .int .u64 x.st.b, .int .u64 x.st.c, .int .u64 x.st.d, .slice (some ⟨g0, o0, none⟩) 2 ck] 28)).alloc (.cells #[.int .i64 c.c1.u, .int .i64 c.c1.ro, .int .i64 c.c1.ty, .int .i64 c.c1.lo.s, .int .u64 c.c1.lo.c, .int .i64 c.c1.hi.s, .int .u64 c.c1.hi.c, .int .i64 c.c2.u, .int .i64 c.c2.ro, .int .i64 c.c2.ty, .int .i64 c.c2.lo.s, .int .u64 c.c2.lo.c, .int .i64 c.c2.hi.s, .int .u64 c.c2.hi.c, .int .i64 c.c3.u, .int .i64 c.c3.ro, .int .i64 c.c3.ty, .int .i64 c.c3.lo.s, .int .u64 c.c3.lo.c, .int .i64 c.c3.hi.s, .int .u64 c.c3.hi.c] 36) = W at *
    have HLE : Hid (w.heap.size ≤ W.heap.size) := Lib.hid HB.out.size
    generalize w.heap.size + 1 = gc at *
    generalize hge : w.heap.size = ge at *
    obtain ⟨y0, y1, y2, y3, y4, y5, y6, y7, y8, y9⟩ := HXC.out.cells
    go_upto_region 5 with fail
    clear y0 y1 y2 y3 y4 y5 y6 y7 y8 y9
    refine wp_region_kp (by kernel_rfl) (by kernel_rfl) ?_
    repeat (first
        | go_big_quiet_skip
        | (go_big_quiet_want
           first
             | (refine quiet_load _ rfl rfl (fun w1 hC => loadAt_case (Blk.keep HC.out hC)) ?_; simp only [Act.put, List.setIfInBounds_toArray, List.set_cons_succ, List.set_cons_zero]; go_big_quiet_on)
             | (go_big_quiet_op
                first
                  | go_big_quiet_on
                  | (apply Exists.intro
                     refine ⟨fun w1 hC => ?_, ?_⟩
                     · first
                         | (go_at_call 22; with_reducible first | exact hC.call (HV1.out _ (kpb HB.out HLE.out hC)) | exact hC.call (HV0.out _ (kpb HB.out HLE.out hC)))
                         | (go_simp; exact ⟨rfl, rfl⟩)
                         | (obtain ⟨y0, y1, y2, y3, y4, y5, y6, y7, y8, y9⟩ := (HXC.out.keep (Below.block hC ge HG.out)).cells; obtain ⟨z0, z1, z2, z3, z4, z5, z6, z7, z8, z9⟩ := (HXK0.out _ (HB.out.trans (hC.mono HLE.out))).cells; obtain ⟨t0, t1, t2, t3, t4, t5, t6, t7, t8, t9⟩ := (HXK1.out _ (HB.out.trans (hC.mono HLE.out))).cells; go_simp; exact rfl)
                         | (obtain ⟨y0, y1, y2, y3, y4, y5, y6, y7, y8, y9⟩ := (HXC.out.keep (Below.block hC ge HG.out)).cells; obtain ⟨z0, z1, z2, z3, z4, z5, z6, z7, z8, z9⟩ := (HXK0.out _ (HB.out.trans (hC.mono HLE.out))).cells; go_simp; exact rfl)
                     go_big_quiet_on))))
    refine wpQuiet_nil ?_
    intro W1 hC
    have HCC := Lib.hid (HB.out.trans (hC.mono HLE.out))
    clear hC
    go_wp2_with fail
    go_ret
    exact ⟨rfl, by first | exact HCC.out | (rw [hge]; exact HCC.out)⟩
  | false =>
    go_enter Try.func22, Try.ntmps22
    go_upto_region 1 with fail
    generalize (w.alloc (.cells #[.int .i64 x.op, .int .i64 x.a, .int .i64 x.r, .int .i64 x.b, .slice ao x.ns.length cap, .int .u64 x.st.a, .int .u64 x.st.b, .int .u64 x.st.c, .int .u64 x.st.d, .slice (some ⟨g0, o0, none⟩) 2 ck] 28)).alloc (.cells #[.int .i64 c.c1.u, .int .i64 c.c1.ro, .int .i64 c.c1.ty, .int .i64 c.c1.lo.s, .int .u64 c.c1.lo.c, .int .i64 c.c1.hi.s, .int .u64 c.c1.hi.c, .int .i64 c.c2.u, .int .i64 c.c2.ro, .int .i64 c.c2.ty, .int .i64 c.c2.lo.s, .int .u64 c.c2.lo.c, .int .i64 c.c2.hi.s, .int .u64 c.c2.hi.c, .int .i64 c.c3.u, .int .i64 c.c3.ro, .int .i64 c.c3.ty, .int .i64 c.c3.lo.s, .int .u64 c.c3.lo.c, .int .i64 c.c3.hi.s, .int .u64 c.c3.hi.c] 36) = W at *
    have HLE : Hid (w.heap.size ≤ W.heap.size) := Lib.hid HB.out.size
    generalize w.heap.size + 1 = gc at *
    generalize hge : w.heap.size = ge at *
    obtain ⟨y0, y1, y2, y3, y4, y5, y6, y7, y8, y9⟩ := HXC.out.cells
    go_upto_region 5 with fail
    clear y0 y1 y2 y3 y4 y5 y6 y7 y8 y9
    refine wp_region_kp (by kernel_rfl) (by kernel_rfl) ?_
    repeat (first
        | go_big_quiet_skip
        | (go_big_quiet_want
           first
             | (refine quiet_load _ rfl rfl (fun w1 hC => loadAt_case (Blk.keep HC.out hC)) ?_; simp only [Act.put, List.setIfInBounds_toArray, List.set_cons_succ, List.set_cons_zero]; go_big_quiet_on)
             | (go_big_quiet_op
                first
                  | go_big_quiet_on
                  | (apply Exists.intro
                     refine ⟨fun w1 hC => ?_, ?_⟩
                     · first
                         | (go_at_call 22; with_reducible first | exact hC.call (HV1.out _ (kpb HB.out HLE.out hC)) | exact hC.call (HV0.out _ (kpb HB.out HLE.out hC)))
                         | (go_simp; exact ⟨rfl, rfl⟩)
                         | (obtain ⟨y0, y1, y2, y3, y4, y5, y6, y7, y8, y9⟩ := (HXC.out.keep (Below.block hC ge HG.out)).cells; obtain ⟨z0, z1, z2, z3, z4, z5, z6, z7, z8, z9⟩ := (HXK0.out _ (HB.out.trans (hC.mono HLE.out))).cells; obtain ⟨t0, t1, t2, t3, t4, t5, t6, t7, t8, t9⟩ := (HXK1.out _ (HB.out.trans (hC.mono HLE.out))).cells; go_simp; exact rfl)
                         | (obtain ⟨y0, y1, y2, y3, y4, y5, y6, y7, y8, y9⟩ := (HXC.out.keep (Below.block hC ge HG.out)).cells; obtain ⟨z0, z1, z2, z3, z4, z5, z6, z7, z8, z9⟩ := (HXK0.out _ (HB.out.trans (hC.mono HLE.out))).cells; go_simp; exact rfl)
                     go_big_quiet_on))))
    refine wpQuiet_nil ?_
    intro W1 hC
    have HCC := Lib.hid (HB.out.trans (hC.mono HLE.out))
    clear hC
    go_wp2_with fail
    go_ret
    exact ⟨rfl, by first | exact HCC.out | (rw [hge]; exact HCC.out)⟩
end Go.Proofs.Ytamcfmfkmekkfaa
/- The reference's value, operator 4. -/
namespace Go.Proofs.Ytamcfmfkmekkfaa
open Go.RowKit Go
set_option maxRecDepth 100000 in
set_option maxHeartbeats 32000000 in
theorem rv4 (c : Ca) (n : Nat) (ih : ∀ (x : X) (vn vk : Value) (w : World), okW n x → XV w vn vk x → Calls Try.prog 22 #[.agg #[.int .i64 x.op, .int .i64 x.a, .int .i64 x.r, .int .i64 x.b, vn, .int .u64 x.st.a, .int .u64 x.st.b, .int .u64 x.st.c, .int .u64 x.st.d, vk], .agg #[.int .i64 c.c1.u, .int .i64 c.c1.ro, .int .i64 c.c1.ty, .int .i64 c.c1.lo.s, .int .u64 c.c1.lo.c, .int .i64 c.c1.hi.s, .int .u64 c.c1.hi.c, .int .i64 c.c2.u, .int .i64 c.c2.ro, .int .i64 c.c2.ty, .int .i64 c.c2.lo.s, .int .u64 c.c2.lo.c, .int .i64 c.c2.hi.s, .int .u64 c.c2.hi.c, .int .i64 c.c3.u, .int .i64 c.c3.ro, .int .i64 c.c3.ty, .int .i64 c.c3.lo.s, .int .u64 c.c3.lo.c, .int .i64 c.c3.hi.s, .int .u64 c.c3.hi.c]] w fun e w' => e = .returned (.bool (valX c n x)) ∧ Below w.heap.size w w') (x : X) (vn vk : Value) (w : World) (hok : okW (n + 1) x) (hV : XV w vn vk x) (hop : x.op = 4) (hlen : x.ks.length = 2) :
    Calls Try.prog 22 #[.agg #[.int .i64 x.op, .int .i64 x.a, .int .i64 x.r, .int .i64 x.b, vn, .int .u64 x.st.a, .int .u64 x.st.b, .int .u64 x.st.c, .int .u64 x.st.d, vk], .agg #[.int .i64 c.c1.u, .int .i64 c.c1.ro, .int .i64 c.c1.ty, .int .i64 c.c1.lo.s, .int .u64 c.c1.lo.c, .int .i64 c.c1.hi.s, .int .u64 c.c1.hi.c, .int .i64 c.c2.u, .int .i64 c.c2.ro, .int .i64 c.c2.ty, .int .i64 c.c2.lo.s, .int .u64 c.c2.lo.c, .int .i64 c.c2.hi.s, .int .u64 c.c2.hi.c, .int .i64 c.c3.u, .int .i64 c.c3.ro, .int .i64 c.c3.ty, .int .i64 c.c3.lo.s, .int .u64 c.c3.lo.c, .int .i64 c.c3.hi.s, .int .u64 c.c3.hi.c]] w fun e w' => e = .returned (.bool (valX c (n + 1) x)) ∧ Below w.heap.size w w' := by
  obtain ⟨-, hk8, hk9, hks⟩ := hok
  have HIH := Lib.hid ih
  have HKS := Lib.hid hks
  obtain ⟨ao, cap, ak, ck, rfl, rfl⟩ := hV.form
  have HK := Lib.hid hV.ks
  have hu : valX c (n + 1) x = if x.op = 2 then !valX c n (kidX x 0) else if x.op = 3 then valX c n (kidX x 0) && valX c n (kidX x 1) else if x.op = 4 then valX c n (kidX x 0) || valX c n (kidX x 1) else if x.op = 9 then hasS x.st (rdX c x.a.toNat).s else relX (rdX c x.a.toNat) x.r (rdX c x.b.toNat) := rfl
  rw [hu]
  have HKID : Hid (∀ (i : Nat) (hi : i < x.ks.length), ∃ g' o', ak = some ⟨g', o', none⟩ ∧ g' < w.heap.size ∧ ∃ ao2 cap2 ak2 ck2, (∀ W, Below w.heap.size w W → XC W g' (o' + i * 10) (kidX x i).op (kidX x i).a (kidX x i).r (kidX x i).b ao2 (kidX x i).ns.length cap2 (kidX x i).st ak2 (kidX x i).ks.length ck2) ∧ ∀ W, Below w.heap.size w W → Calls Try.prog 22 #[.agg #[.int .i64 (kidX x i).op, .int .i64 (kidX x i).a, .int .i64 (kidX x i).r, .int .i64 (kidX x i).b, .slice ao2 (kidX x i).ns.length cap2, .int .u64 (kidX x i).st.a, .int .u64 (kidX x i).st.b, .int .u64 (kidX x i).st.c, .int .u64 (kidX x i).st.d, .slice ak2 (kidX x i).ks.length ck2], .agg #[.int .i64 c.c1.u, .int .i64 c.c1.ro, .int .i64 c.c1.ty, .int .i64 c.c1.lo.s, .int .u64 c.c1.lo.c, .int .i64 c.c1.hi.s, .int .u64 c.c1.hi.c, .int .i64 c.c2.u, .int .i64 c.c2.ro, .int .i64 c.c2.ty, .int .i64 c.c2.lo.s, .int .u64 c.c2.lo.c, .int .i64 c.c2.hi.s, .int .u64 c.c2.hi.c, .int .i64 c.c3.u, .int .i64 c.c3.ro, .int .i64 c.c3.ty, .int .i64 c.c3.lo.s, .int .u64 c.c3.lo.c, .int .i64 c.c3.hi.s, .int .u64 c.c3.hi.c]] W fun e w' => e = .returned (.bool (valX c n (kidX x i))) ∧ Below W.heap.size W w') := Lib.hid fun i hi => by
    obtain ⟨g', o', hak, hg', hR⟩ := HK.out.row hi
    have hA := hR i hi
    rw [← kid_at hi] at hA
    obtain ⟨ao2, cap2, ak2, ck2, hc2, hv2⟩ := hA.xv
    refine ⟨g', o', hak, hg', ao2, cap2, ak2, ck2, fun W hW => hc2.keep (hW.block g' hg'), fun W hW => ?_⟩
    refine HIH.out _ _ _ W ?_ (hv2.keep hW)
    rw [kid_at hi]
    exact HKS.out _ (List.getElem_mem hi)
  clear ih hks hu hV
  have p2 : (x.op == 2) = false := by rw [hop]; rfl
  have p3 : (x.op == 3) = false := by rw [hop]; rfl
  have p4 : (x.op == 4) = true := by rw [hop]; rfl
  have p9 : (x.op == 9) = false := by rw [hop]; rfl
  rw [if_neg (by omega), if_neg (by omega), if_pos hop]
  obtain ⟨g0, o0, hak0, hg0, ao0, cap0, ak0, ck0, HXK0, HV0⟩ := HKID.out 0 (by omega)
  obtain ⟨g1, o1, hak1, hg1, ao1, cap1, ak1, ck1, HXK1, HV1⟩ := HKID.out 1 (by omega)
  rw [hak0] at hak1
  obtain ⟨rfl, rfl⟩ : g0 = g1 ∧ o0 = o1 := by simpa using hak1
  subst hak0
  rw [Nat.zero_mul, Nat.add_zero] at HXK0
  rw [Nat.one_mul] at HXK1
  have HXK0 := Lib.hid HXK0
  have HV0 := Lib.hid HV0
  generalize kidX x 0 = k0 at *
  obtain ⟨v0, hv0⟩ : ∃ v, valX c n k0 = v := ⟨_, rfl⟩
  rw [hv0] at HV0 ⊢
  clear hv0
  have HXK1 := Lib.hid HXK1
  have HV1 := Lib.hid HV1
  generalize kidX x 1 = k1 at *
  obtain ⟨v1, hv1⟩ : ∃ v, valX c n k1 = v := ⟨_, rfl⟩
  rw [hv1] at HV1 ⊢
  clear hv1
  rw [hlen]
  have HXC : Hid (XC ((w.alloc (.cells #[.int .i64 x.op, .int .i64 x.a, .int .i64 x.r, .int .i64 x.b, .slice ao x.ns.length cap, .int .u64 x.st.a, .int .u64 x.st.b, .int .u64 x.st.c, .int .u64 x.st.d, .slice (some ⟨g0, o0, none⟩) 2 ck] 28)).alloc (.cells #[.int .i64 c.c1.u, .int .i64 c.c1.ro, .int .i64 c.c1.ty, .int .i64 c.c1.lo.s, .int .u64 c.c1.lo.c, .int .i64 c.c1.hi.s, .int .u64 c.c1.hi.c, .int .i64 c.c2.u, .int .i64 c.c2.ro, .int .i64 c.c2.ty, .int .i64 c.c2.lo.s, .int .u64 c.c2.lo.c, .int .i64 c.c2.hi.s, .int .u64 c.c2.hi.c, .int .i64 c.c3.u, .int .i64 c.c3.ro, .int .i64 c.c3.ty, .int .i64 c.c3.lo.s, .int .u64 c.c3.lo.c, .int .i64 c.c3.hi.s, .int .u64 c.c3.hi.c] 36)) w.heap.size 0 x.op x.a x.r x.b ao x.ns.length cap x.st (some ⟨g0, o0, none⟩) 2 ck) := Lib.hid (XC.of_blk ((Blk.new w _ _).alloc _))
  have HC : Hid (Blk ((w.alloc (.cells #[.int .i64 x.op, .int .i64 x.a, .int .i64 x.r, .int .i64 x.b, .slice ao x.ns.length cap, .int .u64 x.st.a, .int .u64 x.st.b, .int .u64 x.st.c, .int .u64 x.st.d, .slice (some ⟨g0, o0, none⟩) 2 ck] 28)).alloc (.cells #[.int .i64 c.c1.u, .int .i64 c.c1.ro, .int .i64 c.c1.ty, .int .i64 c.c1.lo.s, .int .u64 c.c1.lo.c, .int .i64 c.c1.hi.s, .int .u64 c.c1.hi.c, .int .i64 c.c2.u, .int .i64 c.c2.ro, .int .i64 c.c2.ty, .int .i64 c.c2.lo.s, .int .u64 c.c2.lo.c, .int .i64 c.c2.hi.s, .int .u64 c.c2.hi.c, .int .i64 c.c3.u, .int .i64 c.c3.ro, .int .i64 c.c3.ty, .int .i64 c.c3.lo.s, .int .u64 c.c3.lo.c, .int .i64 c.c3.hi.s, .int .u64 c.c3.hi.c] 36)) (w.heap.size + 1) 36 #[.int .i64 c.c1.u, .int .i64 c.c1.ro, .int .i64 c.c1.ty, .int .i64 c.c1.lo.s, .int .u64 c.c1.lo.c, .int .i64 c.c1.hi.s, .int .u64 c.c1.hi.c, .int .i64 c.c2.u, .int .i64 c.c2.ro, .int .i64 c.c2.ty, .int .i64 c.c2.lo.s, .int .u64 c.c2.lo.c, .int .i64 c.c2.hi.s, .int .u64 c.c2.hi.c, .int .i64 c.c3.u, .int .i64 c.c3.ro, .int .i64 c.c3.ty, .int .i64 c.c3.lo.s, .int .u64 c.c3.lo.c, .int .i64 c.c3.hi.s, .int .u64 c.c3.hi.c]) := Lib.hid (two_new' _ _ _ _)
  have HB : Hid (Below w.heap.size w ((w.alloc (.cells #[.int .i64 x.op, .int .i64 x.a, .int .i64 x.r, .int .i64 x.b, .slice ao x.ns.length cap, .int .u64 x.st.a, .int .u64 x.st.b, .int .u64 x.st.c, .int .u64 x.st.d, .slice (some ⟨g0, o0, none⟩) 2 ck] 28)).alloc (.cells #[.int .i64 c.c1.u, .int .i64 c.c1.ro, .int .i64 c.c1.ty, .int .i64 c.c1.lo.s, .int .u64 c.c1.lo.c, .int .i64 c.c1.hi.s, .int .u64 c.c1.hi.c, .int .i64 c.c2.u, .int .i64 c.c2.ro, .int .i64 c.c2.ty, .int .i64 c.c2.lo.s, .int .u64 c.c2.lo.c, .int .i64 c.c2.hi.s, .int .u64 c.c2.hi.c, .int .i64 c.c3.u, .int .i64 c.c3.ro, .int .i64 c.c3.ty, .int .i64 c.c3.lo.s, .int .u64 c.c3.lo.c, .int .i64 c.c3.hi.s, .int .u64 c.c3.hi.c] 36))) := Lib.hid (((Below.refl _ _).alloc (Nat.le_refl _) _).alloc (by simp) _)
  have HG : Hid (w.heap.size < ((w.alloc (.cells #[.int .i64 x.op, .int .i64 x.a, .int .i64 x.r, .int .i64 x.b, .slice ao x.ns.length cap, .int .u64 x.st.a, .int .u64 x.st.b, .int .u64 x.st.c, .int .u64 x.st.d, .slice (some ⟨g0, o0, none⟩) 2 ck] 28)).alloc (.cells #[.int .i64 c.c1.u, .int .i64 c.c1.ro, .int .i64 c.c1.ty, .int .i64 c.c1.lo.s, .int .u64 c.c1.lo.c, .int .i64 c.c1.hi.s, .int .u64 c.c1.hi.c, .int .i64 c.c2.u, .int .i64 c.c2.ro, .int .i64 c.c2.ty, .int .i64 c.c2.lo.s, .int .u64 c.c2.lo.c, .int .i64 c.c2.hi.s, .int .u64 c.c2.hi.c, .int .i64 c.c3.u, .int .i64 c.c3.ro, .int .i64 c.c3.ty, .int .i64 c.c3.lo.s, .int .u64 c.c3.lo.c, .int .i64 c.c3.hi.s, .int .u64 c.c3.hi.c] 36)).heap.size) := Lib.hid (by simp; omega)
  clear hop hlen hk8 hk9 hak1 HKID HK HKS HIH
  cases v0 with
  | true =>
    go_enter Try.func22, Try.ntmps22
    go_upto_region 1 with fail
    generalize (w.alloc (.cells #[.int .i64 x.op, .int .i64 x.a, .int .i64 x.r, .int .i64 x.b, .slice ao x.ns.length cap, .int .u64 x.st.a, .int .u64 x.st.b, .int .u64 x.st.c, .int .u64 x.st.d, .slice (some ⟨g0, o0, none⟩) 2 ck] 28)).alloc (.cells #[.int .i64 c.c1.u, .int .i64 c.c1.ro, .int .i64 c.c1.ty, .int .i64 c.c1.lo.s, .int .u64 c.c1.lo.c, .int .i64 c.c1.hi.s, .int .u64 c.c1.hi.c, .int .i64 c.c2.u, .int .i64 c.c2.ro, .int .i64 c.c2.ty, .int .i64 c.c2.lo.s, .int .u64 c.c2.lo.c, .int .i64 c.c2.hi.s, .int .u64 c.c2.hi.c, .int .i64 c.c3.u, .int .i64 c.c3.ro, .int .i64 c.c3.ty, .int .i64 c.c3.lo.s, .int .u64 c.c3.lo.c, .int .i64 c.c3.hi.s, .int .u64 c.c3.hi.c] 36) = W at *
    have HLE : Hid (w.heap.size ≤ W.heap.size) := Lib.hid HB.out.size
    generalize w.heap.size + 1 = gc at *
    generalize hge : w.heap.size = ge at *
    obtain ⟨y0, y1, y2, y3, y4, y5, y6, y7, y8, y9⟩ := HXC.out.cells
    go_upto_region 7 with fail
    clear y0 y1 y2 y3 y4 y5 y6 y7 y8 y9
    refine wp_region_kp (by kernel_rfl) (by kernel_rfl) ?_
    repeat (first
        | go_big_quiet_skip
        | (go_big_quiet_want
           first
             | (refine quiet_load _ rfl rfl (fun w1 hC => loadAt_case (Blk.keep HC.out hC)) ?_; simp only [Act.put, List.setIfInBounds_toArray, List.set_cons_succ, List.set_cons_zero]; go_big_quiet_on)
             | (go_big_quiet_op
                first
                  | go_big_quiet_on
                  | (apply Exists.intro
                     refine ⟨fun w1 hC => ?_, ?_⟩
                     · first
                         | (go_at_call 22; with_reducible first | exact hC.call (HV1.out _ (kpb HB.out HLE.out hC)) | exact hC.call (HV0.out _ (kpb HB.out HLE.out hC)))
                         | (go_simp; exact ⟨rfl, rfl⟩)
                         | (obtain ⟨y0, y1, y2, y3, y4, y5, y6, y7, y8, y9⟩ := (HXC.out.keep (Below.block hC ge HG.out)).cells; obtain ⟨z0, z1, z2, z3, z4, z5, z6, z7, z8, z9⟩ := (HXK0.out _ (HB.out.trans (hC.mono HLE.out))).cells; obtain ⟨t0, t1, t2, t3, t4, t5, t6, t7, t8, t9⟩ := (HXK1.out _ (HB.out.trans (hC.mono HLE.out))).cells; go_simp; exact rfl)
                         | (obtain ⟨y0, y1, y2, y3, y4, y5, y6, y7, y8, y9⟩ := (HXC.out.keep (Below.block hC ge HG.out)).cells; obtain ⟨z0, z1, z2, z3, z4, z5, z6, z7, z8, z9⟩ := (HXK0.out _ (HB.out.trans (hC.mono HLE.out))).cells; go_simp; exact rfl)
                     go_big_quiet_on))))
    refine wpQuiet_nil ?_
    intro W1 hC
    have HCC := Lib.hid (HB.out.trans (hC.mono HLE.out))
    clear hC
    go_wp2_with fail
    go_ret
    exact ⟨rfl, by first | exact HCC.out | (rw [hge]; exact HCC.out)⟩
  | false =>
    go_enter Try.func22, Try.ntmps22
    go_upto_region 1 with fail
    generalize (w.alloc (.cells #[.int .i64 x.op, .int .i64 x.a, .int .i64 x.r, .int .i64 x.b, .slice ao x.ns.length cap, .int .u64 x.st.a, .int .u64 x.st.b, .int .u64 x.st.c, .int .u64 x.st.d, .slice (some ⟨g0, o0, none⟩) 2 ck] 28)).alloc (.cells #[.int .i64 c.c1.u, .int .i64 c.c1.ro, .int .i64 c.c1.ty, .int .i64 c.c1.lo.s, .int .u64 c.c1.lo.c, .int .i64 c.c1.hi.s, .int .u64 c.c1.hi.c, .int .i64 c.c2.u, .int .i64 c.c2.ro, .int .i64 c.c2.ty, .int .i64 c.c2.lo.s, .int .u64 c.c2.lo.c, .int .i64 c.c2.hi.s, .int .u64 c.c2.hi.c, .int .i64 c.c3.u, .int .i64 c.c3.ro, .int .i64 c.c3.ty, .int .i64 c.c3.lo.s, .int .u64 c.c3.lo.c, .int .i64 c.c3.hi.s, .int .u64 c.c3.hi.c] 36) = W at *
    have HLE : Hid (w.heap.size ≤ W.heap.size) := Lib.hid HB.out.size
    generalize w.heap.size + 1 = gc at *
    generalize hge : w.heap.size = ge at *
    obtain ⟨y0, y1, y2, y3, y4, y5, y6, y7, y8, y9⟩ := HXC.out.cells
    go_upto_region 7 with fail
    clear y0 y1 y2 y3 y4 y5 y6 y7 y8 y9
    refine wp_region_kp (by kernel_rfl) (by kernel_rfl) ?_
    repeat (first
        | go_big_quiet_skip
        | (go_big_quiet_want
           first
             | (refine quiet_load _ rfl rfl (fun w1 hC => loadAt_case (Blk.keep HC.out hC)) ?_; simp only [Act.put, List.setIfInBounds_toArray, List.set_cons_succ, List.set_cons_zero]; go_big_quiet_on)
             | (go_big_quiet_op
                first
                  | go_big_quiet_on
                  | (apply Exists.intro
                     refine ⟨fun w1 hC => ?_, ?_⟩
                     · first
                         | (go_at_call 22; with_reducible first | exact hC.call (HV1.out _ (kpb HB.out HLE.out hC)) | exact hC.call (HV0.out _ (kpb HB.out HLE.out hC)))
                         | (go_simp; exact ⟨rfl, rfl⟩)
                         | (obtain ⟨y0, y1, y2, y3, y4, y5, y6, y7, y8, y9⟩ := (HXC.out.keep (Below.block hC ge HG.out)).cells; obtain ⟨z0, z1, z2, z3, z4, z5, z6, z7, z8, z9⟩ := (HXK0.out _ (HB.out.trans (hC.mono HLE.out))).cells; obtain ⟨t0, t1, t2, t3, t4, t5, t6, t7, t8, t9⟩ := (HXK1.out _ (HB.out.trans (hC.mono HLE.out))).cells; go_simp; exact rfl)
                         | (obtain ⟨y0, y1, y2, y3, y4, y5, y6, y7, y8, y9⟩ := (HXC.out.keep (Below.block hC ge HG.out)).cells; obtain ⟨z0, z1, z2, z3, z4, z5, z6, z7, z8, z9⟩ := (HXK0.out _ (HB.out.trans (hC.mono HLE.out))).cells; go_simp; exact rfl)
                     go_big_quiet_on))))
    refine wpQuiet_nil ?_
    intro W1 hC
    have HCC := Lib.hid (HB.out.trans (hC.mono HLE.out))
    clear hC
    go_wp2_with fail
    go_ret
    exact ⟨rfl, by first | exact HCC.out | (rw [hge]; exact HCC.out)⟩
end Go.Proofs.Ytamcfmfkmekkfaa
/- The reference's value, operator 8. -/
namespace Go.Proofs.Ytamcfmfkmekkfaa
open Go.RowKit Go
set_option maxRecDepth 100000 in
set_option maxHeartbeats 32000000 in
theorem rv8 (c : Ca) (n : Nat) (ih : ∀ (x : X) (vn vk : Value) (w : World), okW n x → XV w vn vk x → Calls Try.prog 22 #[.agg #[.int .i64 x.op, .int .i64 x.a, .int .i64 x.r, .int .i64 x.b, vn, .int .u64 x.st.a, .int .u64 x.st.b, .int .u64 x.st.c, .int .u64 x.st.d, vk], .agg #[.int .i64 c.c1.u, .int .i64 c.c1.ro, .int .i64 c.c1.ty, .int .i64 c.c1.lo.s, .int .u64 c.c1.lo.c, .int .i64 c.c1.hi.s, .int .u64 c.c1.hi.c, .int .i64 c.c2.u, .int .i64 c.c2.ro, .int .i64 c.c2.ty, .int .i64 c.c2.lo.s, .int .u64 c.c2.lo.c, .int .i64 c.c2.hi.s, .int .u64 c.c2.hi.c, .int .i64 c.c3.u, .int .i64 c.c3.ro, .int .i64 c.c3.ty, .int .i64 c.c3.lo.s, .int .u64 c.c3.lo.c, .int .i64 c.c3.hi.s, .int .u64 c.c3.hi.c]] w fun e w' => e = .returned (.bool (valX c n x)) ∧ Below w.heap.size w w') (x : X) (vn vk : Value) (w : World) (hok : okW (n + 1) x) (hV : XV w vn vk x) (hop : x.op = 8) (ha : 0 ≤ x.a ∧ x.a < 15) (hb : 0 ≤ x.b ∧ x.b < 15) :
    Calls Try.prog 22 #[.agg #[.int .i64 x.op, .int .i64 x.a, .int .i64 x.r, .int .i64 x.b, vn, .int .u64 x.st.a, .int .u64 x.st.b, .int .u64 x.st.c, .int .u64 x.st.d, vk], .agg #[.int .i64 c.c1.u, .int .i64 c.c1.ro, .int .i64 c.c1.ty, .int .i64 c.c1.lo.s, .int .u64 c.c1.lo.c, .int .i64 c.c1.hi.s, .int .u64 c.c1.hi.c, .int .i64 c.c2.u, .int .i64 c.c2.ro, .int .i64 c.c2.ty, .int .i64 c.c2.lo.s, .int .u64 c.c2.lo.c, .int .i64 c.c2.hi.s, .int .u64 c.c2.hi.c, .int .i64 c.c3.u, .int .i64 c.c3.ro, .int .i64 c.c3.ty, .int .i64 c.c3.lo.s, .int .u64 c.c3.lo.c, .int .i64 c.c3.hi.s, .int .u64 c.c3.hi.c]] w fun e w' => e = .returned (.bool (valX c (n + 1) x)) ∧ Below w.heap.size w w' := by
  obtain ⟨-, hk8, hk9, hks⟩ := hok
  have HIH := Lib.hid ih
  have HKS := Lib.hid hks
  obtain ⟨ao, cap, ak, ck, rfl, rfl⟩ := hV.form
  have HK := Lib.hid hV.ks
  have hu : valX c (n + 1) x = if x.op = 2 then !valX c n (kidX x 0) else if x.op = 3 then valX c n (kidX x 0) && valX c n (kidX x 1) else if x.op = 4 then valX c n (kidX x 0) || valX c n (kidX x 1) else if x.op = 9 then hasS x.st (rdX c x.a.toNat).s else relX (rdX c x.a.toNat) x.r (rdX c x.b.toNat) := rfl
  rw [hu]
  have HKID : Hid (∀ (i : Nat) (hi : i < x.ks.length), ∃ g' o', ak = some ⟨g', o', none⟩ ∧ g' < w.heap.size ∧ ∃ ao2 cap2 ak2 ck2, (∀ W, Below w.heap.size w W → XC W g' (o' + i * 10) (kidX x i).op (kidX x i).a (kidX x i).r (kidX x i).b ao2 (kidX x i).ns.length cap2 (kidX x i).st ak2 (kidX x i).ks.length ck2) ∧ ∀ W, Below w.heap.size w W → Calls Try.prog 22 #[.agg #[.int .i64 (kidX x i).op, .int .i64 (kidX x i).a, .int .i64 (kidX x i).r, .int .i64 (kidX x i).b, .slice ao2 (kidX x i).ns.length cap2, .int .u64 (kidX x i).st.a, .int .u64 (kidX x i).st.b, .int .u64 (kidX x i).st.c, .int .u64 (kidX x i).st.d, .slice ak2 (kidX x i).ks.length ck2], .agg #[.int .i64 c.c1.u, .int .i64 c.c1.ro, .int .i64 c.c1.ty, .int .i64 c.c1.lo.s, .int .u64 c.c1.lo.c, .int .i64 c.c1.hi.s, .int .u64 c.c1.hi.c, .int .i64 c.c2.u, .int .i64 c.c2.ro, .int .i64 c.c2.ty, .int .i64 c.c2.lo.s, .int .u64 c.c2.lo.c, .int .i64 c.c2.hi.s, .int .u64 c.c2.hi.c, .int .i64 c.c3.u, .int .i64 c.c3.ro, .int .i64 c.c3.ty, .int .i64 c.c3.lo.s, .int .u64 c.c3.lo.c, .int .i64 c.c3.hi.s, .int .u64 c.c3.hi.c]] W fun e w' => e = .returned (.bool (valX c n (kidX x i))) ∧ Below W.heap.size W w') := Lib.hid fun i hi => by
    obtain ⟨g', o', hak, hg', hR⟩ := HK.out.row hi
    have hA := hR i hi
    rw [← kid_at hi] at hA
    obtain ⟨ao2, cap2, ak2, ck2, hc2, hv2⟩ := hA.xv
    refine ⟨g', o', hak, hg', ao2, cap2, ak2, ck2, fun W hW => hc2.keep (hW.block g' hg'), fun W hW => ?_⟩
    refine HIH.out _ _ _ W ?_ (hv2.keep hW)
    rw [kid_at hi]
    exact HKS.out _ (List.getElem_mem hi)
  clear ih hks hu hV
  have p2 : (x.op == 2) = false := by rw [hop]; rfl
  have p3 : (x.op == 3) = false := by rw [hop]; rfl
  have p4 : (x.op == 4) = false := by rw [hop]; rfl
  have p9 : (x.op == 9) = false := by rw [hop]; rfl
  rw [if_neg (by omega), if_neg (by omega), if_neg (by omega), if_neg (by omega)]
  obtain ⟨na, hna⟩ : ∃ na : Nat, x.a = na := ⟨x.a.toNat, by omega⟩
  obtain ⟨nb, hnb⟩ : ∃ nb : Nat, x.b = nb := ⟨x.b.toNat, by omega⟩
  obtain ⟨hk8a, hk8b, hk8c, hk8d⟩ := hk8 hop
  have hna15 : na < 15 := by omega
  have hnb15 : nb < 15 := by omega
  have hta : x.a.toNat = na := by omega
  have htb : x.b.toNat = nb := by omega
  rw [hna, hnb] at hk8a
  rw [hna] at hk8b
  have HCP : Hid (∀ W, Calls Try.prog 39 #[.agg #[.int .i64 x.op, .int .i64 x.a, .int .i64 x.r, .int .i64 x.b, .slice ao x.ns.length cap, .int .u64 x.st.a, .int .u64 x.st.b, .int .u64 x.st.c, .int .u64 x.st.d, .slice ak x.ks.length ck], .agg #[.int .i64 c.c1.u, .int .i64 c.c1.ro, .int .i64 c.c1.ty, .int .i64 c.c1.lo.s, .int .u64 c.c1.lo.c, .int .i64 c.c1.hi.s, .int .u64 c.c1.hi.c, .int .i64 c.c2.u, .int .i64 c.c2.ro, .int .i64 c.c2.ty, .int .i64 c.c2.lo.s, .int .u64 c.c2.lo.c, .int .i64 c.c2.hi.s, .int .u64 c.c2.hi.c, .int .i64 c.c3.u, .int .i64 c.c3.ro, .int .i64 c.c3.ty, .int .i64 c.c3.lo.s, .int .u64 c.c3.lo.c, .int .i64 c.c3.hi.s, .int .u64 c.c3.hi.c]] W fun e w' => e = .returned (.bool (relX (rdX c x.a.toNat) x.r (rdX c x.b.toNat))) ∧ Below W.heap.size W w') := Lib.hid fun W => by
    have h := rcompare_c x.op x.r x.st ao ak x.ns.length x.ks.length cap ck na nb c hna15 hnb15 hk8a hk8b hk8c hk8d W
    rw [← hna, ← hnb] at h
    rw [hta, htb]
    exact h
  generalize relX (rdX c x.a.toNat) x.r (rdX c x.b.toNat) = R at *
  have HXC : Hid (XC ((w.alloc (.cells #[.int .i64 x.op, .int .i64 x.a, .int .i64 x.r, .int .i64 x.b, .slice ao x.ns.length cap, .int .u64 x.st.a, .int .u64 x.st.b, .int .u64 x.st.c, .int .u64 x.st.d, .slice ak x.ks.length ck] 28)).alloc (.cells #[.int .i64 c.c1.u, .int .i64 c.c1.ro, .int .i64 c.c1.ty, .int .i64 c.c1.lo.s, .int .u64 c.c1.lo.c, .int .i64 c.c1.hi.s, .int .u64 c.c1.hi.c, .int .i64 c.c2.u, .int .i64 c.c2.ro, .int .i64 c.c2.ty, .int .i64 c.c2.lo.s, .int .u64 c.c2.lo.c, .int .i64 c.c2.hi.s, .int .u64 c.c2.hi.c, .int .i64 c.c3.u, .int .i64 c.c3.ro, .int .i64 c.c3.ty, .int .i64 c.c3.lo.s, .int .u64 c.c3.lo.c, .int .i64 c.c3.hi.s, .int .u64 c.c3.hi.c] 36)) w.heap.size 0 x.op x.a x.r x.b ao x.ns.length cap x.st ak x.ks.length ck) := Lib.hid (XC.of_blk ((Blk.new w _ _).alloc _))
  have HC : Hid (Blk ((w.alloc (.cells #[.int .i64 x.op, .int .i64 x.a, .int .i64 x.r, .int .i64 x.b, .slice ao x.ns.length cap, .int .u64 x.st.a, .int .u64 x.st.b, .int .u64 x.st.c, .int .u64 x.st.d, .slice ak x.ks.length ck] 28)).alloc (.cells #[.int .i64 c.c1.u, .int .i64 c.c1.ro, .int .i64 c.c1.ty, .int .i64 c.c1.lo.s, .int .u64 c.c1.lo.c, .int .i64 c.c1.hi.s, .int .u64 c.c1.hi.c, .int .i64 c.c2.u, .int .i64 c.c2.ro, .int .i64 c.c2.ty, .int .i64 c.c2.lo.s, .int .u64 c.c2.lo.c, .int .i64 c.c2.hi.s, .int .u64 c.c2.hi.c, .int .i64 c.c3.u, .int .i64 c.c3.ro, .int .i64 c.c3.ty, .int .i64 c.c3.lo.s, .int .u64 c.c3.lo.c, .int .i64 c.c3.hi.s, .int .u64 c.c3.hi.c] 36)) (w.heap.size + 1) 36 #[.int .i64 c.c1.u, .int .i64 c.c1.ro, .int .i64 c.c1.ty, .int .i64 c.c1.lo.s, .int .u64 c.c1.lo.c, .int .i64 c.c1.hi.s, .int .u64 c.c1.hi.c, .int .i64 c.c2.u, .int .i64 c.c2.ro, .int .i64 c.c2.ty, .int .i64 c.c2.lo.s, .int .u64 c.c2.lo.c, .int .i64 c.c2.hi.s, .int .u64 c.c2.hi.c, .int .i64 c.c3.u, .int .i64 c.c3.ro, .int .i64 c.c3.ty, .int .i64 c.c3.lo.s, .int .u64 c.c3.lo.c, .int .i64 c.c3.hi.s, .int .u64 c.c3.hi.c]) := Lib.hid (two_new' _ _ _ _)
  have HB : Hid (Below w.heap.size w ((w.alloc (.cells #[.int .i64 x.op, .int .i64 x.a, .int .i64 x.r, .int .i64 x.b, .slice ao x.ns.length cap, .int .u64 x.st.a, .int .u64 x.st.b, .int .u64 x.st.c, .int .u64 x.st.d, .slice ak x.ks.length ck] 28)).alloc (.cells #[.int .i64 c.c1.u, .int .i64 c.c1.ro, .int .i64 c.c1.ty, .int .i64 c.c1.lo.s, .int .u64 c.c1.lo.c, .int .i64 c.c1.hi.s, .int .u64 c.c1.hi.c, .int .i64 c.c2.u, .int .i64 c.c2.ro, .int .i64 c.c2.ty, .int .i64 c.c2.lo.s, .int .u64 c.c2.lo.c, .int .i64 c.c2.hi.s, .int .u64 c.c2.hi.c, .int .i64 c.c3.u, .int .i64 c.c3.ro, .int .i64 c.c3.ty, .int .i64 c.c3.lo.s, .int .u64 c.c3.lo.c, .int .i64 c.c3.hi.s, .int .u64 c.c3.hi.c] 36))) := Lib.hid (((Below.refl _ _).alloc (Nat.le_refl _) _).alloc (by simp) _)
  have HG : Hid (w.heap.size < ((w.alloc (.cells #[.int .i64 x.op, .int .i64 x.a, .int .i64 x.r, .int .i64 x.b, .slice ao x.ns.length cap, .int .u64 x.st.a, .int .u64 x.st.b, .int .u64 x.st.c, .int .u64 x.st.d, .slice ak x.ks.length ck] 28)).alloc (.cells #[.int .i64 c.c1.u, .int .i64 c.c1.ro, .int .i64 c.c1.ty, .int .i64 c.c1.lo.s, .int .u64 c.c1.lo.c, .int .i64 c.c1.hi.s, .int .u64 c.c1.hi.c, .int .i64 c.c2.u, .int .i64 c.c2.ro, .int .i64 c.c2.ty, .int .i64 c.c2.lo.s, .int .u64 c.c2.lo.c, .int .i64 c.c2.hi.s, .int .u64 c.c2.hi.c, .int .i64 c.c3.u, .int .i64 c.c3.ro, .int .i64 c.c3.ty, .int .i64 c.c3.lo.s, .int .u64 c.c3.lo.c, .int .i64 c.c3.hi.s, .int .u64 c.c3.hi.c] 36)).heap.size) := Lib.hid (by simp; omega)
  clear hop ha hb hna hnb hna15 hnb15 hta htb hk8 hk9 hk8a hk8b hk8c hk8d HKID HK HKS HIH
  go_enter Try.func22, Try.ntmps22
  go_upto_region 1 with fail
  generalize (w.alloc (.cells #[.int .i64 x.op, .int .i64 x.a, .int .i64 x.r, .int .i64 x.b, .slice ao x.ns.length cap, .int .u64 x.st.a, .int .u64 x.st.b, .int .u64 x.st.c, .int .u64 x.st.d, .slice ak x.ks.length ck] 28)).alloc (.cells #[.int .i64 c.c1.u, .int .i64 c.c1.ro, .int .i64 c.c1.ty, .int .i64 c.c1.lo.s, .int .u64 c.c1.lo.c, .int .i64 c.c1.hi.s, .int .u64 c.c1.hi.c, .int .i64 c.c2.u, .int .i64 c.c2.ro, .int .i64 c.c2.ty, .int .i64 c.c2.lo.s, .int .u64 c.c2.lo.c, .int .i64 c.c2.hi.s, .int .u64 c.c2.hi.c, .int .i64 c.c3.u, .int .i64 c.c3.ro, .int .i64 c.c3.ty, .int .i64 c.c3.lo.s, .int .u64 c.c3.lo.c, .int .i64 c.c3.hi.s, .int .u64 c.c3.hi.c] 36) = W at *
  have HLE : Hid (w.heap.size ≤ W.heap.size) := Lib.hid HB.out.size
  generalize w.heap.size + 1 = gc at *
  generalize hge : w.heap.size = ge at *
  obtain ⟨y0, y1, y2, y3, y4, y5, y6, y7, y8, y9⟩ := HXC.out.cells
  go_upto_region 10 with fail
  clear y0 y1 y2 y3 y4 y5 y6 y7 y8 y9
  refine wp_region_lit ?_
  refine wpList_load (by rfl) _ rfl rfl (loadAt_expr HXC.out) ?_
  simp only [Act.put, List.setIfInBounds_toArray, List.set_cons_succ, List.set_cons_zero]
  refine wpList_load (by rfl) _ rfl rfl (loadAt_case HC.out) ?_
  simp only [Act.put, List.setIfInBounds_toArray, List.set_cons_succ, List.set_cons_zero]
  go_wp2_with (first
    | (go_at_call 39; (with_reducible refine (HCP.out _).mono ?_); rintro e w1 ⟨rfl, hb1⟩; have HCC := Lib.hid (HB.out.trans (hb1.mono HLE.out)); clear hb1))
  go_ret
  exact ⟨rfl, by first | exact HCC.out | (rw [hge]; exact HCC.out)⟩
end Go.Proofs.Ytamcfmfkmekkfaa
/- The reference's value, operator 9. -/
namespace Go.Proofs.Ytamcfmfkmekkfaa
open Go.RowKit Go
set_option maxRecDepth 100000 in
set_option maxHeartbeats 32000000 in
theorem rv9 (c : Ca) (n : Nat) (ih : ∀ (x : X) (vn vk : Value) (w : World), okW n x → XV w vn vk x → Calls Try.prog 22 #[.agg #[.int .i64 x.op, .int .i64 x.a, .int .i64 x.r, .int .i64 x.b, vn, .int .u64 x.st.a, .int .u64 x.st.b, .int .u64 x.st.c, .int .u64 x.st.d, vk], .agg #[.int .i64 c.c1.u, .int .i64 c.c1.ro, .int .i64 c.c1.ty, .int .i64 c.c1.lo.s, .int .u64 c.c1.lo.c, .int .i64 c.c1.hi.s, .int .u64 c.c1.hi.c, .int .i64 c.c2.u, .int .i64 c.c2.ro, .int .i64 c.c2.ty, .int .i64 c.c2.lo.s, .int .u64 c.c2.lo.c, .int .i64 c.c2.hi.s, .int .u64 c.c2.hi.c, .int .i64 c.c3.u, .int .i64 c.c3.ro, .int .i64 c.c3.ty, .int .i64 c.c3.lo.s, .int .u64 c.c3.lo.c, .int .i64 c.c3.hi.s, .int .u64 c.c3.hi.c]] w fun e w' => e = .returned (.bool (valX c n x)) ∧ Below w.heap.size w w') (x : X) (vn vk : Value) (w : World) (hok : okW (n + 1) x) (hV : XV w vn vk x) (hop : x.op = 9) (ha1 : 0 ≤ x.a) (ha2 : x.a < 15) :
    Calls Try.prog 22 #[.agg #[.int .i64 x.op, .int .i64 x.a, .int .i64 x.r, .int .i64 x.b, vn, .int .u64 x.st.a, .int .u64 x.st.b, .int .u64 x.st.c, .int .u64 x.st.d, vk], .agg #[.int .i64 c.c1.u, .int .i64 c.c1.ro, .int .i64 c.c1.ty, .int .i64 c.c1.lo.s, .int .u64 c.c1.lo.c, .int .i64 c.c1.hi.s, .int .u64 c.c1.hi.c, .int .i64 c.c2.u, .int .i64 c.c2.ro, .int .i64 c.c2.ty, .int .i64 c.c2.lo.s, .int .u64 c.c2.lo.c, .int .i64 c.c2.hi.s, .int .u64 c.c2.hi.c, .int .i64 c.c3.u, .int .i64 c.c3.ro, .int .i64 c.c3.ty, .int .i64 c.c3.lo.s, .int .u64 c.c3.lo.c, .int .i64 c.c3.hi.s, .int .u64 c.c3.hi.c]] w fun e w' => e = .returned (.bool (valX c (n + 1) x)) ∧ Below w.heap.size w w' := by
  obtain ⟨-, hk8, hk9, hks⟩ := hok
  have HIH := Lib.hid ih
  have HKS := Lib.hid hks
  obtain ⟨ao, cap, ak, ck, rfl, rfl⟩ := hV.form
  have HK := Lib.hid hV.ks
  have hu : valX c (n + 1) x = if x.op = 2 then !valX c n (kidX x 0) else if x.op = 3 then valX c n (kidX x 0) && valX c n (kidX x 1) else if x.op = 4 then valX c n (kidX x 0) || valX c n (kidX x 1) else if x.op = 9 then hasS x.st (rdX c x.a.toNat).s else relX (rdX c x.a.toNat) x.r (rdX c x.b.toNat) := rfl
  rw [hu]
  have HKID : Hid (∀ (i : Nat) (hi : i < x.ks.length), ∃ g' o', ak = some ⟨g', o', none⟩ ∧ g' < w.heap.size ∧ ∃ ao2 cap2 ak2 ck2, (∀ W, Below w.heap.size w W → XC W g' (o' + i * 10) (kidX x i).op (kidX x i).a (kidX x i).r (kidX x i).b ao2 (kidX x i).ns.length cap2 (kidX x i).st ak2 (kidX x i).ks.length ck2) ∧ ∀ W, Below w.heap.size w W → Calls Try.prog 22 #[.agg #[.int .i64 (kidX x i).op, .int .i64 (kidX x i).a, .int .i64 (kidX x i).r, .int .i64 (kidX x i).b, .slice ao2 (kidX x i).ns.length cap2, .int .u64 (kidX x i).st.a, .int .u64 (kidX x i).st.b, .int .u64 (kidX x i).st.c, .int .u64 (kidX x i).st.d, .slice ak2 (kidX x i).ks.length ck2], .agg #[.int .i64 c.c1.u, .int .i64 c.c1.ro, .int .i64 c.c1.ty, .int .i64 c.c1.lo.s, .int .u64 c.c1.lo.c, .int .i64 c.c1.hi.s, .int .u64 c.c1.hi.c, .int .i64 c.c2.u, .int .i64 c.c2.ro, .int .i64 c.c2.ty, .int .i64 c.c2.lo.s, .int .u64 c.c2.lo.c, .int .i64 c.c2.hi.s, .int .u64 c.c2.hi.c, .int .i64 c.c3.u, .int .i64 c.c3.ro, .int .i64 c.c3.ty, .int .i64 c.c3.lo.s, .int .u64 c.c3.lo.c, .int .i64 c.c3.hi.s, .int .u64 c.c3.hi.c]] W fun e w' => e = .returned (.bool (valX c n (kidX x i))) ∧ Below W.heap.size W w') := Lib.hid fun i hi => by
    obtain ⟨g', o', hak, hg', hR⟩ := HK.out.row hi
    have hA := hR i hi
    rw [← kid_at hi] at hA
    obtain ⟨ao2, cap2, ak2, ck2, hc2, hv2⟩ := hA.xv
    refine ⟨g', o', hak, hg', ao2, cap2, ak2, ck2, fun W hW => hc2.keep (hW.block g' hg'), fun W hW => ?_⟩
    refine HIH.out _ _ _ W ?_ (hv2.keep hW)
    rw [kid_at hi]
    exact HKS.out _ (List.getElem_mem hi)
  clear ih hks hu hV
  have p2 : (x.op == 2) = false := by rw [hop]; rfl
  have p3 : (x.op == 3) = false := by rw [hop]; rfl
  have p4 : (x.op == 4) = false := by rw [hop]; rfl
  have p9 : (x.op == 9) = true := by rw [hop]; rfl
  rw [if_neg (by omega), if_neg (by omega), if_neg (by omega), if_pos hop]
  obtain ⟨na, hna⟩ : ∃ na : Nat, x.a = na := ⟨x.a.toNat, by omega⟩
  have hk9' := hk9 hop
  have hna15 : na < 15 := by omega
  have hta : x.a.toNat = na := by omega
  rw [hna] at hk9'
  have HNM : Hid (∀ W, Calls Try.prog 38 #[.agg #[.int .i64 c.c1.u, .int .i64 c.c1.ro, .int .i64 c.c1.ty, .int .i64 c.c1.lo.s, .int .u64 c.c1.lo.c, .int .i64 c.c1.hi.s, .int .u64 c.c1.hi.c, .int .i64 c.c2.u, .int .i64 c.c2.ro, .int .i64 c.c2.ty, .int .i64 c.c2.lo.s, .int .u64 c.c2.lo.c, .int .i64 c.c2.hi.s, .int .u64 c.c2.hi.c, .int .i64 c.c3.u, .int .i64 c.c3.ro, .int .i64 c.c3.ty, .int .i64 c.c3.lo.s, .int .u64 c.c3.lo.c, .int .i64 c.c3.hi.s, .int .u64 c.c3.hi.c], .int .i64 x.a] W fun e w' => e = .returned (.int .i64 (rdX c x.a.toNat).s) ∧ Below W.heap.size W w') := Lib.hid fun W => by
    have h := rname_c c na hna15 W
    rw [← rd_name' c na hk9'] at h
    rw [← hna] at h
    rw [hta]
    exact h
  generalize (rdX c x.a.toNat).s = R at *
  have HHS := Lib.hid (rhas_c x.st.a x.st.b x.st.c x.st.d R)
  have HXC : Hid (XC ((w.alloc (.cells #[.int .i64 x.op, .int .i64 x.a, .int .i64 x.r, .int .i64 x.b, .slice ao x.ns.length cap, .int .u64 x.st.a, .int .u64 x.st.b, .int .u64 x.st.c, .int .u64 x.st.d, .slice ak x.ks.length ck] 28)).alloc (.cells #[.int .i64 c.c1.u, .int .i64 c.c1.ro, .int .i64 c.c1.ty, .int .i64 c.c1.lo.s, .int .u64 c.c1.lo.c, .int .i64 c.c1.hi.s, .int .u64 c.c1.hi.c, .int .i64 c.c2.u, .int .i64 c.c2.ro, .int .i64 c.c2.ty, .int .i64 c.c2.lo.s, .int .u64 c.c2.lo.c, .int .i64 c.c2.hi.s, .int .u64 c.c2.hi.c, .int .i64 c.c3.u, .int .i64 c.c3.ro, .int .i64 c.c3.ty, .int .i64 c.c3.lo.s, .int .u64 c.c3.lo.c, .int .i64 c.c3.hi.s, .int .u64 c.c3.hi.c] 36)) w.heap.size 0 x.op x.a x.r x.b ao x.ns.length cap x.st ak x.ks.length ck) := Lib.hid (XC.of_blk ((Blk.new w _ _).alloc _))
  have HC : Hid (Blk ((w.alloc (.cells #[.int .i64 x.op, .int .i64 x.a, .int .i64 x.r, .int .i64 x.b, .slice ao x.ns.length cap, .int .u64 x.st.a, .int .u64 x.st.b, .int .u64 x.st.c, .int .u64 x.st.d, .slice ak x.ks.length ck] 28)).alloc (.cells #[.int .i64 c.c1.u, .int .i64 c.c1.ro, .int .i64 c.c1.ty, .int .i64 c.c1.lo.s, .int .u64 c.c1.lo.c, .int .i64 c.c1.hi.s, .int .u64 c.c1.hi.c, .int .i64 c.c2.u, .int .i64 c.c2.ro, .int .i64 c.c2.ty, .int .i64 c.c2.lo.s, .int .u64 c.c2.lo.c, .int .i64 c.c2.hi.s, .int .u64 c.c2.hi.c, .int .i64 c.c3.u, .int .i64 c.c3.ro, .int .i64 c.c3.ty, .int .i64 c.c3.lo.s, .int .u64 c.c3.lo.c, .int .i64 c.c3.hi.s, .int .u64 c.c3.hi.c] 36)) (w.heap.size + 1) 36 #[.int .i64 c.c1.u, .int .i64 c.c1.ro, .int .i64 c.c1.ty, .int .i64 c.c1.lo.s, .int .u64 c.c1.lo.c, .int .i64 c.c1.hi.s, .int .u64 c.c1.hi.c, .int .i64 c.c2.u, .int .i64 c.c2.ro, .int .i64 c.c2.ty, .int .i64 c.c2.lo.s, .int .u64 c.c2.lo.c, .int .i64 c.c2.hi.s, .int .u64 c.c2.hi.c, .int .i64 c.c3.u, .int .i64 c.c3.ro, .int .i64 c.c3.ty, .int .i64 c.c3.lo.s, .int .u64 c.c3.lo.c, .int .i64 c.c3.hi.s, .int .u64 c.c3.hi.c]) := Lib.hid (two_new' _ _ _ _)
  have HB : Hid (Below w.heap.size w ((w.alloc (.cells #[.int .i64 x.op, .int .i64 x.a, .int .i64 x.r, .int .i64 x.b, .slice ao x.ns.length cap, .int .u64 x.st.a, .int .u64 x.st.b, .int .u64 x.st.c, .int .u64 x.st.d, .slice ak x.ks.length ck] 28)).alloc (.cells #[.int .i64 c.c1.u, .int .i64 c.c1.ro, .int .i64 c.c1.ty, .int .i64 c.c1.lo.s, .int .u64 c.c1.lo.c, .int .i64 c.c1.hi.s, .int .u64 c.c1.hi.c, .int .i64 c.c2.u, .int .i64 c.c2.ro, .int .i64 c.c2.ty, .int .i64 c.c2.lo.s, .int .u64 c.c2.lo.c, .int .i64 c.c2.hi.s, .int .u64 c.c2.hi.c, .int .i64 c.c3.u, .int .i64 c.c3.ro, .int .i64 c.c3.ty, .int .i64 c.c3.lo.s, .int .u64 c.c3.lo.c, .int .i64 c.c3.hi.s, .int .u64 c.c3.hi.c] 36))) := Lib.hid (((Below.refl _ _).alloc (Nat.le_refl _) _).alloc (by simp) _)
  have HG : Hid (w.heap.size < ((w.alloc (.cells #[.int .i64 x.op, .int .i64 x.a, .int .i64 x.r, .int .i64 x.b, .slice ao x.ns.length cap, .int .u64 x.st.a, .int .u64 x.st.b, .int .u64 x.st.c, .int .u64 x.st.d, .slice ak x.ks.length ck] 28)).alloc (.cells #[.int .i64 c.c1.u, .int .i64 c.c1.ro, .int .i64 c.c1.ty, .int .i64 c.c1.lo.s, .int .u64 c.c1.lo.c, .int .i64 c.c1.hi.s, .int .u64 c.c1.hi.c, .int .i64 c.c2.u, .int .i64 c.c2.ro, .int .i64 c.c2.ty, .int .i64 c.c2.lo.s, .int .u64 c.c2.lo.c, .int .i64 c.c2.hi.s, .int .u64 c.c2.hi.c, .int .i64 c.c3.u, .int .i64 c.c3.ro, .int .i64 c.c3.ty, .int .i64 c.c3.lo.s, .int .u64 c.c3.lo.c, .int .i64 c.c3.hi.s, .int .u64 c.c3.hi.c] 36)).heap.size) := Lib.hid (by simp; omega)
  clear hop ha1 ha2 hna hna15 hta hk8 hk9 hk9' HKID HK HKS HIH
  go_enter Try.func22, Try.ntmps22
  go_upto_region 1 with fail
  generalize (w.alloc (.cells #[.int .i64 x.op, .int .i64 x.a, .int .i64 x.r, .int .i64 x.b, .slice ao x.ns.length cap, .int .u64 x.st.a, .int .u64 x.st.b, .int .u64 x.st.c, .int .u64 x.st.d, .slice ak x.ks.length ck] 28)).alloc (.cells #[.int .i64 c.c1.u, .int .i64 c.c1.ro, .int .i64 c.c1.ty, .int .i64 c.c1.lo.s, .int .u64 c.c1.lo.c, .int .i64 c.c1.hi.s, .int .u64 c.c1.hi.c, .int .i64 c.c2.u, .int .i64 c.c2.ro, .int .i64 c.c2.ty, .int .i64 c.c2.lo.s, .int .u64 c.c2.lo.c, .int .i64 c.c2.hi.s, .int .u64 c.c2.hi.c, .int .i64 c.c3.u, .int .i64 c.c3.ro, .int .i64 c.c3.ty, .int .i64 c.c3.lo.s, .int .u64 c.c3.lo.c, .int .i64 c.c3.hi.s, .int .u64 c.c3.hi.c] 36) = W at *
  have HLE : Hid (w.heap.size ≤ W.heap.size) := Lib.hid HB.out.size
  generalize w.heap.size + 1 = gc at *
  generalize hge : w.heap.size = ge at *
  obtain ⟨y0, y1, y2, y3, y4, y5, y6, y7, y8, y9⟩ := HXC.out.cells
  go_upto_region 9 with fail
  clear y0 y1 y2 y3 y4 y5 y6 y7 y8 y9
  refine wp_region_kp (by kernel_rfl) (by kernel_rfl) ?_
  repeat (first
      | go_big_quiet_skip
      | (go_big_quiet_want
         first
           | (refine quiet_load _ rfl rfl (fun w1 hC => loadAt_case (Blk.keep HC.out hC)) ?_; simp only [Act.put, List.setIfInBounds_toArray, List.set_cons_succ, List.set_cons_zero]; go_big_quiet_on)
           | (go_big_quiet_op
              first
                | go_big_quiet_on
                | (apply Exists.intro
                   refine ⟨fun w1 hC => ?_, ?_⟩
                   · first
                       | (go_at_call 38; with_reducible exact hC.call (HNM.out _))
                       | (go_at_call 37; with_reducible exact hC.call (HHS.out _))
                       | (go_simp; exact ⟨rfl, rfl⟩)
                       | (obtain ⟨y0, y1, y2, y3, y4, y5, y6, y7, y8, y9⟩ := (HXC.out.keep (Below.block hC ge HG.out)).cells; go_simp; exact rfl)
                   go_big_quiet_on))))
  refine wpQuiet_nil ?_
  intro W1 hC
  have HCC := Lib.hid (HB.out.trans (hC.mono HLE.out))
  clear hC
  go_wp2_with fail
  go_ret
  exact ⟨rfl, by first | exact HCC.out | (rw [hge]; exact HCC.out)⟩
end Go.Proofs.Ytamcfmfkmekkfaa
/- The reference's value. -/
namespace Go.Proofs.Ytamcfmfkmekkfaa
open Go.RowKit Go
theorem rvalue_c (c : Ca) : ∀ (n : Nat) (x : X) (vn vk : Value) (w : World), okW n x → XV w vn vk x →
    Calls Try.prog 22 #[.agg #[.int .i64 x.op, .int .i64 x.a, .int .i64 x.r, .int .i64 x.b, vn, .int .u64 x.st.a, .int .u64 x.st.b, .int .u64 x.st.c, .int .u64 x.st.d, vk], .agg #[.int .i64 c.c1.u, .int .i64 c.c1.ro, .int .i64 c.c1.ty, .int .i64 c.c1.lo.s, .int .u64 c.c1.lo.c, .int .i64 c.c1.hi.s, .int .u64 c.c1.hi.c, .int .i64 c.c2.u, .int .i64 c.c2.ro, .int .i64 c.c2.ty, .int .i64 c.c2.lo.s, .int .u64 c.c2.lo.c, .int .i64 c.c2.hi.s, .int .u64 c.c2.hi.c, .int .i64 c.c3.u, .int .i64 c.c3.ro, .int .i64 c.c3.ty, .int .i64 c.c3.lo.s, .int .u64 c.c3.lo.c, .int .i64 c.c3.hi.s, .int .u64 c.c3.hi.c]] w fun e w' => e = .returned (.bool (valX c n x)) ∧ Below w.heap.size w w' := by
  intro n
  induction n with
  | zero => intro x vn vk w h; exact absurd h (by unfold okW; exact id)
  | succ n ih =>
    intro x vn vk w hok hV
    rcases hok.1 with ⟨hop, hlen⟩ | ⟨hop, hlen⟩ | ⟨hop, ha, hb⟩ | ⟨hop, ha1, ha2⟩
    · exact rv2 c n ih x vn vk w hok hV hop hlen
    · rcases hop with hop | hop
      · exact rv3 c n ih x vn vk w hok hV hop hlen
      · exact rv4 c n ih x vn vk w hok hV hop hlen
    · exact rv8 c n ih x vn vk w hok hV hop ha hb
    · exact rv9 c n ih x vn vk w hok hV hop ha1 ha2
end Go.Proofs.Ytamcfmfkmekkfaa
/- The reference's Eval; it is the program's. -/
namespace Go.Proofs.Ytamcfmfkmekkfaa
open Go.RowKit Go
theorem wpList_of_quiet {P : Program} {ops : Array Oper} {C : World → Prop} {Q : Act → Prop} {Q' : Exit → Act → World → Prop} (hQ : ∀ a w, C w → Q a → Q' .normal a w) : ∀ (l : List Oper) (a : Act) (w : World), C w → wpQuiet P ops C Q l a → wpList P ops Q' l a w
  | [], a, w, hC, h => hQ a w hC h
  | o :: rest, a, w, hC, h => by
    unfold wpQuiet at h
    unfold wpList
    by_cases hw : Region.wanted o (yielded ops a.tmps) = true
    · rw [if_pos hw] at h ⊢
      exact .inl (Oper.wp_of_quiet hC (fun a w' hc hk => wpList_of_quiet hQ rest a w' hc hk) h)
    · rw [if_neg hw] at h ⊢
      exact wpList_of_quiet hQ rest _ w hC h
/-- a region in the text's order, walked as a quiet one -/
theorem wp_region_kq {P : Program} {id : Nat} {Q : Exit → Act → World → Prop} {a : Act} {w : World} {l : List Oper} (h : wpQuiet P l.toArray (Kp w) (fun a' => ∀ w', Kp w w' → Q .normal a' w') l a) : (Code.region id l.toArray false).wp P Q a w :=
  wp_region_lit (wpList_of_quiet (fun _ w hc h => h w hc) l a w (Below.refl _ _) h)
theorem okW_of : ∀ (n : Nat) (x : X), wfR n x = true → okW n x
  | 0, x, h => by unfold wfR at h; cases h
  | n + 1, x, h => by
    have e1 : wfR (n + 1) x = ((nodeX x == 0) && x.ks.all (wfR n)) := rfl
    rw [e1, Bool.and_eq_true, beq_iff_eq, List.all_eq_true] at h
    have hnd : nodeX x = 0 ↔ opE 15 x = 0 := node0 _ _ _ _ _ _ _
    have h0 := hnd.1 h.1
    refine ⟨op_ok h0, fun h8 => ?_, fun h9 => ?_, fun k hk => okW_of n k (h.2 k hk)⟩
    · unfold opE operE at h0
      rw [if_neg (by omega), if_neg (by omega), if_pos h8] at h0
      split at h0
      · omega
      · unfold cmpE at h0
        split at h0
        · omega
        · rename_i hh
          split at h0
          · omega
          · rename_i hk
            refine ⟨?_, fun h3 => ?_, by omega, by omega⟩
            · by_cases e : sortA x.a = sortA x.b
              · exact e
              · exact absurd (.inl e) hk
            · by_cases e : x.r ≤ 1
              · exact e
              · exact absurd (.inr ⟨h3, by omega⟩) hk
    · unfold opE operE at h0
      rw [if_neg (by omega), if_neg (by omega), if_neg (by omega), if_pos h9] at h0
      split at h0
      · omega
      · unfold memE at h0
        split at h0
        · omega
        · split at h0
          · omega
          · assumption
set_option maxRecDepth 100000 in
set_option maxHeartbeats 8000000 in
theorem reval_c (x : X) (vn vk : Value) (c : Ca) (w : World) (hV : XV w vn vk x) : Calls Try.prog 9 #[.agg #[.int .i64 x.op, .int .i64 x.a, .int .i64 x.r, .int .i64 x.b, vn, .int .u64 x.st.a, .int .u64 x.st.b, .int .u64 x.st.c, .int .u64 x.st.d, vk], .agg #[.int .i64 c.c1.u, .int .i64 c.c1.ro, .int .i64 c.c1.ty, .int .i64 c.c1.lo.s, .int .u64 c.c1.lo.c, .int .i64 c.c1.hi.s, .int .u64 c.c1.hi.c, .int .i64 c.c2.u, .int .i64 c.c2.ro, .int .i64 c.c2.ty, .int .i64 c.c2.lo.s, .int .u64 c.c2.lo.c, .int .i64 c.c2.hi.s, .int .u64 c.c2.hi.c, .int .i64 c.c3.u, .int .i64 c.c3.ro, .int .i64 c.c3.ty, .int .i64 c.c3.lo.s, .int .u64 c.c3.lo.c, .int .i64 c.c3.hi.s, .int .u64 c.c3.hi.c]] w fun e w' => e = .returned (.bool (evX c x)) ∧ Below w.heap.size w w' := by
  unfold evX
  rw [← wfR_X]
  obtain ⟨ao, cap, ak, ck, rfl, rfl⟩ := hV.form
  have HWF : Hid (∀ W, Kp w W → Calls Try.prog 10 #[.agg #[.int .i64 x.op, .int .i64 x.a, .int .i64 x.r, .int .i64 x.b, .slice ao x.ns.length cap, .int .u64 x.st.a, .int .u64 x.st.b, .int .u64 x.st.c, .int .u64 x.st.d, .slice ak x.ks.length ck], .int .i64 12] W fun e w' => e = .returned (.bool (wfR 12 x)) ∧ Below W.heap.size W w') := Lib.hid fun W hW => wellFormed_c 12 x _ _ W (by decide) (hV.keep hW)
  have HVL : Hid (wfR 12 x = true → ∀ W, Kp w W → Calls Try.prog 22 #[.agg #[.int .i64 x.op, .int .i64 x.a, .int .i64 x.r, .int .i64 x.b, .slice ao x.ns.length cap, .int .u64 x.st.a, .int .u64 x.st.b, .int .u64 x.st.c, .int .u64 x.st.d, .slice ak x.ks.length ck], .agg #[.int .i64 c.c1.u, .int .i64 c.c1.ro, .int .i64 c.c1.ty, .int .i64 c.c1.lo.s, .int .u64 c.c1.lo.c, .int .i64 c.c1.hi.s, .int .u64 c.c1.hi.c, .int .i64 c.c2.u, .int .i64 c.c2.ro, .int .i64 c.c2.ty, .int .i64 c.c2.lo.s, .int .u64 c.c2.lo.c, .int .i64 c.c2.hi.s, .int .u64 c.c2.hi.c, .int .i64 c.c3.u, .int .i64 c.c3.ro, .int .i64 c.c3.ty, .int .i64 c.c3.lo.s, .int .u64 c.c3.lo.c, .int .i64 c.c3.hi.s, .int .u64 c.c3.hi.c]] W fun e w' => e = .returned (.bool (valX c 12 x)) ∧ Below W.heap.size W w') := Lib.hid fun h W hW => rvalue_c c 12 x _ _ W (okW_of 12 x h) (hV.keep hW)
  have HXC : Hid (XC ((w.alloc (.cells #[.int .i64 x.op, .int .i64 x.a, .int .i64 x.r, .int .i64 x.b, .slice ao x.ns.length cap, .int .u64 x.st.a, .int .u64 x.st.b, .int .u64 x.st.c, .int .u64 x.st.d, .slice ak x.ks.length ck] 28)).alloc (.cells #[.int .i64 c.c1.u, .int .i64 c.c1.ro, .int .i64 c.c1.ty, .int .i64 c.c1.lo.s, .int .u64 c.c1.lo.c, .int .i64 c.c1.hi.s, .int .u64 c.c1.hi.c, .int .i64 c.c2.u, .int .i64 c.c2.ro, .int .i64 c.c2.ty, .int .i64 c.c2.lo.s, .int .u64 c.c2.lo.c, .int .i64 c.c2.hi.s, .int .u64 c.c2.hi.c, .int .i64 c.c3.u, .int .i64 c.c3.ro, .int .i64 c.c3.ty, .int .i64 c.c3.lo.s, .int .u64 c.c3.lo.c, .int .i64 c.c3.hi.s, .int .u64 c.c3.hi.c] 36)) w.heap.size 0 x.op x.a x.r x.b ao x.ns.length cap x.st ak x.ks.length ck) := Lib.hid (XC.of_blk ((Blk.new w _ _).alloc _))
  have HC : Hid (Blk ((w.alloc (.cells #[.int .i64 x.op, .int .i64 x.a, .int .i64 x.r, .int .i64 x.b, .slice ao x.ns.length cap, .int .u64 x.st.a, .int .u64 x.st.b, .int .u64 x.st.c, .int .u64 x.st.d, .slice ak x.ks.length ck] 28)).alloc (.cells #[.int .i64 c.c1.u, .int .i64 c.c1.ro, .int .i64 c.c1.ty, .int .i64 c.c1.lo.s, .int .u64 c.c1.lo.c, .int .i64 c.c1.hi.s, .int .u64 c.c1.hi.c, .int .i64 c.c2.u, .int .i64 c.c2.ro, .int .i64 c.c2.ty, .int .i64 c.c2.lo.s, .int .u64 c.c2.lo.c, .int .i64 c.c2.hi.s, .int .u64 c.c2.hi.c, .int .i64 c.c3.u, .int .i64 c.c3.ro, .int .i64 c.c3.ty, .int .i64 c.c3.lo.s, .int .u64 c.c3.lo.c, .int .i64 c.c3.hi.s, .int .u64 c.c3.hi.c] 36)) (w.heap.size + 1) 36 #[.int .i64 c.c1.u, .int .i64 c.c1.ro, .int .i64 c.c1.ty, .int .i64 c.c1.lo.s, .int .u64 c.c1.lo.c, .int .i64 c.c1.hi.s, .int .u64 c.c1.hi.c, .int .i64 c.c2.u, .int .i64 c.c2.ro, .int .i64 c.c2.ty, .int .i64 c.c2.lo.s, .int .u64 c.c2.lo.c, .int .i64 c.c2.hi.s, .int .u64 c.c2.hi.c, .int .i64 c.c3.u, .int .i64 c.c3.ro, .int .i64 c.c3.ty, .int .i64 c.c3.lo.s, .int .u64 c.c3.lo.c, .int .i64 c.c3.hi.s, .int .u64 c.c3.hi.c]) := Lib.hid (two_new' _ _ _ _)
  have HB : Hid (Below w.heap.size w ((w.alloc (.cells #[.int .i64 x.op, .int .i64 x.a, .int .i64 x.r, .int .i64 x.b, .slice ao x.ns.length cap, .int .u64 x.st.a, .int .u64 x.st.b, .int .u64 x.st.c, .int .u64 x.st.d, .slice ak x.ks.length ck] 28)).alloc (.cells #[.int .i64 c.c1.u, .int .i64 c.c1.ro, .int .i64 c.c1.ty, .int .i64 c.c1.lo.s, .int .u64 c.c1.lo.c, .int .i64 c.c1.hi.s, .int .u64 c.c1.hi.c, .int .i64 c.c2.u, .int .i64 c.c2.ro, .int .i64 c.c2.ty, .int .i64 c.c2.lo.s, .int .u64 c.c2.lo.c, .int .i64 c.c2.hi.s, .int .u64 c.c2.hi.c, .int .i64 c.c3.u, .int .i64 c.c3.ro, .int .i64 c.c3.ty, .int .i64 c.c3.lo.s, .int .u64 c.c3.lo.c, .int .i64 c.c3.hi.s, .int .u64 c.c3.hi.c] 36))) := Lib.hid (((Below.refl _ _).alloc (Nat.le_refl _) _).alloc (by simp) _)
  have HG : Hid (w.heap.size < ((w.alloc (.cells #[.int .i64 x.op, .int .i64 x.a, .int .i64 x.r, .int .i64 x.b, .slice ao x.ns.length cap, .int .u64 x.st.a, .int .u64 x.st.b, .int .u64 x.st.c, .int .u64 x.st.d, .slice ak x.ks.length ck] 28)).alloc (.cells #[.int .i64 c.c1.u, .int .i64 c.c1.ro, .int .i64 c.c1.ty, .int .i64 c.c1.lo.s, .int .u64 c.c1.lo.c, .int .i64 c.c1.hi.s, .int .u64 c.c1.hi.c, .int .i64 c.c2.u, .int .i64 c.c2.ro, .int .i64 c.c2.ty, .int .i64 c.c2.lo.s, .int .u64 c.c2.lo.c, .int .i64 c.c2.hi.s, .int .u64 c.c2.hi.c, .int .i64 c.c3.u, .int .i64 c.c3.ro, .int .i64 c.c3.ty, .int .i64 c.c3.lo.s, .int .u64 c.c3.lo.c, .int .i64 c.c3.hi.s, .int .u64 c.c3.hi.c] 36)).heap.size) := Lib.hid (by simp; omega)
  generalize valX c 12 x = vv at *
  clear hV
  cases hb : wfR 12 x with
  | false =>
    rw [hb] at HWF HVL
    clear hb
    go_enter Try.func9, Try.ntmps9
    go_upto_region 1 with fail
    generalize (w.alloc (.cells #[.int .i64 x.op, .int .i64 x.a, .int .i64 x.r, .int .i64 x.b, .slice ao x.ns.length cap, .int .u64 x.st.a, .int .u64 x.st.b, .int .u64 x.st.c, .int .u64 x.st.d, .slice ak x.ks.length ck] 28)).alloc (.cells #[.int .i64 c.c1.u, .int .i64 c.c1.ro, .int .i64 c.c1.ty, .int .i64 c.c1.lo.s, .int .u64 c.c1.lo.c, .int .i64 c.c1.hi.s, .int .u64 c.c1.hi.c, .int .i64 c.c2.u, .int .i64 c.c2.ro, .int .i64 c.c2.ty, .int .i64 c.c2.lo.s, .int .u64 c.c2.lo.c, .int .i64 c.c2.hi.s, .int .u64 c.c2.hi.c, .int .i64 c.c3.u, .int .i64 c.c3.ro, .int .i64 c.c3.ty, .int .i64 c.c3.lo.s, .int .u64 c.c3.lo.c, .int .i64 c.c3.hi.s, .int .u64 c.c3.hi.c] 36) = W at *
    have HLE : Hid (w.heap.size ≤ W.heap.size) := Lib.hid HB.out.size
    have HKB : Hid (∀ W1, Kp W W1 → Kp w W1) := Lib.hid (fun W1 h => kpb HB.out HLE.out h)
    generalize w.heap.size + 1 = gc at *
    generalize hge : w.heap.size = ge at *
    refine wp_region_kq ?_
    repeat (first
        | go_big_quiet_skip
        | (go_big_quiet_want
           first
             | (refine quiet_load (t := 36) (.tmp 3) rfl rfl (fun w1 hC => loadAt_case (Blk.keep HC.out hC)) ?_; simp only [Act.put, List.setIfInBounds_toArray, List.set_cons_succ, List.set_cons_zero]; go_big_quiet_on)
             | (refine quiet_load (t := 28) (.tmp 2) rfl rfl (fun w1 hC => loadAt_expr (HXC.out.keep (Below.block hC ge HG.out))) ?_; simp only [Act.put, List.setIfInBounds_toArray, List.set_cons_succ, List.set_cons_zero]; go_big_quiet_on)
             | (go_big_quiet_op
                first
                  | go_big_quiet_on
                  | (apply Exists.intro
                     refine ⟨fun w1 hC => ?_, ?_⟩
                     · first
                         | (go_at_call 10; with_reducible exact hC.call (HWF.out _ (HKB.out _ hC)))
                         | (go_at_call 22; with_reducible exact hC.call (HVL.out rfl _ (HKB.out _ hC)))
                         | (go_simp; exact ⟨rfl, rfl⟩)
                         | (obtain ⟨y0, y1, y2, y3, y4, y5, y6, y7, y8, y9⟩ := (HXC.out.keep (Below.block hC ge HG.out)).cells; go_simp; exact rfl)
                     go_big_quiet_on))))
    refine wpQuiet_nil ?_
    intro W1 hC
    have HCC := Lib.hid (HB.out.trans (hC.mono HLE.out))
    clear hC
    go_wp2_with fail
    go_ret
    exact ⟨rfl, by first | exact HCC.out | (rw [hge]; exact HCC.out)⟩
  | true =>
    rw [hb] at HWF HVL
    clear hb
    go_enter Try.func9, Try.ntmps9
    go_upto_region 1 with fail
    generalize (w.alloc (.cells #[.int .i64 x.op, .int .i64 x.a, .int .i64 x.r, .int .i64 x.b, .slice ao x.ns.length cap, .int .u64 x.st.a, .int .u64 x.st.b, .int .u64 x.st.c, .int .u64 x.st.d, .slice ak x.ks.length ck] 28)).alloc (.cells #[.int .i64 c.c1.u, .int .i64 c.c1.ro, .int .i64 c.c1.ty, .int .i64 c.c1.lo.s, .int .u64 c.c1.lo.c, .int .i64 c.c1.hi.s, .int .u64 c.c1.hi.c, .int .i64 c.c2.u, .int .i64 c.c2.ro, .int .i64 c.c2.ty, .int .i64 c.c2.lo.s, .int .u64 c.c2.lo.c, .int .i64 c.c2.hi.s, .int .u64 c.c2.hi.c, .int .i64 c.c3.u, .int .i64 c.c3.ro, .int .i64 c.c3.ty, .int .i64 c.c3.lo.s, .int .u64 c.c3.lo.c, .int .i64 c.c3.hi.s, .int .u64 c.c3.hi.c] 36) = W at *
    have HLE : Hid (w.heap.size ≤ W.heap.size) := Lib.hid HB.out.size
    have HKB : Hid (∀ W1, Kp W W1 → Kp w W1) := Lib.hid (fun W1 h => kpb HB.out HLE.out h)
    generalize w.heap.size + 1 = gc at *
    generalize hge : w.heap.size = ge at *
    refine wp_region_kq ?_
    repeat (first
        | go_big_quiet_skip
        | (go_big_quiet_want
           first
             | (refine quiet_load (t := 36) (.tmp 3) rfl rfl (fun w1 hC => loadAt_case (Blk.keep HC.out hC)) ?_; simp only [Act.put, List.setIfInBounds_toArray, List.set_cons_succ, List.set_cons_zero]; go_big_quiet_on)
             | (refine quiet_load (t := 28) (.tmp 2) rfl rfl (fun w1 hC => loadAt_expr (HXC.out.keep (Below.block hC ge HG.out))) ?_; simp only [Act.put, List.setIfInBounds_toArray, List.set_cons_succ, List.set_cons_zero]; go_big_quiet_on)
             | (go_big_quiet_op
                first
                  | go_big_quiet_on
                  | (apply Exists.intro
                     refine ⟨fun w1 hC => ?_, ?_⟩
                     · first
                         | (go_at_call 10; with_reducible exact hC.call (HWF.out _ (HKB.out _ hC)))
                         | (go_at_call 22; with_reducible exact hC.call (HVL.out rfl _ (HKB.out _ hC)))
                         | (go_simp; exact ⟨rfl, rfl⟩)
                         | (obtain ⟨y0, y1, y2, y3, y4, y5, y6, y7, y8, y9⟩ := (HXC.out.keep (Below.block hC ge HG.out)).cells; go_simp; exact rfl)
                     go_big_quiet_on))))
    refine wpQuiet_nil ?_
    intro W1 hC
    have HCC := Lib.hid (HB.out.trans (hC.mono HLE.out))
    clear hC
    go_wp2_with fail
    go_ret
    exact ⟨rfl, by first | exact HCC.out | (rw [hge]; exact HCC.out)⟩
end Go.Proofs.Ytamcfmfkmekkfaa
/- The reference's Small. -/
namespace Go.Proofs.Ytamcfmfkmekkfaa
open Go.RowKit Go
def smX : Nat → X → Bool
  | 0, _ => false
  | n + 1, x => decide (x.ks.length ≤ 3 ∧ x.ns.length ≤ 20) && x.ks.all (smX n)
theorem all_no' {F : X → Bool} {ks : List X} {i : Nat} (hi : i < ks.length) (h : F ks[i] = false) : ks.all F = false := by
  rw [List.all_eq_false]
  exact ⟨_, List.getElem_mem hi, by rw [h]; simp⟩
theorem all_yes' {F : X → Bool} {ks : List X} (h : ∀ j (hj : j < ks.length), F ks[j] = true) : ks.all F = true := by
  rw [List.all_eq_true]
  intro x hx
  obtain ⟨j, hj, rfl⟩ := List.getElem_of_mem hx
  exact h j hj
set_option maxRecDepth 100000 in
set_option maxHeartbeats 16000000 in
theorem small_c : ∀ (n : Nat) (x : X) (vn vk : Value) (w : World), n ≤ 100 → XV w vn vk x →
    Calls Try.prog 6 #[.agg #[.int .i64 x.op, .int .i64 x.a, .int .i64 x.r, .int .i64 x.b, vn, .int .u64 x.st.a, .int .u64 x.st.b, .int .u64 x.st.c, .int .u64 x.st.d, vk], .int .i64 n] w fun e w' => e = .returned (.bool (smX n x)) ∧ Below w.heap.size w w' := by
  intro n
  induction n with
  | zero =>
    intro x vn vk w _ _
    have HB := Lib.hid ((Below.refl w.heap.size w).alloc (Nat.le_refl _) (.cells #[.int .i64 x.op, .int .i64 x.a, .int .i64 x.r, .int .i64 x.b, vn, .int .u64 x.st.a, .int .u64 x.st.b, .int .u64 x.st.c, .int .u64 x.st.d, vk] 28))
    go_enter Try.func6, Try.ntmps6
    go_wp2_with fail
    go_ret
    exact ⟨by unfold smX; rfl, HB.out⟩
  | succ n ih =>
    intro x vn vk w hn hV
    have HIH := Lib.hid ih
    obtain ⟨m, hm⟩ : ∃ m : Nat, n + 1 = m := ⟨_, rfl⟩
    rw [hm]
    have HSB : Hid ((m : Int) - 1 = (n : Int)) := Lib.hid (by omega)
    have hz : ((m : Int) ≤ 0) = False := by simp; omega
    have hm1 : 1 ≤ m ∧ m ≤ 101 := by omega
    have HN : Hid (n ≤ 100) := Lib.hid (by omega)
    have HM : Hid (smX m x = (decide (x.ks.length ≤ 3 ∧ x.ns.length ≤ 20) && x.ks.all (smX n))) := Lib.hid (by rw [← hm]; rfl)
    have hkI : (x.ks.length : Int) ≤ 9223372036854775807 := by have h := hV.wf.nk; unfold maxLen at h; omega
    obtain ⟨ao, cap, ak, ck, rfl, rfl⟩ := hV.form
    have HX : Hid (XC (w.alloc (.cells #[.int .i64 x.op, .int .i64 x.a, .int .i64 x.r, .int .i64 x.b, .slice ao x.ns.length cap, .int .u64 x.st.a, .int .u64 x.st.b, .int .u64 x.st.c, .int .u64 x.st.d, .slice ak x.ks.length ck] 28)) w.heap.size 0 x.op x.a x.r x.b ao x.ns.length cap x.st ak x.ks.length ck) := Lib.hid (XC.of_blk (Blk.new w _ _))
    have HB : Hid (Below w.heap.size w (w.alloc (.cells #[.int .i64 x.op, .int .i64 x.a, .int .i64 x.r, .int .i64 x.b, .slice ao x.ns.length cap, .int .u64 x.st.a, .int .u64 x.st.b, .int .u64 x.st.c, .int .u64 x.st.d, .slice ak x.ks.length ck] 28))) := Lib.hid ((Below.refl _ _).alloc (Nat.le_refl _) _)
    have HG : Hid (w.heap.size < (w.alloc (.cells #[.int .i64 x.op, .int .i64 x.a, .int .i64 x.r, .int .i64 x.b, .slice ao x.ns.length cap, .int .u64 x.st.a, .int .u64 x.st.b, .int .u64 x.st.c, .int .u64 x.st.d, .slice ak x.ks.length ck] 28)).heap.size) := Lib.hid (by simp)
    have HK := Lib.hid hV.ks
    clear hm hn ih hV
    by_cases h3 : x.ks.length ≤ 3
    · have q3 : ((3 : Int) < (x.ks.length : Int)) = False := by simp; omega
      by_cases h20 : x.ns.length ≤ 20
      · have q20 : ((20 : Int) < (x.ns.length : Int)) = False := by simp; omega
        have HM2 : Hid (smX m x = x.ks.all (smX n)) := Lib.hid (by rw [HM.out, decide_eq_true ⟨h3, h20⟩, Bool.true_and])
        clear HM h3 h20
        go_enter Try.func6, Try.ntmps6
        go_upto_region 1 with fail
        generalize w.alloc (.cells #[.int .i64 x.op, .int .i64 x.a, .int .i64 x.r, .int .i64 x.b, .slice ao x.ns.length cap, .int .u64 x.st.a, .int .u64 x.st.b, .int .u64 x.st.c, .int .u64 x.st.d, .slice ak x.ks.length ck] 28) = W at *
        obtain ⟨y0, y1, y2, y3, y4, y5, y6, y7, y8, y9⟩ := HX.out.cells
        generalize hgx : w.heap.size = gx at *
        go_wp2_with fail
        go_loopw [5] (fun v5 wr => ∃ i : Nat, i ≤ x.ks.length ∧ v5 = .int .i64 i ∧ Hid (∀ j (hj : j < x.ks.length), j < i → smX n x.ks[j] = true) ∧ Hid (XC wr gx 0 x.op x.a x.r x.b ao x.ns.length cap x.st ak x.ks.length ck) ∧ Hid (Below gx w wr) ∧ Hid (gx < wr.heap.size)) (fun v5 _ => x.ks.length - (intOf v5).toNat)
        case atStart => exact ⟨0, Nat.zero_le _, rfl, Lib.hid (fun j _ h => absurd h (by omega)), HX, HB, HG⟩
        case round =>
          clear HX HB HG y0 y1 y2 y3 y4 y5 y6 y7 y8 y9
          obtain ⟨i, hi, rfl, HJ, HX1, HB1, HG1⟩ := hrel
          obtain ⟨y0, y1, y2, y3, y4, y5, y6, y7, y8, y9⟩ := HX1.out.cells
          clear y0 y1 y2 y3 y4 y5 y6 y7 y8
          by_cases hlt : i < x.ks.length
          · have hlt' : (i : Int) < (x.ks.length : Int) := by omega
            obtain ⟨y, hy⟩ : ∃ y, x.ks[i] = y := ⟨_, rfl⟩
            obtain ⟨g', o', hak, hg', hR⟩ := HK.out.row hlt
            subst hak
            have hA := hR i hlt
            rw [hy] at hA
            have hA2 : XAt wr g' (o' + i * 10) y := hA.keep (by rw [hgx]; exact HB1.out) hg'
            obtain ⟨ao2, cap2, ak2, ck2, hc2, hv2⟩ := hA2.xv
            obtain ⟨z0, z1, z2, z3, z4, z5, z6, z7, z8, z9⟩ := hc2.cells
            have HV2 := Lib.hid hv2
            have HY := Lib.hid hy
            clear hA hA2 hR hg' hy hc2 hv2
            obtain ⟨bb, hb⟩ : ∃ bb, smX n y = bb := ⟨_, rfl⟩
            have HBB := Lib.hid hb
            have HCL : Hid (Calls Try.prog 6 #[.agg #[.int .i64 y.op, .int .i64 y.a, .int .i64 y.r, .int .i64 y.b, .slice ao2 y.ns.length cap2, .int .u64 y.st.a, .int .u64 y.st.b, .int .u64 y.st.c, .int .u64 y.st.d, .slice ak2 y.ks.length ck2], .int .i64 ((m : Int) - 1)] wr fun e w' => e = .returned (.bool bb) ∧ Below wr.heap.size wr w') := Lib.hid (by
              rw [← hb, HSB.out]
              exact HIH.out y _ _ wr HN.out HV2.out)
            clear hb
            cases bb with
            | false =>
              go_wp2_with (go_at_call 6; (with_reducible refine HCL.out.mono ?_); rintro e w1 ⟨rfl, hb1⟩; have HB2 := Lib.hid (HB1.out.trans (hb1.mono (Nat.le_of_lt HG1.out))); clear hb1)
              go_ret
              exact ⟨ret_bool (by rw [HM2.out, all_no' hlt (by rw [HY.out]; exact HBB.out)]), by first | exact HB2.out | (rw [hgx]; exact HB2.out)⟩
            | true =>
              go_wp2_with (go_at_call 6; (with_reducible refine HCL.out.mono ?_); rintro e w1 ⟨rfl, hb1⟩; have HB2 := Lib.hid (HB1.out.trans (hb1.mono (Nat.le_of_lt HG1.out))); have HX2 := Lib.hid (HX1.out.keep (hb1.block gx HG1.out)); have HG2 := Lib.hid (Nat.lt_of_lt_of_le HG1.out hb1.size); clear hb1)
              go_roundw
              case rel =>
                refine ⟨i + 1, hlt, by go_num, Lib.hid (fun j hj hji => ?_), HX2, HB2, HG2⟩
                by_cases e : j < i
                · exact HJ.out j hj e
                · obtain rfl : j = i := by omega
                  rw [HY.out]; exact HBB.out
              case measure => simp [intOf]; omega
          · have hlt' : ¬ (i : Int) < (x.ks.length : Int) := by omega
            have HF : Hid (smX m x = true) := Lib.hid (by rw [HM2.out]; exact all_yes' fun j hj => HJ.out j hj (by omega))
            go_wp2_with fail
            go_ret
            exact ⟨ret_bool HF.out.symm, by first | exact HB1.out | (rw [hgx]; exact HB1.out)⟩
      · have q20 : ((20 : Int) < (x.ns.length : Int)) = True := by simp; omega
        have HM2 : Hid (smX m x = false) := Lib.hid (by rw [HM.out, decide_eq_false (fun h => h20 h.2)]; rfl)
        clear HM h3 h20
        obtain ⟨y0, y1, y2, y3, y4, y5, y6, y7, y8, y9⟩ := HX.out.cells
        go_enter Try.func6, Try.ntmps6
        go_wp2_with fail
        go_ret
        exact ⟨ret_bool HM2.out.symm, HB.out⟩
    · have q3 : ((3 : Int) < (x.ks.length : Int)) = True := by simp; omega
      have HM2 : Hid (smX m x = false) := Lib.hid (by rw [HM.out, decide_eq_false (fun h => h3 h.1)]; rfl)
      clear HM h3
      obtain ⟨y0, y1, y2, y3, y4, y5, y6, y7, y8, y9⟩ := HX.out.cells
      go_enter Try.func6, Try.ntmps6
      go_wp2_with fail
      go_ret
      exact ⟨ret_bool HM2.out.symm, HB.out⟩
end Go.Proofs.Ytamcfmfkmekkfaa
/- The reference's Mentions. -/
namespace Go.Proofs.Ytamcfmfkmekkfaa
open Go.RowKit Go
def hitX (a : Int) (x : X) : Bool := decide ((x.op = 8 ∧ (x.a = a ∨ x.b = a)) ∨ (x.op = 9 ∧ x.a = a))
def mnX (a : Int) : Nat → X → Bool
  | 0, _ => false
  | n + 1, x => hitX a x || x.ks.any (mnX a n)
theorem any_yes {F : X → Bool} {ks : List X} {i : Nat} (hi : i < ks.length) (h : F ks[i] = true) : ks.any F = true := List.any_eq_true.2 ⟨_, List.getElem_mem hi, h⟩
theorem any_no {F : X → Bool} {ks : List X} (h : ∀ j (hj : j < ks.length), F ks[j] = false) : ks.any F = false := by
  rw [List.any_eq_false]
  intro x hx
  obtain ⟨j, hj, rfl⟩ := List.getElem_of_mem hx
  rw [h j hj]; simp
theorem sm_kid {n : Nat} {x : X} (h : smX (n + 1) x = true) {i : Nat} (hi : i < x.ks.length) : smX n x.ks[i] = true := by
  have e : smX (n + 1) x = (decide (x.ks.length ≤ 3 ∧ x.ns.length ≤ 20) && x.ks.all (smX n)) := rfl
  rw [e, Bool.and_eq_true, List.all_eq_true] at h
  exact h.2 _ (List.getElem_mem hi)
set_option maxRecDepth 100000 in
set_option maxHeartbeats 32000000 in
theorem rmentions_c (a : Int) : ∀ (n : Nat) (x : X) (vn vk : Value) (w : World), smX n x = true → XV w vn vk x →
    Calls Try.prog 12 #[.agg #[.int .i64 x.op, .int .i64 x.a, .int .i64 x.r, .int .i64 x.b, vn, .int .u64 x.st.a, .int .u64 x.st.b, .int .u64 x.st.c, .int .u64 x.st.d, vk], .int .i64 a] w fun e w' => e = .returned (.bool (mnX a n x)) ∧ Below w.heap.size w w' := by
  intro n
  induction n with
  | zero => intro x vn vk w h; exact absurd h (by unfold smX; simp)
  | succ n ih =>
    intro x vn vk w hs hV
    have HIH := Lib.hid ih
    have HSM : Hid (∀ i (hi : i < x.ks.length), smX n x.ks[i] = true) := Lib.hid fun i hi => sm_kid hs hi
    have HM : Hid (mnX a (n + 1) x = (hitX a x || x.ks.any (mnX a n))) := Lib.hid rfl
    generalize mnX a (n + 1) x = R at *
    have hkI : (x.ks.length : Int) ≤ 9223372036854775807 := by have h := hV.wf.nk; unfold maxLen at h; omega
    obtain ⟨ao, cap, ak, ck, rfl, rfl⟩ := hV.form
    have HX : Hid (XC (w.alloc (.cells #[.int .i64 x.op, .int .i64 x.a, .int .i64 x.r, .int .i64 x.b, .slice ao x.ns.length cap, .int .u64 x.st.a, .int .u64 x.st.b, .int .u64 x.st.c, .int .u64 x.st.d, .slice ak x.ks.length ck] 28)) w.heap.size 0 x.op x.a x.r x.b ao x.ns.length cap x.st ak x.ks.length ck) := Lib.hid (XC.of_blk (Blk.new w _ _))
    have HB : Hid (Below w.heap.size w (w.alloc (.cells #[.int .i64 x.op, .int .i64 x.a, .int .i64 x.r, .int .i64 x.b, .slice ao x.ns.length cap, .int .u64 x.st.a, .int .u64 x.st.b, .int .u64 x.st.c, .int .u64 x.st.d, .slice ak x.ks.length ck] 28))) := Lib.hid ((Below.refl _ _).alloc (Nat.le_refl _) _)
    have HG : Hid (w.heap.size < (w.alloc (.cells #[.int .i64 x.op, .int .i64 x.a, .int .i64 x.r, .int .i64 x.b, .slice ao x.ns.length cap, .int .u64 x.st.a, .int .u64 x.st.b, .int .u64 x.st.c, .int .u64 x.st.d, .slice ak x.ks.length ck] 28)).heap.size) := Lib.hid (by simp)
    have HK := Lib.hid hV.ks
    clear ih hV hs
    by_cases h8 : x.op = 8
    · have p8 : (x.op == 8) = true := by simpa using h8
      have p9 : (x.op == 9) = false := by simp; omega
      by_cases ha : x.a = a
      · have pa : (x.a == a) = true := by simpa using ha
        have HR : Hid (R = true) := Lib.hid (by rw [HM.out]; simp [hitX, h8, ha])
        clear HM h8 ha
        obtain ⟨y0, y1, y2, y3, y4, y5, y6, y7, y8, y9⟩ := HX.out.cells
        go_enter Try.func12, Try.ntmps12
        go_wp2_with fail
        go_ret
        exact ⟨ret_bool HR.out.symm, HB.out⟩
      · have pa : (x.a == a) = false := by simpa using ha
        by_cases hb : x.b = a
        · have pb : (x.b == a) = true := by simpa using hb
          have HR : Hid (R = true) := Lib.hid (by rw [HM.out]; simp [hitX, h8, hb])
          clear HM h8 ha hb
          obtain ⟨y0, y1, y2, y3, y4, y5, y6, y7, y8, y9⟩ := HX.out.cells
          go_enter Try.func12, Try.ntmps12
          go_wp2_with fail
          go_ret
          exact ⟨ret_bool HR.out.symm, HB.out⟩
        · have pb : (x.b == a) = false := by simpa using hb
          have HR : Hid (R = x.ks.any (mnX a n)) := Lib.hid (by rw [HM.out]; simp [hitX, h8, ha, hb])
          clear HM h8 ha hb
          go_enter Try.func12, Try.ntmps12
          go_upto_region 1 with fail
          generalize w.alloc (.cells #[.int .i64 x.op, .int .i64 x.a, .int .i64 x.r, .int .i64 x.b, .slice ao x.ns.length cap, .int .u64 x.st.a, .int .u64 x.st.b, .int .u64 x.st.c, .int .u64 x.st.d, .slice ak x.ks.length ck] 28) = W at *
          obtain ⟨y0, y1, y2, y3, y4, y5, y6, y7, y8, y9⟩ := HX.out.cells
          generalize hgx : w.heap.size = gx at *
          go_wp2_with fail
          go_loopw [5] (fun v5 wr => ∃ i : Nat, i ≤ x.ks.length ∧ v5 = .int .i64 i ∧ Hid (∀ j (hj : j < x.ks.length), j < i → mnX a n x.ks[j] = false) ∧ Hid (XC wr gx 0 x.op x.a x.r x.b ao x.ns.length cap x.st ak x.ks.length ck) ∧ Hid (Below gx w wr) ∧ Hid (gx < wr.heap.size)) (fun v5 _ => x.ks.length - (intOf v5).toNat)
          case atStart => exact ⟨0, Nat.zero_le _, rfl, Lib.hid (fun j _ h => absurd h (by omega)), HX, HB, HG⟩
          case round =>
            clear HX HB HG y0 y1 y2 y3 y4 y5 y6 y7 y8 y9
            obtain ⟨i, hi, rfl, HJ, HX1, HB1, HG1⟩ := hrel
            obtain ⟨y0, y1, y2, y3, y4, y5, y6, y7, y8, y9⟩ := HX1.out.cells
            clear y0 y1 y2 y3 y4 y5 y6 y7 y8
            by_cases hlt : i < x.ks.length
            · have hlt' : (i : Int) < (x.ks.length : Int) := by omega
              have HSI := Lib.hid (HSM.out i hlt)
              obtain ⟨y, hy⟩ : ∃ y, x.ks[i] = y := ⟨_, rfl⟩
              rw [hy] at HSI
              obtain ⟨g', o', hak, hg', hR⟩ := HK.out.row hlt
              subst hak
              have hA := hR i hlt
              rw [hy] at hA
              have hA2 : XAt wr g' (o' + i * 10) y := hA.keep (by rw [hgx]; exact HB1.out) hg'
              obtain ⟨ao2, cap2, ak2, ck2, hc2, hv2⟩ := hA2.xv
              obtain ⟨z0, z1, z2, z3, z4, z5, z6, z7, z8, z9⟩ := hc2.cells
              have HV2 := Lib.hid hv2
              have HY := Lib.hid hy
              clear hA hA2 hR hg' hy hc2 hv2
              obtain ⟨bb, hb⟩ : ∃ bb, mnX a n y = bb := ⟨_, rfl⟩
              have HBB := Lib.hid hb
              have HCL : Hid (Calls Try.prog 12 #[.agg #[.int .i64 y.op, .int .i64 y.a, .int .i64 y.r, .int .i64 y.b, .slice ao2 y.ns.length cap2, .int .u64 y.st.a, .int .u64 y.st.b, .int .u64 y.st.c, .int .u64 y.st.d, .slice ak2 y.ks.length ck2], .int .i64 a] wr fun e w' => e = .returned (.bool bb) ∧ Below wr.heap.size wr w') := Lib.hid (by
                rw [← hb]
                exact HIH.out y _ _ wr HSI.out HV2.out)
              clear hb
              cases bb with
              | true =>
                go_wp2_with (go_at_call 12; (with_reducible refine HCL.out.mono ?_); rintro e w1 ⟨rfl, hb1⟩; have HB2 := Lib.hid (HB1.out.trans (hb1.mono (Nat.le_of_lt HG1.out))); clear hb1)
                go_ret
                exact ⟨ret_bool (by rw [HR.out, any_yes hlt (by rw [HY.out]; exact HBB.out)]), by first | exact HB2.out | (rw [hgx]; exact HB2.out)⟩
              | false =>
                go_wp2_with (go_at_call 12; (with_reducible refine HCL.out.mono ?_); rintro e w1 ⟨rfl, hb1⟩; have HB2 := Lib.hid (HB1.out.trans (hb1.mono (Nat.le_of_lt HG1.out))); have HX2 := Lib.hid (HX1.out.keep (hb1.block gx HG1.out)); have HG2 := Lib.hid (Nat.lt_of_lt_of_le HG1.out hb1.size); clear hb1)
                go_roundw
                case rel =>
                  refine ⟨i + 1, hlt, by go_num, Lib.hid (fun j hj hji => ?_), HX2, HB2, HG2⟩
                  by_cases e : j < i
                  · exact HJ.out j hj e
                  · obtain rfl : j = i := by omega
                    rw [HY.out]; exact HBB.out
                case measure => simp [intOf]; omega
            · have hlt' : ¬ (i : Int) < (x.ks.length : Int) := by omega
              have HF : Hid (R = false) := Lib.hid (by rw [HR.out]; exact any_no fun j hj => HJ.out j hj (by omega))
              go_wp2_with fail
              go_ret
              exact ⟨ret_bool HF.out.symm, by first | exact HB1.out | (rw [hgx]; exact HB1.out)⟩
    · have p8 : (x.op == 8) = false := by simpa using h8
      by_cases h9 : x.op = 9
      · have p9 : (x.op == 9) = true := by simpa using h9
        by_cases ha : x.a = a
        · have pa : (x.a == a) = true := by simpa using ha
          have HR : Hid (R = true) := Lib.hid (by rw [HM.out]; simp [hitX, h9, ha])
          clear HM h8 h9 ha
          obtain ⟨y0, y1, y2, y3, y4, y5, y6, y7, y8, y9⟩ := HX.out.cells
          go_enter Try.func12, Try.ntmps12
          go_wp2_with fail
          go_ret
          exact ⟨ret_bool HR.out.symm, HB.out⟩
        · have pa : (x.a == a) = false := by simpa using ha
          have HR : Hid (R = x.ks.any (mnX a n)) := Lib.hid (by rw [HM.out]; simp [hitX, h9, ha])
          clear HM h8 h9 ha
          go_enter Try.func12, Try.ntmps12
          go_upto_region 1 with fail
          generalize w.alloc (.cells #[.int .i64 x.op, .int .i64 x.a, .int .i64 x.r, .int .i64 x.b, .slice ao x.ns.length cap, .int .u64 x.st.a, .int .u64 x.st.b, .int .u64 x.st.c, .int .u64 x.st.d, .slice ak x.ks.length ck] 28) = W at *
          obtain ⟨y0, y1, y2, y3, y4, y5, y6, y7, y8, y9⟩ := HX.out.cells
          generalize hgx : w.heap.size = gx at *
          go_wp2_with fail
          go_loopw [5] (fun v5 wr => ∃ i : Nat, i ≤ x.ks.length ∧ v5 = .int .i64 i ∧ Hid (∀ j (hj : j < x.ks.length), j < i → mnX a n x.ks[j] = false) ∧ Hid (XC wr gx 0 x.op x.a x.r x.b ao x.ns.length cap x.st ak x.ks.length ck) ∧ Hid (Below gx w wr) ∧ Hid (gx < wr.heap.size)) (fun v5 _ => x.ks.length - (intOf v5).toNat)
          case atStart => exact ⟨0, Nat.zero_le _, rfl, Lib.hid (fun j _ h => absurd h (by omega)), HX, HB, HG⟩
          case round =>
            clear HX HB HG y0 y1 y2 y3 y4 y5 y6 y7 y8 y9
            obtain ⟨i, hi, rfl, HJ, HX1, HB1, HG1⟩ := hrel
            obtain ⟨y0, y1, y2, y3, y4, y5, y6, y7, y8, y9⟩ := HX1.out.cells
            clear y0 y1 y2 y3 y4 y5 y6 y7 y8
            by_cases hlt : i < x.ks.length
            · have hlt' : (i : Int) < (x.ks.length : Int) := by omega
              have HSI := Lib.hid (HSM.out i hlt)
              obtain ⟨y, hy⟩ : ∃ y, x.ks[i] = y := ⟨_, rfl⟩
              rw [hy] at HSI
              obtain ⟨g', o', hak, hg', hR⟩ := HK.out.row hlt
              subst hak
              have hA := hR i hlt
              rw [hy] at hA
              have hA2 : XAt wr g' (o' + i * 10) y := hA.keep (by rw [hgx]; exact HB1.out) hg'
              obtain ⟨ao2, cap2, ak2, ck2, hc2, hv2⟩ := hA2.xv
              obtain ⟨z0, z1, z2, z3, z4, z5, z6, z7, z8, z9⟩ := hc2.cells
              have HV2 := Lib.hid hv2
              have HY := Lib.hid hy
              clear hA hA2 hR hg' hy hc2 hv2
              obtain ⟨bb, hb⟩ : ∃ bb, mnX a n y = bb := ⟨_, rfl⟩
              have HBB := Lib.hid hb
              have HCL : Hid (Calls Try.prog 12 #[.agg #[.int .i64 y.op, .int .i64 y.a, .int .i64 y.r, .int .i64 y.b, .slice ao2 y.ns.length cap2, .int .u64 y.st.a, .int .u64 y.st.b, .int .u64 y.st.c, .int .u64 y.st.d, .slice ak2 y.ks.length ck2], .int .i64 a] wr fun e w' => e = .returned (.bool bb) ∧ Below wr.heap.size wr w') := Lib.hid (by
                rw [← hb]
                exact HIH.out y _ _ wr HSI.out HV2.out)
              clear hb
              cases bb with
              | true =>
                go_wp2_with (go_at_call 12; (with_reducible refine HCL.out.mono ?_); rintro e w1 ⟨rfl, hb1⟩; have HB2 := Lib.hid (HB1.out.trans (hb1.mono (Nat.le_of_lt HG1.out))); clear hb1)
                go_ret
                exact ⟨ret_bool (by rw [HR.out, any_yes hlt (by rw [HY.out]; exact HBB.out)]), by first | exact HB2.out | (rw [hgx]; exact HB2.out)⟩
              | false =>
                go_wp2_with (go_at_call 12; (with_reducible refine HCL.out.mono ?_); rintro e w1 ⟨rfl, hb1⟩; have HB2 := Lib.hid (HB1.out.trans (hb1.mono (Nat.le_of_lt HG1.out))); have HX2 := Lib.hid (HX1.out.keep (hb1.block gx HG1.out)); have HG2 := Lib.hid (Nat.lt_of_lt_of_le HG1.out hb1.size); clear hb1)
                go_roundw
                case rel =>
                  refine ⟨i + 1, hlt, by go_num, Lib.hid (fun j hj hji => ?_), HX2, HB2, HG2⟩
                  by_cases e : j < i
                  · exact HJ.out j hj e
                  · obtain rfl : j = i := by omega
                    rw [HY.out]; exact HBB.out
                case measure => simp [intOf]; omega
            · have hlt' : ¬ (i : Int) < (x.ks.length : Int) := by omega
              have HF : Hid (R = false) := Lib.hid (by rw [HR.out]; exact any_no fun j hj => HJ.out j hj (by omega))
              go_wp2_with fail
              go_ret
              exact ⟨ret_bool HF.out.symm, by first | exact HB1.out | (rw [hgx]; exact HB1.out)⟩
      · have p9 : (x.op == 9) = false := by simpa using h9
        have HR : Hid (R = x.ks.any (mnX a n)) := Lib.hid (by rw [HM.out]; simp [hitX, h8, h9])
        clear HM h8 h9
        go_enter Try.func12, Try.ntmps12
        go_upto_region 1 with fail
        generalize w.alloc (.cells #[.int .i64 x.op, .int .i64 x.a, .int .i64 x.r, .int .i64 x.b, .slice ao x.ns.length cap, .int .u64 x.st.a, .int .u64 x.st.b, .int .u64 x.st.c, .int .u64 x.st.d, .slice ak x.ks.length ck] 28) = W at *
        obtain ⟨y0, y1, y2, y3, y4, y5, y6, y7, y8, y9⟩ := HX.out.cells
        generalize hgx : w.heap.size = gx at *
        go_wp2_with fail
        go_loopw [5] (fun v5 wr => ∃ i : Nat, i ≤ x.ks.length ∧ v5 = .int .i64 i ∧ Hid (∀ j (hj : j < x.ks.length), j < i → mnX a n x.ks[j] = false) ∧ Hid (XC wr gx 0 x.op x.a x.r x.b ao x.ns.length cap x.st ak x.ks.length ck) ∧ Hid (Below gx w wr) ∧ Hid (gx < wr.heap.size)) (fun v5 _ => x.ks.length - (intOf v5).toNat)
        case atStart => exact ⟨0, Nat.zero_le _, rfl, Lib.hid (fun j _ h => absurd h (by omega)), HX, HB, HG⟩
        case round =>
          clear HX HB HG y0 y1 y2 y3 y4 y5 y6 y7 y8 y9
          obtain ⟨i, hi, rfl, HJ, HX1, HB1, HG1⟩ := hrel
          obtain ⟨y0, y1, y2, y3, y4, y5, y6, y7, y8, y9⟩ := HX1.out.cells
          clear y0 y1 y2 y3 y4 y5 y6 y7 y8
          by_cases hlt : i < x.ks.length
          · have hlt' : (i : Int) < (x.ks.length : Int) := by omega
            have HSI := Lib.hid (HSM.out i hlt)
            obtain ⟨y, hy⟩ : ∃ y, x.ks[i] = y := ⟨_, rfl⟩
            rw [hy] at HSI
            obtain ⟨g', o', hak, hg', hR⟩ := HK.out.row hlt
            subst hak
            have hA := hR i hlt
            rw [hy] at hA
            have hA2 : XAt wr g' (o' + i * 10) y := hA.keep (by rw [hgx]; exact HB1.out) hg'
            obtain ⟨ao2, cap2, ak2, ck2, hc2, hv2⟩ := hA2.xv
            obtain ⟨z0, z1, z2, z3, z4, z5, z6, z7, z8, z9⟩ := hc2.cells
            have HV2 := Lib.hid hv2
            have HY := Lib.hid hy
            clear hA hA2 hR hg' hy hc2 hv2
            obtain ⟨bb, hb⟩ : ∃ bb, mnX a n y = bb := ⟨_, rfl⟩
            have HBB := Lib.hid hb
            have HCL : Hid (Calls Try.prog 12 #[.agg #[.int .i64 y.op, .int .i64 y.a, .int .i64 y.r, .int .i64 y.b, .slice ao2 y.ns.length cap2, .int .u64 y.st.a, .int .u64 y.st.b, .int .u64 y.st.c, .int .u64 y.st.d, .slice ak2 y.ks.length ck2], .int .i64 a] wr fun e w' => e = .returned (.bool bb) ∧ Below wr.heap.size wr w') := Lib.hid (by
              rw [← hb]
              exact HIH.out y _ _ wr HSI.out HV2.out)
            clear hb
            cases bb with
            | true =>
              go_wp2_with (go_at_call 12; (with_reducible refine HCL.out.mono ?_); rintro e w1 ⟨rfl, hb1⟩; have HB2 := Lib.hid (HB1.out.trans (hb1.mono (Nat.le_of_lt HG1.out))); clear hb1)
              go_ret
              exact ⟨ret_bool (by rw [HR.out, any_yes hlt (by rw [HY.out]; exact HBB.out)]), by first | exact HB2.out | (rw [hgx]; exact HB2.out)⟩
            | false =>
              go_wp2_with (go_at_call 12; (with_reducible refine HCL.out.mono ?_); rintro e w1 ⟨rfl, hb1⟩; have HB2 := Lib.hid (HB1.out.trans (hb1.mono (Nat.le_of_lt HG1.out))); have HX2 := Lib.hid (HX1.out.keep (hb1.block gx HG1.out)); have HG2 := Lib.hid (Nat.lt_of_lt_of_le HG1.out hb1.size); clear hb1)
              go_roundw
              case rel =>
                refine ⟨i + 1, hlt, by go_num, Lib.hid (fun j hj hji => ?_), HX2, HB2, HG2⟩
                by_cases e : j < i
                · exact HJ.out j hj e
                · obtain rfl : j = i := by omega
                  rw [HY.out]; exact HBB.out
              case measure => simp [intOf]; omega
          · have hlt' : ¬ (i : Int) < (x.ks.length : Int) := by omega
            have HF : Hid (R = false) := Lib.hid (by rw [HR.out]; exact any_no fun j hj => HJ.out j hj (by omega))
            go_wp2_with fail
            go_ret
            exact ⟨ret_bool HF.out.symm, by first | exact HB1.out | (rw [hgx]; exact HB1.out)⟩
end Go.Proofs.Ytamcfmfkmekkfaa
/- constraint.Mentions, over slices.ContainsFunc and a closure. -/
namespace Go.Proofs.Ytamcfmfkmekkfaa
open Go.RowKit Go
set_option maxRecDepth 100000 in
set_option maxHeartbeats 16000000 in
theorem mclos_c (a : Int) (n : Nat) (ih : ∀ (x : X) (vn vk : Value) (w : World), smX n x = true → XV w vn vk x → Calls Try.prog 11 #[.agg #[.int .i64 x.op, .int .i64 x.a, .int .i64 x.r, .int .i64 x.b, vn, .int .u64 x.st.a, .int .u64 x.st.b, .int .u64 x.st.c, .int .u64 x.st.d, vk], .int .i64 a] w fun e w' => e = .returned (.bool (mnX a n x)) ∧ Below w.heap.size w w') (ga : Nat) (y : X) (vn vk : Value) (w : World) (hs : smX n y = true) (hV : XV w vn vk y) (hga : Blk w ga 3 #[.int .i64 a]) :
    Calls Try.prog 25 #[.agg #[.int .i64 y.op, .int .i64 y.a, .int .i64 y.r, .int .i64 y.b, vn, .int .u64 y.st.a, .int .u64 y.st.b, .int .u64 y.st.c, .int .u64 y.st.d, vk], .pointer (some ⟨ga, 0, none⟩)] w fun e w' => e = .returned (.bool (mnX a n y)) ∧ Below w.heap.size w w' := by
  obtain ⟨ao, cap, ak, ck, rfl, rfl⟩ := hV.form
  have HB : Hid (Below w.heap.size w (w.alloc (.cells #[.int .i64 y.op, .int .i64 y.a, .int .i64 y.r, .int .i64 y.b, .slice ao y.ns.length cap, .int .u64 y.st.a, .int .u64 y.st.b, .int .u64 y.st.c, .int .u64 y.st.d, .slice ak y.ks.length ck] 28))) := Lib.hid ((Below.refl _ _).alloc (Nat.le_refl _) _)
  have HX : Hid (XC (w.alloc (.cells #[.int .i64 y.op, .int .i64 y.a, .int .i64 y.r, .int .i64 y.b, .slice ao y.ns.length cap, .int .u64 y.st.a, .int .u64 y.st.b, .int .u64 y.st.c, .int .u64 y.st.d, .slice ak y.ks.length ck] 28)) w.heap.size 0 y.op y.a y.r y.b ao y.ns.length cap y.st ak y.ks.length ck) := Lib.hid (XC.of_blk (Blk.new w _ _))
  have HA : Hid (Blk (w.alloc (.cells #[.int .i64 y.op, .int .i64 y.a, .int .i64 y.r, .int .i64 y.b, .slice ao y.ns.length cap, .int .u64 y.st.a, .int .u64 y.st.b, .int .u64 y.st.c, .int .u64 y.st.d, .slice ak y.ks.length ck] 28)) ga 3 #[.int .i64 a]) := Lib.hid (hga.alloc _)
  have HC := Lib.hid (ih y _ _ _ hs (hV.keep HB.out))
  clear ih hs hV hga
  go_enter Try.func25, Try.ntmps25
  go_upto_region 1 with fail
  generalize w.alloc (.cells #[.int .i64 y.op, .int .i64 y.a, .int .i64 y.r, .int .i64 y.b, .slice ao y.ns.length cap, .int .u64 y.st.a, .int .u64 y.st.b, .int .u64 y.st.c, .int .u64 y.st.d, .slice ak y.ks.length ck] 28) = W at *
  obtain ⟨y0, y1, y2, y3, y4, y5, y6, y7, y8, y9⟩ := HX.out.cells
  have b0 := HA.out.cell 0
  have HLE : Hid (w.heap.size ≤ W.heap.size) := Lib.hid HB.out.size
  generalize hgx : w.heap.size = gx at *
  go_wp2_with (go_at_call 11; (with_reducible refine HC.out.mono ?_); rintro e w1 ⟨rfl, hb1⟩; have HB1 := Lib.hid (HB.out.trans (hb1.mono HLE.out)); clear hb1)
  go_ret
  exact ⟨rfl, by first | exact HB1.out | (rw [hgx]; exact HB1.out)⟩
set_option maxRecDepth 100000 in
set_option maxHeartbeats 16000000 in
theorem mindex_c (F : X → Bool) (a : Int) (ga : Nat) (ks : List X) (vk : Value) (w : World) (hK : SlR 10 XAt w vk ks) (hl : ks.length ≤ maxLen) (hga : Blk w ga 3 #[.int .i64 a])
    (hF : ∀ i (hi : i < ks.length) (vn vk : Value) (W : World), Blk W ga 3 #[.int .i64 a] → XV W vn vk ks[i] → Calls Try.prog 25 #[.agg #[.int .i64 (ks[i]).op, .int .i64 (ks[i]).a, .int .i64 (ks[i]).r, .int .i64 (ks[i]).b, vn, .int .u64 (ks[i]).st.a, .int .u64 (ks[i]).st.b, .int .u64 (ks[i]).st.c, .int .u64 (ks[i]).st.d, vk], .pointer (some ⟨ga, 0, none⟩)] W fun e w' => e = .returned (.bool (F ks[i])) ∧ Below W.heap.size W w') :
    Calls Try.prog 44 #[vk, .func (.func 25) #[] #[.pointer (some ⟨ga, 0, none⟩)]] w fun e w' => ∃ r : Int, e = .returned (.int .i64 r) ∧ decide (0 ≤ r) = ks.any F ∧ Below w.heap.size w w' := by
  obtain ⟨ak, ck, rfl, -, -⟩ := id hK
  have HK := Lib.hid hK
  have HF := Lib.hid hF
  have HGA := Lib.hid hga
  have hkI : (ks.length : Int) ≤ 9223372036854775807 := by unfold maxLen at hl; omega
  clear hK hl hga hF
  go_enter Try.func44, Try.ntmps44
  go_wp2_with fail
  go_loopw [8] (fun v8 wr => ∃ i : Nat, i ≤ ks.length ∧ v8 = .int .i64 i ∧ Hid (∀ j (hj : j < ks.length), j < i → F ks[j] = false) ∧ Hid (Below w.heap.size w wr)) (fun v8 _ => ks.length - (intOf v8).toNat)
  case atStart => exact ⟨0, Nat.zero_le _, rfl, Lib.hid (fun j _ h => absurd h (by omega)), Lib.hid (Below.refl _ _)⟩
  case round =>
    obtain ⟨i, hi, rfl, HJ, HB⟩ := hrel
    by_cases hlt : i < ks.length
    · have hlt' : (i : Int) < (ks.length : Int) := by omega
      have HCL0 := Lib.hid (HF.out i hlt)
      obtain ⟨y, hy⟩ : ∃ y, ks[i] = y := ⟨_, rfl⟩
      rw [hy] at HCL0
      obtain ⟨g', o', hak, hg', hR⟩ := HK.out.row hlt
      subst hak
      have hA := hR i hlt
      rw [hy] at hA
      have hA2 : XAt wr g' (o' + i * 10) y := hA.keep HB.out hg'
      obtain ⟨ao2, cap2, ak2, ck2, hc2, hv2⟩ := hA2.xv
      obtain ⟨z0, z1, z2, z3, z4, z5, z6, z7, z8, z9⟩ := hc2.cells
      have HY := Lib.hid hy
      have HCL := Lib.hid (HCL0.out _ _ wr (HGA.out.keep HB.out) hv2)
      clear hA hA2 hR hg' hy hc2 hv2 HCL0
      obtain ⟨bb, hb⟩ : ∃ bb, F y = bb := ⟨_, rfl⟩
      have HBB := Lib.hid hb
      rw [hb] at HCL
      clear hb
      cases bb with
      | true =>
        go_wp2_with (go_at_call 25; (with_reducible refine HCL.out.mono ?_); rintro e w1 ⟨rfl, hb1⟩; have HB2 := Lib.hid (HB.out.trans (hb1.mono HB.out.size)); clear hb1)
        go_ret
        exact ⟨i, rfl, by rw [any_yes hlt (by rw [HY.out]; exact HBB.out)]; simp, HB2.out⟩
      | false =>
        go_wp2_with (go_at_call 25; (with_reducible refine HCL.out.mono ?_); rintro e w1 ⟨rfl, hb1⟩; have HB2 := Lib.hid (HB.out.trans (hb1.mono HB.out.size)); clear hb1)
        go_roundw
        case rel =>
          refine ⟨i + 1, hlt, by go_num, Lib.hid (fun j hj hji => ?_), HB2⟩
          by_cases e : j < i
          · exact HJ.out j hj e
          · obtain rfl : j = i := by omega
            rw [HY.out]; exact HBB.out
        case measure => simp [intOf]; omega
    · have hlt' : ¬ (i : Int) < (ks.length : Int) := by omega
      go_wp2_with fail
      go_ret
      exact ⟨-1, rfl, by rw [any_no fun j hj => HJ.out j hj (by omega)]; rfl, HB.out⟩
set_option maxRecDepth 100000 in
set_option maxHeartbeats 16000000 in
theorem mcontains_c (F : X → Bool) (a : Int) (ga : Nat) (ks : List X) (vk : Value) (w : World) (hK : SlR 10 XAt w vk ks) (hl : ks.length ≤ maxLen) (hga : Blk w ga 3 #[.int .i64 a])
    (hF : ∀ i (hi : i < ks.length) (vn vk : Value) (W : World), Blk W ga 3 #[.int .i64 a] → XV W vn vk ks[i] → Calls Try.prog 25 #[.agg #[.int .i64 (ks[i]).op, .int .i64 (ks[i]).a, .int .i64 (ks[i]).r, .int .i64 (ks[i]).b, vn, .int .u64 (ks[i]).st.a, .int .u64 (ks[i]).st.b, .int .u64 (ks[i]).st.c, .int .u64 (ks[i]).st.d, vk], .pointer (some ⟨ga, 0, none⟩)] W fun e w' => e = .returned (.bool (F ks[i])) ∧ Below W.heap.size W w') :
    Calls Try.prog 24 #[vk, .func (.func 25) #[] #[.pointer (some ⟨ga, 0, none⟩)]] w fun e w' => e = .returned (.bool (ks.any F)) ∧ Below w.heap.size w w' := by
  have HI := Lib.hid (mindex_c F a ga ks vk w hK hl hga hF)
  generalize ks.any F = R at *
  clear hK hl hga hF
  go_enter Try.func24, Try.ntmps24
  go_wp2_with (go_at_call 44; (with_reducible refine HI.out.mono ?_); rintro e w1 ⟨r, rfl, hr, hb1⟩; have HB1 := Lib.hid hb1; clear hb1)
  go_ret
  exact ⟨by rw [← hr]; rfl, HB1.out⟩
set_option maxRecDepth 100000 in
set_option maxHeartbeats 32000000 in
theorem mentions_c (a : Int) : ∀ (n : Nat) (x : X) (vn vk : Value) (w : World), smX n x = true → XV w vn vk x →
    Calls Try.prog 11 #[.agg #[.int .i64 x.op, .int .i64 x.a, .int .i64 x.r, .int .i64 x.b, vn, .int .u64 x.st.a, .int .u64 x.st.b, .int .u64 x.st.c, .int .u64 x.st.d, vk], .int .i64 a] w fun e w' => e = .returned (.bool (mnX a n x)) ∧ Below w.heap.size w w' := by
  intro n
  induction n with
  | zero => intro x vn vk w h; exact absurd h (by unfold smX; simp)
  | succ n ih =>
    intro x vn vk w hs hV
    have HIH := Lib.hid ih
    have HSM : Hid (∀ i (hi : i < x.ks.length), smX n x.ks[i] = true) := Lib.hid fun i hi => sm_kid hs hi
    have HM : Hid (mnX a (n + 1) x = (hitX a x || x.ks.any (mnX a n))) := Lib.hid rfl
    generalize mnX a (n + 1) x = R at *
    have HNK := Lib.hid hV.wf.nk
    obtain ⟨ao, cap, ak, ck, rfl, rfl⟩ := hV.form
    have HX : Hid (XC ((w.alloc (.cells #[.int .i64 x.op, .int .i64 x.a, .int .i64 x.r, .int .i64 x.b, .slice ao x.ns.length cap, .int .u64 x.st.a, .int .u64 x.st.b, .int .u64 x.st.c, .int .u64 x.st.d, .slice ak x.ks.length ck] 28)).alloc (.cells #[.int .i64 a] 3)) w.heap.size 0 x.op x.a x.r x.b ao x.ns.length cap x.st ak x.ks.length ck) := Lib.hid (XC.of_blk ((Blk.new w _ _).alloc _))
    have HA : Hid (Blk ((w.alloc (.cells #[.int .i64 x.op, .int .i64 x.a, .int .i64 x.r, .int .i64 x.b, .slice ao x.ns.length cap, .int .u64 x.st.a, .int .u64 x.st.b, .int .u64 x.st.c, .int .u64 x.st.d, .slice ak x.ks.length ck] 28)).alloc (.cells #[.int .i64 a] 3)) (w.heap.size + 1) 3 #[.int .i64 a]) := Lib.hid (two_new' _ _ _ _)
    have HB : Hid (Below w.heap.size w ((w.alloc (.cells #[.int .i64 x.op, .int .i64 x.a, .int .i64 x.r, .int .i64 x.b, .slice ao x.ns.length cap, .int .u64 x.st.a, .int .u64 x.st.b, .int .u64 x.st.c, .int .u64 x.st.d, .slice ak x.ks.length ck] 28)).alloc (.cells #[.int .i64 a] 3))) := Lib.hid (((Below.refl _ _).alloc (Nat.le_refl _) _).alloc (by simp) _)
    have HG : Hid (w.heap.size < ((w.alloc (.cells #[.int .i64 x.op, .int .i64 x.a, .int .i64 x.r, .int .i64 x.b, .slice ao x.ns.length cap, .int .u64 x.st.a, .int .u64 x.st.b, .int .u64 x.st.c, .int .u64 x.st.d, .slice ak x.ks.length ck] 28)).alloc (.cells #[.int .i64 a] 3)).heap.size) := Lib.hid (by simp; omega)
    have HK := Lib.hid hV.ks
    clear ih hV hs
    by_cases h8 : x.op = 8
    · have p8 : (x.op == 8) = true := by simpa using h8
      have p9 : (x.op == 9) = false := by simp; omega
      by_cases ha : x.a = a
      · have pa : (x.a == a) = true := by simpa using ha
        have HR : Hid (R = true) := Lib.hid (by rw [HM.out]; simp [hitX, h8, ha])
        clear HM h8 ha
        go_enter Try.func11, Try.ntmps11
        go_upto_region 1 with fail
        generalize (w.alloc (.cells #[.int .i64 x.op, .int .i64 x.a, .int .i64 x.r, .int .i64 x.b, .slice ao x.ns.length cap, .int .u64 x.st.a, .int .u64 x.st.b, .int .u64 x.st.c, .int .u64 x.st.d, .slice ak x.ks.length ck] 28)).alloc (.cells #[.int .i64 a] 3) = W at *
        have HLE : Hid (w.heap.size ≤ W.heap.size) := Lib.hid HB.out.size
        generalize w.heap.size + 1 = ga at *
        obtain ⟨y0, y1, y2, y3, y4, y5, y6, y7, y8, y9⟩ := HX.out.cells
        have b0 := HA.out.cell 0
        generalize hgx : w.heap.size = gx at *
        go_wp2_with fail
        go_ret
        exact ⟨ret_bool HR.out.symm, by first | exact HB.out | (rw [hgx]; exact HB.out)⟩
      · have pa : (x.a == a) = false := by simpa using ha
        by_cases hb : x.b = a
        · have pb : (x.b == a) = true := by simpa using hb
          have HR : Hid (R = true) := Lib.hid (by rw [HM.out]; simp [hitX, h8, hb])
          clear HM h8 ha hb
          go_enter Try.func11, Try.ntmps11
          go_upto_region 1 with fail
          generalize (w.alloc (.cells #[.int .i64 x.op, .int .i64 x.a, .int .i64 x.r, .int .i64 x.b, .slice ao x.ns.length cap, .int .u64 x.st.a, .int .u64 x.st.b, .int .u64 x.st.c, .int .u64 x.st.d, .slice ak x.ks.length ck] 28)).alloc (.cells #[.int .i64 a] 3) = W at *
          have HLE : Hid (w.heap.size ≤ W.heap.size) := Lib.hid HB.out.size
          generalize w.heap.size + 1 = ga at *
          obtain ⟨y0, y1, y2, y3, y4, y5, y6, y7, y8, y9⟩ := HX.out.cells
          have b0 := HA.out.cell 0
          generalize hgx : w.heap.size = gx at *
          go_wp2_with fail
          go_ret
          exact ⟨ret_bool HR.out.symm, by first | exact HB.out | (rw [hgx]; exact HB.out)⟩
        · have pb : (x.b == a) = false := by simpa using hb
          have HR : Hid (R = x.ks.any (mnX a n)) := Lib.hid (by rw [HM.out]; simp [hitX, h8, ha, hb])
          clear HM h8 ha hb
          have HCF := Lib.hid (mcontains_c (mnX a n) a (w.heap.size + 1) x.ks _ _ (HK.out.keep (fun hg k => XAt.keep HB.out hg k) HB.out) HNK.out HA.out (fun i hi vn vk W hb hv => mclos_c a n HIH.out (w.heap.size + 1) _ vn vk W (HSM.out i hi) hv hb))
          rw [← HR.out] at HCF
          clear HIH HSM HK HNK
          go_enter Try.func11, Try.ntmps11
          go_upto_region 1 with fail
          generalize (w.alloc (.cells #[.int .i64 x.op, .int .i64 x.a, .int .i64 x.r, .int .i64 x.b, .slice ao x.ns.length cap, .int .u64 x.st.a, .int .u64 x.st.b, .int .u64 x.st.c, .int .u64 x.st.d, .slice ak x.ks.length ck] 28)).alloc (.cells #[.int .i64 a] 3) = W at *
          have HLE : Hid (w.heap.size ≤ W.heap.size) := Lib.hid HB.out.size
          generalize w.heap.size + 1 = ga at *
          obtain ⟨y0, y1, y2, y3, y4, y5, y6, y7, y8, y9⟩ := HX.out.cells
          have b0 := HA.out.cell 0
          generalize hgx : w.heap.size = gx at *
          go_wp2_with (go_at_call 24; (with_reducible refine HCF.out.mono ?_); rintro e w1 ⟨rfl, hb1⟩; have HB1 := Lib.hid (HB.out.trans (hb1.mono HLE.out)); clear hb1)
          go_ret
          exact ⟨rfl, by first | exact HB1.out | (rw [hgx]; exact HB1.out)⟩
    · have p8 : (x.op == 8) = false := by simpa using h8
      by_cases h9 : x.op = 9
      · have p9 : (x.op == 9) = true := by simpa using h9
        by_cases ha : x.a = a
        · have pa : (x.a == a) = true := by simpa using ha
          have HR : Hid (R = true) := Lib.hid (by rw [HM.out]; simp [hitX, h9, ha])
          clear HM h8 h9 ha
          go_enter Try.func11, Try.ntmps11
          go_upto_region 1 with fail
          generalize (w.alloc (.cells #[.int .i64 x.op, .int .i64 x.a, .int .i64 x.r, .int .i64 x.b, .slice ao x.ns.length cap, .int .u64 x.st.a, .int .u64 x.st.b, .int .u64 x.st.c, .int .u64 x.st.d, .slice ak x.ks.length ck] 28)).alloc (.cells #[.int .i64 a] 3) = W at *
          have HLE : Hid (w.heap.size ≤ W.heap.size) := Lib.hid HB.out.size
          generalize w.heap.size + 1 = ga at *
          obtain ⟨y0, y1, y2, y3, y4, y5, y6, y7, y8, y9⟩ := HX.out.cells
          have b0 := HA.out.cell 0
          generalize hgx : w.heap.size = gx at *
          go_wp2_with fail
          go_ret
          exact ⟨ret_bool HR.out.symm, by first | exact HB.out | (rw [hgx]; exact HB.out)⟩
        · have pa : (x.a == a) = false := by simpa using ha
          have HR : Hid (R = x.ks.any (mnX a n)) := Lib.hid (by rw [HM.out]; simp [hitX, h9, ha])
          clear HM h8 h9 ha
          have HCF := Lib.hid (mcontains_c (mnX a n) a (w.heap.size + 1) x.ks _ _ (HK.out.keep (fun hg k => XAt.keep HB.out hg k) HB.out) HNK.out HA.out (fun i hi vn vk W hb hv => mclos_c a n HIH.out (w.heap.size + 1) _ vn vk W (HSM.out i hi) hv hb))
          rw [← HR.out] at HCF
          clear HIH HSM HK HNK
          go_enter Try.func11, Try.ntmps11
          go_upto_region 1 with fail
          generalize (w.alloc (.cells #[.int .i64 x.op, .int .i64 x.a, .int .i64 x.r, .int .i64 x.b, .slice ao x.ns.length cap, .int .u64 x.st.a, .int .u64 x.st.b, .int .u64 x.st.c, .int .u64 x.st.d, .slice ak x.ks.length ck] 28)).alloc (.cells #[.int .i64 a] 3) = W at *
          have HLE : Hid (w.heap.size ≤ W.heap.size) := Lib.hid HB.out.size
          generalize w.heap.size + 1 = ga at *
          obtain ⟨y0, y1, y2, y3, y4, y5, y6, y7, y8, y9⟩ := HX.out.cells
          have b0 := HA.out.cell 0
          generalize hgx : w.heap.size = gx at *
          go_wp2_with (go_at_call 24; (with_reducible refine HCF.out.mono ?_); rintro e w1 ⟨rfl, hb1⟩; have HB1 := Lib.hid (HB.out.trans (hb1.mono HLE.out)); clear hb1)
          go_ret
          exact ⟨rfl, by first | exact HB1.out | (rw [hgx]; exact HB1.out)⟩
      · have p9 : (x.op == 9) = false := by simpa using h9
        have HR : Hid (R = x.ks.any (mnX a n)) := Lib.hid (by rw [HM.out]; simp [hitX, h8, h9])
        clear HM h8 h9
        have HCF := Lib.hid (mcontains_c (mnX a n) a (w.heap.size + 1) x.ks _ _ (HK.out.keep (fun hg k => XAt.keep HB.out hg k) HB.out) HNK.out HA.out (fun i hi vn vk W hb hv => mclos_c a n HIH.out (w.heap.size + 1) _ vn vk W (HSM.out i hi) hv hb))
        rw [← HR.out] at HCF
        clear HIH HSM HK HNK
        go_enter Try.func11, Try.ntmps11
        go_upto_region 1 with fail
        generalize (w.alloc (.cells #[.int .i64 x.op, .int .i64 x.a, .int .i64 x.r, .int .i64 x.b, .slice ao x.ns.length cap, .int .u64 x.st.a, .int .u64 x.st.b, .int .u64 x.st.c, .int .u64 x.st.d, .slice ak x.ks.length ck] 28)).alloc (.cells #[.int .i64 a] 3) = W at *
        have HLE : Hid (w.heap.size ≤ W.heap.size) := Lib.hid HB.out.size
        generalize w.heap.size + 1 = ga at *
        obtain ⟨y0, y1, y2, y3, y4, y5, y6, y7, y8, y9⟩ := HX.out.cells
        have b0 := HA.out.cell 0
        generalize hgx : w.heap.size = gx at *
        go_wp2_with (go_at_call 24; (with_reducible refine HCF.out.mono ?_); rintro e w1 ⟨rfl, hb1⟩; have HB1 := Lib.hid (HB.out.trans (hb1.mono HLE.out)); clear hb1)
        go_ret
        exact ⟨rfl, by first | exact HB1.out | (rw [hgx]; exact HB1.out)⟩
end Go.Proofs.Ytamcfmfkmekkfaa
/- Where a text stands in a list; the closures of aliasOrAttribute, slices.IndexFunc with them. -/
namespace Go.Proofs.Ytamcfmfkmekkfaa
open Go.RowKit Go
/-- the first place, -1 if there is none -/
def fdI {α : Type} (p : α → Bool) (L : List α) : Int := if L.findIdx p < L.length then (L.findIdx p : Int) else -1
theorem fdI_hit {α : Type} {p : α → Bool} {L : List α} {i : Nat} (hi : i < L.length) (h : p L[i] = true) (ha : ∀ k (h' : k < L.length), k < i → p L[k] = false) : fdI p L = i := by
  have e : L.findIdx p = i := by
    rcases Nat.lt_trichotomy (L.findIdx p) i with h1 | h1 | h1
    · have := ha _ (by omega) h1
      rw [List.findIdx_getElem (p := p) (xs := L) (w := by omega)] at this
      cases this
    · exact h1
    · have := List.not_of_lt_findIdx h1
      simp [h] at this
  unfold fdI
  rw [e, if_pos hi]
theorem fdI_none {α : Type} {p : α → Bool} {L : List α} (ha : ∀ k (h' : k < L.length), p L[k] = false) : fdI p L = -1 := by
  unfold fdI
  rw [if_neg]
  intro h
  have := ha _ h
  rw [List.findIdx_getElem (p := p) (xs := L) (w := h)] at this
  cases this
theorem fdI_in {α : Type} (p : α → Bool) (L : List α) : -1 ≤ fdI p L ∧ fdI p L < L.length := by
  unfold fdI
  by_cases h : L.findIdx p < L.length
  · rw [if_pos h]; omega
  · rw [if_neg h]; omega
def idxI (l : List ByteArray) (s : ByteArray) : Int := fdI (fun x => decide (x = s)) l
def hasT (l : List ByteArray) (s : ByteArray) : Bool := decide (0 ≤ idxI l s)
structure PTy where
  (n : ByteArray) (al : List ByteArray) (pm : Bool)
structure PAt where
  (n : ByteArray) (ts : S4)
def CTy (w : World) (g o : Nat) (x : PTy) : Prop := w.cell? ⟨g, o, none⟩ = some (.string x.n) ∧ (∃ va, w.cell? ⟨g, o + 1, none⟩ = some va ∧ Strs w va x.al) ∧ w.cell? ⟨g, o + 2, none⟩ = some (.bool x.pm) ∧ x.n.size ≤ 9223372036854775807 ∧ TxW x.al ∧ x.al.length ≤ maxLen
theorem CTy.keep {w w' : World} (hb : Below w.heap.size w w') {g o : Nat} {x : PTy} (hg : g < w.heap.size) (h : CTy w g o x) : CTy w' g o x := by
  obtain ⟨h0, ⟨va, a1, b1⟩, h2, hw⟩ := h
  exact ⟨(hb.cell (p := ⟨g, o, none⟩) hg).trans h0, ⟨va, (hb.cell (p := ⟨g, o + 1, none⟩) hg).trans a1, b1.keep hb⟩, (hb.cell (p := ⟨g, o + 2, none⟩) hg).trans h2, hw⟩
def CAt (w : World) (g o : Nat) (x : PAt) : Prop := w.cell? ⟨g, o, none⟩ = some (.string x.n) ∧ w.cell? ⟨g, o + 1, none⟩ = some (.int .u64 x.ts.a) ∧ w.cell? ⟨g, o + 2, none⟩ = some (.int .u64 x.ts.b) ∧ w.cell? ⟨g, o + 3, none⟩ = some (.int .u64 x.ts.c) ∧ w.cell? ⟨g, o + 4, none⟩ = some (.int .u64 x.ts.d) ∧ x.n.size ≤ 9223372036854775807 ∧ U64 x.ts.a ∧ U64 x.ts.b ∧ U64 x.ts.c ∧ U64 x.ts.d
theorem CAt.keep {w w' : World} (hb : Below w.heap.size w w') {g o : Nat} {x : PAt} (hg : g < w.heap.size) (h : CAt w g o x) : CAt w' g o x := by
  obtain ⟨h0, h1, h2, h3, h4, hw⟩ := h
  exact ⟨(hb.cell (p := ⟨g, o, none⟩) hg).trans h0, (hb.cell (p := ⟨g, o + 1, none⟩) hg).trans h1, (hb.cell (p := ⟨g, o + 2, none⟩) hg).trans h2, (hb.cell (p := ⟨g, o + 3, none⟩) hg).trans h3, (hb.cell (p := ⟨g, o + 4, none⟩) hg).trans h4, hw⟩
set_option maxRecDepth 100000 in
set_option maxHeartbeats 4000000 in
theorem index_c (v : Value) (l : List ByteArray) (s : ByteArray) (w : World) (hS : Strs w v l) (hn : l.length ≤ maxLen) :
    Calls Try.prog 73 #[v, .string s] w fun e w' => e = .returned (.int .i64 (idxI l s)) ∧ w = w' := by
  obtain ⟨ao, cap, rfl, hr⟩ := hS
  obtain ⟨R, hR⟩ : ∃ R, idxI l s = R := ⟨_, rfl⟩
  rw [hR]
  have HR := Lib.hid hR
  have hnI : (l.length : Int) ≤ 9223372036854775807 := by unfold maxLen at hn; omega
  clear hR hn
  go_enter Try.func73, Try.ntmps73
  go_wp2_with fail
  go_loop [8] (fun vi => ∃ i : Nat, i ≤ l.length ∧ vi = .int .i64 i ∧ Hid (∀ k (h' : k < l.length), k < i → l[k] ≠ s)) (fun vi => l.length - (intOf vi).toNat)
  case atStart => exact ⟨0, Nat.zero_le _, rfl, Lib.hid fun k _ h => absurd h (by omega)⟩
  case round =>
    obtain ⟨i, hi, rfl, HA⟩ := hrel
    by_cases hlt : i < l.length
    · have hlt' : (i : Int) < (l.length : Int) := by omega
      obtain ⟨g, o, rfl, q⟩ := hr (by rintro rfl; simp at hlt)
      have q := q i hlt
      obtain ⟨x, hx⟩ : ∃ x, l[i] = x := ⟨_, rfl⟩
      rw [hx] at q
      by_cases hs : x = s
      · subst hs
        obtain rfl : (i : Int) = R := by
          rw [← HR.out]
          exact (fdI_hit hlt (by rw [hx]; simp) fun k h1 h2 => by simpa using HA.out k h1 h2).symm
        clear hx HA
        have hb : (x.toList == x.toList) = true := by simp
        go_wp2_with fail
        go_ret
        exact ⟨rfl, rfl⟩
      · have hb : (s.toList == x.toList) = false := by rw [bytes_beq]; exact decide_eq_false fun e => hs e.symm
        have HA2 : Hid (∀ k (h' : k < l.length), k < i + 1 → l[k] ≠ s) := Lib.hid fun k h hk => by
          rcases Nat.lt_or_ge k i with h' | h'
          · exact HA.out k h h'
          · obtain rfl : k = i := by omega
            rw [hx]; exact hs
        clear hx HA hs
        go_wp2_with fail
        go_round
        case rel => exact ⟨i + 1, hlt, by go_num, HA2⟩
        case measure => simp [intOf]; omega
    · obtain rfl : i = l.length := by omega
      obtain rfl : -1 = R := by rw [← HR.out]; exact (fdI_none fun k h => by simpa using HA.out k h h).symm
      clear HA
      go_wp2_with fail
      go_ret
      exact ⟨rfl, rfl⟩
set_option maxRecDepth 100000 in
theorem contains_c (v : Value) (l : List ByteArray) (s : ByteArray) (w : World) (hS : Strs w v l) (hn : l.length ≤ maxLen) :
    Calls Try.prog 79 #[v, .string s] w fun e w' => e = .returned (.bool (hasT l s)) ∧ w = w' := by
  have HI := Lib.hid (index_c v l s w hS hn)
  unfold hasT
  generalize idxI l s = R at *
  clear hS hn
  go_enter Try.func79, Try.ntmps79
  go_wp2_with (go_at_call 73; (with_reducible refine HI.out.mono ?_); rintro e w1 ⟨rfl, rfl⟩)
  go_ret
  exact ⟨rfl, rfl⟩
set_option maxRecDepth 100000 in
set_option maxHeartbeats 4000000 in
theorem clos1_c (n : ByteArray) (va : Value) (al : List ByteArray) (pm : Bool) (s : ByteArray) (gs : Nat) (w : World) (hS : Strs w va al) (hn : al.length ≤ maxLen) (hs : Blk w gs 9 #[.string s]) :
    Calls Try.prog 78 #[.agg #[.string n, va, .bool pm], .pointer (some ⟨gs, 0, none⟩)] w fun e w' => e = .returned (.bool (hasT al s)) ∧ Below w.heap.size w w' := by
  have HB := Lib.hid ((Below.refl w.heap.size w).alloc (Nat.le_refl _) (.cells #[.string n, va, .bool pm] 82))
  have HS := Lib.hid (hs.alloc (.cells #[.string n, va, .bool pm] 82))
  have HN := Lib.hid (Blk.new w 82 #[.string n, va, .bool pm])
  have HC := Lib.hid (contains_c va al s _ (hS.keep HB.out) hn)
  clear hS hn hs
  go_enter Try.func78, Try.ntmps78
  go_upto_region 1 with fail
  generalize w.alloc (.cells #[.string n, va, .bool pm] 82) = W at *
  have n1 := HN.out.cell 1
  have s0 := HS.out.cell 0
  generalize hgx : w.heap.size = gx at *
  go_wp2_with (go_at_call 79; (with_reducible refine HC.out.mono ?_); rintro e w1 ⟨rfl, rfl⟩)
  go_ret
  exact ⟨rfl, by first | exact HB.out | (rw [hgx]; exact HB.out)⟩
set_option maxRecDepth 100000 in
set_option maxHeartbeats 4000000 in
theorem clos2_c (x : PAt) (s : ByteArray) (gs : Nat) (w : World) (hs : Blk w gs 9 #[.string s]) :
    Calls Try.prog 81 #[.agg #[.string x.n, .int .u64 x.ts.a, .int .u64 x.ts.b, .int .u64 x.ts.c, .int .u64 x.ts.d], .pointer (some ⟨gs, 0, none⟩)] w fun e w' => e = .returned (.bool (decide (x.n = s))) ∧ Below w.heap.size w w' := by
  have HB := Lib.hid ((Below.refl w.heap.size w).alloc (Nat.le_refl _) (.cells #[.string x.n, .int .u64 x.ts.a, .int .u64 x.ts.b, .int .u64 x.ts.c, .int .u64 x.ts.d] 85))
  have HS := Lib.hid (hs.alloc (.cells #[.string x.n, .int .u64 x.ts.a, .int .u64 x.ts.b, .int .u64 x.ts.c, .int .u64 x.ts.d] 85))
  have HN := Lib.hid (Blk.new w 85 #[.string x.n, .int .u64 x.ts.a, .int .u64 x.ts.b, .int .u64 x.ts.c, .int .u64 x.ts.d])
  have hbb : (x.n.toList == s.toList) = decide (x.n = s) := bytes_beq _ _
  clear hs
  go_enter Try.func81, Try.ntmps81
  go_upto_region 1 with fail
  generalize w.alloc (.cells #[.string x.n, .int .u64 x.ts.a, .int .u64 x.ts.b, .int .u64 x.ts.c, .int .u64 x.ts.d] 85) = W at *
  have n0 := HN.out.cell 0
  have s0 := HS.out.cell 0
  generalize hgx : w.heap.size = gx at *
  go_wp2_with fail
  go_ret
  exact ⟨rfl, by first | exact HB.out | (rw [hgx]; exact HB.out)⟩
set_option maxRecDepth 100000 in
set_option maxHeartbeats 8000000 in
theorem index1_c (L : List PTy) (s : ByteArray) (gs : Nat) (v : Value) (w : World) (hL : SlR 3 CTy w v L) (hl : L.length ≤ maxLen) (hs : Blk w gs 9 #[.string s]) :
    Calls Try.prog 77 #[v, .func (.func 78) #[] #[.pointer (some ⟨gs, 0, none⟩)]] w fun e w' => e = .returned (.int .i64 (fdI (fun t : PTy => hasT t.al s) L)) ∧ Below w.heap.size w w' := by
  obtain ⟨ak, ck, rfl, -, -⟩ := id hL
  have HL := Lib.hid hL
  have HS := Lib.hid hs
  obtain ⟨R, hR⟩ : ∃ R, fdI (fun t : PTy => hasT t.al s) L = R := ⟨_, rfl⟩
  rw [hR]
  have HR := Lib.hid hR
  have hkI : (L.length : Int) ≤ 9223372036854775807 := by unfold maxLen at hl; omega
  clear hL hs hl hR
  go_enter Try.func77, Try.ntmps77
  go_wp2_with fail
  go_loopw [8] (fun v8 wr => ∃ i : Nat, i ≤ L.length ∧ v8 = .int .i64 i ∧ Hid (∀ j (hj : j < L.length), j < i → (fun t : PTy => hasT t.al s) L[j] = false) ∧ Hid (Below w.heap.size w wr)) (fun v8 _ => L.length - (intOf v8).toNat)
  case atStart => exact ⟨0, Nat.zero_le _, rfl, Lib.hid (fun j _ h => absurd h (by omega)), Lib.hid (Below.refl _ _)⟩
  case round =>
    obtain ⟨i, hi, rfl, HJ, HB⟩ := hrel
    by_cases hlt : i < L.length
    · have hlt' : (i : Int) < (L.length : Int) := by omega
      obtain ⟨y, hy⟩ : ∃ y, L[i] = y := ⟨_, rfl⟩
      obtain ⟨g', o', hak, hg', hR⟩ := HL.out.row hlt
      subst hak
      have hA := hR i hlt
      rw [hy] at hA
      obtain ⟨h0, ⟨va, h1, hS1⟩, h2, -, -, hln⟩ := hA.keep HB.out hg'
      have HY := Lib.hid hy
      have HCL : Hid (Calls Try.prog 78 #[.agg #[.string y.n, va, .bool y.pm], .pointer (some ⟨gs, 0, none⟩)] wr fun e w' => e = .returned (.bool ((fun t : PTy => hasT t.al s) y)) ∧ Below wr.heap.size wr w') := Lib.hid (by exact clos1_c y.n va y.al y.pm s gs wr hS1 hln (HS.out.keep HB.out))
      clear hA hR hg' hy hS1 hln
      obtain ⟨bb, hb⟩ : ∃ bb, (fun t : PTy => hasT t.al s) y = bb := ⟨_, rfl⟩
      have HBB := Lib.hid hb
      rw [hb] at HCL
      clear hb
      cases bb with
      | true =>
        obtain rfl : (i : Int) = R := by
          rw [← HR.out]
          exact (fdI_hit hlt (by rw [HY.out]; exact HBB.out) HJ.out).symm
        go_wp2_with (go_at_call 78; (with_reducible refine HCL.out.mono ?_); rintro e w1 ⟨rfl, hb1⟩; have HB2 := Lib.hid (HB.out.trans (hb1.mono HB.out.size)); clear hb1)
        go_ret
        exact ⟨rfl, HB2.out⟩
      | false =>
        go_wp2_with (go_at_call 78; (with_reducible refine HCL.out.mono ?_); rintro e w1 ⟨rfl, hb1⟩; have HB2 := Lib.hid (HB.out.trans (hb1.mono HB.out.size)); clear hb1)
        go_roundw
        case rel =>
          refine ⟨i + 1, hlt, by go_num, Lib.hid (fun j hj hji => ?_), HB2⟩
          by_cases e : j < i
          · exact HJ.out j hj e
          · obtain rfl : j = i := by omega
            rw [HY.out]; exact HBB.out
        case measure => simp [intOf]; omega
    · have hlt' : ¬ (i : Int) < (L.length : Int) := by omega
      obtain rfl : -1 = R := by rw [← HR.out]; exact (fdI_none fun k h => HJ.out k h (by omega)).symm
      go_wp2_with fail
      go_ret
      exact ⟨rfl, HB.out⟩
set_option maxRecDepth 100000 in
set_option maxHeartbeats 8000000 in
theorem index2_c (L : List PAt) (s : ByteArray) (gs : Nat) (v : Value) (w : World) (hL : SlR 5 CAt w v L) (hl : L.length ≤ maxLen) (hs : Blk w gs 9 #[.string s]) :
    Calls Try.prog 80 #[v, .func (.func 81) #[] #[.pointer (some ⟨gs, 0, none⟩)]] w fun e w' => e = .returned (.int .i64 (fdI (fun a : PAt => decide (a.n = s)) L)) ∧ Below w.heap.size w w' := by
  obtain ⟨ak, ck, rfl, -, -⟩ := id hL
  have HL := Lib.hid hL
  have HS := Lib.hid hs
  obtain ⟨R, hR⟩ : ∃ R, fdI (fun a : PAt => decide (a.n = s)) L = R := ⟨_, rfl⟩
  rw [hR]
  have HR := Lib.hid hR
  have hkI : (L.length : Int) ≤ 9223372036854775807 := by unfold maxLen at hl; omega
  clear hL hs hl hR
  go_enter Try.func80, Try.ntmps80
  go_wp2_with fail
  go_loopw [8] (fun v8 wr => ∃ i : Nat, i ≤ L.length ∧ v8 = .int .i64 i ∧ Hid (∀ j (hj : j < L.length), j < i → (fun a : PAt => decide (a.n = s)) L[j] = false) ∧ Hid (Below w.heap.size w wr)) (fun v8 _ => L.length - (intOf v8).toNat)
  case atStart => exact ⟨0, Nat.zero_le _, rfl, Lib.hid (fun j _ h => absurd h (by omega)), Lib.hid (Below.refl _ _)⟩
  case round =>
    obtain ⟨i, hi, rfl, HJ, HB⟩ := hrel
    by_cases hlt : i < L.length
    · have hlt' : (i : Int) < (L.length : Int) := by omega
      obtain ⟨y, hy⟩ : ∃ y, L[i] = y := ⟨_, rfl⟩
      obtain ⟨g', o', hak, hg', hR⟩ := HL.out.row hlt
      subst hak
      have hA := hR i hlt
      rw [hy] at hA
      obtain ⟨h0, h1, h2, h3, h4, -⟩ := hA.keep HB.out hg'
      have HY := Lib.hid hy
      have HCL : Hid (Calls Try.prog 81 #[.agg #[.string y.n, .int .u64 y.ts.a, .int .u64 y.ts.b, .int .u64 y.ts.c, .int .u64 y.ts.d], .pointer (some ⟨gs, 0, none⟩)] wr fun e w' => e = .returned (.bool ((fun a : PAt => decide (a.n = s)) y)) ∧ Below wr.heap.size wr w') := Lib.hid (by exact clos2_c y s gs wr (HS.out.keep HB.out))
      clear hA hR hg' hy 
      obtain ⟨bb, hb⟩ : ∃ bb, (fun a : PAt => decide (a.n = s)) y = bb := ⟨_, rfl⟩
      have HBB := Lib.hid hb
      rw [hb] at HCL
      clear hb
      cases bb with
      | true =>
        obtain rfl : (i : Int) = R := by
          rw [← HR.out]
          exact (fdI_hit hlt (by rw [HY.out]; exact HBB.out) HJ.out).symm
        go_wp2_with (go_at_call 81; (with_reducible refine HCL.out.mono ?_); rintro e w1 ⟨rfl, hb1⟩; have HB2 := Lib.hid (HB.out.trans (hb1.mono HB.out.size)); clear hb1)
        go_ret
        exact ⟨rfl, HB2.out⟩
      | false =>
        go_wp2_with (go_at_call 81; (with_reducible refine HCL.out.mono ?_); rintro e w1 ⟨rfl, hb1⟩; have HB2 := Lib.hid (HB.out.trans (hb1.mono HB.out.size)); clear hb1)
        go_roundw
        case rel =>
          refine ⟨i + 1, hlt, by go_num, Lib.hid (fun j hj hji => ?_), HB2⟩
          by_cases e : j < i
          · exact HJ.out j hj e
          · obtain rfl : j = i := by omega
            rw [HY.out]; exact HBB.out
        case measure => simp [intOf]; omega
    · have hlt' : ¬ (i : Int) < (L.length : Int) := by omega
      obtain rfl : -1 = R := by rw [← HR.out]; exact (fdI_none fun k h => HJ.out k h (by omega)).symm
      go_wp2_with fail
      go_ret
      exact ⟨rfl, HB.out⟩
end Go.Proofs.Ytamcfmfkmekkfaa
/- constraint.aliasOrAttribute. -/
namespace Go.Proofs.Ytamcfmfkmekkfaa
open Go.RowKit Go
set_option maxHeartbeats 1000000 in
theorem of_c (A : Option Addr) (l : List Int) (cap : Nat) (w : World) (hl : Ints w A l) (hm : l.length ≤ maxLen) :
    Calls Try.prog 74 #[.slice A l.length cap] w fun e w' => e = .returned (.agg #[.int .u64 (ofI l 0), .int .u64 (ofI l 1), .int .u64 (ofI l 2), .int .u64 (ofI l 3)]) ∧ Below w.heap.size w w' := by
  unfold maxLen at hm
  go_enter Try.func74, Try.ntmps74
  go_wp2
  go_loopw [8] (fun i wr => ∃ k : Nat, k ≤ l.length ∧ i = .int .i64 k ∧ Quad wr w.heap.size 0 0 0 0 ∧
      Quad wr (w.heap.size + 1) (ofI (l.take k) 0) (ofI (l.take k) 1) (ofI (l.take k) 2) (ofI (l.take k) 3) ∧ Below w.heap.size w wr)
    (fun i _ => l.length - (intOf i).toNat)
  case atStart => exact ⟨0, Nat.zero_le _, rfl, (Quad.new _ _ _ _ _).alloc _, quad_second w, ((Below.refl _ _).alloc (Nat.le_refl _) _).alloc (by simp) _⟩
  case round =>
    obtain ⟨k, hk, rfl, hz, hs, hb⟩ := hrel
    obtain ⟨c0, c1, c2, c3, _⟩ := hs.facts
    have hsz := hs.lt
    by_cases hlt : k < l.length
    · obtain ⟨b, off, hA, hc, hbl⟩ := hl k hlt
      subst hA
      have hcr := (hb.cell (p := ⟨b, off + k, none⟩) hbl).trans hc
      have E : ∀ q, Hid (ofI (l.take (k + 1)) q = withI l[k] q (ofI (l.take k) q)) := fun q => ofI_take l k hlt q
      clear hc
      go_wp2_with (go_at_call 71; refine (with_c _ _ _ _ _ _).mono ?_; rintro e w' ⟨rfl, hb'⟩; obtain ⟨d0, d1, d2, d3, f0, f1, f2, f3⟩ := (hs.below hb' hsz).facts)
      go_roundw
      case rel =>
        refine ⟨k + 1, by omega, by go_num, (hz.below hb' hz.lt).far4 (by omega), ?_, below_set4 (hb.trans (hb'.mono hb.size)) (by omega) _ _ _ _⟩
        rw [(E 0).out, (E 1).out, (E 2).out, (E 3).out]
        exact (hs.below hb' hsz).set4 _ _ _ _
      case measure => simp [intOf]; omega
    · obtain ⟨d0, d1, d2, d3, f0, f1, f2, f3⟩ := hz.facts
      obtain rfl : k = l.length := by omega
      rw [List.take_length] at c0 c1 c2 c3
      go_wp2
      exact bodyPost_ret (v := (.agg #[.int .u64 (ofI l 0), .int .u64 (ofI l 1), .int .u64 (ofI l 2), .int .u64 (ofI l 3)])) (set_ret Try.results74 rfl (hz.set4 _ _ _ _)) rfl ⟨rfl, below_set4 hb (Nat.le_refl _) _ _ _ _⟩
theorem setbool_ret {fn : Func} {tmps : Array Value} {t s : Tmp} {w : World} {g : Nat} {S : S4} {b : Bool} (h : fn.results = #[.cell t 25, .tmp s]) (ht : tmps.getD t undef = .pointer (some ⟨g, 0, none⟩)) (hs : tmps.getD s undef = .bool b) (q : Blk w g 25 #[.int .u64 S.a, .int .u64 S.b, .int .u64 S.c, .int .u64 S.d]) :
    (results fn tmps).run Try.prog w = .ok (.tuple #[.agg #[.int .u64 S.a, .int .u64 S.b, .int .u64 S.c, .int .u64 S.d], .bool b]) w := by
  have c0 := q.cell 0
  have c1 := q.cell 1
  have c2 := q.cell 2
  have c3 := q.cell 3
  have ht' : tmps[t]?.getD undef = .pointer (some ⟨g, 0, none⟩) := by simpa using ht
  have hs' : tmps[s]?.getD undef = .bool b := by simpa using hs
  simp [results, h, ht', hs', go_sem, c0, c1, c2, c3]
theorem one_ofP (n : Int) (w : World) : Calls Try.prog 74 #[.slice (some ⟨w.heap.size, 0, none⟩) 1 1] (w.alloc (.cells #[.int .i64 n] 3)) fun e w' => e = .returned (.agg #[.int .u64 (ofS [n]).a, .int .u64 (ofS [n]).b, .int .u64 (ofS [n]).c, .int .u64 (ofS [n]).d]) ∧ Below w.heap.size w w' := by
  refine (of_c (some ⟨w.heap.size, 0, none⟩) [n] 1 (w.alloc (.cells #[.int .i64 n] 3)) (fun i hi => ?_) (by unfold maxLen; simp)).mono fun e w' ⟨he, hb⟩ => ⟨he, ((Below.refl _ _).alloc (Nat.le_refl _) _).trans (hb.mono (by simp))⟩
  obtain rfl : i = 0 := by simpa using hi
  exact ⟨w.heap.size, 0, rfl, (Blk.new w 3 #[.int .i64 n]).cell 0, (Blk.new w 3 #[.int .i64 n]).lt⟩
def aoI (tys : List PTy) (s : ByteArray) : Int := fdI (fun t : PTy => hasT t.al s) tys
def aoJ (ats : List PAt) (s : ByteArray) : Int := fdI (fun a : PAt => decide (a.n = s)) ats
def aoB (tys : List PTy) (ats : List PAt) (s : ByteArray) : Bool := decide (0 ≤ aoI tys s) || decide (0 ≤ aoJ ats s)
def aoS (tys : List PTy) (ats : List PAt) (s : ByteArray) : S4 := if 0 ≤ aoI tys s then ofS [aoI tys s] else if 0 ≤ aoJ ats s then (ats.getD (aoJ ats s).toNat ⟨s, S4.zero⟩).ts else S4.zero
set_option maxRecDepth 100000 in
set_option maxHeartbeats 16000000 in
theorem aliasOr_c (b0 b1 b2 b3 b4 b5 b6 b7 b8 b9 b10 b11 b12 b13 b14 b15 b16 : Value) (gp : Nat) (tys : List PTy) (ats : List PAt) (s : ByteArray) (w : World) (hP : Blk w gp 60 #[b0, b1, b2, b3, b4, b5, b6, b7, b8, b9, b10, b11, b12, b13, b14, b15, b16]) (hT : SlR 3 CTy w b1 tys) (hA : SlR 5 CAt w b2 ats) (hl1 : tys.length ≤ maxLen) (hl2 : ats.length ≤ maxLen) :
    Calls Try.prog 75 #[.string s, .pointer (some ⟨gp, 0, none⟩)] w fun e w' => e = .returned (.tuple #[.agg #[.int .u64 (aoS tys ats s).a, .int .u64 (aoS tys ats s).b, .int .u64 (aoS tys ats s).c, .int .u64 (aoS tys ats s).d], .bool (aoB tys ats s)]) ∧ Below w.heap.size w w' := by
  have HB : Hid (Below w.heap.size w ((w.alloc (.cells #[.string s] 9)).alloc (.cells #[.int .u64 0, .int .u64 0, .int .u64 0, .int .u64 0] 25))) := Lib.hid (((Below.refl _ _).alloc (Nat.le_refl _) _).alloc (by simp) _)
  have HN : Hid (Blk ((w.alloc (.cells #[.string s] 9)).alloc (.cells #[.int .u64 0, .int .u64 0, .int .u64 0, .int .u64 0] 25)) w.heap.size 9 #[.string s]) := Lib.hid ((Blk.new w _ _).alloc _)
  have HR : Hid (Blk ((w.alloc (.cells #[.string s] 9)).alloc (.cells #[.int .u64 0, .int .u64 0, .int .u64 0, .int .u64 0] 25)) (w.heap.size + 1) 25 #[.int .u64 0, .int .u64 0, .int .u64 0, .int .u64 0]) := Lib.hid (two_new' _ _ _ _)
  have HP := Lib.hid (hP.keep HB.out)
  have hTW := hT.keep (fun hg k => CTy.keep HB.out hg k) HB.out
  have hAW := hA.keep (fun hg k => CAt.keep HB.out hg k) HB.out
  have HT := Lib.hid hTW
  have HA := Lib.hid hAW
  have HI := Lib.hid (index1_c tys s w.heap.size b1 _ hTW hl1 HN.out)
  have HJ := Lib.hid (fun w1 (h : Kp ((w.alloc (.cells #[.string s] 9)).alloc (.cells #[.int .u64 0, .int .u64 0, .int .u64 0, .int .u64 0] 25)) w1) => index2_c ats s w.heap.size b2 w1 (HA.out.keep (fun hg k => CAt.keep h hg k) h) hl2 (HN.out.keep h))
  have HIE : Hid (fdI (fun t : PTy => hasT t.al s) tys = aoI tys s) := Lib.hid rfl
  have HJE : Hid (fdI (fun a : PAt => decide (a.n = s)) ats = aoJ ats s) := Lib.hid rfl
  rw [HIE.out] at HI
  simp only [HJE.out] at HJ
  have hin : -1 ≤ aoI tys s ∧ aoI tys s < tys.length := fdI_in _ _
  have hjn : -1 ≤ aoJ ats s ∧ aoJ ats s < ats.length := fdI_in _ _
  unfold aoS aoB
  clear hP hT hA hTW hAW HIE HJE
  generalize aoI tys s = ii at *
  generalize aoJ ats s = jj at *
  by_cases hi : 0 ≤ ii
  · rw [if_pos hi, decide_eq_true hi, Bool.true_or]
    have HOF : Hid (∀ u : World, Calls Try.prog 74 #[.slice (some ⟨u.heap.size, 0, none⟩) 1 1] (u.alloc (.cells #[.int .i64 ii] 3)) fun e w' => e = .returned (.agg #[.int .u64 (ofS [ii]).a, .int .u64 (ofS [ii]).b, .int .u64 (ofS [ii]).c, .int .u64 (ofS [ii]).d]) ∧ Below u.heap.size u w') := Lib.hid (one_ofP ii)
    generalize ofS [ii] = SO at *
    go_enter Try.func75, Try.ntmps75
    go_upto_region 1 with fail
    generalize (w.alloc (.cells #[.string s] 9)).alloc (.cells #[.int .u64 0, .int .u64 0, .int .u64 0, .int .u64 0] 25) = W at *
    have HLE : Hid (w.heap.size ≤ W.heap.size) := Lib.hid HB.out.size
    have HS : Hid (w.heap.size ≤ w.heap.size + 1) := Lib.hid (Nat.le_succ _)
    generalize w.heap.size + 1 = gr at *
    generalize hgs : w.heap.size = gs at *
    have hp := HP.out.cell
    have p1 := hp 1
    have p2 := hp 2
    clear hp
    go_wp2_with (first
      | (go_at_call 77; (with_reducible refine HI.out.mono ?_); rintro e w1 ⟨rfl, hb1⟩; have HK1 : Hid (Kp W w1) := Lib.hid hb1; have HB1 := Lib.hid (HB.out.trans (hb1.mono HLE.out)); have HL1 := Lib.hid (Nat.le_trans HLE.out hb1.size); have HR1 := Lib.hid (HR.out.keep hb1); have q := (HP.out.keep hb1).cell; have q1 := q 1; have q2 := q 2; clear hb1 q)
      | (go_at_call 74; (with_reducible refine (HOF.out _).mono ?_); rintro e w2 ⟨rfl, hb2⟩; have HB2 := Lib.hid (HB1.out.trans (hb2.mono HL1.out)); have HR2 := Lib.hid (HR1.out.keep hb2); have c := HR2.out.cell; have c0 := c 0; have c1 := c 1; have c2 := c 2; have c3 := c 3; have z := HR2.out.frozen; clear hb2 c))
    exact bodyPost_ret (v := .tuple #[.agg #[.int .u64 (SO).a, .int .u64 (SO).b, .int .u64 (SO).c, .int .u64 (SO).d], .bool true]) (setbool_ret Try.results75 rfl rfl ((((HR2.out.set 0 _).set 1 _).set 2 _).set 3 _)) rfl ⟨rfl, by first | exact below_set4 HB2.out HS.out _ _ _ _ | (rw [hgs]; exact below_set4 HB2.out HS.out _ _ _ _)⟩
  · rw [if_neg hi, decide_eq_false hi, Bool.false_or]
    by_cases hj : 0 ≤ jj
    · rw [if_pos hj, decide_eq_true hj]
      have hj2 : ¬ jj < 0 := by omega
      obtain ⟨nj, rfl⟩ : ∃ nj : Nat, jj = nj := ⟨jj.toNat, by omega⟩
      have hjl : nj < ats.length := by omega
      have hjI : (nj : Int) < (ats.length : Int) := by omega
      rw [Int.toNat_natCast, List.getD_eq_getElem?_getD, List.getElem?_eq_getElem hjl, Option.getD_some]
      obtain ⟨y, hy⟩ : ∃ y, ats[nj] = y := ⟨_, rfl⟩
      rw [hy]
      obtain ⟨ak, ck, rfl, -, -⟩ := id HA.out
      obtain ⟨g', o', rfl, hg', hRow⟩ := HA.out.row hjl
      have hAt := hRow nj hjl
      rw [hy] at hAt
      have HAT := Lib.hid hAt
      have HGA := Lib.hid hg'
      clear hRow hAt hg' hy hj hjn
      go_enter Try.func75, Try.ntmps75
      go_upto_region 1 with fail
      generalize (w.alloc (.cells #[.string s] 9)).alloc (.cells #[.int .u64 0, .int .u64 0, .int .u64 0, .int .u64 0] 25) = W at *
      have HLE : Hid (w.heap.size ≤ W.heap.size) := Lib.hid HB.out.size
      have HS : Hid (w.heap.size ≤ w.heap.size + 1) := Lib.hid (Nat.le_succ _)
      generalize w.heap.size + 1 = gr at *
      generalize hgs : w.heap.size = gs at *
      have hp := HP.out.cell
      have p1 := hp 1
      have p2 := hp 2
      clear hp
      go_wp2_with (first
        | (go_at_call 77; (with_reducible refine HI.out.mono ?_); rintro e w1 ⟨rfl, hb1⟩; have HK1 : Hid (Kp W w1) := Lib.hid hb1; have HB1 := Lib.hid (HB.out.trans (hb1.mono HLE.out)); have HL1 := Lib.hid (Nat.le_trans HLE.out hb1.size); have HR1 := Lib.hid (HR.out.keep hb1); have q := (HP.out.keep hb1).cell; have q1 := q 1; have q2 := q 2; clear hb1 q)
        | (go_at_call 80; (with_reducible refine (HJ.out _ HK1.out).mono ?_); rintro e w2 ⟨rfl, hb2⟩; have HK2 : Hid (Kp W w2) := Lib.hid (Kp.step HK1.out hb2); have HB2 := Lib.hid (HB1.out.trans (hb2.mono HL1.out)); have HR2 := Lib.hid (HR1.out.keep hb2); have r := (HP.out.keep HK2.out).cell; have r1 := r 1; have r2 := r 2; have c := HR2.out.cell; have c0 := c 0; have c1 := c 1; have c2 := c 2; have c3 := c 3; have z := HR2.out.frozen; obtain ⟨h0, h1, h2, h3, h4, -⟩ := HAT.out.keep HK2.out HGA.out; clear hb2 r c))
      exact bodyPost_ret (v := .tuple #[.agg #[.int .u64 (y.ts).a, .int .u64 (y.ts).b, .int .u64 (y.ts).c, .int .u64 (y.ts).d], .bool true]) (setbool_ret Try.results75 rfl rfl ((((HR2.out.set 0 _).set 1 _).set 2 _).set 3 _)) rfl ⟨rfl, by first | exact below_set4 HB2.out HS.out _ _ _ _ | (rw [hgs]; exact below_set4 HB2.out HS.out _ _ _ _)⟩
    · rw [if_neg hj, decide_eq_false hj]
      have hj2 : jj < 0 := by omega
      clear hj hjn
      go_enter Try.func75, Try.ntmps75
      go_upto_region 1 with fail
      generalize (w.alloc (.cells #[.string s] 9)).alloc (.cells #[.int .u64 0, .int .u64 0, .int .u64 0, .int .u64 0] 25) = W at *
      have HLE : Hid (w.heap.size ≤ W.heap.size) := Lib.hid HB.out.size
      have HS : Hid (w.heap.size ≤ w.heap.size + 1) := Lib.hid (Nat.le_succ _)
      generalize w.heap.size + 1 = gr at *
      generalize hgs : w.heap.size = gs at *
      have hp := HP.out.cell
      have p1 := hp 1
      have p2 := hp 2
      clear hp
      go_wp2_with (first
        | (go_at_call 77; (with_reducible refine HI.out.mono ?_); rintro e w1 ⟨rfl, hb1⟩; have HK1 : Hid (Kp W w1) := Lib.hid hb1; have HB1 := Lib.hid (HB.out.trans (hb1.mono HLE.out)); have HL1 := Lib.hid (Nat.le_trans HLE.out hb1.size); have HR1 := Lib.hid (HR.out.keep hb1); have q := (HP.out.keep hb1).cell; have q1 := q 1; have q2 := q 2; clear hb1 q)
        | (go_at_call 80; (with_reducible refine (HJ.out _ HK1.out).mono ?_); rintro e w2 ⟨rfl, hb2⟩; have HK2 : Hid (Kp W w2) := Lib.hid (Kp.step HK1.out hb2); have HB2 := Lib.hid (HB1.out.trans (hb2.mono HL1.out)); have HR2 := Lib.hid (HR1.out.keep hb2); have r := (HP.out.keep HK2.out).cell; have r1 := r 1; have r2 := r 2; have c := HR2.out.cell; have c0 := c 0; have c1 := c 1; have c2 := c 2; have c3 := c 3; have z := HR2.out.frozen; clear hb2 r c))
      exact bodyPost_ret (v := .tuple #[.agg #[.int .u64 (S4.zero).a, .int .u64 (S4.zero).b, .int .u64 (S4.zero).c, .int .u64 (S4.zero).d], .bool false]) (setbool_ret Try.results75 rfl rfl ((((HR2.out.set 0 _).set 1 _).set 2 _).set 3 _)) rfl ⟨rfl, by first | exact below_set4 HB2.out HS.out _ _ _ _ | (rw [hgs]; exact below_set4 HB2.out HS.out _ _ _ _)⟩
end Go.Proofs.Ytamcfmfkmekkfaa
/- constraint.namesOf. -/
namespace Go.Proofs.Ytamcfmfkmekkfaa
open Go.RowKit Go
/-- a row of texts that a call owns -/
def OwnS (w : World) (base : Nat) (v : Value) (l : List ByteArray) : Prop := w.ownsRow base 9 1 v l.length (l.map Value.string)
section
variable {w w' : World} {base : Nat} {v : Value} {l : List ByteArray}
theorem OwnS.nil : OwnS w base (.slice none 0 0) [] := World.ownsRow_nil _ _ _ _
theorem OwnS.mono {base' : Nat} (h : OwnS w base v l) (hb : base' ≤ base) : OwnS w base' v l := ⟨h.1, h.2.imp id (fun ⟨g, r1, r2, r3, r4, r5⟩ => ⟨g, r1, r2, r3, Nat.le_trans hb r4, r5⟩)⟩
theorem OwnS.keep (h : OwnS w base v l) (hb : Below w.heap.size w w') : OwnS w' base v l := by
  refine ⟨h.1, ?_⟩
  rcases h.2 with h2 | ⟨g, cap, cur, hv, hg, hh, r⟩
  · exact .inl h2
  · have hlt : g < w.heap.size := by
      rcases Nat.lt_or_ge g w.heap.size with hlt | hge
      · exact hlt
      · rw [Array.getElem?_eq_none hge] at hh; cases hh
    exact .inr ⟨g, cap, cur, hv, hg, (hb.block g hlt).trans hh, r⟩
theorem OwnS.alloc (h : OwnS w base v l) (o : Obj) : OwnS (w.alloc o) base v l := World.ownsRow.alloc h o
theorem OwnS.lt (h : OwnS w base v l) : ∀ k, v.ownBlock = some k → base ≤ k ∧ k < w.heap.size := World.ownsRow.lt h
theorem OwnS.strs (h : OwnS w base v l) : ∃ ao cap, v = .slice ao l.length cap ∧ l.length ≤ cap ∧ Strs w v l := by
  rcases h.2 with ⟨hv, hn⟩ | ⟨g, cap, cur, hv, hg, hh, hnc, hcm, hsz, htake⟩
  · obtain rfl := List.eq_nil_of_length_eq_zero hn
    exact ⟨none, 0, hv, Nat.le_refl _, by rw [hv]; exact Strs.nil⟩
  · refine ⟨some ⟨g, 0, none⟩, cap, hv, hnc, some ⟨g, 0, none⟩, cap, hv, fun _ => ⟨g, 0, rfl, fun k hk => ?_⟩⟩
    have hx : (l.map Value.string)[k]? = some (.string l[k]) := by simp [hk]
    rw [Nat.zero_add, cell_of_row w g k cur _ _ hh]
    rw [← htake, List.getElem?_take_of_lt (by omega)] at hx
    simpa using hx
theorem OwnS.isSl (h : OwnS w base v l) : ∃ ao cap, v = .slice ao l.length cap := by
  obtain ⟨ao, cap, e, _⟩ := h.strs
  exact ⟨ao, cap, e⟩
theorem one_newS {t : TypeId} {x : ByteArray} {g : Nat} (hg : g = w.heap.size) : ∀ j u, [Value.string x][j]? = some u → (w.alloc (.cells #[.string x] t)).cell? ((⟨g, 0, none⟩ : Addr).add j) = some u := fun j u h => by
  subst hg; exact cell_one_new _ _ _ j u h
end
theorem infoStr : (Try.prog.info? 9).map (fun i => (i.zero, i.size, i.bytes)) = some (some (.string ⟨#[]⟩), 1, 16) := by kernel_rfl
/-- a slice of elements of sz cells whose first cells are these names -/
def NmR (sz : Nat) (w : World) (v : Value) (L : List ByteArray) : Prop := SlR sz (fun w g o s => w.cell? ⟨g, o, none⟩ = some (.string s)) w v L
theorem NmR.keep {sz : Nat} {w w' : World} {v : Value} {L : List ByteArray} (h : NmR sz w v L) (hb : Below w.heap.size w w') : NmR sz w' v L :=
  SlR.keep (fun {g o _} hg k => (hb.cell (p := ⟨g, o, none⟩) hg).trans k) h hb
theorem NmR.tys {w : World} {v : Value} {L : List PTy} (h : SlR 3 CTy w v L) : NmR 3 w v (L.map (·.n)) := by
  obtain ⟨ao, cap, rfl, hc, hr⟩ := h
  refine ⟨ao, cap, by simp, by simpa using hc, fun hl => ?_⟩
  obtain ⟨g, o, e, hg, hR⟩ := hr (by rintro rfl; exact hl rfl)
  exact ⟨g, o, e, hg, fun i hi => by
    have := (hR i (by simpa using hi)).1
    simpa using this⟩
set_option maxRecDepth 100000 in
set_option maxHeartbeats 16000000 in
theorem namesOf_users (b0 b1 b2 b3 b4 b5 b6 b7 b8 b9 b10 b11 b12 b13 b14 b15 b16 : Value) (gp : Nat) (L : List ByteArray) (sort : Int) (hs : sort = 0) (w : World) (hP : Blk w gp 60 #[b0, b1, b2, b3, b4, b5, b6, b7, b8, b9, b10, b11, b12, b13, b14, b15, b16]) (hL : NmR 11 w b4 L) (hl : L.length ≤ 1000000) :
    Calls Try.prog 72 #[.pointer (some ⟨gp, 0, none⟩), .int .i64 sort] w fun e w' => ∃ v, e = .returned v ∧ OwnS w' w.heap.size v L ∧ Below w.heap.size w w' := by
  obtain ⟨i0, hinf, hz0, hz1, hz2⟩ := info_parts infoStr
  have q0 : (sort == 0) = true := by simp; omega
  have q1 : (sort == 1) = false := by simp; omega
  obtain ⟨ak, ck, rfl, -, -⟩ := id hL
  have HL := Lib.hid hL
  have HP := Lib.hid hP
  have hp := hP.cell
  have p0 := hp 4
  have hkI : (L.length : Int) ≤ 9223372036854775807 := by omega
  have HML := Lib.hid hl
  have HMX : Hid (∀ n : Nat, n ≤ 1000001 → n ≤ maxLen) := Lib.hid (fun n h => by unfold maxLen; omega)
  clear hL hP hp hl hs
  go_enter Try.func72, Try.ntmps72
  go_wp2_with fail
  go_loopw [5, 6, 37] (fun v5 v8 v15 wr => ∃ (i : Nat) (vv : Value), vv = v5 ∧ i ≤ L.length ∧ v15 = .int .i64 i ∧ Hid (Kp w wr) ∧ Hid (OwnS wr w.heap.size vv (L.take i))) (fun _ _ v15 _ => L.length - (intOf v15).toNat)
  case atStart => exact ⟨0, _, rfl, Nat.zero_le _, rfl, Lib.hid Kp.rfl', Lib.hid (by rw [List.take_zero]; exact OwnS.nil)⟩
  case round =>
    obtain ⟨i, v, rfl, hi, rfl, HK, HO⟩ := hrel
    by_cases hlt : i < L.length
    · have hlt' : (i : Int) < (L.length : Int) := by omega
      obtain ⟨g, o, hak, hg, hR⟩ := HL.out.row hlt
      subst hak
      have c0 := ((HK.out : Below w.heap.size w wr).cell (p := ⟨g, o + i * 11, none⟩) hg).trans (hR i hlt)
      have r0 := (HP.out.keep HK.out).cell 4
      obtain ⟨x, hx⟩ : ∃ x, L[i] = x := ⟨_, rfl⟩
      rw [hx] at c0
      have HX : Hid (L.take (i + 1) = L.take i ++ [x]) := Lib.hid (by rw [List.take_succ_eq_append_getElem hlt, hx])
      obtain ⟨T, hT⟩ : ∃ T, L.take i = T := ⟨_, rfl⟩
      have hTl : T.length = i := by rw [← hT, List.length_take]; omega
      rw [hT] at HO HX
      have HT := Lib.hid hTl
      obtain ⟨aoT, capT, rfl⟩ := HO.out.isSl
      clear hx hT hTl hg hR
      go_wp2_with (at_builtin; refine wpList_append_own _ rfl _ _ 22 rfl w.heap.size 9 i0 (.string ⟨#[]⟩) 1 16 Try.underlying22 hinf hz0 hz1 hz2 rfl (by decide) (.slice aoT T.length capT) T.length (T.map Value.string) rfl (HO.out.alloc _) ⟨_, 0, none⟩ 1 1 [.string x] rfl rfl ?c1 ?c2 ?c3 ?c4 ?c5 ?_)
      case c1 => exact one_newS (by simp)
      case c2 => intro u hu; simp at hu; subst hu; rfl
      case c3 => have := HT.out; have := HML.out; exact HMX.out _ (by omega)
      case c4 => have := HT.out; have := HML.out; omega
      case c5 => have := HK.out.size; simp; omega
      · intro v' w3 hown2 hgrow _
        have hlo := HO.out.lt
        have R3 : OwnS w3 w.heap.size v' (T ++ [x]) := by
          unfold OwnS
          simpa using hown2
        have hsz := HK.out.size
        have B3 : Below w.heap.size w w3 := (HK.out.alloc _).grown hgrow (by simp; omega) (fun k e => by have := hlo _ e; omega)
        have HR := Lib.hid R3
        have HB3 := Lib.hid B3
        clear hown2 hgrow hlo hsz R3 B3
        go_wp2_with fail
        go_roundw
        case rel => exact ⟨i + 1, _, rfl, by omega, by go_num, HB3, Lib.hid (by rw [HX.out]; exact HR.out)⟩
        case measure => simp [intOf]; omega
    · have hlt' : ¬ (i : Int) < (L.length : Int) := by omega
      have HF : Hid (L.take i = L) := Lib.hid (List.take_of_length_le (by omega))
      have HO2 := Lib.hid HO.out
      rw [HF.out] at HO2
      clear HO
      go_wp2_with fail
      go_ret
      exact ⟨_, rfl, HO2.out, HK.out⟩
set_option maxRecDepth 100000 in
set_option maxHeartbeats 16000000 in
theorem namesOf_roles (b0 b1 b2 b3 b4 b5 b6 b7 b8 b9 b10 b11 b12 b13 b14 b15 b16 : Value) (gp : Nat) (L : List ByteArray) (sort : Int) (hs : sort = 1) (w : World) (hP : Blk w gp 60 #[b0, b1, b2, b3, b4, b5, b6, b7, b8, b9, b10, b11, b12, b13, b14, b15, b16]) (hL : NmR 9 w b3 L) (hl : L.length ≤ 1000000) :
    Calls Try.prog 72 #[.pointer (some ⟨gp, 0, none⟩), .int .i64 sort] w fun e w' => ∃ v, e = .returned v ∧ OwnS w' w.heap.size v L ∧ Below w.heap.size w w' := by
  obtain ⟨i0, hinf, hz0, hz1, hz2⟩ := info_parts infoStr
  have q0 : (sort == 0) = false := by simp; omega
  have q1 : (sort == 1) = true := by simp; omega
  obtain ⟨ak, ck, rfl, -, -⟩ := id hL
  have HL := Lib.hid hL
  have HP := Lib.hid hP
  have hp := hP.cell
  have p0 := hp 3
  have hkI : (L.length : Int) ≤ 9223372036854775807 := by omega
  have HML := Lib.hid hl
  have HMX : Hid (∀ n : Nat, n ≤ 1000001 → n ≤ maxLen) := Lib.hid (fun n h => by unfold maxLen; omega)
  clear hL hP hp hl hs
  go_enter Try.func72, Try.ntmps72
  go_wp2_with fail
  go_loopw [5, 7, 59] (fun v5 v8 v15 wr => ∃ (i : Nat) (vv : Value), vv = v5 ∧ i ≤ L.length ∧ v15 = .int .i64 i ∧ Hid (Kp w wr) ∧ Hid (OwnS wr w.heap.size vv (L.take i))) (fun _ _ v15 _ => L.length - (intOf v15).toNat)
  case atStart => exact ⟨0, _, rfl, Nat.zero_le _, rfl, Lib.hid Kp.rfl', Lib.hid (by rw [List.take_zero]; exact OwnS.nil)⟩
  case round =>
    obtain ⟨i, v, rfl, hi, rfl, HK, HO⟩ := hrel
    by_cases hlt : i < L.length
    · have hlt' : (i : Int) < (L.length : Int) := by omega
      obtain ⟨g, o, hak, hg, hR⟩ := HL.out.row hlt
      subst hak
      have c0 := ((HK.out : Below w.heap.size w wr).cell (p := ⟨g, o + i * 9, none⟩) hg).trans (hR i hlt)
      have r0 := (HP.out.keep HK.out).cell 3
      obtain ⟨x, hx⟩ : ∃ x, L[i] = x := ⟨_, rfl⟩
      rw [hx] at c0
      have HX : Hid (L.take (i + 1) = L.take i ++ [x]) := Lib.hid (by rw [List.take_succ_eq_append_getElem hlt, hx])
      obtain ⟨T, hT⟩ : ∃ T, L.take i = T := ⟨_, rfl⟩
      have hTl : T.length = i := by rw [← hT, List.length_take]; omega
      rw [hT] at HO HX
      have HT := Lib.hid hTl
      obtain ⟨aoT, capT, rfl⟩ := HO.out.isSl
      clear hx hT hTl hg hR
      go_wp2_with (at_builtin; refine wpList_append_own _ rfl _ _ 22 rfl w.heap.size 9 i0 (.string ⟨#[]⟩) 1 16 Try.underlying22 hinf hz0 hz1 hz2 rfl (by decide) (.slice aoT T.length capT) T.length (T.map Value.string) rfl (HO.out.alloc _) ⟨_, 0, none⟩ 1 1 [.string x] rfl rfl ?c1 ?c2 ?c3 ?c4 ?c5 ?_)
      case c1 => exact one_newS (by simp)
      case c2 => intro u hu; simp at hu; subst hu; rfl
      case c3 => have := HT.out; have := HML.out; exact HMX.out _ (by omega)
      case c4 => have := HT.out; have := HML.out; omega
      case c5 => have := HK.out.size; simp; omega
      · intro v' w3 hown2 hgrow _
        have hlo := HO.out.lt
        have R3 : OwnS w3 w.heap.size v' (T ++ [x]) := by
          unfold OwnS
          simpa using hown2
        have hsz := HK.out.size
        have B3 : Below w.heap.size w w3 := (HK.out.alloc _).grown hgrow (by simp; omega) (fun k e => by have := hlo _ e; omega)
        have HR := Lib.hid R3
        have HB3 := Lib.hid B3
        clear hown2 hgrow hlo hsz R3 B3
        go_wp2_with fail
        go_roundw
        case rel => exact ⟨i + 1, _, rfl, by omega, by go_num, HB3, Lib.hid (by rw [HX.out]; exact HR.out)⟩
        case measure => simp [intOf]; omega
    · have hlt' : ¬ (i : Int) < (L.length : Int) := by omega
      have HF : Hid (L.take i = L) := Lib.hid (List.take_of_length_le (by omega))
      have HO2 := Lib.hid HO.out
      rw [HF.out] at HO2
      clear HO
      go_wp2_with fail
      go_ret
      exact ⟨_, rfl, HO2.out, HK.out⟩
set_option maxRecDepth 100000 in
set_option maxHeartbeats 16000000 in
theorem namesOf_types (b0 b1 b2 b3 b4 b5 b6 b7 b8 b9 b10 b11 b12 b13 b14 b15 b16 : Value) (gp : Nat) (L : List ByteArray) (sort : Int) (hs : sort ≠ 0 ∧ sort ≠ 1) (w : World) (hP : Blk w gp 60 #[b0, b1, b2, b3, b4, b5, b6, b7, b8, b9, b10, b11, b12, b13, b14, b15, b16]) (hL : NmR 3 w b1 L) (hl : L.length ≤ 1000000) :
    Calls Try.prog 72 #[.pointer (some ⟨gp, 0, none⟩), .int .i64 sort] w fun e w' => ∃ v, e = .returned v ∧ OwnS w' w.heap.size v L ∧ Below w.heap.size w w' := by
  obtain ⟨i0, hinf, hz0, hz1, hz2⟩ := info_parts infoStr
  have q0 : (sort == 0) = false := by simp; omega
  have q1 : (sort == 1) = false := by simp; omega
  obtain ⟨ak, ck, rfl, -, -⟩ := id hL
  have HL := Lib.hid hL
  have HP := Lib.hid hP
  have hp := hP.cell
  have p0 := hp 1
  have hkI : (L.length : Int) ≤ 9223372036854775807 := by omega
  have HML := Lib.hid hl
  have HMX : Hid (∀ n : Nat, n ≤ 1000001 → n ≤ maxLen) := Lib.hid (fun n h => by unfold maxLen; omega)
  clear hL hP hp hl hs
  go_enter Try.func72, Try.ntmps72
  go_wp2_with fail
  go_loopw [5, 8, 15] (fun v5 v8 v15 wr => ∃ (i : Nat) (vv : Value), vv = v5 ∧ i ≤ L.length ∧ v15 = .int .i64 i ∧ Hid (Kp w wr) ∧ Hid (OwnS wr w.heap.size vv (L.take i))) (fun _ _ v15 _ => L.length - (intOf v15).toNat)
  case atStart => exact ⟨0, _, rfl, Nat.zero_le _, rfl, Lib.hid Kp.rfl', Lib.hid (by rw [List.take_zero]; exact OwnS.nil)⟩
  case round =>
    obtain ⟨i, v, rfl, hi, rfl, HK, HO⟩ := hrel
    by_cases hlt : i < L.length
    · have hlt' : (i : Int) < (L.length : Int) := by omega
      obtain ⟨g, o, hak, hg, hR⟩ := HL.out.row hlt
      subst hak
      have c0 := ((HK.out : Below w.heap.size w wr).cell (p := ⟨g, o + i * 3, none⟩) hg).trans (hR i hlt)
      have r0 := (HP.out.keep HK.out).cell 1
      obtain ⟨x, hx⟩ : ∃ x, L[i] = x := ⟨_, rfl⟩
      rw [hx] at c0
      have HX : Hid (L.take (i + 1) = L.take i ++ [x]) := Lib.hid (by rw [List.take_succ_eq_append_getElem hlt, hx])
      obtain ⟨T, hT⟩ : ∃ T, L.take i = T := ⟨_, rfl⟩
      have hTl : T.length = i := by rw [← hT, List.length_take]; omega
      rw [hT] at HO HX
      have HT := Lib.hid hTl
      obtain ⟨aoT, capT, rfl⟩ := HO.out.isSl
      clear hx hT hTl hg hR
      go_wp2_with (at_builtin; refine wpList_append_own _ rfl _ _ 22 rfl w.heap.size 9 i0 (.string ⟨#[]⟩) 1 16 Try.underlying22 hinf hz0 hz1 hz2 rfl (by decide) (.slice aoT T.length capT) T.length (T.map Value.string) rfl (HO.out.alloc _) ⟨_, 0, none⟩ 1 1 [.string x] rfl rfl ?c1 ?c2 ?c3 ?c4 ?c5 ?_)
      case c1 => exact one_newS (by simp)
      case c2 => intro u hu; simp at hu; subst hu; rfl
      case c3 => have := HT.out; have := HML.out; exact HMX.out _ (by omega)
      case c4 => have := HT.out; have := HML.out; omega
      case c5 => have := HK.out.size; simp; omega
      · intro v' w3 hown2 hgrow _
        have hlo := HO.out.lt
        have R3 : OwnS w3 w.heap.size v' (T ++ [x]) := by
          unfold OwnS
          simpa using hown2
        have hsz := HK.out.size
        have B3 : Below w.heap.size w w3 := (HK.out.alloc _).grown hgrow (by simp; omega) (fun k e => by have := hlo _ e; omega)
        have HR := Lib.hid R3
        have HB3 := Lib.hid B3
        clear hown2 hgrow hlo hsz R3 B3
        go_wp2_with fail
        go_roundw
        case rel => exact ⟨i + 1, _, rfl, by omega, by go_num, HB3, Lib.hid (by rw [HX.out]; exact HR.out)⟩
        case measure => simp [intOf]; omega
    · have hlt' : ¬ (i : Int) < (L.length : Int) := by omega
      have HF : Hid (L.take i = L) := Lib.hid (List.take_of_length_le (by omega))
      have HO2 := Lib.hid HO.out
      rw [HF.out] at HO2
      clear HO
      go_wp2_with fail
      go_ret
      exact ⟨_, rfl, HO2.out, HK.out⟩
end Go.Proofs.Ytamcfmfkmekkfaa
/- constraint.meaning. -/
namespace Go.Proofs.Ytamcfmfkmekkfaa
open Go.RowKit Go
/-- what a name means -/
def nameS (N : List ByteArray) (sort : Int) (aB : ByteArray → Bool) (aS : ByteArray → S4) (s : ByteArray) : Option S4 :=
  if 0 ≤ idxI N s then some (ofS [idxI N s]) else if sort = 2 ∧ aB s = true then some (aS s) else none
def meanL (f : ByteArray → Option S4) : List ByteArray → S4 → Option S4
  | [], acc => some acc
  | s :: r, acc => match f s with
    | none => none
    | some x => meanL f r (acc.or x)
theorem Blk.far4 {w : World} {g g' : Nat} {t : TypeId} {cs : Array Value} (h : Blk w g t cs) (hne : g ≠ g') (u0 u1 u2 u3 : Value) : Blk ((((w.setCell ⟨g', 0, none⟩ u0).setCell ⟨g', 1, none⟩ u1).setCell ⟨g', 2, none⟩ u2).setCell ⟨g', 3, none⟩ u3) g t cs :=
  (((h.far (p := ⟨g', 0, none⟩) hne _).far (p := ⟨g', 1, none⟩) hne _).far (p := ⟨g', 2, none⟩) hne _).far (p := ⟨g', 3, none⟩) hne _
set_option maxRecDepth 100000 in
set_option maxHeartbeats 32000000 in
theorem meaning_c (vN : Value) (E N : List ByteArray) (gp : Nat) (sort : Int) (aB : ByteArray → Bool) (aS : ByteArray → S4) (w : World) (hE : Strs w vN E) (hel : E.length ≤ maxLen) (hnl : N.length ≤ maxLen)
    (hN : ∀ W, Kp w W → Calls Try.prog 72 #[.pointer (some ⟨gp, 0, none⟩), .int .i64 sort] W fun e w' => ∃ v, e = .returned v ∧ OwnS w' W.heap.size v N ∧ Below W.heap.size W w')
    (hAO : ∀ W s, Kp w W → Calls Try.prog 75 #[.string s, .pointer (some ⟨gp, 0, none⟩)] W fun e w' => e = .returned (.tuple #[.agg #[.int .u64 (aS s).a, .int .u64 (aS s).b, .int .u64 (aS s).c, .int .u64 (aS s).d], .bool (aB s)]) ∧ Below W.heap.size W w') :
    Calls Try.prog 69 #[vN, .pointer (some ⟨gp, 0, none⟩), .int .i64 sort] w fun e w' => e = .returned (.tuple #[.agg #[.int .u64 ((meanL (nameS N sort aB aS) E S4.zero).getD S4.zero).a, .int .u64 ((meanL (nameS N sort aB aS) E S4.zero).getD S4.zero).b, .int .u64 ((meanL (nameS N sort aB aS) E S4.zero).getD S4.zero).c, .int .u64 ((meanL (nameS N sort aB aS) E S4.zero).getD S4.zero).d], .bool (meanL (nameS N sort aB aS) E S4.zero).isSome]) ∧ Below w.heap.size w w' := by
  obtain ⟨R, hR⟩ : ∃ R, meanL (nameS N sort aB aS) E S4.zero = R := ⟨_, rfl⟩
  have HR0 := Lib.hid hR
  rw [hR]
  have HB : Hid (Below w.heap.size w (w.alloc (.cells #[.int .u64 0, .int .u64 0, .int .u64 0, .int .u64 0] 25))) := Lib.hid ((Below.refl _ _).alloc (Nat.le_refl _) _)
  have HZ : Hid (Blk (w.alloc (.cells #[.int .u64 0, .int .u64 0, .int .u64 0, .int .u64 0] 25)) w.heap.size 25 #[.int .u64 0, .int .u64 0, .int .u64 0, .int .u64 0]) := Lib.hid (Blk.new w _ _)
  have HNO := Lib.hid (hN _ HB.out)
  have HAO := Lib.hid hAO
  obtain ⟨aoE, capE, rfl, hrE⟩ := id hE
  have HE := Lib.hid hE
  have hkI : (E.length : Int) ≤ 9223372036854775807 := by unfold maxLen at hel; omega
  have HNL := Lib.hid hnl
  clear hE hel hnl hN hAO hR hrE
  go_enter Try.func69, Try.ntmps69
  go_upto_region 1 with fail
  generalize w.alloc (.cells #[.int .u64 0, .int .u64 0, .int .u64 0, .int .u64 0] 25) = W at *
  have HLE : Hid (w.heap.size ≤ W.heap.size) := Lib.hid HB.out.size
  have HGZ : Hid (w.heap.size < W.heap.size) := Lib.hid HZ.out.lt
  generalize hg6 : w.heap.size = g6 at *
  go_upto_region 2 with (go_at_call 72; (with_reducible refine HNO.out.mono ?_); rintro e w1 ⟨v1, rfl, hO1, hb1⟩; have HO1 := Lib.hid hO1; have HB1 := Lib.hid (HB.out.trans (hb1.mono HLE.out)); have HL1 := Lib.hid (Nat.lt_of_lt_of_le HGZ.out hb1.size); have HZ1 := Lib.hid (HZ.out.keep hb1); obtain ⟨aoN, capN, rfl⟩ := HO1.out.isSl; clear hb1 hO1)
  obtain ⟨_, _, e1, _, hS1⟩ := HO1.out.strs
  simp only [Value.slice.injEq] at e1
  obtain ⟨rfl, _, rfl⟩ := e1
  have HSN := Lib.hid hS1
  clear hS1 HO1 HNO HB HZ HLE HGZ
  have HBL : Hid (Below w1.heap.size w1 (w1.alloc (.cells #[.int .u64 0, .int .u64 0, .int .u64 0, .int .u64 0] 25))) := Lib.hid ((Below.refl _ _).alloc (Nat.le_refl _) _)
  have HA0 : Hid (Blk (w1.alloc (.cells #[.int .u64 0, .int .u64 0, .int .u64 0, .int .u64 0] 25)) w1.heap.size 25 #[.int .u64 S4.zero.a, .int .u64 S4.zero.b, .int .u64 S4.zero.c, .int .u64 S4.zero.d]) := Lib.hid (Blk.new w1 _ _)
  go_upto_region 3 with fail
  generalize w1.alloc (.cells #[.int .u64 0, .int .u64 0, .int .u64 0, .int .u64 0] 25) = W1 at *
  generalize hg9 : w1.heap.size = g9 at *
  go_wp2_with fail
  go_loopw [11, 12, 13, 14, 20] (fun v11 v12 v13 v14 v20 wr => ∃ (i : Nat) (acc : S4), i ≤ E.length ∧ v20 = .int .i64 i ∧ Hid (meanL (nameS N sort aB aS) (E.drop i) acc = R) ∧ Hid (Below g9 w1 wr) ∧ Hid (Blk wr g9 25 #[.int .u64 acc.a, .int .u64 acc.b, .int .u64 acc.c, .int .u64 acc.d])) (fun _ _ _ _ v20 _ => E.length - (intOf v20).toNat)
  case atStart => exact ⟨0, S4.zero, Nat.zero_le _, rfl, Lib.hid (by rw [List.drop_zero]; exact HR0.out), HBL, HA0⟩
  case round =>
    clear HBL HA0
    obtain ⟨i, acc, hi, rfl, HM, HBW, HAC⟩ := hrel
    have HBK : Hid (Below g6 w wr) := Lib.hid (HB1.out.trans (HBW.out.mono (Nat.le_of_lt (by rw [← hg9] at *; exact HL1.out))))
    have HLR : Hid (g9 < wr.heap.size) := Lib.hid HAC.out.lt
    have HZR : Hid (Blk wr g6 25 #[.int .u64 0, .int .u64 0, .int .u64 0, .int .u64 0]) := Lib.hid (HZ1.out.below HBW.out HL1.out)
    by_cases hlt : i < E.length
    · have hlt' : (i : Int) < (E.length : Int) := by omega
      obtain ⟨s, hsx⟩ : ∃ s, E[i] = s := ⟨_, rfl⟩
      have HD : Hid (E.drop i = s :: E.drop (i + 1)) := Lib.hid (by rw [List.drop_eq_getElem_cons hlt, hsx])
      rw [HD.out] at HM
      have hEr := HE.out.keep (by rw [hg6]; exact HBK.out)
      obtain ⟨_, _, e1, hrE⟩ := hEr
      simp only [Value.slice.injEq] at e1
      obtain ⟨rfl, _, rfl⟩ := e1
      obtain ⟨gE, oE, rfl, hRow⟩ := hrE (by rintro rfl; simp at hlt)
      have c0 := hRow i hlt
      rw [hsx] at c0
      have HIX := Lib.hid (index_c _ N s wr (HSN.out.keep (by rw [hg9]; exact HBW.out)) HNL.out)
      have HAS := Lib.hid (fun W (h : Kp w W) => HAO.out W s h)
      have HF : Hid (nameS N sort aB aS s = if 0 ≤ idxI N s then some (ofS [idxI N s]) else if sort = 2 ∧ aB s = true then some (aS s) else none) := Lib.hid rfl
      have HM2 : Hid ((match nameS N sort aB aS s with | none => none | some x => meanL (nameS N sort aB aS) (E.drop (i + 1)) (acc.or x)) = R) := Lib.hid HM.out
      have HOF := Lib.hid (one_ofP (idxI N s))
      generalize nameS N sort aB aS s = ns at *
      generalize idxI N s = ii at *
      generalize aB s = ab at *
      generalize aS s = sa at *
      generalize ofS [ii] = so at *
      clear HM HD hsx hrE hRow
      by_cases hii : 0 ≤ ii
      · have hd : decide (0 ≤ ii) = true := decide_eq_true hii
        rw [if_pos hii] at HF
        rw [HF.out] at HM2
        clear HF
        go_upto_region 8 with (first
          | (go_at_call 73; (with_reducible refine HIX.out.mono ?_); rintro e w2 ⟨rfl, rfl⟩)
          | (go_at_call 74; (with_reducible refine (HOF.out _).mono ?_); rintro e w3 ⟨rfl, hb3⟩; have HB3 := Lib.hid (HBW.out.trans (hb3.mono (Nat.le_of_lt HLR.out))); have HK3 := Lib.hid (HBK.out.trans (hb3.mono (Nat.le_of_lt (Nat.lt_trans HL1.out HLR.out)))); have HL3 := Lib.hid (Nat.lt_of_lt_of_le HLR.out hb3.size); have HA3 := Lib.hid (HAC.out.keep hb3); have HZ3 := Lib.hid (HZR.out.keep hb3);  clear hb3))
        have HA8 := Lib.hid (HA3.out.alloc (.cells #[.int .u64 so.a, .int .u64 so.b, .int .u64 so.c, .int .u64 so.d] 25))
        have HD8 : Hid (Blk (w3.alloc (.cells #[.int .u64 so.a, .int .u64 so.b, .int .u64 so.c, .int .u64 so.d] 25)) w3.heap.size 25 #[.int .u64 so.a, .int .u64 so.b, .int .u64 so.c, .int .u64 so.d]) := Lib.hid (Blk.new w3 _ _)
        have HB8 : Hid (Below g9 w1 (w3.alloc (.cells #[.int .u64 so.a, .int .u64 so.b, .int .u64 so.c, .int .u64 so.d] 25))) := Lib.hid (HB3.out.alloc (Nat.le_of_lt HL3.out) _)
        have HL8 : Hid (g9 ≤ ((w3.alloc (.cells #[.int .u64 so.a, .int .u64 so.b, .int .u64 so.c, .int .u64 so.d] 25))).heap.size) := Lib.hid (Nat.le_of_lt (Nat.lt_trans HL3.out (by simp)))
        generalize (w3.alloc (.cells #[.int .u64 so.a, .int .u64 so.b, .int .u64 so.c, .int .u64 so.d] 25)) = W3 at *
        generalize w3.heap.size = g13 at *
        have a := HA8.out.cell
        have a0 := a 0
        have a1 := a 1
        have a2 := a 2
        have a3 := a 3
        have af := HA8.out.frozen
        clear a
        have d := HD8.out.cell
        have d0 := d 0
        have d1 := d 1
        have d2 := d 2
        have d3 := d 3
        have df := HD8.out.frozen
        clear d
        go_wp2_with (go_at_call 76; (refine (union_c acc.a acc.b acc.c acc.d so.a so.b so.c so.d _).mono ?_); rintro e w5 ⟨rfl, hb5⟩; have HB5 := Lib.hid (HB8.out.trans (hb5.mono HL8.out)); have HA5 := Lib.hid (HA8.out.keep hb5); have m := HA5.out.cell; have m0 := m 0; have m1 := m 1; have m2 := m 2; have m3 := m 3; have mf := HA5.out.frozen; clear m hb5)
        go_roundw
        case rel => exact ⟨i + 1, acc.or so, by omega, by go_num, HM2, Lib.hid (below_set4 HB5.out (Nat.le_refl _) _ _ _ _), Lib.hid ((((HA5.out.set 0 _).set 1 _).set 2 _).set 3 _)⟩
        case measure => simp [intOf]; omega
      · have hd : decide (0 ≤ ii) = false := decide_eq_false hii
        rw [if_neg hii] at HF
        by_cases h2 : sort = 2
        · have q2 : (sort == 2) = true := by simpa using h2
          cases ab with
          | false =>
            rw [if_neg (by simp)] at HF
            rw [HF.out] at HM2
            obtain rfl : none = R := HM2.out
            clear HF HM2 h2
            go_upto_region 8 with (first
              | (go_at_call 73; (with_reducible refine HIX.out.mono ?_); rintro e w2 ⟨rfl, rfl⟩)
              | (go_at_call 74; (with_reducible refine (HOF.out _).mono ?_); rintro e w3 ⟨rfl, hb3⟩; have HB3 := Lib.hid (HBW.out.trans (hb3.mono (Nat.le_of_lt HLR.out))); have HK3 := Lib.hid (HBK.out.trans (hb3.mono (Nat.le_of_lt (Nat.lt_trans HL1.out HLR.out)))); have HL3 := Lib.hid (Nat.lt_of_lt_of_le HLR.out hb3.size); have HA3 := Lib.hid (HAC.out.keep hb3); have HZ3 := Lib.hid (HZR.out.keep hb3);  clear hb3))
            have HZ8 := Lib.hid (HZ3.out.alloc (.cells #[.int .u64 so.a, .int .u64 so.b, .int .u64 so.c, .int .u64 so.d] 25))
            have HA8 := Lib.hid (HA3.out.alloc (.cells #[.int .u64 so.a, .int .u64 so.b, .int .u64 so.c, .int .u64 so.d] 25))
            have HD8 : Hid (Blk (w3.alloc (.cells #[.int .u64 so.a, .int .u64 so.b, .int .u64 so.c, .int .u64 so.d] 25)) w3.heap.size 25 #[.int .u64 so.a, .int .u64 so.b, .int .u64 so.c, .int .u64 so.d]) := Lib.hid (Blk.new w3 _ _)
            have HK8 : Hid (Below g6 w (w3.alloc (.cells #[.int .u64 so.a, .int .u64 so.b, .int .u64 so.c, .int .u64 so.d] 25))) := Lib.hid (HK3.out.alloc (Nat.le_of_lt (Nat.lt_trans HL1.out HL3.out)) _)
            have HB8 : Hid (Below g9 w1 (w3.alloc (.cells #[.int .u64 so.a, .int .u64 so.b, .int .u64 so.c, .int .u64 so.d] 25))) := Lib.hid (HB3.out.alloc (Nat.le_of_lt HL3.out) _)
            have HN1 : Hid (g6 < w3.heap.size) := Lib.hid (Nat.lt_trans HL1.out HL3.out)
            have HN2 : Hid (g9 < w3.heap.size) := Lib.hid HL3.out
            have HN3 : Hid (w3.heap.size ≤ ((w3.alloc (.cells #[.int .u64 so.a, .int .u64 so.b, .int .u64 so.c, .int .u64 so.d] 25))).heap.size) := Lib.hid (by simp)
            have HAT := Lib.hid (HAS.out (w3.alloc (.cells #[.int .u64 so.a, .int .u64 so.b, .int .u64 so.c, .int .u64 so.d] 25)) (by unfold Kp; rw [hg6]; exact HK8.out))
            generalize (w3.alloc (.cells #[.int .u64 so.a, .int .u64 so.b, .int .u64 so.c, .int .u64 so.d] 25)) = W3 at *
            generalize w3.heap.size = g13 at *
            have hn1 : (g6 = g13) = False := by have := HN1.out; simp; omega
            have hn2 : (g13 = g6) = False := by have := HN1.out; simp; omega
            have hn3 : (g9 = g13) = False := by have := HN2.out; simp; omega
            have hn4 : (g13 = g9) = False := by have := HN2.out; simp; omega
            go_wp2_with (go_at_call 75; (with_reducible refine HAT.out.mono ?_); rintro e w4 ⟨rfl, hb4⟩; have HK4 := Lib.hid (HK8.out.trans (hb4.mono (Nat.le_trans (Nat.le_of_lt HN1.out) HN3.out))); have HB4 := Lib.hid (HB8.out.trans (hb4.mono (Nat.le_trans (Nat.le_of_lt HN2.out) HN3.out))); have HZ4 := Lib.hid (HZ8.out.keep hb4); have HA4 := Lib.hid (HA8.out.keep hb4); have HD4 := Lib.hid (HD8.out.keep hb4); have d := HD4.out.cell; have d0 := d 0; have d1 := d 1; have d2 := d 2; have d3 := d 3; have df := HD4.out.frozen; clear d; have z := HZ4.out.cell; have z0 := z 0; have z1 := z 1; have z2 := z 2; have z3 := z 3; have zf := HZ4.out.frozen; clear z;  clear hb4)
            exact bodyPost_ret (v := .tuple #[.agg #[.int .u64 S4.zero.a, .int .u64 S4.zero.b, .int .u64 S4.zero.c, .int .u64 S4.zero.d], .bool false]) (setbool_ret Try.results69 rfl rfl (((((HZ4.out.far4 (by have := HN1.out; omega) _ _ _ _).set 0 _).set 1 _).set 2 _).set 3 _)) rfl ⟨rfl, by first | exact below_set4 (below_set4 HK4.out (Nat.le_of_lt HN1.out) _ _ _ _) (Nat.le_refl _) _ _ _ _ | (rw [hg6]; exact below_set4 (below_set4 HK4.out (Nat.le_of_lt HN1.out) _ _ _ _) (Nat.le_refl _) _ _ _ _)⟩
          | true =>
            rw [if_pos ⟨h2, rfl⟩] at HF
            rw [HF.out] at HM2
            clear HF h2
            go_upto_region 8 with (first
              | (go_at_call 73; (with_reducible refine HIX.out.mono ?_); rintro e w2 ⟨rfl, rfl⟩)
              | (go_at_call 74; (with_reducible refine (HOF.out _).mono ?_); rintro e w3 ⟨rfl, hb3⟩; have HB3 := Lib.hid (HBW.out.trans (hb3.mono (Nat.le_of_lt HLR.out))); have HK3 := Lib.hid (HBK.out.trans (hb3.mono (Nat.le_of_lt (Nat.lt_trans HL1.out HLR.out)))); have HL3 := Lib.hid (Nat.lt_of_lt_of_le HLR.out hb3.size); have HA3 := Lib.hid (HAC.out.keep hb3); have HZ3 := Lib.hid (HZR.out.keep hb3);  clear hb3))
            have HZ8 := Lib.hid (HZ3.out.alloc (.cells #[.int .u64 so.a, .int .u64 so.b, .int .u64 so.c, .int .u64 so.d] 25))
            have HA8 := Lib.hid (HA3.out.alloc (.cells #[.int .u64 so.a, .int .u64 so.b, .int .u64 so.c, .int .u64 so.d] 25))
            have HD8 : Hid (Blk (w3.alloc (.cells #[.int .u64 so.a, .int .u64 so.b, .int .u64 so.c, .int .u64 so.d] 25)) w3.heap.size 25 #[.int .u64 so.a, .int .u64 so.b, .int .u64 so.c, .int .u64 so.d]) := Lib.hid (Blk.new w3 _ _)
            have HK8 : Hid (Below g6 w (w3.alloc (.cells #[.int .u64 so.a, .int .u64 so.b, .int .u64 so.c, .int .u64 so.d] 25))) := Lib.hid (HK3.out.alloc (Nat.le_of_lt (Nat.lt_trans HL1.out HL3.out)) _)
            have HB8 : Hid (Below g9 w1 (w3.alloc (.cells #[.int .u64 so.a, .int .u64 so.b, .int .u64 so.c, .int .u64 so.d] 25))) := Lib.hid (HB3.out.alloc (Nat.le_of_lt HL3.out) _)
            have HN1 : Hid (g6 < w3.heap.size) := Lib.hid (Nat.lt_trans HL1.out HL3.out)
            have HN2 : Hid (g9 < w3.heap.size) := Lib.hid HL3.out
            have HN3 : Hid (w3.heap.size ≤ ((w3.alloc (.cells #[.int .u64 so.a, .int .u64 so.b, .int .u64 so.c, .int .u64 so.d] 25))).heap.size) := Lib.hid (by simp)
            have HAT := Lib.hid (HAS.out (w3.alloc (.cells #[.int .u64 so.a, .int .u64 so.b, .int .u64 so.c, .int .u64 so.d] 25)) (by unfold Kp; rw [hg6]; exact HK8.out))
            generalize (w3.alloc (.cells #[.int .u64 so.a, .int .u64 so.b, .int .u64 so.c, .int .u64 so.d] 25)) = W3 at *
            generalize w3.heap.size = g13 at *
            have hn1 : (g6 = g13) = False := by have := HN1.out; simp; omega
            have hn2 : (g13 = g6) = False := by have := HN1.out; simp; omega
            have hn3 : (g9 = g13) = False := by have := HN2.out; simp; omega
            have hn4 : (g13 = g9) = False := by have := HN2.out; simp; omega
            go_upto_region 10 with (go_at_call 75; (with_reducible refine HAT.out.mono ?_); rintro e w4 ⟨rfl, hb4⟩; have HK4 := Lib.hid (HK8.out.trans (hb4.mono (Nat.le_trans (Nat.le_of_lt HN1.out) HN3.out))); have HB4 := Lib.hid (HB8.out.trans (hb4.mono (Nat.le_trans (Nat.le_of_lt HN2.out) HN3.out))); have HZ4 := Lib.hid (HZ8.out.keep hb4); have HA4 := Lib.hid (HA8.out.keep hb4); have HD4 := Lib.hid (HD8.out.keep hb4); have d := HD4.out.cell; have d0 := d 0; have d1 := d 1; have d2 := d 2; have d3 := d 3; have df := HD4.out.frozen; clear d;  clear hb4)
            have HA9 : Hid (Blk ((((w4.setCell ⟨g13, 0, none⟩ (.int .u64 sa.a)).setCell ⟨g13, 1, none⟩ (.int .u64 sa.b)).setCell ⟨g13, 2, none⟩ (.int .u64 sa.c)).setCell ⟨g13, 3, none⟩ (.int .u64 sa.d)) g9 25 #[.int .u64 acc.a, .int .u64 acc.b, .int .u64 acc.c, .int .u64 acc.d]) := Lib.hid (HA4.out.far4 (by have := HN2.out; omega) _ _ _ _)
            have HD9 : Hid (Blk ((((w4.setCell ⟨g13, 0, none⟩ (.int .u64 sa.a)).setCell ⟨g13, 1, none⟩ (.int .u64 sa.b)).setCell ⟨g13, 2, none⟩ (.int .u64 sa.c)).setCell ⟨g13, 3, none⟩ (.int .u64 sa.d)) g13 25 #[.int .u64 sa.a, .int .u64 sa.b, .int .u64 sa.c, .int .u64 sa.d]) := Lib.hid ((((HD4.out.set 0 _).set 1 _).set 2 _).set 3 _)
            have HB9 : Hid (Below g9 w1 ((((w4.setCell ⟨g13, 0, none⟩ (.int .u64 sa.a)).setCell ⟨g13, 1, none⟩ (.int .u64 sa.b)).setCell ⟨g13, 2, none⟩ (.int .u64 sa.c)).setCell ⟨g13, 3, none⟩ (.int .u64 sa.d))) := Lib.hid (below_set4 HB4.out (Nat.le_of_lt HN2.out) _ _ _ _)
            clear d0 d1 d2 d3 df
            generalize ((((w4.setCell ⟨g13, 0, none⟩ (.int .u64 sa.a)).setCell ⟨g13, 1, none⟩ (.int .u64 sa.b)).setCell ⟨g13, 2, none⟩ (.int .u64 sa.c)).setCell ⟨g13, 3, none⟩ (.int .u64 sa.d)) = W4 at *
            have HL9 : Hid (g9 ≤ W4.heap.size) := Lib.hid (Nat.le_of_lt HA9.out.lt)
            have a := HA9.out.cell
            have a0 := a 0
            have a1 := a 1
            have a2 := a 2
            have a3 := a 3
            have af := HA9.out.frozen
            clear a
            have d := HD9.out.cell
            have d0 := d 0
            have d1 := d 1
            have d2 := d 2
            have d3 := d 3
            have df := HD9.out.frozen
            clear d
            go_wp2_with (go_at_call 76; (refine (union_c acc.a acc.b acc.c acc.d sa.a sa.b sa.c sa.d _).mono ?_); rintro e w5 ⟨rfl, hb5⟩; have HB5 := Lib.hid (HB9.out.trans (hb5.mono HL9.out)); have HA5 := Lib.hid (HA9.out.keep hb5); have m := HA5.out.cell; have m0 := m 0; have m1 := m 1; have m2 := m 2; have m3 := m 3; have mf := HA5.out.frozen; clear m hb5)
            go_roundw
            case rel => exact ⟨i + 1, acc.or sa, by omega, by go_num, HM2, Lib.hid (below_set4 HB5.out (Nat.le_refl _) _ _ _ _), Lib.hid ((((HA5.out.set 0 _).set 1 _).set 2 _).set 3 _)⟩
            case measure => simp [intOf]; omega
        · have q2 : (sort == 2) = false := by simpa using h2
          rw [if_neg (fun h => h2 h.1)] at HF
          rw [HF.out] at HM2
          obtain rfl : none = R := HM2.out
          clear HF HM2 h2
          go_upto_region 8 with (first
            | (go_at_call 73; (with_reducible refine HIX.out.mono ?_); rintro e w2 ⟨rfl, rfl⟩)
            | (go_at_call 74; (with_reducible refine (HOF.out _).mono ?_); rintro e w3 ⟨rfl, hb3⟩; have HB3 := Lib.hid (HBW.out.trans (hb3.mono (Nat.le_of_lt HLR.out))); have HK3 := Lib.hid (HBK.out.trans (hb3.mono (Nat.le_of_lt (Nat.lt_trans HL1.out HLR.out)))); have HL3 := Lib.hid (Nat.lt_of_lt_of_le HLR.out hb3.size); have HA3 := Lib.hid (HAC.out.keep hb3); have HZ3 := Lib.hid (HZR.out.keep hb3);  clear hb3))
          have HZ8 := Lib.hid (HZ3.out.alloc (.cells #[.int .u64 so.a, .int .u64 so.b, .int .u64 so.c, .int .u64 so.d] 25))
          have HB8 : Hid (Below g6 w (w3.alloc (.cells #[.int .u64 so.a, .int .u64 so.b, .int .u64 so.c, .int .u64 so.d] 25))) := Lib.hid (HK3.out.alloc (Nat.le_of_lt (Nat.lt_trans HL1.out HL3.out)) _)
          generalize (w3.alloc (.cells #[.int .u64 so.a, .int .u64 so.b, .int .u64 so.c, .int .u64 so.d] 25)) = W3 at *
          generalize w3.heap.size = g13 at *
          have z := HZ8.out.cell
          have z0 := z 0
          have z1 := z 1
          have z2 := z 2
          have z3 := z 3
          have zf := HZ8.out.frozen
          clear z
          go_wp2_with fail
          exact bodyPost_ret (v := .tuple #[.agg #[.int .u64 S4.zero.a, .int .u64 S4.zero.b, .int .u64 S4.zero.c, .int .u64 S4.zero.d], .bool false]) (setbool_ret Try.results69 rfl rfl ((((HZ8.out.set 0 _).set 1 _).set 2 _).set 3 _)) rfl ⟨rfl, by first | exact below_set4 HB8.out (Nat.le_refl _) _ _ _ _ | (rw [hg6]; exact below_set4 HB8.out (Nat.le_refl _) _ _ _ _)⟩
    · have hlt' : ¬ (i : Int) < (E.length : Int) := by omega
      obtain rfl : some acc = R := by
        have := HM.out
        rw [List.drop_of_length_le (by omega)] at this
        exact this
      have a := HAC.out.cell
      have a0 := a 0
      have a1 := a 1
      have a2 := a 2
      have a3 := a 3
      have z := HZR.out.cell
      have z0 := z 0
      have z1 := z 1
      have z2 := z 2
      have z3 := z 3
      have zf := HZR.out.frozen
      clear a z
      go_wp2_with fail
      exact bodyPost_ret (v := .tuple #[.agg #[.int .u64 acc.a, .int .u64 acc.b, .int .u64 acc.c, .int .u64 acc.d], .bool true]) (setbool_ret Try.results69 rfl rfl ((((HZR.out.set 0 _).set 1 _).set 2 _).set 3 _)) rfl ⟨rfl, by first | exact below_set4 HBK.out (Nat.le_refl _) _ _ _ _ | (rw [hg6]; exact below_set4 HBK.out (Nat.le_refl _) _ _ _ _)⟩
end Go.Proofs.Ytamcfmfkmekkfaa
/- As Phg; what an operation without a slot of its own leaves (a store) may be told of a slot that it waits for: its box. -/
namespace Go.Proofs.Ytamcfmfkmekkfaa
open Go.RowKit Go
/-- the slot that an operation's property speaks of -/
def dslo (lnk : Nat → Option Tmp) (j : Nat) (o : Oper) : Option Tmp := match o.dst with | some t => some t | none => lnk j
def valO (lnk : Nat → Option Tmp) (j : Nat) (o : Oper) (A : Act) (u : Value) : Value := match o.dst with | some _ => u | none => match lnk j with | some s => A.eval (.tmp s) | none => u
def lnkB (ops : Array Oper) (lnk : Nat → Option Tmp) : Bool := (List.range ops.size).all fun k => match ops[k]? with
  | some o => (match o.dst with | some _ => true | none => match lnk k with | none => true | some s => (match srcOf ops ops.size s with | some j => waitsOn o j | none => false))
  | none => true
theorem lnkB_at {ops : Array Oper} {lnk : Nat → Option Tmp} (h : lnkB ops lnk = true) {k : Nat} {o : Oper} (ho : ops[k]? = some o) (hd : o.dst = none) {s : Tmp} (hs : lnk k = some s) : ∃ j, srcOf ops ops.size s = some j ∧ waitsOn o j = true := by
  have h1 := List.all_eq_true.1 h k (List.mem_range.2 (Array.getElem?_eq_some_iff.1 ho).1)
  rw [ho] at h1
  simp only [hd, hs] at h1
  cases hc : srcOf ops ops.size s with
  | none => rw [hc] at h1; cases h1
  | some j => rw [hc] at h1; exact ⟨j, rfl, h1⟩
theorem put_none (a : Act) (u : Value) : a.put none u = a := rfl
section
variable {P : Program} {ops : Array Oper} {C : (Nat → Bool) → World → Prop} {Rel : Nat → World → World → Prop} {a0 : Act} {Φ : Nat → Value → World → Prop} {Q : Exit → Act → World → Prop}
/-- what is to be shown of an operation -/
def obK (P : Program) (ops : Array Oper) (C : (Nat → Bool) → World → Prop) (Rel : Nat → World → World → Prop) (a0 : Act) (Φ : Nat → Value → World → Prop) (lnk : Nat → Option Tmp) (i : Nat) (o : Oper) : Prop :=
  (match o.guard with | none => True | some (j, b) => ∀ v w, Φ j v w → v = .bool b) ∧ ∀ A w d, d i = false → C d w → (∀ t, facG ops Φ a0 i o A w t) → (∀ j, waitsOn o j = true → ∃ v, Φ j v w) → ∀ K Q, (∀ u w', Rel i w w' → Φ i (valO lnk i o A u) w' → K (A.put o.dst u) w') → o.wp P A w K Q
def obKs (P : Program) (ops : Array Oper) (C : (Nat → Bool) → World → Prop) (Rel : Nat → World → World → Prop) (a0 : Act) (Φ : Nat → Value → World → Prop) (lnk : Nat → Option Tmp) : Nat → List Oper → Prop
  | _, [] => True
  | k, o :: r => obK P ops C Rel a0 Φ lnk k o ∧ obKs P ops C Rel a0 Φ lnk (k + 1) r
theorem obKs_at {lnk : Nat → Option Tmp} : ∀ {l : List Oper} {k : Nat}, obKs P ops C Rel a0 Φ lnk k l → ∀ i o, l[i]? = some o → obK P ops C Rel a0 Φ lnk (k + i) o
  | [], _, _, i, o, h => by simp at h
  | x :: l, k, h, 0, o, ho => by
    obtain rfl : x = o := by simpa using ho
    exact h.1
  | x :: l, k, h, i + 1, o, ho => by
    have := obKs_at h.2 i o (by simpa using ho)
    rwa [show k + (i + 1) = k + 1 + i by omega]
structure KInv (ops : Array Oper) (C : (Nat → Bool) → World → Prop) (a0 : Act) (Φ : Nat → Value → World → Prop) (lnk : Nat → Option Tmp) (listed : Array Bool) (a : Act) (w : World) : Prop where
  c : C (fun j => listed.getD j false) w
  size : a.tmps.size = a0.tmps.size
  defers : a.defers = a0.defers
  out : ∀ t, srcOf ops ops.size t = none → a.eval (.tmp t) = a0.eval (.tmp t)
  phi : ∀ j oj, ops[j]? = some oj → listed.getD j false = true → outP (Φ j) a w (dslo lnk j oj)
  old : ∀ j oj t, ops[j]? = some oj → oj.dst = some t → listed.getD j false = false → a.eval (.tmp t) = a0.eval (.tmp t)
theorem lnk_head {lnk : Nat → Option Tmp} (hLk : lnkB ops lnk = true) (hB : phiB ops ops.size a0.tmps.size = true) (hC : ∀ i d w w', d i = false → C d w → Rel i w w' → C (fun j => if j = i then true else d j) w') (ban : List (Nat × Nat)) (hban : (ban.all fun p => afterB ops p.1 p.2) = true) (hst : ∀ i j v w w', i ≠ j → (i, j) ∉ ban → Φ i v w → Rel j w w' → Φ i v w')
    (ob : ∀ i o, ops[i]? = some o → obK P ops C Rel a0 Φ lnk i o)
    (hready : ∀ listed t, ops.size ≤ t → t ∉ Region.ready .any ops listed)
    (leaf : ∀ listed a w, KInv ops C a0 Φ lnk listed a w → HeadInv .any ops ops.size listed → (∀ i, i < ops.size → listed.getD i true = true) → wpAny P .any ops Q 0 listed a w) :
    ∀ (f : Nat) (listed : Array Bool) (a : Act) (w : World), HeadInv .any ops ops.size listed → KInv ops C a0 Φ lnk listed a w → cntU ops.size listed = f → wpAny P .any ops Q f listed a w := by
  intro f
  induction f with
  | zero =>
    intro listed a w hi hv hc
    refine leaf listed a w hv hi fun i hin => ?_
    have := List.countP_eq_zero.1 hc i (List.mem_range.2 hin)
    simpa using this
  | succ f ih =>
    intro listed a w hi hv hc
    have hex : ∃ i, i < ops.size ∧ listed.getD i true = false := by
      have hpos : 0 < cntU ops.size listed := by omega
      obtain ⟨i, him, hib⟩ := List.countP_pos_iff.1 hpos
      exact ⟨i, List.mem_range.1 him, by simpa using hib⟩
    refine ⟨fun h0 => ?_, fun i him => ?_⟩
    · obtain ⟨k, hkn, hk⟩ := hex
      obtain ⟨i, hik, hil, hmin⟩ := least (p := fun i => listed.getD i true = false) k hk
      obtain ⟨o, ho, hlow, _⟩ := phiB_at hB (show i < ops.size by omega)
      have : i ∈ Region.ready .any ops listed := mem_ready.2 ⟨hil, o, ho, fun e he hb => by
        have h1 := hlow e he hb
        have h2 := hmin e.on h1
        have h3 : e.on < listed.size := by
          rw [hi.size]
          have := (Array.getElem?_eq_some_iff.1 ho).1
          omega
        simp only [Array.getD_eq_getD_getElem?, Array.getElem?_eq_getElem h3, Option.getD_some] at h2 ⊢
        simpa using h2⟩
      rw [h0] at this
      cases this
    · have hin : i < ops.size := by
        rcases Nat.lt_or_ge i ops.size with h | h
        · exact h
        · exact absurd him (hready listed i h)
      obtain ⟨hil, oi, hoi, hall⟩ := mem_ready.1 him
      have hil2 : listed.getD i false = false := by
        have h3 : i < listed.size := by rw [hi.size]; exact hin
        simp only [Array.getD_eq_getD_getElem?, Array.getElem?_eq_getElem h3, Option.getD_some] at hil ⊢
        exact hil
      obtain ⟨o', ho', hlow, hdst, hgd⟩ := phiB_at hB hin
      obtain rfl : o' = oi := Option.some.inj (ho'.symm.trans hoi)
      obtain ⟨og, ov⟩ := ob i o' hoi
      have hlist : ∀ j, waitsOn o' j = true → listed.getD j false = true := fun j hj => by
        obtain ⟨e, he, hb, rfl⟩ := waitsOn_spec hj
        exact hall e he hb
      have hfact : ∀ t, facG ops Φ a0 i o' a w t := fun t => by
        unfold facG
        cases hs : srcOf ops ops.size t with
        | none => exact hv.out t hs
        | some j =>
          obtain ⟨hjn, oj, hoj, hdj⟩ := srcOf_some hs
          refine ⟨fun hw => ?_, fun hw => ?_⟩
          · have := hv.phi j oj hoj (hlist j hw)
            unfold dslo at this
            rw [hdj] at this
            exact this
          · refine hv.old j oj t hoj hdj ?_
            unfold afterB at hw
            rw [hoj] at hw
            cases hl : listed.getD j false with
            | false => rfl
            | true =>
              obtain ⟨e, he, hb, rfl⟩ := waitsOn_spec hw
              have := hi.closed j oj hoj hl e he hb
              rw [hil2] at this
              cases this
      have hwaits : ∀ j, waitsOn o' j = true → ∃ v, Φ j v w := fun j hj => by
        obtain ⟨e, he, hb, rfl⟩ := waitsOn_spec hj
        have h1 := hlow e he hb
        obtain ⟨oj, hoj, _⟩ := phiB_at hB (show e.on < ops.size by omega)
        exact (hv.phi e.on oj hoj (hlist e.on hj)).any
      have hwant : Region.wanted o' (yielded ops a.tmps) = true := by
        unfold Region.wanted
        cases hg : o'.guard with
        | none => rfl
        | some jb =>
          obtain ⟨j, b⟩ := jb
          obtain ⟨hjn, hwj, oj, t, hoj, hdj⟩ := hgd j b hg
          rw [hg] at og
          have hp := hv.phi j oj hoj (hlist j hwj)
          unfold dslo at hp
          rw [hdj] at hp
          have hval : a.eval (.tmp t) = .bool b := og _ _ hp
          obtain ⟨_, hoj2, _, hd2, _⟩ := phiB_at hB hjn
          obtain rfl := Option.some.inj (hoj2.symm.trans hoj)
          have ht := (hd2 t hdj).1
          rw [← hv.size] at ht
          have hval2 : a.tmps[t]? = some (.bool b) := by
            simp only [Act.eval, Array.getD_eq_getD_getElem?, Array.getElem?_eq_getElem ht, Option.getD_some] at hval
            rw [Array.getElem?_eq_getElem ht, hval]
          simp [yielded, hoj, hdj, hval2]
      have hother : ∀ (u : Value) j oj t, ops[j]? = some oj → oj.dst = some t → j ≠ i → (a.put o'.dst u).eval (.tmp t) = a.eval (.tmp t) := fun u j oj t hoj hdj hji => by
        rw [Act.eval_put (fun d hd e => ?_)]
        cases e
        obtain ⟨_, hoj2, _, hd2, _⟩ := phiB_at hB (Array.getElem?_eq_some_iff.1 hoj).1
        obtain rfl := Option.some.inj (hoj2.symm.trans hoj)
        have e1 := (hd2 t hdj).2
        rw [(hdst t hd).2] at e1
        exact hji (Option.some.inj e1).symm
      unfold wpOp
      simp only [hoi, hwant, if_true]
      refine .inl (ov a w (fun j => listed.getD j false) hil2 hv.c hfact hwaits _ _ fun u w' hb hu => ?_)
      refine ih _ _ _ (hi.set him hin) ⟨by
        have h1 := hC i (fun j => listed.getD j false) w w' hil2 hv.c hb
        have e : (fun j => (listed.setIfInBounds i true).getD j false) = fun j => if j = i then true else listed.getD j false := funext fun j => by
          by_cases hji : j = i
          · subst hji
            have h3 : j < listed.size := by rw [hi.size]; exact hin
            simp [h3]
          · rw [getD_set_ne false (Ne.symm hji), if_neg hji]
        rw [e]; exact h1, by rw [put_size]; exact hv.size, by rw [put_def]; exact hv.defers, fun t ht => ?_, fun j oj hoj hlj => ?_, fun j oj t hoj hdj hlj => ?_⟩ ?_
      · rw [Act.eval_put (fun d hd e => ?_)]
        · exact hv.out t ht
        · cases e
          rw [(hdst t hd).2] at ht
          cases ht
      · by_cases hji : j = i
        · subst hji
          obtain rfl := Option.some.inj (hoj.symm.trans hoi)
          unfold dslo
          unfold valO at hu
          cases hd : oj.dst with
          | none =>
            rw [hd] at hu
            cases hk : lnk j with
            | none => rw [hk] at hu; exact ⟨u, hu⟩
            | some s =>
              rw [hk] at hu
              exact hu
          | some t =>
            rw [hd] at hu
            show Φ j ((a.put (some t) u).eval (.tmp t)) w'
            rw [eval_same (by rw [hv.size]; exact (hdst t hd).1)]
            exact hu
        · rw [getD_set_ne false (Ne.symm hji)] at hlj
          have h0 := hv.phi j oj hoj hlj
          have hnb : (j, i) ∉ ban := fun hb2 => by
            have h1 := List.all_eq_true.1 hban _ hb2
            unfold afterB at h1
            rw [hoj] at h1
            obtain ⟨e, he, hbe, hei⟩ := waitsOn_spec h1
            have h2 := hi.closed j oj hoj hlj e he hbe
            rw [hei] at h2
            rw [hil2] at h2
            cases h2
          unfold dslo at h0 ⊢
          cases hd : oj.dst with
          | none =>
            rw [hd] at h0
            cases hk : lnk j with
            | none =>
              rw [hk] at h0
              obtain ⟨v, h0⟩ := h0
              exact ⟨v, hst _ _ _ _ _ hji hnb h0 hb⟩
            | some s =>
              rw [hk] at h0
              have h1 := hst _ _ _ _ _ hji hnb h0 hb
              show Φ j ((a.put o'.dst u).eval (.tmp s)) w'
              have he : (a.put o'.dst u).eval (.tmp s) = a.eval (.tmp s) := by
                rw [Act.eval_put (fun d hd2 e => ?_)]
                cases e
                obtain ⟨m, hm, hwm⟩ := lnkB_at hLk hoj hd hk
                rw [(hdst s hd2).2] at hm
                obtain rfl := Option.some.inj hm
                obtain ⟨e, he, hbe, hei⟩ := waitsOn_spec hwm
                have h2 := hi.closed j oj hoj hlj e he hbe
                rw [hei, hil2] at h2
                cases h2
              rw [he]
              exact h1
          | some t =>
            rw [hd] at h0
            have h1 := hst _ _ _ _ _ hji hnb h0 hb
            show Φ j ((a.put o'.dst u).eval (.tmp t)) w'
            rw [hother u j oj t hoj hd hji]
            exact h1
      · by_cases hji : j = i
        · subst hji
          exfalso
          have h3 : j < listed.size := by rw [hi.size]; exact hin
          simp [h3] at hlj
        · rw [getD_set_ne false (Ne.symm hji)] at hlj
          rw [hother u j oj t hoj hdj hji]
          exact hv.old j oj t hoj hdj hlj
      · have := cnt_step (fun j => !listed.getD j true) (fun j => !(listed.setIfInBounds i true).getD j true) i (by rw [hil]; rfl) (by
            have : i < listed.size := by rw [hi.size]; exact (Array.getElem?_eq_some_iff.1 hoi).1
            simp [this]) (fun j hj => by rw [getD_set_ne true (Ne.symm hj)]) ops.size hin
        unfold cntU at hc ⊢
        omega
end
theorem wp_region_lnk {P : Program} {id : Nat} {Q : Exit → Act → World → Prop} {a0 : Act} {W : World} {l : List Oper} (C : (Nat → Bool) → World → Prop) (Rel : Nat → World → World → Prop) (Φ : Nat → Value → World → Prop) (lnk : Nat → Option Tmp) (hLk : lnkB l.toArray lnk = true) (hm : P.follows .mixedOrders = true)
    (hB : phiB l.toArray l.toArray.size a0.tmps.size = true) (hC0 : C (fun _ => false) { W with drawn := W.drawn + 1 }) (hC : ∀ i d w w', d i = false → C d w → Rel i w w' → C (fun j => if j = i then true else d j) w') (ban : List (Nat × Nat)) (hban : (ban.all fun p => afterB l.toArray p.1 p.2) = true) (hst : ∀ i j v w w', i ≠ j → (i, j) ∉ ban → Φ i v w → Rel j w w' → Φ i v w')
    (ob : obKs P l.toArray C Rel a0 Φ lnk 0 l)
    (h : ∀ a w d, (∀ j, j < l.length → d j = true) → C d w → a.tmps.size = a0.tmps.size → a.defers = a0.defers → (∀ t, endG l.toArray Φ a0 a w t) → (∀ j oj, l.toArray[j]? = some oj → outP (Φ j) a w (dslo lnk j oj)) → Q .normal a w) : (Code.region id l.toArray true).wp P Q a0 W := by
  refine wp_region_any hm ?_
  have hno : ∀ listed t, l.toArray.size ≤ t → t ∉ Region.ready .any l.toArray listed := fun listed t ht hr => by
    obtain ⟨_, o, ho, _⟩ := mem_ready.1 hr
    have := (Array.getElem?_eq_some_iff.1 ho).1
    omega
  have := lnk_head (P := P) (Q := Q) (C := C) (Rel := Rel) (Φ := Φ) (a0 := a0) (lnk := lnk) hLk hB hC ban hban hst (fun i o ho => by have := obKs_at ob i o (by simpa using ho); rwa [Nat.zero_add] at this) (fun listed t ht => hno listed t ht) (fun listed a w hv hi hall => by
    have hl : ∀ j, j < l.toArray.size → listed.getD j false = true := fun j hj => by
      have h1 := hall j hj
      have h2 : j < listed.size := by rw [hi.size]; exact hj
      simp only [Array.getD_eq_getD_getElem?, Array.getElem?_eq_getElem h2, Option.getD_some] at h1 ⊢
      exact h1
    refine ⟨?_, h a w _ (fun j hj => hl j (by simpa using hj)) hv.c hv.size hv.defers (fun t => ?_) (fun j oj hoj => hv.phi j oj hoj (hl j (Array.getElem?_eq_some_iff.1 hoj).1))⟩
    · cases hr : Region.ready .any l.toArray listed with
      | nil => rfl
      | cons i r =>
        have him : i ∈ Region.ready .any l.toArray listed := by rw [hr]; simp
        obtain ⟨hil, o, ho, _⟩ := mem_ready.1 him
        have := hall i (Array.getElem?_eq_some_iff.1 ho).1
        rw [hil] at this
        cases this
    · unfold endG
      cases hs : srcOf l.toArray l.toArray.size t with
      | none => exact hv.out t hs
      | some j =>
        obtain ⟨hjn, oj, hoj, hdj⟩ := srcOf_some hs
        have := hv.phi j oj hoj (hl j hjn)
        unfold dslo at this
        rw [hdj] at this
        exact this) l.toArray.size (Array.replicate l.toArray.size false) a0 { W with drawn := W.drawn + 1 }
    ⟨by simp, fun j oj _ hl => (by rw [getD_replicate_false] at hl; cases hl), fun t ht ht' => absurd ht' (by omega)⟩
    ⟨by
      have e : (fun j => (Array.replicate l.toArray.size false).getD j false) = fun _ => false := funext fun j => getD_replicate_false _ _
      rw [e]; exact hC0, rfl, rfl, fun _ _ => rfl, fun j oj _ hl => (by rw [getD_replicate_false] at hl; cases hl), fun _ _ _ _ _ _ => rfl⟩ (by
      unfold cntU
      rw [List.countP_eq_length.2 fun i hi => by
        rw [getD_in (by simpa using List.mem_range.1 hi) (getD_replicate_false _ _)]; rfl]
      simp)
  simpa using this
theorem fl_link {ops : Array Oper} {Φ : Nat → Value → World → Prop} {lnk : Nat → Option Tmp} {a : Act} {w : World} (h : ∀ j oj, ops[j]? = some oj → outP (Φ j) a w (dslo lnk j oj)) {j : Nat} {oj : Oper} (ho : ops[j]? = some oj) (hd : oj.dst = none) {s : Tmp} (hk : lnk j = some s) : Φ j (a.tmps[s]?.getD undef) w := by
  have h1 := h j oj ho
  unfold dslo at h1
  rw [hd, hk] at h1
  have h2 : Φ j (a.eval (.tmp s)) w := h1
  rwa [show a.eval (.tmp s) = a.tmps[s]?.getD undef by simp [Act.eval]] at h2
end Go.Proofs.Ytamcfmfkmekkfaa
