/- Part of the proof: Pnx. No conditions. -/
import Derived.Test.YtbhoofihnmmmfabGreatYbm
namespace Go.Proofs.YtbhoofihnmmmfabGreat
open Go.RowKit Go
@[go_sem] theorem eqSet9 (a b c d a' b' c' d' : Int) (w : World) :
 (Op.equalIn 9999 53 (.agg #[.int .u64 a, .int .u64 b, .int .u64 c, .int .u64 d]) (.agg #[.int .u64 a', .int .u64 b', .int .u64 c', .int .u64 d'])).run Tryz.prog w = .ok (same4 a b c d a' b' c' d') w := by
 have u3 := Tryz.underlying40
 have a3 := Tryz.isAgg40
 have z3 := Tryz.sizeOf40
 rw [show (9999 : Nat) = 9998 + 1 from rfl, Op.equalIn]
 simp only [Sem.run_bind, run_underlying Tryz.underlying53, Result.andThen_ok]
 simp only [Std.Legacy.Range.forIn_eq_forIn_range', Std.Legacy.Range.size, Nat.sub_zero, Nat.add_sub_cancel, Nat.div_one, List.range'_succ, List.range'_zero, List.forIn_cons, List.forIn_nil]
 go_simp
 by_cases h1 : a = a' <;> by_cases h2 : b = b' <;> by_cases h3 : c = c' <;> by_cases h4 : d = d' <;> simp [h1, h2, h3, h4, same4]
theorem take_map1 {α : Type} (f : α → ByteArray) {L : List α} {i : Nat} (h1 : 1 ≤ i) (hi : i < L.length) {x : α} (hx : L[i] = x) : [objR] ++ ((L.take (i + 1)).drop 1).map f = [objR] ++ ((L.take i).drop 1).map f ++ [f x] := by
 rw [List.take_succ_eq_append_getElem hi, hx, List.drop_append_of_le_length (by simp; omega), List.map_append, List.append_assoc]; rfl
set_option maxRecDepth 100000 in
set_option maxHeartbeats 16000000 in
theorem nroles_c (q : PV) (p : PP) (w : World) (hP : PolV w q p) (hsm : SmP p) : Calls Tryz.prog 27 #[q.val] w fun e w' => ∃ c : Int, e = .returned (.int .i64 c) ∧ Below w.heap.size w w' := by
 have HSM := Lib.hid hsm
 have qros : ((32 : Int) < (p.ros.length : Int)) = False := eq_false (by have := HSM.out.ros; omega)
 have hIros : (p.ros.length : Int) ≤ 9223372036854775807 := by have := HSM.out.ros; omega
 have hItys : (p.tys.length : Int) ≤ 9223372036854775807 := by have := HSM.out.tys; omega
 obtain ⟨a1, c1, e1⟩ := hP.tys.form
 have E1 := Lib.hid e1
 clear e1
 obtain ⟨a3, c3, e3⟩ := hP.ros.form
 have E3 := Lib.hid e3
 clear e3
 obtain ⟨W, ZW⟩ : ∃ v, Hid ((w.alloc (.cells #[q.v0, q.v1, q.v2, q.v3, q.v4, q.v5, q.v6, q.v7, q.v8, q.v9, q.v10, q.v11, q.v12, q.v13, q.v14, q.v15, q.v16] 39)) = v) := ⟨_, Lib.hid rfl⟩
 have HB : Hid (Below w.heap.size w W) := by cases ZW.out; exact Lib.hid ((Below.refl _ _).alloc (Nat.le_refl _) _)
 have HX0 : Hid (Blk W (w.heap.size) 39 #[q.v0, q.v1, q.v2, q.v3, q.v4, q.v5, q.v6, q.v7, q.v8, q.v9, q.v10, q.v11, q.v12, q.v13, q.v14, q.v15, q.v16]) := by cases ZW.out; exact Lib.hid (Blk.here (by simp))
 have HQ : Hid (PolV W q p) := by cases ZW.out; exact Lib.hid (hP.keep HB.out)
 have HLE : Hid (w.heap.size ≤ W.heap.size) := by cases ZW.out; exact Lib.hid HB.out.size
 try unfold PV.val
 go_enter Tryz.func27, Tryz.ntmps27
 go_upto_region 1 with fail
 rw [ZW.out]
 generalize hg0 : w.heap.size = g0 at *
 have HR1 : Hid (∀ u, Kp W u → u.cell? ⟨g0, 1, none⟩ = some (.slice a1 p.tys.length c1)) := Lib.hid (fun u hu => pol_cell (HX0.out.keep hu) rfl E1.out)
 have HR3 : Hid (∀ u, Kp W u → u.cell? ⟨g0, 3, none⟩ = some (.slice a3 p.ros.length c3)) := Lib.hid (fun u hu => pol_cell (HX0.out.keep hu) rfl E3.out)
 generalize Value.agg #[q.v0, q.v1, q.v2, q.v3, q.v4, q.v5, q.v6, q.v7, q.v8, q.v9, q.v10, q.v11, q.v12, q.v13, q.v14, q.v15, q.v16] = P0
 clear hP
 have HL3 : Hid (SlR 9 CRo W (.slice a3 p.ros.length c3) p.ros) := Lib.hid (by rw [← E3.out]; exact HQ.out.ros)
 have r3 := HR3.out W Kp.rfl'
 have r1 := HR1.out W Kp.rfl'
 obtain ⟨tall, htall⟩ : ∃ t, allS p.tys.length = t := ⟨_, rfl⟩
 have HCA : Hid (∀ u, Kp W u → Calls Tryz.prog 51 #[.int .i64 p.tys.length] u fun e w' => e = .returned (.agg #[.int .u64 tall.a, .int .u64 tall.b, .int .u64 tall.c, .int .u64 tall.d]) ∧ Below u.heap.size u w') := Lib.hid (fun u hu => by rw [← htall]; exact rall_c _ u (by omega) hItys)
 clear htall
 by_cases hl0 : p.ros.length = 0
 · have q0 : ((p.ros.length : Int) == 0) = true := by rw [beq_iff_eq]; omega
   clear hl0
   go_upto_region 4 with (go_at_call 51; (with_reducible refine (HCA.out _ Kp.rfl').mono ?_); rintro e V1 ⟨rfl, hb⟩; have HBV1 := Lib.hid hb; clear hb)
   obtain ⟨WT, hWT⟩ : ∃ u, V1.alloc (.cells #[.int .u64 tall.a, .int .u64 tall.b, .int .u64 tall.c, .int .u64 tall.d] 53) = u := ⟨_, rfl⟩
   have HT0 : Hid (Blk WT V1.heap.size 53 #[.int .u64 tall.a, .int .u64 tall.b, .int .u64 tall.c, .int .u64 tall.d]) := Lib.hid (by rw [← hWT]; exact Blk.new _ _ _)
   have HKT : Hid (Kp W WT) := Lib.hid (by rw [← hWT]; exact Kp.alloc HBV1.out _)
   rw [hWT]
   have HGT0 : Hid (W.heap.size ≤ V1.heap.size) := Lib.hid HBV1.out.size
   generalize V1.heap.size = gt at *
   clear hWT r1 r3
   have HGT : Hid (W.heap.size ≤ gt) := HGT0
   have HFT := Lib.hid (HB.out.trans (Below.mono HKT.out HLE.out))
   have r3 := HR3.out WT HKT.out
   go_wp2_with fail
   go_ret
   first | exact ⟨⟨_, rfl⟩, HFT.out⟩ | exact ⟨⟨_, rfl⟩, by rw [hg0]; exact HFT.out⟩ | exact ⟨_, rfl, HFT.out⟩ | exact ⟨_, rfl, by rw [hg0]; exact HFT.out⟩
 · have q0 : ((p.ros.length : Int) == 0) = false := by rw [beq_eq_false_iff_ne]; omega
   have h0l : 0 < p.ros.length := by omega
   have h0I : (0 : Int) < (p.ros.length : Int) := by omega
   clear hl0
   obtain ⟨x, hx⟩ : ∃ x, p.ros[0] = x := ⟨_, rfl⟩
   obtain ⟨g, oo, hak, hg, hE⟩ := HL3.out.row h0l
   subst hak
   have hE1 := hE 0 h0l
   rw [hx] at hE1
   simp only [Nat.zero_mul, Nat.add_zero] at hE1
   have HE0 : Hid (∀ u, Kp W u → CRo u g oo x) := Lib.hid (fun u hu => hE1.keep hu hg)
   clear hx hg hE hE1
   go_upto_region 4 with (go_at_call 51; (with_reducible refine (HCA.out _ Kp.rfl').mono ?_); rintro e V1 ⟨rfl, hb⟩; have HBV1 := Lib.hid hb; clear hb)
   obtain ⟨WT, hWT⟩ : ∃ u, V1.alloc (.cells #[.int .u64 tall.a, .int .u64 tall.b, .int .u64 tall.c, .int .u64 tall.d] 53) = u := ⟨_, rfl⟩
   have HT0 : Hid (Blk WT V1.heap.size 53 #[.int .u64 tall.a, .int .u64 tall.b, .int .u64 tall.c, .int .u64 tall.d]) := Lib.hid (by rw [← hWT]; exact Blk.new _ _ _)
   have HKT : Hid (Kp W WT) := Lib.hid (by rw [← hWT]; exact Kp.alloc HBV1.out _)
   rw [hWT]
   have HGT0 : Hid (W.heap.size ≤ V1.heap.size) := Lib.hid HBV1.out.size
   generalize V1.heap.size = gt at *
   clear hWT r1 r3
   have HGT : Hid (W.heap.size ≤ gt) := HGT0
   have HFT := Lib.hid (HB.out.trans (Below.mono HKT.out HLE.out))
   have r3 := HR3.out WT HKT.out
   obtain ⟨m0, m1, m2, m3, m4, m5, m6, m7, m8, -⟩ := HE0.out WT HKT.out
   obtain ⟨nb, hnb⟩ : ∃ z, (x.n.toList == [111, 98, 106, 101, 99, 116, 95, 114]) = z := ⟨_, rfl⟩
   obtain ⟨e1, he1⟩ : ∃ z, same4 x.ts.a x.ts.b x.ts.c x.ts.d 0 0 0 0 = z := ⟨_, rfl⟩
   obtain ⟨e2, he2⟩ : ∃ z, same4 x.nx.a x.nx.b x.nx.c x.nx.d 0 0 0 0 = z := ⟨_, rfl⟩
   cases nb <;> cases e1 <;> cases e2
   all_goals first
    | (go_wp2_with fail; go_ret; (first | exact ⟨⟨_, rfl⟩, HFT.out⟩ | exact ⟨⟨_, rfl⟩, by rw [hg0]; exact HFT.out⟩ | exact ⟨_, rfl, HFT.out⟩ | exact ⟨_, rfl, by rw [hg0]; exact HFT.out⟩); done)
    | skip
   all_goals clear m0 m1 m2 m3 m4 m5 m6 m7 m8 r3
   have HTB : Hid (∀ u, Kp WT u → Blk u gt 53 #[.int .u64 tall.a, .int .u64 tall.b, .int .u64 tall.c, .int .u64 tall.d]) := Lib.hid (fun u hu => HT0.out.keep hu)
   have HCAW := HCA
   have HR3W : Hid (∀ u, Kp WT u → u.cell? ⟨g0, 3, none⟩ = some (.slice (some ⟨g, oo, none⟩) p.ros.length c3)) := Lib.hid (fun u hu => HR3.out u (kp_trans HKT.out hu))
   have HR1W : Hid (∀ u, Kp WT u → u.cell? ⟨g0, 1, none⟩ = some (.slice a1 p.tys.length c1)) := Lib.hid (fun u hu => HR1.out u (kp_trans HKT.out hu))
   have HLEW : Hid (g0 ≤ WT.heap.size) := Lib.hid (Nat.le_trans HLE.out HKT.out.size)
   have HX0W := Lib.hid (HX0.out.keep HKT.out)
   have HE0W : Hid (∀ u, Kp WT u → CRo u g oo x) := Lib.hid (fun u hu => HE0.out u (kp_trans HKT.out hu))
   have HQW := Lib.hid (HQ.out.keep HKT.out)
   clear HB HLE HX0 HE0 HR1 HR3 HL3 HCA HKT HGT HGT0 HBV1 HT0 HQ HCAW
   have HB := HFT
   have HLE := HLEW
   have HX0 := HX0W
   have HE0 := HE0W
   have HR1 := HR1W
   have HR3 := HR3W
   have HQ := HQW
   clear HLEW HX0W HE0W HR1W HR3W HQW HFT
   generalize WT = W2 at *
   skip
   have HL3 : Hid (SlR 9 CRo W2 (.slice (some ⟨g, oo, none⟩) p.ros.length c3) p.ros) := Lib.hid (by rw [← E3.out]; exact HQ.out.ros)
   obtain ⟨WO, ZWO⟩ : ∃ v, Hid ((W2.alloc (.cells #[.string ⟨#[111, 98, 106, 101, 99, 116, 95, 114]⟩] 9)) = v) := ⟨_, Lib.hid rfl⟩
   have HKO : Hid (Kp W2 WO) := by cases ZWO.out; exact Lib.hid (Kp.alloc Kp.rfl' _)
   have HOO : Hid (OwnS WO W2.heap.size (.slice (some ⟨W2.heap.size, 0, none⟩) 1 1) ([objR] ++ ((p.ros.take 1).drop 1).map (·.n))) := by cases ZWO.out; exact Lib.hid (by rw [show ([objR] ++ ((p.ros.take 1).drop 1).map (·.n)) = [objR] by simp]; exact OwnS.lit (Blk.new _ _ _) (Nat.le_refl _))
   obtain ⟨m0, m1, m2, m3, m4, m5, m6, m7, m8, -⟩ := HE0.out W2 Kp.rfl'
   have r3 := HR3.out W2 Kp.rfl'
   go_wp2_with fail
   clear r3 m0 m1 m2 m3 m4 m5 m6 m7 m8
   rw [ZWO.out]
   go_loopw [4, 5] (fun vl vi wr => ∃ (i : Nat) (vv : Value), vv = vl ∧ 1 ≤ i ∧ i ≤ p.ros.length ∧ vi = .int .i64 i ∧ Hid (Kp W2 wr) ∧ Hid (OwnS wr W2.heap.size vv ([objR] ++ ((p.ros.take i).drop 1).map (·.n)))) (fun _ vi _ => p.ros.length - (intOf vi).toNat)
   case atStart => exact ⟨1, _, rfl, Nat.le_refl _, by omega, rfl, Lib.hid HKO.out, HOO⟩
   case round =>
    obtain ⟨i, v, rfl, hst, hi, rfl, HK, HO⟩ := hrel
    have r3 := HR3.out wr HK.out
    by_cases hlt : i < p.ros.length
    · have hlt' : (i : Int) < (p.ros.length : Int) := by omega
      obtain ⟨x, hx⟩ : ∃ x, p.ros[i] = x := ⟨_, rfl⟩
      have HXX := Lib.hid hx
      obtain ⟨g, oo, hak, hg, hE⟩ := HL3.out.row hlt
      first | subst hak | cases hak
      have hE1 := hE i hlt
      rw [hx] at hE1
      obtain ⟨m0, m1, m2, m3, m4, m5, m6, m7, m8, mw⟩ := hE1.keep HK.out hg
      have HMWW := Lib.hid mw
      clear hx hg hE hE1 mw
      have HMW := Lib.hid HMWW.out.1
      obtain ⟨T, hT⟩ : ∃ T, [objR] ++ ((p.ros.take i).drop 1).map (·.n) = T := ⟨_, rfl⟩
      have hTl : T.length = i := by rw [← hT]; simp; omega
      have HX : Hid ([objR] ++ ((p.ros.take (i + 1)).drop 1).map (·.n) = T ++ [x.n]) := Lib.hid (by rw [← hT]; exact take_map1 (·.n) hst hlt HXX.out)
      rw [hT] at HO
      have HTI := Lib.hid hTl
      obtain ⟨aoT, capT, rfl, -, -⟩ := HO.out.cap
      have HIL : Hid (i ≤ 8) := Lib.hid (by have := HSM.out.ros; omega)
      clear hT hTl
      go_upto_region 11 with fail
      obtain ⟨WX, hWX⟩ : ∃ u, wr.alloc (.cells #[.string x.n, .int .u64 x.ts.a, .int .u64 x.ts.b, .int .u64 x.ts.c, .int .u64 x.ts.d, .int .u64 x.nx.a, .int .u64 x.nx.b, .int .u64 x.nx.c, .int .u64 x.nx.d] 91) = u := ⟨_, rfl⟩
      have HBX : Hid (Blk WX wr.heap.size 91 #[.string x.n, .int .u64 x.ts.a, .int .u64 x.ts.b, .int .u64 x.ts.c, .int .u64 x.ts.d, .int .u64 x.nx.a, .int .u64 x.nx.b, .int .u64 x.nx.c, .int .u64 x.nx.d]) := Lib.hid (by rw [← hWX]; exact Blk.new _ _ _)
      have HKX : Hid (Kp W2 WX) := Lib.hid (by rw [← hWX]; exact HK.out.alloc _)
      have HOX : Hid (OwnS WX W2.heap.size (.slice aoT T.length capT) T) := Lib.hid (by rw [← hWX]; exact HO.out.alloc _)
      have HOB : Hid (∀ k, (Value.slice aoT T.length capT).ownBlock = some k → k < wr.heap.size) := Lib.hid (fun k e => (HO.out.lt k e).2)
      rw [hWX]
      clear r3 m0 m1 m2 m3 m4 m5 m6 m7 m8
      generalize wr.heap.size = gx at *
      clear hWX
      obtain ⟨c1, hc1⟩ : ∃ c, namesE [x.n] T = c := ⟨_, rfl⟩
      have b0 := HBX.out.cell 0
      have HCN : Hid (Calls Tryz.prog 48 #[.slice (some ⟨WX.heap.size, 0, none⟩) 1 1, .slice aoT T.length capT] (WX.alloc (.cells #[.string x.n] 9)) fun e w' => e = .returned (.int .i64 c1) ∧ Below (WX.alloc (.cells #[.string x.n] 9)).heap.size (WX.alloc (.cells #[.string x.n] 9)) w') := Lib.hid (by rw [← hc1]; exact nnames_c _ _ [x.n] T _ (Strs.one ((Blk.new WX 9 #[.string x.n]).cell 0)) CapOK.one (by obtain ⟨_, _, e, _, h⟩ := (HOX.out.alloc (.cells #[.string x.n] 9)).cap; cases e; exact h) (TxW.one HMW.out) (by unfold maxLen; simp) (by have := HTI.out; have := HIL.out; unfold maxLen; omega))
      clear hc1
      by_cases h1 : c1 = 0
      · have k1 : (c1 == 0) = true := by simpa using h1
        have k2 : (c1 != 0) = false := by simpa using h1
        go_upto_region 14 with (go_at_call 48; (with_reducible refine HCN.out.mono ?_); rintro e V ⟨rfl, hb1⟩; have HBV := Lib.hid (Below.trans ((Below.refl WX.heap.size WX).alloc (Nat.le_refl _) _) (hb1.mono (by simp))); clear hb1)
        clear b0
        have HKV : Hid (Kp W2 V) := Lib.hid (kp_trans HKX.out HBV.out)
        have HOV : Hid (OwnS V W2.heap.size (.slice aoT T.length capT) T) := Lib.hid (HOX.out.keep HBV.out)
        have HBW : Hid (Blk V gx 91 #[.string x.n, .int .u64 x.ts.a, .int .u64 x.ts.b, .int .u64 x.ts.c, .int .u64 x.ts.d, .int .u64 x.nx.a, .int .u64 x.nx.b, .int .u64 x.nx.c, .int .u64 x.nx.d]) := Lib.hid (HBX.out.keep HBV.out)
        have b0 := HBW.out.cell 0
        go_upto_region 15 with (at_builtin; refine wpList_name rfl _ _ rfl rfl (HOV.out.alloc _) rfl ((Blk.new V 9 #[.string x.n]).cell 0) (by have := HTI.out; have := HIL.out; omega) (by have := HKV.out.size; simp; omega) ?_; intro v2 V2 hO2 hB2 hk2; have HO2 := Lib.hid hO2; have HK2 : Hid (Kp W2 V2) := Lib.hid ((HKV.out.alloc _).trans hB2); have HB2 : Hid (Blk V2 gx 91 #[.string x.n, .int .u64 x.ts.a, .int .u64 x.ts.b, .int .u64 x.ts.c, .int .u64 x.ts.d, .int .u64 x.nx.a, .int .u64 x.nx.b, .int .u64 x.nx.c, .int .u64 x.nx.d]) := Lib.hid ((hk2 gx (by have := HBW.out.lt; simp; omega) (fun e => by have := HOB.out _ e; omega)).trans (HBW.out.alloc _)); clear hO2 hB2 hk2)
        clear b0
        have HBU : Hid (∀ u, Kp V2 u → Blk u gx 91 #[.string x.n, .int .u64 x.ts.a, .int .u64 x.ts.b, .int .u64 x.ts.c, .int .u64 x.ts.d, .int .u64 x.nx.a, .int .u64 x.nx.b, .int .u64 x.nx.c, .int .u64 x.nx.d]) := Lib.hid (fun u hu => HB2.out.keep hu)
        have HWX : Hid (∀ u, Kp V2 u → Kp W2 u) := Lib.hid (fun u hu => kp_trans HK2.out hu)
        obtain ⟨w1, hw1⟩ : ∃ z, wiB x.ts tall = z := ⟨_, rfl⟩
        obtain ⟨w2, hw2⟩ : ∃ z, procB p x.nx = z := ⟨_, rfl⟩
        have HC1 : Hid (∀ u, Kp W2 u → Calls Tryz.prog 52 #[.agg #[.int .u64 x.ts.a, .int .u64 x.ts.b, .int .u64 x.ts.c, .int .u64 x.ts.d], .agg #[.int .u64 tall.a, .int .u64 tall.b, .int .u64 tall.c, .int .u64 tall.d]] u fun e w' => e = .returned (.bool w1) ∧ Below u.heap.size u w') := Lib.hid (fun u hu => by rw [← hw1]; exact rwithin_c _ _ _ _ _ _ _ _ u)
        have HC2 : Hid (∀ u, Kp W2 u → Calls Tryz.prog 53 #[q.val, .agg #[.int .u64 x.nx.a, .int .u64 x.nx.b, .int .u64 x.nx.c, .int .u64 x.nx.d]] u fun e w' => e = .returned (.bool w2) ∧ Below u.heap.size u w') := Lib.hid (fun u hu => by rw [← hw2]; exact nproc_c q p x.nx u (HQ.out.keep hu) (by have := HSM.out.ros; omega))
        try clear hw1 hw2
        all_goals refine wp_region_kq ?_
        repeat' (first | go_big_quiet_skip | (go_big_quiet_want; first | (refine quiet_load (t := 39) (.tmp 1) rfl rfl (fun w1 hC => loadAt_pol (HX0.out.keep (HWX.out _ hC))) ?_; simp only [Act.put, List.setIfInBounds_toArray, List.set_cons_succ, List.set_cons_zero]; go_big_quiet_on) | (go_big_quiet_op; first | go_big_quiet_on | (apply Exists.intro; refine ⟨fun w1 hC => ?_, ?_⟩; (first | (go_at_call 52; with_reducible exact hC.call (HC1.out _ (HWX.out _ hC))) | (go_at_call 53; with_reducible exact hC.call (HC2.out _ (HWX.out _ hC))) | (have z0 := (HBU.out w1 hC).cell 0; have z1 := (HBU.out w1 hC).cell 1; have z2 := (HBU.out w1 hC).cell 2; have z3 := (HBU.out w1 hC).cell 3; have z4 := (HBU.out w1 hC).cell 4; have z5 := (HBU.out w1 hC).cell 5; have z6 := (HBU.out w1 hC).cell 6; have z7 := (HBU.out w1 hC).cell 7; have z8 := (HBU.out w1 hC).cell 8; go_simp; exact rfl) | (have y0 := (HTB.out w1 (HWX.out _ hC)).cell 0; have y1 := (HTB.out w1 (HWX.out _ hC)).cell 1; have y2 := (HTB.out w1 (HWX.out _ hC)).cell 2; have y3 := (HTB.out w1 (HWX.out _ hC)).cell 3; go_simp; exact rfl) | exact rfl | (go_simp; exact ⟨rfl, rfl⟩)); go_big_quiet_on))) | (cases w1 <;> try simp only [Bool.not_true, Bool.not_false]) | (cases w2 <;> try simp only [Bool.not_true, Bool.not_false]))
        all_goals refine wpQuiet_nil ?_
        all_goals intro ZW1 hC
        all_goals have HF1 := Lib.hid (HB.out.trans (Below.mono (HWX.out _ hC) HLE.out))
        all_goals have HT1 : Hid (∀ u, Kp ZW1 u → Kp W2 u) := Lib.hid (fun u hu => kp_trans (HWX.out _ hC) hu)
        all_goals have HY1 : Hid (∀ u, Kp ZW1 u → Kp V2 u) := Lib.hid (fun u hu => kp_trans hC hu)
        all_goals clear hC
        all_goals first
         | (go_wp2_with fail
            go_ret
            first | exact ⟨⟨_, rfl⟩, HF1.out⟩ | exact ⟨⟨_, rfl⟩, by rw [hg0]; exact HF1.out⟩ | exact ⟨_, rfl, HF1.out⟩ | exact ⟨_, rfl, by rw [hg0]; exact HF1.out⟩
            done)
         | (go_wp2_with fail
            go_roundw
            case rel => exact ⟨i + 1, _, rfl, by omega, hlt, by go_num, Lib.hid (HT1.out _ Kp.rfl'), Lib.hid (by rw [HX.out]; exact HO2.out.keep (HY1.out _ Kp.rfl'))⟩
            case measure => simp [intOf]; omega)
      · have k1 : (c1 == 0) = false := by simpa using h1
        have k2 : (c1 != 0) = true := by simpa using h1
        clear h1
        go_wp2_with (go_at_call 48; (with_reducible refine HCN.out.mono ?_); rintro e V ⟨rfl, hb1⟩; have HBV := Lib.hid (Below.trans ((Below.refl WX.heap.size WX).alloc (Nat.le_refl _) _) (hb1.mono (by simp))); clear hb1)
        have HF := Lib.hid (HB.out.trans (Below.mono (kp_trans HKX.out HBV.out) HLE.out))
        go_ret
        first | exact ⟨⟨_, rfl⟩, HF.out⟩ | exact ⟨⟨_, rfl⟩, by rw [hg0]; exact HF.out⟩ | exact ⟨_, rfl, HF.out⟩ | exact ⟨_, rfl, by rw [hg0]; exact HF.out⟩
    · have hlt' : ¬ (i : Int) < (p.ros.length : Int) := by omega
      have HF := Lib.hid (HB.out.trans (Below.mono HK.out HLE.out))
      go_wp2_with fail
      go_ret
      first | exact ⟨⟨_, rfl⟩, HF.out⟩ | exact ⟨⟨_, rfl⟩, by rw [hg0]; exact HF.out⟩ | exact ⟨_, rfl, HF.out⟩ | exact ⟨_, rfl, by rw [hg0]; exact HF.out⟩
end Go.Proofs.YtbhoofihnmmmfabGreat
