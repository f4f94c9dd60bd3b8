/- Part of the proof: Cyz Cza Pnm Pnw. No conditions. -/
import Derived.Test.YtbhoofihnmmmfabGreatYbl
import Derived.Test.YtbhoofihnmmmfabGreatYbf
import Derived.Test.YtbhoofihnmmmfabGreatYbg
namespace Go.Proofs.YtbhoofihnmmmfabGreat
open Go.RowKit Go
open Go.RowKit Go
section
variable {P : Program} {ops : Array Oper} {Q : Exit → Act → World → Prop} {a : Act} {w : World} {rest : List Oper} {o : Oper}
theorem wpList_val (hw : Region.wanted o (yielded ops a.tmps) = true) (h : ∃ v w', (execOp a.eval o).run P w = .ok (.value v) w' ∧ wpList P ops Q rest (a.put o.dst v) w') : wpList P ops Q (o :: rest) a w := by
 obtain ⟨v, w', h1, h2⟩ := h
 unfold wpList
 rw [if_pos hw]
 refine .inl ?_
 unfold Oper.wp
 rw [h1]
 exact h2
theorem wpList_enter {v : Value} {f : FuncId} {args : Array Value} (hw : Region.wanted o (yielded ops a.tmps) = true) (h : (execOp a.eval o).run P w = .ok (.enter f args) w) (hc : Calls P f args w fun e w' => e = .returned v ∧ Below w.heap.size w w')
 (hK : ∀ w', Below w.heap.size w w' → wpList P ops Q rest (a.put o.dst v) w') : wpList P ops Q (o :: rest) a w := by
 unfold wpList
 rw [if_pos hw]
 refine .inl ?_
 unfold Oper.wp
 rw [h]
 refine hc.mono ?_
 rintro e w' ⟨rfl, hb⟩
 exact hK w' hb
end
theorem u0 : U64 S4.zero.a ∧ U64 S4.zero.b ∧ U64 S4.zero.c ∧ U64 S4.zero.d := by unfold U64; decide
theorem xw_of (op a r b : Int) (k : Nat) (h1 : 0 ≤ op ∧ op < 100) (h2 : 0 ≤ a ∧ a < 100) (h3 : 0 ≤ r ∧ r < 100) (h4 : 0 ≤ b ∧ b < 100) (hk : k ≤ 2) : XW op a r b [] S4.zero k := by
 have i : ∀ n : Int, 0 ≤ n ∧ n < 100 → I64 n := fun n h => by unfold I64; omega
 exact ⟨i _ h1, i _ h2, i _ h3, i _ h4, (by intro s hs; cases hs), u0, Nat.zero_le _, Nat.le_trans hk (by unfold maxLen; omega)⟩
open Go.RowKit Go
theorem tyNm_app (a b : List PTy) : tyNm (a ++ b) = tyNm a ++ tyNm b := by unfold tyNm; rw [List.flatMap_append]
theorem tyNm_take {L : List PTy} {i : Nat} (hi : i < L.length) {x : PTy} (hx : L[i] = x) : tyNm (L.take (i + 1)) = tyNm (L.take i) ++ [x.n] ++ x.al := by
 rw [List.take_succ_eq_append_getElem hi, hx, tyNm_app]; simp [tyNm]
theorem tyNm_len {L : List PTy} {m : Nat} (h : ∀ t ∈ L, t.al.length ≤ 4) (hl : L.length ≤ m) : (tyNm L).length ≤ 5 * m := by
 induction L generalizing m with
 | nil => simp [tyNm]
 | cons t r ih =>
   cases m with
   | zero => simp at hl
   | succ m =>
     have := ih (m := m) (fun t ht => h t (List.mem_cons_of_mem _ ht)) (by simpa using hl)
     have h4 := h t List.mem_cons_self
     simp only [tyNm, List.flatMap_cons, List.length_append, List.length_cons] at this ⊢
     omega
set_option maxRecDepth 100000 in
set_option maxHeartbeats 16000000 in
theorem ntypeNames_c (q : PV) (p : PP) (n : Nat) (w : World) (hP : PolV w q p) (hsm : SmP p) (hn : n ≤ p.tys.length) : Calls Tryz.prog 49 #[q.val, .int .i64 n] w fun e w' => ∃ v, e = .returned v ∧ OwnS w' w.heap.size v (tyNm (p.tys.take n)) ∧ Below w.heap.size w w' := by
 have HSM := Lib.hid hsm
 have HNL := Lib.hid hn
 have hnI : (n : Int) ≤ 9223372036854775807 := by have := HSM.out.tys; omega
 obtain ⟨a1, c1, e1⟩ := hP.tys.form
 have E1 := Lib.hid e1
 clear e1
 obtain ⟨W, ZW⟩ : ∃ v, Hid ((w.alloc (.cells #[q.v0, q.v1, q.v2, q.v3, q.v4, q.v5, q.v6, q.v7, q.v8, q.v9, q.v10, q.v11, q.v12, q.v13, q.v14, q.v15, q.v16] 39)) = v) := ⟨_, Lib.hid rfl⟩
 have HB : Hid (Below w.heap.size w W) := by cases ZW.out; exact Lib.hid ((Below.refl _ _).alloc (Nat.le_refl _) _)
 have HX0 : Hid (Blk W (w.heap.size) 39 #[q.v0, q.v1, q.v2, q.v3, q.v4, q.v5, q.v6, q.v7, q.v8, q.v9, q.v10, q.v11, q.v12, q.v13, q.v14, q.v15, q.v16]) := by cases ZW.out; exact Lib.hid (Blk.here (by simp))
 have HQ : Hid (PolV W q p) := by cases ZW.out; exact Lib.hid (hP.keep HB.out)
 have HLE : Hid (w.heap.size ≤ W.heap.size) := by cases ZW.out; exact Lib.hid HB.out.size
 try unfold PV.val
 go_enter Tryz.func49, Tryz.ntmps49
 go_upto_region 1 with fail
 rw [ZW.out]
 generalize hg0 : w.heap.size = g0 at *
 have HR1 : Hid (∀ u, Kp W u → u.cell? ⟨g0, 1, none⟩ = some (.slice a1 p.tys.length c1)) := Lib.hid (fun u hu => pol_cell (HX0.out.keep hu) rfl E1.out)
 generalize Value.agg #[q.v0, q.v1, q.v2, q.v3, q.v4, q.v5, q.v6, q.v7, q.v8, q.v9, q.v10, q.v11, q.v12, q.v13, q.v14, q.v15, q.v16] = P0
 clear hP hn
 have HL : Hid (SlR 3 CTyA W (.slice a1 p.tys.length c1) p.tys) := Lib.hid (by rw [← E1.out]; exact HQ.out.tys)
 go_wp2_with fail
 go_loopw [5, 6] (fun vl vi wr => ∃ (i : Nat) (vv : Value), vv = vl ∧ i ≤ n ∧ vi = .int .i64 i ∧ Hid (Kp W wr) ∧ Hid (OwnS wr W.heap.size vv (tyNm (p.tys.take i)))) (fun _ vi _ => n - (intOf vi).toNat)
 case atStart => exact ⟨0, _, rfl, Nat.zero_le _, rfl, Lib.hid Kp.rfl', Lib.hid (by exact OwnS.nil)⟩
 case round =>
  obtain ⟨i, v, rfl, hi, rfl, HK, HO⟩ := hrel
  by_cases hlt : i < n
  · have hlt' : (i : Int) < (n : Int) := by omega
    have hltn : i < p.tys.length := by have := HNL.out; omega
    have hlti : (i : Int) < (p.tys.length : Int) := by omega
    have hlI : (p.tys.length : Int) ≤ 9223372036854775807 := by have := HSM.out.tys; omega
    obtain ⟨x, hx⟩ : ∃ x, p.tys[i] = x := ⟨_, rfl⟩
    have HX := Lib.hid (tyNm_take hltn hx)
    have HLN : Hid ((tyNm (p.tys.take i)).length ≤ 60) := Lib.hid (by have h12 := HSM.out.tys; exact tyNm_len (m := 12) (fun t ht => HSM.out.als t (List.mem_of_mem_take ht)) (by simp; omega))
    have HAL : Hid (x.al.length ≤ 4) := Lib.hid (by rw [← hx]; exact HSM.out.als _ (List.getElem_mem hltn))
    obtain ⟨g, oo, hak, hg, hE⟩ := HL.out.row hltn
    subst hak
    have hE1 := hE i hltn
    rw [hx] at hE1
    have HE : Hid (∀ u, Kp W u → CTyA u g (oo + i * 3) x) := Lib.hid (fun u hu => hE1.keep hu hg)
    have hEr := HE.out wr HK.out
    have m0 : wr.cell? ⟨g, oo + i * 3, none⟩ = some (.string x.n) := hEr.1.1
    have r1 := HR1.out wr HK.out
    obtain ⟨T, hT⟩ : ∃ T, tyNm (p.tys.take i) = T := ⟨_, rfl⟩
    rw [hT] at HO HX HLN
    obtain ⟨aoT, capT, rfl, -, -⟩ := HO.out.cap
    clear hx hg hE hE1 hT hEr
    go_upto_region 6 with (at_builtin; refine wpList_name rfl _ _ rfl rfl (HO.out.alloc _) rfl ((Blk.new wr 9 #[.string x.n]).cell 0) (by have := HLN.out; omega) (by have := HK.out.size; simp; omega) ?_; intro v2 V2 hO2 hB2 hk2; have HO2 := Lib.hid hO2; have HK2 : Hid (Kp W V2) := Lib.hid ((HK.out.alloc _).trans hB2); clear hO2 hB2 hk2)
    clear m0 r1
    have r1 := HR1.out V2 HK2.out
    obtain ⟨⟨-, ⟨va, m1, ms⟩, -⟩, va2, m2, m3, m4⟩ := HE.out V2 HK2.out
    obtain rfl : va = va2 := by rw [m1] at m2; exact Option.some.inj m2
    obtain ⟨ap, cp, e, -⟩ := m4
    subst e
    have HSA := Lib.hid ms
    have HAD := Lib.hid m3
    obtain ⟨ao2, cap2, e2, -, -⟩ := HO2.out.cap
    subst e2
    clear m2 m3 ms
    have HL2 : Hid ((T ++ [x.n]).length + x.al.length ≤ 1000000) := Lib.hid (by have := HLN.out; have := HAL.out; simp; omega)
    go_wp2_with (at_builtin; refine wpList_names rfl _ _ rfl rfl HO2.out rfl HSA.out HAD.out HL2.out HK2.out.size ?_; intro v3 V3 hO3 hB3 hk3; have HO3 := Lib.hid hO3; have HK3 : Hid (Kp W V3) := Lib.hid (HK2.out.trans hB3); clear hO3 hB3 hk3)
    go_roundw
    case rel => exact ⟨i + 1, _, rfl, hlt, by go_num, HK3, Lib.hid (by rw [HX.out]; exact HO3.out)⟩
    case measure => simp [intOf]; omega
  · have hlt' : ¬ (i : Int) < (n : Int) := by omega
    obtain rfl : i = n := by omega
    have HF := Lib.hid (HB.out.trans (Below.mono HK.out HLE.out))
    have HF2 := Lib.hid (HO.out.mono HLE.out)
    go_wp2_with fail
    go_ret
    exact ⟨_, rfl, by first | exact HF2.out | (rw [hg0]; exact HF2.out), by first | exact HF.out | (rw [hg0]; exact HF.out)⟩
open Go.RowKit Go
theorem OwnS.lit {w : World} {base g : Nat} {x : ByteArray} (h : Blk w g 9 #[.string x]) (hb : base ≤ g) : OwnS w base (.slice (some ⟨g, 0, none⟩) 1 1) [x] :=
 ⟨rfl, .inr ⟨g, 1, #[.string x], rfl, hb, h, Nat.le_refl _, by decide, rfl, rfl⟩⟩
section
variable {P : Program} {o : Oper} {a : Act} {w : World} {ops : Array Oper} {rest : List Oper} {Q : Exit → Act → World → Prop}
theorem wpList_enterE {R : Value → World → Prop} {f : FuncId} {args : Array Value} (hw : Region.wanted o (yielded ops a.tmps) = true) (h : (execOp a.eval o).run P w = .ok (.enter f args) w) (hc : Calls P f args w fun e w' => ∃ v, e = .returned v ∧ R v w')
 (hK : ∀ v w', R v w' → wpList P ops Q rest (a.put o.dst v) w') : wpList P ops Q (o :: rest) a w := by
 unfold wpList
 rw [if_pos hw]
 refine .inl ?_
 unfold Oper.wp
 rw [h]
 refine hc.mono ?_
 rintro e w' ⟨v, rfl, hr⟩
 exact hK v w' hr
end
def tyPhi (g0 g oo n c1 i : Nat) (nm : ByteArray) (va : Value) (W : World) : Nat → Value → World → Prop
 | 0, v, _ => v = .pointer (some ⟨g0, 1, none⟩)
 | 1, v, _ => v = .slice (some ⟨g, oo, none⟩) n c1
 | 2, v, _ => v = .int .i64 i
 | 3, v, _ => v = .pointer (some ⟨g, oo + i * 3, none⟩)
 | 4, v, _ => v = .pointer (some ⟨g, oo + i * 3, none⟩)
 | 5, v, _ => v = .string nm
 | 6, v, w => ∃ h, v = .slice (some ⟨h, 0, none⟩) 1 1 ∧ W.heap.size ≤ h ∧ Blk w h 9 #[.string nm]
 | 7, v, _ => v = .pointer (some ⟨g0, 1, none⟩)
 | 8, v, _ => v = .slice (some ⟨g, oo, none⟩) n c1
 | 9, v, _ => v = .int .i64 i
 | 10, v, _ => v = .pointer (some ⟨g, oo + i * 3, none⟩)
 | 11, v, _ => v = .pointer (some ⟨g, oo + i * 3 + 1, none⟩)
 | 12, v, _ => v = va
 | _, _, _ => True
theorem tyPhi_keep {g0 g oo n c1 i : Nat} {nm : ByteArray} {va : Value} {W : World} : ∀ {k : Nat} {v : Value} {w w' : World}, tyPhi g0 g oo n c1 i nm va W k v w → Below w.heap.size w w' → tyPhi g0 g oo n c1 i nm va W k v w'
 | 0, _, _, _, h, _ => h
 | 1, _, _, _, h, _ => h
 | 2, _, _, _, h, _ => h
 | 3, _, _, _, h, _ => h
 | 4, _, _, _, h, _ => h
 | 5, _, _, _, h, _ => h
 | 6, _, _, _, ⟨h, e, l, b⟩, hb => ⟨h, e, l, b.keep hb⟩
 | 7, _, _, _, h, _ => h
 | 8, _, _, _, h, _ => h
 | 9, _, _, _, h, _ => h
 | 10, _, _, _, h, _ => h
 | 11, _, _, _, h, _ => h
 | 12, _, _, _, h, _ => h
 | _ + 13, _, _, _, _, _ => trivial
set_option maxRecDepth 100000 in
set_option maxHeartbeats 16000000 in
theorem ntypes_c (q : PV) (p : PP) (w : World) (hP : PolV w q p) (hsm : SmP p) : Calls Tryz.prog 26 #[q.val] w fun e w' => ∃ c : Int, e = .returned (.int .i64 c) ∧ Below w.heap.size w w' := by
 have HSM := Lib.hid hsm
 have qtys : ((256 : Int) < (p.tys.length : Int)) = False := eq_false (by have := HSM.out.tys; omega)
 have hItys : (p.tys.length : Int) ≤ 9223372036854775807 := by have := HSM.out.tys; omega
 have qats : ((64 : Int) < (p.ats.length : Int)) = False := eq_false (by have := HSM.out.ats; omega)
 have hIats : (p.ats.length : Int) ≤ 9223372036854775807 := by have := HSM.out.ats; omega
 obtain ⟨a1, c1, e1⟩ := hP.tys.form
 have E1 := Lib.hid e1
 clear e1
 obtain ⟨a2, c2, e2⟩ := hP.ats.form
 have E2 := Lib.hid e2
 clear e2
 obtain ⟨W, ZW⟩ : ∃ v, Hid ((w.alloc (.cells #[q.v0, q.v1, q.v2, q.v3, q.v4, q.v5, q.v6, q.v7, q.v8, q.v9, q.v10, q.v11, q.v12, q.v13, q.v14, q.v15, q.v16] 39)) = v) := ⟨_, Lib.hid rfl⟩
 have HB : Hid (Below w.heap.size w W) := by cases ZW.out; exact Lib.hid ((Below.refl _ _).alloc (Nat.le_refl _) _)
 have HX0 : Hid (Blk W (w.heap.size) 39 #[q.v0, q.v1, q.v2, q.v3, q.v4, q.v5, q.v6, q.v7, q.v8, q.v9, q.v10, q.v11, q.v12, q.v13, q.v14, q.v15, q.v16]) := by cases ZW.out; exact Lib.hid (Blk.here (by simp))
 have HQ : Hid (PolV W q p) := by cases ZW.out; exact Lib.hid (hP.keep HB.out)
 have HLE : Hid (w.heap.size ≤ W.heap.size) := by cases ZW.out; exact Lib.hid HB.out.size
 try unfold PV.val
 go_enter Tryz.func26, Tryz.ntmps26
 go_upto_region 1 with fail
 rw [ZW.out]
 generalize hg0 : w.heap.size = g0 at *
 have HR1 : Hid (∀ u, Kp W u → u.cell? ⟨g0, 1, none⟩ = some (.slice a1 p.tys.length c1)) := Lib.hid (fun u hu => pol_cell (HX0.out.keep hu) rfl E1.out)
 have HR2 : Hid (∀ u, Kp W u → u.cell? ⟨g0, 2, none⟩ = some (.slice a2 p.ats.length c2)) := Lib.hid (fun u hu => pol_cell (HX0.out.keep hu) rfl E2.out)
 generalize Value.agg #[q.v0, q.v1, q.v2, q.v3, q.v4, q.v5, q.v6, q.v7, q.v8, q.v9, q.v10, q.v11, q.v12, q.v13, q.v14, q.v15, q.v16] = P0
 clear hP
 have HL1 : Hid (SlR 3 CTyA W (.slice a1 p.tys.length c1) p.tys) := Lib.hid (by rw [← E1.out]; exact HQ.out.tys)
 have HL2 : Hid (SlR 5 CAt W (.slice a2 p.ats.length c2) p.ats) := Lib.hid (by rw [← E2.out]; exact HQ.out.ats)
 have r1 := HR1.out W Kp.rfl'
 go_wp2_with fail
 clear r1
 go_loopw [3] (fun vi wr => ∃ (i : Nat), i ≤ p.tys.length ∧ vi = .int .i64 i ∧ Hid (Kp W wr)) (fun vi _ => p.tys.length - (intOf vi).toNat)
 case atStart => exact ⟨0, Nat.zero_le _, rfl, Lib.hid Kp.rfl'⟩
 case round =>
  obtain ⟨i, hi, rfl, HK⟩ := hrel
  have r1 := HR1.out wr HK.out
  by_cases hlt : i < p.tys.length
  · have hlt' : (i : Int) < (p.tys.length : Int) := by omega
    obtain ⟨x, hx⟩ : ∃ x, p.tys[i] = x := ⟨_, rfl⟩
    obtain ⟨g, oo, hak, hg, hE⟩ := HL1.out.row hlt
    subst hak
    have hE1 := hE i hlt
    rw [hx] at hE1
    have HE : Hid (∀ u, Kp W u → CTyA u g (oo + i * 3) x) := Lib.hid (fun u hu => hE1.keep hu hg)
    have HAL : Hid (x.al.length ≤ 4) := Lib.hid (by rw [← hx]; exact HSM.out.als _ (List.getElem_mem hlt))
    obtain ⟨⟨-, ⟨va0, w1, ws⟩, -, htx1, htx2, -⟩, va, w2, w3, w4⟩ := hE1
    obtain rfl : va0 = va := by rw [w1] at w2; exact Option.some.inj w2
    obtain ⟨ap, cp, e, -⟩ := w4
    subst e
    have HA1 : Hid (∀ u, Kp W u → u.cell? ⟨g, oo + i * 3 + 1, none⟩ = some (.slice ap x.al.length cp)) := Lib.hid (fun u hu => (Below.cell hu (p := ⟨g, oo + i * 3 + 1, none⟩) hg).trans w1)
    have HSA : Hid (∀ u, Kp W u → Strs u (.slice ap x.al.length cp) x.al) := Lib.hid (fun u hu => ws.keep hu)
    have HAD := Lib.hid w3
    have HTX : Hid (TxW ([x.n] ++ x.al)) := Lib.hid (by intro s hs; rcases List.mem_append.1 hs with h | h; (rw [List.mem_singleton.1 h]; exact htx1); exact htx2 s h)
    have HTL : Hid ((tyNm (p.tys.take i)).length ≤ 60) := Lib.hid (tyNm_len (m := 12) (fun t ht => HSM.out.als t (List.mem_of_mem_take ht)) (by have := HSM.out.tys; simp; omega))
    clear hx hg hE w1 w2 w3 ws htx1 htx2
    go_upto_region 6 with fail
    refine wp_region_phit 13 (tyPhi g0 g oo p.tys.length c1 i x.n (.slice ap x.al.length cp) wr) (by kernel_rfl) (by decide) (by kernel_rfl) (by kernel_rfl) (by kernel_rfl) (fun k v u u2 h hb => tyPhi_keep h hb) ?_ ?_
    · refine ⟨⟨trivial, fun A u hK hF => ?_⟩, ⟨trivial, fun A u hK hF => ?_⟩, ⟨trivial, fun A u hK hF => ?_⟩, ⟨trivial, fun A u hK hF => ?_⟩, ⟨trivial, fun A u hK hF => ?_⟩, ⟨trivial, fun A u hK hF => ?_⟩, ⟨trivial, fun A u hK hF => ?_⟩, ⟨trivial, fun A u hK hF => ?_⟩, ⟨trivial, fun A u hK hF => ?_⟩, ⟨trivial, fun A u hK hF => ?_⟩, ⟨trivial, fun A u hK hF => ?_⟩, ⟨trivial, fun A u hK hF => ?_⟩, ⟨trivial, fun A u hK hF => ?_⟩, trivial⟩
      · have f1 : A.tmps[1]?.getD undef = .pointer (some ⟨g0, 0, none⟩) := fact_none (hF 1) (by kernel_rfl)
        unfold Gives
        go_simp
        exact gives_val (Below.refl _ _) rfl
      · have f22 : A.tmps[22]?.getD undef = .pointer (some ⟨g0, 1, none⟩) := fact_some (hF 22) (j := 0) (by kernel_rfl) (by kernel_rfl)
        have ry := HR1.out u (kp_trans HK.out hK)
        unfold Gives
        go_simp
        exact gives_val (Below.refl _ _) rfl
      · have f3 : A.tmps[3]?.getD undef = .int .i64 i := fact_none (hF 3) (by kernel_rfl)
        unfold Gives
        go_simp
        exact gives_val (Below.refl _ _) rfl
      · have f23 : A.tmps[23]?.getD undef = .slice (some ⟨g, oo, none⟩) p.tys.length c1 := fact_some (hF 23) (j := 1) (by kernel_rfl) (by kernel_rfl)
        have f24 : A.tmps[24]?.getD undef = .int .i64 i := fact_some (hF 24) (j := 2) (by kernel_rfl) (by kernel_rfl)
        unfold Gives
        go_simp
        exact gives_val (Below.refl _ _) rfl
      · have f25 : A.tmps[25]?.getD undef = .pointer (some ⟨g, oo + i * 3, none⟩) := fact_some (hF 25) (j := 3) (by kernel_rfl) (by kernel_rfl)
        unfold Gives
        go_simp
        exact gives_val (Below.refl _ _) rfl
      · have f26 : A.tmps[26]?.getD undef = .pointer (some ⟨g, oo + i * 3, none⟩) := fact_some (hF 26) (j := 4) (by kernel_rfl) (by kernel_rfl)
        have m0 : u.cell? ⟨g, oo + i * 3, none⟩ = some (.string x.n) := (HE.out u (kp_trans HK.out hK)).1.1
        unfold Gives
        go_simp
        exact gives_val (Below.refl _ _) rfl
      · have f27 : A.tmps[27]?.getD undef = .string x.n := fact_some (hF 27) (j := 5) (by kernel_rfl) (by kernel_rfl)
        unfold Gives
        go_simp
        exact gives_val ((Below.refl _ _).alloc (Nat.le_refl _) _) ⟨_, rfl, Below.size hK, Blk.new _ _ _⟩
      · have f1 : A.tmps[1]?.getD undef = .pointer (some ⟨g0, 0, none⟩) := fact_none (hF 1) (by kernel_rfl)
        unfold Gives
        go_simp
        exact gives_val (Below.refl _ _) rfl
      · have f29 : A.tmps[29]?.getD undef = .pointer (some ⟨g0, 1, none⟩) := fact_some (hF 29) (j := 7) (by kernel_rfl) (by kernel_rfl)
        have ry := HR1.out u (kp_trans HK.out hK)
        unfold Gives
        go_simp
        exact gives_val (Below.refl _ _) rfl
      · have f3 : A.tmps[3]?.getD undef = .int .i64 i := fact_none (hF 3) (by kernel_rfl)
        unfold Gives
        go_simp
        exact gives_val (Below.refl _ _) rfl
      · have f30 : A.tmps[30]?.getD undef = .slice (some ⟨g, oo, none⟩) p.tys.length c1 := fact_some (hF 30) (j := 8) (by kernel_rfl) (by kernel_rfl)
        have f31 : A.tmps[31]?.getD undef = .int .i64 i := fact_some (hF 31) (j := 9) (by kernel_rfl) (by kernel_rfl)
        unfold Gives
        go_simp
        exact gives_val (Below.refl _ _) rfl
      · have f32 : A.tmps[32]?.getD undef = .pointer (some ⟨g, oo + i * 3, none⟩) := fact_some (hF 32) (j := 10) (by kernel_rfl) (by kernel_rfl)
        unfold Gives
        go_simp
        exact gives_val (Below.refl _ _) rfl
      · have f33 : A.tmps[33]?.getD undef = .pointer (some ⟨g, oo + i * 3 + 1, none⟩) := fact_some (hF 33) (j := 11) (by kernel_rfl) (by kernel_rfl)
        have m1 := HA1.out u (kp_trans HK.out hK)
        unfold Gives
        go_simp
        exact gives_val (Below.refl _ _) rfl
    intro a W2 hC hsz hdf hF
    have ha := end_mask [false, false, false, false, false, false, false, false, false, false, false, false, false, false, false, false, false, false, false, false, false, false, true, true, true, true, true, true, true, true, true, true, true, true, true, false, false, false, false, false, false, false, false, false, false, false, false, false, false, false, false, false, false, false, false, false, false, false, false, false, false, false, false, false, false, false, false, false, false, false, false, false, false, false, false, false, false, false, false, false, false, false, false, false, false, false, false, false, false, false, false, false, false, false, false, false] hsz hdf hF (by kernel_rfl)
    obtain ⟨gl, f28, hgl, hbl⟩ : ∃ h, a.tmps[28]?.getD undef = .slice (some ⟨h, 0, none⟩) 1 1 ∧ wr.heap.size ≤ h ∧ Blk W2 h 9 #[.string x.n] := fact_end (hF 28) (j := 6) (by kernel_rfl)
    have f34 : a.tmps[34]?.getD undef = .slice ap x.al.length cp := fact_end (hF 34) (j := 12) (by kernel_rfl)
    rw [ha]
    clear ha hF
    simp only [cutM_yes, cutM_no, cutM_nil, Nat.reduceAdd]
    rw [f28, f34]
    clear f28 f34
    generalize a.tmps[22]?.getD undef = s22
    generalize a.tmps[23]?.getD undef = s23
    generalize a.tmps[24]?.getD undef = s24
    generalize a.tmps[25]?.getD undef = s25
    generalize a.tmps[26]?.getD undef = s26
    generalize a.tmps[27]?.getD undef = s27
    generalize a.tmps[29]?.getD undef = s29
    generalize a.tmps[30]?.getD undef = s30
    generalize a.tmps[31]?.getD undef = s31
    generalize a.tmps[32]?.getD undef = s32
    generalize a.tmps[33]?.getD undef = s33
    clear hsz hdf
    have HK2 : Hid (Kp W W2) := Lib.hid (kp_trans HK.out hC)
    have HOL : Hid (OwnS W2 W.heap.size (.slice (some ⟨gl, 0, none⟩) 1 1) [x.n]) := Lib.hid (OwnS.lit hbl (Nat.le_trans HK.out.size hgl))
    have HS2 := Lib.hid (HSA.out _ HK2.out)
    clear hC hgl hbl
    refine wpList_names (T := [x.n]) rfl _ _ rfl rfl HOL.out rfl HS2.out HAD.out (by have := HAL.out; simp; omega) HK2.out.size ?_
    intro v4 W3 hO4 hB4 hk4
    have HK3 : Hid (Kp W W3) := Lib.hid (HK2.out.trans hB4)
    have HO4 := Lib.hid hO4
    clear hO4 hB4 hk4 HOL HS2 HK2
    go_upto_region 7 with fail
    have HTC : Hid (Calls Tryz.prog 49 #[q.val, .int .i64 i] W3 fun e w' => ∃ v, e = .returned v ∧ OwnS w' W3.heap.size v (tyNm (p.tys.take i)) ∧ Below W3.heap.size W3 w') := Lib.hid (by exact ntypeNames_c q p i W3 (HQ.out.keep HK3.out) HSM.out (Nat.le_of_lt hlt))
    refine wp_region_lit ?_
    refine wpList_val (by rfl) ?_
    go_simp
    refine ⟨_, _, ⟨rfl, rfl⟩, ?_⟩
    refine wpList_load (t := 39) (by rfl) (.tmp 1) rfl rfl (loadAt_pol (HX0.out.keep HK3.out)) ?_
    refine wpList_val (by rfl) ?_
    go_simp
    refine ⟨_, _, ⟨rfl, rfl⟩, ?_⟩
    refine wpList_enterE (by rfl) (by first | (go_simp; done) | (go_simp; exact ⟨rfl, rfl⟩)) HTC.out ?_
    rintro v5 W5 ⟨hO5, hB5⟩
    have HK5 : Hid (Kp W W5) := Lib.hid (kp_trans HK3.out hB5)
    have HO5 := Lib.hid hO5
    have HO6 := Lib.hid (HO4.out.keep hB5)
    clear hO5 hB5 HTC
    obtain ⟨ao5, cap5, rfl, -, h5s⟩ := HO5.out.cap
    obtain ⟨ao4, cap4, rfl, h4c, h4s⟩ := HO6.out.cap
    obtain ⟨cn, hcn⟩ : ∃ c, namesE ([x.n] ++ x.al) (tyNm (p.tys.take i)) = c := ⟨_, rfl⟩
    have HNC : Hid (Calls Tryz.prog 48 #[.slice ao4 ([x.n] ++ x.al).length cap4, .slice ao5 (tyNm (p.tys.take i)).length cap5] W5 fun e w' => e = .returned (.int .i64 cn) ∧ Below W5.heap.size W5 w') := Lib.hid (by rw [← hcn]; exact nnames_c _ _ _ _ W5 h4s ⟨_, _, rfl, h4c⟩ h5s HTX.out (by have := HAL.out; unfold maxLen; simp; omega) (by have := HTL.out; unfold maxLen; omega))
    clear h5s h4c h4s hcn
    refine wpList_enter (v := .int .i64 cn) (by rfl) (by first | (go_simp; done) | (go_simp; exact ⟨rfl, rfl⟩)) HNC.out (fun W6 hC6 => ?_)
    have HK6 : Hid (Kp W W6) := Lib.hid (kp_trans HK5.out hC6)
    have HF6 := Lib.hid (HB.out.trans (Below.mono HK6.out HLE.out))
    clear hC6
    by_cases h0 : cn = 0
    · subst h0
      go_wp2_with fail
      go_roundw
      case rel => exact ⟨i + 1, hlt, by go_num, HK6⟩
      case measure => simp [intOf]; omega
    · have hb : (cn == 0) = false := by simpa using h0
      have hb2 : (cn != 0) = true := by simpa using h0
      go_wp2_with fail
      go_ret
      first | exact ⟨⟨_, rfl⟩, HF6.out⟩ | exact ⟨⟨_, rfl⟩, by rw [hg0]; exact HF6.out⟩ | exact ⟨_, rfl, HF6.out⟩ | exact ⟨_, rfl, by rw [hg0]; exact HF6.out⟩
  · have hlt' : ¬ (i : Int) < (p.tys.length : Int) := by omega
    have HF := Lib.hid (HB.out.trans (Below.mono HK.out HLE.out))
    clear r1
    generalize wr = wq at *
    have HKQ := HK
    have r2 := HR2.out wq HKQ.out
    have r1q := HR1.out wq HKQ.out
    go_upto_region 12 with fail
    have HTC : Hid (Calls Tryz.prog 49 #[q.val, .int .i64 p.tys.length] wq fun e w' => ∃ v, e = .returned v ∧ OwnS w' wq.heap.size v (tyNm (p.tys.take p.tys.length)) ∧ Below wq.heap.size wq w') := Lib.hid (by exact ntypeNames_c q p p.tys.length wq (HQ.out.keep HKQ.out) HSM.out (Nat.le_refl _))
    refine wp_region_lit ?_
    refine wpList_load (t := 39) (by rfl) (.tmp 1) rfl rfl (loadAt_pol (HX0.out.keep HKQ.out)) ?_
    refine wpList_val (by rfl) ?_
    go_simp
    refine ⟨_, _, ⟨rfl, rfl⟩, ?_⟩
    refine wpList_val (by rfl) ?_
    go_simp
    refine ⟨_, _, ⟨rfl, rfl⟩, ?_⟩
    refine wpList_val (by rfl) ?_
    go_simp
    refine ⟨_, _, ⟨rfl, rfl⟩, ?_⟩
    refine wpList_enterE (by rfl) (by first | (go_simp; done) | (go_simp; exact ⟨rfl, rfl⟩)) HTC.out ?_
    rintro v6 W6 ⟨hO6, hB6⟩
    have HK6 : Hid (Kp W W6) := Lib.hid (kp_trans HKQ.out hB6)
    obtain ⟨TN, hTN⟩ : ∃ l, tyNm (p.tys.take p.tys.length) = l := ⟨_, rfl⟩
    have HTNL : Hid (TN.length ≤ 60) := Lib.hid (by rw [← hTN]; exact tyNm_len (m := 12) (fun t ht => HSM.out.als t (List.mem_of_mem_take ht)) (by have := HSM.out.tys; simp; omega))
    rw [hTN] at hO6
    have HOTN : Hid (OwnS W6 W.heap.size v6 (TN ++ (p.ats.take 0).map (·.n))) := Lib.hid (by rw [List.take_zero, List.map_nil, List.append_nil]; exact hO6.mono HKQ.out.size)
    clear hO6 hB6 HTC hTN r2 r1q
    have r2 := HR2.out W6 HK6.out
    go_wp2_with fail
    clear r2
    go_loopw [6, 7] (fun vl vi wr => ∃ (i : Nat) (vv : Value), vv = vl ∧ i ≤ p.ats.length ∧ vi = .int .i64 i ∧ Hid (Kp W wr) ∧ Hid (OwnS wr W.heap.size vv (TN ++ (p.ats.take i).map (·.n)))) (fun _ vi _ => p.ats.length - (intOf vi).toNat)
    case atStart => exact ⟨0, _, rfl, Nat.zero_le _, rfl, Lib.hid HK6.out, HOTN⟩
    case round =>
     obtain ⟨i, v, rfl, hi, rfl, HK, HO⟩ := hrel
     have r2 := HR2.out wr HK.out
     by_cases hlt : i < p.ats.length
     · have hlt' : (i : Int) < (p.ats.length : Int) := by omega
       obtain ⟨x, hx⟩ : ∃ x, p.ats[i] = x := ⟨_, rfl⟩
       have HXX := Lib.hid hx
       obtain ⟨g, oo, hak, hg, hE⟩ := HL2.out.row hlt
       subst hak
       have hE1 := hE i hlt
       rw [hx] at hE1
       have HEL : Hid (∀ u, Kp W u → CAt u g (oo + i * 5) x) := Lib.hid (fun u hu => hE1.keep hu hg)
       have HNM : Hid (∀ u, Kp W u → u.cell? ⟨g, oo + i * 5, none⟩ = some (.string x.n)) := Lib.hid (fun u hu => (hE1.keep hu hg).1)
       have HRC : Hid (∀ u, Kp W u → u.cell? ⟨g0, 2, none⟩ = some (.slice (some ⟨g, oo, none⟩) p.ats.length c2)) := HR2
       have HMW : Hid (x.n.size ≤ 9223372036854775807) := Lib.hid (by obtain ⟨-, -, -, -, -, h, -⟩ := hE1; exact h)
       clear hx hg hE hE1
       obtain ⟨T, hT⟩ : ∃ T, TN ++ (p.ats.take i).map (·.n) = T := ⟨_, rfl⟩
       have hTl : T.length = TN.length + i := by rw [← hT]; simp; omega
       have HX : Hid (TN ++ (p.ats.take (i + 1)).map (·.n) = T ++ [x.n]) := Lib.hid (by rw [← hT, take_map (·.n) hlt HXX.out, List.append_assoc])
       rw [hT] at HO
       have HTI := Lib.hid hTl
       obtain ⟨aoT, capT, rfl, -, -⟩ := HO.out.cap
       have HIL : Hid (TN.length + i ≤ 66) := Lib.hid (by have := HSM.out.ats; have := HTNL.out; omega)
       clear hT hTl
       obtain ⟨c1, hc1⟩ : ∃ c, namesE [x.n] T = c := ⟨_, rfl⟩
       have b0 := HNM.out wr HK.out
       generalize wr = WX at *
       have HKX := HK
       have HOX := HO
       have HCN : Hid (Calls Tryz.prog 48 #[.slice (some ⟨WX.heap.size, 0, none⟩) 1 1, .slice aoT T.length capT] (WX.alloc (.cells #[.string x.n] 9)) fun e w' => e = .returned (.int .i64 c1) ∧ Below (WX.alloc (.cells #[.string x.n] 9)).heap.size (WX.alloc (.cells #[.string x.n] 9)) w') := Lib.hid (by rw [← hc1]; exact nnames_c _ _ [x.n] T _ (Strs.one ((Blk.new WX 9 #[.string x.n]).cell 0)) CapOK.one (by obtain ⟨_, _, e, _, h⟩ := (HOX.out.alloc (.cells #[.string x.n] 9)).cap; cases e; exact h) (TxW.one HMW.out) (by unfold maxLen; simp) (by have := HTI.out; have := HIL.out; unfold maxLen; omega))
       clear hc1
       by_cases h1 : c1 = 0
       · have k1 : (c1 == 0) = true := by simpa using h1
         have k2 : (c1 != 0) = false := by simpa using h1
         go_upto_region 19 with (go_at_call 48; (with_reducible refine HCN.out.mono ?_); rintro e V ⟨rfl, hb1⟩; have HBV := Lib.hid (Below.trans ((Below.refl WX.heap.size WX).alloc (Nat.le_refl _) _) (hb1.mono (by simp))); clear hb1)
         clear b0 r2
         have HKV : Hid (Kp W V) := Lib.hid (kp_trans HKX.out HBV.out)
         have HOV : Hid (OwnS V W.heap.size (.slice aoT T.length capT) T) := Lib.hid (HOX.out.keep HBV.out)
         have b0 := HNM.out V HKV.out
         have r2 := HRC.out V HKV.out
         go_upto_region 20 with (at_builtin; refine wpList_name rfl _ _ rfl rfl (HOV.out.alloc _) rfl ((Blk.new V 9 #[.string x.n]).cell 0) (by have := HTI.out; have := HIL.out; omega) (by have := HKV.out.size; simp; omega) ?_; intro v2 V2 hO2 hB2 hk2; have HO2 := Lib.hid hO2; have HK2 : Hid (Kp W V2) := Lib.hid ((HKV.out.alloc _).trans hB2); clear hO2 hB2 hk2)
         clear b0
         try clear r2
         obtain ⟨s1, hs1⟩ : ∃ z, someN x.ts = z := ⟨_, rfl⟩
         obtain ⟨s2, hs2⟩ : ∃ z, someW x.ts p.tys.length = z := ⟨_, rfl⟩
         have HWX : Hid (∀ u, Kp V2 u → Kp W u) := Lib.hid (fun u hu => kp_trans HK2.out hu)
         have HC1 : Hid (∀ u, Kp W u → Calls Tryz.prog 50 #[.agg #[.int .u64 x.ts.a, .int .u64 x.ts.b, .int .u64 x.ts.c, .int .u64 x.ts.d], .int .i64 p.tys.length] u fun e w' => e = .returned (.tuple #[.bool s1, .bool s2]) ∧ Below u.heap.size u w') := Lib.hid (fun u hu => by rw [← hs1, ← hs2]; exact nsome_c x.ts _ u (by omega) (by have := HSM.out.tys; omega))
         clear hs1 hs2
         all_goals refine wp_region_kp (by kernel_rfl) (by kernel_rfl) ?_
         repeat' (first | go_big_quiet_skip | (go_big_quiet_want; first | (go_big_quiet_op; first | go_big_quiet_on | (apply Exists.intro; refine ⟨fun w1 hC => ?_, ?_⟩; (first | (go_at_call 50; with_reducible exact hC.call (HC1.out _ (HWX.out _ hC))) | (have y2 := HR2.out w1 (HWX.out _ hC); go_simp; exact rfl) | (have y1 := HR1.out w1 (HWX.out _ hC); go_simp; exact rfl) | (obtain ⟨q0, q1, q2, q3, q4, -⟩ := HEL.out w1 (HWX.out _ hC); go_simp; exact rfl) | exact rfl | (go_simp; exact ⟨rfl, rfl⟩)); go_big_quiet_on))))
         all_goals refine wpQuiet_nil ?_
         all_goals intro ZW1 hC
         all_goals have HF1 := Lib.hid (HB.out.trans (Below.mono (HWX.out _ hC) HLE.out))
         all_goals have HT1 : Hid (∀ u, Kp ZW1 u → Kp W u) := Lib.hid (fun u hu => kp_trans (HWX.out _ hC) hu)
         all_goals have HY1 : Hid (∀ u, Kp ZW1 u → Kp V2 u) := Lib.hid (fun u hu => kp_trans hC hu)
         all_goals clear hC
         all_goals (go_upto_region 21 with fail
                    all_goals refine wp_region_kq ?_
                    repeat' (first | go_big_quiet_skip | (go_big_quiet_want; first | (go_big_quiet_op; first | go_big_quiet_on | (apply Exists.intro; refine ⟨fun w1 hC => ?_, ?_⟩; (first | exact rfl | (go_simp; exact ⟨rfl, rfl⟩)); go_big_quiet_on))) | (cases s2 <;> try simp only [Bool.not_true, Bool.not_false]))
                    all_goals refine wpQuiet_nil ?_
                    all_goals intro ZW2 hC
                    all_goals have HF2 := Lib.hid (HB.out.trans (Below.mono (HT1.out _ hC) HLE.out))
                    all_goals have HT2 : Hid (∀ u, Kp ZW2 u → Kp W u) := Lib.hid (fun u hu => kp_trans (HT1.out _ hC) hu)
                    all_goals have HY2 : Hid (∀ u, Kp ZW2 u → Kp V2 u) := Lib.hid (fun u hu => kp_trans (HY1.out _ hC) hu)
                    all_goals clear hC
                    all_goals first
                     | (go_wp2_with fail
                        go_ret
                        first | exact ⟨⟨_, rfl⟩, HF2.out⟩ | exact ⟨⟨_, rfl⟩, by rw [hg0]; exact HF2.out⟩ | exact ⟨_, rfl, HF2.out⟩ | exact ⟨_, rfl, by rw [hg0]; exact HF2.out⟩
                        done)
                     | (go_wp2_with fail
                        go_roundw
                        case rel => exact ⟨i + 1, _, rfl, hlt, by go_num, Lib.hid (HT2.out _ Kp.rfl'), Lib.hid (by rw [HX.out]; exact HO2.out.keep (HY2.out _ Kp.rfl'))⟩
                        case measure => simp [intOf]; omega))
       · have k1 : (c1 == 0) = false := by simpa using h1
         have k2 : (c1 != 0) = true := by simpa using h1
         clear h1
         go_wp2_with (go_at_call 48; (with_reducible refine HCN.out.mono ?_); rintro e V ⟨rfl, hb1⟩; have HBV := Lib.hid (Below.trans ((Below.refl WX.heap.size WX).alloc (Nat.le_refl _) _) (hb1.mono (by simp))); clear hb1)
         have HF := Lib.hid (HB.out.trans (Below.mono (kp_trans HKX.out HBV.out) HLE.out))
         go_ret
         first | exact ⟨⟨_, rfl⟩, HF.out⟩ | exact ⟨⟨_, rfl⟩, by rw [hg0]; exact HF.out⟩ | exact ⟨_, rfl, HF.out⟩ | exact ⟨_, rfl, by rw [hg0]; exact HF.out⟩
     · have hlt' : ¬ (i : Int) < (p.ats.length : Int) := by omega
       have HF := Lib.hid (HB.out.trans (Below.mono HK.out HLE.out))
       go_wp2_with fail
       go_ret
       first | exact ⟨⟨_, rfl⟩, HF.out⟩ | exact ⟨⟨_, rfl⟩, by rw [hg0]; exact HF.out⟩ | exact ⟨_, rfl, HF.out⟩ | exact ⟨_, rfl, by rw [hg0]; exact HF.out⟩
end Go.Proofs.YtbhoofihnmmmfabGreat
