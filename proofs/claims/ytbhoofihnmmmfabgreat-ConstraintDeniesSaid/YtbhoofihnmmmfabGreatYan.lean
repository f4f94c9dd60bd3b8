/- Part of the proof: Cxq Cxr. No conditions. -/
import Derived.Test.YtbhoofihnmmmfabGreatYam
namespace Go.Proofs.YtbhoofihnmmmfabGreat
open Go.RowKit
def nodeX (x : X) : Int := nodeR x.op x.a x.r x.b x.ns.length x.st x.ks.length
def wfR : Nat → X → Bool
 | 0, _ => false
 | n + 1, x => (nodeX x == 0) && x.ks.all (wfR n)
theorem XAt.xv {w : World} {g o : Nat} {x : X} (h : XAt w g o x) : ∃ ao cap ak ck, XC w g o x.op x.a x.r x.b ao x.ns.length cap x.st ak x.ks.length ck ∧ XV w (.slice ao x.ns.length cap) (.slice ak x.ks.length ck) x := by
 obtain ⟨ao, cap, ak, ck, h1, h2, h3⟩ := h.xc
 exact ⟨ao, cap, ak, ck, h1, h3, h2, h.w⟩
theorem XV.form {w : World} {vn vk : Value} {x : X} (h : XV w vn vk x) : ∃ ao cap ak ck, vn = .slice ao x.ns.length cap ∧ vk = .slice ak x.ks.length ck := by
 obtain ⟨⟨ao, cap, e, _⟩, ⟨ak, ck, e2, _⟩, _⟩ := h
 exact ⟨ao, cap, ak, ck, e, e2⟩
theorem all_no {n : Nat} {ks : List X} {i : Nat} (hi : i < ks.length) (h : wfR n ks[i] = false) : ks.all (wfR n) = false := by
 rw [List.all_eq_false]
 exact ⟨_, List.getElem_mem hi, by rw [h]; simp⟩
theorem all_yes {n : Nat} {ks : List X} (h : ∀ j (hj : j < ks.length), wfR n ks[j] = true) : ks.all (wfR n) = true := by
 rw [List.all_eq_true]
 intro x hx
 obtain ⟨j, hj, rfl⟩ := List.getElem_of_mem hx
 exact h j hj
set_option maxRecDepth 100000 in
set_option maxHeartbeats 16000000 in
theorem wellFormed_c : ∀ (n : Nat) (x : X) (vn vk : Value) (w : World), n ≤ 100 → XV w vn vk x →
 Calls Tryz.prog 45 #[.agg #[.int .i64 x.op, .int .i64 x.a, .int .i64 x.r, .int .i64 x.b, vn, .int .u64 x.st.a, .int .u64 x.st.b, .int .u64 x.st.c, .int .u64 x.st.d, vk], .int .i64 n] w fun e w' => e = .returned (.bool (wfR n x)) ∧ Below w.heap.size w w' := by
 intro n
 induction n with
 | zero =>
   intro x vn vk w _ _
   have hb : Below w.heap.size w (w.alloc (.cells #[.int .i64 x.op, .int .i64 x.a, .int .i64 x.r, .int .i64 x.b, vn, .int .u64 x.st.a, .int .u64 x.st.b, .int .u64 x.st.c, .int .u64 x.st.d, vk] 55)) := (Below.refl _ _).alloc (Nat.le_refl _) _
   have HB := Lib.hid hb
   clear hb
   go_enter Tryz.func45, Tryz.ntmps45
   go_wp2_with fail
   go_ret
   exact ⟨by unfold wfR; rfl, HB.out⟩
 | succ n ih =>
   intro x vn vk w hn hV
   have HIH := Lib.hid ih
   obtain ⟨m, hm⟩ : ∃ m : Nat, n + 1 = m := ⟨_, rfl⟩
   rw [hm]
   have HSB : Hid ((m : Int) - 1 = (n : Int)) := Lib.hid (by omega)
   have hz : ¬ (m : Int) ≤ 0 := by omega
   have hm1 : 1 ≤ m ∧ m ≤ 101 := by omega
   have HN : Hid (n ≤ 100) := Lib.hid (by omega)
   have HM : Hid (wfR m x = ((nodeX x == 0) && x.ks.all (wfR n))) := Lib.hid (by rw [← hm]; rfl)
   have hkI : (x.ks.length : Int) ≤ 9223372036854775807 := by have h := hV.wf.nk; unfold maxLen at h; omega
   obtain ⟨ao, cap, ak, ck, rfl, rfl⟩ := hV.form
   have HX : Hid (XC (w.alloc (.cells #[.int .i64 x.op, .int .i64 x.a, .int .i64 x.r, .int .i64 x.b, .slice ao x.ns.length cap, .int .u64 x.st.a, .int .u64 x.st.b, .int .u64 x.st.c, .int .u64 x.st.d, .slice ak x.ks.length ck] 55)) w.heap.size 0 x.op x.a x.r x.b ao x.ns.length cap x.st ak x.ks.length ck) := Lib.hid (XC.of_blk (Blk.new w _ _))
   have HB : Hid (Below w.heap.size w (w.alloc (.cells #[.int .i64 x.op, .int .i64 x.a, .int .i64 x.r, .int .i64 x.b, .slice ao x.ns.length cap, .int .u64 x.st.a, .int .u64 x.st.b, .int .u64 x.st.c, .int .u64 x.st.d, .slice ak x.ks.length ck] 55))) := Lib.hid ((Below.refl _ _).alloc (Nat.le_refl _) _)
   have HG : Hid (w.heap.size < (w.alloc (.cells #[.int .i64 x.op, .int .i64 x.a, .int .i64 x.r, .int .i64 x.b, .slice ao x.ns.length cap, .int .u64 x.st.a, .int .u64 x.st.b, .int .u64 x.st.c, .int .u64 x.st.d, .slice ak x.ks.length ck] 55)).heap.size) := Lib.hid (by simp)
   have HK := Lib.hid hV.ks
   obtain ⟨e0, he0⟩ : ∃ e0, nodeX x = e0 := ⟨_, rfl⟩
   have HND : Hid (∀ u, Calls Tryz.prog 77 #[.agg #[.int .i64 x.op, .int .i64 x.a, .int .i64 x.r, .int .i64 x.b, .slice ao x.ns.length cap, .int .u64 x.st.a, .int .u64 x.st.b, .int .u64 x.st.c, .int .u64 x.st.d, .slice ak x.ks.length ck], .bool false, .bool true] u fun e w' => e = .returned (.int .i64 e0) ∧ Below u.heap.size u w') := Lib.hid fun u => by
    rw [← he0]
    exact node_c x.op x.a x.r x.b ao x.ns.length cap x.st ak x.ks.length ck u
   rw [he0] at HM
   clear hm hn ih hV he0
   by_cases h0 : e0 = 0
   · have q0 : (e0 != 0) = false := by rw [h0]; rfl
     have HM2 : Hid (wfR m x = x.ks.all (wfR n)) := Lib.hid (by rw [HM.out, h0]; rfl)
     clear h0 HM
     go_enter Tryz.func45, Tryz.ntmps45
     go_upto_region 1 with fail
     generalize w.alloc (.cells #[.int .i64 x.op, .int .i64 x.a, .int .i64 x.r, .int .i64 x.b, .slice ao x.ns.length cap, .int .u64 x.st.a, .int .u64 x.st.b, .int .u64 x.st.c, .int .u64 x.st.d, .slice ak x.ks.length ck] 55) = W at *
     obtain ⟨y0, y1, y2, y3, y4, y5, y6, y7, y8, y9⟩ := HX.out.cells
     generalize hgx : w.heap.size = gx at *
     go_wp2_with (go_at_call 77; (with_reducible refine (HND.out _).mono ?_); rintro e u ⟨rfl, hb⟩; have HX1 := Lib.hid (HX.out.keep (hb.block gx HG.out)); have HB1 := Lib.hid (HB.out.trans (hb.mono (Nat.le_of_lt HG.out))); have HG1 := Lib.hid (Nat.lt_of_lt_of_le HG.out hb.size); clear hb)
     go_loopw [5] (fun v5 wr => ∃ i : Nat, i ≤ x.ks.length ∧ v5 = .int .i64 i ∧ Hid (∀ j (hj : j < x.ks.length), j < i → wfR n x.ks[j] = true) ∧ Hid (XC wr gx 0 x.op x.a x.r x.b ao x.ns.length cap x.st ak x.ks.length ck) ∧ Hid (Below gx w wr) ∧ Hid (gx < wr.heap.size)) (fun v5 _ => x.ks.length - (intOf v5).toNat)
     case atStart => exact ⟨0, Nat.zero_le _, rfl, Lib.hid (fun j _ h => absurd h (by omega)), HX1, HB1, HG1⟩
     case round =>
      clear HX1 HB1 HG1
      obtain ⟨i, hi, rfl, HJ, HX1, HB1, HG1⟩ := hrel
      obtain ⟨y0, y1, y2, y3, y4, y5, y6, y7, y8, y9⟩ := HX1.out.cells
      clear y0 y1 y2 y3 y4 y5 y6 y7 y8
      by_cases hlt : i < x.ks.length
      · have hlt' : (i : Int) < (x.ks.length : Int) := by omega
        obtain ⟨y, hy⟩ : ∃ y, x.ks[i] = y := ⟨_, rfl⟩
        obtain ⟨g', o', hak, hg', hR⟩ := HK.out.row hlt
        subst hak
        have hA := hR i hlt
        rw [hy] at hA
        have hA2 : XAt wr g' (o' + i * 10) y := hA.keep (by rw [hgx]; exact HB1.out) hg'
        obtain ⟨ao2, cap2, ak2, ck2, hc2, hv2⟩ := hA2.xv
        obtain ⟨z0, z1, z2, z3, z4, z5, z6, z7, z8, z9⟩ := hc2.cells
        have HV2 := Lib.hid hv2
        have HY := Lib.hid hy
        clear hA hA2 hR hg' hy hc2 hv2
        obtain ⟨bb, hb⟩ : ∃ bb, wfR n y = bb := ⟨_, rfl⟩
        have HBB := Lib.hid hb
        have HCL : Hid (Calls Tryz.prog 45 #[.agg #[.int .i64 y.op, .int .i64 y.a, .int .i64 y.r, .int .i64 y.b, .slice ao2 y.ns.length cap2, .int .u64 y.st.a, .int .u64 y.st.b, .int .u64 y.st.c, .int .u64 y.st.d, .slice ak2 y.ks.length ck2], .int .i64 ((m : Int) - 1)] wr fun e w' => e = .returned (.bool bb) ∧ Below wr.heap.size wr w') := Lib.hid (by
         rw [← hb, HSB.out]
         exact HIH.out y _ _ wr HN.out HV2.out)
        clear hb
        cases bb with
        | false =>
          go_wp2_with (go_at_call 45; (with_reducible refine HCL.out.mono ?_); rintro e w1 ⟨rfl, hb1⟩; have HB2 := Lib.hid (HB1.out.trans (hb1.mono (Nat.le_of_lt HG1.out))); clear hb1)
          go_ret
          exact ⟨ret_bool (by rw [HM2.out, all_no hlt (by rw [HY.out]; exact HBB.out)]), by first | exact HB2.out | (rw [hgx]; exact HB2.out)⟩
        | true =>
          go_wp2_with (go_at_call 45; (with_reducible refine HCL.out.mono ?_); rintro e w1 ⟨rfl, hb1⟩; have HB2 := Lib.hid (HB1.out.trans (hb1.mono (Nat.le_of_lt HG1.out))); have HX2 := Lib.hid (HX1.out.keep (hb1.block gx HG1.out)); have HG2 := Lib.hid (Nat.lt_of_lt_of_le HG1.out hb1.size); clear hb1)
          go_roundw
          case rel =>
           refine ⟨i + 1, hlt, by go_num, Lib.hid (fun j hj hji => ?_), HX2, HB2, HG2⟩
           by_cases e : j < i
           · exact HJ.out j hj e
           · obtain rfl : j = i := by omega
             rw [HY.out]; exact HBB.out
          case measure => simp [intOf]; omega
      · have hlt' : ¬ (i : Int) < (x.ks.length : Int) := by omega
        have HF : Hid (wfR m x = true) := Lib.hid (by rw [HM2.out]; exact all_yes fun j hj => HJ.out j hj (by omega))
        go_wp2_with fail
        go_ret
        exact ⟨ret_bool HF.out.symm, by first | exact HB1.out | (rw [hgx]; exact HB1.out)⟩
   · have q0 : (e0 != 0) = true := by simpa using h0
     have HM2 : Hid (wfR m x = false) := Lib.hid (by rw [HM.out]; have : (e0 == 0) = false := by simpa using h0
                                                     rw [this]; rfl)
     clear h0 HM
     obtain ⟨y0, y1, y2, y3, y4, y5, y6, y7, y8, y9⟩ := HX.out.cells
     go_enter Tryz.func45, Tryz.ntmps45
     go_wp2_with (go_at_call 77; (with_reducible refine (HND.out _).mono ?_); rintro e u ⟨rfl, hb⟩; have HB1 := Lib.hid (HB.out.trans (hb.mono HB.out.size)); clear hb)
     go_ret
     exact ⟨ret_bool HM2.out.symm, HB1.out⟩
/-- the two ways to be well-formed are one -/
theorem wf_same : ∀ (n : Nat) (x : X), wfR n x = true ↔ (more n x = false ∧ fe (opE 15) n x = 0)
 | 0, x => by unfold wfR more; simp
 | n + 1, x => by
   have e1 : wfR (n + 1) x = ((nodeX x == 0) && x.ks.all (wfR n)) := rfl
   have e2 : more (n + 1) x = x.ks.any (more n) := rfl
   have e3 : fe (opE 15) (n + 1) x = if opE 15 x ≠ 0 then opE 15 x else feL (fe (opE 15) n) x.ks := rfl
   have hnd : nodeX x = 0 ↔ opE 15 x = 0 := node0 _ _ _ _ _ _ _
   rw [e1, e2, e3, Bool.and_eq_true, beq_iff_eq, hnd, List.all_eq_true, List.any_eq_false]
   constructor
   · rintro ⟨h1, h2⟩
     rw [if_neg (by simp [h1])]
     refine ⟨fun y hy => by rw [((wf_same n y).1 (h2 y hy)).1]; simp, feL_no fun j hj => ((wf_same n _).1 (h2 _ (List.getElem_mem hj))).2⟩
   · rintro ⟨h1, h2⟩
     by_cases h0 : opE 15 x = 0
     · rw [if_neg (by simp [h0])] at h2
       exact ⟨h0, fun y hy => (wf_same n y).2 ⟨by simpa using h1 y hy, feL_zero h2 y hy⟩⟩
     · rw [if_pos h0] at h2; exact absurd h2 h0
theorem wfR_X (x : X) : wfR 12 x = wfX x := by
 unfold wfX chkE
 rw [Bool.eq_iff_iff, wf_same, decide_eq_true_eq]
 cases h : more 12 x with
 | true => rw [if_pos rfl]; simp
 | false => rw [if_neg (by simp)]; simp
open Go.RowKit Go
theorem size_case' (w : World) : (sizeOf 48).run Tryz.prog w = .ok 21 w := by go_simp
section
variable {P : Program} {t : TypeId} {w : World}
theorem loadAt_agg {g o : Nat} (cs : List Value) (hagg : (isAgg t).run P w = .ok true w) (hsz : (sizeOf t).run P w = .ok cs.length w) (h : ∀ j v, cs[j]? = some v → w.cell? ⟨g, o + j, none⟩ = some v) : (Instr.loadAt t (.pointer (some ⟨g, o, none⟩))).run P w = .ok (.agg cs.toArray) w := by
 have hl := run_loadCells_list (P := P) w ⟨g, o, none⟩ cs (fun j v hj => by
  have := h j v hj
  by_cases e : j = 0
  · subst e; simpa [Addr.add] using this
  · simpa [Addr.add, e] using this)
 unfold Instr.loadAt Instr.sureAddr loadVar
 simp only [Sem.run_bind, Sem.run_pure, Result.andThen_ok, hagg, if_true, hsz, hl]
theorem loadAt_blk {g : Nat} {ty : TypeId} (cs : List Value) (hagg : (isAgg t).run P w = .ok true w) (hsz : (sizeOf t).run P w = .ok cs.length w) (h : Blk w g ty cs.toArray) : (Instr.loadAt t (.pointer (some ⟨g, 0, none⟩))).run P w = .ok (.agg cs.toArray) w :=
 loadAt_agg cs hagg hsz (fun j v hj => by rw [Nat.zero_add, h.cell j]; simpa using hj)
end
theorem agg_case (w : World) : (isAgg 48).run Tryz.prog w = .ok true w := by go_simp
theorem agg_expr (w : World) : (isAgg 55).run Tryz.prog w = .ok true w := by go_simp
theorem size_expr (w : World) : (sizeOf 55).run Tryz.prog w = .ok 10 w := by go_simp
theorem loadAt_case {c : Ca} {g : Nat} {ty : TypeId} {u : World} (h : Blk u g ty #[.int .i64 c.c1.u, .int .i64 c.c1.ro, .int .i64 c.c1.ty, .int .i64 c.c1.lo.s, .int .u64 c.c1.lo.c, .int .i64 c.c1.hi.s, .int .u64 c.c1.hi.c, .int .i64 c.c2.u, .int .i64 c.c2.ro, .int .i64 c.c2.ty, .int .i64 c.c2.lo.s, .int .u64 c.c2.lo.c, .int .i64 c.c2.hi.s, .int .u64 c.c2.hi.c, .int .i64 c.c3.u, .int .i64 c.c3.ro, .int .i64 c.c3.ty, .int .i64 c.c3.lo.s, .int .u64 c.c3.lo.c, .int .i64 c.c3.hi.s, .int .u64 c.c3.hi.c]) : (Instr.loadAt 48 (.pointer (some ⟨g, 0, none⟩))).run Tryz.prog u = .ok (.agg #[.int .i64 c.c1.u, .int .i64 c.c1.ro, .int .i64 c.c1.ty, .int .i64 c.c1.lo.s, .int .u64 c.c1.lo.c, .int .i64 c.c1.hi.s, .int .u64 c.c1.hi.c, .int .i64 c.c2.u, .int .i64 c.c2.ro, .int .i64 c.c2.ty, .int .i64 c.c2.lo.s, .int .u64 c.c2.lo.c, .int .i64 c.c2.hi.s, .int .u64 c.c2.hi.c, .int .i64 c.c3.u, .int .i64 c.c3.ro, .int .i64 c.c3.ty, .int .i64 c.c3.lo.s, .int .u64 c.c3.lo.c, .int .i64 c.c3.hi.s, .int .u64 c.c3.hi.c]) u := loadAt_blk [.int .i64 c.c1.u, .int .i64 c.c1.ro, .int .i64 c.c1.ty, .int .i64 c.c1.lo.s, .int .u64 c.c1.lo.c, .int .i64 c.c1.hi.s, .int .u64 c.c1.hi.c, .int .i64 c.c2.u, .int .i64 c.c2.ro, .int .i64 c.c2.ty, .int .i64 c.c2.lo.s, .int .u64 c.c2.lo.c, .int .i64 c.c2.hi.s, .int .u64 c.c2.hi.c, .int .i64 c.c3.u, .int .i64 c.c3.ro, .int .i64 c.c3.ty, .int .i64 c.c3.lo.s, .int .u64 c.c3.lo.c, .int .i64 c.c3.hi.s, .int .u64 c.c3.hi.c] (agg_case u) (size_case' u) h
theorem loadAt_expr {x : X} {ao ak : Option Addr} {cap ck g o : Nat} {u : World} (h : XC u g o x.op x.a x.r x.b ao x.ns.length cap x.st ak x.ks.length ck) : (Instr.loadAt 55 (.pointer (some ⟨g, o, none⟩))).run Tryz.prog u = .ok (.agg #[.int .i64 x.op, .int .i64 x.a, .int .i64 x.r, .int .i64 x.b, .slice ao x.ns.length cap, .int .u64 x.st.a, .int .u64 x.st.b, .int .u64 x.st.c, .int .u64 x.st.d, .slice ak x.ks.length ck]) u := by
 obtain ⟨y0, y1, y2, y3, y4, y5, y6, y7, y8, y9⟩ := h.cells
 refine loadAt_agg [.int .i64 x.op, .int .i64 x.a, .int .i64 x.r, .int .i64 x.b, .slice ao x.ns.length cap, .int .u64 x.st.a, .int .u64 x.st.b, .int .u64 x.st.c, .int .u64 x.st.d, .slice ak x.ks.length ck] (agg_expr u) (size_expr u) (fun j v hj => ?_)
 rcases j with _ | _ | _ | _ | _ | _ | _ | _ | _ | _ | j
 all_goals first
  | (simp only [List.getElem?_cons_zero, List.getElem?_cons_succ, Option.some.injEq] at hj; subst hj; assumption)
  | simp at hj
section
variable {P : Program} {t : TypeId} {g : Addr} {v : Value} {w : World} {a : Act} {o : Oper}
theorem run_load (x : Operand) (ho : o.op = .load t x) (hx : a.eval x = .pointer (some g)) (h : (Instr.loadAt t (.pointer (some g))).run P w = .ok v w) : (execOp a.eval o).run P w = .ok (.value v) w := by
 unfold execOp
 simp only [ho, hx, Sem.run_bind, h, Result.andThen_ok]
 rfl
/-- in a quiet walk: an operation that loads a whole value -/
theorem quiet_load {C : World → Prop} {K : Act → Prop} (x : Operand) (ho : o.op = .load t x) (hx : a.eval x = .pointer (some g)) (h : ∀ w, C w → (Instr.loadAt t (.pointer (some g))).run P w = .ok v w) (hk : K (a.put o.dst v)) : o.quiet P a C K :=
 ⟨_, fun w hw => by unfold Oper.quietAt; rw [run_load x ho hx (h w hw)]; exact ⟨rfl, rfl⟩, hk⟩
theorem wpList_load {ops : Array Oper} {rest : List Oper} {Q : Exit → Act → World → Prop} (hw : Region.wanted o (yielded ops a.tmps) = true) (x : Operand) (ho : o.op = .load t x) (hx : a.eval x = .pointer (some g)) (h : (Instr.loadAt t (.pointer (some g))).run P w = .ok v w) (hK : wpList P ops Q rest (a.put o.dst v) w) : wpList P ops Q (o :: rest) a w := by
 unfold wpList
 rw [if_pos hw]
 refine .inl ?_
 unfold Oper.wp
 rw [run_load x ho hx h]
 exact hK
end
set_option maxRecDepth 100000 in
theorem ctx_ret {fn : Func} {tmps : Array Value} {t : Tmp} {w : World} {g : Nat} {a : Cx} (h : fn.results = #[.cell t 46]) (ht : tmps.getD t undef = .pointer (some ⟨g, 0, none⟩)) (q : Blk w g 46 #[.int .i64 a.u, .int .i64 a.ro, .int .i64 a.ty, .int .i64 a.lo.s, .int .u64 a.lo.c, .int .i64 a.hi.s, .int .u64 a.hi.c]) :
 (results fn tmps).run Tryz.prog w = .ok (.agg #[.int .i64 a.u, .int .i64 a.ro, .int .i64 a.ty, .int .i64 a.lo.s, .int .u64 a.lo.c, .int .i64 a.hi.s, .int .u64 a.hi.c]) w := by
 have c0 := q.cell 0
 have c1 := q.cell 1
 have c2 := q.cell 2
 have c3 := q.cell 3
 have c4 := q.cell 4
 have c5 := q.cell 5
 have c6 := q.cell 6
 have ht' : tmps[t]?.getD undef = .pointer (some ⟨g, 0, none⟩) := by simpa using ht
 simp [results, h, ht', go_sem, c0, c1, c2, c3, c4, c5, c6]
theorem two_new' (w : World) (o1 : Obj) (t2 : TypeId) (c2 : Array Value) : Blk ((w.alloc o1).alloc (.cells c2 t2)) (w.heap.size + 1) t2 c2 := by
 have h := Blk.new (w.alloc o1) t2 c2
 rw [World.size_alloc] at h
 exact h
set_option maxRecDepth 100000 in
set_option maxHeartbeats 4000000 in
theorem rctx_0 (c : Ca) (n : Nat) (hn : n / 5 = 0) (w : World) : Calls Tryz.prog 110 #[.agg #[.int .i64 c.c1.u, .int .i64 c.c1.ro, .int .i64 c.c1.ty, .int .i64 c.c1.lo.s, .int .u64 c.c1.lo.c, .int .i64 c.c1.hi.s, .int .u64 c.c1.hi.c, .int .i64 c.c2.u, .int .i64 c.c2.ro, .int .i64 c.c2.ty, .int .i64 c.c2.lo.s, .int .u64 c.c2.lo.c, .int .i64 c.c2.hi.s, .int .u64 c.c2.hi.c, .int .i64 c.c3.u, .int .i64 c.c3.ro, .int .i64 c.c3.ty, .int .i64 c.c3.lo.s, .int .u64 c.c3.lo.c, .int .i64 c.c3.hi.s, .int .u64 c.c3.hi.c], .int .i64 n] w fun e w' => e = .returned (.agg #[.int .i64 c.c1.u, .int .i64 c.c1.ro, .int .i64 c.c1.ty, .int .i64 c.c1.lo.s, .int .u64 c.c1.lo.c, .int .i64 c.c1.hi.s, .int .u64 c.c1.hi.c]) ∧ Below w.heap.size w w' := by
 have hd1 : Int.tdiv (n : Int) 5 = 0 := by rw [Int.tdiv_eq_ediv_of_nonneg (by omega)]; omega
 have hd2 : (n : Int) / 5 = 0 := by omega
 obtain ⟨W, ZW⟩ : ∃ v, Hid (((w.alloc (.cells #[.int .i64 c.c1.u, .int .i64 c.c1.ro, .int .i64 c.c1.ty, .int .i64 c.c1.lo.s, .int .u64 c.c1.lo.c, .int .i64 c.c1.hi.s, .int .u64 c.c1.hi.c, .int .i64 c.c2.u, .int .i64 c.c2.ro, .int .i64 c.c2.ty, .int .i64 c.c2.lo.s, .int .u64 c.c2.lo.c, .int .i64 c.c2.hi.s, .int .u64 c.c2.hi.c, .int .i64 c.c3.u, .int .i64 c.c3.ro, .int .i64 c.c3.ty, .int .i64 c.c3.lo.s, .int .u64 c.c3.lo.c, .int .i64 c.c3.hi.s, .int .u64 c.c3.hi.c] 48)).alloc (.cells #[.int .i64 0, .int .i64 0, .int .i64 0, .int .i64 0, .int .u64 0, .int .i64 0, .int .u64 0] 46)) = v) := ⟨_, Lib.hid rfl⟩
 have HB : Hid (Below w.heap.size w W) := by cases ZW.out; exact Lib.hid (((Below.refl _ _).alloc (Nat.le_refl _) _).alloc (by simp) _)
 have HC : Hid (Blk W w.heap.size 48 #[.int .i64 c.c1.u, .int .i64 c.c1.ro, .int .i64 c.c1.ty, .int .i64 c.c1.lo.s, .int .u64 c.c1.lo.c, .int .i64 c.c1.hi.s, .int .u64 c.c1.hi.c, .int .i64 c.c2.u, .int .i64 c.c2.ro, .int .i64 c.c2.ty, .int .i64 c.c2.lo.s, .int .u64 c.c2.lo.c, .int .i64 c.c2.hi.s, .int .u64 c.c2.hi.c, .int .i64 c.c3.u, .int .i64 c.c3.ro, .int .i64 c.c3.ty, .int .i64 c.c3.lo.s, .int .u64 c.c3.lo.c, .int .i64 c.c3.hi.s, .int .u64 c.c3.hi.c]) := by cases ZW.out; exact Lib.hid ((Blk.new w _ _).alloc _)
 have HR : Hid (Blk W (w.heap.size + 1) 46 #[.int .i64 0, .int .i64 0, .int .i64 0, .int .i64 0, .int .u64 0, .int .i64 0, .int .u64 0]) := by cases ZW.out; exact Lib.hid (two_new' _ _ _ _)
 clear hn
 go_enter Tryz.func110, Tryz.ntmps110
 go_upto_region 1 with fail
 rw [ZW.out]
 have HS : Hid (w.heap.size ≤ w.heap.size + 1) := Lib.hid (Nat.le_succ _)
 generalize w.heap.size + 1 = gr at *
 generalize hgc : w.heap.size = gc at *
 have hr := HR.out.cell
 have r0 := hr 0
 have r1 := hr 1
 have r2 := hr 2
 have r3 := hr 3
 have r4 := hr 4
 have r5 := hr 5
 have r6 := hr 6
 clear hr
 have hp := HC.out.cell
 have k0 := hp 0
 have k1 := hp 1
 have k2 := hp 2
 have k3 := hp 3
 have k4 := hp 4
 have k5 := hp 5
 have k6 := hp 6
 clear hp
 have HZ := HR.out.frozen
 go_wp2_with fail
 exact bodyPost_ret (v := .agg #[.int .i64 c.c1.u, .int .i64 c.c1.ro, .int .i64 c.c1.ty, .int .i64 c.c1.lo.s, .int .u64 c.c1.lo.c, .int .i64 c.c1.hi.s, .int .u64 c.c1.hi.c]) (ctx_ret Tryz.results110 rfl (((((((HR.out.set 0 _).set 1 _).set 2 _).set 3 _).set 4 _).set 5 _).set 6 _)) rfl ⟨rfl, by first | exact below_set1 (below_set1 (below_set1 (below_set1 (below_set1 (below_set1 (below_set1 HB.out HS.out 0 _) HS.out 1 _) HS.out 2 _) HS.out 3 _) HS.out 4 _) HS.out 5 _) HS.out 6 _ | (rw [hgc]; exact below_set1 (below_set1 (below_set1 (below_set1 (below_set1 (below_set1 (below_set1 HB.out HS.out 0 _) HS.out 1 _) HS.out 2 _) HS.out 3 _) HS.out 4 _) HS.out 5 _) HS.out 6 _)⟩
set_option maxRecDepth 100000 in
set_option maxHeartbeats 4000000 in
theorem rctx_1 (c : Ca) (n : Nat) (hn : n / 5 = 1) (w : World) : Calls Tryz.prog 110 #[.agg #[.int .i64 c.c1.u, .int .i64 c.c1.ro, .int .i64 c.c1.ty, .int .i64 c.c1.lo.s, .int .u64 c.c1.lo.c, .int .i64 c.c1.hi.s, .int .u64 c.c1.hi.c, .int .i64 c.c2.u, .int .i64 c.c2.ro, .int .i64 c.c2.ty, .int .i64 c.c2.lo.s, .int .u64 c.c2.lo.c, .int .i64 c.c2.hi.s, .int .u64 c.c2.hi.c, .int .i64 c.c3.u, .int .i64 c.c3.ro, .int .i64 c.c3.ty, .int .i64 c.c3.lo.s, .int .u64 c.c3.lo.c, .int .i64 c.c3.hi.s, .int .u64 c.c3.hi.c], .int .i64 n] w fun e w' => e = .returned (.agg #[.int .i64 c.c2.u, .int .i64 c.c2.ro, .int .i64 c.c2.ty, .int .i64 c.c2.lo.s, .int .u64 c.c2.lo.c, .int .i64 c.c2.hi.s, .int .u64 c.c2.hi.c]) ∧ Below w.heap.size w w' := by
 have hd1 : Int.tdiv (n : Int) 5 = 1 := by rw [Int.tdiv_eq_ediv_of_nonneg (by omega)]; omega
 have hd2 : (n : Int) / 5 = 1 := by omega
 obtain ⟨W, ZW⟩ : ∃ v, Hid (((w.alloc (.cells #[.int .i64 c.c1.u, .int .i64 c.c1.ro, .int .i64 c.c1.ty, .int .i64 c.c1.lo.s, .int .u64 c.c1.lo.c, .int .i64 c.c1.hi.s, .int .u64 c.c1.hi.c, .int .i64 c.c2.u, .int .i64 c.c2.ro, .int .i64 c.c2.ty, .int .i64 c.c2.lo.s, .int .u64 c.c2.lo.c, .int .i64 c.c2.hi.s, .int .u64 c.c2.hi.c, .int .i64 c.c3.u, .int .i64 c.c3.ro, .int .i64 c.c3.ty, .int .i64 c.c3.lo.s, .int .u64 c.c3.lo.c, .int .i64 c.c3.hi.s, .int .u64 c.c3.hi.c] 48)).alloc (.cells #[.int .i64 0, .int .i64 0, .int .i64 0, .int .i64 0, .int .u64 0, .int .i64 0, .int .u64 0] 46)) = v) := ⟨_, Lib.hid rfl⟩
 have HB : Hid (Below w.heap.size w W) := by cases ZW.out; exact Lib.hid (((Below.refl _ _).alloc (Nat.le_refl _) _).alloc (by simp) _)
 have HC : Hid (Blk W w.heap.size 48 #[.int .i64 c.c1.u, .int .i64 c.c1.ro, .int .i64 c.c1.ty, .int .i64 c.c1.lo.s, .int .u64 c.c1.lo.c, .int .i64 c.c1.hi.s, .int .u64 c.c1.hi.c, .int .i64 c.c2.u, .int .i64 c.c2.ro, .int .i64 c.c2.ty, .int .i64 c.c2.lo.s, .int .u64 c.c2.lo.c, .int .i64 c.c2.hi.s, .int .u64 c.c2.hi.c, .int .i64 c.c3.u, .int .i64 c.c3.ro, .int .i64 c.c3.ty, .int .i64 c.c3.lo.s, .int .u64 c.c3.lo.c, .int .i64 c.c3.hi.s, .int .u64 c.c3.hi.c]) := by cases ZW.out; exact Lib.hid ((Blk.new w _ _).alloc _)
 have HR : Hid (Blk W (w.heap.size + 1) 46 #[.int .i64 0, .int .i64 0, .int .i64 0, .int .i64 0, .int .u64 0, .int .i64 0, .int .u64 0]) := by cases ZW.out; exact Lib.hid (two_new' _ _ _ _)
 clear hn
 go_enter Tryz.func110, Tryz.ntmps110
 go_upto_region 1 with fail
 rw [ZW.out]
 have HS : Hid (w.heap.size ≤ w.heap.size + 1) := Lib.hid (Nat.le_succ _)
 generalize w.heap.size + 1 = gr at *
 generalize hgc : w.heap.size = gc at *
 have hr := HR.out.cell
 have r0 := hr 0
 have r1 := hr 1
 have r2 := hr 2
 have r3 := hr 3
 have r4 := hr 4
 have r5 := hr 5
 have r6 := hr 6
 clear hr
 have hp := HC.out.cell
 have k0 := hp 7
 have k1 := hp 8
 have k2 := hp 9
 have k3 := hp 10
 have k4 := hp 11
 have k5 := hp 12
 have k6 := hp 13
 clear hp
 have HZ := HR.out.frozen
 go_wp2_with fail
 exact bodyPost_ret (v := .agg #[.int .i64 c.c2.u, .int .i64 c.c2.ro, .int .i64 c.c2.ty, .int .i64 c.c2.lo.s, .int .u64 c.c2.lo.c, .int .i64 c.c2.hi.s, .int .u64 c.c2.hi.c]) (ctx_ret Tryz.results110 rfl (((((((HR.out.set 0 _).set 1 _).set 2 _).set 3 _).set 4 _).set 5 _).set 6 _)) rfl ⟨rfl, by first | exact below_set1 (below_set1 (below_set1 (below_set1 (below_set1 (below_set1 (below_set1 HB.out HS.out 0 _) HS.out 1 _) HS.out 2 _) HS.out 3 _) HS.out 4 _) HS.out 5 _) HS.out 6 _ | (rw [hgc]; exact below_set1 (below_set1 (below_set1 (below_set1 (below_set1 (below_set1 (below_set1 HB.out HS.out 0 _) HS.out 1 _) HS.out 2 _) HS.out 3 _) HS.out 4 _) HS.out 5 _) HS.out 6 _)⟩
set_option maxRecDepth 100000 in
set_option maxHeartbeats 4000000 in
theorem rctx_2 (c : Ca) (n : Nat) (hn : n / 5 = 2) (w : World) : Calls Tryz.prog 110 #[.agg #[.int .i64 c.c1.u, .int .i64 c.c1.ro, .int .i64 c.c1.ty, .int .i64 c.c1.lo.s, .int .u64 c.c1.lo.c, .int .i64 c.c1.hi.s, .int .u64 c.c1.hi.c, .int .i64 c.c2.u, .int .i64 c.c2.ro, .int .i64 c.c2.ty, .int .i64 c.c2.lo.s, .int .u64 c.c2.lo.c, .int .i64 c.c2.hi.s, .int .u64 c.c2.hi.c, .int .i64 c.c3.u, .int .i64 c.c3.ro, .int .i64 c.c3.ty, .int .i64 c.c3.lo.s, .int .u64 c.c3.lo.c, .int .i64 c.c3.hi.s, .int .u64 c.c3.hi.c], .int .i64 n] w fun e w' => e = .returned (.agg #[.int .i64 c.c3.u, .int .i64 c.c3.ro, .int .i64 c.c3.ty, .int .i64 c.c3.lo.s, .int .u64 c.c3.lo.c, .int .i64 c.c3.hi.s, .int .u64 c.c3.hi.c]) ∧ Below w.heap.size w w' := by
 have hd1 : Int.tdiv (n : Int) 5 = 2 := by rw [Int.tdiv_eq_ediv_of_nonneg (by omega)]; omega
 have hd2 : (n : Int) / 5 = 2 := by omega
 obtain ⟨W, ZW⟩ : ∃ v, Hid (((w.alloc (.cells #[.int .i64 c.c1.u, .int .i64 c.c1.ro, .int .i64 c.c1.ty, .int .i64 c.c1.lo.s, .int .u64 c.c1.lo.c, .int .i64 c.c1.hi.s, .int .u64 c.c1.hi.c, .int .i64 c.c2.u, .int .i64 c.c2.ro, .int .i64 c.c2.ty, .int .i64 c.c2.lo.s, .int .u64 c.c2.lo.c, .int .i64 c.c2.hi.s, .int .u64 c.c2.hi.c, .int .i64 c.c3.u, .int .i64 c.c3.ro, .int .i64 c.c3.ty, .int .i64 c.c3.lo.s, .int .u64 c.c3.lo.c, .int .i64 c.c3.hi.s, .int .u64 c.c3.hi.c] 48)).alloc (.cells #[.int .i64 0, .int .i64 0, .int .i64 0, .int .i64 0, .int .u64 0, .int .i64 0, .int .u64 0] 46)) = v) := ⟨_, Lib.hid rfl⟩
 have HB : Hid (Below w.heap.size w W) := by cases ZW.out; exact Lib.hid (((Below.refl _ _).alloc (Nat.le_refl _) _).alloc (by simp) _)
 have HC : Hid (Blk W w.heap.size 48 #[.int .i64 c.c1.u, .int .i64 c.c1.ro, .int .i64 c.c1.ty, .int .i64 c.c1.lo.s, .int .u64 c.c1.lo.c, .int .i64 c.c1.hi.s, .int .u64 c.c1.hi.c, .int .i64 c.c2.u, .int .i64 c.c2.ro, .int .i64 c.c2.ty, .int .i64 c.c2.lo.s, .int .u64 c.c2.lo.c, .int .i64 c.c2.hi.s, .int .u64 c.c2.hi.c, .int .i64 c.c3.u, .int .i64 c.c3.ro, .int .i64 c.c3.ty, .int .i64 c.c3.lo.s, .int .u64 c.c3.lo.c, .int .i64 c.c3.hi.s, .int .u64 c.c3.hi.c]) := by cases ZW.out; exact Lib.hid ((Blk.new w _ _).alloc _)
 have HR : Hid (Blk W (w.heap.size + 1) 46 #[.int .i64 0, .int .i64 0, .int .i64 0, .int .i64 0, .int .u64 0, .int .i64 0, .int .u64 0]) := by cases ZW.out; exact Lib.hid (two_new' _ _ _ _)
 clear hn
 go_enter Tryz.func110, Tryz.ntmps110
 go_upto_region 1 with fail
 rw [ZW.out]
 have HS : Hid (w.heap.size ≤ w.heap.size + 1) := Lib.hid (Nat.le_succ _)
 generalize w.heap.size + 1 = gr at *
 generalize hgc : w.heap.size = gc at *
 have hr := HR.out.cell
 have r0 := hr 0
 have r1 := hr 1
 have r2 := hr 2
 have r3 := hr 3
 have r4 := hr 4
 have r5 := hr 5
 have r6 := hr 6
 clear hr
 have hp := HC.out.cell
 have k0 := hp 14
 have k1 := hp 15
 have k2 := hp 16
 have k3 := hp 17
 have k4 := hp 18
 have k5 := hp 19
 have k6 := hp 20
 clear hp
 have HZ := HR.out.frozen
 go_wp2_with fail
 exact bodyPost_ret (v := .agg #[.int .i64 c.c3.u, .int .i64 c.c3.ro, .int .i64 c.c3.ty, .int .i64 c.c3.lo.s, .int .u64 c.c3.lo.c, .int .i64 c.c3.hi.s, .int .u64 c.c3.hi.c]) (ctx_ret Tryz.results110 rfl (((((((HR.out.set 0 _).set 1 _).set 2 _).set 3 _).set 4 _).set 5 _).set 6 _)) rfl ⟨rfl, by first | exact below_set1 (below_set1 (below_set1 (below_set1 (below_set1 (below_set1 (below_set1 HB.out HS.out 0 _) HS.out 1 _) HS.out 2 _) HS.out 3 _) HS.out 4 _) HS.out 5 _) HS.out 6 _ | (rw [hgc]; exact below_set1 (below_set1 (below_set1 (below_set1 (below_set1 (below_set1 (below_set1 HB.out HS.out 0 _) HS.out 1 _) HS.out 2 _) HS.out 3 _) HS.out 4 _) HS.out 5 _) HS.out 6 _)⟩
theorem rctx_c (c : Ca) (n : Nat) (hn : n < 15) (w : World) : Calls Tryz.prog 110 #[.agg #[.int .i64 c.c1.u, .int .i64 c.c1.ro, .int .i64 c.c1.ty, .int .i64 c.c1.lo.s, .int .u64 c.c1.lo.c, .int .i64 c.c1.hi.s, .int .u64 c.c1.hi.c, .int .i64 c.c2.u, .int .i64 c.c2.ro, .int .i64 c.c2.ty, .int .i64 c.c2.lo.s, .int .u64 c.c2.lo.c, .int .i64 c.c2.hi.s, .int .u64 c.c2.hi.c, .int .i64 c.c3.u, .int .i64 c.c3.ro, .int .i64 c.c3.ty, .int .i64 c.c3.lo.s, .int .u64 c.c3.lo.c, .int .i64 c.c3.hi.s, .int .u64 c.c3.hi.c], .int .i64 n] w fun e w' => e = .returned (.agg #[.int .i64 (ctxX c (n / 5)).u, .int .i64 (ctxX c (n / 5)).ro, .int .i64 (ctxX c (n / 5)).ty, .int .i64 (ctxX c (n / 5)).lo.s, .int .u64 (ctxX c (n / 5)).lo.c, .int .i64 (ctxX c (n / 5)).hi.s, .int .u64 (ctxX c (n / 5)).hi.c]) ∧ Below w.heap.size w w' := by
 have h : n / 5 = 0 ∨ n / 5 = 1 ∨ n / 5 = 2 := by omega
 rcases h with h | h | h
 · rw [h]; exact rctx_0 c n h w
 · rw [h]; exact rctx_1 c n h w
 · rw [h]; exact rctx_2 c n h w
end Go.Proofs.YtbhoofihnmmmfabGreat
