/- Part of the proof: Pnj Pnk. No conditions. -/
import Derived.Test.YtbhoofihnmmmfabGreatYbe
import Derived.Laws.AppendOwnNone
namespace Go.Proofs.YtbhoofihnmmmfabGreat
open Go.RowKit Go
theorem addr_add0 {b o : Nat} (j : Nat) : (⟨b, o, none⟩ : Addr).add j = ⟨b, o + j, none⟩ := by unfold Addr.add; split <;> simp_all
section
variable {w : World} {base : Nat} {T al : List ByteArray} {x : ByteArray} {aoT : Option Addr} {capT : Nat} {ops : Array Oper} {rest : List Oper} {o : Oper} {a : Act} {Q : Exit → Act → World → Prop}
/-- append of one text to a list that a call owns -/
theorem wpList_name (hgd : o.guard = none) (s xx : Operand) (ho : o.op = .call { callee := .builtin .append, args := #[s, xx], argTypes := #[28, 28] })
 (hs : a.eval s = .slice aoT T.length capT) (hO : OwnS w base (.slice aoT T.length capT) T) {g : Nat} (hx : a.eval xx = .slice (some ⟨g, 0, none⟩) 1 1) (hc : w.cell? ⟨g, 0, none⟩ = some (.string x)) (hl : T.length ≤ 1000000) (hb : base ≤ w.heap.size)
 (h : ∀ v' w', OwnS w' base v' (T ++ [x]) → Below base w w' → (∀ k, k < w.heap.size → (Value.slice aoT T.length capT).ownBlock ≠ some k → w'.heap[k]? = w.heap[k]?) → wpList Tryz.prog ops Q rest (a.put o.dst v') w') : wpList Tryz.prog ops Q (o :: rest) a w := by
 obtain ⟨i0, hinf, hz0, hz1, hz2⟩ := info_parts infoStr
 refine wpList_append_own w hgd s xx 28 ho base 9 i0 (.string ⟨#[]⟩) 1 16 Tryz.underlying28 hinf hz0 hz1 hz2 rfl (by decide) (.slice aoT T.length capT) T.length (T.map Value.string) hs hO ⟨g, 0, none⟩ 1 1 [.string x] hx rfl ?c1 ?c2 ?c3 ?c4 hb ?_
 case c1 =>
  intro j u hj
  rcases j with _ | j
  · simp at hj; subst hj; exact hc
  · simp at hj
 case c2 => intro u hu; simp at hu; subst hu; rfl
 case c3 => unfold maxLen; omega
 case c4 => omega
 intro v' w3 hown2 hgrow _
 refine h v' w3 ?_ ((Below.refl base w).grown hgrow hb (fun k e => (hO.lt k e).1)) (fun k hk hne => hgrow.block k hk (fun e => hne e.symm))
 unfold OwnS
 simpa using hown2
/-- append of the texts of a slice -/
theorem wpList_names (hgd : o.guard = none) (s xx : Operand) (ho : o.op = .call { callee := .builtin .append, args := #[s, xx], argTypes := #[28, 28] }) {va : Value}
 (hs : a.eval s = .slice aoT T.length capT) (hO : OwnS w base (.slice aoT T.length capT) T) (hx : a.eval xx = va) (hc : Strs w va al) (hA : va = .slice none 0 0 ∨ ∃ a n c, va = .slice (some a) n c) (hl : T.length + al.length ≤ 1000000) (hb : base ≤ w.heap.size)
 (h : ∀ v' w', OwnS w' base v' (T ++ al) → Below base w w' → (∀ k, k < w.heap.size → (Value.slice aoT T.length capT).ownBlock ≠ some k → w'.heap[k]? = w.heap[k]?) → wpList Tryz.prog ops Q rest (a.put o.dst v') w') : wpList Tryz.prog ops Q (o :: rest) a w := by
 obtain ⟨i0, hinf, hz0, hz1, hz2⟩ := info_parts infoStr
 obtain ⟨ao, cap, rfl, hr⟩ := hc
 have hNS : ∀ g' o', ao = some ⟨g', o', none⟩ → SRow w g' o' al → wpList Tryz.prog ops Q (o :: rest) a w := by
  rintro g' o' rfl hR
  refine wpList_append_own w hgd s xx 28 ho base 9 i0 (.string ⟨#[]⟩) 1 16 Tryz.underlying28 hinf hz0 hz1 hz2 rfl (by decide) (.slice aoT T.length capT) T.length (T.map Value.string) hs hO ⟨g', o', none⟩ al.length cap (al.map Value.string) hx (by simp) ?c1 ?c2 ?c3 ?c4 hb ?_
  case c1 =>
   intro j u hj
   rw [List.getElem?_map] at hj
   obtain ⟨y, hy, rfl⟩ := Option.map_eq_some_iff.1 hj
   obtain ⟨hjl, rfl⟩ := List.getElem?_eq_some_iff.1 hy
   rw [addr_add0]
   exact hR j hjl
  case c2 => intro u hu; obtain ⟨y, -, rfl⟩ := List.mem_map.1 hu; rfl
  case c3 => unfold maxLen; omega
  case c4 => omega
  intro v' w3 hown2 hgrow _
  refine h v' w3 ?_ ((Below.refl base w).grown hgrow hb (fun k e => (hO.lt k e).1)) (fun k hk hne => hgrow.block k hk (fun e => hne e.symm))
  unfold OwnS
  simpa using hown2
 rcases al with _ | ⟨y, r⟩
 · rcases ao with _ | ⟨g', o', sp⟩
   · cases cap with
     | zero =>
       refine wpList_append_own_none hgd s xx 28 ho base 9 i0 1 Tryz.underlying28 hinf (.slice aoT T.length capT) T.length (T.map Value.string) hs hO hx ?_
       exact h _ w (by rw [List.append_nil]; exact hO) (Below.refl _ _) (fun _ _ _ => rfl)
     | succ c => rcases hA with h0 | ⟨_, _, _, h0⟩ <;> simp at h0
   · cases sp with
     | none => exact hNS g' o' rfl (fun k hk => absurd hk (by simp))
     | some z =>
       refine wpList_append_own w hgd s xx 28 ho base 9 i0 (.string ⟨#[]⟩) 1 16 Tryz.underlying28 hinf hz0 hz1 hz2 rfl (by decide) (.slice aoT T.length capT) T.length (T.map Value.string) hs hO ⟨g', o', some z⟩ 0 cap [] hx rfl ?c1 ?c2 ?c3 ?c4 hb ?_
       case c1 => intro j u hj; cases hj
       case c2 => intro u hu; cases hu
       case c3 => unfold maxLen; simp at hl; simp; omega
       case c4 => simp at hl; simp; omega
       intro v' w3 hown2 hgrow _
       refine h v' w3 ?_ ((Below.refl base w).grown hgrow hb (fun k e => (hO.lt k e).1)) (fun k hk hne => hgrow.block k hk (fun e => hne e.symm))
       unfold OwnS
       simpa using hown2
 · obtain ⟨g', o', e, hR⟩ := hr (by simp)
   exact hNS g' o' e hR
end
set_option maxRecDepth 100000 in
set_option maxHeartbeats 16000000 in
theorem nExpression_c (x : X) (vd : Bool) (q : PV) (p : PP) (vn vk : Value) (w : World) (hP : PolV w q p) (hu1 : p.uss.length ≤ 1000000) (hu2 : p.ros.length ≤ 1000000) (hu3 : p.tys.length ≤ 1000000) (hV : XV w vn vk x) : Calls Tryz.prog 62 #[q.val, .agg #[.int .i64 x.op, .int .i64 x.a, .int .i64 x.r, .int .i64 x.b, vn, .int .u64 x.st.a, .int .u64 x.st.b, .int .u64 x.st.c, .int .u64 x.st.d, vk], .bool vd] w fun e w' => e = .returned (.int .i64 (exprE p x vd)) ∧ Below w.heap.size w w' := by
 obtain ⟨ao, cap, ak, ck, rfl, rfl⟩ := hV.form
 obtain ⟨lv, hlv⟩ : ∃ z, lvls 13 x = z := ⟨_, rfl⟩
 have HLV := Lib.hid hlv
 have hl13 : lv ≤ 13 := by rw [← hlv]; exact lvls_le _ _
 have HU := Lib.hid (And.intro hu1 (And.intro hu2 hu3))
 obtain ⟨N, hN⟩ : ∃ N : Int, (if vd then 15 else 10) = N := ⟨_, rfl⟩
 have HN := Lib.hid hN
 by_cases hl : 12 < lv
 · have hl2 : ((12 : Int) < (lv : Int)) = True := by simp; omega
   have hl3 : decide ((12 : Int) < (lv : Int)) = true := by simp; omega
   have e : exprE p x vd = 4 := by unfold exprE; rw [HLV.out, if_pos hl]
   rw [e]
   clear e hl hlv hl13 hN
   obtain ⟨W, ZW⟩ : ∃ v, Hid (((w.alloc (.cells #[q.v0, q.v1, q.v2, q.v3, q.v4, q.v5, q.v6, q.v7, q.v8, q.v9, q.v10, q.v11, q.v12, q.v13, q.v14, q.v15, q.v16] 39)).alloc (.cells #[.int .i64 x.op, .int .i64 x.a, .int .i64 x.r, .int .i64 x.b, .slice ao x.ns.length cap, .int .u64 x.st.a, .int .u64 x.st.b, .int .u64 x.st.c, .int .u64 x.st.d, .slice ak x.ks.length ck] 55)) = v) := ⟨_, Lib.hid rfl⟩
   have HB : Hid (Below w.heap.size w W) := by cases ZW.out; exact Lib.hid (((Below.refl _ _).alloc (Nat.le_refl _) _).alloc (by first | (simp; done) | (simp; omega)) _)
   have HX0 : Hid (Blk W (w.heap.size) 39 #[q.v0, q.v1, q.v2, q.v3, q.v4, q.v5, q.v6, q.v7, q.v8, q.v9, q.v10, q.v11, q.v12, q.v13, q.v14, q.v15, q.v16]) := by cases ZW.out; exact Lib.hid ((Blk.here (by simp)).alloc _)
   have HX1 : Hid (Blk W (w.heap.size + 1) 55 #[.int .i64 x.op, .int .i64 x.a, .int .i64 x.r, .int .i64 x.b, .slice ao x.ns.length cap, .int .u64 x.st.a, .int .u64 x.st.b, .int .u64 x.st.c, .int .u64 x.st.d, .slice ak x.ks.length ck]) := by cases ZW.out; exact Lib.hid (Blk.here (by simp))
   have HQ : Hid (PolV W q p) := by cases ZW.out; exact Lib.hid (hP.keep HB.out)
   have HVX := Lib.hid (hV.keep HB.out)
   clear hV hP
   have HLE : Hid (w.heap.size ≤ W.heap.size) := by cases ZW.out; exact Lib.hid HB.out.size
   try unfold PV.val
   go_enter Tryz.func62, Tryz.ntmps62
   go_upto_region 1 with fail
   rw [ZW.out]
   generalize w.heap.size + 1 = g1 at *
   generalize hg0 : w.heap.size = g0 at *
   generalize Value.agg #[q.v0, q.v1, q.v2, q.v3, q.v4, q.v5, q.v6, q.v7, q.v8, q.v9, q.v10, q.v11, q.v12, q.v13, q.v14, q.v15, q.v16] = P0
   have HXC : Hid (∀ u, Kp W u → XC u g1 0 x.op x.a x.r x.b ao x.ns.length cap x.st ak x.ks.length ck) := Lib.hid (fun u hu => XC.of_blk (HX1.out.keep hu))
   have HCV : Hid (∀ u, Kp W u → Calls Tryz.prog 23 #[.agg #[.int .i64 x.op, .int .i64 x.a, .int .i64 x.r, .int .i64 x.b, .slice ao x.ns.length cap, .int .u64 x.st.a, .int .u64 x.st.b, .int .u64 x.st.c, .int .u64 x.st.d, .slice ak x.ks.length ck]] u fun e w' => e = .returned (.int .i64 lv) ∧ Below u.heap.size u w') := Lib.hid (fun u hu => by rw [← HLV.out]; exact nLevels_c x _ _ u (HVX.out.keep hu))
   all_goals refine wp_region_kq ?_
   repeat' (first | go_big_quiet_skip | (go_big_quiet_want; first | (refine quiet_load (t := 55) (.tmp 4) rfl rfl (fun w1 hC => loadAt_expr (HXC.out w1 hC)) ?_; simp only [Act.put, List.setIfInBounds_toArray, List.set_cons_succ, List.set_cons_zero]; go_big_quiet_on) | (go_big_quiet_op; first | go_big_quiet_on | (apply Exists.intro; refine ⟨fun w1 hC => ?_, ?_⟩; (first | (go_at_call 23; with_reducible exact hC.call (HCV.out _ hC)) | exact rfl | (go_simp; exact ⟨rfl, rfl⟩)); go_big_quiet_on))))
   all_goals refine wpQuiet_nil ?_
   all_goals intro V1 hC
   all_goals have HF1 := Lib.hid (HB.out.trans (Below.mono hC HLE.out))
   all_goals have HT1 : Hid (∀ u, Kp V1 u → Kp W u) := Lib.hid (fun u hu => kp_trans hC hu)
   all_goals clear hC
   all_goals (go_wp2_with fail
              go_ret
              exact ⟨rfl, by first | exact HF1.out | (rw [hg0]; exact HF1.out)⟩)
 · have hl2 : ((12 : Int) < (lv : Int)) = False := by simp; omega
   have hl3 : decide ((12 : Int) < (lv : Int)) = false := by simp; omega
   have e : exprE p x vd = expE p N x := by unfold exprE; rw [HLV.out, if_neg hl, HN.out]
   rw [e]
   have HL12 : Hid (lvls (12 + 1) x ≤ 12) := Lib.hid (by rw [HLV.out]; omega)
   clear e hl hlv hl13
   have HB : Hid (Below w.heap.size w ((w.alloc (.cells #[q.v0, q.v1, q.v2, q.v3, q.v4, q.v5, q.v6, q.v7, q.v8, q.v9, q.v10, q.v11, q.v12, q.v13, q.v14, q.v15, q.v16] 39)).alloc (.cells #[.int .i64 x.op, .int .i64 x.a, .int .i64 x.r, .int .i64 x.b, .slice ao x.ns.length cap, .int .u64 x.st.a, .int .u64 x.st.b, .int .u64 x.st.c, .int .u64 x.st.d, .slice ak x.ks.length ck] 55))) := Lib.hid (((Below.refl _ _).alloc (Nat.le_refl _) _).alloc (by first | (simp; done) | (simp; omega)) _)
   have HX0 : Hid (Blk ((w.alloc (.cells #[q.v0, q.v1, q.v2, q.v3, q.v4, q.v5, q.v6, q.v7, q.v8, q.v9, q.v10, q.v11, q.v12, q.v13, q.v14, q.v15, q.v16] 39)).alloc (.cells #[.int .i64 x.op, .int .i64 x.a, .int .i64 x.r, .int .i64 x.b, .slice ao x.ns.length cap, .int .u64 x.st.a, .int .u64 x.st.b, .int .u64 x.st.c, .int .u64 x.st.d, .slice ak x.ks.length ck] 55)) (w.heap.size) 39 #[q.v0, q.v1, q.v2, q.v3, q.v4, q.v5, q.v6, q.v7, q.v8, q.v9, q.v10, q.v11, q.v12, q.v13, q.v14, q.v15, q.v16]) := Lib.hid ((Blk.here (by simp)).alloc _)
   have HX1 : Hid (Blk ((w.alloc (.cells #[q.v0, q.v1, q.v2, q.v3, q.v4, q.v5, q.v6, q.v7, q.v8, q.v9, q.v10, q.v11, q.v12, q.v13, q.v14, q.v15, q.v16] 39)).alloc (.cells #[.int .i64 x.op, .int .i64 x.a, .int .i64 x.r, .int .i64 x.b, .slice ao x.ns.length cap, .int .u64 x.st.a, .int .u64 x.st.b, .int .u64 x.st.c, .int .u64 x.st.d, .slice ak x.ks.length ck] 55)) (w.heap.size + 1) 55 #[.int .i64 x.op, .int .i64 x.a, .int .i64 x.r, .int .i64 x.b, .slice ao x.ns.length cap, .int .u64 x.st.a, .int .u64 x.st.b, .int .u64 x.st.c, .int .u64 x.st.d, .slice ak x.ks.length ck]) := Lib.hid (Blk.here (by simp))
   have HQ : Hid (PolV ((w.alloc (.cells #[q.v0, q.v1, q.v2, q.v3, q.v4, q.v5, q.v6, q.v7, q.v8, q.v9, q.v10, q.v11, q.v12, q.v13, q.v14, q.v15, q.v16] 39)).alloc (.cells #[.int .i64 x.op, .int .i64 x.a, .int .i64 x.r, .int .i64 x.b, .slice ao x.ns.length cap, .int .u64 x.st.a, .int .u64 x.st.b, .int .u64 x.st.c, .int .u64 x.st.d, .slice ak x.ks.length ck] 55)) q p) := Lib.hid (hP.keep HB.out)
   have HVX := Lib.hid (hV.keep HB.out)
   clear hV hP
   have HLE : Hid (w.heap.size ≤ ((w.alloc (.cells #[q.v0, q.v1, q.v2, q.v3, q.v4, q.v5, q.v6, q.v7, q.v8, q.v9, q.v10, q.v11, q.v12, q.v13, q.v14, q.v15, q.v16] 39)).alloc (.cells #[.int .i64 x.op, .int .i64 x.a, .int .i64 x.r, .int .i64 x.b, .slice ao x.ns.length cap, .int .u64 x.st.a, .int .u64 x.st.b, .int .u64 x.st.c, .int .u64 x.st.d, .slice ak x.ks.length ck] 55)).heap.size) := Lib.hid HB.out.size
   try unfold PV.val
   go_enter Tryz.func62, Tryz.ntmps62
   go_upto_region 1 with fail
   generalize (w.alloc (.cells #[q.v0, q.v1, q.v2, q.v3, q.v4, q.v5, q.v6, q.v7, q.v8, q.v9, q.v10, q.v11, q.v12, q.v13, q.v14, q.v15, q.v16] 39)).alloc (.cells #[.int .i64 x.op, .int .i64 x.a, .int .i64 x.r, .int .i64 x.b, .slice ao x.ns.length cap, .int .u64 x.st.a, .int .u64 x.st.b, .int .u64 x.st.c, .int .u64 x.st.d, .slice ak x.ks.length ck] 55) = W at *
   generalize w.heap.size + 1 = g1 at *
   generalize hg0 : w.heap.size = g0 at *
   generalize Value.agg #[q.v0, q.v1, q.v2, q.v3, q.v4, q.v5, q.v6, q.v7, q.v8, q.v9, q.v10, q.v11, q.v12, q.v13, q.v14, q.v15, q.v16] = P0
   have HXC : Hid (∀ u, Kp W u → XC u g1 0 x.op x.a x.r x.b ao x.ns.length cap x.st ak x.ks.length ck) := Lib.hid (fun u hu => XC.of_blk (HX1.out.keep hu))
   have HCV : Hid (∀ u, Kp W u → Calls Tryz.prog 23 #[.agg #[.int .i64 x.op, .int .i64 x.a, .int .i64 x.r, .int .i64 x.b, .slice ao x.ns.length cap, .int .u64 x.st.a, .int .u64 x.st.b, .int .u64 x.st.c, .int .u64 x.st.d, .slice ak x.ks.length ck]] u fun e w' => e = .returned (.int .i64 lv) ∧ Below u.heap.size u w') := Lib.hid (fun u hu => by rw [← HLV.out]; exact nLevels_c x _ _ u (HVX.out.keep hu))
   cases vd
   · obtain rfl : (10 : Int) = N := by simpa using hN
     have HCC : Hid (∀ u, Kp W u → Calls Tryz.prog 86 #[q.val, .agg #[.int .i64 x.op, .int .i64 x.a, .int .i64 x.r, .int .i64 x.b, .slice ao x.ns.length cap, .int .u64 x.st.a, .int .u64 x.st.b, .int .u64 x.st.c, .int .u64 x.st.d, .slice ak x.ks.length ck], .int .i64 10] u fun e w' => e = .returned (.int .i64 (expE p 10 x)) ∧ Below u.heap.size u w') := Lib.hid (fun u hu => nexpression_c 12 x 10 q p _ _ u HL12.out (HQ.out.keep hu) HU.out.1 HU.out.2.1 HU.out.2.2 (HVX.out.keep hu))
     all_goals refine wp_region_kq ?_
     repeat' (first | go_big_quiet_skip | (go_big_quiet_want; first | (refine quiet_load (t := 55) (.tmp 4) rfl rfl (fun w1 hC => loadAt_expr (HXC.out w1 hC)) ?_; simp only [Act.put, List.setIfInBounds_toArray, List.set_cons_succ, List.set_cons_zero]; go_big_quiet_on) | (go_big_quiet_op; first | go_big_quiet_on | (apply Exists.intro; refine ⟨fun w1 hC => ?_, ?_⟩; (first | (go_at_call 23; with_reducible exact hC.call (HCV.out _ hC)) | exact rfl | (go_simp; exact ⟨rfl, rfl⟩)); go_big_quiet_on))))
     all_goals refine wpQuiet_nil ?_
     all_goals intro V1 hC
     all_goals have HF1 := Lib.hid (HB.out.trans (Below.mono hC HLE.out))
     all_goals have HT1 : Hid (∀ u, Kp V1 u → Kp W u) := Lib.hid (fun u hu => kp_trans hC hu)
     all_goals clear hC
     all_goals (go_upto_region 5 with fail
                all_goals refine wp_region_kq ?_
                repeat' (first | go_big_quiet_skip | (go_big_quiet_want; first | (refine quiet_load (t := 39) (.tmp 3) rfl rfl (fun w1 hC => loadAt_pol (HX0.out.keep (HT1.out _ hC))) ?_; simp only [Act.put, List.setIfInBounds_toArray, List.set_cons_succ, List.set_cons_zero]; go_big_quiet_on) | (refine quiet_load (t := 55) (.tmp 4) rfl rfl (fun w1 hC => loadAt_expr (HXC.out w1 (HT1.out _ hC))) ?_; simp only [Act.put, List.setIfInBounds_toArray, List.set_cons_succ, List.set_cons_zero]; go_big_quiet_on) | (go_big_quiet_op; first | go_big_quiet_on | (apply Exists.intro; refine ⟨fun w1 hC => ?_, ?_⟩; (first | (go_at_call 86; with_reducible exact hC.call (HCC.out _ (HT1.out _ hC))) | exact rfl | (go_simp; exact ⟨rfl, rfl⟩)); go_big_quiet_on))))
                all_goals refine wpQuiet_nil ?_
                all_goals intro V2 hC
                all_goals have HF2 := Lib.hid (HB.out.trans (Below.mono (HT1.out _ hC) HLE.out))
                all_goals have HT2 : Hid (∀ u, Kp V2 u → Kp W u) := Lib.hid (fun u hu => kp_trans (HT1.out _ hC) hu)
                all_goals clear hC
                all_goals (go_wp2_with fail
                           go_ret
                           exact ⟨rfl, by first | exact HF2.out | (rw [hg0]; exact HF2.out)⟩))
   · obtain rfl : (15 : Int) = N := by simpa using hN
     have HCC : Hid (∀ u, Kp W u → Calls Tryz.prog 86 #[q.val, .agg #[.int .i64 x.op, .int .i64 x.a, .int .i64 x.r, .int .i64 x.b, .slice ao x.ns.length cap, .int .u64 x.st.a, .int .u64 x.st.b, .int .u64 x.st.c, .int .u64 x.st.d, .slice ak x.ks.length ck], .int .i64 15] u fun e w' => e = .returned (.int .i64 (expE p 15 x)) ∧ Below u.heap.size u w') := Lib.hid (fun u hu => nexpression_c 12 x 15 q p _ _ u HL12.out (HQ.out.keep hu) HU.out.1 HU.out.2.1 HU.out.2.2 (HVX.out.keep hu))
     all_goals refine wp_region_kq ?_
     repeat' (first | go_big_quiet_skip | (go_big_quiet_want; first | (refine quiet_load (t := 55) (.tmp 4) rfl rfl (fun w1 hC => loadAt_expr (HXC.out w1 hC)) ?_; simp only [Act.put, List.setIfInBounds_toArray, List.set_cons_succ, List.set_cons_zero]; go_big_quiet_on) | (go_big_quiet_op; first | go_big_quiet_on | (apply Exists.intro; refine ⟨fun w1 hC => ?_, ?_⟩; (first | (go_at_call 23; with_reducible exact hC.call (HCV.out _ hC)) | exact rfl | (go_simp; exact ⟨rfl, rfl⟩)); go_big_quiet_on))))
     all_goals refine wpQuiet_nil ?_
     all_goals intro V1 hC
     all_goals have HF1 := Lib.hid (HB.out.trans (Below.mono hC HLE.out))
     all_goals have HT1 : Hid (∀ u, Kp V1 u → Kp W u) := Lib.hid (fun u hu => kp_trans hC hu)
     all_goals clear hC
     all_goals (go_upto_region 4 with fail
                all_goals refine wp_region_kq ?_
                repeat' (first | go_big_quiet_skip | (go_big_quiet_want; first | (refine quiet_load (t := 39) (.tmp 3) rfl rfl (fun w1 hC => loadAt_pol (HX0.out.keep (HT1.out _ hC))) ?_; simp only [Act.put, List.setIfInBounds_toArray, List.set_cons_succ, List.set_cons_zero]; go_big_quiet_on) | (refine quiet_load (t := 55) (.tmp 4) rfl rfl (fun w1 hC => loadAt_expr (HXC.out w1 (HT1.out _ hC))) ?_; simp only [Act.put, List.setIfInBounds_toArray, List.set_cons_succ, List.set_cons_zero]; go_big_quiet_on) | (go_big_quiet_op; first | go_big_quiet_on | (apply Exists.intro; refine ⟨fun w1 hC => ?_, ?_⟩; (first | (go_at_call 86; with_reducible exact hC.call (HCC.out _ (HT1.out _ hC))) | exact rfl | (go_simp; exact ⟨rfl, rfl⟩)); go_big_quiet_on))))
                all_goals refine wpQuiet_nil ?_
                all_goals intro V2 hC
                all_goals have HF2 := Lib.hid (HB.out.trans (Below.mono (HT1.out _ hC) HLE.out))
                all_goals have HT2 : Hid (∀ u, Kp V2 u → Kp W u) := Lib.hid (fun u hu => kp_trans (HT1.out _ hC) hu)
                all_goals clear hC
                all_goals (go_wp2_with fail
                           go_ret
                           exact ⟨rfl, by first | exact HF2.out | (rw [hg0]; exact HF2.out)⟩))
open Go.RowKit Go
theorem clsE_at (l : List ByteArray) {cls : List PCl} {i : Nat} (hi : i < cls.length) : clsE l (cls.drop i) = if namesE [cls[i].n] l ≠ 0 then namesE [cls[i].n] l else if 32 < cls[i].ps.length then 4 else if cls[i].ps.length = 0 then 2 else if namesE cls[i].ps [] ≠ 0 then namesE cls[i].ps [] else clsE (l ++ [cls[i].n]) (cls.drop (i + 1)) := by
 rw [List.drop_eq_getElem_cons hi, clsE]
theorem OwnS.cap {w : World} {base : Nat} {v : Value} {l : List ByteArray} (h : OwnS w base v l) : ∃ ao cap, v = .slice ao l.length cap ∧ l.length ≤ cap ∧ Strs w (.slice ao l.length cap) l := by
 obtain ⟨ao, cap, rfl, hc, hs⟩ := h.strs
 exact ⟨ao, cap, rfl, hc, hs⟩
theorem Strs.one {w : World} {g : Nat} {x : ByteArray} (h : w.cell? ⟨g, 0, none⟩ = some (.string x)) : Strs w (.slice (some ⟨g, 0, none⟩) 1 1) [x] :=
 ⟨some ⟨g, 0, none⟩, 1, rfl, fun _ => ⟨g, 0, rfl, fun k hk => by
   obtain rfl : k = 0 := by simpa using hk
   simpa using h⟩⟩
theorem CapOK.one {g : Nat} : CapOK (.slice (some ⟨g, 0, none⟩) 1 1) 1 := ⟨_, _, rfl, Nat.le_refl _⟩
theorem TxW.one {x : ByteArray} (h : x.size ≤ 9223372036854775807) : TxW [x] := fun s hs => by rw [List.mem_singleton.1 hs]; exact h
set_option maxRecDepth 100000 in
set_option maxHeartbeats 16000000 in
theorem nclasses_c (q : PV) (p : PP) (w : World) (hP : PolV w q p) (hsm : SmP p) : Calls Tryz.prog 25 #[q.val] w fun e w' => e = .returned (.int .i64 (classesE p)) ∧ Below w.heap.size w w' := by
 have hcl := hsm.cls
 obtain ⟨R, hR⟩ : ∃ R, classesE p = R := ⟨_, rfl⟩
 rw [hR]
 have HJ0 : Hid (clsE ([] : List ByteArray) (p.cls.drop 0) = R) := Lib.hid (by rw [← hR]; unfold classesE; rw [if_neg (by omega)]; rfl)
 have q32 : ((32 : Int) < (p.cls.length : Int)) = False := by simp; omega
 have hlI : (p.cls.length : Int) ≤ 9223372036854775807 := by omega
 have HCLS := Lib.hid hcl
 clear hR hsm hcl
 obtain ⟨a0, c0, e0⟩ := hP.cls.form
 have E0 := Lib.hid e0
 clear e0
 obtain ⟨W, ZW⟩ : ∃ v, Hid ((w.alloc (.cells #[q.v0, q.v1, q.v2, q.v3, q.v4, q.v5, q.v6, q.v7, q.v8, q.v9, q.v10, q.v11, q.v12, q.v13, q.v14, q.v15, q.v16] 39)) = v) := ⟨_, Lib.hid rfl⟩
 have HB : Hid (Below w.heap.size w W) := by cases ZW.out; exact Lib.hid ((Below.refl _ _).alloc (Nat.le_refl _) _)
 have HX0 : Hid (Blk W (w.heap.size) 39 #[q.v0, q.v1, q.v2, q.v3, q.v4, q.v5, q.v6, q.v7, q.v8, q.v9, q.v10, q.v11, q.v12, q.v13, q.v14, q.v15, q.v16]) := by cases ZW.out; exact Lib.hid (Blk.here (by simp))
 have HQ : Hid (PolV W q p) := by cases ZW.out; exact Lib.hid (hP.keep HB.out)
 have HLE : Hid (w.heap.size ≤ W.heap.size) := by cases ZW.out; exact Lib.hid HB.out.size
 try unfold PV.val
 go_enter Tryz.func25, Tryz.ntmps25
 go_upto_region 1 with fail
 rw [ZW.out]
 generalize hg0 : w.heap.size = g0 at *
 have HR0 : Hid (∀ u, Kp W u → u.cell? ⟨g0, 0, none⟩ = some (.slice a0 p.cls.length c0)) := Lib.hid (fun u hu => pol_cell (HX0.out.keep hu) rfl E0.out)
 generalize Value.agg #[q.v0, q.v1, q.v2, q.v3, q.v4, q.v5, q.v6, q.v7, q.v8, q.v9, q.v10, q.v11, q.v12, q.v13, q.v14, q.v15, q.v16] = P0
 have HL : Hid (SlR 2 CCl W (.slice a0 p.cls.length c0) p.cls) := Lib.hid (by rw [← E0.out]; exact HQ.out.cls)
 have r0 := HR0.out W Kp.rfl'
 go_wp2_with fail
 go_loopw [3, 4] (fun v3 v4 wr => ∃ (i : Nat) (vv : Value), vv = v3 ∧ i ≤ p.cls.length ∧ v4 = .int .i64 i ∧ Hid (clsE ((p.cls.take i).map (·.n)) (p.cls.drop i) = R) ∧ Hid (Kp W wr) ∧ Hid (OwnS wr W.heap.size vv ((p.cls.take i).map (·.n)))) (fun _ v4 _ => p.cls.length - (intOf v4).toNat)
 case atStart => exact ⟨0, _, rfl, Nat.zero_le _, rfl, Lib.hid (by rw [List.take_zero]; exact HJ0.out), Lib.hid Kp.rfl', Lib.hid (by rw [List.take_zero]; exact OwnS.nil)⟩
 case round =>
  clear r0
  obtain ⟨i, v, rfl, hi, rfl, HJ, HK, HO⟩ := hrel
  have r0 := HR0.out wr HK.out
  by_cases hlt : i < p.cls.length
  · have hlt' : (i : Int) < (p.cls.length : Int) := by omega
    obtain ⟨x, hx⟩ : ∃ x, p.cls[i] = x := ⟨_, rfl⟩
    obtain ⟨g, oo, hak, hg, hE⟩ := HL.out.row hlt
    subst hak
    have hE1 := hE i hlt
    rw [hx] at hE1
    have hE2 := hE1
    obtain ⟨-, ⟨va2, n1, n2, n3⟩, mw⟩ := hE2
    obtain ⟨ap, cp, e, hpc⟩ := n3
    subst e
    have HSP : Hid (∀ u, Kp W u → Strs u (.slice ap x.ps.length cp) x.ps) := Lib.hid (fun u hu => n2.keep hu)
    have m0 : wr.cell? ⟨g, oo + i * 2, none⟩ = some (.string x.n) := (Below.cell HK.out (p := ⟨g, oo + i * 2, none⟩) hg).trans hE1.1
    have m1 : wr.cell? ⟨g, oo + i * 2 + 1, none⟩ = some (.slice ap x.ps.length cp) := (Below.cell HK.out (p := ⟨g, oo + i * 2 + 1, none⟩) hg).trans n1
    obtain ⟨T, hT⟩ : ∃ T, (p.cls.take i).map (·.n) = T := ⟨_, rfl⟩
    have hTl : T.length = i := by rw [← hT]; simp; omega
    have HX : Hid ((p.cls.take (i + 1)).map (·.n) = T ++ [x.n]) := Lib.hid (by rw [List.take_succ_eq_append_getElem hlt, hx, List.map_append, hT]; rfl)
    rw [hT] at HO HJ
    obtain ⟨c1, hc1⟩ : ∃ c, namesE [x.n] T = c := ⟨_, rfl⟩
    obtain ⟨c2, hc2⟩ : ∃ c, namesE x.ps [] = c := ⟨_, rfl⟩
    obtain ⟨Z, hZ⟩ : ∃ z, clsE (T ++ [x.n]) (p.cls.drop (i + 1)) = z := ⟨_, rfl⟩
    have HZ := Lib.hid hZ
    have HC2 := Lib.hid hc2
    have HV : Hid ((if c1 ≠ 0 then c1 else if 32 < x.ps.length then 4 else if x.ps.length = 0 then 2 else if c2 ≠ 0 then c2 else Z) = R) := Lib.hid (by rw [← HJ.out, clsE_at T hlt, hx, hc1, hc2, hZ])
    obtain ⟨aoT, capT, rfl, hcT, hsT⟩ := HO.out.cap
    have HTI := Lib.hid hTl
    have hPC : x.ps.length ≤ cp := hpc
    have HPC := Lib.hid hPC
    have HMW := Lib.hid mw.1
    have HMP := Lib.hid mw.2
    have hil : i ≤ 6 := by have := HCLS.out; omega
    have HIL := Lib.hid hil
    clear hx hT hTl hg hE hE1 n1 n2 hpc hPC mw hZ HJ hsT hcT hil hc2
    go_upto_region 8 with fail
    obtain ⟨WX, hWX⟩ : ∃ u, wr.alloc (.cells #[.string x.n, .slice ap x.ps.length cp] 86) = u := ⟨_, rfl⟩
    have HBX : Hid (Blk WX wr.heap.size 86 #[.string x.n, .slice ap x.ps.length cp]) := Lib.hid (by rw [← hWX]; exact Blk.new _ _ _)
    have HKX : Hid (Kp W WX) := Lib.hid (by rw [← hWX]; exact HK.out.alloc _)
    have HOX : Hid (OwnS WX W.heap.size (.slice aoT T.length capT) T) := Lib.hid (by rw [← hWX]; exact HO.out.alloc _)
    have HOB : Hid (∀ k, (Value.slice aoT T.length capT).ownBlock = some k → k < wr.heap.size) := Lib.hid (fun k e => (HO.out.lt k e).2)
    rw [hWX]
    clear r0 m0 m1
    generalize wr.heap.size = gx at *
    clear hWX
    have b0 := HBX.out.cell 0
    have HCN : Hid (Calls Tryz.prog 48 #[.slice (some ⟨WX.heap.size, 0, none⟩) 1 1, .slice aoT T.length capT] (WX.alloc (.cells #[.string x.n] 9)) fun e w' => e = .returned (.int .i64 c1) ∧ Below (WX.alloc (.cells #[.string x.n] 9)).heap.size (WX.alloc (.cells #[.string x.n] 9)) w') := Lib.hid (by rw [← hc1]; exact nnames_c _ _ [x.n] T _ (Strs.one ((Blk.new WX 9 #[.string x.n]).cell 0)) CapOK.one (by obtain ⟨_, _, e, _, h⟩ := (HOX.out.alloc (.cells #[.string x.n] 9)).cap; cases e; exact h) (TxW.one HMW.out) (by unfold maxLen; simp) (by have := HTI.out; have := HIL.out; unfold maxLen; omega))
    clear hc1
    by_cases h1 : c1 = 0
    · have k1 : (c1 == 0) = true := by simpa using h1
      have k2 : (c1 != 0) = false := by simpa using h1
      have HV2 : Hid ((if 32 < x.ps.length then 4 else if x.ps.length = 0 then 2 else if c2 ≠ 0 then c2 else Z) = R) := Lib.hid (by have t := HV.out; rw [if_neg (show ¬ c1 ≠ 0 by simpa using h1)] at t; exact t)
      clear HV
      go_upto_region 11 with (go_at_call 48; (with_reducible refine HCN.out.mono ?_); rintro e V ⟨rfl, hb1⟩; have HBV := Lib.hid (Below.trans ((Below.refl WX.heap.size WX).alloc (Nat.le_refl _) _) (hb1.mono (by simp))); clear hb1)
      clear b0
      have HKV : Hid (Kp W V) := Lib.hid (kp_trans HKX.out HBV.out)
      have HOV : Hid (OwnS V W.heap.size (.slice aoT T.length capT) T) := Lib.hid (HOX.out.keep HBV.out)
      have HBW : Hid (Blk V gx 86 #[.string x.n, .slice ap x.ps.length cp]) := Lib.hid (HBX.out.keep HBV.out)
      have b0 := HBW.out.cell 0
      go_upto_region 12 with (at_builtin; refine wpList_name rfl _ _ rfl rfl (HOV.out.alloc _) rfl ((Blk.new V 9 #[.string x.n]).cell 0) (by have := HTI.out; have := HIL.out; omega) (by have := HKV.out.size; simp; omega) ?_; intro v2 V2 hO2 hB2 hk2; have HO2 := Lib.hid hO2; have HK2 : Hid (Kp W V2) := Lib.hid ((HKV.out.alloc _).trans hB2); have HB2 : Hid (Blk V2 gx 86 #[.string x.n, .slice ap x.ps.length cp]) := Lib.hid ((hk2 gx (by have := HBW.out.lt; simp; omega) (fun e => by have := HOB.out _ e; omega)).trans (HBW.out.alloc _)); clear hO2 hB2 hk2)
      clear b0
      have b1 := HB2.out.cell 1
      have HF2 := Lib.hid (HB.out.trans (Below.mono HK2.out HLE.out))
      by_cases h32 : 32 < x.ps.length
      · have q1 : ((32 : Int) < (x.ps.length : Int)) = True := eq_true (by omega)
        obtain rfl : 4 = R := by rw [← HV2.out, if_pos h32]
        clear h32
        go_wp2_with fail
        go_ret
        exact ⟨rfl, by first | exact HF2.out | (rw [hg0]; exact HF2.out)⟩
      · have q1 : ((32 : Int) < (x.ps.length : Int)) = False := eq_false (by omega)
        have hps : x.ps.length ≤ 32 := by omega
        have hpI : (x.ps.length : Int) ≤ 9223372036854775807 := by omega
        by_cases h0 : x.ps.length = 0
        · have q2 : ((x.ps.length : Int) == 0) = true := by rw [beq_iff_eq]; omega
          obtain rfl : 2 = R := by rw [← HV2.out, if_neg h32, if_pos h0]
          clear h32 h0
          go_wp2_with fail
          go_ret
          exact ⟨rfl, by first | exact HF2.out | (rw [hg0]; exact HF2.out)⟩
        · have q2 : ((x.ps.length : Int) == 0) = false := by rw [beq_eq_false_iff_ne]; omega
          have HV3 : Hid ((if c2 ≠ 0 then c2 else Z) = R) := Lib.hid (by rw [← HV2.out, if_neg h32, if_neg h0])
          have HCP : Hid (Calls Tryz.prog 48 #[.slice ap x.ps.length cp, .slice none 0 0] V2 fun e w' => e = .returned (.int .i64 c2) ∧ Below V2.heap.size V2 w') := Lib.hid (by rw [← HC2.out]; exact nnames_c _ _ x.ps [] _ (HSP.out _ HK2.out) ⟨_, _, rfl, HPC.out⟩ Strs.nil HMP.out (by unfold maxLen; omega) (by unfold maxLen; simp))
          clear h32 h0 HV2
          by_cases h2 : c2 = 0
          · have k3 : (c2 == 0) = true := by simpa using h2
            have k4 : (c2 != 0) = false := by simpa using h2
            have HZ2 : Hid (Z = R) := Lib.hid (by have t := HV3.out; rw [if_neg (show ¬ c2 ≠ 0 by simpa using h2)] at t; exact t)
            clear HV3
            go_wp2_with (go_at_call 48; (with_reducible refine HCP.out.mono ?_); rintro e V3 ⟨rfl, hb3⟩; have HB3 := Lib.hid hb3; clear hb3)
            go_roundw
            case rel => exact ⟨i + 1, _, rfl, hlt, by go_num, Lib.hid (by rw [HX.out, HZ.out]; exact HZ2.out), Lib.hid (kp_trans HK2.out HB3.out), Lib.hid (by rw [HX.out]; exact HO2.out.keep HB3.out)⟩
            case measure => simp [intOf]; omega
          · have k3 : (c2 == 0) = false := by simpa using h2
            have k4 : (c2 != 0) = true := by simpa using h2
            obtain rfl : c2 = R := by rw [← HV3.out, if_pos h2]
            clear h2
            go_wp2_with (go_at_call 48; (with_reducible refine HCP.out.mono ?_); rintro e V3 ⟨rfl, hb3⟩; have HB3 := Lib.hid hb3; clear hb3)
            have HF3 := Lib.hid (HB.out.trans (Below.mono (kp_trans HK2.out HB3.out) HLE.out))
            go_ret
            exact ⟨rfl, by first | exact HF3.out | (rw [hg0]; exact HF3.out)⟩
    · have k1 : (c1 == 0) = false := by simpa using h1
      have k2 : (c1 != 0) = true := by simpa using h1
      obtain rfl : c1 = R := by rw [← HV.out, if_pos h1]
      clear h1
      go_wp2_with (go_at_call 48; (with_reducible refine HCN.out.mono ?_); rintro e V ⟨rfl, hb1⟩; have HBV := Lib.hid (Below.trans ((Below.refl WX.heap.size WX).alloc (Nat.le_refl _) _) (hb1.mono (by simp))); clear hb1)
      have HF := Lib.hid (HB.out.trans (Below.mono (kp_trans HKX.out HBV.out) HLE.out))
      go_ret
      exact ⟨rfl, by first | exact HF.out | (rw [hg0]; exact HF.out)⟩
  · have hlt' : ¬ (i : Int) < (p.cls.length : Int) := by omega
    obtain rfl : 0 = R := by rw [← HJ.out, List.drop_eq_nil_of_le (by omega)]; rfl
    have HF := Lib.hid (HB.out.trans (Below.mono HK.out HLE.out))
    clear HJ
    go_wp2_with fail
    go_ret
    exact ⟨rfl, by first | exact HF.out | (rw [hg0]; exact HF.out)⟩
end Go.Proofs.YtbhoofihnmmmfabGreat
