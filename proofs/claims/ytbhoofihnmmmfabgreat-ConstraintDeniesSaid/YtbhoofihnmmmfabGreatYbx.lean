/- Part of the proof: Pdb Pdn. No conditions. -/
import Derived.Test.YtbhoofihnmmmfabGreatYbw
import Derived.Test.YtbhoofihnmmmfabGreatYbv
namespace Go.Proofs.YtbhoofihnmmmfabGreat
open Go.RowKit Go
set_option maxRecDepth 100000 in
set_option maxHeartbeats 16000000 in
theorem vindex_c (L : List PCo) (v : Value) (cl : Int) (c : Ca) (gcl gc1 gc2 gc3 : Nat) (w : World) (hL : SlR 13 CCo w v L) (hl : L.length ≤ 1000000) (hcl : Blk w gcl 3 #[.int .i64 cl]) (hc1 : Blk w gc1 46 #[.int .i64 c.c1.u, .int .i64 c.c1.ro, .int .i64 c.c1.ty, .int .i64 c.c1.lo.s, .int .u64 c.c1.lo.c, .int .i64 c.c1.hi.s, .int .u64 c.c1.hi.c]) (hc2 : Blk w gc2 46 #[.int .i64 c.c2.u, .int .i64 c.c2.ro, .int .i64 c.c2.ty, .int .i64 c.c2.lo.s, .int .u64 c.c2.lo.c, .int .i64 c.c2.hi.s, .int .u64 c.c2.hi.c]) (hc3 : Blk w gc3 46 #[.int .i64 c.c3.u, .int .i64 c.c3.ro, .int .i64 c.c3.ty, .int .i64 c.c3.lo.s, .int .u64 c.c3.lo.c, .int .i64 c.c3.hi.s, .int .u64 c.c3.hi.c]) : Calls Tryz.prog 21 #[v, .func (.func 22) #[] #[.pointer (some ⟨gcl, 0, none⟩), .pointer (some ⟨gc1, 0, none⟩), .pointer (some ⟨gc2, 0, none⟩), .pointer (some ⟨gc3, 0, none⟩)]] w fun e w' => e = .returned (.int .i64 (fdI (vlB (evX c) cl) L)) ∧ Below w.heap.size w w' := by
 obtain ⟨ak, ck, rfl, -, -⟩ := id hL
 have HL := Lib.hid hL
 have H0 := Lib.hid hcl
 have H1 := Lib.hid hc1
 have H2 := Lib.hid hc2
 have H3 := Lib.hid hc3
 obtain ⟨R, hR⟩ : ∃ R, fdI (vlB (evX c) cl) L = R := ⟨_, rfl⟩
 rw [hR]
 have HR := Lib.hid hR
 have hkI : (L.length : Int) ≤ 9223372036854775807 := by omega
 clear hL hl hR hcl hc1 hc2 hc3
 go_enter Tryz.func21, Tryz.ntmps21
 go_wp2_with fail
 go_loopw [8] (fun v8 wr => ∃ i : Nat, i ≤ L.length ∧ v8 = .int .i64 i ∧ Hid (∀ j (hj : j < L.length), j < i → vlB (evX c) cl L[j] = false) ∧ Hid (Below w.heap.size w wr)) (fun v8 _ => L.length - (intOf v8).toNat)
 case atStart => exact ⟨0, Nat.zero_le _, rfl, Lib.hid (fun j _ h => absurd h (by omega)), Lib.hid (Below.refl _ _)⟩
 case round =>
  obtain ⟨i, hi, rfl, HJ, HB⟩ := hrel
  by_cases hlt : i < L.length
  · have hlt' : (i : Int) < (L.length : Int) := by omega
    obtain ⟨x, hx⟩ : ∃ x, L[i] = x := ⟨_, rfl⟩
    obtain ⟨g', o', hak, hg', hR⟩ := HL.out.row hlt
    subst hak
    have hA := hR i hlt
    rw [hx] at hA
    obtain ⟨m0, m1, m2, mX, -⟩ := hA.keep HB.out hg'
    obtain ⟨y, hy⟩ : ∃ y, x.e = y := ⟨_, rfl⟩
    rw [hy] at mX
    obtain ⟨ao2, cap2, ak2, ck2, hc2, hv2⟩ := mX.xv
    obtain ⟨z0, z1, z2, z3, z4, z5, z6, z7, z8, z9⟩ := hc2.cells
    have HY := Lib.hid hx
    have HCL : Hid (Calls Tryz.prog 22 #[.agg #[.int .i64 x.cl, .int .u32 x.pm, .bool x.vd, .int .i64 y.op, .int .i64 y.a, .int .i64 y.r, .int .i64 y.b, .slice ao2 y.ns.length cap2, .int .u64 y.st.a, .int .u64 y.st.b, .int .u64 y.st.c, .int .u64 y.st.d, .slice ak2 y.ks.length ck2], .pointer (some ⟨gcl, 0, none⟩), .pointer (some ⟨gc1, 0, none⟩), .pointer (some ⟨gc2, 0, none⟩), .pointer (some ⟨gc3, 0, none⟩)] wr fun e w' => e = .returned (.bool (vlB (evX c) cl x)) ∧ Below wr.heap.size wr w') := Lib.hid (by rw [← hy]; exact vclos_c x _ _ cl c gcl gc1 gc2 gc3 wr (by rw [hy]; exact hv2) (H0.out.keep HB.out) (H1.out.keep HB.out) (H2.out.keep HB.out) (H3.out.keep HB.out))
    clear hA hR hg' hx mX hc2 hv2 hy
    obtain ⟨bb, hb⟩ : ∃ bb, vlB (evX c) cl x = bb := ⟨_, rfl⟩
    have HBB := Lib.hid hb
    rw [hb] at HCL
    clear hb
    cases bb with
    | true =>
      obtain rfl : (i : Int) = R := by
       rw [← HR.out]
       exact (fdI_hit hlt (by rw [HY.out]; exact HBB.out) HJ.out).symm
      go_wp2_with (go_at_call 22; (with_reducible refine HCL.out.mono ?_); rintro e w1 ⟨rfl, hb1⟩; have HB2 := Lib.hid (HB.out.trans (hb1.mono HB.out.size)); clear hb1)
      go_ret
      exact ⟨rfl, HB2.out⟩
    | false =>
      go_wp2_with (go_at_call 22; (with_reducible refine HCL.out.mono ?_); rintro e w1 ⟨rfl, hb1⟩; have HB2 := Lib.hid (HB.out.trans (hb1.mono HB.out.size)); clear hb1)
      go_roundw
      case rel =>
       refine ⟨i + 1, hlt, by go_num, Lib.hid (fun j hj hji => ?_), HB2⟩
       by_cases e : j < i
       · exact HJ.out j hj e
       · obtain rfl : j = i := by omega
         rw [HY.out]; exact HBB.out
      case measure => simp [intOf]; omega
  · have hlt' : ¬ (i : Int) < (L.length : Int) := by omega
    obtain rfl : -1 = R := by rw [← HR.out]; exact (fdI_none fun k h => HJ.out k h (by omega)).symm
    go_wp2_with fail
    go_ret
    exact ⟨rfl, HB.out⟩
set_option maxRecDepth 100000 in
set_option maxHeartbeats 16000000 in
theorem valid_c (q : PV) (p : PP) (cl : Int) (c : Ca) (w : World) (hP : PolV w q p) (hl : p.cos.length ≤ 1000000) : Calls Tryz.prog 8 #[q.val, .int .i64 cl, .agg #[.int .i64 c.c1.u, .int .i64 c.c1.ro, .int .i64 c.c1.ty, .int .i64 c.c1.lo.s, .int .u64 c.c1.lo.c, .int .i64 c.c1.hi.s, .int .u64 c.c1.hi.c], .agg #[.int .i64 c.c2.u, .int .i64 c.c2.ro, .int .i64 c.c2.ty, .int .i64 c.c2.lo.s, .int .u64 c.c2.lo.c, .int .i64 c.c2.hi.s, .int .u64 c.c2.hi.c], .agg #[.int .i64 c.c3.u, .int .i64 c.c3.ro, .int .i64 c.c3.ty, .int .i64 c.c3.lo.s, .int .u64 c.c3.lo.c, .int .i64 c.c3.hi.s, .int .u64 c.c3.hi.c]] w fun e w' => e = .returned (.tuple #[.bool (fdI (vlB (evX c) cl) p.cos == -1), .int .i64 (fdI (vlB (evX c) cl) p.cos)]) ∧ Below w.heap.size w w' := by
 obtain ⟨R, hR⟩ : ∃ R, fdI (vlB (evX c) cl) p.cos = R := ⟨_, rfl⟩
 have HLL := Lib.hid hl
 have hRb := fdI_in (vlB (evX c) cl) p.cos
 rw [hR] at hRb ⊢
 have HR := Lib.hid hR
 have hIcos : (p.cos.length : Int) ≤ 9223372036854775807 := by omega
 clear hR hl hRb
 obtain ⟨a13, c13, e13⟩ := hP.cos.form
 have E13 := Lib.hid e13
 clear e13
 obtain ⟨W, ZW⟩ : ∃ v, Hid ((((((w.alloc (.cells #[q.v0, q.v1, q.v2, q.v3, q.v4, q.v5, q.v6, q.v7, q.v8, q.v9, q.v10, q.v11, q.v12, q.v13, q.v14, q.v15, q.v16] 39)).alloc (.cells #[.int .i64 cl] 3)).alloc (.cells #[.int .i64 c.c1.u, .int .i64 c.c1.ro, .int .i64 c.c1.ty, .int .i64 c.c1.lo.s, .int .u64 c.c1.lo.c, .int .i64 c.c1.hi.s, .int .u64 c.c1.hi.c] 46)).alloc (.cells #[.int .i64 c.c2.u, .int .i64 c.c2.ro, .int .i64 c.c2.ty, .int .i64 c.c2.lo.s, .int .u64 c.c2.lo.c, .int .i64 c.c2.hi.s, .int .u64 c.c2.hi.c] 46)).alloc (.cells #[.int .i64 c.c3.u, .int .i64 c.c3.ro, .int .i64 c.c3.ty, .int .i64 c.c3.lo.s, .int .u64 c.c3.lo.c, .int .i64 c.c3.hi.s, .int .u64 c.c3.hi.c] 46)) = v) := ⟨_, Lib.hid rfl⟩
 have HB : Hid (Below w.heap.size w W) := by cases ZW.out; exact Lib.hid ((((((Below.refl _ _).alloc (Nat.le_refl _) _).alloc (by first | (simp; done) | (simp; omega)) _).alloc (by first | (simp; done) | (simp; omega)) _).alloc (by first | (simp; done) | (simp; omega)) _).alloc (by first | (simp; done) | (simp; omega)) _)
 have HX0 : Hid (Blk W (w.heap.size) 39 #[q.v0, q.v1, q.v2, q.v3, q.v4, q.v5, q.v6, q.v7, q.v8, q.v9, q.v10, q.v11, q.v12, q.v13, q.v14, q.v15, q.v16]) := by cases ZW.out; exact Lib.hid (((((Blk.here (by simp)).alloc _).alloc _).alloc _).alloc _)
 have HX1 : Hid (Blk W (w.heap.size + 1) 3 #[.int .i64 cl]) := by cases ZW.out; exact Lib.hid ((((Blk.here (by simp)).alloc _).alloc _).alloc _)
 have HX2 : Hid (Blk W (w.heap.size + 1 + 1) 46 #[.int .i64 c.c1.u, .int .i64 c.c1.ro, .int .i64 c.c1.ty, .int .i64 c.c1.lo.s, .int .u64 c.c1.lo.c, .int .i64 c.c1.hi.s, .int .u64 c.c1.hi.c]) := by cases ZW.out; exact Lib.hid (((Blk.here (by simp)).alloc _).alloc _)
 have HX3 : Hid (Blk W (w.heap.size + 1 + 1 + 1) 46 #[.int .i64 c.c2.u, .int .i64 c.c2.ro, .int .i64 c.c2.ty, .int .i64 c.c2.lo.s, .int .u64 c.c2.lo.c, .int .i64 c.c2.hi.s, .int .u64 c.c2.hi.c]) := by cases ZW.out; exact Lib.hid ((Blk.here (by simp)).alloc _)
 have HX4 : Hid (Blk W (w.heap.size + 1 + 1 + 1 + 1) 46 #[.int .i64 c.c3.u, .int .i64 c.c3.ro, .int .i64 c.c3.ty, .int .i64 c.c3.lo.s, .int .u64 c.c3.lo.c, .int .i64 c.c3.hi.s, .int .u64 c.c3.hi.c]) := by cases ZW.out; exact Lib.hid (Blk.here (by simp))
 have HQ : Hid (PolV W q p) := by cases ZW.out; exact Lib.hid (hP.keep HB.out)
 have HLE : Hid (w.heap.size ≤ W.heap.size) := by cases ZW.out; exact Lib.hid HB.out.size
 try unfold PV.val
 go_enter Tryz.func8, Tryz.ntmps8
 go_upto_region 1 with fail
 rw [ZW.out]
 generalize w.heap.size + 1 + 1 + 1 + 1 = g4 at *
 generalize w.heap.size + 1 + 1 + 1 = g3 at *
 generalize w.heap.size + 1 + 1 = g2 at *
 generalize w.heap.size + 1 = g1 at *
 generalize hg0 : w.heap.size = g0 at *
 have HR13 : Hid (∀ u, Kp W u → u.cell? ⟨g0, 13, none⟩ = some (.slice a13 p.cos.length c13)) := Lib.hid (fun u hu => pol_cell (HX0.out.keep hu) rfl E13.out)
 generalize Value.agg #[q.v0, q.v1, q.v2, q.v3, q.v4, q.v5, q.v6, q.v7, q.v8, q.v9, q.v10, q.v11, q.v12, q.v13, q.v14, q.v15, q.v16] = P0
 clear hP
 have HL13 : Hid (SlR 13 CCo W (.slice a13 p.cos.length c13) p.cos) := Lib.hid (by rw [← E13.out]; exact HQ.out.cos)
 have r13 := HR13.out W Kp.rfl'
 have HCI : Hid (Calls Tryz.prog 21 #[.slice a13 p.cos.length c13, .func (.func 22) #[] #[.pointer (some ⟨g1, 0, none⟩), .pointer (some ⟨g2, 0, none⟩), .pointer (some ⟨g3, 0, none⟩), .pointer (some ⟨g4, 0, none⟩)]] W fun e w' => e = .returned (.int .i64 R) ∧ Below W.heap.size W w') := Lib.hid (by rw [← HR.out]; exact vindex_c p.cos _ cl c g1 g2 g3 g4 W HL13.out HLL.out HX1.out HX2.out HX3.out HX4.out)
 obtain ⟨rb, hrb⟩ : ∃ z, (R == -1) = z := ⟨_, rfl⟩
 go_wp2_with (go_at_call 21; (with_reducible refine HCI.out.mono ?_); rintro e V1 ⟨rfl, hb1⟩; have HF := Lib.hid (HB.out.trans (Below.mono hb1 HLE.out)); clear hb1)
 exact bodyPost_ret (v := .tuple #[.bool rb, .int .i64 R]) (by simp [results, Tryz.results8, go_sem]) rfl ⟨by rw [← hrb], by first | exact HF.out | (rw [hg0]; exact HF.out)⟩
open Go.RowKit Go
theorem or_u32 {d p : Int} (hd : U32 d) (hp : U32 p) : U32 (bits .or .u32 d p) ∧ (p ≠ 0 → bits .or .u32 d p ≠ 0) := by
 obtain ⟨d1, d2⟩ := hd
 obtain ⟨p1, p2⟩ := hp
 refine ⟨⟨bits_lo_u32 _ _ _, bits_hi_u32 _ _ _⟩, fun h e => h ?_⟩
 obtain ⟨D, rfl⟩ : ∃ D : Nat, d = D := ⟨d.toNat, by omega⟩
 obtain ⟨P, rfl⟩ : ∃ P : Nat, p = P := ⟨p.toNat, by omega⟩
 have hw : ∀ n : Int, 0 ≤ n → n < 2 ^ 32 → IntKind.u32.wrap n = n := fun n h0 h1 => by simp [IntKind.wrap, IntKind.bits, IntKind.signed]; omega
 rw [(bits_nat .u32 32 (by decide) hw D P (by omega) (by omega)).2] at e
 have e2 : D ||| P = 0 := by exact_mod_cast e
 have e3 : P = 0 := by
  have := Nat.right_le_or (n := D) (m := P)
  omega
 simp [e3]
theorem dnL_zero {ev : X → Bool} {cl : Int} : ∀ (L : List PCo) (i : Nat) (d f : Int), (∀ x ∈ L, x.vd = (x.pm == 0) ∧ U32 x.pm) → U32 d → (d = 0 ∧ f = -1 ∨ d ≠ 0 ∧ 0 ≤ f) → ((dnL ev cl i L d f).1 = 0 ∧ (dnL ev cl i L d f).2 = -1 ∨ (dnL ev cl i L d f).1 ≠ 0 ∧ 0 ≤ (dnL ev cl i L d f).2) := by
 intro L
 induction L with
 | nil => intro i d f _ _ h; exact h
 | cons x r ih =>
   intro i d f hL hd h
   unfold dnL
   have hx := hL x (by simp)
   have hr : ∀ y ∈ r, y.vd = (y.pm == 0) ∧ U32 y.pm := fun y hy => hL y (by simp [hy])
   by_cases hc : x.vd = true ∨ x.cl ≠ cl ∨ ev x.e = true
   · rw [if_pos hc]; exact ih _ _ _ hr hd h
   · rw [if_neg hc]
     have hp : x.pm ≠ 0 := by
      intro e
      apply hc
      rw [hx.1, e]
      exact .inl rfl
     obtain ⟨h1, h2⟩ := or_u32 hd hx.2
     refine ih _ _ _ hr h1 (.inr ⟨h2 hp, ?_⟩)
     split <;> omega
theorem PolV.u32 {w : World} {q : PV} {p : PP} (h : PolV w q p) : ∀ x ∈ p.cos, U32 x.pm := by
 intro x hx
 obtain ⟨i, hi, rfl⟩ := List.mem_iff_getElem.1 hx
 obtain ⟨ao, cap, e, -, hr⟩ := h.cos
 obtain ⟨g, o, e2, hg, hR⟩ := hr (by rintro e3; rw [e3] at hi; simp at hi)
 obtain ⟨-, -, -, -, -, h6⟩ := hR i hi
 exact h6
/-- the cells of a change -/
def chL (q : PV) (cl : Int) (c : Ca) : List Value := [q.v0, q.v1, q.v2, q.v3, q.v4, q.v5, q.v6, q.v7, q.v8, q.v9, q.v10, q.v11, q.v12, q.v13, q.v14, q.v15, q.v16] ++ [.int .i64 cl, .int .i64 c.c1.u, .int .i64 c.c1.ro, .int .i64 c.c1.ty, .int .i64 c.c1.lo.s, .int .u64 c.c1.lo.c, .int .i64 c.c1.hi.s, .int .u64 c.c1.hi.c, .int .i64 c.c2.u, .int .i64 c.c2.ro, .int .i64 c.c2.ty, .int .i64 c.c2.lo.s, .int .u64 c.c2.lo.c, .int .i64 c.c2.hi.s, .int .u64 c.c2.hi.c, .int .i64 c.c3.u, .int .i64 c.c3.ro, .int .i64 c.c3.ty, .int .i64 c.c3.lo.s, .int .u64 c.c3.lo.c, .int .i64 c.c3.hi.s, .int .u64 c.c3.hi.c]
def chA (q : PV) (cl : Int) (c : Ca) : Array Value := (chL q cl c).toArray
theorem chA_at (q : PV) (cl : Int) (c : Ca) (j : Nat) : (chA q cl c)[j]? = (chL q cl c)[j]? := by unfold chA; simp
theorem loadAt_chp {q : PV} {cl : Int} {c : Ca} {g : Nat} {ty : TypeId} {u : World} (h : Blk u g ty (chA q cl c)) : (Instr.loadAt 39 (.pointer (some ⟨g, 0, none⟩))).run Tryz.prog u = .ok q.val u := by
 refine loadAt_agg [q.v0, q.v1, q.v2, q.v3, q.v4, q.v5, q.v6, q.v7, q.v8, q.v9, q.v10, q.v11, q.v12, q.v13, q.v14, q.v15, q.v16] (agg_pol u) (size_pol u) (fun j v hj => ?_)
 rw [Nat.zero_add, h.cell j, chA_at]
 have hlt := (List.getElem?_eq_some_iff.1 hj).1
 unfold chL
 rw [List.getElem?_append_left hlt]
 exact hj
theorem loadAt_chc1 {q : PV} {cl : Int} {c : Ca} {g : Nat} {ty : TypeId} {u : World} (h : Blk u g ty (chA q cl c)) : (Instr.loadAt 46 (.pointer (some ⟨g, 18, none⟩))).run Tryz.prog u = .ok (.agg #[.int .i64 c.c1.u, .int .i64 c.c1.ro, .int .i64 c.c1.ty, .int .i64 c.c1.lo.s, .int .u64 c.c1.lo.c, .int .i64 c.c1.hi.s, .int .u64 c.c1.hi.c]) u := by
 refine loadAt_agg [.int .i64 c.c1.u, .int .i64 c.c1.ro, .int .i64 c.c1.ty, .int .i64 c.c1.lo.s, .int .u64 c.c1.lo.c, .int .i64 c.c1.hi.s, .int .u64 c.c1.hi.c] (by go_simp) (by go_simp) (fun j v hj => ?_)
 have hlt : j < 7 := (List.getElem?_eq_some_iff.1 hj).1
 rw [h.cell, chA_at]
 have hh : j = 0 ∨ j = 1 ∨ j = 2 ∨ j = 3 ∨ j = 4 ∨ j = 5 ∨ j = 6 := by omega
 rcases hh with rfl | rfl | rfl | rfl | rfl | rfl | rfl <;> exact hj
theorem loadAt_chc2 {q : PV} {cl : Int} {c : Ca} {g : Nat} {ty : TypeId} {u : World} (h : Blk u g ty (chA q cl c)) : (Instr.loadAt 46 (.pointer (some ⟨g, 25, none⟩))).run Tryz.prog u = .ok (.agg #[.int .i64 c.c2.u, .int .i64 c.c2.ro, .int .i64 c.c2.ty, .int .i64 c.c2.lo.s, .int .u64 c.c2.lo.c, .int .i64 c.c2.hi.s, .int .u64 c.c2.hi.c]) u := by
 refine loadAt_agg [.int .i64 c.c2.u, .int .i64 c.c2.ro, .int .i64 c.c2.ty, .int .i64 c.c2.lo.s, .int .u64 c.c2.lo.c, .int .i64 c.c2.hi.s, .int .u64 c.c2.hi.c] (by go_simp) (by go_simp) (fun j v hj => ?_)
 have hlt : j < 7 := (List.getElem?_eq_some_iff.1 hj).1
 rw [h.cell, chA_at]
 have hh : j = 0 ∨ j = 1 ∨ j = 2 ∨ j = 3 ∨ j = 4 ∨ j = 5 ∨ j = 6 := by omega
 rcases hh with rfl | rfl | rfl | rfl | rfl | rfl | rfl <;> exact hj
theorem loadAt_chc3 {q : PV} {cl : Int} {c : Ca} {g : Nat} {ty : TypeId} {u : World} (h : Blk u g ty (chA q cl c)) : (Instr.loadAt 46 (.pointer (some ⟨g, 32, none⟩))).run Tryz.prog u = .ok (.agg #[.int .i64 c.c3.u, .int .i64 c.c3.ro, .int .i64 c.c3.ty, .int .i64 c.c3.lo.s, .int .u64 c.c3.lo.c, .int .i64 c.c3.hi.s, .int .u64 c.c3.hi.c]) u := by
 refine loadAt_agg [.int .i64 c.c3.u, .int .i64 c.c3.ro, .int .i64 c.c3.ty, .int .i64 c.c3.lo.s, .int .u64 c.c3.lo.c, .int .i64 c.c3.hi.s, .int .u64 c.c3.hi.c] (by go_simp) (by go_simp) (fun j v hj => ?_)
 have hlt : j < 7 := (List.getElem?_eq_some_iff.1 hj).1
 rw [h.cell, chA_at]
 have hh : j = 0 ∨ j = 1 ∨ j = 2 ∨ j = 3 ∨ j = 4 ∨ j = 5 ∨ j = 6 := by omega
 rcases hh with rfl | rfl | rfl | rfl | rfl | rfl | rfl <;> exact hj
set_option maxRecDepth 100000 in
set_option maxHeartbeats 16000000 in
theorem lawDenies_c (q : PV) (p : PP) (cl : Int) (c : Ca) (w : World) (hP : PolV w q p) (hpl : PLen p) : Calls Tryz.prog 3 #[.agg (chA q cl c)] w fun e w' => e = .returned (.bool true) ∧ Below w.heap.size w w' := by
 have HPL := Lib.hid hpl
 have HW := Lib.hid hP.u32
 have HB : Hid (Below w.heap.size w (w.alloc (.cells (chA q cl c) 50))) := Lib.hid ((Below.refl _ _).alloc (Nat.le_refl _) _)
 have HX0 : Hid (Blk (w.alloc (.cells (chA q cl c) 50)) (w.heap.size) 50 (chA q cl c)) := Lib.hid (Blk.here (by simp))
 have HQ : Hid (PolV (w.alloc (.cells (chA q cl c) 50)) q p) := Lib.hid (hP.keep HB.out)
 clear hP hpl
 have HLE : Hid (w.heap.size ≤ (w.alloc (.cells (chA q cl c) 50)).heap.size) := Lib.hid HB.out.size
 go_enter Tryz.func3, Tryz.ntmps3
 go_upto_region 1 with fail
 generalize w.alloc (.cells (chA q cl c) 50) = W at *
 generalize hg0 : w.heap.size = g0 at *
 have HLP : Hid (∀ u, Kp W u → (Instr.loadAt 39 (.pointer (some ⟨g0, 0, none⟩))).run Tryz.prog u = .ok q.val u) := Lib.hid (fun u hu => loadAt_chp (HX0.out.keep hu))
 have HLC1 : Hid (∀ u, Kp W u → (Instr.loadAt 46 (.pointer (some ⟨g0, 18, none⟩))).run Tryz.prog u = .ok (.agg #[.int .i64 c.c1.u, .int .i64 c.c1.ro, .int .i64 c.c1.ty, .int .i64 c.c1.lo.s, .int .u64 c.c1.lo.c, .int .i64 c.c1.hi.s, .int .u64 c.c1.hi.c]) u) := Lib.hid (fun u hu => loadAt_chc1 (HX0.out.keep hu))
 have HLC2 : Hid (∀ u, Kp W u → (Instr.loadAt 46 (.pointer (some ⟨g0, 25, none⟩))).run Tryz.prog u = .ok (.agg #[.int .i64 c.c2.u, .int .i64 c.c2.ro, .int .i64 c.c2.ty, .int .i64 c.c2.lo.s, .int .u64 c.c2.lo.c, .int .i64 c.c2.hi.s, .int .u64 c.c2.hi.c]) u) := Lib.hid (fun u hu => loadAt_chc2 (HX0.out.keep hu))
 have HLC3 : Hid (∀ u, Kp W u → (Instr.loadAt 46 (.pointer (some ⟨g0, 32, none⟩))).run Tryz.prog u = .ok (.agg #[.int .i64 c.c3.u, .int .i64 c.c3.ro, .int .i64 c.c3.ty, .int .i64 c.c3.lo.s, .int .u64 c.c3.lo.c, .int .i64 c.c3.hi.s, .int .u64 c.c3.hi.c]) u) := Lib.hid (fun u hu => loadAt_chc3 (HX0.out.keep hu))
 have HCL : Hid (∀ u, Kp W u → u.cell? ⟨g0, 17, none⟩ = some (.int .i64 cl)) := Lib.hid (fun u hu => by rw [(HX0.out.keep hu).cell 17, chA_at]; rfl)
 have HAW : Hid (∀ u, Calls Tryz.prog 5 #[] u fun e w' => e = .returned (.bool true) ∧ Below u.heap.size u w') := Lib.hid awake_c
 have HFI : Hid (Calls Tryz.prog 4 #[q.val, .agg #[.int .i64 0, .int .i64 0, .int .i64 0, .int .i64 0, .slice none 0 0, .int .u64 0, .int .u64 0, .int .u64 0, .int .u64 0, .slice none 0 0]] W fun e w' => ∃ v, e = .returned v ∧ FitsOut p (.mk 0 0 0 0 [] S4.zero []) W.heap.size W w' v) := Lib.hid (fits_c q p (.mk 0 0 0 0 [] S4.zero []) (.slice none 0 0) (.slice none 0 0) W HQ.out HPL.out ⟨Strs.nil, SlR.nil, xw_of 0 0 0 0 0 (by decide) (by decide) (by decide) (by decide) (by decide)⟩)
 refine wp_region_lit ?_
 refine wpList_val (by rfl) ?_
 go_simp
 refine ⟨_, _, ⟨rfl, rfl⟩, ?_⟩
 refine wpList_load (t := 39) (by rfl) (.tmp 11) rfl rfl (HLP.out W Kp.rfl') ?_
 refine wpList_val (by rfl) ?_
 go_simp
 refine ⟨_, _, ⟨rfl, rfl⟩, ?_⟩
 refine wpList_enterE (by rfl) (by first | (go_simp; done) | (go_simp; exact ⟨rfl, rfl⟩)) HFI.out ?_
 rintro _ V1 ⟨b1, rfl, hb1, hC1⟩
 have HBF := Lib.hid hb1
 have HK1 : Hid (Kp W V1) := Lib.hid hC1
 clear hb1 hC1
 refine wpList_val (by rfl) ?_
 go_simp
 refine ⟨_, _, ⟨rfl, rfl⟩, ?_⟩
 cases b1
 · go_wp2_with (go_at_call 5; (with_reducible refine (HAW.out _).mono ?_); rintro e w2 ⟨rfl, hb2⟩; have HB2 := Lib.hid (HB.out.trans (Below.mono (Kp.step HK1.out hb2) HLE.out)); clear hb2)
   go_ret
   exact ⟨rfl, by first | exact HB2.out | (rw [hg0]; exact HB2.out)⟩
 · have HOK := Lib.hid (HBF.out (by first | rfl | trivial))
   have HDZ := Lib.hid (dnL_zero (ev := evX ⟨c.c1, c.c2, nocx⟩) (cl := cl) p.cos 0 0 (-1) (fun x hx => ⟨HOK.out.2.1 x hx, HW.out x hx⟩) (by unfold U32; decide) (.inl ⟨rfl, rfl⟩))
   have HLL : Hid (p.cos.length ≤ 1000000) := Lib.hid (by exact Nat.le_trans HOK.out.1.cos (by decide))
   have HVR := Lib.hid (fdI_in (vlB (evX c) cl) p.cos)
   obtain ⟨d, hd⟩ : ∃ z, dnL (evX ⟨c.c1, c.c2, nocx⟩) cl 0 p.cos 0 (-1) = z := ⟨_, rfl⟩
   obtain ⟨v, hv⟩ : ∃ z, fdI (vlB (evX c) cl) p.cos = z := ⟨_, rfl⟩
   rw [hd] at HDZ
   rw [hv] at HVR
   obtain ⟨d1, d2⟩ := d
   have HD1 : Hid (∀ u, Kp W u → Calls Tryz.prog 6 #[q.val, .int .i64 cl, .agg #[.int .i64 c.c1.u, .int .i64 c.c1.ro, .int .i64 c.c1.ty, .int .i64 c.c1.lo.s, .int .u64 c.c1.lo.c, .int .i64 c.c1.hi.s, .int .u64 c.c1.hi.c], .agg #[.int .i64 c.c2.u, .int .i64 c.c2.ro, .int .i64 c.c2.ty, .int .i64 c.c2.lo.s, .int .u64 c.c2.lo.c, .int .i64 c.c2.hi.s, .int .u64 c.c2.hi.c]] u fun e w' => e = .returned (.tuple #[.int .u32 d1, .int .i64 d2]) ∧ Below u.heap.size u w') := Lib.hid (fun u hu => by have h := denied_c q.v0 q.v1 q.v2 q.v3 q.v4 q.v5 q.v6 q.v7 q.v8 q.v9 q.v10 q.v11 q.v12 q.v13 q.v14 q.v15 q.v16 cl c.c1 c.c2 p.cos u (HQ.out.keep hu).cos (Nat.le_trans HLL.out (by unfold maxLen; decide)); rw [hd] at h; exact h)
   have HD2 : Hid (∀ u, Kp W u → Calls Tryz.prog 7 #[q.val, .int .i64 cl, .agg #[.int .i64 c.c1.u, .int .i64 c.c1.ro, .int .i64 c.c1.ty, .int .i64 c.c1.lo.s, .int .u64 c.c1.lo.c, .int .i64 c.c1.hi.s, .int .u64 c.c1.hi.c], .agg #[.int .i64 c.c2.u, .int .i64 c.c2.ro, .int .i64 c.c2.ty, .int .i64 c.c2.lo.s, .int .u64 c.c2.lo.c, .int .i64 c.c2.hi.s, .int .u64 c.c2.hi.c]] u fun e w' => e = .returned (.tuple #[.int .u32 d1, .int .i64 d2]) ∧ Below u.heap.size u w') := Lib.hid (fun u hu => by have h := rdenied_c q p cl c.c1 c.c2 u (HQ.out.keep hu) HLL.out; rw [hd] at h; exact h)
   have HV1 : Hid (∀ u, Kp W u → Calls Tryz.prog 8 #[q.val, .int .i64 cl, .agg #[.int .i64 c.c1.u, .int .i64 c.c1.ro, .int .i64 c.c1.ty, .int .i64 c.c1.lo.s, .int .u64 c.c1.lo.c, .int .i64 c.c1.hi.s, .int .u64 c.c1.hi.c], .agg #[.int .i64 c.c2.u, .int .i64 c.c2.ro, .int .i64 c.c2.ty, .int .i64 c.c2.lo.s, .int .u64 c.c2.lo.c, .int .i64 c.c2.hi.s, .int .u64 c.c2.hi.c], .agg #[.int .i64 c.c3.u, .int .i64 c.c3.ro, .int .i64 c.c3.ty, .int .i64 c.c3.lo.s, .int .u64 c.c3.lo.c, .int .i64 c.c3.hi.s, .int .u64 c.c3.hi.c]] u fun e w' => e = .returned (.tuple #[.bool (v == -1), .int .i64 v]) ∧ Below u.heap.size u w') := Lib.hid (fun u hu => by have h := valid_c q p cl c u (HQ.out.keep hu) HLL.out; rw [hv] at h; exact h)
   have HV2 : Hid (∀ u, Kp W u → Calls Tryz.prog 9 #[q.val, .int .i64 cl, .agg #[.int .i64 c.c1.u, .int .i64 c.c1.ro, .int .i64 c.c1.ty, .int .i64 c.c1.lo.s, .int .u64 c.c1.lo.c, .int .i64 c.c1.hi.s, .int .u64 c.c1.hi.c], .agg #[.int .i64 c.c2.u, .int .i64 c.c2.ro, .int .i64 c.c2.ty, .int .i64 c.c2.lo.s, .int .u64 c.c2.lo.c, .int .i64 c.c2.hi.s, .int .u64 c.c2.hi.c], .agg #[.int .i64 c.c3.u, .int .i64 c.c3.ro, .int .i64 c.c3.ty, .int .i64 c.c3.lo.s, .int .u64 c.c3.lo.c, .int .i64 c.c3.hi.s, .int .u64 c.c3.hi.c]] u fun e w' => e = .returned (.tuple #[.bool (v == -1), .int .i64 v]) ∧ Below u.heap.size u w') := Lib.hid (fun u hu => by have h := rvalid_c q p cl c u (HQ.out.keep hu) HLL.out; rw [hv] at h; exact h)
   clear hd hv HBF HOK
   have HTA : Hid (∀ u, Kp V1 u → Kp W u) := Lib.hid (fun u hu => kp_trans HK1.out hu)
   obtain ⟨vb, hvb⟩ : ∃ z, (v == -1) = z := ⟨_, rfl⟩
   rw [hvb] at HV1 HV2
   have HVB := Lib.hid hvb
   clear hvb
   go_upto_region 3 with fail
   all_goals refine wp_region_kq ?_
   repeat' (first | go_big_quiet_skip | (go_big_quiet_want; first | (refine quiet_load (t := 39) (.tmp 18) rfl rfl (fun w1 hC => HLP.out w1 (HTA.out _ hC)) ?_; simp only [Act.put, List.setIfInBounds_toArray, List.set_cons_succ, List.set_cons_zero]; go_big_quiet_on) | (refine quiet_load (t := 46) (.tmp 23) rfl rfl (fun w1 hC => HLC1.out w1 (HTA.out _ hC)) ?_; simp only [Act.put, List.setIfInBounds_toArray, List.set_cons_succ, List.set_cons_zero]; go_big_quiet_on) | (refine quiet_load (t := 46) (.tmp 26) rfl rfl (fun w1 hC => HLC2.out w1 (HTA.out _ hC)) ?_; simp only [Act.put, List.setIfInBounds_toArray, List.set_cons_succ, List.set_cons_zero]; go_big_quiet_on) | (go_big_quiet_op; first | go_big_quiet_on | (apply Exists.intro; refine ⟨fun w1 hC => ?_, ?_⟩; (first | (go_at_call 6; with_reducible exact hC.call (HD1.out _ (HTA.out _ hC))) | (have k0 := HCL.out w1 (HTA.out _ hC); go_simp; exact rfl) | exact rfl | (go_simp; exact ⟨rfl, rfl⟩)); go_big_quiet_on))))
   all_goals refine wpQuiet_nil ?_
   all_goals intro V1 hC
   all_goals have HF1 := Lib.hid (HB.out.trans (Below.mono (HTA.out _ hC) HLE.out))
   all_goals have HT1 : Hid (∀ u, Kp V1 u → Kp W u) := Lib.hid (fun u hu => kp_trans (HTA.out _ hC) hu)
   all_goals clear hC
   all_goals (go_upto_region 4 with fail
              all_goals refine wp_region_kq ?_
              repeat' (first | go_big_quiet_skip | (go_big_quiet_want; first | (refine quiet_load (t := 39) (.tmp 32) rfl rfl (fun w1 hC => HLP.out w1 (HT1.out _ hC)) ?_; simp only [Act.put, List.setIfInBounds_toArray, List.set_cons_succ, List.set_cons_zero]; go_big_quiet_on) | (refine quiet_load (t := 46) (.tmp 37) rfl rfl (fun w1 hC => HLC1.out w1 (HT1.out _ hC)) ?_; simp only [Act.put, List.setIfInBounds_toArray, List.set_cons_succ, List.set_cons_zero]; go_big_quiet_on) | (refine quiet_load (t := 46) (.tmp 40) rfl rfl (fun w1 hC => HLC2.out w1 (HT1.out _ hC)) ?_; simp only [Act.put, List.setIfInBounds_toArray, List.set_cons_succ, List.set_cons_zero]; go_big_quiet_on) | (go_big_quiet_op; first | go_big_quiet_on | (apply Exists.intro; refine ⟨fun w1 hC => ?_, ?_⟩; (first | (go_at_call 7; with_reducible exact hC.call (HD2.out _ (HT1.out _ hC))) | (have k0 := HCL.out w1 (HT1.out _ hC); go_simp; exact rfl) | exact rfl | (go_simp; exact ⟨rfl, rfl⟩)); go_big_quiet_on))))
              all_goals refine wpQuiet_nil ?_
              all_goals intro V2 hC
              all_goals have HF2 := Lib.hid (HB.out.trans (Below.mono (HT1.out _ hC) HLE.out))
              all_goals have HT2 : Hid (∀ u, Kp V2 u → Kp W u) := Lib.hid (fun u hu => kp_trans (HT1.out _ hC) hu)
              all_goals clear hC
              all_goals (go_upto_region 5 with fail
                         all_goals refine wp_region_kq ?_
                         repeat' (first | go_big_quiet_skip | (go_big_quiet_want; first | (refine quiet_load (t := 39) (.tmp 46) rfl rfl (fun w1 hC => HLP.out w1 (HT2.out _ hC)) ?_; simp only [Act.put, List.setIfInBounds_toArray, List.set_cons_succ, List.set_cons_zero]; go_big_quiet_on) | (refine quiet_load (t := 46) (.tmp 51) rfl rfl (fun w1 hC => HLC1.out w1 (HT2.out _ hC)) ?_; simp only [Act.put, List.setIfInBounds_toArray, List.set_cons_succ, List.set_cons_zero]; go_big_quiet_on) | (refine quiet_load (t := 46) (.tmp 54) rfl rfl (fun w1 hC => HLC2.out w1 (HT2.out _ hC)) ?_; simp only [Act.put, List.setIfInBounds_toArray, List.set_cons_succ, List.set_cons_zero]; go_big_quiet_on) | (refine quiet_load (t := 46) (.tmp 57) rfl rfl (fun w1 hC => HLC3.out w1 (HT2.out _ hC)) ?_; simp only [Act.put, List.setIfInBounds_toArray, List.set_cons_succ, List.set_cons_zero]; go_big_quiet_on) | (go_big_quiet_op; first | go_big_quiet_on | (apply Exists.intro; refine ⟨fun w1 hC => ?_, ?_⟩; (first | (go_at_call 8; with_reducible exact hC.call (HV1.out _ (HT2.out _ hC))) | (have k0 := HCL.out w1 (HT2.out _ hC); go_simp; exact rfl) | exact rfl | (go_simp; exact ⟨rfl, rfl⟩)); go_big_quiet_on))))
                         all_goals refine wpQuiet_nil ?_
                         all_goals intro V3 hC
                         all_goals have HF3 := Lib.hid (HB.out.trans (Below.mono (HT2.out _ hC) HLE.out))
                         all_goals have HT3 : Hid (∀ u, Kp V3 u → Kp W u) := Lib.hid (fun u hu => kp_trans (HT2.out _ hC) hu)
                         all_goals clear hC
                         all_goals (go_upto_region 6 with fail
                                    all_goals refine wp_region_kq ?_
                                    repeat' (first | go_big_quiet_skip | (go_big_quiet_want; first | (refine quiet_load (t := 39) (.tmp 63) rfl rfl (fun w1 hC => HLP.out w1 (HT3.out _ hC)) ?_; simp only [Act.put, List.setIfInBounds_toArray, List.set_cons_succ, List.set_cons_zero]; go_big_quiet_on) | (refine quiet_load (t := 46) (.tmp 68) rfl rfl (fun w1 hC => HLC1.out w1 (HT3.out _ hC)) ?_; simp only [Act.put, List.setIfInBounds_toArray, List.set_cons_succ, List.set_cons_zero]; go_big_quiet_on) | (refine quiet_load (t := 46) (.tmp 71) rfl rfl (fun w1 hC => HLC2.out w1 (HT3.out _ hC)) ?_; simp only [Act.put, List.setIfInBounds_toArray, List.set_cons_succ, List.set_cons_zero]; go_big_quiet_on) | (refine quiet_load (t := 46) (.tmp 74) rfl rfl (fun w1 hC => HLC3.out w1 (HT3.out _ hC)) ?_; simp only [Act.put, List.setIfInBounds_toArray, List.set_cons_succ, List.set_cons_zero]; go_big_quiet_on) | (go_big_quiet_op; first | go_big_quiet_on | (apply Exists.intro; refine ⟨fun w1 hC => ?_, ?_⟩; (first | (go_at_call 9; with_reducible exact hC.call (HV2.out _ (HT3.out _ hC))) | (have k0 := HCL.out w1 (HT3.out _ hC); go_simp; exact rfl) | exact rfl | (go_simp; exact ⟨rfl, rfl⟩)); go_big_quiet_on))))
                                    all_goals refine wpQuiet_nil ?_
                                    all_goals intro V4 hC
                                    all_goals have HF4 := Lib.hid (HB.out.trans (Below.mono (HT3.out _ hC) HLE.out))
                                    all_goals have HT4 : Hid (∀ u, Kp V4 u → Kp W u) := Lib.hid (fun u hu => kp_trans (HT3.out _ hC) hu)
                                    all_goals clear hC
                                    all_goals (rcases HDZ.out with ⟨hz1, hz2⟩ | ⟨hz1, hz2⟩
                                               · have hz1 : d1 = 0 := hz1
                                                 have hz2 : d2 = -1 := hz2
                                                 subst hz1 hz2
                                                 by_cases hv0 : v = -1
                                                 · subst hv0
                                                   obtain rfl : true = vb := HVB.out
                                                   go_wp2_with (go_at_call 5; (with_reducible refine (HAW.out _).mono ?_); rintro e w2 ⟨rfl, hb2⟩; have HB2 := Lib.hid (HB.out.trans (Below.mono (Kp.step (HT4.out _ Kp.rfl') hb2) HLE.out)); clear hb2)
                                                   go_ret
                                                   exact ⟨rfl, by first | exact HB2.out | (rw [hg0]; exact HB2.out)⟩
                                                 · obtain rfl : false = vb := by rw [← HVB.out]; simpa using hv0
                                                   have hv1 : 0 ≤ v := by have := HVR.out; omega
                                                   have p2 : (v < 0) = False := eq_false (by omega)
                                                   have p3 : decide (v < 0) = false := decide_eq_false (by omega)
                                                   clear hv0 hv1
                                                   go_wp2_with (go_at_call 5; (with_reducible refine (HAW.out _).mono ?_); rintro e w2 ⟨rfl, hb2⟩; have HB2 := Lib.hid (HB.out.trans (Below.mono (Kp.step (HT4.out _ Kp.rfl') hb2) HLE.out)); clear hb2)
                                                   go_ret
                                                   exact ⟨rfl, by first | exact HB2.out | (rw [hg0]; exact HB2.out)⟩
                                               · have hz1 : d1 ≠ 0 := hz1
                                                 have hz2 : 0 ≤ d2 := hz2
                                                 have q1 : (d1 == 0) = false := by simpa using hz1
                                                 have q2 : (d2 < 0) = False := eq_false (by omega)
                                                 have q3 : decide (d2 < 0) = false := decide_eq_false (by omega)
                                                 have q4 : (d1 = 0) = False := eq_false hz1
                                                 clear hz1 hz2
                                                 by_cases hv0 : v = -1
                                                 · subst hv0
                                                   obtain rfl : true = vb := HVB.out
                                                   go_wp2_with (go_at_call 5; (with_reducible refine (HAW.out _).mono ?_); rintro e w2 ⟨rfl, hb2⟩; have HB2 := Lib.hid (HB.out.trans (Below.mono (Kp.step (HT4.out _ Kp.rfl') hb2) HLE.out)); clear hb2)
                                                   go_ret
                                                   exact ⟨rfl, by first | exact HB2.out | (rw [hg0]; exact HB2.out)⟩
                                                 · obtain rfl : false = vb := by rw [← HVB.out]; simpa using hv0
                                                   have hv1 : 0 ≤ v := by have := HVR.out; omega
                                                   have p2 : (v < 0) = False := eq_false (by omega)
                                                   have p3 : decide (v < 0) = false := decide_eq_false (by omega)
                                                   clear hv0 hv1
                                                   go_wp2_with (go_at_call 5; (with_reducible refine (HAW.out _).mono ?_); rintro e w2 ⟨rfl, hb2⟩; have HB2 := Lib.hid (HB.out.trans (Below.mono (Kp.step (HT4.out _ Kp.rfl') hb2) HLE.out)); clear hb2)
                                                   go_ret
                                                   exact ⟨rfl, by first | exact HB2.out | (rw [hg0]; exact HB2.out)⟩))))
end Go.Proofs.YtbhoofihnmmmfabGreat
