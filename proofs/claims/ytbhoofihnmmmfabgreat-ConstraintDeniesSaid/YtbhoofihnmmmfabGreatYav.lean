/- Part of the proof: Cyh. No conditions. -/
import Derived.Test.YtbhoofihnmmmfabGreatYau
namespace Go.Proofs.YtbhoofihnmmmfabGreat
open Go.RowKit Go
theorem exprcode_ret {fn : Func} {tmps : Array Value} {t s : Tmp} {w : World} {g : Nat} {op a r b : Int} {vn vk : Value} {S : S4} {c : Int} (h : fn.results = #[.cell t 55, .tmp s]) (ht : tmps.getD t undef = .pointer (some ⟨g, 0, none⟩)) (hs : tmps.getD s undef = .int .i64 c) (q : Blk w g 55 #[.int .i64 op, .int .i64 a, .int .i64 r, .int .i64 b, vn, .int .u64 S.a, .int .u64 S.b, .int .u64 S.c, .int .u64 S.d, vk]) :
 (results fn tmps).run Tryz.prog w = .ok (.tuple #[.agg #[.int .i64 op, .int .i64 a, .int .i64 r, .int .i64 b, vn, .int .u64 S.a, .int .u64 S.b, .int .u64 S.c, .int .u64 S.d, vk], .int .i64 c]) w := by
 have c0 := q.cell 0
 have c1 := q.cell 1
 have c2 := q.cell 2
 have c3 := q.cell 3
 have c4 := q.cell 4
 have c5 := q.cell 5
 have c6 := q.cell 6
 have c7 := q.cell 7
 have c8 := q.cell 8
 have c9 := q.cell 9
 have ht' : tmps[t]?.getD undef = .pointer (some ⟨g, 0, none⟩) := by simpa using ht
 have hs' : tmps[s]?.getD undef = .int .i64 c := by simpa using hs
 simp [results, h, ht', hs', go_sem, c0, c1, c2, c3, c4, c5, c6, c7, c8, c9]
theorem Blk.store10x {w : World} {g : Nat} {t : TypeId} {d0 d1 d2 d3 d4 d5 d6 d7 d8 d9 : Value} (h : Blk w g t #[d0, d1, d2, d3, d4, d5, d6, d7, d8, d9]) (v0 v1 v2 v3 v4 v5 v6 v7 v8 v9 : Value) : Blk ((((((((((w.setCell ⟨g, 0, none⟩ v0).setCell ⟨g, 1, none⟩ v1).setCell ⟨g, 2, none⟩ v2).setCell ⟨g, 3, none⟩ v3).setCell ⟨g, 4, none⟩ v4).setCell ⟨g, 5, none⟩ v5).setCell ⟨g, 6, none⟩ v6).setCell ⟨g, 7, none⟩ v7).setCell ⟨g, 8, none⟩ v8).setCell ⟨g, 9, none⟩ v9) g t #[v0, v1, v2, v3, v4, v5, v6, v7, v8, v9] := by
 have k := (Blk.set (Blk.set (Blk.set (Blk.set (Blk.set (Blk.set (Blk.set (Blk.set (Blk.set (Blk.set h 0 v0) 1 v1) 2 v2) 3 v3) 4 v4) 5 v5) 6 v6) 7 v7) 8 v8) 9 v9)
 simp only [List.setIfInBounds_toArray, List.set_cons_zero, List.set_cons_succ] at k
 exact k
theorem below_set10 {B : Nat} {a w : World} (h : Below B a w) {g : Nat} (hg : B ≤ g) (v0 v1 v2 v3 v4 v5 v6 v7 v8 v9 : Value) : Below B a ((((((((((w.setCell ⟨g, 0, none⟩ v0).setCell ⟨g, 1, none⟩ v1).setCell ⟨g, 2, none⟩ v2).setCell ⟨g, 3, none⟩ v3).setCell ⟨g, 4, none⟩ v4).setCell ⟨g, 5, none⟩ v5).setCell ⟨g, 6, none⟩ v6).setCell ⟨g, 7, none⟩ v7).setCell ⟨g, 8, none⟩ v8).setCell ⟨g, 9, none⟩ v9) := (below_set1 (below_set1 (below_set1 (below_set1 (below_set1 (below_set1 (below_set1 (below_set1 (below_set1 (below_set1 h hg 0 v0) hg 1 v1) hg 2 v2) hg 3 v3) hg 4 v4) hg 5 v5) hg 6 v6) hg 7 v7) hg 8 v8) hg 9 v9)
/-- every block keeps its type and its size -/
def Shp (u u' : World) : Prop := ∀ g t cs, Blk u g t cs → ∃ cs', cs'.size = cs.size ∧ Blk u' g t cs'
theorem Shp.trans {u v w : World} (h : Shp u v) (k : Shp v w) : Shp u w := fun g t cs hb => by
 obtain ⟨c1, e1, h1⟩ := h g t cs hb
 obtain ⟨c2, e2, h2⟩ := k g t c1 h1
 exact ⟨c2, e2.trans e1, h2⟩
theorem shp_set (u : World) (g i : Nat) (v : Value) : Shp u (u.setCell ⟨g, i, none⟩ v) := fun g' t cs hb => by
 by_cases e : g' = g
 · subst e; exact ⟨_, by simp, hb.set i v⟩
 · exact ⟨cs, rfl, hb.far (p := ⟨g, i, none⟩) e v⟩
theorem shp_set4 (u : World) (g : Nat) (v0 v1 v2 v3 : Value) : Shp u ((((u.setCell ⟨g, 0, none⟩ v0).setCell ⟨g, 1, none⟩ v1).setCell ⟨g, 2, none⟩ v2).setCell ⟨g, 3, none⟩ v3) :=
 (((shp_set u g 0 v0).trans (shp_set _ g 1 v1)).trans (shp_set _ g 2 v2)).trans (shp_set _ g 3 v3)
theorem arr4 {cs : Array Value} (h : cs.size = 4) : ∃ a b c d, cs = #[a, b, c, d] := by
 obtain ⟨l⟩ := cs
 match l, h with
 | [a, b, c, d], _ => exact ⟨a, b, c, d, rfl⟩
def mbPhi (g o gc gp : Nat) (x : X) (ao : Option Addr) (cap : Nat) (MS : S4) (bb : Bool) (W0 : World) (k : Nat) (v : Value) (u : World) : Prop := match k with
 | 0 => v = .pointer (some ⟨g, o, none⟩)
 | 1 => v = .pointer (some ⟨g, o, none⟩)
 | 2 => v = .pointer (some ⟨g, o + 4, none⟩)
 | 3 => v = .slice ao x.ns.length cap
 | 4 => v = .pointer (some ⟨gc, 0, none⟩)
 | 5 => v = .pointer (some ⟨gp, 0, none⟩)
 | 6 => v = .pointer (some ⟨g, o, none⟩)
 | 7 => v = .pointer (some ⟨g, o, none⟩)
 | 8 => v = .pointer (some ⟨g, o + 1, none⟩)
 | 9 => v = .int .i64 x.a
 | 10 => v = .int .i64 (sortA x.a)
 | 11 => v = .tuple #[.agg #[.int .u64 MS.a, .int .u64 MS.b, .int .u64 MS.c, .int .u64 MS.d], .bool bb]
 | 12 => v = .tuple #[.agg #[.int .u64 MS.a, .int .u64 MS.b, .int .u64 MS.c, .int .u64 MS.d], .bool bb]
 | 13 => v = .agg #[.int .u64 MS.a, .int .u64 MS.b, .int .u64 MS.c, .int .u64 MS.d]
 | 14 => v = .bool bb
 | 15 => ∃ (g : Nat) (cs : Array Value), v = .pointer (some ⟨g, 0, none⟩) ∧ W0.heap.size ≤ g ∧ cs.size = 4 ∧ Blk u g 53 cs
 | 16 => ∃ g, v = .pointer (some ⟨g, 0, none⟩) ∧ W0.heap.size ≤ g ∧ Blk u g 53 #[.int .u64 MS.a, .int .u64 MS.b, .int .u64 MS.c, .int .u64 MS.d]
 | 17 => v = .bool bb
 | _ => True
def mbRel (W0 : World) (k : Nat) (u u' : World) : Prop := if k = 16 then Below W0.heap.size u u' ∧ Shp u u' else Below u.heap.size u u'
theorem mbPhi_keep {g o gc gp : Nat} {x : X} {ao : Option Addr} {cap : Nat} {MS : S4} {bb : Bool} {W0 : World} {k j : Nat} {v : Value} {u u' : World} (hkj : k ≠ j) (h : mbPhi g o gc gp x ao cap MS bb W0 k v u) (hr : mbRel W0 j u u') : mbPhi g o gc gp x ao cap MS bb W0 k v u' := by
 unfold mbPhi at h ⊢
 unfold mbRel at hr
 split at h
 iterate 15 exact h
 · obtain ⟨g, cs, h1, h2, h4, h3⟩ := h
   split at hr
   · obtain ⟨cs', e, hb⟩ := hr.2 _ _ _ h3
     exact ⟨g, cs', h1, h2, e.trans h4, hb⟩
   · exact ⟨g, cs, h1, h2, h4, h3.keep hr⟩
 · rw [if_neg (fun e => hkj e.symm)] at hr
   obtain ⟨g, h1, h2, h3⟩ := h
   exact ⟨g, h1, h2, h3.keep hr⟩
 · exact h
 · trivial
theorem mbRel_class {W0 : World} {k : Nat} {u u' : World} (h : Kp W0 u) (hr : mbRel W0 k u u') : Kp W0 u' := by
 unfold mbRel at hr
 split at hr
 · exact Below.trans h hr.1
 · exact Below.trans h (hr.mono h.size)
set_option maxRecDepth 100000 in
set_option maxHeartbeats 32000000 in
theorem member_no (x : X) (g o gp : Nat) (A : Int) (MS : S4) (w : World) (hX : XAt w g o x) (hg : g < w.heap.size) (hnn : 0 < x.ns.length) (hst : x.st = S4.zero) (hop : operE A x.op x.a x.r x.b 0 x.st x.ks.length = 0)
 (hME : ∀ W vN, Kp w W → Strs W vN x.ns → Calls Tryz.prog 120 #[vN, .pointer (some ⟨gp, 0, none⟩), .int .i64 (sortA x.a)] W fun e w' => e = .returned (.tuple #[.agg #[.int .u64 MS.a, .int .u64 MS.b, .int .u64 MS.c, .int .u64 MS.d], .bool false]) ∧ Below W.heap.size W w') :
 Calls Tryz.prog 92 #[.agg #[.pointer (some ⟨gp, 0, none⟩), .int .i64 A], .pointer (some ⟨g, o, none⟩)] w fun e w' => e = .returned (.tuple #[.agg #[.int .i64 0, .int .i64 0, .int .i64 0, .int .i64 0, .slice none 0 0, .int .u64 0, .int .u64 0, .int .u64 0, .int .u64 0, .slice none 0 0], .int .i64 11]) ∧ Below w.heap.size w w' := by
 obtain ⟨ao, cap, ak, ck, hxc, -, hns⟩ := hX.xc
 rw [hst] at hxc hop
 have HB : Hid (Below w.heap.size w ((w.alloc (.cells #[.pointer (some ⟨gp, 0, none⟩), .int .i64 A] 105)).alloc (.cells #[.int .i64 0, .int .i64 0, .int .i64 0, .int .i64 0, .slice none 0 0, .int .u64 0, .int .u64 0, .int .u64 0, .int .u64 0, .slice none 0 0] 55))) := Lib.hid (((Below.refl _ _).alloc (Nat.le_refl _) _).alloc (by simp) _)
 have HC : Hid (Blk ((w.alloc (.cells #[.pointer (some ⟨gp, 0, none⟩), .int .i64 A] 105)).alloc (.cells #[.int .i64 0, .int .i64 0, .int .i64 0, .int .i64 0, .slice none 0 0, .int .u64 0, .int .u64 0, .int .u64 0, .int .u64 0, .slice none 0 0] 55)) w.heap.size 105 #[.pointer (some ⟨gp, 0, none⟩), .int .i64 A]) := Lib.hid ((Blk.new w _ _).alloc _)
 have HR : Hid (Blk ((w.alloc (.cells #[.pointer (some ⟨gp, 0, none⟩), .int .i64 A] 105)).alloc (.cells #[.int .i64 0, .int .i64 0, .int .i64 0, .int .i64 0, .slice none 0 0, .int .u64 0, .int .u64 0, .int .u64 0, .int .u64 0, .slice none 0 0] 55)) (w.heap.size + 1) 55 #[.int .i64 0, .int .i64 0, .int .i64 0, .int .i64 0, .slice none 0 0, .int .u64 0, .int .u64 0, .int .u64 0, .int .u64 0, .slice none 0 0]) := Lib.hid (two_new' _ _ _ _)
 have HX := Lib.hid (hxc.keep (HB.out.block g hg))
 have HG : Hid (g < w.heap.size) := Lib.hid hg
 have HNS := Lib.hid hns
 have HME := Lib.hid hME
 have HOP := Lib.hid hop
 have hl0 : ((x.ns.length : Int) == 0) = false := by
  have h5 : ¬ ((x.ns.length : Int) = 0) := by omega
  exact beq_eq_false_iff_ne.2 h5
 have HSO := Lib.hid (sortOf_c x.a)
 clear hX hxc hns hME hop hnn hg
 go_enter Tryz.func92, Tryz.ntmps92
 go_upto_region 1 with fail
 generalize (w.alloc (.cells #[.pointer (some ⟨gp, 0, none⟩), .int .i64 A] 105)).alloc (.cells #[.int .i64 0, .int .i64 0, .int .i64 0, .int .i64 0, .slice none 0 0, .int .u64 0, .int .u64 0, .int .u64 0, .int .u64 0, .slice none 0 0] 55) = W at *
 have HLE : Hid (w.heap.size ≤ W.heap.size) := Lib.hid HB.out.size
 have HGR : Hid (w.heap.size + 1 < W.heap.size) := Lib.hid HR.out.lt
 have HSR : Hid (w.heap.size ≤ w.heap.size + 1) := Lib.hid (Nat.le_succ _)
 generalize w.heap.size + 1 = gr at *
 generalize hgc : w.heap.size = gc at *
 obtain ⟨y0, y1, y2, y3, y4, y5, y6, y7, y8, y9⟩ := HX.out.cells
 have hc := HC.out.cell
 have k0 := hc 0
 have k1 := hc 1
 clear hc
 go_upto_region 5 with fail
 have HU : Hid (XC (W.alloc (.cells #[.int .i64 x.op, .int .i64 x.a, .int .i64 x.r, .int .i64 x.b, .slice none 0 0, .int .u64 S4.zero.a, .int .u64 S4.zero.b, .int .u64 S4.zero.c, .int .u64 S4.zero.d, .slice ak x.ks.length ck] 55)) W.heap.size 0 x.op x.a x.r x.b none 0 0 S4.zero ak x.ks.length ck) := Lib.hid (XC.of_blk (Blk.new W _ _))
 have HB5 : Hid (Below gc w (W.alloc (.cells #[.int .i64 x.op, .int .i64 x.a, .int .i64 x.r, .int .i64 x.b, .slice none 0 0, .int .u64 S4.zero.a, .int .u64 S4.zero.b, .int .u64 S4.zero.c, .int .u64 S4.zero.d, .slice ak x.ks.length ck] 55))) := Lib.hid (HB.out.alloc HLE.out _)
 have HC5 := Lib.hid (HC.out.alloc (.cells #[.int .i64 x.op, .int .i64 x.a, .int .i64 x.r, .int .i64 x.b, .slice none 0 0, .int .u64 S4.zero.a, .int .u64 S4.zero.b, .int .u64 S4.zero.c, .int .u64 S4.zero.d, .slice ak x.ks.length ck] 55))
 have HR5 := Lib.hid (HR.out.alloc (.cells #[.int .i64 x.op, .int .i64 x.a, .int .i64 x.r, .int .i64 x.b, .slice none 0 0, .int .u64 S4.zero.a, .int .u64 S4.zero.b, .int .u64 S4.zero.c, .int .u64 S4.zero.d, .slice ak x.ks.length ck] 55))
 have HK5 : Hid (Kp W (W.alloc (.cells #[.int .i64 x.op, .int .i64 x.a, .int .i64 x.r, .int .i64 x.b, .slice none 0 0, .int .u64 S4.zero.a, .int .u64 S4.zero.b, .int .u64 S4.zero.c, .int .u64 S4.zero.d, .slice ak x.ks.length ck] 55))) := Lib.hid ((Below.refl _ _).alloc (Nat.le_refl _) _)
 have HG5 : Hid (W.heap.size < (W.alloc (.cells #[.int .i64 x.op, .int .i64 x.a, .int .i64 x.r, .int .i64 x.b, .slice none 0 0, .int .u64 S4.zero.a, .int .u64 S4.zero.b, .int .u64 S4.zero.c, .int .u64 S4.zero.d, .slice ak x.ks.length ck] 55)).heap.size) := Lib.hid (by simp)
 generalize W.alloc (.cells #[.int .i64 x.op, .int .i64 x.a, .int .i64 x.r, .int .i64 x.b, .slice none 0 0, .int .u64 S4.zero.a, .int .u64 S4.zero.b, .int .u64 S4.zero.c, .int .u64 S4.zero.d, .slice ak x.ks.length ck] 55) = W5 at *
 have HOC := Lib.hid (operator_c W.heap.size 0 x.op x.a x.r x.b none 0 0 S4.zero ak x.ks.length ck A W5 HU.out HG5.out)
 rw [HOP.out] at HOC
 have HX5 := Lib.hid (HX.out.keep (HK5.out.block g (Nat.lt_of_lt_of_le HG.out HLE.out)))
 have HLE5 : Hid (gc ≤ W5.heap.size) := Lib.hid (Nat.le_trans HLE.out HK5.out.size)
 clear HU HG5 y0 y1 y2 y3 y4 y5 y6 y7 y8 y9 k0 k1
 have hc := HC5.out.cell
 have k0 := hc 0
 have k1 := hc 1
 clear hc
 go_upto_region 8 with (go_at_call 70; (with_reducible refine HOC.out.mono ?_); rintro e w6 ⟨rfl, hb6⟩; have HB6 := Lib.hid (HB5.out.trans (hb6.mono HLE5.out)); have HC6 := Lib.hid (HC5.out.keep hb6); have HR6 := Lib.hid (HR5.out.keep hb6); have HX6 := Lib.hid (HX5.out.keep (hb6.block g (Nat.lt_of_lt_of_le HG.out HLE5.out))); have HLE6 := Lib.hid (Nat.le_trans HLE5.out hb6.size); clear hb6)
 clear k0 k1 HOC HX5 HC5 HR5 HB5 HK5 HB HC HR HX HLE5
 generalize W.heap.size = g6 at *
 have HG6 : Hid (g < w6.heap.size) := Lib.hid (Nat.lt_of_lt_of_le HG.out HLE6.out)
 have HN6 : Hid (∀ W, Kp w6 W → Strs W (.slice ao x.ns.length cap) x.ns) := Lib.hid (fun W h => HNS.out.keep (by rw [hgc]; exact kpb HB6.out HLE6.out h))
 refine wp_region_lnk (fun _ u => Kp w6 u) (mbRel w6) (mbPhi g o gc gp x ao cap MS false w6) (fun k => if k == 16 then some 8 else none) (by kernel_rfl) (by kernel_rfl) (by kernel_rfl) (Below.refl _ _).drew (fun _ _ _ _ _ h hr => mbRel_class h hr) [] (by kernel_rfl) (fun i j v u u2 hij _ h hr => mbPhi_keep hij h hr) ?_ ?_
 · refine ⟨⟨trivial, fun A v d hd hC hF hW K Q hk => ?_⟩, ⟨trivial, fun A v d hd hC hF hW K Q hk => ?_⟩, ⟨trivial, fun A v d hd hC hF hW K Q hk => ?_⟩, ⟨trivial, fun A v d hd hC hF hW K Q hk => ?_⟩, ⟨trivial, fun A v d hd hC hF hW K Q hk => ?_⟩, ⟨trivial, fun A v d hd hC hF hW K Q hk => ?_⟩, ⟨trivial, fun A v d hd hC hF hW K Q hk => ?_⟩, ⟨trivial, fun A v d hd hC hF hW K Q hk => ?_⟩, ⟨trivial, fun A v d hd hC hF hW K Q hk => ?_⟩, ⟨trivial, fun A v d hd hC hF hW K Q hk => ?_⟩, ⟨trivial, fun A v d hd hC hF hW K Q hk => ?_⟩, ⟨trivial, fun A v d hd hC hF hW K Q hk => ?_⟩, ⟨trivial, fun A v d hd hC hF hW K Q hk => ?_⟩, ⟨trivial, fun A v d hd hC hF hW K Q hk => ?_⟩, ⟨trivial, fun A v d hd hC hF hW K Q hk => ?_⟩, ⟨trivial, fun A v d hd hC hF hW K Q hk => ?_⟩, ⟨trivial, fun A v d hd hC hF hW K Q hk => ?_⟩, ⟨trivial, fun A v d hd hC hF hW K Q hk => ?_⟩, trivial⟩
   · have f1 : A.tmps[1]?.getD undef = .pointer (some ⟨g, o, none⟩) := fg_none (hF 1) (by kernel_rfl)
     refine Giv.wp (φ := mbPhi g o gc gp x ao cap MS false w6 0) ?_ hk
     unfold Giv
     go_simp
     exact giv_val (by unfold mbRel; rw [if_neg (by decide)]; exact Below.refl _ _) rfl
   · have f37 : A.tmps[37]?.getD undef = .pointer (some ⟨g, o, none⟩) := fg_some (hF 37) (j := 0) (by kernel_rfl) (by kernel_rfl)
     refine Giv.wp (φ := mbPhi g o gc gp x ao cap MS false w6 1) ?_ hk
     unfold Giv
     go_simp
     exact giv_val (by unfold mbRel; rw [if_neg (by decide)]; exact Below.refl _ _) rfl
   · have f38 : A.tmps[38]?.getD undef = .pointer (some ⟨g, o, none⟩) := fg_some (hF 38) (j := 1) (by kernel_rfl) (by kernel_rfl)
     refine Giv.wp (φ := mbPhi g o gc gp x ao cap MS false w6 2) ?_ hk
     unfold Giv
     go_simp
     exact giv_val (by unfold mbRel; rw [if_neg (by decide)]; exact Below.refl _ _) rfl
   · have f39 : A.tmps[39]?.getD undef = .pointer (some ⟨g, o + 4, none⟩) := fg_some (hF 39) (j := 2) (by kernel_rfl) (by kernel_rfl)
     obtain ⟨y0, y1, y2, y3, y4, y5, y6, y7, y8, y9⟩ := (HX6.out.keep (Below.block hC g HG6.out)).cells
     refine Giv.wp (φ := mbPhi g o gc gp x ao cap MS false w6 3) ?_ hk
     unfold Giv
     go_simp
     exact giv_val (by unfold mbRel; rw [if_neg (by decide)]; exact Below.refl _ _) rfl
   · have f2 : A.tmps[2]?.getD undef = .pointer (some ⟨gc, 0, none⟩) := fg_none (hF 2) (by kernel_rfl)
     refine Giv.wp (φ := mbPhi g o gc gp x ao cap MS false w6 4) ?_ hk
     unfold Giv
     go_simp
     exact giv_val (by unfold mbRel; rw [if_neg (by decide)]; exact Below.refl _ _) rfl
   · have f41 : A.tmps[41]?.getD undef = .pointer (some ⟨gc, 0, none⟩) := fg_some (hF 41) (j := 4) (by kernel_rfl) (by kernel_rfl)
     have hc := (Blk.keep HC6.out hC).cell
     have k0 := hc 0
     clear hc
     refine Giv.wp (φ := mbPhi g o gc gp x ao cap MS false w6 5) ?_ hk
     unfold Giv
     go_simp
     exact giv_val (by unfold mbRel; rw [if_neg (by decide)]; exact Below.refl _ _) rfl
   · have f1 : A.tmps[1]?.getD undef = .pointer (some ⟨g, o, none⟩) := fg_none (hF 1) (by kernel_rfl)
     refine Giv.wp (φ := mbPhi g o gc gp x ao cap MS false w6 6) ?_ hk
     unfold Giv
     go_simp
     exact giv_val (by unfold mbRel; rw [if_neg (by decide)]; exact Below.refl _ _) rfl
   · have f43 : A.tmps[43]?.getD undef = .pointer (some ⟨g, o, none⟩) := fg_some (hF 43) (j := 6) (by kernel_rfl) (by kernel_rfl)
     refine Giv.wp (φ := mbPhi g o gc gp x ao cap MS false w6 7) ?_ hk
     unfold Giv
     go_simp
     exact giv_val (by unfold mbRel; rw [if_neg (by decide)]; exact Below.refl _ _) rfl
   · have f44 : A.tmps[44]?.getD undef = .pointer (some ⟨g, o, none⟩) := fg_some (hF 44) (j := 7) (by kernel_rfl) (by kernel_rfl)
     refine Giv.wp (φ := mbPhi g o gc gp x ao cap MS false w6 8) ?_ hk
     unfold Giv
     go_simp
     exact giv_val (by unfold mbRel; rw [if_neg (by decide)]; exact Below.refl _ _) rfl
   · have f45 : A.tmps[45]?.getD undef = .pointer (some ⟨g, o + 1, none⟩) := fg_some (hF 45) (j := 8) (by kernel_rfl) (by kernel_rfl)
     obtain ⟨y0, y1, y2, y3, y4, y5, y6, y7, y8, y9⟩ := (HX6.out.keep (Below.block hC g HG6.out)).cells
     refine Giv.wp (φ := mbPhi g o gc gp x ao cap MS false w6 9) ?_ hk
     unfold Giv
     go_simp
     exact giv_val (by unfold mbRel; rw [if_neg (by decide)]; exact Below.refl _ _) rfl
   · have f46 : A.tmps[46]?.getD undef = .int .i64 x.a := fg_some (hF 46) (j := 9) (by kernel_rfl) (by kernel_rfl)
     refine Giv.wp (φ := mbPhi g o gc gp x ao cap MS false w6 10) ?_ hk
     unfold Giv
     go_simp
     exact giv_enter ((HSO.out v).mono fun e w2 ⟨he, hb⟩ => ⟨_, he, (by unfold mbRel; rw [if_neg (by decide)]; exact hb), rfl⟩)
   · have f40 : A.tmps[40]?.getD undef = .slice ao x.ns.length cap := fg_some (hF 40) (j := 3) (by kernel_rfl) (by kernel_rfl)
     have f42 : A.tmps[42]?.getD undef = .pointer (some ⟨gp, 0, none⟩) := fg_some (hF 42) (j := 5) (by kernel_rfl) (by kernel_rfl)
     have f47 : A.tmps[47]?.getD undef = .int .i64 (sortA x.a) := fg_some (hF 47) (j := 10) (by kernel_rfl) (by kernel_rfl)
     refine Giv.wp (φ := mbPhi g o gc gp x ao cap MS false w6 11) ?_ hk
     unfold Giv
     go_simp
     exact giv_enter ((HME.out v _ (by unfold Kp; rw [hgc]; exact kpb HB6.out HLE6.out hC) (HN6.out _ hC)).mono fun e w2 ⟨he, hb⟩ => ⟨_, he, (by unfold mbRel; rw [if_neg (by decide)]; exact hb), rfl⟩)
   · have f48 : A.tmps[48]?.getD undef = .tuple #[.agg #[.int .u64 MS.a, .int .u64 MS.b, .int .u64 MS.c, .int .u64 MS.d], .bool false] := fg_some (hF 48) (j := 11) (by kernel_rfl) (by kernel_rfl)
     refine Giv.wp (φ := mbPhi g o gc gp x ao cap MS false w6 12) ?_ hk
     unfold Giv
     go_simp
     exact giv_val (by unfold mbRel; rw [if_neg (by decide)]; exact Below.refl _ _) rfl
   · have f36 : A.tmps[36]?.getD undef = .tuple #[.agg #[.int .u64 MS.a, .int .u64 MS.b, .int .u64 MS.c, .int .u64 MS.d], .bool false] := fg_some (hF 36) (j := 12) (by kernel_rfl) (by kernel_rfl)
     refine Giv.wp (φ := mbPhi g o gc gp x ao cap MS false w6 13) ?_ hk
     unfold Giv
     go_simp
     exact giv_val (by unfold mbRel; rw [if_neg (by decide)]; exact Below.refl _ _) rfl
   · have f36 : A.tmps[36]?.getD undef = .tuple #[.agg #[.int .u64 MS.a, .int .u64 MS.b, .int .u64 MS.c, .int .u64 MS.d], .bool false] := fg_some (hF 36) (j := 12) (by kernel_rfl) (by kernel_rfl)
     refine Giv.wp (φ := mbPhi g o gc gp x ao cap MS false w6 14) ?_ hk
     unfold Giv
     go_simp
     exact giv_val (by unfold mbRel; rw [if_neg (by decide)]; exact Below.refl _ _) rfl
   · refine Giv.wp (φ := mbPhi g o gc gp x ao cap MS false w6 15) ?_ hk
     unfold Giv
     go_simp
     exact giv_val (by unfold mbRel; rw [if_neg (by decide)]; exact (Below.refl _ _).alloc (Nat.le_refl _) _) ⟨_, _, rfl, Below.size hC, rfl, Blk.new _ _ _⟩
   · obtain ⟨g8, cs, f8, hg8, hcs, hb8⟩ : ∃ (g : Nat) (cs : Array Value), A.tmps[8]?.getD undef = .pointer (some ⟨g, 0, none⟩) ∧ w6.heap.size ≤ g ∧ cs.size = 4 ∧ Blk v g 53 cs := fg_some (hF 8) (j := 15) (by kernel_rfl) (by kernel_rfl)
     obtain ⟨c0, c1, c2, c3, rfl⟩ := arr4 hcs
     have f49 : A.tmps[49]?.getD undef = .agg #[.int .u64 MS.a, .int .u64 MS.b, .int .u64 MS.c, .int .u64 MS.d] := fg_some (hF 49) (j := 13) (by kernel_rfl) (by kernel_rfl)
     have e8 : A.eval (.tmp 8) = .pointer (some ⟨g8, 0, none⟩) := by rw [← f8]; simp [Act.eval]
     have hz := hb8.cell
     have z0 := hz 0
     have z1 := hz 1
     have z2 := hz 2
     have z3 := hz 3
     have zf := hb8.frozen
     clear hz
     refine Giv.wp (φ := fun _ w2 => mbPhi g o gc gp x ao cap MS false w6 16 (A.eval (.tmp 8)) w2) ?_ hk
     rw [e8]
     unfold Giv
     go_simp
     first | exact giv_skip (by unfold mbRel; rw [if_pos rfl]; exact ⟨below_set4 (Below.refl _ _) hg8 _ _ _ _, shp_set4 _ _ _ _ _ _⟩) ⟨g8, rfl, hg8, (((hb8.set 0 _).set 1 _).set 2 _).set 3 _⟩ | exact giv_val (by unfold mbRel; rw [if_pos rfl]; exact ⟨below_set4 (Below.refl _ _) hg8 _ _ _ _, shp_set4 _ _ _ _ _ _⟩) ⟨g8, rfl, hg8, (((hb8.set 0 _).set 1 _).set 2 _).set 3 _⟩
   · have f50 : A.tmps[50]?.getD undef = .bool false := fg_some (hF 50) (j := 14) (by kernel_rfl) (by kernel_rfl)
     refine Giv.wp (φ := mbPhi g o gc gp x ao cap MS false w6 17) ?_ hk
     unfold Giv
     go_simp
     exact giv_val (by unfold mbRel; rw [if_neg (by decide)]; exact Below.refl _ _) rfl
 intro a0 W9 d hd hC hsz hdf hF hL
 have ha := end_gen [false, false, false, false, false, false, false, false, true, true, false, false, false, false, false, false, false, false, false, false, false, false, false, false, false, false, false, false, false, false, false, false, false, false, false, false, true, true, true, true, true, true, true, true, true, true, true, true, true, true, true, false, false, false, false, false, false, false, false, false, false, false, false, false, false, false, false, false, false, false, false, false, false, false] hsz hdf hF (by kernel_rfl)
 have f9 : a0.tmps[9]?.getD undef = .bool false := fe_some (hF 9) (j := 17) (by kernel_rfl)
 obtain ⟨g8, f8, hg8, hb8⟩ : ∃ g, a0.tmps[8]?.getD undef = .pointer (some ⟨g, 0, none⟩) ∧ w6.heap.size ≤ g ∧ Blk W9 g 53 #[.int .u64 MS.a, .int .u64 MS.b, .int .u64 MS.c, .int .u64 MS.d] := fl_link hL (j := 16) rfl rfl rfl
 rw [ha]
 clear ha hF hL hd
 simp only [cutM_yes, cutM_no, cutM_nil, Nat.reduceAdd]
 rw [f9, f8]
 clear f9 f8
 generalize a0.tmps[37]?.getD undef = s37
 generalize a0.tmps[38]?.getD undef = s38
 generalize a0.tmps[39]?.getD undef = s39
 generalize a0.tmps[40]?.getD undef = s40
 generalize a0.tmps[41]?.getD undef = s41
 generalize a0.tmps[42]?.getD undef = s42
 generalize a0.tmps[43]?.getD undef = s43
 generalize a0.tmps[44]?.getD undef = s44
 generalize a0.tmps[45]?.getD undef = s45
 generalize a0.tmps[46]?.getD undef = s46
 generalize a0.tmps[47]?.getD undef = s47
 generalize a0.tmps[48]?.getD undef = s48
 generalize a0.tmps[36]?.getD undef = s36
 generalize a0.tmps[49]?.getD undef = s49
 generalize a0.tmps[50]?.getD undef = s50
 clear hsz hdf
 have HD8 := Lib.hid hb8
 have HK8 : Hid (Kp w6 W9) := Lib.hid hC
 clear hC hb8 hg8
 have HR9 := Lib.hid (HR6.out.keep HK8.out)
 have HX9 := Lib.hid (HX6.out.keep (HK8.out.block g HG6.out))
 have HB9 := Lib.hid (kpb HB6.out HLE6.out HK8.out)
 clear HR6 HX6 HC6 HB6 HK8
 have hr := HR9.out.cell
 have r0 := hr 0
 have r1 := hr 1
 have r2 := hr 2
 have r3 := hr 3
 have r4 := hr 4
 have r5 := hr 5
 have r6 := hr 6
 have r7 := hr 7
 have r8 := hr 8
 have r9 := hr 9
 have rf := HR9.out.frozen
 clear hr
 go_wp2_with fail
 exact bodyPost_ret (v := .tuple #[.agg #[.int .i64 0, .int .i64 0, .int .i64 0, .int .i64 0, .slice none 0 0, .int .u64 0, .int .u64 0, .int .u64 0, .int .u64 0, .slice none 0 0], .int .i64 11]) (exprcode_ret (S := S4.zero) (op := 0) (a := 0) (r := 0) (b := 0) (vn := .slice none 0 0) (vk := .slice none 0 0) (c := 11) Tryz.results92 rfl rfl (HR9.out.store10x _ _ _ _ _ _ _ _ _ _)) rfl ⟨rfl, by first | exact (below_set10 HB9.out HSR.out _ _ _ _ _ _ _ _ _ _) | (rw [hgc]; exact (below_set10 HB9.out HSR.out _ _ _ _ _ _ _ _ _ _))⟩
set_option maxRecDepth 100000 in
set_option maxHeartbeats 32000000 in
theorem member_yes (x : X) (g o gp : Nat) (A : Int) (MS : S4) (hms : same4 MS.a MS.b MS.c MS.d 0 0 0 0 = false) (w : World) (hX : XAt w g o x) (hg : g < w.heap.size) (hnn : 0 < x.ns.length) (hst : x.st = S4.zero) (hop : operE A x.op x.a x.r x.b 0 x.st x.ks.length = 0)
 (hME : ∀ W vN, Kp w W → Strs W vN x.ns → Calls Tryz.prog 120 #[vN, .pointer (some ⟨gp, 0, none⟩), .int .i64 (sortA x.a)] W fun e w' => e = .returned (.tuple #[.agg #[.int .u64 MS.a, .int .u64 MS.b, .int .u64 MS.c, .int .u64 MS.d], .bool true]) ∧ Below W.heap.size W w') :
 Calls Tryz.prog 92 #[.agg #[.pointer (some ⟨gp, 0, none⟩), .int .i64 A], .pointer (some ⟨g, o, none⟩)] w fun e w' => e = .returned (.tuple #[.agg #[.int .i64 9, .int .i64 x.a, .int .i64 0, .int .i64 0, .slice none 0 0, .int .u64 MS.a, .int .u64 MS.b, .int .u64 MS.c, .int .u64 MS.d, .slice none 0 0], .int .i64 0]) ∧ Below w.heap.size w w' := by
 obtain ⟨ao, cap, ak, ck, hxc, -, hns⟩ := hX.xc
 rw [hst] at hxc hop
 have HB : Hid (Below w.heap.size w ((w.alloc (.cells #[.pointer (some ⟨gp, 0, none⟩), .int .i64 A] 105)).alloc (.cells #[.int .i64 0, .int .i64 0, .int .i64 0, .int .i64 0, .slice none 0 0, .int .u64 0, .int .u64 0, .int .u64 0, .int .u64 0, .slice none 0 0] 55))) := Lib.hid (((Below.refl _ _).alloc (Nat.le_refl _) _).alloc (by simp) _)
 have HC : Hid (Blk ((w.alloc (.cells #[.pointer (some ⟨gp, 0, none⟩), .int .i64 A] 105)).alloc (.cells #[.int .i64 0, .int .i64 0, .int .i64 0, .int .i64 0, .slice none 0 0, .int .u64 0, .int .u64 0, .int .u64 0, .int .u64 0, .slice none 0 0] 55)) w.heap.size 105 #[.pointer (some ⟨gp, 0, none⟩), .int .i64 A]) := Lib.hid ((Blk.new w _ _).alloc _)
 have HR : Hid (Blk ((w.alloc (.cells #[.pointer (some ⟨gp, 0, none⟩), .int .i64 A] 105)).alloc (.cells #[.int .i64 0, .int .i64 0, .int .i64 0, .int .i64 0, .slice none 0 0, .int .u64 0, .int .u64 0, .int .u64 0, .int .u64 0, .slice none 0 0] 55)) (w.heap.size + 1) 55 #[.int .i64 0, .int .i64 0, .int .i64 0, .int .i64 0, .slice none 0 0, .int .u64 0, .int .u64 0, .int .u64 0, .int .u64 0, .slice none 0 0]) := Lib.hid (two_new' _ _ _ _)
 have HX := Lib.hid (hxc.keep (HB.out.block g hg))
 have HG : Hid (g < w.heap.size) := Lib.hid hg
 have HNS := Lib.hid hns
 have HME := Lib.hid hME
 have HOP := Lib.hid hop
 have hl0 : ((x.ns.length : Int) == 0) = false := by
  have h5 : ¬ ((x.ns.length : Int) = 0) := by omega
  exact beq_eq_false_iff_ne.2 h5
 have HSO := Lib.hid (sortOf_c x.a)
 clear hX hxc hns hME hop hnn hg
 go_enter Tryz.func92, Tryz.ntmps92
 go_upto_region 1 with fail
 generalize (w.alloc (.cells #[.pointer (some ⟨gp, 0, none⟩), .int .i64 A] 105)).alloc (.cells #[.int .i64 0, .int .i64 0, .int .i64 0, .int .i64 0, .slice none 0 0, .int .u64 0, .int .u64 0, .int .u64 0, .int .u64 0, .slice none 0 0] 55) = W at *
 have HLE : Hid (w.heap.size ≤ W.heap.size) := Lib.hid HB.out.size
 have HGR : Hid (w.heap.size + 1 < W.heap.size) := Lib.hid HR.out.lt
 have HSR : Hid (w.heap.size ≤ w.heap.size + 1) := Lib.hid (Nat.le_succ _)
 generalize w.heap.size + 1 = gr at *
 generalize hgc : w.heap.size = gc at *
 obtain ⟨y0, y1, y2, y3, y4, y5, y6, y7, y8, y9⟩ := HX.out.cells
 have hc := HC.out.cell
 have k0 := hc 0
 have k1 := hc 1
 clear hc
 go_upto_region 5 with fail
 have HU : Hid (XC (W.alloc (.cells #[.int .i64 x.op, .int .i64 x.a, .int .i64 x.r, .int .i64 x.b, .slice none 0 0, .int .u64 S4.zero.a, .int .u64 S4.zero.b, .int .u64 S4.zero.c, .int .u64 S4.zero.d, .slice ak x.ks.length ck] 55)) W.heap.size 0 x.op x.a x.r x.b none 0 0 S4.zero ak x.ks.length ck) := Lib.hid (XC.of_blk (Blk.new W _ _))
 have HB5 : Hid (Below gc w (W.alloc (.cells #[.int .i64 x.op, .int .i64 x.a, .int .i64 x.r, .int .i64 x.b, .slice none 0 0, .int .u64 S4.zero.a, .int .u64 S4.zero.b, .int .u64 S4.zero.c, .int .u64 S4.zero.d, .slice ak x.ks.length ck] 55))) := Lib.hid (HB.out.alloc HLE.out _)
 have HC5 := Lib.hid (HC.out.alloc (.cells #[.int .i64 x.op, .int .i64 x.a, .int .i64 x.r, .int .i64 x.b, .slice none 0 0, .int .u64 S4.zero.a, .int .u64 S4.zero.b, .int .u64 S4.zero.c, .int .u64 S4.zero.d, .slice ak x.ks.length ck] 55))
 have HR5 := Lib.hid (HR.out.alloc (.cells #[.int .i64 x.op, .int .i64 x.a, .int .i64 x.r, .int .i64 x.b, .slice none 0 0, .int .u64 S4.zero.a, .int .u64 S4.zero.b, .int .u64 S4.zero.c, .int .u64 S4.zero.d, .slice ak x.ks.length ck] 55))
 have HK5 : Hid (Kp W (W.alloc (.cells #[.int .i64 x.op, .int .i64 x.a, .int .i64 x.r, .int .i64 x.b, .slice none 0 0, .int .u64 S4.zero.a, .int .u64 S4.zero.b, .int .u64 S4.zero.c, .int .u64 S4.zero.d, .slice ak x.ks.length ck] 55))) := Lib.hid ((Below.refl _ _).alloc (Nat.le_refl _) _)
 have HG5 : Hid (W.heap.size < (W.alloc (.cells #[.int .i64 x.op, .int .i64 x.a, .int .i64 x.r, .int .i64 x.b, .slice none 0 0, .int .u64 S4.zero.a, .int .u64 S4.zero.b, .int .u64 S4.zero.c, .int .u64 S4.zero.d, .slice ak x.ks.length ck] 55)).heap.size) := Lib.hid (by simp)
 generalize W.alloc (.cells #[.int .i64 x.op, .int .i64 x.a, .int .i64 x.r, .int .i64 x.b, .slice none 0 0, .int .u64 S4.zero.a, .int .u64 S4.zero.b, .int .u64 S4.zero.c, .int .u64 S4.zero.d, .slice ak x.ks.length ck] 55) = W5 at *
 have HOC := Lib.hid (operator_c W.heap.size 0 x.op x.a x.r x.b none 0 0 S4.zero ak x.ks.length ck A W5 HU.out HG5.out)
 rw [HOP.out] at HOC
 have HX5 := Lib.hid (HX.out.keep (HK5.out.block g (Nat.lt_of_lt_of_le HG.out HLE.out)))
 have HLE5 : Hid (gc ≤ W5.heap.size) := Lib.hid (Nat.le_trans HLE.out HK5.out.size)
 clear HU HG5 y0 y1 y2 y3 y4 y5 y6 y7 y8 y9 k0 k1
 have hc := HC5.out.cell
 have k0 := hc 0
 have k1 := hc 1
 clear hc
 go_upto_region 8 with (go_at_call 70; (with_reducible refine HOC.out.mono ?_); rintro e w6 ⟨rfl, hb6⟩; have HB6 := Lib.hid (HB5.out.trans (hb6.mono HLE5.out)); have HC6 := Lib.hid (HC5.out.keep hb6); have HR6 := Lib.hid (HR5.out.keep hb6); have HX6 := Lib.hid (HX5.out.keep (hb6.block g (Nat.lt_of_lt_of_le HG.out HLE5.out))); have HLE6 := Lib.hid (Nat.le_trans HLE5.out hb6.size); clear hb6)
 clear k0 k1 HOC HX5 HC5 HR5 HB5 HK5 HB HC HR HX HLE5
 generalize W.heap.size = g6 at *
 have HG6 : Hid (g < w6.heap.size) := Lib.hid (Nat.lt_of_lt_of_le HG.out HLE6.out)
 have HN6 : Hid (∀ W, Kp w6 W → Strs W (.slice ao x.ns.length cap) x.ns) := Lib.hid (fun W h => HNS.out.keep (by rw [hgc]; exact kpb HB6.out HLE6.out h))
 refine wp_region_lnk (fun _ u => Kp w6 u) (mbRel w6) (mbPhi g o gc gp x ao cap MS true w6) (fun k => if k == 16 then some 8 else none) (by kernel_rfl) (by kernel_rfl) (by kernel_rfl) (Below.refl _ _).drew (fun _ _ _ _ _ h hr => mbRel_class h hr) [] (by kernel_rfl) (fun i j v u u2 hij _ h hr => mbPhi_keep hij h hr) ?_ ?_
 · refine ⟨⟨trivial, fun A v d hd hC hF hW K Q hk => ?_⟩, ⟨trivial, fun A v d hd hC hF hW K Q hk => ?_⟩, ⟨trivial, fun A v d hd hC hF hW K Q hk => ?_⟩, ⟨trivial, fun A v d hd hC hF hW K Q hk => ?_⟩, ⟨trivial, fun A v d hd hC hF hW K Q hk => ?_⟩, ⟨trivial, fun A v d hd hC hF hW K Q hk => ?_⟩, ⟨trivial, fun A v d hd hC hF hW K Q hk => ?_⟩, ⟨trivial, fun A v d hd hC hF hW K Q hk => ?_⟩, ⟨trivial, fun A v d hd hC hF hW K Q hk => ?_⟩, ⟨trivial, fun A v d hd hC hF hW K Q hk => ?_⟩, ⟨trivial, fun A v d hd hC hF hW K Q hk => ?_⟩, ⟨trivial, fun A v d hd hC hF hW K Q hk => ?_⟩, ⟨trivial, fun A v d hd hC hF hW K Q hk => ?_⟩, ⟨trivial, fun A v d hd hC hF hW K Q hk => ?_⟩, ⟨trivial, fun A v d hd hC hF hW K Q hk => ?_⟩, ⟨trivial, fun A v d hd hC hF hW K Q hk => ?_⟩, ⟨trivial, fun A v d hd hC hF hW K Q hk => ?_⟩, ⟨trivial, fun A v d hd hC hF hW K Q hk => ?_⟩, trivial⟩
   · have f1 : A.tmps[1]?.getD undef = .pointer (some ⟨g, o, none⟩) := fg_none (hF 1) (by kernel_rfl)
     refine Giv.wp (φ := mbPhi g o gc gp x ao cap MS true w6 0) ?_ hk
     unfold Giv
     go_simp
     exact giv_val (by unfold mbRel; rw [if_neg (by decide)]; exact Below.refl _ _) rfl
   · have f37 : A.tmps[37]?.getD undef = .pointer (some ⟨g, o, none⟩) := fg_some (hF 37) (j := 0) (by kernel_rfl) (by kernel_rfl)
     refine Giv.wp (φ := mbPhi g o gc gp x ao cap MS true w6 1) ?_ hk
     unfold Giv
     go_simp
     exact giv_val (by unfold mbRel; rw [if_neg (by decide)]; exact Below.refl _ _) rfl
   · have f38 : A.tmps[38]?.getD undef = .pointer (some ⟨g, o, none⟩) := fg_some (hF 38) (j := 1) (by kernel_rfl) (by kernel_rfl)
     refine Giv.wp (φ := mbPhi g o gc gp x ao cap MS true w6 2) ?_ hk
     unfold Giv
     go_simp
     exact giv_val (by unfold mbRel; rw [if_neg (by decide)]; exact Below.refl _ _) rfl
   · have f39 : A.tmps[39]?.getD undef = .pointer (some ⟨g, o + 4, none⟩) := fg_some (hF 39) (j := 2) (by kernel_rfl) (by kernel_rfl)
     obtain ⟨y0, y1, y2, y3, y4, y5, y6, y7, y8, y9⟩ := (HX6.out.keep (Below.block hC g HG6.out)).cells
     refine Giv.wp (φ := mbPhi g o gc gp x ao cap MS true w6 3) ?_ hk
     unfold Giv
     go_simp
     exact giv_val (by unfold mbRel; rw [if_neg (by decide)]; exact Below.refl _ _) rfl
   · have f2 : A.tmps[2]?.getD undef = .pointer (some ⟨gc, 0, none⟩) := fg_none (hF 2) (by kernel_rfl)
     refine Giv.wp (φ := mbPhi g o gc gp x ao cap MS true w6 4) ?_ hk
     unfold Giv
     go_simp
     exact giv_val (by unfold mbRel; rw [if_neg (by decide)]; exact Below.refl _ _) rfl
   · have f41 : A.tmps[41]?.getD undef = .pointer (some ⟨gc, 0, none⟩) := fg_some (hF 41) (j := 4) (by kernel_rfl) (by kernel_rfl)
     have hc := (Blk.keep HC6.out hC).cell
     have k0 := hc 0
     clear hc
     refine Giv.wp (φ := mbPhi g o gc gp x ao cap MS true w6 5) ?_ hk
     unfold Giv
     go_simp
     exact giv_val (by unfold mbRel; rw [if_neg (by decide)]; exact Below.refl _ _) rfl
   · have f1 : A.tmps[1]?.getD undef = .pointer (some ⟨g, o, none⟩) := fg_none (hF 1) (by kernel_rfl)
     refine Giv.wp (φ := mbPhi g o gc gp x ao cap MS true w6 6) ?_ hk
     unfold Giv
     go_simp
     exact giv_val (by unfold mbRel; rw [if_neg (by decide)]; exact Below.refl _ _) rfl
   · have f43 : A.tmps[43]?.getD undef = .pointer (some ⟨g, o, none⟩) := fg_some (hF 43) (j := 6) (by kernel_rfl) (by kernel_rfl)
     refine Giv.wp (φ := mbPhi g o gc gp x ao cap MS true w6 7) ?_ hk
     unfold Giv
     go_simp
     exact giv_val (by unfold mbRel; rw [if_neg (by decide)]; exact Below.refl _ _) rfl
   · have f44 : A.tmps[44]?.getD undef = .pointer (some ⟨g, o, none⟩) := fg_some (hF 44) (j := 7) (by kernel_rfl) (by kernel_rfl)
     refine Giv.wp (φ := mbPhi g o gc gp x ao cap MS true w6 8) ?_ hk
     unfold Giv
     go_simp
     exact giv_val (by unfold mbRel; rw [if_neg (by decide)]; exact Below.refl _ _) rfl
   · have f45 : A.tmps[45]?.getD undef = .pointer (some ⟨g, o + 1, none⟩) := fg_some (hF 45) (j := 8) (by kernel_rfl) (by kernel_rfl)
     obtain ⟨y0, y1, y2, y3, y4, y5, y6, y7, y8, y9⟩ := (HX6.out.keep (Below.block hC g HG6.out)).cells
     refine Giv.wp (φ := mbPhi g o gc gp x ao cap MS true w6 9) ?_ hk
     unfold Giv
     go_simp
     exact giv_val (by unfold mbRel; rw [if_neg (by decide)]; exact Below.refl _ _) rfl
   · have f46 : A.tmps[46]?.getD undef = .int .i64 x.a := fg_some (hF 46) (j := 9) (by kernel_rfl) (by kernel_rfl)
     refine Giv.wp (φ := mbPhi g o gc gp x ao cap MS true w6 10) ?_ hk
     unfold Giv
     go_simp
     exact giv_enter ((HSO.out v).mono fun e w2 ⟨he, hb⟩ => ⟨_, he, (by unfold mbRel; rw [if_neg (by decide)]; exact hb), rfl⟩)
   · have f40 : A.tmps[40]?.getD undef = .slice ao x.ns.length cap := fg_some (hF 40) (j := 3) (by kernel_rfl) (by kernel_rfl)
     have f42 : A.tmps[42]?.getD undef = .pointer (some ⟨gp, 0, none⟩) := fg_some (hF 42) (j := 5) (by kernel_rfl) (by kernel_rfl)
     have f47 : A.tmps[47]?.getD undef = .int .i64 (sortA x.a) := fg_some (hF 47) (j := 10) (by kernel_rfl) (by kernel_rfl)
     refine Giv.wp (φ := mbPhi g o gc gp x ao cap MS true w6 11) ?_ hk
     unfold Giv
     go_simp
     exact giv_enter ((HME.out v _ (by unfold Kp; rw [hgc]; exact kpb HB6.out HLE6.out hC) (HN6.out _ hC)).mono fun e w2 ⟨he, hb⟩ => ⟨_, he, (by unfold mbRel; rw [if_neg (by decide)]; exact hb), rfl⟩)
   · have f48 : A.tmps[48]?.getD undef = .tuple #[.agg #[.int .u64 MS.a, .int .u64 MS.b, .int .u64 MS.c, .int .u64 MS.d], .bool true] := fg_some (hF 48) (j := 11) (by kernel_rfl) (by kernel_rfl)
     refine Giv.wp (φ := mbPhi g o gc gp x ao cap MS true w6 12) ?_ hk
     unfold Giv
     go_simp
     exact giv_val (by unfold mbRel; rw [if_neg (by decide)]; exact Below.refl _ _) rfl
   · have f36 : A.tmps[36]?.getD undef = .tuple #[.agg #[.int .u64 MS.a, .int .u64 MS.b, .int .u64 MS.c, .int .u64 MS.d], .bool true] := fg_some (hF 36) (j := 12) (by kernel_rfl) (by kernel_rfl)
     refine Giv.wp (φ := mbPhi g o gc gp x ao cap MS true w6 13) ?_ hk
     unfold Giv
     go_simp
     exact giv_val (by unfold mbRel; rw [if_neg (by decide)]; exact Below.refl _ _) rfl
   · have f36 : A.tmps[36]?.getD undef = .tuple #[.agg #[.int .u64 MS.a, .int .u64 MS.b, .int .u64 MS.c, .int .u64 MS.d], .bool true] := fg_some (hF 36) (j := 12) (by kernel_rfl) (by kernel_rfl)
     refine Giv.wp (φ := mbPhi g o gc gp x ao cap MS true w6 14) ?_ hk
     unfold Giv
     go_simp
     exact giv_val (by unfold mbRel; rw [if_neg (by decide)]; exact Below.refl _ _) rfl
   · refine Giv.wp (φ := mbPhi g o gc gp x ao cap MS true w6 15) ?_ hk
     unfold Giv
     go_simp
     exact giv_val (by unfold mbRel; rw [if_neg (by decide)]; exact (Below.refl _ _).alloc (Nat.le_refl _) _) ⟨_, _, rfl, Below.size hC, rfl, Blk.new _ _ _⟩
   · obtain ⟨g8, cs, f8, hg8, hcs, hb8⟩ : ∃ (g : Nat) (cs : Array Value), A.tmps[8]?.getD undef = .pointer (some ⟨g, 0, none⟩) ∧ w6.heap.size ≤ g ∧ cs.size = 4 ∧ Blk v g 53 cs := fg_some (hF 8) (j := 15) (by kernel_rfl) (by kernel_rfl)
     obtain ⟨c0, c1, c2, c3, rfl⟩ := arr4 hcs
     have f49 : A.tmps[49]?.getD undef = .agg #[.int .u64 MS.a, .int .u64 MS.b, .int .u64 MS.c, .int .u64 MS.d] := fg_some (hF 49) (j := 13) (by kernel_rfl) (by kernel_rfl)
     have e8 : A.eval (.tmp 8) = .pointer (some ⟨g8, 0, none⟩) := by rw [← f8]; simp [Act.eval]
     have hz := hb8.cell
     have z0 := hz 0
     have z1 := hz 1
     have z2 := hz 2
     have z3 := hz 3
     have zf := hb8.frozen
     clear hz
     refine Giv.wp (φ := fun _ w2 => mbPhi g o gc gp x ao cap MS true w6 16 (A.eval (.tmp 8)) w2) ?_ hk
     rw [e8]
     unfold Giv
     go_simp
     first | exact giv_skip (by unfold mbRel; rw [if_pos rfl]; exact ⟨below_set4 (Below.refl _ _) hg8 _ _ _ _, shp_set4 _ _ _ _ _ _⟩) ⟨g8, rfl, hg8, (((hb8.set 0 _).set 1 _).set 2 _).set 3 _⟩ | exact giv_val (by unfold mbRel; rw [if_pos rfl]; exact ⟨below_set4 (Below.refl _ _) hg8 _ _ _ _, shp_set4 _ _ _ _ _ _⟩) ⟨g8, rfl, hg8, (((hb8.set 0 _).set 1 _).set 2 _).set 3 _⟩
   · have f50 : A.tmps[50]?.getD undef = .bool true := fg_some (hF 50) (j := 14) (by kernel_rfl) (by kernel_rfl)
     refine Giv.wp (φ := mbPhi g o gc gp x ao cap MS true w6 17) ?_ hk
     unfold Giv
     go_simp
     exact giv_val (by unfold mbRel; rw [if_neg (by decide)]; exact Below.refl _ _) rfl
 intro a0 W9 d hd hC hsz hdf hF hL
 have ha := end_gen [false, false, false, false, false, false, false, false, true, true, false, false, false, false, false, false, false, false, false, false, false, false, false, false, false, false, false, false, false, false, false, false, false, false, false, false, true, true, true, true, true, true, true, true, true, true, true, true, true, true, true, false, false, false, false, false, false, false, false, false, false, false, false, false, false, false, false, false, false, false, false, false, false, false] hsz hdf hF (by kernel_rfl)
 have f9 : a0.tmps[9]?.getD undef = .bool true := fe_some (hF 9) (j := 17) (by kernel_rfl)
 obtain ⟨g8, f8, hg8, hb8⟩ : ∃ g, a0.tmps[8]?.getD undef = .pointer (some ⟨g, 0, none⟩) ∧ w6.heap.size ≤ g ∧ Blk W9 g 53 #[.int .u64 MS.a, .int .u64 MS.b, .int .u64 MS.c, .int .u64 MS.d] := fl_link hL (j := 16) rfl rfl rfl
 rw [ha]
 clear ha hF hL hd
 simp only [cutM_yes, cutM_no, cutM_nil, Nat.reduceAdd]
 rw [f9, f8]
 clear f9 f8
 generalize a0.tmps[37]?.getD undef = s37
 generalize a0.tmps[38]?.getD undef = s38
 generalize a0.tmps[39]?.getD undef = s39
 generalize a0.tmps[40]?.getD undef = s40
 generalize a0.tmps[41]?.getD undef = s41
 generalize a0.tmps[42]?.getD undef = s42
 generalize a0.tmps[43]?.getD undef = s43
 generalize a0.tmps[44]?.getD undef = s44
 generalize a0.tmps[45]?.getD undef = s45
 generalize a0.tmps[46]?.getD undef = s46
 generalize a0.tmps[47]?.getD undef = s47
 generalize a0.tmps[48]?.getD undef = s48
 generalize a0.tmps[36]?.getD undef = s36
 generalize a0.tmps[49]?.getD undef = s49
 generalize a0.tmps[50]?.getD undef = s50
 clear hsz hdf
 have HD8 := Lib.hid hb8
 have HK8 : Hid (Kp w6 W9) := Lib.hid hC
 clear hC hb8 hg8
 have HR9 := Lib.hid (HR6.out.keep HK8.out)
 have HX9 := Lib.hid (HX6.out.keep (HK8.out.block g HG6.out))
 have HB9 := Lib.hid (kpb HB6.out HLE6.out HK8.out)
 clear HR6 HX6 HC6 HB6 HK8
 have hr := HR9.out.cell
 have r0 := hr 0
 have r1 := hr 1
 have r2 := hr 2
 have r3 := hr 3
 have r4 := hr 4
 have r5 := hr 5
 have r6 := hr 6
 have r7 := hr 7
 have r8 := hr 8
 have r9 := hr 9
 have rf := HR9.out.frozen
 clear hr
 have hd := HD8.out.cell
 have d0 := hd 0
 have d1 := hd 1
 have d2 := hd 2
 have d3 := hd 3
 clear hd
 go_upto_region 13 with fail
 clear d0 d1 d2 d3 r0 r1 r2 r3 r4 r5 r6 r7 r8 r9 rf
 have HL9 : Hid (gc ≤ W9.heap.size) := Lib.hid (Nat.le_trans HSR.out (Nat.le_of_lt HR9.out.lt))
 have HG9 : Hid (g < W9.heap.size) := Lib.hid (Nat.lt_of_lt_of_le HG.out HL9.out)
 refine wp_region_kt 6 (by kernel_rfl) (by kernel_rfl) ?_
 simp only [List.take_succ_cons, List.take_zero, List.drop_succ_cons, List.drop_zero]
 repeat (first
  | go_big_quiet_skip
  | (go_big_quiet_want
     go_big_quiet_op
     first
      | go_big_quiet_on
      | (apply Exists.intro
         refine ⟨fun w1 hC => ?_, ?_⟩
         · first
            | (go_simp; exact ⟨rfl, rfl⟩)
            | (obtain ⟨y0, y1, y2, y3, y4, y5, y6, y7, y8, y9⟩ := (HX9.out.keep (Below.block hC g HG9.out)).cells; have hd := (Blk.keep HD8.out hC).cell; have d0 := hd 0; have d1 := hd 1; have d2 := hd 2; have d3 := hd 3; clear hd; go_simp; exact rfl)
         go_big_quiet_on)))
 refine wpQuiet_nil ?_
 intro W10 hC
 have HR10 := Lib.hid (Blk.keep HR9.out hC)
 have HB10 := Lib.hid (kpb HB9.out HL9.out hC)
 clear hC HR9 HB9
 have hr := HR10.out.cell
 have r0 := hr 0
 have r1 := hr 1
 have r2 := hr 2
 have r3 := hr 3
 have r4 := hr 4
 have r5 := hr 5
 have r6 := hr 6
 have r7 := hr 7
 have r8 := hr 8
 have r9 := hr 9
 have rf := HR10.out.frozen
 clear hr
 go_wp2_with fail
 exact bodyPost_ret (v := .tuple #[.agg #[.int .i64 9, .int .i64 x.a, .int .i64 0, .int .i64 0, .slice none 0 0, .int .u64 MS.a, .int .u64 MS.b, .int .u64 MS.c, .int .u64 MS.d, .slice none 0 0], .int .i64 0]) (exprcode_ret (S := MS) (op := 9) (a := x.a) (r := 0) (b := 0) (vn := .slice none 0 0) (vk := .slice none 0 0) (c := 0) Tryz.results92 rfl rfl (HR10.out.store10x _ _ _ _ _ _ _ _ _ _)) rfl ⟨rfl, by first | exact (below_set10 HB10.out HSR.out _ _ _ _ _ _ _ _ _ _) | (rw [hgc]; exact (below_set10 HB10.out HSR.out _ _ _ _ _ _ _ _ _ _))⟩
end Go.Proofs.YtbhoofihnmmmfabGreat
