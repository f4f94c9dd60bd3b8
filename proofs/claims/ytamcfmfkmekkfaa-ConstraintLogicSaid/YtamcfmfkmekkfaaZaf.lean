/- Cyh Cyi Cyj Cyk Cyl Sqt Cym Cyn Cyo -/
import Derived.Test.YtamcfmfkmekkfaaZae
/- constraint's membership: names that mean something, or nothing. -/
namespace Go.Proofs.Ytamcfmfkmekkfaa
open Go.RowKit Go
theorem exprcode_ret {fn : Func} {tmps : Array Value} {t s : Tmp} {w : World} {g : Nat} {op a r b : Int} {vn vk : Value} {S : S4} {c : Int} (h : fn.results = #[.cell t 28, .tmp s]) (ht : tmps.getD t undef = .pointer (some ⟨g, 0, none⟩)) (hs : tmps.getD s undef = .int .i64 c) (q : Blk w g 28 #[.int .i64 op, .int .i64 a, .int .i64 r, .int .i64 b, vn, .int .u64 S.a, .int .u64 S.b, .int .u64 S.c, .int .u64 S.d, vk]) :
    (results fn tmps).run Try.prog w = .ok (.tuple #[.agg #[.int .i64 op, .int .i64 a, .int .i64 r, .int .i64 b, vn, .int .u64 S.a, .int .u64 S.b, .int .u64 S.c, .int .u64 S.d, vk], .int .i64 c]) w := by
  have c0 := q.cell 0
  have c1 := q.cell 1
  have c2 := q.cell 2
  have c3 := q.cell 3
  have c4 := q.cell 4
  have c5 := q.cell 5
  have c6 := q.cell 6
  have c7 := q.cell 7
  have c8 := q.cell 8
  have c9 := q.cell 9
  have ht' : tmps[t]?.getD undef = .pointer (some ⟨g, 0, none⟩) := by simpa using ht
  have hs' : tmps[s]?.getD undef = .int .i64 c := by simpa using hs
  simp [results, h, ht', hs', go_sem, c0, c1, c2, c3, c4, c5, c6, c7, c8, c9]
theorem Blk.store10x {w : World} {g : Nat} {t : TypeId} {d0 d1 d2 d3 d4 d5 d6 d7 d8 d9 : Value} (h : Blk w g t #[d0, d1, d2, d3, d4, d5, d6, d7, d8, d9]) (v0 v1 v2 v3 v4 v5 v6 v7 v8 v9 : Value) : Blk ((((((((((w.setCell ⟨g, 0, none⟩ v0).setCell ⟨g, 1, none⟩ v1).setCell ⟨g, 2, none⟩ v2).setCell ⟨g, 3, none⟩ v3).setCell ⟨g, 4, none⟩ v4).setCell ⟨g, 5, none⟩ v5).setCell ⟨g, 6, none⟩ v6).setCell ⟨g, 7, none⟩ v7).setCell ⟨g, 8, none⟩ v8).setCell ⟨g, 9, none⟩ v9) g t #[v0, v1, v2, v3, v4, v5, v6, v7, v8, v9] := by
  have k := (Blk.set (Blk.set (Blk.set (Blk.set (Blk.set (Blk.set (Blk.set (Blk.set (Blk.set (Blk.set h 0 v0) 1 v1) 2 v2) 3 v3) 4 v4) 5 v5) 6 v6) 7 v7) 8 v8) 9 v9)
  simp only [List.setIfInBounds_toArray, List.set_cons_zero, List.set_cons_succ] at k
  exact k
theorem below_set10 {B : Nat} {a w : World} (h : Below B a w) {g : Nat} (hg : B ≤ g) (v0 v1 v2 v3 v4 v5 v6 v7 v8 v9 : Value) : Below B a ((((((((((w.setCell ⟨g, 0, none⟩ v0).setCell ⟨g, 1, none⟩ v1).setCell ⟨g, 2, none⟩ v2).setCell ⟨g, 3, none⟩ v3).setCell ⟨g, 4, none⟩ v4).setCell ⟨g, 5, none⟩ v5).setCell ⟨g, 6, none⟩ v6).setCell ⟨g, 7, none⟩ v7).setCell ⟨g, 8, none⟩ v8).setCell ⟨g, 9, none⟩ v9) := (below_set1 (below_set1 (below_set1 (below_set1 (below_set1 (below_set1 (below_set1 (below_set1 (below_set1 (below_set1 h hg 0 v0) hg 1 v1) hg 2 v2) hg 3 v3) hg 4 v4) hg 5 v5) hg 6 v6) hg 7 v7) hg 8 v8) hg 9 v9)
/-- every block keeps its type and its size -/
def Shp (u u' : World) : Prop := ∀ g t cs, Blk u g t cs → ∃ cs', cs'.size = cs.size ∧ Blk u' g t cs'
theorem Shp.trans {u v w : World} (h : Shp u v) (k : Shp v w) : Shp u w := fun g t cs hb => by
  obtain ⟨c1, e1, h1⟩ := h g t cs hb
  obtain ⟨c2, e2, h2⟩ := k g t c1 h1
  exact ⟨c2, e2.trans e1, h2⟩
theorem shp_set (u : World) (g i : Nat) (v : Value) : Shp u (u.setCell ⟨g, i, none⟩ v) := fun g' t cs hb => by
  by_cases e : g' = g
  · subst e; exact ⟨_, by simp, hb.set i v⟩
  · exact ⟨cs, rfl, hb.far (p := ⟨g, i, none⟩) e v⟩
theorem shp_set4 (u : World) (g : Nat) (v0 v1 v2 v3 : Value) : Shp u ((((u.setCell ⟨g, 0, none⟩ v0).setCell ⟨g, 1, none⟩ v1).setCell ⟨g, 2, none⟩ v2).setCell ⟨g, 3, none⟩ v3) :=
  (((shp_set u g 0 v0).trans (shp_set _ g 1 v1)).trans (shp_set _ g 2 v2)).trans (shp_set _ g 3 v3)
theorem arr4 {cs : Array Value} (h : cs.size = 4) : ∃ a b c d, cs = #[a, b, c, d] := by
  obtain ⟨l⟩ := cs
  match l, h with
  | [a, b, c, d], _ => exact ⟨a, b, c, d, rfl⟩
def mbPhi (g o gc gp : Nat) (x : X) (ao : Option Addr) (cap : Nat) (MS : S4) (bb : Bool) (W0 : World) (k : Nat) (v : Value) (u : World) : Prop := match k with
  | 0 => v = .pointer (some ⟨g, o, none⟩)
  | 1 => v = .pointer (some ⟨g, o, none⟩)
  | 2 => v = .pointer (some ⟨g, o + 4, none⟩)
  | 3 => v = .slice ao x.ns.length cap
  | 4 => v = .pointer (some ⟨gc, 0, none⟩)
  | 5 => v = .pointer (some ⟨gp, 0, none⟩)
  | 6 => v = .pointer (some ⟨g, o, none⟩)
  | 7 => v = .pointer (some ⟨g, o, none⟩)
  | 8 => v = .pointer (some ⟨g, o + 1, none⟩)
  | 9 => v = .int .i64 x.a
  | 10 => v = .int .i64 (sortA x.a)
  | 11 => v = .tuple #[.agg #[.int .u64 MS.a, .int .u64 MS.b, .int .u64 MS.c, .int .u64 MS.d], .bool bb]
  | 12 => v = .tuple #[.agg #[.int .u64 MS.a, .int .u64 MS.b, .int .u64 MS.c, .int .u64 MS.d], .bool bb]
  | 13 => v = .agg #[.int .u64 MS.a, .int .u64 MS.b, .int .u64 MS.c, .int .u64 MS.d]
  | 14 => v = .bool bb
  | 15 => ∃ (g : Nat) (cs : Array Value), v = .pointer (some ⟨g, 0, none⟩) ∧ W0.heap.size ≤ g ∧ cs.size = 4 ∧ Blk u g 25 cs
  | 16 => ∃ g, v = .pointer (some ⟨g, 0, none⟩) ∧ W0.heap.size ≤ g ∧ Blk u g 25 #[.int .u64 MS.a, .int .u64 MS.b, .int .u64 MS.c, .int .u64 MS.d]
  | 17 => v = .bool bb
  | _ => True
def mbRel (W0 : World) (k : Nat) (u u' : World) : Prop := if k = 16 then Below W0.heap.size u u' ∧ Shp u u' else Below u.heap.size u u'
theorem mbPhi_keep {g o gc gp : Nat} {x : X} {ao : Option Addr} {cap : Nat} {MS : S4} {bb : Bool} {W0 : World} {k j : Nat} {v : Value} {u u' : World} (hkj : k ≠ j) (h : mbPhi g o gc gp x ao cap MS bb W0 k v u) (hr : mbRel W0 j u u') : mbPhi g o gc gp x ao cap MS bb W0 k v u' := by
  unfold mbPhi at h ⊢
  unfold mbRel at hr
  split at h
  iterate 15 exact h
  · obtain ⟨g, cs, h1, h2, h4, h3⟩ := h
    split at hr
    · obtain ⟨cs', e, hb⟩ := hr.2 _ _ _ h3
      exact ⟨g, cs', h1, h2, e.trans h4, hb⟩
    · exact ⟨g, cs, h1, h2, h4, h3.keep hr⟩
  · rw [if_neg (fun e => hkj e.symm)] at hr
    obtain ⟨g, h1, h2, h3⟩ := h
    exact ⟨g, h1, h2, h3.keep hr⟩
  · exact h
  · trivial
theorem mbRel_class {W0 : World} {k : Nat} {u u' : World} (h : Kp W0 u) (hr : mbRel W0 k u u') : Kp W0 u' := by
  unfold mbRel at hr
  split at hr
  · exact Below.trans h hr.1
  · exact Below.trans h (hr.mono h.size)
theorem size_set (w : World) : (sizeOf 25).run Try.prog w = .ok 4 w := by go_simp
set_option maxRecDepth 100000 in
set_option maxHeartbeats 32000000 in
theorem member_no (x : X) (g o gp : Nat) (A : Int) (MS : S4) (w : World) (hX : XAt w g o x) (hg : g < w.heap.size) (hnn : 0 < x.ns.length) (hst : x.st = S4.zero) (hop : operE A x.op x.a x.r x.b 0 x.st x.ks.length = 0)
    (hME : ∀ W vN, Kp w W → Strs W vN x.ns → Calls Try.prog 69 #[vN, .pointer (some ⟨gp, 0, none⟩), .int .i64 (sortA x.a)] W fun e w' => e = .returned (.tuple #[.agg #[.int .u64 MS.a, .int .u64 MS.b, .int .u64 MS.c, .int .u64 MS.d], .bool false]) ∧ Below W.heap.size W w') :
    Calls Try.prog 63 #[.agg #[.pointer (some ⟨gp, 0, none⟩), .int .i64 A], .pointer (some ⟨g, o, none⟩)] w fun e w' => e = .returned (.tuple #[.agg #[.int .i64 0, .int .i64 0, .int .i64 0, .int .i64 0, .slice none 0 0, .int .u64 0, .int .u64 0, .int .u64 0, .int .u64 0, .slice none 0 0], .int .i64 11]) ∧ Below w.heap.size w w' := by
  obtain ⟨ao, cap, ak, ck, hxc, -, hns⟩ := hX.xc
  rw [hst] at hxc hop
  have HB : Hid (Below w.heap.size w ((w.alloc (.cells #[.pointer (some ⟨gp, 0, none⟩), .int .i64 A] 101)).alloc (.cells #[.int .i64 0, .int .i64 0, .int .i64 0, .int .i64 0, .slice none 0 0, .int .u64 0, .int .u64 0, .int .u64 0, .int .u64 0, .slice none 0 0] 28))) := Lib.hid (((Below.refl _ _).alloc (Nat.le_refl _) _).alloc (by simp) _)
  have HC : Hid (Blk ((w.alloc (.cells #[.pointer (some ⟨gp, 0, none⟩), .int .i64 A] 101)).alloc (.cells #[.int .i64 0, .int .i64 0, .int .i64 0, .int .i64 0, .slice none 0 0, .int .u64 0, .int .u64 0, .int .u64 0, .int .u64 0, .slice none 0 0] 28)) w.heap.size 101 #[.pointer (some ⟨gp, 0, none⟩), .int .i64 A]) := Lib.hid ((Blk.new w _ _).alloc _)
  have HR : Hid (Blk ((w.alloc (.cells #[.pointer (some ⟨gp, 0, none⟩), .int .i64 A] 101)).alloc (.cells #[.int .i64 0, .int .i64 0, .int .i64 0, .int .i64 0, .slice none 0 0, .int .u64 0, .int .u64 0, .int .u64 0, .int .u64 0, .slice none 0 0] 28)) (w.heap.size + 1) 28 #[.int .i64 0, .int .i64 0, .int .i64 0, .int .i64 0, .slice none 0 0, .int .u64 0, .int .u64 0, .int .u64 0, .int .u64 0, .slice none 0 0]) := Lib.hid (two_new' _ _ _ _)
  have HX := Lib.hid (hxc.keep (HB.out.block g hg))
  have HG : Hid (g < w.heap.size) := Lib.hid hg
  have HNS := Lib.hid hns
  have HME := Lib.hid hME
  have HOP := Lib.hid hop
  have hl0 : ((x.ns.length : Int) == 0) = false := by
    have h5 : ¬ ((x.ns.length : Int) = 0) := by omega
    exact beq_eq_false_iff_ne.2 h5
  have HSO := Lib.hid (sortOf_c x.a)
  clear hX hxc hns hME hop hnn hg
  go_enter Try.func63, Try.ntmps63
  go_upto_region 1 with fail
  generalize (w.alloc (.cells #[.pointer (some ⟨gp, 0, none⟩), .int .i64 A] 101)).alloc (.cells #[.int .i64 0, .int .i64 0, .int .i64 0, .int .i64 0, .slice none 0 0, .int .u64 0, .int .u64 0, .int .u64 0, .int .u64 0, .slice none 0 0] 28) = W at *
  have HLE : Hid (w.heap.size ≤ W.heap.size) := Lib.hid HB.out.size
  have HGR : Hid (w.heap.size + 1 < W.heap.size) := Lib.hid HR.out.lt
  have HSR : Hid (w.heap.size ≤ w.heap.size + 1) := Lib.hid (Nat.le_succ _)
  generalize w.heap.size + 1 = gr at *
  generalize hgc : w.heap.size = gc at *
  obtain ⟨y0, y1, y2, y3, y4, y5, y6, y7, y8, y9⟩ := HX.out.cells
  have hc := HC.out.cell
  have k0 := hc 0
  have k1 := hc 1
  clear hc
  go_upto_region 5 with fail
  have HU : Hid (XC (W.alloc (.cells #[.int .i64 x.op, .int .i64 x.a, .int .i64 x.r, .int .i64 x.b, .slice none 0 0, .int .u64 S4.zero.a, .int .u64 S4.zero.b, .int .u64 S4.zero.c, .int .u64 S4.zero.d, .slice ak x.ks.length ck] 28)) W.heap.size 0 x.op x.a x.r x.b none 0 0 S4.zero ak x.ks.length ck) := Lib.hid (XC.of_blk (Blk.new W _ _))
  have HB5 : Hid (Below gc w (W.alloc (.cells #[.int .i64 x.op, .int .i64 x.a, .int .i64 x.r, .int .i64 x.b, .slice none 0 0, .int .u64 S4.zero.a, .int .u64 S4.zero.b, .int .u64 S4.zero.c, .int .u64 S4.zero.d, .slice ak x.ks.length ck] 28))) := Lib.hid (HB.out.alloc HLE.out _)
  have HC5 := Lib.hid (HC.out.alloc (.cells #[.int .i64 x.op, .int .i64 x.a, .int .i64 x.r, .int .i64 x.b, .slice none 0 0, .int .u64 S4.zero.a, .int .u64 S4.zero.b, .int .u64 S4.zero.c, .int .u64 S4.zero.d, .slice ak x.ks.length ck] 28))
  have HR5 := Lib.hid (HR.out.alloc (.cells #[.int .i64 x.op, .int .i64 x.a, .int .i64 x.r, .int .i64 x.b, .slice none 0 0, .int .u64 S4.zero.a, .int .u64 S4.zero.b, .int .u64 S4.zero.c, .int .u64 S4.zero.d, .slice ak x.ks.length ck] 28))
  have HK5 : Hid (Kp W (W.alloc (.cells #[.int .i64 x.op, .int .i64 x.a, .int .i64 x.r, .int .i64 x.b, .slice none 0 0, .int .u64 S4.zero.a, .int .u64 S4.zero.b, .int .u64 S4.zero.c, .int .u64 S4.zero.d, .slice ak x.ks.length ck] 28))) := Lib.hid ((Below.refl _ _).alloc (Nat.le_refl _) _)
  have HG5 : Hid (W.heap.size < (W.alloc (.cells #[.int .i64 x.op, .int .i64 x.a, .int .i64 x.r, .int .i64 x.b, .slice none 0 0, .int .u64 S4.zero.a, .int .u64 S4.zero.b, .int .u64 S4.zero.c, .int .u64 S4.zero.d, .slice ak x.ks.length ck] 28)).heap.size) := Lib.hid (by simp)
  generalize W.alloc (.cells #[.int .i64 x.op, .int .i64 x.a, .int .i64 x.r, .int .i64 x.b, .slice none 0 0, .int .u64 S4.zero.a, .int .u64 S4.zero.b, .int .u64 S4.zero.c, .int .u64 S4.zero.d, .slice ak x.ks.length ck] 28) = W5 at *
  have HOC := Lib.hid (operator_c W.heap.size 0 x.op x.a x.r x.b none 0 0 S4.zero ak x.ks.length ck A W5 HU.out HG5.out)
  rw [HOP.out] at HOC
  have HX5 := Lib.hid (HX.out.keep (HK5.out.block g (Nat.lt_of_lt_of_le HG.out HLE.out)))
  have HLE5 : Hid (gc ≤ W5.heap.size) := Lib.hid (Nat.le_trans HLE.out HK5.out.size)
  clear HU HG5 y0 y1 y2 y3 y4 y5 y6 y7 y8 y9 k0 k1
  have hc := HC5.out.cell
  have k0 := hc 0
  have k1 := hc 1
  clear hc
  go_upto_region 8 with (go_at_call 33; (with_reducible refine HOC.out.mono ?_); rintro e w6 ⟨rfl, hb6⟩; have HB6 := Lib.hid (HB5.out.trans (hb6.mono HLE5.out)); have HC6 := Lib.hid (HC5.out.keep hb6); have HR6 := Lib.hid (HR5.out.keep hb6); have HX6 := Lib.hid (HX5.out.keep (hb6.block g (Nat.lt_of_lt_of_le HG.out HLE5.out))); have HLE6 := Lib.hid (Nat.le_trans HLE5.out hb6.size); clear hb6)
  clear k0 k1 HOC HX5 HC5 HR5 HB5 HK5 HB HC HR HX HLE5
  generalize W.heap.size = g6 at *
  have HG6 : Hid (g < w6.heap.size) := Lib.hid (Nat.lt_of_lt_of_le HG.out HLE6.out)
  have HN6 : Hid (∀ W, Kp w6 W → Strs W (.slice ao x.ns.length cap) x.ns) := Lib.hid (fun W h => HNS.out.keep (by rw [hgc]; exact kpb HB6.out HLE6.out h))
  refine wp_region_lnk (fun _ u => Kp w6 u) (mbRel w6) (mbPhi g o gc gp x ao cap MS false w6) (fun k => if k == 16 then some 8 else none) (by kernel_rfl) (by kernel_rfl) (by kernel_rfl) (Below.refl _ _).drew (fun _ _ _ _ _ h hr => mbRel_class h hr) [] (by kernel_rfl) (fun i j v u u2 hij _ h hr => mbPhi_keep hij h hr) ?_ ?_
  · refine ⟨⟨trivial, fun A v d hd hC hF hW K Q hk => ?_⟩, ⟨trivial, fun A v d hd hC hF hW K Q hk => ?_⟩, ⟨trivial, fun A v d hd hC hF hW K Q hk => ?_⟩, ⟨trivial, fun A v d hd hC hF hW K Q hk => ?_⟩, ⟨trivial, fun A v d hd hC hF hW K Q hk => ?_⟩, ⟨trivial, fun A v d hd hC hF hW K Q hk => ?_⟩, ⟨trivial, fun A v d hd hC hF hW K Q hk => ?_⟩, ⟨trivial, fun A v d hd hC hF hW K Q hk => ?_⟩, ⟨trivial, fun A v d hd hC hF hW K Q hk => ?_⟩, ⟨trivial, fun A v d hd hC hF hW K Q hk => ?_⟩, ⟨trivial, fun A v d hd hC hF hW K Q hk => ?_⟩, ⟨trivial, fun A v d hd hC hF hW K Q hk => ?_⟩, ⟨trivial, fun A v d hd hC hF hW K Q hk => ?_⟩, ⟨trivial, fun A v d hd hC hF hW K Q hk => ?_⟩, ⟨trivial, fun A v d hd hC hF hW K Q hk => ?_⟩, ⟨trivial, fun A v d hd hC hF hW K Q hk => ?_⟩, ⟨trivial, fun A v d hd hC hF hW K Q hk => ?_⟩, ⟨trivial, fun A v d hd hC hF hW K Q hk => ?_⟩, trivial⟩
    · have f1 : A.tmps[1]?.getD undef = .pointer (some ⟨g, o, none⟩) := fg_none (hF 1) (by kernel_rfl)
      refine Giv.wp (φ := mbPhi g o gc gp x ao cap MS false w6 0) ?_ hk
      unfold Giv
      go_simp
      exact giv_val (by unfold mbRel; rw [if_neg (by decide)]; exact Below.refl _ _) rfl
    · have f37 : A.tmps[37]?.getD undef = .pointer (some ⟨g, o, none⟩) := fg_some (hF 37) (j := 0) (by kernel_rfl) (by kernel_rfl)
      refine Giv.wp (φ := mbPhi g o gc gp x ao cap MS false w6 1) ?_ hk
      unfold Giv
      go_simp
      exact giv_val (by unfold mbRel; rw [if_neg (by decide)]; exact Below.refl _ _) rfl
    · have f38 : A.tmps[38]?.getD undef = .pointer (some ⟨g, o, none⟩) := fg_some (hF 38) (j := 1) (by kernel_rfl) (by kernel_rfl)
      refine Giv.wp (φ := mbPhi g o gc gp x ao cap MS false w6 2) ?_ hk
      unfold Giv
      go_simp
      exact giv_val (by unfold mbRel; rw [if_neg (by decide)]; exact Below.refl _ _) rfl
    · have f39 : A.tmps[39]?.getD undef = .pointer (some ⟨g, o + 4, none⟩) := fg_some (hF 39) (j := 2) (by kernel_rfl) (by kernel_rfl)
      obtain ⟨y0, y1, y2, y3, y4, y5, y6, y7, y8, y9⟩ := (HX6.out.keep (Below.block hC g HG6.out)).cells
      refine Giv.wp (φ := mbPhi g o gc gp x ao cap MS false w6 3) ?_ hk
      unfold Giv
      go_simp
      exact giv_val (by unfold mbRel; rw [if_neg (by decide)]; exact Below.refl _ _) rfl
    · have f2 : A.tmps[2]?.getD undef = .pointer (some ⟨gc, 0, none⟩) := fg_none (hF 2) (by kernel_rfl)
      refine Giv.wp (φ := mbPhi g o gc gp x ao cap MS false w6 4) ?_ hk
      unfold Giv
      go_simp
      exact giv_val (by unfold mbRel; rw [if_neg (by decide)]; exact Below.refl _ _) rfl
    · have f41 : A.tmps[41]?.getD undef = .pointer (some ⟨gc, 0, none⟩) := fg_some (hF 41) (j := 4) (by kernel_rfl) (by kernel_rfl)
      have hc := (Blk.keep HC6.out hC).cell
      have k0 := hc 0
      clear hc
      refine Giv.wp (φ := mbPhi g o gc gp x ao cap MS false w6 5) ?_ hk
      unfold Giv
      go_simp
      exact giv_val (by unfold mbRel; rw [if_neg (by decide)]; exact Below.refl _ _) rfl
    · have f1 : A.tmps[1]?.getD undef = .pointer (some ⟨g, o, none⟩) := fg_none (hF 1) (by kernel_rfl)
      refine Giv.wp (φ := mbPhi g o gc gp x ao cap MS false w6 6) ?_ hk
      unfold Giv
      go_simp
      exact giv_val (by unfold mbRel; rw [if_neg (by decide)]; exact Below.refl _ _) rfl
    · have f43 : A.tmps[43]?.getD undef = .pointer (some ⟨g, o, none⟩) := fg_some (hF 43) (j := 6) (by kernel_rfl) (by kernel_rfl)
      refine Giv.wp (φ := mbPhi g o gc gp x ao cap MS false w6 7) ?_ hk
      unfold Giv
      go_simp
      exact giv_val (by unfold mbRel; rw [if_neg (by decide)]; exact Below.refl _ _) rfl
    · have f44 : A.tmps[44]?.getD undef = .pointer (some ⟨g, o, none⟩) := fg_some (hF 44) (j := 7) (by kernel_rfl) (by kernel_rfl)
      refine Giv.wp (φ := mbPhi g o gc gp x ao cap MS false w6 8) ?_ hk
      unfold Giv
      go_simp
      exact giv_val (by unfold mbRel; rw [if_neg (by decide)]; exact Below.refl _ _) rfl
    · have f45 : A.tmps[45]?.getD undef = .pointer (some ⟨g, o + 1, none⟩) := fg_some (hF 45) (j := 8) (by kernel_rfl) (by kernel_rfl)
      obtain ⟨y0, y1, y2, y3, y4, y5, y6, y7, y8, y9⟩ := (HX6.out.keep (Below.block hC g HG6.out)).cells
      refine Giv.wp (φ := mbPhi g o gc gp x ao cap MS false w6 9) ?_ hk
      unfold Giv
      go_simp
      exact giv_val (by unfold mbRel; rw [if_neg (by decide)]; exact Below.refl _ _) rfl
    · have f46 : A.tmps[46]?.getD undef = .int .i64 x.a := fg_some (hF 46) (j := 9) (by kernel_rfl) (by kernel_rfl)
      refine Giv.wp (φ := mbPhi g o gc gp x ao cap MS false w6 10) ?_ hk
      unfold Giv
      go_simp
      exact giv_enter ((HSO.out v).mono fun e w2 ⟨he, hb⟩ => ⟨_, he, (by unfold mbRel; rw [if_neg (by decide)]; exact hb), rfl⟩)
    · have f40 : A.tmps[40]?.getD undef = .slice ao x.ns.length cap := fg_some (hF 40) (j := 3) (by kernel_rfl) (by kernel_rfl)
      have f42 : A.tmps[42]?.getD undef = .pointer (some ⟨gp, 0, none⟩) := fg_some (hF 42) (j := 5) (by kernel_rfl) (by kernel_rfl)
      have f47 : A.tmps[47]?.getD undef = .int .i64 (sortA x.a) := fg_some (hF 47) (j := 10) (by kernel_rfl) (by kernel_rfl)
      refine Giv.wp (φ := mbPhi g o gc gp x ao cap MS false w6 11) ?_ hk
      unfold Giv
      go_simp
      exact giv_enter ((HME.out v _ (by unfold Kp; rw [hgc]; exact kpb HB6.out HLE6.out hC) (HN6.out _ hC)).mono fun e w2 ⟨he, hb⟩ => ⟨_, he, (by unfold mbRel; rw [if_neg (by decide)]; exact hb), rfl⟩)
    · have f48 : A.tmps[48]?.getD undef = .tuple #[.agg #[.int .u64 MS.a, .int .u64 MS.b, .int .u64 MS.c, .int .u64 MS.d], .bool false] := fg_some (hF 48) (j := 11) (by kernel_rfl) (by kernel_rfl)
      refine Giv.wp (φ := mbPhi g o gc gp x ao cap MS false w6 12) ?_ hk
      unfold Giv
      go_simp
      exact giv_val (by unfold mbRel; rw [if_neg (by decide)]; exact Below.refl _ _) rfl
    · have f36 : A.tmps[36]?.getD undef = .tuple #[.agg #[.int .u64 MS.a, .int .u64 MS.b, .int .u64 MS.c, .int .u64 MS.d], .bool false] := fg_some (hF 36) (j := 12) (by kernel_rfl) (by kernel_rfl)
      refine Giv.wp (φ := mbPhi g o gc gp x ao cap MS false w6 13) ?_ hk
      unfold Giv
      go_simp
      exact giv_val (by unfold mbRel; rw [if_neg (by decide)]; exact Below.refl _ _) rfl
    · have f36 : A.tmps[36]?.getD undef = .tuple #[.agg #[.int .u64 MS.a, .int .u64 MS.b, .int .u64 MS.c, .int .u64 MS.d], .bool false] := fg_some (hF 36) (j := 12) (by kernel_rfl) (by kernel_rfl)
      refine Giv.wp (φ := mbPhi g o gc gp x ao cap MS false w6 14) ?_ hk
      unfold Giv
      go_simp
      exact giv_val (by unfold mbRel; rw [if_neg (by decide)]; exact Below.refl _ _) rfl
    · refine Giv.wp (φ := mbPhi g o gc gp x ao cap MS false w6 15) ?_ hk
      unfold Giv
      go_simp
      exact giv_val (by unfold mbRel; rw [if_neg (by decide)]; exact (Below.refl _ _).alloc (Nat.le_refl _) _) ⟨_, _, rfl, Below.size hC, rfl, Blk.new _ _ _⟩
    · obtain ⟨g8, cs, f8, hg8, hcs, hb8⟩ : ∃ (g : Nat) (cs : Array Value), A.tmps[8]?.getD undef = .pointer (some ⟨g, 0, none⟩) ∧ w6.heap.size ≤ g ∧ cs.size = 4 ∧ Blk v g 25 cs := fg_some (hF 8) (j := 15) (by kernel_rfl) (by kernel_rfl)
      obtain ⟨c0, c1, c2, c3, rfl⟩ := arr4 hcs
      have f49 : A.tmps[49]?.getD undef = .agg #[.int .u64 MS.a, .int .u64 MS.b, .int .u64 MS.c, .int .u64 MS.d] := fg_some (hF 49) (j := 13) (by kernel_rfl) (by kernel_rfl)
      have e8 : A.eval (.tmp 8) = .pointer (some ⟨g8, 0, none⟩) := by rw [← f8]; simp [Act.eval]
      have hz := hb8.cell
      have z0 := hz 0
      have z1 := hz 1
      have z2 := hz 2
      have z3 := hz 3
      have zf := hb8.frozen
      clear hz
      refine Giv.wp (φ := fun _ w2 => mbPhi g o gc gp x ao cap MS false w6 16 (A.eval (.tmp 8)) w2) ?_ hk
      rw [e8]
      unfold Giv
      go_simp
      first | exact giv_skip (by unfold mbRel; rw [if_pos rfl]; exact ⟨below_set4 (Below.refl _ _) hg8 _ _ _ _, shp_set4 _ _ _ _ _ _⟩) ⟨g8, rfl, hg8, (((hb8.set 0 _).set 1 _).set 2 _).set 3 _⟩ | exact giv_val (by unfold mbRel; rw [if_pos rfl]; exact ⟨below_set4 (Below.refl _ _) hg8 _ _ _ _, shp_set4 _ _ _ _ _ _⟩) ⟨g8, rfl, hg8, (((hb8.set 0 _).set 1 _).set 2 _).set 3 _⟩
    · have f50 : A.tmps[50]?.getD undef = .bool false := fg_some (hF 50) (j := 14) (by kernel_rfl) (by kernel_rfl)
      refine Giv.wp (φ := mbPhi g o gc gp x ao cap MS false w6 17) ?_ hk
      unfold Giv
      go_simp
      exact giv_val (by unfold mbRel; rw [if_neg (by decide)]; exact Below.refl _ _) rfl
  intro a0 W9 d hd hC hsz hdf hF hL
  have ha := end_gen [false, false, false, false, false, false, false, false, true, true, false, false, false, false, false, false, false, false, false, false, false, false, false, false, false, false, false, false, false, false, false, false, false, false, false, false, true, true, true, true, true, true, true, true, true, true, true, true, true, true, true, false, false, false, false, false, false, false, false, false, false, false, false, false, false, false, false, false, false, false, false, false, false, false] hsz hdf hF (by kernel_rfl)
  have f9 : a0.tmps[9]?.getD undef = .bool false := fe_some (hF 9) (j := 17) (by kernel_rfl)
  obtain ⟨g8, f8, hg8, hb8⟩ : ∃ g, a0.tmps[8]?.getD undef = .pointer (some ⟨g, 0, none⟩) ∧ w6.heap.size ≤ g ∧ Blk W9 g 25 #[.int .u64 MS.a, .int .u64 MS.b, .int .u64 MS.c, .int .u64 MS.d] := fl_link hL (j := 16) rfl rfl rfl
  rw [ha]
  clear ha hF hL hd
  simp only [cutM_yes, cutM_no, cutM_nil, Nat.reduceAdd]
  rw [f9, f8]
  clear f9 f8
  generalize a0.tmps[37]?.getD undef = s37
  generalize a0.tmps[38]?.getD undef = s38
  generalize a0.tmps[39]?.getD undef = s39
  generalize a0.tmps[40]?.getD undef = s40
  generalize a0.tmps[41]?.getD undef = s41
  generalize a0.tmps[42]?.getD undef = s42
  generalize a0.tmps[43]?.getD undef = s43
  generalize a0.tmps[44]?.getD undef = s44
  generalize a0.tmps[45]?.getD undef = s45
  generalize a0.tmps[46]?.getD undef = s46
  generalize a0.tmps[47]?.getD undef = s47
  generalize a0.tmps[48]?.getD undef = s48
  generalize a0.tmps[36]?.getD undef = s36
  generalize a0.tmps[49]?.getD undef = s49
  generalize a0.tmps[50]?.getD undef = s50
  clear hsz hdf
  have HD8 := Lib.hid hb8
  have HK8 : Hid (Kp w6 W9) := Lib.hid hC
  clear hC hb8 hg8
  have HR9 := Lib.hid (HR6.out.keep HK8.out)
  have HX9 := Lib.hid (HX6.out.keep (HK8.out.block g HG6.out))
  have HB9 := Lib.hid (kpb HB6.out HLE6.out HK8.out)
  clear HR6 HX6 HC6 HB6 HK8
  have hr := HR9.out.cell
  have r0 := hr 0
  have r1 := hr 1
  have r2 := hr 2
  have r3 := hr 3
  have r4 := hr 4
  have r5 := hr 5
  have r6 := hr 6
  have r7 := hr 7
  have r8 := hr 8
  have r9 := hr 9
  have rf := HR9.out.frozen
  clear hr
  go_wp2_with fail
  exact bodyPost_ret (v := .tuple #[.agg #[.int .i64 0, .int .i64 0, .int .i64 0, .int .i64 0, .slice none 0 0, .int .u64 0, .int .u64 0, .int .u64 0, .int .u64 0, .slice none 0 0], .int .i64 11]) (exprcode_ret (S := S4.zero) (op := 0) (a := 0) (r := 0) (b := 0) (vn := .slice none 0 0) (vk := .slice none 0 0) (c := 11) Try.results63 rfl rfl (HR9.out.store10x _ _ _ _ _ _ _ _ _ _)) rfl ⟨rfl, by first | exact (below_set10 HB9.out HSR.out _ _ _ _ _ _ _ _ _ _) | (rw [hgc]; exact (below_set10 HB9.out HSR.out _ _ _ _ _ _ _ _ _ _))⟩
set_option maxRecDepth 100000 in
set_option maxHeartbeats 32000000 in
theorem member_yes (x : X) (g o gp : Nat) (A : Int) (MS : S4) (hms : same4 MS.a MS.b MS.c MS.d 0 0 0 0 = false) (w : World) (hX : XAt w g o x) (hg : g < w.heap.size) (hnn : 0 < x.ns.length) (hst : x.st = S4.zero) (hop : operE A x.op x.a x.r x.b 0 x.st x.ks.length = 0)
    (hME : ∀ W vN, Kp w W → Strs W vN x.ns → Calls Try.prog 69 #[vN, .pointer (some ⟨gp, 0, none⟩), .int .i64 (sortA x.a)] W fun e w' => e = .returned (.tuple #[.agg #[.int .u64 MS.a, .int .u64 MS.b, .int .u64 MS.c, .int .u64 MS.d], .bool true]) ∧ Below W.heap.size W w') :
    Calls Try.prog 63 #[.agg #[.pointer (some ⟨gp, 0, none⟩), .int .i64 A], .pointer (some ⟨g, o, none⟩)] w fun e w' => e = .returned (.tuple #[.agg #[.int .i64 9, .int .i64 x.a, .int .i64 0, .int .i64 0, .slice none 0 0, .int .u64 MS.a, .int .u64 MS.b, .int .u64 MS.c, .int .u64 MS.d, .slice none 0 0], .int .i64 0]) ∧ Below w.heap.size w w' := by
  obtain ⟨ao, cap, ak, ck, hxc, -, hns⟩ := hX.xc
  rw [hst] at hxc hop
  have HB : Hid (Below w.heap.size w ((w.alloc (.cells #[.pointer (some ⟨gp, 0, none⟩), .int .i64 A] 101)).alloc (.cells #[.int .i64 0, .int .i64 0, .int .i64 0, .int .i64 0, .slice none 0 0, .int .u64 0, .int .u64 0, .int .u64 0, .int .u64 0, .slice none 0 0] 28))) := Lib.hid (((Below.refl _ _).alloc (Nat.le_refl _) _).alloc (by simp) _)
  have HC : Hid (Blk ((w.alloc (.cells #[.pointer (some ⟨gp, 0, none⟩), .int .i64 A] 101)).alloc (.cells #[.int .i64 0, .int .i64 0, .int .i64 0, .int .i64 0, .slice none 0 0, .int .u64 0, .int .u64 0, .int .u64 0, .int .u64 0, .slice none 0 0] 28)) w.heap.size 101 #[.pointer (some ⟨gp, 0, none⟩), .int .i64 A]) := Lib.hid ((Blk.new w _ _).alloc _)
  have HR : Hid (Blk ((w.alloc (.cells #[.pointer (some ⟨gp, 0, none⟩), .int .i64 A] 101)).alloc (.cells #[.int .i64 0, .int .i64 0, .int .i64 0, .int .i64 0, .slice none 0 0, .int .u64 0, .int .u64 0, .int .u64 0, .int .u64 0, .slice none 0 0] 28)) (w.heap.size + 1) 28 #[.int .i64 0, .int .i64 0, .int .i64 0, .int .i64 0, .slice none 0 0, .int .u64 0, .int .u64 0, .int .u64 0, .int .u64 0, .slice none 0 0]) := Lib.hid (two_new' _ _ _ _)
  have HX := Lib.hid (hxc.keep (HB.out.block g hg))
  have HG : Hid (g < w.heap.size) := Lib.hid hg
  have HNS := Lib.hid hns
  have HME := Lib.hid hME
  have HOP := Lib.hid hop
  have hl0 : ((x.ns.length : Int) == 0) = false := by
    have h5 : ¬ ((x.ns.length : Int) = 0) := by omega
    exact beq_eq_false_iff_ne.2 h5
  have HSO := Lib.hid (sortOf_c x.a)
  clear hX hxc hns hME hop hnn hg
  go_enter Try.func63, Try.ntmps63
  go_upto_region 1 with fail
  generalize (w.alloc (.cells #[.pointer (some ⟨gp, 0, none⟩), .int .i64 A] 101)).alloc (.cells #[.int .i64 0, .int .i64 0, .int .i64 0, .int .i64 0, .slice none 0 0, .int .u64 0, .int .u64 0, .int .u64 0, .int .u64 0, .slice none 0 0] 28) = W at *
  have HLE : Hid (w.heap.size ≤ W.heap.size) := Lib.hid HB.out.size
  have HGR : Hid (w.heap.size + 1 < W.heap.size) := Lib.hid HR.out.lt
  have HSR : Hid (w.heap.size ≤ w.heap.size + 1) := Lib.hid (Nat.le_succ _)
  generalize w.heap.size + 1 = gr at *
  generalize hgc : w.heap.size = gc at *
  obtain ⟨y0, y1, y2, y3, y4, y5, y6, y7, y8, y9⟩ := HX.out.cells
  have hc := HC.out.cell
  have k0 := hc 0
  have k1 := hc 1
  clear hc
  go_upto_region 5 with fail
  have HU : Hid (XC (W.alloc (.cells #[.int .i64 x.op, .int .i64 x.a, .int .i64 x.r, .int .i64 x.b, .slice none 0 0, .int .u64 S4.zero.a, .int .u64 S4.zero.b, .int .u64 S4.zero.c, .int .u64 S4.zero.d, .slice ak x.ks.length ck] 28)) W.heap.size 0 x.op x.a x.r x.b none 0 0 S4.zero ak x.ks.length ck) := Lib.hid (XC.of_blk (Blk.new W _ _))
  have HB5 : Hid (Below gc w (W.alloc (.cells #[.int .i64 x.op, .int .i64 x.a, .int .i64 x.r, .int .i64 x.b, .slice none 0 0, .int .u64 S4.zero.a, .int .u64 S4.zero.b, .int .u64 S4.zero.c, .int .u64 S4.zero.d, .slice ak x.ks.length ck] 28))) := Lib.hid (HB.out.alloc HLE.out _)
  have HC5 := Lib.hid (HC.out.alloc (.cells #[.int .i64 x.op, .int .i64 x.a, .int .i64 x.r, .int .i64 x.b, .slice none 0 0, .int .u64 S4.zero.a, .int .u64 S4.zero.b, .int .u64 S4.zero.c, .int .u64 S4.zero.d, .slice ak x.ks.length ck] 28))
  have HR5 := Lib.hid (HR.out.alloc (.cells #[.int .i64 x.op, .int .i64 x.a, .int .i64 x.r, .int .i64 x.b, .slice none 0 0, .int .u64 S4.zero.a, .int .u64 S4.zero.b, .int .u64 S4.zero.c, .int .u64 S4.zero.d, .slice ak x.ks.length ck] 28))
  have HK5 : Hid (Kp W (W.alloc (.cells #[.int .i64 x.op, .int .i64 x.a, .int .i64 x.r, .int .i64 x.b, .slice none 0 0, .int .u64 S4.zero.a, .int .u64 S4.zero.b, .int .u64 S4.zero.c, .int .u64 S4.zero.d, .slice ak x.ks.length ck] 28))) := Lib.hid ((Below.refl _ _).alloc (Nat.le_refl _) _)
  have HG5 : Hid (W.heap.size < (W.alloc (.cells #[.int .i64 x.op, .int .i64 x.a, .int .i64 x.r, .int .i64 x.b, .slice none 0 0, .int .u64 S4.zero.a, .int .u64 S4.zero.b, .int .u64 S4.zero.c, .int .u64 S4.zero.d, .slice ak x.ks.length ck] 28)).heap.size) := Lib.hid (by simp)
  generalize W.alloc (.cells #[.int .i64 x.op, .int .i64 x.a, .int .i64 x.r, .int .i64 x.b, .slice none 0 0, .int .u64 S4.zero.a, .int .u64 S4.zero.b, .int .u64 S4.zero.c, .int .u64 S4.zero.d, .slice ak x.ks.length ck] 28) = W5 at *
  have HOC := Lib.hid (operator_c W.heap.size 0 x.op x.a x.r x.b none 0 0 S4.zero ak x.ks.length ck A W5 HU.out HG5.out)
  rw [HOP.out] at HOC
  have HX5 := Lib.hid (HX.out.keep (HK5.out.block g (Nat.lt_of_lt_of_le HG.out HLE.out)))
  have HLE5 : Hid (gc ≤ W5.heap.size) := Lib.hid (Nat.le_trans HLE.out HK5.out.size)
  clear HU HG5 y0 y1 y2 y3 y4 y5 y6 y7 y8 y9 k0 k1
  have hc := HC5.out.cell
  have k0 := hc 0
  have k1 := hc 1
  clear hc
  go_upto_region 8 with (go_at_call 33; (with_reducible refine HOC.out.mono ?_); rintro e w6 ⟨rfl, hb6⟩; have HB6 := Lib.hid (HB5.out.trans (hb6.mono HLE5.out)); have HC6 := Lib.hid (HC5.out.keep hb6); have HR6 := Lib.hid (HR5.out.keep hb6); have HX6 := Lib.hid (HX5.out.keep (hb6.block g (Nat.lt_of_lt_of_le HG.out HLE5.out))); have HLE6 := Lib.hid (Nat.le_trans HLE5.out hb6.size); clear hb6)
  clear k0 k1 HOC HX5 HC5 HR5 HB5 HK5 HB HC HR HX HLE5
  generalize W.heap.size = g6 at *
  have HG6 : Hid (g < w6.heap.size) := Lib.hid (Nat.lt_of_lt_of_le HG.out HLE6.out)
  have HN6 : Hid (∀ W, Kp w6 W → Strs W (.slice ao x.ns.length cap) x.ns) := Lib.hid (fun W h => HNS.out.keep (by rw [hgc]; exact kpb HB6.out HLE6.out h))
  refine wp_region_lnk (fun _ u => Kp w6 u) (mbRel w6) (mbPhi g o gc gp x ao cap MS true w6) (fun k => if k == 16 then some 8 else none) (by kernel_rfl) (by kernel_rfl) (by kernel_rfl) (Below.refl _ _).drew (fun _ _ _ _ _ h hr => mbRel_class h hr) [] (by kernel_rfl) (fun i j v u u2 hij _ h hr => mbPhi_keep hij h hr) ?_ ?_
  · refine ⟨⟨trivial, fun A v d hd hC hF hW K Q hk => ?_⟩, ⟨trivial, fun A v d hd hC hF hW K Q hk => ?_⟩, ⟨trivial, fun A v d hd hC hF hW K Q hk => ?_⟩, ⟨trivial, fun A v d hd hC hF hW K Q hk => ?_⟩, ⟨trivial, fun A v d hd hC hF hW K Q hk => ?_⟩, ⟨trivial, fun A v d hd hC hF hW K Q hk => ?_⟩, ⟨trivial, fun A v d hd hC hF hW K Q hk => ?_⟩, ⟨trivial, fun A v d hd hC hF hW K Q hk => ?_⟩, ⟨trivial, fun A v d hd hC hF hW K Q hk => ?_⟩, ⟨trivial, fun A v d hd hC hF hW K Q hk => ?_⟩, ⟨trivial, fun A v d hd hC hF hW K Q hk => ?_⟩, ⟨trivial, fun A v d hd hC hF hW K Q hk => ?_⟩, ⟨trivial, fun A v d hd hC hF hW K Q hk => ?_⟩, ⟨trivial, fun A v d hd hC hF hW K Q hk => ?_⟩, ⟨trivial, fun A v d hd hC hF hW K Q hk => ?_⟩, ⟨trivial, fun A v d hd hC hF hW K Q hk => ?_⟩, ⟨trivial, fun A v d hd hC hF hW K Q hk => ?_⟩, ⟨trivial, fun A v d hd hC hF hW K Q hk => ?_⟩, trivial⟩
    · have f1 : A.tmps[1]?.getD undef = .pointer (some ⟨g, o, none⟩) := fg_none (hF 1) (by kernel_rfl)
      refine Giv.wp (φ := mbPhi g o gc gp x ao cap MS true w6 0) ?_ hk
      unfold Giv
      go_simp
      exact giv_val (by unfold mbRel; rw [if_neg (by decide)]; exact Below.refl _ _) rfl
    · have f37 : A.tmps[37]?.getD undef = .pointer (some ⟨g, o, none⟩) := fg_some (hF 37) (j := 0) (by kernel_rfl) (by kernel_rfl)
      refine Giv.wp (φ := mbPhi g o gc gp x ao cap MS true w6 1) ?_ hk
      unfold Giv
      go_simp
      exact giv_val (by unfold mbRel; rw [if_neg (by decide)]; exact Below.refl _ _) rfl
    · have f38 : A.tmps[38]?.getD undef = .pointer (some ⟨g, o, none⟩) := fg_some (hF 38) (j := 1) (by kernel_rfl) (by kernel_rfl)
      refine Giv.wp (φ := mbPhi g o gc gp x ao cap MS true w6 2) ?_ hk
      unfold Giv
      go_simp
      exact giv_val (by unfold mbRel; rw [if_neg (by decide)]; exact Below.refl _ _) rfl
    · have f39 : A.tmps[39]?.getD undef = .pointer (some ⟨g, o + 4, none⟩) := fg_some (hF 39) (j := 2) (by kernel_rfl) (by kernel_rfl)
      obtain ⟨y0, y1, y2, y3, y4, y5, y6, y7, y8, y9⟩ := (HX6.out.keep (Below.block hC g HG6.out)).cells
      refine Giv.wp (φ := mbPhi g o gc gp x ao cap MS true w6 3) ?_ hk
      unfold Giv
      go_simp
      exact giv_val (by unfold mbRel; rw [if_neg (by decide)]; exact Below.refl _ _) rfl
    · have f2 : A.tmps[2]?.getD undef = .pointer (some ⟨gc, 0, none⟩) := fg_none (hF 2) (by kernel_rfl)
      refine Giv.wp (φ := mbPhi g o gc gp x ao cap MS true w6 4) ?_ hk
      unfold Giv
      go_simp
      exact giv_val (by unfold mbRel; rw [if_neg (by decide)]; exact Below.refl _ _) rfl
    · have f41 : A.tmps[41]?.getD undef = .pointer (some ⟨gc, 0, none⟩) := fg_some (hF 41) (j := 4) (by kernel_rfl) (by kernel_rfl)
      have hc := (Blk.keep HC6.out hC).cell
      have k0 := hc 0
      clear hc
      refine Giv.wp (φ := mbPhi g o gc gp x ao cap MS true w6 5) ?_ hk
      unfold Giv
      go_simp
      exact giv_val (by unfold mbRel; rw [if_neg (by decide)]; exact Below.refl _ _) rfl
    · have f1 : A.tmps[1]?.getD undef = .pointer (some ⟨g, o, none⟩) := fg_none (hF 1) (by kernel_rfl)
      refine Giv.wp (φ := mbPhi g o gc gp x ao cap MS true w6 6) ?_ hk
      unfold Giv
      go_simp
      exact giv_val (by unfold mbRel; rw [if_neg (by decide)]; exact Below.refl _ _) rfl
    · have f43 : A.tmps[43]?.getD undef = .pointer (some ⟨g, o, none⟩) := fg_some (hF 43) (j := 6) (by kernel_rfl) (by kernel_rfl)
      refine Giv.wp (φ := mbPhi g o gc gp x ao cap MS true w6 7) ?_ hk
      unfold Giv
      go_simp
      exact giv_val (by unfold mbRel; rw [if_neg (by decide)]; exact Below.refl _ _) rfl
    · have f44 : A.tmps[44]?.getD undef = .pointer (some ⟨g, o, none⟩) := fg_some (hF 44) (j := 7) (by kernel_rfl) (by kernel_rfl)
      refine Giv.wp (φ := mbPhi g o gc gp x ao cap MS true w6 8) ?_ hk
      unfold Giv
      go_simp
      exact giv_val (by unfold mbRel; rw [if_neg (by decide)]; exact Below.refl _ _) rfl
    · have f45 : A.tmps[45]?.getD undef = .pointer (some ⟨g, o + 1, none⟩) := fg_some (hF 45) (j := 8) (by kernel_rfl) (by kernel_rfl)
      obtain ⟨y0, y1, y2, y3, y4, y5, y6, y7, y8, y9⟩ := (HX6.out.keep (Below.block hC g HG6.out)).cells
      refine Giv.wp (φ := mbPhi g o gc gp x ao cap MS true w6 9) ?_ hk
      unfold Giv
      go_simp
      exact giv_val (by unfold mbRel; rw [if_neg (by decide)]; exact Below.refl _ _) rfl
    · have f46 : A.tmps[46]?.getD undef = .int .i64 x.a := fg_some (hF 46) (j := 9) (by kernel_rfl) (by kernel_rfl)
      refine Giv.wp (φ := mbPhi g o gc gp x ao cap MS true w6 10) ?_ hk
      unfold Giv
      go_simp
      exact giv_enter ((HSO.out v).mono fun e w2 ⟨he, hb⟩ => ⟨_, he, (by unfold mbRel; rw [if_neg (by decide)]; exact hb), rfl⟩)
    · have f40 : A.tmps[40]?.getD undef = .slice ao x.ns.length cap := fg_some (hF 40) (j := 3) (by kernel_rfl) (by kernel_rfl)
      have f42 : A.tmps[42]?.getD undef = .pointer (some ⟨gp, 0, none⟩) := fg_some (hF 42) (j := 5) (by kernel_rfl) (by kernel_rfl)
      have f47 : A.tmps[47]?.getD undef = .int .i64 (sortA x.a) := fg_some (hF 47) (j := 10) (by kernel_rfl) (by kernel_rfl)
      refine Giv.wp (φ := mbPhi g o gc gp x ao cap MS true w6 11) ?_ hk
      unfold Giv
      go_simp
      exact giv_enter ((HME.out v _ (by unfold Kp; rw [hgc]; exact kpb HB6.out HLE6.out hC) (HN6.out _ hC)).mono fun e w2 ⟨he, hb⟩ => ⟨_, he, (by unfold mbRel; rw [if_neg (by decide)]; exact hb), rfl⟩)
    · have f48 : A.tmps[48]?.getD undef = .tuple #[.agg #[.int .u64 MS.a, .int .u64 MS.b, .int .u64 MS.c, .int .u64 MS.d], .bool true] := fg_some (hF 48) (j := 11) (by kernel_rfl) (by kernel_rfl)
      refine Giv.wp (φ := mbPhi g o gc gp x ao cap MS true w6 12) ?_ hk
      unfold Giv
      go_simp
      exact giv_val (by unfold mbRel; rw [if_neg (by decide)]; exact Below.refl _ _) rfl
    · have f36 : A.tmps[36]?.getD undef = .tuple #[.agg #[.int .u64 MS.a, .int .u64 MS.b, .int .u64 MS.c, .int .u64 MS.d], .bool true] := fg_some (hF 36) (j := 12) (by kernel_rfl) (by kernel_rfl)
      refine Giv.wp (φ := mbPhi g o gc gp x ao cap MS true w6 13) ?_ hk
      unfold Giv
      go_simp
      exact giv_val (by unfold mbRel; rw [if_neg (by decide)]; exact Below.refl _ _) rfl
    · have f36 : A.tmps[36]?.getD undef = .tuple #[.agg #[.int .u64 MS.a, .int .u64 MS.b, .int .u64 MS.c, .int .u64 MS.d], .bool true] := fg_some (hF 36) (j := 12) (by kernel_rfl) (by kernel_rfl)
      refine Giv.wp (φ := mbPhi g o gc gp x ao cap MS true w6 14) ?_ hk
      unfold Giv
      go_simp
      exact giv_val (by unfold mbRel; rw [if_neg (by decide)]; exact Below.refl _ _) rfl
    · refine Giv.wp (φ := mbPhi g o gc gp x ao cap MS true w6 15) ?_ hk
      unfold Giv
      go_simp
      exact giv_val (by unfold mbRel; rw [if_neg (by decide)]; exact (Below.refl _ _).alloc (Nat.le_refl _) _) ⟨_, _, rfl, Below.size hC, rfl, Blk.new _ _ _⟩
    · obtain ⟨g8, cs, f8, hg8, hcs, hb8⟩ : ∃ (g : Nat) (cs : Array Value), A.tmps[8]?.getD undef = .pointer (some ⟨g, 0, none⟩) ∧ w6.heap.size ≤ g ∧ cs.size = 4 ∧ Blk v g 25 cs := fg_some (hF 8) (j := 15) (by kernel_rfl) (by kernel_rfl)
      obtain ⟨c0, c1, c2, c3, rfl⟩ := arr4 hcs
      have f49 : A.tmps[49]?.getD undef = .agg #[.int .u64 MS.a, .int .u64 MS.b, .int .u64 MS.c, .int .u64 MS.d] := fg_some (hF 49) (j := 13) (by kernel_rfl) (by kernel_rfl)
      have e8 : A.eval (.tmp 8) = .pointer (some ⟨g8, 0, none⟩) := by rw [← f8]; simp [Act.eval]
      have hz := hb8.cell
      have z0 := hz 0
      have z1 := hz 1
      have z2 := hz 2
      have z3 := hz 3
      have zf := hb8.frozen
      clear hz
      refine Giv.wp (φ := fun _ w2 => mbPhi g o gc gp x ao cap MS true w6 16 (A.eval (.tmp 8)) w2) ?_ hk
      rw [e8]
      unfold Giv
      go_simp
      first | exact giv_skip (by unfold mbRel; rw [if_pos rfl]; exact ⟨below_set4 (Below.refl _ _) hg8 _ _ _ _, shp_set4 _ _ _ _ _ _⟩) ⟨g8, rfl, hg8, (((hb8.set 0 _).set 1 _).set 2 _).set 3 _⟩ | exact giv_val (by unfold mbRel; rw [if_pos rfl]; exact ⟨below_set4 (Below.refl _ _) hg8 _ _ _ _, shp_set4 _ _ _ _ _ _⟩) ⟨g8, rfl, hg8, (((hb8.set 0 _).set 1 _).set 2 _).set 3 _⟩
    · have f50 : A.tmps[50]?.getD undef = .bool true := fg_some (hF 50) (j := 14) (by kernel_rfl) (by kernel_rfl)
      refine Giv.wp (φ := mbPhi g o gc gp x ao cap MS true w6 17) ?_ hk
      unfold Giv
      go_simp
      exact giv_val (by unfold mbRel; rw [if_neg (by decide)]; exact Below.refl _ _) rfl
  intro a0 W9 d hd hC hsz hdf hF hL
  have ha := end_gen [false, false, false, false, false, false, false, false, true, true, false, false, false, false, false, false, false, false, false, false, false, false, false, false, false, false, false, false, false, false, false, false, false, false, false, false, true, true, true, true, true, true, true, true, true, true, true, true, true, true, true, false, false, false, false, false, false, false, false, false, false, false, false, false, false, false, false, false, false, false, false, false, false, false] hsz hdf hF (by kernel_rfl)
  have f9 : a0.tmps[9]?.getD undef = .bool true := fe_some (hF 9) (j := 17) (by kernel_rfl)
  obtain ⟨g8, f8, hg8, hb8⟩ : ∃ g, a0.tmps[8]?.getD undef = .pointer (some ⟨g, 0, none⟩) ∧ w6.heap.size ≤ g ∧ Blk W9 g 25 #[.int .u64 MS.a, .int .u64 MS.b, .int .u64 MS.c, .int .u64 MS.d] := fl_link hL (j := 16) rfl rfl rfl
  rw [ha]
  clear ha hF hL hd
  simp only [cutM_yes, cutM_no, cutM_nil, Nat.reduceAdd]
  rw [f9, f8]
  clear f9 f8
  generalize a0.tmps[37]?.getD undef = s37
  generalize a0.tmps[38]?.getD undef = s38
  generalize a0.tmps[39]?.getD undef = s39
  generalize a0.tmps[40]?.getD undef = s40
  generalize a0.tmps[41]?.getD undef = s41
  generalize a0.tmps[42]?.getD undef = s42
  generalize a0.tmps[43]?.getD undef = s43
  generalize a0.tmps[44]?.getD undef = s44
  generalize a0.tmps[45]?.getD undef = s45
  generalize a0.tmps[46]?.getD undef = s46
  generalize a0.tmps[47]?.getD undef = s47
  generalize a0.tmps[48]?.getD undef = s48
  generalize a0.tmps[36]?.getD undef = s36
  generalize a0.tmps[49]?.getD undef = s49
  generalize a0.tmps[50]?.getD undef = s50
  clear hsz hdf
  have HD8 := Lib.hid hb8
  have HK8 : Hid (Kp w6 W9) := Lib.hid hC
  clear hC hb8 hg8
  have HR9 := Lib.hid (HR6.out.keep HK8.out)
  have HX9 := Lib.hid (HX6.out.keep (HK8.out.block g HG6.out))
  have HB9 := Lib.hid (kpb HB6.out HLE6.out HK8.out)
  clear HR6 HX6 HC6 HB6 HK8
  have hr := HR9.out.cell
  have r0 := hr 0
  have r1 := hr 1
  have r2 := hr 2
  have r3 := hr 3
  have r4 := hr 4
  have r5 := hr 5
  have r6 := hr 6
  have r7 := hr 7
  have r8 := hr 8
  have r9 := hr 9
  have rf := HR9.out.frozen
  clear hr
  have hd := HD8.out.cell
  have d0 := hd 0
  have d1 := hd 1
  have d2 := hd 2
  have d3 := hd 3
  clear hd
  go_upto_region 13 with fail
  clear d0 d1 d2 d3 r0 r1 r2 r3 r4 r5 r6 r7 r8 r9 rf
  have HL9 : Hid (gc ≤ W9.heap.size) := Lib.hid (Nat.le_trans HSR.out (Nat.le_of_lt HR9.out.lt))
  have HG9 : Hid (g < W9.heap.size) := Lib.hid (Nat.lt_of_lt_of_le HG.out HL9.out)
  refine wp_region_kt 6 (by kernel_rfl) (by kernel_rfl) ?_
  simp only [List.take_succ_cons, List.take_zero, List.drop_succ_cons, List.drop_zero]
  repeat (first
      | go_big_quiet_skip
      | (go_big_quiet_want
         go_big_quiet_op
         first
           | go_big_quiet_on
           | (apply Exists.intro
              refine ⟨fun w1 hC => ?_, ?_⟩
              · first
                  | (go_simp; exact ⟨rfl, rfl⟩)
                  | (obtain ⟨y0, y1, y2, y3, y4, y5, y6, y7, y8, y9⟩ := (HX9.out.keep (Below.block hC g HG9.out)).cells; have hd := (Blk.keep HD8.out hC).cell; have d0 := hd 0; have d1 := hd 1; have d2 := hd 2; have d3 := hd 3; clear hd; go_simp; exact rfl)
              go_big_quiet_on)))
  refine wpQuiet_nil ?_
  intro W10 hC
  have HR10 := Lib.hid (Blk.keep HR9.out hC)
  have HB10 := Lib.hid (kpb HB9.out HL9.out hC)
  clear hC HR9 HB9
  have hr := HR10.out.cell
  have r0 := hr 0
  have r1 := hr 1
  have r2 := hr 2
  have r3 := hr 3
  have r4 := hr 4
  have r5 := hr 5
  have r6 := hr 6
  have r7 := hr 7
  have r8 := hr 8
  have r9 := hr 9
  have rf := HR10.out.frozen
  clear hr
  go_wp2_with fail
  exact bodyPost_ret (v := .tuple #[.agg #[.int .i64 9, .int .i64 x.a, .int .i64 0, .int .i64 0, .slice none 0 0, .int .u64 MS.a, .int .u64 MS.b, .int .u64 MS.c, .int .u64 MS.d, .slice none 0 0], .int .i64 0]) (exprcode_ret (S := MS) (op := 9) (a := x.a) (r := 0) (b := 0) (vn := .slice none 0 0) (vk := .slice none 0 0) (c := 0) Try.results63 rfl rfl (HR10.out.store10x _ _ _ _ _ _ _ _ _ _)) rfl ⟨rfl, by first | exact (below_set10 HB10.out HSR.out _ _ _ _ _ _ _ _ _ _) | (rw [hgc]; exact (below_set10 HB10.out HSR.out _ _ _ _ _ _ _ _ _ _))⟩
end Go.Proofs.Ytamcfmfkmekkfaa
/- constraint's operator, compile and Compile at an expression without operands. -/
namespace Go.Proofs.Ytamcfmfkmekkfaa
open Go.RowKit Go
set_option maxRecDepth 100000 in
set_option maxHeartbeats 16000000 in
theorem operator_in (x : X) (g o gp : Nat) (A op a r b c : Int) (S : S4) (w : World) (hX : XAt w g o x) (hg : g < w.heap.size) (hop : x.op = 9)
    (hM : ∀ W, Kp w W → Calls Try.prog 63 #[.agg #[.pointer (some ⟨gp, 0, none⟩), .int .i64 A], .pointer (some ⟨g, o, none⟩)] W fun e w' => e = .returned (.tuple #[.agg #[.int .i64 op, .int .i64 a, .int .i64 r, .int .i64 b, .slice none 0 0, .int .u64 S.a, .int .u64 S.b, .int .u64 S.c, .int .u64 S.d, .slice none 0 0], .int .i64 c]) ∧ Below W.heap.size W w') :
    Calls Try.prog 47 #[.agg #[.pointer (some ⟨gp, 0, none⟩), .int .i64 A], .pointer (some ⟨g, o, none⟩)] w fun e w' => e = .returned (.tuple #[.agg #[.int .i64 op, .int .i64 a, .int .i64 r, .int .i64 b, .slice none 0 0, .int .u64 S.a, .int .u64 S.b, .int .u64 S.c, .int .u64 S.d, .slice none 0 0], .int .i64 c]) ∧ Below w.heap.size w w' := by
  have p9 : (x.op == 9) = true := by rw [hop]; rfl
  have HB : Hid (Below w.heap.size w ((w.alloc (.cells #[.pointer (some ⟨gp, 0, none⟩), .int .i64 A] 101)).alloc (.cells #[.int .i64 0, .int .i64 0, .int .i64 0, .int .i64 0, .slice none 0 0, .int .u64 0, .int .u64 0, .int .u64 0, .int .u64 0, .slice none 0 0] 28))) := Lib.hid (((Below.refl _ _).alloc (Nat.le_refl _) _).alloc (by simp) _)
  have HC : Hid (Blk ((w.alloc (.cells #[.pointer (some ⟨gp, 0, none⟩), .int .i64 A] 101)).alloc (.cells #[.int .i64 0, .int .i64 0, .int .i64 0, .int .i64 0, .slice none 0 0, .int .u64 0, .int .u64 0, .int .u64 0, .int .u64 0, .slice none 0 0] 28)) w.heap.size 101 #[.pointer (some ⟨gp, 0, none⟩), .int .i64 A]) := Lib.hid ((Blk.new w _ _).alloc _)
  have HR : Hid (Blk ((w.alloc (.cells #[.pointer (some ⟨gp, 0, none⟩), .int .i64 A] 101)).alloc (.cells #[.int .i64 0, .int .i64 0, .int .i64 0, .int .i64 0, .slice none 0 0, .int .u64 0, .int .u64 0, .int .u64 0, .int .u64 0, .slice none 0 0] 28)) (w.heap.size + 1) 28 #[.int .i64 0, .int .i64 0, .int .i64 0, .int .i64 0, .slice none 0 0, .int .u64 0, .int .u64 0, .int .u64 0, .int .u64 0, .slice none 0 0]) := Lib.hid (two_new' _ _ _ _)
  have HX := Lib.hid (hX.keep HB.out hg)
  obtain ⟨ao, cap, ak, ck, hxc, -, -⟩ := HX.out.xc
  have HM := Lib.hid (hM _ HB.out)
  obtain ⟨y0, y1, y2, y3, y4, y5, y6, y7, y8, y9⟩ := hxc.cells
  clear hX hg hop hM hxc y1 y2 y3 y4 y5 y6 y7 y8 y9
  go_enter Try.func47, Try.ntmps47
  go_upto_region 1 with fail
  generalize (w.alloc (.cells #[.pointer (some ⟨gp, 0, none⟩), .int .i64 A] 101)).alloc (.cells #[.int .i64 0, .int .i64 0, .int .i64 0, .int .i64 0, .slice none 0 0, .int .u64 0, .int .u64 0, .int .u64 0, .int .u64 0, .slice none 0 0] 28) = W at *
  have HLE : Hid (w.heap.size ≤ W.heap.size) := Lib.hid HB.out.size
  have HSR : Hid (w.heap.size ≤ w.heap.size + 1) := Lib.hid (Nat.le_succ _)
  generalize w.heap.size + 1 = gr at *
  generalize hgc : w.heap.size = gc at *
  have hc := HC.out.cell
  have k0 := hc 0
  have k1 := hc 1
  clear hc
  go_wp2_with (go_at_call 63; (with_reducible refine HM.out.mono ?_); rintro e w1 ⟨rfl, hb1⟩; have HB1 := Lib.hid (HB.out.trans (hb1.mono HLE.out)); have HR1 := Lib.hid (HR.out.keep hb1); have hr := HR1.out.cell; have r0 := hr 0; have r1 := hr 1; have r2 := hr 2; have r3 := hr 3; have r4 := hr 4; have r5 := hr 5; have r6 := hr 6; have r7 := hr 7; have r8 := hr 8; have r9 := hr 9; have rf := HR1.out.frozen; clear hr; clear hb1)
  exact bodyPost_ret (v := .tuple #[.agg #[.int .i64 op, .int .i64 a, .int .i64 r, .int .i64 b, .slice none 0 0, .int .u64 S.a, .int .u64 S.b, .int .u64 S.c, .int .u64 S.d, .slice none 0 0], .int .i64 c]) (exprcode_ret (S := S) (op := op) (a := a) (r := r) (b := b) (vn := .slice none 0 0) (vk := .slice none 0 0) (c := c) Try.results47 rfl rfl (HR1.out.store10x _ _ _ _ _ _ _ _ _ _)) rfl ⟨rfl, by first | exact (below_set10 HB1.out HSR.out _ _ _ _ _ _ _ _ _ _) | (rw [hgc]; exact (below_set10 HB1.out HSR.out _ _ _ _ _ _ _ _ _ _))⟩
set_option maxRecDepth 100000 in
set_option maxHeartbeats 16000000 in
theorem compile_ok (x : X) (g o gp : Nat) (A op a r b : Int) (S : S4) (w : World) (hX : XAt w g o x) (hg : g < w.heap.size) (hks : x.ks.length = 0)
    (hM : ∀ W, Kp w W → Calls Try.prog 47 #[.agg #[.pointer (some ⟨gp, 0, none⟩), .int .i64 A], .pointer (some ⟨g, o, none⟩)] W fun e w' => e = .returned (.tuple #[.agg #[.int .i64 op, .int .i64 a, .int .i64 r, .int .i64 b, .slice none 0 0, .int .u64 S.a, .int .u64 S.b, .int .u64 S.c, .int .u64 S.d, .slice none 0 0], .int .i64 0]) ∧ Below W.heap.size W w') :
    Calls Try.prog 29 #[.agg #[.pointer (some ⟨gp, 0, none⟩), .int .i64 A], .pointer (some ⟨g, o, none⟩)] w fun e w' => e = .returned (.tuple #[.agg #[.int .i64 op, .int .i64 a, .int .i64 r, .int .i64 b, .slice none 0 0, .int .u64 S.a, .int .u64 S.b, .int .u64 S.c, .int .u64 S.d, .slice none 0 0], .int .i64 0]) ∧ Below w.heap.size w w' := by
  have HB : Hid (Below w.heap.size w ((w.alloc (.cells #[.pointer (some ⟨gp, 0, none⟩), .int .i64 A] 101)).alloc (.cells #[.int .i64 0, .int .i64 0, .int .i64 0, .int .i64 0, .slice none 0 0, .int .u64 0, .int .u64 0, .int .u64 0, .int .u64 0, .slice none 0 0] 28))) := Lib.hid (((Below.refl _ _).alloc (Nat.le_refl _) _).alloc (by simp) _)
  have HC : Hid (Blk ((w.alloc (.cells #[.pointer (some ⟨gp, 0, none⟩), .int .i64 A] 101)).alloc (.cells #[.int .i64 0, .int .i64 0, .int .i64 0, .int .i64 0, .slice none 0 0, .int .u64 0, .int .u64 0, .int .u64 0, .int .u64 0, .slice none 0 0] 28)) w.heap.size 101 #[.pointer (some ⟨gp, 0, none⟩), .int .i64 A]) := Lib.hid ((Blk.new w _ _).alloc _)
  have HR : Hid (Blk ((w.alloc (.cells #[.pointer (some ⟨gp, 0, none⟩), .int .i64 A] 101)).alloc (.cells #[.int .i64 0, .int .i64 0, .int .i64 0, .int .i64 0, .slice none 0 0, .int .u64 0, .int .u64 0, .int .u64 0, .int .u64 0, .slice none 0 0] 28)) (w.heap.size + 1) 28 #[.int .i64 0, .int .i64 0, .int .i64 0, .int .i64 0, .slice none 0 0, .int .u64 0, .int .u64 0, .int .u64 0, .int .u64 0, .slice none 0 0]) := Lib.hid (two_new' _ _ _ _)
  have HG := Lib.hid hg
  have HM := Lib.hid (hM _ HB.out)
  obtain ⟨ao, cap, ak, ck, hxc0, -, -⟩ := hX.xc
  rw [hks] at hxc0
  have HX := Lib.hid (hxc0.keep (HB.out.block g hg))
  clear hX hg hM hxc0
  go_enter Try.func29, Try.ntmps29
  go_upto_region 1 with fail
  generalize (w.alloc (.cells #[.pointer (some ⟨gp, 0, none⟩), .int .i64 A] 101)).alloc (.cells #[.int .i64 0, .int .i64 0, .int .i64 0, .int .i64 0, .slice none 0 0, .int .u64 0, .int .u64 0, .int .u64 0, .int .u64 0, .slice none 0 0] 28) = W at *
  have HLE : Hid (w.heap.size ≤ W.heap.size) := Lib.hid HB.out.size
  have HSR : Hid (w.heap.size ≤ w.heap.size + 1) := Lib.hid (Nat.le_succ _)
  generalize w.heap.size + 1 = gr at *
  generalize hgc : w.heap.size = gc at *
  have hc := HC.out.cell
  have k0 := hc 0
  have k1 := hc 1
  clear hc
  go_upto_region 2 with (go_at_call 47; (with_reducible refine HM.out.mono ?_); rintro e w1 ⟨rfl, hb1⟩; have HB1 := Lib.hid (HB.out.trans (hb1.mono HLE.out)); have HL1 := Lib.hid (Nat.le_trans HLE.out hb1.size); have HR1 := Lib.hid (HR.out.keep hb1); have HX1 := Lib.hid (HX.out.keep (hb1.block g (Nat.lt_of_lt_of_le HG.out HLE.out))); have HG1 := Lib.hid (Nat.lt_of_lt_of_le HG.out (Nat.le_trans HLE.out hb1.size)); clear hb1)
  have HR2 := Lib.hid (HR1.out.alloc (.cells #[.int .i64 op, .int .i64 a, .int .i64 r, .int .i64 b, .slice none 0 0, .int .u64 S.a, .int .u64 S.b, .int .u64 S.c, .int .u64 S.d, .slice none 0 0] 28))
  have HX2 := Lib.hid (HX1.out.keep ((Below.refl w1.heap.size w1).alloc (Nat.le_refl _) (.cells #[.int .i64 op, .int .i64 a, .int .i64 r, .int .i64 b, .slice none 0 0, .int .u64 S.a, .int .u64 S.b, .int .u64 S.c, .int .u64 S.d, .slice none 0 0] 28) |>.block g HG1.out))
  have HE2 : Hid (Blk (w1.alloc (.cells #[.int .i64 op, .int .i64 a, .int .i64 r, .int .i64 b, .slice none 0 0, .int .u64 S.a, .int .u64 S.b, .int .u64 S.c, .int .u64 S.d, .slice none 0 0] 28)) w1.heap.size 28 #[.int .i64 op, .int .i64 a, .int .i64 r, .int .i64 b, .slice none 0 0, .int .u64 S.a, .int .u64 S.b, .int .u64 S.c, .int .u64 S.d, .slice none 0 0]) := Lib.hid (Blk.new w1 _ _)
  have HB2 : Hid (Below gc w (w1.alloc (.cells #[.int .i64 op, .int .i64 a, .int .i64 r, .int .i64 b, .slice none 0 0, .int .u64 S.a, .int .u64 S.b, .int .u64 S.c, .int .u64 S.d, .slice none 0 0] 28))) := Lib.hid (HB1.out.alloc HL1.out _)
  generalize w1.alloc (.cells #[.int .i64 op, .int .i64 a, .int .i64 r, .int .i64 b, .slice none 0 0, .int .u64 S.a, .int .u64 S.b, .int .u64 S.c, .int .u64 S.d, .slice none 0 0] 28) = W2 at *
  generalize w1.heap.size = g6 at *
  clear k0 k1
  obtain ⟨y0, y1, y2, y3, y4, y5, y6, y7, y8, y9⟩ := HX2.out.cells
  clear y0 y1 y2 y3 y4 y5 y6 y7 y8
  have he := HE2.out.cell
  have e0 := he 0
  have e1 := he 1
  have e2 := he 2
  have e3 := he 3
  have e4 := he 4
  have e5 := he 5
  have e6 := he 6
  have e7 := he 7
  have e8 := he 8
  have e9 := he 9
  clear he
  have hr := HR2.out.cell
  have r0 := hr 0
  have r1 := hr 1
  have r2 := hr 2
  have r3 := hr 3
  have r4 := hr 4
  have r5 := hr 5
  have r6 := hr 6
  have r7 := hr 7
  have r8 := hr 8
  have r9 := hr 9
  have rf := HR2.out.frozen
  clear hr
  go_wp2_with fail
  go_loopw [8, 9, 10, 26] (fun v8 v9 v10 v26 wr => v26 = .int .i64 0 ∧ wr = W2) (fun _ _ _ _ _ => 0)
  case atStart => exact ⟨rfl, rfl⟩
  case round =>
    obtain ⟨rfl, rfl⟩ := hrel
    go_wp2_with fail
    exact bodyPost_ret (v := .tuple #[.agg #[.int .i64 op, .int .i64 a, .int .i64 r, .int .i64 b, .slice none 0 0, .int .u64 S.a, .int .u64 S.b, .int .u64 S.c, .int .u64 S.d, .slice none 0 0], .int .i64 0]) (exprcode_ret (S := S) (op := op) (a := a) (r := r) (b := b) (vn := .slice none 0 0) (vk := .slice none 0 0) (c := 0) Try.results29 rfl rfl (HR2.out.store10x _ _ _ _ _ _ _ _ _ _)) rfl ⟨rfl, by first | exact (below_set10 HB2.out HSR.out _ _ _ _ _ _ _ _ _ _) | (rw [hgc]; exact (below_set10 HB2.out HSR.out _ _ _ _ _ _ _ _ _ _))⟩
set_option maxRecDepth 100000 in
set_option maxHeartbeats 16000000 in
theorem compile_no (x : X) (g o gp : Nat) (A op a r b c : Int) (S : S4) (w : World) (_hX : XAt w g o x) (_hg : g < w.heap.size) (hc0 : c ≠ 0)
    (hM : ∀ W, Kp w W → Calls Try.prog 47 #[.agg #[.pointer (some ⟨gp, 0, none⟩), .int .i64 A], .pointer (some ⟨g, o, none⟩)] W fun e w' => e = .returned (.tuple #[.agg #[.int .i64 op, .int .i64 a, .int .i64 r, .int .i64 b, .slice none 0 0, .int .u64 S.a, .int .u64 S.b, .int .u64 S.c, .int .u64 S.d, .slice none 0 0], .int .i64 c]) ∧ Below W.heap.size W w') :
    Calls Try.prog 29 #[.agg #[.pointer (some ⟨gp, 0, none⟩), .int .i64 A], .pointer (some ⟨g, o, none⟩)] w fun e w' => e = .returned (.tuple #[.agg #[.int .i64 0, .int .i64 0, .int .i64 0, .int .i64 0, .slice none 0 0, .int .u64 0, .int .u64 0, .int .u64 0, .int .u64 0, .slice none 0 0], .int .i64 c]) ∧ Below w.heap.size w w' := by
  have HB : Hid (Below w.heap.size w ((w.alloc (.cells #[.pointer (some ⟨gp, 0, none⟩), .int .i64 A] 101)).alloc (.cells #[.int .i64 0, .int .i64 0, .int .i64 0, .int .i64 0, .slice none 0 0, .int .u64 0, .int .u64 0, .int .u64 0, .int .u64 0, .slice none 0 0] 28))) := Lib.hid (((Below.refl _ _).alloc (Nat.le_refl _) _).alloc (by simp) _)
  have HC : Hid (Blk ((w.alloc (.cells #[.pointer (some ⟨gp, 0, none⟩), .int .i64 A] 101)).alloc (.cells #[.int .i64 0, .int .i64 0, .int .i64 0, .int .i64 0, .slice none 0 0, .int .u64 0, .int .u64 0, .int .u64 0, .int .u64 0, .slice none 0 0] 28)) w.heap.size 101 #[.pointer (some ⟨gp, 0, none⟩), .int .i64 A]) := Lib.hid ((Blk.new w _ _).alloc _)
  have HR : Hid (Blk ((w.alloc (.cells #[.pointer (some ⟨gp, 0, none⟩), .int .i64 A] 101)).alloc (.cells #[.int .i64 0, .int .i64 0, .int .i64 0, .int .i64 0, .slice none 0 0, .int .u64 0, .int .u64 0, .int .u64 0, .int .u64 0, .slice none 0 0] 28)) (w.heap.size + 1) 28 #[.int .i64 0, .int .i64 0, .int .i64 0, .int .i64 0, .slice none 0 0, .int .u64 0, .int .u64 0, .int .u64 0, .int .u64 0, .slice none 0 0]) := Lib.hid (two_new' _ _ _ _)
  have HM := Lib.hid (hM _ HB.out)
  have q0 : (c != 0) = true := by simpa using hc0
  clear _hX _hg hM hc0
  go_enter Try.func29, Try.ntmps29
  go_upto_region 1 with fail
  generalize (w.alloc (.cells #[.pointer (some ⟨gp, 0, none⟩), .int .i64 A] 101)).alloc (.cells #[.int .i64 0, .int .i64 0, .int .i64 0, .int .i64 0, .slice none 0 0, .int .u64 0, .int .u64 0, .int .u64 0, .int .u64 0, .slice none 0 0] 28) = W at *
  have HLE : Hid (w.heap.size ≤ W.heap.size) := Lib.hid HB.out.size
  have HSR : Hid (w.heap.size ≤ w.heap.size + 1) := Lib.hid (Nat.le_succ _)
  generalize w.heap.size + 1 = gr at *
  generalize hgc : w.heap.size = gc at *
  have hc := HC.out.cell
  have k0 := hc 0
  have k1 := hc 1
  clear hc
  go_upto_region 2 with (go_at_call 47; (with_reducible refine HM.out.mono ?_); rintro e w1 ⟨rfl, hb1⟩; have HB1 := Lib.hid (HB.out.trans (hb1.mono HLE.out)); have HL1 := Lib.hid (Nat.le_trans HLE.out hb1.size); have HR1 := Lib.hid (HR.out.keep hb1); clear hb1)
  have HR2 := Lib.hid (HR1.out.alloc (.cells #[.int .i64 op, .int .i64 a, .int .i64 r, .int .i64 b, .slice none 0 0, .int .u64 S.a, .int .u64 S.b, .int .u64 S.c, .int .u64 S.d, .slice none 0 0] 28))
  have HB2 : Hid (Below gc w (w1.alloc (.cells #[.int .i64 op, .int .i64 a, .int .i64 r, .int .i64 b, .slice none 0 0, .int .u64 S.a, .int .u64 S.b, .int .u64 S.c, .int .u64 S.d, .slice none 0 0] 28))) := Lib.hid (HB1.out.alloc HL1.out _)
  generalize w1.alloc (.cells #[.int .i64 op, .int .i64 a, .int .i64 r, .int .i64 b, .slice none 0 0, .int .u64 S.a, .int .u64 S.b, .int .u64 S.c, .int .u64 S.d, .slice none 0 0] 28) = W2 at *
  generalize w1.heap.size = g6 at *
  clear k0 k1
  have hr := HR2.out.cell
  have r0 := hr 0
  have r1 := hr 1
  have r2 := hr 2
  have r3 := hr 3
  have r4 := hr 4
  have r5 := hr 5
  have r6 := hr 6
  have r7 := hr 7
  have r8 := hr 8
  have r9 := hr 9
  have rf := HR2.out.frozen
  clear hr
  go_wp2_with fail
  exact bodyPost_ret (v := .tuple #[.agg #[.int .i64 0, .int .i64 0, .int .i64 0, .int .i64 0, .slice none 0 0, .int .u64 0, .int .u64 0, .int .u64 0, .int .u64 0, .slice none 0 0], .int .i64 c]) (exprcode_ret (S := S4.zero) (op := 0) (a := 0) (r := 0) (b := 0) (vn := .slice none 0 0) (vk := .slice none 0 0) (c := c) Try.results29 rfl rfl (HR2.out.store10x _ _ _ _ _ _ _ _ _ _)) rfl ⟨rfl, by first | exact (below_set10 HB2.out HSR.out _ _ _ _ _ _ _ _ _ _) | (rw [hgc]; exact (below_set10 HB2.out HSR.out _ _ _ _ _ _ _ _ _ _))⟩
end Go.Proofs.Ytamcfmfkmekkfaa
/- constraint.Compile. -/
namespace Go.Proofs.Ytamcfmfkmekkfaa
open Go.RowKit Go
theorem three_new' (w : World) (o1 o2 : Obj) (t3 : TypeId) (c3 : Array Value) : Blk (((w.alloc o1).alloc o2).alloc (.cells c3 t3)) (w.heap.size + 1 + 1) t3 c3 := by
  have h := Blk.new ((w.alloc o1).alloc o2) t3 c3
  rw [World.size_alloc, World.size_alloc] at h
  exact h
set_option maxRecDepth 100000 in
set_option maxHeartbeats 16000000 in
theorem compileTop_c (x : X) (vn vk : Value) (b0 b1 b2 b3 b4 b5 b6 b7 b8 b9 b10 b11 b12 b13 b14 b15 b16 : Value) (vd : Bool) (op a r b c : Int) (S : S4) (w : World) (hV : XV w vn vk x) (hm : more 12 x = false)
    (hM : ∀ W gp g, Kp w W → Blk W gp 60 #[b0, b1, b2, b3, b4, b5, b6, b7, b8, b9, b10, b11, b12, b13, b14, b15, b16] → XAt W g 0 x → g < W.heap.size → Calls Try.prog 29 #[.agg #[.pointer (some ⟨gp, 0, none⟩), .int .i64 (if vd then 15 else 10)], .pointer (some ⟨g, 0, none⟩)] W fun e w' => e = .returned (.tuple #[.agg #[.int .i64 op, .int .i64 a, .int .i64 r, .int .i64 b, .slice none 0 0, .int .u64 S.a, .int .u64 S.b, .int .u64 S.c, .int .u64 S.d, .slice none 0 0], .int .i64 c]) ∧ Below W.heap.size W w') :
    Calls Try.prog 15 #[.agg #[.int .i64 x.op, .int .i64 x.a, .int .i64 x.r, .int .i64 x.b, vn, .int .u64 x.st.a, .int .u64 x.st.b, .int .u64 x.st.c, .int .u64 x.st.d, vk], .agg #[b0, b1, b2, b3, b4, b5, b6, b7, b8, b9, b10, b11, b12, b13, b14, b15, b16], .bool vd] w fun e w' => e = .returned (.tuple #[.agg #[.int .i64 op, .int .i64 a, .int .i64 r, .int .i64 b, .slice none 0 0, .int .u64 S.a, .int .u64 S.b, .int .u64 S.c, .int .u64 S.d, .slice none 0 0], .int .i64 c]) ∧ Below w.heap.size w w' := by
  have HB : Hid (Below w.heap.size w (((w.alloc (.cells #[.int .i64 x.op, .int .i64 x.a, .int .i64 x.r, .int .i64 x.b, vn, .int .u64 x.st.a, .int .u64 x.st.b, .int .u64 x.st.c, .int .u64 x.st.d, vk] 28)).alloc (.cells #[b0, b1, b2, b3, b4, b5, b6, b7, b8, b9, b10, b11, b12, b13, b14, b15, b16] 60)).alloc (.cells #[.int .i64 0, .int .i64 0, .int .i64 0, .int .i64 0, .slice none 0 0, .int .u64 0, .int .u64 0, .int .u64 0, .int .u64 0, .slice none 0 0] 28))) := Lib.hid ((((Below.refl _ _).alloc (Nat.le_refl _) _).alloc (by simp) _).alloc (by simp; omega) _)
  have HXB : Hid (Blk (((w.alloc (.cells #[.int .i64 x.op, .int .i64 x.a, .int .i64 x.r, .int .i64 x.b, vn, .int .u64 x.st.a, .int .u64 x.st.b, .int .u64 x.st.c, .int .u64 x.st.d, vk] 28)).alloc (.cells #[b0, b1, b2, b3, b4, b5, b6, b7, b8, b9, b10, b11, b12, b13, b14, b15, b16] 60)).alloc (.cells #[.int .i64 0, .int .i64 0, .int .i64 0, .int .i64 0, .slice none 0 0, .int .u64 0, .int .u64 0, .int .u64 0, .int .u64 0, .slice none 0 0] 28)) w.heap.size 28 #[.int .i64 x.op, .int .i64 x.a, .int .i64 x.r, .int .i64 x.b, vn, .int .u64 x.st.a, .int .u64 x.st.b, .int .u64 x.st.c, .int .u64 x.st.d, vk]) := Lib.hid (((Blk.new w _ _).alloc _).alloc _)
  have HP : Hid (Blk (((w.alloc (.cells #[.int .i64 x.op, .int .i64 x.a, .int .i64 x.r, .int .i64 x.b, vn, .int .u64 x.st.a, .int .u64 x.st.b, .int .u64 x.st.c, .int .u64 x.st.d, vk] 28)).alloc (.cells #[b0, b1, b2, b3, b4, b5, b6, b7, b8, b9, b10, b11, b12, b13, b14, b15, b16] 60)).alloc (.cells #[.int .i64 0, .int .i64 0, .int .i64 0, .int .i64 0, .slice none 0 0, .int .u64 0, .int .u64 0, .int .u64 0, .int .u64 0, .slice none 0 0] 28)) (w.heap.size + 1) 60 #[b0, b1, b2, b3, b4, b5, b6, b7, b8, b9, b10, b11, b12, b13, b14, b15, b16]) := Lib.hid ((two_new' _ _ _ _).alloc _)
  have HR : Hid (Blk (((w.alloc (.cells #[.int .i64 x.op, .int .i64 x.a, .int .i64 x.r, .int .i64 x.b, vn, .int .u64 x.st.a, .int .u64 x.st.b, .int .u64 x.st.c, .int .u64 x.st.d, vk] 28)).alloc (.cells #[b0, b1, b2, b3, b4, b5, b6, b7, b8, b9, b10, b11, b12, b13, b14, b15, b16] 60)).alloc (.cells #[.int .i64 0, .int .i64 0, .int .i64 0, .int .i64 0, .slice none 0 0, .int .u64 0, .int .u64 0, .int .u64 0, .int .u64 0, .slice none 0 0] 28)) (w.heap.size + 1 + 1) 28 #[.int .i64 0, .int .i64 0, .int .i64 0, .int .i64 0, .slice none 0 0, .int .u64 0, .int .u64 0, .int .u64 0, .int .u64 0, .slice none 0 0]) := Lib.hid (three_new' _ _ _ _ _)
  have HX := Lib.hid ((hV.keep HB.out).at HXB.out)
  have HG : Hid (w.heap.size < (((w.alloc (.cells #[.int .i64 x.op, .int .i64 x.a, .int .i64 x.r, .int .i64 x.b, vn, .int .u64 x.st.a, .int .u64 x.st.b, .int .u64 x.st.c, .int .u64 x.st.d, vk] 28)).alloc (.cells #[b0, b1, b2, b3, b4, b5, b6, b7, b8, b9, b10, b11, b12, b13, b14, b15, b16] 60)).alloc (.cells #[.int .i64 0, .int .i64 0, .int .i64 0, .int .i64 0, .slice none 0 0, .int .u64 0, .int .u64 0, .int .u64 0, .int .u64 0, .slice none 0 0] 28)).heap.size) := Lib.hid HXB.out.lt
  obtain ⟨A, hA⟩ : ∃ A : Int, (if vd = true then (15 : Int) else 10) = A := ⟨_, rfl⟩
  rw [hA] at hM
  have HM := Lib.hid hM
  have hAT := fun u => attributes_c vd u
  simp only [hA] at hAT
  have HAT := Lib.hid hAT
  clear hAT hA
  have HMM := Lib.hid hm
  clear hV hM hm
  go_enter Try.func15, Try.ntmps15
  go_upto_region 1 with fail
  generalize ((w.alloc (.cells #[.int .i64 x.op, .int .i64 x.a, .int .i64 x.r, .int .i64 x.b, vn, .int .u64 x.st.a, .int .u64 x.st.b, .int .u64 x.st.c, .int .u64 x.st.d, vk] 28)).alloc (.cells #[b0, b1, b2, b3, b4, b5, b6, b7, b8, b9, b10, b11, b12, b13, b14, b15, b16] 60)).alloc (.cells #[.int .i64 0, .int .i64 0, .int .i64 0, .int .i64 0, .slice none 0 0, .int .u64 0, .int .u64 0, .int .u64 0, .int .u64 0, .slice none 0 0] 28) = W at *
  have HLE : Hid (w.heap.size ≤ W.heap.size) := Lib.hid HB.out.size
  have HSR : Hid (w.heap.size ≤ w.heap.size + 1 + 1) := Lib.hid (by omega)
  have HTD := Lib.hid (tooDeep_c x w.heap.size 0 W HX.out HG.out)
  rw [HMM.out] at HTD
  have HM2 := Lib.hid (fun W1 (h : Kp W W1) => HM.out W1 (w.heap.size + 1) w.heap.size (HB.out.trans (h.mono HLE.out)) (HP.out.keep h) (HX.out.keep h HG.out) (Nat.lt_of_lt_of_le HG.out h.size))
  clear HM
  generalize w.heap.size + 1 + 1 = gr at *
  generalize w.heap.size + 1 = gp at *
  generalize hgc : w.heap.size = gc at *
  go_wp2_with (first
    | (go_at_call 27; (with_reducible refine HTD.out.mono ?_); rintro e w1 ⟨rfl, hb1⟩; have HK1 : Hid (Kp W w1) := Lib.hid hb1; clear hb1)
    | (go_at_call 28; (with_reducible refine (HAT.out _).mono ?_); rintro e w2 ⟨rfl, hb2⟩; have HK2 := Lib.hid (Kp.step HK1.out hb2); clear hb2)
    | (go_at_call 29; (refine (HM2.out _ HK2.out).mono ?_); rintro e w3 ⟨rfl, hb3⟩; have HK3 := Lib.hid (Kp.step HK2.out hb3); have HB3 := Lib.hid (HB.out.trans (Below.mono HK3.out HLE.out)); have HR3 := Lib.hid (HR.out.keep HK3.out); have hr := HR3.out.cell; have r0 := hr 0; have r1 := hr 1; have r2 := hr 2; have r3 := hr 3; have r4 := hr 4; have r5 := hr 5; have r6 := hr 6; have r7 := hr 7; have r8 := hr 8; have r9 := hr 9; have rf := HR3.out.frozen; clear hr; clear hb3))
  exact bodyPost_ret (v := .tuple #[.agg #[.int .i64 op, .int .i64 a, .int .i64 r, .int .i64 b, .slice none 0 0, .int .u64 S.a, .int .u64 S.b, .int .u64 S.c, .int .u64 S.d, .slice none 0 0], .int .i64 c]) (exprcode_ret (S := S) (op := op) (a := a) (r := r) (b := b) (vn := .slice none 0 0) (vk := .slice none 0 0) (c := c) Try.results15 rfl rfl (HR3.out.store10x _ _ _ _ _ _ _ _ _ _)) rfl ⟨rfl, by first | exact (below_set10 HB3.out HSR.out _ _ _ _ _ _ _ _ _ _) | (rw [hgc]; exact (below_set10 HB3.out HSR.out _ _ _ _ _ _ _ _ _ _))⟩
end Go.Proofs.Ytamcfmfkmekkfaa
/- constraint.Check at an expression without operands and sets. -/
namespace Go.Proofs.Ytamcfmfkmekkfaa
open Go.RowKit Go
set_option maxRecDepth 100000 in
set_option maxHeartbeats 16000000 in
theorem kclos_c (x : X) (g o ga gq : Nat) (A : Int) (w : World) (hX : XAt w g o x) (hg : g < w.heap.size) (h9 : x.op ≠ 9) (ha : Blk w ga 3 #[.int .i64 A]) :
    Calls Try.prog 48 #[.pointer (some ⟨g, o, none⟩), .pointer (some ⟨ga, 0, none⟩), .pointer (some ⟨gq, 0, none⟩)] w fun e w' => e = .returned (.int .i64 (opE A x)) ∧ Below w.heap.size w w' := by
  obtain ⟨ao, cap, ak, ck, hxc, -, -⟩ := hX.xc
  have HOC := Lib.hid (operator_c g o x.op x.a x.r x.b ao x.ns.length cap x.st ak x.ks.length ck A w hxc hg)
  have HE : Hid (operE A x.op x.a x.r x.b x.ns.length x.st x.ks.length = opE A x) := Lib.hid rfl
  rw [HE.out] at HOC
  generalize opE A x = code at *
  have HX := Lib.hid hxc
  have HG := Lib.hid hg
  have q9 : (x.op != 9) = true := by simpa using h9
  have a0 := ha.cell 0
  clear hX hxc hg h9 ha HE
  by_cases hc : code = 0
  · subst hc
    go_enter Try.func48, Try.ntmps48
    go_wp2_with (go_at_call 33; (with_reducible refine HOC.out.mono ?_); rintro e w1 ⟨rfl, hb1⟩; have HB1 := Lib.hid hb1; obtain ⟨y0, y1, y2, y3, y4, y5, y6, y7, y8, y9⟩ := (HX.out.keep (hb1.block g HG.out)).cells; clear hb1 y1 y2 y3 y4 y5 y6 y7 y8 y9)
    go_ret
    exact ⟨rfl, HB1.out⟩
  · have q0 : (code != 0) = true := by simpa using hc
    clear hc
    go_enter Try.func48, Try.ntmps48
    go_wp2_with (go_at_call 33; (with_reducible refine HOC.out.mono ?_); rintro e w1 ⟨rfl, hb1⟩; have HB1 := Lib.hid hb1; clear hb1)
    go_ret
    exact ⟨rfl, HB1.out⟩
set_option maxRecDepth 100000 in
set_option maxHeartbeats 16000000 in
theorem kfirst_c (x : X) (g o ga gq : Nat) (A : Int) (w : World) (hX : XAt w g o x) (hg : g < w.heap.size) (hks : x.ks.length = 0) (h9 : x.op ≠ 9) (ha : Blk w ga 3 #[.int .i64 A]) :
    Calls Try.prog 50 #[.pointer (some ⟨g, o, none⟩), .func (.func 48) #[] #[.pointer (some ⟨ga, 0, none⟩), .pointer (some ⟨gq, 0, none⟩)]] w fun e w' => e = .returned (.int .i64 (opE A x)) ∧ Below w.heap.size w w' := by
  have HC := Lib.hid (kclos_c x g o ga gq A w hX hg h9 ha)
  generalize opE A x = code at *
  obtain ⟨ao, cap, ak, ck, hxc, -, -⟩ := hX.xc
  rw [hks] at hxc
  have HX := Lib.hid hxc
  have HG := Lib.hid hg
  clear hX hxc hg h9 ha hks
  by_cases hc : code = 0
  · subst hc
    go_enter Try.func50, Try.ntmps50
    go_wp2_with (go_at_call 48; (with_reducible refine HC.out.mono ?_); rintro e w1 ⟨rfl, hb1⟩; have HB1 := Lib.hid hb1; obtain ⟨y0, y1, y2, y3, y4, y5, y6, y7, y8, y9⟩ := (HX.out.keep (hb1.block g HG.out)).cells; clear hb1 y0 y1 y2 y3 y4 y5 y6 y7 y8)
    go_loopw [6, 7, 19] (fun v6 v7 v19 wr => v19 = .int .i64 0 ∧ wr = w1) (fun _ _ _ _ => 0)
    case atStart => exact ⟨rfl, rfl⟩
    case round =>
      obtain ⟨rfl, rfl⟩ := hrel
      go_wp2_with fail
      go_ret
      exact ⟨rfl, HB1.out⟩
  · have q0 : (code != 0) = true := by simpa using hc
    clear hc
    go_enter Try.func50, Try.ntmps50
    go_wp2_with (go_at_call 48; (with_reducible refine HC.out.mono ?_); rintro e w1 ⟨rfl, hb1⟩; have HB1 := Lib.hid hb1; clear hb1)
    go_ret
    exact ⟨rfl, HB1.out⟩
set_option maxRecDepth 100000 in
set_option maxHeartbeats 16000000 in
theorem kcheck_c (x : X) (g o ga gq : Nat) (A : Int) (w : World) (hX : XAt w g o x) (hg : g < w.heap.size) (hks : x.ks.length = 0) (h9 : x.op ≠ 9) (ha : Blk w ga 3 #[.int .i64 A]) :
    Calls Try.prog 31 #[.pointer (some ⟨g, o, none⟩), .func (.func 48) #[] #[.pointer (some ⟨ga, 0, none⟩), .pointer (some ⟨gq, 0, none⟩)]] w fun e w' => e = .returned (.int .i64 (opE A x)) ∧ Below w.heap.size w w' := by
  have HT := Lib.hid (tooDeep_c x g o w hX hg)
  have hm : more 12 x = false := by
    have e : x.ks = [] := List.eq_nil_of_length_eq_zero hks
    show x.ks.any (more 11) = false
    rw [e]; rfl
  rw [hm] at HT
  have HC := Lib.hid (fun W (h : Kp w W) => kfirst_c x g o ga gq A W (hX.keep h hg) (Nat.lt_of_lt_of_le hg h.size) hks h9 (ha.keep h))
  generalize opE A x = code at *
  clear hX hg hks h9 ha hm
  go_enter Try.func31, Try.ntmps31
  go_wp2_with (first
    | (go_at_call 27; (with_reducible refine HT.out.mono ?_); rintro e w1 ⟨rfl, hb1⟩; have HB1 : Hid (Kp w w1) := Lib.hid hb1; clear hb1)
    | (go_at_call 50; (refine (HC.out _ HB1.out).mono ?_); rintro e w2 ⟨rfl, hb2⟩; have HB2 := Lib.hid (Kp.step HB1.out hb2); clear hb2))
  go_ret
  exact ⟨rfl, HB2.out⟩
set_option maxRecDepth 100000 in
set_option maxHeartbeats 16000000 in
theorem kconstraint_c (x : X) (g o gp : Nat) (vd : Bool) (w : World) (hX : XAt w g o x) (hg : g < w.heap.size) (hks : x.ks.length = 0) (h9 : x.op ≠ 9) :
    Calls Try.prog 30 #[.pointer (some ⟨g, o, none⟩), .pointer (some ⟨gp, 0, none⟩), .bool vd] w fun e w' => e = .returned (.int .i64 (opE (if vd then 15 else 10) x)) ∧ Below w.heap.size w w' := by
  obtain ⟨A, hA⟩ : ∃ A : Int, (if vd = true then (15 : Int) else 10) = A := ⟨_, rfl⟩
  rw [hA]
  have hAT := fun u => attributes_c vd u
  simp only [hA] at hAT
  have HAT := Lib.hid hAT
  clear hAT hA
  have HC := Lib.hid (fun gq W ga (h : Kp w W) (hb : Blk W ga 3 #[.int .i64 A]) => kcheck_c x g o ga gq A W (hX.keep h hg) (Nat.lt_of_lt_of_le hg h.size) hks h9 hb)
  generalize opE A x = code at *
  have HB : Hid (Kp w (w.alloc (.cells #[.pointer (some ⟨gp, 0, none⟩)] 98))) := Lib.hid ((Below.refl _ _).alloc (Nat.le_refl _) _)
  clear hX hg hks h9
  go_enter Try.func30, Try.ntmps30
  go_upto_region 2 with (go_at_call 28; (with_reducible refine (HAT.out _).mono ?_); rintro e w1 ⟨rfl, hb1⟩; have HB1 := Lib.hid (Kp.step HB.out hb1); clear hb1)
  have HA2 : Hid (Blk (w1.alloc (.cells #[.int .i64 A] 3)) w1.heap.size 3 #[.int .i64 A]) := Lib.hid (Blk.new w1 _ _)
  have HB2 := Lib.hid (Kp.alloc HB1.out (.cells #[.int .i64 A] 3))
  generalize w1.alloc (.cells #[.int .i64 A] 3) = W2 at *
  generalize w1.heap.size = ga at *
  go_wp2_with (go_at_call 31; (refine (HC.out _ _ ga HB2.out HA2.out).mono ?_); rintro e w3 ⟨rfl, hb3⟩; have HB3 := Lib.hid (Kp.step HB2.out hb3); clear hb3)
  go_ret
  exact ⟨rfl, HB3.out⟩
set_option maxRecDepth 100000 in
set_option maxHeartbeats 16000000 in
theorem check_leaf (x : X) (vn vk : Value) (b0 b1 b2 b3 b4 b5 b6 b7 b8 b9 b10 b11 b12 b13 b14 b15 b16 : Value) (vd : Bool) (w : World) (hV : XV w vn vk x) (hks : x.ks.length = 0) (h9 : x.op ≠ 9) :
    Calls Try.prog 19 #[.agg #[.int .i64 x.op, .int .i64 x.a, .int .i64 x.r, .int .i64 x.b, vn, .int .u64 x.st.a, .int .u64 x.st.b, .int .u64 x.st.c, .int .u64 x.st.d, vk], .agg #[b0, b1, b2, b3, b4, b5, b6, b7, b8, b9, b10, b11, b12, b13, b14, b15, b16], .bool vd] w fun e w' => e = .returned (.int .i64 (opE (if vd then 15 else 10) x)) ∧ Below w.heap.size w w' := by
  have HB : Hid (Below w.heap.size w ((w.alloc (.cells #[.int .i64 x.op, .int .i64 x.a, .int .i64 x.r, .int .i64 x.b, vn, .int .u64 x.st.a, .int .u64 x.st.b, .int .u64 x.st.c, .int .u64 x.st.d, vk] 28)).alloc (.cells #[b0, b1, b2, b3, b4, b5, b6, b7, b8, b9, b10, b11, b12, b13, b14, b15, b16] 60))) := Lib.hid (((Below.refl _ _).alloc (Nat.le_refl _) _).alloc (by simp) _)
  have HXB : Hid (Blk ((w.alloc (.cells #[.int .i64 x.op, .int .i64 x.a, .int .i64 x.r, .int .i64 x.b, vn, .int .u64 x.st.a, .int .u64 x.st.b, .int .u64 x.st.c, .int .u64 x.st.d, vk] 28)).alloc (.cells #[b0, b1, b2, b3, b4, b5, b6, b7, b8, b9, b10, b11, b12, b13, b14, b15, b16] 60)) w.heap.size 28 #[.int .i64 x.op, .int .i64 x.a, .int .i64 x.r, .int .i64 x.b, vn, .int .u64 x.st.a, .int .u64 x.st.b, .int .u64 x.st.c, .int .u64 x.st.d, vk]) := Lib.hid ((Blk.new w _ _).alloc _)
  have HC := Lib.hid (kconstraint_c x w.heap.size 0 (w.heap.size + 1) vd _ ((hV.keep HB.out).at HXB.out) HXB.out.lt hks h9)
  generalize opE (if vd then 15 else 10) x = code at *
  clear hV hks h9 HXB
  go_enter Try.func19, Try.ntmps19
  go_upto_region 1 with fail
  generalize (w.alloc (.cells #[.int .i64 x.op, .int .i64 x.a, .int .i64 x.r, .int .i64 x.b, vn, .int .u64 x.st.a, .int .u64 x.st.b, .int .u64 x.st.c, .int .u64 x.st.d, vk] 28)).alloc (.cells #[b0, b1, b2, b3, b4, b5, b6, b7, b8, b9, b10, b11, b12, b13, b14, b15, b16] 60) = W at *
  go_wp2_with (go_at_call 30; (with_reducible refine HC.out.mono ?_); rintro e w1 ⟨rfl, hb1⟩; have HB1 := Lib.hid (HB.out.trans (hb1.mono HB.out.size)); clear hb1)
  go_ret
  exact ⟨rfl, HB1.out⟩
end Go.Proofs.Ytamcfmfkmekkfaa
/- constraint.Denied. -/
namespace Go.Proofs.Ytamcfmfkmekkfaa
open Go.RowKit Go
structure PCo where
  (cl pm : Int) (vd : Bool) (e : X)
def CCo (w : World) (g o : Nat) (x : PCo) : Prop := w.cell? ⟨g, o, none⟩ = some (.int .i64 x.cl) ∧ w.cell? ⟨g, o + 1, none⟩ = some (.int .u32 x.pm) ∧ w.cell? ⟨g, o + 2, none⟩ = some (.bool x.vd) ∧ XAt w g (o + 3) x.e ∧ I64 x.cl ∧ U32 x.pm
theorem CCo.keep {w w' : World} (hb : Below w.heap.size w w') {g o : Nat} {x : PCo} (hg : g < w.heap.size) (h : CCo w g o x) : CCo w' g o x := by
  obtain ⟨h0, h1, h2, h3, hw⟩ := h
  exact ⟨(hb.cell (p := ⟨g, o, none⟩) hg).trans h0, (hb.cell (p := ⟨g, o + 1, none⟩) hg).trans h1, (hb.cell (p := ⟨g, o + 2, none⟩) hg).trans h2, XAt.keep hb hg h3, hw⟩
def zcl : Lv := ⟨0, 0, by decide⟩
def nocx : Cx := ⟨0, 0, 0, zcl, zcl⟩
/-- what constraints forbid, from the i-th on -/
def dnL (ev : X → Bool) (cl : Int) : Nat → List PCo → Int → Int → Int × Int
  | _, [], d, f => (d, f)
  | i, x :: r, d, f => if x.vd = true ∨ x.cl ≠ cl ∨ ev x.e = true then dnL ev cl (i + 1) r d f else dnL ev cl (i + 1) r (bits .or .u32 d x.pm) (if f = -1 then (i : Int) else f)
set_option maxRecDepth 100000 in
set_option maxHeartbeats 32000000 in
theorem denied_c (b0 b1 b2 b3 b4 b5 b6 b7 b8 b9 b10 b11 b12 b13 b14 b15 b16 : Value) (cl : Int) (s t : Cx) (L : List PCo) (w : World) (hL : SlR 13 CCo w b13 L) (hl : L.length ≤ maxLen) :
    Calls Try.prog 18 #[.agg #[b0, b1, b2, b3, b4, b5, b6, b7, b8, b9, b10, b11, b12, b13, b14, b15, b16], .int .i64 cl, .agg #[.int .i64 s.u, .int .i64 s.ro, .int .i64 s.ty, .int .i64 s.lo.s, .int .u64 s.lo.c, .int .i64 s.hi.s, .int .u64 s.hi.c], .agg #[.int .i64 t.u, .int .i64 t.ro, .int .i64 t.ty, .int .i64 t.lo.s, .int .u64 t.lo.c, .int .i64 t.hi.s, .int .u64 t.hi.c]] w fun e w' => e = .returned (.tuple #[.int .u32 (dnL (evX ⟨s, t, nocx⟩) cl 0 L 0 (-1)).1, .int .i64 (dnL (evX ⟨s, t, nocx⟩) cl 0 L 0 (-1)).2]) ∧ Below w.heap.size w w' := by
  obtain ⟨R, hR⟩ : ∃ R, dnL (evX ⟨s, t, nocx⟩) cl 0 L 0 (-1) = R := ⟨_, rfl⟩
  rw [hR]
  have HR0 := Lib.hid hR
  obtain ⟨ak, ck, rfl, -, -⟩ := id hL
  have HB : Hid (Below w.heap.size w (((w.alloc (.cells #[b0, b1, b2, b3, b4, b5, b6, b7, b8, b9, b10, b11, b12, .slice ak L.length ck, b14, b15, b16] 60)).alloc (.cells #[.int .i64 s.u, .int .i64 s.ro, .int .i64 s.ty, .int .i64 s.lo.s, .int .u64 s.lo.c, .int .i64 s.hi.s, .int .u64 s.hi.c] 34)).alloc (.cells #[.int .i64 t.u, .int .i64 t.ro, .int .i64 t.ty, .int .i64 t.lo.s, .int .u64 t.lo.c, .int .i64 t.hi.s, .int .u64 t.hi.c] 34))) := Lib.hid ((((Below.refl _ _).alloc (Nat.le_refl _) _).alloc (by simp) _).alloc (by simp; omega) _)
  have HP : Hid (Blk (((w.alloc (.cells #[b0, b1, b2, b3, b4, b5, b6, b7, b8, b9, b10, b11, b12, .slice ak L.length ck, b14, b15, b16] 60)).alloc (.cells #[.int .i64 s.u, .int .i64 s.ro, .int .i64 s.ty, .int .i64 s.lo.s, .int .u64 s.lo.c, .int .i64 s.hi.s, .int .u64 s.hi.c] 34)).alloc (.cells #[.int .i64 t.u, .int .i64 t.ro, .int .i64 t.ty, .int .i64 t.lo.s, .int .u64 t.lo.c, .int .i64 t.hi.s, .int .u64 t.hi.c] 34)) w.heap.size 60 #[b0, b1, b2, b3, b4, b5, b6, b7, b8, b9, b10, b11, b12, .slice ak L.length ck, b14, b15, b16]) := Lib.hid (((Blk.new w _ _).alloc _).alloc _)
  have HCS : Hid (Blk (((w.alloc (.cells #[b0, b1, b2, b3, b4, b5, b6, b7, b8, b9, b10, b11, b12, .slice ak L.length ck, b14, b15, b16] 60)).alloc (.cells #[.int .i64 s.u, .int .i64 s.ro, .int .i64 s.ty, .int .i64 s.lo.s, .int .u64 s.lo.c, .int .i64 s.hi.s, .int .u64 s.hi.c] 34)).alloc (.cells #[.int .i64 t.u, .int .i64 t.ro, .int .i64 t.ty, .int .i64 t.lo.s, .int .u64 t.lo.c, .int .i64 t.hi.s, .int .u64 t.hi.c] 34)) (w.heap.size + 1) 34 #[.int .i64 s.u, .int .i64 s.ro, .int .i64 s.ty, .int .i64 s.lo.s, .int .u64 s.lo.c, .int .i64 s.hi.s, .int .u64 s.hi.c]) := Lib.hid ((two_new' _ _ _ _).alloc _)
  have HCT : Hid (Blk (((w.alloc (.cells #[b0, b1, b2, b3, b4, b5, b6, b7, b8, b9, b10, b11, b12, .slice ak L.length ck, b14, b15, b16] 60)).alloc (.cells #[.int .i64 s.u, .int .i64 s.ro, .int .i64 s.ty, .int .i64 s.lo.s, .int .u64 s.lo.c, .int .i64 s.hi.s, .int .u64 s.hi.c] 34)).alloc (.cells #[.int .i64 t.u, .int .i64 t.ro, .int .i64 t.ty, .int .i64 t.lo.s, .int .u64 t.lo.c, .int .i64 t.hi.s, .int .u64 t.hi.c] 34)) (w.heap.size + 1 + 1) 34 #[.int .i64 t.u, .int .i64 t.ro, .int .i64 t.ty, .int .i64 t.lo.s, .int .u64 t.lo.c, .int .i64 t.hi.s, .int .u64 t.hi.c]) := Lib.hid (three_new' _ _ _ _ _)
  have HL := Lib.hid (hL.keep (fun hg k => CCo.keep HB.out hg k) HB.out)
  have hkI : (L.length : Int) ≤ 9223372036854775807 := by unfold maxLen at hl; omega
  clear hL hl hR
  go_enter Try.func18, Try.ntmps18
  go_upto_region 1 with fail
  generalize ((w.alloc (.cells #[b0, b1, b2, b3, b4, b5, b6, b7, b8, b9, b10, b11, b12, .slice ak L.length ck, b14, b15, b16] 60)).alloc (.cells #[.int .i64 s.u, .int .i64 s.ro, .int .i64 s.ty, .int .i64 s.lo.s, .int .u64 s.lo.c, .int .i64 s.hi.s, .int .u64 s.hi.c] 34)).alloc (.cells #[.int .i64 t.u, .int .i64 t.ro, .int .i64 t.ty, .int .i64 t.lo.s, .int .u64 t.lo.c, .int .i64 t.hi.s, .int .u64 t.hi.c] 34) = W at *
  have HLE : Hid (w.heap.size ≤ W.heap.size) := Lib.hid HB.out.size
  generalize w.heap.size + 1 + 1 = gt at *
  generalize w.heap.size + 1 = gs at *
  generalize hgp : w.heap.size = gp at *
  have hp := HP.out.cell
  have p13 := hp 13
  clear hp
  go_wp2_with fail
  go_loopw [10, 11, 12, 13, 17] (fun v10 v11 v12 v13 v17 wr => ∃ (i : Nat) (d f : Int), i ≤ L.length ∧ v10 = .int .u32 d ∧ v11 = .int .i64 f ∧ v17 = .int .i64 i ∧ Hid (dnL (evX ⟨s, t, nocx⟩) cl i (L.drop i) d f = R) ∧ Hid (Kp W wr)) (fun _ _ _ _ v17 _ => L.length - (intOf v17).toNat)
  case atStart => exact ⟨0, 0, -1, Nat.zero_le _, rfl, rfl, rfl, Lib.hid (by rw [List.drop_zero]; exact HR0.out), Lib.hid Kp.rfl'⟩
  case round =>
    clear p13
    obtain ⟨i, d, f, hi, rfl, rfl, rfl, HM, HK⟩ := hrel
    have HBK : Hid (Below gp w wr) := Lib.hid (kpb HB.out HLE.out HK.out)
    by_cases hlt : i < L.length
    · have hlt' : (i : Int) < (L.length : Int) := by omega
      obtain ⟨y, hy⟩ : ∃ y, L[i] = y := ⟨_, rfl⟩
      have HD : Hid (L.drop i = y :: L.drop (i + 1)) := Lib.hid (by rw [List.drop_eq_getElem_cons hlt, hy])
      rw [HD.out] at HM
      obtain ⟨g, o, rfl, hg, hRow⟩ := HL.out.row hlt
      have hA := hRow i hlt
      rw [hy] at hA
      have HCO := Lib.hid (hA.keep HK.out hg)
      have HG : Hid (g < wr.heap.size) := Lib.hid (Nat.lt_of_lt_of_le hg (Below.size HK.out))
      obtain ⟨c0, c1, c2, hx3, -, -⟩ := HCO.out
      obtain ⟨ao, cap, ak2, ck2, hxc, hxv⟩ := hx3.xv
      have HXC := Lib.hid hxc
      have r13 := (HP.out.keep HK.out).cell 13
      have HEV : Hid (∀ u, Kp wr u → Calls Try.prog 8 #[.agg #[.int .i64 (y.e).op, .int .i64 (y.e).a, .int .i64 (y.e).r, .int .i64 (y.e).b, .slice ao y.e.ns.length cap, .int .u64 (y.e).st.a, .int .u64 (y.e).st.b, .int .u64 (y.e).st.c, .int .u64 (y.e).st.d, .slice ak2 y.e.ks.length ck2], .agg #[.int .i64 s.u, .int .i64 s.ro, .int .i64 s.ty, .int .i64 s.lo.s, .int .u64 s.lo.c, .int .i64 s.hi.s, .int .u64 s.hi.c, .int .i64 t.u, .int .i64 t.ro, .int .i64 t.ty, .int .i64 t.lo.s, .int .u64 t.lo.c, .int .i64 t.hi.s, .int .u64 t.hi.c, .int .i64 0, .int .i64 0, .int .i64 0, .int .i64 0, .int .u64 0, .int .i64 0, .int .u64 0]] u fun e w' => e = .returned (.bool (evX ⟨s, t, nocx⟩ y.e)) ∧ Below u.heap.size u w') := Lib.hid fun u hu => eval_c y.e _ _ ⟨s, t, nocx⟩ u (hxv.keep hu)
      have HM2 : Hid ((if y.vd = true ∨ y.cl ≠ cl ∨ evX ⟨s, t, nocx⟩ y.e = true then dnL (evX ⟨s, t, nocx⟩) cl (i + 1) (L.drop (i + 1)) d f else dnL (evX ⟨s, t, nocx⟩) cl (i + 1) (L.drop (i + 1)) (bits .or .u32 d y.pm) (if f = -1 then (i : Int) else f)) = R) := Lib.hid HM.out
      generalize evX ⟨s, t, nocx⟩ y.e = ev at *
      obtain ⟨vd, hvd⟩ : ∃ vd, y.vd = vd := ⟨_, rfl⟩
      rw [hvd] at c2 HM2
      have HVD := Lib.hid hvd
      clear HM HD hg hRow hA hy hx3 hxc hxv hvd
      cases vd with
      | true =>
        rw [if_pos (.inl rfl)] at HM2
        go_upto_region 6 with fail
        refine wp_region_kp (by kernel_rfl) (by kernel_rfl) ?_
        repeat (first
            | go_big_quiet_skip
            | (go_big_quiet_want
               go_big_quiet_op
               first
                 | go_big_quiet_on
                 | (apply Exists.intro
                    refine ⟨fun w1 hC => ?_, ?_⟩
                    · first
                        | (go_at_call 8; with_reducible exact hC.call (HEV.out _ hC))
                        | exact rfl
                        | (go_simp; exact ⟨rfl, rfl⟩)
                        | (obtain ⟨d0, d1, d2, -, -, -⟩ := HCO.out.keep hC HG.out; rw [HVD.out] at d2; obtain ⟨z0, z1, z2, z3, z4, z5, z6, z7, z8, z9⟩ := (HXC.out.keep (Below.block hC g HG.out)).cells; have ms := (Blk.keep (Blk.keep HCS.out HK.out) hC).cell; have mt := (Blk.keep (Blk.keep HCT.out HK.out) hC).cell; have ms0 := ms 0; have mt0 := mt 0; have ms1 := ms 1; have mt1 := mt 1; have ms2 := ms 2; have mt2 := mt 2; have ms3 := ms 3; have mt3 := mt 3; have ms4 := ms 4; have mt4 := mt 4; have ms5 := ms 5; have mt5 := mt 5; have ms6 := ms 6; have mt6 := mt 6; clear ms mt; go_simp; exact rfl)
                    go_big_quiet_on)))
        refine wpQuiet_nil ?_
        intro W6 hC
        have HK6 : Hid (Kp W W6) := Lib.hid (Kp.step HK.out hC)
        clear hC
        go_wp2_with fail
        go_roundw
        case rel => exact ⟨i + 1, d, f, hlt, rfl, rfl, by go_num, HM2, HK6⟩
        case measure => simp [intOf]; omega
      | false =>
        by_cases hcl : y.cl = cl
        · have qc : (y.cl != cl) = false := by simpa using hcl
          cases ev with
          | true =>
            rw [if_pos (.inr (.inr rfl))] at HM2
            clear hcl
            go_upto_region 6 with fail
            refine wp_region_kp (by kernel_rfl) (by kernel_rfl) ?_
            repeat (first
                | go_big_quiet_skip
                | (go_big_quiet_want
                   go_big_quiet_op
                   first
                     | go_big_quiet_on
                     | (apply Exists.intro
                        refine ⟨fun w1 hC => ?_, ?_⟩
                        · first
                            | (go_at_call 8; with_reducible exact hC.call (HEV.out _ hC))
                            | exact rfl
                            | (go_simp; exact ⟨rfl, rfl⟩)
                            | (obtain ⟨d0, d1, d2, -, -, -⟩ := HCO.out.keep hC HG.out; rw [HVD.out] at d2; obtain ⟨z0, z1, z2, z3, z4, z5, z6, z7, z8, z9⟩ := (HXC.out.keep (Below.block hC g HG.out)).cells; have ms := (Blk.keep (Blk.keep HCS.out HK.out) hC).cell; have mt := (Blk.keep (Blk.keep HCT.out HK.out) hC).cell; have ms0 := ms 0; have mt0 := mt 0; have ms1 := ms 1; have mt1 := mt 1; have ms2 := ms 2; have mt2 := mt 2; have ms3 := ms 3; have mt3 := mt 3; have ms4 := ms 4; have mt4 := mt 4; have ms5 := ms 5; have mt5 := mt 5; have ms6 := ms 6; have mt6 := mt 6; clear ms mt; go_simp; exact rfl)
                        go_big_quiet_on)))
            refine wpQuiet_nil ?_
            intro W6 hC
            have HK6 : Hid (Kp W W6) := Lib.hid (Kp.step HK.out hC)
            clear hC
            go_wp2_with fail
            go_roundw
            case rel => exact ⟨i + 1, d, f, hlt, rfl, rfl, by go_num, HM2, HK6⟩
            case measure => simp [intOf]; omega
          | false =>
            rw [if_neg (by simp [hcl])] at HM2
            clear hcl
            by_cases hf : f = -1
            · rw [if_pos hf] at HM2
              have qf : (f == -1) = true := by simpa using hf
              clear hf
              go_upto_region 6 with fail
              refine wp_region_kp (by kernel_rfl) (by kernel_rfl) ?_
              repeat (first
                  | go_big_quiet_skip
                  | (go_big_quiet_want
                     go_big_quiet_op
                     first
                       | go_big_quiet_on
                       | (apply Exists.intro
                          refine ⟨fun w1 hC => ?_, ?_⟩
                          · first
                              | (go_at_call 8; with_reducible exact hC.call (HEV.out _ hC))
                              | exact rfl
                              | (go_simp; exact ⟨rfl, rfl⟩)
                              | (obtain ⟨d0, d1, d2, -, -, -⟩ := HCO.out.keep hC HG.out; rw [HVD.out] at d2; obtain ⟨z0, z1, z2, z3, z4, z5, z6, z7, z8, z9⟩ := (HXC.out.keep (Below.block hC g HG.out)).cells; have ms := (Blk.keep (Blk.keep HCS.out HK.out) hC).cell; have mt := (Blk.keep (Blk.keep HCT.out HK.out) hC).cell; have ms0 := ms 0; have mt0 := mt 0; have ms1 := ms 1; have mt1 := mt 1; have ms2 := ms 2; have mt2 := mt 2; have ms3 := ms 3; have mt3 := mt 3; have ms4 := ms 4; have mt4 := mt 4; have ms5 := ms 5; have mt5 := mt 5; have ms6 := ms 6; have mt6 := mt 6; clear ms mt; go_simp; exact rfl)
                          go_big_quiet_on)))
              refine wpQuiet_nil ?_
              intro W6 hC
              have HK6 : Hid (Kp W W6) := Lib.hid (Kp.step HK.out hC)
              obtain ⟨d0, d1, d2, -, -, -⟩ := HCO.out.keep hC HG.out
              clear hC
              go_wp2_with fail
              go_roundw
              case rel => exact ⟨i + 1, _, _, hlt, rfl, rfl, by go_num, HM2, HK6⟩
              case measure => simp [intOf]; omega
            · rw [if_neg hf] at HM2
              have qf : (f == -1) = false := by simpa using hf
              clear hf
              go_upto_region 6 with fail
              refine wp_region_kp (by kernel_rfl) (by kernel_rfl) ?_
              repeat (first
                  | go_big_quiet_skip
                  | (go_big_quiet_want
                     go_big_quiet_op
                     first
                       | go_big_quiet_on
                       | (apply Exists.intro
                          refine ⟨fun w1 hC => ?_, ?_⟩
                          · first
                              | (go_at_call 8; with_reducible exact hC.call (HEV.out _ hC))
                              | exact rfl
                              | (go_simp; exact ⟨rfl, rfl⟩)
                              | (obtain ⟨d0, d1, d2, -, -, -⟩ := HCO.out.keep hC HG.out; rw [HVD.out] at d2; obtain ⟨z0, z1, z2, z3, z4, z5, z6, z7, z8, z9⟩ := (HXC.out.keep (Below.block hC g HG.out)).cells; have ms := (Blk.keep (Blk.keep HCS.out HK.out) hC).cell; have mt := (Blk.keep (Blk.keep HCT.out HK.out) hC).cell; have ms0 := ms 0; have mt0 := mt 0; have ms1 := ms 1; have mt1 := mt 1; have ms2 := ms 2; have mt2 := mt 2; have ms3 := ms 3; have mt3 := mt 3; have ms4 := ms 4; have mt4 := mt 4; have ms5 := ms 5; have mt5 := mt 5; have ms6 := ms 6; have mt6 := mt 6; clear ms mt; go_simp; exact rfl)
                          go_big_quiet_on)))
              refine wpQuiet_nil ?_
              intro W6 hC
              have HK6 : Hid (Kp W W6) := Lib.hid (Kp.step HK.out hC)
              obtain ⟨d0, d1, d2, -, -, -⟩ := HCO.out.keep hC HG.out
              clear hC
              go_wp2_with fail
              go_roundw
              case rel => exact ⟨i + 1, _, _, hlt, rfl, rfl, by go_num, HM2, HK6⟩
              case measure => simp [intOf]; omega
        · have qc : (y.cl != cl) = true := by simpa using hcl
          rw [if_pos (.inr (.inl hcl))] at HM2
          clear hcl
          go_upto_region 6 with fail
          refine wp_region_kp (by kernel_rfl) (by kernel_rfl) ?_
          repeat (first
              | go_big_quiet_skip
              | (go_big_quiet_want
                 go_big_quiet_op
                 first
                   | go_big_quiet_on
                   | (apply Exists.intro
                      refine ⟨fun w1 hC => ?_, ?_⟩
                      · first
                          | (go_at_call 8; with_reducible exact hC.call (HEV.out _ hC))
                          | exact rfl
                          | (go_simp; exact ⟨rfl, rfl⟩)
                          | (obtain ⟨d0, d1, d2, -, -, -⟩ := HCO.out.keep hC HG.out; rw [HVD.out] at d2; obtain ⟨z0, z1, z2, z3, z4, z5, z6, z7, z8, z9⟩ := (HXC.out.keep (Below.block hC g HG.out)).cells; have ms := (Blk.keep (Blk.keep HCS.out HK.out) hC).cell; have mt := (Blk.keep (Blk.keep HCT.out HK.out) hC).cell; have ms0 := ms 0; have mt0 := mt 0; have ms1 := ms 1; have mt1 := mt 1; have ms2 := ms 2; have mt2 := mt 2; have ms3 := ms 3; have mt3 := mt 3; have ms4 := ms 4; have mt4 := mt 4; have ms5 := ms 5; have mt5 := mt 5; have ms6 := ms 6; have mt6 := mt 6; clear ms mt; go_simp; exact rfl)
                      go_big_quiet_on)))
          refine wpQuiet_nil ?_
          intro W6 hC
          have HK6 : Hid (Kp W W6) := Lib.hid (Kp.step HK.out hC)
          clear hC
          go_wp2_with fail
          go_roundw
          case rel => exact ⟨i + 1, d, f, hlt, rfl, rfl, by go_num, HM2, HK6⟩
          case measure => simp [intOf]; omega
    · have hlt' : ¬ (i : Int) < (L.length : Int) := by omega
      obtain rfl : (d, f) = R := by
        have := HM.out
        rw [List.drop_of_length_le (by omega)] at this
        exact this
      go_wp2_with fail
      exact bodyPost_ret (v := .tuple #[.int .u32 d, .int .i64 f]) (by simp [results, Try.results18, go_sem]) rfl ⟨rfl, by first | exact HBK.out | (rw [hgp]; exact HBK.out)⟩
end Go.Proofs.Ytamcfmfkmekkfaa
/- A region in the text's order whose first operations' slots have properties that stand while memory grows: each operation is run once. -/
namespace Go.Proofs.Ytamcfmfkmekkfaa
open Go.RowKit Go
structure SqInv (ops : Array Oper) (n : Nat) (W : World) (a0 : Act) (Φ : Nat → Value → World → Prop) (k : Nat) (a : Act) (w : World) : Prop where
  kp : Kp W w
  size : a.tmps.size = a0.tmps.size
  defers : a.defers = a0.defers
  out : ∀ t, srcOf ops n t = none → a.eval (.tmp t) = a0.eval (.tmp t)
  phi : ∀ j oj t, j < k → j < n → ops[j]? = some oj → oj.dst = some t → Φ j (a.eval (.tmp t)) w
theorem sq_head {P : Program} {l : List Oper} {n : Nat} {W : World} {a0 : Act} {Φ : Nat → Value → World → Prop} {Q : Exit → Act → World → Prop} (hn : n ≤ l.length) (hB : phiB l.toArray n a0.tmps.size = true) (hst : ∀ i v w w', Φ i v w → Below w.heap.size w w' → Φ i v w')
    (ob : ∀ i o, i < n → l.toArray[i]? = some o → obOf P l.toArray n W a0 Φ i o)
    (leaf : ∀ a w, SqInv l.toArray n W a0 Φ n a w → wpList P l.toArray Q (l.drop n) a w) :
    ∀ (m k : Nat), m + k = n → ∀ a w, SqInv l.toArray n W a0 Φ k a w → wpList P l.toArray Q (l.drop k) a w := by
  intro m
  induction m with
  | zero =>
    intro k hk a w hv
    obtain rfl : k = n := by omega
    exact leaf a w hv
  | succ m ih =>
    intro k hk a w hv
    have hkn : k < n := by omega
    have hkl : k < l.length := by omega
    have hoi : l.toArray[k]? = some l[k] := by simp [hkl]
    rw [List.drop_eq_getElem_cons hkl]
    generalize l[k] = o' at *
    obtain ⟨o2, ho2, hlow, hdst, hgd⟩ := phiB_at hB hkn
    obtain rfl : o2 = o' := Option.some.inj (ho2.symm.trans hoi)
    obtain ⟨og, ov⟩ := ob k o2 hkn hoi
    have hlist : ∀ j, waitsOn o2 j = true → j < k := fun j hj => by
      obtain ⟨e, he, hb, rfl⟩ := waitsOn_spec hj
      exact hlow e he hb
    have hfact : ∀ t, factAt l.toArray n Φ a0 o2 a w t := fun t => by
      unfold factAt
      cases hs : srcOf l.toArray n t with
      | none => exact hv.out t hs
      | some j =>
        intro hw
        obtain ⟨hjn, oj, hoj, hdj⟩ := srcOf_some hs
        exact hv.phi j oj t (hlist j hw) hjn hoj hdj
    have hwant : Region.wanted o2 (yielded l.toArray a.tmps) = true := by
      unfold Region.wanted
      cases hg : o2.guard with
      | none => rfl
      | some jb =>
        obtain ⟨j, b⟩ := jb
        obtain ⟨hjn, hwj, oj, t, hoj, hdj⟩ := hgd j b hg
        rw [hg] at og
        have hval := og _ _ (hv.phi j oj t (hlist j hwj) hjn hoj hdj)
        obtain ⟨_, hoj2, _, hd2, _⟩ := phiB_at hB hjn
        obtain rfl := Option.some.inj (hoj2.symm.trans hoj)
        have ht := (hd2 t hdj).1
        rw [← hv.size] at ht
        have hval2 : a.tmps[t]? = some (.bool b) := by
          simp only [Act.eval, Array.getD_eq_getD_getElem?, Array.getElem?_eq_getElem ht, Option.getD_some] at hval
          rw [Array.getElem?_eq_getElem ht, hval]
        simp [yielded, hoj, hdj, hval2]
    unfold wpList
    rw [if_pos hwant]
    refine .inl ((ov a w hv.kp hfact).wp fun u w' hb hu => ?_)
    refine ih (k + 1) (by omega) _ _ ⟨hv.kp.step hb, by rw [put_size]; exact hv.size, by rw [put_def]; exact hv.defers, fun t ht => ?_, fun j oj t hjk hjn hoj hdj => ?_⟩
    · rw [Act.eval_put (fun d hd e => ?_)]
      · exact hv.out t ht
      · cases e
        rw [(hdst t hd).2] at ht
        cases ht
    · by_cases hji : j = k
      · subst hji
        obtain rfl := Option.some.inj (hoj.symm.trans hoi)
        rw [hdj, eval_same (by rw [hv.size]; exact (hdst t hdj).1)]
        exact hu
      · rw [Act.eval_put (fun d hd e => ?_)]
        · exact hst _ _ _ _ (hv.phi j oj t (by omega) hjn hoj hdj) hb
        · cases e
          obtain ⟨_, hoj2, _, hd2, _⟩ := phiB_at hB hjn
          obtain rfl := Option.some.inj (hoj2.symm.trans hoj)
          have e1 := (hd2 t hdj).2
          rw [(hdst t hd).2] at e1
          exact hji (Option.some.inj e1).symm
theorem wp_region_sqt {P : Program} {id : Nat} {Q : Exit → Act → World → Prop} {a0 : Act} {W : World} {l : List Oper} (n : Nat) (Φ : Nat → Value → World → Prop) (hn : n ≤ l.length)
    (hB : phiB l.toArray n a0.tmps.size = true) (hst : ∀ i v w w', Φ i v w → Below w.heap.size w w' → Φ i v w') (ob : obsL P l.toArray n W a0 Φ 0 (l.take n))
    (h : ∀ a w, Kp W w → a.tmps.size = a0.tmps.size → a.defers = a0.defers → (∀ t, factEnd l.toArray n Φ a0 a w t) → wpList P l.toArray Q (l.drop n) a w) : (Code.region id l.toArray false).wp P Q a0 W := by
  refine wp_region_lit ?_
  have := sq_head (P := P) (Q := Q) (W := W) (a0 := a0) hn hB hst (fun i o hi ho => by
      have h1 : (l.take n)[i]? = some o := by rw [List.getElem?_take_of_lt hi]; simpa using ho
      have := obs_at ob i o h1
      rwa [Nat.zero_add] at this) (fun a w hv => h a w hv.kp hv.size hv.defers fun t => by
    unfold factEnd
    cases hs : srcOf l.toArray n t with
    | none => exact hv.out t hs
    | some j =>
      obtain ⟨hjn, oj, hoj, hdj⟩ := srcOf_some hs
      exact hv.phi j oj t hjn hjn hoj hdj) n 0 (by omega) a0 W ⟨Below.refl _ _, rfl, rfl, fun _ _ => rfl, fun j _ _ hj => absurd hj (by omega)⟩
  rwa [List.drop_zero] at this
end Go.Proofs.Ytamcfmfkmekkfaa
/- The policy of the examples: accesscontrolref01.Sample, Init, File. -/
namespace Go.Proofs.Ytamcfmfkmekkfaa
open Go.RowKit Go
/-- a slice literal -/
def Lst (u : World) (v : Value) (t : TypeId) (n : Nat) (cs : List Value) : Prop := ∃ g, v = .slice (some ⟨g, 0, none⟩) n n ∧ Blk u g t cs.toArray
theorem Lst.keep {u u' : World} {v : Value} {t : TypeId} {n : Nat} {cs : List Value} (h : Lst u v t n cs) (hb : Below u.heap.size u u') : Lst u' v t n cs := by
  obtain ⟨g, e, h⟩ := h
  exact ⟨g, e, h.keep hb⟩
def smP0 : List Value := [.string ⟨#[102, 111, 114, 107]⟩, .string ⟨#[116, 114, 97, 110, 115, 105, 116, 105, 111, 110]⟩, .string ⟨#[100, 121, 110, 116, 114, 97, 110, 115, 105, 116, 105, 111, 110]⟩, .string ⟨#[115, 101, 110, 100]⟩]
def smFile : List Value := [.string ⟨#[114, 101, 97, 100]⟩, .string ⟨#[119, 114, 105, 116, 101]⟩, .string ⟨#[99, 114, 101, 97, 116, 101]⟩, .string ⟨#[117, 110, 108, 105, 110, 107]⟩, .string ⟨#[101, 120, 101, 99, 117, 116, 101]⟩, .string ⟨#[101, 110, 116, 114, 121, 112, 111, 105, 110, 116]⟩, .string ⟨#[114, 101, 108, 97, 98, 101, 108, 102, 114, 111, 109]⟩, .string ⟨#[114, 101, 108, 97, 98, 101, 108, 116, 111]⟩]
def smDir : List Value := [.string ⟨#[114, 101, 97, 100]⟩, .string ⟨#[119, 114, 105, 116, 101]⟩, .string ⟨#[99, 114, 101, 97, 116, 101]⟩, .string ⟨#[117, 110, 108, 105, 110, 107]⟩, .string ⟨#[97, 100, 100]⟩, .string ⟨#[114, 101, 109, 111, 118, 101]⟩, .string ⟨#[114, 101, 108, 97, 98, 101, 108, 102, 114, 111, 109]⟩, .string ⟨#[114, 101, 108, 97, 98, 101, 108, 116, 111]⟩]
def smTys : List Value := [.string ⟨#[105, 110, 105, 116, 95, 116]⟩, .slice none 0 0, .bool false, .string ⟨#[117, 115, 101, 114, 95, 116]⟩, .slice none 0 0, .bool false, .string ⟨#[102, 105, 108, 101, 95, 116]⟩, .slice none 0 0, .bool false, .string ⟨#[115, 104, 101, 108, 108, 95, 116]⟩, .slice none 0 0, .bool false]
def smAts : List Value := [.string ⟨#[100, 111, 109, 97, 105, 110]⟩, .int .u64 (ofS [0, 1]).a, .int .u64 (ofS [0, 1]).b, .int .u64 (ofS [0, 1]).c, .int .u64 (ofS [0, 1]).d]
def smRos : List Value := [.string ⟨#[111, 98, 106, 101, 99, 116, 95, 114]⟩, .int .u64 0, .int .u64 0, .int .u64 0, .int .u64 0, .int .u64 0, .int .u64 0, .int .u64 0, .int .u64 0, .string ⟨#[115, 121, 115, 116, 101, 109]⟩, .int .u64 (ofS [0, 1]).a, .int .u64 (ofS [0, 1]).b, .int .u64 (ofS [0, 1]).c, .int .u64 (ofS [0, 1]).d, .int .u64 0, .int .u64 0, .int .u64 0, .int .u64 0]
def smUss : List Value := [.string ⟨#[114, 111, 111, 116]⟩, .int .u64 (ofS [1]).a, .int .u64 (ofS [1]).b, .int .u64 (ofS [1]).c, .int .u64 (ofS [1]).d, .int .i64 0, .int .u64 0, .int .i64 0, .int .u64 0, .int .i64 0, .int .u64 0]
def smBos : List Value := [.string ⟨#[115, 104, 97, 114, 101]⟩, .bool false]
def smSens : List Value := [.string ⟨#[115, 48]⟩]
def smCds : List Value := [.int .i64 1, .int .i64 0, .int .i64 0, .int .i64 0, .slice none 0 0, .int .u64 0, .int .u64 0, .int .u64 0, .int .u64 0, .slice none 0 0]
def smRus : List Value := [.int .i64 1, .int .u64 (ofS [0, 1]).a, .int .u64 (ofS [0, 1]).b, .int .u64 (ofS [0, 1]).c, .int .u64 (ofS [0, 1]).d, .int .u64 0, .int .u64 0, .int .u64 0, .int .u64 0, .bool true, .int .i64 0, .int .u32 9, .int .i64 0, .int .i64 1, .int .u64 (ofS [0]).a, .int .u64 (ofS [0]).b, .int .u64 (ofS [0]).c, .int .u64 (ofS [0]).d, .int .u64 (ofS [2, 3]).a, .int .u64 (ofS [2, 3]).b, .int .u64 (ofS [2, 3]).c, .int .u64 (ofS [2, 3]).d, .bool false, .int .i64 1, .int .u32 17, .int .i64 0, .int .i64 1, .int .u64 (ofS [0]).a, .int .u64 (ofS [0]).b, .int .u64 (ofS [0]).c, .int .u64 (ofS [0]).d, .int .u64 (ofS [1]).a, .int .u64 (ofS [1]).b, .int .u64 (ofS [1]).c, .int .u64 (ofS [1]).d, .bool false, .int .i64 0, .int .u32 2, .int .i64 0, .int .i64 1, .int .u64 (ofS [1]).a, .int .u64 (ofS [1]).b, .int .u64 (ofS [1]).c, .int .u64 (ofS [1]).d, .int .u64 (ofS [3]).a, .int .u64 (ofS [3]).b, .int .u64 (ofS [3]).c, .int .u64 (ofS [3]).d, .bool false, .int .i64 1, .int .u32 32, .int .i64 0, .int .i64 1, .int .u64 (ofS [1]).a, .int .u64 (ofS [1]).b, .int .u64 (ofS [1]).c, .int .u64 (ofS [1]).d, .int .u64 (ofS [2]).a, .int .u64 (ofS [2]).b, .int .u64 (ofS [2]).c, .int .u64 (ofS [2]).d, .bool false, .int .i64 1, .int .u32 1, .int .i64 1]
def smTrs : List Value := [.int .i64 1, .int .u64 (ofS [0]).a, .int .u64 (ofS [0]).b, .int .u64 (ofS [0]).c, .int .u64 (ofS [0]).d, .int .u64 (ofS [3]).a, .int .u64 (ofS [3]).b, .int .u64 (ofS [3]).c, .int .u64 (ofS [3]).d, .int .i64 0, .string ⟨#[]⟩, .int .i64 1, .int .i64 0]
def smSis : List Value := [.string ⟨#[107, 101, 114, 110, 101, 108]⟩, .int .i64 0, .int .i64 1, .int .i64 0, .int .i64 0, .int .u64 0, .int .i64 0, .int .u64 0, .string ⟨#[114, 111, 111, 116]⟩, .int .i64 0, .int .i64 0, .int .i64 2, .int .i64 0, .int .u64 0, .int .i64 0, .int .u64 0, .string ⟨#[117, 110, 108, 97, 98, 101, 108, 101, 100]⟩, .int .i64 0, .int .i64 0, .int .i64 2, .int .i64 0, .int .u64 0, .int .i64 0, .int .u64 0]
def smI01 : List Value := [.int .i64 0, .int .i64 1]
def smI23 : List Value := [.int .i64 2, .int .i64 3]
def smI0 : List Value := [.int .i64 0]
def smI1 : List Value := [.int .i64 1]
def smI2 : List Value := [.int .i64 2]
def smI3 : List Value := [.int .i64 3]
def smCls (p0 : Value) (gf gd : Nat) : List Value := [.string ⟨#[112, 114, 111, 99, 101, 115, 115]⟩, p0, .string ⟨#[102, 105, 108, 101]⟩, .slice (some ⟨gf, 0, none⟩) 8 8, .string ⟨#[100, 105, 114]⟩, .slice (some ⟨gd, 0, none⟩) 8 8]
def ClsL (gf gd : Nat) (u : World) (v : Value) : Prop := ∃ p0, Lst u p0 9 4 smP0 ∧ Lst u v 80 3 (smCls p0 gf gd)
def PolS (gf gd : Nat) (u : World) (v : Value) : Prop := ∃ v0 v1 v2 v3 v4 v5 v6 v8 v9 v10 v14, v = .agg #[v0, v1, v2, v3, v4, v5, v6, .slice none 0 0, v8, v9, v10, .slice none 0 0, .slice none 0 0, .slice none 0 0, v14, .slice none 0 0, .slice none 0 0] ∧ ClsL gf gd u v0 ∧ Lst u v1 82 4 smTys ∧ Lst u v2 85 1 smAts ∧ Lst u v3 87 2 smRos ∧ Lst u v4 89 1 smUss ∧ Lst u v5 91 1 smBos ∧ Lst u v6 9 1 smSens ∧ Lst u v8 28 1 smCds ∧ Lst u v9 93 5 smRus ∧ Lst u v10 95 1 smTrs ∧ Lst u v14 97 3 smSis
theorem ClsL.keep {gf gd : Nat} {u u' : World} {v : Value} (h : ClsL gf gd u v) (hb : Below u.heap.size u u') : ClsL gf gd u' v := by
  obtain ⟨p0, h1, h2⟩ := h
  exact ⟨p0, h1.keep hb, h2.keep hb⟩
theorem PolS.keep {gf gd : Nat} {u u' : World} {v : Value} (h : PolS gf gd u v) (hb : Below u.heap.size u u') : PolS gf gd u' v := by
  obtain ⟨v0, v1, v2, v3, v4, v5, v6, v8, v9, v10, v14, e, h0, hv1, hv2, hv3, hv4, hv5, hv6, hv8, hv9, hv10, hv14⟩ := h
  exact ⟨v0, v1, v2, v3, v4, v5, v6, v8, v9, v10, v14, e, h0.keep hb, hv1.keep hb, hv2.keep hb, hv3.keep hb, hv4.keep hb, hv5.keep hb, hv6.keep hb, hv8.keep hb, hv9.keep hb, hv10.keep hb, hv14.keep hb⟩
def smPhi (gf gd : Nat) (k : Nat) (v : Value) (u : World) : Prop := match k with
  | 0 => Lst u v 9 4 smP0
  | 1 => ∃ p, v = .agg #[.string ⟨#[112, 114, 111, 99, 101, 115, 115]⟩, p] ∧ Lst u p 9 4 smP0
  | 2 => v = .slice (some ⟨gf, 0, none⟩) 8 8
  | 3 => v = .agg #[.string ⟨#[102, 105, 108, 101]⟩, .slice (some ⟨gf, 0, none⟩) 8 8]
  | 4 => v = .slice (some ⟨gd, 0, none⟩) 8 8
  | 5 => v = .agg #[.string ⟨#[100, 105, 114]⟩, .slice (some ⟨gd, 0, none⟩) 8 8]
  | 6 => ClsL gf gd u v
  | 7 => v = .agg #[.string ⟨#[105, 110, 105, 116, 95, 116]⟩, .slice none 0 0, .bool false]
  | 8 => v = .agg #[.string ⟨#[117, 115, 101, 114, 95, 116]⟩, .slice none 0 0, .bool false]
  | 9 => v = .agg #[.string ⟨#[102, 105, 108, 101, 95, 116]⟩, .slice none 0 0, .bool false]
  | 10 => v = .agg #[.string ⟨#[115, 104, 101, 108, 108, 95, 116]⟩, .slice none 0 0, .bool false]
  | 11 => Lst u v 82 4 smTys
  | 12 => Lst u v 3 2 smI01
  | 13 => v = .agg #[.int .u64 (ofS [0, 1]).a, .int .u64 (ofS [0, 1]).b, .int .u64 (ofS [0, 1]).c, .int .u64 (ofS [0, 1]).d]
  | 14 => v = .agg #[.string ⟨#[100, 111, 109, 97, 105, 110]⟩, .int .u64 (ofS [0, 1]).a, .int .u64 (ofS [0, 1]).b, .int .u64 (ofS [0, 1]).c, .int .u64 (ofS [0, 1]).d]
  | 15 => Lst u v 85 1 smAts
  | 16 => v = .agg #[.string ⟨#[111, 98, 106, 101, 99, 116, 95, 114]⟩, .int .u64 0, .int .u64 0, .int .u64 0, .int .u64 0, .int .u64 0, .int .u64 0, .int .u64 0, .int .u64 0]
  | 17 => Lst u v 3 2 smI01
  | 18 => v = .agg #[.int .u64 (ofS [0, 1]).a, .int .u64 (ofS [0, 1]).b, .int .u64 (ofS [0, 1]).c, .int .u64 (ofS [0, 1]).d]
  | 19 => v = .agg #[.string ⟨#[115, 121, 115, 116, 101, 109]⟩, .int .u64 (ofS [0, 1]).a, .int .u64 (ofS [0, 1]).b, .int .u64 (ofS [0, 1]).c, .int .u64 (ofS [0, 1]).d, .int .u64 0, .int .u64 0, .int .u64 0, .int .u64 0]
  | 20 => Lst u v 87 2 smRos
  | 21 => Lst u v 3 1 smI1
  | 22 => v = .agg #[.int .u64 (ofS [1]).a, .int .u64 (ofS [1]).b, .int .u64 (ofS [1]).c, .int .u64 (ofS [1]).d]
  | 23 => v = .agg #[.string ⟨#[114, 111, 111, 116]⟩, .int .u64 (ofS [1]).a, .int .u64 (ofS [1]).b, .int .u64 (ofS [1]).c, .int .u64 (ofS [1]).d, .int .i64 0, .int .u64 0, .int .i64 0, .int .u64 0, .int .i64 0, .int .u64 0]
  | 24 => Lst u v 89 1 smUss
  | 25 => v = .agg #[.string ⟨#[115, 104, 97, 114, 101]⟩, .bool false]
  | 26 => Lst u v 91 1 smBos
  | 27 => Lst u v 9 1 smSens
  | 28 => v = .agg #[.int .i64 1, .int .i64 0, .int .i64 0, .int .i64 0, .slice none 0 0, .int .u64 0, .int .u64 0, .int .u64 0, .int .u64 0, .slice none 0 0]
  | 29 => Lst u v 28 1 smCds
  | 30 => Lst u v 3 2 smI01
  | 31 => v = .agg #[.int .u64 (ofS [0, 1]).a, .int .u64 (ofS [0, 1]).b, .int .u64 (ofS [0, 1]).c, .int .u64 (ofS [0, 1]).d]
  | 32 => v = .agg #[.int .i64 1, .int .u64 (ofS [0, 1]).a, .int .u64 (ofS [0, 1]).b, .int .u64 (ofS [0, 1]).c, .int .u64 (ofS [0, 1]).d, .int .u64 0, .int .u64 0, .int .u64 0, .int .u64 0, .bool true, .int .i64 0, .int .u32 9, .int .i64 0]
  | 33 => Lst u v 3 1 smI0
  | 34 => v = .agg #[.int .u64 (ofS [0]).a, .int .u64 (ofS [0]).b, .int .u64 (ofS [0]).c, .int .u64 (ofS [0]).d]
  | 35 => Lst u v 3 2 smI23
  | 36 => v = .agg #[.int .u64 (ofS [2, 3]).a, .int .u64 (ofS [2, 3]).b, .int .u64 (ofS [2, 3]).c, .int .u64 (ofS [2, 3]).d]
  | 37 => v = .agg #[.int .i64 1, .int .u64 (ofS [0]).a, .int .u64 (ofS [0]).b, .int .u64 (ofS [0]).c, .int .u64 (ofS [0]).d, .int .u64 (ofS [2, 3]).a, .int .u64 (ofS [2, 3]).b, .int .u64 (ofS [2, 3]).c, .int .u64 (ofS [2, 3]).d, .bool false, .int .i64 1, .int .u32 17, .int .i64 0]
  | 38 => Lst u v 3 1 smI0
  | 39 => v = .agg #[.int .u64 (ofS [0]).a, .int .u64 (ofS [0]).b, .int .u64 (ofS [0]).c, .int .u64 (ofS [0]).d]
  | 40 => Lst u v 3 1 smI1
  | 41 => v = .agg #[.int .u64 (ofS [1]).a, .int .u64 (ofS [1]).b, .int .u64 (ofS [1]).c, .int .u64 (ofS [1]).d]
  | 42 => v = .agg #[.int .i64 1, .int .u64 (ofS [0]).a, .int .u64 (ofS [0]).b, .int .u64 (ofS [0]).c, .int .u64 (ofS [0]).d, .int .u64 (ofS [1]).a, .int .u64 (ofS [1]).b, .int .u64 (ofS [1]).c, .int .u64 (ofS [1]).d, .bool false, .int .i64 0, .int .u32 2, .int .i64 0]
  | 43 => Lst u v 3 1 smI1
  | 44 => v = .agg #[.int .u64 (ofS [1]).a, .int .u64 (ofS [1]).b, .int .u64 (ofS [1]).c, .int .u64 (ofS [1]).d]
  | 45 => Lst u v 3 1 smI3
  | 46 => v = .agg #[.int .u64 (ofS [3]).a, .int .u64 (ofS [3]).b, .int .u64 (ofS [3]).c, .int .u64 (ofS [3]).d]
  | 47 => v = .agg #[.int .i64 1, .int .u64 (ofS [1]).a, .int .u64 (ofS [1]).b, .int .u64 (ofS [1]).c, .int .u64 (ofS [1]).d, .int .u64 (ofS [3]).a, .int .u64 (ofS [3]).b, .int .u64 (ofS [3]).c, .int .u64 (ofS [3]).d, .bool false, .int .i64 1, .int .u32 32, .int .i64 0]
  | 48 => Lst u v 3 1 smI1
  | 49 => v = .agg #[.int .u64 (ofS [1]).a, .int .u64 (ofS [1]).b, .int .u64 (ofS [1]).c, .int .u64 (ofS [1]).d]
  | 50 => Lst u v 3 1 smI2
  | 51 => v = .agg #[.int .u64 (ofS [2]).a, .int .u64 (ofS [2]).b, .int .u64 (ofS [2]).c, .int .u64 (ofS [2]).d]
  | 52 => v = .agg #[.int .i64 1, .int .u64 (ofS [1]).a, .int .u64 (ofS [1]).b, .int .u64 (ofS [1]).c, .int .u64 (ofS [1]).d, .int .u64 (ofS [2]).a, .int .u64 (ofS [2]).b, .int .u64 (ofS [2]).c, .int .u64 (ofS [2]).d, .bool false, .int .i64 1, .int .u32 1, .int .i64 1]
  | 53 => Lst u v 93 5 smRus
  | 54 => Lst u v 3 1 smI0
  | 55 => v = .agg #[.int .u64 (ofS [0]).a, .int .u64 (ofS [0]).b, .int .u64 (ofS [0]).c, .int .u64 (ofS [0]).d]
  | 56 => Lst u v 3 1 smI3
  | 57 => v = .agg #[.int .u64 (ofS [3]).a, .int .u64 (ofS [3]).b, .int .u64 (ofS [3]).c, .int .u64 (ofS [3]).d]
  | 58 => v = .agg #[.int .i64 1, .int .u64 (ofS [0]).a, .int .u64 (ofS [0]).b, .int .u64 (ofS [0]).c, .int .u64 (ofS [0]).d, .int .u64 (ofS [3]).a, .int .u64 (ofS [3]).b, .int .u64 (ofS [3]).c, .int .u64 (ofS [3]).d, .int .i64 0, .string ⟨#[]⟩, .int .i64 1, .int .i64 0]
  | 59 => Lst u v 95 1 smTrs
  | 60 => v = .agg #[.int .i64 0, .int .i64 1, .int .i64 0, .int .i64 0, .int .u64 0, .int .i64 0, .int .u64 0]
  | 61 => v = .agg #[.string ⟨#[107, 101, 114, 110, 101, 108]⟩, .int .i64 0, .int .i64 1, .int .i64 0, .int .i64 0, .int .u64 0, .int .i64 0, .int .u64 0]
  | 62 => v = .agg #[.int .i64 0, .int .i64 0, .int .i64 2, .int .i64 0, .int .u64 0, .int .i64 0, .int .u64 0]
  | 63 => v = .agg #[.string ⟨#[114, 111, 111, 116]⟩, .int .i64 0, .int .i64 0, .int .i64 2, .int .i64 0, .int .u64 0, .int .i64 0, .int .u64 0]
  | 64 => v = .agg #[.int .i64 0, .int .i64 0, .int .i64 2, .int .i64 0, .int .u64 0, .int .i64 0, .int .u64 0]
  | 65 => v = .agg #[.string ⟨#[117, 110, 108, 97, 98, 101, 108, 101, 100]⟩, .int .i64 0, .int .i64 0, .int .i64 2, .int .i64 0, .int .u64 0, .int .i64 0, .int .u64 0]
  | 66 => Lst u v 97 3 smSis
  | 67 => PolS gf gd u v
  | _ => True
theorem smPhi_keep {gf gd k : Nat} {v : Value} {u u' : World} (h : smPhi gf gd k v u) (hb : Below u.heap.size u u') : smPhi gf gd k v u' := by
  unfold smPhi at h ⊢
  split at h
  · exact h.keep hb
  · obtain ⟨p, e, h⟩ := h
    exact ⟨p, e, h.keep hb⟩
  · exact h
  · exact h
  · exact h
  · exact h
  · exact h.keep hb
  · exact h
  · exact h
  · exact h
  · exact h
  · exact h.keep hb
  · exact h.keep hb
  · exact h
  · exact h
  · exact h.keep hb
  · exact h
  · exact h.keep hb
  · exact h
  · exact h
  · exact h.keep hb
  · exact h.keep hb
  · exact h
  · exact h
  · exact h.keep hb
  · exact h
  · exact h.keep hb
  · exact h.keep hb
  · exact h
  · exact h.keep hb
  · exact h.keep hb
  · exact h
  · exact h
  · exact h.keep hb
  · exact h
  · exact h.keep hb
  · exact h
  · exact h
  · exact h.keep hb
  · exact h
  · exact h.keep hb
  · exact h
  · exact h
  · exact h.keep hb
  · exact h
  · exact h.keep hb
  · exact h
  · exact h
  · exact h.keep hb
  · exact h
  · exact h.keep hb
  · exact h
  · exact h
  · exact h.keep hb
  · exact h.keep hb
  · exact h
  · exact h.keep hb
  · exact h
  · exact h
  · exact h.keep hb
  · exact h
  · exact h
  · exact h
  · exact h
  · exact h
  · exact h
  · exact h.keep hb
  · exact h.keep hb
  · trivial
theorem ofL_c {u : World} {v : Value} (l : List Int) (h : Lst u v 3 l.length (l.map fun n => Value.int .i64 n)) (hm : l.length ≤ maxLen) : Calls Try.prog 26 #[v] u fun e w' => e = .returned (.agg #[.int .u64 (ofS l).a, .int .u64 (ofS l).b, .int .u64 (ofS l).c, .int .u64 (ofS l).d]) ∧ Below u.heap.size u w' := by
  obtain ⟨g, rfl, hb⟩ := h
  refine rof_c _ l _ u (fun i hi => ⟨g, 0, rfl, ?_, hb.lt⟩) hm
  rw [hb.cell (0 + i)]
  simp [hi]
set_option maxRecDepth 100000 in
theorem init_c (w : World) : Calls Try.prog 16 #[] w fun e w' => e = .returned (.agg #[.int .i64 0, .int .i64 1, .int .i64 0, .int .i64 0, .int .u64 0, .int .i64 0, .int .u64 0]) ∧ Below w.heap.size w w' := by
  go_enter Try.func16, Try.ntmps16
  go_wp2_with fail
  exact bodyPost_ret (v := .agg #[.int .i64 0, .int .i64 1, .int .i64 0, .int .i64 0, .int .u64 0, .int .i64 0, .int .u64 0]) (ctx_ret (a := ⟨0, 1, 0, zcl, zcl⟩) Try.results16 rfl (Blk.new w _ _)) rfl ⟨rfl, (Below.refl _ _).alloc (Nat.le_refl _) _⟩
set_option maxRecDepth 100000 in
theorem file_c (w : World) : Calls Try.prog 17 #[] w fun e w' => e = .returned (.agg #[.int .i64 0, .int .i64 0, .int .i64 2, .int .i64 0, .int .u64 0, .int .i64 0, .int .u64 0]) ∧ Below w.heap.size w w' := by
  go_enter Try.func17, Try.ntmps17
  go_wp2_with fail
  exact bodyPost_ret (v := .agg #[.int .i64 0, .int .i64 0, .int .i64 2, .int .i64 0, .int .u64 0, .int .i64 0, .int .u64 0]) (ctx_ret (a := ⟨0, 0, 2, zcl, zcl⟩) Try.results17 rfl (Blk.new w _ _)) rfl ⟨rfl, (Below.refl _ _).alloc (Nat.le_refl _) _⟩
theorem blk_other {u : World} {g g0 : Nat} {T P : TypeId} {cs cs0 : Array Value} (h : Blk u g T cs) (hR : Blk u g0 P cs0) (hne : T ≠ P) (cs1 : Array Value) : Blk (u.setRow g0 cs1) g T cs := by
  refine h.other (fun e => ?_) cs1
  subst e
  unfold Blk at h hR
  rw [h] at hR
  simp only [Option.some.injEq, Obj.cells.injEq] at hR
  exact hne hR.2.1
theorem Lst.other {u : World} {v : Value} {T P : TypeId} {n g0 : Nat} {cs : List Value} {cs0 : Array Value} (h : Lst u v T n cs) (hR : Blk u g0 P cs0) (hne : T ≠ P) (cs1 : Array Value) : Lst (u.setRow g0 cs1) v T n cs := by
  obtain ⟨g, e, hb⟩ := h
  exact ⟨g, e, blk_other hb hR hne cs1⟩
theorem ClsL.other {u : World} {v : Value} {gf gd g0 : Nat} {cs0 : Array Value} (h : ClsL gf gd u v) (hR : Blk u g0 60 cs0) (cs1 : Array Value) : ClsL gf gd (u.setRow g0 cs1) v := by
  obtain ⟨p0, h1, h2⟩ := h
  exact ⟨p0, h1.other hR (by decide) cs1, h2.other hR (by decide) cs1⟩
theorem fact_out {ops : Array Oper} {n t : Nat} {Φ : Nat → Value → World → Prop} {a0 a : Act} {w : World} (h : factEnd ops n Φ a0 a w t) (hs : srcOf ops n t = none) : a.tmps[t]?.getD undef = a0.eval (.tmp t) := by
  unfold factEnd at h; rw [hs] at h; rwa [show a.eval (.tmp t) = a.tmps[t]?.getD undef by simp [Act.eval]] at h
theorem agg_pol (w : World) : (isAgg 60).run Try.prog w = .ok true w := by go_simp
theorem size_pol (w : World) : (sizeOf 60).run Try.prog w = .ok 17 w := by go_simp
theorem blk_ret {fn : Func} {tmps : Array Value} {t T : TypeId} {w : World} {g : Nat} (cs : List Value) (h : fn.results = #[.cell t T]) (ht : tmps.getD t undef = .pointer (some ⟨g, 0, none⟩)) {ty : TypeId} (hagg : (isAgg T).run Try.prog w = .ok true w) (hsz : (sizeOf T).run Try.prog w = .ok cs.length w) (q : Blk w g ty cs.toArray) :
    (results fn tmps).run Try.prog w = .ok (.agg cs.toArray) w := by
  have hl := loadAt_blk cs hagg hsz q
  unfold Instr.loadAt Instr.sureAddr at hl
  simp only [Sem.run_bind, Sem.run_pure, Result.andThen_ok] at hl
  have ht' : tmps[t]?.getD undef = .pointer (some ⟨g, 0, none⟩) := by simpa using ht
  simp [results, h, ht', asAddr, hl]
set_option maxRecDepth 100000 in
set_option maxHeartbeats 64000000 in
theorem sample_c (w : World) : Calls Try.prog 14 #[] w fun e w' => ∃ v gf gd, e = .returned v ∧ PolS gf gd w' v ∧ Blk w' gf 9 smFile.toArray ∧ Blk w' gd 9 smDir.toArray ∧ Below w.heap.size w w' := by
  have HB : Hid (Below w.heap.size w (((w.alloc (.cells #[.slice none 0 0, .slice none 0 0, .slice none 0 0, .slice none 0 0, .slice none 0 0, .slice none 0 0, .slice none 0 0, .slice none 0 0, .slice none 0 0, .slice none 0 0, .slice none 0 0, .slice none 0 0, .slice none 0 0, .slice none 0 0, .slice none 0 0, .slice none 0 0, .slice none 0 0] 60)).alloc (.cells #[.string ⟨#[114, 101, 97, 100]⟩, .string ⟨#[119, 114, 105, 116, 101]⟩, .string ⟨#[99, 114, 101, 97, 116, 101]⟩, .string ⟨#[117, 110, 108, 105, 110, 107]⟩, .string ⟨#[101, 120, 101, 99, 117, 116, 101]⟩, .string ⟨#[101, 110, 116, 114, 121, 112, 111, 105, 110, 116]⟩, .string ⟨#[114, 101, 108, 97, 98, 101, 108, 102, 114, 111, 109]⟩, .string ⟨#[114, 101, 108, 97, 98, 101, 108, 116, 111]⟩] 9)).alloc (.cells #[.string ⟨#[114, 101, 97, 100]⟩, .string ⟨#[119, 114, 105, 116, 101]⟩, .string ⟨#[99, 114, 101, 97, 116, 101]⟩, .string ⟨#[117, 110, 108, 105, 110, 107]⟩, .string ⟨#[97, 100, 100]⟩, .string ⟨#[114, 101, 109, 111, 118, 101]⟩, .string ⟨#[114, 101, 108, 97, 98, 101, 108, 102, 114, 111, 109]⟩, .string ⟨#[114, 101, 108, 97, 98, 101, 108, 116, 111]⟩] 9))) := Lib.hid ((((Below.refl _ _).alloc (Nat.le_refl _) _).alloc (by simp) _).alloc (by simp; omega) _)
  have HR : Hid (Blk (((w.alloc (.cells #[.slice none 0 0, .slice none 0 0, .slice none 0 0, .slice none 0 0, .slice none 0 0, .slice none 0 0, .slice none 0 0, .slice none 0 0, .slice none 0 0, .slice none 0 0, .slice none 0 0, .slice none 0 0, .slice none 0 0, .slice none 0 0, .slice none 0 0, .slice none 0 0, .slice none 0 0] 60)).alloc (.cells #[.string ⟨#[114, 101, 97, 100]⟩, .string ⟨#[119, 114, 105, 116, 101]⟩, .string ⟨#[99, 114, 101, 97, 116, 101]⟩, .string ⟨#[117, 110, 108, 105, 110, 107]⟩, .string ⟨#[101, 120, 101, 99, 117, 116, 101]⟩, .string ⟨#[101, 110, 116, 114, 121, 112, 111, 105, 110, 116]⟩, .string ⟨#[114, 101, 108, 97, 98, 101, 108, 102, 114, 111, 109]⟩, .string ⟨#[114, 101, 108, 97, 98, 101, 108, 116, 111]⟩] 9)).alloc (.cells #[.string ⟨#[114, 101, 97, 100]⟩, .string ⟨#[119, 114, 105, 116, 101]⟩, .string ⟨#[99, 114, 101, 97, 116, 101]⟩, .string ⟨#[117, 110, 108, 105, 110, 107]⟩, .string ⟨#[97, 100, 100]⟩, .string ⟨#[114, 101, 109, 111, 118, 101]⟩, .string ⟨#[114, 101, 108, 97, 98, 101, 108, 102, 114, 111, 109]⟩, .string ⟨#[114, 101, 108, 97, 98, 101, 108, 116, 111]⟩] 9)) w.heap.size 60 #[.slice none 0 0, .slice none 0 0, .slice none 0 0, .slice none 0 0, .slice none 0 0, .slice none 0 0, .slice none 0 0, .slice none 0 0, .slice none 0 0, .slice none 0 0, .slice none 0 0, .slice none 0 0, .slice none 0 0, .slice none 0 0, .slice none 0 0, .slice none 0 0, .slice none 0 0]) := Lib.hid (((Blk.new w _ _).alloc _).alloc _)
  have HF : Hid (Blk (((w.alloc (.cells #[.slice none 0 0, .slice none 0 0, .slice none 0 0, .slice none 0 0, .slice none 0 0, .slice none 0 0, .slice none 0 0, .slice none 0 0, .slice none 0 0, .slice none 0 0, .slice none 0 0, .slice none 0 0, .slice none 0 0, .slice none 0 0, .slice none 0 0, .slice none 0 0, .slice none 0 0] 60)).alloc (.cells #[.string ⟨#[114, 101, 97, 100]⟩, .string ⟨#[119, 114, 105, 116, 101]⟩, .string ⟨#[99, 114, 101, 97, 116, 101]⟩, .string ⟨#[117, 110, 108, 105, 110, 107]⟩, .string ⟨#[101, 120, 101, 99, 117, 116, 101]⟩, .string ⟨#[101, 110, 116, 114, 121, 112, 111, 105, 110, 116]⟩, .string ⟨#[114, 101, 108, 97, 98, 101, 108, 102, 114, 111, 109]⟩, .string ⟨#[114, 101, 108, 97, 98, 101, 108, 116, 111]⟩] 9)).alloc (.cells #[.string ⟨#[114, 101, 97, 100]⟩, .string ⟨#[119, 114, 105, 116, 101]⟩, .string ⟨#[99, 114, 101, 97, 116, 101]⟩, .string ⟨#[117, 110, 108, 105, 110, 107]⟩, .string ⟨#[97, 100, 100]⟩, .string ⟨#[114, 101, 109, 111, 118, 101]⟩, .string ⟨#[114, 101, 108, 97, 98, 101, 108, 102, 114, 111, 109]⟩, .string ⟨#[114, 101, 108, 97, 98, 101, 108, 116, 111]⟩] 9)) (w.heap.size + 1) 9 smFile.toArray) := Lib.hid ((two_new' _ _ _ _).alloc _)
  have HD : Hid (Blk (((w.alloc (.cells #[.slice none 0 0, .slice none 0 0, .slice none 0 0, .slice none 0 0, .slice none 0 0, .slice none 0 0, .slice none 0 0, .slice none 0 0, .slice none 0 0, .slice none 0 0, .slice none 0 0, .slice none 0 0, .slice none 0 0, .slice none 0 0, .slice none 0 0, .slice none 0 0, .slice none 0 0] 60)).alloc (.cells #[.string ⟨#[114, 101, 97, 100]⟩, .string ⟨#[119, 114, 105, 116, 101]⟩, .string ⟨#[99, 114, 101, 97, 116, 101]⟩, .string ⟨#[117, 110, 108, 105, 110, 107]⟩, .string ⟨#[101, 120, 101, 99, 117, 116, 101]⟩, .string ⟨#[101, 110, 116, 114, 121, 112, 111, 105, 110, 116]⟩, .string ⟨#[114, 101, 108, 97, 98, 101, 108, 102, 114, 111, 109]⟩, .string ⟨#[114, 101, 108, 97, 98, 101, 108, 116, 111]⟩] 9)).alloc (.cells #[.string ⟨#[114, 101, 97, 100]⟩, .string ⟨#[119, 114, 105, 116, 101]⟩, .string ⟨#[99, 114, 101, 97, 116, 101]⟩, .string ⟨#[117, 110, 108, 105, 110, 107]⟩, .string ⟨#[97, 100, 100]⟩, .string ⟨#[114, 101, 109, 111, 118, 101]⟩, .string ⟨#[114, 101, 108, 97, 98, 101, 108, 102, 114, 111, 109]⟩, .string ⟨#[114, 101, 108, 97, 98, 101, 108, 116, 111]⟩] 9)) (w.heap.size + 1 + 1) 9 smDir.toArray) := Lib.hid (three_new' _ _ _ _ _)
  go_enter Try.func14, Try.ntmps14
  go_upto_region 3 with fail
  generalize ((w.alloc (.cells #[.slice none 0 0, .slice none 0 0, .slice none 0 0, .slice none 0 0, .slice none 0 0, .slice none 0 0, .slice none 0 0, .slice none 0 0, .slice none 0 0, .slice none 0 0, .slice none 0 0, .slice none 0 0, .slice none 0 0, .slice none 0 0, .slice none 0 0, .slice none 0 0, .slice none 0 0] 60)).alloc (.cells #[.string ⟨#[114, 101, 97, 100]⟩, .string ⟨#[119, 114, 105, 116, 101]⟩, .string ⟨#[99, 114, 101, 97, 116, 101]⟩, .string ⟨#[117, 110, 108, 105, 110, 107]⟩, .string ⟨#[101, 120, 101, 99, 117, 116, 101]⟩, .string ⟨#[101, 110, 116, 114, 121, 112, 111, 105, 110, 116]⟩, .string ⟨#[114, 101, 108, 97, 98, 101, 108, 102, 114, 111, 109]⟩, .string ⟨#[114, 101, 108, 97, 98, 101, 108, 116, 111]⟩] 9)).alloc (.cells #[.string ⟨#[114, 101, 97, 100]⟩, .string ⟨#[119, 114, 105, 116, 101]⟩, .string ⟨#[99, 114, 101, 97, 116, 101]⟩, .string ⟨#[117, 110, 108, 105, 110, 107]⟩, .string ⟨#[97, 100, 100]⟩, .string ⟨#[114, 101, 109, 111, 118, 101]⟩, .string ⟨#[114, 101, 108, 97, 98, 101, 108, 102, 114, 111, 109]⟩, .string ⟨#[114, 101, 108, 97, 98, 101, 108, 116, 111]⟩] 9) = W at *
  have HLE : Hid (w.heap.size ≤ W.heap.size) := Lib.hid HB.out.size
  generalize w.heap.size + 1 + 1 = gd at *
  generalize w.heap.size + 1 = gf at *
  generalize hg0 : w.heap.size = g0 at *
  refine wp_region_sqt 68 (smPhi gf gd) (by decide) (by kernel_rfl) (fun k v u u2 h hb => smPhi_keep h hb) ?_ ?_
  · refine ⟨⟨trivial, fun A u hK hF => ?_⟩, ⟨trivial, fun A u hK hF => ?_⟩, ⟨trivial, fun A u hK hF => ?_⟩, ⟨trivial, fun A u hK hF => ?_⟩, ⟨trivial, fun A u hK hF => ?_⟩, ⟨trivial, fun A u hK hF => ?_⟩, ⟨trivial, fun A u hK hF => ?_⟩, ⟨trivial, fun A u hK hF => ?_⟩, ⟨trivial, fun A u hK hF => ?_⟩, ⟨trivial, fun A u hK hF => ?_⟩, ⟨trivial, fun A u hK hF => ?_⟩, ⟨trivial, fun A u hK hF => ?_⟩, ⟨trivial, fun A u hK hF => ?_⟩, ⟨trivial, fun A u hK hF => ?_⟩, ⟨trivial, fun A u hK hF => ?_⟩, ⟨trivial, fun A u hK hF => ?_⟩, ⟨trivial, fun A u hK hF => ?_⟩, ⟨trivial, fun A u hK hF => ?_⟩, ⟨trivial, fun A u hK hF => ?_⟩, ⟨trivial, fun A u hK hF => ?_⟩, ⟨trivial, fun A u hK hF => ?_⟩, ⟨trivial, fun A u hK hF => ?_⟩, ⟨trivial, fun A u hK hF => ?_⟩, ⟨trivial, fun A u hK hF => ?_⟩, ⟨trivial, fun A u hK hF => ?_⟩, ⟨trivial, fun A u hK hF => ?_⟩, ⟨trivial, fun A u hK hF => ?_⟩, ⟨trivial, fun A u hK hF => ?_⟩, ⟨trivial, fun A u hK hF => ?_⟩, ⟨trivial, fun A u hK hF => ?_⟩, ⟨trivial, fun A u hK hF => ?_⟩, ⟨trivial, fun A u hK hF => ?_⟩, ⟨trivial, fun A u hK hF => ?_⟩, ⟨trivial, fun A u hK hF => ?_⟩, ⟨trivial, fun A u hK hF => ?_⟩, ⟨trivial, fun A u hK hF => ?_⟩, ⟨trivial, fun A u hK hF => ?_⟩, ⟨trivial, fun A u hK hF => ?_⟩, ⟨trivial, fun A u hK hF => ?_⟩, ⟨trivial, fun A u hK hF => ?_⟩, ⟨trivial, fun A u hK hF => ?_⟩, ⟨trivial, fun A u hK hF => ?_⟩, ⟨trivial, fun A u hK hF => ?_⟩, ⟨trivial, fun A u hK hF => ?_⟩, ⟨trivial, fun A u hK hF => ?_⟩, ⟨trivial, fun A u hK hF => ?_⟩, ⟨trivial, fun A u hK hF => ?_⟩, ⟨trivial, fun A u hK hF => ?_⟩, ⟨trivial, fun A u hK hF => ?_⟩, ⟨trivial, fun A u hK hF => ?_⟩, ⟨trivial, fun A u hK hF => ?_⟩, ⟨trivial, fun A u hK hF => ?_⟩, ⟨trivial, fun A u hK hF => ?_⟩, ⟨trivial, fun A u hK hF => ?_⟩, ⟨trivial, fun A u hK hF => ?_⟩, ⟨trivial, fun A u hK hF => ?_⟩, ⟨trivial, fun A u hK hF => ?_⟩, ⟨trivial, fun A u hK hF => ?_⟩, ⟨trivial, fun A u hK hF => ?_⟩, ⟨trivial, fun A u hK hF => ?_⟩, ⟨trivial, fun A u hK hF => ?_⟩, ⟨trivial, fun A u hK hF => ?_⟩, ⟨trivial, fun A u hK hF => ?_⟩, ⟨trivial, fun A u hK hF => ?_⟩, ⟨trivial, fun A u hK hF => ?_⟩, ⟨trivial, fun A u hK hF => ?_⟩, ⟨trivial, fun A u hK hF => ?_⟩, ⟨trivial, fun A u hK hF => ?_⟩, trivial⟩
    · unfold Gives
      go_simp
      exact gives_val ((Below.refl _ _).alloc (Nat.le_refl _) _) ⟨_, rfl, Blk.new _ _ _⟩
    · obtain ⟨g5, f5, h5⟩ := (fact_some (hF 5) (j := 0) (by kernel_rfl) (by kernel_rfl) : Lst u (A.tmps[5]?.getD undef) 9 4 smP0)
      unfold Gives
      go_simp
      exact gives_val (Below.refl _ _) ⟨_, rfl, g5, rfl, h5⟩
    · have f1 : A.tmps[1]?.getD undef = .slice (some ⟨gf, 0, none⟩) 8 8 := fact_none (hF 1) (by kernel_rfl)
      unfold Gives
      go_simp
      exact gives_val (Below.refl _ _) rfl
    · have f7 : A.tmps[7]?.getD undef = .slice (some ⟨gf, 0, none⟩) 8 8 := fact_some (hF 7) (j := 2) (by kernel_rfl) (by kernel_rfl)
      unfold Gives
      go_simp
      exact gives_val (Below.refl _ _) rfl
    · have f2 : A.tmps[2]?.getD undef = .slice (some ⟨gd, 0, none⟩) 8 8 := fact_none (hF 2) (by kernel_rfl)
      unfold Gives
      go_simp
      exact gives_val (Below.refl _ _) rfl
    · have f9 : A.tmps[9]?.getD undef = .slice (some ⟨gd, 0, none⟩) 8 8 := fact_some (hF 9) (j := 4) (by kernel_rfl) (by kernel_rfl)
      unfold Gives
      go_simp
      exact gives_val (Below.refl _ _) rfl
    · obtain ⟨p6, f6, l6⟩ := (fact_some (hF 6) (j := 1) (by kernel_rfl) (by kernel_rfl) : ∃ p, (A.tmps[6]?.getD undef) = .agg #[.string ⟨#[112, 114, 111, 99, 101, 115, 115]⟩, p] ∧ Lst u p 9 4 smP0)
      obtain ⟨g6, rfl, h6⟩ := l6
      have f8 : A.tmps[8]?.getD undef = .agg #[.string ⟨#[102, 105, 108, 101]⟩, .slice (some ⟨gf, 0, none⟩) 8 8] := fact_some (hF 8) (j := 3) (by kernel_rfl) (by kernel_rfl)
      have f10 : A.tmps[10]?.getD undef = .agg #[.string ⟨#[100, 105, 114]⟩, .slice (some ⟨gd, 0, none⟩) 8 8] := fact_some (hF 10) (j := 5) (by kernel_rfl) (by kernel_rfl)
      unfold Gives
      go_simp
      exact gives_val ((Below.refl _ _).alloc (Nat.le_refl _) _) ⟨_, Lst.keep ⟨_, rfl, h6⟩ ((Below.refl _ _).alloc (Nat.le_refl _) _), _, rfl, Blk.new _ _ _⟩
    · unfold Gives
      go_simp
      exact gives_val (Below.refl _ _) rfl
    · unfold Gives
      go_simp
      exact gives_val (Below.refl _ _) rfl
    · unfold Gives
      go_simp
      exact gives_val (Below.refl _ _) rfl
    · unfold Gives
      go_simp
      exact gives_val (Below.refl _ _) rfl
    · have f12 : A.tmps[12]?.getD undef = .agg #[.string ⟨#[105, 110, 105, 116, 95, 116]⟩, .slice none 0 0, .bool false] := fact_some (hF 12) (j := 7) (by kernel_rfl) (by kernel_rfl)
      have f13 : A.tmps[13]?.getD undef = .agg #[.string ⟨#[117, 115, 101, 114, 95, 116]⟩, .slice none 0 0, .bool false] := fact_some (hF 13) (j := 8) (by kernel_rfl) (by kernel_rfl)
      have f14 : A.tmps[14]?.getD undef = .agg #[.string ⟨#[102, 105, 108, 101, 95, 116]⟩, .slice none 0 0, .bool false] := fact_some (hF 14) (j := 9) (by kernel_rfl) (by kernel_rfl)
      have f15 : A.tmps[15]?.getD undef = .agg #[.string ⟨#[115, 104, 101, 108, 108, 95, 116]⟩, .slice none 0 0, .bool false] := fact_some (hF 15) (j := 10) (by kernel_rfl) (by kernel_rfl)
      unfold Gives
      go_simp
      exact gives_val ((Below.refl _ _).alloc (Nat.le_refl _) _) ⟨_, rfl, Blk.new _ _ _⟩
    · unfold Gives
      go_simp
      exact gives_val ((Below.refl _ _).alloc (Nat.le_refl _) _) ⟨_, rfl, Blk.new _ _ _⟩
    · have l17 : Lst u (A.tmps[17]?.getD undef) 3 2 smI01 := fact_some (hF 17) (j := 12) (by kernel_rfl) (by kernel_rfl)
      unfold Gives
      go_simp
      exact gives_enter ((ofL_c [0, 1] l17 (by decide)).mono fun e w2 ⟨he, hb⟩ => ⟨_, he, hb, rfl⟩)
    · have f18 : A.tmps[18]?.getD undef = .agg #[.int .u64 (ofS [0, 1]).a, .int .u64 (ofS [0, 1]).b, .int .u64 (ofS [0, 1]).c, .int .u64 (ofS [0, 1]).d] := fact_some (hF 18) (j := 13) (by kernel_rfl) (by kernel_rfl)
      unfold Gives
      go_simp
      exact gives_val (Below.refl _ _) rfl
    · have f19 : A.tmps[19]?.getD undef = .agg #[.string ⟨#[100, 111, 109, 97, 105, 110]⟩, .int .u64 (ofS [0, 1]).a, .int .u64 (ofS [0, 1]).b, .int .u64 (ofS [0, 1]).c, .int .u64 (ofS [0, 1]).d] := fact_some (hF 19) (j := 14) (by kernel_rfl) (by kernel_rfl)
      unfold Gives
      go_simp
      exact gives_val ((Below.refl _ _).alloc (Nat.le_refl _) _) ⟨_, rfl, Blk.new _ _ _⟩
    · unfold Gives
      go_simp
      exact gives_val (Below.refl _ _) rfl
    · unfold Gives
      go_simp
      exact gives_val ((Below.refl _ _).alloc (Nat.le_refl _) _) ⟨_, rfl, Blk.new _ _ _⟩
    · have l22 : Lst u (A.tmps[22]?.getD undef) 3 2 smI01 := fact_some (hF 22) (j := 17) (by kernel_rfl) (by kernel_rfl)
      unfold Gives
      go_simp
      exact gives_enter ((ofL_c [0, 1] l22 (by decide)).mono fun e w2 ⟨he, hb⟩ => ⟨_, he, hb, rfl⟩)
    · have f23 : A.tmps[23]?.getD undef = .agg #[.int .u64 (ofS [0, 1]).a, .int .u64 (ofS [0, 1]).b, .int .u64 (ofS [0, 1]).c, .int .u64 (ofS [0, 1]).d] := fact_some (hF 23) (j := 18) (by kernel_rfl) (by kernel_rfl)
      unfold Gives
      go_simp
      exact gives_val (Below.refl _ _) rfl
    · have f21 : A.tmps[21]?.getD undef = .agg #[.string ⟨#[111, 98, 106, 101, 99, 116, 95, 114]⟩, .int .u64 0, .int .u64 0, .int .u64 0, .int .u64 0, .int .u64 0, .int .u64 0, .int .u64 0, .int .u64 0] := fact_some (hF 21) (j := 16) (by kernel_rfl) (by kernel_rfl)
      have f24 : A.tmps[24]?.getD undef = .agg #[.string ⟨#[115, 121, 115, 116, 101, 109]⟩, .int .u64 (ofS [0, 1]).a, .int .u64 (ofS [0, 1]).b, .int .u64 (ofS [0, 1]).c, .int .u64 (ofS [0, 1]).d, .int .u64 0, .int .u64 0, .int .u64 0, .int .u64 0] := fact_some (hF 24) (j := 19) (by kernel_rfl) (by kernel_rfl)
      unfold Gives
      go_simp
      exact gives_val ((Below.refl _ _).alloc (Nat.le_refl _) _) ⟨_, rfl, Blk.new _ _ _⟩
    · unfold Gives
      go_simp
      exact gives_val ((Below.refl _ _).alloc (Nat.le_refl _) _) ⟨_, rfl, Blk.new _ _ _⟩
    · have l26 : Lst u (A.tmps[26]?.getD undef) 3 1 smI1 := fact_some (hF 26) (j := 21) (by kernel_rfl) (by kernel_rfl)
      unfold Gives
      go_simp
      exact gives_enter ((ofL_c [1] l26 (by decide)).mono fun e w2 ⟨he, hb⟩ => ⟨_, he, hb, rfl⟩)
    · have f27 : A.tmps[27]?.getD undef = .agg #[.int .u64 (ofS [1]).a, .int .u64 (ofS [1]).b, .int .u64 (ofS [1]).c, .int .u64 (ofS [1]).d] := fact_some (hF 27) (j := 22) (by kernel_rfl) (by kernel_rfl)
      unfold Gives
      go_simp
      exact gives_val (Below.refl _ _) rfl
    · have f28 : A.tmps[28]?.getD undef = .agg #[.string ⟨#[114, 111, 111, 116]⟩, .int .u64 (ofS [1]).a, .int .u64 (ofS [1]).b, .int .u64 (ofS [1]).c, .int .u64 (ofS [1]).d, .int .i64 0, .int .u64 0, .int .i64 0, .int .u64 0, .int .i64 0, .int .u64 0] := fact_some (hF 28) (j := 23) (by kernel_rfl) (by kernel_rfl)
      unfold Gives
      go_simp
      exact gives_val ((Below.refl _ _).alloc (Nat.le_refl _) _) ⟨_, rfl, Blk.new _ _ _⟩
    · unfold Gives
      go_simp
      exact gives_val (Below.refl _ _) rfl
    · have f30 : A.tmps[30]?.getD undef = .agg #[.string ⟨#[115, 104, 97, 114, 101]⟩, .bool false] := fact_some (hF 30) (j := 25) (by kernel_rfl) (by kernel_rfl)
      unfold Gives
      go_simp
      exact gives_val ((Below.refl _ _).alloc (Nat.le_refl _) _) ⟨_, rfl, Blk.new _ _ _⟩
    · unfold Gives
      go_simp
      exact gives_val ((Below.refl _ _).alloc (Nat.le_refl _) _) ⟨_, rfl, Blk.new _ _ _⟩
    · unfold Gives
      go_simp
      exact gives_val (Below.refl _ _) rfl
    · have f33 : A.tmps[33]?.getD undef = .agg #[.int .i64 1, .int .i64 0, .int .i64 0, .int .i64 0, .slice none 0 0, .int .u64 0, .int .u64 0, .int .u64 0, .int .u64 0, .slice none 0 0] := fact_some (hF 33) (j := 28) (by kernel_rfl) (by kernel_rfl)
      unfold Gives
      go_simp
      exact gives_val ((Below.refl _ _).alloc (Nat.le_refl _) _) ⟨_, rfl, Blk.new _ _ _⟩
    · unfold Gives
      go_simp
      exact gives_val ((Below.refl _ _).alloc (Nat.le_refl _) _) ⟨_, rfl, Blk.new _ _ _⟩
    · have l35 : Lst u (A.tmps[35]?.getD undef) 3 2 smI01 := fact_some (hF 35) (j := 30) (by kernel_rfl) (by kernel_rfl)
      unfold Gives
      go_simp
      exact gives_enter ((ofL_c [0, 1] l35 (by decide)).mono fun e w2 ⟨he, hb⟩ => ⟨_, he, hb, rfl⟩)
    · have f36 : A.tmps[36]?.getD undef = .agg #[.int .u64 (ofS [0, 1]).a, .int .u64 (ofS [0, 1]).b, .int .u64 (ofS [0, 1]).c, .int .u64 (ofS [0, 1]).d] := fact_some (hF 36) (j := 31) (by kernel_rfl) (by kernel_rfl)
      unfold Gives
      go_simp
      exact gives_val (Below.refl _ _) rfl
    · unfold Gives
      go_simp
      exact gives_val ((Below.refl _ _).alloc (Nat.le_refl _) _) ⟨_, rfl, Blk.new _ _ _⟩
    · have l38 : Lst u (A.tmps[38]?.getD undef) 3 1 smI0 := fact_some (hF 38) (j := 33) (by kernel_rfl) (by kernel_rfl)
      unfold Gives
      go_simp
      exact gives_enter ((ofL_c [0] l38 (by decide)).mono fun e w2 ⟨he, hb⟩ => ⟨_, he, hb, rfl⟩)
    · unfold Gives
      go_simp
      exact gives_val ((Below.refl _ _).alloc (Nat.le_refl _) _) ⟨_, rfl, Blk.new _ _ _⟩
    · have l40 : Lst u (A.tmps[40]?.getD undef) 3 2 smI23 := fact_some (hF 40) (j := 35) (by kernel_rfl) (by kernel_rfl)
      unfold Gives
      go_simp
      exact gives_enter ((ofL_c [2, 3] l40 (by decide)).mono fun e w2 ⟨he, hb⟩ => ⟨_, he, hb, rfl⟩)
    · have f39 : A.tmps[39]?.getD undef = .agg #[.int .u64 (ofS [0]).a, .int .u64 (ofS [0]).b, .int .u64 (ofS [0]).c, .int .u64 (ofS [0]).d] := fact_some (hF 39) (j := 34) (by kernel_rfl) (by kernel_rfl)
      have f41 : A.tmps[41]?.getD undef = .agg #[.int .u64 (ofS [2, 3]).a, .int .u64 (ofS [2, 3]).b, .int .u64 (ofS [2, 3]).c, .int .u64 (ofS [2, 3]).d] := fact_some (hF 41) (j := 36) (by kernel_rfl) (by kernel_rfl)
      unfold Gives
      go_simp
      exact gives_val (Below.refl _ _) rfl
    · unfold Gives
      go_simp
      exact gives_val ((Below.refl _ _).alloc (Nat.le_refl _) _) ⟨_, rfl, Blk.new _ _ _⟩
    · have l43 : Lst u (A.tmps[43]?.getD undef) 3 1 smI0 := fact_some (hF 43) (j := 38) (by kernel_rfl) (by kernel_rfl)
      unfold Gives
      go_simp
      exact gives_enter ((ofL_c [0] l43 (by decide)).mono fun e w2 ⟨he, hb⟩ => ⟨_, he, hb, rfl⟩)
    · unfold Gives
      go_simp
      exact gives_val ((Below.refl _ _).alloc (Nat.le_refl _) _) ⟨_, rfl, Blk.new _ _ _⟩
    · have l45 : Lst u (A.tmps[45]?.getD undef) 3 1 smI1 := fact_some (hF 45) (j := 40) (by kernel_rfl) (by kernel_rfl)
      unfold Gives
      go_simp
      exact gives_enter ((ofL_c [1] l45 (by decide)).mono fun e w2 ⟨he, hb⟩ => ⟨_, he, hb, rfl⟩)
    · have f44 : A.tmps[44]?.getD undef = .agg #[.int .u64 (ofS [0]).a, .int .u64 (ofS [0]).b, .int .u64 (ofS [0]).c, .int .u64 (ofS [0]).d] := fact_some (hF 44) (j := 39) (by kernel_rfl) (by kernel_rfl)
      have f46 : A.tmps[46]?.getD undef = .agg #[.int .u64 (ofS [1]).a, .int .u64 (ofS [1]).b, .int .u64 (ofS [1]).c, .int .u64 (ofS [1]).d] := fact_some (hF 46) (j := 41) (by kernel_rfl) (by kernel_rfl)
      unfold Gives
      go_simp
      exact gives_val (Below.refl _ _) rfl
    · unfold Gives
      go_simp
      exact gives_val ((Below.refl _ _).alloc (Nat.le_refl _) _) ⟨_, rfl, Blk.new _ _ _⟩
    · have l48 : Lst u (A.tmps[48]?.getD undef) 3 1 smI1 := fact_some (hF 48) (j := 43) (by kernel_rfl) (by kernel_rfl)
      unfold Gives
      go_simp
      exact gives_enter ((ofL_c [1] l48 (by decide)).mono fun e w2 ⟨he, hb⟩ => ⟨_, he, hb, rfl⟩)
    · unfold Gives
      go_simp
      exact gives_val ((Below.refl _ _).alloc (Nat.le_refl _) _) ⟨_, rfl, Blk.new _ _ _⟩
    · have l50 : Lst u (A.tmps[50]?.getD undef) 3 1 smI3 := fact_some (hF 50) (j := 45) (by kernel_rfl) (by kernel_rfl)
      unfold Gives
      go_simp
      exact gives_enter ((ofL_c [3] l50 (by decide)).mono fun e w2 ⟨he, hb⟩ => ⟨_, he, hb, rfl⟩)
    · have f49 : A.tmps[49]?.getD undef = .agg #[.int .u64 (ofS [1]).a, .int .u64 (ofS [1]).b, .int .u64 (ofS [1]).c, .int .u64 (ofS [1]).d] := fact_some (hF 49) (j := 44) (by kernel_rfl) (by kernel_rfl)
      have f51 : A.tmps[51]?.getD undef = .agg #[.int .u64 (ofS [3]).a, .int .u64 (ofS [3]).b, .int .u64 (ofS [3]).c, .int .u64 (ofS [3]).d] := fact_some (hF 51) (j := 46) (by kernel_rfl) (by kernel_rfl)
      unfold Gives
      go_simp
      exact gives_val (Below.refl _ _) rfl
    · unfold Gives
      go_simp
      exact gives_val ((Below.refl _ _).alloc (Nat.le_refl _) _) ⟨_, rfl, Blk.new _ _ _⟩
    · have l53 : Lst u (A.tmps[53]?.getD undef) 3 1 smI1 := fact_some (hF 53) (j := 48) (by kernel_rfl) (by kernel_rfl)
      unfold Gives
      go_simp
      exact gives_enter ((ofL_c [1] l53 (by decide)).mono fun e w2 ⟨he, hb⟩ => ⟨_, he, hb, rfl⟩)
    · unfold Gives
      go_simp
      exact gives_val ((Below.refl _ _).alloc (Nat.le_refl _) _) ⟨_, rfl, Blk.new _ _ _⟩
    · have l55 : Lst u (A.tmps[55]?.getD undef) 3 1 smI2 := fact_some (hF 55) (j := 50) (by kernel_rfl) (by kernel_rfl)
      unfold Gives
      go_simp
      exact gives_enter ((ofL_c [2] l55 (by decide)).mono fun e w2 ⟨he, hb⟩ => ⟨_, he, hb, rfl⟩)
    · have f54 : A.tmps[54]?.getD undef = .agg #[.int .u64 (ofS [1]).a, .int .u64 (ofS [1]).b, .int .u64 (ofS [1]).c, .int .u64 (ofS [1]).d] := fact_some (hF 54) (j := 49) (by kernel_rfl) (by kernel_rfl)
      have f56 : A.tmps[56]?.getD undef = .agg #[.int .u64 (ofS [2]).a, .int .u64 (ofS [2]).b, .int .u64 (ofS [2]).c, .int .u64 (ofS [2]).d] := fact_some (hF 56) (j := 51) (by kernel_rfl) (by kernel_rfl)
      unfold Gives
      go_simp
      exact gives_val (Below.refl _ _) rfl
    · have f37 : A.tmps[37]?.getD undef = .agg #[.int .i64 1, .int .u64 (ofS [0, 1]).a, .int .u64 (ofS [0, 1]).b, .int .u64 (ofS [0, 1]).c, .int .u64 (ofS [0, 1]).d, .int .u64 0, .int .u64 0, .int .u64 0, .int .u64 0, .bool true, .int .i64 0, .int .u32 9, .int .i64 0] := fact_some (hF 37) (j := 32) (by kernel_rfl) (by kernel_rfl)
      have f42 : A.tmps[42]?.getD undef = .agg #[.int .i64 1, .int .u64 (ofS [0]).a, .int .u64 (ofS [0]).b, .int .u64 (ofS [0]).c, .int .u64 (ofS [0]).d, .int .u64 (ofS [2, 3]).a, .int .u64 (ofS [2, 3]).b, .int .u64 (ofS [2, 3]).c, .int .u64 (ofS [2, 3]).d, .bool false, .int .i64 1, .int .u32 17, .int .i64 0] := fact_some (hF 42) (j := 37) (by kernel_rfl) (by kernel_rfl)
      have f47 : A.tmps[47]?.getD undef = .agg #[.int .i64 1, .int .u64 (ofS [0]).a, .int .u64 (ofS [0]).b, .int .u64 (ofS [0]).c, .int .u64 (ofS [0]).d, .int .u64 (ofS [1]).a, .int .u64 (ofS [1]).b, .int .u64 (ofS [1]).c, .int .u64 (ofS [1]).d, .bool false, .int .i64 0, .int .u32 2, .int .i64 0] := fact_some (hF 47) (j := 42) (by kernel_rfl) (by kernel_rfl)
      have f52 : A.tmps[52]?.getD undef = .agg #[.int .i64 1, .int .u64 (ofS [1]).a, .int .u64 (ofS [1]).b, .int .u64 (ofS [1]).c, .int .u64 (ofS [1]).d, .int .u64 (ofS [3]).a, .int .u64 (ofS [3]).b, .int .u64 (ofS [3]).c, .int .u64 (ofS [3]).d, .bool false, .int .i64 1, .int .u32 32, .int .i64 0] := fact_some (hF 52) (j := 47) (by kernel_rfl) (by kernel_rfl)
      have f57 : A.tmps[57]?.getD undef = .agg #[.int .i64 1, .int .u64 (ofS [1]).a, .int .u64 (ofS [1]).b, .int .u64 (ofS [1]).c, .int .u64 (ofS [1]).d, .int .u64 (ofS [2]).a, .int .u64 (ofS [2]).b, .int .u64 (ofS [2]).c, .int .u64 (ofS [2]).d, .bool false, .int .i64 1, .int .u32 1, .int .i64 1] := fact_some (hF 57) (j := 52) (by kernel_rfl) (by kernel_rfl)
      unfold Gives
      go_simp
      exact gives_val ((Below.refl _ _).alloc (Nat.le_refl _) _) ⟨_, rfl, Blk.new _ _ _⟩
    · unfold Gives
      go_simp
      exact gives_val ((Below.refl _ _).alloc (Nat.le_refl _) _) ⟨_, rfl, Blk.new _ _ _⟩
    · have l59 : Lst u (A.tmps[59]?.getD undef) 3 1 smI0 := fact_some (hF 59) (j := 54) (by kernel_rfl) (by kernel_rfl)
      unfold Gives
      go_simp
      exact gives_enter ((ofL_c [0] l59 (by decide)).mono fun e w2 ⟨he, hb⟩ => ⟨_, he, hb, rfl⟩)
    · unfold Gives
      go_simp
      exact gives_val ((Below.refl _ _).alloc (Nat.le_refl _) _) ⟨_, rfl, Blk.new _ _ _⟩
    · have l61 : Lst u (A.tmps[61]?.getD undef) 3 1 smI3 := fact_some (hF 61) (j := 56) (by kernel_rfl) (by kernel_rfl)
      unfold Gives
      go_simp
      exact gives_enter ((ofL_c [3] l61 (by decide)).mono fun e w2 ⟨he, hb⟩ => ⟨_, he, hb, rfl⟩)
    · have f60 : A.tmps[60]?.getD undef = .agg #[.int .u64 (ofS [0]).a, .int .u64 (ofS [0]).b, .int .u64 (ofS [0]).c, .int .u64 (ofS [0]).d] := fact_some (hF 60) (j := 55) (by kernel_rfl) (by kernel_rfl)
      have f62 : A.tmps[62]?.getD undef = .agg #[.int .u64 (ofS [3]).a, .int .u64 (ofS [3]).b, .int .u64 (ofS [3]).c, .int .u64 (ofS [3]).d] := fact_some (hF 62) (j := 57) (by kernel_rfl) (by kernel_rfl)
      unfold Gives
      go_simp
      exact gives_val (Below.refl _ _) rfl
    · have f63 : A.tmps[63]?.getD undef = .agg #[.int .i64 1, .int .u64 (ofS [0]).a, .int .u64 (ofS [0]).b, .int .u64 (ofS [0]).c, .int .u64 (ofS [0]).d, .int .u64 (ofS [3]).a, .int .u64 (ofS [3]).b, .int .u64 (ofS [3]).c, .int .u64 (ofS [3]).d, .int .i64 0, .string ⟨#[]⟩, .int .i64 1, .int .i64 0] := fact_some (hF 63) (j := 58) (by kernel_rfl) (by kernel_rfl)
      unfold Gives
      go_simp
      exact gives_val ((Below.refl _ _).alloc (Nat.le_refl _) _) ⟨_, rfl, Blk.new _ _ _⟩
    · unfold Gives
      go_simp
      exact gives_enter ((init_c u).mono fun e w2 ⟨he, hb⟩ => ⟨_, he, hb, rfl⟩)
    · have f65 : A.tmps[65]?.getD undef = .agg #[.int .i64 0, .int .i64 1, .int .i64 0, .int .i64 0, .int .u64 0, .int .i64 0, .int .u64 0] := fact_some (hF 65) (j := 60) (by kernel_rfl) (by kernel_rfl)
      unfold Gives
      go_simp
      exact gives_val (Below.refl _ _) rfl
    · unfold Gives
      go_simp
      exact gives_enter ((file_c u).mono fun e w2 ⟨he, hb⟩ => ⟨_, he, hb, rfl⟩)
    · have f67 : A.tmps[67]?.getD undef = .agg #[.int .i64 0, .int .i64 0, .int .i64 2, .int .i64 0, .int .u64 0, .int .i64 0, .int .u64 0] := fact_some (hF 67) (j := 62) (by kernel_rfl) (by kernel_rfl)
      unfold Gives
      go_simp
      exact gives_val (Below.refl _ _) rfl
    · unfold Gives
      go_simp
      exact gives_enter ((file_c u).mono fun e w2 ⟨he, hb⟩ => ⟨_, he, hb, rfl⟩)
    · have f69 : A.tmps[69]?.getD undef = .agg #[.int .i64 0, .int .i64 0, .int .i64 2, .int .i64 0, .int .u64 0, .int .i64 0, .int .u64 0] := fact_some (hF 69) (j := 64) (by kernel_rfl) (by kernel_rfl)
      unfold Gives
      go_simp
      exact gives_val (Below.refl _ _) rfl
    · have f66 : A.tmps[66]?.getD undef = .agg #[.string ⟨#[107, 101, 114, 110, 101, 108]⟩, .int .i64 0, .int .i64 1, .int .i64 0, .int .i64 0, .int .u64 0, .int .i64 0, .int .u64 0] := fact_some (hF 66) (j := 61) (by kernel_rfl) (by kernel_rfl)
      have f68 : A.tmps[68]?.getD undef = .agg #[.string ⟨#[114, 111, 111, 116]⟩, .int .i64 0, .int .i64 0, .int .i64 2, .int .i64 0, .int .u64 0, .int .i64 0, .int .u64 0] := fact_some (hF 68) (j := 63) (by kernel_rfl) (by kernel_rfl)
      have f70 : A.tmps[70]?.getD undef = .agg #[.string ⟨#[117, 110, 108, 97, 98, 101, 108, 101, 100]⟩, .int .i64 0, .int .i64 0, .int .i64 2, .int .i64 0, .int .u64 0, .int .i64 0, .int .u64 0] := fact_some (hF 70) (j := 65) (by kernel_rfl) (by kernel_rfl)
      unfold Gives
      go_simp
      exact gives_val ((Below.refl _ _).alloc (Nat.le_refl _) _) ⟨_, rfl, Blk.new _ _ _⟩
    · obtain ⟨p11, l11, g11, f11, h11⟩ := (fact_some (hF 11) (j := 6) (by kernel_rfl) (by kernel_rfl) : ClsL gf gd u (A.tmps[11]?.getD undef))
      obtain ⟨g16, f16, h16⟩ := (fact_some (hF 16) (j := 11) (by kernel_rfl) (by kernel_rfl) : Lst u (A.tmps[16]?.getD undef) 82 4 smTys)
      obtain ⟨g20, f20, h20⟩ := (fact_some (hF 20) (j := 15) (by kernel_rfl) (by kernel_rfl) : Lst u (A.tmps[20]?.getD undef) 85 1 smAts)
      obtain ⟨g25, f25, h25⟩ := (fact_some (hF 25) (j := 20) (by kernel_rfl) (by kernel_rfl) : Lst u (A.tmps[25]?.getD undef) 87 2 smRos)
      obtain ⟨g29, f29, h29⟩ := (fact_some (hF 29) (j := 24) (by kernel_rfl) (by kernel_rfl) : Lst u (A.tmps[29]?.getD undef) 89 1 smUss)
      obtain ⟨g31, f31, h31⟩ := (fact_some (hF 31) (j := 26) (by kernel_rfl) (by kernel_rfl) : Lst u (A.tmps[31]?.getD undef) 91 1 smBos)
      obtain ⟨g32, f32, h32⟩ := (fact_some (hF 32) (j := 27) (by kernel_rfl) (by kernel_rfl) : Lst u (A.tmps[32]?.getD undef) 9 1 smSens)
      obtain ⟨g34, f34, h34⟩ := (fact_some (hF 34) (j := 29) (by kernel_rfl) (by kernel_rfl) : Lst u (A.tmps[34]?.getD undef) 28 1 smCds)
      obtain ⟨g58, f58, h58⟩ := (fact_some (hF 58) (j := 53) (by kernel_rfl) (by kernel_rfl) : Lst u (A.tmps[58]?.getD undef) 93 5 smRus)
      obtain ⟨g64, f64, h64⟩ := (fact_some (hF 64) (j := 59) (by kernel_rfl) (by kernel_rfl) : Lst u (A.tmps[64]?.getD undef) 95 1 smTrs)
      obtain ⟨g71, f71, h71⟩ := (fact_some (hF 71) (j := 66) (by kernel_rfl) (by kernel_rfl) : Lst u (A.tmps[71]?.getD undef) 97 3 smSis)
      unfold Gives
      go_simp
      exact gives_val (Below.refl _ _) ⟨_, _, _, _, _, _, _, _, _, _, _, rfl, ⟨_, l11, _, rfl, h11⟩, ⟨_, rfl, h16⟩, ⟨_, rfl, h20⟩, ⟨_, rfl, h25⟩, ⟨_, rfl, h29⟩, ⟨_, rfl, h31⟩, ⟨_, rfl, h32⟩, ⟨_, rfl, h34⟩, ⟨_, rfl, h58⟩, ⟨_, rfl, h64⟩, ⟨_, rfl, h71⟩⟩
  intro a0 W2 hC hsz hdf hF
  have h72 : PolS gf gd W2 (a0.tmps[72]?.getD undef) := fact_end (hF 72) (j := 67) (by kernel_rfl)
  have ha := end_mask [false, false, false, false, false, true, true, true, true, true, true, true, true, true, true, true, true, true, true, true, true, true, true, true, true, true, true, true, true, true, true, true, true, true, true, true, true, true, true, true, true, true, true, true, true, true, true, true, true, true, true, true, true, true, true, true, true, true, true, true, true, true, true, true, true, true, true, true, true, true, true, true, true] hsz hdf hF (by kernel_rfl)
  obtain ⟨v0, v1, v2, v3, v4, v5, v6, v8, v9, v10, v14, e72, hrest⟩ := h72
  rw [ha]
  clear ha hF hsz hdf
  simp only [cutM_yes, cutM_no, cutM_nil, Nat.reduceAdd]
  rw [e72]
  clear e72
  generalize a0.tmps[5]?.getD undef = s5
  generalize a0.tmps[6]?.getD undef = s6
  generalize a0.tmps[7]?.getD undef = s7
  generalize a0.tmps[8]?.getD undef = s8
  generalize a0.tmps[9]?.getD undef = s9
  generalize a0.tmps[10]?.getD undef = s10
  generalize a0.tmps[11]?.getD undef = s11
  generalize a0.tmps[12]?.getD undef = s12
  generalize a0.tmps[13]?.getD undef = s13
  generalize a0.tmps[14]?.getD undef = s14
  generalize a0.tmps[15]?.getD undef = s15
  generalize a0.tmps[16]?.getD undef = s16
  generalize a0.tmps[17]?.getD undef = s17
  generalize a0.tmps[18]?.getD undef = s18
  generalize a0.tmps[19]?.getD undef = s19
  generalize a0.tmps[20]?.getD undef = s20
  generalize a0.tmps[21]?.getD undef = s21
  generalize a0.tmps[22]?.getD undef = s22
  generalize a0.tmps[23]?.getD undef = s23
  generalize a0.tmps[24]?.getD undef = s24
  generalize a0.tmps[25]?.getD undef = s25
  generalize a0.tmps[26]?.getD undef = s26
  generalize a0.tmps[27]?.getD undef = s27
  generalize a0.tmps[28]?.getD undef = s28
  generalize a0.tmps[29]?.getD undef = s29
  generalize a0.tmps[30]?.getD undef = s30
  generalize a0.tmps[31]?.getD undef = s31
  generalize a0.tmps[32]?.getD undef = s32
  generalize a0.tmps[33]?.getD undef = s33
  generalize a0.tmps[34]?.getD undef = s34
  generalize a0.tmps[35]?.getD undef = s35
  generalize a0.tmps[36]?.getD undef = s36
  generalize a0.tmps[37]?.getD undef = s37
  generalize a0.tmps[38]?.getD undef = s38
  generalize a0.tmps[39]?.getD undef = s39
  generalize a0.tmps[40]?.getD undef = s40
  generalize a0.tmps[41]?.getD undef = s41
  generalize a0.tmps[42]?.getD undef = s42
  generalize a0.tmps[43]?.getD undef = s43
  generalize a0.tmps[44]?.getD undef = s44
  generalize a0.tmps[45]?.getD undef = s45
  generalize a0.tmps[46]?.getD undef = s46
  generalize a0.tmps[47]?.getD undef = s47
  generalize a0.tmps[48]?.getD undef = s48
  generalize a0.tmps[49]?.getD undef = s49
  generalize a0.tmps[50]?.getD undef = s50
  generalize a0.tmps[51]?.getD undef = s51
  generalize a0.tmps[52]?.getD undef = s52
  generalize a0.tmps[53]?.getD undef = s53
  generalize a0.tmps[54]?.getD undef = s54
  generalize a0.tmps[55]?.getD undef = s55
  generalize a0.tmps[56]?.getD undef = s56
  generalize a0.tmps[57]?.getD undef = s57
  generalize a0.tmps[58]?.getD undef = s58
  generalize a0.tmps[59]?.getD undef = s59
  generalize a0.tmps[60]?.getD undef = s60
  generalize a0.tmps[61]?.getD undef = s61
  generalize a0.tmps[62]?.getD undef = s62
  generalize a0.tmps[63]?.getD undef = s63
  generalize a0.tmps[64]?.getD undef = s64
  generalize a0.tmps[65]?.getD undef = s65
  generalize a0.tmps[66]?.getD undef = s66
  generalize a0.tmps[67]?.getD undef = s67
  generalize a0.tmps[68]?.getD undef = s68
  generalize a0.tmps[69]?.getD undef = s69
  generalize a0.tmps[70]?.getD undef = s70
  generalize a0.tmps[71]?.getD undef = s71
  have HRest := Lib.hid hrest
  have one : ∀ x ∈ ([v0, v1, v2, v3, v4, v5, v6, .slice none 0 0, v8, v9, v10, .slice none 0 0, .slice none 0 0, .slice none 0 0, v14, .slice none 0 0, .slice none 0 0] : List Value), x.oneCell' = true := by
    obtain ⟨⟨_, -, g, rfl, -⟩, ⟨_, rfl, -⟩, ⟨_, rfl, -⟩, ⟨_, rfl, -⟩, ⟨_, rfl, -⟩, ⟨_, rfl, -⟩, ⟨_, rfl, -⟩, ⟨_, rfl, -⟩, ⟨_, rfl, -⟩, ⟨_, rfl, -⟩, ⟨_, rfl, -⟩⟩ := hrest
    intro x hx
    simp only [List.mem_cons, List.not_mem_nil, or_false] at hx
    rcases hx with rfl | rfl | rfl | rfl | rfl | rfl | rfl | rfl | rfl | rfl | rfl | rfl | rfl | rfl | rfl | rfl | rfl <;> rfl
  have hR2 := HR.out.keep hC
  refine wpList_store_row (by rfl) _ _ rfl rfl (by rfl) [v0, v1, v2, v3, v4, v5, v6, .slice none 0 0, v8, v9, v10, .slice none 0 0, .slice none 0 0, .slice none 0 0, v14, .slice none 0 0, .slice none 0 0] (.agg #[v0, v1, v2, v3, v4, v5, v6, .slice none 0 0, v8, v9, v10, .slice none 0 0, .slice none 0 0, .slice none 0 0, v14, .slice none 0 0, .slice none 0 0]) (by rfl) rfl (size_pol _) hR2 rfl one ?_
  have HR3 := Lib.hid (hR2.row [v0, v1, v2, v3, v4, v5, v6, .slice none 0 0, v8, v9, v10, .slice none 0 0, .slice none 0 0, .slice none 0 0, v14, .slice none 0 0, .slice none 0 0])
  have HBK : Hid (Below g0 w (W2.setRow g0 [v0, v1, v2, v3, v4, v5, v6, .slice none 0 0, v8, v9, v10, .slice none 0 0, .slice none 0 0, .slice none 0 0, v14, .slice none 0 0, .slice none 0 0].toArray)) := Lib.hid (below_row (HB.out.trans (hC.mono HLE.out)) (Nat.le_refl _) _)
  obtain ⟨h0, hv1, hv2, hv3, hv4, hv5, hv6, hv8, hv9, hv10, hv14⟩ := hrest
  have HKS : Hid (PolS gf gd (W2.setRow g0 [v0, v1, v2, v3, v4, v5, v6, .slice none 0 0, v8, v9, v10, .slice none 0 0, .slice none 0 0, .slice none 0 0, v14, .slice none 0 0, .slice none 0 0].toArray) (.agg #[v0, v1, v2, v3, v4, v5, v6, .slice none 0 0, v8, v9, v10, .slice none 0 0, .slice none 0 0, .slice none 0 0, v14, .slice none 0 0, .slice none 0 0])) := Lib.hid ⟨_, _, _, _, _, _, _, _, _, _, _, rfl, ClsL.other h0 hR2 _, hv1.other hR2 (by decide) _, hv2.other hR2 (by decide) _, hv3.other hR2 (by decide) _, hv4.other hR2 (by decide) _, hv5.other hR2 (by decide) _, hv6.other hR2 (by decide) _, hv8.other hR2 (by decide) _, hv9.other hR2 (by decide) _, hv10.other hR2 (by decide) _, hv14.other hR2 (by decide) _⟩
  have HF3 := Lib.hid (blk_other (HF.out.keep hC) hR2 (by decide) [v0, v1, v2, v3, v4, v5, v6, .slice none 0 0, v8, v9, v10, .slice none 0 0, .slice none 0 0, .slice none 0 0, v14, .slice none 0 0, .slice none 0 0].toArray)
  have HD3 := Lib.hid (blk_other (HD.out.keep hC) hR2 (by decide) [v0, v1, v2, v3, v4, v5, v6, .slice none 0 0, v8, v9, v10, .slice none 0 0, .slice none 0 0, .slice none 0 0, v14, .slice none 0 0, .slice none 0 0].toArray)
  clear hR2 h0 hv1 hv2 hv3 hv4 hv5 hv6 hv8 hv9 hv10 hv14 one hC HRest HF HD HB HLE HR
  generalize W2.setRow g0 [v0, v1, v2, v3, v4, v5, v6, .slice none 0 0, v8, v9, v10, .slice none 0 0, .slice none 0 0, .slice none 0 0, v14, .slice none 0 0, .slice none 0 0].toArray = W3 at *
  go_wp2_with fail
  exact bodyPost_ret (v := .agg #[v0, v1, v2, v3, v4, v5, v6, .slice none 0 0, v8, v9, v10, .slice none 0 0, .slice none 0 0, .slice none 0 0, v14, .slice none 0 0, .slice none 0 0]) (blk_ret [v0, v1, v2, v3, v4, v5, v6, .slice none 0 0, v8, v9, v10, .slice none 0 0, .slice none 0 0, .slice none 0 0, v14, .slice none 0 0, .slice none 0 0] Try.results14 rfl (agg_pol _) (size_pol _) HR3.out) rfl ⟨_, _, _, rfl, HKS.out, HF3.out, HD3.out, by first | exact HBK.out | (rw [hg0]; exact HBK.out)⟩
end Go.Proofs.Ytamcfmfkmekkfaa
/- Compile of a membership of types, in a policy that lies in memory. -/
namespace Go.Proofs.Ytamcfmfkmekkfaa
open Go.RowKit Go
def meanT (tys : List PTy) (ats : List PAt) (E : List ByteArray) : Option S4 := meanL (nameS (tys.map (·.n)) 2 (aoB tys ats) (aoS tys ats)) E S4.zero
theorem mean_pol (b0 b1 b2 b3 b4 b5 b6 b7 b8 b9 b10 b11 b12 b13 b14 b15 b16 : Value) (gp : Nat) (tys : List PTy) (ats : List PAt) (vN : Value) (E : List ByteArray) (w : World) (hP : Blk w gp 60 #[b0, b1, b2, b3, b4, b5, b6, b7, b8, b9, b10, b11, b12, b13, b14, b15, b16]) (hT : SlR 3 CTy w b1 tys) (hA : SlR 5 CAt w b2 ats) (hl1 : tys.length ≤ 1000000) (hl2 : ats.length ≤ 1000000) (hE : Strs w vN E) (hel : E.length ≤ maxLen) :
    Calls Try.prog 69 #[vN, .pointer (some ⟨gp, 0, none⟩), .int .i64 2] w fun e w' => e = .returned (.tuple #[.agg #[.int .u64 ((meanT tys ats E).getD S4.zero).a, .int .u64 ((meanT tys ats E).getD S4.zero).b, .int .u64 ((meanT tys ats E).getD S4.zero).c, .int .u64 ((meanT tys ats E).getD S4.zero).d], .bool (meanT tys ats E).isSome]) ∧ Below w.heap.size w w' := by
  have hm : 1000000 ≤ maxLen := by unfold maxLen; omega
  have q1 : tys.length ≤ maxLen := Nat.le_trans hl1 hm
  have q2 : ats.length ≤ maxLen := Nat.le_trans hl2 hm
  have q3 : (tys.map (·.n)).length ≤ maxLen := by rw [List.length_map]; exact q1
  have q4 : (tys.map (·.n)).length ≤ 1000000 := by rw [List.length_map]; exact hl1
  have HN : ∀ W, Kp w W → Calls Try.prog 72 #[.pointer (some ⟨gp, 0, none⟩), .int .i64 2] W fun e w' => ∃ v, e = .returned v ∧ OwnS w' W.heap.size v (tys.map (·.n)) ∧ Below W.heap.size W w' := fun W hW => by
    have k1 : Below w.heap.size w W := hW
    exact namesOf_types b0 b1 b2 b3 b4 b5 b6 b7 b8 b9 b10 b11 b12 b13 b14 b15 b16 gp (tys.map (·.n)) 2 (by decide) W (hP.keep k1) ((NmR.tys hT).keep k1) q4
  have HA : ∀ W s, Kp w W → Calls Try.prog 75 #[.string s, .pointer (some ⟨gp, 0, none⟩)] W fun e w' => e = .returned (.tuple #[.agg #[.int .u64 (aoS tys ats s).a, .int .u64 (aoS tys ats s).b, .int .u64 (aoS tys ats s).c, .int .u64 (aoS tys ats s).d], .bool (aoB tys ats s)]) ∧ Below W.heap.size W w' := fun W s hW => by
    have k1 : Below w.heap.size w W := hW
    exact aliasOr_c b0 b1 b2 b3 b4 b5 b6 b7 b8 b9 b10 b11 b12 b13 b14 b15 b16 gp tys ats s W (hP.keep k1) (hT.keep (fun hg k => CTy.keep k1 hg k) k1) (hA.keep (fun hg k => CAt.keep k1 hg k) k1) q1 q2
  have h := meaning_c vN E (tys.map (·.n)) gp 2 (aoB tys ats) (aoS tys ats) w hE hel q3
  unfold meanT
  exact h HN HA
def inX (E : List ByteArray) : X := .mk 9 2 0 0 E S4.zero []
theorem inX_op (A : Int) (h : A = 10) (E : List ByteArray) : operE A (inX E).op (inX E).a (inX E).r (inX E).b 0 (inX E).st (inX E).ks.length = 0 := by
  subst h
  show operE 10 9 2 0 0 0 S4.zero 0 = 0
  decide +kernel
set_option maxRecDepth 100000 in
theorem compile_yes (b0 b1 b2 b3 b4 b5 b6 b7 b8 b9 b10 b11 b12 b13 b14 b15 b16 : Value) (tys : List PTy) (ats : List PAt) (vn vk : Value) (E : List ByteArray) (S : S4) (w : World) (hT : SlR 3 CTy w b1 tys) (hA : SlR 5 CAt w b2 ats) (hl1 : tys.length ≤ 1000000) (hl2 : ats.length ≤ 1000000) (hV : XV w vn vk (inX E)) (hel : E.length ≤ maxLen) (hnn : 0 < E.length)
    (hS : meanT tys ats E = some S) (hs0 : same4 S.a S.b S.c S.d 0 0 0 0 = false) :
    Calls Try.prog 15 #[.agg #[.int .i64 9, .int .i64 2, .int .i64 0, .int .i64 0, vn, .int .u64 0, .int .u64 0, .int .u64 0, .int .u64 0, vk], .agg #[b0, b1, b2, b3, b4, b5, b6, b7, b8, b9, b10, b11, b12, b13, b14, b15, b16], .bool false] w fun e w' => e = .returned (.tuple #[.agg #[.int .i64 9, .int .i64 2, .int .i64 0, .int .i64 0, .slice none 0 0, .int .u64 S.a, .int .u64 S.b, .int .u64 S.c, .int .u64 S.d, .slice none 0 0], .int .i64 0]) ∧ Below w.heap.size w w' := by
  refine compileTop_c (inX E) vn vk b0 b1 b2 b3 b4 b5 b6 b7 b8 b9 b10 b11 b12 b13 b14 b15 b16 false 9 2 0 0 0 S w hV rfl fun W gp g hW hP hX hg => ?_
  refine compile_ok (inX E) g 0 gp _ 9 2 0 0 S W hX hg rfl fun W2 hW2 => ?_
  refine operator_in (inX E) g 0 gp _ 9 2 0 0 0 S W2 (hX.keep hW2 hg) (Nat.lt_of_lt_of_le hg (Below.size hW2)) rfl fun W3 hW3 => ?_
  refine member_yes (inX E) g 0 gp _ S hs0 W3 ((hX.keep hW2 hg).keep hW3 (Nat.lt_of_lt_of_le hg (Below.size hW2))) (Nat.lt_of_lt_of_le (Nat.lt_of_lt_of_le hg (Below.size hW2)) (Below.size hW3)) hnn rfl (inX_op _ rfl E) fun W4 vN hW4 hN => ?_
  have k0 : Below w.heap.size w W4 := Kp.step (Kp.step (Kp.step hW hW2) hW3) hW4
  have := mean_pol b0 b1 b2 b3 b4 b5 b6 b7 b8 b9 b10 b11 b12 b13 b14 b15 b16 gp tys ats vN E W4 (((hP.keep hW2).keep hW3).keep hW4) (hT.keep (fun hg k => CTy.keep k0 hg k) k0) (hA.keep (fun hg k => CAt.keep k0 hg k) k0) hl1 hl2 hN hel
  rw [hS] at this
  exact this
set_option maxRecDepth 100000 in
theorem compile_none (b0 b1 b2 b3 b4 b5 b6 b7 b8 b9 b10 b11 b12 b13 b14 b15 b16 : Value) (tys : List PTy) (ats : List PAt) (vn vk : Value) (E : List ByteArray) (w : World) (hT : SlR 3 CTy w b1 tys) (hA : SlR 5 CAt w b2 ats) (hl1 : tys.length ≤ 1000000) (hl2 : ats.length ≤ 1000000) (hV : XV w vn vk (inX E)) (hel : E.length ≤ maxLen) (hnn : 0 < E.length)
    (hS : meanT tys ats E = none) :
    Calls Try.prog 15 #[.agg #[.int .i64 9, .int .i64 2, .int .i64 0, .int .i64 0, vn, .int .u64 0, .int .u64 0, .int .u64 0, .int .u64 0, vk], .agg #[b0, b1, b2, b3, b4, b5, b6, b7, b8, b9, b10, b11, b12, b13, b14, b15, b16], .bool false] w fun e w' => e = .returned (.tuple #[.agg #[.int .i64 0, .int .i64 0, .int .i64 0, .int .i64 0, .slice none 0 0, .int .u64 0, .int .u64 0, .int .u64 0, .int .u64 0, .slice none 0 0], .int .i64 11]) ∧ Below w.heap.size w w' := by
  refine compileTop_c (inX E) vn vk b0 b1 b2 b3 b4 b5 b6 b7 b8 b9 b10 b11 b12 b13 b14 b15 b16 false 0 0 0 0 11 S4.zero w hV rfl fun W gp g hW hP hX hg => ?_
  refine compile_no (inX E) g 0 gp _ 0 0 0 0 11 S4.zero W hX hg (by decide) fun W2 hW2 => ?_
  refine operator_in (inX E) g 0 gp _ 0 0 0 0 11 S4.zero W2 (hX.keep hW2 hg) (Nat.lt_of_lt_of_le hg (Below.size hW2)) rfl fun W3 hW3 => ?_
  refine member_no (inX E) g 0 gp _ S4.zero W3 ((hX.keep hW2 hg).keep hW3 (Nat.lt_of_lt_of_le hg (Below.size hW2))) (Nat.lt_of_lt_of_le (Nat.lt_of_lt_of_le hg (Below.size hW2)) (Below.size hW3)) hnn rfl (inX_op _ rfl E) fun W4 vN hW4 hN => ?_
  have k0 : Below w.heap.size w W4 := Kp.step (Kp.step (Kp.step hW hW2) hW3) hW4
  have := mean_pol b0 b1 b2 b3 b4 b5 b6 b7 b8 b9 b10 b11 b12 b13 b14 b15 b16 gp tys ats vN E W4 (((hP.keep hW2).keep hW3).keep hW4) (hT.keep (fun hg k => CTy.keep k0 hg k) k0) (hA.keep (fun hg k => CAt.keep k0 hg k) k0) hl1 hl2 hN hel
  rw [hS] at this
  exact this
end Go.Proofs.Ytamcfmfkmekkfaa
/- awake: the examples of the chapter. -/
namespace Go.Proofs.Ytamcfmfkmekkfaa
open Go.RowKit Go
def tysS : List PTy := [⟨⟨#[105, 110, 105, 116, 95, 116]⟩, [], false⟩, ⟨⟨#[117, 115, 101, 114, 95, 116]⟩, [], false⟩, ⟨⟨#[102, 105, 108, 101, 95, 116]⟩, [], false⟩, ⟨⟨#[115, 104, 101, 108, 108, 95, 116]⟩, [], false⟩]
def atsS : List PAt := [⟨⟨#[100, 111, 109, 97, 105, 110]⟩, ofS [0, 1]⟩]
def rolesX : X := .mk 8 1 0 6 [] S4.zero []
def levelsX : X := .mk 8 3 2 8 [] S4.zero []
def cxI : Cx := ⟨0, 1, 0, zcl, zcl⟩
def cxF : Cx := ⟨0, 0, 2, zcl, zcl⟩
theorem tysS_mem {u : World} {v : Value} (h : Lst u v 82 4 smTys) : SlR 3 CTy u v tysS := by
  obtain ⟨g, rfl, hb⟩ := h
  refine ⟨_, _, rfl, by decide, fun _ => ⟨g, 0, rfl, hb.lt, fun i hi => ?_⟩⟩
  have ht : TxW [] := fun s hs => by simp at hs
  have hm : 0 ≤ maxLen := Nat.zero_le _
  match i, hi with
  | 0, _ => exact ⟨hb.cell 0, ⟨_, hb.cell 1, Strs.nil⟩, hb.cell 2, (by decide : (6 : Nat) ≤ 9223372036854775807), ht, hm⟩
  | 1, _ => exact ⟨hb.cell 3, ⟨_, hb.cell 4, Strs.nil⟩, hb.cell 5, (by decide : (6 : Nat) ≤ 9223372036854775807), ht, hm⟩
  | 2, _ => exact ⟨hb.cell 6, ⟨_, hb.cell 7, Strs.nil⟩, hb.cell 8, (by decide : (6 : Nat) ≤ 9223372036854775807), ht, hm⟩
  | 3, _ => exact ⟨hb.cell 9, ⟨_, hb.cell 10, Strs.nil⟩, hb.cell 11, (by decide : (7 : Nat) ≤ 9223372036854775807), ht, hm⟩
theorem u01 : U64 (ofS [0, 1]).a ∧ U64 (ofS [0, 1]).b ∧ U64 (ofS [0, 1]).c ∧ U64 (ofS [0, 1]).d := by
  unfold U64
  decide +kernel
theorem atsS_mem {u : World} {v : Value} (h : Lst u v 85 1 smAts) : SlR 5 CAt u v atsS := by
  obtain ⟨g, rfl, hb⟩ := h
  refine ⟨_, _, rfl, by decide, fun _ => ⟨g, 0, rfl, hb.lt, fun i hi => ?_⟩⟩
  match i, hi with
  | 0, _ => exact ⟨hb.cell 0, hb.cell 1, hb.cell 2, hb.cell 3, hb.cell 4, (by decide : (6 : Nat) ≤ 9223372036854775807), u01.1, u01.2.1, u01.2.2.1, u01.2.2.2⟩
def nmE1 : List ByteArray := [⟨#[105, 110, 105, 116, 95, 116]⟩, ⟨#[102, 105, 108, 101, 95, 116]⟩]
def nmE2 : List ByteArray := [⟨#[110, 111, 116, 104, 105, 110, 103, 95, 116]⟩]
theorem lst_strs {u : World} {v : Value} {E : List ByteArray} (h : Lst u v 9 E.length (E.map Value.string)) : Strs u v E := by
  obtain ⟨g, rfl, hb⟩ := h
  refine ⟨_, _, rfl, fun _ => ⟨g, 0, rfl, fun k hk => ?_⟩⟩
  rw [hb.cell (0 + k)]
  simp [hk]
theorem i9 : I64 9 := ⟨by decide, by decide⟩
theorem i2 : I64 2 := ⟨by decide, by decide⟩
theorem i0 : I64 0 := ⟨by decide, by decide⟩
theorem uz : U64 0 := ⟨by decide, by decide⟩
theorem xv_in {u : World} {v : Value} {E : List ByteArray} (h : Strs u v E) (ht : TxW E) (hl : E.length ≤ maxLen) : XV u v (.slice none 0 0) (inX E) :=
  ⟨h, SlR.nil, ⟨i9, i2, i0, i0, ht, ⟨uz, uz, uz, uz⟩, hl, Nat.zero_le _⟩⟩
theorem tx1 : TxW nmE1 := fun s hs => by
  simp only [nmE1, List.mem_cons, List.not_mem_nil, or_false] at hs
  rcases hs with rfl | rfl <;> decide
theorem tx2 : TxW nmE2 := fun s hs => by
  simp only [nmE2, List.mem_cons, List.not_mem_nil, or_false] at hs
  rcases hs with rfl; decide
theorem xv_leaf {u : World} {op a r b : Int} (h1 : I64 op) (h2 : I64 a) (h3 : I64 r) (h4 : I64 b) : XV u (.slice none 0 0) (.slice none 0 0) (.mk op a r b [] S4.zero []) :=
  ⟨Strs.nil, SlR.nil, ⟨h1, h2, h3, h4, fun s hs => by simp [X.ns] at hs, ⟨uz, uz, uz, uz⟩, Nat.zero_le _, Nat.zero_le _⟩⟩
theorem xv_roles (u : World) : XV u (.slice none 0 0) (.slice none 0 0) rolesX := xv_leaf ⟨by decide, by decide⟩ ⟨by decide, by decide⟩ ⟨by decide, by decide⟩ ⟨by decide, by decide⟩
theorem xv_levels (u : World) : XV u (.slice none 0 0) (.slice none 0 0) levelsX := xv_leaf ⟨by decide, by decide⟩ ⟨by decide, by decide⟩ ⟨by decide, by decide⟩ ⟨by decide, by decide⟩
theorem ex_m1 : meanT tysS atsS nmE1 = some ⟨5, 0, 0, 0⟩ := by decide +kernel
theorem ex_m2 : meanT tysS atsS nmE2 = none := by decide +kernel
theorem ex_ro : evX ⟨cxI, cxF, nocx⟩ rolesX = false := by decide +kernel
theorem ex_le : evX ⟨cxI, cxF, nocx⟩ levelsX = true := by decide +kernel
theorem ex_mn : mnX 6 15 rolesX = true := by decide +kernel
theorem ex_sm : smX 15 rolesX = true := by decide +kernel
theorem ex_ck : opE 10 rolesX = 0 := by decide +kernel
theorem ex_dn : dnL (evX ⟨cxI, cxF, nocx⟩) 1 0 [⟨1, 2, false, rolesX⟩] 0 (-1) = (2, 0) := by decide +kernel
end Go.Proofs.Ytamcfmfkmekkfaa
