/- Part of the proof: Cd9 CdZ Cxe Cxf. No conditions. -/
import Derived.Test.YtbhoofihnmmmfabGreatYac
import Derived.Test.YtbhoofihnmmmfabGreatYad
import Derived.Test.YtbhoofihnmmmfabGreatYae
import Derived.LoopTactic
namespace Go.Proofs.YtbhoofihnmmmfabGreat
open Go.RowKit
set_option maxRecDepth 100000 in
set_option maxHeartbeats 16000000 in
theorem operator9_c (g o : Nat) (op a r b : Int) (ao : Option Addr) (nn cap : Nat) (s : S4) (ak : Option Addr) (m ck : Nat) (n : Int) (w : World) (hX : XC w g o op a r b ao nn cap s ak m ck) (hg : g < w.heap.size) (hop : op = 9) :
 Calls Tryz.prog 70 #[.pointer (some ⟨g, o, none⟩), .int .i64 n] w fun e w' => e = .returned (.int .i64 (operE n op a r b nn s m)) ∧ Below w.heap.size w w' := by
 have HX := Lib.hid hX
 have HG := Lib.hid hg
 clear hX hg
 unfold operE
 rw [if_neg (by omega), if_neg (by omega), if_neg (by omega), if_pos hop]
 have p2 : (op == 2) = false := by rw [hop]; rfl
 have p3 : (op == 3) = false := by rw [hop]; rfl
 have p4 : (op == 4) = false := by rw [hop]; rfl
 have p8 : (op == 8) = false := by rw [hop]; rfl
 have p9 : (op == 9) = true := by rw [hop]; rfl
 by_cases hm : m = 0
 · have hmi : ((m : Int) != 0) = false := by rw [hm]; rfl
   cases hh : hasF 0 r b nn S4.zero with
   | true =>
     rw [if_pos (.inr rfl)]
     have HH := Lib.hid hh
     clear hh hm hop
     go_enter Tryz.func70, Tryz.ntmps70
     go_upto_region 1 with fail
     refine wp_region_phit 5 (oPhi g o op a r b ao nn cap s ak m ck w) (by kernel_rfl) (by decide) (by kernel_rfl) (by kernel_rfl) (by kernel_rfl) (fun k v u u2 h hb => oPhi_keep h hb) ?_ ?_
     · refine ⟨⟨trivial, fun A u hK hF => ?_⟩, ⟨trivial, fun A u hK hF => ?_⟩, ⟨trivial, fun A u hK hF => ?_⟩, ⟨trivial, fun A u hK hF => ?_⟩, ⟨trivial, fun A u hK hF => ?_⟩, trivial⟩
       · have f0 : A.tmps[0]?.getD undef = .pointer (some ⟨g, o, none⟩) := fact_none (hF 0) (by kernel_rfl)
         unfold Gives
         go_simp
         exact gives_val (Below.refl _ _) rfl
       · have f7 : A.tmps[7]?.getD undef = .pointer (some ⟨g, o, none⟩) := fact_some (hF 7) (j := 0) (by kernel_rfl) (by kernel_rfl)
         unfold Gives
         go_simp
         exact gives_val (Below.refl _ _) rfl
       · have f8 : A.tmps[8]?.getD undef = .pointer (some ⟨g, o, none⟩) := fact_some (hF 8) (j := 1) (by kernel_rfl) (by kernel_rfl)
         obtain ⟨k0, k1, k2, k3, k4, k5, k6, k7, k8, k9⟩ := (HX.out.keep (hK.block g HG.out)).cells
         unfold Gives
         go_simp
         exact gives_val (Below.refl _ _) rfl
       · unfold Gives
         go_simp
         exact gives_val ((Below.refl _ _).alloc (Nat.le_refl _) _) ⟨_, rfl, hK.size, Blk.new _ _ _⟩
       · unfold Gives
         go_simp
         exact gives_val (Below.refl _ _) rfl
     intro a0 W2 hC hsz hdf hF
     have ha := end_mask [false, false, false, false, false, true, true, true, true, true, false, false, false, false, false, false, false, false, false, false, false, false, false, false, false, false, false, false, false, false, false, false, false, false, false, false, false, false, false, false, false, false, false, false, false, false, false, false, false, false, false, false, false, false, false, false, false, false] hsz hdf hF (by kernel_rfl)
     have f9 : a0.tmps[9]?.getD undef = .agg #[.int .i64 op, .int .i64 a, .int .i64 r, .int .i64 b, .slice ao nn cap, .int .u64 s.a, .int .u64 s.b, .int .u64 s.c, .int .u64 s.d, .slice ak m ck] := fact_end (hF 9) (j := 2) (by kernel_rfl)
     have f5 : a0.tmps[5]?.getD undef = .int .i64 0 := fact_end (hF 5) (j := 4) (by kernel_rfl)
     obtain ⟨g6, f6, hg6, hb6⟩ : ∃ g, a0.tmps[6]?.getD undef = .pointer (some ⟨g, 0, none⟩) ∧ w.heap.size ≤ g ∧ Blk W2 g 55 #[.int .i64 0, .int .i64 0, .int .i64 0, .int .i64 0, .slice none 0 0, .int .u64 0, .int .u64 0, .int .u64 0, .int .u64 0, .slice none 0 0] := fact_end (hF 6) (j := 3) (by kernel_rfl)
     rw [ha]
     clear ha hF
     simp only [cutM_yes, cutM_no, cutM_nil, Nat.reduceAdd]
     rw [f9, f5, f6]
     clear f9 f5 f6
     generalize a0.tmps[7]?.getD undef = s7
     generalize a0.tmps[8]?.getD undef = s8
     clear hsz hdf
     have HG6 := Lib.hid hg6
     obtain ⟨W3, ZW3⟩ : ∃ v, Hid (((((((((((W2.setCell ⟨g6, 0, none⟩ (.int .i64 op)).setCell ⟨g6, 1, none⟩ (.int .i64 a)).setCell ⟨g6, 2, none⟩ (.int .i64 r)).setCell ⟨g6, 3, none⟩ (.int .i64 b)).setCell ⟨g6, 4, none⟩ (.slice ao nn cap)).setCell ⟨g6, 5, none⟩ (.int .u64 s.a)).setCell ⟨g6, 6, none⟩ (.int .u64 s.b)).setCell ⟨g6, 7, none⟩ (.int .u64 s.c)).setCell ⟨g6, 8, none⟩ (.int .u64 s.d)).setCell ⟨g6, 9, none⟩ (.slice ak m ck)) = v) := ⟨_, Lib.hid rfl⟩
     have HB : Hid (Blk W3 g6 55 #[.int .i64 op, .int .i64 a, .int .i64 r, .int .i64 b, .slice ao nn cap, .int .u64 s.a, .int .u64 s.b, .int .u64 s.c, .int .u64 s.d, .slice ak m ck]) := by cases ZW3.out; exact Lib.hid (Blk.store10 hb6 _ _ _ _ _ _ _ _ _ _)
     have HK : Hid (Below w.heap.size w W3) := by cases ZW3.out; exact Lib.hid (below_set1 (below_set1 (below_set1 (below_set1 (below_set1 (below_set1 (below_set1 (below_set1 (below_set1 (below_set1 hC HG6.out 0 _) HG6.out 1 _) HG6.out 2 _) HG6.out 3 _) HG6.out 4 _) HG6.out 5 _) HG6.out 6 _) HG6.out 7 _) HG6.out 8 _) HG6.out 9 _)
     have c8 := hb6.cell
     have k0 := c8 0
     have k1 := c8 1
     have k2 := c8 2
     have k3 := c8 3
     have k4 := c8 4
     have k5 := c8 5
     have k6 := c8 6
     have k7 := c8 7
     have k8 := c8 8
     have k9 := c8 9
     have z6 := hb6.frozen
     clear c8 hC hb6 hg6
     go_upto_region 2 with fail
     rw [ZW3.out]
     clear k0 k1 k2 k3 k4 k5 k6 k7 k8 k9 z6
     obtain ⟨x0, x1, x2, x3, x4, x5, x6, x7, x8, x9⟩ := (HX.out.keep (HK.out.block g HG.out)).cells
     obtain ⟨W3b, ZW3b⟩ : ∃ v, Hid ((((((W3.setCell ⟨g6, 1, none⟩ (.int .i64 0)).setCell ⟨g6, 5, none⟩ (.int .u64 0)).setCell ⟨g6, 6, none⟩ (.int .u64 0)).setCell ⟨g6, 7, none⟩ (.int .u64 0)).setCell ⟨g6, 8, none⟩ (.int .u64 0)) = v) := ⟨_, Lib.hid rfl⟩
     have HBB : Hid (Blk W3b g6 55 #[.int .i64 op, .int .i64 0, .int .i64 r, .int .i64 b, .slice ao nn cap, .int .u64 0, .int .u64 0, .int .u64 0, .int .u64 0, .slice ak m ck]) := by cases ZW3b.out; exact Lib.hid (by
      have k := (Blk.set (Blk.set (Blk.set (Blk.set (Blk.set HB.out 1 (.int .i64 0)) 5 (.int .u64 0)) 6 (.int .u64 0)) 7 (.int .u64 0)) 8 (.int .u64 0))
      simp only [List.setIfInBounds_toArray, List.set_cons_zero, List.set_cons_succ] at k
      exact k)
     have HBK : Hid (Below w.heap.size w W3b) := by cases ZW3b.out; exact Lib.hid (below_set1 (below_set1 (below_set1 (below_set1 (below_set1 HK.out HG6.out 1 _) HG6.out 5 _) HG6.out 6 _) HG6.out 7 _) HG6.out 8 _)
     have c6 := HB.out.cell
     have c60 := c6 0
     have c61 := c6 1
     have c62 := c6 2
     have c63 := c6 3
     have c65 := c6 5
     have c66 := c6 6
     have c67 := c6 7
     have c68 := c6 8
     have z6 := HB.out.frozen
     clear c6
     go_upto_region 13 with fail
     rw [ZW3b.out]
     clear c60 c61 c62 c63 c65 c66 c67 c68 z6 x0 x1 x2 x3 x4 x5 x6 x7 x8 x9
     obtain ⟨x0, x1, x2, x3, x4, x5, x6, x7, x8, x9⟩ := (HX.out.keep (HBK.out.block g HG.out)).cells
     go_wp2_with ((go_at_call 94; refine (hasFields_c g6 0 0 r b ao nn cap S4.zero _ (HBB.out.cell 1) (HBB.out.cell 2) (HBB.out.cell 3) (HBB.out.cell 4) (HBB.out.cell 5) (HBB.out.cell 6) (HBB.out.cell 7) (HBB.out.cell 8)).mono ?_; rw [HH.out]; rintro e W4 ⟨rfl, hb4⟩; have HX4 := Lib.hid (HX.out.keep ((hb4.block g (by have h := HBK.out.size; have := HG.out; omega)).trans (HBK.out.block g HG.out))); obtain ⟨y0, y1, y2, y3, y4, y5, y6, y7, y8, y9⟩ := HX4.out.cells; have HB4 := Lib.hid (HBK.out.trans (hb4.mono HBK.out.size)); clear hb4))
     go_ret
     exact ⟨rfl, HB4.out⟩
   | false =>
     rw [if_neg (by simp [hm])]
     have HH := Lib.hid hh
     clear hh hm hop
     go_enter Tryz.func70, Tryz.ntmps70
     go_upto_region 1 with fail
     refine wp_region_phit 5 (oPhi g o op a r b ao nn cap s ak m ck w) (by kernel_rfl) (by decide) (by kernel_rfl) (by kernel_rfl) (by kernel_rfl) (fun k v u u2 h hb => oPhi_keep h hb) ?_ ?_
     · refine ⟨⟨trivial, fun A u hK hF => ?_⟩, ⟨trivial, fun A u hK hF => ?_⟩, ⟨trivial, fun A u hK hF => ?_⟩, ⟨trivial, fun A u hK hF => ?_⟩, ⟨trivial, fun A u hK hF => ?_⟩, trivial⟩
       · have f0 : A.tmps[0]?.getD undef = .pointer (some ⟨g, o, none⟩) := fact_none (hF 0) (by kernel_rfl)
         unfold Gives
         go_simp
         exact gives_val (Below.refl _ _) rfl
       · have f7 : A.tmps[7]?.getD undef = .pointer (some ⟨g, o, none⟩) := fact_some (hF 7) (j := 0) (by kernel_rfl) (by kernel_rfl)
         unfold Gives
         go_simp
         exact gives_val (Below.refl _ _) rfl
       · have f8 : A.tmps[8]?.getD undef = .pointer (some ⟨g, o, none⟩) := fact_some (hF 8) (j := 1) (by kernel_rfl) (by kernel_rfl)
         obtain ⟨k0, k1, k2, k3, k4, k5, k6, k7, k8, k9⟩ := (HX.out.keep (hK.block g HG.out)).cells
         unfold Gives
         go_simp
         exact gives_val (Below.refl _ _) rfl
       · unfold Gives
         go_simp
         exact gives_val ((Below.refl _ _).alloc (Nat.le_refl _) _) ⟨_, rfl, hK.size, Blk.new _ _ _⟩
       · unfold Gives
         go_simp
         exact gives_val (Below.refl _ _) rfl
     intro a0 W2 hC hsz hdf hF
     have ha := end_mask [false, false, false, false, false, true, true, true, true, true, false, false, false, false, false, false, false, false, false, false, false, false, false, false, false, false, false, false, false, false, false, false, false, false, false, false, false, false, false, false, false, false, false, false, false, false, false, false, false, false, false, false, false, false, false, false, false, false] hsz hdf hF (by kernel_rfl)
     have f9 : a0.tmps[9]?.getD undef = .agg #[.int .i64 op, .int .i64 a, .int .i64 r, .int .i64 b, .slice ao nn cap, .int .u64 s.a, .int .u64 s.b, .int .u64 s.c, .int .u64 s.d, .slice ak m ck] := fact_end (hF 9) (j := 2) (by kernel_rfl)
     have f5 : a0.tmps[5]?.getD undef = .int .i64 0 := fact_end (hF 5) (j := 4) (by kernel_rfl)
     obtain ⟨g6, f6, hg6, hb6⟩ : ∃ g, a0.tmps[6]?.getD undef = .pointer (some ⟨g, 0, none⟩) ∧ w.heap.size ≤ g ∧ Blk W2 g 55 #[.int .i64 0, .int .i64 0, .int .i64 0, .int .i64 0, .slice none 0 0, .int .u64 0, .int .u64 0, .int .u64 0, .int .u64 0, .slice none 0 0] := fact_end (hF 6) (j := 3) (by kernel_rfl)
     rw [ha]
     clear ha hF
     simp only [cutM_yes, cutM_no, cutM_nil, Nat.reduceAdd]
     rw [f9, f5, f6]
     clear f9 f5 f6
     generalize a0.tmps[7]?.getD undef = s7
     generalize a0.tmps[8]?.getD undef = s8
     clear hsz hdf
     have HG6 := Lib.hid hg6
     have HB : Hid (Blk ((((((((((W2.setCell ⟨g6, 0, none⟩ (.int .i64 op)).setCell ⟨g6, 1, none⟩ (.int .i64 a)).setCell ⟨g6, 2, none⟩ (.int .i64 r)).setCell ⟨g6, 3, none⟩ (.int .i64 b)).setCell ⟨g6, 4, none⟩ (.slice ao nn cap)).setCell ⟨g6, 5, none⟩ (.int .u64 s.a)).setCell ⟨g6, 6, none⟩ (.int .u64 s.b)).setCell ⟨g6, 7, none⟩ (.int .u64 s.c)).setCell ⟨g6, 8, none⟩ (.int .u64 s.d)).setCell ⟨g6, 9, none⟩ (.slice ak m ck)) g6 55 #[.int .i64 op, .int .i64 a, .int .i64 r, .int .i64 b, .slice ao nn cap, .int .u64 s.a, .int .u64 s.b, .int .u64 s.c, .int .u64 s.d, .slice ak m ck]) := Lib.hid (Blk.store10 hb6 _ _ _ _ _ _ _ _ _ _)
     have HK : Hid (Below w.heap.size w ((((((((((W2.setCell ⟨g6, 0, none⟩ (.int .i64 op)).setCell ⟨g6, 1, none⟩ (.int .i64 a)).setCell ⟨g6, 2, none⟩ (.int .i64 r)).setCell ⟨g6, 3, none⟩ (.int .i64 b)).setCell ⟨g6, 4, none⟩ (.slice ao nn cap)).setCell ⟨g6, 5, none⟩ (.int .u64 s.a)).setCell ⟨g6, 6, none⟩ (.int .u64 s.b)).setCell ⟨g6, 7, none⟩ (.int .u64 s.c)).setCell ⟨g6, 8, none⟩ (.int .u64 s.d)).setCell ⟨g6, 9, none⟩ (.slice ak m ck))) := Lib.hid (below_set1 (below_set1 (below_set1 (below_set1 (below_set1 (below_set1 (below_set1 (below_set1 (below_set1 (below_set1 hC HG6.out 0 _) HG6.out 1 _) HG6.out 2 _) HG6.out 3 _) HG6.out 4 _) HG6.out 5 _) HG6.out 6 _) HG6.out 7 _) HG6.out 8 _) HG6.out 9 _)
     have c8 := hb6.cell
     have k0 := c8 0
     have k1 := c8 1
     have k2 := c8 2
     have k3 := c8 3
     have k4 := c8 4
     have k5 := c8 5
     have k6 := c8 6
     have k7 := c8 7
     have k8 := c8 8
     have k9 := c8 9
     have z6 := hb6.frozen
     clear c8 hC hb6 hg6
     go_upto_region 2 with fail
     generalize ((((((((((W2.setCell ⟨g6, 0, none⟩ (.int .i64 op)).setCell ⟨g6, 1, none⟩ (.int .i64 a)).setCell ⟨g6, 2, none⟩ (.int .i64 r)).setCell ⟨g6, 3, none⟩ (.int .i64 b)).setCell ⟨g6, 4, none⟩ (.slice ao nn cap)).setCell ⟨g6, 5, none⟩ (.int .u64 s.a)).setCell ⟨g6, 6, none⟩ (.int .u64 s.b)).setCell ⟨g6, 7, none⟩ (.int .u64 s.c)).setCell ⟨g6, 8, none⟩ (.int .u64 s.d)).setCell ⟨g6, 9, none⟩ (.slice ak m ck)) = W3 at *
     clear k0 k1 k2 k3 k4 k5 k6 k7 k8 k9 z6
     obtain ⟨x0, x1, x2, x3, x4, x5, x6, x7, x8, x9⟩ := (HX.out.keep (HK.out.block g HG.out)).cells
     have HBB : Hid (Blk (((((W3.setCell ⟨g6, 1, none⟩ (.int .i64 0)).setCell ⟨g6, 5, none⟩ (.int .u64 0)).setCell ⟨g6, 6, none⟩ (.int .u64 0)).setCell ⟨g6, 7, none⟩ (.int .u64 0)).setCell ⟨g6, 8, none⟩ (.int .u64 0)) g6 55 #[.int .i64 op, .int .i64 0, .int .i64 r, .int .i64 b, .slice ao nn cap, .int .u64 0, .int .u64 0, .int .u64 0, .int .u64 0, .slice ak m ck]) := Lib.hid (by
      have k := (Blk.set (Blk.set (Blk.set (Blk.set (Blk.set HB.out 1 (.int .i64 0)) 5 (.int .u64 0)) 6 (.int .u64 0)) 7 (.int .u64 0)) 8 (.int .u64 0))
      simp only [List.setIfInBounds_toArray, List.set_cons_zero, List.set_cons_succ] at k
      exact k)
     have HBK : Hid (Below w.heap.size w (((((W3.setCell ⟨g6, 1, none⟩ (.int .i64 0)).setCell ⟨g6, 5, none⟩ (.int .u64 0)).setCell ⟨g6, 6, none⟩ (.int .u64 0)).setCell ⟨g6, 7, none⟩ (.int .u64 0)).setCell ⟨g6, 8, none⟩ (.int .u64 0))) := Lib.hid (below_set1 (below_set1 (below_set1 (below_set1 (below_set1 HK.out HG6.out 1 _) HG6.out 5 _) HG6.out 6 _) HG6.out 7 _) HG6.out 8 _)
     have c6 := HB.out.cell
     have c60 := c6 0
     have c61 := c6 1
     have c62 := c6 2
     have c63 := c6 3
     have c65 := c6 5
     have c66 := c6 6
     have c67 := c6 7
     have c68 := c6 8
     have z6 := HB.out.frozen
     clear c6
     go_upto_region 13 with fail
     generalize (((((W3.setCell ⟨g6, 1, none⟩ (.int .i64 0)).setCell ⟨g6, 5, none⟩ (.int .u64 0)).setCell ⟨g6, 6, none⟩ (.int .u64 0)).setCell ⟨g6, 7, none⟩ (.int .u64 0)).setCell ⟨g6, 8, none⟩ (.int .u64 0)) = W3b at *
     clear c60 c61 c62 c63 c65 c66 c67 c68 z6 x0 x1 x2 x3 x4 x5 x6 x7 x8 x9
     obtain ⟨x0, x1, x2, x3, x4, x5, x6, x7, x8, x9⟩ := (HX.out.keep (HBK.out.block g HG.out)).cells
     go_wp2_with (first
      | (go_at_call 94; refine (hasFields_c g6 0 0 r b ao nn cap S4.zero _ (HBB.out.cell 1) (HBB.out.cell 2) (HBB.out.cell 3) (HBB.out.cell 4) (HBB.out.cell 5) (HBB.out.cell 6) (HBB.out.cell 7) (HBB.out.cell 8)).mono ?_; rw [HH.out]; rintro e W4 ⟨rfl, hb4⟩; have HX4 := Lib.hid (HX.out.keep ((hb4.block g (by have h := HBK.out.size; have := HG.out; omega)).trans (HBK.out.block g HG.out))); obtain ⟨y0, y1, y2, y3, y4, y5, y6, y7, y8, y9⟩ := HX4.out.cells; have HB4 := Lib.hid (HBK.out.trans (hb4.mono HBK.out.size)); clear hb4)
      | (go_at_call 96; refine (membershipError_c g o a n _ y1).mono ?_; rintro e W5 ⟨rfl, hb5⟩; have HB5 := Lib.hid (HB4.out.trans (hb5.mono HB4.out.size)); clear hb5))
     go_ret
     exact ⟨rfl, HB5.out⟩
 · rw [if_pos (.inl hm)]
   have hmi : ((m : Int) != 0) = true := by simp; omega
   clear hm hop
   go_enter Tryz.func70, Tryz.ntmps70
   go_upto_region 1 with fail
   refine wp_region_phit 5 (oPhi g o op a r b ao nn cap s ak m ck w) (by kernel_rfl) (by decide) (by kernel_rfl) (by kernel_rfl) (by kernel_rfl) (fun k v u u2 h hb => oPhi_keep h hb) ?_ ?_
   · refine ⟨⟨trivial, fun A u hK hF => ?_⟩, ⟨trivial, fun A u hK hF => ?_⟩, ⟨trivial, fun A u hK hF => ?_⟩, ⟨trivial, fun A u hK hF => ?_⟩, ⟨trivial, fun A u hK hF => ?_⟩, trivial⟩
     · have f0 : A.tmps[0]?.getD undef = .pointer (some ⟨g, o, none⟩) := fact_none (hF 0) (by kernel_rfl)
       unfold Gives
       go_simp
       exact gives_val (Below.refl _ _) rfl
     · have f7 : A.tmps[7]?.getD undef = .pointer (some ⟨g, o, none⟩) := fact_some (hF 7) (j := 0) (by kernel_rfl) (by kernel_rfl)
       unfold Gives
       go_simp
       exact gives_val (Below.refl _ _) rfl
     · have f8 : A.tmps[8]?.getD undef = .pointer (some ⟨g, o, none⟩) := fact_some (hF 8) (j := 1) (by kernel_rfl) (by kernel_rfl)
       obtain ⟨k0, k1, k2, k3, k4, k5, k6, k7, k8, k9⟩ := (HX.out.keep (hK.block g HG.out)).cells
       unfold Gives
       go_simp
       exact gives_val (Below.refl _ _) rfl
     · unfold Gives
       go_simp
       exact gives_val ((Below.refl _ _).alloc (Nat.le_refl _) _) ⟨_, rfl, hK.size, Blk.new _ _ _⟩
     · unfold Gives
       go_simp
       exact gives_val (Below.refl _ _) rfl
   intro a0 W2 hC hsz hdf hF
   have ha := end_mask [false, false, false, false, false, true, true, true, true, true, false, false, false, false, false, false, false, false, false, false, false, false, false, false, false, false, false, false, false, false, false, false, false, false, false, false, false, false, false, false, false, false, false, false, false, false, false, false, false, false, false, false, false, false, false, false, false, false] hsz hdf hF (by kernel_rfl)
   have f9 : a0.tmps[9]?.getD undef = .agg #[.int .i64 op, .int .i64 a, .int .i64 r, .int .i64 b, .slice ao nn cap, .int .u64 s.a, .int .u64 s.b, .int .u64 s.c, .int .u64 s.d, .slice ak m ck] := fact_end (hF 9) (j := 2) (by kernel_rfl)
   have f5 : a0.tmps[5]?.getD undef = .int .i64 0 := fact_end (hF 5) (j := 4) (by kernel_rfl)
   obtain ⟨g6, f6, hg6, hb6⟩ : ∃ g, a0.tmps[6]?.getD undef = .pointer (some ⟨g, 0, none⟩) ∧ w.heap.size ≤ g ∧ Blk W2 g 55 #[.int .i64 0, .int .i64 0, .int .i64 0, .int .i64 0, .slice none 0 0, .int .u64 0, .int .u64 0, .int .u64 0, .int .u64 0, .slice none 0 0] := fact_end (hF 6) (j := 3) (by kernel_rfl)
   rw [ha]
   clear ha hF
   simp only [cutM_yes, cutM_no, cutM_nil, Nat.reduceAdd]
   rw [f9, f5, f6]
   clear f9 f5 f6
   generalize a0.tmps[7]?.getD undef = s7
   generalize a0.tmps[8]?.getD undef = s8
   clear hsz hdf
   have HG6 := Lib.hid hg6
   have HB : Hid (Blk ((((((((((W2.setCell ⟨g6, 0, none⟩ (.int .i64 op)).setCell ⟨g6, 1, none⟩ (.int .i64 a)).setCell ⟨g6, 2, none⟩ (.int .i64 r)).setCell ⟨g6, 3, none⟩ (.int .i64 b)).setCell ⟨g6, 4, none⟩ (.slice ao nn cap)).setCell ⟨g6, 5, none⟩ (.int .u64 s.a)).setCell ⟨g6, 6, none⟩ (.int .u64 s.b)).setCell ⟨g6, 7, none⟩ (.int .u64 s.c)).setCell ⟨g6, 8, none⟩ (.int .u64 s.d)).setCell ⟨g6, 9, none⟩ (.slice ak m ck)) g6 55 #[.int .i64 op, .int .i64 a, .int .i64 r, .int .i64 b, .slice ao nn cap, .int .u64 s.a, .int .u64 s.b, .int .u64 s.c, .int .u64 s.d, .slice ak m ck]) := Lib.hid (Blk.store10 hb6 _ _ _ _ _ _ _ _ _ _)
   have HK : Hid (Below w.heap.size w ((((((((((W2.setCell ⟨g6, 0, none⟩ (.int .i64 op)).setCell ⟨g6, 1, none⟩ (.int .i64 a)).setCell ⟨g6, 2, none⟩ (.int .i64 r)).setCell ⟨g6, 3, none⟩ (.int .i64 b)).setCell ⟨g6, 4, none⟩ (.slice ao nn cap)).setCell ⟨g6, 5, none⟩ (.int .u64 s.a)).setCell ⟨g6, 6, none⟩ (.int .u64 s.b)).setCell ⟨g6, 7, none⟩ (.int .u64 s.c)).setCell ⟨g6, 8, none⟩ (.int .u64 s.d)).setCell ⟨g6, 9, none⟩ (.slice ak m ck))) := Lib.hid (below_set1 (below_set1 (below_set1 (below_set1 (below_set1 (below_set1 (below_set1 (below_set1 (below_set1 (below_set1 hC HG6.out 0 _) HG6.out 1 _) HG6.out 2 _) HG6.out 3 _) HG6.out 4 _) HG6.out 5 _) HG6.out 6 _) HG6.out 7 _) HG6.out 8 _) HG6.out 9 _)
   have c8 := hb6.cell
   have k0 := c8 0
   have k1 := c8 1
   have k2 := c8 2
   have k3 := c8 3
   have k4 := c8 4
   have k5 := c8 5
   have k6 := c8 6
   have k7 := c8 7
   have k8 := c8 8
   have k9 := c8 9
   have z6 := hb6.frozen
   clear c8 hC hb6 hg6
   go_upto_region 2 with fail
   generalize ((((((((((W2.setCell ⟨g6, 0, none⟩ (.int .i64 op)).setCell ⟨g6, 1, none⟩ (.int .i64 a)).setCell ⟨g6, 2, none⟩ (.int .i64 r)).setCell ⟨g6, 3, none⟩ (.int .i64 b)).setCell ⟨g6, 4, none⟩ (.slice ao nn cap)).setCell ⟨g6, 5, none⟩ (.int .u64 s.a)).setCell ⟨g6, 6, none⟩ (.int .u64 s.b)).setCell ⟨g6, 7, none⟩ (.int .u64 s.c)).setCell ⟨g6, 8, none⟩ (.int .u64 s.d)).setCell ⟨g6, 9, none⟩ (.slice ak m ck)) = W3 at *
   clear k0 k1 k2 k3 k4 k5 k6 k7 k8 k9 z6
   obtain ⟨x0, x1, x2, x3, x4, x5, x6, x7, x8, x9⟩ := (HX.out.keep (HK.out.block g HG.out)).cells
   have HBB : Hid (Blk (((((W3.setCell ⟨g6, 1, none⟩ (.int .i64 0)).setCell ⟨g6, 5, none⟩ (.int .u64 0)).setCell ⟨g6, 6, none⟩ (.int .u64 0)).setCell ⟨g6, 7, none⟩ (.int .u64 0)).setCell ⟨g6, 8, none⟩ (.int .u64 0)) g6 55 #[.int .i64 op, .int .i64 0, .int .i64 r, .int .i64 b, .slice ao nn cap, .int .u64 0, .int .u64 0, .int .u64 0, .int .u64 0, .slice ak m ck]) := Lib.hid (by
    have k := (Blk.set (Blk.set (Blk.set (Blk.set (Blk.set HB.out 1 (.int .i64 0)) 5 (.int .u64 0)) 6 (.int .u64 0)) 7 (.int .u64 0)) 8 (.int .u64 0))
    simp only [List.setIfInBounds_toArray, List.set_cons_zero, List.set_cons_succ] at k
    exact k)
   have HBK : Hid (Below w.heap.size w (((((W3.setCell ⟨g6, 1, none⟩ (.int .i64 0)).setCell ⟨g6, 5, none⟩ (.int .u64 0)).setCell ⟨g6, 6, none⟩ (.int .u64 0)).setCell ⟨g6, 7, none⟩ (.int .u64 0)).setCell ⟨g6, 8, none⟩ (.int .u64 0))) := Lib.hid (below_set1 (below_set1 (below_set1 (below_set1 (below_set1 HK.out HG6.out 1 _) HG6.out 5 _) HG6.out 6 _) HG6.out 7 _) HG6.out 8 _)
   have c6 := HB.out.cell
   have c60 := c6 0
   have c61 := c6 1
   have c62 := c6 2
   have c63 := c6 3
   have c65 := c6 5
   have c66 := c6 6
   have c67 := c6 7
   have c68 := c6 8
   have z6 := HB.out.frozen
   clear c6
   go_upto_region 13 with fail
   generalize (((((W3.setCell ⟨g6, 1, none⟩ (.int .i64 0)).setCell ⟨g6, 5, none⟩ (.int .u64 0)).setCell ⟨g6, 6, none⟩ (.int .u64 0)).setCell ⟨g6, 7, none⟩ (.int .u64 0)).setCell ⟨g6, 8, none⟩ (.int .u64 0)) = W3b at *
   clear c60 c61 c62 c63 c65 c66 c67 c68 z6 x0 x1 x2 x3 x4 x5 x6 x7 x8 x9
   obtain ⟨x0, x1, x2, x3, x4, x5, x6, x7, x8, x9⟩ := (HX.out.keep (HBK.out.block g HG.out)).cells
   go_wp2_with fail
   go_ret
   exact ⟨rfl, HBK.out⟩
open Go.RowKit
set_option maxRecDepth 100000 in
set_option maxHeartbeats 16000000 in
theorem operatorZ_c (g o : Nat) (op a r b : Int) (ao : Option Addr) (nn cap : Nat) (s : S4) (ak : Option Addr) (m ck : Nat) (n : Int) (w : World) (hX : XC w g o op a r b ao nn cap s ak m ck) (hg : g < w.heap.size) (hop : op ≠ 2 ∧ op ≠ 3 ∧ op ≠ 4 ∧ op ≠ 8 ∧ op ≠ 9) :
 Calls Tryz.prog 70 #[.pointer (some ⟨g, o, none⟩), .int .i64 n] w fun e w' => e = .returned (.int .i64 (operE n op a r b nn s m)) ∧ Below w.heap.size w w' := by
 have HX := Lib.hid hX
 have HG := Lib.hid hg
 clear hX hg
 unfold operE
 obtain ⟨o2, o3, o4, o8, o9⟩ := hop
 rw [if_neg o2, if_neg (by omega), if_neg o8, if_neg o9]
 have p2 : (op == 2) = false := by simpa using o2
 have p3 : (op == 3) = false := by simpa using o3
 have p4 : (op == 4) = false := by simpa using o4
 have p8 : (op == 8) = false := by simpa using o8
 have p9 : (op == 9) = false := by simpa using o9
 clear o2 o3 o4 o8 o9
 go_enter Tryz.func70, Tryz.ntmps70
 go_upto_region 1 with fail
 refine wp_region_phit 5 (oPhi g o op a r b ao nn cap s ak m ck w) (by kernel_rfl) (by decide) (by kernel_rfl) (by kernel_rfl) (by kernel_rfl) (fun k v u u2 h hb => oPhi_keep h hb) ?_ ?_
 · refine ⟨⟨trivial, fun A u hK hF => ?_⟩, ⟨trivial, fun A u hK hF => ?_⟩, ⟨trivial, fun A u hK hF => ?_⟩, ⟨trivial, fun A u hK hF => ?_⟩, ⟨trivial, fun A u hK hF => ?_⟩, trivial⟩
   · have f0 : A.tmps[0]?.getD undef = .pointer (some ⟨g, o, none⟩) := fact_none (hF 0) (by kernel_rfl)
     unfold Gives
     go_simp
     exact gives_val (Below.refl _ _) rfl
   · have f7 : A.tmps[7]?.getD undef = .pointer (some ⟨g, o, none⟩) := fact_some (hF 7) (j := 0) (by kernel_rfl) (by kernel_rfl)
     unfold Gives
     go_simp
     exact gives_val (Below.refl _ _) rfl
   · have f8 : A.tmps[8]?.getD undef = .pointer (some ⟨g, o, none⟩) := fact_some (hF 8) (j := 1) (by kernel_rfl) (by kernel_rfl)
     obtain ⟨k0, k1, k2, k3, k4, k5, k6, k7, k8, k9⟩ := (HX.out.keep (hK.block g HG.out)).cells
     unfold Gives
     go_simp
     exact gives_val (Below.refl _ _) rfl
   · unfold Gives
     go_simp
     exact gives_val ((Below.refl _ _).alloc (Nat.le_refl _) _) ⟨_, rfl, hK.size, Blk.new _ _ _⟩
   · unfold Gives
     go_simp
     exact gives_val (Below.refl _ _) rfl
 intro a0 W2 hC hsz hdf hF
 have ha := end_mask [false, false, false, false, false, true, true, true, true, true, false, false, false, false, false, false, false, false, false, false, false, false, false, false, false, false, false, false, false, false, false, false, false, false, false, false, false, false, false, false, false, false, false, false, false, false, false, false, false, false, false, false, false, false, false, false, false, false] hsz hdf hF (by kernel_rfl)
 have f9 : a0.tmps[9]?.getD undef = .agg #[.int .i64 op, .int .i64 a, .int .i64 r, .int .i64 b, .slice ao nn cap, .int .u64 s.a, .int .u64 s.b, .int .u64 s.c, .int .u64 s.d, .slice ak m ck] := fact_end (hF 9) (j := 2) (by kernel_rfl)
 have f5 : a0.tmps[5]?.getD undef = .int .i64 0 := fact_end (hF 5) (j := 4) (by kernel_rfl)
 obtain ⟨g6, f6, hg6, hb6⟩ : ∃ g, a0.tmps[6]?.getD undef = .pointer (some ⟨g, 0, none⟩) ∧ w.heap.size ≤ g ∧ Blk W2 g 55 #[.int .i64 0, .int .i64 0, .int .i64 0, .int .i64 0, .slice none 0 0, .int .u64 0, .int .u64 0, .int .u64 0, .int .u64 0, .slice none 0 0] := fact_end (hF 6) (j := 3) (by kernel_rfl)
 rw [ha]
 clear ha hF
 simp only [cutM_yes, cutM_no, cutM_nil, Nat.reduceAdd]
 rw [f9, f5, f6]
 clear f9 f5 f6
 generalize a0.tmps[7]?.getD undef = s7
 generalize a0.tmps[8]?.getD undef = s8
 clear hsz hdf
 have HG6 := Lib.hid hg6
 obtain ⟨W3, ZW3⟩ : ∃ v, Hid (((((((((((W2.setCell ⟨g6, 0, none⟩ (.int .i64 op)).setCell ⟨g6, 1, none⟩ (.int .i64 a)).setCell ⟨g6, 2, none⟩ (.int .i64 r)).setCell ⟨g6, 3, none⟩ (.int .i64 b)).setCell ⟨g6, 4, none⟩ (.slice ao nn cap)).setCell ⟨g6, 5, none⟩ (.int .u64 s.a)).setCell ⟨g6, 6, none⟩ (.int .u64 s.b)).setCell ⟨g6, 7, none⟩ (.int .u64 s.c)).setCell ⟨g6, 8, none⟩ (.int .u64 s.d)).setCell ⟨g6, 9, none⟩ (.slice ak m ck)) = v) := ⟨_, Lib.hid rfl⟩
 have HB : Hid (Blk W3 g6 55 #[.int .i64 op, .int .i64 a, .int .i64 r, .int .i64 b, .slice ao nn cap, .int .u64 s.a, .int .u64 s.b, .int .u64 s.c, .int .u64 s.d, .slice ak m ck]) := by cases ZW3.out; exact Lib.hid (Blk.store10 hb6 _ _ _ _ _ _ _ _ _ _)
 have HK : Hid (Below w.heap.size w W3) := by cases ZW3.out; exact Lib.hid (below_set1 (below_set1 (below_set1 (below_set1 (below_set1 (below_set1 (below_set1 (below_set1 (below_set1 (below_set1 hC HG6.out 0 _) HG6.out 1 _) HG6.out 2 _) HG6.out 3 _) HG6.out 4 _) HG6.out 5 _) HG6.out 6 _) HG6.out 7 _) HG6.out 8 _) HG6.out 9 _)
 have c8 := hb6.cell
 have k0 := c8 0
 have k1 := c8 1
 have k2 := c8 2
 have k3 := c8 3
 have k4 := c8 4
 have k5 := c8 5
 have k6 := c8 6
 have k7 := c8 7
 have k8 := c8 8
 have k9 := c8 9
 have z6 := hb6.frozen
 clear c8 hC hb6 hg6
 go_upto_region 2 with fail
 rw [ZW3.out]
 clear k0 k1 k2 k3 k4 k5 k6 k7 k8 k9 z6
 obtain ⟨x0, x1, x2, x3, x4, x5, x6, x7, x8, x9⟩ := (HX.out.keep (HK.out.block g HG.out)).cells
 go_wp2_with fail
 go_ret
 exact ⟨rfl, HK.out⟩
open Go.RowKit
theorem operator_c (g o : Nat) (op a r b : Int) (ao : Option Addr) (nn cap : Nat) (s : S4) (ak : Option Addr) (m ck : Nat) (n : Int) (w : World) (hX : XC w g o op a r b ao nn cap s ak m ck) (hg : g < w.heap.size) :
 Calls Tryz.prog 70 #[.pointer (some ⟨g, o, none⟩), .int .i64 n] w fun e w' => e = .returned (.int .i64 (operE n op a r b nn s m)) ∧ Below w.heap.size w w' := by
 by_cases h2 : op = 2
 · exact operatorB_c g o op a r b ao nn cap s ak m ck n w hX hg (.inl h2)
 · by_cases h3 : op = 3
   · exact operatorB_c g o op a r b ao nn cap s ak m ck n w hX hg (.inr (.inl h3))
   · by_cases h4 : op = 4
     · exact operatorB_c g o op a r b ao nn cap s ak m ck n w hX hg (.inr (.inr h4))
     · by_cases h8 : op = 8
       · exact operator8_c g o op a r b ao nn cap s ak m ck n w hX hg h8
       · by_cases h9 : op = 9
         · exact operator9_c g o op a r b ao nn cap s ak m ck n w hX hg h9
         · exact operatorZ_c g o op a r b ao nn cap s ak m ck n w hX hg ⟨h2, h3, h4, h8, h9⟩
open Go.RowKit
theorem XAt.w {w : World} {g o : Nat} {x : X} (h : XAt w g o x) : XW x.op x.a x.r x.b x.ns x.st x.ks.length := by
 obtain ⟨_, _, _, _, _, _, _, _, _, _, hw⟩ := h.facts
 exact hw
theorem XAt.xc {w : World} {g o : Nat} {x : X} (h : XAt w g o x) : ∃ ao cap ak ck, XC w g o x.op x.a x.r x.b ao x.ns.length cap x.st ak x.ks.length ck ∧ SlR 10 XAt w (.slice ak x.ks.length ck) x.ks ∧ Strs w (.slice ao x.ns.length cap) x.ns := by
 obtain ⟨h0, h1, h2, h3, ⟨va, h4, ha⟩, h5, h6, h7, h8, ⟨vk, h9, hk⟩, _⟩ := h.facts
 obtain ⟨ak, ck, e, hc, hr⟩ := hk
 obtain ⟨ao, cap, e2, hr2⟩ := ha
 subst e e2
 exact ⟨ao, cap, ak, ck, ⟨h0, h1, h2, h3, h4, h5, h6, h7, h8, h9⟩, ⟨ak, ck, rfl, hc, hr⟩, ⟨ao, cap, rfl, hr2⟩⟩
theorem more_no {n : Nat} {ks : List X} (h : ∀ j (hj : j < ks.length), more n ks[j] = false) : ks.any (more n) = false := by
 rw [List.any_eq_false]
 intro x hx
 obtain ⟨j, hj, rfl⟩ := List.getElem_of_mem hx
 rw [h j hj]; simp
theorem more_yes {n : Nat} {ks : List X} {j : Nat} (hj : j < ks.length) (h : more n ks[j] = true) : ks.any (more n) = true := List.any_eq_true.2 ⟨_, List.getElem_mem hj, h⟩
set_option maxRecDepth 100000 in
set_option maxHeartbeats 8000000 in
theorem hasMoreLevels_c : ∀ (n : Nat) (x : X) (g o : Nat) (w : World), n ≤ 100 → XAt w g o x → g < w.heap.size →
 Calls Tryz.prog 66 #[.pointer (some ⟨g, o, none⟩), .int .i64 n] w fun e w' => e = .returned (.bool (more n x)) ∧ Below w.heap.size w w' := by
 intro n
 induction n with
 | zero =>
   intro x g o w _ _ _
   go_enter Tryz.func66, Tryz.ntmps66
   go_wp2
   go_ret
   exact ⟨by unfold more; rfl, Below.refl _ _⟩
 | succ n ih =>
   intro x g o w hn hX hg
   have HIH := Lib.hid ih
   obtain ⟨m, hm⟩ : ∃ m : Nat, n + 1 = m := ⟨_, rfl⟩
   rw [hm]
   have HSB : Hid ((m : Int) - 1 = (n : Int)) := Lib.hid (by omega)
   have hm1 : 1 ≤ m ∧ m ≤ 101 := by omega
   have hz : ((m : Int) == 0) = false := by simp; omega
   have HN : Hid (n ≤ 100) := Lib.hid (by omega)
   have HM : Hid (more m x = x.ks.any (more n)) := Lib.hid (by rw [← hm]; rfl)
   clear hm hn ih
   have HX := Lib.hid hX
   have HG := Lib.hid hg
   have hkI : (x.ks.length : Int) ≤ 9223372036854775807 := by have h := hX.w.nk; unfold maxLen at h; omega
   obtain ⟨ao, cap, ak, ck, hc, hk, -⟩ := hX.xc
   obtain ⟨x0, x1, x2, x3, x4, x5, x6, x7, x8, x9⟩ := hc.cells
   have HC := Lib.hid hc
   have HK := Lib.hid hk
   clear hX hg hc hk x0 x1 x2 x3 x4 x5 x6 x7 x8
   go_enter Tryz.func66, Tryz.ntmps66
   go_wp2_with fail
   go_loopw [5, 13] (fun v5 v13 wr => ∃ i : Nat, i ≤ x.ks.length ∧ v13 = .int .i64 i ∧ Hid (∀ j (hj : j < x.ks.length), j < i → more n x.ks[j] = false) ∧ Hid (Below w.heap.size w wr)) (fun _ v13 _ => x.ks.length - (intOf v13).toNat)
   case atStart => exact ⟨0, Nat.zero_le _, rfl, Lib.hid (fun j _ h => absurd h (by omega)), Lib.hid (Below.refl _ _)⟩
   case round =>
    obtain ⟨i, hi, rfl, HJ, HB⟩ := hrel
    by_cases hlt : i < x.ks.length
    · have hlt' : (i : Int) < (x.ks.length : Int) := by omega
      obtain ⟨y, hy⟩ : ∃ y, x.ks[i] = y := ⟨_, rfl⟩
      obtain ⟨g', o', hak, hg', hR⟩ := HK.out.row hlt
      subst hak
      have hA := hR i hlt
      rw [hy] at hA
      have HA : Hid (XAt wr g' (o' + i * 10) y) := Lib.hid (hA.keep HB.out hg')
      have HGW : Hid (g' < wr.heap.size) := Lib.hid (Nat.lt_of_lt_of_le hg' HB.out.size)
      obtain ⟨x0, x1, x2, x3, x4, x5, x6, x7, x8, x9⟩ := (HC.out.keep (HB.out.block g HG.out)).cells
      have HY := Lib.hid hy
      clear hA hR hg' hy x0 x1 x2 x3 x4 x5 x6 x7 x8
      obtain ⟨b, hb⟩ : ∃ b, more n y = b := ⟨_, rfl⟩
      have HBB := Lib.hid hb
      have HCL : Hid (∀ W, Below wr.heap.size wr W → Calls Tryz.prog 66 #[.pointer (some ⟨g', o' + i * 10, none⟩), .int .i64 ((m : Int) - 1)] W fun e w' => e = .returned (.bool b) ∧ Below W.heap.size W w') := Lib.hid fun W hW => by
       rw [← hb, HSB.out]
       exact HIH.out y g' (o' + i * 10) W HN.out (HA.out.keep hW HGW.out) (Nat.lt_of_lt_of_le HGW.out hW.size)
      clear hb
      cases b with
      | true =>
        go_wp2_with (go_at_call 66; (with_reducible refine (HCL.out _ (Below.refl _ _)).mono ?_); rintro e w1 ⟨rfl, hb1⟩; have HB1 := Lib.hid (HB.out.trans (hb1.mono HB.out.size)); clear hb1)
        go_ret
        exact ⟨ret_bool (by rw [HM.out, more_yes hlt (by rw [HY.out]; exact HBB.out)]), HB1.out⟩
      | false =>
        go_wp2_with (go_at_call 66; (with_reducible refine (HCL.out _ (Below.refl _ _)).mono ?_); rintro e w1 ⟨rfl, hb1⟩; have HB1 := Lib.hid (HB.out.trans (hb1.mono HB.out.size)); clear hb1)
        go_roundw
        case rel =>
         refine ⟨i + 1, hlt, by go_num, Lib.hid (fun j hj hji => ?_), HB1⟩
         by_cases e : j < i
         · exact HJ.out j hj e
         · obtain rfl : j = i := by omega
           rw [HY.out]; exact HBB.out
        case measure => simp [intOf]; omega
    · have hlt' : ¬ (i : Int) < (x.ks.length : Int) := by omega
      have HF : Hid (more m x = false) := Lib.hid (by rw [HM.out]; exact more_no fun j hj => HJ.out j hj (by omega))
      go_wp2_with fail
      go_ret
      exact ⟨ret_bool HF.out.symm, HB.out⟩
set_option maxRecDepth 100000 in
theorem tooDeep_c (x : X) (g o : Nat) (w : World) (hX : XAt w g o x) (hg : g < w.heap.size) :
 Calls Tryz.prog 37 #[.pointer (some ⟨g, o, none⟩)] w fun e w' => e = .returned (.bool (more 12 x)) ∧ Below w.heap.size w w' := by
 have H := Lib.hid (hasMoreLevels_c 12 x g o w (by omega) hX hg)
 clear hX hg
 go_enter Tryz.func37, Tryz.ntmps37
 go_wp2_with (go_at_call 66; refine H.out.mono ?_; rintro e w1 ⟨rfl, hb1⟩)
 go_ret
 exact ⟨rfl, hb1⟩
set_option maxRecDepth 100000 in
theorem attributes_c (b : Bool) (w : World) : Calls Tryz.prog 38 #[.bool b] w fun e w' => e = .returned (.int .i64 (if b then 15 else 10)) ∧ Below w.heap.size w w' := by
 cases b
 · go_enter Tryz.func38, Tryz.ntmps38
   go_wp2
   go_ret
   exact ⟨rfl, Below.refl _ _⟩
 · go_enter Tryz.func38, Tryz.ntmps38
   go_wp2
   go_ret
   exact ⟨rfl, Below.refl _ _⟩
set_option maxRecDepth 100000 in
theorem wellClosure_c (x : X) (g o gv : Nat) (A : Int) (w : World) (hX : XAt w g o x) (hg : g < w.heap.size) (hv : Blk w gv 3 #[.int .i64 A]) :
 Calls Tryz.prog 69 #[.pointer (some ⟨g, o, none⟩), .pointer (some ⟨gv, 0, none⟩)] w fun e w' => e = .returned (.int .i64 (opE A x)) ∧ Below w.heap.size w w' := by
 obtain ⟨ao, cap, ak, ck, hc, -, -⟩ := hX.xc
 have H : Hid (Calls Tryz.prog 70 #[.pointer (some ⟨g, o, none⟩), .int .i64 A] w fun e w' => e = .returned (.int .i64 (opE A x)) ∧ Below w.heap.size w w') := Lib.hid (operator_c g o x.op x.a x.r x.b ao x.ns.length cap x.st ak x.ks.length ck A w hc hg)
 have hv0 := hv.cell 0
 clear hX hc hg hv
 go_enter Tryz.func69, Tryz.ntmps69
 go_wp2_with (go_at_call 70; refine H.out.mono ?_; rintro e w1 ⟨rfl, hb1⟩)
 go_ret
 exact ⟨rfl, hb1⟩
end Go.Proofs.YtbhoofihnmmmfabGreat
