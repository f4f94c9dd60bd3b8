/- Cd4 Cd8 Cd9 CdZ Cxe Cxf Cxg Lva Lvb Lvc Cxh Cxi Qt Cxj Cr0 Cr1 Cr2 Cr3 -/
import Derived.Test.YtamcfmfkmekkfaaZaa
import Derived.LoopTactic
import Derived.Laws.BitsAllLaws
import Derived.Laws.Shifts
import Derived.Below
import Derived.Laws.StructEq
import Derived.Deep.RegionHeld3
import Derived.StillTail
import Derived.Deep.Quiet
import Derived.Laws.Tables
/- Package expression: Operator, one operator. -/
namespace Go.Proofs.Ytamcfmfkmekkfaa
open Go.RowKit
set_option maxRecDepth 100000 in
set_option maxHeartbeats 16000000 in
theorem operator4_c (g o : Nat) (op a r b : Int) (ao : Option Addr) (nn cap : Nat) (s : S4) (ak : Option Addr) (m ck : Nat) (n : Int) (w : World) (hX : XC w g o op a r b ao nn cap s ak m ck) (hg : g < w.heap.size) (hop : op = 4) :
    Calls Try.prog 33 #[.pointer (some ⟨g, o, none⟩), .int .i64 n] w fun e w' => e = .returned (.int .i64 (operE n op a r b nn s m)) ∧ Below w.heap.size w w' := by
  have HX := Lib.hid hX
  have HG := Lib.hid hg
  clear hX hg
  unfold operE
  rw [if_neg (by omega), if_pos (by omega)]
  have p2 : (op == 2) = false := by rw [hop]; rfl
  have p3 : (op == 3) = false := by rw [hop]; rfl
  have p4 : (op == 4) = true := by rw [hop]; rfl
  have p8 : (op == 8) = false := by rw [hop]; rfl
  have p9 : (op == 9) = false := by rw [hop]; rfl
  by_cases hm : m = 2
  · have hmi : ((m : Int) != 2) = false := by rw [hm]; rfl
    cases hh : hasF a r b nn s with
    | true =>
      rw [if_pos (.inr rfl)]
      have HH := Lib.hid hh
      clear hh hm hop
      go_enter Try.func33, Try.ntmps33
      go_upto_region 1 with fail
      refine wp_region_phit 5 (oPhi g o op a r b ao nn cap s ak m ck w) (by kernel_rfl) (by decide) (by kernel_rfl) (by kernel_rfl) (by kernel_rfl) (fun k v u u2 h hb => oPhi_keep h hb) ?_ ?_
      · refine ⟨⟨trivial, fun A u hK hF => ?_⟩, ⟨trivial, fun A u hK hF => ?_⟩, ⟨trivial, fun A u hK hF => ?_⟩, ⟨trivial, fun A u hK hF => ?_⟩, ⟨trivial, fun A u hK hF => ?_⟩, trivial⟩
        · have f0 : A.tmps[0]?.getD undef = .pointer (some ⟨g, o, none⟩) := fact_none (hF 0) (by kernel_rfl)
          unfold Gives
          go_simp
          exact gives_val (Below.refl _ _) rfl
        · have f7 : A.tmps[7]?.getD undef = .pointer (some ⟨g, o, none⟩) := fact_some (hF 7) (j := 0) (by kernel_rfl) (by kernel_rfl)
          unfold Gives
          go_simp
          exact gives_val (Below.refl _ _) rfl
        · have f8 : A.tmps[8]?.getD undef = .pointer (some ⟨g, o, none⟩) := fact_some (hF 8) (j := 1) (by kernel_rfl) (by kernel_rfl)
          obtain ⟨k0, k1, k2, k3, k4, k5, k6, k7, k8, k9⟩ := (HX.out.keep (hK.block g HG.out)).cells
          unfold Gives
          go_simp
          exact gives_val (Below.refl _ _) rfl
        · unfold Gives
          go_simp
          exact gives_val ((Below.refl _ _).alloc (Nat.le_refl _) _) ⟨_, rfl, hK.size, Blk.new _ _ _⟩
        · unfold Gives
          go_simp
          exact gives_val (Below.refl _ _) rfl
      intro a0 W2 hC hsz hdf hF
      have ha := end_mask [false, false, false, false, false, true, true, true, true, true, false, false, false, false, false, false, false, false, false, false, false, false, false, false, false, false, false, false, false, false, false, false, false, false, false, false, false, false, false, false, false, false, false, false, false, false, false, false, false, false, false, false, false, false, false, false, false, false] hsz hdf hF (by kernel_rfl)
      have f9 : a0.tmps[9]?.getD undef = .agg #[.int .i64 op, .int .i64 a, .int .i64 r, .int .i64 b, .slice ao nn cap, .int .u64 s.a, .int .u64 s.b, .int .u64 s.c, .int .u64 s.d, .slice ak m ck] := fact_end (hF 9) (j := 2) (by kernel_rfl)
      have f5 : a0.tmps[5]?.getD undef = .int .i64 0 := fact_end (hF 5) (j := 4) (by kernel_rfl)
      obtain ⟨g6, f6, hg6, hb6⟩ : ∃ g, a0.tmps[6]?.getD undef = .pointer (some ⟨g, 0, none⟩) ∧ w.heap.size ≤ g ∧ Blk W2 g 28 #[.int .i64 0, .int .i64 0, .int .i64 0, .int .i64 0, .slice none 0 0, .int .u64 0, .int .u64 0, .int .u64 0, .int .u64 0, .slice none 0 0] := fact_end (hF 6) (j := 3) (by kernel_rfl)
      rw [ha]
      clear ha hF
      simp only [cutM_yes, cutM_no, cutM_nil, Nat.reduceAdd]
      rw [f9, f5, f6]
      clear f9 f5 f6
      generalize a0.tmps[7]?.getD undef = s7
      generalize a0.tmps[8]?.getD undef = s8
      clear hsz hdf
      have HG6 := Lib.hid hg6
      have HB : Hid (Blk ((((((((((W2.setCell ⟨g6, 0, none⟩ (.int .i64 op)).setCell ⟨g6, 1, none⟩ (.int .i64 a)).setCell ⟨g6, 2, none⟩ (.int .i64 r)).setCell ⟨g6, 3, none⟩ (.int .i64 b)).setCell ⟨g6, 4, none⟩ (.slice ao nn cap)).setCell ⟨g6, 5, none⟩ (.int .u64 s.a)).setCell ⟨g6, 6, none⟩ (.int .u64 s.b)).setCell ⟨g6, 7, none⟩ (.int .u64 s.c)).setCell ⟨g6, 8, none⟩ (.int .u64 s.d)).setCell ⟨g6, 9, none⟩ (.slice ak m ck)) g6 28 #[.int .i64 op, .int .i64 a, .int .i64 r, .int .i64 b, .slice ao nn cap, .int .u64 s.a, .int .u64 s.b, .int .u64 s.c, .int .u64 s.d, .slice ak m ck]) := Lib.hid (Blk.store10 hb6 _ _ _ _ _ _ _ _ _ _)
      have HK : Hid (Below w.heap.size w ((((((((((W2.setCell ⟨g6, 0, none⟩ (.int .i64 op)).setCell ⟨g6, 1, none⟩ (.int .i64 a)).setCell ⟨g6, 2, none⟩ (.int .i64 r)).setCell ⟨g6, 3, none⟩ (.int .i64 b)).setCell ⟨g6, 4, none⟩ (.slice ao nn cap)).setCell ⟨g6, 5, none⟩ (.int .u64 s.a)).setCell ⟨g6, 6, none⟩ (.int .u64 s.b)).setCell ⟨g6, 7, none⟩ (.int .u64 s.c)).setCell ⟨g6, 8, none⟩ (.int .u64 s.d)).setCell ⟨g6, 9, none⟩ (.slice ak m ck))) := Lib.hid (below_set1 (below_set1 (below_set1 (below_set1 (below_set1 (below_set1 (below_set1 (below_set1 (below_set1 (below_set1 hC HG6.out 0 _) HG6.out 1 _) HG6.out 2 _) HG6.out 3 _) HG6.out 4 _) HG6.out 5 _) HG6.out 6 _) HG6.out 7 _) HG6.out 8 _) HG6.out 9 _)
      have c8 := hb6.cell
      have k0 := c8 0
      have k1 := c8 1
      have k2 := c8 2
      have k3 := c8 3
      have k4 := c8 4
      have k5 := c8 5
      have k6 := c8 6
      have k7 := c8 7
      have k8 := c8 8
      have k9 := c8 9
      have z6 := hb6.frozen
      clear c8 hC hb6 hg6
      go_upto_region 2 with fail
      generalize ((((((((((W2.setCell ⟨g6, 0, none⟩ (.int .i64 op)).setCell ⟨g6, 1, none⟩ (.int .i64 a)).setCell ⟨g6, 2, none⟩ (.int .i64 r)).setCell ⟨g6, 3, none⟩ (.int .i64 b)).setCell ⟨g6, 4, none⟩ (.slice ao nn cap)).setCell ⟨g6, 5, none⟩ (.int .u64 s.a)).setCell ⟨g6, 6, none⟩ (.int .u64 s.b)).setCell ⟨g6, 7, none⟩ (.int .u64 s.c)).setCell ⟨g6, 8, none⟩ (.int .u64 s.d)).setCell ⟨g6, 9, none⟩ (.slice ak m ck)) = W3 at *
      clear k0 k1 k2 k3 k4 k5 k6 k7 k8 k9 z6
      obtain ⟨x0, x1, x2, x3, x4, x5, x6, x7, x8, x9⟩ := (HX.out.keep (HK.out.block g HG.out)).cells
      have HBK := HK
      have HBB := HB
      go_wp2_with ((go_at_call 51; refine (hasFields_c g6 0 a r b ao nn cap s _ (HBB.out.cell 1) (HBB.out.cell 2) (HBB.out.cell 3) (HBB.out.cell 4) (HBB.out.cell 5) (HBB.out.cell 6) (HBB.out.cell 7) (HBB.out.cell 8)).mono ?_; rw [HH.out]; rintro e W4 ⟨rfl, hb4⟩; have HX4 := Lib.hid (HX.out.keep ((hb4.block g (by have h := HBK.out.size; have := HG.out; omega)).trans (HBK.out.block g HG.out))); obtain ⟨y0, y1, y2, y3, y4, y5, y6, y7, y8, y9⟩ := HX4.out.cells; have HB4 := Lib.hid (HBK.out.trans (hb4.mono HBK.out.size)); clear hb4))
      go_ret
      exact ⟨rfl, HB4.out⟩
    | false =>
      rw [if_neg (by simp [hm])]
      have HH := Lib.hid hh
      clear hh hm hop
      go_enter Try.func33, Try.ntmps33
      go_upto_region 1 with fail
      refine wp_region_phit 5 (oPhi g o op a r b ao nn cap s ak m ck w) (by kernel_rfl) (by decide) (by kernel_rfl) (by kernel_rfl) (by kernel_rfl) (fun k v u u2 h hb => oPhi_keep h hb) ?_ ?_
      · refine ⟨⟨trivial, fun A u hK hF => ?_⟩, ⟨trivial, fun A u hK hF => ?_⟩, ⟨trivial, fun A u hK hF => ?_⟩, ⟨trivial, fun A u hK hF => ?_⟩, ⟨trivial, fun A u hK hF => ?_⟩, trivial⟩
        · have f0 : A.tmps[0]?.getD undef = .pointer (some ⟨g, o, none⟩) := fact_none (hF 0) (by kernel_rfl)
          unfold Gives
          go_simp
          exact gives_val (Below.refl _ _) rfl
        · have f7 : A.tmps[7]?.getD undef = .pointer (some ⟨g, o, none⟩) := fact_some (hF 7) (j := 0) (by kernel_rfl) (by kernel_rfl)
          unfold Gives
          go_simp
          exact gives_val (Below.refl _ _) rfl
        · have f8 : A.tmps[8]?.getD undef = .pointer (some ⟨g, o, none⟩) := fact_some (hF 8) (j := 1) (by kernel_rfl) (by kernel_rfl)
          obtain ⟨k0, k1, k2, k3, k4, k5, k6, k7, k8, k9⟩ := (HX.out.keep (hK.block g HG.out)).cells
          unfold Gives
          go_simp
          exact gives_val (Below.refl _ _) rfl
        · unfold Gives
          go_simp
          exact gives_val ((Below.refl _ _).alloc (Nat.le_refl _) _) ⟨_, rfl, hK.size, Blk.new _ _ _⟩
        · unfold Gives
          go_simp
          exact gives_val (Below.refl _ _) rfl
      intro a0 W2 hC hsz hdf hF
      have ha := end_mask [false, false, false, false, false, true, true, true, true, true, false, false, false, false, false, false, false, false, false, false, false, false, false, false, false, false, false, false, false, false, false, false, false, false, false, false, false, false, false, false, false, false, false, false, false, false, false, false, false, false, false, false, false, false, false, false, false, false] hsz hdf hF (by kernel_rfl)
      have f9 : a0.tmps[9]?.getD undef = .agg #[.int .i64 op, .int .i64 a, .int .i64 r, .int .i64 b, .slice ao nn cap, .int .u64 s.a, .int .u64 s.b, .int .u64 s.c, .int .u64 s.d, .slice ak m ck] := fact_end (hF 9) (j := 2) (by kernel_rfl)
      have f5 : a0.tmps[5]?.getD undef = .int .i64 0 := fact_end (hF 5) (j := 4) (by kernel_rfl)
      obtain ⟨g6, f6, hg6, hb6⟩ : ∃ g, a0.tmps[6]?.getD undef = .pointer (some ⟨g, 0, none⟩) ∧ w.heap.size ≤ g ∧ Blk W2 g 28 #[.int .i64 0, .int .i64 0, .int .i64 0, .int .i64 0, .slice none 0 0, .int .u64 0, .int .u64 0, .int .u64 0, .int .u64 0, .slice none 0 0] := fact_end (hF 6) (j := 3) (by kernel_rfl)
      rw [ha]
      clear ha hF
      simp only [cutM_yes, cutM_no, cutM_nil, Nat.reduceAdd]
      rw [f9, f5, f6]
      clear f9 f5 f6
      generalize a0.tmps[7]?.getD undef = s7
      generalize a0.tmps[8]?.getD undef = s8
      clear hsz hdf
      have HG6 := Lib.hid hg6
      have HB : Hid (Blk ((((((((((W2.setCell ⟨g6, 0, none⟩ (.int .i64 op)).setCell ⟨g6, 1, none⟩ (.int .i64 a)).setCell ⟨g6, 2, none⟩ (.int .i64 r)).setCell ⟨g6, 3, none⟩ (.int .i64 b)).setCell ⟨g6, 4, none⟩ (.slice ao nn cap)).setCell ⟨g6, 5, none⟩ (.int .u64 s.a)).setCell ⟨g6, 6, none⟩ (.int .u64 s.b)).setCell ⟨g6, 7, none⟩ (.int .u64 s.c)).setCell ⟨g6, 8, none⟩ (.int .u64 s.d)).setCell ⟨g6, 9, none⟩ (.slice ak m ck)) g6 28 #[.int .i64 op, .int .i64 a, .int .i64 r, .int .i64 b, .slice ao nn cap, .int .u64 s.a, .int .u64 s.b, .int .u64 s.c, .int .u64 s.d, .slice ak m ck]) := Lib.hid (Blk.store10 hb6 _ _ _ _ _ _ _ _ _ _)
      have HK : Hid (Below w.heap.size w ((((((((((W2.setCell ⟨g6, 0, none⟩ (.int .i64 op)).setCell ⟨g6, 1, none⟩ (.int .i64 a)).setCell ⟨g6, 2, none⟩ (.int .i64 r)).setCell ⟨g6, 3, none⟩ (.int .i64 b)).setCell ⟨g6, 4, none⟩ (.slice ao nn cap)).setCell ⟨g6, 5, none⟩ (.int .u64 s.a)).setCell ⟨g6, 6, none⟩ (.int .u64 s.b)).setCell ⟨g6, 7, none⟩ (.int .u64 s.c)).setCell ⟨g6, 8, none⟩ (.int .u64 s.d)).setCell ⟨g6, 9, none⟩ (.slice ak m ck))) := Lib.hid (below_set1 (below_set1 (below_set1 (below_set1 (below_set1 (below_set1 (below_set1 (below_set1 (below_set1 (below_set1 hC HG6.out 0 _) HG6.out 1 _) HG6.out 2 _) HG6.out 3 _) HG6.out 4 _) HG6.out 5 _) HG6.out 6 _) HG6.out 7 _) HG6.out 8 _) HG6.out 9 _)
      have c8 := hb6.cell
      have k0 := c8 0
      have k1 := c8 1
      have k2 := c8 2
      have k3 := c8 3
      have k4 := c8 4
      have k5 := c8 5
      have k6 := c8 6
      have k7 := c8 7
      have k8 := c8 8
      have k9 := c8 9
      have z6 := hb6.frozen
      clear c8 hC hb6 hg6
      go_upto_region 2 with fail
      generalize ((((((((((W2.setCell ⟨g6, 0, none⟩ (.int .i64 op)).setCell ⟨g6, 1, none⟩ (.int .i64 a)).setCell ⟨g6, 2, none⟩ (.int .i64 r)).setCell ⟨g6, 3, none⟩ (.int .i64 b)).setCell ⟨g6, 4, none⟩ (.slice ao nn cap)).setCell ⟨g6, 5, none⟩ (.int .u64 s.a)).setCell ⟨g6, 6, none⟩ (.int .u64 s.b)).setCell ⟨g6, 7, none⟩ (.int .u64 s.c)).setCell ⟨g6, 8, none⟩ (.int .u64 s.d)).setCell ⟨g6, 9, none⟩ (.slice ak m ck)) = W3 at *
      clear k0 k1 k2 k3 k4 k5 k6 k7 k8 k9 z6
      obtain ⟨x0, x1, x2, x3, x4, x5, x6, x7, x8, x9⟩ := (HX.out.keep (HK.out.block g HG.out)).cells
      have HBK := HK
      have HBB := HB
      go_wp2_with ((go_at_call 51; refine (hasFields_c g6 0 a r b ao nn cap s _ (HBB.out.cell 1) (HBB.out.cell 2) (HBB.out.cell 3) (HBB.out.cell 4) (HBB.out.cell 5) (HBB.out.cell 6) (HBB.out.cell 7) (HBB.out.cell 8)).mono ?_; rw [HH.out]; rintro e W4 ⟨rfl, hb4⟩; have HX4 := Lib.hid (HX.out.keep ((hb4.block g (by have h := HBK.out.size; have := HG.out; omega)).trans (HBK.out.block g HG.out))); obtain ⟨y0, y1, y2, y3, y4, y5, y6, y7, y8, y9⟩ := HX4.out.cells; have HB4 := Lib.hid (HBK.out.trans (hb4.mono HBK.out.size)); clear hb4))
      go_ret
      exact ⟨rfl, HB4.out⟩
  · rw [if_pos (.inl hm)]
    have hmi : ((m : Int) != 2) = true := by simp; omega
    clear hm hop
    go_enter Try.func33, Try.ntmps33
    go_upto_region 1 with fail
    refine wp_region_phit 5 (oPhi g o op a r b ao nn cap s ak m ck w) (by kernel_rfl) (by decide) (by kernel_rfl) (by kernel_rfl) (by kernel_rfl) (fun k v u u2 h hb => oPhi_keep h hb) ?_ ?_
    · refine ⟨⟨trivial, fun A u hK hF => ?_⟩, ⟨trivial, fun A u hK hF => ?_⟩, ⟨trivial, fun A u hK hF => ?_⟩, ⟨trivial, fun A u hK hF => ?_⟩, ⟨trivial, fun A u hK hF => ?_⟩, trivial⟩
      · have f0 : A.tmps[0]?.getD undef = .pointer (some ⟨g, o, none⟩) := fact_none (hF 0) (by kernel_rfl)
        unfold Gives
        go_simp
        exact gives_val (Below.refl _ _) rfl
      · have f7 : A.tmps[7]?.getD undef = .pointer (some ⟨g, o, none⟩) := fact_some (hF 7) (j := 0) (by kernel_rfl) (by kernel_rfl)
        unfold Gives
        go_simp
        exact gives_val (Below.refl _ _) rfl
      · have f8 : A.tmps[8]?.getD undef = .pointer (some ⟨g, o, none⟩) := fact_some (hF 8) (j := 1) (by kernel_rfl) (by kernel_rfl)
        obtain ⟨k0, k1, k2, k3, k4, k5, k6, k7, k8, k9⟩ := (HX.out.keep (hK.block g HG.out)).cells
        unfold Gives
        go_simp
        exact gives_val (Below.refl _ _) rfl
      · unfold Gives
        go_simp
        exact gives_val ((Below.refl _ _).alloc (Nat.le_refl _) _) ⟨_, rfl, hK.size, Blk.new _ _ _⟩
      · unfold Gives
        go_simp
        exact gives_val (Below.refl _ _) rfl
    intro a0 W2 hC hsz hdf hF
    have ha := end_mask [false, false, false, false, false, true, true, true, true, true, false, false, false, false, false, false, false, false, false, false, false, false, false, false, false, false, false, false, false, false, false, false, false, false, false, false, false, false, false, false, false, false, false, false, false, false, false, false, false, false, false, false, false, false, false, false, false, false] hsz hdf hF (by kernel_rfl)
    have f9 : a0.tmps[9]?.getD undef = .agg #[.int .i64 op, .int .i64 a, .int .i64 r, .int .i64 b, .slice ao nn cap, .int .u64 s.a, .int .u64 s.b, .int .u64 s.c, .int .u64 s.d, .slice ak m ck] := fact_end (hF 9) (j := 2) (by kernel_rfl)
    have f5 : a0.tmps[5]?.getD undef = .int .i64 0 := fact_end (hF 5) (j := 4) (by kernel_rfl)
    obtain ⟨g6, f6, hg6, hb6⟩ : ∃ g, a0.tmps[6]?.getD undef = .pointer (some ⟨g, 0, none⟩) ∧ w.heap.size ≤ g ∧ Blk W2 g 28 #[.int .i64 0, .int .i64 0, .int .i64 0, .int .i64 0, .slice none 0 0, .int .u64 0, .int .u64 0, .int .u64 0, .int .u64 0, .slice none 0 0] := fact_end (hF 6) (j := 3) (by kernel_rfl)
    rw [ha]
    clear ha hF
    simp only [cutM_yes, cutM_no, cutM_nil, Nat.reduceAdd]
    rw [f9, f5, f6]
    clear f9 f5 f6
    generalize a0.tmps[7]?.getD undef = s7
    generalize a0.tmps[8]?.getD undef = s8
    clear hsz hdf
    have HG6 := Lib.hid hg6
    have HB : Hid (Blk ((((((((((W2.setCell ⟨g6, 0, none⟩ (.int .i64 op)).setCell ⟨g6, 1, none⟩ (.int .i64 a)).setCell ⟨g6, 2, none⟩ (.int .i64 r)).setCell ⟨g6, 3, none⟩ (.int .i64 b)).setCell ⟨g6, 4, none⟩ (.slice ao nn cap)).setCell ⟨g6, 5, none⟩ (.int .u64 s.a)).setCell ⟨g6, 6, none⟩ (.int .u64 s.b)).setCell ⟨g6, 7, none⟩ (.int .u64 s.c)).setCell ⟨g6, 8, none⟩ (.int .u64 s.d)).setCell ⟨g6, 9, none⟩ (.slice ak m ck)) g6 28 #[.int .i64 op, .int .i64 a, .int .i64 r, .int .i64 b, .slice ao nn cap, .int .u64 s.a, .int .u64 s.b, .int .u64 s.c, .int .u64 s.d, .slice ak m ck]) := Lib.hid (Blk.store10 hb6 _ _ _ _ _ _ _ _ _ _)
    have HK : Hid (Below w.heap.size w ((((((((((W2.setCell ⟨g6, 0, none⟩ (.int .i64 op)).setCell ⟨g6, 1, none⟩ (.int .i64 a)).setCell ⟨g6, 2, none⟩ (.int .i64 r)).setCell ⟨g6, 3, none⟩ (.int .i64 b)).setCell ⟨g6, 4, none⟩ (.slice ao nn cap)).setCell ⟨g6, 5, none⟩ (.int .u64 s.a)).setCell ⟨g6, 6, none⟩ (.int .u64 s.b)).setCell ⟨g6, 7, none⟩ (.int .u64 s.c)).setCell ⟨g6, 8, none⟩ (.int .u64 s.d)).setCell ⟨g6, 9, none⟩ (.slice ak m ck))) := Lib.hid (below_set1 (below_set1 (below_set1 (below_set1 (below_set1 (below_set1 (below_set1 (below_set1 (below_set1 (below_set1 hC HG6.out 0 _) HG6.out 1 _) HG6.out 2 _) HG6.out 3 _) HG6.out 4 _) HG6.out 5 _) HG6.out 6 _) HG6.out 7 _) HG6.out 8 _) HG6.out 9 _)
    have c8 := hb6.cell
    have k0 := c8 0
    have k1 := c8 1
    have k2 := c8 2
    have k3 := c8 3
    have k4 := c8 4
    have k5 := c8 5
    have k6 := c8 6
    have k7 := c8 7
    have k8 := c8 8
    have k9 := c8 9
    have z6 := hb6.frozen
    clear c8 hC hb6 hg6
    go_upto_region 2 with fail
    generalize ((((((((((W2.setCell ⟨g6, 0, none⟩ (.int .i64 op)).setCell ⟨g6, 1, none⟩ (.int .i64 a)).setCell ⟨g6, 2, none⟩ (.int .i64 r)).setCell ⟨g6, 3, none⟩ (.int .i64 b)).setCell ⟨g6, 4, none⟩ (.slice ao nn cap)).setCell ⟨g6, 5, none⟩ (.int .u64 s.a)).setCell ⟨g6, 6, none⟩ (.int .u64 s.b)).setCell ⟨g6, 7, none⟩ (.int .u64 s.c)).setCell ⟨g6, 8, none⟩ (.int .u64 s.d)).setCell ⟨g6, 9, none⟩ (.slice ak m ck)) = W3 at *
    clear k0 k1 k2 k3 k4 k5 k6 k7 k8 k9 z6
    obtain ⟨x0, x1, x2, x3, x4, x5, x6, x7, x8, x9⟩ := (HX.out.keep (HK.out.block g HG.out)).cells
    have HBK := HK
    have HBB := HB
    go_wp2_with fail
    go_ret
    exact ⟨rfl, HBK.out⟩
end Go.Proofs.Ytamcfmfkmekkfaa
/- Package expression: Operator, one operator. -/
namespace Go.Proofs.Ytamcfmfkmekkfaa
open Go.RowKit
set_option maxRecDepth 100000 in
set_option maxHeartbeats 16000000 in
theorem operator8_c (g o : Nat) (op a r b : Int) (ao : Option Addr) (nn cap : Nat) (s : S4) (ak : Option Addr) (m ck : Nat) (n : Int) (w : World) (hX : XC w g o op a r b ao nn cap s ak m ck) (hg : g < w.heap.size) (hop : op = 8) :
    Calls Try.prog 33 #[.pointer (some ⟨g, o, none⟩), .int .i64 n] w fun e w' => e = .returned (.int .i64 (operE n op a r b nn s m)) ∧ Below w.heap.size w w' := by
  have HX := Lib.hid hX
  have HG := Lib.hid hg
  clear hX hg
  unfold operE
  rw [if_neg (by omega), if_neg (by omega), if_pos hop]
  have p2 : (op == 2) = false := by rw [hop]; rfl
  have p3 : (op == 3) = false := by rw [hop]; rfl
  have p4 : (op == 4) = false := by rw [hop]; rfl
  have p8 : (op == 8) = true := by rw [hop]; rfl
  have p9 : (op == 9) = false := by rw [hop]; rfl
  by_cases hm : m = 0
  · have hmi : ((m : Int) != 0) = false := by rw [hm]; rfl
    cases hh : hasF 0 0 0 nn s with
    | true =>
      rw [if_pos (.inr rfl)]
      have HH := Lib.hid hh
      clear hh hm hop
      go_enter Try.func33, Try.ntmps33
      go_upto_region 1 with fail
      refine wp_region_phit 5 (oPhi g o op a r b ao nn cap s ak m ck w) (by kernel_rfl) (by decide) (by kernel_rfl) (by kernel_rfl) (by kernel_rfl) (fun k v u u2 h hb => oPhi_keep h hb) ?_ ?_
      · refine ⟨⟨trivial, fun A u hK hF => ?_⟩, ⟨trivial, fun A u hK hF => ?_⟩, ⟨trivial, fun A u hK hF => ?_⟩, ⟨trivial, fun A u hK hF => ?_⟩, ⟨trivial, fun A u hK hF => ?_⟩, trivial⟩
        · have f0 : A.tmps[0]?.getD undef = .pointer (some ⟨g, o, none⟩) := fact_none (hF 0) (by kernel_rfl)
          unfold Gives
          go_simp
          exact gives_val (Below.refl _ _) rfl
        · have f7 : A.tmps[7]?.getD undef = .pointer (some ⟨g, o, none⟩) := fact_some (hF 7) (j := 0) (by kernel_rfl) (by kernel_rfl)
          unfold Gives
          go_simp
          exact gives_val (Below.refl _ _) rfl
        · have f8 : A.tmps[8]?.getD undef = .pointer (some ⟨g, o, none⟩) := fact_some (hF 8) (j := 1) (by kernel_rfl) (by kernel_rfl)
          obtain ⟨k0, k1, k2, k3, k4, k5, k6, k7, k8, k9⟩ := (HX.out.keep (hK.block g HG.out)).cells
          unfold Gives
          go_simp
          exact gives_val (Below.refl _ _) rfl
        · unfold Gives
          go_simp
          exact gives_val ((Below.refl _ _).alloc (Nat.le_refl _) _) ⟨_, rfl, hK.size, Blk.new _ _ _⟩
        · unfold Gives
          go_simp
          exact gives_val (Below.refl _ _) rfl
      intro a0 W2 hC hsz hdf hF
      have ha := end_mask [false, false, false, false, false, true, true, true, true, true, false, false, false, false, false, false, false, false, false, false, false, false, false, false, false, false, false, false, false, false, false, false, false, false, false, false, false, false, false, false, false, false, false, false, false, false, false, false, false, false, false, false, false, false, false, false, false, false] hsz hdf hF (by kernel_rfl)
      have f9 : a0.tmps[9]?.getD undef = .agg #[.int .i64 op, .int .i64 a, .int .i64 r, .int .i64 b, .slice ao nn cap, .int .u64 s.a, .int .u64 s.b, .int .u64 s.c, .int .u64 s.d, .slice ak m ck] := fact_end (hF 9) (j := 2) (by kernel_rfl)
      have f5 : a0.tmps[5]?.getD undef = .int .i64 0 := fact_end (hF 5) (j := 4) (by kernel_rfl)
      obtain ⟨g6, f6, hg6, hb6⟩ : ∃ g, a0.tmps[6]?.getD undef = .pointer (some ⟨g, 0, none⟩) ∧ w.heap.size ≤ g ∧ Blk W2 g 28 #[.int .i64 0, .int .i64 0, .int .i64 0, .int .i64 0, .slice none 0 0, .int .u64 0, .int .u64 0, .int .u64 0, .int .u64 0, .slice none 0 0] := fact_end (hF 6) (j := 3) (by kernel_rfl)
      rw [ha]
      clear ha hF
      simp only [cutM_yes, cutM_no, cutM_nil, Nat.reduceAdd]
      rw [f9, f5, f6]
      clear f9 f5 f6
      generalize a0.tmps[7]?.getD undef = s7
      generalize a0.tmps[8]?.getD undef = s8
      clear hsz hdf
      have HG6 := Lib.hid hg6
      have HB : Hid (Blk ((((((((((W2.setCell ⟨g6, 0, none⟩ (.int .i64 op)).setCell ⟨g6, 1, none⟩ (.int .i64 a)).setCell ⟨g6, 2, none⟩ (.int .i64 r)).setCell ⟨g6, 3, none⟩ (.int .i64 b)).setCell ⟨g6, 4, none⟩ (.slice ao nn cap)).setCell ⟨g6, 5, none⟩ (.int .u64 s.a)).setCell ⟨g6, 6, none⟩ (.int .u64 s.b)).setCell ⟨g6, 7, none⟩ (.int .u64 s.c)).setCell ⟨g6, 8, none⟩ (.int .u64 s.d)).setCell ⟨g6, 9, none⟩ (.slice ak m ck)) g6 28 #[.int .i64 op, .int .i64 a, .int .i64 r, .int .i64 b, .slice ao nn cap, .int .u64 s.a, .int .u64 s.b, .int .u64 s.c, .int .u64 s.d, .slice ak m ck]) := Lib.hid (Blk.store10 hb6 _ _ _ _ _ _ _ _ _ _)
      have HK : Hid (Below w.heap.size w ((((((((((W2.setCell ⟨g6, 0, none⟩ (.int .i64 op)).setCell ⟨g6, 1, none⟩ (.int .i64 a)).setCell ⟨g6, 2, none⟩ (.int .i64 r)).setCell ⟨g6, 3, none⟩ (.int .i64 b)).setCell ⟨g6, 4, none⟩ (.slice ao nn cap)).setCell ⟨g6, 5, none⟩ (.int .u64 s.a)).setCell ⟨g6, 6, none⟩ (.int .u64 s.b)).setCell ⟨g6, 7, none⟩ (.int .u64 s.c)).setCell ⟨g6, 8, none⟩ (.int .u64 s.d)).setCell ⟨g6, 9, none⟩ (.slice ak m ck))) := Lib.hid (below_set1 (below_set1 (below_set1 (below_set1 (below_set1 (below_set1 (below_set1 (below_set1 (below_set1 (below_set1 hC HG6.out 0 _) HG6.out 1 _) HG6.out 2 _) HG6.out 3 _) HG6.out 4 _) HG6.out 5 _) HG6.out 6 _) HG6.out 7 _) HG6.out 8 _) HG6.out 9 _)
      have c8 := hb6.cell
      have k0 := c8 0
      have k1 := c8 1
      have k2 := c8 2
      have k3 := c8 3
      have k4 := c8 4
      have k5 := c8 5
      have k6 := c8 6
      have k7 := c8 7
      have k8 := c8 8
      have k9 := c8 9
      have z6 := hb6.frozen
      clear c8 hC hb6 hg6
      go_upto_region 2 with fail
      generalize ((((((((((W2.setCell ⟨g6, 0, none⟩ (.int .i64 op)).setCell ⟨g6, 1, none⟩ (.int .i64 a)).setCell ⟨g6, 2, none⟩ (.int .i64 r)).setCell ⟨g6, 3, none⟩ (.int .i64 b)).setCell ⟨g6, 4, none⟩ (.slice ao nn cap)).setCell ⟨g6, 5, none⟩ (.int .u64 s.a)).setCell ⟨g6, 6, none⟩ (.int .u64 s.b)).setCell ⟨g6, 7, none⟩ (.int .u64 s.c)).setCell ⟨g6, 8, none⟩ (.int .u64 s.d)).setCell ⟨g6, 9, none⟩ (.slice ak m ck)) = W3 at *
      clear k0 k1 k2 k3 k4 k5 k6 k7 k8 k9 z6
      obtain ⟨x0, x1, x2, x3, x4, x5, x6, x7, x8, x9⟩ := (HX.out.keep (HK.out.block g HG.out)).cells
      have HBB : Hid (Blk (((W3.setCell ⟨g6, 1, none⟩ (.int .i64 0)).setCell ⟨g6, 2, none⟩ (.int .i64 0)).setCell ⟨g6, 3, none⟩ (.int .i64 0)) g6 28 #[.int .i64 op, .int .i64 0, .int .i64 0, .int .i64 0, .slice ao nn cap, .int .u64 s.a, .int .u64 s.b, .int .u64 s.c, .int .u64 s.d, .slice ak m ck]) := Lib.hid (by
        have k := (Blk.set (Blk.set (Blk.set HB.out 1 (.int .i64 0)) 2 (.int .i64 0)) 3 (.int .i64 0))
        simp only [List.setIfInBounds_toArray, List.set_cons_zero, List.set_cons_succ] at k
        exact k)
      have HBK : Hid (Below w.heap.size w (((W3.setCell ⟨g6, 1, none⟩ (.int .i64 0)).setCell ⟨g6, 2, none⟩ (.int .i64 0)).setCell ⟨g6, 3, none⟩ (.int .i64 0))) := Lib.hid (below_set1 (below_set1 (below_set1 HK.out HG6.out 1 _) HG6.out 2 _) HG6.out 3 _)
      have c6 := HB.out.cell
      have c60 := c6 0
      have c61 := c6 1
      have c62 := c6 2
      have c63 := c6 3
      have c65 := c6 5
      have c66 := c6 6
      have c67 := c6 7
      have c68 := c6 8
      have z6 := HB.out.frozen
      clear c6
      go_upto_region 13 with fail
      generalize (((W3.setCell ⟨g6, 1, none⟩ (.int .i64 0)).setCell ⟨g6, 2, none⟩ (.int .i64 0)).setCell ⟨g6, 3, none⟩ (.int .i64 0)) = W3b at *
      clear c60 c61 c62 c63 c65 c66 c67 c68 z6 x0 x1 x2 x3 x4 x5 x6 x7 x8 x9
      obtain ⟨x0, x1, x2, x3, x4, x5, x6, x7, x8, x9⟩ := (HX.out.keep (HBK.out.block g HG.out)).cells
      go_wp2_with ((go_at_call 51; refine (hasFields_c g6 0 0 0 0 ao nn cap s _ (HBB.out.cell 1) (HBB.out.cell 2) (HBB.out.cell 3) (HBB.out.cell 4) (HBB.out.cell 5) (HBB.out.cell 6) (HBB.out.cell 7) (HBB.out.cell 8)).mono ?_; rw [HH.out]; rintro e W4 ⟨rfl, hb4⟩; have HX4 := Lib.hid (HX.out.keep ((hb4.block g (by have h := HBK.out.size; have := HG.out; omega)).trans (HBK.out.block g HG.out))); obtain ⟨y0, y1, y2, y3, y4, y5, y6, y7, y8, y9⟩ := HX4.out.cells; have HB4 := Lib.hid (HBK.out.trans (hb4.mono HBK.out.size)); clear hb4))
      go_ret
      exact ⟨rfl, HB4.out⟩
    | false =>
      rw [if_neg (by simp [hm])]
      have HH := Lib.hid hh
      clear hh hm hop
      go_enter Try.func33, Try.ntmps33
      go_upto_region 1 with fail
      refine wp_region_phit 5 (oPhi g o op a r b ao nn cap s ak m ck w) (by kernel_rfl) (by decide) (by kernel_rfl) (by kernel_rfl) (by kernel_rfl) (fun k v u u2 h hb => oPhi_keep h hb) ?_ ?_
      · refine ⟨⟨trivial, fun A u hK hF => ?_⟩, ⟨trivial, fun A u hK hF => ?_⟩, ⟨trivial, fun A u hK hF => ?_⟩, ⟨trivial, fun A u hK hF => ?_⟩, ⟨trivial, fun A u hK hF => ?_⟩, trivial⟩
        · have f0 : A.tmps[0]?.getD undef = .pointer (some ⟨g, o, none⟩) := fact_none (hF 0) (by kernel_rfl)
          unfold Gives
          go_simp
          exact gives_val (Below.refl _ _) rfl
        · have f7 : A.tmps[7]?.getD undef = .pointer (some ⟨g, o, none⟩) := fact_some (hF 7) (j := 0) (by kernel_rfl) (by kernel_rfl)
          unfold Gives
          go_simp
          exact gives_val (Below.refl _ _) rfl
        · have f8 : A.tmps[8]?.getD undef = .pointer (some ⟨g, o, none⟩) := fact_some (hF 8) (j := 1) (by kernel_rfl) (by kernel_rfl)
          obtain ⟨k0, k1, k2, k3, k4, k5, k6, k7, k8, k9⟩ := (HX.out.keep (hK.block g HG.out)).cells
          unfold Gives
          go_simp
          exact gives_val (Below.refl _ _) rfl
        · unfold Gives
          go_simp
          exact gives_val ((Below.refl _ _).alloc (Nat.le_refl _) _) ⟨_, rfl, hK.size, Blk.new _ _ _⟩
        · unfold Gives
          go_simp
          exact gives_val (Below.refl _ _) rfl
      intro a0 W2 hC hsz hdf hF
      have ha := end_mask [false, false, false, false, false, true, true, true, true, true, false, false, false, false, false, false, false, false, false, false, false, false, false, false, false, false, false, false, false, false, false, false, false, false, false, false, false, false, false, false, false, false, false, false, false, false, false, false, false, false, false, false, false, false, false, false, false, false] hsz hdf hF (by kernel_rfl)
      have f9 : a0.tmps[9]?.getD undef = .agg #[.int .i64 op, .int .i64 a, .int .i64 r, .int .i64 b, .slice ao nn cap, .int .u64 s.a, .int .u64 s.b, .int .u64 s.c, .int .u64 s.d, .slice ak m ck] := fact_end (hF 9) (j := 2) (by kernel_rfl)
      have f5 : a0.tmps[5]?.getD undef = .int .i64 0 := fact_end (hF 5) (j := 4) (by kernel_rfl)
      obtain ⟨g6, f6, hg6, hb6⟩ : ∃ g, a0.tmps[6]?.getD undef = .pointer (some ⟨g, 0, none⟩) ∧ w.heap.size ≤ g ∧ Blk W2 g 28 #[.int .i64 0, .int .i64 0, .int .i64 0, .int .i64 0, .slice none 0 0, .int .u64 0, .int .u64 0, .int .u64 0, .int .u64 0, .slice none 0 0] := fact_end (hF 6) (j := 3) (by kernel_rfl)
      rw [ha]
      clear ha hF
      simp only [cutM_yes, cutM_no, cutM_nil, Nat.reduceAdd]
      rw [f9, f5, f6]
      clear f9 f5 f6
      generalize a0.tmps[7]?.getD undef = s7
      generalize a0.tmps[8]?.getD undef = s8
      clear hsz hdf
      have HG6 := Lib.hid hg6
      have HB : Hid (Blk ((((((((((W2.setCell ⟨g6, 0, none⟩ (.int .i64 op)).setCell ⟨g6, 1, none⟩ (.int .i64 a)).setCell ⟨g6, 2, none⟩ (.int .i64 r)).setCell ⟨g6, 3, none⟩ (.int .i64 b)).setCell ⟨g6, 4, none⟩ (.slice ao nn cap)).setCell ⟨g6, 5, none⟩ (.int .u64 s.a)).setCell ⟨g6, 6, none⟩ (.int .u64 s.b)).setCell ⟨g6, 7, none⟩ (.int .u64 s.c)).setCell ⟨g6, 8, none⟩ (.int .u64 s.d)).setCell ⟨g6, 9, none⟩ (.slice ak m ck)) g6 28 #[.int .i64 op, .int .i64 a, .int .i64 r, .int .i64 b, .slice ao nn cap, .int .u64 s.a, .int .u64 s.b, .int .u64 s.c, .int .u64 s.d, .slice ak m ck]) := Lib.hid (Blk.store10 hb6 _ _ _ _ _ _ _ _ _ _)
      have HK : Hid (Below w.heap.size w ((((((((((W2.setCell ⟨g6, 0, none⟩ (.int .i64 op)).setCell ⟨g6, 1, none⟩ (.int .i64 a)).setCell ⟨g6, 2, none⟩ (.int .i64 r)).setCell ⟨g6, 3, none⟩ (.int .i64 b)).setCell ⟨g6, 4, none⟩ (.slice ao nn cap)).setCell ⟨g6, 5, none⟩ (.int .u64 s.a)).setCell ⟨g6, 6, none⟩ (.int .u64 s.b)).setCell ⟨g6, 7, none⟩ (.int .u64 s.c)).setCell ⟨g6, 8, none⟩ (.int .u64 s.d)).setCell ⟨g6, 9, none⟩ (.slice ak m ck))) := Lib.hid (below_set1 (below_set1 (below_set1 (below_set1 (below_set1 (below_set1 (below_set1 (below_set1 (below_set1 (below_set1 hC HG6.out 0 _) HG6.out 1 _) HG6.out 2 _) HG6.out 3 _) HG6.out 4 _) HG6.out 5 _) HG6.out 6 _) HG6.out 7 _) HG6.out 8 _) HG6.out 9 _)
      have c8 := hb6.cell
      have k0 := c8 0
      have k1 := c8 1
      have k2 := c8 2
      have k3 := c8 3
      have k4 := c8 4
      have k5 := c8 5
      have k6 := c8 6
      have k7 := c8 7
      have k8 := c8 8
      have k9 := c8 9
      have z6 := hb6.frozen
      clear c8 hC hb6 hg6
      go_upto_region 2 with fail
      generalize ((((((((((W2.setCell ⟨g6, 0, none⟩ (.int .i64 op)).setCell ⟨g6, 1, none⟩ (.int .i64 a)).setCell ⟨g6, 2, none⟩ (.int .i64 r)).setCell ⟨g6, 3, none⟩ (.int .i64 b)).setCell ⟨g6, 4, none⟩ (.slice ao nn cap)).setCell ⟨g6, 5, none⟩ (.int .u64 s.a)).setCell ⟨g6, 6, none⟩ (.int .u64 s.b)).setCell ⟨g6, 7, none⟩ (.int .u64 s.c)).setCell ⟨g6, 8, none⟩ (.int .u64 s.d)).setCell ⟨g6, 9, none⟩ (.slice ak m ck)) = W3 at *
      clear k0 k1 k2 k3 k4 k5 k6 k7 k8 k9 z6
      obtain ⟨x0, x1, x2, x3, x4, x5, x6, x7, x8, x9⟩ := (HX.out.keep (HK.out.block g HG.out)).cells
      have HBB : Hid (Blk (((W3.setCell ⟨g6, 1, none⟩ (.int .i64 0)).setCell ⟨g6, 2, none⟩ (.int .i64 0)).setCell ⟨g6, 3, none⟩ (.int .i64 0)) g6 28 #[.int .i64 op, .int .i64 0, .int .i64 0, .int .i64 0, .slice ao nn cap, .int .u64 s.a, .int .u64 s.b, .int .u64 s.c, .int .u64 s.d, .slice ak m ck]) := Lib.hid (by
        have k := (Blk.set (Blk.set (Blk.set HB.out 1 (.int .i64 0)) 2 (.int .i64 0)) 3 (.int .i64 0))
        simp only [List.setIfInBounds_toArray, List.set_cons_zero, List.set_cons_succ] at k
        exact k)
      have HBK : Hid (Below w.heap.size w (((W3.setCell ⟨g6, 1, none⟩ (.int .i64 0)).setCell ⟨g6, 2, none⟩ (.int .i64 0)).setCell ⟨g6, 3, none⟩ (.int .i64 0))) := Lib.hid (below_set1 (below_set1 (below_set1 HK.out HG6.out 1 _) HG6.out 2 _) HG6.out 3 _)
      have c6 := HB.out.cell
      have c60 := c6 0
      have c61 := c6 1
      have c62 := c6 2
      have c63 := c6 3
      have c65 := c6 5
      have c66 := c6 6
      have c67 := c6 7
      have c68 := c6 8
      have z6 := HB.out.frozen
      clear c6
      go_upto_region 13 with fail
      generalize (((W3.setCell ⟨g6, 1, none⟩ (.int .i64 0)).setCell ⟨g6, 2, none⟩ (.int .i64 0)).setCell ⟨g6, 3, none⟩ (.int .i64 0)) = W3b at *
      clear c60 c61 c62 c63 c65 c66 c67 c68 z6 x0 x1 x2 x3 x4 x5 x6 x7 x8 x9
      obtain ⟨x0, x1, x2, x3, x4, x5, x6, x7, x8, x9⟩ := (HX.out.keep (HBK.out.block g HG.out)).cells
      go_wp2_with (first
        | (go_at_call 51; refine (hasFields_c g6 0 0 0 0 ao nn cap s _ (HBB.out.cell 1) (HBB.out.cell 2) (HBB.out.cell 3) (HBB.out.cell 4) (HBB.out.cell 5) (HBB.out.cell 6) (HBB.out.cell 7) (HBB.out.cell 8)).mono ?_; rw [HH.out]; rintro e W4 ⟨rfl, hb4⟩; have HX4 := Lib.hid (HX.out.keep ((hb4.block g (by have h := HBK.out.size; have := HG.out; omega)).trans (HBK.out.block g HG.out))); obtain ⟨y0, y1, y2, y3, y4, y5, y6, y7, y8, y9⟩ := HX4.out.cells; have HB4 := Lib.hid (HBK.out.trans (hb4.mono HBK.out.size)); clear hb4)
        | (go_at_call 52; refine (comparisonError_c g o a r b n _ y1 y2 y3 (Nat.lt_of_lt_of_le HG.out HB4.out.size)).mono ?_; rintro e W5 ⟨rfl, hb5⟩; have HB5 := Lib.hid (HB4.out.trans (hb5.mono HB4.out.size)); clear hb5))
      go_ret
      exact ⟨rfl, HB5.out⟩
  · rw [if_pos (.inl hm)]
    have hmi : ((m : Int) != 0) = true := by simp; omega
    clear hm hop
    go_enter Try.func33, Try.ntmps33
    go_upto_region 1 with fail
    refine wp_region_phit 5 (oPhi g o op a r b ao nn cap s ak m ck w) (by kernel_rfl) (by decide) (by kernel_rfl) (by kernel_rfl) (by kernel_rfl) (fun k v u u2 h hb => oPhi_keep h hb) ?_ ?_
    · refine ⟨⟨trivial, fun A u hK hF => ?_⟩, ⟨trivial, fun A u hK hF => ?_⟩, ⟨trivial, fun A u hK hF => ?_⟩, ⟨trivial, fun A u hK hF => ?_⟩, ⟨trivial, fun A u hK hF => ?_⟩, trivial⟩
      · have f0 : A.tmps[0]?.getD undef = .pointer (some ⟨g, o, none⟩) := fact_none (hF 0) (by kernel_rfl)
        unfold Gives
        go_simp
        exact gives_val (Below.refl _ _) rfl
      · have f7 : A.tmps[7]?.getD undef = .pointer (some ⟨g, o, none⟩) := fact_some (hF 7) (j := 0) (by kernel_rfl) (by kernel_rfl)
        unfold Gives
        go_simp
        exact gives_val (Below.refl _ _) rfl
      · have f8 : A.tmps[8]?.getD undef = .pointer (some ⟨g, o, none⟩) := fact_some (hF 8) (j := 1) (by kernel_rfl) (by kernel_rfl)
        obtain ⟨k0, k1, k2, k3, k4, k5, k6, k7, k8, k9⟩ := (HX.out.keep (hK.block g HG.out)).cells
        unfold Gives
        go_simp
        exact gives_val (Below.refl _ _) rfl
      · unfold Gives
        go_simp
        exact gives_val ((Below.refl _ _).alloc (Nat.le_refl _) _) ⟨_, rfl, hK.size, Blk.new _ _ _⟩
      · unfold Gives
        go_simp
        exact gives_val (Below.refl _ _) rfl
    intro a0 W2 hC hsz hdf hF
    have ha := end_mask [false, false, false, false, false, true, true, true, true, true, false, false, false, false, false, false, false, false, false, false, false, false, false, false, false, false, false, false, false, false, false, false, false, false, false, false, false, false, false, false, false, false, false, false, false, false, false, false, false, false, false, false, false, false, false, false, false, false] hsz hdf hF (by kernel_rfl)
    have f9 : a0.tmps[9]?.getD undef = .agg #[.int .i64 op, .int .i64 a, .int .i64 r, .int .i64 b, .slice ao nn cap, .int .u64 s.a, .int .u64 s.b, .int .u64 s.c, .int .u64 s.d, .slice ak m ck] := fact_end (hF 9) (j := 2) (by kernel_rfl)
    have f5 : a0.tmps[5]?.getD undef = .int .i64 0 := fact_end (hF 5) (j := 4) (by kernel_rfl)
    obtain ⟨g6, f6, hg6, hb6⟩ : ∃ g, a0.tmps[6]?.getD undef = .pointer (some ⟨g, 0, none⟩) ∧ w.heap.size ≤ g ∧ Blk W2 g 28 #[.int .i64 0, .int .i64 0, .int .i64 0, .int .i64 0, .slice none 0 0, .int .u64 0, .int .u64 0, .int .u64 0, .int .u64 0, .slice none 0 0] := fact_end (hF 6) (j := 3) (by kernel_rfl)
    rw [ha]
    clear ha hF
    simp only [cutM_yes, cutM_no, cutM_nil, Nat.reduceAdd]
    rw [f9, f5, f6]
    clear f9 f5 f6
    generalize a0.tmps[7]?.getD undef = s7
    generalize a0.tmps[8]?.getD undef = s8
    clear hsz hdf
    have HG6 := Lib.hid hg6
    have HB : Hid (Blk ((((((((((W2.setCell ⟨g6, 0, none⟩ (.int .i64 op)).setCell ⟨g6, 1, none⟩ (.int .i64 a)).setCell ⟨g6, 2, none⟩ (.int .i64 r)).setCell ⟨g6, 3, none⟩ (.int .i64 b)).setCell ⟨g6, 4, none⟩ (.slice ao nn cap)).setCell ⟨g6, 5, none⟩ (.int .u64 s.a)).setCell ⟨g6, 6, none⟩ (.int .u64 s.b)).setCell ⟨g6, 7, none⟩ (.int .u64 s.c)).setCell ⟨g6, 8, none⟩ (.int .u64 s.d)).setCell ⟨g6, 9, none⟩ (.slice ak m ck)) g6 28 #[.int .i64 op, .int .i64 a, .int .i64 r, .int .i64 b, .slice ao nn cap, .int .u64 s.a, .int .u64 s.b, .int .u64 s.c, .int .u64 s.d, .slice ak m ck]) := Lib.hid (Blk.store10 hb6 _ _ _ _ _ _ _ _ _ _)
    have HK : Hid (Below w.heap.size w ((((((((((W2.setCell ⟨g6, 0, none⟩ (.int .i64 op)).setCell ⟨g6, 1, none⟩ (.int .i64 a)).setCell ⟨g6, 2, none⟩ (.int .i64 r)).setCell ⟨g6, 3, none⟩ (.int .i64 b)).setCell ⟨g6, 4, none⟩ (.slice ao nn cap)).setCell ⟨g6, 5, none⟩ (.int .u64 s.a)).setCell ⟨g6, 6, none⟩ (.int .u64 s.b)).setCell ⟨g6, 7, none⟩ (.int .u64 s.c)).setCell ⟨g6, 8, none⟩ (.int .u64 s.d)).setCell ⟨g6, 9, none⟩ (.slice ak m ck))) := Lib.hid (below_set1 (below_set1 (below_set1 (below_set1 (below_set1 (below_set1 (below_set1 (below_set1 (below_set1 (below_set1 hC HG6.out 0 _) HG6.out 1 _) HG6.out 2 _) HG6.out 3 _) HG6.out 4 _) HG6.out 5 _) HG6.out 6 _) HG6.out 7 _) HG6.out 8 _) HG6.out 9 _)
    have c8 := hb6.cell
    have k0 := c8 0
    have k1 := c8 1
    have k2 := c8 2
    have k3 := c8 3
    have k4 := c8 4
    have k5 := c8 5
    have k6 := c8 6
    have k7 := c8 7
    have k8 := c8 8
    have k9 := c8 9
    have z6 := hb6.frozen
    clear c8 hC hb6 hg6
    go_upto_region 2 with fail
    generalize ((((((((((W2.setCell ⟨g6, 0, none⟩ (.int .i64 op)).setCell ⟨g6, 1, none⟩ (.int .i64 a)).setCell ⟨g6, 2, none⟩ (.int .i64 r)).setCell ⟨g6, 3, none⟩ (.int .i64 b)).setCell ⟨g6, 4, none⟩ (.slice ao nn cap)).setCell ⟨g6, 5, none⟩ (.int .u64 s.a)).setCell ⟨g6, 6, none⟩ (.int .u64 s.b)).setCell ⟨g6, 7, none⟩ (.int .u64 s.c)).setCell ⟨g6, 8, none⟩ (.int .u64 s.d)).setCell ⟨g6, 9, none⟩ (.slice ak m ck)) = W3 at *
    clear k0 k1 k2 k3 k4 k5 k6 k7 k8 k9 z6
    obtain ⟨x0, x1, x2, x3, x4, x5, x6, x7, x8, x9⟩ := (HX.out.keep (HK.out.block g HG.out)).cells
    have HBB : Hid (Blk (((W3.setCell ⟨g6, 1, none⟩ (.int .i64 0)).setCell ⟨g6, 2, none⟩ (.int .i64 0)).setCell ⟨g6, 3, none⟩ (.int .i64 0)) g6 28 #[.int .i64 op, .int .i64 0, .int .i64 0, .int .i64 0, .slice ao nn cap, .int .u64 s.a, .int .u64 s.b, .int .u64 s.c, .int .u64 s.d, .slice ak m ck]) := Lib.hid (by
      have k := (Blk.set (Blk.set (Blk.set HB.out 1 (.int .i64 0)) 2 (.int .i64 0)) 3 (.int .i64 0))
      simp only [List.setIfInBounds_toArray, List.set_cons_zero, List.set_cons_succ] at k
      exact k)
    have HBK : Hid (Below w.heap.size w (((W3.setCell ⟨g6, 1, none⟩ (.int .i64 0)).setCell ⟨g6, 2, none⟩ (.int .i64 0)).setCell ⟨g6, 3, none⟩ (.int .i64 0))) := Lib.hid (below_set1 (below_set1 (below_set1 HK.out HG6.out 1 _) HG6.out 2 _) HG6.out 3 _)
    have c6 := HB.out.cell
    have c60 := c6 0
    have c61 := c6 1
    have c62 := c6 2
    have c63 := c6 3
    have c65 := c6 5
    have c66 := c6 6
    have c67 := c6 7
    have c68 := c6 8
    have z6 := HB.out.frozen
    clear c6
    go_upto_region 13 with fail
    generalize (((W3.setCell ⟨g6, 1, none⟩ (.int .i64 0)).setCell ⟨g6, 2, none⟩ (.int .i64 0)).setCell ⟨g6, 3, none⟩ (.int .i64 0)) = W3b at *
    clear c60 c61 c62 c63 c65 c66 c67 c68 z6 x0 x1 x2 x3 x4 x5 x6 x7 x8 x9
    obtain ⟨x0, x1, x2, x3, x4, x5, x6, x7, x8, x9⟩ := (HX.out.keep (HBK.out.block g HG.out)).cells
    go_wp2_with fail
    go_ret
    exact ⟨rfl, HBK.out⟩
end Go.Proofs.Ytamcfmfkmekkfaa
/- Package expression: Operator, one operator. -/
namespace Go.Proofs.Ytamcfmfkmekkfaa
open Go.RowKit
set_option maxRecDepth 100000 in
set_option maxHeartbeats 16000000 in
theorem operator9_c (g o : Nat) (op a r b : Int) (ao : Option Addr) (nn cap : Nat) (s : S4) (ak : Option Addr) (m ck : Nat) (n : Int) (w : World) (hX : XC w g o op a r b ao nn cap s ak m ck) (hg : g < w.heap.size) (hop : op = 9) :
    Calls Try.prog 33 #[.pointer (some ⟨g, o, none⟩), .int .i64 n] w fun e w' => e = .returned (.int .i64 (operE n op a r b nn s m)) ∧ Below w.heap.size w w' := by
  have HX := Lib.hid hX
  have HG := Lib.hid hg
  clear hX hg
  unfold operE
  rw [if_neg (by omega), if_neg (by omega), if_neg (by omega), if_pos hop]
  have p2 : (op == 2) = false := by rw [hop]; rfl
  have p3 : (op == 3) = false := by rw [hop]; rfl
  have p4 : (op == 4) = false := by rw [hop]; rfl
  have p8 : (op == 8) = false := by rw [hop]; rfl
  have p9 : (op == 9) = true := by rw [hop]; rfl
  by_cases hm : m = 0
  · have hmi : ((m : Int) != 0) = false := by rw [hm]; rfl
    cases hh : hasF 0 r b nn S4.zero with
    | true =>
      rw [if_pos (.inr rfl)]
      have HH := Lib.hid hh
      clear hh hm hop
      go_enter Try.func33, Try.ntmps33
      go_upto_region 1 with fail
      refine wp_region_phit 5 (oPhi g o op a r b ao nn cap s ak m ck w) (by kernel_rfl) (by decide) (by kernel_rfl) (by kernel_rfl) (by kernel_rfl) (fun k v u u2 h hb => oPhi_keep h hb) ?_ ?_
      · refine ⟨⟨trivial, fun A u hK hF => ?_⟩, ⟨trivial, fun A u hK hF => ?_⟩, ⟨trivial, fun A u hK hF => ?_⟩, ⟨trivial, fun A u hK hF => ?_⟩, ⟨trivial, fun A u hK hF => ?_⟩, trivial⟩
        · have f0 : A.tmps[0]?.getD undef = .pointer (some ⟨g, o, none⟩) := fact_none (hF 0) (by kernel_rfl)
          unfold Gives
          go_simp
          exact gives_val (Below.refl _ _) rfl
        · have f7 : A.tmps[7]?.getD undef = .pointer (some ⟨g, o, none⟩) := fact_some (hF 7) (j := 0) (by kernel_rfl) (by kernel_rfl)
          unfold Gives
          go_simp
          exact gives_val (Below.refl _ _) rfl
        · have f8 : A.tmps[8]?.getD undef = .pointer (some ⟨g, o, none⟩) := fact_some (hF 8) (j := 1) (by kernel_rfl) (by kernel_rfl)
          obtain ⟨k0, k1, k2, k3, k4, k5, k6, k7, k8, k9⟩ := (HX.out.keep (hK.block g HG.out)).cells
          unfold Gives
          go_simp
          exact gives_val (Below.refl _ _) rfl
        · unfold Gives
          go_simp
          exact gives_val ((Below.refl _ _).alloc (Nat.le_refl _) _) ⟨_, rfl, hK.size, Blk.new _ _ _⟩
        · unfold Gives
          go_simp
          exact gives_val (Below.refl _ _) rfl
      intro a0 W2 hC hsz hdf hF
      have ha := end_mask [false, false, false, false, false, true, true, true, true, true, false, false, false, false, false, false, false, false, false, false, false, false, false, false, false, false, false, false, false, false, false, false, false, false, false, false, false, false, false, false, false, false, false, false, false, false, false, false, false, false, false, false, false, false, false, false, false, false] hsz hdf hF (by kernel_rfl)
      have f9 : a0.tmps[9]?.getD undef = .agg #[.int .i64 op, .int .i64 a, .int .i64 r, .int .i64 b, .slice ao nn cap, .int .u64 s.a, .int .u64 s.b, .int .u64 s.c, .int .u64 s.d, .slice ak m ck] := fact_end (hF 9) (j := 2) (by kernel_rfl)
      have f5 : a0.tmps[5]?.getD undef = .int .i64 0 := fact_end (hF 5) (j := 4) (by kernel_rfl)
      obtain ⟨g6, f6, hg6, hb6⟩ : ∃ g, a0.tmps[6]?.getD undef = .pointer (some ⟨g, 0, none⟩) ∧ w.heap.size ≤ g ∧ Blk W2 g 28 #[.int .i64 0, .int .i64 0, .int .i64 0, .int .i64 0, .slice none 0 0, .int .u64 0, .int .u64 0, .int .u64 0, .int .u64 0, .slice none 0 0] := fact_end (hF 6) (j := 3) (by kernel_rfl)
      rw [ha]
      clear ha hF
      simp only [cutM_yes, cutM_no, cutM_nil, Nat.reduceAdd]
      rw [f9, f5, f6]
      clear f9 f5 f6
      generalize a0.tmps[7]?.getD undef = s7
      generalize a0.tmps[8]?.getD undef = s8
      clear hsz hdf
      have HG6 := Lib.hid hg6
      have HB : Hid (Blk ((((((((((W2.setCell ⟨g6, 0, none⟩ (.int .i64 op)).setCell ⟨g6, 1, none⟩ (.int .i64 a)).setCell ⟨g6, 2, none⟩ (.int .i64 r)).setCell ⟨g6, 3, none⟩ (.int .i64 b)).setCell ⟨g6, 4, none⟩ (.slice ao nn cap)).setCell ⟨g6, 5, none⟩ (.int .u64 s.a)).setCell ⟨g6, 6, none⟩ (.int .u64 s.b)).setCell ⟨g6, 7, none⟩ (.int .u64 s.c)).setCell ⟨g6, 8, none⟩ (.int .u64 s.d)).setCell ⟨g6, 9, none⟩ (.slice ak m ck)) g6 28 #[.int .i64 op, .int .i64 a, .int .i64 r, .int .i64 b, .slice ao nn cap, .int .u64 s.a, .int .u64 s.b, .int .u64 s.c, .int .u64 s.d, .slice ak m ck]) := Lib.hid (Blk.store10 hb6 _ _ _ _ _ _ _ _ _ _)
      have HK : Hid (Below w.heap.size w ((((((((((W2.setCell ⟨g6, 0, none⟩ (.int .i64 op)).setCell ⟨g6, 1, none⟩ (.int .i64 a)).setCell ⟨g6, 2, none⟩ (.int .i64 r)).setCell ⟨g6, 3, none⟩ (.int .i64 b)).setCell ⟨g6, 4, none⟩ (.slice ao nn cap)).setCell ⟨g6, 5, none⟩ (.int .u64 s.a)).setCell ⟨g6, 6, none⟩ (.int .u64 s.b)).setCell ⟨g6, 7, none⟩ (.int .u64 s.c)).setCell ⟨g6, 8, none⟩ (.int .u64 s.d)).setCell ⟨g6, 9, none⟩ (.slice ak m ck))) := Lib.hid (below_set1 (below_set1 (below_set1 (below_set1 (below_set1 (below_set1 (below_set1 (below_set1 (below_set1 (below_set1 hC HG6.out 0 _) HG6.out 1 _) HG6.out 2 _) HG6.out 3 _) HG6.out 4 _) HG6.out 5 _) HG6.out 6 _) HG6.out 7 _) HG6.out 8 _) HG6.out 9 _)
      have c8 := hb6.cell
      have k0 := c8 0
      have k1 := c8 1
      have k2 := c8 2
      have k3 := c8 3
      have k4 := c8 4
      have k5 := c8 5
      have k6 := c8 6
      have k7 := c8 7
      have k8 := c8 8
      have k9 := c8 9
      have z6 := hb6.frozen
      clear c8 hC hb6 hg6
      go_upto_region 2 with fail
      generalize ((((((((((W2.setCell ⟨g6, 0, none⟩ (.int .i64 op)).setCell ⟨g6, 1, none⟩ (.int .i64 a)).setCell ⟨g6, 2, none⟩ (.int .i64 r)).setCell ⟨g6, 3, none⟩ (.int .i64 b)).setCell ⟨g6, 4, none⟩ (.slice ao nn cap)).setCell ⟨g6, 5, none⟩ (.int .u64 s.a)).setCell ⟨g6, 6, none⟩ (.int .u64 s.b)).setCell ⟨g6, 7, none⟩ (.int .u64 s.c)).setCell ⟨g6, 8, none⟩ (.int .u64 s.d)).setCell ⟨g6, 9, none⟩ (.slice ak m ck)) = W3 at *
      clear k0 k1 k2 k3 k4 k5 k6 k7 k8 k9 z6
      obtain ⟨x0, x1, x2, x3, x4, x5, x6, x7, x8, x9⟩ := (HX.out.keep (HK.out.block g HG.out)).cells
      have HBB : Hid (Blk (((((W3.setCell ⟨g6, 1, none⟩ (.int .i64 0)).setCell ⟨g6, 5, none⟩ (.int .u64 0)).setCell ⟨g6, 6, none⟩ (.int .u64 0)).setCell ⟨g6, 7, none⟩ (.int .u64 0)).setCell ⟨g6, 8, none⟩ (.int .u64 0)) g6 28 #[.int .i64 op, .int .i64 0, .int .i64 r, .int .i64 b, .slice ao nn cap, .int .u64 0, .int .u64 0, .int .u64 0, .int .u64 0, .slice ak m ck]) := Lib.hid (by
        have k := (Blk.set (Blk.set (Blk.set (Blk.set (Blk.set HB.out 1 (.int .i64 0)) 5 (.int .u64 0)) 6 (.int .u64 0)) 7 (.int .u64 0)) 8 (.int .u64 0))
        simp only [List.setIfInBounds_toArray, List.set_cons_zero, List.set_cons_succ] at k
        exact k)
      have HBK : Hid (Below w.heap.size w (((((W3.setCell ⟨g6, 1, none⟩ (.int .i64 0)).setCell ⟨g6, 5, none⟩ (.int .u64 0)).setCell ⟨g6, 6, none⟩ (.int .u64 0)).setCell ⟨g6, 7, none⟩ (.int .u64 0)).setCell ⟨g6, 8, none⟩ (.int .u64 0))) := Lib.hid (below_set1 (below_set1 (below_set1 (below_set1 (below_set1 HK.out HG6.out 1 _) HG6.out 5 _) HG6.out 6 _) HG6.out 7 _) HG6.out 8 _)
      have c6 := HB.out.cell
      have c60 := c6 0
      have c61 := c6 1
      have c62 := c6 2
      have c63 := c6 3
      have c65 := c6 5
      have c66 := c6 6
      have c67 := c6 7
      have c68 := c6 8
      have z6 := HB.out.frozen
      clear c6
      go_upto_region 13 with fail
      generalize (((((W3.setCell ⟨g6, 1, none⟩ (.int .i64 0)).setCell ⟨g6, 5, none⟩ (.int .u64 0)).setCell ⟨g6, 6, none⟩ (.int .u64 0)).setCell ⟨g6, 7, none⟩ (.int .u64 0)).setCell ⟨g6, 8, none⟩ (.int .u64 0)) = W3b at *
      clear c60 c61 c62 c63 c65 c66 c67 c68 z6 x0 x1 x2 x3 x4 x5 x6 x7 x8 x9
      obtain ⟨x0, x1, x2, x3, x4, x5, x6, x7, x8, x9⟩ := (HX.out.keep (HBK.out.block g HG.out)).cells
      go_wp2_with ((go_at_call 51; refine (hasFields_c g6 0 0 r b ao nn cap S4.zero _ (HBB.out.cell 1) (HBB.out.cell 2) (HBB.out.cell 3) (HBB.out.cell 4) (HBB.out.cell 5) (HBB.out.cell 6) (HBB.out.cell 7) (HBB.out.cell 8)).mono ?_; rw [HH.out]; rintro e W4 ⟨rfl, hb4⟩; have HX4 := Lib.hid (HX.out.keep ((hb4.block g (by have h := HBK.out.size; have := HG.out; omega)).trans (HBK.out.block g HG.out))); obtain ⟨y0, y1, y2, y3, y4, y5, y6, y7, y8, y9⟩ := HX4.out.cells; have HB4 := Lib.hid (HBK.out.trans (hb4.mono HBK.out.size)); clear hb4))
      go_ret
      exact ⟨rfl, HB4.out⟩
    | false =>
      rw [if_neg (by simp [hm])]
      have HH := Lib.hid hh
      clear hh hm hop
      go_enter Try.func33, Try.ntmps33
      go_upto_region 1 with fail
      refine wp_region_phit 5 (oPhi g o op a r b ao nn cap s ak m ck w) (by kernel_rfl) (by decide) (by kernel_rfl) (by kernel_rfl) (by kernel_rfl) (fun k v u u2 h hb => oPhi_keep h hb) ?_ ?_
      · refine ⟨⟨trivial, fun A u hK hF => ?_⟩, ⟨trivial, fun A u hK hF => ?_⟩, ⟨trivial, fun A u hK hF => ?_⟩, ⟨trivial, fun A u hK hF => ?_⟩, ⟨trivial, fun A u hK hF => ?_⟩, trivial⟩
        · have f0 : A.tmps[0]?.getD undef = .pointer (some ⟨g, o, none⟩) := fact_none (hF 0) (by kernel_rfl)
          unfold Gives
          go_simp
          exact gives_val (Below.refl _ _) rfl
        · have f7 : A.tmps[7]?.getD undef = .pointer (some ⟨g, o, none⟩) := fact_some (hF 7) (j := 0) (by kernel_rfl) (by kernel_rfl)
          unfold Gives
          go_simp
          exact gives_val (Below.refl _ _) rfl
        · have f8 : A.tmps[8]?.getD undef = .pointer (some ⟨g, o, none⟩) := fact_some (hF 8) (j := 1) (by kernel_rfl) (by kernel_rfl)
          obtain ⟨k0, k1, k2, k3, k4, k5, k6, k7, k8, k9⟩ := (HX.out.keep (hK.block g HG.out)).cells
          unfold Gives
          go_simp
          exact gives_val (Below.refl _ _) rfl
        · unfold Gives
          go_simp
          exact gives_val ((Below.refl _ _).alloc (Nat.le_refl _) _) ⟨_, rfl, hK.size, Blk.new _ _ _⟩
        · unfold Gives
          go_simp
          exact gives_val (Below.refl _ _) rfl
      intro a0 W2 hC hsz hdf hF
      have ha := end_mask [false, false, false, false, false, true, true, true, true, true, false, false, false, false, false, false, false, false, false, false, false, false, false, false, false, false, false, false, false, false, false, false, false, false, false, false, false, false, false, false, false, false, false, false, false, false, false, false, false, false, false, false, false, false, false, false, false, false] hsz hdf hF (by kernel_rfl)
      have f9 : a0.tmps[9]?.getD undef = .agg #[.int .i64 op, .int .i64 a, .int .i64 r, .int .i64 b, .slice ao nn cap, .int .u64 s.a, .int .u64 s.b, .int .u64 s.c, .int .u64 s.d, .slice ak m ck] := fact_end (hF 9) (j := 2) (by kernel_rfl)
      have f5 : a0.tmps[5]?.getD undef = .int .i64 0 := fact_end (hF 5) (j := 4) (by kernel_rfl)
      obtain ⟨g6, f6, hg6, hb6⟩ : ∃ g, a0.tmps[6]?.getD undef = .pointer (some ⟨g, 0, none⟩) ∧ w.heap.size ≤ g ∧ Blk W2 g 28 #[.int .i64 0, .int .i64 0, .int .i64 0, .int .i64 0, .slice none 0 0, .int .u64 0, .int .u64 0, .int .u64 0, .int .u64 0, .slice none 0 0] := fact_end (hF 6) (j := 3) (by kernel_rfl)
      rw [ha]
      clear ha hF
      simp only [cutM_yes, cutM_no, cutM_nil, Nat.reduceAdd]
      rw [f9, f5, f6]
      clear f9 f5 f6
      generalize a0.tmps[7]?.getD undef = s7
      generalize a0.tmps[8]?.getD undef = s8
      clear hsz hdf
      have HG6 := Lib.hid hg6
      have HB : Hid (Blk ((((((((((W2.setCell ⟨g6, 0, none⟩ (.int .i64 op)).setCell ⟨g6, 1, none⟩ (.int .i64 a)).setCell ⟨g6, 2, none⟩ (.int .i64 r)).setCell ⟨g6, 3, none⟩ (.int .i64 b)).setCell ⟨g6, 4, none⟩ (.slice ao nn cap)).setCell ⟨g6, 5, none⟩ (.int .u64 s.a)).setCell ⟨g6, 6, none⟩ (.int .u64 s.b)).setCell ⟨g6, 7, none⟩ (.int .u64 s.c)).setCell ⟨g6, 8, none⟩ (.int .u64 s.d)).setCell ⟨g6, 9, none⟩ (.slice ak m ck)) g6 28 #[.int .i64 op, .int .i64 a, .int .i64 r, .int .i64 b, .slice ao nn cap, .int .u64 s.a, .int .u64 s.b, .int .u64 s.c, .int .u64 s.d, .slice ak m ck]) := Lib.hid (Blk.store10 hb6 _ _ _ _ _ _ _ _ _ _)
      have HK : Hid (Below w.heap.size w ((((((((((W2.setCell ⟨g6, 0, none⟩ (.int .i64 op)).setCell ⟨g6, 1, none⟩ (.int .i64 a)).setCell ⟨g6, 2, none⟩ (.int .i64 r)).setCell ⟨g6, 3, none⟩ (.int .i64 b)).setCell ⟨g6, 4, none⟩ (.slice ao nn cap)).setCell ⟨g6, 5, none⟩ (.int .u64 s.a)).setCell ⟨g6, 6, none⟩ (.int .u64 s.b)).setCell ⟨g6, 7, none⟩ (.int .u64 s.c)).setCell ⟨g6, 8, none⟩ (.int .u64 s.d)).setCell ⟨g6, 9, none⟩ (.slice ak m ck))) := Lib.hid (below_set1 (below_set1 (below_set1 (below_set1 (below_set1 (below_set1 (below_set1 (below_set1 (below_set1 (below_set1 hC HG6.out 0 _) HG6.out 1 _) HG6.out 2 _) HG6.out 3 _) HG6.out 4 _) HG6.out 5 _) HG6.out 6 _) HG6.out 7 _) HG6.out 8 _) HG6.out 9 _)
      have c8 := hb6.cell
      have k0 := c8 0
      have k1 := c8 1
      have k2 := c8 2
      have k3 := c8 3
      have k4 := c8 4
      have k5 := c8 5
      have k6 := c8 6
      have k7 := c8 7
      have k8 := c8 8
      have k9 := c8 9
      have z6 := hb6.frozen
      clear c8 hC hb6 hg6
      go_upto_region 2 with fail
      generalize ((((((((((W2.setCell ⟨g6, 0, none⟩ (.int .i64 op)).setCell ⟨g6, 1, none⟩ (.int .i64 a)).setCell ⟨g6, 2, none⟩ (.int .i64 r)).setCell ⟨g6, 3, none⟩ (.int .i64 b)).setCell ⟨g6, 4, none⟩ (.slice ao nn cap)).setCell ⟨g6, 5, none⟩ (.int .u64 s.a)).setCell ⟨g6, 6, none⟩ (.int .u64 s.b)).setCell ⟨g6, 7, none⟩ (.int .u64 s.c)).setCell ⟨g6, 8, none⟩ (.int .u64 s.d)).setCell ⟨g6, 9, none⟩ (.slice ak m ck)) = W3 at *
      clear k0 k1 k2 k3 k4 k5 k6 k7 k8 k9 z6
      obtain ⟨x0, x1, x2, x3, x4, x5, x6, x7, x8, x9⟩ := (HX.out.keep (HK.out.block g HG.out)).cells
      have HBB : Hid (Blk (((((W3.setCell ⟨g6, 1, none⟩ (.int .i64 0)).setCell ⟨g6, 5, none⟩ (.int .u64 0)).setCell ⟨g6, 6, none⟩ (.int .u64 0)).setCell ⟨g6, 7, none⟩ (.int .u64 0)).setCell ⟨g6, 8, none⟩ (.int .u64 0)) g6 28 #[.int .i64 op, .int .i64 0, .int .i64 r, .int .i64 b, .slice ao nn cap, .int .u64 0, .int .u64 0, .int .u64 0, .int .u64 0, .slice ak m ck]) := Lib.hid (by
        have k := (Blk.set (Blk.set (Blk.set (Blk.set (Blk.set HB.out 1 (.int .i64 0)) 5 (.int .u64 0)) 6 (.int .u64 0)) 7 (.int .u64 0)) 8 (.int .u64 0))
        simp only [List.setIfInBounds_toArray, List.set_cons_zero, List.set_cons_succ] at k
        exact k)
      have HBK : Hid (Below w.heap.size w (((((W3.setCell ⟨g6, 1, none⟩ (.int .i64 0)).setCell ⟨g6, 5, none⟩ (.int .u64 0)).setCell ⟨g6, 6, none⟩ (.int .u64 0)).setCell ⟨g6, 7, none⟩ (.int .u64 0)).setCell ⟨g6, 8, none⟩ (.int .u64 0))) := Lib.hid (below_set1 (below_set1 (below_set1 (below_set1 (below_set1 HK.out HG6.out 1 _) HG6.out 5 _) HG6.out 6 _) HG6.out 7 _) HG6.out 8 _)
      have c6 := HB.out.cell
      have c60 := c6 0
      have c61 := c6 1
      have c62 := c6 2
      have c63 := c6 3
      have c65 := c6 5
      have c66 := c6 6
      have c67 := c6 7
      have c68 := c6 8
      have z6 := HB.out.frozen
      clear c6
      go_upto_region 13 with fail
      generalize (((((W3.setCell ⟨g6, 1, none⟩ (.int .i64 0)).setCell ⟨g6, 5, none⟩ (.int .u64 0)).setCell ⟨g6, 6, none⟩ (.int .u64 0)).setCell ⟨g6, 7, none⟩ (.int .u64 0)).setCell ⟨g6, 8, none⟩ (.int .u64 0)) = W3b at *
      clear c60 c61 c62 c63 c65 c66 c67 c68 z6 x0 x1 x2 x3 x4 x5 x6 x7 x8 x9
      obtain ⟨x0, x1, x2, x3, x4, x5, x6, x7, x8, x9⟩ := (HX.out.keep (HBK.out.block g HG.out)).cells
      go_wp2_with (first
        | (go_at_call 51; refine (hasFields_c g6 0 0 r b ao nn cap S4.zero _ (HBB.out.cell 1) (HBB.out.cell 2) (HBB.out.cell 3) (HBB.out.cell 4) (HBB.out.cell 5) (HBB.out.cell 6) (HBB.out.cell 7) (HBB.out.cell 8)).mono ?_; rw [HH.out]; rintro e W4 ⟨rfl, hb4⟩; have HX4 := Lib.hid (HX.out.keep ((hb4.block g (by have h := HBK.out.size; have := HG.out; omega)).trans (HBK.out.block g HG.out))); obtain ⟨y0, y1, y2, y3, y4, y5, y6, y7, y8, y9⟩ := HX4.out.cells; have HB4 := Lib.hid (HBK.out.trans (hb4.mono HBK.out.size)); clear hb4)
        | (go_at_call 53; refine (membershipError_c g o a n _ y1).mono ?_; rintro e W5 ⟨rfl, hb5⟩; have HB5 := Lib.hid (HB4.out.trans (hb5.mono HB4.out.size)); clear hb5))
      go_ret
      exact ⟨rfl, HB5.out⟩
  · rw [if_pos (.inl hm)]
    have hmi : ((m : Int) != 0) = true := by simp; omega
    clear hm hop
    go_enter Try.func33, Try.ntmps33
    go_upto_region 1 with fail
    refine wp_region_phit 5 (oPhi g o op a r b ao nn cap s ak m ck w) (by kernel_rfl) (by decide) (by kernel_rfl) (by kernel_rfl) (by kernel_rfl) (fun k v u u2 h hb => oPhi_keep h hb) ?_ ?_
    · refine ⟨⟨trivial, fun A u hK hF => ?_⟩, ⟨trivial, fun A u hK hF => ?_⟩, ⟨trivial, fun A u hK hF => ?_⟩, ⟨trivial, fun A u hK hF => ?_⟩, ⟨trivial, fun A u hK hF => ?_⟩, trivial⟩
      · have f0 : A.tmps[0]?.getD undef = .pointer (some ⟨g, o, none⟩) := fact_none (hF 0) (by kernel_rfl)
        unfold Gives
        go_simp
        exact gives_val (Below.refl _ _) rfl
      · have f7 : A.tmps[7]?.getD undef = .pointer (some ⟨g, o, none⟩) := fact_some (hF 7) (j := 0) (by kernel_rfl) (by kernel_rfl)
        unfold Gives
        go_simp
        exact gives_val (Below.refl _ _) rfl
      · have f8 : A.tmps[8]?.getD undef = .pointer (some ⟨g, o, none⟩) := fact_some (hF 8) (j := 1) (by kernel_rfl) (by kernel_rfl)
        obtain ⟨k0, k1, k2, k3, k4, k5, k6, k7, k8, k9⟩ := (HX.out.keep (hK.block g HG.out)).cells
        unfold Gives
        go_simp
        exact gives_val (Below.refl _ _) rfl
      · unfold Gives
        go_simp
        exact gives_val ((Below.refl _ _).alloc (Nat.le_refl _) _) ⟨_, rfl, hK.size, Blk.new _ _ _⟩
      · unfold Gives
        go_simp
        exact gives_val (Below.refl _ _) rfl
    intro a0 W2 hC hsz hdf hF
    have ha := end_mask [false, false, false, false, false, true, true, true, true, true, false, false, false, false, false, false, false, false, false, false, false, false, false, false, false, false, false, false, false, false, false, false, false, false, false, false, false, false, false, false, false, false, false, false, false, false, false, false, false, false, false, false, false, false, false, false, false, false] hsz hdf hF (by kernel_rfl)
    have f9 : a0.tmps[9]?.getD undef = .agg #[.int .i64 op, .int .i64 a, .int .i64 r, .int .i64 b, .slice ao nn cap, .int .u64 s.a, .int .u64 s.b, .int .u64 s.c, .int .u64 s.d, .slice ak m ck] := fact_end (hF 9) (j := 2) (by kernel_rfl)
    have f5 : a0.tmps[5]?.getD undef = .int .i64 0 := fact_end (hF 5) (j := 4) (by kernel_rfl)
    obtain ⟨g6, f6, hg6, hb6⟩ : ∃ g, a0.tmps[6]?.getD undef = .pointer (some ⟨g, 0, none⟩) ∧ w.heap.size ≤ g ∧ Blk W2 g 28 #[.int .i64 0, .int .i64 0, .int .i64 0, .int .i64 0, .slice none 0 0, .int .u64 0, .int .u64 0, .int .u64 0, .int .u64 0, .slice none 0 0] := fact_end (hF 6) (j := 3) (by kernel_rfl)
    rw [ha]
    clear ha hF
    simp only [cutM_yes, cutM_no, cutM_nil, Nat.reduceAdd]
    rw [f9, f5, f6]
    clear f9 f5 f6
    generalize a0.tmps[7]?.getD undef = s7
    generalize a0.tmps[8]?.getD undef = s8
    clear hsz hdf
    have HG6 := Lib.hid hg6
    have HB : Hid (Blk ((((((((((W2.setCell ⟨g6, 0, none⟩ (.int .i64 op)).setCell ⟨g6, 1, none⟩ (.int .i64 a)).setCell ⟨g6, 2, none⟩ (.int .i64 r)).setCell ⟨g6, 3, none⟩ (.int .i64 b)).setCell ⟨g6, 4, none⟩ (.slice ao nn cap)).setCell ⟨g6, 5, none⟩ (.int .u64 s.a)).setCell ⟨g6, 6, none⟩ (.int .u64 s.b)).setCell ⟨g6, 7, none⟩ (.int .u64 s.c)).setCell ⟨g6, 8, none⟩ (.int .u64 s.d)).setCell ⟨g6, 9, none⟩ (.slice ak m ck)) g6 28 #[.int .i64 op, .int .i64 a, .int .i64 r, .int .i64 b, .slice ao nn cap, .int .u64 s.a, .int .u64 s.b, .int .u64 s.c, .int .u64 s.d, .slice ak m ck]) := Lib.hid (Blk.store10 hb6 _ _ _ _ _ _ _ _ _ _)
    have HK : Hid (Below w.heap.size w ((((((((((W2.setCell ⟨g6, 0, none⟩ (.int .i64 op)).setCell ⟨g6, 1, none⟩ (.int .i64 a)).setCell ⟨g6, 2, none⟩ (.int .i64 r)).setCell ⟨g6, 3, none⟩ (.int .i64 b)).setCell ⟨g6, 4, none⟩ (.slice ao nn cap)).setCell ⟨g6, 5, none⟩ (.int .u64 s.a)).setCell ⟨g6, 6, none⟩ (.int .u64 s.b)).setCell ⟨g6, 7, none⟩ (.int .u64 s.c)).setCell ⟨g6, 8, none⟩ (.int .u64 s.d)).setCell ⟨g6, 9, none⟩ (.slice ak m ck))) := Lib.hid (below_set1 (below_set1 (below_set1 (below_set1 (below_set1 (below_set1 (below_set1 (below_set1 (below_set1 (below_set1 hC HG6.out 0 _) HG6.out 1 _) HG6.out 2 _) HG6.out 3 _) HG6.out 4 _) HG6.out 5 _) HG6.out 6 _) HG6.out 7 _) HG6.out 8 _) HG6.out 9 _)
    have c8 := hb6.cell
    have k0 := c8 0
    have k1 := c8 1
    have k2 := c8 2
    have k3 := c8 3
    have k4 := c8 4
    have k5 := c8 5
    have k6 := c8 6
    have k7 := c8 7
    have k8 := c8 8
    have k9 := c8 9
    have z6 := hb6.frozen
    clear c8 hC hb6 hg6
    go_upto_region 2 with fail
    generalize ((((((((((W2.setCell ⟨g6, 0, none⟩ (.int .i64 op)).setCell ⟨g6, 1, none⟩ (.int .i64 a)).setCell ⟨g6, 2, none⟩ (.int .i64 r)).setCell ⟨g6, 3, none⟩ (.int .i64 b)).setCell ⟨g6, 4, none⟩ (.slice ao nn cap)).setCell ⟨g6, 5, none⟩ (.int .u64 s.a)).setCell ⟨g6, 6, none⟩ (.int .u64 s.b)).setCell ⟨g6, 7, none⟩ (.int .u64 s.c)).setCell ⟨g6, 8, none⟩ (.int .u64 s.d)).setCell ⟨g6, 9, none⟩ (.slice ak m ck)) = W3 at *
    clear k0 k1 k2 k3 k4 k5 k6 k7 k8 k9 z6
    obtain ⟨x0, x1, x2, x3, x4, x5, x6, x7, x8, x9⟩ := (HX.out.keep (HK.out.block g HG.out)).cells
    have HBB : Hid (Blk (((((W3.setCell ⟨g6, 1, none⟩ (.int .i64 0)).setCell ⟨g6, 5, none⟩ (.int .u64 0)).setCell ⟨g6, 6, none⟩ (.int .u64 0)).setCell ⟨g6, 7, none⟩ (.int .u64 0)).setCell ⟨g6, 8, none⟩ (.int .u64 0)) g6 28 #[.int .i64 op, .int .i64 0, .int .i64 r, .int .i64 b, .slice ao nn cap, .int .u64 0, .int .u64 0, .int .u64 0, .int .u64 0, .slice ak m ck]) := Lib.hid (by
      have k := (Blk.set (Blk.set (Blk.set (Blk.set (Blk.set HB.out 1 (.int .i64 0)) 5 (.int .u64 0)) 6 (.int .u64 0)) 7 (.int .u64 0)) 8 (.int .u64 0))
      simp only [List.setIfInBounds_toArray, List.set_cons_zero, List.set_cons_succ] at k
      exact k)
    have HBK : Hid (Below w.heap.size w (((((W3.setCell ⟨g6, 1, none⟩ (.int .i64 0)).setCell ⟨g6, 5, none⟩ (.int .u64 0)).setCell ⟨g6, 6, none⟩ (.int .u64 0)).setCell ⟨g6, 7, none⟩ (.int .u64 0)).setCell ⟨g6, 8, none⟩ (.int .u64 0))) := Lib.hid (below_set1 (below_set1 (below_set1 (below_set1 (below_set1 HK.out HG6.out 1 _) HG6.out 5 _) HG6.out 6 _) HG6.out 7 _) HG6.out 8 _)
    have c6 := HB.out.cell
    have c60 := c6 0
    have c61 := c6 1
    have c62 := c6 2
    have c63 := c6 3
    have c65 := c6 5
    have c66 := c6 6
    have c67 := c6 7
    have c68 := c6 8
    have z6 := HB.out.frozen
    clear c6
    go_upto_region 13 with fail
    generalize (((((W3.setCell ⟨g6, 1, none⟩ (.int .i64 0)).setCell ⟨g6, 5, none⟩ (.int .u64 0)).setCell ⟨g6, 6, none⟩ (.int .u64 0)).setCell ⟨g6, 7, none⟩ (.int .u64 0)).setCell ⟨g6, 8, none⟩ (.int .u64 0)) = W3b at *
    clear c60 c61 c62 c63 c65 c66 c67 c68 z6 x0 x1 x2 x3 x4 x5 x6 x7 x8 x9
    obtain ⟨x0, x1, x2, x3, x4, x5, x6, x7, x8, x9⟩ := (HX.out.keep (HBK.out.block g HG.out)).cells
    go_wp2_with fail
    go_ret
    exact ⟨rfl, HBK.out⟩
end Go.Proofs.Ytamcfmfkmekkfaa
/- Package expression: Operator, one operator. -/
namespace Go.Proofs.Ytamcfmfkmekkfaa
open Go.RowKit
set_option maxRecDepth 100000 in
set_option maxHeartbeats 16000000 in
theorem operatorZ_c (g o : Nat) (op a r b : Int) (ao : Option Addr) (nn cap : Nat) (s : S4) (ak : Option Addr) (m ck : Nat) (n : Int) (w : World) (hX : XC w g o op a r b ao nn cap s ak m ck) (hg : g < w.heap.size) (hop : op ≠ 2 ∧ op ≠ 3 ∧ op ≠ 4 ∧ op ≠ 8 ∧ op ≠ 9) :
    Calls Try.prog 33 #[.pointer (some ⟨g, o, none⟩), .int .i64 n] w fun e w' => e = .returned (.int .i64 (operE n op a r b nn s m)) ∧ Below w.heap.size w w' := by
  have HX := Lib.hid hX
  have HG := Lib.hid hg
  clear hX hg
  unfold operE
  obtain ⟨o2, o3, o4, o8, o9⟩ := hop
  rw [if_neg o2, if_neg (by omega), if_neg o8, if_neg o9]
  have p2 : (op == 2) = false := by simpa using o2
  have p3 : (op == 3) = false := by simpa using o3
  have p4 : (op == 4) = false := by simpa using o4
  have p8 : (op == 8) = false := by simpa using o8
  have p9 : (op == 9) = false := by simpa using o9
  clear o2 o3 o4 o8 o9
  go_enter Try.func33, Try.ntmps33
  go_upto_region 1 with fail
  refine wp_region_phit 5 (oPhi g o op a r b ao nn cap s ak m ck w) (by kernel_rfl) (by decide) (by kernel_rfl) (by kernel_rfl) (by kernel_rfl) (fun k v u u2 h hb => oPhi_keep h hb) ?_ ?_
  · refine ⟨⟨trivial, fun A u hK hF => ?_⟩, ⟨trivial, fun A u hK hF => ?_⟩, ⟨trivial, fun A u hK hF => ?_⟩, ⟨trivial, fun A u hK hF => ?_⟩, ⟨trivial, fun A u hK hF => ?_⟩, trivial⟩
    · have f0 : A.tmps[0]?.getD undef = .pointer (some ⟨g, o, none⟩) := fact_none (hF 0) (by kernel_rfl)
      unfold Gives
      go_simp
      exact gives_val (Below.refl _ _) rfl
    · have f7 : A.tmps[7]?.getD undef = .pointer (some ⟨g, o, none⟩) := fact_some (hF 7) (j := 0) (by kernel_rfl) (by kernel_rfl)
      unfold Gives
      go_simp
      exact gives_val (Below.refl _ _) rfl
    · have f8 : A.tmps[8]?.getD undef = .pointer (some ⟨g, o, none⟩) := fact_some (hF 8) (j := 1) (by kernel_rfl) (by kernel_rfl)
      obtain ⟨k0, k1, k2, k3, k4, k5, k6, k7, k8, k9⟩ := (HX.out.keep (hK.block g HG.out)).cells
      unfold Gives
      go_simp
      exact gives_val (Below.refl _ _) rfl
    · unfold Gives
      go_simp
      exact gives_val ((Below.refl _ _).alloc (Nat.le_refl _) _) ⟨_, rfl, hK.size, Blk.new _ _ _⟩
    · unfold Gives
      go_simp
      exact gives_val (Below.refl _ _) rfl
  intro a0 W2 hC hsz hdf hF
  have ha := end_mask [false, false, false, false, false, true, true, true, true, true, false, false, false, false, false, false, false, false, false, false, false, false, false, false, false, false, false, false, false, false, false, false, false, false, false, false, false, false, false, false, false, false, false, false, false, false, false, false, false, false, false, false, false, false, false, false, false, false] hsz hdf hF (by kernel_rfl)
  have f9 : a0.tmps[9]?.getD undef = .agg #[.int .i64 op, .int .i64 a, .int .i64 r, .int .i64 b, .slice ao nn cap, .int .u64 s.a, .int .u64 s.b, .int .u64 s.c, .int .u64 s.d, .slice ak m ck] := fact_end (hF 9) (j := 2) (by kernel_rfl)
  have f5 : a0.tmps[5]?.getD undef = .int .i64 0 := fact_end (hF 5) (j := 4) (by kernel_rfl)
  obtain ⟨g6, f6, hg6, hb6⟩ : ∃ g, a0.tmps[6]?.getD undef = .pointer (some ⟨g, 0, none⟩) ∧ w.heap.size ≤ g ∧ Blk W2 g 28 #[.int .i64 0, .int .i64 0, .int .i64 0, .int .i64 0, .slice none 0 0, .int .u64 0, .int .u64 0, .int .u64 0, .int .u64 0, .slice none 0 0] := fact_end (hF 6) (j := 3) (by kernel_rfl)
  rw [ha]
  clear ha hF
  simp only [cutM_yes, cutM_no, cutM_nil, Nat.reduceAdd]
  rw [f9, f5, f6]
  clear f9 f5 f6
  generalize a0.tmps[7]?.getD undef = s7
  generalize a0.tmps[8]?.getD undef = s8
  clear hsz hdf
  have HG6 := Lib.hid hg6
  have HB : Hid (Blk ((((((((((W2.setCell ⟨g6, 0, none⟩ (.int .i64 op)).setCell ⟨g6, 1, none⟩ (.int .i64 a)).setCell ⟨g6, 2, none⟩ (.int .i64 r)).setCell ⟨g6, 3, none⟩ (.int .i64 b)).setCell ⟨g6, 4, none⟩ (.slice ao nn cap)).setCell ⟨g6, 5, none⟩ (.int .u64 s.a)).setCell ⟨g6, 6, none⟩ (.int .u64 s.b)).setCell ⟨g6, 7, none⟩ (.int .u64 s.c)).setCell ⟨g6, 8, none⟩ (.int .u64 s.d)).setCell ⟨g6, 9, none⟩ (.slice ak m ck)) g6 28 #[.int .i64 op, .int .i64 a, .int .i64 r, .int .i64 b, .slice ao nn cap, .int .u64 s.a, .int .u64 s.b, .int .u64 s.c, .int .u64 s.d, .slice ak m ck]) := Lib.hid (Blk.store10 hb6 _ _ _ _ _ _ _ _ _ _)
  have HK : Hid (Below w.heap.size w ((((((((((W2.setCell ⟨g6, 0, none⟩ (.int .i64 op)).setCell ⟨g6, 1, none⟩ (.int .i64 a)).setCell ⟨g6, 2, none⟩ (.int .i64 r)).setCell ⟨g6, 3, none⟩ (.int .i64 b)).setCell ⟨g6, 4, none⟩ (.slice ao nn cap)).setCell ⟨g6, 5, none⟩ (.int .u64 s.a)).setCell ⟨g6, 6, none⟩ (.int .u64 s.b)).setCell ⟨g6, 7, none⟩ (.int .u64 s.c)).setCell ⟨g6, 8, none⟩ (.int .u64 s.d)).setCell ⟨g6, 9, none⟩ (.slice ak m ck))) := Lib.hid (below_set1 (below_set1 (below_set1 (below_set1 (below_set1 (below_set1 (below_set1 (below_set1 (below_set1 (below_set1 hC HG6.out 0 _) HG6.out 1 _) HG6.out 2 _) HG6.out 3 _) HG6.out 4 _) HG6.out 5 _) HG6.out 6 _) HG6.out 7 _) HG6.out 8 _) HG6.out 9 _)
  have c8 := hb6.cell
  have k0 := c8 0
  have k1 := c8 1
  have k2 := c8 2
  have k3 := c8 3
  have k4 := c8 4
  have k5 := c8 5
  have k6 := c8 6
  have k7 := c8 7
  have k8 := c8 8
  have k9 := c8 9
  have z6 := hb6.frozen
  clear c8 hC hb6 hg6
  go_upto_region 2 with fail
  generalize ((((((((((W2.setCell ⟨g6, 0, none⟩ (.int .i64 op)).setCell ⟨g6, 1, none⟩ (.int .i64 a)).setCell ⟨g6, 2, none⟩ (.int .i64 r)).setCell ⟨g6, 3, none⟩ (.int .i64 b)).setCell ⟨g6, 4, none⟩ (.slice ao nn cap)).setCell ⟨g6, 5, none⟩ (.int .u64 s.a)).setCell ⟨g6, 6, none⟩ (.int .u64 s.b)).setCell ⟨g6, 7, none⟩ (.int .u64 s.c)).setCell ⟨g6, 8, none⟩ (.int .u64 s.d)).setCell ⟨g6, 9, none⟩ (.slice ak m ck)) = W3 at *
  clear k0 k1 k2 k3 k4 k5 k6 k7 k8 k9 z6
  obtain ⟨x0, x1, x2, x3, x4, x5, x6, x7, x8, x9⟩ := (HX.out.keep (HK.out.block g HG.out)).cells
  go_wp2_with fail
  go_ret
  exact ⟨rfl, HK.out⟩
end Go.Proofs.Ytamcfmfkmekkfaa
/- Package expression: Operator. -/
namespace Go.Proofs.Ytamcfmfkmekkfaa
open Go.RowKit
theorem operator_c (g o : Nat) (op a r b : Int) (ao : Option Addr) (nn cap : Nat) (s : S4) (ak : Option Addr) (m ck : Nat) (n : Int) (w : World) (hX : XC w g o op a r b ao nn cap s ak m ck) (hg : g < w.heap.size) :
    Calls Try.prog 33 #[.pointer (some ⟨g, o, none⟩), .int .i64 n] w fun e w' => e = .returned (.int .i64 (operE n op a r b nn s m)) ∧ Below w.heap.size w w' := by
  by_cases h2 : op = 2
  · exact operator2_c g o op a r b ao nn cap s ak m ck n w hX hg h2
  · by_cases h3 : op = 3
    · exact operator3_c g o op a r b ao nn cap s ak m ck n w hX hg h3
    · by_cases h4 : op = 4
      · exact operator4_c g o op a r b ao nn cap s ak m ck n w hX hg h4
      · by_cases h8 : op = 8
        · exact operator8_c g o op a r b ao nn cap s ak m ck n w hX hg h8
        · by_cases h9 : op = 9
          · exact operator9_c g o op a r b ao nn cap s ak m ck n w hX hg h9
          · exact operatorZ_c g o op a r b ao nn cap s ak m ck n w hX hg ⟨h2, h3, h4, h8, h9⟩
end Go.Proofs.Ytamcfmfkmekkfaa
/- Package expression: TooDeep, firstError, Check with the closure of isWellFormed; isWellFormed. -/
namespace Go.Proofs.Ytamcfmfkmekkfaa
open Go.RowKit
theorem XAt.w {w : World} {g o : Nat} {x : X} (h : XAt w g o x) : XW x.op x.a x.r x.b x.ns x.st x.ks.length := by
  obtain ⟨_, _, _, _, _, _, _, _, _, _, hw⟩ := h.facts
  exact hw
theorem XAt.xc {w : World} {g o : Nat} {x : X} (h : XAt w g o x) : ∃ ao cap ak ck, XC w g o x.op x.a x.r x.b ao x.ns.length cap x.st ak x.ks.length ck ∧ SlR 10 XAt w (.slice ak x.ks.length ck) x.ks ∧ Strs w (.slice ao x.ns.length cap) x.ns := by
  obtain ⟨h0, h1, h2, h3, ⟨va, h4, ha⟩, h5, h6, h7, h8, ⟨vk, h9, hk⟩, _⟩ := h.facts
  obtain ⟨ak, ck, e, hc, hr⟩ := hk
  obtain ⟨ao, cap, e2, hr2⟩ := ha
  subst e e2
  exact ⟨ao, cap, ak, ck, ⟨h0, h1, h2, h3, h4, h5, h6, h7, h8, h9⟩, ⟨ak, ck, rfl, hc, hr⟩, ⟨ao, cap, rfl, hr2⟩⟩
theorem more_no {n : Nat} {ks : List X} (h : ∀ j (hj : j < ks.length), more n ks[j] = false) : ks.any (more n) = false := by
  rw [List.any_eq_false]
  intro x hx
  obtain ⟨j, hj, rfl⟩ := List.getElem_of_mem hx
  rw [h j hj]; simp
theorem more_yes {n : Nat} {ks : List X} {j : Nat} (hj : j < ks.length) (h : more n ks[j] = true) : ks.any (more n) = true := List.any_eq_true.2 ⟨_, List.getElem_mem hj, h⟩
set_option maxRecDepth 100000 in
set_option maxHeartbeats 8000000 in
theorem hasMoreLevels_c : ∀ (n : Nat) (x : X) (g o : Nat) (w : World), n ≤ 100 → XAt w g o x → g < w.heap.size →
    Calls Try.prog 46 #[.pointer (some ⟨g, o, none⟩), .int .i64 n] w fun e w' => e = .returned (.bool (more n x)) ∧ Below w.heap.size w w' := by
  intro n
  induction n with
  | zero =>
    intro x g o w _ _ _
    go_enter Try.func46, Try.ntmps46
    go_wp2
    go_ret
    exact ⟨by unfold more; rfl, Below.refl _ _⟩
  | succ n ih =>
    intro x g o w hn hX hg
    have HIH := Lib.hid ih
    obtain ⟨m, hm⟩ : ∃ m : Nat, n + 1 = m := ⟨_, rfl⟩
    rw [hm]
    have HSB : Hid ((m : Int) - 1 = (n : Int)) := Lib.hid (by omega)
    have hm1 : 1 ≤ m ∧ m ≤ 101 := by omega
    have hz : ((m : Int) == 0) = false := by simp; omega
    have HN : Hid (n ≤ 100) := Lib.hid (by omega)
    have HM : Hid (more m x = x.ks.any (more n)) := Lib.hid (by rw [← hm]; rfl)
    clear hm hn ih
    have HX := Lib.hid hX
    have HG := Lib.hid hg
    have hkI : (x.ks.length : Int) ≤ 9223372036854775807 := by have h := hX.w.nk; unfold maxLen at h; omega
    obtain ⟨ao, cap, ak, ck, hc, hk, -⟩ := hX.xc
    obtain ⟨x0, x1, x2, x3, x4, x5, x6, x7, x8, x9⟩ := hc.cells
    have HC := Lib.hid hc
    have HK := Lib.hid hk
    clear hX hg hc hk x0 x1 x2 x3 x4 x5 x6 x7 x8
    go_enter Try.func46, Try.ntmps46
    go_wp2_with fail
    go_loopw [5, 13] (fun v5 v13 wr => ∃ i : Nat, i ≤ x.ks.length ∧ v13 = .int .i64 i ∧ Hid (∀ j (hj : j < x.ks.length), j < i → more n x.ks[j] = false) ∧ Hid (Below w.heap.size w wr)) (fun _ v13 _ => x.ks.length - (intOf v13).toNat)
    case atStart => exact ⟨0, Nat.zero_le _, rfl, Lib.hid (fun j _ h => absurd h (by omega)), Lib.hid (Below.refl _ _)⟩
    case round =>
      obtain ⟨i, hi, rfl, HJ, HB⟩ := hrel
      by_cases hlt : i < x.ks.length
      · have hlt' : (i : Int) < (x.ks.length : Int) := by omega
        obtain ⟨y, hy⟩ : ∃ y, x.ks[i] = y := ⟨_, rfl⟩
        obtain ⟨g', o', hak, hg', hR⟩ := HK.out.row hlt
        subst hak
        have hA := hR i hlt
        rw [hy] at hA
        have HA : Hid (XAt wr g' (o' + i * 10) y) := Lib.hid (hA.keep HB.out hg')
        have HGW : Hid (g' < wr.heap.size) := Lib.hid (Nat.lt_of_lt_of_le hg' HB.out.size)
        obtain ⟨x0, x1, x2, x3, x4, x5, x6, x7, x8, x9⟩ := (HC.out.keep (HB.out.block g HG.out)).cells
        have HY := Lib.hid hy
        clear hA hR hg' hy x0 x1 x2 x3 x4 x5 x6 x7 x8
        obtain ⟨b, hb⟩ : ∃ b, more n y = b := ⟨_, rfl⟩
        have HBB := Lib.hid hb
        have HCL : Hid (∀ W, Below wr.heap.size wr W → Calls Try.prog 46 #[.pointer (some ⟨g', o' + i * 10, none⟩), .int .i64 ((m : Int) - 1)] W fun e w' => e = .returned (.bool b) ∧ Below W.heap.size W w') := Lib.hid fun W hW => by
          rw [← hb, HSB.out]
          exact HIH.out y g' (o' + i * 10) W HN.out (HA.out.keep hW HGW.out) (Nat.lt_of_lt_of_le HGW.out hW.size)
        clear hb
        cases b with
        | true =>
          go_wp2_with (go_at_call 46; (with_reducible refine (HCL.out _ (Below.refl _ _)).mono ?_); rintro e w1 ⟨rfl, hb1⟩; have HB1 := Lib.hid (HB.out.trans (hb1.mono HB.out.size)); clear hb1)
          go_ret
          exact ⟨ret_bool (by rw [HM.out, more_yes hlt (by rw [HY.out]; exact HBB.out)]), HB1.out⟩
        | false =>
          go_wp2_with (go_at_call 46; (with_reducible refine (HCL.out _ (Below.refl _ _)).mono ?_); rintro e w1 ⟨rfl, hb1⟩; have HB1 := Lib.hid (HB.out.trans (hb1.mono HB.out.size)); clear hb1)
          go_roundw
          case rel =>
            refine ⟨i + 1, hlt, by go_num, Lib.hid (fun j hj hji => ?_), HB1⟩
            by_cases e : j < i
            · exact HJ.out j hj e
            · obtain rfl : j = i := by omega
              rw [HY.out]; exact HBB.out
          case measure => simp [intOf]; omega
      · have hlt' : ¬ (i : Int) < (x.ks.length : Int) := by omega
        have HF : Hid (more m x = false) := Lib.hid (by rw [HM.out]; exact more_no fun j hj => HJ.out j hj (by omega))
        go_wp2_with fail
        go_ret
        exact ⟨ret_bool HF.out.symm, HB.out⟩
set_option maxRecDepth 100000 in
theorem tooDeep_c (x : X) (g o : Nat) (w : World) (hX : XAt w g o x) (hg : g < w.heap.size) :
    Calls Try.prog 27 #[.pointer (some ⟨g, o, none⟩)] w fun e w' => e = .returned (.bool (more 12 x)) ∧ Below w.heap.size w w' := by
  have H := Lib.hid (hasMoreLevels_c 12 x g o w (by omega) hX hg)
  clear hX hg
  go_enter Try.func27, Try.ntmps27
  go_wp2_with (go_at_call 46; refine H.out.mono ?_; rintro e w1 ⟨rfl, hb1⟩)
  go_ret
  exact ⟨rfl, hb1⟩
set_option maxRecDepth 100000 in
theorem attributes_c (b : Bool) (w : World) : Calls Try.prog 28 #[.bool b] w fun e w' => e = .returned (.int .i64 (if b then 15 else 10)) ∧ Below w.heap.size w w' := by
  cases b
  · go_enter Try.func28, Try.ntmps28
    go_wp2
    go_ret
    exact ⟨rfl, Below.refl _ _⟩
  · go_enter Try.func28, Try.ntmps28
    go_wp2
    go_ret
    exact ⟨rfl, Below.refl _ _⟩
set_option maxRecDepth 100000 in
theorem wellClosure_c (x : X) (g o gv : Nat) (A : Int) (w : World) (hX : XAt w g o x) (hg : g < w.heap.size) (hv : Blk w gv 3 #[.int .i64 A]) :
    Calls Try.prog 32 #[.pointer (some ⟨g, o, none⟩), .pointer (some ⟨gv, 0, none⟩)] w fun e w' => e = .returned (.int .i64 (opE A x)) ∧ Below w.heap.size w w' := by
  obtain ⟨ao, cap, ak, ck, hc, -, -⟩ := hX.xc
  have H : Hid (Calls Try.prog 33 #[.pointer (some ⟨g, o, none⟩), .int .i64 A] w fun e w' => e = .returned (.int .i64 (opE A x)) ∧ Below w.heap.size w w') := Lib.hid (operator_c g o x.op x.a x.r x.b ao x.ns.length cap x.st ak x.ks.length ck A w hc hg)
  have hv0 := hv.cell 0
  clear hX hc hg hv
  go_enter Try.func32, Try.ntmps32
  go_wp2_with (go_at_call 33; refine H.out.mono ?_; rintro e w1 ⟨rfl, hb1⟩)
  go_ret
  exact ⟨rfl, hb1⟩
end Go.Proofs.Ytamcfmfkmekkfaa
/- Package expression: firstError and Check with the closure of isWellFormed; isWellFormed. -/
namespace Go.Proofs.Ytamcfmfkmekkfaa
open Go.RowKit
theorem feL_no {F : X → Int} : ∀ {ks : List X}, (∀ j (hj : j < ks.length), F ks[j] = 0) → feL F ks = 0
  | [], _ => rfl
  | k :: r, h => by
    unfold feL
    have h0 : F k = 0 := h 0 (by simp)
    rw [if_neg (by simp [h0])]
    exact feL_no fun j hj => h (j + 1) (by simpa using hj)
theorem feL_at {F : X → Int} : ∀ {ks : List X} {i : Nat} (hi : i < ks.length), (∀ j (hj : j < ks.length), j < i → F ks[j] = 0) → F ks[i] ≠ 0 → feL F ks = F ks[i]
  | k :: r, 0, _, _, h => by
    unfold feL
    have h : F k ≠ 0 := h
    rw [if_pos h]; rfl
  | k :: r, i + 1, hi, h, hn => by
    unfold feL
    have h0 : F k = 0 := h 0 (by simp) (by omega)
    rw [if_neg (by simp [h0])]
    have := feL_at (F := F) (ks := r) (i := i) (by simpa using hi) (fun j hj hji => h (j + 1) (by simpa using hj) (by omega)) hn
    rw [this]; rfl
theorem more_kid {n : Nat} {x : X} (h : more (n + 1) x = false) {i : Nat} (hi : i < x.ks.length) : more n x.ks[i] = false := by
  have h : x.ks.any (more n) = false := h
  rw [List.any_eq_false] at h
  simpa using h _ (List.getElem_mem hi)
set_option maxRecDepth 100000 in
set_option maxHeartbeats 16000000 in
theorem firstErrorW_c (A : Int) (gv : Nat) : ∀ (n : Nat) (x : X) (g o : Nat) (w : World), more n x = false → XAt w g o x → g < w.heap.size → Blk w gv 3 #[.int .i64 A] →
    Calls Try.prog 50 #[.pointer (some ⟨g, o, none⟩), .func (.func 32) #[] #[.pointer (some ⟨gv, 0, none⟩)]] w fun e w' => e = .returned (.int .i64 (fe (opE A) n x)) ∧ Below w.heap.size w w' := by
  intro n
  induction n with
  | zero => intro x g o w h; exact absurd h (by unfold more; simp)
  | succ n ih =>
    intro x g o w hm hX hg hv
    have HIH := Lib.hid ih
    have HM := Lib.hid hm
    have HX := Lib.hid hX
    have HG := Lib.hid hg
    have HV := Lib.hid hv
    have hkI : (x.ks.length : Int) ≤ 9223372036854775807 := by have h := hX.w.nk; unfold maxLen at h; omega
    obtain ⟨ao, cap, ak, ck, hc, hk, -⟩ := hX.xc
    have HC := Lib.hid hc
    have HK := Lib.hid hk
    have HE : Hid (fe (opE A) (n + 1) x = if opE A x ≠ 0 then opE A x else feL (fe (opE A) n) x.ks) := Lib.hid rfl
    obtain ⟨e0, he0⟩ : ∃ e0, opE A x = e0 := ⟨_, rfl⟩
    have HO : Hid (Calls Try.prog 32 #[.pointer (some ⟨g, o, none⟩), .pointer (some ⟨gv, 0, none⟩)] w fun e w' => e = .returned (.int .i64 e0) ∧ Below w.heap.size w w') := Lib.hid (by rw [← he0]; exact wellClosure_c x g o gv A w hX hg hv)
    rw [he0] at HE
    generalize fe (opE A) (n + 1) x = FE at *
    clear ih hm hX hg hv hc hk he0
    by_cases hz : e0 = 0
    · subst hz
      rw [if_neg (by simp)] at HE
      go_enter Try.func50, Try.ntmps50
      go_wp2_with (go_at_call 32; refine HO.out.mono ?_; rintro e w1 ⟨rfl, hb1⟩; have HB1 := Lib.hid hb1; obtain ⟨x0, x1, x2, x3, x4, x5, x6, x7, x8, x9⟩ := (HC.out.keep (hb1.block g HG.out)).cells; clear hb1 x0 x1 x2 x3 x4 x5 x6 x7 x8)
      go_loopw [6, 7, 19] (fun v6 v7 v19 wr => ∃ i : Nat, i ≤ x.ks.length ∧ v19 = .int .i64 i ∧ Hid (∀ j (hj : j < x.ks.length), j < i → fe (opE A) n x.ks[j] = 0) ∧ Hid (Below w.heap.size w wr)) (fun _ _ v19 _ => x.ks.length - (intOf v19).toNat)
      case atStart => exact ⟨0, Nat.zero_le _, rfl, Lib.hid (fun j _ h => absurd h (by omega)), HB1⟩
      case round =>
        obtain ⟨i, hi, rfl, HJ, HB⟩ := hrel
        by_cases hlt : i < x.ks.length
        · have hlt' : (i : Int) < (x.ks.length : Int) := by omega
          obtain ⟨y, hy⟩ : ∃ y, x.ks[i] = y := ⟨_, rfl⟩
          obtain ⟨g', o', hak, hg', hR⟩ := HK.out.row hlt
          subst hak
          have hA := hR i hlt
          rw [hy] at hA
          have HA : Hid (XAt wr g' (o' + i * 10) y) := Lib.hid (hA.keep HB.out hg')
          have HGW : Hid (g' < wr.heap.size) := Lib.hid (Nat.lt_of_lt_of_le hg' HB.out.size)
          have HVW : Hid (Blk wr gv 3 #[.int .i64 A]) := Lib.hid (HV.out.keep HB.out)
          obtain ⟨x0, x1, x2, x3, x4, x5, x6, x7, x8, x9⟩ := (HC.out.keep (HB.out.block g HG.out)).cells
          have HY := Lib.hid hy
          have HMY : Hid (more n y = false) := Lib.hid (by rw [← hy]; exact more_kid HM.out hlt)
          clear hA hR hg' hy x0 x1 x2 x3 x4 x5 x6 x7 x8
          obtain ⟨b, hb⟩ : ∃ b, fe (opE A) n y = b := ⟨_, rfl⟩
          have HBB := Lib.hid hb
          have HCL : Hid (Calls Try.prog 50 #[.pointer (some ⟨g', o' + i * 10, none⟩), .func (.func 32) #[] #[.pointer (some ⟨gv, 0, none⟩)]] wr fun e w' => e = .returned (.int .i64 b) ∧ Below wr.heap.size wr w') := Lib.hid (by
            rw [← hb]
            exact HIH.out y g' (o' + i * 10) wr HMY.out HA.out HGW.out HVW.out)
          clear hb
          by_cases hz : b = 0
          · subst hz
            go_wp2_with (go_at_call 50; (with_reducible refine HCL.out.mono ?_); rintro e w1 ⟨rfl, hb1⟩; have HB2 := Lib.hid (HB.out.trans (hb1.mono HB.out.size)); clear hb1)
            go_roundw
            case rel =>
              refine ⟨i + 1, hlt, by go_num, Lib.hid (fun j hj hji => ?_), HB2⟩
              by_cases e : j < i
              · exact HJ.out j hj e
              · obtain rfl : j = i := by omega
                rw [HY.out]; exact HBB.out
            case measure => simp [intOf]; omega
          · have hz1 : (b == 0) = false := by simpa using hz
            have hz2 : (b != 0) = true := by simpa using hz
            have HF : Hid (FE = b) := Lib.hid (by rw [HE.out, feL_at hlt HJ.out (by rw [HY.out, HBB.out]; exact hz), HY.out, HBB.out])
            clear hz
            go_wp2_with (go_at_call 50; (with_reducible refine HCL.out.mono ?_); rintro e w1 ⟨rfl, hb1⟩; have HB2 := Lib.hid (HB.out.trans (hb1.mono HB.out.size)); clear hb1)
            go_ret
            exact ⟨congrArg (fun t => Ending.returned (.int .i64 t)) HF.out.symm, HB2.out⟩
        · have hlt' : ¬ (i : Int) < (x.ks.length : Int) := by omega
          have HF : Hid (FE = 0) := Lib.hid (by rw [HE.out]; exact feL_no fun j hj => HJ.out j hj (by omega))
          go_wp2_with fail
          go_ret
          exact ⟨congrArg (fun t => Ending.returned (.int .i64 t)) HF.out.symm, HB.out⟩
    · rw [if_pos hz] at HE
      have hz1 : (e0 == 0) = false := by simpa using hz
      have hz2 : (e0 != 0) = true := by simpa using hz
      clear hz
      go_enter Try.func50, Try.ntmps50
      go_wp2_with (go_at_call 32; refine HO.out.mono ?_; rintro e w1 ⟨rfl, hb1⟩; have HB1 := Lib.hid hb1; clear hb1)
      go_ret
      exact ⟨congrArg (fun t => Ending.returned (.int .i64 t)) HE.out.symm, HB1.out⟩
/-- the error of an expression, over the closure -/
def chkE (A : Int) (x : X) : Int := if more 12 x = true then 4 else fe (opE A) 12 x
set_option maxRecDepth 100000 in
set_option maxHeartbeats 8000000 in
theorem checkW_c (A : Int) (gv : Nat) (x : X) (g o : Nat) (w : World) (hX : XAt w g o x) (hg : g < w.heap.size) (hv : Blk w gv 3 #[.int .i64 A]) :
    Calls Try.prog 31 #[.pointer (some ⟨g, o, none⟩), .func (.func 32) #[] #[.pointer (some ⟨gv, 0, none⟩)]] w fun e w' => e = .returned (.int .i64 (chkE A x)) ∧ Below w.heap.size w w' := by
  unfold chkE
  have HT := Lib.hid (tooDeep_c x g o w hX hg)
  cases hm : more 12 x with
  | true =>
    rw [hm] at HT
    rw [if_pos rfl]
    clear hX hg hv hm
    go_enter Try.func31, Try.ntmps31
    go_wp2_with (go_at_call 27; refine HT.out.mono ?_; rintro e w1 ⟨rfl, hb1⟩)
    go_ret
    exact ⟨rfl, hb1⟩
  | false =>
    rw [hm] at HT
    rw [if_neg (by simp)]
    have HX := Lib.hid hX
    have HG := Lib.hid hg
    have HV := Lib.hid hv
    have HM := Lib.hid hm
    clear hX hg hv hm
    go_enter Try.func31, Try.ntmps31
    go_wp2_with (first
      | (go_at_call 27; refine HT.out.mono ?_; rintro e w1 ⟨rfl, hb1⟩; have HB1 := Lib.hid hb1; clear hb1)
      | (go_at_call 50; refine (firstErrorW_c A gv 12 x g o _ HM.out (HX.out.keep HB1.out HG.out) (Nat.lt_of_lt_of_le HG.out HB1.out.size) (HV.out.keep HB1.out)).mono ?_; rintro e w2 ⟨rfl, hb2⟩; have HB2 := Lib.hid (HB1.out.trans (hb2.mono HB1.out.size)); clear hb2))
    go_ret
    exact ⟨rfl, HB2.out⟩
/-- the expression has a value -/
def wfX (x : X) : Bool := decide (chkE 15 x = 0)
set_option maxRecDepth 100000 in
set_option maxHeartbeats 8000000 in
theorem isWellFormed_c (x : X) (g o : Nat) (w : World) (hX : XAt w g o x) (hg : g < w.heap.size) :
    Calls Try.prog 20 #[.pointer (some ⟨g, o, none⟩)] w fun e w' => e = .returned (.bool (wfX x)) ∧ Below w.heap.size w w' := by
  have HX := Lib.hid hX
  have HG := Lib.hid hg
  obtain ⟨c, hc⟩ : ∃ c, chkE 15 x = c := ⟨_, rfl⟩
  have HW : Hid (wfX x = (c == 0)) := Lib.hid (by unfold wfX; rw [hc]; by_cases h : c = 0 <;> simp [h])
  have HCE := Lib.hid hc
  clear hX hg hc
  go_enter Try.func20, Try.ntmps20
  go_wp2_with (first
    | (go_at_call 28; refine (attributes_c true _).mono ?_; rintro e w1 ⟨rfl, hb1⟩; have HB1 := Lib.hid hb1; have HB2 : Hid (Below w.heap.size w (w1.alloc (.cells #[.int .i64 15] 3))) := Lib.hid (hb1.alloc hb1.size _); clear hb1)
    | (go_at_call 31; (refine (checkW_c 15 w1.heap.size x g o (w1.alloc (.cells #[.int .i64 15] 3)) (HX.out.keep HB2.out HG.out) (Nat.lt_of_lt_of_le HG.out HB2.out.size) (Blk.new _ _ _)).mono ?_); rw [HCE.out]; rintro e w2 ⟨rfl, hb2⟩; have HB3 := Lib.hid (HB2.out.trans (hb2.mono HB2.out.size)); clear hb2))
  go_ret
  exact ⟨ret_bool HW.out.symm, HB3.out⟩
end Go.Proofs.Ytamcfmfkmekkfaa
/- Levels: bits, dominance, the checks (plain mathematics). -/
namespace Go.Proofs.Ytamcfmfkmekkfaa
open Go.RowKit
def U64n : Nat := 18446744073709551616
theorem U64_pow : U64n = 2 ^ 64 := rfl
/-- has bit n -/
def hasL (c : Nat) (n : Int) : Bool := decide (0 ≤ n ∧ n < 64) && c.testBit n.toNat
theorem hasL_in (c n : Nat) (h : n < 64) : hasL c n = c.testBit n := by
  unfold hasL
  rw [decide_eq_true (by omega)]
  simp
theorem hasL_out (c : Nat) {n : Int} (h : ¬ (0 ≤ n ∧ n < 64)) : hasL c n = false := by
  unfold hasL
  rw [decide_eq_false h]
  rfl
/-- no bit from k on -/
def lowL (c : Nat) (cats : Int) : Bool := decide (c / 2 ^ min (if 0 > cats then (0 : Int) else cats).toNat 64 = 0)
theorem lowL_iff {c : Nat} (hc : c < U64n) (cats : Int) : lowL c cats = true ↔ ∀ n : Nat, n < 64 → c.testBit n = true → (n : Int) < cats := by
  unfold lowL
  rw [decide_eq_true_eq, Nat.div_eq_zero_iff_lt (Nat.two_pow_pos _)]
  constructor
  · intro h n hn hb
    have h1 := Nat.ge_two_pow_of_testBit hb
    have h2 : 2 ^ n < 2 ^ min (if 0 > cats then (0 : Int) else cats).toNat 64 := Nat.lt_of_le_of_lt h1 h
    have h3 := (Nat.pow_lt_pow_iff_right (by decide : 1 < 2)).1 h2
    split at h3 <;> omega
  · intro h
    refine Nat.lt_pow_two_of_testBit c fun i hi => ?_
    cases hb : c.testBit i
    · rfl
    · have h64 : i < 64 := by
        rcases Nat.lt_or_ge i 64 with h' | h'
        · exact h'
        · have := Nat.ge_two_pow_of_testBit hb
          have h2 : 2 ^ 64 ≤ 2 ^ i := Nat.pow_le_pow_right (by decide) h'
          unfold U64n at hc
          omega
      have := h i h64 hb
      exfalso
      split at hi <;> omega
def chkL (s : Int) (c : Nat) (sens cats : Int) : Bool := decide (0 ≤ s ∧ s < sens) && lowL c cats
/-- b has no bit that a lacks -/
def subL (a b : Nat) : Bool := decide (b &&& (18446744073709551615 - a) = 0)
theorem subL_iff {a b : Nat} (ha : a < U64n) : subL a b = true ↔ ∀ n : Nat, n < 64 → b.testBit n = true → a.testBit n = true := by
  unfold subL
  rw [decide_eq_true_eq]
  have ht : ∀ i, (18446744073709551615 - a).testBit i = (decide (i < 64) && !a.testBit i) := fun i => by
    have h := Nat.testBit_two_pow_sub_succ (x := a) (n := 64) ha i
    rw [← h, show 18446744073709551615 - a = 2 ^ 64 - (a + 1) by omega]
  constructor
  · intro h n hn hbn
    have := congrArg (fun x : Nat => x.testBit n) h
    simp only [Nat.testBit_and, ht, hbn, Nat.zero_testBit, Bool.true_and, decide_eq_true hn] at this
    simpa using this
  · intro h
    apply Nat.eq_of_testBit_eq
    intro i
    rw [Nat.testBit_and, ht, Nat.zero_testBit]
    by_cases hi : i < 64
    · cases hbi : b.testBit i
      · rfl
      · rw [h i hi hbi]; simp
    · rw [decide_eq_false hi]; simp
def domL (s : Int) (c : Nat) (s' : Int) (c' : Nat) : Bool := decide (s' ≤ s) && subL c c'
def relL (s : Int) (c : Nat) (s' : Int) (c' : Nat) : Int := if s = s' ∧ c = c' then 0 else if domL s c s' c' = true then 2 else if domL s' c' s c = true then 3 else 4
/-- ranges -/
structure LvN where
  sens : Int
  cats : Nat
structure Rg where
  low : LvN
  high : LvN
def joinL (a b : LvN) : LvN := ⟨max a.sens b.sens, a.cats ||| b.cats⟩
def meetL (a b : LvN) : LvN := ⟨min a.sens b.sens, a.cats &&& b.cats⟩
def dom (a b : LvN) : Bool := domL a.sens a.cats b.sens b.cats
def chk (l : LvN) (sens cats : Int) : Bool := chkL l.sens l.cats sens cats
def rng (r : Rg) (sens cats : Int) : Bool := chk r.low sens cats && (chk r.high sens cats && dom r.high r.low)
def cont (o i : Rg) : Bool := dom i.low o.low && dom o.high i.high
def span (a b : Rg) : Rg := ⟨meetL a.low b.low, joinL a.high b.high⟩
theorem or_lt {a b : Nat} (ha : a < U64n) (hb : b < U64n) : a ||| b < U64n := Nat.or_lt_two_pow (n := 64) ha hb
theorem and_lt {a b : Nat} (ha : a < U64n) : a &&& b < U64n := Nat.lt_of_le_of_lt Nat.and_le_left ha
/-- the reference's sums over all bits -/
def allLow (c : Nat) (cats : Int) (k : Nat) : Prop := ∀ n : Nat, n < k → ¬ (hasL c n = true ∧ cats ≤ n)
theorem allLow_end {c : Nat} (hc : c < U64n) {cats : Int} (h : allLow c cats 64) : lowL c cats = true := (lowL_iff hc cats).2 fun n hn hb => by
  rcases (by omega : (n : Int) < cats ∨ cats ≤ (n : Int)) with h' | h'
  · exact h'
  · exact absurd ⟨by rw [hasL_in c n hn]; exact hb, h'⟩ (h n hn)
theorem allLow_no {c : Nat} (hc : c < U64n) {cats : Int} {n : Nat} (hn : n < 64) (hb : hasL c n = true) (h : cats ≤ n) : lowL c cats = false := by
  cases hl : lowL c cats
  · rfl
  · have := (lowL_iff hc cats).1 hl n hn (by rw [← hasL_in c n hn]; exact hb)
    omega
def allSub (a b : Nat) (k : Nat) : Prop := ∀ n : Nat, n < k → ¬ (hasL b n = true ∧ hasL a n = false)
theorem allSub_end {a b : Nat} (ha : a < U64n) (h : allSub a b 64) : subL a b = true := (subL_iff ha).2 fun n hn hbn => by
  cases hh : a.testBit n
  · exact absurd ⟨by rw [hasL_in b n hn]; exact hbn, by rw [hasL_in a n hn]; exact hh⟩ (h n hn)
  · rfl
theorem allSub_no {a b : Nat} (ha : a < U64n) {n : Nat} (hn : n < 64) (h1 : hasL b n = true) (h2 : hasL a n = false) : subL a b = false := by
  cases hl : subL a b
  · rfl
  · have := (subL_iff ha).1 hl n hn (by rw [← hasL_in b n hn]; exact h1)
    rw [hasL_in a n hn, this] at h2
    cases h2
/-- bit n, as the walk has it -/
theorem bit_walk (c n : Nat) (hc : c < U64n) (hn : n < 64) : (bits .and .u64 ((c : Int) / 2 ^ n) 1 == 1) = hasL c n := by
  have h1 : ((c : Int) / 2 ^ n) = ((c / 2 ^ n : Nat) : Int) := by simp
  have h2 : c / 2 ^ n < 18446744073709551616 := Nat.lt_of_le_of_lt (Nat.div_le_self _ _) hc
  have h3 : bits .and .u64 ((c / 2 ^ n : Nat) : Int) ((1 : Nat) : Int) = ((c / 2 ^ n &&& 1 : Nat) : Int) := u64_and_nat _ _ h2 (by decide)
  rw [h1, show (1 : Int) = ((1 : Nat) : Int) from rfl, h3, Nat.and_one_is_mod, hasL_in c n hn, Nat.testBit_eq_decide_div_mod_eq]
  rw [Bool.eq_iff_iff]
  simp
  omega
end Go.Proofs.Ytamcfmfkmekkfaa
/- Check, Dominates, Relation, Join, Meet, CheckRange, Contains, Span. -/
namespace Go.Proofs.Ytamcfmfkmekkfaa
open Go.RowKit
def lvV (l : LvN) : Value := .agg #[.int .i64 l.sens, .int .u64 l.cats]
def rgV (r : Rg) : Value := .agg #[.int .i64 r.low.sens, .int .u64 r.low.cats, .int .i64 r.high.sens, .int .u64 r.high.cats]
theorem ret_b {a b : Bool} (h : a = b) : Ending.returned (.bool a) = .returned (.bool b) := by rw [h]
theorem low_walk (c k : Nat) : ((c : Int) / 2 ^ k == 0) = decide (c / 2 ^ k = 0) := by
  have h1 : ((c : Int) / 2 ^ k) = ((c / 2 ^ k : Nat) : Int) := by simp
  rw [h1]
  generalize c / 2 ^ k = y
  rw [Bool.eq_iff_iff]
  simp
theorem nat_zero (c : Nat) : ((c : Int) == 0) = decide (c = 0) := by
  rw [Bool.eq_iff_iff]
  simp
theorem sub_walk (c c' : Nat) (hc : c < U64n) (hc' : c' < U64n) : (bits .andNot .u64 (c' : Int) (c : Int) == 0) = subL c c' := by
  rw [u64_andNot_nat c' c hc' hc]
  unfold subL
  rw [Bool.eq_iff_iff]
  simp
set_option maxRecDepth 100000 in
set_option maxHeartbeats 2000000 in
theorem dominates_c (s : Int) (c : Nat) (s' : Int) (c' : Nat) (w : World) (hc : c < U64n) (hc' : c' < U64n) :
    Calls Try.prog 57 #[.agg #[.int .i64 s, .int .u64 c], .agg #[.int .i64 s', .int .u64 c']] w fun e w' => e = .returned (.bool (domL s c s' c')) ∧ Below w.heap.size w w' := by
  have HW := Lib.hid (sub_walk c c' hc hc')
  unfold domL
  by_cases h : s' ≤ s
  · rw [decide_eq_true h, Bool.true_and]
    go_enter Try.func57, Try.ntmps57
    go_wp2_with fail
    go_ret
    exact ⟨ret_b HW.out, ((Below.refl _ _).alloc (Nat.le_refl _) _).alloc (by simp) _⟩
  · rw [decide_eq_false h]
    go_enter Try.func57, Try.ntmps57
    go_wp2_with fail
    go_ret
    exact ⟨rfl, ((Below.refl _ _).alloc (Nat.le_refl _) _).alloc (by simp) _⟩
set_option maxRecDepth 100000 in
set_option maxHeartbeats 2000000 in
theorem rhas5_c (s : Int) (c : Nat) (n : Int) (w : World) (hc : c < U64n) :
    Calls Try.prog 68 #[.agg #[.int .i64 s, .int .u64 c], .int .i64 n] w fun e w' => e = .returned (.bool (hasL c n)) ∧ Below w.heap.size w w' := by
  by_cases h : 0 ≤ n ∧ n < 64
  · obtain ⟨k, rfl⟩ : ∃ k : Nat, n = k := ⟨n.toNat, by omega⟩
    obtain ⟨_, h1⟩ := h
    have hb := bit_walk c k hc (by omega)
    have HB := Lib.hid hb
    have hm : min k 64 = k := by omega
    clear hb
    go_enter Try.func68, Try.ntmps68
    go_wp2_with fail
    go_ret
    exact ⟨ret_b HB.out, (Below.refl _ _).alloc (Nat.le_refl _) _⟩
  · rw [hasL_out c h]
    rcases (by omega : n < 0 ∨ ¬ n < 0 ∧ 64 ≤ n) with h0 | ⟨h0, h1⟩
    all_goals
      go_enter Try.func68, Try.ntmps68
      go_wp2_with fail
      go_ret
      exact ⟨rfl, (Below.refl _ _).alloc (Nat.le_refl _) _⟩
theorem Blk.box2 {w : World} {g : Nat} {t : TypeId} {a b : Value} (h : Blk w g t #[a, b]) : w.cell? ⟨g, 0, none⟩ = some a ∧ w.cell? ⟨g, 1, none⟩ = some b := ⟨h.cell 0, h.cell 1⟩
theorem Blk.box4 {w : World} {g : Nat} {t : TypeId} {a b c d : Value} (h : Blk w g t #[a, b, c, d]) : w.cell? ⟨g, 0, none⟩ = some a ∧ w.cell? ⟨g, 1, none⟩ = some b ∧ w.cell? ⟨g, 2, none⟩ = some c ∧ w.cell? ⟨g, 3, none⟩ = some d := ⟨h.cell 0, h.cell 1, h.cell 2, h.cell 3⟩
/-- two boxes, one behind the other -/
theorem two_box (w : World) (t t' : TypeId) (cs cs' : Array Value) : Blk ((w.alloc (.cells cs t)).alloc (.cells cs' t')) w.heap.size t cs ∧ Blk ((w.alloc (.cells cs t)).alloc (.cells cs' t')) (w.heap.size + 1) t' cs' ∧ Below w.heap.size w ((w.alloc (.cells cs t)).alloc (.cells cs' t')) ∧ ((w.alloc (.cells cs t)).alloc (.cells cs' t')).heap.size = w.heap.size + 2 := by
  refine ⟨(Blk.new w _ _).alloc _, ?_, ((Below.refl _ _).alloc (Nat.le_refl _) _).alloc (by simp) _, by simp⟩
  have := Blk.new (w.alloc (.cells cs t)) t' cs'
  simpa using this
set_option maxRecDepth 100000 in
set_option maxHeartbeats 4000000 in
theorem rdominates_c (s : Int) (c : Nat) (s' : Int) (c' : Nat) (w : World) (hc : c < U64n) (hc' : c' < U64n) :
    Calls Try.prog 62 #[.agg #[.int .i64 s, .int .u64 c], .agg #[.int .i64 s', .int .u64 c']] w fun e w' => e = .returned (.bool (domL s c s' c')) ∧ Below w.heap.size w w' := by
  obtain ⟨R, hR⟩ : ∃ R, domL s c s' c' = R := ⟨_, rfl⟩
  rw [hR]
  have HR := Lib.hid hR
  clear hR
  have HH := Lib.hid (fun (n : Int) (w : World) => rhas5_c s c n w hc)
  have HH2 := Lib.hid (fun (n : Int) (w : World) => rhas5_c s' c' n w hc')
  obtain ⟨hB, hB2, hW, _⟩ := two_box w 30 30 #[.int .i64 s, .int .u64 c] #[.int .i64 s', .int .u64 c']
  go_enter Try.func62, Try.ntmps62
  go_wp2_with fail
  generalize (w.alloc (.cells #[.int .i64 s, .int .u64 c] 30)).alloc (.cells #[.int .i64 s', .int .u64 c'] 30) = W at *
  have HB := Lib.hid hB
  have HB2 := Lib.hid hB2
  have HW := Lib.hid hW
  clear hB hB2 hW
  go_loopw [5] (fun vi wr => ∃ i : Nat, i ≤ 64 ∧ vi = .int .i64 i ∧ Hid (allSub c c' i) ∧ Kp W wr) (fun vi _ => 64 - (intOf vi).toNat)
  case atStart => exact ⟨0, Nat.zero_le _, rfl, Lib.hid (fun n h => by omega), Kp.rfl'⟩
  case round =>
    obtain ⟨i, hi, rfl, HA, hC⟩ := hrel
    obtain ⟨p0, p1⟩ := (hC.blk HB.out).box2
    obtain ⟨q0, q1⟩ := (hC.blk HB2.out).box2
    by_cases hlt : i < 64
    · have hlt' : (i : Int) < 64 := by omega
      have step : ∀ (h : ¬ (hasL c' i = true ∧ hasL c i = false)), Hid (allSub c c' (i + 1)) := fun hno => Lib.hid fun n hn => by
        rcases Nat.lt_or_ge n i with h | h
        · exact HA.out n h
        · obtain rfl : n = i := by omega
          exact hno
      have HST := Lib.hid step
      clear step
      cases hh : hasL c' i
      · have HX := Lib.hid (HH2.out i wr)
        rw [hh] at HX
        have HA2 := HST.out (by rw [hh]; simp)
        clear hh
        go_wp2_with (go_at_call 68; refine HX.out.mono ?_; rintro e w2 ⟨rfl, hb2⟩)
        go_roundw
        case rel => exact ⟨i + 1, hlt, by go_num, HA2, hC.step hb2⟩
        case measure => simp [intOf]; omega
      · have HX := Lib.hid (HH2.out i wr)
        rw [hh] at HX
        cases hg : hasL c i
        · have hR0 : R = false := by rw [← HR.out]; unfold domL; rw [allSub_no hc hlt hh hg, Bool.and_false]
          subst hR0
          have HY := Lib.hid (fun w => HH.out i w)
          rw [hg] at HY
          clear hh hg HR
          go_wp2_with fail
          refine HX.out.mono ?_
          rintro e w2 ⟨rfl, hb2⟩
          have hC2 := hC.step hb2
          obtain ⟨r0, r1⟩ := (hC2.blk HB.out).box2
          go_wp2_with fail
          refine (HY.out w2).mono ?_
          rintro e w3 ⟨rfl, hb3⟩
          go_wp2_with fail
          go_ret
          exact ⟨rfl, HW.out.trans (Below.mono (hC2.step hb3) HW.out.size)⟩
        · have HA2 := HST.out (by rw [hg]; simp)
          have HY := Lib.hid (fun w => HH.out i w)
          rw [hg] at HY
          clear hh hg
          go_wp2_with fail
          refine HX.out.mono ?_
          rintro e w2 ⟨rfl, hb2⟩
          have hC2 := hC.step hb2
          obtain ⟨r0, r1⟩ := (hC2.blk HB.out).box2
          go_wp2_with fail
          refine (HY.out w2).mono ?_
          rintro e w3 ⟨rfl, hb3⟩
          go_wp2_with fail
          go_roundw
          case rel => exact ⟨i + 1, hlt, by go_num, HA2, hC2.step hb3⟩
          case measure => simp [intOf]; omega
    · obtain rfl : i = 64 := by omega
      have hR0 : R = decide (s' ≤ s) := by rw [← HR.out]; unfold domL; rw [allSub_end hc HA.out, Bool.and_true]
      clear HR
      by_cases h0 : s' ≤ s
      · obtain rfl : R = true := hR0.trans (decide_eq_true h0)
        clear hR0
        go_wp2_with fail
        go_ret
        exact ⟨rfl, HW.out.trans (Below.mono hC HW.out.size)⟩
      · obtain rfl : R = false := hR0.trans (decide_eq_false h0)
        clear hR0
        go_wp2_with fail
        go_ret
        exact ⟨rfl, HW.out.trans (Below.mono hC HW.out.size)⟩
end Go.Proofs.Ytamcfmfkmekkfaa
/- Relation, Join, Meet, CheckRange, Contains, Span. -/
namespace Go.Proofs.Ytamcfmfkmekkfaa
open Go.RowKit
theorem max_int (x y : Int) : (if y > x then y else x) = max x y := by split <;> omega
theorem min_int (x y : Int) : (if y < x then y else x) = min x y := by split <;> omega
set_option maxRecDepth 100000 in
set_option maxHeartbeats 4000000 in
theorem relation_c (s : Int) (c : Nat) (s' : Int) (c' : Nat) (w : World) (hc : c < U64n) (hc' : c' < U64n) :
    Calls Try.prog 58 #[.agg #[.int .i64 s, .int .u64 c], .agg #[.int .i64 s', .int .u64 c']] w fun e w' => e = .returned (.int .i64 (relL s c s' c')) ∧ Below w.heap.size w w' := by
  obtain ⟨hB, hB2, hW, _⟩ := two_box w 30 30 #[.int .i64 s, .int .u64 c] #[.int .i64 s', .int .u64 c']
  have HD1 := Lib.hid (fun w => dominates_c s c s' c' w hc hc')
  have HD2 := Lib.hid (fun w => dominates_c s' c' s c w hc' hc)
  by_cases he : s = s' ∧ c = c'
  · obtain ⟨rfl, rfl⟩ := he
    have hr : relL s c s c = 0 := if_pos ⟨rfl, rfl⟩
    rw [hr]
    clear hr HD1 HD2
    go_enter Try.func58, Try.ntmps58
    go_wp2_with fail
    go_ret
    exact ⟨rfl, hW⟩
  · have hne : (¬ s = s' ∧ (s == s') = false) ∨ (s = s' ∧ ¬ c = c' ∧ ((c : Int) == (c' : Int)) = false) := by
      by_cases h : s = s'
      · have hcc : ¬ c = c' := fun h2 => he ⟨h, h2⟩
        exact .inr ⟨h, hcc, by simp; omega⟩
      · exact .inl ⟨h, by simpa using h⟩
    have hr : relL s c s' c' = if domL s c s' c' = true then 2 else if domL s' c' s c = true then 3 else 4 := if_neg he
    rw [hr]
    have HB := Lib.hid hB
    have HB2 := Lib.hid hB2
    have HW := Lib.hid hW
    clear hr he hB hB2 hW
    obtain ⟨d1, hd1⟩ : ∃ d, domL s c s' c' = d := ⟨_, rfl⟩
    obtain ⟨d2, hd2⟩ : ∃ d, domL s' c' s c = d := ⟨_, rfl⟩
    rw [hd1] at HD1 ⊢
    rw [hd2] at HD2 ⊢
    clear hd1 hd2
    cases d1
    · cases d2
      all_goals
        rcases hne with ⟨hn1, hn2⟩ | ⟨rfl, hn1, hn2⟩
        all_goals
          go_enter Try.func58, Try.ntmps58
          go_wp2_with fail
          refine (HD1.out _).mono ?_
          rintro e w2 ⟨rfl, hb2⟩
          obtain ⟨p0, p1⟩ := (HB.out.keep hb2).box2
          obtain ⟨q0, q1⟩ := (HB2.out.keep hb2).box2
          go_wp2_with fail
          refine (HD2.out _).mono ?_
          rintro e w3 ⟨rfl, hb3⟩
          go_wp2_with fail
          go_ret
          exact ⟨rfl, (HW.out.trans (Below.mono (Kp.step (Kp.step Kp.rfl' hb2) hb3) HW.out.size))⟩
    · rcases hne with ⟨hn1, hn2⟩ | ⟨rfl, hn1, hn2⟩
      all_goals
        go_enter Try.func58, Try.ntmps58
        go_wp2_with fail
        refine (HD1.out _).mono ?_
        rintro e w2 ⟨rfl, hb2⟩
        go_wp2_with fail
        go_ret
        exact ⟨rfl, HW.out.trans (Below.mono (Kp.step Kp.rfl' hb2) HW.out.size)⟩
end Go.Proofs.Ytamcfmfkmekkfaa
/- Package constraint: attributes, and relations of levels. -/
namespace Go.Proofs.Ytamcfmfkmekkfaa
open Go.RowKit
def domX (a b : Lv) : Bool := domL a.s a.c b.s b.c
def relN (a b : Lv) : Int := relL a.s a.c b.s b.c
def relX (a : Lv) (r : Int) (b : Lv) : Bool := if r = 0 then decide (a = b) else if r = 1 then !decide (a = b) else if r = 2 then domX a b else if r = 3 then domX b a else decide (relN a b = 4)
def num (n : Int) : Lv := ⟨n, 0, by decide⟩
def atX (x : Cx) (k : Int) : Lv := if k = 0 then num x.u else if k = 1 then num x.ro else if k = 2 then num x.ty else if k = 3 then x.lo else x.hi
theorem domX_c (a b : Lv) (w : World) : Calls Try.prog 57 #[.agg #[.int .i64 a.s, .int .u64 a.c], .agg #[.int .i64 b.s, .int .u64 b.c]] w fun e w' => e = .returned (.bool (domX a b)) ∧ Below w.heap.size w w' := dominates_c a.s a.c b.s b.c w a.wf b.wf
theorem rdomX_c (a b : Lv) (w : World) : Calls Try.prog 62 #[.agg #[.int .i64 a.s, .int .u64 a.c], .agg #[.int .i64 b.s, .int .u64 b.c]] w fun e w' => e = .returned (.bool (domX a b)) ∧ Below w.heap.size w w' := rdominates_c a.s a.c b.s b.c w a.wf b.wf
theorem relN_c (a b : Lv) (w : World) : Calls Try.prog 58 #[.agg #[.int .i64 a.s, .int .u64 a.c], .agg #[.int .i64 b.s, .int .u64 b.c]] w fun e w' => e = .returned (.int .i64 (relN a b)) ∧ Below w.heap.size w w' := relation_c a.s a.c b.s b.c w a.wf b.wf
theorem lv_eq {a b : Lv} (h1 : a.s = b.s) (h2 : a.c = b.c) : a = b := by
  obtain ⟨_, _, _⟩ := a
  obtain ⟨_, _, _⟩ := b
  dsimp only at h1 h2
  subst h1 h2
  rfl
theorem lvl_ret {fn : Func} {tmps : Array Value} {t : Tmp} {w : World} {g : Nat} {a : Lv} (h : fn.results = #[.cell t 30]) (ht : tmps.getD t undef = .pointer (some ⟨g, 0, none⟩)) (q : Blk w g 30 #[.int .i64 a.s, .int .u64 a.c]) :
    (results fn tmps).run Try.prog w = .ok (.agg #[.int .i64 a.s, .int .u64 a.c]) w := by
  have c0 := q.cell 0
  have c1 := q.cell 1
  have ht' : tmps[t]?.getD undef = .pointer (some ⟨g, 0, none⟩) := by simpa using ht
  simp [results, h, ht', go_sem, c0, c1]
theorem three_new (w : World) (t1 t2 t3 : TypeId) (c1 c2 c3 : Array Value) : Blk (((w.alloc (.cells c1 t1)).alloc (.cells c2 t2)).alloc (.cells c3 t3)) (w.heap.size + 1 + 1) t3 c3 := by
  have h := Blk.new ((w.alloc (.cells c1 t1)).alloc (.cells c2 t2)) t3 c3
  rw [World.size_alloc, World.size_alloc] at h
  exact h
theorem three_below (w : World) (o1 o2 o3 : Obj) : Below w.heap.size w (((w.alloc o1).alloc o2).alloc o3) := (((Below.refl _ _).alloc (Nat.le_refl _) _).alloc (by simp) _).alloc (by simp; omega) _
set_option maxRecDepth 100000 in
theorem rd_user (c : Cx) (w : World) : Calls Try.prog 97 #[.agg #[], .agg #[.int .i64 c.u, .int .i64 c.ro, .int .i64 c.ty, .int .i64 c.lo.s, .int .u64 c.lo.c, .int .i64 c.hi.s, .int .u64 c.hi.c]] w fun e w' => e = .returned (.agg #[.int .i64 (num c.u).s, .int .u64 (num c.u).c]) ∧ Below w.heap.size w w' := by
  go_enter Try.func97, Try.ntmps97
  go_wp2
  exact bodyPost_ret (v := .agg #[.int .i64 (num c.u).s, .int .u64 (num c.u).c]) (lvl_ret Try.results97 rfl (three_new _ _ _ _ _ _ _)) rfl ⟨rfl, three_below _ _ _ _⟩
set_option maxRecDepth 100000 in
theorem rd_role (c : Cx) (w : World) : Calls Try.prog 98 #[.agg #[], .agg #[.int .i64 c.u, .int .i64 c.ro, .int .i64 c.ty, .int .i64 c.lo.s, .int .u64 c.lo.c, .int .i64 c.hi.s, .int .u64 c.hi.c]] w fun e w' => e = .returned (.agg #[.int .i64 (num c.ro).s, .int .u64 (num c.ro).c]) ∧ Below w.heap.size w w' := by
  go_enter Try.func98, Try.ntmps98
  go_wp2
  exact bodyPost_ret (v := .agg #[.int .i64 (num c.ro).s, .int .u64 (num c.ro).c]) (lvl_ret Try.results98 rfl (three_new _ _ _ _ _ _ _)) rfl ⟨rfl, three_below _ _ _ _⟩
set_option maxRecDepth 100000 in
theorem rd_typeOf (c : Cx) (w : World) : Calls Try.prog 99 #[.agg #[], .agg #[.int .i64 c.u, .int .i64 c.ro, .int .i64 c.ty, .int .i64 c.lo.s, .int .u64 c.lo.c, .int .i64 c.hi.s, .int .u64 c.hi.c]] w fun e w' => e = .returned (.agg #[.int .i64 (num c.ty).s, .int .u64 (num c.ty).c]) ∧ Below w.heap.size w w' := by
  go_enter Try.func99, Try.ntmps99
  go_wp2
  exact bodyPost_ret (v := .agg #[.int .i64 (num c.ty).s, .int .u64 (num c.ty).c]) (lvl_ret Try.results99 rfl (three_new _ _ _ _ _ _ _)) rfl ⟨rfl, three_below _ _ _ _⟩
set_option maxRecDepth 100000 in
theorem rd_lowLevel (c : Cx) (w : World) : Calls Try.prog 100 #[.agg #[], .agg #[.int .i64 c.u, .int .i64 c.ro, .int .i64 c.ty, .int .i64 c.lo.s, .int .u64 c.lo.c, .int .i64 c.hi.s, .int .u64 c.hi.c]] w fun e w' => e = .returned (.agg #[.int .i64 (c.lo).s, .int .u64 (c.lo).c]) ∧ Below w.heap.size w w' := by
  go_enter Try.func100, Try.ntmps100
  go_wp2
  exact bodyPost_ret (v := .agg #[.int .i64 (c.lo).s, .int .u64 (c.lo).c]) (lvl_ret Try.results100 rfl (three_new _ _ _ _ _ _ _)) rfl ⟨rfl, three_below _ _ _ _⟩
set_option maxRecDepth 100000 in
theorem rd_highLevel (c : Cx) (w : World) : Calls Try.prog 101 #[.agg #[], .agg #[.int .i64 c.u, .int .i64 c.ro, .int .i64 c.ty, .int .i64 c.lo.s, .int .u64 c.lo.c, .int .i64 c.hi.s, .int .u64 c.hi.c]] w fun e w' => e = .returned (.agg #[.int .i64 (c.hi).s, .int .u64 (c.hi).c]) ∧ Below w.heap.size w w' := by
  go_enter Try.func101, Try.ntmps101
  go_wp2
  exact bodyPost_ret (v := .agg #[.int .i64 (c.hi).s, .int .u64 (c.hi).c]) (lvl_ret Try.results101 rfl (three_new _ _ _ _ _ _ _)) rfl ⟨rfl, three_below _ _ _ _⟩
set_option maxRecDepth 100000 in
theorem attributeOf_0 (n : Int) (h : n.tmod 5 = 0) (w : World) : Calls Try.prog 56 #[.int .i64 n] w fun e w' => e = .returned (.iface 135 (.agg #[])) ∧ Below w.heap.size w w' := by
  go_enter Try.func56, Try.ntmps56
  go_wp2
  go_ret
  exact ⟨rfl, Below.refl _ _⟩
set_option maxRecDepth 100000 in
theorem attributeOf_1 (n : Int) (h : n.tmod 5 = 1) (w : World) : Calls Try.prog 56 #[.int .i64 n] w fun e w' => e = .returned (.iface 136 (.agg #[])) ∧ Below w.heap.size w w' := by
  go_enter Try.func56, Try.ntmps56
  go_wp2
  go_ret
  exact ⟨rfl, Below.refl _ _⟩
set_option maxRecDepth 100000 in
theorem attributeOf_2 (n : Int) (h : n.tmod 5 = 2) (w : World) : Calls Try.prog 56 #[.int .i64 n] w fun e w' => e = .returned (.iface 137 (.agg #[])) ∧ Below w.heap.size w w' := by
  go_enter Try.func56, Try.ntmps56
  go_wp2
  go_ret
  exact ⟨rfl, Below.refl _ _⟩
set_option maxRecDepth 100000 in
theorem attributeOf_3 (n : Int) (h : n.tmod 5 = 3) (w : World) : Calls Try.prog 56 #[.int .i64 n] w fun e w' => e = .returned (.iface 138 (.agg #[])) ∧ Below w.heap.size w w' := by
  go_enter Try.func56, Try.ntmps56
  go_wp2
  go_ret
  exact ⟨rfl, Below.refl _ _⟩
set_option maxRecDepth 100000 in
theorem attributeOf_4 (n : Int) (h : n.tmod 5 = 4) (w : World) : Calls Try.prog 56 #[.int .i64 n] w fun e w' => e = .returned (.iface 139 (.agg #[])) ∧ Below w.heap.size w w' := by
  go_enter Try.func56, Try.ntmps56
  go_wp2
  go_ret
  exact ⟨rfl, Below.refl _ _⟩
end Go.Proofs.Ytamcfmfkmekkfaa
/- Package constraint: related, read. -/
namespace Go.Proofs.Ytamcfmfkmekkfaa
open Go.RowKit
set_option maxRecDepth 100000 in
set_option maxHeartbeats 4000000 in
theorem related_0 (a b : Lv) (r : Int) (w : World) (hr : r = 0) : Calls Try.prog 36 #[.agg #[.int .i64 a.s, .int .u64 a.c], .int .i64 r, .agg #[.int .i64 b.s, .int .u64 b.c]] w fun e w' => e = .returned (.bool (relX a r b)) ∧ Below w.heap.size w w' := by
  unfold relX
  have p0 : (r == 0) = true := by simp [hr]
  have p1 : (r == 1) = false := by simp [hr]
  have p2 : (r == 2) = false := by simp [hr]
  have p3 : (r == 3) = false := by simp [hr]
  rw [if_pos hr]
  clear hr
  by_cases hab : a = b
  · subst hab
    rw [decide_eq_true rfl]
    obtain ⟨W0, hW0⟩ : ∃ W0, (w.alloc (.cells #[.int .i64 a.s, .int .u64 a.c] 30)).alloc (.cells #[.int .i64 a.s, .int .u64 a.c] 30) = W0 := ⟨_, rfl⟩
    have B1 : Blk W0 w.heap.size 30 #[.int .i64 a.s, .int .u64 a.c] := by rw [← hW0]; exact (Blk.new w _ _).alloc _
    have B2 : Blk W0 (w.heap.size + 1) 30 #[.int .i64 a.s, .int .u64 a.c] := by
      have h := Blk.new (w.alloc (.cells #[.int .i64 a.s, .int .u64 a.c] 30)) 30 #[.int .i64 a.s, .int .u64 a.c]
      rw [World.size_alloc, hW0] at h; exact h
    have HB0 : Hid (Below w.heap.size w W0) := Lib.hid (by rw [← hW0]; exact ((Below.refl _ _).alloc (Nat.le_refl _) _).alloc (by simp) _)
    have a0 := B1.cell 0
    have a1 := B1.cell 1
    have b0 := B2.cell 0
    have b1 := B2.cell 1
    go_enter Try.func36, Try.ntmps36
    go_wp2_with fail
    go_ret
    exact ⟨rfl, HB0.out⟩
  · rw [decide_eq_false hab]
    by_cases h : a.s = b.s
    · have hcc : ((a.c : Int) == (b.c : Int)) = false := by
        have : ¬ a.c = b.c := fun h2 => hab (lv_eq h h2)
        simp; omega
      have hss : (a.s == b.s) = true := by rw [h]; simp
      clear hab h
      obtain ⟨W0, hW0⟩ : ∃ W0, (w.alloc (.cells #[.int .i64 a.s, .int .u64 a.c] 30)).alloc (.cells #[.int .i64 b.s, .int .u64 b.c] 30) = W0 := ⟨_, rfl⟩
      have B1 : Blk W0 w.heap.size 30 #[.int .i64 a.s, .int .u64 a.c] := by rw [← hW0]; exact (Blk.new w _ _).alloc _
      have B2 : Blk W0 (w.heap.size + 1) 30 #[.int .i64 b.s, .int .u64 b.c] := by
        have h := Blk.new (w.alloc (.cells #[.int .i64 a.s, .int .u64 a.c] 30)) 30 #[.int .i64 b.s, .int .u64 b.c]
        rw [World.size_alloc, hW0] at h; exact h
      have HB0 : Hid (Below w.heap.size w W0) := Lib.hid (by rw [← hW0]; exact ((Below.refl _ _).alloc (Nat.le_refl _) _).alloc (by simp) _)
      have a0 := B1.cell 0
      have a1 := B1.cell 1
      have b0 := B2.cell 0
      have b1 := B2.cell 1
      go_enter Try.func36, Try.ntmps36
      go_wp2_with fail
      go_ret
      exact ⟨rfl, HB0.out⟩
    · have hss : (a.s == b.s) = false := by simpa using h
      clear hab h
      obtain ⟨W0, hW0⟩ : ∃ W0, (w.alloc (.cells #[.int .i64 a.s, .int .u64 a.c] 30)).alloc (.cells #[.int .i64 b.s, .int .u64 b.c] 30) = W0 := ⟨_, rfl⟩
      have B1 : Blk W0 w.heap.size 30 #[.int .i64 a.s, .int .u64 a.c] := by rw [← hW0]; exact (Blk.new w _ _).alloc _
      have B2 : Blk W0 (w.heap.size + 1) 30 #[.int .i64 b.s, .int .u64 b.c] := by
        have h := Blk.new (w.alloc (.cells #[.int .i64 a.s, .int .u64 a.c] 30)) 30 #[.int .i64 b.s, .int .u64 b.c]
        rw [World.size_alloc, hW0] at h; exact h
      have HB0 : Hid (Below w.heap.size w W0) := Lib.hid (by rw [← hW0]; exact ((Below.refl _ _).alloc (Nat.le_refl _) _).alloc (by simp) _)
      have a0 := B1.cell 0
      have a1 := B1.cell 1
      have b0 := B2.cell 0
      have b1 := B2.cell 1
      go_enter Try.func36, Try.ntmps36
      go_wp2_with fail
      go_ret
      exact ⟨rfl, HB0.out⟩
set_option maxRecDepth 100000 in
set_option maxHeartbeats 4000000 in
theorem related_1 (a b : Lv) (r : Int) (w : World) (hr : r = 1) : Calls Try.prog 36 #[.agg #[.int .i64 a.s, .int .u64 a.c], .int .i64 r, .agg #[.int .i64 b.s, .int .u64 b.c]] w fun e w' => e = .returned (.bool (relX a r b)) ∧ Below w.heap.size w w' := by
  unfold relX
  have p0 : (r == 0) = false := by simp [hr]
  have p1 : (r == 1) = true := by simp [hr]
  have p2 : (r == 2) = false := by simp [hr]
  have p3 : (r == 3) = false := by simp [hr]
  rw [if_neg (by omega), if_pos hr]
  clear hr
  by_cases hab : a = b
  · subst hab
    rw [decide_eq_true rfl]
    obtain ⟨W0, hW0⟩ : ∃ W0, (w.alloc (.cells #[.int .i64 a.s, .int .u64 a.c] 30)).alloc (.cells #[.int .i64 a.s, .int .u64 a.c] 30) = W0 := ⟨_, rfl⟩
    have B1 : Blk W0 w.heap.size 30 #[.int .i64 a.s, .int .u64 a.c] := by rw [← hW0]; exact (Blk.new w _ _).alloc _
    have B2 : Blk W0 (w.heap.size + 1) 30 #[.int .i64 a.s, .int .u64 a.c] := by
      have h := Blk.new (w.alloc (.cells #[.int .i64 a.s, .int .u64 a.c] 30)) 30 #[.int .i64 a.s, .int .u64 a.c]
      rw [World.size_alloc, hW0] at h; exact h
    have HB0 : Hid (Below w.heap.size w W0) := Lib.hid (by rw [← hW0]; exact ((Below.refl _ _).alloc (Nat.le_refl _) _).alloc (by simp) _)
    have a0 := B1.cell 0
    have a1 := B1.cell 1
    have b0 := B2.cell 0
    have b1 := B2.cell 1
    go_enter Try.func36, Try.ntmps36
    go_wp2_with fail
    go_ret
    exact ⟨rfl, HB0.out⟩
  · rw [decide_eq_false hab]
    by_cases h : a.s = b.s
    · have hcc : ((a.c : Int) == (b.c : Int)) = false := by
        have : ¬ a.c = b.c := fun h2 => hab (lv_eq h h2)
        simp; omega
      have hss : (a.s == b.s) = true := by rw [h]; simp
      clear hab h
      obtain ⟨W0, hW0⟩ : ∃ W0, (w.alloc (.cells #[.int .i64 a.s, .int .u64 a.c] 30)).alloc (.cells #[.int .i64 b.s, .int .u64 b.c] 30) = W0 := ⟨_, rfl⟩
      have B1 : Blk W0 w.heap.size 30 #[.int .i64 a.s, .int .u64 a.c] := by rw [← hW0]; exact (Blk.new w _ _).alloc _
      have B2 : Blk W0 (w.heap.size + 1) 30 #[.int .i64 b.s, .int .u64 b.c] := by
        have h := Blk.new (w.alloc (.cells #[.int .i64 a.s, .int .u64 a.c] 30)) 30 #[.int .i64 b.s, .int .u64 b.c]
        rw [World.size_alloc, hW0] at h; exact h
      have HB0 : Hid (Below w.heap.size w W0) := Lib.hid (by rw [← hW0]; exact ((Below.refl _ _).alloc (Nat.le_refl _) _).alloc (by simp) _)
      have a0 := B1.cell 0
      have a1 := B1.cell 1
      have b0 := B2.cell 0
      have b1 := B2.cell 1
      go_enter Try.func36, Try.ntmps36
      go_wp2_with fail
      go_ret
      exact ⟨rfl, HB0.out⟩
    · have hss : (a.s == b.s) = false := by simpa using h
      clear hab h
      obtain ⟨W0, hW0⟩ : ∃ W0, (w.alloc (.cells #[.int .i64 a.s, .int .u64 a.c] 30)).alloc (.cells #[.int .i64 b.s, .int .u64 b.c] 30) = W0 := ⟨_, rfl⟩
      have B1 : Blk W0 w.heap.size 30 #[.int .i64 a.s, .int .u64 a.c] := by rw [← hW0]; exact (Blk.new w _ _).alloc _
      have B2 : Blk W0 (w.heap.size + 1) 30 #[.int .i64 b.s, .int .u64 b.c] := by
        have h := Blk.new (w.alloc (.cells #[.int .i64 a.s, .int .u64 a.c] 30)) 30 #[.int .i64 b.s, .int .u64 b.c]
        rw [World.size_alloc, hW0] at h; exact h
      have HB0 : Hid (Below w.heap.size w W0) := Lib.hid (by rw [← hW0]; exact ((Below.refl _ _).alloc (Nat.le_refl _) _).alloc (by simp) _)
      have a0 := B1.cell 0
      have a1 := B1.cell 1
      have b0 := B2.cell 0
      have b1 := B2.cell 1
      go_enter Try.func36, Try.ntmps36
      go_wp2_with fail
      go_ret
      exact ⟨rfl, HB0.out⟩
set_option maxRecDepth 100000 in
set_option maxHeartbeats 4000000 in
theorem related_2 (a b : Lv) (r : Int) (w : World) (hr : r = 2) : Calls Try.prog 36 #[.agg #[.int .i64 a.s, .int .u64 a.c], .int .i64 r, .agg #[.int .i64 b.s, .int .u64 b.c]] w fun e w' => e = .returned (.bool (relX a r b)) ∧ Below w.heap.size w w' := by
  obtain ⟨W0, hW0⟩ : ∃ W0, (w.alloc (.cells #[.int .i64 a.s, .int .u64 a.c] 30)).alloc (.cells #[.int .i64 b.s, .int .u64 b.c] 30) = W0 := ⟨_, rfl⟩
  have B1 : Blk W0 w.heap.size 30 #[.int .i64 a.s, .int .u64 a.c] := by rw [← hW0]; exact (Blk.new w _ _).alloc _
  have B2 : Blk W0 (w.heap.size + 1) 30 #[.int .i64 b.s, .int .u64 b.c] := by
    have h := Blk.new (w.alloc (.cells #[.int .i64 a.s, .int .u64 a.c] 30)) 30 #[.int .i64 b.s, .int .u64 b.c]
    rw [World.size_alloc, hW0] at h; exact h
  have HB0 : Hid (Below w.heap.size w W0) := Lib.hid (by rw [← hW0]; exact ((Below.refl _ _).alloc (Nat.le_refl _) _).alloc (by simp) _)
  have a0 := B1.cell 0
  have a1 := B1.cell 1
  have b0 := B2.cell 0
  have b1 := B2.cell 1
  unfold relX
  have p0 : (r == 0) = false := by simp [hr]
  have p1 : (r == 1) = false := by simp [hr]
  have p2 : (r == 2) = true := by simp [hr]
  have p3 : (r == 3) = false := by simp [hr]
  rw [if_neg (by omega), if_neg (by omega), if_pos hr]
  clear hr
  go_enter Try.func36, Try.ntmps36
  go_upto_region 1 with fail
  try rw [hW0]
  clear hW0 B1 B2
  go_wp2_with (go_at_call 57; refine (domX_c a b _).mono ?_; rintro e W1 ⟨rfl, hb1⟩; have HB1 := Lib.hid (HB0.out.trans (hb1.mono HB0.out.size)); clear hb1)
  go_ret
  exact ⟨rfl, HB1.out⟩
set_option maxRecDepth 100000 in
set_option maxHeartbeats 4000000 in
theorem related_3 (a b : Lv) (r : Int) (w : World) (hr : r = 3) : Calls Try.prog 36 #[.agg #[.int .i64 a.s, .int .u64 a.c], .int .i64 r, .agg #[.int .i64 b.s, .int .u64 b.c]] w fun e w' => e = .returned (.bool (relX a r b)) ∧ Below w.heap.size w w' := by
  obtain ⟨W0, hW0⟩ : ∃ W0, (w.alloc (.cells #[.int .i64 a.s, .int .u64 a.c] 30)).alloc (.cells #[.int .i64 b.s, .int .u64 b.c] 30) = W0 := ⟨_, rfl⟩
  have B1 : Blk W0 w.heap.size 30 #[.int .i64 a.s, .int .u64 a.c] := by rw [← hW0]; exact (Blk.new w _ _).alloc _
  have B2 : Blk W0 (w.heap.size + 1) 30 #[.int .i64 b.s, .int .u64 b.c] := by
    have h := Blk.new (w.alloc (.cells #[.int .i64 a.s, .int .u64 a.c] 30)) 30 #[.int .i64 b.s, .int .u64 b.c]
    rw [World.size_alloc, hW0] at h; exact h
  have HB0 : Hid (Below w.heap.size w W0) := Lib.hid (by rw [← hW0]; exact ((Below.refl _ _).alloc (Nat.le_refl _) _).alloc (by simp) _)
  have a0 := B1.cell 0
  have a1 := B1.cell 1
  have b0 := B2.cell 0
  have b1 := B2.cell 1
  unfold relX
  have p0 : (r == 0) = false := by simp [hr]
  have p1 : (r == 1) = false := by simp [hr]
  have p2 : (r == 2) = false := by simp [hr]
  have p3 : (r == 3) = true := by simp [hr]
  rw [if_neg (by omega), if_neg (by omega), if_neg (by omega), if_pos hr]
  clear hr
  go_enter Try.func36, Try.ntmps36
  go_upto_region 1 with fail
  try rw [hW0]
  clear hW0 B1 B2
  go_wp2_with (go_at_call 57; refine (domX_c b a _).mono ?_; rintro e W1 ⟨rfl, hb1⟩; have HB1 := Lib.hid (HB0.out.trans (hb1.mono HB0.out.size)); clear hb1)
  go_ret
  exact ⟨rfl, HB1.out⟩
set_option maxRecDepth 100000 in
set_option maxHeartbeats 4000000 in
theorem related_4 (a b : Lv) (r : Int) (w : World) (hr : r ≠ 0 ∧ r ≠ 1 ∧ r ≠ 2 ∧ r ≠ 3) : Calls Try.prog 36 #[.agg #[.int .i64 a.s, .int .u64 a.c], .int .i64 r, .agg #[.int .i64 b.s, .int .u64 b.c]] w fun e w' => e = .returned (.bool (relX a r b)) ∧ Below w.heap.size w w' := by
  obtain ⟨W0, hW0⟩ : ∃ W0, (w.alloc (.cells #[.int .i64 a.s, .int .u64 a.c] 30)).alloc (.cells #[.int .i64 b.s, .int .u64 b.c] 30) = W0 := ⟨_, rfl⟩
  have B1 : Blk W0 w.heap.size 30 #[.int .i64 a.s, .int .u64 a.c] := by rw [← hW0]; exact (Blk.new w _ _).alloc _
  have B2 : Blk W0 (w.heap.size + 1) 30 #[.int .i64 b.s, .int .u64 b.c] := by
    have h := Blk.new (w.alloc (.cells #[.int .i64 a.s, .int .u64 a.c] 30)) 30 #[.int .i64 b.s, .int .u64 b.c]
    rw [World.size_alloc, hW0] at h; exact h
  have HB0 : Hid (Below w.heap.size w W0) := Lib.hid (by rw [← hW0]; exact ((Below.refl _ _).alloc (Nat.le_refl _) _).alloc (by simp) _)
  have a0 := B1.cell 0
  have a1 := B1.cell 1
  have b0 := B2.cell 0
  have b1 := B2.cell 1
  unfold relX
  have p0 : (r == 0) = false := by simp; omega
  have p1 : (r == 1) = false := by simp; omega
  have p2 : (r == 2) = false := by simp; omega
  have p3 : (r == 3) = false := by simp; omega
  rw [if_neg hr.1, if_neg hr.2.1, if_neg hr.2.2.1, if_neg hr.2.2.2]
  have hd : (relN a b == 4) = decide (relN a b = 4) := by by_cases h : relN a b = 4 <;> simp [h]
  clear hr
  go_enter Try.func36, Try.ntmps36
  go_upto_region 1 with fail
  try rw [hW0]
  clear hW0 B1 B2
  go_wp2_with (go_at_call 58; refine (relN_c a b _).mono ?_; rintro e W1 ⟨rfl, hb1⟩; have HB1 := Lib.hid (HB0.out.trans (hb1.mono HB0.out.size)); clear hb1)
  go_ret
  exact ⟨rfl, HB1.out⟩
theorem related_c (a b : Lv) (r : Int) (w : World) : Calls Try.prog 36 #[.agg #[.int .i64 a.s, .int .u64 a.c], .int .i64 r, .agg #[.int .i64 b.s, .int .u64 b.c]] w fun e w' => e = .returned (.bool (relX a r b)) ∧ Below w.heap.size w w' := by
  by_cases h0 : r = 0
  · exact related_0 a b r w h0
  · by_cases h1 : r = 1
    · exact related_1 a b r w h1
    · by_cases h2 : r = 2
      · exact related_2 a b r w h2
      · by_cases h3 : r = 3
        · exact related_3 a b r w h3
        · exact related_4 a b r w ⟨h0, h1, h2, h3⟩
def ctxX (c : Ca) (q : Nat) : Cx := if q = 0 then c.c1 else if q = 1 then c.c2 else c.c3
def rdX (c : Ca) (n : Nat) : Lv := atX (ctxX c (n / 5)) ((n : Int).tmod 5)
theorem case_cells {w : World} {g : Nat} {ty : TypeId} {c : Ca} (h : Blk w g ty #[.int .i64 c.c1.u, .int .i64 c.c1.ro, .int .i64 c.c1.ty, .int .i64 c.c1.lo.s, .int .u64 c.c1.lo.c, .int .i64 c.c1.hi.s, .int .u64 c.c1.hi.c, .int .i64 c.c2.u, .int .i64 c.c2.ro, .int .i64 c.c2.ty, .int .i64 c.c2.lo.s, .int .u64 c.c2.lo.c, .int .i64 c.c2.hi.s, .int .u64 c.c2.hi.c, .int .i64 c.c3.u, .int .i64 c.c3.ro, .int .i64 c.c3.ty, .int .i64 c.c3.lo.s, .int .u64 c.c3.lo.c, .int .i64 c.c3.hi.s, .int .u64 c.c3.hi.c]) {q : Nat} (hq : q < 3) : w.cell? ⟨g, q * 7, none⟩ = some (.int .i64 (ctxX c q).u) ∧ w.cell? ⟨g, q * 7 + 1, none⟩ = some (.int .i64 (ctxX c q).ro) ∧ w.cell? ⟨g, q * 7 + 2, none⟩ = some (.int .i64 (ctxX c q).ty) ∧ w.cell? ⟨g, q * 7 + 3, none⟩ = some (.int .i64 (ctxX c q).lo.s) ∧ w.cell? ⟨g, q * 7 + 4, none⟩ = some (.int .u64 (ctxX c q).lo.c) ∧ w.cell? ⟨g, q * 7 + 5, none⟩ = some (.int .i64 (ctxX c q).hi.s) ∧ w.cell? ⟨g, q * 7 + 6, none⟩ = some (.int .u64 (ctxX c q).hi.c) := by
  match q, hq with
  | 0, _ => exact ⟨h.cell 0, h.cell 1, h.cell 2, h.cell 3, h.cell 4, h.cell 5, h.cell 6⟩
  | 1, _ => exact ⟨h.cell 7, h.cell 8, h.cell 9, h.cell 10, h.cell 11, h.cell 12, h.cell 13⟩
  | 2, _ => exact ⟨h.cell 14, h.cell 15, h.cell 16, h.cell 17, h.cell 18, h.cell 19, h.cell 20⟩
def rdPhi (gc : Nat) (c : Ca) (W0 : World) (k : Nat) (v : Value) (u : World) : Prop := match k with
  | 0 => v = .pointer (some ⟨gc, 0, none⟩)
  | 1 => v = .pointer (some ⟨gc, 0, none⟩)
  | 2 => v = .pointer (some ⟨gc, 0, none⟩)
  | 3 => v = .agg #[.int .i64 c.c1.u, .int .i64 c.c1.ro, .int .i64 c.c1.ty, .int .i64 c.c1.lo.s, .int .u64 c.c1.lo.c, .int .i64 c.c1.hi.s, .int .u64 c.c1.hi.c]
  | 4 => v = .pointer (some ⟨gc, 0, none⟩)
  | 5 => v = .pointer (some ⟨gc, 0, none⟩)
  | 6 => v = .pointer (some ⟨gc, 7, none⟩)
  | 7 => v = .agg #[.int .i64 c.c2.u, .int .i64 c.c2.ro, .int .i64 c.c2.ty, .int .i64 c.c2.lo.s, .int .u64 c.c2.lo.c, .int .i64 c.c2.hi.s, .int .u64 c.c2.hi.c]
  | 8 => v = .pointer (some ⟨gc, 0, none⟩)
  | 9 => v = .pointer (some ⟨gc, 0, none⟩)
  | 10 => v = .pointer (some ⟨gc, 14, none⟩)
  | 11 => v = .agg #[.int .i64 c.c3.u, .int .i64 c.c3.ro, .int .i64 c.c3.ty, .int .i64 c.c3.lo.s, .int .u64 c.c3.lo.c, .int .i64 c.c3.hi.s, .int .u64 c.c3.hi.c]
  | 12 => v = .agg #[.int .i64 c.c1.u, .int .i64 c.c1.ro, .int .i64 c.c1.ty, .int .i64 c.c1.lo.s, .int .u64 c.c1.lo.c, .int .i64 c.c1.hi.s, .int .u64 c.c1.hi.c, .int .i64 c.c2.u, .int .i64 c.c2.ro, .int .i64 c.c2.ty, .int .i64 c.c2.lo.s, .int .u64 c.c2.lo.c, .int .i64 c.c2.hi.s, .int .u64 c.c2.hi.c, .int .i64 c.c3.u, .int .i64 c.c3.ro, .int .i64 c.c3.ty, .int .i64 c.c3.lo.s, .int .u64 c.c3.lo.c, .int .i64 c.c3.hi.s, .int .u64 c.c3.hi.c]
  | 13 => ∃ g, v = .pointer (some ⟨g, 0, none⟩) ∧ W0.heap.size ≤ g ∧ Blk u g 122 #[.int .i64 0, .int .i64 0, .int .i64 0, .int .i64 0, .int .u64 0, .int .i64 0, .int .u64 0, .int .i64 0, .int .i64 0, .int .i64 0, .int .i64 0, .int .u64 0, .int .i64 0, .int .u64 0, .int .i64 0, .int .i64 0, .int .i64 0, .int .i64 0, .int .u64 0, .int .i64 0, .int .u64 0]
  | _ => True
theorem rdPhi_keep {gc : Nat} {c : Ca} {W0 : World} {k : Nat} {v : Value} {u u' : World} (h : rdPhi gc c W0 k v u) (hb : Below u.heap.size u u') : rdPhi gc c W0 k v u' := by
  unfold rdPhi at h ⊢
  split at h
  iterate 13 exact h
  · obtain ⟨g, h1, h2, h3⟩ := h
    exact ⟨g, h1, h2, h3.keep hb⟩
  · trivial
theorem Blk.store21 {w : World} {g : Nat} {t : TypeId} {d0 d1 d2 d3 d4 d5 d6 d7 d8 d9 d10 d11 d12 d13 d14 d15 d16 d17 d18 d19 d20 : Value} (h : Blk w g t #[d0, d1, d2, d3, d4, d5, d6, d7, d8, d9, d10, d11, d12, d13, d14, d15, d16, d17, d18, d19, d20]) (v0 v1 v2 v3 v4 v5 v6 v7 v8 v9 v10 v11 v12 v13 v14 v15 v16 v17 v18 v19 v20 : Value) : Blk (((((((((((((((((((((w.setCell ⟨g, 0, none⟩ (v0)).setCell ⟨g, 1, none⟩ (v1)).setCell ⟨g, 2, none⟩ (v2)).setCell ⟨g, 3, none⟩ (v3)).setCell ⟨g, 4, none⟩ (v4)).setCell ⟨g, 5, none⟩ (v5)).setCell ⟨g, 6, none⟩ (v6)).setCell ⟨g, 7, none⟩ (v7)).setCell ⟨g, 8, none⟩ (v8)).setCell ⟨g, 9, none⟩ (v9)).setCell ⟨g, 10, none⟩ (v10)).setCell ⟨g, 11, none⟩ (v11)).setCell ⟨g, 12, none⟩ (v12)).setCell ⟨g, 13, none⟩ (v13)).setCell ⟨g, 14, none⟩ (v14)).setCell ⟨g, 15, none⟩ (v15)).setCell ⟨g, 16, none⟩ (v16)).setCell ⟨g, 17, none⟩ (v17)).setCell ⟨g, 18, none⟩ (v18)).setCell ⟨g, 19, none⟩ (v19)).setCell ⟨g, 20, none⟩ (v20)) g t #[v0, v1, v2, v3, v4, v5, v6, v7, v8, v9, v10, v11, v12, v13, v14, v15, v16, v17, v18, v19, v20] := by
  have k := (Blk.set (Blk.set (Blk.set (Blk.set (Blk.set (Blk.set (Blk.set (Blk.set (Blk.set (Blk.set (Blk.set (Blk.set (Blk.set (Blk.set (Blk.set (Blk.set (Blk.set (Blk.set (Blk.set (Blk.set (Blk.set h 0 v0) 1 v1) 2 v2) 3 v3) 4 v4) 5 v5) 6 v6) 7 v7) 8 v8) 9 v9) 10 v10) 11 v11) 12 v12) 13 v13) 14 v14) 15 v15) 16 v16) 17 v17) 18 v18) 19 v19) 20 v20)
  simp only [List.setIfInBounds_toArray, List.set_cons_zero, List.set_cons_succ] at k
  exact k
end Go.Proofs.Ytamcfmfkmekkfaa
/- A region that draws its order: a head whose operations are quiet in a class of worlds, in any order, and a tail that waits for all of the head and goes in the order of the text. One walk of the text's order serves every order. -/
namespace Go.Proofs.Ytamcfmfkmekkfaa
open Go.RowKit Go
section
variable {P : Program} {ops : Array Oper} {md : Region.Mode} {C : World → Prop}
/-- whatever order is picked for the head; what is left then -/
def headQ (P : Program) (md : Region.Mode) (ops : Array Oper) (C : World → Prop) (n : Nat) (L : Array Bool → Act → Prop) : Nat → Array Bool → Act → Prop
  | 0, listed, a => L listed a
  | f + 1, listed, a => Region.ready md ops listed ≠ [] ∧ ∀ i ∈ Region.ready md ops listed, i < n ∧ qOp P ops C i (headQ P md ops C n L f (listed.setIfInBounds i true)) a
theorem any_of_headQ {n g : Nat} {L : Array Bool → Act → Prop} {Q' : Exit → Act → World → Prop} (hL : ∀ listed a w, C w → L listed a → wpAny P md ops Q' g listed a w) :
    ∀ (f : Nat) (listed : Array Bool) (a : Act) (w : World), C w → headQ P md ops C n L f listed a → wpAny P md ops Q' (f + g) listed a w
  | 0, _, _, _, hw, h => by rw [Nat.zero_add]; exact hL _ _ _ hw h
  | f + 1, listed, a, w, hw, h => by
    rw [show f + 1 + g = (f + g) + 1 by omega]
    exact ⟨fun h0 => absurd h0 h.1, fun i hi => wpOp_of_qOp hw (fun a' w' hw' h' => any_of_headQ hL f _ a' w' hw' h') (h.2 i hi).2⟩
theorem headQ_first {n i : Nat} {oi : Oper} {v : Value} {L : Array Bool → Act → Prop} (hi : ops[i]? = some oi) (hsel : ∀ (j : Nat) (o : Oper) cs b, ops[j]? = some o → o.op ≠ .select cs b)
    (hs : Region.sinkB md ops n = true) (hc : Region.chainB md ops n = true) (hn : n < ops.size) (hin : i < n)
    (hdone : ∀ listed a, L listed a → ∀ j ∈ Region.ready md ops listed, n ≤ j) :
    ∀ (f : Nat) (listed : Array Bool) (a : Act), HeadInv md ops n listed →
      (∀ j oj, ops[j]? = some oj → j ≠ i → listed.getD j true = false → (∀ e ∈ oj.after, Region.binds md e = true → e.on ≠ i) → oi.apart ops oj = true) →
      i ∈ Region.ready md ops listed → YieldsIn P ops C oi v a →
      headQ P md ops C n L f (listed.setIfInBounds i true) (a.put oi.dst v) → headQ P md ops C n L (f + 1) listed a := by
  intro f
  induction f with
  | zero =>
    intro listed a inv _ hr hy H
    have hun := (mem_ready.1 hr).1
    refine ⟨fun h => (by rw [h] at hr; cases hr), fun j hj => ?_⟩
    have hjn : j < n := by
      rcases Nat.lt_or_ge j n with h | h
      · exact h
      · exact absurd hj (tail_waits hs hc hn inv _ i rfl hin hun j h)
    refine ⟨hjn, ?_⟩
    by_cases hji : j = i
    · subst hji; exact hy.qOp hi H
    · have := hdone _ _ H j (ready_mono hj hji)
      omega
  | succ f ih =>
    intro listed a inv hfree hr hy H
    have hun := (mem_ready.1 hr).1
    refine ⟨fun h => (by rw [h] at hr; cases hr), fun j hj => ?_⟩
    have hjn : j < n := by
      rcases Nat.lt_or_ge j n with h | h
      · exact h
      · exact absurd hj (tail_waits hs hc hn inv _ i rfl hin hun j h)
    refine ⟨hjn, ?_⟩
    by_cases hji : j = i
    · subst hji; exact hy.qOp hi H
    · have h1 := (H.2 j (ready_mono hj hji)).2
      obtain ⟨hjun, oj, hoj, hall⟩ := mem_ready.1 hj
      have hnot : ∀ e ∈ oj.after, Region.binds md e = true → e.on ≠ i := fun e he hb heq => by
        have h1 := hall e he hb
        rw [heq, getD_both hun] at h1
        cases h1
      have h2 := qOp_put hoj (hfree j oj hoj hji hjun hnot) (fun cs b => hsel i oi cs b hi) (fun cs b => hsel j oj cs b hoj) hy h1
      have hfree' : ∀ k ok, ops[k]? = some ok → k ≠ i → (listed.setIfInBounds j true).getD k true = false →
          (∀ e ∈ ok.after, Region.binds md e = true → e.on ≠ i) → oi.apart ops ok = true := fun k ok hk hki hun hno => by
        refine hfree k ok hk hki ?_ hno
        by_cases hjk : j = k
        · subst hjk; exact hjun
        · rw [getD_set_ne true hjk] at hun; exact hun
      refine qOp_mono (fun a' h3 => ih (listed.setIfInBounds j true) a' (inv.set hj hjn) hfree' (ready_mono hr (Ne.symm hji)) h3.1 ?_) h2
      rw [Array.setIfInBounds_comm _ _ hji]
      exact h3.2
theorem headQ_lex {n g : Nat} {Lq : Act → Prop} (hsel : Region.noSelect ops = true) (hs : Region.sinkB md ops n = true) (hc : Region.chainB md ops n = true) (hn : n < ops.size) :
    ∀ (l : List Oper) (k : Nat) (listed : Array Bool) (a : Act), (∀ j, j < l.length → l[j]? = ops[k + j]?) → k + l.length = n → HeadInv md ops n listed →
    Region.lexHead md ops g l.length k listed = true → wpQuiet P ops C Lq l a →
    headQ P md ops C n (fun listed' a' => Region.seqB md ops g n listed' = true ∧ Lq a') l.length listed a
  | [], k, listed, a, _, hk, _, hB, h => by
    have : k = n := by simpa using hk
    subst this
    exact ⟨by simpa [Region.lexHead] using hB, h⟩
  | o :: l, k, listed, a, hl, hk, inv, hB, h => by
    have h0 : ops[k]? = some o := by simpa using (hl 0 (by simp)).symm
    simp only [List.length_cons, Region.lexHead, Bool.and_eq_true] at hB
    obtain ⟨⟨hr, hf⟩, hB'⟩ := hB
    have hkn : k < n := by simp only [List.length_cons] at hk; omega
    have hr' : k ∈ Region.ready md ops listed := by simpa using hr
    have hst : qOp P ops C k (wpQuiet P ops C Lq l) a := by unfold qOp; simp only [h0]; exact h
    obtain ⟨v, hy, hK⟩ := yieldsIn_of_qOp h0 hst
    exact headQ_first h0 (Region.noSelect_spec hsel) hs hc hn hkn (fun listed' a' hL => seqB_ready hL.1) l.length listed a inv (Region.free_spec h0 hf) hr' hy
      (headQ_lex hsel hs hc hn l (k + 1) _ _ (fun j hj => by have := hl (j + 1) (by simp; omega); simpa [Nat.add_assoc, Nat.add_comm 1 j] using this) (by simp only [List.length_cons] at hk; omega) (inv.set hr' hkn) hB' hK)
theorem wp_region_quiet_tail {id : Nat} {Q : Exit → Act → World → Prop} {a : Act} {w : World} {l : List Oper} (n : Nat) (hm : P.follows .mixedOrders = true) (hB : Region.lexTailB .any l.toArray n = true) (hC : C { w with drawn := w.drawn + 1 })
    (h : wpQuiet P l.toArray C (fun a' => ∀ w', C w' → wpList P l.toArray Q (l.drop n) a' w') (l.take n) a) : (Code.region id l.toArray true).wp P Q a w := by
  simp only [Region.lexTailB, Bool.and_eq_true, decide_eq_true_eq] at hB
  obtain ⟨⟨⟨⟨hsel, hn⟩, hs⟩, hc⟩, hlex⟩ := hB
  have hn' : n < l.length := by simpa using hn
  have htl : (l.take n).length = n := by simp; omega
  have hdl : (l.drop n).length = l.toArray.size - n := by simp
  have inv0 : HeadInv .any l.toArray n (Array.replicate l.toArray.size false) :=
    ⟨by simp, fun j oj _ hl => (by rw [getD_replicate_false] at hl; cases hl), fun t _ ht => getD_in (by simpa using ht) (getD_replicate_false _ _)⟩
  have H := headQ_lex (md := .any) (g := l.toArray.size - n) hsel hs hc hn (l.take n) 0 _ a (fun j hj => by
    have hj' : j < n := by rw [htl] at hj; exact hj
    simp [hj']) (by simpa using htl) inv0 (by rw [htl]; exact hlex) h
  refine wp_region_any hm ?_
  have := any_of_headQ (Q' := Q) (g := l.toArray.size - n) (fun listed a' w' hw' hL => by
    have := wpAny_of_seq (md := .any) (Q' := Q) (l.drop n) n listed a' w' (fun j => by simp [List.getElem?_drop]) (by rw [hdl]; exact hL.1) (hL.2 w' hw')
    rwa [hdl] at this) _ _ _ _ hC H
  rw [htl, show n + (l.toArray.size - n) = l.toArray.size by omega] at this
  exact this
end
/-- the head in the class of worlds that keep all that was there -/
theorem wp_region_kt {P : Program} {id : Nat} {Q : Exit → Act → World → Prop} {a : Act} {w : World} {l : List Oper} (n : Nat) (hm : P.follows .mixedOrders = true) (hB : Region.lexTailB .any l.toArray n = true)
    (h : wpQuiet P l.toArray (Kp w) (fun a' => ∀ w', Kp w w' → wpList P l.toArray Q (l.drop n) a' w') (l.take n) a) : (Code.region id l.toArray true).wp P Q a w :=
  wp_region_quiet_tail (C := Kp w) n hm hB ((Below.refl _ _).drew) h
end Go.Proofs.Ytamcfmfkmekkfaa
/- A value stored whole into a block of its own. -/
namespace Go.Proofs.Ytamcfmfkmekkfaa
open Go.RowKit
set_option maxRecDepth 100000 in
theorem storeAt_row {t ty : TypeId} {w : World} {g : Nat} {cs : Array Value} (vs : List Value) (v : Value) (hv : v.cells = vs.toArray) (hsz : (sizeOf t).run Try.prog w = .ok vs.length w) (h : Blk w g ty cs) (hl : vs.length = cs.size) (h1 : ∀ x ∈ vs, x.oneCell' = true) :
    (Instr.storeAt t (.pointer (some ⟨g, 0, none⟩)) v).run Try.prog w = .ok () (w.setRow g vs.toArray) := by
  have hst := run_storeCells_from (P := Try.prog) g ty vs 0 cs w h (by omega) h1
  simp only [List.take_zero, List.nil_append] at hst
  have hv2 : v.cells.size = vs.length := by rw [hv]; simp
  have hv3 : v.cells.toList = vs := by rw [hv]
  unfold Instr.storeAt storeVar
  rw [hv3]
  generalize v.cells.size = n at *
  subst hv2
  go_simp
theorem wpList_store_row {t ty : TypeId} {g : Nat} {w : World} {ops : Array Oper} {rest : List Oper} {o : Oper} {a : Act} {Q : Exit → Act → World → Prop} {cs : Array Value} (hw : Region.wanted o (yielded ops a.tmps) = true) (p x : Operand) (ho : o.op = .store t p x) (hd : o.dst = none)
    (hp : a.eval p = .pointer (some ⟨g, 0, none⟩)) (vs : List Value) (v : Value) (hx : a.eval x = v) (hv : v.cells = vs.toArray) (hsz : (sizeOf t).run Try.prog w = .ok vs.length w) (h : Blk w g ty cs) (hl : vs.length = cs.size) (h1 : ∀ x ∈ vs, x.oneCell' = true)
    (hK : wpList Try.prog ops Q rest a (w.setRow g vs.toArray)) : wpList Try.prog ops Q (o :: rest) a w := by
  unfold wpList
  rw [if_pos hw]
  refine .inl ?_
  have hst := storeAt_row vs v hv hsz h hl h1
  unfold Oper.wp execOp
  simp only [ho, hp, hx, Sem.run_bind, hst, Result.andThen_ok]
  go_simp
theorem Blk.row {t : TypeId} {w : World} {g : Nat} {cs : Array Value} (h : Blk w g t cs) (vs : List Value) : Blk (w.setRow g vs.toArray) g t vs.toArray := setRow_heap w g cs vs.toArray t (0, 0) h
theorem below_row {B : Nat} {w w' : World} {g : Nat} (h : Below B w w') (hg : B ≤ g) (cs : Array Value) : Below B w (w'.setRow g cs) :=
  ⟨h.os, h.tape, h.output, by rw [setRow_size]; exact h.size, fun j hj => (setRow_other w' g j cs (by omega)).trans (h.block j hj)⟩
theorem size_case (w : World) : (sizeOf 122).run Try.prog w = .ok 21 w := by go_simp
end Go.Proofs.Ytamcfmfkmekkfaa
/- Package constraint: read, one sort of attributes. -/
namespace Go.Proofs.Ytamcfmfkmekkfaa
open Go.RowKit
set_option maxRecDepth 100000 in
set_option maxHeartbeats 16000000 in
theorem read_0 (c : Ca) (gc n : Nat) (hn : n < 15) (hk : (n : Int).tmod 5 = 0) (w : World) (hC : Blk w gc 36 #[.int .i64 c.c1.u, .int .i64 c.c1.ro, .int .i64 c.c1.ty, .int .i64 c.c1.lo.s, .int .u64 c.c1.lo.c, .int .i64 c.c1.hi.s, .int .u64 c.c1.hi.c, .int .i64 c.c2.u, .int .i64 c.c2.ro, .int .i64 c.c2.ty, .int .i64 c.c2.lo.s, .int .u64 c.c2.lo.c, .int .i64 c.c2.hi.s, .int .u64 c.c2.hi.c, .int .i64 c.c3.u, .int .i64 c.c3.ro, .int .i64 c.c3.ty, .int .i64 c.c3.lo.s, .int .u64 c.c3.lo.c, .int .i64 c.c3.hi.s, .int .u64 c.c3.hi.c]) : Calls Try.prog 35 #[.pointer (some ⟨gc, 0, none⟩), .int .i64 n] w fun e w' => e = .returned (.agg #[.int .i64 (rdX c n).s, .int .u64 (rdX c n).c]) ∧ Below w.heap.size w w' := by
  obtain ⟨q, hq⟩ : ∃ q, n / 5 = q := ⟨_, rfl⟩
  have hq3 : q < 3 := by omega
  have HR : Hid (rdX c n = num (ctxX c q).u) := Lib.hid (by unfold rdX; rw [hk, hq]; rfl)
  have HQ1 : Hid (Int.tdiv (n : Int) 5 = (q : Int)) := Lib.hid (by rw [Int.tdiv_eq_ediv_of_nonneg (by omega)]; omega)
  have HQ2 : Hid ((n : Int) / 5 = (q : Int)) := Lib.hid (by omega)
  have HQ3 := Lib.hid hq3
  have HA := Lib.hid (attributeOf_0 n hk)
  have HD := Lib.hid (rd_user (ctxX c q))
  clear hn hk hq hq3
  have HB0 : Hid (Below w.heap.size w (w.alloc (.cells #[.int .i64 0, .int .u64 0] 30))) := Lib.hid ((Below.refl _ _).alloc (Nat.le_refl _) _)
  have HL0 : Hid (Blk (w.alloc (.cells #[.int .i64 0, .int .u64 0] 30)) w.heap.size 30 #[.int .i64 0, .int .u64 0]) := Lib.hid (Blk.new w _ _)
  have HC := Lib.hid (hC.alloc (.cells #[.int .i64 0, .int .u64 0] 30))
  clear hC
  go_enter Try.func35, Try.ntmps35
  go_upto_region 1 with fail
  generalize w.alloc (.cells #[.int .i64 0, .int .u64 0] 30) = W at *
  generalize hgl : w.heap.size = gl at *
  refine wp_region_phit 14 (rdPhi gc c W) (by kernel_rfl) (by decide) (by kernel_rfl) (by kernel_rfl) (by kernel_rfl) (fun k v u u2 h hb => rdPhi_keep h hb) ?_ ?_
  · refine ⟨⟨trivial, fun A u hK hF => ?_⟩, ⟨trivial, fun A u hK hF => ?_⟩, ⟨trivial, fun A u hK hF => ?_⟩, ⟨trivial, fun A u hK hF => ?_⟩, ⟨trivial, fun A u hK hF => ?_⟩, ⟨trivial, fun A u hK hF => ?_⟩, ⟨trivial, fun A u hK hF => ?_⟩, ⟨trivial, fun A u hK hF => ?_⟩, ⟨trivial, fun A u hK hF => ?_⟩, ⟨trivial, fun A u hK hF => ?_⟩, ⟨trivial, fun A u hK hF => ?_⟩, ⟨trivial, fun A u hK hF => ?_⟩, ⟨trivial, fun A u hK hF => ?_⟩, ⟨trivial, fun A u hK hF => ?_⟩, trivial⟩
    · have f0 : A.tmps[0]?.getD undef = .pointer (some ⟨gc, 0, none⟩) := fact_none (hF 0) (by kernel_rfl)
      unfold Gives
      go_simp
      exact gives_val (Below.refl _ _) rfl
    · have f6 : A.tmps[6]?.getD undef = .pointer (some ⟨gc, 0, none⟩) := fact_some (hF 6) (j := 0) (by kernel_rfl) (by kernel_rfl)
      unfold Gives
      go_simp
      exact gives_val (Below.refl _ _) rfl
    · have f7 : A.tmps[7]?.getD undef = .pointer (some ⟨gc, 0, none⟩) := fact_some (hF 7) (j := 1) (by kernel_rfl) (by kernel_rfl)
      unfold Gives
      go_simp
      exact gives_val (Below.refl _ _) rfl
    · have f8 : A.tmps[8]?.getD undef = .pointer (some ⟨gc, 0, none⟩) := fact_some (hF 8) (j := 2) (by kernel_rfl) (by kernel_rfl)
      have hc := (Blk.keep HC.out hK).cell
      have k0 := hc 0
      have k1 := hc 1
      have k2 := hc 2
      have k3 := hc 3
      have k4 := hc 4
      have k5 := hc 5
      have k6 := hc 6
      clear hc
      unfold Gives
      go_simp
      exact gives_val (Below.refl _ _) rfl
    · have f0 : A.tmps[0]?.getD undef = .pointer (some ⟨gc, 0, none⟩) := fact_none (hF 0) (by kernel_rfl)
      unfold Gives
      go_simp
      exact gives_val (Below.refl _ _) rfl
    · have f10 : A.tmps[10]?.getD undef = .pointer (some ⟨gc, 0, none⟩) := fact_some (hF 10) (j := 4) (by kernel_rfl) (by kernel_rfl)
      unfold Gives
      go_simp
      exact gives_val (Below.refl _ _) rfl
    · have f11 : A.tmps[11]?.getD undef = .pointer (some ⟨gc, 0, none⟩) := fact_some (hF 11) (j := 5) (by kernel_rfl) (by kernel_rfl)
      unfold Gives
      go_simp
      exact gives_val (Below.refl _ _) rfl
    · have f12 : A.tmps[12]?.getD undef = .pointer (some ⟨gc, 7, none⟩) := fact_some (hF 12) (j := 6) (by kernel_rfl) (by kernel_rfl)
      have hc := (Blk.keep HC.out hK).cell
      have k0 := hc 7
      have k1 := hc 8
      have k2 := hc 9
      have k3 := hc 10
      have k4 := hc 11
      have k5 := hc 12
      have k6 := hc 13
      clear hc
      unfold Gives
      go_simp
      exact gives_val (Below.refl _ _) rfl
    · have f0 : A.tmps[0]?.getD undef = .pointer (some ⟨gc, 0, none⟩) := fact_none (hF 0) (by kernel_rfl)
      unfold Gives
      go_simp
      exact gives_val (Below.refl _ _) rfl
    · have f14 : A.tmps[14]?.getD undef = .pointer (some ⟨gc, 0, none⟩) := fact_some (hF 14) (j := 8) (by kernel_rfl) (by kernel_rfl)
      unfold Gives
      go_simp
      exact gives_val (Below.refl _ _) rfl
    · have f15 : A.tmps[15]?.getD undef = .pointer (some ⟨gc, 0, none⟩) := fact_some (hF 15) (j := 9) (by kernel_rfl) (by kernel_rfl)
      unfold Gives
      go_simp
      exact gives_val (Below.refl _ _) rfl
    · have f16 : A.tmps[16]?.getD undef = .pointer (some ⟨gc, 14, none⟩) := fact_some (hF 16) (j := 10) (by kernel_rfl) (by kernel_rfl)
      have hc := (Blk.keep HC.out hK).cell
      have k0 := hc 14
      have k1 := hc 15
      have k2 := hc 16
      have k3 := hc 17
      have k4 := hc 18
      have k5 := hc 19
      have k6 := hc 20
      clear hc
      unfold Gives
      go_simp
      exact gives_val (Below.refl _ _) rfl
    · have f9 : A.tmps[9]?.getD undef = .agg #[.int .i64 c.c1.u, .int .i64 c.c1.ro, .int .i64 c.c1.ty, .int .i64 c.c1.lo.s, .int .u64 c.c1.lo.c, .int .i64 c.c1.hi.s, .int .u64 c.c1.hi.c] := fact_some (hF 9) (j := 3) (by kernel_rfl) (by kernel_rfl)
      have f13 : A.tmps[13]?.getD undef = .agg #[.int .i64 c.c2.u, .int .i64 c.c2.ro, .int .i64 c.c2.ty, .int .i64 c.c2.lo.s, .int .u64 c.c2.lo.c, .int .i64 c.c2.hi.s, .int .u64 c.c2.hi.c] := fact_some (hF 13) (j := 7) (by kernel_rfl) (by kernel_rfl)
      have f17 : A.tmps[17]?.getD undef = .agg #[.int .i64 c.c3.u, .int .i64 c.c3.ro, .int .i64 c.c3.ty, .int .i64 c.c3.lo.s, .int .u64 c.c3.lo.c, .int .i64 c.c3.hi.s, .int .u64 c.c3.hi.c] := fact_some (hF 17) (j := 11) (by kernel_rfl) (by kernel_rfl)
      unfold Gives
      go_simp
      exact gives_val (Below.refl _ _) rfl
    · unfold Gives
      go_simp
      exact gives_val ((Below.refl _ _).alloc (Nat.le_refl _) _) ⟨_, rfl, hK.size, Blk.new _ _ _⟩
  intro a0 W2 hC hsz hdf hF
  have ha := end_mask [false, false, false, false, false, true, true, true, true, true, true, true, true, true, true, true, true, true, true, false, false, false, false, false, false, false, false, false, false] hsz hdf hF (by kernel_rfl)
  have f18 : a0.tmps[18]?.getD undef = .agg #[.int .i64 c.c1.u, .int .i64 c.c1.ro, .int .i64 c.c1.ty, .int .i64 c.c1.lo.s, .int .u64 c.c1.lo.c, .int .i64 c.c1.hi.s, .int .u64 c.c1.hi.c, .int .i64 c.c2.u, .int .i64 c.c2.ro, .int .i64 c.c2.ty, .int .i64 c.c2.lo.s, .int .u64 c.c2.lo.c, .int .i64 c.c2.hi.s, .int .u64 c.c2.hi.c, .int .i64 c.c3.u, .int .i64 c.c3.ro, .int .i64 c.c3.ty, .int .i64 c.c3.lo.s, .int .u64 c.c3.lo.c, .int .i64 c.c3.hi.s, .int .u64 c.c3.hi.c] := fact_end (hF 18) (j := 12) (by kernel_rfl)
  obtain ⟨g5, f5, hg5, hb5⟩ : ∃ g, a0.tmps[5]?.getD undef = .pointer (some ⟨g, 0, none⟩) ∧ W.heap.size ≤ g ∧ Blk W2 g 122 #[.int .i64 0, .int .i64 0, .int .i64 0, .int .i64 0, .int .u64 0, .int .i64 0, .int .u64 0, .int .i64 0, .int .i64 0, .int .i64 0, .int .i64 0, .int .u64 0, .int .i64 0, .int .u64 0, .int .i64 0, .int .i64 0, .int .i64 0, .int .i64 0, .int .u64 0, .int .i64 0, .int .u64 0] := fact_end (hF 5) (j := 13) (by kernel_rfl)
  rw [ha]
  clear ha hF
  simp only [cutM_yes, cutM_no, cutM_nil, Nat.reduceAdd]
  rw [f18, f5]
  clear f18 f5
  generalize a0.tmps[6]?.getD undef = s6
  generalize a0.tmps[7]?.getD undef = s7
  generalize a0.tmps[8]?.getD undef = s8
  generalize a0.tmps[9]?.getD undef = s9
  generalize a0.tmps[10]?.getD undef = s10
  generalize a0.tmps[11]?.getD undef = s11
  generalize a0.tmps[12]?.getD undef = s12
  generalize a0.tmps[13]?.getD undef = s13
  generalize a0.tmps[14]?.getD undef = s14
  generalize a0.tmps[15]?.getD undef = s15
  generalize a0.tmps[16]?.getD undef = s16
  generalize a0.tmps[17]?.getD undef = s17
  clear hsz hdf
  have HG5 : Hid (W.heap.size ≤ g5) := Lib.hid hg5
  have HGL : Hid (gl < W.heap.size) := Lib.hid HL0.out.lt
  have HC2 : Hid (Below W.heap.size W W2) := Lib.hid hC
  refine wpList_store_row (by rfl) _ _ rfl rfl (by rfl) [.int .i64 c.c1.u, .int .i64 c.c1.ro, .int .i64 c.c1.ty, .int .i64 c.c1.lo.s, .int .u64 c.c1.lo.c, .int .i64 c.c1.hi.s, .int .u64 c.c1.hi.c, .int .i64 c.c2.u, .int .i64 c.c2.ro, .int .i64 c.c2.ty, .int .i64 c.c2.lo.s, .int .u64 c.c2.lo.c, .int .i64 c.c2.hi.s, .int .u64 c.c2.hi.c, .int .i64 c.c3.u, .int .i64 c.c3.ro, .int .i64 c.c3.ty, .int .i64 c.c3.lo.s, .int .u64 c.c3.lo.c, .int .i64 c.c3.hi.s, .int .u64 c.c3.hi.c] (.agg #[.int .i64 c.c1.u, .int .i64 c.c1.ro, .int .i64 c.c1.ty, .int .i64 c.c1.lo.s, .int .u64 c.c1.lo.c, .int .i64 c.c1.hi.s, .int .u64 c.c1.hi.c, .int .i64 c.c2.u, .int .i64 c.c2.ro, .int .i64 c.c2.ty, .int .i64 c.c2.lo.s, .int .u64 c.c2.lo.c, .int .i64 c.c2.hi.s, .int .u64 c.c2.hi.c, .int .i64 c.c3.u, .int .i64 c.c3.ro, .int .i64 c.c3.ty, .int .i64 c.c3.lo.s, .int .u64 c.c3.lo.c, .int .i64 c.c3.hi.s, .int .u64 c.c3.hi.c]) (by rfl) rfl (size_case _) hb5 rfl (by intro x hx; simp only [List.mem_cons, List.not_mem_nil, or_false] at hx; rcases hx with rfl | rfl | rfl | rfl | rfl | rfl | rfl | rfl | rfl | rfl | rfl | rfl | rfl | rfl | rfl | rfl | rfl | rfl | rfl | rfl | rfl <;> rfl) ?_
  have HB5 : Hid (Blk (W2.setRow g5 [.int .i64 c.c1.u, .int .i64 c.c1.ro, .int .i64 c.c1.ty, .int .i64 c.c1.lo.s, .int .u64 c.c1.lo.c, .int .i64 c.c1.hi.s, .int .u64 c.c1.hi.c, .int .i64 c.c2.u, .int .i64 c.c2.ro, .int .i64 c.c2.ty, .int .i64 c.c2.lo.s, .int .u64 c.c2.lo.c, .int .i64 c.c2.hi.s, .int .u64 c.c2.hi.c, .int .i64 c.c3.u, .int .i64 c.c3.ro, .int .i64 c.c3.ty, .int .i64 c.c3.lo.s, .int .u64 c.c3.lo.c, .int .i64 c.c3.hi.s, .int .u64 c.c3.hi.c].toArray) g5 122 #[.int .i64 c.c1.u, .int .i64 c.c1.ro, .int .i64 c.c1.ty, .int .i64 c.c1.lo.s, .int .u64 c.c1.lo.c, .int .i64 c.c1.hi.s, .int .u64 c.c1.hi.c, .int .i64 c.c2.u, .int .i64 c.c2.ro, .int .i64 c.c2.ty, .int .i64 c.c2.lo.s, .int .u64 c.c2.lo.c, .int .i64 c.c2.hi.s, .int .u64 c.c2.hi.c, .int .i64 c.c3.u, .int .i64 c.c3.ro, .int .i64 c.c3.ty, .int .i64 c.c3.lo.s, .int .u64 c.c3.lo.c, .int .i64 c.c3.hi.s, .int .u64 c.c3.hi.c]) := Lib.hid (hb5.row _)
  have HBW : Hid (Below W.heap.size W (W2.setRow g5 [.int .i64 c.c1.u, .int .i64 c.c1.ro, .int .i64 c.c1.ty, .int .i64 c.c1.lo.s, .int .u64 c.c1.lo.c, .int .i64 c.c1.hi.s, .int .u64 c.c1.hi.c, .int .i64 c.c2.u, .int .i64 c.c2.ro, .int .i64 c.c2.ty, .int .i64 c.c2.lo.s, .int .u64 c.c2.lo.c, .int .i64 c.c2.hi.s, .int .u64 c.c2.hi.c, .int .i64 c.c3.u, .int .i64 c.c3.ro, .int .i64 c.c3.ty, .int .i64 c.c3.lo.s, .int .u64 c.c3.lo.c, .int .i64 c.c3.hi.s, .int .u64 c.c3.hi.c].toArray)) := Lib.hid (below_row hC hg5 _)
  generalize W2.setRow g5 [.int .i64 c.c1.u, .int .i64 c.c1.ro, .int .i64 c.c1.ty, .int .i64 c.c1.lo.s, .int .u64 c.c1.lo.c, .int .i64 c.c1.hi.s, .int .u64 c.c1.hi.c, .int .i64 c.c2.u, .int .i64 c.c2.ro, .int .i64 c.c2.ty, .int .i64 c.c2.lo.s, .int .u64 c.c2.lo.c, .int .i64 c.c2.hi.s, .int .u64 c.c2.hi.c, .int .i64 c.c3.u, .int .i64 c.c3.ro, .int .i64 c.c3.ty, .int .i64 c.c3.lo.s, .int .u64 c.c3.lo.c, .int .i64 c.c3.hi.s, .int .u64 c.c3.hi.c].toArray = W3 at *
  clear hC hb5 hg5 HC2
  go_upto_region 2 with fail
  have HL3 : Hid (Blk W3 gl 30 #[.int .i64 0, .int .u64 0]) := Lib.hid (HL0.out.keep HBW.out)
  have HB3 : Hid (Below gl w W3) := Lib.hid (HB0.out.trans (HBW.out.mono (by have := HGL.out; omega)))
  have hq1 := HQ1.out
  have hq2 := HQ2.out
  have hq3 : (q : Int) < 3 := by have := HQ3.out; omega
  have hm : ∀ u : World, (method 277 135 (.agg #[]) "accesscontrol/constraint.read").run Try.prog u = .ok (97, .agg #[]) u := fun _ => by kernel_rfl
  refine wp_region_kt 10 (by kernel_rfl) (by kernel_rfl) ?_
  simp only [List.take_succ_cons, List.take_zero, List.drop_succ_cons, List.drop_zero]
  repeat (first
      | go_big_quiet_skip
      | (go_big_quiet_want
         go_big_quiet_op
         first
           | go_big_quiet_on
           | (apply Exists.intro
              refine ⟨fun w1 hC => ?_, ?_⟩
              · first
                  | (go_at_call 56; with_reducible exact hC.call (HA.out _))
                  | (go_at_call 97; with_reducible exact hC.call (HD.out _))
                  | (go_simp; exact ⟨rfl, rfl⟩)
                  | (obtain ⟨d0, d1, d2, d3, d4, d5, d6⟩ := case_cells (Blk.keep HB5.out hC) HQ3.out; go_simp; exact rfl)
              go_big_quiet_on)))
  refine wpQuiet_nil ?_
  intro W4 hC
  have HB4 : Hid (Below gl w W4) := Lib.hid (HB3.out.trans (hC.mono (by have := HL3.out.lt; omega)))
  have HL4 : Hid (Blk W4 gl 30 #[.int .i64 0, .int .u64 0]) := Lib.hid (hC.blk HL3.out)
  have l0 := HL4.out.cell 0
  have l1 := HL4.out.cell 1
  have zl := HL4.out.frozen
  clear hC
  go_wp2_with fail
  exact bodyPost_ret (v := .agg #[.int .i64 (rdX c n).s, .int .u64 (rdX c n).c]) (lvl_ret Try.results35 rfl (by rw [HR.out]; exact (HL4.out.set 0 _).set 1 _)) rfl ⟨rfl, by first | exact below_set1 (below_set1 HB4.out (Nat.le_refl _) 0 _) (Nat.le_refl _) 1 _ | (rw [hgl]; exact below_set1 (below_set1 HB4.out (Nat.le_refl _) 0 _) (Nat.le_refl _) 1 _)⟩
end Go.Proofs.Ytamcfmfkmekkfaa
/- Package constraint: read, one sort of attributes. -/
namespace Go.Proofs.Ytamcfmfkmekkfaa
open Go.RowKit
set_option maxRecDepth 100000 in
set_option maxHeartbeats 16000000 in
theorem read_1 (c : Ca) (gc n : Nat) (hn : n < 15) (hk : (n : Int).tmod 5 = 1) (w : World) (hC : Blk w gc 36 #[.int .i64 c.c1.u, .int .i64 c.c1.ro, .int .i64 c.c1.ty, .int .i64 c.c1.lo.s, .int .u64 c.c1.lo.c, .int .i64 c.c1.hi.s, .int .u64 c.c1.hi.c, .int .i64 c.c2.u, .int .i64 c.c2.ro, .int .i64 c.c2.ty, .int .i64 c.c2.lo.s, .int .u64 c.c2.lo.c, .int .i64 c.c2.hi.s, .int .u64 c.c2.hi.c, .int .i64 c.c3.u, .int .i64 c.c3.ro, .int .i64 c.c3.ty, .int .i64 c.c3.lo.s, .int .u64 c.c3.lo.c, .int .i64 c.c3.hi.s, .int .u64 c.c3.hi.c]) : Calls Try.prog 35 #[.pointer (some ⟨gc, 0, none⟩), .int .i64 n] w fun e w' => e = .returned (.agg #[.int .i64 (rdX c n).s, .int .u64 (rdX c n).c]) ∧ Below w.heap.size w w' := by
  obtain ⟨q, hq⟩ : ∃ q, n / 5 = q := ⟨_, rfl⟩
  have hq3 : q < 3 := by omega
  have HR : Hid (rdX c n = num (ctxX c q).ro) := Lib.hid (by unfold rdX; rw [hk, hq]; rfl)
  have HQ1 : Hid (Int.tdiv (n : Int) 5 = (q : Int)) := Lib.hid (by rw [Int.tdiv_eq_ediv_of_nonneg (by omega)]; omega)
  have HQ2 : Hid ((n : Int) / 5 = (q : Int)) := Lib.hid (by omega)
  have HQ3 := Lib.hid hq3
  have HA := Lib.hid (attributeOf_1 n hk)
  have HD := Lib.hid (rd_role (ctxX c q))
  clear hn hk hq hq3
  have HB0 : Hid (Below w.heap.size w (w.alloc (.cells #[.int .i64 0, .int .u64 0] 30))) := Lib.hid ((Below.refl _ _).alloc (Nat.le_refl _) _)
  have HL0 : Hid (Blk (w.alloc (.cells #[.int .i64 0, .int .u64 0] 30)) w.heap.size 30 #[.int .i64 0, .int .u64 0]) := Lib.hid (Blk.new w _ _)
  have HC := Lib.hid (hC.alloc (.cells #[.int .i64 0, .int .u64 0] 30))
  clear hC
  go_enter Try.func35, Try.ntmps35
  go_upto_region 1 with fail
  generalize w.alloc (.cells #[.int .i64 0, .int .u64 0] 30) = W at *
  generalize hgl : w.heap.size = gl at *
  refine wp_region_phit 14 (rdPhi gc c W) (by kernel_rfl) (by decide) (by kernel_rfl) (by kernel_rfl) (by kernel_rfl) (fun k v u u2 h hb => rdPhi_keep h hb) ?_ ?_
  · refine ⟨⟨trivial, fun A u hK hF => ?_⟩, ⟨trivial, fun A u hK hF => ?_⟩, ⟨trivial, fun A u hK hF => ?_⟩, ⟨trivial, fun A u hK hF => ?_⟩, ⟨trivial, fun A u hK hF => ?_⟩, ⟨trivial, fun A u hK hF => ?_⟩, ⟨trivial, fun A u hK hF => ?_⟩, ⟨trivial, fun A u hK hF => ?_⟩, ⟨trivial, fun A u hK hF => ?_⟩, ⟨trivial, fun A u hK hF => ?_⟩, ⟨trivial, fun A u hK hF => ?_⟩, ⟨trivial, fun A u hK hF => ?_⟩, ⟨trivial, fun A u hK hF => ?_⟩, ⟨trivial, fun A u hK hF => ?_⟩, trivial⟩
    · have f0 : A.tmps[0]?.getD undef = .pointer (some ⟨gc, 0, none⟩) := fact_none (hF 0) (by kernel_rfl)
      unfold Gives
      go_simp
      exact gives_val (Below.refl _ _) rfl
    · have f6 : A.tmps[6]?.getD undef = .pointer (some ⟨gc, 0, none⟩) := fact_some (hF 6) (j := 0) (by kernel_rfl) (by kernel_rfl)
      unfold Gives
      go_simp
      exact gives_val (Below.refl _ _) rfl
    · have f7 : A.tmps[7]?.getD undef = .pointer (some ⟨gc, 0, none⟩) := fact_some (hF 7) (j := 1) (by kernel_rfl) (by kernel_rfl)
      unfold Gives
      go_simp
      exact gives_val (Below.refl _ _) rfl
    · have f8 : A.tmps[8]?.getD undef = .pointer (some ⟨gc, 0, none⟩) := fact_some (hF 8) (j := 2) (by kernel_rfl) (by kernel_rfl)
      have hc := (Blk.keep HC.out hK).cell
      have k0 := hc 0
      have k1 := hc 1
      have k2 := hc 2
      have k3 := hc 3
      have k4 := hc 4
      have k5 := hc 5
      have k6 := hc 6
      clear hc
      unfold Gives
      go_simp
      exact gives_val (Below.refl _ _) rfl
    · have f0 : A.tmps[0]?.getD undef = .pointer (some ⟨gc, 0, none⟩) := fact_none (hF 0) (by kernel_rfl)
      unfold Gives
      go_simp
      exact gives_val (Below.refl _ _) rfl
    · have f10 : A.tmps[10]?.getD undef = .pointer (some ⟨gc, 0, none⟩) := fact_some (hF 10) (j := 4) (by kernel_rfl) (by kernel_rfl)
      unfold Gives
      go_simp
      exact gives_val (Below.refl _ _) rfl
    · have f11 : A.tmps[11]?.getD undef = .pointer (some ⟨gc, 0, none⟩) := fact_some (hF 11) (j := 5) (by kernel_rfl) (by kernel_rfl)
      unfold Gives
      go_simp
      exact gives_val (Below.refl _ _) rfl
    · have f12 : A.tmps[12]?.getD undef = .pointer (some ⟨gc, 7, none⟩) := fact_some (hF 12) (j := 6) (by kernel_rfl) (by kernel_rfl)
      have hc := (Blk.keep HC.out hK).cell
      have k0 := hc 7
      have k1 := hc 8
      have k2 := hc 9
      have k3 := hc 10
      have k4 := hc 11
      have k5 := hc 12
      have k6 := hc 13
      clear hc
      unfold Gives
      go_simp
      exact gives_val (Below.refl _ _) rfl
    · have f0 : A.tmps[0]?.getD undef = .pointer (some ⟨gc, 0, none⟩) := fact_none (hF 0) (by kernel_rfl)
      unfold Gives
      go_simp
      exact gives_val (Below.refl _ _) rfl
    · have f14 : A.tmps[14]?.getD undef = .pointer (some ⟨gc, 0, none⟩) := fact_some (hF 14) (j := 8) (by kernel_rfl) (by kernel_rfl)
      unfold Gives
      go_simp
      exact gives_val (Below.refl _ _) rfl
    · have f15 : A.tmps[15]?.getD undef = .pointer (some ⟨gc, 0, none⟩) := fact_some (hF 15) (j := 9) (by kernel_rfl) (by kernel_rfl)
      unfold Gives
      go_simp
      exact gives_val (Below.refl _ _) rfl
    · have f16 : A.tmps[16]?.getD undef = .pointer (some ⟨gc, 14, none⟩) := fact_some (hF 16) (j := 10) (by kernel_rfl) (by kernel_rfl)
      have hc := (Blk.keep HC.out hK).cell
      have k0 := hc 14
      have k1 := hc 15
      have k2 := hc 16
      have k3 := hc 17
      have k4 := hc 18
      have k5 := hc 19
      have k6 := hc 20
      clear hc
      unfold Gives
      go_simp
      exact gives_val (Below.refl _ _) rfl
    · have f9 : A.tmps[9]?.getD undef = .agg #[.int .i64 c.c1.u, .int .i64 c.c1.ro, .int .i64 c.c1.ty, .int .i64 c.c1.lo.s, .int .u64 c.c1.lo.c, .int .i64 c.c1.hi.s, .int .u64 c.c1.hi.c] := fact_some (hF 9) (j := 3) (by kernel_rfl) (by kernel_rfl)
      have f13 : A.tmps[13]?.getD undef = .agg #[.int .i64 c.c2.u, .int .i64 c.c2.ro, .int .i64 c.c2.ty, .int .i64 c.c2.lo.s, .int .u64 c.c2.lo.c, .int .i64 c.c2.hi.s, .int .u64 c.c2.hi.c] := fact_some (hF 13) (j := 7) (by kernel_rfl) (by kernel_rfl)
      have f17 : A.tmps[17]?.getD undef = .agg #[.int .i64 c.c3.u, .int .i64 c.c3.ro, .int .i64 c.c3.ty, .int .i64 c.c3.lo.s, .int .u64 c.c3.lo.c, .int .i64 c.c3.hi.s, .int .u64 c.c3.hi.c] := fact_some (hF 17) (j := 11) (by kernel_rfl) (by kernel_rfl)
      unfold Gives
      go_simp
      exact gives_val (Below.refl _ _) rfl
    · unfold Gives
      go_simp
      exact gives_val ((Below.refl _ _).alloc (Nat.le_refl _) _) ⟨_, rfl, hK.size, Blk.new _ _ _⟩
  intro a0 W2 hC hsz hdf hF
  have ha := end_mask [false, false, false, false, false, true, true, true, true, true, true, true, true, true, true, true, true, true, true, false, false, false, false, false, false, false, false, false, false] hsz hdf hF (by kernel_rfl)
  have f18 : a0.tmps[18]?.getD undef = .agg #[.int .i64 c.c1.u, .int .i64 c.c1.ro, .int .i64 c.c1.ty, .int .i64 c.c1.lo.s, .int .u64 c.c1.lo.c, .int .i64 c.c1.hi.s, .int .u64 c.c1.hi.c, .int .i64 c.c2.u, .int .i64 c.c2.ro, .int .i64 c.c2.ty, .int .i64 c.c2.lo.s, .int .u64 c.c2.lo.c, .int .i64 c.c2.hi.s, .int .u64 c.c2.hi.c, .int .i64 c.c3.u, .int .i64 c.c3.ro, .int .i64 c.c3.ty, .int .i64 c.c3.lo.s, .int .u64 c.c3.lo.c, .int .i64 c.c3.hi.s, .int .u64 c.c3.hi.c] := fact_end (hF 18) (j := 12) (by kernel_rfl)
  obtain ⟨g5, f5, hg5, hb5⟩ : ∃ g, a0.tmps[5]?.getD undef = .pointer (some ⟨g, 0, none⟩) ∧ W.heap.size ≤ g ∧ Blk W2 g 122 #[.int .i64 0, .int .i64 0, .int .i64 0, .int .i64 0, .int .u64 0, .int .i64 0, .int .u64 0, .int .i64 0, .int .i64 0, .int .i64 0, .int .i64 0, .int .u64 0, .int .i64 0, .int .u64 0, .int .i64 0, .int .i64 0, .int .i64 0, .int .i64 0, .int .u64 0, .int .i64 0, .int .u64 0] := fact_end (hF 5) (j := 13) (by kernel_rfl)
  rw [ha]
  clear ha hF
  simp only [cutM_yes, cutM_no, cutM_nil, Nat.reduceAdd]
  rw [f18, f5]
  clear f18 f5
  generalize a0.tmps[6]?.getD undef = s6
  generalize a0.tmps[7]?.getD undef = s7
  generalize a0.tmps[8]?.getD undef = s8
  generalize a0.tmps[9]?.getD undef = s9
  generalize a0.tmps[10]?.getD undef = s10
  generalize a0.tmps[11]?.getD undef = s11
  generalize a0.tmps[12]?.getD undef = s12
  generalize a0.tmps[13]?.getD undef = s13
  generalize a0.tmps[14]?.getD undef = s14
  generalize a0.tmps[15]?.getD undef = s15
  generalize a0.tmps[16]?.getD undef = s16
  generalize a0.tmps[17]?.getD undef = s17
  clear hsz hdf
  have HG5 : Hid (W.heap.size ≤ g5) := Lib.hid hg5
  have HGL : Hid (gl < W.heap.size) := Lib.hid HL0.out.lt
  have HC2 : Hid (Below W.heap.size W W2) := Lib.hid hC
  refine wpList_store_row (by rfl) _ _ rfl rfl (by rfl) [.int .i64 c.c1.u, .int .i64 c.c1.ro, .int .i64 c.c1.ty, .int .i64 c.c1.lo.s, .int .u64 c.c1.lo.c, .int .i64 c.c1.hi.s, .int .u64 c.c1.hi.c, .int .i64 c.c2.u, .int .i64 c.c2.ro, .int .i64 c.c2.ty, .int .i64 c.c2.lo.s, .int .u64 c.c2.lo.c, .int .i64 c.c2.hi.s, .int .u64 c.c2.hi.c, .int .i64 c.c3.u, .int .i64 c.c3.ro, .int .i64 c.c3.ty, .int .i64 c.c3.lo.s, .int .u64 c.c3.lo.c, .int .i64 c.c3.hi.s, .int .u64 c.c3.hi.c] (.agg #[.int .i64 c.c1.u, .int .i64 c.c1.ro, .int .i64 c.c1.ty, .int .i64 c.c1.lo.s, .int .u64 c.c1.lo.c, .int .i64 c.c1.hi.s, .int .u64 c.c1.hi.c, .int .i64 c.c2.u, .int .i64 c.c2.ro, .int .i64 c.c2.ty, .int .i64 c.c2.lo.s, .int .u64 c.c2.lo.c, .int .i64 c.c2.hi.s, .int .u64 c.c2.hi.c, .int .i64 c.c3.u, .int .i64 c.c3.ro, .int .i64 c.c3.ty, .int .i64 c.c3.lo.s, .int .u64 c.c3.lo.c, .int .i64 c.c3.hi.s, .int .u64 c.c3.hi.c]) (by rfl) rfl (size_case _) hb5 rfl (by intro x hx; simp only [List.mem_cons, List.not_mem_nil, or_false] at hx; rcases hx with rfl | rfl | rfl | rfl | rfl | rfl | rfl | rfl | rfl | rfl | rfl | rfl | rfl | rfl | rfl | rfl | rfl | rfl | rfl | rfl | rfl <;> rfl) ?_
  have HB5 : Hid (Blk (W2.setRow g5 [.int .i64 c.c1.u, .int .i64 c.c1.ro, .int .i64 c.c1.ty, .int .i64 c.c1.lo.s, .int .u64 c.c1.lo.c, .int .i64 c.c1.hi.s, .int .u64 c.c1.hi.c, .int .i64 c.c2.u, .int .i64 c.c2.ro, .int .i64 c.c2.ty, .int .i64 c.c2.lo.s, .int .u64 c.c2.lo.c, .int .i64 c.c2.hi.s, .int .u64 c.c2.hi.c, .int .i64 c.c3.u, .int .i64 c.c3.ro, .int .i64 c.c3.ty, .int .i64 c.c3.lo.s, .int .u64 c.c3.lo.c, .int .i64 c.c3.hi.s, .int .u64 c.c3.hi.c].toArray) g5 122 #[.int .i64 c.c1.u, .int .i64 c.c1.ro, .int .i64 c.c1.ty, .int .i64 c.c1.lo.s, .int .u64 c.c1.lo.c, .int .i64 c.c1.hi.s, .int .u64 c.c1.hi.c, .int .i64 c.c2.u, .int .i64 c.c2.ro, .int .i64 c.c2.ty, .int .i64 c.c2.lo.s, .int .u64 c.c2.lo.c, .int .i64 c.c2.hi.s, .int .u64 c.c2.hi.c, .int .i64 c.c3.u, .int .i64 c.c3.ro, .int .i64 c.c3.ty, .int .i64 c.c3.lo.s, .int .u64 c.c3.lo.c, .int .i64 c.c3.hi.s, .int .u64 c.c3.hi.c]) := Lib.hid (hb5.row _)
  have HBW : Hid (Below W.heap.size W (W2.setRow g5 [.int .i64 c.c1.u, .int .i64 c.c1.ro, .int .i64 c.c1.ty, .int .i64 c.c1.lo.s, .int .u64 c.c1.lo.c, .int .i64 c.c1.hi.s, .int .u64 c.c1.hi.c, .int .i64 c.c2.u, .int .i64 c.c2.ro, .int .i64 c.c2.ty, .int .i64 c.c2.lo.s, .int .u64 c.c2.lo.c, .int .i64 c.c2.hi.s, .int .u64 c.c2.hi.c, .int .i64 c.c3.u, .int .i64 c.c3.ro, .int .i64 c.c3.ty, .int .i64 c.c3.lo.s, .int .u64 c.c3.lo.c, .int .i64 c.c3.hi.s, .int .u64 c.c3.hi.c].toArray)) := Lib.hid (below_row hC hg5 _)
  generalize W2.setRow g5 [.int .i64 c.c1.u, .int .i64 c.c1.ro, .int .i64 c.c1.ty, .int .i64 c.c1.lo.s, .int .u64 c.c1.lo.c, .int .i64 c.c1.hi.s, .int .u64 c.c1.hi.c, .int .i64 c.c2.u, .int .i64 c.c2.ro, .int .i64 c.c2.ty, .int .i64 c.c2.lo.s, .int .u64 c.c2.lo.c, .int .i64 c.c2.hi.s, .int .u64 c.c2.hi.c, .int .i64 c.c3.u, .int .i64 c.c3.ro, .int .i64 c.c3.ty, .int .i64 c.c3.lo.s, .int .u64 c.c3.lo.c, .int .i64 c.c3.hi.s, .int .u64 c.c3.hi.c].toArray = W3 at *
  clear hC hb5 hg5 HC2
  go_upto_region 2 with fail
  have HL3 : Hid (Blk W3 gl 30 #[.int .i64 0, .int .u64 0]) := Lib.hid (HL0.out.keep HBW.out)
  have HB3 : Hid (Below gl w W3) := Lib.hid (HB0.out.trans (HBW.out.mono (by have := HGL.out; omega)))
  have hq1 := HQ1.out
  have hq2 := HQ2.out
  have hq3 : (q : Int) < 3 := by have := HQ3.out; omega
  have hm : ∀ u : World, (method 277 136 (.agg #[]) "accesscontrol/constraint.read").run Try.prog u = .ok (98, .agg #[]) u := fun _ => by kernel_rfl
  refine wp_region_kt 10 (by kernel_rfl) (by kernel_rfl) ?_
  simp only [List.take_succ_cons, List.take_zero, List.drop_succ_cons, List.drop_zero]
  repeat (first
      | go_big_quiet_skip
      | (go_big_quiet_want
         go_big_quiet_op
         first
           | go_big_quiet_on
           | (apply Exists.intro
              refine ⟨fun w1 hC => ?_, ?_⟩
              · first
                  | (go_at_call 56; with_reducible exact hC.call (HA.out _))
                  | (go_at_call 98; with_reducible exact hC.call (HD.out _))
                  | (go_simp; exact ⟨rfl, rfl⟩)
                  | (obtain ⟨d0, d1, d2, d3, d4, d5, d6⟩ := case_cells (Blk.keep HB5.out hC) HQ3.out; go_simp; exact rfl)
              go_big_quiet_on)))
  refine wpQuiet_nil ?_
  intro W4 hC
  have HB4 : Hid (Below gl w W4) := Lib.hid (HB3.out.trans (hC.mono (by have := HL3.out.lt; omega)))
  have HL4 : Hid (Blk W4 gl 30 #[.int .i64 0, .int .u64 0]) := Lib.hid (hC.blk HL3.out)
  have l0 := HL4.out.cell 0
  have l1 := HL4.out.cell 1
  have zl := HL4.out.frozen
  clear hC
  go_wp2_with fail
  exact bodyPost_ret (v := .agg #[.int .i64 (rdX c n).s, .int .u64 (rdX c n).c]) (lvl_ret Try.results35 rfl (by rw [HR.out]; exact (HL4.out.set 0 _).set 1 _)) rfl ⟨rfl, by first | exact below_set1 (below_set1 HB4.out (Nat.le_refl _) 0 _) (Nat.le_refl _) 1 _ | (rw [hgl]; exact below_set1 (below_set1 HB4.out (Nat.le_refl _) 0 _) (Nat.le_refl _) 1 _)⟩
end Go.Proofs.Ytamcfmfkmekkfaa
/- Package constraint: read, one sort of attributes. -/
namespace Go.Proofs.Ytamcfmfkmekkfaa
open Go.RowKit
set_option maxRecDepth 100000 in
set_option maxHeartbeats 16000000 in
theorem read_2 (c : Ca) (gc n : Nat) (hn : n < 15) (hk : (n : Int).tmod 5 = 2) (w : World) (hC : Blk w gc 36 #[.int .i64 c.c1.u, .int .i64 c.c1.ro, .int .i64 c.c1.ty, .int .i64 c.c1.lo.s, .int .u64 c.c1.lo.c, .int .i64 c.c1.hi.s, .int .u64 c.c1.hi.c, .int .i64 c.c2.u, .int .i64 c.c2.ro, .int .i64 c.c2.ty, .int .i64 c.c2.lo.s, .int .u64 c.c2.lo.c, .int .i64 c.c2.hi.s, .int .u64 c.c2.hi.c, .int .i64 c.c3.u, .int .i64 c.c3.ro, .int .i64 c.c3.ty, .int .i64 c.c3.lo.s, .int .u64 c.c3.lo.c, .int .i64 c.c3.hi.s, .int .u64 c.c3.hi.c]) : Calls Try.prog 35 #[.pointer (some ⟨gc, 0, none⟩), .int .i64 n] w fun e w' => e = .returned (.agg #[.int .i64 (rdX c n).s, .int .u64 (rdX c n).c]) ∧ Below w.heap.size w w' := by
  obtain ⟨q, hq⟩ : ∃ q, n / 5 = q := ⟨_, rfl⟩
  have hq3 : q < 3 := by omega
  have HR : Hid (rdX c n = num (ctxX c q).ty) := Lib.hid (by unfold rdX; rw [hk, hq]; rfl)
  have HQ1 : Hid (Int.tdiv (n : Int) 5 = (q : Int)) := Lib.hid (by rw [Int.tdiv_eq_ediv_of_nonneg (by omega)]; omega)
  have HQ2 : Hid ((n : Int) / 5 = (q : Int)) := Lib.hid (by omega)
  have HQ3 := Lib.hid hq3
  have HA := Lib.hid (attributeOf_2 n hk)
  have HD := Lib.hid (rd_typeOf (ctxX c q))
  clear hn hk hq hq3
  have HB0 : Hid (Below w.heap.size w (w.alloc (.cells #[.int .i64 0, .int .u64 0] 30))) := Lib.hid ((Below.refl _ _).alloc (Nat.le_refl _) _)
  have HL0 : Hid (Blk (w.alloc (.cells #[.int .i64 0, .int .u64 0] 30)) w.heap.size 30 #[.int .i64 0, .int .u64 0]) := Lib.hid (Blk.new w _ _)
  have HC := Lib.hid (hC.alloc (.cells #[.int .i64 0, .int .u64 0] 30))
  clear hC
  go_enter Try.func35, Try.ntmps35
  go_upto_region 1 with fail
  generalize w.alloc (.cells #[.int .i64 0, .int .u64 0] 30) = W at *
  generalize hgl : w.heap.size = gl at *
  refine wp_region_phit 14 (rdPhi gc c W) (by kernel_rfl) (by decide) (by kernel_rfl) (by kernel_rfl) (by kernel_rfl) (fun k v u u2 h hb => rdPhi_keep h hb) ?_ ?_
  · refine ⟨⟨trivial, fun A u hK hF => ?_⟩, ⟨trivial, fun A u hK hF => ?_⟩, ⟨trivial, fun A u hK hF => ?_⟩, ⟨trivial, fun A u hK hF => ?_⟩, ⟨trivial, fun A u hK hF => ?_⟩, ⟨trivial, fun A u hK hF => ?_⟩, ⟨trivial, fun A u hK hF => ?_⟩, ⟨trivial, fun A u hK hF => ?_⟩, ⟨trivial, fun A u hK hF => ?_⟩, ⟨trivial, fun A u hK hF => ?_⟩, ⟨trivial, fun A u hK hF => ?_⟩, ⟨trivial, fun A u hK hF => ?_⟩, ⟨trivial, fun A u hK hF => ?_⟩, ⟨trivial, fun A u hK hF => ?_⟩, trivial⟩
    · have f0 : A.tmps[0]?.getD undef = .pointer (some ⟨gc, 0, none⟩) := fact_none (hF 0) (by kernel_rfl)
      unfold Gives
      go_simp
      exact gives_val (Below.refl _ _) rfl
    · have f6 : A.tmps[6]?.getD undef = .pointer (some ⟨gc, 0, none⟩) := fact_some (hF 6) (j := 0) (by kernel_rfl) (by kernel_rfl)
      unfold Gives
      go_simp
      exact gives_val (Below.refl _ _) rfl
    · have f7 : A.tmps[7]?.getD undef = .pointer (some ⟨gc, 0, none⟩) := fact_some (hF 7) (j := 1) (by kernel_rfl) (by kernel_rfl)
      unfold Gives
      go_simp
      exact gives_val (Below.refl _ _) rfl
    · have f8 : A.tmps[8]?.getD undef = .pointer (some ⟨gc, 0, none⟩) := fact_some (hF 8) (j := 2) (by kernel_rfl) (by kernel_rfl)
      have hc := (Blk.keep HC.out hK).cell
      have k0 := hc 0
      have k1 := hc 1
      have k2 := hc 2
      have k3 := hc 3
      have k4 := hc 4
      have k5 := hc 5
      have k6 := hc 6
      clear hc
      unfold Gives
      go_simp
      exact gives_val (Below.refl _ _) rfl
    · have f0 : A.tmps[0]?.getD undef = .pointer (some ⟨gc, 0, none⟩) := fact_none (hF 0) (by kernel_rfl)
      unfold Gives
      go_simp
      exact gives_val (Below.refl _ _) rfl
    · have f10 : A.tmps[10]?.getD undef = .pointer (some ⟨gc, 0, none⟩) := fact_some (hF 10) (j := 4) (by kernel_rfl) (by kernel_rfl)
      unfold Gives
      go_simp
      exact gives_val (Below.refl _ _) rfl
    · have f11 : A.tmps[11]?.getD undef = .pointer (some ⟨gc, 0, none⟩) := fact_some (hF 11) (j := 5) (by kernel_rfl) (by kernel_rfl)
      unfold Gives
      go_simp
      exact gives_val (Below.refl _ _) rfl
    · have f12 : A.tmps[12]?.getD undef = .pointer (some ⟨gc, 7, none⟩) := fact_some (hF 12) (j := 6) (by kernel_rfl) (by kernel_rfl)
      have hc := (Blk.keep HC.out hK).cell
      have k0 := hc 7
      have k1 := hc 8
      have k2 := hc 9
      have k3 := hc 10
      have k4 := hc 11
      have k5 := hc 12
      have k6 := hc 13
      clear hc
      unfold Gives
      go_simp
      exact gives_val (Below.refl _ _) rfl
    · have f0 : A.tmps[0]?.getD undef = .pointer (some ⟨gc, 0, none⟩) := fact_none (hF 0) (by kernel_rfl)
      unfold Gives
      go_simp
      exact gives_val (Below.refl _ _) rfl
    · have f14 : A.tmps[14]?.getD undef = .pointer (some ⟨gc, 0, none⟩) := fact_some (hF 14) (j := 8) (by kernel_rfl) (by kernel_rfl)
      unfold Gives
      go_simp
      exact gives_val (Below.refl _ _) rfl
    · have f15 : A.tmps[15]?.getD undef = .pointer (some ⟨gc, 0, none⟩) := fact_some (hF 15) (j := 9) (by kernel_rfl) (by kernel_rfl)
      unfold Gives
      go_simp
      exact gives_val (Below.refl _ _) rfl
    · have f16 : A.tmps[16]?.getD undef = .pointer (some ⟨gc, 14, none⟩) := fact_some (hF 16) (j := 10) (by kernel_rfl) (by kernel_rfl)
      have hc := (Blk.keep HC.out hK).cell
      have k0 := hc 14
      have k1 := hc 15
      have k2 := hc 16
      have k3 := hc 17
      have k4 := hc 18
      have k5 := hc 19
      have k6 := hc 20
      clear hc
      unfold Gives
      go_simp
      exact gives_val (Below.refl _ _) rfl
    · have f9 : A.tmps[9]?.getD undef = .agg #[.int .i64 c.c1.u, .int .i64 c.c1.ro, .int .i64 c.c1.ty, .int .i64 c.c1.lo.s, .int .u64 c.c1.lo.c, .int .i64 c.c1.hi.s, .int .u64 c.c1.hi.c] := fact_some (hF 9) (j := 3) (by kernel_rfl) (by kernel_rfl)
      have f13 : A.tmps[13]?.getD undef = .agg #[.int .i64 c.c2.u, .int .i64 c.c2.ro, .int .i64 c.c2.ty, .int .i64 c.c2.lo.s, .int .u64 c.c2.lo.c, .int .i64 c.c2.hi.s, .int .u64 c.c2.hi.c] := fact_some (hF 13) (j := 7) (by kernel_rfl) (by kernel_rfl)
      have f17 : A.tmps[17]?.getD undef = .agg #[.int .i64 c.c3.u, .int .i64 c.c3.ro, .int .i64 c.c3.ty, .int .i64 c.c3.lo.s, .int .u64 c.c3.lo.c, .int .i64 c.c3.hi.s, .int .u64 c.c3.hi.c] := fact_some (hF 17) (j := 11) (by kernel_rfl) (by kernel_rfl)
      unfold Gives
      go_simp
      exact gives_val (Below.refl _ _) rfl
    · unfold Gives
      go_simp
      exact gives_val ((Below.refl _ _).alloc (Nat.le_refl _) _) ⟨_, rfl, hK.size, Blk.new _ _ _⟩
  intro a0 W2 hC hsz hdf hF
  have ha := end_mask [false, false, false, false, false, true, true, true, true, true, true, true, true, true, true, true, true, true, true, false, false, false, false, false, false, false, false, false, false] hsz hdf hF (by kernel_rfl)
  have f18 : a0.tmps[18]?.getD undef = .agg #[.int .i64 c.c1.u, .int .i64 c.c1.ro, .int .i64 c.c1.ty, .int .i64 c.c1.lo.s, .int .u64 c.c1.lo.c, .int .i64 c.c1.hi.s, .int .u64 c.c1.hi.c, .int .i64 c.c2.u, .int .i64 c.c2.ro, .int .i64 c.c2.ty, .int .i64 c.c2.lo.s, .int .u64 c.c2.lo.c, .int .i64 c.c2.hi.s, .int .u64 c.c2.hi.c, .int .i64 c.c3.u, .int .i64 c.c3.ro, .int .i64 c.c3.ty, .int .i64 c.c3.lo.s, .int .u64 c.c3.lo.c, .int .i64 c.c3.hi.s, .int .u64 c.c3.hi.c] := fact_end (hF 18) (j := 12) (by kernel_rfl)
  obtain ⟨g5, f5, hg5, hb5⟩ : ∃ g, a0.tmps[5]?.getD undef = .pointer (some ⟨g, 0, none⟩) ∧ W.heap.size ≤ g ∧ Blk W2 g 122 #[.int .i64 0, .int .i64 0, .int .i64 0, .int .i64 0, .int .u64 0, .int .i64 0, .int .u64 0, .int .i64 0, .int .i64 0, .int .i64 0, .int .i64 0, .int .u64 0, .int .i64 0, .int .u64 0, .int .i64 0, .int .i64 0, .int .i64 0, .int .i64 0, .int .u64 0, .int .i64 0, .int .u64 0] := fact_end (hF 5) (j := 13) (by kernel_rfl)
  rw [ha]
  clear ha hF
  simp only [cutM_yes, cutM_no, cutM_nil, Nat.reduceAdd]
  rw [f18, f5]
  clear f18 f5
  generalize a0.tmps[6]?.getD undef = s6
  generalize a0.tmps[7]?.getD undef = s7
  generalize a0.tmps[8]?.getD undef = s8
  generalize a0.tmps[9]?.getD undef = s9
  generalize a0.tmps[10]?.getD undef = s10
  generalize a0.tmps[11]?.getD undef = s11
  generalize a0.tmps[12]?.getD undef = s12
  generalize a0.tmps[13]?.getD undef = s13
  generalize a0.tmps[14]?.getD undef = s14
  generalize a0.tmps[15]?.getD undef = s15
  generalize a0.tmps[16]?.getD undef = s16
  generalize a0.tmps[17]?.getD undef = s17
  clear hsz hdf
  have HG5 : Hid (W.heap.size ≤ g5) := Lib.hid hg5
  have HGL : Hid (gl < W.heap.size) := Lib.hid HL0.out.lt
  have HC2 : Hid (Below W.heap.size W W2) := Lib.hid hC
  refine wpList_store_row (by rfl) _ _ rfl rfl (by rfl) [.int .i64 c.c1.u, .int .i64 c.c1.ro, .int .i64 c.c1.ty, .int .i64 c.c1.lo.s, .int .u64 c.c1.lo.c, .int .i64 c.c1.hi.s, .int .u64 c.c1.hi.c, .int .i64 c.c2.u, .int .i64 c.c2.ro, .int .i64 c.c2.ty, .int .i64 c.c2.lo.s, .int .u64 c.c2.lo.c, .int .i64 c.c2.hi.s, .int .u64 c.c2.hi.c, .int .i64 c.c3.u, .int .i64 c.c3.ro, .int .i64 c.c3.ty, .int .i64 c.c3.lo.s, .int .u64 c.c3.lo.c, .int .i64 c.c3.hi.s, .int .u64 c.c3.hi.c] (.agg #[.int .i64 c.c1.u, .int .i64 c.c1.ro, .int .i64 c.c1.ty, .int .i64 c.c1.lo.s, .int .u64 c.c1.lo.c, .int .i64 c.c1.hi.s, .int .u64 c.c1.hi.c, .int .i64 c.c2.u, .int .i64 c.c2.ro, .int .i64 c.c2.ty, .int .i64 c.c2.lo.s, .int .u64 c.c2.lo.c, .int .i64 c.c2.hi.s, .int .u64 c.c2.hi.c, .int .i64 c.c3.u, .int .i64 c.c3.ro, .int .i64 c.c3.ty, .int .i64 c.c3.lo.s, .int .u64 c.c3.lo.c, .int .i64 c.c3.hi.s, .int .u64 c.c3.hi.c]) (by rfl) rfl (size_case _) hb5 rfl (by intro x hx; simp only [List.mem_cons, List.not_mem_nil, or_false] at hx; rcases hx with rfl | rfl | rfl | rfl | rfl | rfl | rfl | rfl | rfl | rfl | rfl | rfl | rfl | rfl | rfl | rfl | rfl | rfl | rfl | rfl | rfl <;> rfl) ?_
  have HB5 : Hid (Blk (W2.setRow g5 [.int .i64 c.c1.u, .int .i64 c.c1.ro, .int .i64 c.c1.ty, .int .i64 c.c1.lo.s, .int .u64 c.c1.lo.c, .int .i64 c.c1.hi.s, .int .u64 c.c1.hi.c, .int .i64 c.c2.u, .int .i64 c.c2.ro, .int .i64 c.c2.ty, .int .i64 c.c2.lo.s, .int .u64 c.c2.lo.c, .int .i64 c.c2.hi.s, .int .u64 c.c2.hi.c, .int .i64 c.c3.u, .int .i64 c.c3.ro, .int .i64 c.c3.ty, .int .i64 c.c3.lo.s, .int .u64 c.c3.lo.c, .int .i64 c.c3.hi.s, .int .u64 c.c3.hi.c].toArray) g5 122 #[.int .i64 c.c1.u, .int .i64 c.c1.ro, .int .i64 c.c1.ty, .int .i64 c.c1.lo.s, .int .u64 c.c1.lo.c, .int .i64 c.c1.hi.s, .int .u64 c.c1.hi.c, .int .i64 c.c2.u, .int .i64 c.c2.ro, .int .i64 c.c2.ty, .int .i64 c.c2.lo.s, .int .u64 c.c2.lo.c, .int .i64 c.c2.hi.s, .int .u64 c.c2.hi.c, .int .i64 c.c3.u, .int .i64 c.c3.ro, .int .i64 c.c3.ty, .int .i64 c.c3.lo.s, .int .u64 c.c3.lo.c, .int .i64 c.c3.hi.s, .int .u64 c.c3.hi.c]) := Lib.hid (hb5.row _)
  have HBW : Hid (Below W.heap.size W (W2.setRow g5 [.int .i64 c.c1.u, .int .i64 c.c1.ro, .int .i64 c.c1.ty, .int .i64 c.c1.lo.s, .int .u64 c.c1.lo.c, .int .i64 c.c1.hi.s, .int .u64 c.c1.hi.c, .int .i64 c.c2.u, .int .i64 c.c2.ro, .int .i64 c.c2.ty, .int .i64 c.c2.lo.s, .int .u64 c.c2.lo.c, .int .i64 c.c2.hi.s, .int .u64 c.c2.hi.c, .int .i64 c.c3.u, .int .i64 c.c3.ro, .int .i64 c.c3.ty, .int .i64 c.c3.lo.s, .int .u64 c.c3.lo.c, .int .i64 c.c3.hi.s, .int .u64 c.c3.hi.c].toArray)) := Lib.hid (below_row hC hg5 _)
  generalize W2.setRow g5 [.int .i64 c.c1.u, .int .i64 c.c1.ro, .int .i64 c.c1.ty, .int .i64 c.c1.lo.s, .int .u64 c.c1.lo.c, .int .i64 c.c1.hi.s, .int .u64 c.c1.hi.c, .int .i64 c.c2.u, .int .i64 c.c2.ro, .int .i64 c.c2.ty, .int .i64 c.c2.lo.s, .int .u64 c.c2.lo.c, .int .i64 c.c2.hi.s, .int .u64 c.c2.hi.c, .int .i64 c.c3.u, .int .i64 c.c3.ro, .int .i64 c.c3.ty, .int .i64 c.c3.lo.s, .int .u64 c.c3.lo.c, .int .i64 c.c3.hi.s, .int .u64 c.c3.hi.c].toArray = W3 at *
  clear hC hb5 hg5 HC2
  go_upto_region 2 with fail
  have HL3 : Hid (Blk W3 gl 30 #[.int .i64 0, .int .u64 0]) := Lib.hid (HL0.out.keep HBW.out)
  have HB3 : Hid (Below gl w W3) := Lib.hid (HB0.out.trans (HBW.out.mono (by have := HGL.out; omega)))
  have hq1 := HQ1.out
  have hq2 := HQ2.out
  have hq3 : (q : Int) < 3 := by have := HQ3.out; omega
  have hm : ∀ u : World, (method 277 137 (.agg #[]) "accesscontrol/constraint.read").run Try.prog u = .ok (99, .agg #[]) u := fun _ => by kernel_rfl
  refine wp_region_kt 10 (by kernel_rfl) (by kernel_rfl) ?_
  simp only [List.take_succ_cons, List.take_zero, List.drop_succ_cons, List.drop_zero]
  repeat (first
      | go_big_quiet_skip
      | (go_big_quiet_want
         go_big_quiet_op
         first
           | go_big_quiet_on
           | (apply Exists.intro
              refine ⟨fun w1 hC => ?_, ?_⟩
              · first
                  | (go_at_call 56; with_reducible exact hC.call (HA.out _))
                  | (go_at_call 99; with_reducible exact hC.call (HD.out _))
                  | (go_simp; exact ⟨rfl, rfl⟩)
                  | (obtain ⟨d0, d1, d2, d3, d4, d5, d6⟩ := case_cells (Blk.keep HB5.out hC) HQ3.out; go_simp; exact rfl)
              go_big_quiet_on)))
  refine wpQuiet_nil ?_
  intro W4 hC
  have HB4 : Hid (Below gl w W4) := Lib.hid (HB3.out.trans (hC.mono (by have := HL3.out.lt; omega)))
  have HL4 : Hid (Blk W4 gl 30 #[.int .i64 0, .int .u64 0]) := Lib.hid (hC.blk HL3.out)
  have l0 := HL4.out.cell 0
  have l1 := HL4.out.cell 1
  have zl := HL4.out.frozen
  clear hC
  go_wp2_with fail
  exact bodyPost_ret (v := .agg #[.int .i64 (rdX c n).s, .int .u64 (rdX c n).c]) (lvl_ret Try.results35 rfl (by rw [HR.out]; exact (HL4.out.set 0 _).set 1 _)) rfl ⟨rfl, by first | exact below_set1 (below_set1 HB4.out (Nat.le_refl _) 0 _) (Nat.le_refl _) 1 _ | (rw [hgl]; exact below_set1 (below_set1 HB4.out (Nat.le_refl _) 0 _) (Nat.le_refl _) 1 _)⟩
end Go.Proofs.Ytamcfmfkmekkfaa
/- Package constraint: read, one sort of attributes. -/
namespace Go.Proofs.Ytamcfmfkmekkfaa
open Go.RowKit
set_option maxRecDepth 100000 in
set_option maxHeartbeats 16000000 in
theorem read_3 (c : Ca) (gc n : Nat) (hn : n < 15) (hk : (n : Int).tmod 5 = 3) (w : World) (hC : Blk w gc 36 #[.int .i64 c.c1.u, .int .i64 c.c1.ro, .int .i64 c.c1.ty, .int .i64 c.c1.lo.s, .int .u64 c.c1.lo.c, .int .i64 c.c1.hi.s, .int .u64 c.c1.hi.c, .int .i64 c.c2.u, .int .i64 c.c2.ro, .int .i64 c.c2.ty, .int .i64 c.c2.lo.s, .int .u64 c.c2.lo.c, .int .i64 c.c2.hi.s, .int .u64 c.c2.hi.c, .int .i64 c.c3.u, .int .i64 c.c3.ro, .int .i64 c.c3.ty, .int .i64 c.c3.lo.s, .int .u64 c.c3.lo.c, .int .i64 c.c3.hi.s, .int .u64 c.c3.hi.c]) : Calls Try.prog 35 #[.pointer (some ⟨gc, 0, none⟩), .int .i64 n] w fun e w' => e = .returned (.agg #[.int .i64 (rdX c n).s, .int .u64 (rdX c n).c]) ∧ Below w.heap.size w w' := by
  obtain ⟨q, hq⟩ : ∃ q, n / 5 = q := ⟨_, rfl⟩
  have hq3 : q < 3 := by omega
  have HR : Hid (rdX c n = (ctxX c q).lo) := Lib.hid (by unfold rdX; rw [hk, hq]; rfl)
  have HQ1 : Hid (Int.tdiv (n : Int) 5 = (q : Int)) := Lib.hid (by rw [Int.tdiv_eq_ediv_of_nonneg (by omega)]; omega)
  have HQ2 : Hid ((n : Int) / 5 = (q : Int)) := Lib.hid (by omega)
  have HQ3 := Lib.hid hq3
  have HA := Lib.hid (attributeOf_3 n hk)
  have HD := Lib.hid (rd_lowLevel (ctxX c q))
  clear hn hk hq hq3
  have HB0 : Hid (Below w.heap.size w (w.alloc (.cells #[.int .i64 0, .int .u64 0] 30))) := Lib.hid ((Below.refl _ _).alloc (Nat.le_refl _) _)
  have HL0 : Hid (Blk (w.alloc (.cells #[.int .i64 0, .int .u64 0] 30)) w.heap.size 30 #[.int .i64 0, .int .u64 0]) := Lib.hid (Blk.new w _ _)
  have HC := Lib.hid (hC.alloc (.cells #[.int .i64 0, .int .u64 0] 30))
  clear hC
  go_enter Try.func35, Try.ntmps35
  go_upto_region 1 with fail
  generalize w.alloc (.cells #[.int .i64 0, .int .u64 0] 30) = W at *
  generalize hgl : w.heap.size = gl at *
  refine wp_region_phit 14 (rdPhi gc c W) (by kernel_rfl) (by decide) (by kernel_rfl) (by kernel_rfl) (by kernel_rfl) (fun k v u u2 h hb => rdPhi_keep h hb) ?_ ?_
  · refine ⟨⟨trivial, fun A u hK hF => ?_⟩, ⟨trivial, fun A u hK hF => ?_⟩, ⟨trivial, fun A u hK hF => ?_⟩, ⟨trivial, fun A u hK hF => ?_⟩, ⟨trivial, fun A u hK hF => ?_⟩, ⟨trivial, fun A u hK hF => ?_⟩, ⟨trivial, fun A u hK hF => ?_⟩, ⟨trivial, fun A u hK hF => ?_⟩, ⟨trivial, fun A u hK hF => ?_⟩, ⟨trivial, fun A u hK hF => ?_⟩, ⟨trivial, fun A u hK hF => ?_⟩, ⟨trivial, fun A u hK hF => ?_⟩, ⟨trivial, fun A u hK hF => ?_⟩, ⟨trivial, fun A u hK hF => ?_⟩, trivial⟩
    · have f0 : A.tmps[0]?.getD undef = .pointer (some ⟨gc, 0, none⟩) := fact_none (hF 0) (by kernel_rfl)
      unfold Gives
      go_simp
      exact gives_val (Below.refl _ _) rfl
    · have f6 : A.tmps[6]?.getD undef = .pointer (some ⟨gc, 0, none⟩) := fact_some (hF 6) (j := 0) (by kernel_rfl) (by kernel_rfl)
      unfold Gives
      go_simp
      exact gives_val (Below.refl _ _) rfl
    · have f7 : A.tmps[7]?.getD undef = .pointer (some ⟨gc, 0, none⟩) := fact_some (hF 7) (j := 1) (by kernel_rfl) (by kernel_rfl)
      unfold Gives
      go_simp
      exact gives_val (Below.refl _ _) rfl
    · have f8 : A.tmps[8]?.getD undef = .pointer (some ⟨gc, 0, none⟩) := fact_some (hF 8) (j := 2) (by kernel_rfl) (by kernel_rfl)
      have hc := (Blk.keep HC.out hK).cell
      have k0 := hc 0
      have k1 := hc 1
      have k2 := hc 2
      have k3 := hc 3
      have k4 := hc 4
      have k5 := hc 5
      have k6 := hc 6
      clear hc
      unfold Gives
      go_simp
      exact gives_val (Below.refl _ _) rfl
    · have f0 : A.tmps[0]?.getD undef = .pointer (some ⟨gc, 0, none⟩) := fact_none (hF 0) (by kernel_rfl)
      unfold Gives
      go_simp
      exact gives_val (Below.refl _ _) rfl
    · have f10 : A.tmps[10]?.getD undef = .pointer (some ⟨gc, 0, none⟩) := fact_some (hF 10) (j := 4) (by kernel_rfl) (by kernel_rfl)
      unfold Gives
      go_simp
      exact gives_val (Below.refl _ _) rfl
    · have f11 : A.tmps[11]?.getD undef = .pointer (some ⟨gc, 0, none⟩) := fact_some (hF 11) (j := 5) (by kernel_rfl) (by kernel_rfl)
      unfold Gives
      go_simp
      exact gives_val (Below.refl _ _) rfl
    · have f12 : A.tmps[12]?.getD undef = .pointer (some ⟨gc, 7, none⟩) := fact_some (hF 12) (j := 6) (by kernel_rfl) (by kernel_rfl)
      have hc := (Blk.keep HC.out hK).cell
      have k0 := hc 7
      have k1 := hc 8
      have k2 := hc 9
      have k3 := hc 10
      have k4 := hc 11
      have k5 := hc 12
      have k6 := hc 13
      clear hc
      unfold Gives
      go_simp
      exact gives_val (Below.refl _ _) rfl
    · have f0 : A.tmps[0]?.getD undef = .pointer (some ⟨gc, 0, none⟩) := fact_none (hF 0) (by kernel_rfl)
      unfold Gives
      go_simp
      exact gives_val (Below.refl _ _) rfl
    · have f14 : A.tmps[14]?.getD undef = .pointer (some ⟨gc, 0, none⟩) := fact_some (hF 14) (j := 8) (by kernel_rfl) (by kernel_rfl)
      unfold Gives
      go_simp
      exact gives_val (Below.refl _ _) rfl
    · have f15 : A.tmps[15]?.getD undef = .pointer (some ⟨gc, 0, none⟩) := fact_some (hF 15) (j := 9) (by kernel_rfl) (by kernel_rfl)
      unfold Gives
      go_simp
      exact gives_val (Below.refl _ _) rfl
    · have f16 : A.tmps[16]?.getD undef = .pointer (some ⟨gc, 14, none⟩) := fact_some (hF 16) (j := 10) (by kernel_rfl) (by kernel_rfl)
      have hc := (Blk.keep HC.out hK).cell
      have k0 := hc 14
      have k1 := hc 15
      have k2 := hc 16
      have k3 := hc 17
      have k4 := hc 18
      have k5 := hc 19
      have k6 := hc 20
      clear hc
      unfold Gives
      go_simp
      exact gives_val (Below.refl _ _) rfl
    · have f9 : A.tmps[9]?.getD undef = .agg #[.int .i64 c.c1.u, .int .i64 c.c1.ro, .int .i64 c.c1.ty, .int .i64 c.c1.lo.s, .int .u64 c.c1.lo.c, .int .i64 c.c1.hi.s, .int .u64 c.c1.hi.c] := fact_some (hF 9) (j := 3) (by kernel_rfl) (by kernel_rfl)
      have f13 : A.tmps[13]?.getD undef = .agg #[.int .i64 c.c2.u, .int .i64 c.c2.ro, .int .i64 c.c2.ty, .int .i64 c.c2.lo.s, .int .u64 c.c2.lo.c, .int .i64 c.c2.hi.s, .int .u64 c.c2.hi.c] := fact_some (hF 13) (j := 7) (by kernel_rfl) (by kernel_rfl)
      have f17 : A.tmps[17]?.getD undef = .agg #[.int .i64 c.c3.u, .int .i64 c.c3.ro, .int .i64 c.c3.ty, .int .i64 c.c3.lo.s, .int .u64 c.c3.lo.c, .int .i64 c.c3.hi.s, .int .u64 c.c3.hi.c] := fact_some (hF 17) (j := 11) (by kernel_rfl) (by kernel_rfl)
      unfold Gives
      go_simp
      exact gives_val (Below.refl _ _) rfl
    · unfold Gives
      go_simp
      exact gives_val ((Below.refl _ _).alloc (Nat.le_refl _) _) ⟨_, rfl, hK.size, Blk.new _ _ _⟩
  intro a0 W2 hC hsz hdf hF
  have ha := end_mask [false, false, false, false, false, true, true, true, true, true, true, true, true, true, true, true, true, true, true, false, false, false, false, false, false, false, false, false, false] hsz hdf hF (by kernel_rfl)
  have f18 : a0.tmps[18]?.getD undef = .agg #[.int .i64 c.c1.u, .int .i64 c.c1.ro, .int .i64 c.c1.ty, .int .i64 c.c1.lo.s, .int .u64 c.c1.lo.c, .int .i64 c.c1.hi.s, .int .u64 c.c1.hi.c, .int .i64 c.c2.u, .int .i64 c.c2.ro, .int .i64 c.c2.ty, .int .i64 c.c2.lo.s, .int .u64 c.c2.lo.c, .int .i64 c.c2.hi.s, .int .u64 c.c2.hi.c, .int .i64 c.c3.u, .int .i64 c.c3.ro, .int .i64 c.c3.ty, .int .i64 c.c3.lo.s, .int .u64 c.c3.lo.c, .int .i64 c.c3.hi.s, .int .u64 c.c3.hi.c] := fact_end (hF 18) (j := 12) (by kernel_rfl)
  obtain ⟨g5, f5, hg5, hb5⟩ : ∃ g, a0.tmps[5]?.getD undef = .pointer (some ⟨g, 0, none⟩) ∧ W.heap.size ≤ g ∧ Blk W2 g 122 #[.int .i64 0, .int .i64 0, .int .i64 0, .int .i64 0, .int .u64 0, .int .i64 0, .int .u64 0, .int .i64 0, .int .i64 0, .int .i64 0, .int .i64 0, .int .u64 0, .int .i64 0, .int .u64 0, .int .i64 0, .int .i64 0, .int .i64 0, .int .i64 0, .int .u64 0, .int .i64 0, .int .u64 0] := fact_end (hF 5) (j := 13) (by kernel_rfl)
  rw [ha]
  clear ha hF
  simp only [cutM_yes, cutM_no, cutM_nil, Nat.reduceAdd]
  rw [f18, f5]
  clear f18 f5
  generalize a0.tmps[6]?.getD undef = s6
  generalize a0.tmps[7]?.getD undef = s7
  generalize a0.tmps[8]?.getD undef = s8
  generalize a0.tmps[9]?.getD undef = s9
  generalize a0.tmps[10]?.getD undef = s10
  generalize a0.tmps[11]?.getD undef = s11
  generalize a0.tmps[12]?.getD undef = s12
  generalize a0.tmps[13]?.getD undef = s13
  generalize a0.tmps[14]?.getD undef = s14
  generalize a0.tmps[15]?.getD undef = s15
  generalize a0.tmps[16]?.getD undef = s16
  generalize a0.tmps[17]?.getD undef = s17
  clear hsz hdf
  have HG5 : Hid (W.heap.size ≤ g5) := Lib.hid hg5
  have HGL : Hid (gl < W.heap.size) := Lib.hid HL0.out.lt
  have HC2 : Hid (Below W.heap.size W W2) := Lib.hid hC
  refine wpList_store_row (by rfl) _ _ rfl rfl (by rfl) [.int .i64 c.c1.u, .int .i64 c.c1.ro, .int .i64 c.c1.ty, .int .i64 c.c1.lo.s, .int .u64 c.c1.lo.c, .int .i64 c.c1.hi.s, .int .u64 c.c1.hi.c, .int .i64 c.c2.u, .int .i64 c.c2.ro, .int .i64 c.c2.ty, .int .i64 c.c2.lo.s, .int .u64 c.c2.lo.c, .int .i64 c.c2.hi.s, .int .u64 c.c2.hi.c, .int .i64 c.c3.u, .int .i64 c.c3.ro, .int .i64 c.c3.ty, .int .i64 c.c3.lo.s, .int .u64 c.c3.lo.c, .int .i64 c.c3.hi.s, .int .u64 c.c3.hi.c] (.agg #[.int .i64 c.c1.u, .int .i64 c.c1.ro, .int .i64 c.c1.ty, .int .i64 c.c1.lo.s, .int .u64 c.c1.lo.c, .int .i64 c.c1.hi.s, .int .u64 c.c1.hi.c, .int .i64 c.c2.u, .int .i64 c.c2.ro, .int .i64 c.c2.ty, .int .i64 c.c2.lo.s, .int .u64 c.c2.lo.c, .int .i64 c.c2.hi.s, .int .u64 c.c2.hi.c, .int .i64 c.c3.u, .int .i64 c.c3.ro, .int .i64 c.c3.ty, .int .i64 c.c3.lo.s, .int .u64 c.c3.lo.c, .int .i64 c.c3.hi.s, .int .u64 c.c3.hi.c]) (by rfl) rfl (size_case _) hb5 rfl (by intro x hx; simp only [List.mem_cons, List.not_mem_nil, or_false] at hx; rcases hx with rfl | rfl | rfl | rfl | rfl | rfl | rfl | rfl | rfl | rfl | rfl | rfl | rfl | rfl | rfl | rfl | rfl | rfl | rfl | rfl | rfl <;> rfl) ?_
  have HB5 : Hid (Blk (W2.setRow g5 [.int .i64 c.c1.u, .int .i64 c.c1.ro, .int .i64 c.c1.ty, .int .i64 c.c1.lo.s, .int .u64 c.c1.lo.c, .int .i64 c.c1.hi.s, .int .u64 c.c1.hi.c, .int .i64 c.c2.u, .int .i64 c.c2.ro, .int .i64 c.c2.ty, .int .i64 c.c2.lo.s, .int .u64 c.c2.lo.c, .int .i64 c.c2.hi.s, .int .u64 c.c2.hi.c, .int .i64 c.c3.u, .int .i64 c.c3.ro, .int .i64 c.c3.ty, .int .i64 c.c3.lo.s, .int .u64 c.c3.lo.c, .int .i64 c.c3.hi.s, .int .u64 c.c3.hi.c].toArray) g5 122 #[.int .i64 c.c1.u, .int .i64 c.c1.ro, .int .i64 c.c1.ty, .int .i64 c.c1.lo.s, .int .u64 c.c1.lo.c, .int .i64 c.c1.hi.s, .int .u64 c.c1.hi.c, .int .i64 c.c2.u, .int .i64 c.c2.ro, .int .i64 c.c2.ty, .int .i64 c.c2.lo.s, .int .u64 c.c2.lo.c, .int .i64 c.c2.hi.s, .int .u64 c.c2.hi.c, .int .i64 c.c3.u, .int .i64 c.c3.ro, .int .i64 c.c3.ty, .int .i64 c.c3.lo.s, .int .u64 c.c3.lo.c, .int .i64 c.c3.hi.s, .int .u64 c.c3.hi.c]) := Lib.hid (hb5.row _)
  have HBW : Hid (Below W.heap.size W (W2.setRow g5 [.int .i64 c.c1.u, .int .i64 c.c1.ro, .int .i64 c.c1.ty, .int .i64 c.c1.lo.s, .int .u64 c.c1.lo.c, .int .i64 c.c1.hi.s, .int .u64 c.c1.hi.c, .int .i64 c.c2.u, .int .i64 c.c2.ro, .int .i64 c.c2.ty, .int .i64 c.c2.lo.s, .int .u64 c.c2.lo.c, .int .i64 c.c2.hi.s, .int .u64 c.c2.hi.c, .int .i64 c.c3.u, .int .i64 c.c3.ro, .int .i64 c.c3.ty, .int .i64 c.c3.lo.s, .int .u64 c.c3.lo.c, .int .i64 c.c3.hi.s, .int .u64 c.c3.hi.c].toArray)) := Lib.hid (below_row hC hg5 _)
  generalize W2.setRow g5 [.int .i64 c.c1.u, .int .i64 c.c1.ro, .int .i64 c.c1.ty, .int .i64 c.c1.lo.s, .int .u64 c.c1.lo.c, .int .i64 c.c1.hi.s, .int .u64 c.c1.hi.c, .int .i64 c.c2.u, .int .i64 c.c2.ro, .int .i64 c.c2.ty, .int .i64 c.c2.lo.s, .int .u64 c.c2.lo.c, .int .i64 c.c2.hi.s, .int .u64 c.c2.hi.c, .int .i64 c.c3.u, .int .i64 c.c3.ro, .int .i64 c.c3.ty, .int .i64 c.c3.lo.s, .int .u64 c.c3.lo.c, .int .i64 c.c3.hi.s, .int .u64 c.c3.hi.c].toArray = W3 at *
  clear hC hb5 hg5 HC2
  go_upto_region 2 with fail
  have HL3 : Hid (Blk W3 gl 30 #[.int .i64 0, .int .u64 0]) := Lib.hid (HL0.out.keep HBW.out)
  have HB3 : Hid (Below gl w W3) := Lib.hid (HB0.out.trans (HBW.out.mono (by have := HGL.out; omega)))
  have hq1 := HQ1.out
  have hq2 := HQ2.out
  have hq3 : (q : Int) < 3 := by have := HQ3.out; omega
  have hm : ∀ u : World, (method 277 138 (.agg #[]) "accesscontrol/constraint.read").run Try.prog u = .ok (100, .agg #[]) u := fun _ => by kernel_rfl
  refine wp_region_kt 10 (by kernel_rfl) (by kernel_rfl) ?_
  simp only [List.take_succ_cons, List.take_zero, List.drop_succ_cons, List.drop_zero]
  repeat (first
      | go_big_quiet_skip
      | (go_big_quiet_want
         go_big_quiet_op
         first
           | go_big_quiet_on
           | (apply Exists.intro
              refine ⟨fun w1 hC => ?_, ?_⟩
              · first
                  | (go_at_call 56; with_reducible exact hC.call (HA.out _))
                  | (go_at_call 100; with_reducible exact hC.call (HD.out _))
                  | (go_simp; exact ⟨rfl, rfl⟩)
                  | (obtain ⟨d0, d1, d2, d3, d4, d5, d6⟩ := case_cells (Blk.keep HB5.out hC) HQ3.out; go_simp; exact rfl)
              go_big_quiet_on)))
  refine wpQuiet_nil ?_
  intro W4 hC
  have HB4 : Hid (Below gl w W4) := Lib.hid (HB3.out.trans (hC.mono (by have := HL3.out.lt; omega)))
  have HL4 : Hid (Blk W4 gl 30 #[.int .i64 0, .int .u64 0]) := Lib.hid (hC.blk HL3.out)
  have l0 := HL4.out.cell 0
  have l1 := HL4.out.cell 1
  have zl := HL4.out.frozen
  clear hC
  go_wp2_with fail
  exact bodyPost_ret (v := .agg #[.int .i64 (rdX c n).s, .int .u64 (rdX c n).c]) (lvl_ret Try.results35 rfl (by rw [HR.out]; exact (HL4.out.set 0 _).set 1 _)) rfl ⟨rfl, by first | exact below_set1 (below_set1 HB4.out (Nat.le_refl _) 0 _) (Nat.le_refl _) 1 _ | (rw [hgl]; exact below_set1 (below_set1 HB4.out (Nat.le_refl _) 0 _) (Nat.le_refl _) 1 _)⟩
end Go.Proofs.Ytamcfmfkmekkfaa
