/- Cr4 Cxk Cxl Cxm Cxn Cxo Cxp Cxq Cxr Cxs -/
import Derived.Test.YtamcfmfkmekkfaaZab
/- Package constraint: read, one sort of attributes. -/
namespace Go.Proofs.Ytamcfmfkmekkfaa
open Go.RowKit
set_option maxRecDepth 100000 in
set_option maxHeartbeats 16000000 in
theorem read_4 (c : Ca) (gc n : Nat) (hn : n < 15) (hk : (n : Int).tmod 5 = 4) (w : World) (hC : Blk w gc 36 #[.int .i64 c.c1.u, .int .i64 c.c1.ro, .int .i64 c.c1.ty, .int .i64 c.c1.lo.s, .int .u64 c.c1.lo.c, .int .i64 c.c1.hi.s, .int .u64 c.c1.hi.c, .int .i64 c.c2.u, .int .i64 c.c2.ro, .int .i64 c.c2.ty, .int .i64 c.c2.lo.s, .int .u64 c.c2.lo.c, .int .i64 c.c2.hi.s, .int .u64 c.c2.hi.c, .int .i64 c.c3.u, .int .i64 c.c3.ro, .int .i64 c.c3.ty, .int .i64 c.c3.lo.s, .int .u64 c.c3.lo.c, .int .i64 c.c3.hi.s, .int .u64 c.c3.hi.c]) : Calls Try.prog 35 #[.pointer (some ⟨gc, 0, none⟩), .int .i64 n] w fun e w' => e = .returned (.agg #[.int .i64 (rdX c n).s, .int .u64 (rdX c n).c]) ∧ Below w.heap.size w w' := by
  obtain ⟨q, hq⟩ : ∃ q, n / 5 = q := ⟨_, rfl⟩
  have hq3 : q < 3 := by omega
  have HR : Hid (rdX c n = (ctxX c q).hi) := Lib.hid (by unfold rdX; rw [hk, hq]; rfl)
  have HQ1 : Hid (Int.tdiv (n : Int) 5 = (q : Int)) := Lib.hid (by rw [Int.tdiv_eq_ediv_of_nonneg (by omega)]; omega)
  have HQ2 : Hid ((n : Int) / 5 = (q : Int)) := Lib.hid (by omega)
  have HQ3 := Lib.hid hq3
  have HA := Lib.hid (attributeOf_4 n hk)
  have HD := Lib.hid (rd_highLevel (ctxX c q))
  clear hn hk hq hq3
  have HB0 : Hid (Below w.heap.size w (w.alloc (.cells #[.int .i64 0, .int .u64 0] 30))) := Lib.hid ((Below.refl _ _).alloc (Nat.le_refl _) _)
  have HL0 : Hid (Blk (w.alloc (.cells #[.int .i64 0, .int .u64 0] 30)) w.heap.size 30 #[.int .i64 0, .int .u64 0]) := Lib.hid (Blk.new w _ _)
  have HC := Lib.hid (hC.alloc (.cells #[.int .i64 0, .int .u64 0] 30))
  clear hC
  go_enter Try.func35, Try.ntmps35
  go_upto_region 1 with fail
  generalize w.alloc (.cells #[.int .i64 0, .int .u64 0] 30) = W at *
  generalize hgl : w.heap.size = gl at *
  refine wp_region_phit 14 (rdPhi gc c W) (by kernel_rfl) (by decide) (by kernel_rfl) (by kernel_rfl) (by kernel_rfl) (fun k v u u2 h hb => rdPhi_keep h hb) ?_ ?_
  · refine ⟨⟨trivial, fun A u hK hF => ?_⟩, ⟨trivial, fun A u hK hF => ?_⟩, ⟨trivial, fun A u hK hF => ?_⟩, ⟨trivial, fun A u hK hF => ?_⟩, ⟨trivial, fun A u hK hF => ?_⟩, ⟨trivial, fun A u hK hF => ?_⟩, ⟨trivial, fun A u hK hF => ?_⟩, ⟨trivial, fun A u hK hF => ?_⟩, ⟨trivial, fun A u hK hF => ?_⟩, ⟨trivial, fun A u hK hF => ?_⟩, ⟨trivial, fun A u hK hF => ?_⟩, ⟨trivial, fun A u hK hF => ?_⟩, ⟨trivial, fun A u hK hF => ?_⟩, ⟨trivial, fun A u hK hF => ?_⟩, trivial⟩
    · have f0 : A.tmps[0]?.getD undef = .pointer (some ⟨gc, 0, none⟩) := fact_none (hF 0) (by kernel_rfl)
      unfold Gives
      go_simp
      exact gives_val (Below.refl _ _) rfl
    · have f6 : A.tmps[6]?.getD undef = .pointer (some ⟨gc, 0, none⟩) := fact_some (hF 6) (j := 0) (by kernel_rfl) (by kernel_rfl)
      unfold Gives
      go_simp
      exact gives_val (Below.refl _ _) rfl
    · have f7 : A.tmps[7]?.getD undef = .pointer (some ⟨gc, 0, none⟩) := fact_some (hF 7) (j := 1) (by kernel_rfl) (by kernel_rfl)
      unfold Gives
      go_simp
      exact gives_val (Below.refl _ _) rfl
    · have f8 : A.tmps[8]?.getD undef = .pointer (some ⟨gc, 0, none⟩) := fact_some (hF 8) (j := 2) (by kernel_rfl) (by kernel_rfl)
      have hc := (Blk.keep HC.out hK).cell
      have k0 := hc 0
      have k1 := hc 1
      have k2 := hc 2
      have k3 := hc 3
      have k4 := hc 4
      have k5 := hc 5
      have k6 := hc 6
      clear hc
      unfold Gives
      go_simp
      exact gives_val (Below.refl _ _) rfl
    · have f0 : A.tmps[0]?.getD undef = .pointer (some ⟨gc, 0, none⟩) := fact_none (hF 0) (by kernel_rfl)
      unfold Gives
      go_simp
      exact gives_val (Below.refl _ _) rfl
    · have f10 : A.tmps[10]?.getD undef = .pointer (some ⟨gc, 0, none⟩) := fact_some (hF 10) (j := 4) (by kernel_rfl) (by kernel_rfl)
      unfold Gives
      go_simp
      exact gives_val (Below.refl _ _) rfl
    · have f11 : A.tmps[11]?.getD undef = .pointer (some ⟨gc, 0, none⟩) := fact_some (hF 11) (j := 5) (by kernel_rfl) (by kernel_rfl)
      unfold Gives
      go_simp
      exact gives_val (Below.refl _ _) rfl
    · have f12 : A.tmps[12]?.getD undef = .pointer (some ⟨gc, 7, none⟩) := fact_some (hF 12) (j := 6) (by kernel_rfl) (by kernel_rfl)
      have hc := (Blk.keep HC.out hK).cell
      have k0 := hc 7
      have k1 := hc 8
      have k2 := hc 9
      have k3 := hc 10
      have k4 := hc 11
      have k5 := hc 12
      have k6 := hc 13
      clear hc
      unfold Gives
      go_simp
      exact gives_val (Below.refl _ _) rfl
    · have f0 : A.tmps[0]?.getD undef = .pointer (some ⟨gc, 0, none⟩) := fact_none (hF 0) (by kernel_rfl)
      unfold Gives
      go_simp
      exact gives_val (Below.refl _ _) rfl
    · have f14 : A.tmps[14]?.getD undef = .pointer (some ⟨gc, 0, none⟩) := fact_some (hF 14) (j := 8) (by kernel_rfl) (by kernel_rfl)
      unfold Gives
      go_simp
      exact gives_val (Below.refl _ _) rfl
    · have f15 : A.tmps[15]?.getD undef = .pointer (some ⟨gc, 0, none⟩) := fact_some (hF 15) (j := 9) (by kernel_rfl) (by kernel_rfl)
      unfold Gives
      go_simp
      exact gives_val (Below.refl _ _) rfl
    · have f16 : A.tmps[16]?.getD undef = .pointer (some ⟨gc, 14, none⟩) := fact_some (hF 16) (j := 10) (by kernel_rfl) (by kernel_rfl)
      have hc := (Blk.keep HC.out hK).cell
      have k0 := hc 14
      have k1 := hc 15
      have k2 := hc 16
      have k3 := hc 17
      have k4 := hc 18
      have k5 := hc 19
      have k6 := hc 20
      clear hc
      unfold Gives
      go_simp
      exact gives_val (Below.refl _ _) rfl
    · have f9 : A.tmps[9]?.getD undef = .agg #[.int .i64 c.c1.u, .int .i64 c.c1.ro, .int .i64 c.c1.ty, .int .i64 c.c1.lo.s, .int .u64 c.c1.lo.c, .int .i64 c.c1.hi.s, .int .u64 c.c1.hi.c] := fact_some (hF 9) (j := 3) (by kernel_rfl) (by kernel_rfl)
      have f13 : A.tmps[13]?.getD undef = .agg #[.int .i64 c.c2.u, .int .i64 c.c2.ro, .int .i64 c.c2.ty, .int .i64 c.c2.lo.s, .int .u64 c.c2.lo.c, .int .i64 c.c2.hi.s, .int .u64 c.c2.hi.c] := fact_some (hF 13) (j := 7) (by kernel_rfl) (by kernel_rfl)
      have f17 : A.tmps[17]?.getD undef = .agg #[.int .i64 c.c3.u, .int .i64 c.c3.ro, .int .i64 c.c3.ty, .int .i64 c.c3.lo.s, .int .u64 c.c3.lo.c, .int .i64 c.c3.hi.s, .int .u64 c.c3.hi.c] := fact_some (hF 17) (j := 11) (by kernel_rfl) (by kernel_rfl)
      unfold Gives
      go_simp
      exact gives_val (Below.refl _ _) rfl
    · unfold Gives
      go_simp
      exact gives_val ((Below.refl _ _).alloc (Nat.le_refl _) _) ⟨_, rfl, hK.size, Blk.new _ _ _⟩
  intro a0 W2 hC hsz hdf hF
  have ha := end_mask [false, false, false, false, false, true, true, true, true, true, true, true, true, true, true, true, true, true, true, false, false, false, false, false, false, false, false, false, false] hsz hdf hF (by kernel_rfl)
  have f18 : a0.tmps[18]?.getD undef = .agg #[.int .i64 c.c1.u, .int .i64 c.c1.ro, .int .i64 c.c1.ty, .int .i64 c.c1.lo.s, .int .u64 c.c1.lo.c, .int .i64 c.c1.hi.s, .int .u64 c.c1.hi.c, .int .i64 c.c2.u, .int .i64 c.c2.ro, .int .i64 c.c2.ty, .int .i64 c.c2.lo.s, .int .u64 c.c2.lo.c, .int .i64 c.c2.hi.s, .int .u64 c.c2.hi.c, .int .i64 c.c3.u, .int .i64 c.c3.ro, .int .i64 c.c3.ty, .int .i64 c.c3.lo.s, .int .u64 c.c3.lo.c, .int .i64 c.c3.hi.s, .int .u64 c.c3.hi.c] := fact_end (hF 18) (j := 12) (by kernel_rfl)
  obtain ⟨g5, f5, hg5, hb5⟩ : ∃ g, a0.tmps[5]?.getD undef = .pointer (some ⟨g, 0, none⟩) ∧ W.heap.size ≤ g ∧ Blk W2 g 122 #[.int .i64 0, .int .i64 0, .int .i64 0, .int .i64 0, .int .u64 0, .int .i64 0, .int .u64 0, .int .i64 0, .int .i64 0, .int .i64 0, .int .i64 0, .int .u64 0, .int .i64 0, .int .u64 0, .int .i64 0, .int .i64 0, .int .i64 0, .int .i64 0, .int .u64 0, .int .i64 0, .int .u64 0] := fact_end (hF 5) (j := 13) (by kernel_rfl)
  rw [ha]
  clear ha hF
  simp only [cutM_yes, cutM_no, cutM_nil, Nat.reduceAdd]
  rw [f18, f5]
  clear f18 f5
  generalize a0.tmps[6]?.getD undef = s6
  generalize a0.tmps[7]?.getD undef = s7
  generalize a0.tmps[8]?.getD undef = s8
  generalize a0.tmps[9]?.getD undef = s9
  generalize a0.tmps[10]?.getD undef = s10
  generalize a0.tmps[11]?.getD undef = s11
  generalize a0.tmps[12]?.getD undef = s12
  generalize a0.tmps[13]?.getD undef = s13
  generalize a0.tmps[14]?.getD undef = s14
  generalize a0.tmps[15]?.getD undef = s15
  generalize a0.tmps[16]?.getD undef = s16
  generalize a0.tmps[17]?.getD undef = s17
  clear hsz hdf
  have HG5 : Hid (W.heap.size ≤ g5) := Lib.hid hg5
  have HGL : Hid (gl < W.heap.size) := Lib.hid HL0.out.lt
  have HC2 : Hid (Below W.heap.size W W2) := Lib.hid hC
  refine wpList_store_row (by rfl) _ _ rfl rfl (by rfl) [.int .i64 c.c1.u, .int .i64 c.c1.ro, .int .i64 c.c1.ty, .int .i64 c.c1.lo.s, .int .u64 c.c1.lo.c, .int .i64 c.c1.hi.s, .int .u64 c.c1.hi.c, .int .i64 c.c2.u, .int .i64 c.c2.ro, .int .i64 c.c2.ty, .int .i64 c.c2.lo.s, .int .u64 c.c2.lo.c, .int .i64 c.c2.hi.s, .int .u64 c.c2.hi.c, .int .i64 c.c3.u, .int .i64 c.c3.ro, .int .i64 c.c3.ty, .int .i64 c.c3.lo.s, .int .u64 c.c3.lo.c, .int .i64 c.c3.hi.s, .int .u64 c.c3.hi.c] (.agg #[.int .i64 c.c1.u, .int .i64 c.c1.ro, .int .i64 c.c1.ty, .int .i64 c.c1.lo.s, .int .u64 c.c1.lo.c, .int .i64 c.c1.hi.s, .int .u64 c.c1.hi.c, .int .i64 c.c2.u, .int .i64 c.c2.ro, .int .i64 c.c2.ty, .int .i64 c.c2.lo.s, .int .u64 c.c2.lo.c, .int .i64 c.c2.hi.s, .int .u64 c.c2.hi.c, .int .i64 c.c3.u, .int .i64 c.c3.ro, .int .i64 c.c3.ty, .int .i64 c.c3.lo.s, .int .u64 c.c3.lo.c, .int .i64 c.c3.hi.s, .int .u64 c.c3.hi.c]) (by rfl) rfl (size_case _) hb5 rfl (by intro x hx; simp only [List.mem_cons, List.not_mem_nil, or_false] at hx; rcases hx with rfl | rfl | rfl | rfl | rfl | rfl | rfl | rfl | rfl | rfl | rfl | rfl | rfl | rfl | rfl | rfl | rfl | rfl | rfl | rfl | rfl <;> rfl) ?_
  have HB5 : Hid (Blk (W2.setRow g5 [.int .i64 c.c1.u, .int .i64 c.c1.ro, .int .i64 c.c1.ty, .int .i64 c.c1.lo.s, .int .u64 c.c1.lo.c, .int .i64 c.c1.hi.s, .int .u64 c.c1.hi.c, .int .i64 c.c2.u, .int .i64 c.c2.ro, .int .i64 c.c2.ty, .int .i64 c.c2.lo.s, .int .u64 c.c2.lo.c, .int .i64 c.c2.hi.s, .int .u64 c.c2.hi.c, .int .i64 c.c3.u, .int .i64 c.c3.ro, .int .i64 c.c3.ty, .int .i64 c.c3.lo.s, .int .u64 c.c3.lo.c, .int .i64 c.c3.hi.s, .int .u64 c.c3.hi.c].toArray) g5 122 #[.int .i64 c.c1.u, .int .i64 c.c1.ro, .int .i64 c.c1.ty, .int .i64 c.c1.lo.s, .int .u64 c.c1.lo.c, .int .i64 c.c1.hi.s, .int .u64 c.c1.hi.c, .int .i64 c.c2.u, .int .i64 c.c2.ro, .int .i64 c.c2.ty, .int .i64 c.c2.lo.s, .int .u64 c.c2.lo.c, .int .i64 c.c2.hi.s, .int .u64 c.c2.hi.c, .int .i64 c.c3.u, .int .i64 c.c3.ro, .int .i64 c.c3.ty, .int .i64 c.c3.lo.s, .int .u64 c.c3.lo.c, .int .i64 c.c3.hi.s, .int .u64 c.c3.hi.c]) := Lib.hid (hb5.row _)
  have HBW : Hid (Below W.heap.size W (W2.setRow g5 [.int .i64 c.c1.u, .int .i64 c.c1.ro, .int .i64 c.c1.ty, .int .i64 c.c1.lo.s, .int .u64 c.c1.lo.c, .int .i64 c.c1.hi.s, .int .u64 c.c1.hi.c, .int .i64 c.c2.u, .int .i64 c.c2.ro, .int .i64 c.c2.ty, .int .i64 c.c2.lo.s, .int .u64 c.c2.lo.c, .int .i64 c.c2.hi.s, .int .u64 c.c2.hi.c, .int .i64 c.c3.u, .int .i64 c.c3.ro, .int .i64 c.c3.ty, .int .i64 c.c3.lo.s, .int .u64 c.c3.lo.c, .int .i64 c.c3.hi.s, .int .u64 c.c3.hi.c].toArray)) := Lib.hid (below_row hC hg5 _)
  generalize W2.setRow g5 [.int .i64 c.c1.u, .int .i64 c.c1.ro, .int .i64 c.c1.ty, .int .i64 c.c1.lo.s, .int .u64 c.c1.lo.c, .int .i64 c.c1.hi.s, .int .u64 c.c1.hi.c, .int .i64 c.c2.u, .int .i64 c.c2.ro, .int .i64 c.c2.ty, .int .i64 c.c2.lo.s, .int .u64 c.c2.lo.c, .int .i64 c.c2.hi.s, .int .u64 c.c2.hi.c, .int .i64 c.c3.u, .int .i64 c.c3.ro, .int .i64 c.c3.ty, .int .i64 c.c3.lo.s, .int .u64 c.c3.lo.c, .int .i64 c.c3.hi.s, .int .u64 c.c3.hi.c].toArray = W3 at *
  clear hC hb5 hg5 HC2
  go_upto_region 2 with fail
  have HL3 : Hid (Blk W3 gl 30 #[.int .i64 0, .int .u64 0]) := Lib.hid (HL0.out.keep HBW.out)
  have HB3 : Hid (Below gl w W3) := Lib.hid (HB0.out.trans (HBW.out.mono (by have := HGL.out; omega)))
  have hq1 := HQ1.out
  have hq2 := HQ2.out
  have hq3 : (q : Int) < 3 := by have := HQ3.out; omega
  have hm : ∀ u : World, (method 277 139 (.agg #[]) "accesscontrol/constraint.read").run Try.prog u = .ok (101, .agg #[]) u := fun _ => by kernel_rfl
  refine wp_region_kt 10 (by kernel_rfl) (by kernel_rfl) ?_
  simp only [List.take_succ_cons, List.take_zero, List.drop_succ_cons, List.drop_zero]
  repeat (first
      | go_big_quiet_skip
      | (go_big_quiet_want
         go_big_quiet_op
         first
           | go_big_quiet_on
           | (apply Exists.intro
              refine ⟨fun w1 hC => ?_, ?_⟩
              · first
                  | (go_at_call 56; with_reducible exact hC.call (HA.out _))
                  | (go_at_call 101; with_reducible exact hC.call (HD.out _))
                  | (go_simp; exact ⟨rfl, rfl⟩)
                  | (obtain ⟨d0, d1, d2, d3, d4, d5, d6⟩ := case_cells (Blk.keep HB5.out hC) HQ3.out; go_simp; exact rfl)
              go_big_quiet_on)))
  refine wpQuiet_nil ?_
  intro W4 hC
  have HB4 : Hid (Below gl w W4) := Lib.hid (HB3.out.trans (hC.mono (by have := HL3.out.lt; omega)))
  have HL4 : Hid (Blk W4 gl 30 #[.int .i64 0, .int .u64 0]) := Lib.hid (hC.blk HL3.out)
  have l0 := HL4.out.cell 0
  have l1 := HL4.out.cell 1
  have zl := HL4.out.frozen
  clear hC
  go_wp2_with fail
  exact bodyPost_ret (v := .agg #[.int .i64 (rdX c n).s, .int .u64 (rdX c n).c]) (lvl_ret Try.results35 rfl (by rw [HR.out]; exact (HL4.out.set 0 _).set 1 _)) rfl ⟨rfl, by first | exact below_set1 (below_set1 HB4.out (Nat.le_refl _) 0 _) (Nat.le_refl _) 1 _ | (rw [hgl]; exact below_set1 (below_set1 HB4.out (Nat.le_refl _) 0 _) (Nat.le_refl _) 1 _)⟩
end Go.Proofs.Ytamcfmfkmekkfaa
/- Package constraint: value. -/
namespace Go.Proofs.Ytamcfmfkmekkfaa
open Go.RowKit
theorem read_c (c : Ca) (gc n : Nat) (hn : n < 15) (w : World) (hC : Blk w gc 36 #[.int .i64 c.c1.u, .int .i64 c.c1.ro, .int .i64 c.c1.ty, .int .i64 c.c1.lo.s, .int .u64 c.c1.lo.c, .int .i64 c.c1.hi.s, .int .u64 c.c1.hi.c, .int .i64 c.c2.u, .int .i64 c.c2.ro, .int .i64 c.c2.ty, .int .i64 c.c2.lo.s, .int .u64 c.c2.lo.c, .int .i64 c.c2.hi.s, .int .u64 c.c2.hi.c, .int .i64 c.c3.u, .int .i64 c.c3.ro, .int .i64 c.c3.ty, .int .i64 c.c3.lo.s, .int .u64 c.c3.lo.c, .int .i64 c.c3.hi.s, .int .u64 c.c3.hi.c]) : Calls Try.prog 35 #[.pointer (some ⟨gc, 0, none⟩), .int .i64 n] w fun e w' => e = .returned (.agg #[.int .i64 (rdX c n).s, .int .u64 (rdX c n).c]) ∧ Below w.heap.size w w' := by
  have e : (n : Int).tmod 5 = (n : Int) % 5 := Int.tmod_eq_emod_of_nonneg (by omega)
  have h : (n : Int) % 5 = 0 ∨ (n : Int) % 5 = 1 ∨ (n : Int) % 5 = 2 ∨ (n : Int) % 5 = 3 ∨ (n : Int) % 5 = 4 := by omega
  rcases h with h | h | h | h | h
  · exact read_0 c gc n hn (e.trans h) w hC
  · exact read_1 c gc n hn (e.trans h) w hC
  · exact read_2 c gc n hn (e.trans h) w hC
  · exact read_3 c gc n hn (e.trans h) w hC
  · exact read_4 c gc n hn (e.trans h) w hC
def okN (x : X) : Prop := (x.op = 2 ∧ x.ks.length = 1) ∨ ((x.op = 3 ∨ x.op = 4) ∧ x.ks.length = 2) ∨ (x.op = 8 ∧ (0 ≤ x.a ∧ x.a < 15) ∧ (0 ≤ x.b ∧ x.b < 15)) ∨ (x.op = 9 ∧ 0 ≤ x.a ∧ x.a < 15)
def okV : Nat → X → Prop
  | 0, _ => False
  | n + 1, x => okN x ∧ ∀ k ∈ x.ks, okV n k
def kidX (x : X) (i : Nat) : X := x.ks.getD i (.mk 0 0 0 0 [] S4.zero [])
def valX (c : Ca) : Nat → X → Bool
  | 0, _ => false
  | n + 1, x => if x.op = 2 then !valX c n (kidX x 0) else if x.op = 3 then valX c n (kidX x 0) && valX c n (kidX x 1) else if x.op = 4 then valX c n (kidX x 0) || valX c n (kidX x 1) else if x.op = 9 then hasS x.st (rdX c x.a.toNat).s else relX (rdX c x.a.toNat) x.r (rdX c x.b.toNat)
theorem kid_at {x : X} {i : Nat} (h : i < x.ks.length) : kidX x i = x.ks[i] := by
  unfold kidX
  rw [List.getD_eq_getElem?_getD, List.getElem?_eq_getElem h]; rfl
set_option maxRecDepth 100000 in
set_option maxHeartbeats 32000000 in
theorem value_c (c : Ca) (gc : Nat) : ∀ (n : Nat) (x : X) (g o : Nat) (w : World), okV n x → XAt w g o x → g < w.heap.size → Blk w gc 36 #[.int .i64 c.c1.u, .int .i64 c.c1.ro, .int .i64 c.c1.ty, .int .i64 c.c1.lo.s, .int .u64 c.c1.lo.c, .int .i64 c.c1.hi.s, .int .u64 c.c1.hi.c, .int .i64 c.c2.u, .int .i64 c.c2.ro, .int .i64 c.c2.ty, .int .i64 c.c2.lo.s, .int .u64 c.c2.lo.c, .int .i64 c.c2.hi.s, .int .u64 c.c2.hi.c, .int .i64 c.c3.u, .int .i64 c.c3.ro, .int .i64 c.c3.ty, .int .i64 c.c3.lo.s, .int .u64 c.c3.lo.c, .int .i64 c.c3.hi.s, .int .u64 c.c3.hi.c] →
    Calls Try.prog 21 #[.pointer (some ⟨g, o, none⟩), .pointer (some ⟨gc, 0, none⟩)] w fun e w' => e = .returned (.bool (valX c n x)) ∧ Below w.heap.size w w' := by
  intro n
  induction n with
  | zero => intro x g o w h; exact absurd h (by unfold okV; exact id)
  | succ n ih =>
    intro x g o w hok hX hg hc
    obtain ⟨hn, hks⟩ := hok
    have HIH := Lib.hid ih
    have HKS := Lib.hid hks
    have HC := Lib.hid hc
    have HG := Lib.hid hg
    obtain ⟨ao, cap, ak, ck, hxc, hk, -⟩ := hX.xc
    have HXC := Lib.hid hxc
    have HK := Lib.hid hk
    have hu : valX c (n + 1) x = if x.op = 2 then !valX c n (kidX x 0) else if x.op = 3 then valX c n (kidX x 0) && valX c n (kidX x 1) else if x.op = 4 then valX c n (kidX x 0) || valX c n (kidX x 1) else if x.op = 9 then hasS x.st (rdX c x.a.toNat).s else relX (rdX c x.a.toNat) x.r (rdX c x.b.toNat) := rfl
    rw [hu]
    have HKID : Hid (∀ (i : Nat) (hi : i < x.ks.length), ∃ g' o', ak = some ⟨g', o', none⟩ ∧ g' < w.heap.size ∧ ∀ W, Below w.heap.size w W → Calls Try.prog 21 #[.pointer (some ⟨g', o' + i * 10, none⟩), .pointer (some ⟨gc, 0, none⟩)] W fun e w' => e = .returned (.bool (valX c n (kidX x i))) ∧ Below W.heap.size W w') := Lib.hid fun i hi => by
      obtain ⟨g', o', hak, hg', hR⟩ := HK.out.row hi
      refine ⟨g', o', hak, hg', fun W hW => ?_⟩
      rw [kid_at hi]
      exact HIH.out _ _ _ W (HKS.out _ (List.getElem_mem hi)) ((hR i hi).keep hW hg') (Nat.lt_of_lt_of_le hg' hW.size) (HC.out.keep hW)
    have HS := Lib.hid hX.w
    clear ih hks hc hg hX hk hu
    rcases hn with ⟨hop, hlen⟩ | ⟨hop, hlen⟩ | ⟨hop, ha, hb⟩ | ⟨hop, ha1, ha2⟩
    · have p2 : (x.op == 2) = true := by rw [hop]; rfl
      have p3 : (x.op == 3) = false := by rw [hop]; rfl
      have p4 : (x.op == 4) = false := by rw [hop]; rfl
      have p9 : (x.op == 9) = false := by rw [hop]; rfl
      rw [if_pos hop]
      obtain ⟨g0, o0, hak, hg0, HV0⟩ := HKID.out 0 (by omega)
      subst hak
      rw [Nat.zero_mul, Nat.add_zero] at HV0
      have HW0 := Lib.hid HV0
      have hl1 : (x.ks.length : Int) = 1 := by omega
      have HL := Lib.hid hlen
      obtain ⟨v0, hv0⟩ : ∃ v, valX c n (kidX x 0) = v := ⟨_, rfl⟩
      rw [hv0] at HW0 ⊢
      have hxc := HXC.out
      rw [hlen] at hxc
      obtain ⟨x0, x1, x2, x3, x4, x5, x6, x7, x8, x9⟩ := hxc.cells
      have HXL := Lib.hid hxc
      clear hg0 HV0 hv0 hl1 hlen hop hxc
      go_enter Try.func21, Try.ntmps21
      go_wp2_with (go_at_call 21; (with_reducible refine (HW0.out _ (Below.refl _ _)).mono ?_); rintro e w1 ⟨rfl, hb1⟩; have HB1 := Lib.hid (hb1); obtain ⟨y0, y1, y2, y3, y4, y5, y6, y7, y8, y9⟩ := (HXL.out.keep (hb1.block g HG.out)).cells; clear hb1)
      go_ret
      exact ⟨rfl, HB1.out⟩
    · rcases hop with hop | hop
      · have p2 : (x.op == 2) = false := by rw [hop]; rfl
        have p3 : (x.op == 3) = true := by rw [hop]; rfl
        have p4 : (x.op == 4) = false := by rw [hop]; rfl
        have p9 : (x.op == 9) = false := by rw [hop]; rfl
        rw [if_neg (by omega), if_pos hop]
        obtain ⟨g0, o0, hak, hg0, HV0⟩ := HKID.out 0 (by omega)
        obtain ⟨g1, o1, hak1, hg1, HV1⟩ := HKID.out 1 (by omega)
        rw [hak] at hak1
        obtain ⟨rfl, rfl⟩ : g0 = g1 ∧ o0 = o1 := by simpa using hak1
        subst hak
        rw [Nat.zero_mul, Nat.add_zero] at HV0
        have HW0 := Lib.hid HV0
        rw [Nat.one_mul] at HV1
        have HW1 := Lib.hid HV1
        have hl2 : (x.ks.length : Int) = 2 := by omega
        have HL := Lib.hid hlen
        obtain ⟨v0, hv0⟩ : ∃ v, valX c n (kidX x 0) = v := ⟨_, rfl⟩
        rw [hv0] at HW0 ⊢
        obtain ⟨v1, hv1⟩ : ∃ v, valX c n (kidX x 1) = v := ⟨_, rfl⟩
        rw [hv1] at HW1 ⊢
        have hxc := HXC.out
        rw [hlen] at hxc
        obtain ⟨x0, x1, x2, x3, x4, x5, x6, x7, x8, x9⟩ := hxc.cells
        have HXL := Lib.hid hxc
        clear hak1 hg1 HV1 hv1 hg0 HV0 hv0 hl2 hlen hop hxc
        cases v0 with
        | true =>
          go_enter Try.func21, Try.ntmps21
          go_wp2_with (first
            | (go_at_call 21; (with_reducible refine (HW1.out _ HB1.out).mono ?_); rintro e w2 ⟨rfl, hb2⟩; have HB2 := Lib.hid (HB1.out.trans (hb2.mono HB1.out.size)); clear hb2)
            | (go_at_call 21; (with_reducible refine (HW0.out _ (Below.refl _ _)).mono ?_); rintro e w1 ⟨rfl, hb1⟩; have HB1 := Lib.hid (hb1); obtain ⟨y0, y1, y2, y3, y4, y5, y6, y7, y8, y9⟩ := (HXL.out.keep (hb1.block g HG.out)).cells; clear hb1))
          go_ret
          exact ⟨rfl, HB2.out⟩
        | false =>
          go_enter Try.func21, Try.ntmps21
          go_wp2_with (go_at_call 21; (with_reducible refine (HW0.out _ (Below.refl _ _)).mono ?_); rintro e w1 ⟨rfl, hb1⟩; have HB1 := Lib.hid (hb1); obtain ⟨y0, y1, y2, y3, y4, y5, y6, y7, y8, y9⟩ := (HXL.out.keep (hb1.block g HG.out)).cells; clear hb1)
          go_ret
          exact ⟨rfl, HB1.out⟩
      · have p2 : (x.op == 2) = false := by rw [hop]; rfl
        have p3 : (x.op == 3) = false := by rw [hop]; rfl
        have p4 : (x.op == 4) = true := by rw [hop]; rfl
        have p9 : (x.op == 9) = false := by rw [hop]; rfl
        rw [if_neg (by omega), if_neg (by omega), if_pos hop]
        obtain ⟨g0, o0, hak, hg0, HV0⟩ := HKID.out 0 (by omega)
        obtain ⟨g1, o1, hak1, hg1, HV1⟩ := HKID.out 1 (by omega)
        rw [hak] at hak1
        obtain ⟨rfl, rfl⟩ : g0 = g1 ∧ o0 = o1 := by simpa using hak1
        subst hak
        rw [Nat.zero_mul, Nat.add_zero] at HV0
        have HW0 := Lib.hid HV0
        rw [Nat.one_mul] at HV1
        have HW1 := Lib.hid HV1
        have hl2 : (x.ks.length : Int) = 2 := by omega
        have HL := Lib.hid hlen
        obtain ⟨v0, hv0⟩ : ∃ v, valX c n (kidX x 0) = v := ⟨_, rfl⟩
        rw [hv0] at HW0 ⊢
        obtain ⟨v1, hv1⟩ : ∃ v, valX c n (kidX x 1) = v := ⟨_, rfl⟩
        rw [hv1] at HW1 ⊢
        have hxc := HXC.out
        rw [hlen] at hxc
        obtain ⟨x0, x1, x2, x3, x4, x5, x6, x7, x8, x9⟩ := hxc.cells
        have HXL := Lib.hid hxc
        clear hak1 hg1 HV1 hv1 hg0 HV0 hv0 hl2 hlen hop hxc
        cases v0 with
        | true =>
          go_enter Try.func21, Try.ntmps21
          go_wp2_with (go_at_call 21; (with_reducible refine (HW0.out _ (Below.refl _ _)).mono ?_); rintro e w1 ⟨rfl, hb1⟩; have HB1 := Lib.hid (hb1); obtain ⟨y0, y1, y2, y3, y4, y5, y6, y7, y8, y9⟩ := (HXL.out.keep (hb1.block g HG.out)).cells; clear hb1)
          go_ret
          exact ⟨rfl, HB1.out⟩
        | false =>
          go_enter Try.func21, Try.ntmps21
          go_wp2_with (first
            | (go_at_call 21; (with_reducible refine (HW1.out _ HB1.out).mono ?_); rintro e w2 ⟨rfl, hb2⟩; have HB2 := Lib.hid (HB1.out.trans (hb2.mono HB1.out.size)); clear hb2)
            | (go_at_call 21; (with_reducible refine (HW0.out _ (Below.refl _ _)).mono ?_); rintro e w1 ⟨rfl, hb1⟩; have HB1 := Lib.hid (hb1); obtain ⟨y0, y1, y2, y3, y4, y5, y6, y7, y8, y9⟩ := (HXL.out.keep (hb1.block g HG.out)).cells; clear hb1))
          go_ret
          exact ⟨rfl, HB2.out⟩
    · have p2 : (x.op == 2) = false := by rw [hop]; rfl
      have p3 : (x.op == 3) = false := by rw [hop]; rfl
      have p4 : (x.op == 4) = false := by rw [hop]; rfl
      have p9 : (x.op == 9) = false := by rw [hop]; rfl
      rw [if_neg (by omega), if_neg (by omega), if_neg (by omega), if_neg (by omega)]
      obtain ⟨na, hna⟩ : ∃ na : Nat, x.a = na := ⟨x.a.toNat, by omega⟩
      obtain ⟨nb, hnb⟩ : ∃ nb : Nat, x.b = nb := ⟨x.b.toNat, by omega⟩
      have HRA := Lib.hid (fun (W : World) (h : Kp w W) => read_c c gc na (by omega) W (HC.out.keep h))
      have HRB := Lib.hid (fun (W : World) (h : Kp w W) => read_c c gc nb (by omega) W (HC.out.keep h))
      have hxc := HXC.out
      rw [hna, hnb] at hxc
      rw [hna, hnb, Int.toNat_natCast, Int.toNat_natCast]
      generalize rdX c na = la at *
      generalize rdX c nb = lb at *
      have HXL := Lib.hid hxc
      obtain ⟨x0, x1, x2, x3, x4, x5, x6, x7, x8, x9⟩ := hxc.cells
      have HRR := Lib.hid (related_c la lb x.r)
      clear hop ha hb hna hnb hxc x1 x2 x3 x4 x5 x6 x7 x8 x9
      go_enter Try.func21, Try.ntmps21
      go_upto_region 10 with fail
      clear x0
      refine wp_region_kp (by kernel_rfl) (by kernel_rfl) ?_
      repeat (first
          | go_big_quiet_skip
          | (go_big_quiet_want
             go_big_quiet_op
             first
               | go_big_quiet_on
               | (apply Exists.intro
                  refine ⟨fun w1 hC => ?_, ?_⟩
                  · first
                      | (go_at_call 35; with_reducible first | exact hC.call (HRA.out _ hC) | exact hC.call (HRB.out _ hC))
                      | (go_at_call 36; with_reducible exact hC.call (HRR.out _))
                      | (go_simp; exact ⟨rfl, rfl⟩)
                      | (obtain ⟨y0, y1, y2, y3, y4, y5, y6, y7, y8, y9⟩ := (HXL.out.keep (hC.block g HG.out)).cells; go_simp; exact rfl)
                  go_big_quiet_on)))
      refine wpQuiet_nil ?_
      intro W1 hC
      have HCC := Lib.hid hC
      clear hC
      go_wp2_with fail
      go_ret
      exact ⟨rfl, HCC.out⟩
    · have p2 : (x.op == 2) = false := by rw [hop]; rfl
      have p3 : (x.op == 3) = false := by rw [hop]; rfl
      have p4 : (x.op == 4) = false := by rw [hop]; rfl
      have p9 : (x.op == 9) = true := by rw [hop]; rfl
      rw [if_neg (by omega), if_neg (by omega), if_neg (by omega), if_pos hop]
      obtain ⟨na, hna⟩ : ∃ na : Nat, x.a = na := ⟨x.a.toNat, by omega⟩
      have HRA := Lib.hid (fun (W : World) (h : Kp w W) => read_c c gc na (by omega) W (HC.out.keep h))
      have hxc := HXC.out
      rw [hna] at hxc
      rw [hna, Int.toNat_natCast]
      generalize rdX c na = la at *
      have HXL := Lib.hid hxc
      obtain ⟨x0, x1, x2, x3, x4, x5, x6, x7, x8, x9⟩ := hxc.cells
      have HHS := Lib.hid (has_c x.st.a x.st.b x.st.c x.st.d la.s)
      clear hop ha1 ha2 hna hxc x1 x2 x3 x4 x5 x6 x7 x8 x9
      go_enter Try.func21, Try.ntmps21
      go_upto_region 9 with fail
      clear x0
      refine wp_region_kp (by kernel_rfl) (by kernel_rfl) ?_
      repeat (first
          | go_big_quiet_skip
          | (go_big_quiet_want
             go_big_quiet_op
             first
               | go_big_quiet_on
               | (apply Exists.intro
                  refine ⟨fun w1 hC => ?_, ?_⟩
                  · first
                      | (go_at_call 35; with_reducible exact hC.call (HRA.out _ hC))
                      | (go_at_call 34; with_reducible exact hC.call (HHS.out _))
                      | (go_simp; exact ⟨rfl, rfl⟩)
                      | (obtain ⟨y0, y1, y2, y3, y4, y5, y6, y7, y8, y9⟩ := (HXL.out.keep (hC.block g HG.out)).cells; go_simp; exact rfl)
                  go_big_quiet_on)))
      refine wpQuiet_nil ?_
      intro W1 hC
      have HCC := Lib.hid hC
      clear hC
      go_wp2_with fail
      go_ret
      exact ⟨rfl, HCC.out⟩
end Go.Proofs.Ytamcfmfkmekkfaa
/- Package constraint: Eval. -/
namespace Go.Proofs.Ytamcfmfkmekkfaa
open Go.RowKit
theorem feL_zero {F : X → Int} : ∀ {ks : List X}, feL F ks = 0 → ∀ k ∈ ks, F k = 0
  | [], _, k, h => by simp at h
  | y :: r, h, k, hk => by
    unfold feL at h
    by_cases e : F y = 0
    · rw [if_neg (by simp [e])] at h
      rcases List.mem_cons.1 hk with rfl | hk
      · exact e
      · exact feL_zero h k hk
    · rw [if_pos e] at h
      exact absurd h e
theorem op_ok {x : X} (h : opE 15 x = 0) : okN x := by
  unfold opE operE at h
  unfold okN
  by_cases h2 : x.op = 2
  · rw [if_pos h2] at h
    refine .inl ⟨h2, ?_⟩
    by_cases e : x.ks.length = 1
    · exact e
    · rw [if_pos (.inl e)] at h; omega
  · rw [if_neg h2] at h
    by_cases h3 : x.op = 3 ∨ x.op = 4
    · rw [if_pos h3] at h
      refine .inr (.inl ⟨h3, ?_⟩)
      by_cases e : x.ks.length = 2
      · exact e
      · rw [if_pos (.inl e)] at h; omega
    · rw [if_neg h3] at h
      by_cases h8 : x.op = 8
      · rw [if_pos h8] at h
        refine .inr (.inr (.inl ⟨h8, ?_⟩))
        split at h
        · omega
        · unfold cmpE at h
          split at h
          · omega
          · rename_i hh
            exact ⟨by omega, by omega⟩
      · rw [if_neg h8] at h
        by_cases h9 : x.op = 9
        · rw [if_pos h9] at h
          refine .inr (.inr (.inr ⟨h9, ?_⟩))
          split at h
          · omega
          · unfold memE at h
            split at h
            · omega
            · rename_i hh
              exact ⟨by omega, by omega⟩
        · rw [if_neg h9] at h; omega
theorem ok_of : ∀ (n : Nat) (x : X), more n x = false → fe (opE 15) n x = 0 → okV n x
  | 0, x, h, _ => by unfold more at h; cases h
  | n + 1, x, h, k => by
    have e : fe (opE 15) (n + 1) x = if opE 15 x ≠ 0 then opE 15 x else feL (fe (opE 15) n) x.ks := rfl
    rw [e] at k
    by_cases h0 : opE 15 x = 0
    · rw [if_neg (by simp [h0])] at k
      refine ⟨op_ok h0, fun y hy => ok_of n y ?_ (feL_zero k y hy)⟩
      obtain ⟨i, hi, rfl⟩ := List.getElem_of_mem hy
      exact more_kid h hi
    · rw [if_pos h0] at k
      exact absurd k h0
theorem wf_ok {x : X} (h : wfX x = true) : okV 12 x := by
  unfold wfX at h
  have h : chkE 15 x = 0 := of_decide_eq_true h
  unfold chkE at h
  cases hm : more 12 x with
  | true => rw [hm, if_pos rfl] at h; omega
  | false => rw [hm, if_neg (by simp)] at h; exact ok_of 12 x hm h
/-- an expression as a value -/
structure XV (w : World) (vn vk : Value) (x : X) : Prop where
  ns : Strs w vn x.ns
  ks : SlR 10 XAt w vk x.ks
  wf : XW x.op x.a x.r x.b x.ns x.st x.ks.length
theorem XV.keep {w w' : World} {vn vk : Value} {x : X} (h : XV w vn vk x) (hb : Below w.heap.size w w') : XV w' vn vk x := ⟨h.ns.keep hb, h.ks.keep (fun hg k => XAt.keep hb hg k) hb, h.wf⟩
theorem XV.at {w : World} {vn vk : Value} {x : X} {g : Nat} {t : TypeId} (h : XV w vn vk x) (hb : Blk w g t #[.int .i64 x.op, .int .i64 x.a, .int .i64 x.r, .int .i64 x.b, vn, .int .u64 x.st.a, .int .u64 x.st.b, .int .u64 x.st.c, .int .u64 x.st.d, vk]) : XAt w g 0 x := by
  obtain ⟨h1, ⟨ao, cap, e, hc, hr⟩, hw⟩ := h
  obtain ⟨op, a, r, b, ns, st, ks⟩ := x
  have h1 : Strs w vn ns := h1
  have e : vk = .slice ao ks.length cap := e
  subst e
  unfold XAt
  exact ⟨hb.cell 0, hb.cell 1, hb.cell 2, hb.cell 3, ⟨vn, hb.cell 4, h1⟩, hb.cell 5, hb.cell 6, hb.cell 7, hb.cell 8, ⟨ao, cap, hb.cell 9, hc, fun hl => by
    obtain ⟨g', o', e, hg, hR⟩ := hr hl
    exact ⟨g', o', e, hg, XRow_of hR⟩⟩, hw⟩
def evX (c : Ca) (x : X) : Bool := wfX x && valX c 12 x
set_option maxRecDepth 100000 in
set_option maxHeartbeats 8000000 in
theorem eval_c (x : X) (vn vk : Value) (c : Ca) (w : World) (hV : XV w vn vk x) : Calls Try.prog 8 #[.agg #[.int .i64 x.op, .int .i64 x.a, .int .i64 x.r, .int .i64 x.b, vn, .int .u64 x.st.a, .int .u64 x.st.b, .int .u64 x.st.c, .int .u64 x.st.d, vk], .agg #[.int .i64 c.c1.u, .int .i64 c.c1.ro, .int .i64 c.c1.ty, .int .i64 c.c1.lo.s, .int .u64 c.c1.lo.c, .int .i64 c.c1.hi.s, .int .u64 c.c1.hi.c, .int .i64 c.c2.u, .int .i64 c.c2.ro, .int .i64 c.c2.ty, .int .i64 c.c2.lo.s, .int .u64 c.c2.lo.c, .int .i64 c.c2.hi.s, .int .u64 c.c2.hi.c, .int .i64 c.c3.u, .int .i64 c.c3.ro, .int .i64 c.c3.ty, .int .i64 c.c3.lo.s, .int .u64 c.c3.lo.c, .int .i64 c.c3.hi.s, .int .u64 c.c3.hi.c]] w fun e w' => e = .returned (.bool (evX c x)) ∧ Below w.heap.size w w' := by
  obtain ⟨W0, hW0⟩ : ∃ W0, (w.alloc (.cells #[.int .i64 x.op, .int .i64 x.a, .int .i64 x.r, .int .i64 x.b, vn, .int .u64 x.st.a, .int .u64 x.st.b, .int .u64 x.st.c, .int .u64 x.st.d, vk] 28)).alloc (.cells #[.int .i64 c.c1.u, .int .i64 c.c1.ro, .int .i64 c.c1.ty, .int .i64 c.c1.lo.s, .int .u64 c.c1.lo.c, .int .i64 c.c1.hi.s, .int .u64 c.c1.hi.c, .int .i64 c.c2.u, .int .i64 c.c2.ro, .int .i64 c.c2.ty, .int .i64 c.c2.lo.s, .int .u64 c.c2.lo.c, .int .i64 c.c2.hi.s, .int .u64 c.c2.hi.c, .int .i64 c.c3.u, .int .i64 c.c3.ro, .int .i64 c.c3.ty, .int .i64 c.c3.lo.s, .int .u64 c.c3.lo.c, .int .i64 c.c3.hi.s, .int .u64 c.c3.hi.c] 36) = W0 := ⟨_, rfl⟩
  have B1 : Blk W0 w.heap.size 28 #[.int .i64 x.op, .int .i64 x.a, .int .i64 x.r, .int .i64 x.b, vn, .int .u64 x.st.a, .int .u64 x.st.b, .int .u64 x.st.c, .int .u64 x.st.d, vk] := by rw [← hW0]; exact (Blk.new w _ _).alloc _
  have B2 : Blk W0 (w.heap.size + 1) 36 #[.int .i64 c.c1.u, .int .i64 c.c1.ro, .int .i64 c.c1.ty, .int .i64 c.c1.lo.s, .int .u64 c.c1.lo.c, .int .i64 c.c1.hi.s, .int .u64 c.c1.hi.c, .int .i64 c.c2.u, .int .i64 c.c2.ro, .int .i64 c.c2.ty, .int .i64 c.c2.lo.s, .int .u64 c.c2.lo.c, .int .i64 c.c2.hi.s, .int .u64 c.c2.hi.c, .int .i64 c.c3.u, .int .i64 c.c3.ro, .int .i64 c.c3.ty, .int .i64 c.c3.lo.s, .int .u64 c.c3.lo.c, .int .i64 c.c3.hi.s, .int .u64 c.c3.hi.c] := by
    have h := Blk.new (w.alloc (.cells #[.int .i64 x.op, .int .i64 x.a, .int .i64 x.r, .int .i64 x.b, vn, .int .u64 x.st.a, .int .u64 x.st.b, .int .u64 x.st.c, .int .u64 x.st.d, vk] 28)) 36 #[.int .i64 c.c1.u, .int .i64 c.c1.ro, .int .i64 c.c1.ty, .int .i64 c.c1.lo.s, .int .u64 c.c1.lo.c, .int .i64 c.c1.hi.s, .int .u64 c.c1.hi.c, .int .i64 c.c2.u, .int .i64 c.c2.ro, .int .i64 c.c2.ty, .int .i64 c.c2.lo.s, .int .u64 c.c2.lo.c, .int .i64 c.c2.hi.s, .int .u64 c.c2.hi.c, .int .i64 c.c3.u, .int .i64 c.c3.ro, .int .i64 c.c3.ty, .int .i64 c.c3.lo.s, .int .u64 c.c3.lo.c, .int .i64 c.c3.hi.s, .int .u64 c.c3.hi.c]
    rw [World.size_alloc, hW0] at h; exact h
  have HB0 : Hid (Below w.heap.size w W0) := Lib.hid (by rw [← hW0]; exact ((Below.refl _ _).alloc (Nat.le_refl _) _).alloc (by simp) _)
  have HX : Hid (XAt W0 w.heap.size 0 x) := Lib.hid ((hV.keep HB0.out).at B1)
  have HG : Hid (w.heap.size < W0.heap.size) := Lib.hid B1.lt
  have HC := Lib.hid B2
  clear B1 B2 hV
  unfold evX
  cases hw : wfX x with
  | false =>
    have HW := Lib.hid (isWellFormed_c x w.heap.size 0 W0 HX.out HG.out)
    rw [hw] at HW
    clear hw
    go_enter Try.func8, Try.ntmps8
    go_wp2_with (go_at_call 20; (with_reducible refine HW.out.mono ?_); rintro e w1 ⟨rfl, hb1⟩; have HB1 := Lib.hid (HB0.out.trans (hb1.mono HB0.out.size)); clear hb1)
    go_ret
    exact ⟨rfl, HB1.out⟩
  | true =>
    have HO := Lib.hid (wf_ok hw)
    have HW := Lib.hid (isWellFormed_c x w.heap.size 0 W0 HX.out HG.out)
    rw [hw] at HW
    clear hw
    rw [Bool.true_and]
    go_enter Try.func8, Try.ntmps8
    go_wp2_with (first
      | (go_at_call 20; (with_reducible refine HW.out.mono ?_); rintro e w1 ⟨rfl, hb1⟩; have HB1 := Lib.hid (HB0.out.trans (hb1.mono HB0.out.size)); have HX1 := Lib.hid (HX.out.keep hb1 HG.out); have HG1 : Hid (w.heap.size < w1.heap.size) := Lib.hid (Nat.lt_of_lt_of_le HG.out hb1.size); have HC1 := Lib.hid (HC.out.keep hb1); clear hb1)
      | (go_at_call 21; (refine (value_c c (w.heap.size + 1) 12 x w.heap.size 0 w1 HO.out HX1.out HG1.out HC1.out).mono ?_); rintro e w2 ⟨rfl, hb2⟩; have HB2 := Lib.hid (HB1.out.trans (hb2.mono HB1.out.size)); clear hb2))
    go_ret
    exact ⟨rfl, HB2.out⟩
end Go.Proofs.Ytamcfmfkmekkfaa
/- The reference's sort, kids, within. -/
namespace Go.Proofs.Ytamcfmfkmekkfaa
open Go.RowKit
set_option maxRecDepth 100000 in
theorem rsort_c (a : Int) (w : World) : Calls Try.prog 43 #[.int .i64 a] w fun e w' => e = .returned (.int .i64 (sortA a)) ∧ Below w.heap.size w w' := by
  have hr := tmod5 a
  have hw : IntKind.i64.wrap (a.tmod 5) = a.tmod 5 := IntWalk.i64_in _ (by omega)
  unfold sortA
  by_cases h : 3 < a.tmod 5
  · rw [if_pos h]
    have h2 : ¬ a.tmod 5 ≤ 3 := by omega
    go_enter Try.func43, Try.ntmps43
    go_wp2
    go_ret
    exact ⟨rfl, Below.refl _ _⟩
  · rw [if_neg h]
    have h2 : a.tmod 5 ≤ 3 := by omega
    go_enter Try.func43, Try.ntmps43
    go_wp2
    go_ret
    exact ⟨rfl, Below.refl _ _⟩
def kidsN (op : Int) : Int := if op = 2 then 1 else if op = 3 ∨ op = 4 then 2 else if op = 8 ∨ op = 9 then 0 else -1
set_option maxRecDepth 100000 in
theorem kids_c (op : Int) (w : World) : Calls Try.prog 41 #[.int .i64 op] w fun e w' => e = .returned (.int .i64 (kidsN op)) ∧ Below w.heap.size w w' := by
  unfold kidsN
  by_cases h2 : op = 2
  · have p2 : (op == 2) = true := by rw [h2]; rfl
    have p3 : (op == 3) = false := by rw [h2]; rfl
    have p4 : (op == 4) = false := by rw [h2]; rfl
    have p8 : (op == 8) = false := by rw [h2]; rfl
    have p9 : (op == 9) = false := by rw [h2]; rfl
    rw [if_pos h2]
    clear h2
    go_enter Try.func41, Try.ntmps41
    go_wp2
    go_ret
    exact ⟨rfl, Below.refl _ _⟩
  · by_cases h3 : op = 3
    · have p2 : (op == 2) = false := by rw [h3]; rfl
      have p3 : (op == 3) = true := by rw [h3]; rfl
      have p4 : (op == 4) = false := by rw [h3]; rfl
      have p8 : (op == 8) = false := by rw [h3]; rfl
      have p9 : (op == 9) = false := by rw [h3]; rfl
      rw [if_neg (by omega), if_pos (by omega)]
      clear h2 h3
      go_enter Try.func41, Try.ntmps41
      go_wp2
      go_ret
      exact ⟨rfl, Below.refl _ _⟩
    · by_cases h4 : op = 4
      · have p2 : (op == 2) = false := by rw [h4]; rfl
        have p3 : (op == 3) = false := by rw [h4]; rfl
        have p4 : (op == 4) = true := by rw [h4]; rfl
        have p8 : (op == 8) = false := by rw [h4]; rfl
        have p9 : (op == 9) = false := by rw [h4]; rfl
        rw [if_neg (by omega), if_pos (by omega)]
        clear h2 h3 h4
        go_enter Try.func41, Try.ntmps41
        go_wp2
        go_ret
        exact ⟨rfl, Below.refl _ _⟩
      · by_cases h8 : op = 8
        · have p2 : (op == 2) = false := by rw [h8]; rfl
          have p3 : (op == 3) = false := by rw [h8]; rfl
          have p4 : (op == 4) = false := by rw [h8]; rfl
          have p8 : (op == 8) = true := by rw [h8]; rfl
          have p9 : (op == 9) = false := by rw [h8]; rfl
          rw [if_neg (by omega), if_neg (by omega), if_pos (by omega)]
          clear h2 h3 h4 h8
          go_enter Try.func41, Try.ntmps41
          go_wp2
          go_ret
          exact ⟨rfl, Below.refl _ _⟩
        · by_cases h9 : op = 9
          · have p2 : (op == 2) = false := by rw [h9]; rfl
            have p3 : (op == 3) = false := by rw [h9]; rfl
            have p4 : (op == 4) = false := by rw [h9]; rfl
            have p8 : (op == 8) = false := by rw [h9]; rfl
            have p9 : (op == 9) = true := by rw [h9]; rfl
            rw [if_neg (by omega), if_neg (by omega), if_pos (by omega)]
            clear h2 h3 h4 h8 h9
            go_enter Try.func41, Try.ntmps41
            go_wp2
            go_ret
            exact ⟨rfl, Below.refl _ _⟩
          · have p2 : (op == 2) = false := by simp; omega
            have p3 : (op == 3) = false := by simp; omega
            have p4 : (op == 4) = false := by simp; omega
            have p8 : (op == 8) = false := by simp; omega
            have p9 : (op == 9) = false := by simp; omega
            rw [if_neg (by omega), if_neg (by omega), if_neg (by omega)]
            clear h2 h3 h4 h8 h9
            go_enter Try.func41, Try.ntmps41
            go_wp2
            go_ret
            exact ⟨rfl, Below.refl _ _⟩
def inB (a n : Int) : Bool := decide (0 ≤ a ∧ a < n)
set_option maxRecDepth 100000 in
theorem within_c (a n : Int) (w : World) : Calls Try.prog 42 #[.int .i64 a, .int .i64 n] w fun e w' => e = .returned (.bool (inB a n)) ∧ Below w.heap.size w w' := by
  unfold inB
  by_cases h1 : 0 ≤ a
  · by_cases h2 : a < n
    · rw [decide_eq_true ⟨h1, h2⟩]
      go_enter Try.func42, Try.ntmps42
      go_wp2
      go_ret
      exact ⟨rfl, Below.refl _ _⟩
    · rw [decide_eq_false (fun h => h2 h.2)]
      go_enter Try.func42, Try.ntmps42
      go_wp2
      go_ret
      exact ⟨rfl, Below.refl _ _⟩
  · rw [decide_eq_false (fun h => h1 h.1)]
    go_enter Try.func42, Try.ntmps42
    go_wp2
    go_ret
    exact ⟨rfl, Below.refl _ _⟩
end Go.Proofs.Ytamcfmfkmekkfaa
/- The reference's fields, of an expression of a policy. -/
namespace Go.Proofs.Ytamcfmfkmekkfaa
open Go.RowKit
def fldR (K op a r b : Int) (nn : Nat) (s : S4) (m : Nat) : Bool := !(K != (m : Int)) && ((!(op != 8) || (!(r != 0) && !(b != 0))) && ((!decide (0 < K) || !(a != 0)) && (((nn : Int) == 0) && ((op == 9) || isz s))))
set_option maxRecDepth 100000 in
set_option maxHeartbeats 64000000 in
theorem fields_c (op a r b : Int) (ao : Option Addr) (nn cap : Nat) (s : S4) (ak : Option Addr) (m ck : Nat) (w : World) :
    Calls Try.prog 40 #[.agg #[.int .i64 op, .int .i64 a, .int .i64 r, .int .i64 b, .slice ao nn cap, .int .u64 s.a, .int .u64 s.b, .int .u64 s.c, .int .u64 s.d, .slice ak m ck], .bool false] w fun e w' => e = .returned (.bool (fldR (kidsN op) op a r b nn s m)) ∧ Below w.heap.size w w' := by
  have HX : Hid (XC ((w.alloc (.cells #[.int .i64 op, .int .i64 a, .int .i64 r, .int .i64 b, .slice ao nn cap, .int .u64 s.a, .int .u64 s.b, .int .u64 s.c, .int .u64 s.d, .slice ak m ck] 28)).alloc (.cells #[.int .u64 0, .int .u64 0, .int .u64 0, .int .u64 0] 25)) w.heap.size 0 op a r b ao nn cap s ak m ck) := Lib.hid (XC.of_blk ((Blk.new w _ _).alloc _))
  have HQ : Hid (Quad ((w.alloc (.cells #[.int .i64 op, .int .i64 a, .int .i64 r, .int .i64 b, .slice ao nn cap, .int .u64 s.a, .int .u64 s.b, .int .u64 s.c, .int .u64 s.d, .slice ak m ck] 28)).alloc (.cells #[.int .u64 0, .int .u64 0, .int .u64 0, .int .u64 0] 25)) (w.heap.size + 1) 0 0 0 0) := Lib.hid (by
    have h := Quad.new (w.alloc (.cells #[.int .i64 op, .int .i64 a, .int .i64 r, .int .i64 b, .slice ao nn cap, .int .u64 s.a, .int .u64 s.b, .int .u64 s.c, .int .u64 s.d, .slice ak m ck] 28)) 0 0 0 0
    rw [World.size_alloc] at h; exact h)
  have HB : Hid (Below w.heap.size w ((w.alloc (.cells #[.int .i64 op, .int .i64 a, .int .i64 r, .int .i64 b, .slice ao nn cap, .int .u64 s.a, .int .u64 s.b, .int .u64 s.c, .int .u64 s.d, .slice ak m ck] 28)).alloc (.cells #[.int .u64 0, .int .u64 0, .int .u64 0, .int .u64 0] 25))) := Lib.hid (((Below.refl _ _).alloc (Nat.le_refl _) _).alloc (by simp) _)
  have HG : Hid (w.heap.size < ((w.alloc (.cells #[.int .i64 op, .int .i64 a, .int .i64 r, .int .i64 b, .slice ao nn cap, .int .u64 s.a, .int .u64 s.b, .int .u64 s.c, .int .u64 s.d, .slice ak m ck] 28)).alloc (.cells #[.int .u64 0, .int .u64 0, .int .u64 0, .int .u64 0] 25)).heap.size) := Lib.hid (by simp; omega)
  have HKC := Lib.hid (kids_c op)
  unfold fldR
  generalize kidsN op = K at *
  cases q1 : (K != (m : Int)) with
  | true =>
    simp only [Bool.false_and, Bool.not_true]
    go_enter Try.func40, Try.ntmps40
    go_upto_region 2 with fail
    generalize hW : (w.alloc (.cells #[.int .i64 op, .int .i64 a, .int .i64 r, .int .i64 b, .slice ao nn cap, .int .u64 s.a, .int .u64 s.b, .int .u64 s.c, .int .u64 s.d, .slice ak m ck] 28)).alloc (.cells #[.int .u64 0, .int .u64 0, .int .u64 0, .int .u64 0] 25) = W0 at *
    refine wp_region_kp (by kernel_rfl) (by kernel_rfl) ?_
    repeat (first
        | go_big_quiet_skip
        | (go_big_quiet_want
           go_big_quiet_op
           first
             | go_big_quiet_on
             | (apply Exists.intro
                refine ⟨fun w1 hC => ?_, ?_⟩
                · first
                    | (go_at_call 41; with_reducible exact hC.call (HKC.out _))
                    | (go_simp; exact ⟨rfl, rfl⟩)
                    | (obtain ⟨y0, y1, y2, y3, y4, y5, y6, y7, y8, y9⟩ := (HX.out.keep (hC.block w.heap.size HG.out)).cells; go_simp; exact rfl)
                go_big_quiet_on)))
    refine wpQuiet_nil ?_
    intro W1 hC
    have HB1 := Lib.hid (HB.out.trans (hC.mono HB.out.size))
    obtain ⟨y0, y1, y2, y3, y4, y5, y6, y7, y8, y9⟩ := (HX.out.keep (hC.block w.heap.size HG.out)).cells
    obtain ⟨z0, z1, z2, z3, _⟩ := (Quad.below HQ.out hC HQ.out.lt).facts
    clear hC
    go_wp2_with fail
    go_ret
    exact ⟨rfl, HB1.out⟩
  | false =>
    cases q2 : (op != 8) with
    | false =>
      by_cases q5 : (0 : Int) < K
      · rw [decide_eq_true q5]
        cases q6 : (a != 0) with
        | true =>
          simp only [Bool.false_and, Bool.and_false, Bool.not_true, Bool.not_false, Bool.true_or, Bool.or_false]
          go_enter Try.func40, Try.ntmps40
          go_upto_region 2 with fail
          generalize hW : (w.alloc (.cells #[.int .i64 op, .int .i64 a, .int .i64 r, .int .i64 b, .slice ao nn cap, .int .u64 s.a, .int .u64 s.b, .int .u64 s.c, .int .u64 s.d, .slice ak m ck] 28)).alloc (.cells #[.int .u64 0, .int .u64 0, .int .u64 0, .int .u64 0] 25) = W0 at *
          refine wp_region_kp (by kernel_rfl) (by kernel_rfl) ?_
          repeat (first
              | go_big_quiet_skip
              | (go_big_quiet_want
                 go_big_quiet_op
                 first
                   | go_big_quiet_on
                   | (apply Exists.intro
                      refine ⟨fun w1 hC => ?_, ?_⟩
                      · first
                          | (go_at_call 41; with_reducible exact hC.call (HKC.out _))
                          | (go_simp; exact ⟨rfl, rfl⟩)
                          | (obtain ⟨y0, y1, y2, y3, y4, y5, y6, y7, y8, y9⟩ := (HX.out.keep (hC.block w.heap.size HG.out)).cells; go_simp; exact rfl)
                      go_big_quiet_on)))
          refine wpQuiet_nil ?_
          intro W1 hC
          have HB1 := Lib.hid (HB.out.trans (hC.mono HB.out.size))
          obtain ⟨y0, y1, y2, y3, y4, y5, y6, y7, y8, y9⟩ := (HX.out.keep (hC.block w.heap.size HG.out)).cells
          obtain ⟨z0, z1, z2, z3, _⟩ := (Quad.below HQ.out hC HQ.out.lt).facts
          clear hC
          go_wp2_with fail
          go_ret
          exact ⟨rfl, HB1.out⟩
        | false =>
          cases q8 : (op == 9) with
          | true =>
            cases q7 : ((nn : Int) == 0) with
            | false =>
              simp only [Bool.and_false, Bool.not_true, Bool.not_false, Bool.and_true, Bool.true_or, Bool.or_true]
              go_enter Try.func40, Try.ntmps40
              go_upto_region 2 with fail
              generalize hW : (w.alloc (.cells #[.int .i64 op, .int .i64 a, .int .i64 r, .int .i64 b, .slice ao nn cap, .int .u64 s.a, .int .u64 s.b, .int .u64 s.c, .int .u64 s.d, .slice ak m ck] 28)).alloc (.cells #[.int .u64 0, .int .u64 0, .int .u64 0, .int .u64 0] 25) = W0 at *
              refine wp_region_kp (by kernel_rfl) (by kernel_rfl) ?_
              repeat (first
                  | go_big_quiet_skip
                  | (go_big_quiet_want
                     go_big_quiet_op
                     first
                       | go_big_quiet_on
                       | (apply Exists.intro
                          refine ⟨fun w1 hC => ?_, ?_⟩
                          · first
                              | (go_at_call 41; with_reducible exact hC.call (HKC.out _))
                              | (go_simp; exact ⟨rfl, rfl⟩)
                              | (obtain ⟨y0, y1, y2, y3, y4, y5, y6, y7, y8, y9⟩ := (HX.out.keep (hC.block w.heap.size HG.out)).cells; go_simp; exact rfl)
                          go_big_quiet_on)))
              refine wpQuiet_nil ?_
              intro W1 hC
              have HB1 := Lib.hid (HB.out.trans (hC.mono HB.out.size))
              obtain ⟨y0, y1, y2, y3, y4, y5, y6, y7, y8, y9⟩ := (HX.out.keep (hC.block w.heap.size HG.out)).cells
              obtain ⟨z0, z1, z2, z3, _⟩ := (Quad.below HQ.out hC HQ.out.lt).facts
              clear hC
              go_wp2_with fail
              go_ret
              exact ⟨rfl, HB1.out⟩
            | true =>
              simp only [Bool.not_true, Bool.not_false, Bool.and_true, Bool.true_or, Bool.or_true]
              go_enter Try.func40, Try.ntmps40
              go_upto_region 2 with fail
              generalize hW : (w.alloc (.cells #[.int .i64 op, .int .i64 a, .int .i64 r, .int .i64 b, .slice ao nn cap, .int .u64 s.a, .int .u64 s.b, .int .u64 s.c, .int .u64 s.d, .slice ak m ck] 28)).alloc (.cells #[.int .u64 0, .int .u64 0, .int .u64 0, .int .u64 0] 25) = W0 at *
              refine wp_region_kp (by kernel_rfl) (by kernel_rfl) ?_
              repeat (first
                  | go_big_quiet_skip
                  | (go_big_quiet_want
                     go_big_quiet_op
                     first
                       | go_big_quiet_on
                       | (apply Exists.intro
                          refine ⟨fun w1 hC => ?_, ?_⟩
                          · first
                              | (go_at_call 41; with_reducible exact hC.call (HKC.out _))
                              | (go_simp; exact ⟨rfl, rfl⟩)
                              | (obtain ⟨y0, y1, y2, y3, y4, y5, y6, y7, y8, y9⟩ := (HX.out.keep (hC.block w.heap.size HG.out)).cells; go_simp; exact rfl)
                          go_big_quiet_on)))
              refine wpQuiet_nil ?_
              intro W1 hC
              have HB1 := Lib.hid (HB.out.trans (hC.mono HB.out.size))
              obtain ⟨y0, y1, y2, y3, y4, y5, y6, y7, y8, y9⟩ := (HX.out.keep (hC.block w.heap.size HG.out)).cells
              obtain ⟨z0, z1, z2, z3, _⟩ := (Quad.below HQ.out hC HQ.out.lt).facts
              clear hC
              go_wp2_with fail
              go_ret
              exact ⟨rfl, HB1.out⟩
          | false =>
            cases q7 : ((nn : Int) == 0) with
            | false =>
              simp only [Bool.false_and, Bool.and_false, Bool.not_true, Bool.not_false, Bool.true_or, Bool.or_true, Bool.false_or]
              go_enter Try.func40, Try.ntmps40
              go_upto_region 2 with fail
              generalize hW : (w.alloc (.cells #[.int .i64 op, .int .i64 a, .int .i64 r, .int .i64 b, .slice ao nn cap, .int .u64 s.a, .int .u64 s.b, .int .u64 s.c, .int .u64 s.d, .slice ak m ck] 28)).alloc (.cells #[.int .u64 0, .int .u64 0, .int .u64 0, .int .u64 0] 25) = W0 at *
              refine wp_region_kp (by kernel_rfl) (by kernel_rfl) ?_
              repeat (first
                  | go_big_quiet_skip
                  | (go_big_quiet_want
                     go_big_quiet_op
                     first
                       | go_big_quiet_on
                       | (apply Exists.intro
                          refine ⟨fun w1 hC => ?_, ?_⟩
                          · first
                              | (go_at_call 41; with_reducible exact hC.call (HKC.out _))
                              | (go_simp; exact ⟨rfl, rfl⟩)
                              | (obtain ⟨y0, y1, y2, y3, y4, y5, y6, y7, y8, y9⟩ := (HX.out.keep (hC.block w.heap.size HG.out)).cells; go_simp; exact rfl)
                          go_big_quiet_on)))
              refine wpQuiet_nil ?_
              intro W1 hC
              have HB1 := Lib.hid (HB.out.trans (hC.mono HB.out.size))
              obtain ⟨y0, y1, y2, y3, y4, y5, y6, y7, y8, y9⟩ := (HX.out.keep (hC.block w.heap.size HG.out)).cells
              obtain ⟨z0, z1, z2, z3, _⟩ := (Quad.below HQ.out hC HQ.out.lt).facts
              clear hC
              go_wp2_with fail
              go_ret
              exact ⟨rfl, HB1.out⟩
            | true =>
              cases q9 : isz s with
              | true =>
                unfold isz at q9
                simp only [Bool.not_true, Bool.not_false, Bool.and_true, Bool.true_or, Bool.or_true]
                go_enter Try.func40, Try.ntmps40
                go_upto_region 2 with fail
                generalize hW : (w.alloc (.cells #[.int .i64 op, .int .i64 a, .int .i64 r, .int .i64 b, .slice ao nn cap, .int .u64 s.a, .int .u64 s.b, .int .u64 s.c, .int .u64 s.d, .slice ak m ck] 28)).alloc (.cells #[.int .u64 0, .int .u64 0, .int .u64 0, .int .u64 0] 25) = W0 at *
                refine wp_region_kp (by kernel_rfl) (by kernel_rfl) ?_
                repeat (first
                    | go_big_quiet_skip
                    | (go_big_quiet_want
                       go_big_quiet_op
                       first
                         | go_big_quiet_on
                         | (apply Exists.intro
                            refine ⟨fun w1 hC => ?_, ?_⟩
                            · first
                                | (go_at_call 41; with_reducible exact hC.call (HKC.out _))
                                | (go_simp; exact ⟨rfl, rfl⟩)
                                | (obtain ⟨y0, y1, y2, y3, y4, y5, y6, y7, y8, y9⟩ := (HX.out.keep (hC.block w.heap.size HG.out)).cells; go_simp; exact rfl)
                            go_big_quiet_on)))
                refine wpQuiet_nil ?_
                intro W1 hC
                have HB1 := Lib.hid (HB.out.trans (hC.mono HB.out.size))
                obtain ⟨y0, y1, y2, y3, y4, y5, y6, y7, y8, y9⟩ := (HX.out.keep (hC.block w.heap.size HG.out)).cells
                obtain ⟨z0, z1, z2, z3, _⟩ := (Quad.below HQ.out hC HQ.out.lt).facts
                clear hC
                go_wp2_with fail
                go_ret
                exact ⟨rfl, HB1.out⟩
              | false =>
                unfold isz at q9
                simp only [Bool.and_false, Bool.not_true, Bool.not_false, Bool.true_or, Bool.or_true, Bool.or_false]
                go_enter Try.func40, Try.ntmps40
                go_upto_region 2 with fail
                generalize hW : (w.alloc (.cells #[.int .i64 op, .int .i64 a, .int .i64 r, .int .i64 b, .slice ao nn cap, .int .u64 s.a, .int .u64 s.b, .int .u64 s.c, .int .u64 s.d, .slice ak m ck] 28)).alloc (.cells #[.int .u64 0, .int .u64 0, .int .u64 0, .int .u64 0] 25) = W0 at *
                refine wp_region_kp (by kernel_rfl) (by kernel_rfl) ?_
                repeat (first
                    | go_big_quiet_skip
                    | (go_big_quiet_want
                       go_big_quiet_op
                       first
                         | go_big_quiet_on
                         | (apply Exists.intro
                            refine ⟨fun w1 hC => ?_, ?_⟩
                            · first
                                | (go_at_call 41; with_reducible exact hC.call (HKC.out _))
                                | (go_simp; exact ⟨rfl, rfl⟩)
                                | (obtain ⟨y0, y1, y2, y3, y4, y5, y6, y7, y8, y9⟩ := (HX.out.keep (hC.block w.heap.size HG.out)).cells; go_simp; exact rfl)
                            go_big_quiet_on)))
                refine wpQuiet_nil ?_
                intro W1 hC
                have HB1 := Lib.hid (HB.out.trans (hC.mono HB.out.size))
                obtain ⟨y0, y1, y2, y3, y4, y5, y6, y7, y8, y9⟩ := (HX.out.keep (hC.block w.heap.size HG.out)).cells
                obtain ⟨z0, z1, z2, z3, _⟩ := (Quad.below HQ.out hC HQ.out.lt).facts
                clear hC
                go_wp2_with fail
                go_ret
                exact ⟨rfl, HB1.out⟩
      · rw [decide_eq_false q5]
        cases q8 : (op == 9) with
        | true =>
          cases q7 : ((nn : Int) == 0) with
          | false =>
            simp only [Bool.and_false, Bool.not_false, Bool.and_true, Bool.true_or]
            go_enter Try.func40, Try.ntmps40
            go_upto_region 2 with fail
            generalize hW : (w.alloc (.cells #[.int .i64 op, .int .i64 a, .int .i64 r, .int .i64 b, .slice ao nn cap, .int .u64 s.a, .int .u64 s.b, .int .u64 s.c, .int .u64 s.d, .slice ak m ck] 28)).alloc (.cells #[.int .u64 0, .int .u64 0, .int .u64 0, .int .u64 0] 25) = W0 at *
            refine wp_region_kp (by kernel_rfl) (by kernel_rfl) ?_
            repeat (first
                | go_big_quiet_skip
                | (go_big_quiet_want
                   go_big_quiet_op
                   first
                     | go_big_quiet_on
                     | (apply Exists.intro
                        refine ⟨fun w1 hC => ?_, ?_⟩
                        · first
                            | (go_at_call 41; with_reducible exact hC.call (HKC.out _))
                            | (go_simp; exact ⟨rfl, rfl⟩)
                            | (obtain ⟨y0, y1, y2, y3, y4, y5, y6, y7, y8, y9⟩ := (HX.out.keep (hC.block w.heap.size HG.out)).cells; go_simp; exact rfl)
                        go_big_quiet_on)))
            refine wpQuiet_nil ?_
            intro W1 hC
            have HB1 := Lib.hid (HB.out.trans (hC.mono HB.out.size))
            obtain ⟨y0, y1, y2, y3, y4, y5, y6, y7, y8, y9⟩ := (HX.out.keep (hC.block w.heap.size HG.out)).cells
            obtain ⟨z0, z1, z2, z3, _⟩ := (Quad.below HQ.out hC HQ.out.lt).facts
            clear hC
            go_wp2_with fail
            go_ret
            exact ⟨rfl, HB1.out⟩
          | true =>
            simp only [Bool.not_false, Bool.and_true, Bool.true_or]
            go_enter Try.func40, Try.ntmps40
            go_upto_region 2 with fail
            generalize hW : (w.alloc (.cells #[.int .i64 op, .int .i64 a, .int .i64 r, .int .i64 b, .slice ao nn cap, .int .u64 s.a, .int .u64 s.b, .int .u64 s.c, .int .u64 s.d, .slice ak m ck] 28)).alloc (.cells #[.int .u64 0, .int .u64 0, .int .u64 0, .int .u64 0] 25) = W0 at *
            refine wp_region_kp (by kernel_rfl) (by kernel_rfl) ?_
            repeat (first
                | go_big_quiet_skip
                | (go_big_quiet_want
                   go_big_quiet_op
                   first
                     | go_big_quiet_on
                     | (apply Exists.intro
                        refine ⟨fun w1 hC => ?_, ?_⟩
                        · first
                            | (go_at_call 41; with_reducible exact hC.call (HKC.out _))
                            | (go_simp; exact ⟨rfl, rfl⟩)
                            | (obtain ⟨y0, y1, y2, y3, y4, y5, y6, y7, y8, y9⟩ := (HX.out.keep (hC.block w.heap.size HG.out)).cells; go_simp; exact rfl)
                        go_big_quiet_on)))
            refine wpQuiet_nil ?_
            intro W1 hC
            have HB1 := Lib.hid (HB.out.trans (hC.mono HB.out.size))
            obtain ⟨y0, y1, y2, y3, y4, y5, y6, y7, y8, y9⟩ := (HX.out.keep (hC.block w.heap.size HG.out)).cells
            obtain ⟨z0, z1, z2, z3, _⟩ := (Quad.below HQ.out hC HQ.out.lt).facts
            clear hC
            go_wp2_with fail
            go_ret
            exact ⟨rfl, HB1.out⟩
        | false =>
          cases q7 : ((nn : Int) == 0) with
          | false =>
            simp only [Bool.false_and, Bool.and_false, Bool.not_false, Bool.true_or, Bool.false_or]
            go_enter Try.func40, Try.ntmps40
            go_upto_region 2 with fail
            generalize hW : (w.alloc (.cells #[.int .i64 op, .int .i64 a, .int .i64 r, .int .i64 b, .slice ao nn cap, .int .u64 s.a, .int .u64 s.b, .int .u64 s.c, .int .u64 s.d, .slice ak m ck] 28)).alloc (.cells #[.int .u64 0, .int .u64 0, .int .u64 0, .int .u64 0] 25) = W0 at *
            refine wp_region_kp (by kernel_rfl) (by kernel_rfl) ?_
            repeat (first
                | go_big_quiet_skip
                | (go_big_quiet_want
                   go_big_quiet_op
                   first
                     | go_big_quiet_on
                     | (apply Exists.intro
                        refine ⟨fun w1 hC => ?_, ?_⟩
                        · first
                            | (go_at_call 41; with_reducible exact hC.call (HKC.out _))
                            | (go_simp; exact ⟨rfl, rfl⟩)
                            | (obtain ⟨y0, y1, y2, y3, y4, y5, y6, y7, y8, y9⟩ := (HX.out.keep (hC.block w.heap.size HG.out)).cells; go_simp; exact rfl)
                        go_big_quiet_on)))
            refine wpQuiet_nil ?_
            intro W1 hC
            have HB1 := Lib.hid (HB.out.trans (hC.mono HB.out.size))
            obtain ⟨y0, y1, y2, y3, y4, y5, y6, y7, y8, y9⟩ := (HX.out.keep (hC.block w.heap.size HG.out)).cells
            obtain ⟨z0, z1, z2, z3, _⟩ := (Quad.below HQ.out hC HQ.out.lt).facts
            clear hC
            go_wp2_with fail
            go_ret
            exact ⟨rfl, HB1.out⟩
          | true =>
            cases q9 : isz s with
            | true =>
              unfold isz at q9
              simp only [Bool.not_false, Bool.and_true, Bool.true_or, Bool.or_true]
              go_enter Try.func40, Try.ntmps40
              go_upto_region 2 with fail
              generalize hW : (w.alloc (.cells #[.int .i64 op, .int .i64 a, .int .i64 r, .int .i64 b, .slice ao nn cap, .int .u64 s.a, .int .u64 s.b, .int .u64 s.c, .int .u64 s.d, .slice ak m ck] 28)).alloc (.cells #[.int .u64 0, .int .u64 0, .int .u64 0, .int .u64 0] 25) = W0 at *
              refine wp_region_kp (by kernel_rfl) (by kernel_rfl) ?_
              repeat (first
                  | go_big_quiet_skip
                  | (go_big_quiet_want
                     go_big_quiet_op
                     first
                       | go_big_quiet_on
                       | (apply Exists.intro
                          refine ⟨fun w1 hC => ?_, ?_⟩
                          · first
                              | (go_at_call 41; with_reducible exact hC.call (HKC.out _))
                              | (go_simp; exact ⟨rfl, rfl⟩)
                              | (obtain ⟨y0, y1, y2, y3, y4, y5, y6, y7, y8, y9⟩ := (HX.out.keep (hC.block w.heap.size HG.out)).cells; go_simp; exact rfl)
                          go_big_quiet_on)))
              refine wpQuiet_nil ?_
              intro W1 hC
              have HB1 := Lib.hid (HB.out.trans (hC.mono HB.out.size))
              obtain ⟨y0, y1, y2, y3, y4, y5, y6, y7, y8, y9⟩ := (HX.out.keep (hC.block w.heap.size HG.out)).cells
              obtain ⟨z0, z1, z2, z3, _⟩ := (Quad.below HQ.out hC HQ.out.lt).facts
              clear hC
              go_wp2_with fail
              go_ret
              exact ⟨rfl, HB1.out⟩
            | false =>
              unfold isz at q9
              simp only [Bool.and_false, Bool.not_false, Bool.true_or, Bool.or_false]
              go_enter Try.func40, Try.ntmps40
              go_upto_region 2 with fail
              generalize hW : (w.alloc (.cells #[.int .i64 op, .int .i64 a, .int .i64 r, .int .i64 b, .slice ao nn cap, .int .u64 s.a, .int .u64 s.b, .int .u64 s.c, .int .u64 s.d, .slice ak m ck] 28)).alloc (.cells #[.int .u64 0, .int .u64 0, .int .u64 0, .int .u64 0] 25) = W0 at *
              refine wp_region_kp (by kernel_rfl) (by kernel_rfl) ?_
              repeat (first
                  | go_big_quiet_skip
                  | (go_big_quiet_want
                     go_big_quiet_op
                     first
                       | go_big_quiet_on
                       | (apply Exists.intro
                          refine ⟨fun w1 hC => ?_, ?_⟩
                          · first
                              | (go_at_call 41; with_reducible exact hC.call (HKC.out _))
                              | (go_simp; exact ⟨rfl, rfl⟩)
                              | (obtain ⟨y0, y1, y2, y3, y4, y5, y6, y7, y8, y9⟩ := (HX.out.keep (hC.block w.heap.size HG.out)).cells; go_simp; exact rfl)
                          go_big_quiet_on)))
              refine wpQuiet_nil ?_
              intro W1 hC
              have HB1 := Lib.hid (HB.out.trans (hC.mono HB.out.size))
              obtain ⟨y0, y1, y2, y3, y4, y5, y6, y7, y8, y9⟩ := (HX.out.keep (hC.block w.heap.size HG.out)).cells
              obtain ⟨z0, z1, z2, z3, _⟩ := (Quad.below HQ.out hC HQ.out.lt).facts
              clear hC
              go_wp2_with fail
              go_ret
              exact ⟨rfl, HB1.out⟩
    | true =>
      cases q3 : (r != 0) with
      | true =>
        simp only [Bool.false_and, Bool.and_false, Bool.not_true, Bool.not_false, Bool.or_false]
        go_enter Try.func40, Try.ntmps40
        go_upto_region 2 with fail
        generalize hW : (w.alloc (.cells #[.int .i64 op, .int .i64 a, .int .i64 r, .int .i64 b, .slice ao nn cap, .int .u64 s.a, .int .u64 s.b, .int .u64 s.c, .int .u64 s.d, .slice ak m ck] 28)).alloc (.cells #[.int .u64 0, .int .u64 0, .int .u64 0, .int .u64 0] 25) = W0 at *
        refine wp_region_kp (by kernel_rfl) (by kernel_rfl) ?_
        repeat (first
            | go_big_quiet_skip
            | (go_big_quiet_want
               go_big_quiet_op
               first
                 | go_big_quiet_on
                 | (apply Exists.intro
                    refine ⟨fun w1 hC => ?_, ?_⟩
                    · first
                        | (go_at_call 41; with_reducible exact hC.call (HKC.out _))
                        | (go_simp; exact ⟨rfl, rfl⟩)
                        | (obtain ⟨y0, y1, y2, y3, y4, y5, y6, y7, y8, y9⟩ := (HX.out.keep (hC.block w.heap.size HG.out)).cells; go_simp; exact rfl)
                    go_big_quiet_on)))
        refine wpQuiet_nil ?_
        intro W1 hC
        have HB1 := Lib.hid (HB.out.trans (hC.mono HB.out.size))
        obtain ⟨y0, y1, y2, y3, y4, y5, y6, y7, y8, y9⟩ := (HX.out.keep (hC.block w.heap.size HG.out)).cells
        obtain ⟨z0, z1, z2, z3, _⟩ := (Quad.below HQ.out hC HQ.out.lt).facts
        clear hC
        go_wp2_with fail
        go_ret
        exact ⟨rfl, HB1.out⟩
      | false =>
        cases q4 : (b != 0) with
        | true =>
          simp only [Bool.false_and, Bool.and_false, Bool.not_true, Bool.not_false, Bool.or_false]
          go_enter Try.func40, Try.ntmps40
          go_upto_region 2 with fail
          generalize hW : (w.alloc (.cells #[.int .i64 op, .int .i64 a, .int .i64 r, .int .i64 b, .slice ao nn cap, .int .u64 s.a, .int .u64 s.b, .int .u64 s.c, .int .u64 s.d, .slice ak m ck] 28)).alloc (.cells #[.int .u64 0, .int .u64 0, .int .u64 0, .int .u64 0] 25) = W0 at *
          refine wp_region_kp (by kernel_rfl) (by kernel_rfl) ?_
          repeat (first
              | go_big_quiet_skip
              | (go_big_quiet_want
                 go_big_quiet_op
                 first
                   | go_big_quiet_on
                   | (apply Exists.intro
                      refine ⟨fun w1 hC => ?_, ?_⟩
                      · first
                          | (go_at_call 41; with_reducible exact hC.call (HKC.out _))
                          | (go_simp; exact ⟨rfl, rfl⟩)
                          | (obtain ⟨y0, y1, y2, y3, y4, y5, y6, y7, y8, y9⟩ := (HX.out.keep (hC.block w.heap.size HG.out)).cells; go_simp; exact rfl)
                      go_big_quiet_on)))
          refine wpQuiet_nil ?_
          intro W1 hC
          have HB1 := Lib.hid (HB.out.trans (hC.mono HB.out.size))
          obtain ⟨y0, y1, y2, y3, y4, y5, y6, y7, y8, y9⟩ := (HX.out.keep (hC.block w.heap.size HG.out)).cells
          obtain ⟨z0, z1, z2, z3, _⟩ := (Quad.below HQ.out hC HQ.out.lt).facts
          clear hC
          go_wp2_with fail
          go_ret
          exact ⟨rfl, HB1.out⟩
        | false =>
          by_cases q5 : (0 : Int) < K
          · rw [decide_eq_true q5]
            cases q6 : (a != 0) with
            | true =>
              simp only [Bool.false_and, Bool.and_false, Bool.not_true, Bool.not_false, Bool.and_true, Bool.or_true, Bool.or_false]
              go_enter Try.func40, Try.ntmps40
              go_upto_region 2 with fail
              generalize hW : (w.alloc (.cells #[.int .i64 op, .int .i64 a, .int .i64 r, .int .i64 b, .slice ao nn cap, .int .u64 s.a, .int .u64 s.b, .int .u64 s.c, .int .u64 s.d, .slice ak m ck] 28)).alloc (.cells #[.int .u64 0, .int .u64 0, .int .u64 0, .int .u64 0] 25) = W0 at *
              refine wp_region_kp (by kernel_rfl) (by kernel_rfl) ?_
              repeat (first
                  | go_big_quiet_skip
                  | (go_big_quiet_want
                     go_big_quiet_op
                     first
                       | go_big_quiet_on
                       | (apply Exists.intro
                          refine ⟨fun w1 hC => ?_, ?_⟩
                          · first
                              | (go_at_call 41; with_reducible exact hC.call (HKC.out _))
                              | (go_simp; exact ⟨rfl, rfl⟩)
                              | (obtain ⟨y0, y1, y2, y3, y4, y5, y6, y7, y8, y9⟩ := (HX.out.keep (hC.block w.heap.size HG.out)).cells; go_simp; exact rfl)
                          go_big_quiet_on)))
              refine wpQuiet_nil ?_
              intro W1 hC
              have HB1 := Lib.hid (HB.out.trans (hC.mono HB.out.size))
              obtain ⟨y0, y1, y2, y3, y4, y5, y6, y7, y8, y9⟩ := (HX.out.keep (hC.block w.heap.size HG.out)).cells
              obtain ⟨z0, z1, z2, z3, _⟩ := (Quad.below HQ.out hC HQ.out.lt).facts
              clear hC
              go_wp2_with fail
              go_ret
              exact ⟨rfl, HB1.out⟩
            | false =>
              cases q8 : (op == 9) with
              | true =>
                cases q7 : ((nn : Int) == 0) with
                | false =>
                  simp only [Bool.and_false, Bool.not_true, Bool.not_false, Bool.and_true, Bool.true_or, Bool.or_true]
                  go_enter Try.func40, Try.ntmps40
                  go_upto_region 2 with fail
                  generalize hW : (w.alloc (.cells #[.int .i64 op, .int .i64 a, .int .i64 r, .int .i64 b, .slice ao nn cap, .int .u64 s.a, .int .u64 s.b, .int .u64 s.c, .int .u64 s.d, .slice ak m ck] 28)).alloc (.cells #[.int .u64 0, .int .u64 0, .int .u64 0, .int .u64 0] 25) = W0 at *
                  refine wp_region_kp (by kernel_rfl) (by kernel_rfl) ?_
                  repeat (first
                      | go_big_quiet_skip
                      | (go_big_quiet_want
                         go_big_quiet_op
                         first
                           | go_big_quiet_on
                           | (apply Exists.intro
                              refine ⟨fun w1 hC => ?_, ?_⟩
                              · first
                                  | (go_at_call 41; with_reducible exact hC.call (HKC.out _))
                                  | (go_simp; exact ⟨rfl, rfl⟩)
                                  | (obtain ⟨y0, y1, y2, y3, y4, y5, y6, y7, y8, y9⟩ := (HX.out.keep (hC.block w.heap.size HG.out)).cells; go_simp; exact rfl)
                              go_big_quiet_on)))
                  refine wpQuiet_nil ?_
                  intro W1 hC
                  have HB1 := Lib.hid (HB.out.trans (hC.mono HB.out.size))
                  obtain ⟨y0, y1, y2, y3, y4, y5, y6, y7, y8, y9⟩ := (HX.out.keep (hC.block w.heap.size HG.out)).cells
                  obtain ⟨z0, z1, z2, z3, _⟩ := (Quad.below HQ.out hC HQ.out.lt).facts
                  clear hC
                  go_wp2_with fail
                  go_ret
                  exact ⟨rfl, HB1.out⟩
                | true =>
                  simp only [Bool.not_true, Bool.not_false, Bool.and_true, Bool.true_or, Bool.or_true]
                  go_enter Try.func40, Try.ntmps40
                  go_upto_region 2 with fail
                  generalize hW : (w.alloc (.cells #[.int .i64 op, .int .i64 a, .int .i64 r, .int .i64 b, .slice ao nn cap, .int .u64 s.a, .int .u64 s.b, .int .u64 s.c, .int .u64 s.d, .slice ak m ck] 28)).alloc (.cells #[.int .u64 0, .int .u64 0, .int .u64 0, .int .u64 0] 25) = W0 at *
                  refine wp_region_kp (by kernel_rfl) (by kernel_rfl) ?_
                  repeat (first
                      | go_big_quiet_skip
                      | (go_big_quiet_want
                         go_big_quiet_op
                         first
                           | go_big_quiet_on
                           | (apply Exists.intro
                              refine ⟨fun w1 hC => ?_, ?_⟩
                              · first
                                  | (go_at_call 41; with_reducible exact hC.call (HKC.out _))
                                  | (go_simp; exact ⟨rfl, rfl⟩)
                                  | (obtain ⟨y0, y1, y2, y3, y4, y5, y6, y7, y8, y9⟩ := (HX.out.keep (hC.block w.heap.size HG.out)).cells; go_simp; exact rfl)
                              go_big_quiet_on)))
                  refine wpQuiet_nil ?_
                  intro W1 hC
                  have HB1 := Lib.hid (HB.out.trans (hC.mono HB.out.size))
                  obtain ⟨y0, y1, y2, y3, y4, y5, y6, y7, y8, y9⟩ := (HX.out.keep (hC.block w.heap.size HG.out)).cells
                  obtain ⟨z0, z1, z2, z3, _⟩ := (Quad.below HQ.out hC HQ.out.lt).facts
                  clear hC
                  go_wp2_with fail
                  go_ret
                  exact ⟨rfl, HB1.out⟩
              | false =>
                cases q7 : ((nn : Int) == 0) with
                | false =>
                  simp only [Bool.false_and, Bool.and_false, Bool.not_true, Bool.not_false, Bool.and_true, Bool.or_true, Bool.false_or]
                  go_enter Try.func40, Try.ntmps40
                  go_upto_region 2 with fail
                  generalize hW : (w.alloc (.cells #[.int .i64 op, .int .i64 a, .int .i64 r, .int .i64 b, .slice ao nn cap, .int .u64 s.a, .int .u64 s.b, .int .u64 s.c, .int .u64 s.d, .slice ak m ck] 28)).alloc (.cells #[.int .u64 0, .int .u64 0, .int .u64 0, .int .u64 0] 25) = W0 at *
                  refine wp_region_kp (by kernel_rfl) (by kernel_rfl) ?_
                  repeat (first
                      | go_big_quiet_skip
                      | (go_big_quiet_want
                         go_big_quiet_op
                         first
                           | go_big_quiet_on
                           | (apply Exists.intro
                              refine ⟨fun w1 hC => ?_, ?_⟩
                              · first
                                  | (go_at_call 41; with_reducible exact hC.call (HKC.out _))
                                  | (go_simp; exact ⟨rfl, rfl⟩)
                                  | (obtain ⟨y0, y1, y2, y3, y4, y5, y6, y7, y8, y9⟩ := (HX.out.keep (hC.block w.heap.size HG.out)).cells; go_simp; exact rfl)
                              go_big_quiet_on)))
                  refine wpQuiet_nil ?_
                  intro W1 hC
                  have HB1 := Lib.hid (HB.out.trans (hC.mono HB.out.size))
                  obtain ⟨y0, y1, y2, y3, y4, y5, y6, y7, y8, y9⟩ := (HX.out.keep (hC.block w.heap.size HG.out)).cells
                  obtain ⟨z0, z1, z2, z3, _⟩ := (Quad.below HQ.out hC HQ.out.lt).facts
                  clear hC
                  go_wp2_with fail
                  go_ret
                  exact ⟨rfl, HB1.out⟩
                | true =>
                  cases q9 : isz s with
                  | true =>
                    unfold isz at q9
                    simp only [Bool.not_true, Bool.not_false, Bool.and_true, Bool.or_true]
                    go_enter Try.func40, Try.ntmps40
                    go_upto_region 2 with fail
                    generalize hW : (w.alloc (.cells #[.int .i64 op, .int .i64 a, .int .i64 r, .int .i64 b, .slice ao nn cap, .int .u64 s.a, .int .u64 s.b, .int .u64 s.c, .int .u64 s.d, .slice ak m ck] 28)).alloc (.cells #[.int .u64 0, .int .u64 0, .int .u64 0, .int .u64 0] 25) = W0 at *
                    refine wp_region_kp (by kernel_rfl) (by kernel_rfl) ?_
                    repeat (first
                        | go_big_quiet_skip
                        | (go_big_quiet_want
                           go_big_quiet_op
                           first
                             | go_big_quiet_on
                             | (apply Exists.intro
                                refine ⟨fun w1 hC => ?_, ?_⟩
                                · first
                                    | (go_at_call 41; with_reducible exact hC.call (HKC.out _))
                                    | (go_simp; exact ⟨rfl, rfl⟩)
                                    | (obtain ⟨y0, y1, y2, y3, y4, y5, y6, y7, y8, y9⟩ := (HX.out.keep (hC.block w.heap.size HG.out)).cells; go_simp; exact rfl)
                                go_big_quiet_on)))
                    refine wpQuiet_nil ?_
                    intro W1 hC
                    have HB1 := Lib.hid (HB.out.trans (hC.mono HB.out.size))
                    obtain ⟨y0, y1, y2, y3, y4, y5, y6, y7, y8, y9⟩ := (HX.out.keep (hC.block w.heap.size HG.out)).cells
                    obtain ⟨z0, z1, z2, z3, _⟩ := (Quad.below HQ.out hC HQ.out.lt).facts
                    clear hC
                    go_wp2_with fail
                    go_ret
                    exact ⟨rfl, HB1.out⟩
                  | false =>
                    unfold isz at q9
                    simp only [Bool.and_false, Bool.not_true, Bool.not_false, Bool.and_true, Bool.or_true, Bool.or_false]
                    go_enter Try.func40, Try.ntmps40
                    go_upto_region 2 with fail
                    generalize hW : (w.alloc (.cells #[.int .i64 op, .int .i64 a, .int .i64 r, .int .i64 b, .slice ao nn cap, .int .u64 s.a, .int .u64 s.b, .int .u64 s.c, .int .u64 s.d, .slice ak m ck] 28)).alloc (.cells #[.int .u64 0, .int .u64 0, .int .u64 0, .int .u64 0] 25) = W0 at *
                    refine wp_region_kp (by kernel_rfl) (by kernel_rfl) ?_
                    repeat (first
                        | go_big_quiet_skip
                        | (go_big_quiet_want
                           go_big_quiet_op
                           first
                             | go_big_quiet_on
                             | (apply Exists.intro
                                refine ⟨fun w1 hC => ?_, ?_⟩
                                · first
                                    | (go_at_call 41; with_reducible exact hC.call (HKC.out _))
                                    | (go_simp; exact ⟨rfl, rfl⟩)
                                    | (obtain ⟨y0, y1, y2, y3, y4, y5, y6, y7, y8, y9⟩ := (HX.out.keep (hC.block w.heap.size HG.out)).cells; go_simp; exact rfl)
                                go_big_quiet_on)))
                    refine wpQuiet_nil ?_
                    intro W1 hC
                    have HB1 := Lib.hid (HB.out.trans (hC.mono HB.out.size))
                    obtain ⟨y0, y1, y2, y3, y4, y5, y6, y7, y8, y9⟩ := (HX.out.keep (hC.block w.heap.size HG.out)).cells
                    obtain ⟨z0, z1, z2, z3, _⟩ := (Quad.below HQ.out hC HQ.out.lt).facts
                    clear hC
                    go_wp2_with fail
                    go_ret
                    exact ⟨rfl, HB1.out⟩
          · rw [decide_eq_false q5]
            cases q8 : (op == 9) with
            | true =>
              cases q7 : ((nn : Int) == 0) with
              | false =>
                simp only [Bool.and_false, Bool.not_true, Bool.not_false, Bool.and_true, Bool.true_or, Bool.or_true]
                go_enter Try.func40, Try.ntmps40
                go_upto_region 2 with fail
                generalize hW : (w.alloc (.cells #[.int .i64 op, .int .i64 a, .int .i64 r, .int .i64 b, .slice ao nn cap, .int .u64 s.a, .int .u64 s.b, .int .u64 s.c, .int .u64 s.d, .slice ak m ck] 28)).alloc (.cells #[.int .u64 0, .int .u64 0, .int .u64 0, .int .u64 0] 25) = W0 at *
                refine wp_region_kp (by kernel_rfl) (by kernel_rfl) ?_
                repeat (first
                    | go_big_quiet_skip
                    | (go_big_quiet_want
                       go_big_quiet_op
                       first
                         | go_big_quiet_on
                         | (apply Exists.intro
                            refine ⟨fun w1 hC => ?_, ?_⟩
                            · first
                                | (go_at_call 41; with_reducible exact hC.call (HKC.out _))
                                | (go_simp; exact ⟨rfl, rfl⟩)
                                | (obtain ⟨y0, y1, y2, y3, y4, y5, y6, y7, y8, y9⟩ := (HX.out.keep (hC.block w.heap.size HG.out)).cells; go_simp; exact rfl)
                            go_big_quiet_on)))
                refine wpQuiet_nil ?_
                intro W1 hC
                have HB1 := Lib.hid (HB.out.trans (hC.mono HB.out.size))
                obtain ⟨y0, y1, y2, y3, y4, y5, y6, y7, y8, y9⟩ := (HX.out.keep (hC.block w.heap.size HG.out)).cells
                obtain ⟨z0, z1, z2, z3, _⟩ := (Quad.below HQ.out hC HQ.out.lt).facts
                clear hC
                go_wp2_with fail
                go_ret
                exact ⟨rfl, HB1.out⟩
              | true =>
                simp only [Bool.not_true, Bool.not_false, Bool.and_true, Bool.true_or, Bool.or_true]
                go_enter Try.func40, Try.ntmps40
                go_upto_region 2 with fail
                generalize hW : (w.alloc (.cells #[.int .i64 op, .int .i64 a, .int .i64 r, .int .i64 b, .slice ao nn cap, .int .u64 s.a, .int .u64 s.b, .int .u64 s.c, .int .u64 s.d, .slice ak m ck] 28)).alloc (.cells #[.int .u64 0, .int .u64 0, .int .u64 0, .int .u64 0] 25) = W0 at *
                refine wp_region_kp (by kernel_rfl) (by kernel_rfl) ?_
                repeat (first
                    | go_big_quiet_skip
                    | (go_big_quiet_want
                       go_big_quiet_op
                       first
                         | go_big_quiet_on
                         | (apply Exists.intro
                            refine ⟨fun w1 hC => ?_, ?_⟩
                            · first
                                | (go_at_call 41; with_reducible exact hC.call (HKC.out _))
                                | (go_simp; exact ⟨rfl, rfl⟩)
                                | (obtain ⟨y0, y1, y2, y3, y4, y5, y6, y7, y8, y9⟩ := (HX.out.keep (hC.block w.heap.size HG.out)).cells; go_simp; exact rfl)
                            go_big_quiet_on)))
                refine wpQuiet_nil ?_
                intro W1 hC
                have HB1 := Lib.hid (HB.out.trans (hC.mono HB.out.size))
                obtain ⟨y0, y1, y2, y3, y4, y5, y6, y7, y8, y9⟩ := (HX.out.keep (hC.block w.heap.size HG.out)).cells
                obtain ⟨z0, z1, z2, z3, _⟩ := (Quad.below HQ.out hC HQ.out.lt).facts
                clear hC
                go_wp2_with fail
                go_ret
                exact ⟨rfl, HB1.out⟩
            | false =>
              cases q7 : ((nn : Int) == 0) with
              | false =>
                simp only [Bool.false_and, Bool.and_false, Bool.not_true, Bool.not_false, Bool.and_true, Bool.true_or, Bool.or_true, Bool.false_or]
                go_enter Try.func40, Try.ntmps40
                go_upto_region 2 with fail
                generalize hW : (w.alloc (.cells #[.int .i64 op, .int .i64 a, .int .i64 r, .int .i64 b, .slice ao nn cap, .int .u64 s.a, .int .u64 s.b, .int .u64 s.c, .int .u64 s.d, .slice ak m ck] 28)).alloc (.cells #[.int .u64 0, .int .u64 0, .int .u64 0, .int .u64 0] 25) = W0 at *
                refine wp_region_kp (by kernel_rfl) (by kernel_rfl) ?_
                repeat (first
                    | go_big_quiet_skip
                    | (go_big_quiet_want
                       go_big_quiet_op
                       first
                         | go_big_quiet_on
                         | (apply Exists.intro
                            refine ⟨fun w1 hC => ?_, ?_⟩
                            · first
                                | (go_at_call 41; with_reducible exact hC.call (HKC.out _))
                                | (go_simp; exact ⟨rfl, rfl⟩)
                                | (obtain ⟨y0, y1, y2, y3, y4, y5, y6, y7, y8, y9⟩ := (HX.out.keep (hC.block w.heap.size HG.out)).cells; go_simp; exact rfl)
                            go_big_quiet_on)))
                refine wpQuiet_nil ?_
                intro W1 hC
                have HB1 := Lib.hid (HB.out.trans (hC.mono HB.out.size))
                obtain ⟨y0, y1, y2, y3, y4, y5, y6, y7, y8, y9⟩ := (HX.out.keep (hC.block w.heap.size HG.out)).cells
                obtain ⟨z0, z1, z2, z3, _⟩ := (Quad.below HQ.out hC HQ.out.lt).facts
                clear hC
                go_wp2_with fail
                go_ret
                exact ⟨rfl, HB1.out⟩
              | true =>
                cases q9 : isz s with
                | true =>
                  unfold isz at q9
                  simp only [Bool.not_true, Bool.not_false, Bool.and_true, Bool.true_or, Bool.or_true]
                  go_enter Try.func40, Try.ntmps40
                  go_upto_region 2 with fail
                  generalize hW : (w.alloc (.cells #[.int .i64 op, .int .i64 a, .int .i64 r, .int .i64 b, .slice ao nn cap, .int .u64 s.a, .int .u64 s.b, .int .u64 s.c, .int .u64 s.d, .slice ak m ck] 28)).alloc (.cells #[.int .u64 0, .int .u64 0, .int .u64 0, .int .u64 0] 25) = W0 at *
                  refine wp_region_kp (by kernel_rfl) (by kernel_rfl) ?_
                  repeat (first
                      | go_big_quiet_skip
                      | (go_big_quiet_want
                         go_big_quiet_op
                         first
                           | go_big_quiet_on
                           | (apply Exists.intro
                              refine ⟨fun w1 hC => ?_, ?_⟩
                              · first
                                  | (go_at_call 41; with_reducible exact hC.call (HKC.out _))
                                  | (go_simp; exact ⟨rfl, rfl⟩)
                                  | (obtain ⟨y0, y1, y2, y3, y4, y5, y6, y7, y8, y9⟩ := (HX.out.keep (hC.block w.heap.size HG.out)).cells; go_simp; exact rfl)
                              go_big_quiet_on)))
                  refine wpQuiet_nil ?_
                  intro W1 hC
                  have HB1 := Lib.hid (HB.out.trans (hC.mono HB.out.size))
                  obtain ⟨y0, y1, y2, y3, y4, y5, y6, y7, y8, y9⟩ := (HX.out.keep (hC.block w.heap.size HG.out)).cells
                  obtain ⟨z0, z1, z2, z3, _⟩ := (Quad.below HQ.out hC HQ.out.lt).facts
                  clear hC
                  go_wp2_with fail
                  go_ret
                  exact ⟨rfl, HB1.out⟩
                | false =>
                  unfold isz at q9
                  simp only [Bool.and_false, Bool.not_true, Bool.not_false, Bool.and_true, Bool.true_or, Bool.or_true, Bool.or_false]
                  go_enter Try.func40, Try.ntmps40
                  go_upto_region 2 with fail
                  generalize hW : (w.alloc (.cells #[.int .i64 op, .int .i64 a, .int .i64 r, .int .i64 b, .slice ao nn cap, .int .u64 s.a, .int .u64 s.b, .int .u64 s.c, .int .u64 s.d, .slice ak m ck] 28)).alloc (.cells #[.int .u64 0, .int .u64 0, .int .u64 0, .int .u64 0] 25) = W0 at *
                  refine wp_region_kp (by kernel_rfl) (by kernel_rfl) ?_
                  repeat (first
                      | go_big_quiet_skip
                      | (go_big_quiet_want
                         go_big_quiet_op
                         first
                           | go_big_quiet_on
                           | (apply Exists.intro
                              refine ⟨fun w1 hC => ?_, ?_⟩
                              · first
                                  | (go_at_call 41; with_reducible exact hC.call (HKC.out _))
                                  | (go_simp; exact ⟨rfl, rfl⟩)
                                  | (obtain ⟨y0, y1, y2, y3, y4, y5, y6, y7, y8, y9⟩ := (HX.out.keep (hC.block w.heap.size HG.out)).cells; go_simp; exact rfl)
                              go_big_quiet_on)))
                  refine wpQuiet_nil ?_
                  intro W1 hC
                  have HB1 := Lib.hid (HB.out.trans (hC.mono HB.out.size))
                  obtain ⟨y0, y1, y2, y3, y4, y5, y6, y7, y8, y9⟩ := (HX.out.keep (hC.block w.heap.size HG.out)).cells
                  obtain ⟨z0, z1, z2, z3, _⟩ := (Quad.below HQ.out hC HQ.out.lt).facts
                  clear hC
                  go_wp2_with fail
                  go_ret
                  exact ⟨rfl, HB1.out⟩
end Go.Proofs.Ytamcfmfkmekkfaa
/- A node of the reference and an operator of the program have no error at the same expressions (plain). -/
namespace Go.Proofs.Ytamcfmfkmekkfaa
open Go.RowKit
def nodeR (op a r b : Int) (nn : Nat) (s : S4) (m : Nat) : Int :=
  if fldR (kidsN op) op a r b nn s m = false then 2 else if 0 < kidsN op then 0 else if inB a 15 = false ∨ inB b 15 = false ∨ inB r 5 = false then 3 else if op = 9 ∧ sortA a = 3 then 13 else if op = 8 ∧ (sortA a ≠ sortA b ∨ (sortA a ≠ 3 ∧ 1 < r)) then 13 else 0
theorem hasF_no (a r b : Int) (nn : Nat) (s : S4) : hasF a r b nn s = false ↔ a = 0 ∧ r = 0 ∧ b = 0 ∧ nn = 0 ∧ isz s = true := by
  unfold hasF
  simp only [Bool.or_eq_false_iff, Bool.not_eq_false', beq_iff_eq, decide_eq_false_iff_not]
  constructor
  · rintro ⟨h1, h2, h3, h4, h5⟩; exact ⟨h1, h2, h3, by omega, h5⟩
  · rintro ⟨h1, h2, h3, h4, h5⟩; exact ⟨h1, h2, h3, by omega, h5⟩
theorem fldR_yes (K op a r b : Int) (nn : Nat) (s : S4) (m : Nat) : fldR K op a r b nn s m = true ↔ K = (m : Int) ∧ (op = 8 ∨ (r = 0 ∧ b = 0)) ∧ (¬ 0 < K ∨ a = 0) ∧ nn = 0 ∧ (op = 9 ∨ isz s = true) := by
  unfold fldR
  simp only [Bool.and_eq_true, Bool.or_eq_true, Bool.not_eq_true', bne_eq_false_iff_eq, beq_iff_eq, decide_eq_false_iff_not]
  constructor
  · rintro ⟨h1, h2, h3, h4, h5⟩; exact ⟨h1, h2, h3, by omega, h5⟩
  · rintro ⟨h1, h2, h3, h4, h5⟩; exact ⟨h1, h2, h3, by omega, h5⟩
theorem isz_zero : isz S4.zero = true := by unfold isz; decide
theorem node0 (op a r b : Int) (nn : Nat) (s : S4) (m : Nat) : nodeR op a r b nn s m = 0 ↔ operE 15 op a r b nn s m = 0 := by
  have hi : ∀ x n : Int, inB x n = false ↔ (x < 0 ∨ n ≤ x) := fun x n => by unfold inB; rw [decide_eq_false_iff_not]; omega
  unfold nodeR operE
  cases hf : fldR (kidsN op) op a r b nn s m with
  | false =>
    rw [if_pos rfl]
    have hn : ¬ (fldR (kidsN op) op a r b nn s m = true) := by rw [hf]; simp
    rw [fldR_yes] at hn
    refine ⟨fun h => by omega, fun h => absurd h ?_⟩
    unfold kidsN at hn
    by_cases h2 : op = 2
    · rw [if_pos h2] at hn ⊢
      have : m ≠ 1 ∨ hasF a r b nn s = true := by
        by_cases e : m = 1
        · refine .inr ?_
          cases hh : hasF a r b nn s with
          | true => rfl
          | false => rw [hasF_no] at hh; exact absurd ⟨by omega, .inr ⟨hh.2.1, hh.2.2.1⟩, .inr hh.1, hh.2.2.2.1, .inr hh.2.2.2.2⟩ hn
        · exact .inl e
      rw [if_pos this]; omega
    · rw [if_neg h2] at hn ⊢
      by_cases h3 : op = 3 ∨ op = 4
      · rw [if_pos h3] at hn ⊢
        have : m ≠ 2 ∨ hasF a r b nn s = true := by
          by_cases e : m = 2
          · refine .inr ?_
            cases hh : hasF a r b nn s with
            | true => rfl
            | false => rw [hasF_no] at hh; exact absurd ⟨by omega, .inr ⟨hh.2.1, hh.2.2.1⟩, .inr hh.1, hh.2.2.2.1, .inr hh.2.2.2.2⟩ hn
          · exact .inl e
        rw [if_pos this]; omega
      · rw [if_neg h3] at hn ⊢
        by_cases h8 : op = 8
        · rw [if_pos (.inl h8)] at hn
          rw [if_pos h8]
          have : m ≠ 0 ∨ hasF 0 0 0 nn s = true := by
            by_cases e : m = 0
            · refine .inr ?_
              cases hh : hasF 0 0 0 nn s with
              | true => rfl
              | false => rw [hasF_no] at hh; exact absurd ⟨by omega, .inl h8, .inl (by omega), hh.2.2.2.1, .inr hh.2.2.2.2⟩ hn
            · exact .inl e
          rw [if_pos this]; omega
        · by_cases h9 : op = 9
          · rw [if_pos (.inr h9)] at hn
            rw [if_neg h8, if_pos h9]
            have : m ≠ 0 ∨ hasF 0 r b nn S4.zero = true := by
              by_cases e : m = 0
              · refine .inr ?_
                cases hh : hasF 0 r b nn S4.zero with
                | true => rfl
                | false => rw [hasF_no] at hh; exact absurd ⟨by omega, .inr ⟨hh.2.1, hh.2.2.1⟩, .inl (by omega), hh.2.2.2.1, .inl h9⟩ hn
              · exact .inl e
            rw [if_pos this]; omega
          · rw [if_neg h8, if_neg h9]; omega
  | true =>
    rw [if_neg (by simp)]
    rw [fldR_yes] at hf
    by_cases h2 : op = 2
    · have hk : kidsN op = 1 := by unfold kidsN; rw [if_pos h2]
      rw [hk] at hf ⊢
      rw [if_pos (by omega), if_pos h2]
      have : ¬ (m ≠ 1 ∨ hasF a r b nn s = true) := by
        rintro (e | e)
        · omega
        · have : hasF a r b nn s = false := (hasF_no _ _ _ _ _).2 ⟨by omega, by omega, by omega, hf.2.2.2.1, hf.2.2.2.2.resolve_left (by omega)⟩
          rw [this] at e; cases e
      rw [if_neg this]
    · by_cases h3 : op = 3 ∨ op = 4
      · have hk : kidsN op = 2 := by unfold kidsN; rw [if_neg h2, if_pos h3]
        rw [hk] at hf ⊢
        rw [if_pos (by omega), if_neg h2, if_pos h3]
        have : ¬ (m ≠ 2 ∨ hasF a r b nn s = true) := by
          rintro (e | e)
          · omega
          · have : hasF a r b nn s = false := (hasF_no _ _ _ _ _).2 ⟨by omega, by omega, by omega, hf.2.2.2.1, hf.2.2.2.2.resolve_left (by omega)⟩
            rw [this] at e; cases e
        rw [if_neg this]
      · by_cases h8 : op = 8
        · have hk : kidsN op = 0 := by unfold kidsN; rw [if_neg h2, if_neg h3, if_pos (show op = 8 ∨ op = 9 from .inl h8)]
          rw [hk] at hf ⊢
          rw [if_neg (by omega : ¬ (0 : Int) < 0), if_neg h2, if_neg h3, if_pos h8]
          have : ¬ (m ≠ 0 ∨ hasF 0 0 0 nn s = true) := by
            rintro (e | e)
            · omega
            · have : hasF 0 0 0 nn s = false := (hasF_no _ _ _ _ _).2 ⟨rfl, rfl, rfl, hf.2.2.2.1, hf.2.2.2.2.resolve_left (by omega)⟩
              rw [this] at e; cases e
          rw [if_neg this]
          unfold cmpE
          by_cases g1 : a < 0 ∨ 15 ≤ a ∨ b < 0 ∨ 15 ≤ b ∨ r < 0 ∨ 4 < r
          · rw [if_pos (by rw [hi, hi, hi]; omega), if_pos g1]
          · rw [if_neg (by rw [hi, hi, hi]; omega), if_neg g1, if_neg (show ¬ (op = 9 ∧ sortA a = 3) from fun k => by omega)]
            by_cases g2 : sortA a ≠ sortA b ∨ (sortA a ≠ 3 ∧ 1 < r)
            · rw [if_pos ⟨h8, g2⟩, if_pos g2]
            · rw [if_neg (fun k => g2 k.2), if_neg g2]
        · by_cases h9 : op = 9
          · have hk : kidsN op = 0 := by unfold kidsN; rw [if_neg h2, if_neg h3, if_pos (show op = 8 ∨ op = 9 from .inr h9)]
            rw [hk] at hf ⊢
            rw [if_neg (by omega : ¬ (0 : Int) < 0), if_neg h2, if_neg h3, if_neg h8, if_pos h9]
            have hrb : r = 0 ∧ b = 0 := hf.2.1.resolve_left h8
            have : ¬ (m ≠ 0 ∨ hasF 0 r b nn S4.zero = true) := by
              rintro (e | e)
              · omega
              · have : hasF 0 r b nn S4.zero = false := (hasF_no _ _ _ _ _).2 ⟨rfl, hrb.1, hrb.2, hf.2.2.2.1, isz_zero⟩
                rw [this] at e; cases e
            rw [if_neg this]
            unfold memE
            by_cases g1 : a < 0 ∨ 15 ≤ a
            · rw [if_pos (by rw [hi, hi, hi]; omega), if_pos g1]
            · rw [if_neg (by rw [hi, hi, hi]; omega), if_neg g1]
              by_cases g2 : sortA a = 3
              · rw [if_pos ⟨h9, g2⟩, if_pos g2]
              · rw [if_neg (fun k => g2 k.2), if_neg g2, if_neg (fun k => h8 k.1)]
          · have hk : kidsN op = -1 := by unfold kidsN; rw [if_neg h2, if_neg h3, if_neg (show ¬ (op = 8 ∨ op = 9) by omega)]
            rw [hk] at hf
            omega
end Go.Proofs.Ytamcfmfkmekkfaa
/- The reference's node. -/
namespace Go.Proofs.Ytamcfmfkmekkfaa
open Go.RowKit
set_option maxRecDepth 100000 in
set_option maxHeartbeats 64000000 in
theorem node_c (op a r b : Int) (ao : Option Addr) (nn cap : Nat) (s : S4) (ak : Option Addr) (m ck : Nat) (w : World) :
    Calls Try.prog 23 #[.agg #[.int .i64 op, .int .i64 a, .int .i64 r, .int .i64 b, .slice ao nn cap, .int .u64 s.a, .int .u64 s.b, .int .u64 s.c, .int .u64 s.d, .slice ak m ck], .bool false, .bool true] w fun e w' => e = .returned (.int .i64 (nodeR op a r b nn s m)) ∧ Below w.heap.size w w' := by
  have HX : Hid (XC (w.alloc (.cells #[.int .i64 op, .int .i64 a, .int .i64 r, .int .i64 b, .slice ao nn cap, .int .u64 s.a, .int .u64 s.b, .int .u64 s.c, .int .u64 s.d, .slice ak m ck] 28)) w.heap.size 0 op a r b ao nn cap s ak m ck) := Lib.hid (XC.of_blk (Blk.new w _ _))
  have HB : Hid (Below w.heap.size w (w.alloc (.cells #[.int .i64 op, .int .i64 a, .int .i64 r, .int .i64 b, .slice ao nn cap, .int .u64 s.a, .int .u64 s.b, .int .u64 s.c, .int .u64 s.d, .slice ak m ck] 28))) := Lib.hid ((Below.refl _ _).alloc (Nat.le_refl _) _)
  have HG : Hid (w.heap.size < (w.alloc (.cells #[.int .i64 op, .int .i64 a, .int .i64 r, .int .i64 b, .slice ao nn cap, .int .u64 s.a, .int .u64 s.b, .int .u64 s.c, .int .u64 s.d, .slice ak m ck] 28)).heap.size) := Lib.hid (by simp)
  have HF := Lib.hid (fields_c op a r b ao nn cap s ak m ck)
  have HK := Lib.hid (kids_c op)
  have HWa := Lib.hid (within_c a 15)
  have HWb := Lib.hid (within_c b 15)
  have HWr := Lib.hid (within_c r 5)
  have HSa := Lib.hid (rsort_c a)
  have HSb := Lib.hid (rsort_c b)
  unfold nodeR
  generalize fldR (kidsN op) op a r b nn s m = f at *
  generalize kidsN op = K at *
  generalize inB a 15 = wa at *
  generalize inB b 15 = wb at *
  generalize inB r 5 = wr at *
  generalize sortA a = sA at *
  generalize sortA b = sB at *
  cases f with
  | false =>
    rw [if_pos rfl]
    go_enter Try.func23, Try.ntmps23
    go_wp2_with (first
      | (go_at_call 40; (with_reducible refine (HF.out _).mono ?_); rintro e u ⟨rfl, hb⟩; have HX := Lib.hid (HX.out.keep (hb.block w.heap.size HG.out)); have HG := Lib.hid (Nat.lt_of_lt_of_le HG.out hb.size); have HB := Lib.hid (HB.out.trans (hb.mono HB.out.size)); obtain ⟨y0, y1, y2, y3, y4, y5, y6, y7, y8, y9⟩ := HX.out.cells; clear hb)
      | (go_at_call 41; (with_reducible refine (HK.out _).mono ?_); rintro e u ⟨rfl, hb⟩; have HX := Lib.hid (HX.out.keep (hb.block w.heap.size HG.out)); have HG := Lib.hid (Nat.lt_of_lt_of_le HG.out hb.size); have HB := Lib.hid (HB.out.trans (hb.mono HB.out.size)); obtain ⟨y0, y1, y2, y3, y4, y5, y6, y7, y8, y9⟩ := HX.out.cells; clear hb)
      | (go_at_call 42; (with_reducible refine (HWa.out _).mono ?_); rintro e u ⟨rfl, hb⟩; have HX := Lib.hid (HX.out.keep (hb.block w.heap.size HG.out)); have HG := Lib.hid (Nat.lt_of_lt_of_le HG.out hb.size); have HB := Lib.hid (HB.out.trans (hb.mono HB.out.size)); obtain ⟨y0, y1, y2, y3, y4, y5, y6, y7, y8, y9⟩ := HX.out.cells; clear hb)
      | (go_at_call 42; (with_reducible refine (HWb.out _).mono ?_); rintro e u ⟨rfl, hb⟩; have HX := Lib.hid (HX.out.keep (hb.block w.heap.size HG.out)); have HG := Lib.hid (Nat.lt_of_lt_of_le HG.out hb.size); have HB := Lib.hid (HB.out.trans (hb.mono HB.out.size)); obtain ⟨y0, y1, y2, y3, y4, y5, y6, y7, y8, y9⟩ := HX.out.cells; clear hb)
      | (go_at_call 42; (with_reducible refine (HWr.out _).mono ?_); rintro e u ⟨rfl, hb⟩; have HX := Lib.hid (HX.out.keep (hb.block w.heap.size HG.out)); have HG := Lib.hid (Nat.lt_of_lt_of_le HG.out hb.size); have HB := Lib.hid (HB.out.trans (hb.mono HB.out.size)); obtain ⟨y0, y1, y2, y3, y4, y5, y6, y7, y8, y9⟩ := HX.out.cells; clear hb)
      | (go_at_call 43; (with_reducible refine (HSa.out _).mono ?_); rintro e u ⟨rfl, hb⟩; have HX := Lib.hid (HX.out.keep (hb.block w.heap.size HG.out)); have HG := Lib.hid (Nat.lt_of_lt_of_le HG.out hb.size); have HB := Lib.hid (HB.out.trans (hb.mono HB.out.size)); obtain ⟨y0, y1, y2, y3, y4, y5, y6, y7, y8, y9⟩ := HX.out.cells; clear hb))
    go_ret
    exact ⟨rfl, HB.out⟩
  | true =>
    rw [if_neg (by simp)]
    by_cases hK : 0 < K
    · rw [if_pos hK]
      go_enter Try.func23, Try.ntmps23
      go_wp2_with (first
        | (go_at_call 40; (with_reducible refine (HF.out _).mono ?_); rintro e u ⟨rfl, hb⟩; have HX := Lib.hid (HX.out.keep (hb.block w.heap.size HG.out)); have HG := Lib.hid (Nat.lt_of_lt_of_le HG.out hb.size); have HB := Lib.hid (HB.out.trans (hb.mono HB.out.size)); obtain ⟨y0, y1, y2, y3, y4, y5, y6, y7, y8, y9⟩ := HX.out.cells; clear hb)
        | (go_at_call 41; (with_reducible refine (HK.out _).mono ?_); rintro e u ⟨rfl, hb⟩; have HX := Lib.hid (HX.out.keep (hb.block w.heap.size HG.out)); have HG := Lib.hid (Nat.lt_of_lt_of_le HG.out hb.size); have HB := Lib.hid (HB.out.trans (hb.mono HB.out.size)); obtain ⟨y0, y1, y2, y3, y4, y5, y6, y7, y8, y9⟩ := HX.out.cells; clear hb)
        | (go_at_call 42; (with_reducible refine (HWa.out _).mono ?_); rintro e u ⟨rfl, hb⟩; have HX := Lib.hid (HX.out.keep (hb.block w.heap.size HG.out)); have HG := Lib.hid (Nat.lt_of_lt_of_le HG.out hb.size); have HB := Lib.hid (HB.out.trans (hb.mono HB.out.size)); obtain ⟨y0, y1, y2, y3, y4, y5, y6, y7, y8, y9⟩ := HX.out.cells; clear hb)
        | (go_at_call 42; (with_reducible refine (HWb.out _).mono ?_); rintro e u ⟨rfl, hb⟩; have HX := Lib.hid (HX.out.keep (hb.block w.heap.size HG.out)); have HG := Lib.hid (Nat.lt_of_lt_of_le HG.out hb.size); have HB := Lib.hid (HB.out.trans (hb.mono HB.out.size)); obtain ⟨y0, y1, y2, y3, y4, y5, y6, y7, y8, y9⟩ := HX.out.cells; clear hb)
        | (go_at_call 42; (with_reducible refine (HWr.out _).mono ?_); rintro e u ⟨rfl, hb⟩; have HX := Lib.hid (HX.out.keep (hb.block w.heap.size HG.out)); have HG := Lib.hid (Nat.lt_of_lt_of_le HG.out hb.size); have HB := Lib.hid (HB.out.trans (hb.mono HB.out.size)); obtain ⟨y0, y1, y2, y3, y4, y5, y6, y7, y8, y9⟩ := HX.out.cells; clear hb)
        | (go_at_call 43; (with_reducible refine (HSa.out _).mono ?_); rintro e u ⟨rfl, hb⟩; have HX := Lib.hid (HX.out.keep (hb.block w.heap.size HG.out)); have HG := Lib.hid (Nat.lt_of_lt_of_le HG.out hb.size); have HB := Lib.hid (HB.out.trans (hb.mono HB.out.size)); obtain ⟨y0, y1, y2, y3, y4, y5, y6, y7, y8, y9⟩ := HX.out.cells; clear hb))
      go_ret
      exact ⟨rfl, HB.out⟩
    · rw [if_neg hK]
      cases wa with
      | false =>
        rw [if_pos (.inl rfl)]
        go_enter Try.func23, Try.ntmps23
        go_wp2_with (first
          | (go_at_call 40; (with_reducible refine (HF.out _).mono ?_); rintro e u ⟨rfl, hb⟩; have HX := Lib.hid (HX.out.keep (hb.block w.heap.size HG.out)); have HG := Lib.hid (Nat.lt_of_lt_of_le HG.out hb.size); have HB := Lib.hid (HB.out.trans (hb.mono HB.out.size)); obtain ⟨y0, y1, y2, y3, y4, y5, y6, y7, y8, y9⟩ := HX.out.cells; clear hb)
          | (go_at_call 41; (with_reducible refine (HK.out _).mono ?_); rintro e u ⟨rfl, hb⟩; have HX := Lib.hid (HX.out.keep (hb.block w.heap.size HG.out)); have HG := Lib.hid (Nat.lt_of_lt_of_le HG.out hb.size); have HB := Lib.hid (HB.out.trans (hb.mono HB.out.size)); obtain ⟨y0, y1, y2, y3, y4, y5, y6, y7, y8, y9⟩ := HX.out.cells; clear hb)
          | (go_at_call 42; (with_reducible refine (HWa.out _).mono ?_); rintro e u ⟨rfl, hb⟩; have HX := Lib.hid (HX.out.keep (hb.block w.heap.size HG.out)); have HG := Lib.hid (Nat.lt_of_lt_of_le HG.out hb.size); have HB := Lib.hid (HB.out.trans (hb.mono HB.out.size)); obtain ⟨y0, y1, y2, y3, y4, y5, y6, y7, y8, y9⟩ := HX.out.cells; clear hb)
          | (go_at_call 42; (with_reducible refine (HWb.out _).mono ?_); rintro e u ⟨rfl, hb⟩; have HX := Lib.hid (HX.out.keep (hb.block w.heap.size HG.out)); have HG := Lib.hid (Nat.lt_of_lt_of_le HG.out hb.size); have HB := Lib.hid (HB.out.trans (hb.mono HB.out.size)); obtain ⟨y0, y1, y2, y3, y4, y5, y6, y7, y8, y9⟩ := HX.out.cells; clear hb)
          | (go_at_call 42; (with_reducible refine (HWr.out _).mono ?_); rintro e u ⟨rfl, hb⟩; have HX := Lib.hid (HX.out.keep (hb.block w.heap.size HG.out)); have HG := Lib.hid (Nat.lt_of_lt_of_le HG.out hb.size); have HB := Lib.hid (HB.out.trans (hb.mono HB.out.size)); obtain ⟨y0, y1, y2, y3, y4, y5, y6, y7, y8, y9⟩ := HX.out.cells; clear hb)
          | (go_at_call 43; (with_reducible refine (HSa.out _).mono ?_); rintro e u ⟨rfl, hb⟩; have HX := Lib.hid (HX.out.keep (hb.block w.heap.size HG.out)); have HG := Lib.hid (Nat.lt_of_lt_of_le HG.out hb.size); have HB := Lib.hid (HB.out.trans (hb.mono HB.out.size)); obtain ⟨y0, y1, y2, y3, y4, y5, y6, y7, y8, y9⟩ := HX.out.cells; clear hb))
        go_ret
        exact ⟨rfl, HB.out⟩
      | true =>
        cases wb with
        | false =>
          rw [if_pos (.inr (.inl rfl))]
          go_enter Try.func23, Try.ntmps23
          go_wp2_with (first
            | (go_at_call 40; (with_reducible refine (HF.out _).mono ?_); rintro e u ⟨rfl, hb⟩; have HX := Lib.hid (HX.out.keep (hb.block w.heap.size HG.out)); have HG := Lib.hid (Nat.lt_of_lt_of_le HG.out hb.size); have HB := Lib.hid (HB.out.trans (hb.mono HB.out.size)); obtain ⟨y0, y1, y2, y3, y4, y5, y6, y7, y8, y9⟩ := HX.out.cells; clear hb)
            | (go_at_call 41; (with_reducible refine (HK.out _).mono ?_); rintro e u ⟨rfl, hb⟩; have HX := Lib.hid (HX.out.keep (hb.block w.heap.size HG.out)); have HG := Lib.hid (Nat.lt_of_lt_of_le HG.out hb.size); have HB := Lib.hid (HB.out.trans (hb.mono HB.out.size)); obtain ⟨y0, y1, y2, y3, y4, y5, y6, y7, y8, y9⟩ := HX.out.cells; clear hb)
            | (go_at_call 42; (with_reducible refine (HWa.out _).mono ?_); rintro e u ⟨rfl, hb⟩; have HX := Lib.hid (HX.out.keep (hb.block w.heap.size HG.out)); have HG := Lib.hid (Nat.lt_of_lt_of_le HG.out hb.size); have HB := Lib.hid (HB.out.trans (hb.mono HB.out.size)); obtain ⟨y0, y1, y2, y3, y4, y5, y6, y7, y8, y9⟩ := HX.out.cells; clear hb)
            | (go_at_call 42; (with_reducible refine (HWb.out _).mono ?_); rintro e u ⟨rfl, hb⟩; have HX := Lib.hid (HX.out.keep (hb.block w.heap.size HG.out)); have HG := Lib.hid (Nat.lt_of_lt_of_le HG.out hb.size); have HB := Lib.hid (HB.out.trans (hb.mono HB.out.size)); obtain ⟨y0, y1, y2, y3, y4, y5, y6, y7, y8, y9⟩ := HX.out.cells; clear hb)
            | (go_at_call 42; (with_reducible refine (HWr.out _).mono ?_); rintro e u ⟨rfl, hb⟩; have HX := Lib.hid (HX.out.keep (hb.block w.heap.size HG.out)); have HG := Lib.hid (Nat.lt_of_lt_of_le HG.out hb.size); have HB := Lib.hid (HB.out.trans (hb.mono HB.out.size)); obtain ⟨y0, y1, y2, y3, y4, y5, y6, y7, y8, y9⟩ := HX.out.cells; clear hb)
            | (go_at_call 43; (with_reducible refine (HSa.out _).mono ?_); rintro e u ⟨rfl, hb⟩; have HX := Lib.hid (HX.out.keep (hb.block w.heap.size HG.out)); have HG := Lib.hid (Nat.lt_of_lt_of_le HG.out hb.size); have HB := Lib.hid (HB.out.trans (hb.mono HB.out.size)); obtain ⟨y0, y1, y2, y3, y4, y5, y6, y7, y8, y9⟩ := HX.out.cells; clear hb))
          go_ret
          exact ⟨rfl, HB.out⟩
        | true =>
          cases wr with
          | false =>
            rw [if_pos (.inr (.inr rfl))]
            go_enter Try.func23, Try.ntmps23
            go_wp2_with (first
              | (go_at_call 40; (with_reducible refine (HF.out _).mono ?_); rintro e u ⟨rfl, hb⟩; have HX := Lib.hid (HX.out.keep (hb.block w.heap.size HG.out)); have HG := Lib.hid (Nat.lt_of_lt_of_le HG.out hb.size); have HB := Lib.hid (HB.out.trans (hb.mono HB.out.size)); obtain ⟨y0, y1, y2, y3, y4, y5, y6, y7, y8, y9⟩ := HX.out.cells; clear hb)
              | (go_at_call 41; (with_reducible refine (HK.out _).mono ?_); rintro e u ⟨rfl, hb⟩; have HX := Lib.hid (HX.out.keep (hb.block w.heap.size HG.out)); have HG := Lib.hid (Nat.lt_of_lt_of_le HG.out hb.size); have HB := Lib.hid (HB.out.trans (hb.mono HB.out.size)); obtain ⟨y0, y1, y2, y3, y4, y5, y6, y7, y8, y9⟩ := HX.out.cells; clear hb)
              | (go_at_call 42; (with_reducible refine (HWa.out _).mono ?_); rintro e u ⟨rfl, hb⟩; have HX := Lib.hid (HX.out.keep (hb.block w.heap.size HG.out)); have HG := Lib.hid (Nat.lt_of_lt_of_le HG.out hb.size); have HB := Lib.hid (HB.out.trans (hb.mono HB.out.size)); obtain ⟨y0, y1, y2, y3, y4, y5, y6, y7, y8, y9⟩ := HX.out.cells; clear hb)
              | (go_at_call 42; (with_reducible refine (HWb.out _).mono ?_); rintro e u ⟨rfl, hb⟩; have HX := Lib.hid (HX.out.keep (hb.block w.heap.size HG.out)); have HG := Lib.hid (Nat.lt_of_lt_of_le HG.out hb.size); have HB := Lib.hid (HB.out.trans (hb.mono HB.out.size)); obtain ⟨y0, y1, y2, y3, y4, y5, y6, y7, y8, y9⟩ := HX.out.cells; clear hb)
              | (go_at_call 42; (with_reducible refine (HWr.out _).mono ?_); rintro e u ⟨rfl, hb⟩; have HX := Lib.hid (HX.out.keep (hb.block w.heap.size HG.out)); have HG := Lib.hid (Nat.lt_of_lt_of_le HG.out hb.size); have HB := Lib.hid (HB.out.trans (hb.mono HB.out.size)); obtain ⟨y0, y1, y2, y3, y4, y5, y6, y7, y8, y9⟩ := HX.out.cells; clear hb)
              | (go_at_call 43; (with_reducible refine (HSa.out _).mono ?_); rintro e u ⟨rfl, hb⟩; have HX := Lib.hid (HX.out.keep (hb.block w.heap.size HG.out)); have HG := Lib.hid (Nat.lt_of_lt_of_le HG.out hb.size); have HB := Lib.hid (HB.out.trans (hb.mono HB.out.size)); obtain ⟨y0, y1, y2, y3, y4, y5, y6, y7, y8, y9⟩ := HX.out.cells; clear hb))
            go_ret
            exact ⟨rfl, HB.out⟩
          | true =>
            rw [if_neg (by simp)]
            by_cases h9 : op = 9
            · have p9 : (op == 9) = true := by rw [h9]; rfl
              have p8 : (op == 8) = false := by rw [h9]; rfl
              by_cases e3 : sA = 3
              · rw [if_pos ⟨h9, e3⟩]
                have q3 : (sA == 3) = true := by rw [e3]; rfl
                clear h9 e3
                go_enter Try.func23, Try.ntmps23
                go_wp2_with (first
                  | (go_at_call 40; (with_reducible refine (HF.out _).mono ?_); rintro e u ⟨rfl, hb⟩; have HX := Lib.hid (HX.out.keep (hb.block w.heap.size HG.out)); have HG := Lib.hid (Nat.lt_of_lt_of_le HG.out hb.size); have HB := Lib.hid (HB.out.trans (hb.mono HB.out.size)); obtain ⟨y0, y1, y2, y3, y4, y5, y6, y7, y8, y9⟩ := HX.out.cells; clear hb)
                  | (go_at_call 41; (with_reducible refine (HK.out _).mono ?_); rintro e u ⟨rfl, hb⟩; have HX := Lib.hid (HX.out.keep (hb.block w.heap.size HG.out)); have HG := Lib.hid (Nat.lt_of_lt_of_le HG.out hb.size); have HB := Lib.hid (HB.out.trans (hb.mono HB.out.size)); obtain ⟨y0, y1, y2, y3, y4, y5, y6, y7, y8, y9⟩ := HX.out.cells; clear hb)
                  | (go_at_call 42; (with_reducible refine (HWa.out _).mono ?_); rintro e u ⟨rfl, hb⟩; have HX := Lib.hid (HX.out.keep (hb.block w.heap.size HG.out)); have HG := Lib.hid (Nat.lt_of_lt_of_le HG.out hb.size); have HB := Lib.hid (HB.out.trans (hb.mono HB.out.size)); obtain ⟨y0, y1, y2, y3, y4, y5, y6, y7, y8, y9⟩ := HX.out.cells; clear hb)
                  | (go_at_call 42; (with_reducible refine (HWb.out _).mono ?_); rintro e u ⟨rfl, hb⟩; have HX := Lib.hid (HX.out.keep (hb.block w.heap.size HG.out)); have HG := Lib.hid (Nat.lt_of_lt_of_le HG.out hb.size); have HB := Lib.hid (HB.out.trans (hb.mono HB.out.size)); obtain ⟨y0, y1, y2, y3, y4, y5, y6, y7, y8, y9⟩ := HX.out.cells; clear hb)
                  | (go_at_call 42; (with_reducible refine (HWr.out _).mono ?_); rintro e u ⟨rfl, hb⟩; have HX := Lib.hid (HX.out.keep (hb.block w.heap.size HG.out)); have HG := Lib.hid (Nat.lt_of_lt_of_le HG.out hb.size); have HB := Lib.hid (HB.out.trans (hb.mono HB.out.size)); obtain ⟨y0, y1, y2, y3, y4, y5, y6, y7, y8, y9⟩ := HX.out.cells; clear hb)
                  | (go_at_call 43; (with_reducible refine (HSa.out _).mono ?_); rintro e u ⟨rfl, hb⟩; have HX := Lib.hid (HX.out.keep (hb.block w.heap.size HG.out)); have HG := Lib.hid (Nat.lt_of_lt_of_le HG.out hb.size); have HB := Lib.hid (HB.out.trans (hb.mono HB.out.size)); obtain ⟨y0, y1, y2, y3, y4, y5, y6, y7, y8, y9⟩ := HX.out.cells; clear hb))
                go_ret
                exact ⟨rfl, HB.out⟩
              · rw [if_neg (fun k => e3 k.2), if_neg (fun k => by omega)]
                have q3 : (sA == 3) = false := by simpa using e3
                clear h9 e3
                go_enter Try.func23, Try.ntmps23
                go_upto_region 12 with (first
                  | (go_at_call 40; (with_reducible refine (HF.out _).mono ?_); rintro e u ⟨rfl, hb⟩; have HX := Lib.hid (HX.out.keep (hb.block w.heap.size HG.out)); have HG := Lib.hid (Nat.lt_of_lt_of_le HG.out hb.size); have HB := Lib.hid (HB.out.trans (hb.mono HB.out.size)); obtain ⟨y0, y1, y2, y3, y4, y5, y6, y7, y8, y9⟩ := HX.out.cells; clear hb)
                  | (go_at_call 41; (with_reducible refine (HK.out _).mono ?_); rintro e u ⟨rfl, hb⟩; have HX := Lib.hid (HX.out.keep (hb.block w.heap.size HG.out)); have HG := Lib.hid (Nat.lt_of_lt_of_le HG.out hb.size); have HB := Lib.hid (HB.out.trans (hb.mono HB.out.size)); obtain ⟨y0, y1, y2, y3, y4, y5, y6, y7, y8, y9⟩ := HX.out.cells; clear hb)
                  | (go_at_call 42; (with_reducible refine (HWa.out _).mono ?_); rintro e u ⟨rfl, hb⟩; have HX := Lib.hid (HX.out.keep (hb.block w.heap.size HG.out)); have HG := Lib.hid (Nat.lt_of_lt_of_le HG.out hb.size); have HB := Lib.hid (HB.out.trans (hb.mono HB.out.size)); obtain ⟨y0, y1, y2, y3, y4, y5, y6, y7, y8, y9⟩ := HX.out.cells; clear hb)
                  | (go_at_call 42; (with_reducible refine (HWb.out _).mono ?_); rintro e u ⟨rfl, hb⟩; have HX := Lib.hid (HX.out.keep (hb.block w.heap.size HG.out)); have HG := Lib.hid (Nat.lt_of_lt_of_le HG.out hb.size); have HB := Lib.hid (HB.out.trans (hb.mono HB.out.size)); obtain ⟨y0, y1, y2, y3, y4, y5, y6, y7, y8, y9⟩ := HX.out.cells; clear hb)
                  | (go_at_call 42; (with_reducible refine (HWr.out _).mono ?_); rintro e u ⟨rfl, hb⟩; have HX := Lib.hid (HX.out.keep (hb.block w.heap.size HG.out)); have HG := Lib.hid (Nat.lt_of_lt_of_le HG.out hb.size); have HB := Lib.hid (HB.out.trans (hb.mono HB.out.size)); obtain ⟨y0, y1, y2, y3, y4, y5, y6, y7, y8, y9⟩ := HX.out.cells; clear hb)
                  | (go_at_call 43; (with_reducible refine (HSa.out _).mono ?_); rintro e u ⟨rfl, hb⟩; have HX := Lib.hid (HX.out.keep (hb.block w.heap.size HG.out)); have HG := Lib.hid (Nat.lt_of_lt_of_le HG.out hb.size); have HB := Lib.hid (HB.out.trans (hb.mono HB.out.size)); obtain ⟨y0, y1, y2, y3, y4, y5, y6, y7, y8, y9⟩ := HX.out.cells; clear hb))
                refine wp_region_kp (by kernel_rfl) (by kernel_rfl) ?_
                repeat (first
                    | go_big_quiet_skip
                    | (go_big_quiet_want
                       go_big_quiet_op
                       first
                         | go_big_quiet_on
                         | (apply Exists.intro
                            refine ⟨fun w1 hC => ?_, ?_⟩
                            · first
                                | (go_at_call 43; with_reducible first | exact hC.call (HSa.out _) | exact hC.call (HSb.out _))
                                | (go_simp; exact ⟨rfl, rfl⟩)
                                | (obtain ⟨y0, y1, y2, y3, y4, y5, y6, y7, y8, y9⟩ := (HX.out.keep (hC.block w.heap.size HG.out)).cells; go_simp; exact rfl)
                            go_big_quiet_on)))
                refine wpQuiet_nil ?_
                intro W1 hC
                have HB := Lib.hid (HB.out.trans (hC.mono HB.out.size))
                clear hC
                go_wp2_with fail
                go_ret
                exact ⟨rfl, HB.out⟩
            · have p9 : (op == 9) = false := by simpa using h9
              rw [if_neg (fun k => h9 k.1)]
              by_cases h8 : op = 8
              · have p8 : (op == 8) = true := by rw [h8]; rfl
                by_cases eab : sA = sB
                · have qab : (sA != sB) = false := by rw [eab]; simp
                  by_cases e3 : sA = 3
                  · rw [if_neg (fun k => by omega)]
                    have q3 : (sA != 3) = false := by rw [e3]; rfl
                    clear h8 h9 eab e3
                    go_enter Try.func23, Try.ntmps23
                    go_upto_region 12 with (first
                      | (go_at_call 40; (with_reducible refine (HF.out _).mono ?_); rintro e u ⟨rfl, hb⟩; have HX := Lib.hid (HX.out.keep (hb.block w.heap.size HG.out)); have HG := Lib.hid (Nat.lt_of_lt_of_le HG.out hb.size); have HB := Lib.hid (HB.out.trans (hb.mono HB.out.size)); obtain ⟨y0, y1, y2, y3, y4, y5, y6, y7, y8, y9⟩ := HX.out.cells; clear hb)
                      | (go_at_call 41; (with_reducible refine (HK.out _).mono ?_); rintro e u ⟨rfl, hb⟩; have HX := Lib.hid (HX.out.keep (hb.block w.heap.size HG.out)); have HG := Lib.hid (Nat.lt_of_lt_of_le HG.out hb.size); have HB := Lib.hid (HB.out.trans (hb.mono HB.out.size)); obtain ⟨y0, y1, y2, y3, y4, y5, y6, y7, y8, y9⟩ := HX.out.cells; clear hb)
                      | (go_at_call 42; (with_reducible refine (HWa.out _).mono ?_); rintro e u ⟨rfl, hb⟩; have HX := Lib.hid (HX.out.keep (hb.block w.heap.size HG.out)); have HG := Lib.hid (Nat.lt_of_lt_of_le HG.out hb.size); have HB := Lib.hid (HB.out.trans (hb.mono HB.out.size)); obtain ⟨y0, y1, y2, y3, y4, y5, y6, y7, y8, y9⟩ := HX.out.cells; clear hb)
                      | (go_at_call 42; (with_reducible refine (HWb.out _).mono ?_); rintro e u ⟨rfl, hb⟩; have HX := Lib.hid (HX.out.keep (hb.block w.heap.size HG.out)); have HG := Lib.hid (Nat.lt_of_lt_of_le HG.out hb.size); have HB := Lib.hid (HB.out.trans (hb.mono HB.out.size)); obtain ⟨y0, y1, y2, y3, y4, y5, y6, y7, y8, y9⟩ := HX.out.cells; clear hb)
                      | (go_at_call 42; (with_reducible refine (HWr.out _).mono ?_); rintro e u ⟨rfl, hb⟩; have HX := Lib.hid (HX.out.keep (hb.block w.heap.size HG.out)); have HG := Lib.hid (Nat.lt_of_lt_of_le HG.out hb.size); have HB := Lib.hid (HB.out.trans (hb.mono HB.out.size)); obtain ⟨y0, y1, y2, y3, y4, y5, y6, y7, y8, y9⟩ := HX.out.cells; clear hb)
                      | (go_at_call 43; (with_reducible refine (HSa.out _).mono ?_); rintro e u ⟨rfl, hb⟩; have HX := Lib.hid (HX.out.keep (hb.block w.heap.size HG.out)); have HG := Lib.hid (Nat.lt_of_lt_of_le HG.out hb.size); have HB := Lib.hid (HB.out.trans (hb.mono HB.out.size)); obtain ⟨y0, y1, y2, y3, y4, y5, y6, y7, y8, y9⟩ := HX.out.cells; clear hb))
                    refine wp_region_kp (by kernel_rfl) (by kernel_rfl) ?_
                    repeat (first
                        | go_big_quiet_skip
                        | (go_big_quiet_want
                           go_big_quiet_op
                           first
                             | go_big_quiet_on
                             | (apply Exists.intro
                                refine ⟨fun w1 hC => ?_, ?_⟩
                                · first
                                    | (go_at_call 43; with_reducible first | exact hC.call (HSa.out _) | exact hC.call (HSb.out _))
                                    | (go_simp; exact ⟨rfl, rfl⟩)
                                    | (obtain ⟨y0, y1, y2, y3, y4, y5, y6, y7, y8, y9⟩ := (HX.out.keep (hC.block w.heap.size HG.out)).cells; go_simp; exact rfl)
                                go_big_quiet_on)))
                    refine wpQuiet_nil ?_
                    intro W1 hC
                    have HB := Lib.hid (HB.out.trans (hC.mono HB.out.size))
                    clear hC
                    go_wp2_with fail
                    go_ret
                    exact ⟨rfl, HB.out⟩
                  · have q3 : (sA != 3) = true := by simpa using e3
                    by_cases e1 : 1 < r
                    · rw [if_pos ⟨h8, .inr ⟨e3, e1⟩⟩]
                      clear h8 h9 eab e3
                      go_enter Try.func23, Try.ntmps23
                      go_upto_region 12 with (first
                        | (go_at_call 40; (with_reducible refine (HF.out _).mono ?_); rintro e u ⟨rfl, hb⟩; have HX := Lib.hid (HX.out.keep (hb.block w.heap.size HG.out)); have HG := Lib.hid (Nat.lt_of_lt_of_le HG.out hb.size); have HB := Lib.hid (HB.out.trans (hb.mono HB.out.size)); obtain ⟨y0, y1, y2, y3, y4, y5, y6, y7, y8, y9⟩ := HX.out.cells; clear hb)
                        | (go_at_call 41; (with_reducible refine (HK.out _).mono ?_); rintro e u ⟨rfl, hb⟩; have HX := Lib.hid (HX.out.keep (hb.block w.heap.size HG.out)); have HG := Lib.hid (Nat.lt_of_lt_of_le HG.out hb.size); have HB := Lib.hid (HB.out.trans (hb.mono HB.out.size)); obtain ⟨y0, y1, y2, y3, y4, y5, y6, y7, y8, y9⟩ := HX.out.cells; clear hb)
                        | (go_at_call 42; (with_reducible refine (HWa.out _).mono ?_); rintro e u ⟨rfl, hb⟩; have HX := Lib.hid (HX.out.keep (hb.block w.heap.size HG.out)); have HG := Lib.hid (Nat.lt_of_lt_of_le HG.out hb.size); have HB := Lib.hid (HB.out.trans (hb.mono HB.out.size)); obtain ⟨y0, y1, y2, y3, y4, y5, y6, y7, y8, y9⟩ := HX.out.cells; clear hb)
                        | (go_at_call 42; (with_reducible refine (HWb.out _).mono ?_); rintro e u ⟨rfl, hb⟩; have HX := Lib.hid (HX.out.keep (hb.block w.heap.size HG.out)); have HG := Lib.hid (Nat.lt_of_lt_of_le HG.out hb.size); have HB := Lib.hid (HB.out.trans (hb.mono HB.out.size)); obtain ⟨y0, y1, y2, y3, y4, y5, y6, y7, y8, y9⟩ := HX.out.cells; clear hb)
                        | (go_at_call 42; (with_reducible refine (HWr.out _).mono ?_); rintro e u ⟨rfl, hb⟩; have HX := Lib.hid (HX.out.keep (hb.block w.heap.size HG.out)); have HG := Lib.hid (Nat.lt_of_lt_of_le HG.out hb.size); have HB := Lib.hid (HB.out.trans (hb.mono HB.out.size)); obtain ⟨y0, y1, y2, y3, y4, y5, y6, y7, y8, y9⟩ := HX.out.cells; clear hb)
                        | (go_at_call 43; (with_reducible refine (HSa.out _).mono ?_); rintro e u ⟨rfl, hb⟩; have HX := Lib.hid (HX.out.keep (hb.block w.heap.size HG.out)); have HG := Lib.hid (Nat.lt_of_lt_of_le HG.out hb.size); have HB := Lib.hid (HB.out.trans (hb.mono HB.out.size)); obtain ⟨y0, y1, y2, y3, y4, y5, y6, y7, y8, y9⟩ := HX.out.cells; clear hb))
                      refine wp_region_kp (by kernel_rfl) (by kernel_rfl) ?_
                      repeat (first
                          | go_big_quiet_skip
                          | (go_big_quiet_want
                             go_big_quiet_op
                             first
                               | go_big_quiet_on
                               | (apply Exists.intro
                                  refine ⟨fun w1 hC => ?_, ?_⟩
                                  · first
                                      | (go_at_call 43; with_reducible first | exact hC.call (HSa.out _) | exact hC.call (HSb.out _))
                                      | (go_simp; exact ⟨rfl, rfl⟩)
                                      | (obtain ⟨y0, y1, y2, y3, y4, y5, y6, y7, y8, y9⟩ := (HX.out.keep (hC.block w.heap.size HG.out)).cells; go_simp; exact rfl)
                                  go_big_quiet_on)))
                      refine wpQuiet_nil ?_
                      intro W1 hC
                      have HB := Lib.hid (HB.out.trans (hC.mono HB.out.size))
                      clear hC
                      go_wp2_with fail
                      go_ret
                      exact ⟨rfl, HB.out⟩
                    · rw [if_neg (fun k => by omega)]
                      clear h8 h9 eab e3
                      go_enter Try.func23, Try.ntmps23
                      go_upto_region 12 with (first
                        | (go_at_call 40; (with_reducible refine (HF.out _).mono ?_); rintro e u ⟨rfl, hb⟩; have HX := Lib.hid (HX.out.keep (hb.block w.heap.size HG.out)); have HG := Lib.hid (Nat.lt_of_lt_of_le HG.out hb.size); have HB := Lib.hid (HB.out.trans (hb.mono HB.out.size)); obtain ⟨y0, y1, y2, y3, y4, y5, y6, y7, y8, y9⟩ := HX.out.cells; clear hb)
                        | (go_at_call 41; (with_reducible refine (HK.out _).mono ?_); rintro e u ⟨rfl, hb⟩; have HX := Lib.hid (HX.out.keep (hb.block w.heap.size HG.out)); have HG := Lib.hid (Nat.lt_of_lt_of_le HG.out hb.size); have HB := Lib.hid (HB.out.trans (hb.mono HB.out.size)); obtain ⟨y0, y1, y2, y3, y4, y5, y6, y7, y8, y9⟩ := HX.out.cells; clear hb)
                        | (go_at_call 42; (with_reducible refine (HWa.out _).mono ?_); rintro e u ⟨rfl, hb⟩; have HX := Lib.hid (HX.out.keep (hb.block w.heap.size HG.out)); have HG := Lib.hid (Nat.lt_of_lt_of_le HG.out hb.size); have HB := Lib.hid (HB.out.trans (hb.mono HB.out.size)); obtain ⟨y0, y1, y2, y3, y4, y5, y6, y7, y8, y9⟩ := HX.out.cells; clear hb)
                        | (go_at_call 42; (with_reducible refine (HWb.out _).mono ?_); rintro e u ⟨rfl, hb⟩; have HX := Lib.hid (HX.out.keep (hb.block w.heap.size HG.out)); have HG := Lib.hid (Nat.lt_of_lt_of_le HG.out hb.size); have HB := Lib.hid (HB.out.trans (hb.mono HB.out.size)); obtain ⟨y0, y1, y2, y3, y4, y5, y6, y7, y8, y9⟩ := HX.out.cells; clear hb)
                        | (go_at_call 42; (with_reducible refine (HWr.out _).mono ?_); rintro e u ⟨rfl, hb⟩; have HX := Lib.hid (HX.out.keep (hb.block w.heap.size HG.out)); have HG := Lib.hid (Nat.lt_of_lt_of_le HG.out hb.size); have HB := Lib.hid (HB.out.trans (hb.mono HB.out.size)); obtain ⟨y0, y1, y2, y3, y4, y5, y6, y7, y8, y9⟩ := HX.out.cells; clear hb)
                        | (go_at_call 43; (with_reducible refine (HSa.out _).mono ?_); rintro e u ⟨rfl, hb⟩; have HX := Lib.hid (HX.out.keep (hb.block w.heap.size HG.out)); have HG := Lib.hid (Nat.lt_of_lt_of_le HG.out hb.size); have HB := Lib.hid (HB.out.trans (hb.mono HB.out.size)); obtain ⟨y0, y1, y2, y3, y4, y5, y6, y7, y8, y9⟩ := HX.out.cells; clear hb))
                      refine wp_region_kp (by kernel_rfl) (by kernel_rfl) ?_
                      repeat (first
                          | go_big_quiet_skip
                          | (go_big_quiet_want
                             go_big_quiet_op
                             first
                               | go_big_quiet_on
                               | (apply Exists.intro
                                  refine ⟨fun w1 hC => ?_, ?_⟩
                                  · first
                                      | (go_at_call 43; with_reducible first | exact hC.call (HSa.out _) | exact hC.call (HSb.out _))
                                      | (go_simp; exact ⟨rfl, rfl⟩)
                                      | (obtain ⟨y0, y1, y2, y3, y4, y5, y6, y7, y8, y9⟩ := (HX.out.keep (hC.block w.heap.size HG.out)).cells; go_simp; exact rfl)
                                  go_big_quiet_on)))
                      refine wpQuiet_nil ?_
                      intro W1 hC
                      have HB := Lib.hid (HB.out.trans (hC.mono HB.out.size))
                      clear hC
                      go_wp2_with fail
                      go_ret
                      exact ⟨rfl, HB.out⟩
                · rw [if_pos ⟨h8, .inl eab⟩]
                  have qab : (sA != sB) = true := by simpa using eab
                  clear h8 h9 eab
                  go_enter Try.func23, Try.ntmps23
                  go_upto_region 12 with (first
                    | (go_at_call 40; (with_reducible refine (HF.out _).mono ?_); rintro e u ⟨rfl, hb⟩; have HX := Lib.hid (HX.out.keep (hb.block w.heap.size HG.out)); have HG := Lib.hid (Nat.lt_of_lt_of_le HG.out hb.size); have HB := Lib.hid (HB.out.trans (hb.mono HB.out.size)); obtain ⟨y0, y1, y2, y3, y4, y5, y6, y7, y8, y9⟩ := HX.out.cells; clear hb)
                    | (go_at_call 41; (with_reducible refine (HK.out _).mono ?_); rintro e u ⟨rfl, hb⟩; have HX := Lib.hid (HX.out.keep (hb.block w.heap.size HG.out)); have HG := Lib.hid (Nat.lt_of_lt_of_le HG.out hb.size); have HB := Lib.hid (HB.out.trans (hb.mono HB.out.size)); obtain ⟨y0, y1, y2, y3, y4, y5, y6, y7, y8, y9⟩ := HX.out.cells; clear hb)
                    | (go_at_call 42; (with_reducible refine (HWa.out _).mono ?_); rintro e u ⟨rfl, hb⟩; have HX := Lib.hid (HX.out.keep (hb.block w.heap.size HG.out)); have HG := Lib.hid (Nat.lt_of_lt_of_le HG.out hb.size); have HB := Lib.hid (HB.out.trans (hb.mono HB.out.size)); obtain ⟨y0, y1, y2, y3, y4, y5, y6, y7, y8, y9⟩ := HX.out.cells; clear hb)
                    | (go_at_call 42; (with_reducible refine (HWb.out _).mono ?_); rintro e u ⟨rfl, hb⟩; have HX := Lib.hid (HX.out.keep (hb.block w.heap.size HG.out)); have HG := Lib.hid (Nat.lt_of_lt_of_le HG.out hb.size); have HB := Lib.hid (HB.out.trans (hb.mono HB.out.size)); obtain ⟨y0, y1, y2, y3, y4, y5, y6, y7, y8, y9⟩ := HX.out.cells; clear hb)
                    | (go_at_call 42; (with_reducible refine (HWr.out _).mono ?_); rintro e u ⟨rfl, hb⟩; have HX := Lib.hid (HX.out.keep (hb.block w.heap.size HG.out)); have HG := Lib.hid (Nat.lt_of_lt_of_le HG.out hb.size); have HB := Lib.hid (HB.out.trans (hb.mono HB.out.size)); obtain ⟨y0, y1, y2, y3, y4, y5, y6, y7, y8, y9⟩ := HX.out.cells; clear hb)
                    | (go_at_call 43; (with_reducible refine (HSa.out _).mono ?_); rintro e u ⟨rfl, hb⟩; have HX := Lib.hid (HX.out.keep (hb.block w.heap.size HG.out)); have HG := Lib.hid (Nat.lt_of_lt_of_le HG.out hb.size); have HB := Lib.hid (HB.out.trans (hb.mono HB.out.size)); obtain ⟨y0, y1, y2, y3, y4, y5, y6, y7, y8, y9⟩ := HX.out.cells; clear hb))
                  refine wp_region_kp (by kernel_rfl) (by kernel_rfl) ?_
                  repeat (first
                      | go_big_quiet_skip
                      | (go_big_quiet_want
                         go_big_quiet_op
                         first
                           | go_big_quiet_on
                           | (apply Exists.intro
                              refine ⟨fun w1 hC => ?_, ?_⟩
                              · first
                                  | (go_at_call 43; with_reducible first | exact hC.call (HSa.out _) | exact hC.call (HSb.out _))
                                  | (go_simp; exact ⟨rfl, rfl⟩)
                                  | (obtain ⟨y0, y1, y2, y3, y4, y5, y6, y7, y8, y9⟩ := (HX.out.keep (hC.block w.heap.size HG.out)).cells; go_simp; exact rfl)
                              go_big_quiet_on)))
                  refine wpQuiet_nil ?_
                  intro W1 hC
                  have HB := Lib.hid (HB.out.trans (hC.mono HB.out.size))
                  clear hC
                  go_wp2_with fail
                  go_ret
                  exact ⟨rfl, HB.out⟩
              · rw [if_neg (fun k => h8 k.1)]
                have p8 : (op == 8) = false := by simpa using h8
                clear h8 h9
                go_enter Try.func23, Try.ntmps23
                go_upto_region 12 with (first
                  | (go_at_call 40; (with_reducible refine (HF.out _).mono ?_); rintro e u ⟨rfl, hb⟩; have HX := Lib.hid (HX.out.keep (hb.block w.heap.size HG.out)); have HG := Lib.hid (Nat.lt_of_lt_of_le HG.out hb.size); have HB := Lib.hid (HB.out.trans (hb.mono HB.out.size)); obtain ⟨y0, y1, y2, y3, y4, y5, y6, y7, y8, y9⟩ := HX.out.cells; clear hb)
                  | (go_at_call 41; (with_reducible refine (HK.out _).mono ?_); rintro e u ⟨rfl, hb⟩; have HX := Lib.hid (HX.out.keep (hb.block w.heap.size HG.out)); have HG := Lib.hid (Nat.lt_of_lt_of_le HG.out hb.size); have HB := Lib.hid (HB.out.trans (hb.mono HB.out.size)); obtain ⟨y0, y1, y2, y3, y4, y5, y6, y7, y8, y9⟩ := HX.out.cells; clear hb)
                  | (go_at_call 42; (with_reducible refine (HWa.out _).mono ?_); rintro e u ⟨rfl, hb⟩; have HX := Lib.hid (HX.out.keep (hb.block w.heap.size HG.out)); have HG := Lib.hid (Nat.lt_of_lt_of_le HG.out hb.size); have HB := Lib.hid (HB.out.trans (hb.mono HB.out.size)); obtain ⟨y0, y1, y2, y3, y4, y5, y6, y7, y8, y9⟩ := HX.out.cells; clear hb)
                  | (go_at_call 42; (with_reducible refine (HWb.out _).mono ?_); rintro e u ⟨rfl, hb⟩; have HX := Lib.hid (HX.out.keep (hb.block w.heap.size HG.out)); have HG := Lib.hid (Nat.lt_of_lt_of_le HG.out hb.size); have HB := Lib.hid (HB.out.trans (hb.mono HB.out.size)); obtain ⟨y0, y1, y2, y3, y4, y5, y6, y7, y8, y9⟩ := HX.out.cells; clear hb)
                  | (go_at_call 42; (with_reducible refine (HWr.out _).mono ?_); rintro e u ⟨rfl, hb⟩; have HX := Lib.hid (HX.out.keep (hb.block w.heap.size HG.out)); have HG := Lib.hid (Nat.lt_of_lt_of_le HG.out hb.size); have HB := Lib.hid (HB.out.trans (hb.mono HB.out.size)); obtain ⟨y0, y1, y2, y3, y4, y5, y6, y7, y8, y9⟩ := HX.out.cells; clear hb)
                  | (go_at_call 43; (with_reducible refine (HSa.out _).mono ?_); rintro e u ⟨rfl, hb⟩; have HX := Lib.hid (HX.out.keep (hb.block w.heap.size HG.out)); have HG := Lib.hid (Nat.lt_of_lt_of_le HG.out hb.size); have HB := Lib.hid (HB.out.trans (hb.mono HB.out.size)); obtain ⟨y0, y1, y2, y3, y4, y5, y6, y7, y8, y9⟩ := HX.out.cells; clear hb))
                refine wp_region_kp (by kernel_rfl) (by kernel_rfl) ?_
                repeat (first
                    | go_big_quiet_skip
                    | (go_big_quiet_want
                       go_big_quiet_op
                       first
                         | go_big_quiet_on
                         | (apply Exists.intro
                            refine ⟨fun w1 hC => ?_, ?_⟩
                            · first
                                | (go_at_call 43; with_reducible first | exact hC.call (HSa.out _) | exact hC.call (HSb.out _))
                                | (go_simp; exact ⟨rfl, rfl⟩)
                                | (obtain ⟨y0, y1, y2, y3, y4, y5, y6, y7, y8, y9⟩ := (HX.out.keep (hC.block w.heap.size HG.out)).cells; go_simp; exact rfl)
                            go_big_quiet_on)))
                refine wpQuiet_nil ?_
                intro W1 hC
                have HB := Lib.hid (HB.out.trans (hC.mono HB.out.size))
                clear hC
                go_wp2_with fail
                go_ret
                exact ⟨rfl, HB.out⟩
end Go.Proofs.Ytamcfmfkmekkfaa
/- The reference's WellFormed. -/
namespace Go.Proofs.Ytamcfmfkmekkfaa
open Go.RowKit
def nodeX (x : X) : Int := nodeR x.op x.a x.r x.b x.ns.length x.st x.ks.length
def wfR : Nat → X → Bool
  | 0, _ => false
  | n + 1, x => (nodeX x == 0) && x.ks.all (wfR n)
theorem XAt.xv {w : World} {g o : Nat} {x : X} (h : XAt w g o x) : ∃ ao cap ak ck, XC w g o x.op x.a x.r x.b ao x.ns.length cap x.st ak x.ks.length ck ∧ XV w (.slice ao x.ns.length cap) (.slice ak x.ks.length ck) x := by
  obtain ⟨ao, cap, ak, ck, h1, h2, h3⟩ := h.xc
  exact ⟨ao, cap, ak, ck, h1, h3, h2, h.w⟩
theorem XV.form {w : World} {vn vk : Value} {x : X} (h : XV w vn vk x) : ∃ ao cap ak ck, vn = .slice ao x.ns.length cap ∧ vk = .slice ak x.ks.length ck := by
  obtain ⟨⟨ao, cap, e, _⟩, ⟨ak, ck, e2, _⟩, _⟩ := h
  exact ⟨ao, cap, ak, ck, e, e2⟩
theorem all_no {n : Nat} {ks : List X} {i : Nat} (hi : i < ks.length) (h : wfR n ks[i] = false) : ks.all (wfR n) = false := by
  rw [List.all_eq_false]
  exact ⟨_, List.getElem_mem hi, by rw [h]; simp⟩
theorem all_yes {n : Nat} {ks : List X} (h : ∀ j (hj : j < ks.length), wfR n ks[j] = true) : ks.all (wfR n) = true := by
  rw [List.all_eq_true]
  intro x hx
  obtain ⟨j, hj, rfl⟩ := List.getElem_of_mem hx
  exact h j hj
set_option maxRecDepth 100000 in
set_option maxHeartbeats 16000000 in
theorem wellFormed_c : ∀ (n : Nat) (x : X) (vn vk : Value) (w : World), n ≤ 100 → XV w vn vk x →
    Calls Try.prog 10 #[.agg #[.int .i64 x.op, .int .i64 x.a, .int .i64 x.r, .int .i64 x.b, vn, .int .u64 x.st.a, .int .u64 x.st.b, .int .u64 x.st.c, .int .u64 x.st.d, vk], .int .i64 n] w fun e w' => e = .returned (.bool (wfR n x)) ∧ Below w.heap.size w w' := by
  intro n
  induction n with
  | zero =>
    intro x vn vk w _ _
    have hb : Below w.heap.size w (w.alloc (.cells #[.int .i64 x.op, .int .i64 x.a, .int .i64 x.r, .int .i64 x.b, vn, .int .u64 x.st.a, .int .u64 x.st.b, .int .u64 x.st.c, .int .u64 x.st.d, vk] 28)) := (Below.refl _ _).alloc (Nat.le_refl _) _
    have HB := Lib.hid hb
    clear hb
    go_enter Try.func10, Try.ntmps10
    go_wp2_with fail
    go_ret
    exact ⟨by unfold wfR; rfl, HB.out⟩
  | succ n ih =>
    intro x vn vk w hn hV
    have HIH := Lib.hid ih
    obtain ⟨m, hm⟩ : ∃ m : Nat, n + 1 = m := ⟨_, rfl⟩
    rw [hm]
    have HSB : Hid ((m : Int) - 1 = (n : Int)) := Lib.hid (by omega)
    have hz : ¬ (m : Int) ≤ 0 := by omega
    have hm1 : 1 ≤ m ∧ m ≤ 101 := by omega
    have HN : Hid (n ≤ 100) := Lib.hid (by omega)
    have HM : Hid (wfR m x = ((nodeX x == 0) && x.ks.all (wfR n))) := Lib.hid (by rw [← hm]; rfl)
    have hkI : (x.ks.length : Int) ≤ 9223372036854775807 := by have h := hV.wf.nk; unfold maxLen at h; omega
    obtain ⟨ao, cap, ak, ck, rfl, rfl⟩ := hV.form
    have HX : Hid (XC (w.alloc (.cells #[.int .i64 x.op, .int .i64 x.a, .int .i64 x.r, .int .i64 x.b, .slice ao x.ns.length cap, .int .u64 x.st.a, .int .u64 x.st.b, .int .u64 x.st.c, .int .u64 x.st.d, .slice ak x.ks.length ck] 28)) w.heap.size 0 x.op x.a x.r x.b ao x.ns.length cap x.st ak x.ks.length ck) := Lib.hid (XC.of_blk (Blk.new w _ _))
    have HB : Hid (Below w.heap.size w (w.alloc (.cells #[.int .i64 x.op, .int .i64 x.a, .int .i64 x.r, .int .i64 x.b, .slice ao x.ns.length cap, .int .u64 x.st.a, .int .u64 x.st.b, .int .u64 x.st.c, .int .u64 x.st.d, .slice ak x.ks.length ck] 28))) := Lib.hid ((Below.refl _ _).alloc (Nat.le_refl _) _)
    have HG : Hid (w.heap.size < (w.alloc (.cells #[.int .i64 x.op, .int .i64 x.a, .int .i64 x.r, .int .i64 x.b, .slice ao x.ns.length cap, .int .u64 x.st.a, .int .u64 x.st.b, .int .u64 x.st.c, .int .u64 x.st.d, .slice ak x.ks.length ck] 28)).heap.size) := Lib.hid (by simp)
    have HK := Lib.hid hV.ks
    obtain ⟨e0, he0⟩ : ∃ e0, nodeX x = e0 := ⟨_, rfl⟩
    have HND : Hid (∀ u, Calls Try.prog 23 #[.agg #[.int .i64 x.op, .int .i64 x.a, .int .i64 x.r, .int .i64 x.b, .slice ao x.ns.length cap, .int .u64 x.st.a, .int .u64 x.st.b, .int .u64 x.st.c, .int .u64 x.st.d, .slice ak x.ks.length ck], .bool false, .bool true] u fun e w' => e = .returned (.int .i64 e0) ∧ Below u.heap.size u w') := Lib.hid fun u => by
      rw [← he0]
      exact node_c x.op x.a x.r x.b ao x.ns.length cap x.st ak x.ks.length ck u
    rw [he0] at HM
    clear hm hn ih hV he0
    by_cases h0 : e0 = 0
    · have q0 : (e0 != 0) = false := by rw [h0]; rfl
      have HM2 : Hid (wfR m x = x.ks.all (wfR n)) := Lib.hid (by rw [HM.out, h0]; rfl)
      clear h0 HM
      go_enter Try.func10, Try.ntmps10
      go_upto_region 1 with fail
      generalize w.alloc (.cells #[.int .i64 x.op, .int .i64 x.a, .int .i64 x.r, .int .i64 x.b, .slice ao x.ns.length cap, .int .u64 x.st.a, .int .u64 x.st.b, .int .u64 x.st.c, .int .u64 x.st.d, .slice ak x.ks.length ck] 28) = W at *
      obtain ⟨y0, y1, y2, y3, y4, y5, y6, y7, y8, y9⟩ := HX.out.cells
      generalize hgx : w.heap.size = gx at *
      go_wp2_with (go_at_call 23; (with_reducible refine (HND.out _).mono ?_); rintro e u ⟨rfl, hb⟩; have HX1 := Lib.hid (HX.out.keep (hb.block gx HG.out)); have HB1 := Lib.hid (HB.out.trans (hb.mono (Nat.le_of_lt HG.out))); have HG1 := Lib.hid (Nat.lt_of_lt_of_le HG.out hb.size); clear hb)
      go_loopw [5] (fun v5 wr => ∃ i : Nat, i ≤ x.ks.length ∧ v5 = .int .i64 i ∧ Hid (∀ j (hj : j < x.ks.length), j < i → wfR n x.ks[j] = true) ∧ Hid (XC wr gx 0 x.op x.a x.r x.b ao x.ns.length cap x.st ak x.ks.length ck) ∧ Hid (Below gx w wr) ∧ Hid (gx < wr.heap.size)) (fun v5 _ => x.ks.length - (intOf v5).toNat)
      case atStart => exact ⟨0, Nat.zero_le _, rfl, Lib.hid (fun j _ h => absurd h (by omega)), HX1, HB1, HG1⟩
      case round =>
        clear HX1 HB1 HG1
        obtain ⟨i, hi, rfl, HJ, HX1, HB1, HG1⟩ := hrel
        obtain ⟨y0, y1, y2, y3, y4, y5, y6, y7, y8, y9⟩ := HX1.out.cells
        clear y0 y1 y2 y3 y4 y5 y6 y7 y8
        by_cases hlt : i < x.ks.length
        · have hlt' : (i : Int) < (x.ks.length : Int) := by omega
          obtain ⟨y, hy⟩ : ∃ y, x.ks[i] = y := ⟨_, rfl⟩
          obtain ⟨g', o', hak, hg', hR⟩ := HK.out.row hlt
          subst hak
          have hA := hR i hlt
          rw [hy] at hA
          have hA2 : XAt wr g' (o' + i * 10) y := hA.keep (by rw [hgx]; exact HB1.out) hg'
          obtain ⟨ao2, cap2, ak2, ck2, hc2, hv2⟩ := hA2.xv
          obtain ⟨z0, z1, z2, z3, z4, z5, z6, z7, z8, z9⟩ := hc2.cells
          have HV2 := Lib.hid hv2
          have HY := Lib.hid hy
          clear hA hA2 hR hg' hy hc2 hv2
          obtain ⟨bb, hb⟩ : ∃ bb, wfR n y = bb := ⟨_, rfl⟩
          have HBB := Lib.hid hb
          have HCL : Hid (Calls Try.prog 10 #[.agg #[.int .i64 y.op, .int .i64 y.a, .int .i64 y.r, .int .i64 y.b, .slice ao2 y.ns.length cap2, .int .u64 y.st.a, .int .u64 y.st.b, .int .u64 y.st.c, .int .u64 y.st.d, .slice ak2 y.ks.length ck2], .int .i64 ((m : Int) - 1)] wr fun e w' => e = .returned (.bool bb) ∧ Below wr.heap.size wr w') := Lib.hid (by
            rw [← hb, HSB.out]
            exact HIH.out y _ _ wr HN.out HV2.out)
          clear hb
          cases bb with
          | false =>
            go_wp2_with (go_at_call 10; (with_reducible refine HCL.out.mono ?_); rintro e w1 ⟨rfl, hb1⟩; have HB2 := Lib.hid (HB1.out.trans (hb1.mono (Nat.le_of_lt HG1.out))); clear hb1)
            go_ret
            exact ⟨ret_bool (by rw [HM2.out, all_no hlt (by rw [HY.out]; exact HBB.out)]), by first | exact HB2.out | (rw [hgx]; exact HB2.out)⟩
          | true =>
            go_wp2_with (go_at_call 10; (with_reducible refine HCL.out.mono ?_); rintro e w1 ⟨rfl, hb1⟩; have HB2 := Lib.hid (HB1.out.trans (hb1.mono (Nat.le_of_lt HG1.out))); have HX2 := Lib.hid (HX1.out.keep (hb1.block gx HG1.out)); have HG2 := Lib.hid (Nat.lt_of_lt_of_le HG1.out hb1.size); clear hb1)
            go_roundw
            case rel =>
              refine ⟨i + 1, hlt, by go_num, Lib.hid (fun j hj hji => ?_), HX2, HB2, HG2⟩
              by_cases e : j < i
              · exact HJ.out j hj e
              · obtain rfl : j = i := by omega
                rw [HY.out]; exact HBB.out
            case measure => simp [intOf]; omega
        · have hlt' : ¬ (i : Int) < (x.ks.length : Int) := by omega
          have HF : Hid (wfR m x = true) := Lib.hid (by rw [HM2.out]; exact all_yes fun j hj => HJ.out j hj (by omega))
          go_wp2_with fail
          go_ret
          exact ⟨ret_bool HF.out.symm, by first | exact HB1.out | (rw [hgx]; exact HB1.out)⟩
    · have q0 : (e0 != 0) = true := by simpa using h0
      have HM2 : Hid (wfR m x = false) := Lib.hid (by rw [HM.out]; have : (e0 == 0) = false := by simpa using h0
                                                      rw [this]; rfl)
      clear h0 HM
      obtain ⟨y0, y1, y2, y3, y4, y5, y6, y7, y8, y9⟩ := HX.out.cells
      go_enter Try.func10, Try.ntmps10
      go_wp2_with (go_at_call 23; (with_reducible refine (HND.out _).mono ?_); rintro e u ⟨rfl, hb⟩; have HB1 := Lib.hid (HB.out.trans (hb.mono HB.out.size)); clear hb)
      go_ret
      exact ⟨ret_bool HM2.out.symm, HB1.out⟩
/-- the two ways to be well-formed are one -/
theorem wf_same : ∀ (n : Nat) (x : X), wfR n x = true ↔ (more n x = false ∧ fe (opE 15) n x = 0)
  | 0, x => by unfold wfR more; simp
  | n + 1, x => by
    have e1 : wfR (n + 1) x = ((nodeX x == 0) && x.ks.all (wfR n)) := rfl
    have e2 : more (n + 1) x = x.ks.any (more n) := rfl
    have e3 : fe (opE 15) (n + 1) x = if opE 15 x ≠ 0 then opE 15 x else feL (fe (opE 15) n) x.ks := rfl
    have hnd : nodeX x = 0 ↔ opE 15 x = 0 := node0 _ _ _ _ _ _ _
    rw [e1, e2, e3, Bool.and_eq_true, beq_iff_eq, hnd, List.all_eq_true, List.any_eq_false]
    constructor
    · rintro ⟨h1, h2⟩
      rw [if_neg (by simp [h1])]
      refine ⟨fun y hy => by rw [((wf_same n y).1 (h2 y hy)).1]; simp, feL_no fun j hj => ((wf_same n _).1 (h2 _ (List.getElem_mem hj))).2⟩
    · rintro ⟨h1, h2⟩
      by_cases h0 : opE 15 x = 0
      · rw [if_neg (by simp [h0])] at h2
        exact ⟨h0, fun y hy => (wf_same n y).2 ⟨by simpa using h1 y hy, feL_zero h2 y hy⟩⟩
      · rw [if_pos h0] at h2; exact absurd h2 h0
theorem wfR_X (x : X) : wfR 12 x = wfX x := by
  unfold wfX chkE
  rw [Bool.eq_iff_iff, wf_same, decide_eq_true_eq]
  cases h : more 12 x with
  | true => rw [if_pos rfl]; simp
  | false => rw [if_neg (by simp)]; simp
end Go.Proofs.Ytamcfmfkmekkfaa
/- A value loaded whole; the reference's of, name, level. -/
namespace Go.Proofs.Ytamcfmfkmekkfaa
open Go.RowKit Go
theorem size_case' (w : World) : (sizeOf 36).run Try.prog w = .ok 21 w := by go_simp
section
variable {P : Program} {t : TypeId} {w : World}
theorem loadAt_agg {g o : Nat} (cs : List Value) (hagg : (isAgg t).run P w = .ok true w) (hsz : (sizeOf t).run P w = .ok cs.length w) (h : ∀ j v, cs[j]? = some v → w.cell? ⟨g, o + j, none⟩ = some v) : (Instr.loadAt t (.pointer (some ⟨g, o, none⟩))).run P w = .ok (.agg cs.toArray) w := by
  have hl := run_loadCells_list (P := P) w ⟨g, o, none⟩ cs (fun j v hj => by
    have := h j v hj
    by_cases e : j = 0
    · subst e; simpa [Addr.add] using this
    · simpa [Addr.add, e] using this)
  unfold Instr.loadAt Instr.sureAddr loadVar
  simp only [Sem.run_bind, Sem.run_pure, Result.andThen_ok, hagg, if_true, hsz, hl]
theorem loadAt_blk {g : Nat} {ty : TypeId} (cs : List Value) (hagg : (isAgg t).run P w = .ok true w) (hsz : (sizeOf t).run P w = .ok cs.length w) (h : Blk w g ty cs.toArray) : (Instr.loadAt t (.pointer (some ⟨g, 0, none⟩))).run P w = .ok (.agg cs.toArray) w :=
  loadAt_agg cs hagg hsz (fun j v hj => by rw [Nat.zero_add, h.cell j]; simpa using hj)
end
theorem agg_case (w : World) : (isAgg 36).run Try.prog w = .ok true w := by go_simp
theorem agg_expr (w : World) : (isAgg 28).run Try.prog w = .ok true w := by go_simp
theorem size_expr (w : World) : (sizeOf 28).run Try.prog w = .ok 10 w := by go_simp
theorem loadAt_case {c : Ca} {g : Nat} {ty : TypeId} {u : World} (h : Blk u g ty #[.int .i64 c.c1.u, .int .i64 c.c1.ro, .int .i64 c.c1.ty, .int .i64 c.c1.lo.s, .int .u64 c.c1.lo.c, .int .i64 c.c1.hi.s, .int .u64 c.c1.hi.c, .int .i64 c.c2.u, .int .i64 c.c2.ro, .int .i64 c.c2.ty, .int .i64 c.c2.lo.s, .int .u64 c.c2.lo.c, .int .i64 c.c2.hi.s, .int .u64 c.c2.hi.c, .int .i64 c.c3.u, .int .i64 c.c3.ro, .int .i64 c.c3.ty, .int .i64 c.c3.lo.s, .int .u64 c.c3.lo.c, .int .i64 c.c3.hi.s, .int .u64 c.c3.hi.c]) : (Instr.loadAt 36 (.pointer (some ⟨g, 0, none⟩))).run Try.prog u = .ok (.agg #[.int .i64 c.c1.u, .int .i64 c.c1.ro, .int .i64 c.c1.ty, .int .i64 c.c1.lo.s, .int .u64 c.c1.lo.c, .int .i64 c.c1.hi.s, .int .u64 c.c1.hi.c, .int .i64 c.c2.u, .int .i64 c.c2.ro, .int .i64 c.c2.ty, .int .i64 c.c2.lo.s, .int .u64 c.c2.lo.c, .int .i64 c.c2.hi.s, .int .u64 c.c2.hi.c, .int .i64 c.c3.u, .int .i64 c.c3.ro, .int .i64 c.c3.ty, .int .i64 c.c3.lo.s, .int .u64 c.c3.lo.c, .int .i64 c.c3.hi.s, .int .u64 c.c3.hi.c]) u := loadAt_blk [.int .i64 c.c1.u, .int .i64 c.c1.ro, .int .i64 c.c1.ty, .int .i64 c.c1.lo.s, .int .u64 c.c1.lo.c, .int .i64 c.c1.hi.s, .int .u64 c.c1.hi.c, .int .i64 c.c2.u, .int .i64 c.c2.ro, .int .i64 c.c2.ty, .int .i64 c.c2.lo.s, .int .u64 c.c2.lo.c, .int .i64 c.c2.hi.s, .int .u64 c.c2.hi.c, .int .i64 c.c3.u, .int .i64 c.c3.ro, .int .i64 c.c3.ty, .int .i64 c.c3.lo.s, .int .u64 c.c3.lo.c, .int .i64 c.c3.hi.s, .int .u64 c.c3.hi.c] (agg_case u) (size_case' u) h
theorem loadAt_expr {x : X} {ao ak : Option Addr} {cap ck g o : Nat} {u : World} (h : XC u g o x.op x.a x.r x.b ao x.ns.length cap x.st ak x.ks.length ck) : (Instr.loadAt 28 (.pointer (some ⟨g, o, none⟩))).run Try.prog u = .ok (.agg #[.int .i64 x.op, .int .i64 x.a, .int .i64 x.r, .int .i64 x.b, .slice ao x.ns.length cap, .int .u64 x.st.a, .int .u64 x.st.b, .int .u64 x.st.c, .int .u64 x.st.d, .slice ak x.ks.length ck]) u := by
  obtain ⟨y0, y1, y2, y3, y4, y5, y6, y7, y8, y9⟩ := h.cells
  refine loadAt_agg [.int .i64 x.op, .int .i64 x.a, .int .i64 x.r, .int .i64 x.b, .slice ao x.ns.length cap, .int .u64 x.st.a, .int .u64 x.st.b, .int .u64 x.st.c, .int .u64 x.st.d, .slice ak x.ks.length ck] (agg_expr u) (size_expr u) (fun j v hj => ?_)
  rcases j with _ | _ | _ | _ | _ | _ | _ | _ | _ | _ | j
  all_goals first
    | (simp only [List.getElem?_cons_zero, List.getElem?_cons_succ, Option.some.injEq] at hj; subst hj; assumption)
    | simp at hj
section
variable {P : Program} {t : TypeId} {g : Addr} {v : Value} {w : World} {a : Act} {o : Oper}
theorem run_load (x : Operand) (ho : o.op = .load t x) (hx : a.eval x = .pointer (some g)) (h : (Instr.loadAt t (.pointer (some g))).run P w = .ok v w) : (execOp a.eval o).run P w = .ok (.value v) w := by
  unfold execOp
  simp only [ho, hx, Sem.run_bind, h, Result.andThen_ok]
  rfl
/-- in a quiet walk: an operation that loads a whole value -/
theorem quiet_load {C : World → Prop} {K : Act → Prop} (x : Operand) (ho : o.op = .load t x) (hx : a.eval x = .pointer (some g)) (h : ∀ w, C w → (Instr.loadAt t (.pointer (some g))).run P w = .ok v w) (hk : K (a.put o.dst v)) : o.quiet P a C K :=
  ⟨_, fun w hw => by unfold Oper.quietAt; rw [run_load x ho hx (h w hw)]; exact ⟨rfl, rfl⟩, hk⟩
theorem wpList_load {ops : Array Oper} {rest : List Oper} {Q : Exit → Act → World → Prop} (hw : Region.wanted o (yielded ops a.tmps) = true) (x : Operand) (ho : o.op = .load t x) (hx : a.eval x = .pointer (some g)) (h : (Instr.loadAt t (.pointer (some g))).run P w = .ok v w) (hK : wpList P ops Q rest (a.put o.dst v) w) : wpList P ops Q (o :: rest) a w := by
  unfold wpList
  rw [if_pos hw]
  refine .inl ?_
  unfold Oper.wp
  rw [run_load x ho hx h]
  exact hK
end
theorem size_ctx (w : World) : (sizeOf 34).run Try.prog w = .ok 7 w := by go_simp
set_option maxRecDepth 100000 in
theorem ctx_ret {fn : Func} {tmps : Array Value} {t : Tmp} {w : World} {g : Nat} {a : Cx} (h : fn.results = #[.cell t 34]) (ht : tmps.getD t undef = .pointer (some ⟨g, 0, none⟩)) (q : Blk w g 34 #[.int .i64 a.u, .int .i64 a.ro, .int .i64 a.ty, .int .i64 a.lo.s, .int .u64 a.lo.c, .int .i64 a.hi.s, .int .u64 a.hi.c]) :
    (results fn tmps).run Try.prog w = .ok (.agg #[.int .i64 a.u, .int .i64 a.ro, .int .i64 a.ty, .int .i64 a.lo.s, .int .u64 a.lo.c, .int .i64 a.hi.s, .int .u64 a.hi.c]) w := by
  have c0 := q.cell 0
  have c1 := q.cell 1
  have c2 := q.cell 2
  have c3 := q.cell 3
  have c4 := q.cell 4
  have c5 := q.cell 5
  have c6 := q.cell 6
  have ht' : tmps[t]?.getD undef = .pointer (some ⟨g, 0, none⟩) := by simpa using ht
  simp [results, h, ht', go_sem, c0, c1, c2, c3, c4, c5, c6]
theorem two_new' (w : World) (o1 : Obj) (t2 : TypeId) (c2 : Array Value) : Blk ((w.alloc o1).alloc (.cells c2 t2)) (w.heap.size + 1) t2 c2 := by
  have h := Blk.new (w.alloc o1) t2 c2
  rw [World.size_alloc] at h
  exact h
def zcx : List Value := [.int .i64 0, .int .i64 0, .int .i64 0, .int .i64 0, .int .u64 0, .int .i64 0, .int .u64 0]
set_option maxRecDepth 100000 in
set_option maxHeartbeats 4000000 in
theorem rctx_0 (c : Ca) (n : Nat) (hn : n / 5 = 0) (w : World) : Calls Try.prog 60 #[.agg #[.int .i64 c.c1.u, .int .i64 c.c1.ro, .int .i64 c.c1.ty, .int .i64 c.c1.lo.s, .int .u64 c.c1.lo.c, .int .i64 c.c1.hi.s, .int .u64 c.c1.hi.c, .int .i64 c.c2.u, .int .i64 c.c2.ro, .int .i64 c.c2.ty, .int .i64 c.c2.lo.s, .int .u64 c.c2.lo.c, .int .i64 c.c2.hi.s, .int .u64 c.c2.hi.c, .int .i64 c.c3.u, .int .i64 c.c3.ro, .int .i64 c.c3.ty, .int .i64 c.c3.lo.s, .int .u64 c.c3.lo.c, .int .i64 c.c3.hi.s, .int .u64 c.c3.hi.c], .int .i64 n] w fun e w' => e = .returned (.agg #[.int .i64 c.c1.u, .int .i64 c.c1.ro, .int .i64 c.c1.ty, .int .i64 c.c1.lo.s, .int .u64 c.c1.lo.c, .int .i64 c.c1.hi.s, .int .u64 c.c1.hi.c]) ∧ Below w.heap.size w w' := by
  have hd1 : Int.tdiv (n : Int) 5 = 0 := by rw [Int.tdiv_eq_ediv_of_nonneg (by omega)]; omega
  have hd2 : (n : Int) / 5 = 0 := by omega
  have HB : Hid (Below w.heap.size w ((w.alloc (.cells #[.int .i64 c.c1.u, .int .i64 c.c1.ro, .int .i64 c.c1.ty, .int .i64 c.c1.lo.s, .int .u64 c.c1.lo.c, .int .i64 c.c1.hi.s, .int .u64 c.c1.hi.c, .int .i64 c.c2.u, .int .i64 c.c2.ro, .int .i64 c.c2.ty, .int .i64 c.c2.lo.s, .int .u64 c.c2.lo.c, .int .i64 c.c2.hi.s, .int .u64 c.c2.hi.c, .int .i64 c.c3.u, .int .i64 c.c3.ro, .int .i64 c.c3.ty, .int .i64 c.c3.lo.s, .int .u64 c.c3.lo.c, .int .i64 c.c3.hi.s, .int .u64 c.c3.hi.c] 36)).alloc (.cells #[.int .i64 0, .int .i64 0, .int .i64 0, .int .i64 0, .int .u64 0, .int .i64 0, .int .u64 0] 34))) := Lib.hid (((Below.refl _ _).alloc (Nat.le_refl _) _).alloc (by simp) _)
  have HC : Hid (Blk ((w.alloc (.cells #[.int .i64 c.c1.u, .int .i64 c.c1.ro, .int .i64 c.c1.ty, .int .i64 c.c1.lo.s, .int .u64 c.c1.lo.c, .int .i64 c.c1.hi.s, .int .u64 c.c1.hi.c, .int .i64 c.c2.u, .int .i64 c.c2.ro, .int .i64 c.c2.ty, .int .i64 c.c2.lo.s, .int .u64 c.c2.lo.c, .int .i64 c.c2.hi.s, .int .u64 c.c2.hi.c, .int .i64 c.c3.u, .int .i64 c.c3.ro, .int .i64 c.c3.ty, .int .i64 c.c3.lo.s, .int .u64 c.c3.lo.c, .int .i64 c.c3.hi.s, .int .u64 c.c3.hi.c] 36)).alloc (.cells #[.int .i64 0, .int .i64 0, .int .i64 0, .int .i64 0, .int .u64 0, .int .i64 0, .int .u64 0] 34)) w.heap.size 36 #[.int .i64 c.c1.u, .int .i64 c.c1.ro, .int .i64 c.c1.ty, .int .i64 c.c1.lo.s, .int .u64 c.c1.lo.c, .int .i64 c.c1.hi.s, .int .u64 c.c1.hi.c, .int .i64 c.c2.u, .int .i64 c.c2.ro, .int .i64 c.c2.ty, .int .i64 c.c2.lo.s, .int .u64 c.c2.lo.c, .int .i64 c.c2.hi.s, .int .u64 c.c2.hi.c, .int .i64 c.c3.u, .int .i64 c.c3.ro, .int .i64 c.c3.ty, .int .i64 c.c3.lo.s, .int .u64 c.c3.lo.c, .int .i64 c.c3.hi.s, .int .u64 c.c3.hi.c]) := Lib.hid ((Blk.new w _ _).alloc _)
  have HR : Hid (Blk ((w.alloc (.cells #[.int .i64 c.c1.u, .int .i64 c.c1.ro, .int .i64 c.c1.ty, .int .i64 c.c1.lo.s, .int .u64 c.c1.lo.c, .int .i64 c.c1.hi.s, .int .u64 c.c1.hi.c, .int .i64 c.c2.u, .int .i64 c.c2.ro, .int .i64 c.c2.ty, .int .i64 c.c2.lo.s, .int .u64 c.c2.lo.c, .int .i64 c.c2.hi.s, .int .u64 c.c2.hi.c, .int .i64 c.c3.u, .int .i64 c.c3.ro, .int .i64 c.c3.ty, .int .i64 c.c3.lo.s, .int .u64 c.c3.lo.c, .int .i64 c.c3.hi.s, .int .u64 c.c3.hi.c] 36)).alloc (.cells #[.int .i64 0, .int .i64 0, .int .i64 0, .int .i64 0, .int .u64 0, .int .i64 0, .int .u64 0] 34)) (w.heap.size + 1) 34 #[.int .i64 0, .int .i64 0, .int .i64 0, .int .i64 0, .int .u64 0, .int .i64 0, .int .u64 0]) := Lib.hid (two_new' _ _ _ _)
  clear hn
  go_enter Try.func60, Try.ntmps60
  go_upto_region 1 with fail
  generalize (w.alloc (.cells #[.int .i64 c.c1.u, .int .i64 c.c1.ro, .int .i64 c.c1.ty, .int .i64 c.c1.lo.s, .int .u64 c.c1.lo.c, .int .i64 c.c1.hi.s, .int .u64 c.c1.hi.c, .int .i64 c.c2.u, .int .i64 c.c2.ro, .int .i64 c.c2.ty, .int .i64 c.c2.lo.s, .int .u64 c.c2.lo.c, .int .i64 c.c2.hi.s, .int .u64 c.c2.hi.c, .int .i64 c.c3.u, .int .i64 c.c3.ro, .int .i64 c.c3.ty, .int .i64 c.c3.lo.s, .int .u64 c.c3.lo.c, .int .i64 c.c3.hi.s, .int .u64 c.c3.hi.c] 36)).alloc (.cells #[.int .i64 0, .int .i64 0, .int .i64 0, .int .i64 0, .int .u64 0, .int .i64 0, .int .u64 0] 34) = W at *
  have HS : Hid (w.heap.size ≤ w.heap.size + 1) := Lib.hid (Nat.le_succ _)
  generalize w.heap.size + 1 = gr at *
  generalize hgc : w.heap.size = gc at *
  have hr := HR.out.cell
  have r0 := hr 0
  have r1 := hr 1
  have r2 := hr 2
  have r3 := hr 3
  have r4 := hr 4
  have r5 := hr 5
  have r6 := hr 6
  clear hr
  have hp := HC.out.cell
  have k0 := hp 0
  have k1 := hp 1
  have k2 := hp 2
  have k3 := hp 3
  have k4 := hp 4
  have k5 := hp 5
  have k6 := hp 6
  clear hp
  have HZ := HR.out.frozen
  go_wp2_with fail
  exact bodyPost_ret (v := .agg #[.int .i64 c.c1.u, .int .i64 c.c1.ro, .int .i64 c.c1.ty, .int .i64 c.c1.lo.s, .int .u64 c.c1.lo.c, .int .i64 c.c1.hi.s, .int .u64 c.c1.hi.c]) (ctx_ret Try.results60 rfl (((((((HR.out.set 0 _).set 1 _).set 2 _).set 3 _).set 4 _).set 5 _).set 6 _)) rfl ⟨rfl, by first | exact below_set1 (below_set1 (below_set1 (below_set1 (below_set1 (below_set1 (below_set1 HB.out HS.out 0 _) HS.out 1 _) HS.out 2 _) HS.out 3 _) HS.out 4 _) HS.out 5 _) HS.out 6 _ | (rw [hgc]; exact below_set1 (below_set1 (below_set1 (below_set1 (below_set1 (below_set1 (below_set1 HB.out HS.out 0 _) HS.out 1 _) HS.out 2 _) HS.out 3 _) HS.out 4 _) HS.out 5 _) HS.out 6 _)⟩
set_option maxRecDepth 100000 in
set_option maxHeartbeats 4000000 in
theorem rctx_1 (c : Ca) (n : Nat) (hn : n / 5 = 1) (w : World) : Calls Try.prog 60 #[.agg #[.int .i64 c.c1.u, .int .i64 c.c1.ro, .int .i64 c.c1.ty, .int .i64 c.c1.lo.s, .int .u64 c.c1.lo.c, .int .i64 c.c1.hi.s, .int .u64 c.c1.hi.c, .int .i64 c.c2.u, .int .i64 c.c2.ro, .int .i64 c.c2.ty, .int .i64 c.c2.lo.s, .int .u64 c.c2.lo.c, .int .i64 c.c2.hi.s, .int .u64 c.c2.hi.c, .int .i64 c.c3.u, .int .i64 c.c3.ro, .int .i64 c.c3.ty, .int .i64 c.c3.lo.s, .int .u64 c.c3.lo.c, .int .i64 c.c3.hi.s, .int .u64 c.c3.hi.c], .int .i64 n] w fun e w' => e = .returned (.agg #[.int .i64 c.c2.u, .int .i64 c.c2.ro, .int .i64 c.c2.ty, .int .i64 c.c2.lo.s, .int .u64 c.c2.lo.c, .int .i64 c.c2.hi.s, .int .u64 c.c2.hi.c]) ∧ Below w.heap.size w w' := by
  have hd1 : Int.tdiv (n : Int) 5 = 1 := by rw [Int.tdiv_eq_ediv_of_nonneg (by omega)]; omega
  have hd2 : (n : Int) / 5 = 1 := by omega
  have HB : Hid (Below w.heap.size w ((w.alloc (.cells #[.int .i64 c.c1.u, .int .i64 c.c1.ro, .int .i64 c.c1.ty, .int .i64 c.c1.lo.s, .int .u64 c.c1.lo.c, .int .i64 c.c1.hi.s, .int .u64 c.c1.hi.c, .int .i64 c.c2.u, .int .i64 c.c2.ro, .int .i64 c.c2.ty, .int .i64 c.c2.lo.s, .int .u64 c.c2.lo.c, .int .i64 c.c2.hi.s, .int .u64 c.c2.hi.c, .int .i64 c.c3.u, .int .i64 c.c3.ro, .int .i64 c.c3.ty, .int .i64 c.c3.lo.s, .int .u64 c.c3.lo.c, .int .i64 c.c3.hi.s, .int .u64 c.c3.hi.c] 36)).alloc (.cells #[.int .i64 0, .int .i64 0, .int .i64 0, .int .i64 0, .int .u64 0, .int .i64 0, .int .u64 0] 34))) := Lib.hid (((Below.refl _ _).alloc (Nat.le_refl _) _).alloc (by simp) _)
  have HC : Hid (Blk ((w.alloc (.cells #[.int .i64 c.c1.u, .int .i64 c.c1.ro, .int .i64 c.c1.ty, .int .i64 c.c1.lo.s, .int .u64 c.c1.lo.c, .int .i64 c.c1.hi.s, .int .u64 c.c1.hi.c, .int .i64 c.c2.u, .int .i64 c.c2.ro, .int .i64 c.c2.ty, .int .i64 c.c2.lo.s, .int .u64 c.c2.lo.c, .int .i64 c.c2.hi.s, .int .u64 c.c2.hi.c, .int .i64 c.c3.u, .int .i64 c.c3.ro, .int .i64 c.c3.ty, .int .i64 c.c3.lo.s, .int .u64 c.c3.lo.c, .int .i64 c.c3.hi.s, .int .u64 c.c3.hi.c] 36)).alloc (.cells #[.int .i64 0, .int .i64 0, .int .i64 0, .int .i64 0, .int .u64 0, .int .i64 0, .int .u64 0] 34)) w.heap.size 36 #[.int .i64 c.c1.u, .int .i64 c.c1.ro, .int .i64 c.c1.ty, .int .i64 c.c1.lo.s, .int .u64 c.c1.lo.c, .int .i64 c.c1.hi.s, .int .u64 c.c1.hi.c, .int .i64 c.c2.u, .int .i64 c.c2.ro, .int .i64 c.c2.ty, .int .i64 c.c2.lo.s, .int .u64 c.c2.lo.c, .int .i64 c.c2.hi.s, .int .u64 c.c2.hi.c, .int .i64 c.c3.u, .int .i64 c.c3.ro, .int .i64 c.c3.ty, .int .i64 c.c3.lo.s, .int .u64 c.c3.lo.c, .int .i64 c.c3.hi.s, .int .u64 c.c3.hi.c]) := Lib.hid ((Blk.new w _ _).alloc _)
  have HR : Hid (Blk ((w.alloc (.cells #[.int .i64 c.c1.u, .int .i64 c.c1.ro, .int .i64 c.c1.ty, .int .i64 c.c1.lo.s, .int .u64 c.c1.lo.c, .int .i64 c.c1.hi.s, .int .u64 c.c1.hi.c, .int .i64 c.c2.u, .int .i64 c.c2.ro, .int .i64 c.c2.ty, .int .i64 c.c2.lo.s, .int .u64 c.c2.lo.c, .int .i64 c.c2.hi.s, .int .u64 c.c2.hi.c, .int .i64 c.c3.u, .int .i64 c.c3.ro, .int .i64 c.c3.ty, .int .i64 c.c3.lo.s, .int .u64 c.c3.lo.c, .int .i64 c.c3.hi.s, .int .u64 c.c3.hi.c] 36)).alloc (.cells #[.int .i64 0, .int .i64 0, .int .i64 0, .int .i64 0, .int .u64 0, .int .i64 0, .int .u64 0] 34)) (w.heap.size + 1) 34 #[.int .i64 0, .int .i64 0, .int .i64 0, .int .i64 0, .int .u64 0, .int .i64 0, .int .u64 0]) := Lib.hid (two_new' _ _ _ _)
  clear hn
  go_enter Try.func60, Try.ntmps60
  go_upto_region 1 with fail
  generalize (w.alloc (.cells #[.int .i64 c.c1.u, .int .i64 c.c1.ro, .int .i64 c.c1.ty, .int .i64 c.c1.lo.s, .int .u64 c.c1.lo.c, .int .i64 c.c1.hi.s, .int .u64 c.c1.hi.c, .int .i64 c.c2.u, .int .i64 c.c2.ro, .int .i64 c.c2.ty, .int .i64 c.c2.lo.s, .int .u64 c.c2.lo.c, .int .i64 c.c2.hi.s, .int .u64 c.c2.hi.c, .int .i64 c.c3.u, .int .i64 c.c3.ro, .int .i64 c.c3.ty, .int .i64 c.c3.lo.s, .int .u64 c.c3.lo.c, .int .i64 c.c3.hi.s, .int .u64 c.c3.hi.c] 36)).alloc (.cells #[.int .i64 0, .int .i64 0, .int .i64 0, .int .i64 0, .int .u64 0, .int .i64 0, .int .u64 0] 34) = W at *
  have HS : Hid (w.heap.size ≤ w.heap.size + 1) := Lib.hid (Nat.le_succ _)
  generalize w.heap.size + 1 = gr at *
  generalize hgc : w.heap.size = gc at *
  have hr := HR.out.cell
  have r0 := hr 0
  have r1 := hr 1
  have r2 := hr 2
  have r3 := hr 3
  have r4 := hr 4
  have r5 := hr 5
  have r6 := hr 6
  clear hr
  have hp := HC.out.cell
  have k0 := hp 7
  have k1 := hp 8
  have k2 := hp 9
  have k3 := hp 10
  have k4 := hp 11
  have k5 := hp 12
  have k6 := hp 13
  clear hp
  have HZ := HR.out.frozen
  go_wp2_with fail
  exact bodyPost_ret (v := .agg #[.int .i64 c.c2.u, .int .i64 c.c2.ro, .int .i64 c.c2.ty, .int .i64 c.c2.lo.s, .int .u64 c.c2.lo.c, .int .i64 c.c2.hi.s, .int .u64 c.c2.hi.c]) (ctx_ret Try.results60 rfl (((((((HR.out.set 0 _).set 1 _).set 2 _).set 3 _).set 4 _).set 5 _).set 6 _)) rfl ⟨rfl, by first | exact below_set1 (below_set1 (below_set1 (below_set1 (below_set1 (below_set1 (below_set1 HB.out HS.out 0 _) HS.out 1 _) HS.out 2 _) HS.out 3 _) HS.out 4 _) HS.out 5 _) HS.out 6 _ | (rw [hgc]; exact below_set1 (below_set1 (below_set1 (below_set1 (below_set1 (below_set1 (below_set1 HB.out HS.out 0 _) HS.out 1 _) HS.out 2 _) HS.out 3 _) HS.out 4 _) HS.out 5 _) HS.out 6 _)⟩
set_option maxRecDepth 100000 in
set_option maxHeartbeats 4000000 in
theorem rctx_2 (c : Ca) (n : Nat) (hn : n / 5 = 2) (w : World) : Calls Try.prog 60 #[.agg #[.int .i64 c.c1.u, .int .i64 c.c1.ro, .int .i64 c.c1.ty, .int .i64 c.c1.lo.s, .int .u64 c.c1.lo.c, .int .i64 c.c1.hi.s, .int .u64 c.c1.hi.c, .int .i64 c.c2.u, .int .i64 c.c2.ro, .int .i64 c.c2.ty, .int .i64 c.c2.lo.s, .int .u64 c.c2.lo.c, .int .i64 c.c2.hi.s, .int .u64 c.c2.hi.c, .int .i64 c.c3.u, .int .i64 c.c3.ro, .int .i64 c.c3.ty, .int .i64 c.c3.lo.s, .int .u64 c.c3.lo.c, .int .i64 c.c3.hi.s, .int .u64 c.c3.hi.c], .int .i64 n] w fun e w' => e = .returned (.agg #[.int .i64 c.c3.u, .int .i64 c.c3.ro, .int .i64 c.c3.ty, .int .i64 c.c3.lo.s, .int .u64 c.c3.lo.c, .int .i64 c.c3.hi.s, .int .u64 c.c3.hi.c]) ∧ Below w.heap.size w w' := by
  have hd1 : Int.tdiv (n : Int) 5 = 2 := by rw [Int.tdiv_eq_ediv_of_nonneg (by omega)]; omega
  have hd2 : (n : Int) / 5 = 2 := by omega
  have HB : Hid (Below w.heap.size w ((w.alloc (.cells #[.int .i64 c.c1.u, .int .i64 c.c1.ro, .int .i64 c.c1.ty, .int .i64 c.c1.lo.s, .int .u64 c.c1.lo.c, .int .i64 c.c1.hi.s, .int .u64 c.c1.hi.c, .int .i64 c.c2.u, .int .i64 c.c2.ro, .int .i64 c.c2.ty, .int .i64 c.c2.lo.s, .int .u64 c.c2.lo.c, .int .i64 c.c2.hi.s, .int .u64 c.c2.hi.c, .int .i64 c.c3.u, .int .i64 c.c3.ro, .int .i64 c.c3.ty, .int .i64 c.c3.lo.s, .int .u64 c.c3.lo.c, .int .i64 c.c3.hi.s, .int .u64 c.c3.hi.c] 36)).alloc (.cells #[.int .i64 0, .int .i64 0, .int .i64 0, .int .i64 0, .int .u64 0, .int .i64 0, .int .u64 0] 34))) := Lib.hid (((Below.refl _ _).alloc (Nat.le_refl _) _).alloc (by simp) _)
  have HC : Hid (Blk ((w.alloc (.cells #[.int .i64 c.c1.u, .int .i64 c.c1.ro, .int .i64 c.c1.ty, .int .i64 c.c1.lo.s, .int .u64 c.c1.lo.c, .int .i64 c.c1.hi.s, .int .u64 c.c1.hi.c, .int .i64 c.c2.u, .int .i64 c.c2.ro, .int .i64 c.c2.ty, .int .i64 c.c2.lo.s, .int .u64 c.c2.lo.c, .int .i64 c.c2.hi.s, .int .u64 c.c2.hi.c, .int .i64 c.c3.u, .int .i64 c.c3.ro, .int .i64 c.c3.ty, .int .i64 c.c3.lo.s, .int .u64 c.c3.lo.c, .int .i64 c.c3.hi.s, .int .u64 c.c3.hi.c] 36)).alloc (.cells #[.int .i64 0, .int .i64 0, .int .i64 0, .int .i64 0, .int .u64 0, .int .i64 0, .int .u64 0] 34)) w.heap.size 36 #[.int .i64 c.c1.u, .int .i64 c.c1.ro, .int .i64 c.c1.ty, .int .i64 c.c1.lo.s, .int .u64 c.c1.lo.c, .int .i64 c.c1.hi.s, .int .u64 c.c1.hi.c, .int .i64 c.c2.u, .int .i64 c.c2.ro, .int .i64 c.c2.ty, .int .i64 c.c2.lo.s, .int .u64 c.c2.lo.c, .int .i64 c.c2.hi.s, .int .u64 c.c2.hi.c, .int .i64 c.c3.u, .int .i64 c.c3.ro, .int .i64 c.c3.ty, .int .i64 c.c3.lo.s, .int .u64 c.c3.lo.c, .int .i64 c.c3.hi.s, .int .u64 c.c3.hi.c]) := Lib.hid ((Blk.new w _ _).alloc _)
  have HR : Hid (Blk ((w.alloc (.cells #[.int .i64 c.c1.u, .int .i64 c.c1.ro, .int .i64 c.c1.ty, .int .i64 c.c1.lo.s, .int .u64 c.c1.lo.c, .int .i64 c.c1.hi.s, .int .u64 c.c1.hi.c, .int .i64 c.c2.u, .int .i64 c.c2.ro, .int .i64 c.c2.ty, .int .i64 c.c2.lo.s, .int .u64 c.c2.lo.c, .int .i64 c.c2.hi.s, .int .u64 c.c2.hi.c, .int .i64 c.c3.u, .int .i64 c.c3.ro, .int .i64 c.c3.ty, .int .i64 c.c3.lo.s, .int .u64 c.c3.lo.c, .int .i64 c.c3.hi.s, .int .u64 c.c3.hi.c] 36)).alloc (.cells #[.int .i64 0, .int .i64 0, .int .i64 0, .int .i64 0, .int .u64 0, .int .i64 0, .int .u64 0] 34)) (w.heap.size + 1) 34 #[.int .i64 0, .int .i64 0, .int .i64 0, .int .i64 0, .int .u64 0, .int .i64 0, .int .u64 0]) := Lib.hid (two_new' _ _ _ _)
  clear hn
  go_enter Try.func60, Try.ntmps60
  go_upto_region 1 with fail
  generalize (w.alloc (.cells #[.int .i64 c.c1.u, .int .i64 c.c1.ro, .int .i64 c.c1.ty, .int .i64 c.c1.lo.s, .int .u64 c.c1.lo.c, .int .i64 c.c1.hi.s, .int .u64 c.c1.hi.c, .int .i64 c.c2.u, .int .i64 c.c2.ro, .int .i64 c.c2.ty, .int .i64 c.c2.lo.s, .int .u64 c.c2.lo.c, .int .i64 c.c2.hi.s, .int .u64 c.c2.hi.c, .int .i64 c.c3.u, .int .i64 c.c3.ro, .int .i64 c.c3.ty, .int .i64 c.c3.lo.s, .int .u64 c.c3.lo.c, .int .i64 c.c3.hi.s, .int .u64 c.c3.hi.c] 36)).alloc (.cells #[.int .i64 0, .int .i64 0, .int .i64 0, .int .i64 0, .int .u64 0, .int .i64 0, .int .u64 0] 34) = W at *
  have HS : Hid (w.heap.size ≤ w.heap.size + 1) := Lib.hid (Nat.le_succ _)
  generalize w.heap.size + 1 = gr at *
  generalize hgc : w.heap.size = gc at *
  have hr := HR.out.cell
  have r0 := hr 0
  have r1 := hr 1
  have r2 := hr 2
  have r3 := hr 3
  have r4 := hr 4
  have r5 := hr 5
  have r6 := hr 6
  clear hr
  have hp := HC.out.cell
  have k0 := hp 14
  have k1 := hp 15
  have k2 := hp 16
  have k3 := hp 17
  have k4 := hp 18
  have k5 := hp 19
  have k6 := hp 20
  clear hp
  have HZ := HR.out.frozen
  go_wp2_with fail
  exact bodyPost_ret (v := .agg #[.int .i64 c.c3.u, .int .i64 c.c3.ro, .int .i64 c.c3.ty, .int .i64 c.c3.lo.s, .int .u64 c.c3.lo.c, .int .i64 c.c3.hi.s, .int .u64 c.c3.hi.c]) (ctx_ret Try.results60 rfl (((((((HR.out.set 0 _).set 1 _).set 2 _).set 3 _).set 4 _).set 5 _).set 6 _)) rfl ⟨rfl, by first | exact below_set1 (below_set1 (below_set1 (below_set1 (below_set1 (below_set1 (below_set1 HB.out HS.out 0 _) HS.out 1 _) HS.out 2 _) HS.out 3 _) HS.out 4 _) HS.out 5 _) HS.out 6 _ | (rw [hgc]; exact below_set1 (below_set1 (below_set1 (below_set1 (below_set1 (below_set1 (below_set1 HB.out HS.out 0 _) HS.out 1 _) HS.out 2 _) HS.out 3 _) HS.out 4 _) HS.out 5 _) HS.out 6 _)⟩
theorem rctx_c (c : Ca) (n : Nat) (hn : n < 15) (w : World) : Calls Try.prog 60 #[.agg #[.int .i64 c.c1.u, .int .i64 c.c1.ro, .int .i64 c.c1.ty, .int .i64 c.c1.lo.s, .int .u64 c.c1.lo.c, .int .i64 c.c1.hi.s, .int .u64 c.c1.hi.c, .int .i64 c.c2.u, .int .i64 c.c2.ro, .int .i64 c.c2.ty, .int .i64 c.c2.lo.s, .int .u64 c.c2.lo.c, .int .i64 c.c2.hi.s, .int .u64 c.c2.hi.c, .int .i64 c.c3.u, .int .i64 c.c3.ro, .int .i64 c.c3.ty, .int .i64 c.c3.lo.s, .int .u64 c.c3.lo.c, .int .i64 c.c3.hi.s, .int .u64 c.c3.hi.c], .int .i64 n] w fun e w' => e = .returned (.agg #[.int .i64 (ctxX c (n / 5)).u, .int .i64 (ctxX c (n / 5)).ro, .int .i64 (ctxX c (n / 5)).ty, .int .i64 (ctxX c (n / 5)).lo.s, .int .u64 (ctxX c (n / 5)).lo.c, .int .i64 (ctxX c (n / 5)).hi.s, .int .u64 (ctxX c (n / 5)).hi.c]) ∧ Below w.heap.size w w' := by
  have h : n / 5 = 0 ∨ n / 5 = 1 ∨ n / 5 = 2 := by omega
  rcases h with h | h | h
  · rw [h]; exact rctx_0 c n h w
  · rw [h]; exact rctx_1 c n h w
  · rw [h]; exact rctx_2 c n h w
end Go.Proofs.Ytamcfmfkmekkfaa
/- The reference's name, level. -/
namespace Go.Proofs.Ytamcfmfkmekkfaa
open Go.RowKit Go
@[go_sem] theorem fld_rng (x : Cx) (w : World) : (Instr.field 34 (.agg #[.int .i64 x.u, .int .i64 x.ro, .int .i64 x.ty, .int .i64 x.lo.s, .int .u64 x.lo.c, .int .i64 x.hi.s, .int .u64 x.hi.c]) 3).run Try.prog w = .ok (.agg #[.int .i64 x.lo.s, .int .u64 x.lo.c, .int .i64 x.hi.s, .int .u64 x.hi.c]) w := by kernel_rfl
@[go_sem] theorem fld_low (a b : Lv) (w : World) : (Instr.field 32 (.agg #[.int .i64 a.s, .int .u64 a.c, .int .i64 b.s, .int .u64 b.c]) 0).run Try.prog w = .ok (.agg #[.int .i64 a.s, .int .u64 a.c]) w := by kernel_rfl
@[go_sem] theorem fld_high (a b : Lv) (w : World) : (Instr.field 32 (.agg #[.int .i64 a.s, .int .u64 a.c, .int .i64 b.s, .int .u64 b.c]) 1).run Try.prog w = .ok (.agg #[.int .i64 b.s, .int .u64 b.c]) w := by kernel_rfl
def nmX (c : Ca) (n : Nat) : Int := if sortA n = 0 then (ctxX c (n / 5)).u else if sortA n = 1 then (ctxX c (n / 5)).ro else (ctxX c (n / 5)).ty
def lvX (c : Ca) (n : Nat) : Lv := if (n : Int).tmod 5 = 4 then (ctxX c (n / 5)).hi else (ctxX c (n / 5)).lo
set_option maxRecDepth 100000 in
set_option maxHeartbeats 4000000 in
theorem rname_0 (c : Ca) (n : Nat) (hn : n < 15) (hs : sortA n = 0) (w : World) : Calls Try.prog 38 #[.agg #[.int .i64 c.c1.u, .int .i64 c.c1.ro, .int .i64 c.c1.ty, .int .i64 c.c1.lo.s, .int .u64 c.c1.lo.c, .int .i64 c.c1.hi.s, .int .u64 c.c1.hi.c, .int .i64 c.c2.u, .int .i64 c.c2.ro, .int .i64 c.c2.ty, .int .i64 c.c2.lo.s, .int .u64 c.c2.lo.c, .int .i64 c.c2.hi.s, .int .u64 c.c2.hi.c, .int .i64 c.c3.u, .int .i64 c.c3.ro, .int .i64 c.c3.ty, .int .i64 c.c3.lo.s, .int .u64 c.c3.lo.c, .int .i64 c.c3.hi.s, .int .u64 c.c3.hi.c], .int .i64 n] w fun e w' => e = .returned (.int .i64 (nmX c n)) ∧ Below w.heap.size w w' := by
  unfold nmX
  rw [if_pos hs]
  have p0 : (sortA n == 0) = true := by simp; omega
  have p1 : (sortA n == 1) = false := by simp; omega
  have HO := Lib.hid (rctx_c c n hn)
  have HS := Lib.hid (rsort_c n)
  generalize ctxX c (n / 5) = x at *
  generalize sortA n = sa at *
  have HB : Hid (Below w.heap.size w (w.alloc (.cells #[.int .i64 c.c1.u, .int .i64 c.c1.ro, .int .i64 c.c1.ty, .int .i64 c.c1.lo.s, .int .u64 c.c1.lo.c, .int .i64 c.c1.hi.s, .int .u64 c.c1.hi.c, .int .i64 c.c2.u, .int .i64 c.c2.ro, .int .i64 c.c2.ty, .int .i64 c.c2.lo.s, .int .u64 c.c2.lo.c, .int .i64 c.c2.hi.s, .int .u64 c.c2.hi.c, .int .i64 c.c3.u, .int .i64 c.c3.ro, .int .i64 c.c3.ty, .int .i64 c.c3.lo.s, .int .u64 c.c3.lo.c, .int .i64 c.c3.hi.s, .int .u64 c.c3.hi.c] 36))) := Lib.hid ((Below.refl _ _).alloc (Nat.le_refl _) _)
  have HC : Hid (Blk (w.alloc (.cells #[.int .i64 c.c1.u, .int .i64 c.c1.ro, .int .i64 c.c1.ty, .int .i64 c.c1.lo.s, .int .u64 c.c1.lo.c, .int .i64 c.c1.hi.s, .int .u64 c.c1.hi.c, .int .i64 c.c2.u, .int .i64 c.c2.ro, .int .i64 c.c2.ty, .int .i64 c.c2.lo.s, .int .u64 c.c2.lo.c, .int .i64 c.c2.hi.s, .int .u64 c.c2.hi.c, .int .i64 c.c3.u, .int .i64 c.c3.ro, .int .i64 c.c3.ty, .int .i64 c.c3.lo.s, .int .u64 c.c3.lo.c, .int .i64 c.c3.hi.s, .int .u64 c.c3.hi.c] 36)) w.heap.size 36 #[.int .i64 c.c1.u, .int .i64 c.c1.ro, .int .i64 c.c1.ty, .int .i64 c.c1.lo.s, .int .u64 c.c1.lo.c, .int .i64 c.c1.hi.s, .int .u64 c.c1.hi.c, .int .i64 c.c2.u, .int .i64 c.c2.ro, .int .i64 c.c2.ty, .int .i64 c.c2.lo.s, .int .u64 c.c2.lo.c, .int .i64 c.c2.hi.s, .int .u64 c.c2.hi.c, .int .i64 c.c3.u, .int .i64 c.c3.ro, .int .i64 c.c3.ty, .int .i64 c.c3.lo.s, .int .u64 c.c3.lo.c, .int .i64 c.c3.hi.s, .int .u64 c.c3.hi.c]) := Lib.hid (Blk.new w _ _)
  clear hn hs
  go_enter Try.func38, Try.ntmps38
  go_upto_region 1 with fail
  generalize w.alloc (.cells #[.int .i64 c.c1.u, .int .i64 c.c1.ro, .int .i64 c.c1.ty, .int .i64 c.c1.lo.s, .int .u64 c.c1.lo.c, .int .i64 c.c1.hi.s, .int .u64 c.c1.hi.c, .int .i64 c.c2.u, .int .i64 c.c2.ro, .int .i64 c.c2.ty, .int .i64 c.c2.lo.s, .int .u64 c.c2.lo.c, .int .i64 c.c2.hi.s, .int .u64 c.c2.hi.c, .int .i64 c.c3.u, .int .i64 c.c3.ro, .int .i64 c.c3.ty, .int .i64 c.c3.lo.s, .int .u64 c.c3.lo.c, .int .i64 c.c3.hi.s, .int .u64 c.c3.hi.c] 36) = W at *
  go_upto_region 2 with (first
    | (refine wpList_load (by rfl) _ rfl rfl (loadAt_case HC.out) ?_; simp only [Act.put, List.setIfInBounds_toArray, List.set_cons_succ, List.set_cons_zero])
    | (go_at_call 60; (with_reducible refine (HO.out _).mono ?_); rintro e w1 ⟨rfl, hb1⟩; have HB1 := Lib.hid (HB.out.trans (hb1.mono HB.out.size)); clear hb1))
  have HX : Hid (Blk (w1.alloc (.cells #[.int .i64 x.u, .int .i64 x.ro, .int .i64 x.ty, .int .i64 x.lo.s, .int .u64 x.lo.c, .int .i64 x.hi.s, .int .u64 x.hi.c] 34)) w1.heap.size 34 #[.int .i64 x.u, .int .i64 x.ro, .int .i64 x.ty, .int .i64 x.lo.s, .int .u64 x.lo.c, .int .i64 x.hi.s, .int .u64 x.hi.c]) := Lib.hid (Blk.new w1 _ _)
  have HB2 : Hid (Below w.heap.size w (w1.alloc (.cells #[.int .i64 x.u, .int .i64 x.ro, .int .i64 x.ty, .int .i64 x.lo.s, .int .u64 x.lo.c, .int .i64 x.hi.s, .int .u64 x.hi.c] 34))) := Lib.hid (HB1.out.alloc HB1.out.size _)
  generalize w1.alloc (.cells #[.int .i64 x.u, .int .i64 x.ro, .int .i64 x.ty, .int .i64 x.lo.s, .int .u64 x.lo.c, .int .i64 x.hi.s, .int .u64 x.hi.c] 34) = W2 at *
  generalize w1.heap.size = gx at *
  go_wp2_with (go_at_call 43; (with_reducible refine (HS.out _).mono ?_); rintro e w3 ⟨rfl, hb3⟩; have HB3 := Lib.hid (HB2.out.trans (hb3.mono HB2.out.size)); have hx := (HX.out.keep hb3).cell; have x0 := hx 0; have x1 := hx 1; have x2 := hx 2; clear hb3 hx)
  go_ret
  exact ⟨rfl, HB3.out⟩
set_option maxRecDepth 100000 in
set_option maxHeartbeats 4000000 in
theorem rname_1 (c : Ca) (n : Nat) (hn : n < 15) (hs : sortA n = 1) (w : World) : Calls Try.prog 38 #[.agg #[.int .i64 c.c1.u, .int .i64 c.c1.ro, .int .i64 c.c1.ty, .int .i64 c.c1.lo.s, .int .u64 c.c1.lo.c, .int .i64 c.c1.hi.s, .int .u64 c.c1.hi.c, .int .i64 c.c2.u, .int .i64 c.c2.ro, .int .i64 c.c2.ty, .int .i64 c.c2.lo.s, .int .u64 c.c2.lo.c, .int .i64 c.c2.hi.s, .int .u64 c.c2.hi.c, .int .i64 c.c3.u, .int .i64 c.c3.ro, .int .i64 c.c3.ty, .int .i64 c.c3.lo.s, .int .u64 c.c3.lo.c, .int .i64 c.c3.hi.s, .int .u64 c.c3.hi.c], .int .i64 n] w fun e w' => e = .returned (.int .i64 (nmX c n)) ∧ Below w.heap.size w w' := by
  unfold nmX
  rw [if_neg (by omega), if_pos hs]
  have p0 : (sortA n == 0) = false := by simp; omega
  have p1 : (sortA n == 1) = true := by simp; omega
  have HO := Lib.hid (rctx_c c n hn)
  have HS := Lib.hid (rsort_c n)
  generalize ctxX c (n / 5) = x at *
  generalize sortA n = sa at *
  have HB : Hid (Below w.heap.size w (w.alloc (.cells #[.int .i64 c.c1.u, .int .i64 c.c1.ro, .int .i64 c.c1.ty, .int .i64 c.c1.lo.s, .int .u64 c.c1.lo.c, .int .i64 c.c1.hi.s, .int .u64 c.c1.hi.c, .int .i64 c.c2.u, .int .i64 c.c2.ro, .int .i64 c.c2.ty, .int .i64 c.c2.lo.s, .int .u64 c.c2.lo.c, .int .i64 c.c2.hi.s, .int .u64 c.c2.hi.c, .int .i64 c.c3.u, .int .i64 c.c3.ro, .int .i64 c.c3.ty, .int .i64 c.c3.lo.s, .int .u64 c.c3.lo.c, .int .i64 c.c3.hi.s, .int .u64 c.c3.hi.c] 36))) := Lib.hid ((Below.refl _ _).alloc (Nat.le_refl _) _)
  have HC : Hid (Blk (w.alloc (.cells #[.int .i64 c.c1.u, .int .i64 c.c1.ro, .int .i64 c.c1.ty, .int .i64 c.c1.lo.s, .int .u64 c.c1.lo.c, .int .i64 c.c1.hi.s, .int .u64 c.c1.hi.c, .int .i64 c.c2.u, .int .i64 c.c2.ro, .int .i64 c.c2.ty, .int .i64 c.c2.lo.s, .int .u64 c.c2.lo.c, .int .i64 c.c2.hi.s, .int .u64 c.c2.hi.c, .int .i64 c.c3.u, .int .i64 c.c3.ro, .int .i64 c.c3.ty, .int .i64 c.c3.lo.s, .int .u64 c.c3.lo.c, .int .i64 c.c3.hi.s, .int .u64 c.c3.hi.c] 36)) w.heap.size 36 #[.int .i64 c.c1.u, .int .i64 c.c1.ro, .int .i64 c.c1.ty, .int .i64 c.c1.lo.s, .int .u64 c.c1.lo.c, .int .i64 c.c1.hi.s, .int .u64 c.c1.hi.c, .int .i64 c.c2.u, .int .i64 c.c2.ro, .int .i64 c.c2.ty, .int .i64 c.c2.lo.s, .int .u64 c.c2.lo.c, .int .i64 c.c2.hi.s, .int .u64 c.c2.hi.c, .int .i64 c.c3.u, .int .i64 c.c3.ro, .int .i64 c.c3.ty, .int .i64 c.c3.lo.s, .int .u64 c.c3.lo.c, .int .i64 c.c3.hi.s, .int .u64 c.c3.hi.c]) := Lib.hid (Blk.new w _ _)
  clear hn hs
  go_enter Try.func38, Try.ntmps38
  go_upto_region 1 with fail
  generalize w.alloc (.cells #[.int .i64 c.c1.u, .int .i64 c.c1.ro, .int .i64 c.c1.ty, .int .i64 c.c1.lo.s, .int .u64 c.c1.lo.c, .int .i64 c.c1.hi.s, .int .u64 c.c1.hi.c, .int .i64 c.c2.u, .int .i64 c.c2.ro, .int .i64 c.c2.ty, .int .i64 c.c2.lo.s, .int .u64 c.c2.lo.c, .int .i64 c.c2.hi.s, .int .u64 c.c2.hi.c, .int .i64 c.c3.u, .int .i64 c.c3.ro, .int .i64 c.c3.ty, .int .i64 c.c3.lo.s, .int .u64 c.c3.lo.c, .int .i64 c.c3.hi.s, .int .u64 c.c3.hi.c] 36) = W at *
  go_upto_region 2 with (first
    | (refine wpList_load (by rfl) _ rfl rfl (loadAt_case HC.out) ?_; simp only [Act.put, List.setIfInBounds_toArray, List.set_cons_succ, List.set_cons_zero])
    | (go_at_call 60; (with_reducible refine (HO.out _).mono ?_); rintro e w1 ⟨rfl, hb1⟩; have HB1 := Lib.hid (HB.out.trans (hb1.mono HB.out.size)); clear hb1))
  have HX : Hid (Blk (w1.alloc (.cells #[.int .i64 x.u, .int .i64 x.ro, .int .i64 x.ty, .int .i64 x.lo.s, .int .u64 x.lo.c, .int .i64 x.hi.s, .int .u64 x.hi.c] 34)) w1.heap.size 34 #[.int .i64 x.u, .int .i64 x.ro, .int .i64 x.ty, .int .i64 x.lo.s, .int .u64 x.lo.c, .int .i64 x.hi.s, .int .u64 x.hi.c]) := Lib.hid (Blk.new w1 _ _)
  have HB2 : Hid (Below w.heap.size w (w1.alloc (.cells #[.int .i64 x.u, .int .i64 x.ro, .int .i64 x.ty, .int .i64 x.lo.s, .int .u64 x.lo.c, .int .i64 x.hi.s, .int .u64 x.hi.c] 34))) := Lib.hid (HB1.out.alloc HB1.out.size _)
  generalize w1.alloc (.cells #[.int .i64 x.u, .int .i64 x.ro, .int .i64 x.ty, .int .i64 x.lo.s, .int .u64 x.lo.c, .int .i64 x.hi.s, .int .u64 x.hi.c] 34) = W2 at *
  generalize w1.heap.size = gx at *
  go_wp2_with (go_at_call 43; (with_reducible refine (HS.out _).mono ?_); rintro e w3 ⟨rfl, hb3⟩; have HB3 := Lib.hid (HB2.out.trans (hb3.mono HB2.out.size)); have hx := (HX.out.keep hb3).cell; have x0 := hx 0; have x1 := hx 1; have x2 := hx 2; clear hb3 hx)
  go_ret
  exact ⟨rfl, HB3.out⟩
set_option maxRecDepth 100000 in
set_option maxHeartbeats 4000000 in
theorem rname_2 (c : Ca) (n : Nat) (hn : n < 15) (hs : sortA n ≠ 0 ∧ sortA n ≠ 1) (w : World) : Calls Try.prog 38 #[.agg #[.int .i64 c.c1.u, .int .i64 c.c1.ro, .int .i64 c.c1.ty, .int .i64 c.c1.lo.s, .int .u64 c.c1.lo.c, .int .i64 c.c1.hi.s, .int .u64 c.c1.hi.c, .int .i64 c.c2.u, .int .i64 c.c2.ro, .int .i64 c.c2.ty, .int .i64 c.c2.lo.s, .int .u64 c.c2.lo.c, .int .i64 c.c2.hi.s, .int .u64 c.c2.hi.c, .int .i64 c.c3.u, .int .i64 c.c3.ro, .int .i64 c.c3.ty, .int .i64 c.c3.lo.s, .int .u64 c.c3.lo.c, .int .i64 c.c3.hi.s, .int .u64 c.c3.hi.c], .int .i64 n] w fun e w' => e = .returned (.int .i64 (nmX c n)) ∧ Below w.heap.size w w' := by
  unfold nmX
  rw [if_neg hs.1, if_neg hs.2]
  have p0 : (sortA n == 0) = false := by simp; omega
  have p1 : (sortA n == 1) = false := by simp; omega
  have HO := Lib.hid (rctx_c c n hn)
  have HS := Lib.hid (rsort_c n)
  generalize ctxX c (n / 5) = x at *
  generalize sortA n = sa at *
  have HB : Hid (Below w.heap.size w (w.alloc (.cells #[.int .i64 c.c1.u, .int .i64 c.c1.ro, .int .i64 c.c1.ty, .int .i64 c.c1.lo.s, .int .u64 c.c1.lo.c, .int .i64 c.c1.hi.s, .int .u64 c.c1.hi.c, .int .i64 c.c2.u, .int .i64 c.c2.ro, .int .i64 c.c2.ty, .int .i64 c.c2.lo.s, .int .u64 c.c2.lo.c, .int .i64 c.c2.hi.s, .int .u64 c.c2.hi.c, .int .i64 c.c3.u, .int .i64 c.c3.ro, .int .i64 c.c3.ty, .int .i64 c.c3.lo.s, .int .u64 c.c3.lo.c, .int .i64 c.c3.hi.s, .int .u64 c.c3.hi.c] 36))) := Lib.hid ((Below.refl _ _).alloc (Nat.le_refl _) _)
  have HC : Hid (Blk (w.alloc (.cells #[.int .i64 c.c1.u, .int .i64 c.c1.ro, .int .i64 c.c1.ty, .int .i64 c.c1.lo.s, .int .u64 c.c1.lo.c, .int .i64 c.c1.hi.s, .int .u64 c.c1.hi.c, .int .i64 c.c2.u, .int .i64 c.c2.ro, .int .i64 c.c2.ty, .int .i64 c.c2.lo.s, .int .u64 c.c2.lo.c, .int .i64 c.c2.hi.s, .int .u64 c.c2.hi.c, .int .i64 c.c3.u, .int .i64 c.c3.ro, .int .i64 c.c3.ty, .int .i64 c.c3.lo.s, .int .u64 c.c3.lo.c, .int .i64 c.c3.hi.s, .int .u64 c.c3.hi.c] 36)) w.heap.size 36 #[.int .i64 c.c1.u, .int .i64 c.c1.ro, .int .i64 c.c1.ty, .int .i64 c.c1.lo.s, .int .u64 c.c1.lo.c, .int .i64 c.c1.hi.s, .int .u64 c.c1.hi.c, .int .i64 c.c2.u, .int .i64 c.c2.ro, .int .i64 c.c2.ty, .int .i64 c.c2.lo.s, .int .u64 c.c2.lo.c, .int .i64 c.c2.hi.s, .int .u64 c.c2.hi.c, .int .i64 c.c3.u, .int .i64 c.c3.ro, .int .i64 c.c3.ty, .int .i64 c.c3.lo.s, .int .u64 c.c3.lo.c, .int .i64 c.c3.hi.s, .int .u64 c.c3.hi.c]) := Lib.hid (Blk.new w _ _)
  clear hn hs
  go_enter Try.func38, Try.ntmps38
  go_upto_region 1 with fail
  generalize w.alloc (.cells #[.int .i64 c.c1.u, .int .i64 c.c1.ro, .int .i64 c.c1.ty, .int .i64 c.c1.lo.s, .int .u64 c.c1.lo.c, .int .i64 c.c1.hi.s, .int .u64 c.c1.hi.c, .int .i64 c.c2.u, .int .i64 c.c2.ro, .int .i64 c.c2.ty, .int .i64 c.c2.lo.s, .int .u64 c.c2.lo.c, .int .i64 c.c2.hi.s, .int .u64 c.c2.hi.c, .int .i64 c.c3.u, .int .i64 c.c3.ro, .int .i64 c.c3.ty, .int .i64 c.c3.lo.s, .int .u64 c.c3.lo.c, .int .i64 c.c3.hi.s, .int .u64 c.c3.hi.c] 36) = W at *
  go_upto_region 2 with (first
    | (refine wpList_load (by rfl) _ rfl rfl (loadAt_case HC.out) ?_; simp only [Act.put, List.setIfInBounds_toArray, List.set_cons_succ, List.set_cons_zero])
    | (go_at_call 60; (with_reducible refine (HO.out _).mono ?_); rintro e w1 ⟨rfl, hb1⟩; have HB1 := Lib.hid (HB.out.trans (hb1.mono HB.out.size)); clear hb1))
  have HX : Hid (Blk (w1.alloc (.cells #[.int .i64 x.u, .int .i64 x.ro, .int .i64 x.ty, .int .i64 x.lo.s, .int .u64 x.lo.c, .int .i64 x.hi.s, .int .u64 x.hi.c] 34)) w1.heap.size 34 #[.int .i64 x.u, .int .i64 x.ro, .int .i64 x.ty, .int .i64 x.lo.s, .int .u64 x.lo.c, .int .i64 x.hi.s, .int .u64 x.hi.c]) := Lib.hid (Blk.new w1 _ _)
  have HB2 : Hid (Below w.heap.size w (w1.alloc (.cells #[.int .i64 x.u, .int .i64 x.ro, .int .i64 x.ty, .int .i64 x.lo.s, .int .u64 x.lo.c, .int .i64 x.hi.s, .int .u64 x.hi.c] 34))) := Lib.hid (HB1.out.alloc HB1.out.size _)
  generalize w1.alloc (.cells #[.int .i64 x.u, .int .i64 x.ro, .int .i64 x.ty, .int .i64 x.lo.s, .int .u64 x.lo.c, .int .i64 x.hi.s, .int .u64 x.hi.c] 34) = W2 at *
  generalize w1.heap.size = gx at *
  go_wp2_with (go_at_call 43; (with_reducible refine (HS.out _).mono ?_); rintro e w3 ⟨rfl, hb3⟩; have HB3 := Lib.hid (HB2.out.trans (hb3.mono HB2.out.size)); have hx := (HX.out.keep hb3).cell; have x0 := hx 0; have x1 := hx 1; have x2 := hx 2; clear hb3 hx)
  go_ret
  exact ⟨rfl, HB3.out⟩
theorem rname_c (c : Ca) (n : Nat) (hn : n < 15) (w : World) : Calls Try.prog 38 #[.agg #[.int .i64 c.c1.u, .int .i64 c.c1.ro, .int .i64 c.c1.ty, .int .i64 c.c1.lo.s, .int .u64 c.c1.lo.c, .int .i64 c.c1.hi.s, .int .u64 c.c1.hi.c, .int .i64 c.c2.u, .int .i64 c.c2.ro, .int .i64 c.c2.ty, .int .i64 c.c2.lo.s, .int .u64 c.c2.lo.c, .int .i64 c.c2.hi.s, .int .u64 c.c2.hi.c, .int .i64 c.c3.u, .int .i64 c.c3.ro, .int .i64 c.c3.ty, .int .i64 c.c3.lo.s, .int .u64 c.c3.lo.c, .int .i64 c.c3.hi.s, .int .u64 c.c3.hi.c], .int .i64 n] w fun e w' => e = .returned (.int .i64 (nmX c n)) ∧ Below w.heap.size w w' := by
  by_cases h0 : sortA n = 0
  · exact rname_0 c n hn h0 w
  · by_cases h1 : sortA n = 1
    · exact rname_1 c n hn h1 w
    · exact rname_2 c n hn ⟨h0, h1⟩ w
set_option maxRecDepth 100000 in
set_option maxHeartbeats 4000000 in
theorem rlevel_0 (c : Ca) (n : Nat) (hn : n < 15) (hs : (n : Int).tmod 5 = 4) (w : World) : Calls Try.prog 61 #[.agg #[.int .i64 c.c1.u, .int .i64 c.c1.ro, .int .i64 c.c1.ty, .int .i64 c.c1.lo.s, .int .u64 c.c1.lo.c, .int .i64 c.c1.hi.s, .int .u64 c.c1.hi.c, .int .i64 c.c2.u, .int .i64 c.c2.ro, .int .i64 c.c2.ty, .int .i64 c.c2.lo.s, .int .u64 c.c2.lo.c, .int .i64 c.c2.hi.s, .int .u64 c.c2.hi.c, .int .i64 c.c3.u, .int .i64 c.c3.ro, .int .i64 c.c3.ty, .int .i64 c.c3.lo.s, .int .u64 c.c3.lo.c, .int .i64 c.c3.hi.s, .int .u64 c.c3.hi.c], .int .i64 n] w fun e w' => e = .returned (.agg #[.int .i64 (lvX c n).s, .int .u64 (lvX c n).c]) ∧ Below w.heap.size w w' := by
  unfold lvX
  rw [if_pos hs]
  have p1 : ((n : Int) % 5 == 4) = true := by
    rw [Int.tmod_eq_emod_of_nonneg (by omega)] at hs
    simp; omega
  have hw : IntKind.i64.wrap ((n : Int).tmod 5) = (n : Int).tmod 5 := IntWalk.i64_in _ (by have := tmod5 n; omega)
  have HO := Lib.hid (rctx_c c n hn)
  generalize ctxX c (n / 5) = x at *
  have HB : Hid (Below w.heap.size w ((w.alloc (.cells #[.int .i64 c.c1.u, .int .i64 c.c1.ro, .int .i64 c.c1.ty, .int .i64 c.c1.lo.s, .int .u64 c.c1.lo.c, .int .i64 c.c1.hi.s, .int .u64 c.c1.hi.c, .int .i64 c.c2.u, .int .i64 c.c2.ro, .int .i64 c.c2.ty, .int .i64 c.c2.lo.s, .int .u64 c.c2.lo.c, .int .i64 c.c2.hi.s, .int .u64 c.c2.hi.c, .int .i64 c.c3.u, .int .i64 c.c3.ro, .int .i64 c.c3.ty, .int .i64 c.c3.lo.s, .int .u64 c.c3.lo.c, .int .i64 c.c3.hi.s, .int .u64 c.c3.hi.c] 36)).alloc (.cells #[.int .i64 0, .int .u64 0] 30))) := Lib.hid (((Below.refl _ _).alloc (Nat.le_refl _) _).alloc (by simp) _)
  have HC : Hid (Blk ((w.alloc (.cells #[.int .i64 c.c1.u, .int .i64 c.c1.ro, .int .i64 c.c1.ty, .int .i64 c.c1.lo.s, .int .u64 c.c1.lo.c, .int .i64 c.c1.hi.s, .int .u64 c.c1.hi.c, .int .i64 c.c2.u, .int .i64 c.c2.ro, .int .i64 c.c2.ty, .int .i64 c.c2.lo.s, .int .u64 c.c2.lo.c, .int .i64 c.c2.hi.s, .int .u64 c.c2.hi.c, .int .i64 c.c3.u, .int .i64 c.c3.ro, .int .i64 c.c3.ty, .int .i64 c.c3.lo.s, .int .u64 c.c3.lo.c, .int .i64 c.c3.hi.s, .int .u64 c.c3.hi.c] 36)).alloc (.cells #[.int .i64 0, .int .u64 0] 30)) w.heap.size 36 #[.int .i64 c.c1.u, .int .i64 c.c1.ro, .int .i64 c.c1.ty, .int .i64 c.c1.lo.s, .int .u64 c.c1.lo.c, .int .i64 c.c1.hi.s, .int .u64 c.c1.hi.c, .int .i64 c.c2.u, .int .i64 c.c2.ro, .int .i64 c.c2.ty, .int .i64 c.c2.lo.s, .int .u64 c.c2.lo.c, .int .i64 c.c2.hi.s, .int .u64 c.c2.hi.c, .int .i64 c.c3.u, .int .i64 c.c3.ro, .int .i64 c.c3.ty, .int .i64 c.c3.lo.s, .int .u64 c.c3.lo.c, .int .i64 c.c3.hi.s, .int .u64 c.c3.hi.c]) := Lib.hid ((Blk.new w _ _).alloc _)
  have HR : Hid (Blk ((w.alloc (.cells #[.int .i64 c.c1.u, .int .i64 c.c1.ro, .int .i64 c.c1.ty, .int .i64 c.c1.lo.s, .int .u64 c.c1.lo.c, .int .i64 c.c1.hi.s, .int .u64 c.c1.hi.c, .int .i64 c.c2.u, .int .i64 c.c2.ro, .int .i64 c.c2.ty, .int .i64 c.c2.lo.s, .int .u64 c.c2.lo.c, .int .i64 c.c2.hi.s, .int .u64 c.c2.hi.c, .int .i64 c.c3.u, .int .i64 c.c3.ro, .int .i64 c.c3.ty, .int .i64 c.c3.lo.s, .int .u64 c.c3.lo.c, .int .i64 c.c3.hi.s, .int .u64 c.c3.hi.c] 36)).alloc (.cells #[.int .i64 0, .int .u64 0] 30)) (w.heap.size + 1) 30 #[.int .i64 0, .int .u64 0]) := Lib.hid (two_new' _ _ _ _)
  clear hn hs
  go_enter Try.func61, Try.ntmps61
  go_upto_region 1 with fail
  generalize (w.alloc (.cells #[.int .i64 c.c1.u, .int .i64 c.c1.ro, .int .i64 c.c1.ty, .int .i64 c.c1.lo.s, .int .u64 c.c1.lo.c, .int .i64 c.c1.hi.s, .int .u64 c.c1.hi.c, .int .i64 c.c2.u, .int .i64 c.c2.ro, .int .i64 c.c2.ty, .int .i64 c.c2.lo.s, .int .u64 c.c2.lo.c, .int .i64 c.c2.hi.s, .int .u64 c.c2.hi.c, .int .i64 c.c3.u, .int .i64 c.c3.ro, .int .i64 c.c3.ty, .int .i64 c.c3.lo.s, .int .u64 c.c3.lo.c, .int .i64 c.c3.hi.s, .int .u64 c.c3.hi.c] 36)).alloc (.cells #[.int .i64 0, .int .u64 0] 30) = W at *
  have HLE : Hid (w.heap.size ≤ W.heap.size) := Lib.hid HB.out.size
  have HS : Hid (w.heap.size ≤ w.heap.size + 1) := Lib.hid (Nat.le_succ _)
  generalize w.heap.size + 1 = gr at *
  generalize hgc : w.heap.size = gc at *
  go_wp2_with (first
    | (refine wpList_load (by rfl) _ rfl rfl (loadAt_case HC.out) ?_; simp only [Act.put, List.setIfInBounds_toArray, List.set_cons_succ, List.set_cons_zero])
    | (go_at_call 60; (with_reducible refine (HO.out _).mono ?_); rintro e w1 ⟨rfl, hb1⟩; have HB1 := Lib.hid (HB.out.trans (hb1.mono HLE.out)); have HR1 := Lib.hid (HR.out.keep hb1); have l0 := HR1.out.cell 0; have l1 := HR1.out.cell 1; have zl := HR1.out.frozen; clear hb1))
  exact bodyPost_ret (v := .agg #[.int .i64 x.hi.s, .int .u64 x.hi.c]) (lvl_ret Try.results61 rfl ((HR1.out.set 0 _).set 1 _)) rfl ⟨rfl, by first | exact below_set1 (below_set1 HB1.out HS.out 0 _) HS.out 1 _ | (rw [hgc]; exact below_set1 (below_set1 HB1.out HS.out 0 _) HS.out 1 _)⟩
set_option maxRecDepth 100000 in
set_option maxHeartbeats 4000000 in
theorem rlevel_1 (c : Ca) (n : Nat) (hn : n < 15) (hs : ¬ (n : Int).tmod 5 = 4) (w : World) : Calls Try.prog 61 #[.agg #[.int .i64 c.c1.u, .int .i64 c.c1.ro, .int .i64 c.c1.ty, .int .i64 c.c1.lo.s, .int .u64 c.c1.lo.c, .int .i64 c.c1.hi.s, .int .u64 c.c1.hi.c, .int .i64 c.c2.u, .int .i64 c.c2.ro, .int .i64 c.c2.ty, .int .i64 c.c2.lo.s, .int .u64 c.c2.lo.c, .int .i64 c.c2.hi.s, .int .u64 c.c2.hi.c, .int .i64 c.c3.u, .int .i64 c.c3.ro, .int .i64 c.c3.ty, .int .i64 c.c3.lo.s, .int .u64 c.c3.lo.c, .int .i64 c.c3.hi.s, .int .u64 c.c3.hi.c], .int .i64 n] w fun e w' => e = .returned (.agg #[.int .i64 (lvX c n).s, .int .u64 (lvX c n).c]) ∧ Below w.heap.size w w' := by
  unfold lvX
  rw [if_neg hs]
  have p1 : ((n : Int) % 5 == 4) = false := by
    rw [Int.tmod_eq_emod_of_nonneg (by omega)] at hs
    simp; omega
  have hw : IntKind.i64.wrap ((n : Int).tmod 5) = (n : Int).tmod 5 := IntWalk.i64_in _ (by have := tmod5 n; omega)
  have HO := Lib.hid (rctx_c c n hn)
  generalize ctxX c (n / 5) = x at *
  have HB : Hid (Below w.heap.size w ((w.alloc (.cells #[.int .i64 c.c1.u, .int .i64 c.c1.ro, .int .i64 c.c1.ty, .int .i64 c.c1.lo.s, .int .u64 c.c1.lo.c, .int .i64 c.c1.hi.s, .int .u64 c.c1.hi.c, .int .i64 c.c2.u, .int .i64 c.c2.ro, .int .i64 c.c2.ty, .int .i64 c.c2.lo.s, .int .u64 c.c2.lo.c, .int .i64 c.c2.hi.s, .int .u64 c.c2.hi.c, .int .i64 c.c3.u, .int .i64 c.c3.ro, .int .i64 c.c3.ty, .int .i64 c.c3.lo.s, .int .u64 c.c3.lo.c, .int .i64 c.c3.hi.s, .int .u64 c.c3.hi.c] 36)).alloc (.cells #[.int .i64 0, .int .u64 0] 30))) := Lib.hid (((Below.refl _ _).alloc (Nat.le_refl _) _).alloc (by simp) _)
  have HC : Hid (Blk ((w.alloc (.cells #[.int .i64 c.c1.u, .int .i64 c.c1.ro, .int .i64 c.c1.ty, .int .i64 c.c1.lo.s, .int .u64 c.c1.lo.c, .int .i64 c.c1.hi.s, .int .u64 c.c1.hi.c, .int .i64 c.c2.u, .int .i64 c.c2.ro, .int .i64 c.c2.ty, .int .i64 c.c2.lo.s, .int .u64 c.c2.lo.c, .int .i64 c.c2.hi.s, .int .u64 c.c2.hi.c, .int .i64 c.c3.u, .int .i64 c.c3.ro, .int .i64 c.c3.ty, .int .i64 c.c3.lo.s, .int .u64 c.c3.lo.c, .int .i64 c.c3.hi.s, .int .u64 c.c3.hi.c] 36)).alloc (.cells #[.int .i64 0, .int .u64 0] 30)) w.heap.size 36 #[.int .i64 c.c1.u, .int .i64 c.c1.ro, .int .i64 c.c1.ty, .int .i64 c.c1.lo.s, .int .u64 c.c1.lo.c, .int .i64 c.c1.hi.s, .int .u64 c.c1.hi.c, .int .i64 c.c2.u, .int .i64 c.c2.ro, .int .i64 c.c2.ty, .int .i64 c.c2.lo.s, .int .u64 c.c2.lo.c, .int .i64 c.c2.hi.s, .int .u64 c.c2.hi.c, .int .i64 c.c3.u, .int .i64 c.c3.ro, .int .i64 c.c3.ty, .int .i64 c.c3.lo.s, .int .u64 c.c3.lo.c, .int .i64 c.c3.hi.s, .int .u64 c.c3.hi.c]) := Lib.hid ((Blk.new w _ _).alloc _)
  have HR : Hid (Blk ((w.alloc (.cells #[.int .i64 c.c1.u, .int .i64 c.c1.ro, .int .i64 c.c1.ty, .int .i64 c.c1.lo.s, .int .u64 c.c1.lo.c, .int .i64 c.c1.hi.s, .int .u64 c.c1.hi.c, .int .i64 c.c2.u, .int .i64 c.c2.ro, .int .i64 c.c2.ty, .int .i64 c.c2.lo.s, .int .u64 c.c2.lo.c, .int .i64 c.c2.hi.s, .int .u64 c.c2.hi.c, .int .i64 c.c3.u, .int .i64 c.c3.ro, .int .i64 c.c3.ty, .int .i64 c.c3.lo.s, .int .u64 c.c3.lo.c, .int .i64 c.c3.hi.s, .int .u64 c.c3.hi.c] 36)).alloc (.cells #[.int .i64 0, .int .u64 0] 30)) (w.heap.size + 1) 30 #[.int .i64 0, .int .u64 0]) := Lib.hid (two_new' _ _ _ _)
  clear hn hs
  go_enter Try.func61, Try.ntmps61
  go_upto_region 1 with fail
  generalize (w.alloc (.cells #[.int .i64 c.c1.u, .int .i64 c.c1.ro, .int .i64 c.c1.ty, .int .i64 c.c1.lo.s, .int .u64 c.c1.lo.c, .int .i64 c.c1.hi.s, .int .u64 c.c1.hi.c, .int .i64 c.c2.u, .int .i64 c.c2.ro, .int .i64 c.c2.ty, .int .i64 c.c2.lo.s, .int .u64 c.c2.lo.c, .int .i64 c.c2.hi.s, .int .u64 c.c2.hi.c, .int .i64 c.c3.u, .int .i64 c.c3.ro, .int .i64 c.c3.ty, .int .i64 c.c3.lo.s, .int .u64 c.c3.lo.c, .int .i64 c.c3.hi.s, .int .u64 c.c3.hi.c] 36)).alloc (.cells #[.int .i64 0, .int .u64 0] 30) = W at *
  have HLE : Hid (w.heap.size ≤ W.heap.size) := Lib.hid HB.out.size
  have HS : Hid (w.heap.size ≤ w.heap.size + 1) := Lib.hid (Nat.le_succ _)
  generalize w.heap.size + 1 = gr at *
  generalize hgc : w.heap.size = gc at *
  go_wp2_with (first
    | (refine wpList_load (by rfl) _ rfl rfl (loadAt_case HC.out) ?_; simp only [Act.put, List.setIfInBounds_toArray, List.set_cons_succ, List.set_cons_zero])
    | (go_at_call 60; (with_reducible refine (HO.out _).mono ?_); rintro e w1 ⟨rfl, hb1⟩; have HB1 := Lib.hid (HB.out.trans (hb1.mono HLE.out)); have HR1 := Lib.hid (HR.out.keep hb1); have l0 := HR1.out.cell 0; have l1 := HR1.out.cell 1; have zl := HR1.out.frozen; clear hb1))
  exact bodyPost_ret (v := .agg #[.int .i64 x.lo.s, .int .u64 x.lo.c]) (lvl_ret Try.results61 rfl ((HR1.out.set 0 _).set 1 _)) rfl ⟨rfl, by first | exact below_set1 (below_set1 HB1.out HS.out 0 _) HS.out 1 _ | (rw [hgc]; exact below_set1 (below_set1 HB1.out HS.out 0 _) HS.out 1 _)⟩
theorem rlevel_c (c : Ca) (n : Nat) (hn : n < 15) (w : World) : Calls Try.prog 61 #[.agg #[.int .i64 c.c1.u, .int .i64 c.c1.ro, .int .i64 c.c1.ty, .int .i64 c.c1.lo.s, .int .u64 c.c1.lo.c, .int .i64 c.c1.hi.s, .int .u64 c.c1.hi.c, .int .i64 c.c2.u, .int .i64 c.c2.ro, .int .i64 c.c2.ty, .int .i64 c.c2.lo.s, .int .u64 c.c2.lo.c, .int .i64 c.c2.hi.s, .int .u64 c.c2.hi.c, .int .i64 c.c3.u, .int .i64 c.c3.ro, .int .i64 c.c3.ty, .int .i64 c.c3.lo.s, .int .u64 c.c3.lo.c, .int .i64 c.c3.hi.s, .int .u64 c.c3.hi.c], .int .i64 n] w fun e w' => e = .returned (.agg #[.int .i64 (lvX c n).s, .int .u64 (lvX c n).c]) ∧ Below w.heap.size w w' := by
  by_cases h0 : (n : Int).tmod 5 = 4
  · exact rlevel_0 c n hn h0 w
  · exact rlevel_1 c n hn h0 w
end Go.Proofs.Ytamcfmfkmekkfaa
