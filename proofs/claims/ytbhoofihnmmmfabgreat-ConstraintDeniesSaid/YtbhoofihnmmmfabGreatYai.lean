/- Part of the proof: Crr Cxk Cxl. No conditions. -/
import Derived.Test.YtbhoofihnmmmfabGreatYah
namespace Go.Proofs.YtbhoofihnmmmfabGreat
open Go.RowKit
set_option maxRecDepth 100000 in
set_option maxHeartbeats 16000000 in
theorem read_g (c : Ca) (gc n : Nat) (hn : n < 15) (w : World) (hC : Blk w gc 48 #[.int .i64 c.c1.u, .int .i64 c.c1.ro, .int .i64 c.c1.ty, .int .i64 c.c1.lo.s, .int .u64 c.c1.lo.c, .int .i64 c.c1.hi.s, .int .u64 c.c1.hi.c, .int .i64 c.c2.u, .int .i64 c.c2.ro, .int .i64 c.c2.ty, .int .i64 c.c2.lo.s, .int .u64 c.c2.lo.c, .int .i64 c.c2.hi.s, .int .u64 c.c2.hi.c, .int .i64 c.c3.u, .int .i64 c.c3.ro, .int .i64 c.c3.ty, .int .i64 c.c3.lo.s, .int .u64 c.c3.lo.c, .int .i64 c.c3.hi.s, .int .u64 c.c3.hi.c]) : Calls Tryz.prog 72 #[.pointer (some ⟨gc, 0, none⟩), .int .i64 n] w fun e w' => e = .returned (.agg #[.int .i64 (rdX c n).s, .int .u64 (rdX c n).c]) ∧ Below w.heap.size w w' := by
 obtain ⟨q, hq⟩ : ∃ q, n / 5 = q := ⟨_, rfl⟩
 have hq3 : q < 3 := by omega
 have HQ1 : Hid (Int.tdiv (n : Int) 5 = (q : Int)) := Lib.hid (by rw [Int.tdiv_eq_ediv_of_nonneg (by omega)]; omega)
 have HQ2 : Hid ((n : Int) / 5 = (q : Int)) := Lib.hid (by omega)
 have HQ3 := Lib.hid hq3
 have e : (n : Int).tmod 5 = (n : Int) % 5 := Int.tmod_eq_emod_of_nonneg (by omega)
 have h : (n : Int) % 5 = 0 ∨ (n : Int) % 5 = 1 ∨ (n : Int) % 5 = 2 ∨ (n : Int) % 5 = 3 ∨ (n : Int) % 5 = 4 := by omega
 rcases h with h | h | h | h | h
 case' inl =>
  have hk := e.trans h
  have HA := Lib.hid (attributeOf_0 n hk)
  have HD := Lib.hid (rd_user (ctxX c q))
  have HM : Hid (∀ u : World, (method 311 180 (.agg #[]) "accesscontrol/constraint.read").run Tryz.prog u = .ok (150, .agg #[]) u) := Lib.hid (fun _ => by kernel_rfl)
  have HR : Hid (rdX c n = num (ctxX c q).u) := Lib.hid (by unfold rdX; rw [hk, hq]; rfl)
  clear hn hk hq hq3 e h
 case' inr.inl =>
  have hk := e.trans h
  have HA := Lib.hid (attributeOf_1 n hk)
  have HD := Lib.hid (rd_role (ctxX c q))
  have HM : Hid (∀ u : World, (method 311 181 (.agg #[]) "accesscontrol/constraint.read").run Tryz.prog u = .ok (151, .agg #[]) u) := Lib.hid (fun _ => by kernel_rfl)
  have HR : Hid (rdX c n = num (ctxX c q).ro) := Lib.hid (by unfold rdX; rw [hk, hq]; rfl)
  clear hn hk hq hq3 e h
 case' inr.inr.inl =>
  have hk := e.trans h
  have HA := Lib.hid (attributeOf_2 n hk)
  have HD := Lib.hid (rd_typeOf (ctxX c q))
  have HM : Hid (∀ u : World, (method 311 182 (.agg #[]) "accesscontrol/constraint.read").run Tryz.prog u = .ok (152, .agg #[]) u) := Lib.hid (fun _ => by kernel_rfl)
  have HR : Hid (rdX c n = num (ctxX c q).ty) := Lib.hid (by unfold rdX; rw [hk, hq]; rfl)
  clear hn hk hq hq3 e h
 case' inr.inr.inr.inl =>
  have hk := e.trans h
  have HA := Lib.hid (attributeOf_3 n hk)
  have HD := Lib.hid (rd_lowLevel (ctxX c q))
  have HM : Hid (∀ u : World, (method 311 183 (.agg #[]) "accesscontrol/constraint.read").run Tryz.prog u = .ok (153, .agg #[]) u) := Lib.hid (fun _ => by kernel_rfl)
  have HR : Hid (rdX c n = (ctxX c q).lo) := Lib.hid (by unfold rdX; rw [hk, hq]; rfl)
  clear hn hk hq hq3 e h
 case' inr.inr.inr.inr =>
  have hk := e.trans h
  have HA := Lib.hid (attributeOf_4 n hk)
  have HD := Lib.hid (rd_highLevel (ctxX c q))
  have HM : Hid (∀ u : World, (method 311 184 (.agg #[]) "accesscontrol/constraint.read").run Tryz.prog u = .ok (154, .agg #[]) u) := Lib.hid (fun _ => by kernel_rfl)
  have HR : Hid (rdX c n = (ctxX c q).hi) := Lib.hid (by unfold rdX; rw [hk, hq]; rfl)
  clear hn hk hq hq3 e h
 all_goals (have HB0 : Hid (Below w.heap.size w (w.alloc (.cells #[.int .i64 0, .int .u64 0] 42))) := Lib.hid ((Below.refl _ _).alloc (Nat.le_refl _) _)
            have HL0 : Hid (Blk (w.alloc (.cells #[.int .i64 0, .int .u64 0] 42)) w.heap.size 42 #[.int .i64 0, .int .u64 0]) := Lib.hid (Blk.new w _ _)
            have HC := Lib.hid (hC.alloc (.cells #[.int .i64 0, .int .u64 0] 42))
            clear hC
            go_enter Tryz.func72, Tryz.ntmps72
            go_upto_region 1 with fail
            generalize w.alloc (.cells #[.int .i64 0, .int .u64 0] 42) = W at *
            generalize hgl : w.heap.size = gl at *
            refine wp_region_phit 14 (rdPhi gc c W) (by kernel_rfl) (by decide) (by kernel_rfl) (by kernel_rfl) (by kernel_rfl) (fun k v u u2 h hb => rdPhi_keep h hb) ?_ ?_
            · refine ⟨⟨trivial, fun A u hK hF => ?_⟩, ⟨trivial, fun A u hK hF => ?_⟩, ⟨trivial, fun A u hK hF => ?_⟩, ⟨trivial, fun A u hK hF => ?_⟩, ⟨trivial, fun A u hK hF => ?_⟩, ⟨trivial, fun A u hK hF => ?_⟩, ⟨trivial, fun A u hK hF => ?_⟩, ⟨trivial, fun A u hK hF => ?_⟩, ⟨trivial, fun A u hK hF => ?_⟩, ⟨trivial, fun A u hK hF => ?_⟩, ⟨trivial, fun A u hK hF => ?_⟩, ⟨trivial, fun A u hK hF => ?_⟩, ⟨trivial, fun A u hK hF => ?_⟩, ⟨trivial, fun A u hK hF => ?_⟩, trivial⟩
              · have f0 : A.tmps[0]?.getD undef = .pointer (some ⟨gc, 0, none⟩) := fact_none (hF 0) (by kernel_rfl)
                unfold Gives
                go_simp
                exact gives_val (Below.refl _ _) rfl
              · have f6 : A.tmps[6]?.getD undef = .pointer (some ⟨gc, 0, none⟩) := fact_some (hF 6) (j := 0) (by kernel_rfl) (by kernel_rfl)
                unfold Gives
                go_simp
                exact gives_val (Below.refl _ _) rfl
              · have f7 : A.tmps[7]?.getD undef = .pointer (some ⟨gc, 0, none⟩) := fact_some (hF 7) (j := 1) (by kernel_rfl) (by kernel_rfl)
                unfold Gives
                go_simp
                exact gives_val (Below.refl _ _) rfl
              · have f8 : A.tmps[8]?.getD undef = .pointer (some ⟨gc, 0, none⟩) := fact_some (hF 8) (j := 2) (by kernel_rfl) (by kernel_rfl)
                have hc := (Blk.keep HC.out hK).cell
                have k0 := hc 0
                have k1 := hc 1
                have k2 := hc 2
                have k3 := hc 3
                have k4 := hc 4
                have k5 := hc 5
                have k6 := hc 6
                clear hc
                unfold Gives
                go_simp
                exact gives_val (Below.refl _ _) rfl
              · have f0 : A.tmps[0]?.getD undef = .pointer (some ⟨gc, 0, none⟩) := fact_none (hF 0) (by kernel_rfl)
                unfold Gives
                go_simp
                exact gives_val (Below.refl _ _) rfl
              · have f10 : A.tmps[10]?.getD undef = .pointer (some ⟨gc, 0, none⟩) := fact_some (hF 10) (j := 4) (by kernel_rfl) (by kernel_rfl)
                unfold Gives
                go_simp
                exact gives_val (Below.refl _ _) rfl
              · have f11 : A.tmps[11]?.getD undef = .pointer (some ⟨gc, 0, none⟩) := fact_some (hF 11) (j := 5) (by kernel_rfl) (by kernel_rfl)
                unfold Gives
                go_simp
                exact gives_val (Below.refl _ _) rfl
              · have f12 : A.tmps[12]?.getD undef = .pointer (some ⟨gc, 7, none⟩) := fact_some (hF 12) (j := 6) (by kernel_rfl) (by kernel_rfl)
                have hc := (Blk.keep HC.out hK).cell
                have k0 := hc 7
                have k1 := hc 8
                have k2 := hc 9
                have k3 := hc 10
                have k4 := hc 11
                have k5 := hc 12
                have k6 := hc 13
                clear hc
                unfold Gives
                go_simp
                exact gives_val (Below.refl _ _) rfl
              · have f0 : A.tmps[0]?.getD undef = .pointer (some ⟨gc, 0, none⟩) := fact_none (hF 0) (by kernel_rfl)
                unfold Gives
                go_simp
                exact gives_val (Below.refl _ _) rfl
              · have f14 : A.tmps[14]?.getD undef = .pointer (some ⟨gc, 0, none⟩) := fact_some (hF 14) (j := 8) (by kernel_rfl) (by kernel_rfl)
                unfold Gives
                go_simp
                exact gives_val (Below.refl _ _) rfl
              · have f15 : A.tmps[15]?.getD undef = .pointer (some ⟨gc, 0, none⟩) := fact_some (hF 15) (j := 9) (by kernel_rfl) (by kernel_rfl)
                unfold Gives
                go_simp
                exact gives_val (Below.refl _ _) rfl
              · have f16 : A.tmps[16]?.getD undef = .pointer (some ⟨gc, 14, none⟩) := fact_some (hF 16) (j := 10) (by kernel_rfl) (by kernel_rfl)
                have hc := (Blk.keep HC.out hK).cell
                have k0 := hc 14
                have k1 := hc 15
                have k2 := hc 16
                have k3 := hc 17
                have k4 := hc 18
                have k5 := hc 19
                have k6 := hc 20
                clear hc
                unfold Gives
                go_simp
                exact gives_val (Below.refl _ _) rfl
              · have f9 : A.tmps[9]?.getD undef = .agg #[.int .i64 c.c1.u, .int .i64 c.c1.ro, .int .i64 c.c1.ty, .int .i64 c.c1.lo.s, .int .u64 c.c1.lo.c, .int .i64 c.c1.hi.s, .int .u64 c.c1.hi.c] := fact_some (hF 9) (j := 3) (by kernel_rfl) (by kernel_rfl)
                have f13 : A.tmps[13]?.getD undef = .agg #[.int .i64 c.c2.u, .int .i64 c.c2.ro, .int .i64 c.c2.ty, .int .i64 c.c2.lo.s, .int .u64 c.c2.lo.c, .int .i64 c.c2.hi.s, .int .u64 c.c2.hi.c] := fact_some (hF 13) (j := 7) (by kernel_rfl) (by kernel_rfl)
                have f17 : A.tmps[17]?.getD undef = .agg #[.int .i64 c.c3.u, .int .i64 c.c3.ro, .int .i64 c.c3.ty, .int .i64 c.c3.lo.s, .int .u64 c.c3.lo.c, .int .i64 c.c3.hi.s, .int .u64 c.c3.hi.c] := fact_some (hF 17) (j := 11) (by kernel_rfl) (by kernel_rfl)
                unfold Gives
                go_simp
                exact gives_val (Below.refl _ _) rfl
              · unfold Gives
                go_simp
                exact gives_val ((Below.refl _ _).alloc (Nat.le_refl _) _) ⟨_, rfl, hK.size, Blk.new _ _ _⟩
            intro a0 W2 hC hsz hdf hF
            have ha := end_mask [false, false, false, false, false, true, true, true, true, true, true, true, true, true, true, true, true, true, true, false, false, false, false, false, false, false, false, false, false] hsz hdf hF (by kernel_rfl)
            have f18 : a0.tmps[18]?.getD undef = .agg #[.int .i64 c.c1.u, .int .i64 c.c1.ro, .int .i64 c.c1.ty, .int .i64 c.c1.lo.s, .int .u64 c.c1.lo.c, .int .i64 c.c1.hi.s, .int .u64 c.c1.hi.c, .int .i64 c.c2.u, .int .i64 c.c2.ro, .int .i64 c.c2.ty, .int .i64 c.c2.lo.s, .int .u64 c.c2.lo.c, .int .i64 c.c2.hi.s, .int .u64 c.c2.hi.c, .int .i64 c.c3.u, .int .i64 c.c3.ro, .int .i64 c.c3.ty, .int .i64 c.c3.lo.s, .int .u64 c.c3.lo.c, .int .i64 c.c3.hi.s, .int .u64 c.c3.hi.c] := fact_end (hF 18) (j := 12) (by kernel_rfl)
            obtain ⟨g5, f5, hg5, hb5⟩ : ∃ g, a0.tmps[5]?.getD undef = .pointer (some ⟨g, 0, none⟩) ∧ W.heap.size ≤ g ∧ Blk W2 g 163 #[.int .i64 0, .int .i64 0, .int .i64 0, .int .i64 0, .int .u64 0, .int .i64 0, .int .u64 0, .int .i64 0, .int .i64 0, .int .i64 0, .int .i64 0, .int .u64 0, .int .i64 0, .int .u64 0, .int .i64 0, .int .i64 0, .int .i64 0, .int .i64 0, .int .u64 0, .int .i64 0, .int .u64 0] := fact_end (hF 5) (j := 13) (by kernel_rfl)
            rw [ha]
            clear ha hF
            simp only [cutM_yes, cutM_no, cutM_nil, Nat.reduceAdd]
            rw [f18, f5]
            clear f18 f5
            generalize a0.tmps[6]?.getD undef = s6
            generalize a0.tmps[7]?.getD undef = s7
            generalize a0.tmps[8]?.getD undef = s8
            generalize a0.tmps[9]?.getD undef = s9
            generalize a0.tmps[10]?.getD undef = s10
            generalize a0.tmps[11]?.getD undef = s11
            generalize a0.tmps[12]?.getD undef = s12
            generalize a0.tmps[13]?.getD undef = s13
            generalize a0.tmps[14]?.getD undef = s14
            generalize a0.tmps[15]?.getD undef = s15
            generalize a0.tmps[16]?.getD undef = s16
            generalize a0.tmps[17]?.getD undef = s17
            clear hsz hdf
            have HG5 : Hid (W.heap.size ≤ g5) := Lib.hid hg5
            have HGL : Hid (gl < W.heap.size) := Lib.hid HL0.out.lt
            have HC2 : Hid (Below W.heap.size W W2) := Lib.hid hC
            refine wpList_store_row (by rfl) _ _ rfl rfl (by rfl) [.int .i64 c.c1.u, .int .i64 c.c1.ro, .int .i64 c.c1.ty, .int .i64 c.c1.lo.s, .int .u64 c.c1.lo.c, .int .i64 c.c1.hi.s, .int .u64 c.c1.hi.c, .int .i64 c.c2.u, .int .i64 c.c2.ro, .int .i64 c.c2.ty, .int .i64 c.c2.lo.s, .int .u64 c.c2.lo.c, .int .i64 c.c2.hi.s, .int .u64 c.c2.hi.c, .int .i64 c.c3.u, .int .i64 c.c3.ro, .int .i64 c.c3.ty, .int .i64 c.c3.lo.s, .int .u64 c.c3.lo.c, .int .i64 c.c3.hi.s, .int .u64 c.c3.hi.c] (.agg #[.int .i64 c.c1.u, .int .i64 c.c1.ro, .int .i64 c.c1.ty, .int .i64 c.c1.lo.s, .int .u64 c.c1.lo.c, .int .i64 c.c1.hi.s, .int .u64 c.c1.hi.c, .int .i64 c.c2.u, .int .i64 c.c2.ro, .int .i64 c.c2.ty, .int .i64 c.c2.lo.s, .int .u64 c.c2.lo.c, .int .i64 c.c2.hi.s, .int .u64 c.c2.hi.c, .int .i64 c.c3.u, .int .i64 c.c3.ro, .int .i64 c.c3.ty, .int .i64 c.c3.lo.s, .int .u64 c.c3.lo.c, .int .i64 c.c3.hi.s, .int .u64 c.c3.hi.c]) (by rfl) rfl (size_case _) hb5 rfl (by intro x hx; simp only [List.mem_cons, List.not_mem_nil, or_false] at hx; rcases hx with rfl | rfl | rfl | rfl | rfl | rfl | rfl | rfl | rfl | rfl | rfl | rfl | rfl | rfl | rfl | rfl | rfl | rfl | rfl | rfl | rfl <;> rfl) ?_
            obtain ⟨W3, ZW3⟩ : ∃ v, Hid ((W2.setRow g5 [.int .i64 c.c1.u, .int .i64 c.c1.ro, .int .i64 c.c1.ty, .int .i64 c.c1.lo.s, .int .u64 c.c1.lo.c, .int .i64 c.c1.hi.s, .int .u64 c.c1.hi.c, .int .i64 c.c2.u, .int .i64 c.c2.ro, .int .i64 c.c2.ty, .int .i64 c.c2.lo.s, .int .u64 c.c2.lo.c, .int .i64 c.c2.hi.s, .int .u64 c.c2.hi.c, .int .i64 c.c3.u, .int .i64 c.c3.ro, .int .i64 c.c3.ty, .int .i64 c.c3.lo.s, .int .u64 c.c3.lo.c, .int .i64 c.c3.hi.s, .int .u64 c.c3.hi.c].toArray) = v) := ⟨_, Lib.hid rfl⟩
            have HB5 : Hid (Blk W3 g5 163 #[.int .i64 c.c1.u, .int .i64 c.c1.ro, .int .i64 c.c1.ty, .int .i64 c.c1.lo.s, .int .u64 c.c1.lo.c, .int .i64 c.c1.hi.s, .int .u64 c.c1.hi.c, .int .i64 c.c2.u, .int .i64 c.c2.ro, .int .i64 c.c2.ty, .int .i64 c.c2.lo.s, .int .u64 c.c2.lo.c, .int .i64 c.c2.hi.s, .int .u64 c.c2.hi.c, .int .i64 c.c3.u, .int .i64 c.c3.ro, .int .i64 c.c3.ty, .int .i64 c.c3.lo.s, .int .u64 c.c3.lo.c, .int .i64 c.c3.hi.s, .int .u64 c.c3.hi.c]) := by cases ZW3.out; exact Lib.hid (hb5.row _)
            have HBW : Hid (Below W.heap.size W W3) := by cases ZW3.out; exact Lib.hid (below_row hC hg5 _)
            rw [ZW3.out]
            clear hC hb5 hg5 HC2
            go_upto_region 2 with fail
            have HL3 : Hid (Blk W3 gl 42 #[.int .i64 0, .int .u64 0]) := Lib.hid (HL0.out.keep HBW.out)
            have HB3 : Hid (Below gl w W3) := Lib.hid (HB0.out.trans (HBW.out.mono (by have := HGL.out; omega)))
            have hq1 := HQ1.out
            have hq2 := HQ2.out
            have hq3 : (q : Int) < 3 := by have := HQ3.out; omega
            have hm := HM.out
            refine wp_region_kt 10 (by kernel_rfl) (by kernel_rfl) ?_
            simp only [List.take_succ_cons, List.take_zero, List.drop_succ_cons, List.drop_zero]
            repeat (first
             | go_big_quiet_skip
             | (go_big_quiet_want
                go_big_quiet_op
                first
                 | go_big_quiet_on
                 | (apply Exists.intro
                    refine ⟨fun w1 hC => ?_, ?_⟩
                    · first
                       | (go_at_call 99; with_reducible exact hC.call (HA.out _))
                       | (with_reducible exact hC.call (HD.out _))
                       | (go_simp; exact ⟨rfl, rfl⟩)
                       | (obtain ⟨d0, d1, d2, d3, d4, d5, d6⟩ := case_cells (Blk.keep HB5.out hC) HQ3.out; go_simp; exact rfl)
                    go_big_quiet_on)))
            refine wpQuiet_nil ?_
            intro W4 hC
            have HB4 : Hid (Below gl w W4) := Lib.hid (HB3.out.trans (hC.mono (by have := HL3.out.lt; omega)))
            have HL4 : Hid (Blk W4 gl 42 #[.int .i64 0, .int .u64 0]) := Lib.hid (hC.blk HL3.out)
            have l0 := HL4.out.cell 0
            have l1 := HL4.out.cell 1
            have zl := HL4.out.frozen
            clear hC
            go_wp2_with fail
            exact bodyPost_ret (v := .agg #[.int .i64 (rdX c n).s, .int .u64 (rdX c n).c]) (lvl_ret Tryz.results72 rfl (by rw [HR.out]; exact (HL4.out.set 0 _).set 1 _)) rfl ⟨rfl, by first | exact below_set1 (below_set1 HB4.out (Nat.le_refl _) 0 _) (Nat.le_refl _) 1 _ | (rw [hgl]; exact below_set1 (below_set1 HB4.out (Nat.le_refl _) 0 _) (Nat.le_refl _) 1 _)⟩)
open Go.RowKit
theorem read_c (c : Ca) (gc n : Nat) (hn : n < 15) (w : World) (hC : Blk w gc 48 #[.int .i64 c.c1.u, .int .i64 c.c1.ro, .int .i64 c.c1.ty, .int .i64 c.c1.lo.s, .int .u64 c.c1.lo.c, .int .i64 c.c1.hi.s, .int .u64 c.c1.hi.c, .int .i64 c.c2.u, .int .i64 c.c2.ro, .int .i64 c.c2.ty, .int .i64 c.c2.lo.s, .int .u64 c.c2.lo.c, .int .i64 c.c2.hi.s, .int .u64 c.c2.hi.c, .int .i64 c.c3.u, .int .i64 c.c3.ro, .int .i64 c.c3.ty, .int .i64 c.c3.lo.s, .int .u64 c.c3.lo.c, .int .i64 c.c3.hi.s, .int .u64 c.c3.hi.c]) : Calls Tryz.prog 72 #[.pointer (some ⟨gc, 0, none⟩), .int .i64 n] w fun e w' => e = .returned (.agg #[.int .i64 (rdX c n).s, .int .u64 (rdX c n).c]) ∧ Below w.heap.size w w' := by
 exact read_g c gc n hn w hC
def okN (x : X) : Prop := (x.op = 2 ∧ x.ks.length = 1) ∨ ((x.op = 3 ∨ x.op = 4) ∧ x.ks.length = 2) ∨ (x.op = 8 ∧ (0 ≤ x.a ∧ x.a < 15) ∧ (0 ≤ x.b ∧ x.b < 15)) ∨ (x.op = 9 ∧ 0 ≤ x.a ∧ x.a < 15)
def okV : Nat → X → Prop
 | 0, _ => False
 | n + 1, x => okN x ∧ ∀ k ∈ x.ks, okV n k
def kidX (x : X) (i : Nat) : X := x.ks.getD i (.mk 0 0 0 0 [] S4.zero [])
def valX (c : Ca) : Nat → X → Bool
 | 0, _ => false
 | n + 1, x => if x.op = 2 then !valX c n (kidX x 0) else if x.op = 3 then valX c n (kidX x 0) && valX c n (kidX x 1) else if x.op = 4 then valX c n (kidX x 0) || valX c n (kidX x 1) else if x.op = 9 then hasS x.st (rdX c x.a.toNat).s else relX (rdX c x.a.toNat) x.r (rdX c x.b.toNat)
theorem kid_at {x : X} {i : Nat} (h : i < x.ks.length) : kidX x i = x.ks[i] := by
 unfold kidX
 rw [List.getD_eq_getElem?_getD, List.getElem?_eq_getElem h]; rfl
set_option maxRecDepth 100000 in
set_option maxHeartbeats 32000000 in
theorem value_c (c : Ca) (gc : Nat) : ∀ (n : Nat) (x : X) (g o : Nat) (w : World), okV n x → XAt w g o x → g < w.heap.size → Blk w gc 48 #[.int .i64 c.c1.u, .int .i64 c.c1.ro, .int .i64 c.c1.ty, .int .i64 c.c1.lo.s, .int .u64 c.c1.lo.c, .int .i64 c.c1.hi.s, .int .u64 c.c1.hi.c, .int .i64 c.c2.u, .int .i64 c.c2.ro, .int .i64 c.c2.ty, .int .i64 c.c2.lo.s, .int .u64 c.c2.lo.c, .int .i64 c.c2.hi.s, .int .u64 c.c2.hi.c, .int .i64 c.c3.u, .int .i64 c.c3.ro, .int .i64 c.c3.ty, .int .i64 c.c3.lo.s, .int .u64 c.c3.lo.c, .int .i64 c.c3.hi.s, .int .u64 c.c3.hi.c] →
 Calls Tryz.prog 41 #[.pointer (some ⟨g, o, none⟩), .pointer (some ⟨gc, 0, none⟩)] w fun e w' => e = .returned (.bool (valX c n x)) ∧ Below w.heap.size w w' := by
 intro n
 induction n with
 | zero => intro x g o w h; exact absurd h (by unfold okV; exact id)
 | succ n ih =>
   intro x g o w hok hX hg hc
   obtain ⟨hn, hks⟩ := hok
   have HIH := Lib.hid ih
   have HKS := Lib.hid hks
   have HC := Lib.hid hc
   have HG := Lib.hid hg
   obtain ⟨ao, cap, ak, ck, hxc, hk, -⟩ := hX.xc
   have HXC := Lib.hid hxc
   have HK := Lib.hid hk
   have hu : valX c (n + 1) x = if x.op = 2 then !valX c n (kidX x 0) else if x.op = 3 then valX c n (kidX x 0) && valX c n (kidX x 1) else if x.op = 4 then valX c n (kidX x 0) || valX c n (kidX x 1) else if x.op = 9 then hasS x.st (rdX c x.a.toNat).s else relX (rdX c x.a.toNat) x.r (rdX c x.b.toNat) := rfl
   rw [hu]
   have HKID : Hid (∀ (i : Nat) (hi : i < x.ks.length), ∃ g' o', ak = some ⟨g', o', none⟩ ∧ g' < w.heap.size ∧ ∀ W, Below w.heap.size w W → Calls Tryz.prog 41 #[.pointer (some ⟨g', o' + i * 10, none⟩), .pointer (some ⟨gc, 0, none⟩)] W fun e w' => e = .returned (.bool (valX c n (kidX x i))) ∧ Below W.heap.size W w') := Lib.hid fun i hi => by
    obtain ⟨g', o', hak, hg', hR⟩ := HK.out.row hi
    refine ⟨g', o', hak, hg', fun W hW => ?_⟩
    rw [kid_at hi]
    exact HIH.out _ _ _ W (HKS.out _ (List.getElem_mem hi)) ((hR i hi).keep hW hg') (Nat.lt_of_lt_of_le hg' hW.size) (HC.out.keep hW)
   have HS := Lib.hid hX.w
   clear ih hks hc hg hX hk hu
   rcases hn with ⟨hop, hlen⟩ | ⟨hop, hlen⟩ | ⟨hop, ha, hb⟩ | ⟨hop, ha1, ha2⟩
   · have p2 : (x.op == 2) = true := by rw [hop]; rfl
     have p3 : (x.op == 3) = false := by rw [hop]; rfl
     have p4 : (x.op == 4) = false := by rw [hop]; rfl
     have p9 : (x.op == 9) = false := by rw [hop]; rfl
     rw [if_pos hop]
     obtain ⟨g0, o0, hak, hg0, HV0⟩ := HKID.out 0 (by omega)
     subst hak
     rw [Nat.zero_mul, Nat.add_zero] at HV0
     have HW0 := Lib.hid HV0
     have hl1 : (x.ks.length : Int) = 1 := by omega
     have HL := Lib.hid hlen
     obtain ⟨v0, hv0⟩ : ∃ v, valX c n (kidX x 0) = v := ⟨_, rfl⟩
     rw [hv0] at HW0 ⊢
     have hxc := HXC.out
     rw [hlen] at hxc
     obtain ⟨x0, x1, x2, x3, x4, x5, x6, x7, x8, x9⟩ := hxc.cells
     have HXL := Lib.hid hxc
     clear hg0 HV0 hv0 hl1 hlen hop hxc
     go_enter Tryz.func41, Tryz.ntmps41
     go_wp2_with (go_at_call 41; (with_reducible refine (HW0.out _ (Below.refl _ _)).mono ?_); rintro e w1 ⟨rfl, hb1⟩; have HB1 := Lib.hid (hb1); obtain ⟨y0, y1, y2, y3, y4, y5, y6, y7, y8, y9⟩ := (HXL.out.keep (hb1.block g HG.out)).cells; clear hb1)
     go_ret
     exact ⟨rfl, HB1.out⟩
   · rcases hop with hop | hop
     · have p2 : (x.op == 2) = false := by rw [hop]; rfl
       have p3 : (x.op == 3) = true := by rw [hop]; rfl
       have p4 : (x.op == 4) = false := by rw [hop]; rfl
       have p9 : (x.op == 9) = false := by rw [hop]; rfl
       rw [if_neg (by omega), if_pos hop]
       obtain ⟨g0, o0, hak, hg0, HV0⟩ := HKID.out 0 (by omega)
       obtain ⟨g1, o1, hak1, hg1, HV1⟩ := HKID.out 1 (by omega)
       rw [hak] at hak1
       obtain ⟨rfl, rfl⟩ : g0 = g1 ∧ o0 = o1 := by simpa using hak1
       subst hak
       rw [Nat.zero_mul, Nat.add_zero] at HV0
       have HW0 := Lib.hid HV0
       rw [Nat.one_mul] at HV1
       have HW1 := Lib.hid HV1
       have hl2 : (x.ks.length : Int) = 2 := by omega
       have HL := Lib.hid hlen
       obtain ⟨v0, hv0⟩ : ∃ v, valX c n (kidX x 0) = v := ⟨_, rfl⟩
       rw [hv0] at HW0 ⊢
       obtain ⟨v1, hv1⟩ : ∃ v, valX c n (kidX x 1) = v := ⟨_, rfl⟩
       rw [hv1] at HW1 ⊢
       have hxc := HXC.out
       rw [hlen] at hxc
       obtain ⟨x0, x1, x2, x3, x4, x5, x6, x7, x8, x9⟩ := hxc.cells
       have HXL := Lib.hid hxc
       clear hak1 hg1 HV1 hv1 hg0 HV0 hv0 hl2 hlen hop hxc
       cases v0 with
       | true =>
         go_enter Tryz.func41, Tryz.ntmps41
         go_wp2_with (first
          | (go_at_call 41; (with_reducible refine (HW1.out _ HB1.out).mono ?_); rintro e w2 ⟨rfl, hb2⟩; have HB2 := Lib.hid (HB1.out.trans (hb2.mono HB1.out.size)); clear hb2)
          | (go_at_call 41; (with_reducible refine (HW0.out _ (Below.refl _ _)).mono ?_); rintro e w1 ⟨rfl, hb1⟩; have HB1 := Lib.hid (hb1); obtain ⟨y0, y1, y2, y3, y4, y5, y6, y7, y8, y9⟩ := (HXL.out.keep (hb1.block g HG.out)).cells; clear hb1))
         go_ret
         exact ⟨rfl, HB2.out⟩
       | false =>
         go_enter Tryz.func41, Tryz.ntmps41
         go_wp2_with (go_at_call 41; (with_reducible refine (HW0.out _ (Below.refl _ _)).mono ?_); rintro e w1 ⟨rfl, hb1⟩; have HB1 := Lib.hid (hb1); obtain ⟨y0, y1, y2, y3, y4, y5, y6, y7, y8, y9⟩ := (HXL.out.keep (hb1.block g HG.out)).cells; clear hb1)
         go_ret
         exact ⟨rfl, HB1.out⟩
     · have p2 : (x.op == 2) = false := by rw [hop]; rfl
       have p3 : (x.op == 3) = false := by rw [hop]; rfl
       have p4 : (x.op == 4) = true := by rw [hop]; rfl
       have p9 : (x.op == 9) = false := by rw [hop]; rfl
       rw [if_neg (by omega), if_neg (by omega), if_pos hop]
       obtain ⟨g0, o0, hak, hg0, HV0⟩ := HKID.out 0 (by omega)
       obtain ⟨g1, o1, hak1, hg1, HV1⟩ := HKID.out 1 (by omega)
       rw [hak] at hak1
       obtain ⟨rfl, rfl⟩ : g0 = g1 ∧ o0 = o1 := by simpa using hak1
       subst hak
       rw [Nat.zero_mul, Nat.add_zero] at HV0
       have HW0 := Lib.hid HV0
       rw [Nat.one_mul] at HV1
       have HW1 := Lib.hid HV1
       have hl2 : (x.ks.length : Int) = 2 := by omega
       have HL := Lib.hid hlen
       obtain ⟨v0, hv0⟩ : ∃ v, valX c n (kidX x 0) = v := ⟨_, rfl⟩
       rw [hv0] at HW0 ⊢
       obtain ⟨v1, hv1⟩ : ∃ v, valX c n (kidX x 1) = v := ⟨_, rfl⟩
       rw [hv1] at HW1 ⊢
       have hxc := HXC.out
       rw [hlen] at hxc
       obtain ⟨x0, x1, x2, x3, x4, x5, x6, x7, x8, x9⟩ := hxc.cells
       have HXL := Lib.hid hxc
       clear hak1 hg1 HV1 hv1 hg0 HV0 hv0 hl2 hlen hop hxc
       cases v0 with
       | true =>
         go_enter Tryz.func41, Tryz.ntmps41
         go_wp2_with (go_at_call 41; (with_reducible refine (HW0.out _ (Below.refl _ _)).mono ?_); rintro e w1 ⟨rfl, hb1⟩; have HB1 := Lib.hid (hb1); obtain ⟨y0, y1, y2, y3, y4, y5, y6, y7, y8, y9⟩ := (HXL.out.keep (hb1.block g HG.out)).cells; clear hb1)
         go_ret
         exact ⟨rfl, HB1.out⟩
       | false =>
         go_enter Tryz.func41, Tryz.ntmps41
         go_wp2_with (first
          | (go_at_call 41; (with_reducible refine (HW1.out _ HB1.out).mono ?_); rintro e w2 ⟨rfl, hb2⟩; have HB2 := Lib.hid (HB1.out.trans (hb2.mono HB1.out.size)); clear hb2)
          | (go_at_call 41; (with_reducible refine (HW0.out _ (Below.refl _ _)).mono ?_); rintro e w1 ⟨rfl, hb1⟩; have HB1 := Lib.hid (hb1); obtain ⟨y0, y1, y2, y3, y4, y5, y6, y7, y8, y9⟩ := (HXL.out.keep (hb1.block g HG.out)).cells; clear hb1))
         go_ret
         exact ⟨rfl, HB2.out⟩
   · have p2 : (x.op == 2) = false := by rw [hop]; rfl
     have p3 : (x.op == 3) = false := by rw [hop]; rfl
     have p4 : (x.op == 4) = false := by rw [hop]; rfl
     have p9 : (x.op == 9) = false := by rw [hop]; rfl
     rw [if_neg (by omega), if_neg (by omega), if_neg (by omega), if_neg (by omega)]
     obtain ⟨na, hna⟩ : ∃ na : Nat, x.a = na := ⟨x.a.toNat, by omega⟩
     obtain ⟨nb, hnb⟩ : ∃ nb : Nat, x.b = nb := ⟨x.b.toNat, by omega⟩
     have HRA := Lib.hid (fun (W : World) (h : Kp w W) => read_c c gc na (by omega) W (HC.out.keep h))
     have HRB := Lib.hid (fun (W : World) (h : Kp w W) => read_c c gc nb (by omega) W (HC.out.keep h))
     have hxc := HXC.out
     rw [hna, hnb] at hxc
     rw [hna, hnb, Int.toNat_natCast, Int.toNat_natCast]
     generalize rdX c na = la at *
     generalize rdX c nb = lb at *
     have HXL := Lib.hid hxc
     obtain ⟨x0, x1, x2, x3, x4, x5, x6, x7, x8, x9⟩ := hxc.cells
     have HRR := Lib.hid (related_c la lb x.r)
     clear hop ha hb hna hnb hxc x1 x2 x3 x4 x5 x6 x7 x8 x9
     go_enter Tryz.func41, Tryz.ntmps41
     go_upto_region 10 with fail
     clear x0
     refine wp_region_kp (by kernel_rfl) (by kernel_rfl) ?_
     repeat (first
      | go_big_quiet_skip
      | (go_big_quiet_want
         go_big_quiet_op
         first
          | go_big_quiet_on
          | (apply Exists.intro
             refine ⟨fun w1 hC => ?_, ?_⟩
             · first
                | (go_at_call 72; with_reducible first | exact hC.call (HRA.out _ hC) | exact hC.call (HRB.out _ hC))
                | (go_at_call 73; with_reducible exact hC.call (HRR.out _))
                | (go_simp; exact ⟨rfl, rfl⟩)
                | (obtain ⟨y0, y1, y2, y3, y4, y5, y6, y7, y8, y9⟩ := (HXL.out.keep (hC.block g HG.out)).cells; go_simp; exact rfl)
             go_big_quiet_on)))
     refine wpQuiet_nil ?_
     intro W1 hC
     have HCC := Lib.hid hC
     clear hC
     go_wp2_with fail
     go_ret
     exact ⟨rfl, HCC.out⟩
   · have p2 : (x.op == 2) = false := by rw [hop]; rfl
     have p3 : (x.op == 3) = false := by rw [hop]; rfl
     have p4 : (x.op == 4) = false := by rw [hop]; rfl
     have p9 : (x.op == 9) = true := by rw [hop]; rfl
     rw [if_neg (by omega), if_neg (by omega), if_neg (by omega), if_pos hop]
     obtain ⟨na, hna⟩ : ∃ na : Nat, x.a = na := ⟨x.a.toNat, by omega⟩
     have HRA := Lib.hid (fun (W : World) (h : Kp w W) => read_c c gc na (by omega) W (HC.out.keep h))
     have hxc := HXC.out
     rw [hna] at hxc
     rw [hna, Int.toNat_natCast]
     generalize rdX c na = la at *
     have HXL := Lib.hid hxc
     obtain ⟨x0, x1, x2, x3, x4, x5, x6, x7, x8, x9⟩ := hxc.cells
     have HHS := Lib.hid (has_c x.st.a x.st.b x.st.c x.st.d la.s)
     clear hop ha1 ha2 hna hxc x1 x2 x3 x4 x5 x6 x7 x8 x9
     go_enter Tryz.func41, Tryz.ntmps41
     go_upto_region 9 with fail
     clear x0
     refine wp_region_kp (by kernel_rfl) (by kernel_rfl) ?_
     repeat (first
      | go_big_quiet_skip
      | (go_big_quiet_want
         go_big_quiet_op
         first
          | go_big_quiet_on
          | (apply Exists.intro
             refine ⟨fun w1 hC => ?_, ?_⟩
             · first
                | (go_at_call 72; with_reducible exact hC.call (HRA.out _ hC))
                | (go_at_call 71; with_reducible exact hC.call (HHS.out _))
                | (go_simp; exact ⟨rfl, rfl⟩)
                | (obtain ⟨y0, y1, y2, y3, y4, y5, y6, y7, y8, y9⟩ := (HXL.out.keep (hC.block g HG.out)).cells; go_simp; exact rfl)
             go_big_quiet_on)))
     refine wpQuiet_nil ?_
     intro W1 hC
     have HCC := Lib.hid hC
     clear hC
     go_wp2_with fail
     go_ret
     exact ⟨rfl, HCC.out⟩
open Go.RowKit
theorem feL_zero {F : X → Int} : ∀ {ks : List X}, feL F ks = 0 → ∀ k ∈ ks, F k = 0
 | [], _, k, h => by simp at h
 | y :: r, h, k, hk => by
   unfold feL at h
   by_cases e : F y = 0
   · rw [if_neg (by simp [e])] at h
     rcases List.mem_cons.1 hk with rfl | hk
     · exact e
     · exact feL_zero h k hk
   · rw [if_pos e] at h
     exact absurd h e
theorem op_ok {x : X} (h : opE 15 x = 0) : okN x := by
 unfold opE operE at h
 unfold okN
 by_cases h2 : x.op = 2
 · rw [if_pos h2] at h
   refine .inl ⟨h2, ?_⟩
   by_cases e : x.ks.length = 1
   · exact e
   · rw [if_pos (.inl e)] at h; omega
 · rw [if_neg h2] at h
   by_cases h3 : x.op = 3 ∨ x.op = 4
   · rw [if_pos h3] at h
     refine .inr (.inl ⟨h3, ?_⟩)
     by_cases e : x.ks.length = 2
     · exact e
     · rw [if_pos (.inl e)] at h; omega
   · rw [if_neg h3] at h
     by_cases h8 : x.op = 8
     · rw [if_pos h8] at h
       refine .inr (.inr (.inl ⟨h8, ?_⟩))
       split at h
       · omega
       · unfold cmpE at h
         split at h
         · omega
         · rename_i hh
           exact ⟨by omega, by omega⟩
     · rw [if_neg h8] at h
       by_cases h9 : x.op = 9
       · rw [if_pos h9] at h
         refine .inr (.inr (.inr ⟨h9, ?_⟩))
         split at h
         · omega
         · unfold memE at h
           split at h
           · omega
           · rename_i hh
             exact ⟨by omega, by omega⟩
       · rw [if_neg h9] at h; omega
theorem ok_of : ∀ (n : Nat) (x : X), more n x = false → fe (opE 15) n x = 0 → okV n x
 | 0, x, h, _ => by unfold more at h; cases h
 | n + 1, x, h, k => by
   have e : fe (opE 15) (n + 1) x = if opE 15 x ≠ 0 then opE 15 x else feL (fe (opE 15) n) x.ks := rfl
   rw [e] at k
   by_cases h0 : opE 15 x = 0
   · rw [if_neg (by simp [h0])] at k
     refine ⟨op_ok h0, fun y hy => ok_of n y ?_ (feL_zero k y hy)⟩
     obtain ⟨i, hi, rfl⟩ := List.getElem_of_mem hy
     exact more_kid h hi
   · rw [if_pos h0] at k
     exact absurd k h0
theorem wf_ok {x : X} (h : wfX x = true) : okV 12 x := by
 unfold wfX at h
 have h : chkE 15 x = 0 := of_decide_eq_true h
 unfold chkE at h
 cases hm : more 12 x with
 | true => rw [hm, if_pos rfl] at h; omega
 | false => rw [hm, if_neg (by simp)] at h; exact ok_of 12 x hm h
/-- an expression as a value -/
structure XV (w : World) (vn vk : Value) (x : X) : Prop where
 ns : Strs w vn x.ns
 ks : SlR 10 XAt w vk x.ks
 wf : XW x.op x.a x.r x.b x.ns x.st x.ks.length
theorem XV.keep {w w' : World} {vn vk : Value} {x : X} (h : XV w vn vk x) (hb : Below w.heap.size w w') : XV w' vn vk x := ⟨h.ns.keep hb, h.ks.keep (fun hg k => XAt.keep hb hg k) hb, h.wf⟩
theorem XV.at {w : World} {vn vk : Value} {x : X} {g : Nat} {t : TypeId} (h : XV w vn vk x) (hb : Blk w g t #[.int .i64 x.op, .int .i64 x.a, .int .i64 x.r, .int .i64 x.b, vn, .int .u64 x.st.a, .int .u64 x.st.b, .int .u64 x.st.c, .int .u64 x.st.d, vk]) : XAt w g 0 x := by
 obtain ⟨h1, ⟨ao, cap, e, hc, hr⟩, hw⟩ := h
 obtain ⟨op, a, r, b, ns, st, ks⟩ := x
 have h1 : Strs w vn ns := h1
 have e : vk = .slice ao ks.length cap := e
 subst e
 unfold XAt
 exact ⟨hb.cell 0, hb.cell 1, hb.cell 2, hb.cell 3, ⟨vn, hb.cell 4, h1⟩, hb.cell 5, hb.cell 6, hb.cell 7, hb.cell 8, ⟨ao, cap, hb.cell 9, hc, fun hl => by
  obtain ⟨g', o', e, hg, hR⟩ := hr hl
  exact ⟨g', o', e, hg, XRow_of hR⟩⟩, hw⟩
def evX (c : Ca) (x : X) : Bool := wfX x && valX c 12 x
set_option maxRecDepth 100000 in
set_option maxHeartbeats 8000000 in
theorem eval_c (x : X) (vn vk : Value) (c : Ca) (w : World) (hV : XV w vn vk x) : Calls Tryz.prog 17 #[.agg #[.int .i64 x.op, .int .i64 x.a, .int .i64 x.r, .int .i64 x.b, vn, .int .u64 x.st.a, .int .u64 x.st.b, .int .u64 x.st.c, .int .u64 x.st.d, vk], .agg #[.int .i64 c.c1.u, .int .i64 c.c1.ro, .int .i64 c.c1.ty, .int .i64 c.c1.lo.s, .int .u64 c.c1.lo.c, .int .i64 c.c1.hi.s, .int .u64 c.c1.hi.c, .int .i64 c.c2.u, .int .i64 c.c2.ro, .int .i64 c.c2.ty, .int .i64 c.c2.lo.s, .int .u64 c.c2.lo.c, .int .i64 c.c2.hi.s, .int .u64 c.c2.hi.c, .int .i64 c.c3.u, .int .i64 c.c3.ro, .int .i64 c.c3.ty, .int .i64 c.c3.lo.s, .int .u64 c.c3.lo.c, .int .i64 c.c3.hi.s, .int .u64 c.c3.hi.c]] w fun e w' => e = .returned (.bool (evX c x)) ∧ Below w.heap.size w w' := by
 obtain ⟨W0, hW0⟩ : ∃ W0, (w.alloc (.cells #[.int .i64 x.op, .int .i64 x.a, .int .i64 x.r, .int .i64 x.b, vn, .int .u64 x.st.a, .int .u64 x.st.b, .int .u64 x.st.c, .int .u64 x.st.d, vk] 55)).alloc (.cells #[.int .i64 c.c1.u, .int .i64 c.c1.ro, .int .i64 c.c1.ty, .int .i64 c.c1.lo.s, .int .u64 c.c1.lo.c, .int .i64 c.c1.hi.s, .int .u64 c.c1.hi.c, .int .i64 c.c2.u, .int .i64 c.c2.ro, .int .i64 c.c2.ty, .int .i64 c.c2.lo.s, .int .u64 c.c2.lo.c, .int .i64 c.c2.hi.s, .int .u64 c.c2.hi.c, .int .i64 c.c3.u, .int .i64 c.c3.ro, .int .i64 c.c3.ty, .int .i64 c.c3.lo.s, .int .u64 c.c3.lo.c, .int .i64 c.c3.hi.s, .int .u64 c.c3.hi.c] 48) = W0 := ⟨_, rfl⟩
 have B1 : Blk W0 w.heap.size 55 #[.int .i64 x.op, .int .i64 x.a, .int .i64 x.r, .int .i64 x.b, vn, .int .u64 x.st.a, .int .u64 x.st.b, .int .u64 x.st.c, .int .u64 x.st.d, vk] := by rw [← hW0]; exact (Blk.new w _ _).alloc _
 have B2 : Blk W0 (w.heap.size + 1) 48 #[.int .i64 c.c1.u, .int .i64 c.c1.ro, .int .i64 c.c1.ty, .int .i64 c.c1.lo.s, .int .u64 c.c1.lo.c, .int .i64 c.c1.hi.s, .int .u64 c.c1.hi.c, .int .i64 c.c2.u, .int .i64 c.c2.ro, .int .i64 c.c2.ty, .int .i64 c.c2.lo.s, .int .u64 c.c2.lo.c, .int .i64 c.c2.hi.s, .int .u64 c.c2.hi.c, .int .i64 c.c3.u, .int .i64 c.c3.ro, .int .i64 c.c3.ty, .int .i64 c.c3.lo.s, .int .u64 c.c3.lo.c, .int .i64 c.c3.hi.s, .int .u64 c.c3.hi.c] := by
  have h := Blk.new (w.alloc (.cells #[.int .i64 x.op, .int .i64 x.a, .int .i64 x.r, .int .i64 x.b, vn, .int .u64 x.st.a, .int .u64 x.st.b, .int .u64 x.st.c, .int .u64 x.st.d, vk] 55)) 48 #[.int .i64 c.c1.u, .int .i64 c.c1.ro, .int .i64 c.c1.ty, .int .i64 c.c1.lo.s, .int .u64 c.c1.lo.c, .int .i64 c.c1.hi.s, .int .u64 c.c1.hi.c, .int .i64 c.c2.u, .int .i64 c.c2.ro, .int .i64 c.c2.ty, .int .i64 c.c2.lo.s, .int .u64 c.c2.lo.c, .int .i64 c.c2.hi.s, .int .u64 c.c2.hi.c, .int .i64 c.c3.u, .int .i64 c.c3.ro, .int .i64 c.c3.ty, .int .i64 c.c3.lo.s, .int .u64 c.c3.lo.c, .int .i64 c.c3.hi.s, .int .u64 c.c3.hi.c]
  rw [World.size_alloc, hW0] at h; exact h
 have HB0 : Hid (Below w.heap.size w W0) := Lib.hid (by rw [← hW0]; exact ((Below.refl _ _).alloc (Nat.le_refl _) _).alloc (by simp) _)
 have HX : Hid (XAt W0 w.heap.size 0 x) := Lib.hid ((hV.keep HB0.out).at B1)
 have HG : Hid (w.heap.size < W0.heap.size) := Lib.hid B1.lt
 have HC := Lib.hid B2
 clear B1 B2 hV
 unfold evX
 cases hw : wfX x with
 | false =>
   have HW := Lib.hid (isWellFormed_c x w.heap.size 0 W0 HX.out HG.out)
   rw [hw] at HW
   clear hw
   go_enter Tryz.func17, Tryz.ntmps17
   go_wp2_with (go_at_call 40; (with_reducible refine HW.out.mono ?_); rintro e w1 ⟨rfl, hb1⟩; have HB1 := Lib.hid (HB0.out.trans (hb1.mono HB0.out.size)); clear hb1)
   go_ret
   exact ⟨rfl, HB1.out⟩
 | true =>
   have HO := Lib.hid (wf_ok hw)
   have HW := Lib.hid (isWellFormed_c x w.heap.size 0 W0 HX.out HG.out)
   rw [hw] at HW
   clear hw
   rw [Bool.true_and]
   go_enter Tryz.func17, Tryz.ntmps17
   go_wp2_with (first
    | (go_at_call 40; (with_reducible refine HW.out.mono ?_); rintro e w1 ⟨rfl, hb1⟩; have HB1 := Lib.hid (HB0.out.trans (hb1.mono HB0.out.size)); have HX1 := Lib.hid (HX.out.keep hb1 HG.out); have HG1 : Hid (w.heap.size < w1.heap.size) := Lib.hid (Nat.lt_of_lt_of_le HG.out hb1.size); have HC1 := Lib.hid (HC.out.keep hb1); clear hb1)
    | (go_at_call 41; (refine (value_c c (w.heap.size + 1) 12 x w.heap.size 0 w1 HO.out HX1.out HG1.out HC1.out).mono ?_); rintro e w2 ⟨rfl, hb2⟩; have HB2 := Lib.hid (HB1.out.trans (hb2.mono HB1.out.size)); clear hb2))
   go_ret
   exact ⟨rfl, HB2.out⟩
end Go.Proofs.YtbhoofihnmmmfabGreat
