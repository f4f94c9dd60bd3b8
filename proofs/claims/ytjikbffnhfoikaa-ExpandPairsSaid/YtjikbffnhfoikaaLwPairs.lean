/- P15.1: Rule returns the pairs that the reference returns: the law ExpandPairs returns true for every rule, and its argument reads afterwards as before. Conditions: none. -/
import Derived.Test.YtjikbffnhfoikaaZag
namespace Go.Proofs.Ytjikbffnhfoikaa
open Go.RowKit Go.Sort Go.Maps
theorem prs_len (r : Ru) : (prs r).length ≤ 1000000 := by
  have h := prN_len r (j := 256) (by omega)
  rw [prN_all] at h
  omega
set_option maxRecDepth 100000 in
set_option maxHeartbeats 8000000 in
theorem lawPairs_c (r : Ru) (w : World) : Calls Try.prog 3 #[.agg #[.int .i64 r.k, .int .u64 r.src.a, .int .u64 r.src.b, .int .u64 r.src.c, .int .u64 r.src.d, .int .u64 r.tgt.a, .int .u64 r.tgt.b, .int .u64 r.tgt.c, .int .u64 r.tgt.d, .bool r.self, .int .i64 r.cl, .int .u32 (vI r.pm), .int .i64 r.cd]] w fun e w' => e = .returned (.bool true) ∧ Below w.heap.size w w' := by
  have HB0 : Hid (Below w.heap.size w (w.alloc (.cells #[.int .i64 r.k, .int .u64 r.src.a, .int .u64 r.src.b, .int .u64 r.src.c, .int .u64 r.src.d, .int .u64 r.tgt.a, .int .u64 r.tgt.b, .int .u64 r.tgt.c, .int .u64 r.tgt.d, .bool r.self, .int .i64 r.cl, .int .u32 (vI r.pm), .int .i64 r.cd] 27))) := Lib.hid ((Below.refl _ _).alloc (Nat.le_refl _) _)
  have HX0 : Hid (BoxR (w.alloc (.cells #[.int .i64 r.k, .int .u64 r.src.a, .int .u64 r.src.b, .int .u64 r.src.c, .int .u64 r.src.d, .int .u64 r.tgt.a, .int .u64 r.tgt.b, .int .u64 r.tgt.c, .int .u64 r.tgt.d, .bool r.self, .int .i64 r.cl, .int .u32 (vI r.pm), .int .i64 r.cd] 27)) w.heap.size r) := Lib.hid (Blk.new w _ _)
  go_enter Try.func3, Try.ntmps3
  go_upto_region 1 with fail
  generalize w.alloc (.cells #[.int .i64 r.k, .int .u64 r.src.a, .int .u64 r.src.b, .int .u64 r.src.c, .int .u64 r.src.d, .int .u64 r.tgt.a, .int .u64 r.tgt.b, .int .u64 r.tgt.c, .int .u64 r.tgt.d, .bool r.self, .int .i64 r.cl, .int .u32 (vI r.pm), .int .i64 r.cd] 27) = W at *
  generalize hgx : w.heap.size = gx at *
  refine wp_region_gen (fun _ u => Below W.heap.size W u) (fun _ u u2 => Below u.heap.size u u2) (fun q v u => ((([.val (.agg #[.int .i64 r.k, .int .u64 r.src.a, .int .u64 r.src.b, .int .u64 r.src.c, .int .u64 r.src.d, .int .u64 r.tgt.a, .int .u64 r.tgt.b, .int .u64 r.tgt.c, .int .u64 r.tgt.d, .bool r.self, .int .i64 r.cl, .int .u32 (vI r.pm), .int .i64 r.cd]), .prs ((prs r)), .val (.agg #[.int .i64 r.k, .int .u64 r.src.a, .int .u64 r.src.b, .int .u64 r.src.c, .int .u64 r.src.d, .int .u64 r.tgt.a, .int .u64 r.tgt.b, .int .u64 r.tgt.c, .int .u64 r.tgt.d, .bool r.self, .int .i64 r.cl, .int .u32 (vI r.pm), .int .i64 r.cd]), .prs ((prs r)), .val (.bool true), .val (.bool true), .val (.bool true), .val (.bool true), .val (.bool true)] : List SpA)).getD q .tt).ok v u) (by kernel_rfl) (by kernel_rfl) (Below.refl _ _).drew (fun _ _ _ _ _ h hr => h.trans (hr.mono h.size)) [] (by kernel_rfl) (fun i j v u u2 _ _ h hr => SpA.keep h hr) ?_ ?_
  · refine ⟨⟨trivial, fun A v d hd hC hF hW K Q hk => ?_⟩, ⟨trivial, fun A v d hd hC hF hW K Q hk => ?_⟩, ⟨trivial, fun A v d hd hC hF hW K Q hk => ?_⟩, ⟨trivial, fun A v d hd hC hF hW K Q hk => ?_⟩, ⟨trivial, fun A v d hd hC hF hW K Q hk => ?_⟩, ⟨trivial, fun A v d hd hC hF hW K Q hk => ?_⟩, ⟨fun _ _ h => h, fun A v d hd hC hF hW K Q hk => ?_⟩, ⟨trivial, fun A v d hd hC hF hW K Q hk => ?_⟩, ⟨trivial, fun A v d hd hC hF hW K Q hk => ?_⟩, trivial⟩
    · have f1 : A.tmps[1]?.getD undef = .pointer (some ⟨gx, 0, none⟩) := fg_none (hF 1) (by kernel_rfl)
      obtain ⟨x0, x1, x2, x3, x4, x5, x6, x7, x8, x9, x10, x11, x12⟩ := BoxR.cells (show BoxR v gx r from Blk.keep HX0.out hC)
      refine Giv.wp ?_ hk
      unfold Giv
      go_simp
      exact giv_val (Below.refl _ _) rfl
    · have f3 : A.tmps[3]?.getD undef = .agg #[.int .i64 r.k, .int .u64 r.src.a, .int .u64 r.src.b, .int .u64 r.src.c, .int .u64 r.src.d, .int .u64 r.tgt.a, .int .u64 r.tgt.b, .int .u64 r.tgt.c, .int .u64 r.tgt.d, .bool r.self, .int .i64 r.cl, .int .u32 (vI r.pm), .int .i64 r.cd] := fg_some (hF 3) (j := 0) (by kernel_rfl) (by kernel_rfl)
      refine Giv.wp ?_ hk
      unfold Giv
      go_simp
      exact giv_enter ((rule_c r v).mono fun e w2 ⟨v2, he, hp, hb⟩ => ⟨v2, he, hb, hp⟩)
    · have f1 : A.tmps[1]?.getD undef = .pointer (some ⟨gx, 0, none⟩) := fg_none (hF 1) (by kernel_rfl)
      obtain ⟨x0, x1, x2, x3, x4, x5, x6, x7, x8, x9, x10, x11, x12⟩ := BoxR.cells (show BoxR v gx r from Blk.keep HX0.out hC)
      refine Giv.wp ?_ hk
      unfold Giv
      go_simp
      exact giv_val (Below.refl _ _) rfl
    · have f5 : A.tmps[5]?.getD undef = .agg #[.int .i64 r.k, .int .u64 r.src.a, .int .u64 r.src.b, .int .u64 r.src.c, .int .u64 r.src.d, .int .u64 r.tgt.a, .int .u64 r.tgt.b, .int .u64 r.tgt.c, .int .u64 r.tgt.d, .bool r.self, .int .i64 r.cl, .int .u32 (vI r.pm), .int .i64 r.cd] := fg_some (hF 5) (j := 2) (by kernel_rfl) (by kernel_rfl)
      refine Giv.wp ?_ hk
      unfold Giv
      go_simp
      exact giv_enter ((rrule_c r v).mono fun e w2 ⟨v2, he, hp, hb⟩ => ⟨v2, he, hb, hp⟩)
    · have s4 : Prs v (A.tmps[4]?.getD undef) (prs r) := fg_some (hF 4) (j := 1) (by kernel_rfl) (by kernel_rfl)
      have s6 : Prs v (A.tmps[6]?.getD undef) (prs r) := fg_some (hF 6) (j := 3) (by kernel_rfl) (by kernel_rfl)
      refine Giv.wp ?_ hk
      unfold Giv
      go_simp
      exact giv_enter ((lpairs_c _ _ _ _ v s4 s6 (prs_len r)).mono fun e w2 ⟨he, hb⟩ => ⟨_, he, hb, congrArg Value.bool (decide_eq_true rfl)⟩)
    · have f7 : A.tmps[7]?.getD undef = .bool true := fg_some (hF 7) (j := 4) (by kernel_rfl) (by kernel_rfl)
      refine Giv.wp ?_ hk
      unfold Giv
      go_simp
      exact giv_val (Below.refl _ _) rfl
    · refine Giv.wp ?_ hk
      unfold Giv
      go_simp
      exact giv_enter ((awake_c v).mono fun e w2 ⟨he, hb⟩ => ⟨_, he, hb, rfl⟩)
    · have f8 : A.tmps[8]?.getD undef = .bool true := fg_some (hF 8) (j := 5) (by kernel_rfl) (by kernel_rfl)
      have f9 : A.tmps[9]?.getD undef = .bool true := fg_some (hF 9) (j := 6) (by kernel_rfl) (by kernel_rfl)
      refine Giv.wp ?_ hk
      unfold Giv
      go_simp
      exact giv_val (Below.refl _ _) rfl
    · have f10 : A.tmps[10]?.getD undef = .bool true := fg_some (hF 10) (j := 7) (by kernel_rfl) (by kernel_rfl)
      refine Giv.wp ?_ hk
      unfold Giv
      go_simp
      exact giv_val (Below.refl _ _) rfl
  intro a W5 d hd hC hsz hdf hF hW
  have ha := end_gen [false, false, true, true, true, true, true, true, true, true, true] hsz hdf hF (by kernel_rfl)
  have f2 : a.tmps[2]?.getD undef = .bool true := fe_some (hF 2) (j := 8) (by kernel_rfl)
  rw [ha]
  clear ha hF hW
  simp only [cutM_yes, cutM_no, cutM_nil, Nat.reduceAdd]
  rw [f2]
  have HBE := Lib.hid (HB0.out.trans (hC.mono (by have := HB0.out.size; omega)))
  clear hC
  go_wp2_with fail
  go_ret
  exact ⟨rfl, by first | exact HBE.out | (rw [hgx]; exact HBE.out)⟩
end Go.Proofs.Ytjikbffnhfoikaa
namespace Go.Proofs.Ytjikbffnhfoikaa.expandPairs
open Go.ChangeShapes Go.WideShapes Go.ChangeAt Go.RowKit
set_option maxRecDepth 100000 in
set_option maxHeartbeats 1000000 in
theorem lifted (os : Os) (started : os.Started) (H : Type) (enc : TypeId × Value → H) :
    ReturnsInHanded {} Try.checked os 3 .any (Rows.expandPairsSpec.pre6 enc Try.prog Try.f3 Rows.expandPairsRow.domain false) (Rows.expandPairsSpec.post enc Try.prog Try.f3 false true false false) := by
  refine returnsInHanded_of_change (C := Try.checked) Try.own started (by kernel_rfl) Try.func3
    (ChangeSpec.witness6 (enc := enc) (C := Try.checked) false ⟨#[], #[.agg #[.int .i64 0, .int .u64 0, .int .u64 0, .int .u64 0, .int .u64 0, .int .u64 0, .int .u64 0, .int .u64 0, .int .u64 0, .bool false, .int .i64 0, .int .u32 0, .int .i64 0]], []⟩ 8 (by kernel_rfl) (by kernel_rfl) (by kernel_rfl) (by kernel_rfl)) ?_
  intro W base args ds gs before hval0 hW hcnd _
  have hval : ∀ (j : Nat) t v, Try.f3.params[j]? = some t → args[j]? = some v → Value.okWide Try.prog W .any base t v := hval0
  have hW' := hW
  obtain ⟨p, q, hA0, hV, rfl, hfz, hnd⟩ := hW
  have hA : DataW.TrodAll enc Try.prog W 0 (fun _ => true) true Try.f3.params.toList args.toList ds p := hA0
  rw [Try.params3] at hA hval
  obtain ⟨v0, vs0, d0, ds0, p0, q0, hargs, rfl, rfl, h0, r0⟩ := trodAll_cons hA
  obtain ⟨rfl, rfl, rfl⟩ := trodAll_nil r0
  obtain rfl : args = #[v0] := by cases args; simp_all
  obtain ⟨rfl, rfl⟩ := trodVars_none hV
  have lt0 : ∀ x ∈ p0, x.block < W.heap.size := by obtain ⟨m, hm⟩ := h0; exact DataW.trod_lt m _ _ _ hm
  have k0 := h0
  obtain ⟨r0, rfl⟩ := open_rule (hval 0 27 v0 rfl rfl) h0
  clear hA0 hval0
  refine (lawPairs_c r0 W).mono fun e W' ⟨he, bel⟩ => ?_
  subst he
  exact ⟨_, rfl, _, _, _, [], _, [], hW', trodAll_mk1 (shut_bool Try.underlying4 _), (trodAll_cons_mk (Below.trod Try.laidOut (by kernel_rfl) (of_decide_eq_true (by kernel_rfl)) k0 bel lt0) trodAll_mk0), rfl, bel.frame _, fun h => by cases h⟩
theorem proved : Rows.ExpandPairsSaid :=
  OpenClaim.holds_of_wide 3 Try.f3 rfl rfl rfl rfl rfl rfl rfl ⟨rfl, rfl, rfl, rfl, rfl⟩ rfl rfl rfl rfl rfl (by kernel_rfl) Try.func3 (by kernel_rfl)
    (of_decide_eq_true (by kernel_rfl)) (by unfold Func.isWrapper; first | (rw [if_pos (by decide +kernel)]; kernel_rfl) | (rw [if_neg (by decide +kernel)]; exact ⟨rfl, rfl⟩))
    (fun os started H enc _ => lifted os started H enc)
#print axioms proved
end Go.Proofs.Ytjikbffnhfoikaa.expandPairs
