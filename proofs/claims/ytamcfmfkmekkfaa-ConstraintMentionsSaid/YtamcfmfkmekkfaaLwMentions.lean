/- P17.6: Mentions is that of the chapter, and the value of an expression does not depend on an attribute that it does not mention: the law ConstraintMentions returns true for every expression, number and pair of cases, and its arguments read afterwards as before. Conditions: none. -/
import Derived.Test.YtamcfmfkmekkfaaZag
namespace Go.Proofs.Ytamcfmfkmekkfaa
open Go.RowKit Go
def chX (a : Cx) (k : Int) (b : Cx) : Cx := if k = 0 then { a with u := b.u } else if k = 1 then { a with ro := b.ro } else if k = 2 then { a with ty := b.ty } else if k = 3 then { a with lo := b.lo } else { a with hi := b.hi }
set_option maxRecDepth 100000 in
set_option maxHeartbeats 8000000 in
theorem changed_0 (a b : Cx) (w : World) : Calls Try.prog 13 #[.agg #[.int .i64 a.u, .int .i64 a.ro, .int .i64 a.ty, .int .i64 a.lo.s, .int .u64 a.lo.c, .int .i64 a.hi.s, .int .u64 a.hi.c], .int .i64 0, .agg #[.int .i64 b.u, .int .i64 b.ro, .int .i64 b.ty, .int .i64 b.lo.s, .int .u64 b.lo.c, .int .i64 b.hi.s, .int .u64 b.hi.c]] w fun e w' => e = .returned (.agg #[.int .i64 (chX a 0 b).u, .int .i64 (chX a 0 b).ro, .int .i64 (chX a 0 b).ty, .int .i64 (chX a 0 b).lo.s, .int .u64 (chX a 0 b).lo.c, .int .i64 (chX a 0 b).hi.s, .int .u64 (chX a 0 b).hi.c]) ∧ Below w.heap.size w w' := by
  have HU : Hid (chX a 0 b = ({ a with u := b.u } : Cx)) := Lib.hid rfl
  have HB : Hid (Below w.heap.size w (((w.alloc (.cells #[.int .i64 a.u, .int .i64 a.ro, .int .i64 a.ty, .int .i64 a.lo.s, .int .u64 a.lo.c, .int .i64 a.hi.s, .int .u64 a.hi.c] 34)).alloc (.cells #[.int .i64 b.u, .int .i64 b.ro, .int .i64 b.ty, .int .i64 b.lo.s, .int .u64 b.lo.c, .int .i64 b.hi.s, .int .u64 b.hi.c] 34)).alloc (.cells #[.int .i64 0, .int .i64 0, .int .i64 0, .int .i64 0, .int .u64 0, .int .i64 0, .int .u64 0] 34))) := Lib.hid ((((Below.refl _ _).alloc (Nat.le_refl _) _).alloc (by simp) _).alloc (by simp; omega) _)
  have HA : Hid (Blk (((w.alloc (.cells #[.int .i64 a.u, .int .i64 a.ro, .int .i64 a.ty, .int .i64 a.lo.s, .int .u64 a.lo.c, .int .i64 a.hi.s, .int .u64 a.hi.c] 34)).alloc (.cells #[.int .i64 b.u, .int .i64 b.ro, .int .i64 b.ty, .int .i64 b.lo.s, .int .u64 b.lo.c, .int .i64 b.hi.s, .int .u64 b.hi.c] 34)).alloc (.cells #[.int .i64 0, .int .i64 0, .int .i64 0, .int .i64 0, .int .u64 0, .int .i64 0, .int .u64 0] 34)) w.heap.size 34 #[.int .i64 a.u, .int .i64 a.ro, .int .i64 a.ty, .int .i64 a.lo.s, .int .u64 a.lo.c, .int .i64 a.hi.s, .int .u64 a.hi.c]) := Lib.hid (((Blk.new w _ _).alloc _).alloc _)
  have HBX : Hid (Blk (((w.alloc (.cells #[.int .i64 a.u, .int .i64 a.ro, .int .i64 a.ty, .int .i64 a.lo.s, .int .u64 a.lo.c, .int .i64 a.hi.s, .int .u64 a.hi.c] 34)).alloc (.cells #[.int .i64 b.u, .int .i64 b.ro, .int .i64 b.ty, .int .i64 b.lo.s, .int .u64 b.lo.c, .int .i64 b.hi.s, .int .u64 b.hi.c] 34)).alloc (.cells #[.int .i64 0, .int .i64 0, .int .i64 0, .int .i64 0, .int .u64 0, .int .i64 0, .int .u64 0] 34)) (w.heap.size + 1) 34 #[.int .i64 b.u, .int .i64 b.ro, .int .i64 b.ty, .int .i64 b.lo.s, .int .u64 b.lo.c, .int .i64 b.hi.s, .int .u64 b.hi.c]) := Lib.hid ((two_new' _ _ _ _).alloc _)
  have HR : Hid (Blk (((w.alloc (.cells #[.int .i64 a.u, .int .i64 a.ro, .int .i64 a.ty, .int .i64 a.lo.s, .int .u64 a.lo.c, .int .i64 a.hi.s, .int .u64 a.hi.c] 34)).alloc (.cells #[.int .i64 b.u, .int .i64 b.ro, .int .i64 b.ty, .int .i64 b.lo.s, .int .u64 b.lo.c, .int .i64 b.hi.s, .int .u64 b.hi.c] 34)).alloc (.cells #[.int .i64 0, .int .i64 0, .int .i64 0, .int .i64 0, .int .u64 0, .int .i64 0, .int .u64 0] 34)) (w.heap.size + 1 + 1) 34 #[.int .i64 0, .int .i64 0, .int .i64 0, .int .i64 0, .int .u64 0, .int .i64 0, .int .u64 0]) := Lib.hid (three_new' _ _ _ _ _)
  go_enter Try.func13, Try.ntmps13
  go_upto_region 1 with fail
  generalize ((w.alloc (.cells #[.int .i64 a.u, .int .i64 a.ro, .int .i64 a.ty, .int .i64 a.lo.s, .int .u64 a.lo.c, .int .i64 a.hi.s, .int .u64 a.hi.c] 34)).alloc (.cells #[.int .i64 b.u, .int .i64 b.ro, .int .i64 b.ty, .int .i64 b.lo.s, .int .u64 b.lo.c, .int .i64 b.hi.s, .int .u64 b.hi.c] 34)).alloc (.cells #[.int .i64 0, .int .i64 0, .int .i64 0, .int .i64 0, .int .u64 0, .int .i64 0, .int .u64 0] 34) = W at *
  have HN : Hid (w.heap.size < w.heap.size + 1 + 1) := Lib.hid (by omega)
  have HS : Hid (w.heap.size ≤ w.heap.size + 1 + 1) := Lib.hid (by omega)
  have hn1 : (w.heap.size = w.heap.size + 1 + 1) = False := by simp; omega
  have hn2 : (w.heap.size + 1 + 1 = w.heap.size) = False := by simp; omega
  have hn3 : (w.heap.size + 1 = w.heap.size) = False := by simp
  have hn4 : (w.heap.size = w.heap.size + 1) = False := by simp
  generalize w.heap.size + 1 + 1 = gr at *
  generalize w.heap.size + 1 = gb at *
  generalize hga : w.heap.size = ga at *
  have ha := HA.out.cell
  have a0 := ha 0
  have a1 := ha 1
  have a2 := ha 2
  have a3 := ha 3
  have a4 := ha 4
  have a5 := ha 5
  have a6 := ha 6
  have hb := HBX.out.cell
  have b0 := hb 0
  have b1 := hb 1
  have b2 := hb 2
  have b3 := hb 3
  have b4 := hb 4
  have b5 := hb 5
  have b6 := hb 6
  have hr := HR.out.cell
  have r0 := hr 0
  have r1 := hr 1
  have r2 := hr 2
  have r3 := hr 3
  have r4 := hr 4
  have r5 := hr 5
  have r6 := hr 6
  have fa := HA.out.frozen
  have fr := HR.out.frozen
  clear ha hb hr
  go_wp2_with fail
  rw [HU.out]
  exact bodyPost_ret (v := .agg #[.int .i64 ({ a with u := b.u } : Cx).u, .int .i64 ({ a with u := b.u } : Cx).ro, .int .i64 ({ a with u := b.u } : Cx).ty, .int .i64 ({ a with u := b.u } : Cx).lo.s, .int .u64 ({ a with u := b.u } : Cx).lo.c, .int .i64 ({ a with u := b.u } : Cx).hi.s, .int .u64 ({ a with u := b.u } : Cx).hi.c]) (ctx_ret (a := { a with u := b.u }) Try.results13 rfl ((((((((HR.out.far (p := ⟨ga, 0, none⟩) (Nat.ne_of_gt HN.out) _).set 0 _).set 1 _).set 2 _).set 3 _).set 4 _).set 5 _).set 6 _)) rfl ⟨rfl, by first | exact (below_set1 (below_set1 (below_set1 (below_set1 (below_set1 (below_set1 (below_set1 (below_set1 HB.out (Nat.le_refl _) 0 _) HS.out 0 _) HS.out 1 _) HS.out 2 _) HS.out 3 _) HS.out 4 _) HS.out 5 _) HS.out 6 _) | (rw [hga]; exact (below_set1 (below_set1 (below_set1 (below_set1 (below_set1 (below_set1 (below_set1 (below_set1 HB.out (Nat.le_refl _) 0 _) HS.out 0 _) HS.out 1 _) HS.out 2 _) HS.out 3 _) HS.out 4 _) HS.out 5 _) HS.out 6 _))⟩
set_option maxRecDepth 100000 in
set_option maxHeartbeats 8000000 in
theorem changed_1 (a b : Cx) (w : World) : Calls Try.prog 13 #[.agg #[.int .i64 a.u, .int .i64 a.ro, .int .i64 a.ty, .int .i64 a.lo.s, .int .u64 a.lo.c, .int .i64 a.hi.s, .int .u64 a.hi.c], .int .i64 1, .agg #[.int .i64 b.u, .int .i64 b.ro, .int .i64 b.ty, .int .i64 b.lo.s, .int .u64 b.lo.c, .int .i64 b.hi.s, .int .u64 b.hi.c]] w fun e w' => e = .returned (.agg #[.int .i64 (chX a 1 b).u, .int .i64 (chX a 1 b).ro, .int .i64 (chX a 1 b).ty, .int .i64 (chX a 1 b).lo.s, .int .u64 (chX a 1 b).lo.c, .int .i64 (chX a 1 b).hi.s, .int .u64 (chX a 1 b).hi.c]) ∧ Below w.heap.size w w' := by
  have HU : Hid (chX a 1 b = ({ a with ro := b.ro } : Cx)) := Lib.hid rfl
  have HB : Hid (Below w.heap.size w (((w.alloc (.cells #[.int .i64 a.u, .int .i64 a.ro, .int .i64 a.ty, .int .i64 a.lo.s, .int .u64 a.lo.c, .int .i64 a.hi.s, .int .u64 a.hi.c] 34)).alloc (.cells #[.int .i64 b.u, .int .i64 b.ro, .int .i64 b.ty, .int .i64 b.lo.s, .int .u64 b.lo.c, .int .i64 b.hi.s, .int .u64 b.hi.c] 34)).alloc (.cells #[.int .i64 0, .int .i64 0, .int .i64 0, .int .i64 0, .int .u64 0, .int .i64 0, .int .u64 0] 34))) := Lib.hid ((((Below.refl _ _).alloc (Nat.le_refl _) _).alloc (by simp) _).alloc (by simp; omega) _)
  have HA : Hid (Blk (((w.alloc (.cells #[.int .i64 a.u, .int .i64 a.ro, .int .i64 a.ty, .int .i64 a.lo.s, .int .u64 a.lo.c, .int .i64 a.hi.s, .int .u64 a.hi.c] 34)).alloc (.cells #[.int .i64 b.u, .int .i64 b.ro, .int .i64 b.ty, .int .i64 b.lo.s, .int .u64 b.lo.c, .int .i64 b.hi.s, .int .u64 b.hi.c] 34)).alloc (.cells #[.int .i64 0, .int .i64 0, .int .i64 0, .int .i64 0, .int .u64 0, .int .i64 0, .int .u64 0] 34)) w.heap.size 34 #[.int .i64 a.u, .int .i64 a.ro, .int .i64 a.ty, .int .i64 a.lo.s, .int .u64 a.lo.c, .int .i64 a.hi.s, .int .u64 a.hi.c]) := Lib.hid (((Blk.new w _ _).alloc _).alloc _)
  have HBX : Hid (Blk (((w.alloc (.cells #[.int .i64 a.u, .int .i64 a.ro, .int .i64 a.ty, .int .i64 a.lo.s, .int .u64 a.lo.c, .int .i64 a.hi.s, .int .u64 a.hi.c] 34)).alloc (.cells #[.int .i64 b.u, .int .i64 b.ro, .int .i64 b.ty, .int .i64 b.lo.s, .int .u64 b.lo.c, .int .i64 b.hi.s, .int .u64 b.hi.c] 34)).alloc (.cells #[.int .i64 0, .int .i64 0, .int .i64 0, .int .i64 0, .int .u64 0, .int .i64 0, .int .u64 0] 34)) (w.heap.size + 1) 34 #[.int .i64 b.u, .int .i64 b.ro, .int .i64 b.ty, .int .i64 b.lo.s, .int .u64 b.lo.c, .int .i64 b.hi.s, .int .u64 b.hi.c]) := Lib.hid ((two_new' _ _ _ _).alloc _)
  have HR : Hid (Blk (((w.alloc (.cells #[.int .i64 a.u, .int .i64 a.ro, .int .i64 a.ty, .int .i64 a.lo.s, .int .u64 a.lo.c, .int .i64 a.hi.s, .int .u64 a.hi.c] 34)).alloc (.cells #[.int .i64 b.u, .int .i64 b.ro, .int .i64 b.ty, .int .i64 b.lo.s, .int .u64 b.lo.c, .int .i64 b.hi.s, .int .u64 b.hi.c] 34)).alloc (.cells #[.int .i64 0, .int .i64 0, .int .i64 0, .int .i64 0, .int .u64 0, .int .i64 0, .int .u64 0] 34)) (w.heap.size + 1 + 1) 34 #[.int .i64 0, .int .i64 0, .int .i64 0, .int .i64 0, .int .u64 0, .int .i64 0, .int .u64 0]) := Lib.hid (three_new' _ _ _ _ _)
  go_enter Try.func13, Try.ntmps13
  go_upto_region 1 with fail
  generalize ((w.alloc (.cells #[.int .i64 a.u, .int .i64 a.ro, .int .i64 a.ty, .int .i64 a.lo.s, .int .u64 a.lo.c, .int .i64 a.hi.s, .int .u64 a.hi.c] 34)).alloc (.cells #[.int .i64 b.u, .int .i64 b.ro, .int .i64 b.ty, .int .i64 b.lo.s, .int .u64 b.lo.c, .int .i64 b.hi.s, .int .u64 b.hi.c] 34)).alloc (.cells #[.int .i64 0, .int .i64 0, .int .i64 0, .int .i64 0, .int .u64 0, .int .i64 0, .int .u64 0] 34) = W at *
  have HN : Hid (w.heap.size < w.heap.size + 1 + 1) := Lib.hid (by omega)
  have HS : Hid (w.heap.size ≤ w.heap.size + 1 + 1) := Lib.hid (by omega)
  have hn1 : (w.heap.size = w.heap.size + 1 + 1) = False := by simp; omega
  have hn2 : (w.heap.size + 1 + 1 = w.heap.size) = False := by simp; omega
  have hn3 : (w.heap.size + 1 = w.heap.size) = False := by simp
  have hn4 : (w.heap.size = w.heap.size + 1) = False := by simp
  generalize w.heap.size + 1 + 1 = gr at *
  generalize w.heap.size + 1 = gb at *
  generalize hga : w.heap.size = ga at *
  have ha := HA.out.cell
  have a0 := ha 0
  have a1 := ha 1
  have a2 := ha 2
  have a3 := ha 3
  have a4 := ha 4
  have a5 := ha 5
  have a6 := ha 6
  have hb := HBX.out.cell
  have b0 := hb 0
  have b1 := hb 1
  have b2 := hb 2
  have b3 := hb 3
  have b4 := hb 4
  have b5 := hb 5
  have b6 := hb 6
  have hr := HR.out.cell
  have r0 := hr 0
  have r1 := hr 1
  have r2 := hr 2
  have r3 := hr 3
  have r4 := hr 4
  have r5 := hr 5
  have r6 := hr 6
  have fa := HA.out.frozen
  have fr := HR.out.frozen
  clear ha hb hr
  go_wp2_with fail
  rw [HU.out]
  exact bodyPost_ret (v := .agg #[.int .i64 ({ a with ro := b.ro } : Cx).u, .int .i64 ({ a with ro := b.ro } : Cx).ro, .int .i64 ({ a with ro := b.ro } : Cx).ty, .int .i64 ({ a with ro := b.ro } : Cx).lo.s, .int .u64 ({ a with ro := b.ro } : Cx).lo.c, .int .i64 ({ a with ro := b.ro } : Cx).hi.s, .int .u64 ({ a with ro := b.ro } : Cx).hi.c]) (ctx_ret (a := { a with ro := b.ro }) Try.results13 rfl ((((((((HR.out.far (p := ⟨ga, 1, none⟩) (Nat.ne_of_gt HN.out) _).set 0 _).set 1 _).set 2 _).set 3 _).set 4 _).set 5 _).set 6 _)) rfl ⟨rfl, by first | exact (below_set1 (below_set1 (below_set1 (below_set1 (below_set1 (below_set1 (below_set1 (below_set1 HB.out (Nat.le_refl _) 1 _) HS.out 0 _) HS.out 1 _) HS.out 2 _) HS.out 3 _) HS.out 4 _) HS.out 5 _) HS.out 6 _) | (rw [hga]; exact (below_set1 (below_set1 (below_set1 (below_set1 (below_set1 (below_set1 (below_set1 (below_set1 HB.out (Nat.le_refl _) 1 _) HS.out 0 _) HS.out 1 _) HS.out 2 _) HS.out 3 _) HS.out 4 _) HS.out 5 _) HS.out 6 _))⟩
set_option maxRecDepth 100000 in
set_option maxHeartbeats 8000000 in
theorem changed_2 (a b : Cx) (w : World) : Calls Try.prog 13 #[.agg #[.int .i64 a.u, .int .i64 a.ro, .int .i64 a.ty, .int .i64 a.lo.s, .int .u64 a.lo.c, .int .i64 a.hi.s, .int .u64 a.hi.c], .int .i64 2, .agg #[.int .i64 b.u, .int .i64 b.ro, .int .i64 b.ty, .int .i64 b.lo.s, .int .u64 b.lo.c, .int .i64 b.hi.s, .int .u64 b.hi.c]] w fun e w' => e = .returned (.agg #[.int .i64 (chX a 2 b).u, .int .i64 (chX a 2 b).ro, .int .i64 (chX a 2 b).ty, .int .i64 (chX a 2 b).lo.s, .int .u64 (chX a 2 b).lo.c, .int .i64 (chX a 2 b).hi.s, .int .u64 (chX a 2 b).hi.c]) ∧ Below w.heap.size w w' := by
  have HU : Hid (chX a 2 b = ({ a with ty := b.ty } : Cx)) := Lib.hid rfl
  have HB : Hid (Below w.heap.size w (((w.alloc (.cells #[.int .i64 a.u, .int .i64 a.ro, .int .i64 a.ty, .int .i64 a.lo.s, .int .u64 a.lo.c, .int .i64 a.hi.s, .int .u64 a.hi.c] 34)).alloc (.cells #[.int .i64 b.u, .int .i64 b.ro, .int .i64 b.ty, .int .i64 b.lo.s, .int .u64 b.lo.c, .int .i64 b.hi.s, .int .u64 b.hi.c] 34)).alloc (.cells #[.int .i64 0, .int .i64 0, .int .i64 0, .int .i64 0, .int .u64 0, .int .i64 0, .int .u64 0] 34))) := Lib.hid ((((Below.refl _ _).alloc (Nat.le_refl _) _).alloc (by simp) _).alloc (by simp; omega) _)
  have HA : Hid (Blk (((w.alloc (.cells #[.int .i64 a.u, .int .i64 a.ro, .int .i64 a.ty, .int .i64 a.lo.s, .int .u64 a.lo.c, .int .i64 a.hi.s, .int .u64 a.hi.c] 34)).alloc (.cells #[.int .i64 b.u, .int .i64 b.ro, .int .i64 b.ty, .int .i64 b.lo.s, .int .u64 b.lo.c, .int .i64 b.hi.s, .int .u64 b.hi.c] 34)).alloc (.cells #[.int .i64 0, .int .i64 0, .int .i64 0, .int .i64 0, .int .u64 0, .int .i64 0, .int .u64 0] 34)) w.heap.size 34 #[.int .i64 a.u, .int .i64 a.ro, .int .i64 a.ty, .int .i64 a.lo.s, .int .u64 a.lo.c, .int .i64 a.hi.s, .int .u64 a.hi.c]) := Lib.hid (((Blk.new w _ _).alloc _).alloc _)
  have HBX : Hid (Blk (((w.alloc (.cells #[.int .i64 a.u, .int .i64 a.ro, .int .i64 a.ty, .int .i64 a.lo.s, .int .u64 a.lo.c, .int .i64 a.hi.s, .int .u64 a.hi.c] 34)).alloc (.cells #[.int .i64 b.u, .int .i64 b.ro, .int .i64 b.ty, .int .i64 b.lo.s, .int .u64 b.lo.c, .int .i64 b.hi.s, .int .u64 b.hi.c] 34)).alloc (.cells #[.int .i64 0, .int .i64 0, .int .i64 0, .int .i64 0, .int .u64 0, .int .i64 0, .int .u64 0] 34)) (w.heap.size + 1) 34 #[.int .i64 b.u, .int .i64 b.ro, .int .i64 b.ty, .int .i64 b.lo.s, .int .u64 b.lo.c, .int .i64 b.hi.s, .int .u64 b.hi.c]) := Lib.hid ((two_new' _ _ _ _).alloc _)
  have HR : Hid (Blk (((w.alloc (.cells #[.int .i64 a.u, .int .i64 a.ro, .int .i64 a.ty, .int .i64 a.lo.s, .int .u64 a.lo.c, .int .i64 a.hi.s, .int .u64 a.hi.c] 34)).alloc (.cells #[.int .i64 b.u, .int .i64 b.ro, .int .i64 b.ty, .int .i64 b.lo.s, .int .u64 b.lo.c, .int .i64 b.hi.s, .int .u64 b.hi.c] 34)).alloc (.cells #[.int .i64 0, .int .i64 0, .int .i64 0, .int .i64 0, .int .u64 0, .int .i64 0, .int .u64 0] 34)) (w.heap.size + 1 + 1) 34 #[.int .i64 0, .int .i64 0, .int .i64 0, .int .i64 0, .int .u64 0, .int .i64 0, .int .u64 0]) := Lib.hid (three_new' _ _ _ _ _)
  go_enter Try.func13, Try.ntmps13
  go_upto_region 1 with fail
  generalize ((w.alloc (.cells #[.int .i64 a.u, .int .i64 a.ro, .int .i64 a.ty, .int .i64 a.lo.s, .int .u64 a.lo.c, .int .i64 a.hi.s, .int .u64 a.hi.c] 34)).alloc (.cells #[.int .i64 b.u, .int .i64 b.ro, .int .i64 b.ty, .int .i64 b.lo.s, .int .u64 b.lo.c, .int .i64 b.hi.s, .int .u64 b.hi.c] 34)).alloc (.cells #[.int .i64 0, .int .i64 0, .int .i64 0, .int .i64 0, .int .u64 0, .int .i64 0, .int .u64 0] 34) = W at *
  have HN : Hid (w.heap.size < w.heap.size + 1 + 1) := Lib.hid (by omega)
  have HS : Hid (w.heap.size ≤ w.heap.size + 1 + 1) := Lib.hid (by omega)
  have hn1 : (w.heap.size = w.heap.size + 1 + 1) = False := by simp; omega
  have hn2 : (w.heap.size + 1 + 1 = w.heap.size) = False := by simp; omega
  have hn3 : (w.heap.size + 1 = w.heap.size) = False := by simp
  have hn4 : (w.heap.size = w.heap.size + 1) = False := by simp
  generalize w.heap.size + 1 + 1 = gr at *
  generalize w.heap.size + 1 = gb at *
  generalize hga : w.heap.size = ga at *
  have ha := HA.out.cell
  have a0 := ha 0
  have a1 := ha 1
  have a2 := ha 2
  have a3 := ha 3
  have a4 := ha 4
  have a5 := ha 5
  have a6 := ha 6
  have hb := HBX.out.cell
  have b0 := hb 0
  have b1 := hb 1
  have b2 := hb 2
  have b3 := hb 3
  have b4 := hb 4
  have b5 := hb 5
  have b6 := hb 6
  have hr := HR.out.cell
  have r0 := hr 0
  have r1 := hr 1
  have r2 := hr 2
  have r3 := hr 3
  have r4 := hr 4
  have r5 := hr 5
  have r6 := hr 6
  have fa := HA.out.frozen
  have fr := HR.out.frozen
  clear ha hb hr
  go_wp2_with fail
  rw [HU.out]
  exact bodyPost_ret (v := .agg #[.int .i64 ({ a with ty := b.ty } : Cx).u, .int .i64 ({ a with ty := b.ty } : Cx).ro, .int .i64 ({ a with ty := b.ty } : Cx).ty, .int .i64 ({ a with ty := b.ty } : Cx).lo.s, .int .u64 ({ a with ty := b.ty } : Cx).lo.c, .int .i64 ({ a with ty := b.ty } : Cx).hi.s, .int .u64 ({ a with ty := b.ty } : Cx).hi.c]) (ctx_ret (a := { a with ty := b.ty }) Try.results13 rfl ((((((((HR.out.far (p := ⟨ga, 2, none⟩) (Nat.ne_of_gt HN.out) _).set 0 _).set 1 _).set 2 _).set 3 _).set 4 _).set 5 _).set 6 _)) rfl ⟨rfl, by first | exact (below_set1 (below_set1 (below_set1 (below_set1 (below_set1 (below_set1 (below_set1 (below_set1 HB.out (Nat.le_refl _) 2 _) HS.out 0 _) HS.out 1 _) HS.out 2 _) HS.out 3 _) HS.out 4 _) HS.out 5 _) HS.out 6 _) | (rw [hga]; exact (below_set1 (below_set1 (below_set1 (below_set1 (below_set1 (below_set1 (below_set1 (below_set1 HB.out (Nat.le_refl _) 2 _) HS.out 0 _) HS.out 1 _) HS.out 2 _) HS.out 3 _) HS.out 4 _) HS.out 5 _) HS.out 6 _))⟩
set_option maxRecDepth 100000 in
set_option maxHeartbeats 8000000 in
theorem changed_3 (a b : Cx) (w : World) : Calls Try.prog 13 #[.agg #[.int .i64 a.u, .int .i64 a.ro, .int .i64 a.ty, .int .i64 a.lo.s, .int .u64 a.lo.c, .int .i64 a.hi.s, .int .u64 a.hi.c], .int .i64 3, .agg #[.int .i64 b.u, .int .i64 b.ro, .int .i64 b.ty, .int .i64 b.lo.s, .int .u64 b.lo.c, .int .i64 b.hi.s, .int .u64 b.hi.c]] w fun e w' => e = .returned (.agg #[.int .i64 (chX a 3 b).u, .int .i64 (chX a 3 b).ro, .int .i64 (chX a 3 b).ty, .int .i64 (chX a 3 b).lo.s, .int .u64 (chX a 3 b).lo.c, .int .i64 (chX a 3 b).hi.s, .int .u64 (chX a 3 b).hi.c]) ∧ Below w.heap.size w w' := by
  have HU : Hid (chX a 3 b = ({ a with lo := b.lo } : Cx)) := Lib.hid rfl
  have HB : Hid (Below w.heap.size w (((w.alloc (.cells #[.int .i64 a.u, .int .i64 a.ro, .int .i64 a.ty, .int .i64 a.lo.s, .int .u64 a.lo.c, .int .i64 a.hi.s, .int .u64 a.hi.c] 34)).alloc (.cells #[.int .i64 b.u, .int .i64 b.ro, .int .i64 b.ty, .int .i64 b.lo.s, .int .u64 b.lo.c, .int .i64 b.hi.s, .int .u64 b.hi.c] 34)).alloc (.cells #[.int .i64 0, .int .i64 0, .int .i64 0, .int .i64 0, .int .u64 0, .int .i64 0, .int .u64 0] 34))) := Lib.hid ((((Below.refl _ _).alloc (Nat.le_refl _) _).alloc (by simp) _).alloc (by simp; omega) _)
  have HA : Hid (Blk (((w.alloc (.cells #[.int .i64 a.u, .int .i64 a.ro, .int .i64 a.ty, .int .i64 a.lo.s, .int .u64 a.lo.c, .int .i64 a.hi.s, .int .u64 a.hi.c] 34)).alloc (.cells #[.int .i64 b.u, .int .i64 b.ro, .int .i64 b.ty, .int .i64 b.lo.s, .int .u64 b.lo.c, .int .i64 b.hi.s, .int .u64 b.hi.c] 34)).alloc (.cells #[.int .i64 0, .int .i64 0, .int .i64 0, .int .i64 0, .int .u64 0, .int .i64 0, .int .u64 0] 34)) w.heap.size 34 #[.int .i64 a.u, .int .i64 a.ro, .int .i64 a.ty, .int .i64 a.lo.s, .int .u64 a.lo.c, .int .i64 a.hi.s, .int .u64 a.hi.c]) := Lib.hid (((Blk.new w _ _).alloc _).alloc _)
  have HBX : Hid (Blk (((w.alloc (.cells #[.int .i64 a.u, .int .i64 a.ro, .int .i64 a.ty, .int .i64 a.lo.s, .int .u64 a.lo.c, .int .i64 a.hi.s, .int .u64 a.hi.c] 34)).alloc (.cells #[.int .i64 b.u, .int .i64 b.ro, .int .i64 b.ty, .int .i64 b.lo.s, .int .u64 b.lo.c, .int .i64 b.hi.s, .int .u64 b.hi.c] 34)).alloc (.cells #[.int .i64 0, .int .i64 0, .int .i64 0, .int .i64 0, .int .u64 0, .int .i64 0, .int .u64 0] 34)) (w.heap.size + 1) 34 #[.int .i64 b.u, .int .i64 b.ro, .int .i64 b.ty, .int .i64 b.lo.s, .int .u64 b.lo.c, .int .i64 b.hi.s, .int .u64 b.hi.c]) := Lib.hid ((two_new' _ _ _ _).alloc _)
  have HR : Hid (Blk (((w.alloc (.cells #[.int .i64 a.u, .int .i64 a.ro, .int .i64 a.ty, .int .i64 a.lo.s, .int .u64 a.lo.c, .int .i64 a.hi.s, .int .u64 a.hi.c] 34)).alloc (.cells #[.int .i64 b.u, .int .i64 b.ro, .int .i64 b.ty, .int .i64 b.lo.s, .int .u64 b.lo.c, .int .i64 b.hi.s, .int .u64 b.hi.c] 34)).alloc (.cells #[.int .i64 0, .int .i64 0, .int .i64 0, .int .i64 0, .int .u64 0, .int .i64 0, .int .u64 0] 34)) (w.heap.size + 1 + 1) 34 #[.int .i64 0, .int .i64 0, .int .i64 0, .int .i64 0, .int .u64 0, .int .i64 0, .int .u64 0]) := Lib.hid (three_new' _ _ _ _ _)
  go_enter Try.func13, Try.ntmps13
  go_upto_region 1 with fail
  generalize ((w.alloc (.cells #[.int .i64 a.u, .int .i64 a.ro, .int .i64 a.ty, .int .i64 a.lo.s, .int .u64 a.lo.c, .int .i64 a.hi.s, .int .u64 a.hi.c] 34)).alloc (.cells #[.int .i64 b.u, .int .i64 b.ro, .int .i64 b.ty, .int .i64 b.lo.s, .int .u64 b.lo.c, .int .i64 b.hi.s, .int .u64 b.hi.c] 34)).alloc (.cells #[.int .i64 0, .int .i64 0, .int .i64 0, .int .i64 0, .int .u64 0, .int .i64 0, .int .u64 0] 34) = W at *
  have HN : Hid (w.heap.size < w.heap.size + 1 + 1) := Lib.hid (by omega)
  have HS : Hid (w.heap.size ≤ w.heap.size + 1 + 1) := Lib.hid (by omega)
  have hn1 : (w.heap.size = w.heap.size + 1 + 1) = False := by simp; omega
  have hn2 : (w.heap.size + 1 + 1 = w.heap.size) = False := by simp; omega
  have hn3 : (w.heap.size + 1 = w.heap.size) = False := by simp
  have hn4 : (w.heap.size = w.heap.size + 1) = False := by simp
  generalize w.heap.size + 1 + 1 = gr at *
  generalize w.heap.size + 1 = gb at *
  generalize hga : w.heap.size = ga at *
  have ha := HA.out.cell
  have a0 := ha 0
  have a1 := ha 1
  have a2 := ha 2
  have a3 := ha 3
  have a4 := ha 4
  have a5 := ha 5
  have a6 := ha 6
  have hb := HBX.out.cell
  have b0 := hb 0
  have b1 := hb 1
  have b2 := hb 2
  have b3 := hb 3
  have b4 := hb 4
  have b5 := hb 5
  have b6 := hb 6
  have hr := HR.out.cell
  have r0 := hr 0
  have r1 := hr 1
  have r2 := hr 2
  have r3 := hr 3
  have r4 := hr 4
  have r5 := hr 5
  have r6 := hr 6
  have fa := HA.out.frozen
  have fr := HR.out.frozen
  clear ha hb hr
  go_wp2_with fail
  rw [HU.out]
  exact bodyPost_ret (v := .agg #[.int .i64 ({ a with lo := b.lo } : Cx).u, .int .i64 ({ a with lo := b.lo } : Cx).ro, .int .i64 ({ a with lo := b.lo } : Cx).ty, .int .i64 ({ a with lo := b.lo } : Cx).lo.s, .int .u64 ({ a with lo := b.lo } : Cx).lo.c, .int .i64 ({ a with lo := b.lo } : Cx).hi.s, .int .u64 ({ a with lo := b.lo } : Cx).hi.c]) (ctx_ret (a := { a with lo := b.lo }) Try.results13 rfl (((((((((HR.out.far (p := ⟨ga, 3, none⟩) (Nat.ne_of_gt HN.out) _).far (p := ⟨ga, 4, none⟩) (Nat.ne_of_gt HN.out) _).set 0 _).set 1 _).set 2 _).set 3 _).set 4 _).set 5 _).set 6 _)) rfl ⟨rfl, by first | exact (below_set1 (below_set1 (below_set1 (below_set1 (below_set1 (below_set1 (below_set1 (below_set1 (below_set1 HB.out (Nat.le_refl _) 3 _) (Nat.le_refl _) 4 _) HS.out 0 _) HS.out 1 _) HS.out 2 _) HS.out 3 _) HS.out 4 _) HS.out 5 _) HS.out 6 _) | (rw [hga]; exact (below_set1 (below_set1 (below_set1 (below_set1 (below_set1 (below_set1 (below_set1 (below_set1 (below_set1 HB.out (Nat.le_refl _) 3 _) (Nat.le_refl _) 4 _) HS.out 0 _) HS.out 1 _) HS.out 2 _) HS.out 3 _) HS.out 4 _) HS.out 5 _) HS.out 6 _))⟩
set_option maxRecDepth 100000 in
set_option maxHeartbeats 8000000 in
theorem changed_4 (a b : Cx) (w : World) : Calls Try.prog 13 #[.agg #[.int .i64 a.u, .int .i64 a.ro, .int .i64 a.ty, .int .i64 a.lo.s, .int .u64 a.lo.c, .int .i64 a.hi.s, .int .u64 a.hi.c], .int .i64 4, .agg #[.int .i64 b.u, .int .i64 b.ro, .int .i64 b.ty, .int .i64 b.lo.s, .int .u64 b.lo.c, .int .i64 b.hi.s, .int .u64 b.hi.c]] w fun e w' => e = .returned (.agg #[.int .i64 (chX a 4 b).u, .int .i64 (chX a 4 b).ro, .int .i64 (chX a 4 b).ty, .int .i64 (chX a 4 b).lo.s, .int .u64 (chX a 4 b).lo.c, .int .i64 (chX a 4 b).hi.s, .int .u64 (chX a 4 b).hi.c]) ∧ Below w.heap.size w w' := by
  have HU : Hid (chX a 4 b = ({ a with hi := b.hi } : Cx)) := Lib.hid rfl
  have HB : Hid (Below w.heap.size w (((w.alloc (.cells #[.int .i64 a.u, .int .i64 a.ro, .int .i64 a.ty, .int .i64 a.lo.s, .int .u64 a.lo.c, .int .i64 a.hi.s, .int .u64 a.hi.c] 34)).alloc (.cells #[.int .i64 b.u, .int .i64 b.ro, .int .i64 b.ty, .int .i64 b.lo.s, .int .u64 b.lo.c, .int .i64 b.hi.s, .int .u64 b.hi.c] 34)).alloc (.cells #[.int .i64 0, .int .i64 0, .int .i64 0, .int .i64 0, .int .u64 0, .int .i64 0, .int .u64 0] 34))) := Lib.hid ((((Below.refl _ _).alloc (Nat.le_refl _) _).alloc (by simp) _).alloc (by simp; omega) _)
  have HA : Hid (Blk (((w.alloc (.cells #[.int .i64 a.u, .int .i64 a.ro, .int .i64 a.ty, .int .i64 a.lo.s, .int .u64 a.lo.c, .int .i64 a.hi.s, .int .u64 a.hi.c] 34)).alloc (.cells #[.int .i64 b.u, .int .i64 b.ro, .int .i64 b.ty, .int .i64 b.lo.s, .int .u64 b.lo.c, .int .i64 b.hi.s, .int .u64 b.hi.c] 34)).alloc (.cells #[.int .i64 0, .int .i64 0, .int .i64 0, .int .i64 0, .int .u64 0, .int .i64 0, .int .u64 0] 34)) w.heap.size 34 #[.int .i64 a.u, .int .i64 a.ro, .int .i64 a.ty, .int .i64 a.lo.s, .int .u64 a.lo.c, .int .i64 a.hi.s, .int .u64 a.hi.c]) := Lib.hid (((Blk.new w _ _).alloc _).alloc _)
  have HBX : Hid (Blk (((w.alloc (.cells #[.int .i64 a.u, .int .i64 a.ro, .int .i64 a.ty, .int .i64 a.lo.s, .int .u64 a.lo.c, .int .i64 a.hi.s, .int .u64 a.hi.c] 34)).alloc (.cells #[.int .i64 b.u, .int .i64 b.ro, .int .i64 b.ty, .int .i64 b.lo.s, .int .u64 b.lo.c, .int .i64 b.hi.s, .int .u64 b.hi.c] 34)).alloc (.cells #[.int .i64 0, .int .i64 0, .int .i64 0, .int .i64 0, .int .u64 0, .int .i64 0, .int .u64 0] 34)) (w.heap.size + 1) 34 #[.int .i64 b.u, .int .i64 b.ro, .int .i64 b.ty, .int .i64 b.lo.s, .int .u64 b.lo.c, .int .i64 b.hi.s, .int .u64 b.hi.c]) := Lib.hid ((two_new' _ _ _ _).alloc _)
  have HR : Hid (Blk (((w.alloc (.cells #[.int .i64 a.u, .int .i64 a.ro, .int .i64 a.ty, .int .i64 a.lo.s, .int .u64 a.lo.c, .int .i64 a.hi.s, .int .u64 a.hi.c] 34)).alloc (.cells #[.int .i64 b.u, .int .i64 b.ro, .int .i64 b.ty, .int .i64 b.lo.s, .int .u64 b.lo.c, .int .i64 b.hi.s, .int .u64 b.hi.c] 34)).alloc (.cells #[.int .i64 0, .int .i64 0, .int .i64 0, .int .i64 0, .int .u64 0, .int .i64 0, .int .u64 0] 34)) (w.heap.size + 1 + 1) 34 #[.int .i64 0, .int .i64 0, .int .i64 0, .int .i64 0, .int .u64 0, .int .i64 0, .int .u64 0]) := Lib.hid (three_new' _ _ _ _ _)
  go_enter Try.func13, Try.ntmps13
  go_upto_region 1 with fail
  generalize ((w.alloc (.cells #[.int .i64 a.u, .int .i64 a.ro, .int .i64 a.ty, .int .i64 a.lo.s, .int .u64 a.lo.c, .int .i64 a.hi.s, .int .u64 a.hi.c] 34)).alloc (.cells #[.int .i64 b.u, .int .i64 b.ro, .int .i64 b.ty, .int .i64 b.lo.s, .int .u64 b.lo.c, .int .i64 b.hi.s, .int .u64 b.hi.c] 34)).alloc (.cells #[.int .i64 0, .int .i64 0, .int .i64 0, .int .i64 0, .int .u64 0, .int .i64 0, .int .u64 0] 34) = W at *
  have HN : Hid (w.heap.size < w.heap.size + 1 + 1) := Lib.hid (by omega)
  have HS : Hid (w.heap.size ≤ w.heap.size + 1 + 1) := Lib.hid (by omega)
  have hn1 : (w.heap.size = w.heap.size + 1 + 1) = False := by simp; omega
  have hn2 : (w.heap.size + 1 + 1 = w.heap.size) = False := by simp; omega
  have hn3 : (w.heap.size + 1 = w.heap.size) = False := by simp
  have hn4 : (w.heap.size = w.heap.size + 1) = False := by simp
  generalize w.heap.size + 1 + 1 = gr at *
  generalize w.heap.size + 1 = gb at *
  generalize hga : w.heap.size = ga at *
  have ha := HA.out.cell
  have a0 := ha 0
  have a1 := ha 1
  have a2 := ha 2
  have a3 := ha 3
  have a4 := ha 4
  have a5 := ha 5
  have a6 := ha 6
  have hb := HBX.out.cell
  have b0 := hb 0
  have b1 := hb 1
  have b2 := hb 2
  have b3 := hb 3
  have b4 := hb 4
  have b5 := hb 5
  have b6 := hb 6
  have hr := HR.out.cell
  have r0 := hr 0
  have r1 := hr 1
  have r2 := hr 2
  have r3 := hr 3
  have r4 := hr 4
  have r5 := hr 5
  have r6 := hr 6
  have fa := HA.out.frozen
  have fr := HR.out.frozen
  clear ha hb hr
  go_wp2_with fail
  rw [HU.out]
  exact bodyPost_ret (v := .agg #[.int .i64 ({ a with hi := b.hi } : Cx).u, .int .i64 ({ a with hi := b.hi } : Cx).ro, .int .i64 ({ a with hi := b.hi } : Cx).ty, .int .i64 ({ a with hi := b.hi } : Cx).lo.s, .int .u64 ({ a with hi := b.hi } : Cx).lo.c, .int .i64 ({ a with hi := b.hi } : Cx).hi.s, .int .u64 ({ a with hi := b.hi } : Cx).hi.c]) (ctx_ret (a := { a with hi := b.hi }) Try.results13 rfl (((((((((HR.out.far (p := ⟨ga, 5, none⟩) (Nat.ne_of_gt HN.out) _).far (p := ⟨ga, 6, none⟩) (Nat.ne_of_gt HN.out) _).set 0 _).set 1 _).set 2 _).set 3 _).set 4 _).set 5 _).set 6 _)) rfl ⟨rfl, by first | exact (below_set1 (below_set1 (below_set1 (below_set1 (below_set1 (below_set1 (below_set1 (below_set1 (below_set1 HB.out (Nat.le_refl _) 5 _) (Nat.le_refl _) 6 _) HS.out 0 _) HS.out 1 _) HS.out 2 _) HS.out 3 _) HS.out 4 _) HS.out 5 _) HS.out 6 _) | (rw [hga]; exact (below_set1 (below_set1 (below_set1 (below_set1 (below_set1 (below_set1 (below_set1 (below_set1 (below_set1 HB.out (Nat.le_refl _) 5 _) (Nat.le_refl _) 6 _) HS.out 0 _) HS.out 1 _) HS.out 2 _) HS.out 3 _) HS.out 4 _) HS.out 5 _) HS.out 6 _))⟩
theorem changed_c (a b : Cx) (k : Nat) (hk : k < 5) (w : World) : Calls Try.prog 13 #[.agg #[.int .i64 a.u, .int .i64 a.ro, .int .i64 a.ty, .int .i64 a.lo.s, .int .u64 a.lo.c, .int .i64 a.hi.s, .int .u64 a.hi.c], .int .i64 k, .agg #[.int .i64 b.u, .int .i64 b.ro, .int .i64 b.ty, .int .i64 b.lo.s, .int .u64 b.lo.c, .int .i64 b.hi.s, .int .u64 b.hi.c]] w fun e w' => e = .returned (.agg #[.int .i64 (chX a k b).u, .int .i64 (chX a k b).ro, .int .i64 (chX a k b).ty, .int .i64 (chX a k b).lo.s, .int .u64 (chX a k b).lo.c, .int .i64 (chX a k b).hi.s, .int .u64 (chX a k b).hi.c]) ∧ Below w.heap.size w w' := by
  match k, hk with
  | 0, _ => exact changed_0 a b w
  | 1, _ => exact changed_1 a b w
  | 2, _ => exact changed_2 a b w
  | 3, _ => exact changed_3 a b w
  | 4, _ => exact changed_4 a b w
/-- a case with another attribute -/
def chC (c : Ca) (n : Nat) (d : Ca) : Ca := if n / 5 = 0 then { c with c1 := chX c.c1 (n % 5 : Nat) d.c1 } else if n / 5 = 1 then { c with c2 := chX c.c2 (n % 5 : Nat) d.c2 } else { c with c3 := chX c.c3 (n % 5 : Nat) d.c3 }
theorem atX_ch (a b : Cx) (k j : Nat) (hk : k < 5) (hj : j < 5) (h : j ≠ k) : atX (chX a k b) j = atX a j := by
  have hk' : k = 0 ∨ k = 1 ∨ k = 2 ∨ k = 3 ∨ k = 4 := by omega
  have hj' : j = 0 ∨ j = 1 ∨ j = 2 ∨ j = 3 ∨ j = 4 := by omega
  rcases hk' with rfl | rfl | rfl | rfl | rfl <;> rcases hj' with rfl | rfl | rfl | rfl | rfl <;> first | exact absurd rfl h | rfl
theorem rd_ch (c d : Ca) (n m : Nat) (hn : n < 15) (hm : m < 15) (h : m ≠ n) : rdX (chC c n d) m = rdX c m := by
  unfold rdX
  have e : ((m : Nat) : Int).tmod 5 = ((m % 5 : Nat) : Int) := by rw [Int.tmod_eq_emod_of_nonneg (by omega)]; omega
  rw [e]
  have key : m / 5 = n / 5 → m % 5 ≠ n % 5 := fun h1 h2 => h (by omega)
  have hn5 : n % 5 < 5 := Nat.mod_lt _ (by omega)
  have hm5 : m % 5 < 5 := Nat.mod_lt _ (by omega)
  have h1 : n / 5 = 0 ∨ n / 5 = 1 ∨ n / 5 = 2 := by omega
  have h2 : m / 5 = 0 ∨ m / 5 = 1 ∨ m / 5 = 2 := by omega
  unfold chC ctxX
  rcases h1 with h1 | h1 | h1 <;> rcases h2 with h2 | h2 | h2 <;> simp only [h1, h2, Nat.reduceEqDiff, reduceIte] <;> first | rfl | exact atX_ch _ _ _ _ hn5 hm5 (key (by omega))
end Go.Proofs.Ytamcfmfkmekkfaa
namespace Go.Proofs.Ytamcfmfkmekkfaa
open Go.RowKit Go
theorem valX_ch (c d : Ca) (m : Nat) (hm : m < 15) : ∀ (n k : Nat) (x : X), n ≤ k → okW n x → mnX m k x = false → valX (chC c m d) n x = valX c n x
  | 0, _, x, _, h, _ => False.elim h
  | n + 1, 0, x, h, _, _ => absurd h (by omega)
  | n + 1, k + 1, x, hnk, hok, hmn => by
    have e : mnX m (k + 1) x = (hitX m x || x.ks.any (mnX m k)) := rfl
    rw [e, Bool.or_eq_false_iff, List.any_eq_false] at hmn
    obtain ⟨hh, hks⟩ := hmn
    have kid : ∀ i, i < x.ks.length → valX (chC c m d) n (kidX x i) = valX c n (kidX x i) := fun i hi => by
      rw [kid_at hi]
      have hx := List.getElem_mem hi
      exact valX_ch c d m hm n k _ (by omega) (hok.2.2.2 _ hx) (by simpa using hks _ hx)
    have u : ∀ c', valX c' (n + 1) x = if x.op = 2 then !valX c' n (kidX x 0) else if x.op = 3 then valX c' n (kidX x 0) && valX c' n (kidX x 1) else if x.op = 4 then valX c' n (kidX x 0) || valX c' n (kidX x 1) else if x.op = 9 then hasS x.st (rdX c' x.a.toNat).s else relX (rdX c' x.a.toNat) x.r (rdX c' x.b.toNat) := fun _ => rfl
    rw [u, u]
    unfold hitX at hh
    have hh := of_decide_eq_false hh
    have hok1 := hok.1
    unfold okN at hok1
    rcases hok1 with ⟨h2, hl⟩ | ⟨h3 | h4, hl⟩ | ⟨h8, ha, hb⟩ | ⟨h9, ha⟩
    · rw [kid 0 (by omega)]; simp only [h2, if_true]
    · have n2 : ¬ x.op = 2 := by omega
      rw [kid 0 (by omega), kid 1 (by omega)]; simp only [if_neg n2, if_pos h3]
    · have n2 : ¬ x.op = 2 := by omega
      have n3 : ¬ x.op = 3 := by omega
      rw [kid 0 (by omega), kid 1 (by omega)]; simp only [if_neg n2, if_neg n3, if_pos h4]
    · have n2 : ¬ x.op = 2 := by omega
      have n3 : ¬ x.op = 3 := by omega
      have n4 : ¬ x.op = 4 := by omega
      have n9 : ¬ x.op = 9 := by omega
      have na : ¬ x.a = m := fun e => hh (.inl ⟨h8, .inl e⟩)
      have nb : ¬ x.b = m := fun e => hh (.inl ⟨h8, .inr e⟩)
      simp only [if_neg n2, if_neg n3, if_neg n4, if_neg n9]
      rw [rd_ch c d m x.a.toNat hm (by omega) (by omega), rd_ch c d m x.b.toNat hm (by omega) (by omega)]
    · have n2 : ¬ x.op = 2 := by omega
      have n3 : ¬ x.op = 3 := by omega
      have n4 : ¬ x.op = 4 := by omega
      have na : ¬ x.a = m := fun e => hh (.inr ⟨h9, e⟩)
      simp only [if_neg n2, if_neg n3, if_neg n4, if_pos h9]
      rw [rd_ch c d m x.a.toNat hm (by omega) (by omega)]
theorem evX_ch (c d : Ca) (m : Nat) (hm : m < 15) (x : X) (h : mnX m 15 x = false) (hw : wfR 12 x = true) : evX (chC c m d) x = evX c x := by
  unfold evX
  rw [valX_ch c d m hm 12 15 x (by omega) (okW_of 12 x hw) h]
theorem agg_ctx (w : World) : (isAgg 34).run Try.prog w = .ok true w := by go_simp
theorem load_first {c d : Ca} {g : Nat} {ty : TypeId} {u : World} (h : Blk u g ty #[.int .i64 c.c1.u, .int .i64 c.c1.ro, .int .i64 c.c1.ty, .int .i64 c.c1.lo.s, .int .u64 c.c1.lo.c, .int .i64 c.c1.hi.s, .int .u64 c.c1.hi.c, .int .i64 c.c2.u, .int .i64 c.c2.ro, .int .i64 c.c2.ty, .int .i64 c.c2.lo.s, .int .u64 c.c2.lo.c, .int .i64 c.c2.hi.s, .int .u64 c.c2.hi.c, .int .i64 c.c3.u, .int .i64 c.c3.ro, .int .i64 c.c3.ty, .int .i64 c.c3.lo.s, .int .u64 c.c3.lo.c, .int .i64 c.c3.hi.s, .int .u64 c.c3.hi.c, .int .i64 d.c1.u, .int .i64 d.c1.ro, .int .i64 d.c1.ty, .int .i64 d.c1.lo.s, .int .u64 d.c1.lo.c, .int .i64 d.c1.hi.s, .int .u64 d.c1.hi.c, .int .i64 d.c2.u, .int .i64 d.c2.ro, .int .i64 d.c2.ty, .int .i64 d.c2.lo.s, .int .u64 d.c2.lo.c, .int .i64 d.c2.hi.s, .int .u64 d.c2.hi.c, .int .i64 d.c3.u, .int .i64 d.c3.ro, .int .i64 d.c3.ty, .int .i64 d.c3.lo.s, .int .u64 d.c3.lo.c, .int .i64 d.c3.hi.s, .int .u64 d.c3.hi.c]) : (Instr.loadAt 36 (.pointer (some ⟨g, 0, none⟩))).run Try.prog u = .ok (.agg #[.int .i64 c.c1.u, .int .i64 c.c1.ro, .int .i64 c.c1.ty, .int .i64 c.c1.lo.s, .int .u64 c.c1.lo.c, .int .i64 c.c1.hi.s, .int .u64 c.c1.hi.c, .int .i64 c.c2.u, .int .i64 c.c2.ro, .int .i64 c.c2.ty, .int .i64 c.c2.lo.s, .int .u64 c.c2.lo.c, .int .i64 c.c2.hi.s, .int .u64 c.c2.hi.c, .int .i64 c.c3.u, .int .i64 c.c3.ro, .int .i64 c.c3.ty, .int .i64 c.c3.lo.s, .int .u64 c.c3.lo.c, .int .i64 c.c3.hi.s, .int .u64 c.c3.hi.c]) u := by
  refine loadAt_agg [.int .i64 c.c1.u, .int .i64 c.c1.ro, .int .i64 c.c1.ty, .int .i64 c.c1.lo.s, .int .u64 c.c1.lo.c, .int .i64 c.c1.hi.s, .int .u64 c.c1.hi.c, .int .i64 c.c2.u, .int .i64 c.c2.ro, .int .i64 c.c2.ty, .int .i64 c.c2.lo.s, .int .u64 c.c2.lo.c, .int .i64 c.c2.hi.s, .int .u64 c.c2.hi.c, .int .i64 c.c3.u, .int .i64 c.c3.ro, .int .i64 c.c3.ty, .int .i64 c.c3.lo.s, .int .u64 c.c3.lo.c, .int .i64 c.c3.hi.s, .int .u64 c.c3.hi.c] (agg_case u) (size_case' u) (fun j v hj => ?_)
  have hlt : j < ([.int .i64 c.c1.u, .int .i64 c.c1.ro, .int .i64 c.c1.ty, .int .i64 c.c1.lo.s, .int .u64 c.c1.lo.c, .int .i64 c.c1.hi.s, .int .u64 c.c1.hi.c, .int .i64 c.c2.u, .int .i64 c.c2.ro, .int .i64 c.c2.ty, .int .i64 c.c2.lo.s, .int .u64 c.c2.lo.c, .int .i64 c.c2.hi.s, .int .u64 c.c2.hi.c, .int .i64 c.c3.u, .int .i64 c.c3.ro, .int .i64 c.c3.ty, .int .i64 c.c3.lo.s, .int .u64 c.c3.lo.c, .int .i64 c.c3.hi.s, .int .u64 c.c3.hi.c] : List Value).length := (List.getElem?_eq_some_iff.1 hj).1
  have e : (#[.int .i64 c.c1.u, .int .i64 c.c1.ro, .int .i64 c.c1.ty, .int .i64 c.c1.lo.s, .int .u64 c.c1.lo.c, .int .i64 c.c1.hi.s, .int .u64 c.c1.hi.c, .int .i64 c.c2.u, .int .i64 c.c2.ro, .int .i64 c.c2.ty, .int .i64 c.c2.lo.s, .int .u64 c.c2.lo.c, .int .i64 c.c2.hi.s, .int .u64 c.c2.hi.c, .int .i64 c.c3.u, .int .i64 c.c3.ro, .int .i64 c.c3.ty, .int .i64 c.c3.lo.s, .int .u64 c.c3.lo.c, .int .i64 c.c3.hi.s, .int .u64 c.c3.hi.c, .int .i64 d.c1.u, .int .i64 d.c1.ro, .int .i64 d.c1.ty, .int .i64 d.c1.lo.s, .int .u64 d.c1.lo.c, .int .i64 d.c1.hi.s, .int .u64 d.c1.hi.c, .int .i64 d.c2.u, .int .i64 d.c2.ro, .int .i64 d.c2.ty, .int .i64 d.c2.lo.s, .int .u64 d.c2.lo.c, .int .i64 d.c2.hi.s, .int .u64 d.c2.hi.c, .int .i64 d.c3.u, .int .i64 d.c3.ro, .int .i64 d.c3.ty, .int .i64 d.c3.lo.s, .int .u64 d.c3.lo.c, .int .i64 d.c3.hi.s, .int .u64 d.c3.hi.c] : Array Value) = (([.int .i64 c.c1.u, .int .i64 c.c1.ro, .int .i64 c.c1.ty, .int .i64 c.c1.lo.s, .int .u64 c.c1.lo.c, .int .i64 c.c1.hi.s, .int .u64 c.c1.hi.c, .int .i64 c.c2.u, .int .i64 c.c2.ro, .int .i64 c.c2.ty, .int .i64 c.c2.lo.s, .int .u64 c.c2.lo.c, .int .i64 c.c2.hi.s, .int .u64 c.c2.hi.c, .int .i64 c.c3.u, .int .i64 c.c3.ro, .int .i64 c.c3.ty, .int .i64 c.c3.lo.s, .int .u64 c.c3.lo.c, .int .i64 c.c3.hi.s, .int .u64 c.c3.hi.c] : List Value) ++ ([.int .i64 d.c1.u, .int .i64 d.c1.ro, .int .i64 d.c1.ty, .int .i64 d.c1.lo.s, .int .u64 d.c1.lo.c, .int .i64 d.c1.hi.s, .int .u64 d.c1.hi.c, .int .i64 d.c2.u, .int .i64 d.c2.ro, .int .i64 d.c2.ty, .int .i64 d.c2.lo.s, .int .u64 d.c2.lo.c, .int .i64 d.c2.hi.s, .int .u64 d.c2.hi.c, .int .i64 d.c3.u, .int .i64 d.c3.ro, .int .i64 d.c3.ty, .int .i64 d.c3.lo.s, .int .u64 d.c3.lo.c, .int .i64 d.c3.hi.s, .int .u64 d.c3.hi.c] : List Value)).toArray := rfl
  rw [Nat.zero_add, h.cell j, e, List.getElem?_toArray, List.getElem?_append_left hlt]
  exact hj
theorem load_second1 {c d : Ca} {g : Nat} {ty : TypeId} {u : World} (h : Blk u g ty #[.int .i64 c.c1.u, .int .i64 c.c1.ro, .int .i64 c.c1.ty, .int .i64 c.c1.lo.s, .int .u64 c.c1.lo.c, .int .i64 c.c1.hi.s, .int .u64 c.c1.hi.c, .int .i64 c.c2.u, .int .i64 c.c2.ro, .int .i64 c.c2.ty, .int .i64 c.c2.lo.s, .int .u64 c.c2.lo.c, .int .i64 c.c2.hi.s, .int .u64 c.c2.hi.c, .int .i64 c.c3.u, .int .i64 c.c3.ro, .int .i64 c.c3.ty, .int .i64 c.c3.lo.s, .int .u64 c.c3.lo.c, .int .i64 c.c3.hi.s, .int .u64 c.c3.hi.c, .int .i64 d.c1.u, .int .i64 d.c1.ro, .int .i64 d.c1.ty, .int .i64 d.c1.lo.s, .int .u64 d.c1.lo.c, .int .i64 d.c1.hi.s, .int .u64 d.c1.hi.c, .int .i64 d.c2.u, .int .i64 d.c2.ro, .int .i64 d.c2.ty, .int .i64 d.c2.lo.s, .int .u64 d.c2.lo.c, .int .i64 d.c2.hi.s, .int .u64 d.c2.hi.c, .int .i64 d.c3.u, .int .i64 d.c3.ro, .int .i64 d.c3.ty, .int .i64 d.c3.lo.s, .int .u64 d.c3.lo.c, .int .i64 d.c3.hi.s, .int .u64 d.c3.hi.c]) : (Instr.loadAt 34 (.pointer (some ⟨g, 21, none⟩))).run Try.prog u = .ok (.agg #[.int .i64 d.c1.u, .int .i64 d.c1.ro, .int .i64 d.c1.ty, .int .i64 d.c1.lo.s, .int .u64 d.c1.lo.c, .int .i64 d.c1.hi.s, .int .u64 d.c1.hi.c]) u := by
  refine loadAt_agg [.int .i64 d.c1.u, .int .i64 d.c1.ro, .int .i64 d.c1.ty, .int .i64 d.c1.lo.s, .int .u64 d.c1.lo.c, .int .i64 d.c1.hi.s, .int .u64 d.c1.hi.c] (agg_ctx u) (size_ctx u) (fun j v hj => ?_)
  rcases j with _ | _ | _ | _ | _ | _ | _ | j
  all_goals first
    | (simp only [List.getElem?_cons_zero, List.getElem?_cons_succ, Option.some.injEq] at hj; subst hj; exact h.cell _)
    | simp at hj
theorem load_part1 {c : Ca} {g : Nat} {ty : TypeId} {u : World} (h : Blk u g ty #[.int .i64 c.c1.u, .int .i64 c.c1.ro, .int .i64 c.c1.ty, .int .i64 c.c1.lo.s, .int .u64 c.c1.lo.c, .int .i64 c.c1.hi.s, .int .u64 c.c1.hi.c, .int .i64 c.c2.u, .int .i64 c.c2.ro, .int .i64 c.c2.ty, .int .i64 c.c2.lo.s, .int .u64 c.c2.lo.c, .int .i64 c.c2.hi.s, .int .u64 c.c2.hi.c, .int .i64 c.c3.u, .int .i64 c.c3.ro, .int .i64 c.c3.ty, .int .i64 c.c3.lo.s, .int .u64 c.c3.lo.c, .int .i64 c.c3.hi.s, .int .u64 c.c3.hi.c]) : (Instr.loadAt 34 (.pointer (some ⟨g, 0, none⟩))).run Try.prog u = .ok (.agg #[.int .i64 c.c1.u, .int .i64 c.c1.ro, .int .i64 c.c1.ty, .int .i64 c.c1.lo.s, .int .u64 c.c1.lo.c, .int .i64 c.c1.hi.s, .int .u64 c.c1.hi.c]) u := by
  refine loadAt_agg [.int .i64 c.c1.u, .int .i64 c.c1.ro, .int .i64 c.c1.ty, .int .i64 c.c1.lo.s, .int .u64 c.c1.lo.c, .int .i64 c.c1.hi.s, .int .u64 c.c1.hi.c] (agg_ctx u) (size_ctx u) (fun j v hj => ?_)
  rcases j with _ | _ | _ | _ | _ | _ | _ | j
  all_goals first
    | (simp only [List.getElem?_cons_zero, List.getElem?_cons_succ, Option.some.injEq] at hj; subst hj; exact h.cell _)
    | simp at hj
theorem load_second2 {c d : Ca} {g : Nat} {ty : TypeId} {u : World} (h : Blk u g ty #[.int .i64 c.c1.u, .int .i64 c.c1.ro, .int .i64 c.c1.ty, .int .i64 c.c1.lo.s, .int .u64 c.c1.lo.c, .int .i64 c.c1.hi.s, .int .u64 c.c1.hi.c, .int .i64 c.c2.u, .int .i64 c.c2.ro, .int .i64 c.c2.ty, .int .i64 c.c2.lo.s, .int .u64 c.c2.lo.c, .int .i64 c.c2.hi.s, .int .u64 c.c2.hi.c, .int .i64 c.c3.u, .int .i64 c.c3.ro, .int .i64 c.c3.ty, .int .i64 c.c3.lo.s, .int .u64 c.c3.lo.c, .int .i64 c.c3.hi.s, .int .u64 c.c3.hi.c, .int .i64 d.c1.u, .int .i64 d.c1.ro, .int .i64 d.c1.ty, .int .i64 d.c1.lo.s, .int .u64 d.c1.lo.c, .int .i64 d.c1.hi.s, .int .u64 d.c1.hi.c, .int .i64 d.c2.u, .int .i64 d.c2.ro, .int .i64 d.c2.ty, .int .i64 d.c2.lo.s, .int .u64 d.c2.lo.c, .int .i64 d.c2.hi.s, .int .u64 d.c2.hi.c, .int .i64 d.c3.u, .int .i64 d.c3.ro, .int .i64 d.c3.ty, .int .i64 d.c3.lo.s, .int .u64 d.c3.lo.c, .int .i64 d.c3.hi.s, .int .u64 d.c3.hi.c]) : (Instr.loadAt 34 (.pointer (some ⟨g, 28, none⟩))).run Try.prog u = .ok (.agg #[.int .i64 d.c2.u, .int .i64 d.c2.ro, .int .i64 d.c2.ty, .int .i64 d.c2.lo.s, .int .u64 d.c2.lo.c, .int .i64 d.c2.hi.s, .int .u64 d.c2.hi.c]) u := by
  refine loadAt_agg [.int .i64 d.c2.u, .int .i64 d.c2.ro, .int .i64 d.c2.ty, .int .i64 d.c2.lo.s, .int .u64 d.c2.lo.c, .int .i64 d.c2.hi.s, .int .u64 d.c2.hi.c] (agg_ctx u) (size_ctx u) (fun j v hj => ?_)
  rcases j with _ | _ | _ | _ | _ | _ | _ | j
  all_goals first
    | (simp only [List.getElem?_cons_zero, List.getElem?_cons_succ, Option.some.injEq] at hj; subst hj; exact h.cell _)
    | simp at hj
theorem load_part2 {c : Ca} {g : Nat} {ty : TypeId} {u : World} (h : Blk u g ty #[.int .i64 c.c1.u, .int .i64 c.c1.ro, .int .i64 c.c1.ty, .int .i64 c.c1.lo.s, .int .u64 c.c1.lo.c, .int .i64 c.c1.hi.s, .int .u64 c.c1.hi.c, .int .i64 c.c2.u, .int .i64 c.c2.ro, .int .i64 c.c2.ty, .int .i64 c.c2.lo.s, .int .u64 c.c2.lo.c, .int .i64 c.c2.hi.s, .int .u64 c.c2.hi.c, .int .i64 c.c3.u, .int .i64 c.c3.ro, .int .i64 c.c3.ty, .int .i64 c.c3.lo.s, .int .u64 c.c3.lo.c, .int .i64 c.c3.hi.s, .int .u64 c.c3.hi.c]) : (Instr.loadAt 34 (.pointer (some ⟨g, 7, none⟩))).run Try.prog u = .ok (.agg #[.int .i64 c.c2.u, .int .i64 c.c2.ro, .int .i64 c.c2.ty, .int .i64 c.c2.lo.s, .int .u64 c.c2.lo.c, .int .i64 c.c2.hi.s, .int .u64 c.c2.hi.c]) u := by
  refine loadAt_agg [.int .i64 c.c2.u, .int .i64 c.c2.ro, .int .i64 c.c2.ty, .int .i64 c.c2.lo.s, .int .u64 c.c2.lo.c, .int .i64 c.c2.hi.s, .int .u64 c.c2.hi.c] (agg_ctx u) (size_ctx u) (fun j v hj => ?_)
  rcases j with _ | _ | _ | _ | _ | _ | _ | j
  all_goals first
    | (simp only [List.getElem?_cons_zero, List.getElem?_cons_succ, Option.some.injEq] at hj; subst hj; exact h.cell _)
    | simp at hj
theorem load_second3 {c d : Ca} {g : Nat} {ty : TypeId} {u : World} (h : Blk u g ty #[.int .i64 c.c1.u, .int .i64 c.c1.ro, .int .i64 c.c1.ty, .int .i64 c.c1.lo.s, .int .u64 c.c1.lo.c, .int .i64 c.c1.hi.s, .int .u64 c.c1.hi.c, .int .i64 c.c2.u, .int .i64 c.c2.ro, .int .i64 c.c2.ty, .int .i64 c.c2.lo.s, .int .u64 c.c2.lo.c, .int .i64 c.c2.hi.s, .int .u64 c.c2.hi.c, .int .i64 c.c3.u, .int .i64 c.c3.ro, .int .i64 c.c3.ty, .int .i64 c.c3.lo.s, .int .u64 c.c3.lo.c, .int .i64 c.c3.hi.s, .int .u64 c.c3.hi.c, .int .i64 d.c1.u, .int .i64 d.c1.ro, .int .i64 d.c1.ty, .int .i64 d.c1.lo.s, .int .u64 d.c1.lo.c, .int .i64 d.c1.hi.s, .int .u64 d.c1.hi.c, .int .i64 d.c2.u, .int .i64 d.c2.ro, .int .i64 d.c2.ty, .int .i64 d.c2.lo.s, .int .u64 d.c2.lo.c, .int .i64 d.c2.hi.s, .int .u64 d.c2.hi.c, .int .i64 d.c3.u, .int .i64 d.c3.ro, .int .i64 d.c3.ty, .int .i64 d.c3.lo.s, .int .u64 d.c3.lo.c, .int .i64 d.c3.hi.s, .int .u64 d.c3.hi.c]) : (Instr.loadAt 34 (.pointer (some ⟨g, 35, none⟩))).run Try.prog u = .ok (.agg #[.int .i64 d.c3.u, .int .i64 d.c3.ro, .int .i64 d.c3.ty, .int .i64 d.c3.lo.s, .int .u64 d.c3.lo.c, .int .i64 d.c3.hi.s, .int .u64 d.c3.hi.c]) u := by
  refine loadAt_agg [.int .i64 d.c3.u, .int .i64 d.c3.ro, .int .i64 d.c3.ty, .int .i64 d.c3.lo.s, .int .u64 d.c3.lo.c, .int .i64 d.c3.hi.s, .int .u64 d.c3.hi.c] (agg_ctx u) (size_ctx u) (fun j v hj => ?_)
  rcases j with _ | _ | _ | _ | _ | _ | _ | j
  all_goals first
    | (simp only [List.getElem?_cons_zero, List.getElem?_cons_succ, Option.some.injEq] at hj; subst hj; exact h.cell _)
    | simp at hj
theorem load_part3 {c : Ca} {g : Nat} {ty : TypeId} {u : World} (h : Blk u g ty #[.int .i64 c.c1.u, .int .i64 c.c1.ro, .int .i64 c.c1.ty, .int .i64 c.c1.lo.s, .int .u64 c.c1.lo.c, .int .i64 c.c1.hi.s, .int .u64 c.c1.hi.c, .int .i64 c.c2.u, .int .i64 c.c2.ro, .int .i64 c.c2.ty, .int .i64 c.c2.lo.s, .int .u64 c.c2.lo.c, .int .i64 c.c2.hi.s, .int .u64 c.c2.hi.c, .int .i64 c.c3.u, .int .i64 c.c3.ro, .int .i64 c.c3.ty, .int .i64 c.c3.lo.s, .int .u64 c.c3.lo.c, .int .i64 c.c3.hi.s, .int .u64 c.c3.hi.c]) : (Instr.loadAt 34 (.pointer (some ⟨g, 14, none⟩))).run Try.prog u = .ok (.agg #[.int .i64 c.c3.u, .int .i64 c.c3.ro, .int .i64 c.c3.ty, .int .i64 c.c3.lo.s, .int .u64 c.c3.lo.c, .int .i64 c.c3.hi.s, .int .u64 c.c3.hi.c]) u := by
  refine loadAt_agg [.int .i64 c.c3.u, .int .i64 c.c3.ro, .int .i64 c.c3.ty, .int .i64 c.c3.lo.s, .int .u64 c.c3.lo.c, .int .i64 c.c3.hi.s, .int .u64 c.c3.hi.c] (agg_ctx u) (size_ctx u) (fun j v hj => ?_)
  rcases j with _ | _ | _ | _ | _ | _ | _ | j
  all_goals first
    | (simp only [List.getElem?_cons_zero, List.getElem?_cons_succ, Option.some.injEq] at hj; subst hj; exact h.cell _)
    | simp at hj
end Go.Proofs.Ytamcfmfkmekkfaa
namespace Go.Proofs.Ytamcfmfkmekkfaa
open Go.RowKit Go
def mr8 (gc : Nat) (c : Ca) (n : Int) (r : Nat) (W0 : World) (k : Nat) (v : Value) (u : World) : Prop := match k with
  | 0 => v = .pointer (some ⟨gc, 0, none⟩)
  | 1 => v = .agg #[.int .i64 c.c1.u, .int .i64 c.c1.ro, .int .i64 c.c1.ty, .int .i64 c.c1.lo.s, .int .u64 c.c1.lo.c, .int .i64 c.c1.hi.s, .int .u64 c.c1.hi.c, .int .i64 c.c2.u, .int .i64 c.c2.ro, .int .i64 c.c2.ty, .int .i64 c.c2.lo.s, .int .u64 c.c2.lo.c, .int .i64 c.c2.hi.s, .int .u64 c.c2.hi.c, .int .i64 c.c3.u, .int .i64 c.c3.ro, .int .i64 c.c3.ty, .int .i64 c.c3.lo.s, .int .u64 c.c3.lo.c, .int .i64 c.c3.hi.s, .int .u64 c.c3.hi.c]
  | 2 => v = .int .i64 n
  | 3 => v = .int .i64 r
  | 4 => ∃ g, v = .pointer (some ⟨g, 0, none⟩) ∧ W0.heap.size ≤ g ∧ Blk u g 36 #[.int .i64 0, .int .i64 0, .int .i64 0, .int .i64 0, .int .u64 0, .int .i64 0, .int .u64 0, .int .i64 0, .int .i64 0, .int .i64 0, .int .i64 0, .int .u64 0, .int .i64 0, .int .u64 0, .int .i64 0, .int .i64 0, .int .i64 0, .int .i64 0, .int .u64 0, .int .i64 0, .int .u64 0]
  | _ => True
theorem mr8_keep {gc : Nat} {c : Ca} {n : Int} {r : Nat} {W0 : World} {k : Nat} {v : Value} {u u' : World} (h : mr8 gc c n r W0 k v u) (hb : Below u.heap.size u u') : mr8 gc c n r W0 k v u' := by
  unfold mr8 at h ⊢
  split at h
  iterate 4 exact h
  · obtain ⟨g, h1, h2, h3⟩ := h
    exact ⟨g, h1, h2, h3.keep hb⟩
  · trivial
set_option maxRecDepth 100000 in
set_option maxHeartbeats 32000000 in
theorem lawMentions_c (x : X) (vn vk : Value) (n : Int) (c d : Ca) (w : World) (hV : XV w vn vk x) : Calls Try.prog 5 #[.agg #[.int .i64 x.op, .int .i64 x.a, .int .i64 x.r, .int .i64 x.b, vn, .int .u64 x.st.a, .int .u64 x.st.b, .int .u64 x.st.c, .int .u64 x.st.d, vk], .int .i64 n, .agg #[.int .i64 c.c1.u, .int .i64 c.c1.ro, .int .i64 c.c1.ty, .int .i64 c.c1.lo.s, .int .u64 c.c1.lo.c, .int .i64 c.c1.hi.s, .int .u64 c.c1.hi.c, .int .i64 c.c2.u, .int .i64 c.c2.ro, .int .i64 c.c2.ty, .int .i64 c.c2.lo.s, .int .u64 c.c2.lo.c, .int .i64 c.c2.hi.s, .int .u64 c.c2.hi.c, .int .i64 c.c3.u, .int .i64 c.c3.ro, .int .i64 c.c3.ty, .int .i64 c.c3.lo.s, .int .u64 c.c3.lo.c, .int .i64 c.c3.hi.s, .int .u64 c.c3.hi.c, .int .i64 d.c1.u, .int .i64 d.c1.ro, .int .i64 d.c1.ty, .int .i64 d.c1.lo.s, .int .u64 d.c1.lo.c, .int .i64 d.c1.hi.s, .int .u64 d.c1.hi.c, .int .i64 d.c2.u, .int .i64 d.c2.ro, .int .i64 d.c2.ty, .int .i64 d.c2.lo.s, .int .u64 d.c2.lo.c, .int .i64 d.c2.hi.s, .int .u64 d.c2.hi.c, .int .i64 d.c3.u, .int .i64 d.c3.ro, .int .i64 d.c3.ty, .int .i64 d.c3.lo.s, .int .u64 d.c3.lo.c, .int .i64 d.c3.hi.s, .int .u64 d.c3.hi.c]] w fun e w' => e = .returned (.bool true) ∧ Below w.heap.size w w' := by
  obtain ⟨ao, cap, ak, ck, rfl, rfl⟩ := hV.form
  have HXC : Hid (XC ((w.alloc (.cells #[.int .i64 x.op, .int .i64 x.a, .int .i64 x.r, .int .i64 x.b, .slice ao x.ns.length cap, .int .u64 x.st.a, .int .u64 x.st.b, .int .u64 x.st.c, .int .u64 x.st.d, .slice ak x.ks.length ck] 28)).alloc (.cells #[.int .i64 c.c1.u, .int .i64 c.c1.ro, .int .i64 c.c1.ty, .int .i64 c.c1.lo.s, .int .u64 c.c1.lo.c, .int .i64 c.c1.hi.s, .int .u64 c.c1.hi.c, .int .i64 c.c2.u, .int .i64 c.c2.ro, .int .i64 c.c2.ty, .int .i64 c.c2.lo.s, .int .u64 c.c2.lo.c, .int .i64 c.c2.hi.s, .int .u64 c.c2.hi.c, .int .i64 c.c3.u, .int .i64 c.c3.ro, .int .i64 c.c3.ty, .int .i64 c.c3.lo.s, .int .u64 c.c3.lo.c, .int .i64 c.c3.hi.s, .int .u64 c.c3.hi.c, .int .i64 d.c1.u, .int .i64 d.c1.ro, .int .i64 d.c1.ty, .int .i64 d.c1.lo.s, .int .u64 d.c1.lo.c, .int .i64 d.c1.hi.s, .int .u64 d.c1.hi.c, .int .i64 d.c2.u, .int .i64 d.c2.ro, .int .i64 d.c2.ty, .int .i64 d.c2.lo.s, .int .u64 d.c2.lo.c, .int .i64 d.c2.hi.s, .int .u64 d.c2.hi.c, .int .i64 d.c3.u, .int .i64 d.c3.ro, .int .i64 d.c3.ty, .int .i64 d.c3.lo.s, .int .u64 d.c3.lo.c, .int .i64 d.c3.hi.s, .int .u64 d.c3.hi.c] 42)) w.heap.size 0 x.op x.a x.r x.b ao x.ns.length cap x.st ak x.ks.length ck) := Lib.hid (XC.of_blk ((Blk.new w _ _).alloc _))
  have HC : Hid (Blk ((w.alloc (.cells #[.int .i64 x.op, .int .i64 x.a, .int .i64 x.r, .int .i64 x.b, .slice ao x.ns.length cap, .int .u64 x.st.a, .int .u64 x.st.b, .int .u64 x.st.c, .int .u64 x.st.d, .slice ak x.ks.length ck] 28)).alloc (.cells #[.int .i64 c.c1.u, .int .i64 c.c1.ro, .int .i64 c.c1.ty, .int .i64 c.c1.lo.s, .int .u64 c.c1.lo.c, .int .i64 c.c1.hi.s, .int .u64 c.c1.hi.c, .int .i64 c.c2.u, .int .i64 c.c2.ro, .int .i64 c.c2.ty, .int .i64 c.c2.lo.s, .int .u64 c.c2.lo.c, .int .i64 c.c2.hi.s, .int .u64 c.c2.hi.c, .int .i64 c.c3.u, .int .i64 c.c3.ro, .int .i64 c.c3.ty, .int .i64 c.c3.lo.s, .int .u64 c.c3.lo.c, .int .i64 c.c3.hi.s, .int .u64 c.c3.hi.c, .int .i64 d.c1.u, .int .i64 d.c1.ro, .int .i64 d.c1.ty, .int .i64 d.c1.lo.s, .int .u64 d.c1.lo.c, .int .i64 d.c1.hi.s, .int .u64 d.c1.hi.c, .int .i64 d.c2.u, .int .i64 d.c2.ro, .int .i64 d.c2.ty, .int .i64 d.c2.lo.s, .int .u64 d.c2.lo.c, .int .i64 d.c2.hi.s, .int .u64 d.c2.hi.c, .int .i64 d.c3.u, .int .i64 d.c3.ro, .int .i64 d.c3.ty, .int .i64 d.c3.lo.s, .int .u64 d.c3.lo.c, .int .i64 d.c3.hi.s, .int .u64 d.c3.hi.c] 42)) (w.heap.size + 1) 42 #[.int .i64 c.c1.u, .int .i64 c.c1.ro, .int .i64 c.c1.ty, .int .i64 c.c1.lo.s, .int .u64 c.c1.lo.c, .int .i64 c.c1.hi.s, .int .u64 c.c1.hi.c, .int .i64 c.c2.u, .int .i64 c.c2.ro, .int .i64 c.c2.ty, .int .i64 c.c2.lo.s, .int .u64 c.c2.lo.c, .int .i64 c.c2.hi.s, .int .u64 c.c2.hi.c, .int .i64 c.c3.u, .int .i64 c.c3.ro, .int .i64 c.c3.ty, .int .i64 c.c3.lo.s, .int .u64 c.c3.lo.c, .int .i64 c.c3.hi.s, .int .u64 c.c3.hi.c, .int .i64 d.c1.u, .int .i64 d.c1.ro, .int .i64 d.c1.ty, .int .i64 d.c1.lo.s, .int .u64 d.c1.lo.c, .int .i64 d.c1.hi.s, .int .u64 d.c1.hi.c, .int .i64 d.c2.u, .int .i64 d.c2.ro, .int .i64 d.c2.ty, .int .i64 d.c2.lo.s, .int .u64 d.c2.lo.c, .int .i64 d.c2.hi.s, .int .u64 d.c2.hi.c, .int .i64 d.c3.u, .int .i64 d.c3.ro, .int .i64 d.c3.ty, .int .i64 d.c3.lo.s, .int .u64 d.c3.lo.c, .int .i64 d.c3.hi.s, .int .u64 d.c3.hi.c]) := Lib.hid (two_new' _ _ _ _)
  have HB : Hid (Below w.heap.size w ((w.alloc (.cells #[.int .i64 x.op, .int .i64 x.a, .int .i64 x.r, .int .i64 x.b, .slice ao x.ns.length cap, .int .u64 x.st.a, .int .u64 x.st.b, .int .u64 x.st.c, .int .u64 x.st.d, .slice ak x.ks.length ck] 28)).alloc (.cells #[.int .i64 c.c1.u, .int .i64 c.c1.ro, .int .i64 c.c1.ty, .int .i64 c.c1.lo.s, .int .u64 c.c1.lo.c, .int .i64 c.c1.hi.s, .int .u64 c.c1.hi.c, .int .i64 c.c2.u, .int .i64 c.c2.ro, .int .i64 c.c2.ty, .int .i64 c.c2.lo.s, .int .u64 c.c2.lo.c, .int .i64 c.c2.hi.s, .int .u64 c.c2.hi.c, .int .i64 c.c3.u, .int .i64 c.c3.ro, .int .i64 c.c3.ty, .int .i64 c.c3.lo.s, .int .u64 c.c3.lo.c, .int .i64 c.c3.hi.s, .int .u64 c.c3.hi.c, .int .i64 d.c1.u, .int .i64 d.c1.ro, .int .i64 d.c1.ty, .int .i64 d.c1.lo.s, .int .u64 d.c1.lo.c, .int .i64 d.c1.hi.s, .int .u64 d.c1.hi.c, .int .i64 d.c2.u, .int .i64 d.c2.ro, .int .i64 d.c2.ty, .int .i64 d.c2.lo.s, .int .u64 d.c2.lo.c, .int .i64 d.c2.hi.s, .int .u64 d.c2.hi.c, .int .i64 d.c3.u, .int .i64 d.c3.ro, .int .i64 d.c3.ty, .int .i64 d.c3.lo.s, .int .u64 d.c3.lo.c, .int .i64 d.c3.hi.s, .int .u64 d.c3.hi.c] 42))) := Lib.hid (((Below.refl _ _).alloc (Nat.le_refl _) _).alloc (by simp) _)
  have HG0 : Hid (w.heap.size < ((w.alloc (.cells #[.int .i64 x.op, .int .i64 x.a, .int .i64 x.r, .int .i64 x.b, .slice ao x.ns.length cap, .int .u64 x.st.a, .int .u64 x.st.b, .int .u64 x.st.c, .int .u64 x.st.d, .slice ak x.ks.length ck] 28)).alloc (.cells #[.int .i64 c.c1.u, .int .i64 c.c1.ro, .int .i64 c.c1.ty, .int .i64 c.c1.lo.s, .int .u64 c.c1.lo.c, .int .i64 c.c1.hi.s, .int .u64 c.c1.hi.c, .int .i64 c.c2.u, .int .i64 c.c2.ro, .int .i64 c.c2.ty, .int .i64 c.c2.lo.s, .int .u64 c.c2.lo.c, .int .i64 c.c2.hi.s, .int .u64 c.c2.hi.c, .int .i64 c.c3.u, .int .i64 c.c3.ro, .int .i64 c.c3.ty, .int .i64 c.c3.lo.s, .int .u64 c.c3.lo.c, .int .i64 c.c3.hi.s, .int .u64 c.c3.hi.c, .int .i64 d.c1.u, .int .i64 d.c1.ro, .int .i64 d.c1.ty, .int .i64 d.c1.lo.s, .int .u64 d.c1.lo.c, .int .i64 d.c1.hi.s, .int .u64 d.c1.hi.c, .int .i64 d.c2.u, .int .i64 d.c2.ro, .int .i64 d.c2.ty, .int .i64 d.c2.lo.s, .int .u64 d.c2.lo.c, .int .i64 d.c2.hi.s, .int .u64 d.c2.hi.c, .int .i64 d.c3.u, .int .i64 d.c3.ro, .int .i64 d.c3.ty, .int .i64 d.c3.lo.s, .int .u64 d.c3.lo.c, .int .i64 d.c3.hi.s, .int .u64 d.c3.hi.c] 42)).heap.size) := Lib.hid (by simp; omega)
  have HSM : Hid (∀ u, Kp w u → Calls Try.prog 6 #[.agg #[.int .i64 x.op, .int .i64 x.a, .int .i64 x.r, .int .i64 x.b, .slice ao x.ns.length cap, .int .u64 x.st.a, .int .u64 x.st.b, .int .u64 x.st.c, .int .u64 x.st.d, .slice ak x.ks.length ck], .int .i64 15] u fun e w' => e = .returned (.bool (smX 15 x)) ∧ Below u.heap.size u w') := Lib.hid fun u hu => small_c 15 x _ _ u (by decide) (hV.keep hu)
  have HMN : Hid (smX 15 x = true → ∀ u, Kp w u → Calls Try.prog 11 #[.agg #[.int .i64 x.op, .int .i64 x.a, .int .i64 x.r, .int .i64 x.b, .slice ao x.ns.length cap, .int .u64 x.st.a, .int .u64 x.st.b, .int .u64 x.st.c, .int .u64 x.st.d, .slice ak x.ks.length ck], .int .i64 n] u fun e w' => e = .returned (.bool (mnX n 15 x)) ∧ Below u.heap.size u w') := Lib.hid fun h u hu => mentions_c n 15 x _ _ u h (hV.keep hu)
  have HRM : Hid (smX 15 x = true → ∀ u, Kp w u → Calls Try.prog 12 #[.agg #[.int .i64 x.op, .int .i64 x.a, .int .i64 x.r, .int .i64 x.b, .slice ao x.ns.length cap, .int .u64 x.st.a, .int .u64 x.st.b, .int .u64 x.st.c, .int .u64 x.st.d, .slice ak x.ks.length ck], .int .i64 n] u fun e w' => e = .returned (.bool (mnX n 15 x)) ∧ Below u.heap.size u w') := Lib.hid fun h u hu => rmentions_c n 15 x _ _ u h (hV.keep hu)
  have HWF : Hid (∀ u, Kp w u → Calls Try.prog 10 #[.agg #[.int .i64 x.op, .int .i64 x.a, .int .i64 x.r, .int .i64 x.b, .slice ao x.ns.length cap, .int .u64 x.st.a, .int .u64 x.st.b, .int .u64 x.st.c, .int .u64 x.st.d, .slice ak x.ks.length ck], .int .i64 12] u fun e w' => e = .returned (.bool (wfR 12 x)) ∧ Below u.heap.size u w') := Lib.hid fun u hu => wellFormed_c 12 x _ _ u (by decide) (hV.keep hu)
  have HEV : Hid (∀ c : Ca, ∀ u, Kp w u → Calls Try.prog 8 #[.agg #[.int .i64 x.op, .int .i64 x.a, .int .i64 x.r, .int .i64 x.b, .slice ao x.ns.length cap, .int .u64 x.st.a, .int .u64 x.st.b, .int .u64 x.st.c, .int .u64 x.st.d, .slice ak x.ks.length ck], .agg #[.int .i64 c.c1.u, .int .i64 c.c1.ro, .int .i64 c.c1.ty, .int .i64 c.c1.lo.s, .int .u64 c.c1.lo.c, .int .i64 c.c1.hi.s, .int .u64 c.c1.hi.c, .int .i64 c.c2.u, .int .i64 c.c2.ro, .int .i64 c.c2.ty, .int .i64 c.c2.lo.s, .int .u64 c.c2.lo.c, .int .i64 c.c2.hi.s, .int .u64 c.c2.hi.c, .int .i64 c.c3.u, .int .i64 c.c3.ro, .int .i64 c.c3.ty, .int .i64 c.c3.lo.s, .int .u64 c.c3.lo.c, .int .i64 c.c3.hi.s, .int .u64 c.c3.hi.c]] u fun e w' => e = .returned (.bool (evX c x)) ∧ Below u.heap.size u w') := Lib.hid fun c u hu => eval_c x _ _ c u (hV.keep hu)
  have HAW : Hid (∀ u, Calls Try.prog 7 #[] u fun e w' => e = .returned (.bool true) ∧ Below u.heap.size u w') := Lib.hid awake_c
  obtain ⟨m, hm0⟩ : ∃ m, mnX n 15 x = m := ⟨_, rfl⟩
  have HM0 := Lib.hid hm0
  rw [hm0] at HMN HRM
  obtain ⟨b, hb0⟩ : ∃ b, wfR 12 x = b := ⟨_, rfl⟩
  have HB0 := Lib.hid hb0
  rw [hb0] at HWF
  clear hV hm0 hb0
  cases hs : smX 15 x with
  | false =>
    rw [hs] at HSM
    clear hs
    go_enter Try.func5, Try.ntmps5
    go_upto_region 1 with fail
    generalize (w.alloc (.cells #[.int .i64 x.op, .int .i64 x.a, .int .i64 x.r, .int .i64 x.b, .slice ao x.ns.length cap, .int .u64 x.st.a, .int .u64 x.st.b, .int .u64 x.st.c, .int .u64 x.st.d, .slice ak x.ks.length ck] 28)).alloc (.cells #[.int .i64 c.c1.u, .int .i64 c.c1.ro, .int .i64 c.c1.ty, .int .i64 c.c1.lo.s, .int .u64 c.c1.lo.c, .int .i64 c.c1.hi.s, .int .u64 c.c1.hi.c, .int .i64 c.c2.u, .int .i64 c.c2.ro, .int .i64 c.c2.ty, .int .i64 c.c2.lo.s, .int .u64 c.c2.lo.c, .int .i64 c.c2.hi.s, .int .u64 c.c2.hi.c, .int .i64 c.c3.u, .int .i64 c.c3.ro, .int .i64 c.c3.ty, .int .i64 c.c3.lo.s, .int .u64 c.c3.lo.c, .int .i64 c.c3.hi.s, .int .u64 c.c3.hi.c, .int .i64 d.c1.u, .int .i64 d.c1.ro, .int .i64 d.c1.ty, .int .i64 d.c1.lo.s, .int .u64 d.c1.lo.c, .int .i64 d.c1.hi.s, .int .u64 d.c1.hi.c, .int .i64 d.c2.u, .int .i64 d.c2.ro, .int .i64 d.c2.ty, .int .i64 d.c2.lo.s, .int .u64 d.c2.lo.c, .int .i64 d.c2.hi.s, .int .u64 d.c2.hi.c, .int .i64 d.c3.u, .int .i64 d.c3.ro, .int .i64 d.c3.ty, .int .i64 d.c3.lo.s, .int .u64 d.c3.lo.c, .int .i64 d.c3.hi.s, .int .u64 d.c3.hi.c] 42) = W at *
    have HLE : Hid (w.heap.size ≤ W.heap.size) := Lib.hid HB.out.size
    have HKB : Hid (∀ W1, Kp W W1 → Kp w W1) := Lib.hid (fun W1 h => kpb HB.out HLE.out h)
    generalize w.heap.size + 1 = gc at *
    generalize hge : w.heap.size = ge at *
    have HGge : Hid (ge < W.heap.size) := HG0
    have HK0 : Hid (Kp W W) := Lib.hid (Below.refl _ _)
    refine wp_region_kq ?_
    repeat (first
        | go_big_quiet_skip
        | (go_big_quiet_want
           first
             | (refine quiet_load (t := 28) (.tmp 3) rfl rfl (fun w1 hC => loadAt_expr (HXC.out.keep (Below.block hC ge HGge.out))) ?_; simp only [Act.put, List.setIfInBounds_toArray, List.set_cons_succ, List.set_cons_zero]; go_big_quiet_on)
             | (go_big_quiet_op
                first
                  | go_big_quiet_on
                  | (apply Exists.intro
                     refine ⟨fun w1 hC => ?_, ?_⟩
                     · first
                         | (go_at_call 6; with_reducible exact hC.call (HSM.out _ (HKB.out _ hC)))
                         | exact rfl
                         | (go_simp; exact ⟨rfl, rfl⟩)
                     go_big_quiet_on))))
    refine wpQuiet_nil ?_
    intro W1 hC1
    have HK1 : Hid (Kp W W1) := Lib.hid (Kp.step HK0.out hC1)
    clear hC1
    go_wp2_with (go_at_call 7; (with_reducible refine (HAW.out _).mono ?_); rintro e w2 ⟨rfl, hb2⟩; have HB2 := Lib.hid (HB.out.trans (Below.mono (Kp.step HK1.out hb2) HLE.out)); clear hb2)
    go_ret
    exact ⟨rfl, by first | exact HB2.out | (rw [hge]; exact HB2.out)⟩
  | true =>
    rw [hs] at HSM
    have HMN1 := Lib.hid (HMN.out hs)
    have HRM1 := Lib.hid (HRM.out hs)
    clear hs HMN HRM
    go_enter Try.func5, Try.ntmps5
    go_upto_region 1 with fail
    generalize (w.alloc (.cells #[.int .i64 x.op, .int .i64 x.a, .int .i64 x.r, .int .i64 x.b, .slice ao x.ns.length cap, .int .u64 x.st.a, .int .u64 x.st.b, .int .u64 x.st.c, .int .u64 x.st.d, .slice ak x.ks.length ck] 28)).alloc (.cells #[.int .i64 c.c1.u, .int .i64 c.c1.ro, .int .i64 c.c1.ty, .int .i64 c.c1.lo.s, .int .u64 c.c1.lo.c, .int .i64 c.c1.hi.s, .int .u64 c.c1.hi.c, .int .i64 c.c2.u, .int .i64 c.c2.ro, .int .i64 c.c2.ty, .int .i64 c.c2.lo.s, .int .u64 c.c2.lo.c, .int .i64 c.c2.hi.s, .int .u64 c.c2.hi.c, .int .i64 c.c3.u, .int .i64 c.c3.ro, .int .i64 c.c3.ty, .int .i64 c.c3.lo.s, .int .u64 c.c3.lo.c, .int .i64 c.c3.hi.s, .int .u64 c.c3.hi.c, .int .i64 d.c1.u, .int .i64 d.c1.ro, .int .i64 d.c1.ty, .int .i64 d.c1.lo.s, .int .u64 d.c1.lo.c, .int .i64 d.c1.hi.s, .int .u64 d.c1.hi.c, .int .i64 d.c2.u, .int .i64 d.c2.ro, .int .i64 d.c2.ty, .int .i64 d.c2.lo.s, .int .u64 d.c2.lo.c, .int .i64 d.c2.hi.s, .int .u64 d.c2.hi.c, .int .i64 d.c3.u, .int .i64 d.c3.ro, .int .i64 d.c3.ty, .int .i64 d.c3.lo.s, .int .u64 d.c3.lo.c, .int .i64 d.c3.hi.s, .int .u64 d.c3.hi.c] 42) = W at *
    have HLE : Hid (w.heap.size ≤ W.heap.size) := Lib.hid HB.out.size
    have HKB : Hid (∀ W1, Kp W W1 → Kp w W1) := Lib.hid (fun W1 h => kpb HB.out HLE.out h)
    generalize w.heap.size + 1 = gc at *
    generalize hge : w.heap.size = ge at *
    have HGge : Hid (ge < W.heap.size) := HG0
    have HK0 : Hid (Kp W W) := Lib.hid (Below.refl _ _)
    refine wp_region_kq ?_
    repeat (first
        | go_big_quiet_skip
        | (go_big_quiet_want
           first
             | (refine quiet_load (t := 28) (.tmp 3) rfl rfl (fun w1 hC => loadAt_expr (HXC.out.keep (Below.block hC ge HGge.out))) ?_; simp only [Act.put, List.setIfInBounds_toArray, List.set_cons_succ, List.set_cons_zero]; go_big_quiet_on)
             | (go_big_quiet_op
                first
                  | go_big_quiet_on
                  | (apply Exists.intro
                     refine ⟨fun w1 hC => ?_, ?_⟩
                     · first
                         | (go_at_call 6; with_reducible exact hC.call (HSM.out _ (HKB.out _ hC)))
                         | exact rfl
                         | (go_simp; exact ⟨rfl, rfl⟩)
                     go_big_quiet_on))))
    refine wpQuiet_nil ?_
    intro W1 hC1
    have HK1 : Hid (Kp W W1) := Lib.hid (Kp.step HK0.out hC1)
    clear hC1
    go_upto_region 3 with fail
    have HX1 := Lib.hid (HXC.out.keep (HK1.out.block ge HGge.out))
    have HD1 := Lib.hid (HC.out.keep HK1.out)
    have HL1 : Hid (W.heap.size ≤ W1.heap.size) := Lib.hid (Below.size HK1.out)
    have HG1 : Hid (ge < W1.heap.size) := Lib.hid (Nat.lt_of_lt_of_le HGge.out HL1.out)
    have HU1 : Hid (∀ u, Kp W1 u → Kp w u) := Lib.hid (fun u h => HKB.out _ (Kp.step HK1.out h))
    refine wp_region_kq ?_
    repeat (first
        | go_big_quiet_skip
        | (go_big_quiet_want
           first
             | (refine quiet_load (t := 28) (.tmp 3) rfl rfl (fun w1 hC => loadAt_expr (HX1.out.keep (Below.block hC ge HG1.out))) ?_; simp only [Act.put, List.setIfInBounds_toArray, List.set_cons_succ, List.set_cons_zero]; go_big_quiet_on)
             | (go_big_quiet_op
                first
                  | go_big_quiet_on
                  | (apply Exists.intro
                     refine ⟨fun w1 hC => ?_, ?_⟩
                     · first
                         | (go_at_call 11; with_reducible exact hC.call (HMN1.out _ (HU1.out _ hC)))
                         | exact rfl
                         | (go_simp; exact ⟨rfl, rfl⟩)
                     go_big_quiet_on))))
    refine wpQuiet_nil ?_
    intro W2 hC2
    have HK2 : Hid (Kp W W2) := Lib.hid (Kp.step HK1.out hC2)
    clear hC2
    go_upto_region 4 with fail
    have HX2 := Lib.hid (HXC.out.keep (HK2.out.block ge HGge.out))
    have HD2 := Lib.hid (HC.out.keep HK2.out)
    have HL2 : Hid (W.heap.size ≤ W2.heap.size) := Lib.hid (Below.size HK2.out)
    have HG2 : Hid (ge < W2.heap.size) := Lib.hid (Nat.lt_of_lt_of_le HGge.out HL2.out)
    have HU2 : Hid (∀ u, Kp W2 u → Kp w u) := Lib.hid (fun u h => HKB.out _ (Kp.step HK2.out h))
    have hmm : (m != m) = false := by simp
    have hme : (m == m) = true := by simp
    refine wp_region_kq ?_
    repeat (first
        | go_big_quiet_skip
        | (go_big_quiet_want
           first
             | (refine quiet_load (t := 28) (.tmp 3) rfl rfl (fun w1 hC => loadAt_expr (HX2.out.keep (Below.block hC ge HG2.out))) ?_; simp only [Act.put, List.setIfInBounds_toArray, List.set_cons_succ, List.set_cons_zero]; go_big_quiet_on)
             | (go_big_quiet_op
                first
                  | go_big_quiet_on
                  | (apply Exists.intro
                     refine ⟨fun w1 hC => ?_, ?_⟩
                     · first
                         | (go_at_call 12; with_reducible exact hC.call (HRM1.out _ (HU2.out _ hC)))
                         | exact rfl
                         | (go_simp; exact ⟨rfl, rfl⟩)
                     go_big_quiet_on))))
    refine wpQuiet_nil ?_
    intro W3 hC3
    have HK3 : Hid (Kp W W3) := Lib.hid (Kp.step HK2.out hC3)
    clear hC3
    go_upto_region 6 with fail
    clear hmm hme
    have HX3 := Lib.hid (HXC.out.keep (HK3.out.block ge HGge.out))
    have HD3 := Lib.hid (HC.out.keep HK3.out)
    have HL3 : Hid (W.heap.size ≤ W3.heap.size) := Lib.hid (Below.size HK3.out)
    have HG3 : Hid (ge < W3.heap.size) := Lib.hid (Nat.lt_of_lt_of_le HGge.out HL3.out)
    have HU3 : Hid (∀ u, Kp W3 u → Kp w u) := Lib.hid (fun u h => HKB.out _ (Kp.step HK3.out h))
    cases m with
    | true =>
      refine wp_region_kq ?_
      repeat (first
          | go_big_quiet_skip
          | (go_big_quiet_want
             first
               | (refine quiet_load (t := 28) (.tmp 3) rfl rfl (fun w1 hC => loadAt_expr (HX3.out.keep (Below.block hC ge HG3.out))) ?_; simp only [Act.put, List.setIfInBounds_toArray, List.set_cons_succ, List.set_cons_zero]; go_big_quiet_on)
               | (go_big_quiet_op
                  first
                    | go_big_quiet_on
                    | (apply Exists.intro
                       refine ⟨fun w1 hC => ?_, ?_⟩
                       · first
                           | (go_at_call 10; with_reducible exact hC.call (HWF.out _ (HU3.out _ hC)))
                           | exact rfl
                           | (go_simp; exact ⟨rfl, rfl⟩)
                       go_big_quiet_on))))
      refine wpQuiet_nil ?_
      intro W4 hC4
      have HK4 : Hid (Kp W W4) := Lib.hid (Kp.step HK3.out hC4)
      clear hC4
      go_wp2_with (go_at_call 7; (with_reducible refine (HAW.out _).mono ?_); rintro e w2 ⟨rfl, hb2⟩; have HB2 := Lib.hid (HB.out.trans (Below.mono (Kp.step HK4.out hb2) HLE.out)); clear hb2)
      go_ret
      exact ⟨rfl, by first | exact HB2.out | (rw [hge]; exact HB2.out)⟩
    | false =>
      by_cases hn : n < 0
      · have hn1 : decide (n < 0) = true := decide_eq_true hn
        refine wp_region_kq ?_
        repeat (first
            | go_big_quiet_skip
            | (go_big_quiet_want
               first
                 | (refine quiet_load (t := 28) (.tmp 3) rfl rfl (fun w1 hC => loadAt_expr (HX3.out.keep (Below.block hC ge HG3.out))) ?_; simp only [Act.put, List.setIfInBounds_toArray, List.set_cons_succ, List.set_cons_zero]; go_big_quiet_on)
                 | (go_big_quiet_op
                    first
                      | go_big_quiet_on
                      | (apply Exists.intro
                         refine ⟨fun w1 hC => ?_, ?_⟩
                         · first
                             | (go_at_call 10; with_reducible exact hC.call (HWF.out _ (HU3.out _ hC)))
                             | exact rfl
                             | (go_simp; exact ⟨rfl, rfl⟩)
                         go_big_quiet_on))))
        refine wpQuiet_nil ?_
        intro W4 hC4
        have HK4 : Hid (Kp W W4) := Lib.hid (Kp.step HK3.out hC4)
        clear hC4
        go_wp2_with (go_at_call 7; (with_reducible refine (HAW.out _).mono ?_); rintro e w2 ⟨rfl, hb2⟩; have HB2 := Lib.hid (HB.out.trans (Below.mono (Kp.step HK4.out hb2) HLE.out)); clear hb2)
        go_ret
        exact ⟨rfl, by first | exact HB2.out | (rw [hge]; exact HB2.out)⟩
      · have hn1 : decide (n < 0) = false := decide_eq_false hn
        by_cases hq : n ≥ 15
        · have hq1 : decide (n ≥ 15) = true := decide_eq_true hq
          have hq2 : decide (15 ≤ n) = true := decide_eq_true hq
          have hq3 : 15 ≤ n := hq
          refine wp_region_kq ?_
          repeat (first
              | go_big_quiet_skip
              | (go_big_quiet_want
                 first
                   | (refine quiet_load (t := 28) (.tmp 3) rfl rfl (fun w1 hC => loadAt_expr (HX3.out.keep (Below.block hC ge HG3.out))) ?_; simp only [Act.put, List.setIfInBounds_toArray, List.set_cons_succ, List.set_cons_zero]; go_big_quiet_on)
                   | (go_big_quiet_op
                      first
                        | go_big_quiet_on
                        | (apply Exists.intro
                           refine ⟨fun w1 hC => ?_, ?_⟩
                           · first
                               | (go_at_call 10; with_reducible exact hC.call (HWF.out _ (HU3.out _ hC)))
                               | exact rfl
                               | (go_simp; exact ⟨rfl, rfl⟩)
                           go_big_quiet_on))))
          refine wpQuiet_nil ?_
          intro W4 hC4
          have HK4 : Hid (Kp W W4) := Lib.hid (Kp.step HK3.out hC4)
          clear hC4
          go_wp2_with (go_at_call 7; (with_reducible refine (HAW.out _).mono ?_); rintro e w2 ⟨rfl, hb2⟩; have HB2 := Lib.hid (HB.out.trans (Below.mono (Kp.step HK4.out hb2) HLE.out)); clear hb2)
          go_ret
          exact ⟨rfl, by first | exact HB2.out | (rw [hge]; exact HB2.out)⟩
        · have hq1 : decide (n ≥ 15) = false := decide_eq_false hq
          have hq2 : decide (15 ≤ n) = false := decide_eq_false hq
          have hq3 : ¬ 15 ≤ n := hq
          cases b with
          | false =>
            refine wp_region_kq ?_
            repeat (first
                | go_big_quiet_skip
                | (go_big_quiet_want
                   first
                     | (refine quiet_load (t := 28) (.tmp 3) rfl rfl (fun w1 hC => loadAt_expr (HX3.out.keep (Below.block hC ge HG3.out))) ?_; simp only [Act.put, List.setIfInBounds_toArray, List.set_cons_succ, List.set_cons_zero]; go_big_quiet_on)
                     | (go_big_quiet_op
                        first
                          | go_big_quiet_on
                          | (apply Exists.intro
                             refine ⟨fun w1 hC => ?_, ?_⟩
                             · first
                                 | (go_at_call 10; with_reducible exact hC.call (HWF.out _ (HU3.out _ hC)))
                                 | exact rfl
                                 | (go_simp; exact ⟨rfl, rfl⟩)
                             go_big_quiet_on))))
            refine wpQuiet_nil ?_
            intro W4 hC4
            have HK4 : Hid (Kp W W4) := Lib.hid (Kp.step HK3.out hC4)
            clear hC4
            go_wp2_with (go_at_call 7; (with_reducible refine (HAW.out _).mono ?_); rintro e w2 ⟨rfl, hb2⟩; have HB2 := Lib.hid (HB.out.trans (Below.mono (Kp.step HK4.out hb2) HLE.out)); clear hb2)
            go_ret
            exact ⟨rfl, by first | exact HB2.out | (rw [hge]; exact HB2.out)⟩
          | true =>
            refine wp_region_kq ?_
            repeat (first
                | go_big_quiet_skip
                | (go_big_quiet_want
                   first
                     | (refine quiet_load (t := 28) (.tmp 3) rfl rfl (fun w1 hC => loadAt_expr (HX3.out.keep (Below.block hC ge HG3.out))) ?_; simp only [Act.put, List.setIfInBounds_toArray, List.set_cons_succ, List.set_cons_zero]; go_big_quiet_on)
                     | (go_big_quiet_op
                        first
                          | go_big_quiet_on
                          | (apply Exists.intro
                             refine ⟨fun w1 hC => ?_, ?_⟩
                             · first
                                 | (go_at_call 10; with_reducible exact hC.call (HWF.out _ (HU3.out _ hC)))
                                 | exact rfl
                                 | (go_simp; exact ⟨rfl, rfl⟩)
                             go_big_quiet_on))))
            refine wpQuiet_nil ?_
            intro W4 hC4
            have HK4 : Hid (Kp W W4) := Lib.hid (Kp.step HK3.out hC4)
            clear hC4
            clear hn1 hq1 hq2
            go_upto_region 8 with fail
            have HX4 := Lib.hid (HXC.out.keep (HK4.out.block ge HGge.out))
            have HD4 := Lib.hid (HC.out.keep HK4.out)
            have HL4 : Hid (W.heap.size ≤ W4.heap.size) := Lib.hid (Below.size HK4.out)
            have HG4 : Hid (ge < W4.heap.size) := Lib.hid (Nat.lt_of_lt_of_le HGge.out HL4.out)
            have HU4 : Hid (∀ u, Kp W4 u → Kp w u) := Lib.hid (fun u h => HKB.out _ (Kp.step HK4.out h))
            obtain ⟨k, hk⟩ : ∃ k : Nat, (k : Int) = n := ⟨n.toNat, by omega⟩
            have hk15 : k < 15 := by omega
            obtain ⟨r, hrk⟩ : ∃ r : Nat, r = k % 5 := ⟨_, rfl⟩
            have hr5 : r < 5 := by omega
            have hr : n.tmod 5 = (r : Int) := by rw [Int.tmod_eq_emod_of_nonneg (by omega)]; omega
            have HCH : Hid (evX (chC c k d) x = evX c x) := Lib.hid (evX_ch c d k hk15 x (by rw [hk]; exact HM0.out) HB0.out)
            have HR5 := Lib.hid hr5
            have HJ : Hid ((n.tdiv 5 = 0 ∧ chC c k d = { c with c1 := chX c.c1 r d.c1 }) ∨ (n.tdiv 5 = 1 ∧ chC c k d = { c with c2 := chX c.c2 r d.c2 }) ∨ (n.tdiv 5 = 2 ∧ chC c k d = { c with c3 := chX c.c3 r d.c3 })) := Lib.hid (by
              have e : n.tdiv 5 = ((k / 5 : Nat) : Int) := by rw [Int.tdiv_eq_ediv_of_nonneg (by omega)]; omega
              rw [e]
              unfold chC
              rw [← hrk]
              have h3 : k / 5 = 0 ∨ k / 5 = 1 ∨ k / 5 = 2 := by omega
              rcases h3 with h | h | h
              · exact .inl ⟨by rw [h]; rfl, by rw [if_pos h]⟩
              · exact .inr (.inl ⟨by rw [h]; rfl, by rw [if_neg (by omega), if_pos h]⟩)
              · exact .inr (.inr ⟨by rw [h]; rfl, by rw [if_neg (by omega), if_neg (by omega)]⟩))
            generalize chC c k d = cc at *
            clear hk hk15 hrk hr5 hn hq3
            refine wp_region_sqt 5 (mr8 gc c n r W4) (by decide) (by kernel_rfl) (fun k v u u2 h hb => mr8_keep h hb) ?_ ?_
            · refine ⟨⟨trivial, fun A u hK hF => ?_⟩, ⟨trivial, fun A u hK hF => ?_⟩, ⟨trivial, fun A u hK hF => ?_⟩, ⟨trivial, fun A u hK hF => ?_⟩, ⟨trivial, fun A u hK hF => ?_⟩, trivial⟩
              · have f5 : A.tmps[5]?.getD undef = .pointer (some ⟨gc, 0, none⟩) := fact_none (hF 5) (by kernel_rfl)
                unfold Gives
                go_simp
                exact gives_val (Below.refl _ _) rfl
              · have f37 : A.tmps[37]?.getD undef = .pointer (some ⟨gc, 0, none⟩) := fact_some (hF 37) (j := 0) (by kernel_rfl) (by kernel_rfl)
                unfold Gives
                rw [run_load (.tmp 37) rfl (by rw [← f37]; simp [Act.eval]) (load_first (Blk.keep HD4.out hK))]
                exact gives_val (Below.refl _ _) rfl
              · have f1 : A.tmps[1]?.getD undef = .int .i64 n := fact_none (hF 1) (by kernel_rfl)
                unfold Gives
                go_simp
                exact gives_val (Below.refl _ _) rfl
              · have f39 : A.tmps[39]?.getD undef = .int .i64 n := fact_some (hF 39) (j := 2) (by kernel_rfl) (by kernel_rfl)
                unfold Gives
                go_simp
                exact gives_val (Below.refl _ _) rfl
              · unfold Gives
                go_simp
                exact gives_val ((Below.refl _ _).alloc (Nat.le_refl _) _) ⟨_, rfl, hK.size, Blk.new _ _ _⟩
            intro a0 Wh hCh hsz hdf hF
            have ha := end_mask [false, false, false, false, false, false, false, false, true, false, false, false, false, false, false, false, false, false, false, false, false, false, false, false, false, false, false, false, false, false, false, false, false, false, false, false, false, true, true, true, true, false, false, false, false, false, false, false, false, false, false, false, false, false, false, false, false, false, false, false, false, false, false, false, false, false, false, false, false, false, false, false, false, false, false, false, false, false, false, false, false, false] hsz hdf hF (by kernel_rfl)
            have e38 : a0.tmps[38]?.getD undef = .agg #[.int .i64 c.c1.u, .int .i64 c.c1.ro, .int .i64 c.c1.ty, .int .i64 c.c1.lo.s, .int .u64 c.c1.lo.c, .int .i64 c.c1.hi.s, .int .u64 c.c1.hi.c, .int .i64 c.c2.u, .int .i64 c.c2.ro, .int .i64 c.c2.ty, .int .i64 c.c2.lo.s, .int .u64 c.c2.lo.c, .int .i64 c.c2.hi.s, .int .u64 c.c2.hi.c, .int .i64 c.c3.u, .int .i64 c.c3.ro, .int .i64 c.c3.ty, .int .i64 c.c3.lo.s, .int .u64 c.c3.lo.c, .int .i64 c.c3.hi.s, .int .u64 c.c3.hi.c] := fact_end (hF 38) (j := 1) (by kernel_rfl)
            have e40 : a0.tmps[40]?.getD undef = .int .i64 r := fact_end (hF 40) (j := 3) (by kernel_rfl)
            obtain ⟨g8, e8, hg8, hb8⟩ : ∃ g, a0.tmps[8]?.getD undef = .pointer (some ⟨g, 0, none⟩) ∧ W4.heap.size ≤ g ∧ Blk Wh g 36 #[.int .i64 0, .int .i64 0, .int .i64 0, .int .i64 0, .int .u64 0, .int .i64 0, .int .u64 0, .int .i64 0, .int .i64 0, .int .i64 0, .int .i64 0, .int .u64 0, .int .i64 0, .int .u64 0, .int .i64 0, .int .i64 0, .int .i64 0, .int .i64 0, .int .u64 0, .int .i64 0, .int .u64 0] := fact_end (hF 8) (j := 4) (by kernel_rfl)
            rw [ha]
            clear ha hF hsz hdf
            simp only [cutM_yes, cutM_no, cutM_nil, Nat.reduceAdd]
            rw [e38, e40, e8]
            clear e38 e40 e8
            generalize a0.tmps[37]?.getD undef = s37
            generalize a0.tmps[39]?.getD undef = s39
            refine wpList_store_row (by rfl) _ _ rfl rfl (by rfl) [.int .i64 c.c1.u, .int .i64 c.c1.ro, .int .i64 c.c1.ty, .int .i64 c.c1.lo.s, .int .u64 c.c1.lo.c, .int .i64 c.c1.hi.s, .int .u64 c.c1.hi.c, .int .i64 c.c2.u, .int .i64 c.c2.ro, .int .i64 c.c2.ty, .int .i64 c.c2.lo.s, .int .u64 c.c2.lo.c, .int .i64 c.c2.hi.s, .int .u64 c.c2.hi.c, .int .i64 c.c3.u, .int .i64 c.c3.ro, .int .i64 c.c3.ty, .int .i64 c.c3.lo.s, .int .u64 c.c3.lo.c, .int .i64 c.c3.hi.s, .int .u64 c.c3.hi.c] (.agg #[.int .i64 c.c1.u, .int .i64 c.c1.ro, .int .i64 c.c1.ty, .int .i64 c.c1.lo.s, .int .u64 c.c1.lo.c, .int .i64 c.c1.hi.s, .int .u64 c.c1.hi.c, .int .i64 c.c2.u, .int .i64 c.c2.ro, .int .i64 c.c2.ty, .int .i64 c.c2.lo.s, .int .u64 c.c2.lo.c, .int .i64 c.c2.hi.s, .int .u64 c.c2.hi.c, .int .i64 c.c3.u, .int .i64 c.c3.ro, .int .i64 c.c3.ty, .int .i64 c.c3.lo.s, .int .u64 c.c3.lo.c, .int .i64 c.c3.hi.s, .int .u64 c.c3.hi.c]) (by rfl) rfl (size_case' _) hb8 rfl (by intro x hx; simp only [List.mem_cons, List.not_mem_nil, or_false] at hx; rcases hx with rfl | rfl | rfl | rfl | rfl | rfl | rfl | rfl | rfl | rfl | rfl | rfl | rfl | rfl | rfl | rfl | rfl | rfl | rfl | rfl | rfl <;> rfl) ?_
            have HB8 : Hid (Blk (Wh.setRow g8 [.int .i64 c.c1.u, .int .i64 c.c1.ro, .int .i64 c.c1.ty, .int .i64 c.c1.lo.s, .int .u64 c.c1.lo.c, .int .i64 c.c1.hi.s, .int .u64 c.c1.hi.c, .int .i64 c.c2.u, .int .i64 c.c2.ro, .int .i64 c.c2.ty, .int .i64 c.c2.lo.s, .int .u64 c.c2.lo.c, .int .i64 c.c2.hi.s, .int .u64 c.c2.hi.c, .int .i64 c.c3.u, .int .i64 c.c3.ro, .int .i64 c.c3.ty, .int .i64 c.c3.lo.s, .int .u64 c.c3.lo.c, .int .i64 c.c3.hi.s, .int .u64 c.c3.hi.c].toArray) g8 36 #[.int .i64 c.c1.u, .int .i64 c.c1.ro, .int .i64 c.c1.ty, .int .i64 c.c1.lo.s, .int .u64 c.c1.lo.c, .int .i64 c.c1.hi.s, .int .u64 c.c1.hi.c, .int .i64 c.c2.u, .int .i64 c.c2.ro, .int .i64 c.c2.ty, .int .i64 c.c2.lo.s, .int .u64 c.c2.lo.c, .int .i64 c.c2.hi.s, .int .u64 c.c2.hi.c, .int .i64 c.c3.u, .int .i64 c.c3.ro, .int .i64 c.c3.ty, .int .i64 c.c3.lo.s, .int .u64 c.c3.lo.c, .int .i64 c.c3.hi.s, .int .u64 c.c3.hi.c]) := Lib.hid (hb8.row _)
            have HK5 : Hid (Kp W (Wh.setRow g8 [.int .i64 c.c1.u, .int .i64 c.c1.ro, .int .i64 c.c1.ty, .int .i64 c.c1.lo.s, .int .u64 c.c1.lo.c, .int .i64 c.c1.hi.s, .int .u64 c.c1.hi.c, .int .i64 c.c2.u, .int .i64 c.c2.ro, .int .i64 c.c2.ty, .int .i64 c.c2.lo.s, .int .u64 c.c2.lo.c, .int .i64 c.c2.hi.s, .int .u64 c.c2.hi.c, .int .i64 c.c3.u, .int .i64 c.c3.ro, .int .i64 c.c3.ty, .int .i64 c.c3.lo.s, .int .u64 c.c3.lo.c, .int .i64 c.c3.hi.s, .int .u64 c.c3.hi.c].toArray)) := Lib.hid (Kp.step HK4.out (below_row hCh hg8 _))
            have HG8 : Hid (W.heap.size ≤ g8) := Lib.hid (Nat.le_trans HL4.out hg8)
            clear hb8 hg8 hCh
            generalize (.agg #[.int .i64 c.c1.u, .int .i64 c.c1.ro, .int .i64 c.c1.ty, .int .i64 c.c1.lo.s, .int .u64 c.c1.lo.c, .int .i64 c.c1.hi.s, .int .u64 c.c1.hi.c, .int .i64 c.c2.u, .int .i64 c.c2.ro, .int .i64 c.c2.ty, .int .i64 c.c2.lo.s, .int .u64 c.c2.lo.c, .int .i64 c.c2.hi.s, .int .u64 c.c2.hi.c, .int .i64 c.c3.u, .int .i64 c.c3.ro, .int .i64 c.c3.ty, .int .i64 c.c3.lo.s, .int .u64 c.c3.lo.c, .int .i64 c.c3.hi.s, .int .u64 c.c3.hi.c] : Value) = PV38
            generalize Wh.setRow g8 [.int .i64 c.c1.u, .int .i64 c.c1.ro, .int .i64 c.c1.ty, .int .i64 c.c1.lo.s, .int .u64 c.c1.lo.c, .int .i64 c.c1.hi.s, .int .u64 c.c1.hi.c, .int .i64 c.c2.u, .int .i64 c.c2.ro, .int .i64 c.c2.ty, .int .i64 c.c2.lo.s, .int .u64 c.c2.lo.c, .int .i64 c.c2.hi.s, .int .u64 c.c2.hi.c, .int .i64 c.c3.u, .int .i64 c.c3.ro, .int .i64 c.c3.ty, .int .i64 c.c3.lo.s, .int .u64 c.c3.lo.c, .int .i64 c.c3.hi.s, .int .u64 c.c3.hi.c].toArray = W5 at *
            clear HX4 HD4 HL4 HG4 HU4
            have HX5 := Lib.hid (HXC.out.keep (HK5.out.block ge HGge.out))
            have HD5 := Lib.hid (HC.out.keep HK5.out)
            have HL5 : Hid (W.heap.size ≤ W5.heap.size) := Lib.hid (Below.size HK5.out)
            have HG5 : Hid (ge < W5.heap.size) := Lib.hid (Nat.lt_of_lt_of_le HGge.out HL5.out)
            have HU5 : Hid (∀ u, Kp W5 u → Kp w u) := Lib.hid (fun u h => HKB.out _ (Kp.step HK5.out h))
            obtain ⟨hq, hcc⟩ | ⟨hq, hcc⟩ | ⟨hq, hcc⟩ := HJ.out
            · have hcc2 : cc = { c with c1 := chX c.c1 r d.c1 } := hcc
              clear hcc
              have HCG : Hid (∀ u, Calls Try.prog 13 #[.agg #[.int .i64 c.c1.u, .int .i64 c.c1.ro, .int .i64 c.c1.ty, .int .i64 c.c1.lo.s, .int .u64 c.c1.lo.c, .int .i64 c.c1.hi.s, .int .u64 c.c1.hi.c], .int .i64 r, .agg #[.int .i64 d.c1.u, .int .i64 d.c1.ro, .int .i64 d.c1.ty, .int .i64 d.c1.lo.s, .int .u64 d.c1.lo.c, .int .i64 d.c1.hi.s, .int .u64 d.c1.hi.c]] u fun e w' => e = .returned (.agg #[.int .i64 (chX c.c1 r d.c1).u, .int .i64 (chX c.c1 r d.c1).ro, .int .i64 (chX c.c1 r d.c1).ty, .int .i64 (chX c.c1 r d.c1).lo.s, .int .u64 (chX c.c1 r d.c1).lo.c, .int .i64 (chX c.c1 r d.c1).hi.s, .int .u64 (chX c.c1 r d.c1).hi.c]) ∧ Below u.heap.size u w') := Lib.hid (changed_c c.c1 d.c1 r HR5.out)
              generalize chX c.c1 r d.c1 = y at *
              have HCC := Lib.hid hcc2
              have HS8 := Lib.hid HG8.out
              clear hcc2
              go_upto_region 12 with fail
              refine wp_region_sqt 8 (fun k v _ => sqV [.pointer (some ⟨g8, 0, none⟩), .agg #[.int .i64 c.c1.u, .int .i64 c.c1.ro, .int .i64 c.c1.ty, .int .i64 c.c1.lo.s, .int .u64 c.c1.lo.c, .int .i64 c.c1.hi.s, .int .u64 c.c1.hi.c], .int .i64 r, .pointer (some ⟨gc, 21, none⟩), .pointer (some ⟨gc, 21, none⟩), .agg #[.int .i64 d.c1.u, .int .i64 d.c1.ro, .int .i64 d.c1.ty, .int .i64 d.c1.lo.s, .int .u64 d.c1.lo.c, .int .i64 d.c1.hi.s, .int .u64 d.c1.hi.c], .agg #[.int .i64 y.u, .int .i64 y.ro, .int .i64 y.ty, .int .i64 y.lo.s, .int .u64 y.lo.c, .int .i64 y.hi.s, .int .u64 y.hi.c], .pointer (some ⟨g8, 0, none⟩)] k v) (by decide) (by kernel_rfl) (fun k v u u2 h _ => h) ?_ ?_
              · refine ⟨⟨trivial, fun A u hK hF => ?_⟩, ⟨trivial, fun A u hK hF => ?_⟩, ⟨trivial, fun A u hK hF => ?_⟩, ⟨trivial, fun A u hK hF => ?_⟩, ⟨trivial, fun A u hK hF => ?_⟩, ⟨trivial, fun A u hK hF => ?_⟩, ⟨trivial, fun A u hK hF => ?_⟩, ⟨trivial, fun A u hK hF => ?_⟩, trivial⟩
                · have f8 : A.tmps[8]?.getD undef = .pointer (some ⟨g8, 0, none⟩) := fact_none (hF 8) (by kernel_rfl)
                  unfold Gives
                  go_simp
                  exact gives_val (Below.refl _ _) rfl
                · have f53 : A.tmps[53]?.getD undef = .pointer (some ⟨g8, 0, none⟩) := fact_some (hF 53) (j := 0) (by kernel_rfl) (by kernel_rfl)
                  unfold Gives
                  rw [run_load (.tmp 53) rfl (by rw [← f53]; simp [Act.eval]) (load_part1 (Blk.keep HB8.out hK))]
                  exact gives_val (Below.refl _ _) rfl
                · have f9 : A.tmps[9]?.getD undef = .int .i64 r := fact_none (hF 9) (by kernel_rfl)
                  unfold Gives
                  go_simp
                  exact gives_val (Below.refl _ _) rfl
                · have f5 : A.tmps[5]?.getD undef = .pointer (some ⟨gc, 0, none⟩) := fact_none (hF 5) (by kernel_rfl)
                  unfold Gives
                  go_simp
                  exact gives_val (Below.refl _ _) rfl
                · have f56 : A.tmps[56]?.getD undef = .pointer (some ⟨gc, 21, none⟩) := fact_some (hF 56) (j := 3) (by kernel_rfl) (by kernel_rfl)
                  unfold Gives
                  go_simp
                  exact gives_val (Below.refl _ _) rfl
                · have f57 : A.tmps[57]?.getD undef = .pointer (some ⟨gc, 21, none⟩) := fact_some (hF 57) (j := 4) (by kernel_rfl) (by kernel_rfl)
                  unfold Gives
                  rw [run_load (.tmp 57) rfl (by rw [← f57]; simp [Act.eval]) (load_second1 (Blk.keep HD5.out hK))]
                  exact gives_val (Below.refl _ _) rfl
                · have f54 : A.tmps[54]?.getD undef = .agg #[.int .i64 c.c1.u, .int .i64 c.c1.ro, .int .i64 c.c1.ty, .int .i64 c.c1.lo.s, .int .u64 c.c1.lo.c, .int .i64 c.c1.hi.s, .int .u64 c.c1.hi.c] := fact_some (hF 54) (j := 1) (by kernel_rfl) (by kernel_rfl)
                  have f55 : A.tmps[55]?.getD undef = .int .i64 r := fact_some (hF 55) (j := 2) (by kernel_rfl) (by kernel_rfl)
                  have f58 : A.tmps[58]?.getD undef = .agg #[.int .i64 d.c1.u, .int .i64 d.c1.ro, .int .i64 d.c1.ty, .int .i64 d.c1.lo.s, .int .u64 d.c1.lo.c, .int .i64 d.c1.hi.s, .int .u64 d.c1.hi.c] := fact_some (hF 58) (j := 5) (by kernel_rfl) (by kernel_rfl)
                  unfold Gives
                  go_simp
                  exact gives_enter ((HCG.out u).mono fun e w2 ⟨he, hb⟩ => ⟨_, he, hb, rfl⟩)
                · have f8 : A.tmps[8]?.getD undef = .pointer (some ⟨g8, 0, none⟩) := fact_none (hF 8) (by kernel_rfl)
                  unfold Gives
                  go_simp
                  exact gives_val (Below.refl _ _) rfl
              intro a0 Ww hCw hsz hdf hF
              have ha := end_mask [false, false, false, false, false, false, false, false, false, false, false, false, false, false, false, false, false, false, false, false, false, false, false, false, false, false, false, false, false, false, false, false, false, false, false, false, false, false, false, false, false, false, false, false, false, false, false, false, false, false, false, false, false, true, true, true, true, true, true, true, true, false, false, false, false, false, false, false, false, false, false, false, false, false, false, false, false, false, false, false, false, false] hsz hdf hF (by kernel_rfl)
              have e1 : a0.tmps[59]?.getD undef = .agg #[.int .i64 y.u, .int .i64 y.ro, .int .i64 y.ty, .int .i64 y.lo.s, .int .u64 y.lo.c, .int .i64 y.hi.s, .int .u64 y.hi.c] := fact_end (hF 59) (j := 6) (by kernel_rfl)
              have e2 : a0.tmps[60]?.getD undef = .pointer (some ⟨g8, 0, none⟩) := fact_end (hF 60) (j := 7) (by kernel_rfl)
              rw [ha]
              clear ha hF hsz hdf
              simp only [cutM_yes, cutM_no, cutM_nil, Nat.reduceAdd]
              rw [e1, e2]
              clear e1 e2
              generalize a0.tmps[53]?.getD undef = s53
              generalize a0.tmps[54]?.getD undef = s54
              generalize a0.tmps[55]?.getD undef = s55
              generalize a0.tmps[56]?.getD undef = s56
              generalize a0.tmps[57]?.getD undef = s57
              generalize a0.tmps[58]?.getD undef = s58
              have HB9 := Lib.hid (HB8.out.keep hCw)
              have q := HB9.out.cell
              have q0 := q 0
              have q1 := q 1
              have q2 := q 2
              have q3 := q 3
              have q4 := q 4
              have q5 := q 5
              have q6 := q 6
              have fz := HB9.out.frozen
              clear q
              go_upto_region 15 with fail
              have HBE : Hid (Blk (((((((Ww.setCell ⟨g8, 0, none⟩ (.int .i64 y.u)).setCell ⟨g8, 1, none⟩ (.int .i64 y.ro)).setCell ⟨g8, 2, none⟩ (.int .i64 y.ty)).setCell ⟨g8, 3, none⟩ (.int .i64 y.lo.s)).setCell ⟨g8, 4, none⟩ (.int .u64 y.lo.c)).setCell ⟨g8, 5, none⟩ (.int .i64 y.hi.s)).setCell ⟨g8, 6, none⟩ (.int .u64 y.hi.c)) g8 36 #[.int .i64 cc.c1.u, .int .i64 cc.c1.ro, .int .i64 cc.c1.ty, .int .i64 cc.c1.lo.s, .int .u64 cc.c1.lo.c, .int .i64 cc.c1.hi.s, .int .u64 cc.c1.hi.c, .int .i64 cc.c2.u, .int .i64 cc.c2.ro, .int .i64 cc.c2.ty, .int .i64 cc.c2.lo.s, .int .u64 cc.c2.lo.c, .int .i64 cc.c2.hi.s, .int .u64 cc.c2.hi.c, .int .i64 cc.c3.u, .int .i64 cc.c3.ro, .int .i64 cc.c3.ty, .int .i64 cc.c3.lo.s, .int .u64 cc.c3.lo.c, .int .i64 cc.c3.hi.s, .int .u64 cc.c3.hi.c]) := Lib.hid (by rw [HCC.out]; exact (((((((HB9.out.set 0 _).set 1 _).set 2 _).set 3 _).set 4 _).set 5 _).set 6 _))
              have HK6 : Hid (Kp W (((((((Ww.setCell ⟨g8, 0, none⟩ (.int .i64 y.u)).setCell ⟨g8, 1, none⟩ (.int .i64 y.ro)).setCell ⟨g8, 2, none⟩ (.int .i64 y.ty)).setCell ⟨g8, 3, none⟩ (.int .i64 y.lo.s)).setCell ⟨g8, 4, none⟩ (.int .u64 y.lo.c)).setCell ⟨g8, 5, none⟩ (.int .i64 y.hi.s)).setCell ⟨g8, 6, none⟩ (.int .u64 y.hi.c))) := Lib.hid ((below_set1 (below_set1 (below_set1 (below_set1 (below_set1 (below_set1 (below_set1 (Kp.step HK5.out hCw) HS8.out 0 _) HS8.out 1 _) HS8.out 2 _) HS8.out 3 _) HS8.out 4 _) HS8.out 5 _) HS8.out 6 _))
              generalize (((((((Ww.setCell ⟨g8, 0, none⟩ (.int .i64 y.u)).setCell ⟨g8, 1, none⟩ (.int .i64 y.ro)).setCell ⟨g8, 2, none⟩ (.int .i64 y.ty)).setCell ⟨g8, 3, none⟩ (.int .i64 y.lo.s)).setCell ⟨g8, 4, none⟩ (.int .u64 y.lo.c)).setCell ⟨g8, 5, none⟩ (.int .i64 y.hi.s)).setCell ⟨g8, 6, none⟩ (.int .u64 y.hi.c)) = W6 at *
              clear HB8 HB9 HK5 HX5 HD5 HL5 HG5 HU5 hCw q0 q1 q2 q3 q4 q5 q6 fz
              have HX6 := Lib.hid (HXC.out.keep (HK6.out.block ge HGge.out))
              have HD6 := Lib.hid (HC.out.keep HK6.out)
              have HL6 : Hid (W.heap.size ≤ W6.heap.size) := Lib.hid (Below.size HK6.out)
              have HG6 : Hid (ge < W6.heap.size) := Lib.hid (Nat.lt_of_lt_of_le HGge.out HL6.out)
              have HU6 : Hid (∀ u, Kp W6 u → Kp w u) := Lib.hid (fun u h => HKB.out _ (Kp.step HK6.out h))
              have HE1 := Lib.hid (HEV.out c)
              have HE2 : Hid (∀ u, Kp w u → Calls Try.prog 8 #[.agg #[.int .i64 x.op, .int .i64 x.a, .int .i64 x.r, .int .i64 x.b, .slice ao x.ns.length cap, .int .u64 x.st.a, .int .u64 x.st.b, .int .u64 x.st.c, .int .u64 x.st.d, .slice ak x.ks.length ck], .agg #[.int .i64 cc.c1.u, .int .i64 cc.c1.ro, .int .i64 cc.c1.ty, .int .i64 cc.c1.lo.s, .int .u64 cc.c1.lo.c, .int .i64 cc.c1.hi.s, .int .u64 cc.c1.hi.c, .int .i64 cc.c2.u, .int .i64 cc.c2.ro, .int .i64 cc.c2.ty, .int .i64 cc.c2.lo.s, .int .u64 cc.c2.lo.c, .int .i64 cc.c2.hi.s, .int .u64 cc.c2.hi.c, .int .i64 cc.c3.u, .int .i64 cc.c3.ro, .int .i64 cc.c3.ty, .int .i64 cc.c3.lo.s, .int .u64 cc.c3.lo.c, .int .i64 cc.c3.hi.s, .int .u64 cc.c3.hi.c]] u fun e w' => e = .returned (.bool (evX c x)) ∧ Below u.heap.size u w') := Lib.hid (by have h := HEV.out cc; rw [HCH.out] at h; exact h)
              clear HEV
              generalize evX c x = ev at *
              have hee : (ev == ev) = true := by simp
              refine wp_region_kp (by kernel_rfl) (by kernel_rfl) ?_
              repeat (first
                  | go_big_quiet_skip
                  | (go_big_quiet_want
                     first
                       | (refine quiet_load (t := 28) (.tmp 3) rfl rfl (fun w1 hC => loadAt_expr (HX6.out.keep (Below.block hC ge HG6.out))) ?_; simp only [Act.put, List.setIfInBounds_toArray, List.set_cons_succ, List.set_cons_zero]; go_big_quiet_on)
                       | (refine quiet_load (t := 36) (.tmp 8) rfl rfl (fun w1 hC => loadAt_case (Blk.keep HBE.out hC)) ?_; simp only [Act.put, List.setIfInBounds_toArray, List.set_cons_succ, List.set_cons_zero]; go_big_quiet_on)
                       | (refine quiet_load (t := 36) (.tmp 75) rfl rfl (fun w1 hC => load_first (Blk.keep HD6.out hC)) ?_; simp only [Act.put, List.setIfInBounds_toArray, List.set_cons_succ, List.set_cons_zero]; go_big_quiet_on)
                       | (go_big_quiet_op
                          first
                            | go_big_quiet_on
                            | (apply Exists.intro
                               refine ⟨fun w1 hC => ?_, ?_⟩
                               · first
                                   | (go_at_call 8; with_reducible exact hC.call (HE1.out _ (HU6.out _ hC)))
                                   | (go_at_call 8; with_reducible exact hC.call (HE2.out _ (HU6.out _ hC)))
                                   | (go_at_call 7; with_reducible exact hC.call (HAW.out _))
                                   | exact rfl
                                   | (go_simp; exact ⟨rfl, rfl⟩)
                               go_big_quiet_on))))
              refine wpQuiet_nil ?_
              intro W7 hC7
              have HB2 := Lib.hid (HB.out.trans (Below.mono (Kp.step HK6.out hC7) HLE.out))
              clear hC7
              go_wp2_with fail
              go_ret
              exact ⟨rfl, by first | exact HB2.out | (rw [hge]; exact HB2.out)⟩
            · have hcc2 : cc = { c with c2 := chX c.c2 r d.c2 } := hcc
              clear hcc
              have HCG : Hid (∀ u, Calls Try.prog 13 #[.agg #[.int .i64 c.c2.u, .int .i64 c.c2.ro, .int .i64 c.c2.ty, .int .i64 c.c2.lo.s, .int .u64 c.c2.lo.c, .int .i64 c.c2.hi.s, .int .u64 c.c2.hi.c], .int .i64 r, .agg #[.int .i64 d.c2.u, .int .i64 d.c2.ro, .int .i64 d.c2.ty, .int .i64 d.c2.lo.s, .int .u64 d.c2.lo.c, .int .i64 d.c2.hi.s, .int .u64 d.c2.hi.c]] u fun e w' => e = .returned (.agg #[.int .i64 (chX c.c2 r d.c2).u, .int .i64 (chX c.c2 r d.c2).ro, .int .i64 (chX c.c2 r d.c2).ty, .int .i64 (chX c.c2 r d.c2).lo.s, .int .u64 (chX c.c2 r d.c2).lo.c, .int .i64 (chX c.c2 r d.c2).hi.s, .int .u64 (chX c.c2 r d.c2).hi.c]) ∧ Below u.heap.size u w') := Lib.hid (changed_c c.c2 d.c2 r HR5.out)
              generalize chX c.c2 r d.c2 = y at *
              have HCC := Lib.hid hcc2
              have HS8 := Lib.hid HG8.out
              clear hcc2
              go_upto_region 14 with fail
              refine wp_region_sqt 8 (fun k v _ => sqV [.pointer (some ⟨g8, 7, none⟩), .agg #[.int .i64 c.c2.u, .int .i64 c.c2.ro, .int .i64 c.c2.ty, .int .i64 c.c2.lo.s, .int .u64 c.c2.lo.c, .int .i64 c.c2.hi.s, .int .u64 c.c2.hi.c], .int .i64 r, .pointer (some ⟨gc, 21, none⟩), .pointer (some ⟨gc, 28, none⟩), .agg #[.int .i64 d.c2.u, .int .i64 d.c2.ro, .int .i64 d.c2.ty, .int .i64 d.c2.lo.s, .int .u64 d.c2.lo.c, .int .i64 d.c2.hi.s, .int .u64 d.c2.hi.c], .agg #[.int .i64 y.u, .int .i64 y.ro, .int .i64 y.ty, .int .i64 y.lo.s, .int .u64 y.lo.c, .int .i64 y.hi.s, .int .u64 y.hi.c], .pointer (some ⟨g8, 7, none⟩)] k v) (by decide) (by kernel_rfl) (fun k v u u2 h _ => h) ?_ ?_
              · refine ⟨⟨trivial, fun A u hK hF => ?_⟩, ⟨trivial, fun A u hK hF => ?_⟩, ⟨trivial, fun A u hK hF => ?_⟩, ⟨trivial, fun A u hK hF => ?_⟩, ⟨trivial, fun A u hK hF => ?_⟩, ⟨trivial, fun A u hK hF => ?_⟩, ⟨trivial, fun A u hK hF => ?_⟩, ⟨trivial, fun A u hK hF => ?_⟩, trivial⟩
                · have f8 : A.tmps[8]?.getD undef = .pointer (some ⟨g8, 0, none⟩) := fact_none (hF 8) (by kernel_rfl)
                  unfold Gives
                  go_simp
                  exact gives_val (Below.refl _ _) rfl
                · have f63 : A.tmps[63]?.getD undef = .pointer (some ⟨g8, 7, none⟩) := fact_some (hF 63) (j := 0) (by kernel_rfl) (by kernel_rfl)
                  unfold Gives
                  rw [run_load (.tmp 63) rfl (by rw [← f63]; simp [Act.eval]) (load_part2 (Blk.keep HB8.out hK))]
                  exact gives_val (Below.refl _ _) rfl
                · have f9 : A.tmps[9]?.getD undef = .int .i64 r := fact_none (hF 9) (by kernel_rfl)
                  unfold Gives
                  go_simp
                  exact gives_val (Below.refl _ _) rfl
                · have f5 : A.tmps[5]?.getD undef = .pointer (some ⟨gc, 0, none⟩) := fact_none (hF 5) (by kernel_rfl)
                  unfold Gives
                  go_simp
                  exact gives_val (Below.refl _ _) rfl
                · have f66 : A.tmps[66]?.getD undef = .pointer (some ⟨gc, 21, none⟩) := fact_some (hF 66) (j := 3) (by kernel_rfl) (by kernel_rfl)
                  unfold Gives
                  go_simp
                  exact gives_val (Below.refl _ _) rfl
                · have f67 : A.tmps[67]?.getD undef = .pointer (some ⟨gc, 28, none⟩) := fact_some (hF 67) (j := 4) (by kernel_rfl) (by kernel_rfl)
                  unfold Gives
                  rw [run_load (.tmp 67) rfl (by rw [← f67]; simp [Act.eval]) (load_second2 (Blk.keep HD5.out hK))]
                  exact gives_val (Below.refl _ _) rfl
                · have f64 : A.tmps[64]?.getD undef = .agg #[.int .i64 c.c2.u, .int .i64 c.c2.ro, .int .i64 c.c2.ty, .int .i64 c.c2.lo.s, .int .u64 c.c2.lo.c, .int .i64 c.c2.hi.s, .int .u64 c.c2.hi.c] := fact_some (hF 64) (j := 1) (by kernel_rfl) (by kernel_rfl)
                  have f65 : A.tmps[65]?.getD undef = .int .i64 r := fact_some (hF 65) (j := 2) (by kernel_rfl) (by kernel_rfl)
                  have f68 : A.tmps[68]?.getD undef = .agg #[.int .i64 d.c2.u, .int .i64 d.c2.ro, .int .i64 d.c2.ty, .int .i64 d.c2.lo.s, .int .u64 d.c2.lo.c, .int .i64 d.c2.hi.s, .int .u64 d.c2.hi.c] := fact_some (hF 68) (j := 5) (by kernel_rfl) (by kernel_rfl)
                  unfold Gives
                  go_simp
                  exact gives_enter ((HCG.out u).mono fun e w2 ⟨he, hb⟩ => ⟨_, he, hb, rfl⟩)
                · have f8 : A.tmps[8]?.getD undef = .pointer (some ⟨g8, 0, none⟩) := fact_none (hF 8) (by kernel_rfl)
                  unfold Gives
                  go_simp
                  exact gives_val (Below.refl _ _) rfl
              intro a0 Ww hCw hsz hdf hF
              have ha := end_mask [false, false, false, false, false, false, false, false, false, false, false, false, false, false, false, false, false, false, false, false, false, false, false, false, false, false, false, false, false, false, false, false, false, false, false, false, false, false, false, false, false, false, false, false, false, false, false, false, false, false, false, false, false, false, false, false, false, false, false, false, false, false, false, true, true, true, true, true, true, true, true, false, false, false, false, false, false, false, false, false, false, false] hsz hdf hF (by kernel_rfl)
              have e1 : a0.tmps[69]?.getD undef = .agg #[.int .i64 y.u, .int .i64 y.ro, .int .i64 y.ty, .int .i64 y.lo.s, .int .u64 y.lo.c, .int .i64 y.hi.s, .int .u64 y.hi.c] := fact_end (hF 69) (j := 6) (by kernel_rfl)
              have e2 : a0.tmps[70]?.getD undef = .pointer (some ⟨g8, 7, none⟩) := fact_end (hF 70) (j := 7) (by kernel_rfl)
              rw [ha]
              clear ha hF hsz hdf
              simp only [cutM_yes, cutM_no, cutM_nil, Nat.reduceAdd]
              rw [e1, e2]
              clear e1 e2
              generalize a0.tmps[63]?.getD undef = s63
              generalize a0.tmps[64]?.getD undef = s64
              generalize a0.tmps[65]?.getD undef = s65
              generalize a0.tmps[66]?.getD undef = s66
              generalize a0.tmps[67]?.getD undef = s67
              generalize a0.tmps[68]?.getD undef = s68
              have HB9 := Lib.hid (HB8.out.keep hCw)
              have q := HB9.out.cell
              have q0 := q 7
              have q1 := q 8
              have q2 := q 9
              have q3 := q 10
              have q4 := q 11
              have q5 := q 12
              have q6 := q 13
              have fz := HB9.out.frozen
              clear q
              go_upto_region 15 with fail
              have HBE : Hid (Blk (((((((Ww.setCell ⟨g8, 7, none⟩ (.int .i64 y.u)).setCell ⟨g8, 8, none⟩ (.int .i64 y.ro)).setCell ⟨g8, 9, none⟩ (.int .i64 y.ty)).setCell ⟨g8, 10, none⟩ (.int .i64 y.lo.s)).setCell ⟨g8, 11, none⟩ (.int .u64 y.lo.c)).setCell ⟨g8, 12, none⟩ (.int .i64 y.hi.s)).setCell ⟨g8, 13, none⟩ (.int .u64 y.hi.c)) g8 36 #[.int .i64 cc.c1.u, .int .i64 cc.c1.ro, .int .i64 cc.c1.ty, .int .i64 cc.c1.lo.s, .int .u64 cc.c1.lo.c, .int .i64 cc.c1.hi.s, .int .u64 cc.c1.hi.c, .int .i64 cc.c2.u, .int .i64 cc.c2.ro, .int .i64 cc.c2.ty, .int .i64 cc.c2.lo.s, .int .u64 cc.c2.lo.c, .int .i64 cc.c2.hi.s, .int .u64 cc.c2.hi.c, .int .i64 cc.c3.u, .int .i64 cc.c3.ro, .int .i64 cc.c3.ty, .int .i64 cc.c3.lo.s, .int .u64 cc.c3.lo.c, .int .i64 cc.c3.hi.s, .int .u64 cc.c3.hi.c]) := Lib.hid (by rw [HCC.out]; exact (((((((HB9.out.set 7 _).set 8 _).set 9 _).set 10 _).set 11 _).set 12 _).set 13 _))
              have HK6 : Hid (Kp W (((((((Ww.setCell ⟨g8, 7, none⟩ (.int .i64 y.u)).setCell ⟨g8, 8, none⟩ (.int .i64 y.ro)).setCell ⟨g8, 9, none⟩ (.int .i64 y.ty)).setCell ⟨g8, 10, none⟩ (.int .i64 y.lo.s)).setCell ⟨g8, 11, none⟩ (.int .u64 y.lo.c)).setCell ⟨g8, 12, none⟩ (.int .i64 y.hi.s)).setCell ⟨g8, 13, none⟩ (.int .u64 y.hi.c))) := Lib.hid ((below_set1 (below_set1 (below_set1 (below_set1 (below_set1 (below_set1 (below_set1 (Kp.step HK5.out hCw) HS8.out 7 _) HS8.out 8 _) HS8.out 9 _) HS8.out 10 _) HS8.out 11 _) HS8.out 12 _) HS8.out 13 _))
              generalize (((((((Ww.setCell ⟨g8, 7, none⟩ (.int .i64 y.u)).setCell ⟨g8, 8, none⟩ (.int .i64 y.ro)).setCell ⟨g8, 9, none⟩ (.int .i64 y.ty)).setCell ⟨g8, 10, none⟩ (.int .i64 y.lo.s)).setCell ⟨g8, 11, none⟩ (.int .u64 y.lo.c)).setCell ⟨g8, 12, none⟩ (.int .i64 y.hi.s)).setCell ⟨g8, 13, none⟩ (.int .u64 y.hi.c)) = W6 at *
              clear HB8 HB9 HK5 HX5 HD5 HL5 HG5 HU5 hCw q0 q1 q2 q3 q4 q5 q6 fz
              have HX6 := Lib.hid (HXC.out.keep (HK6.out.block ge HGge.out))
              have HD6 := Lib.hid (HC.out.keep HK6.out)
              have HL6 : Hid (W.heap.size ≤ W6.heap.size) := Lib.hid (Below.size HK6.out)
              have HG6 : Hid (ge < W6.heap.size) := Lib.hid (Nat.lt_of_lt_of_le HGge.out HL6.out)
              have HU6 : Hid (∀ u, Kp W6 u → Kp w u) := Lib.hid (fun u h => HKB.out _ (Kp.step HK6.out h))
              have HE1 := Lib.hid (HEV.out c)
              have HE2 : Hid (∀ u, Kp w u → Calls Try.prog 8 #[.agg #[.int .i64 x.op, .int .i64 x.a, .int .i64 x.r, .int .i64 x.b, .slice ao x.ns.length cap, .int .u64 x.st.a, .int .u64 x.st.b, .int .u64 x.st.c, .int .u64 x.st.d, .slice ak x.ks.length ck], .agg #[.int .i64 cc.c1.u, .int .i64 cc.c1.ro, .int .i64 cc.c1.ty, .int .i64 cc.c1.lo.s, .int .u64 cc.c1.lo.c, .int .i64 cc.c1.hi.s, .int .u64 cc.c1.hi.c, .int .i64 cc.c2.u, .int .i64 cc.c2.ro, .int .i64 cc.c2.ty, .int .i64 cc.c2.lo.s, .int .u64 cc.c2.lo.c, .int .i64 cc.c2.hi.s, .int .u64 cc.c2.hi.c, .int .i64 cc.c3.u, .int .i64 cc.c3.ro, .int .i64 cc.c3.ty, .int .i64 cc.c3.lo.s, .int .u64 cc.c3.lo.c, .int .i64 cc.c3.hi.s, .int .u64 cc.c3.hi.c]] u fun e w' => e = .returned (.bool (evX c x)) ∧ Below u.heap.size u w') := Lib.hid (by have h := HEV.out cc; rw [HCH.out] at h; exact h)
              clear HEV
              generalize evX c x = ev at *
              have hee : (ev == ev) = true := by simp
              refine wp_region_kp (by kernel_rfl) (by kernel_rfl) ?_
              repeat (first
                  | go_big_quiet_skip
                  | (go_big_quiet_want
                     first
                       | (refine quiet_load (t := 28) (.tmp 3) rfl rfl (fun w1 hC => loadAt_expr (HX6.out.keep (Below.block hC ge HG6.out))) ?_; simp only [Act.put, List.setIfInBounds_toArray, List.set_cons_succ, List.set_cons_zero]; go_big_quiet_on)
                       | (refine quiet_load (t := 36) (.tmp 8) rfl rfl (fun w1 hC => loadAt_case (Blk.keep HBE.out hC)) ?_; simp only [Act.put, List.setIfInBounds_toArray, List.set_cons_succ, List.set_cons_zero]; go_big_quiet_on)
                       | (refine quiet_load (t := 36) (.tmp 75) rfl rfl (fun w1 hC => load_first (Blk.keep HD6.out hC)) ?_; simp only [Act.put, List.setIfInBounds_toArray, List.set_cons_succ, List.set_cons_zero]; go_big_quiet_on)
                       | (go_big_quiet_op
                          first
                            | go_big_quiet_on
                            | (apply Exists.intro
                               refine ⟨fun w1 hC => ?_, ?_⟩
                               · first
                                   | (go_at_call 8; with_reducible exact hC.call (HE1.out _ (HU6.out _ hC)))
                                   | (go_at_call 8; with_reducible exact hC.call (HE2.out _ (HU6.out _ hC)))
                                   | (go_at_call 7; with_reducible exact hC.call (HAW.out _))
                                   | exact rfl
                                   | (go_simp; exact ⟨rfl, rfl⟩)
                               go_big_quiet_on))))
              refine wpQuiet_nil ?_
              intro W7 hC7
              have HB2 := Lib.hid (HB.out.trans (Below.mono (Kp.step HK6.out hC7) HLE.out))
              clear hC7
              go_wp2_with fail
              go_ret
              exact ⟨rfl, by first | exact HB2.out | (rw [hge]; exact HB2.out)⟩
            · have hcc2 : cc = { c with c3 := chX c.c3 r d.c3 } := hcc
              clear hcc
              have HCG : Hid (∀ u, Calls Try.prog 13 #[.agg #[.int .i64 c.c3.u, .int .i64 c.c3.ro, .int .i64 c.c3.ty, .int .i64 c.c3.lo.s, .int .u64 c.c3.lo.c, .int .i64 c.c3.hi.s, .int .u64 c.c3.hi.c], .int .i64 r, .agg #[.int .i64 d.c3.u, .int .i64 d.c3.ro, .int .i64 d.c3.ty, .int .i64 d.c3.lo.s, .int .u64 d.c3.lo.c, .int .i64 d.c3.hi.s, .int .u64 d.c3.hi.c]] u fun e w' => e = .returned (.agg #[.int .i64 (chX c.c3 r d.c3).u, .int .i64 (chX c.c3 r d.c3).ro, .int .i64 (chX c.c3 r d.c3).ty, .int .i64 (chX c.c3 r d.c3).lo.s, .int .u64 (chX c.c3 r d.c3).lo.c, .int .i64 (chX c.c3 r d.c3).hi.s, .int .u64 (chX c.c3 r d.c3).hi.c]) ∧ Below u.heap.size u w') := Lib.hid (changed_c c.c3 d.c3 r HR5.out)
              generalize chX c.c3 r d.c3 = y at *
              have HCC := Lib.hid hcc2
              have HS8 := Lib.hid HG8.out
              clear hcc2
              go_upto_region 10 with fail
              refine wp_region_sqt 8 (fun k v _ => sqV [.pointer (some ⟨g8, 14, none⟩), .agg #[.int .i64 c.c3.u, .int .i64 c.c3.ro, .int .i64 c.c3.ty, .int .i64 c.c3.lo.s, .int .u64 c.c3.lo.c, .int .i64 c.c3.hi.s, .int .u64 c.c3.hi.c], .int .i64 r, .pointer (some ⟨gc, 21, none⟩), .pointer (some ⟨gc, 35, none⟩), .agg #[.int .i64 d.c3.u, .int .i64 d.c3.ro, .int .i64 d.c3.ty, .int .i64 d.c3.lo.s, .int .u64 d.c3.lo.c, .int .i64 d.c3.hi.s, .int .u64 d.c3.hi.c], .agg #[.int .i64 y.u, .int .i64 y.ro, .int .i64 y.ty, .int .i64 y.lo.s, .int .u64 y.lo.c, .int .i64 y.hi.s, .int .u64 y.hi.c], .pointer (some ⟨g8, 14, none⟩)] k v) (by decide) (by kernel_rfl) (fun k v u u2 h _ => h) ?_ ?_
              · refine ⟨⟨trivial, fun A u hK hF => ?_⟩, ⟨trivial, fun A u hK hF => ?_⟩, ⟨trivial, fun A u hK hF => ?_⟩, ⟨trivial, fun A u hK hF => ?_⟩, ⟨trivial, fun A u hK hF => ?_⟩, ⟨trivial, fun A u hK hF => ?_⟩, ⟨trivial, fun A u hK hF => ?_⟩, ⟨trivial, fun A u hK hF => ?_⟩, trivial⟩
                · have f8 : A.tmps[8]?.getD undef = .pointer (some ⟨g8, 0, none⟩) := fact_none (hF 8) (by kernel_rfl)
                  unfold Gives
                  go_simp
                  exact gives_val (Below.refl _ _) rfl
                · have f43 : A.tmps[43]?.getD undef = .pointer (some ⟨g8, 14, none⟩) := fact_some (hF 43) (j := 0) (by kernel_rfl) (by kernel_rfl)
                  unfold Gives
                  rw [run_load (.tmp 43) rfl (by rw [← f43]; simp [Act.eval]) (load_part3 (Blk.keep HB8.out hK))]
                  exact gives_val (Below.refl _ _) rfl
                · have f9 : A.tmps[9]?.getD undef = .int .i64 r := fact_none (hF 9) (by kernel_rfl)
                  unfold Gives
                  go_simp
                  exact gives_val (Below.refl _ _) rfl
                · have f5 : A.tmps[5]?.getD undef = .pointer (some ⟨gc, 0, none⟩) := fact_none (hF 5) (by kernel_rfl)
                  unfold Gives
                  go_simp
                  exact gives_val (Below.refl _ _) rfl
                · have f46 : A.tmps[46]?.getD undef = .pointer (some ⟨gc, 21, none⟩) := fact_some (hF 46) (j := 3) (by kernel_rfl) (by kernel_rfl)
                  unfold Gives
                  go_simp
                  exact gives_val (Below.refl _ _) rfl
                · have f47 : A.tmps[47]?.getD undef = .pointer (some ⟨gc, 35, none⟩) := fact_some (hF 47) (j := 4) (by kernel_rfl) (by kernel_rfl)
                  unfold Gives
                  rw [run_load (.tmp 47) rfl (by rw [← f47]; simp [Act.eval]) (load_second3 (Blk.keep HD5.out hK))]
                  exact gives_val (Below.refl _ _) rfl
                · have f44 : A.tmps[44]?.getD undef = .agg #[.int .i64 c.c3.u, .int .i64 c.c3.ro, .int .i64 c.c3.ty, .int .i64 c.c3.lo.s, .int .u64 c.c3.lo.c, .int .i64 c.c3.hi.s, .int .u64 c.c3.hi.c] := fact_some (hF 44) (j := 1) (by kernel_rfl) (by kernel_rfl)
                  have f45 : A.tmps[45]?.getD undef = .int .i64 r := fact_some (hF 45) (j := 2) (by kernel_rfl) (by kernel_rfl)
                  have f48 : A.tmps[48]?.getD undef = .agg #[.int .i64 d.c3.u, .int .i64 d.c3.ro, .int .i64 d.c3.ty, .int .i64 d.c3.lo.s, .int .u64 d.c3.lo.c, .int .i64 d.c3.hi.s, .int .u64 d.c3.hi.c] := fact_some (hF 48) (j := 5) (by kernel_rfl) (by kernel_rfl)
                  unfold Gives
                  go_simp
                  exact gives_enter ((HCG.out u).mono fun e w2 ⟨he, hb⟩ => ⟨_, he, hb, rfl⟩)
                · have f8 : A.tmps[8]?.getD undef = .pointer (some ⟨g8, 0, none⟩) := fact_none (hF 8) (by kernel_rfl)
                  unfold Gives
                  go_simp
                  exact gives_val (Below.refl _ _) rfl
              intro a0 Ww hCw hsz hdf hF
              have ha := end_mask [false, false, false, false, false, false, false, false, false, false, false, false, false, false, false, false, false, false, false, false, false, false, false, false, false, false, false, false, false, false, false, false, false, false, false, false, false, false, false, false, false, false, false, true, true, true, true, true, true, true, true, false, false, false, false, false, false, false, false, false, false, false, false, false, false, false, false, false, false, false, false, false, false, false, false, false, false, false, false, false, false, false] hsz hdf hF (by kernel_rfl)
              have e1 : a0.tmps[49]?.getD undef = .agg #[.int .i64 y.u, .int .i64 y.ro, .int .i64 y.ty, .int .i64 y.lo.s, .int .u64 y.lo.c, .int .i64 y.hi.s, .int .u64 y.hi.c] := fact_end (hF 49) (j := 6) (by kernel_rfl)
              have e2 : a0.tmps[50]?.getD undef = .pointer (some ⟨g8, 14, none⟩) := fact_end (hF 50) (j := 7) (by kernel_rfl)
              rw [ha]
              clear ha hF hsz hdf
              simp only [cutM_yes, cutM_no, cutM_nil, Nat.reduceAdd]
              rw [e1, e2]
              clear e1 e2
              generalize a0.tmps[43]?.getD undef = s43
              generalize a0.tmps[44]?.getD undef = s44
              generalize a0.tmps[45]?.getD undef = s45
              generalize a0.tmps[46]?.getD undef = s46
              generalize a0.tmps[47]?.getD undef = s47
              generalize a0.tmps[48]?.getD undef = s48
              have HB9 := Lib.hid (HB8.out.keep hCw)
              have q := HB9.out.cell
              have q0 := q 14
              have q1 := q 15
              have q2 := q 16
              have q3 := q 17
              have q4 := q 18
              have q5 := q 19
              have q6 := q 20
              have fz := HB9.out.frozen
              clear q
              go_upto_region 15 with fail
              have HBE : Hid (Blk (((((((Ww.setCell ⟨g8, 14, none⟩ (.int .i64 y.u)).setCell ⟨g8, 15, none⟩ (.int .i64 y.ro)).setCell ⟨g8, 16, none⟩ (.int .i64 y.ty)).setCell ⟨g8, 17, none⟩ (.int .i64 y.lo.s)).setCell ⟨g8, 18, none⟩ (.int .u64 y.lo.c)).setCell ⟨g8, 19, none⟩ (.int .i64 y.hi.s)).setCell ⟨g8, 20, none⟩ (.int .u64 y.hi.c)) g8 36 #[.int .i64 cc.c1.u, .int .i64 cc.c1.ro, .int .i64 cc.c1.ty, .int .i64 cc.c1.lo.s, .int .u64 cc.c1.lo.c, .int .i64 cc.c1.hi.s, .int .u64 cc.c1.hi.c, .int .i64 cc.c2.u, .int .i64 cc.c2.ro, .int .i64 cc.c2.ty, .int .i64 cc.c2.lo.s, .int .u64 cc.c2.lo.c, .int .i64 cc.c2.hi.s, .int .u64 cc.c2.hi.c, .int .i64 cc.c3.u, .int .i64 cc.c3.ro, .int .i64 cc.c3.ty, .int .i64 cc.c3.lo.s, .int .u64 cc.c3.lo.c, .int .i64 cc.c3.hi.s, .int .u64 cc.c3.hi.c]) := Lib.hid (by rw [HCC.out]; exact (((((((HB9.out.set 14 _).set 15 _).set 16 _).set 17 _).set 18 _).set 19 _).set 20 _))
              have HK6 : Hid (Kp W (((((((Ww.setCell ⟨g8, 14, none⟩ (.int .i64 y.u)).setCell ⟨g8, 15, none⟩ (.int .i64 y.ro)).setCell ⟨g8, 16, none⟩ (.int .i64 y.ty)).setCell ⟨g8, 17, none⟩ (.int .i64 y.lo.s)).setCell ⟨g8, 18, none⟩ (.int .u64 y.lo.c)).setCell ⟨g8, 19, none⟩ (.int .i64 y.hi.s)).setCell ⟨g8, 20, none⟩ (.int .u64 y.hi.c))) := Lib.hid ((below_set1 (below_set1 (below_set1 (below_set1 (below_set1 (below_set1 (below_set1 (Kp.step HK5.out hCw) HS8.out 14 _) HS8.out 15 _) HS8.out 16 _) HS8.out 17 _) HS8.out 18 _) HS8.out 19 _) HS8.out 20 _))
              generalize (((((((Ww.setCell ⟨g8, 14, none⟩ (.int .i64 y.u)).setCell ⟨g8, 15, none⟩ (.int .i64 y.ro)).setCell ⟨g8, 16, none⟩ (.int .i64 y.ty)).setCell ⟨g8, 17, none⟩ (.int .i64 y.lo.s)).setCell ⟨g8, 18, none⟩ (.int .u64 y.lo.c)).setCell ⟨g8, 19, none⟩ (.int .i64 y.hi.s)).setCell ⟨g8, 20, none⟩ (.int .u64 y.hi.c)) = W6 at *
              clear HB8 HB9 HK5 HX5 HD5 HL5 HG5 HU5 hCw q0 q1 q2 q3 q4 q5 q6 fz
              have HX6 := Lib.hid (HXC.out.keep (HK6.out.block ge HGge.out))
              have HD6 := Lib.hid (HC.out.keep HK6.out)
              have HL6 : Hid (W.heap.size ≤ W6.heap.size) := Lib.hid (Below.size HK6.out)
              have HG6 : Hid (ge < W6.heap.size) := Lib.hid (Nat.lt_of_lt_of_le HGge.out HL6.out)
              have HU6 : Hid (∀ u, Kp W6 u → Kp w u) := Lib.hid (fun u h => HKB.out _ (Kp.step HK6.out h))
              have HE1 := Lib.hid (HEV.out c)
              have HE2 : Hid (∀ u, Kp w u → Calls Try.prog 8 #[.agg #[.int .i64 x.op, .int .i64 x.a, .int .i64 x.r, .int .i64 x.b, .slice ao x.ns.length cap, .int .u64 x.st.a, .int .u64 x.st.b, .int .u64 x.st.c, .int .u64 x.st.d, .slice ak x.ks.length ck], .agg #[.int .i64 cc.c1.u, .int .i64 cc.c1.ro, .int .i64 cc.c1.ty, .int .i64 cc.c1.lo.s, .int .u64 cc.c1.lo.c, .int .i64 cc.c1.hi.s, .int .u64 cc.c1.hi.c, .int .i64 cc.c2.u, .int .i64 cc.c2.ro, .int .i64 cc.c2.ty, .int .i64 cc.c2.lo.s, .int .u64 cc.c2.lo.c, .int .i64 cc.c2.hi.s, .int .u64 cc.c2.hi.c, .int .i64 cc.c3.u, .int .i64 cc.c3.ro, .int .i64 cc.c3.ty, .int .i64 cc.c3.lo.s, .int .u64 cc.c3.lo.c, .int .i64 cc.c3.hi.s, .int .u64 cc.c3.hi.c]] u fun e w' => e = .returned (.bool (evX c x)) ∧ Below u.heap.size u w') := Lib.hid (by have h := HEV.out cc; rw [HCH.out] at h; exact h)
              clear HEV
              generalize evX c x = ev at *
              have hee : (ev == ev) = true := by simp
              refine wp_region_kp (by kernel_rfl) (by kernel_rfl) ?_
              repeat (first
                  | go_big_quiet_skip
                  | (go_big_quiet_want
                     first
                       | (refine quiet_load (t := 28) (.tmp 3) rfl rfl (fun w1 hC => loadAt_expr (HX6.out.keep (Below.block hC ge HG6.out))) ?_; simp only [Act.put, List.setIfInBounds_toArray, List.set_cons_succ, List.set_cons_zero]; go_big_quiet_on)
                       | (refine quiet_load (t := 36) (.tmp 8) rfl rfl (fun w1 hC => loadAt_case (Blk.keep HBE.out hC)) ?_; simp only [Act.put, List.setIfInBounds_toArray, List.set_cons_succ, List.set_cons_zero]; go_big_quiet_on)
                       | (refine quiet_load (t := 36) (.tmp 75) rfl rfl (fun w1 hC => load_first (Blk.keep HD6.out hC)) ?_; simp only [Act.put, List.setIfInBounds_toArray, List.set_cons_succ, List.set_cons_zero]; go_big_quiet_on)
                       | (go_big_quiet_op
                          first
                            | go_big_quiet_on
                            | (apply Exists.intro
                               refine ⟨fun w1 hC => ?_, ?_⟩
                               · first
                                   | (go_at_call 8; with_reducible exact hC.call (HE1.out _ (HU6.out _ hC)))
                                   | (go_at_call 8; with_reducible exact hC.call (HE2.out _ (HU6.out _ hC)))
                                   | (go_at_call 7; with_reducible exact hC.call (HAW.out _))
                                   | exact rfl
                                   | (go_simp; exact ⟨rfl, rfl⟩)
                               go_big_quiet_on))))
              refine wpQuiet_nil ?_
              intro W7 hC7
              have HB2 := Lib.hid (HB.out.trans (Below.mono (Kp.step HK6.out hC7) HLE.out))
              clear hC7
              go_wp2_with fail
              go_ret
              exact ⟨rfl, by first | exact HB2.out | (rw [hge]; exact HB2.out)⟩
end Go.Proofs.Ytamcfmfkmekkfaa
namespace Go.Proofs.Ytamcfmfkmekkfaa
open Go.ChangeShapes Go.WideShapes Go.ChangeAt Go.RowKit
theorem Try.cellsCa2 : Try.prog.cellsOf 42 = 42 := by kernel_rfl
section
variable {H : Type} {enc : TypeId × Value → H} {W : World} {base : Nat} {sp : Nat → Bool} {held : Bool} {n : Nat} {x : DataW H × List MemPlace}
set_option maxRecDepth 100000 in
theorem trod_ca2 {cs : List Value} (h : DataW.trod enc Try.prog W base sp held n 42 cs = some x) : ∃ c d : Ca, cs = ([.int .i64 c.c1.u, .int .i64 c.c1.ro, .int .i64 c.c1.ty, .int .i64 c.c1.lo.s, .int .u64 c.c1.lo.c, .int .i64 c.c1.hi.s, .int .u64 c.c1.hi.c, .int .i64 c.c2.u, .int .i64 c.c2.ro, .int .i64 c.c2.ty, .int .i64 c.c2.lo.s, .int .u64 c.c2.lo.c, .int .i64 c.c2.hi.s, .int .u64 c.c2.hi.c, .int .i64 c.c3.u, .int .i64 c.c3.ro, .int .i64 c.c3.ty, .int .i64 c.c3.lo.s, .int .u64 c.c3.lo.c, .int .i64 c.c3.hi.s, .int .u64 c.c3.hi.c] : List Value) ++ [.int .i64 d.c1.u, .int .i64 d.c1.ro, .int .i64 d.c1.ty, .int .i64 d.c1.lo.s, .int .u64 d.c1.lo.c, .int .i64 d.c1.hi.s, .int .u64 d.c1.hi.c, .int .i64 d.c2.u, .int .i64 d.c2.ro, .int .i64 d.c2.ty, .int .i64 d.c2.lo.s, .int .u64 d.c2.lo.c, .int .i64 d.c2.hi.s, .int .u64 d.c2.hi.c, .int .i64 d.c3.u, .int .i64 d.c3.ro, .int .i64 d.c3.ty, .int .i64 d.c3.lo.s, .int .u64 d.c3.lo.c, .int .i64 d.c3.hi.s, .int .u64 d.c3.hi.c] := by
  obtain ⟨xs, m, _, _, hl, hlen, hx⟩ := DataW.trod_array Try.underlying42 h
  have h0 := hx 0 (by decide)
  rw [List.getElem?_eq_getElem (show 0 < xs.length by rw [hlen]; decide), Try.cellsCa] at h0
  have h1 := hx 1 (by decide)
  rw [List.getElem?_eq_getElem (show 1 < xs.length by rw [hlen]; decide), Try.cellsCa] at h1
  rw [Try.cellsCa2] at hl
  obtain ⟨c, e0⟩ := trod_ca h0
  obtain ⟨d, e1⟩ := trod_ca h1
  refine ⟨c, d, ?_⟩
  rw [← e0, ← e1]
  have e2 : (cs.drop (1 * 21)).take 21 = cs.drop 21 := List.take_of_length_le (by rw [List.length_drop]; omega)
  rw [e2, Nat.zero_mul, List.drop_zero, List.take_append_drop]
end
section
variable {H : Type} {enc : TypeId × Value → H} {W : World} {base : Nat} {v : Value} {d : DataW H} {p : List MemPlace}
set_option maxRecDepth 100000 in
theorem open_case2 (hok : Value.okWide Try.prog W .any base 42 v) (h : DataW.Trod enc Try.prog W 0 (fun _ => true) true 42 v d p) : ∃ c d : Ca, v = .agg #[.int .i64 c.c1.u, .int .i64 c.c1.ro, .int .i64 c.c1.ty, .int .i64 c.c1.lo.s, .int .u64 c.c1.lo.c, .int .i64 c.c1.hi.s, .int .u64 c.c1.hi.c, .int .i64 c.c2.u, .int .i64 c.c2.ro, .int .i64 c.c2.ty, .int .i64 c.c2.lo.s, .int .u64 c.c2.lo.c, .int .i64 c.c2.hi.s, .int .u64 c.c2.hi.c, .int .i64 c.c3.u, .int .i64 c.c3.ro, .int .i64 c.c3.ty, .int .i64 c.c3.lo.s, .int .u64 c.c3.lo.c, .int .i64 c.c3.hi.s, .int .u64 c.c3.hi.c, .int .i64 d.c1.u, .int .i64 d.c1.ro, .int .i64 d.c1.ty, .int .i64 d.c1.lo.s, .int .u64 d.c1.lo.c, .int .i64 d.c1.hi.s, .int .u64 d.c1.hi.c, .int .i64 d.c2.u, .int .i64 d.c2.ro, .int .i64 d.c2.ty, .int .i64 d.c2.lo.s, .int .u64 d.c2.lo.c, .int .i64 d.c2.hi.s, .int .u64 d.c2.hi.c, .int .i64 d.c3.u, .int .i64 d.c3.ro, .int .i64 d.c3.ty, .int .i64 d.c3.lo.s, .int .u64 d.c3.lo.c, .int .i64 d.c3.hi.s, .int .u64 d.c3.hi.c] := by
  obtain ⟨⟨cl⟩, rfl, hsz, _⟩ : ∃ cs, v = .agg cs ∧ cs.size = Try.prog.cellsOf 42 ∧ Row.okWide Try.prog W .any base 42 cs := by
    simpa [Value.okWide, Try.underlying42] using hok
  obtain ⟨fuel, hf⟩ := h
  obtain ⟨c, d, he⟩ := trod_ca2 hf
  have he2 : cl = ([.int .i64 c.c1.u, .int .i64 c.c1.ro, .int .i64 c.c1.ty, .int .i64 c.c1.lo.s, .int .u64 c.c1.lo.c, .int .i64 c.c1.hi.s, .int .u64 c.c1.hi.c, .int .i64 c.c2.u, .int .i64 c.c2.ro, .int .i64 c.c2.ty, .int .i64 c.c2.lo.s, .int .u64 c.c2.lo.c, .int .i64 c.c2.hi.s, .int .u64 c.c2.hi.c, .int .i64 c.c3.u, .int .i64 c.c3.ro, .int .i64 c.c3.ty, .int .i64 c.c3.lo.s, .int .u64 c.c3.lo.c, .int .i64 c.c3.hi.s, .int .u64 c.c3.hi.c] : List Value) ++ [.int .i64 d.c1.u, .int .i64 d.c1.ro, .int .i64 d.c1.ty, .int .i64 d.c1.lo.s, .int .u64 d.c1.lo.c, .int .i64 d.c1.hi.s, .int .u64 d.c1.hi.c, .int .i64 d.c2.u, .int .i64 d.c2.ro, .int .i64 d.c2.ty, .int .i64 d.c2.lo.s, .int .u64 d.c2.lo.c, .int .i64 d.c2.hi.s, .int .u64 d.c2.hi.c, .int .i64 d.c3.u, .int .i64 d.c3.ro, .int .i64 d.c3.ty, .int .i64 d.c3.lo.s, .int .u64 d.c3.lo.c, .int .i64 d.c3.hi.s, .int .u64 d.c3.hi.c] := he
  exact ⟨c, d, by rw [he2]; rfl⟩
end
end Go.Proofs.Ytamcfmfkmekkfaa
namespace Go.Proofs.Ytamcfmfkmekkfaa.constraintMentions
open Go.ChangeShapes Go.WideShapes Go.ChangeAt Go.RowKit
set_option maxRecDepth 100000 in
set_option maxHeartbeats 1000000 in
theorem lifted (os : Os) (started : os.Started) (H : Type) (enc : TypeId × Value → H) :
    ReturnsInHanded {} Try.checked os 5 .any (Rows.constraintMentionsSpec.pre6 enc Try.prog Try.f5 Rows.constraintMentionsRow.domain false) (Rows.constraintMentionsSpec.post enc Try.prog Try.f5 false true false false) := by
  refine returnsInHanded_of_change (C := Try.checked) Try.own started (by kernel_rfl) Try.func5
    (ChangeSpec.witness6 (enc := enc) (C := Try.checked) false ⟨#[], #[.agg #[.int .i64 0, .int .i64 0, .int .i64 0, .int .i64 0, .slice none 0 0, .int .u64 0, .int .u64 0, .int .u64 0, .int .u64 0, .slice none 0 0], .int .i64 0, .agg #[.int .i64 0, .int .i64 0, .int .i64 0, .int .i64 0, .int .u64 0, .int .i64 0, .int .u64 0, .int .i64 0, .int .i64 0, .int .i64 0, .int .i64 0, .int .u64 0, .int .i64 0, .int .u64 0, .int .i64 0, .int .i64 0, .int .i64 0, .int .i64 0, .int .u64 0, .int .i64 0, .int .u64 0, .int .i64 0, .int .i64 0, .int .i64 0, .int .i64 0, .int .u64 0, .int .i64 0, .int .u64 0, .int .i64 0, .int .i64 0, .int .i64 0, .int .i64 0, .int .u64 0, .int .i64 0, .int .u64 0, .int .i64 0, .int .i64 0, .int .i64 0, .int .i64 0, .int .u64 0, .int .i64 0, .int .u64 0]], []⟩ 8 (by kernel_rfl) (by kernel_rfl) (by kernel_rfl) (by kernel_rfl)) ?_
  intro W base args ds gs before hval0 hW hcnd _
  have hval : ∀ (j : Nat) t v, Try.f5.params[j]? = some t → args[j]? = some v → Value.okWide Try.prog W .any base t v := hval0
  have hW' := hW
  obtain ⟨p, q, hA0, hV, rfl, hfz, hnd⟩ := hW
  have hA : DataW.TrodAll enc Try.prog W 0 (fun _ => true) true Try.f5.params.toList args.toList ds p := hA0
  rw [Try.params5] at hA hval
  obtain ⟨v0, vs0, d0, ds0, p0, q0, hargs, rfl, rfl, h0, r0⟩ := trodAll_cons hA
  obtain ⟨v1, vs1, d1, ds1, p1, q1, rfl, rfl, rfl, h1, r1⟩ := trodAll_cons r0
  obtain ⟨v2, vs2, d2, ds2, p2, q2, rfl, rfl, rfl, h2, r2⟩ := trodAll_cons r1
  obtain ⟨rfl, rfl, rfl⟩ := trodAll_nil r2
  obtain rfl : args = #[v0, v1, v2] := by cases args; simp_all
  obtain ⟨rfl, rfl⟩ := trodVars_none hV
  have lt0 : ∀ x ∈ p0, x.block < W.heap.size := by obtain ⟨m, hm⟩ := h0; exact DataW.trod_lt m _ _ _ hm
  have k0 := h0
  obtain ⟨x0, vn0, vk0, rfl, hX0⟩ := open_expr (hval 0 28 v0 rfl rfl) h0
  have lt1 : ∀ x ∈ p1, x.block < W.heap.size := by obtain ⟨m, hm⟩ := h1; exact DataW.trod_lt m _ _ _ hm
  have k1 := h1
  obtain ⟨n1, rfl, rfl, rfl, z1⟩ := open_int Try.underlying3 (hval 1 3 v1 rfl rfl) h1
  have lt2 : ∀ x ∈ p2, x.block < W.heap.size := by obtain ⟨m, hm⟩ := h2; exact DataW.trod_lt m _ _ _ hm
  have k2 := h2
  obtain ⟨c2, d2x, rfl⟩ := open_case2 (hval 2 42 v2 rfl rfl) h2
  clear hA0 hval0
  refine (lawMentions_c x0 _ _ n1 c2 d2x W hX0).mono fun e W' ⟨he, bel⟩ => ?_
  subst he
  exact ⟨_, rfl, _, _, _, [], _, [], hW', trodAll_mk1 (shut_bool Try.underlying4 _), (trodAll_cons_mk (Below.trod Try.laidOut (by kernel_rfl) (of_decide_eq_true (by kernel_rfl)) k0 bel lt0) (trodAll_cons_mk (Below.trod Try.laidOut (by kernel_rfl) (of_decide_eq_true (by kernel_rfl)) k1 bel lt1) (trodAll_cons_mk (Below.trod Try.laidOut (by kernel_rfl) (of_decide_eq_true (by kernel_rfl)) k2 bel lt2) trodAll_mk0))), rfl, bel.frame _, fun h => by cases h⟩
theorem proved : Rows.ConstraintMentionsSaid :=
  OpenClaim.holds_of_wide 5 Try.f5 rfl rfl rfl rfl rfl rfl rfl ⟨rfl, rfl, rfl, rfl, rfl⟩ rfl rfl rfl rfl rfl (by kernel_rfl) Try.func5 (by kernel_rfl)
    (of_decide_eq_true (by kernel_rfl)) (by unfold Func.isWrapper; first | (rw [if_pos (by decide +kernel)]; kernel_rfl) | (rw [if_neg (by decide +kernel)]; exact ⟨rfl, rfl⟩))
    (fun os started H enc _ => lifted os started H enc)
#print axioms proved
end Go.Proofs.Ytamcfmfkmekkfaa.constraintMentions
