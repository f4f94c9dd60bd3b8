/- Part of the proof: Cxs Phs. No conditions. -/
import Derived.Test.YtbhoofihnmmmfabGreatYan
import Derived.Test.YtbhoofihnmmmfabGreatYab
namespace Go.Proofs.YtbhoofihnmmmfabGreat
open Go.RowKit Go
@[go_sem] theorem fld_rng (x : Cx) (w : World) : (Instr.field 46 (.agg #[.int .i64 x.u, .int .i64 x.ro, .int .i64 x.ty, .int .i64 x.lo.s, .int .u64 x.lo.c, .int .i64 x.hi.s, .int .u64 x.hi.c]) 3).run Tryz.prog w = .ok (.agg #[.int .i64 x.lo.s, .int .u64 x.lo.c, .int .i64 x.hi.s, .int .u64 x.hi.c]) w := by kernel_rfl
@[go_sem] theorem fld_low (a b : Lv) (w : World) : (Instr.field 44 (.agg #[.int .i64 a.s, .int .u64 a.c, .int .i64 b.s, .int .u64 b.c]) 0).run Tryz.prog w = .ok (.agg #[.int .i64 a.s, .int .u64 a.c]) w := by kernel_rfl
@[go_sem] theorem fld_high (a b : Lv) (w : World) : (Instr.field 44 (.agg #[.int .i64 a.s, .int .u64 a.c, .int .i64 b.s, .int .u64 b.c]) 1).run Tryz.prog w = .ok (.agg #[.int .i64 b.s, .int .u64 b.c]) w := by kernel_rfl
def nmX (c : Ca) (n : Nat) : Int := if sortA n = 0 then (ctxX c (n / 5)).u else if sortA n = 1 then (ctxX c (n / 5)).ro else (ctxX c (n / 5)).ty
def lvX (c : Ca) (n : Nat) : Lv := if (n : Int).tmod 5 = 4 then (ctxX c (n / 5)).hi else (ctxX c (n / 5)).lo
set_option maxRecDepth 100000 in
set_option maxHeartbeats 4000000 in
theorem rname_0 (c : Ca) (n : Nat) (hn : n < 15) (hs : sortA n = 0) (w : World) : Calls Tryz.prog 79 #[.agg #[.int .i64 c.c1.u, .int .i64 c.c1.ro, .int .i64 c.c1.ty, .int .i64 c.c1.lo.s, .int .u64 c.c1.lo.c, .int .i64 c.c1.hi.s, .int .u64 c.c1.hi.c, .int .i64 c.c2.u, .int .i64 c.c2.ro, .int .i64 c.c2.ty, .int .i64 c.c2.lo.s, .int .u64 c.c2.lo.c, .int .i64 c.c2.hi.s, .int .u64 c.c2.hi.c, .int .i64 c.c3.u, .int .i64 c.c3.ro, .int .i64 c.c3.ty, .int .i64 c.c3.lo.s, .int .u64 c.c3.lo.c, .int .i64 c.c3.hi.s, .int .u64 c.c3.hi.c], .int .i64 n] w fun e w' => e = .returned (.int .i64 (nmX c n)) ∧ Below w.heap.size w w' := by
 unfold nmX
 rw [if_pos hs]
 have p0 : (sortA n == 0) = true := by simp; omega
 have p1 : (sortA n == 1) = false := by simp; omega
 have HO := Lib.hid (rctx_c c n hn)
 have HS := Lib.hid (rsort_c n)
 generalize ctxX c (n / 5) = x at *
 generalize sortA n = sa at *
 obtain ⟨W, ZW⟩ : ∃ v, Hid ((w.alloc (.cells #[.int .i64 c.c1.u, .int .i64 c.c1.ro, .int .i64 c.c1.ty, .int .i64 c.c1.lo.s, .int .u64 c.c1.lo.c, .int .i64 c.c1.hi.s, .int .u64 c.c1.hi.c, .int .i64 c.c2.u, .int .i64 c.c2.ro, .int .i64 c.c2.ty, .int .i64 c.c2.lo.s, .int .u64 c.c2.lo.c, .int .i64 c.c2.hi.s, .int .u64 c.c2.hi.c, .int .i64 c.c3.u, .int .i64 c.c3.ro, .int .i64 c.c3.ty, .int .i64 c.c3.lo.s, .int .u64 c.c3.lo.c, .int .i64 c.c3.hi.s, .int .u64 c.c3.hi.c] 48)) = v) := ⟨_, Lib.hid rfl⟩
 have HB : Hid (Below w.heap.size w W) := by cases ZW.out; exact Lib.hid ((Below.refl _ _).alloc (Nat.le_refl _) _)
 have HC : Hid (Blk W w.heap.size 48 #[.int .i64 c.c1.u, .int .i64 c.c1.ro, .int .i64 c.c1.ty, .int .i64 c.c1.lo.s, .int .u64 c.c1.lo.c, .int .i64 c.c1.hi.s, .int .u64 c.c1.hi.c, .int .i64 c.c2.u, .int .i64 c.c2.ro, .int .i64 c.c2.ty, .int .i64 c.c2.lo.s, .int .u64 c.c2.lo.c, .int .i64 c.c2.hi.s, .int .u64 c.c2.hi.c, .int .i64 c.c3.u, .int .i64 c.c3.ro, .int .i64 c.c3.ty, .int .i64 c.c3.lo.s, .int .u64 c.c3.lo.c, .int .i64 c.c3.hi.s, .int .u64 c.c3.hi.c]) := by cases ZW.out; exact Lib.hid (Blk.new w _ _)
 clear hn hs
 go_enter Tryz.func79, Tryz.ntmps79
 go_upto_region 1 with fail
 rw [ZW.out]
 go_upto_region 2 with (first
  | (refine wpList_load (by rfl) _ rfl rfl (loadAt_case HC.out) ?_; simp only [Act.put, List.setIfInBounds_toArray, List.set_cons_succ, List.set_cons_zero])
  | (go_at_call 110; (with_reducible refine (HO.out _).mono ?_); rintro e w1 ⟨rfl, hb1⟩; have HB1 := Lib.hid (HB.out.trans (hb1.mono HB.out.size)); clear hb1))
 obtain ⟨W2, ZW2⟩ : ∃ v, Hid ((w1.alloc (.cells #[.int .i64 x.u, .int .i64 x.ro, .int .i64 x.ty, .int .i64 x.lo.s, .int .u64 x.lo.c, .int .i64 x.hi.s, .int .u64 x.hi.c] 46)) = v) := ⟨_, Lib.hid rfl⟩
 have HX : Hid (Blk W2 w1.heap.size 46 #[.int .i64 x.u, .int .i64 x.ro, .int .i64 x.ty, .int .i64 x.lo.s, .int .u64 x.lo.c, .int .i64 x.hi.s, .int .u64 x.hi.c]) := by cases ZW2.out; exact Lib.hid (Blk.new w1 _ _)
 have HB2 : Hid (Below w.heap.size w W2) := by cases ZW2.out; exact Lib.hid (HB1.out.alloc HB1.out.size _)
 rw [ZW2.out]
 generalize w1.heap.size = gx at *
 go_wp2_with (go_at_call 109; (with_reducible refine (HS.out _).mono ?_); rintro e w3 ⟨rfl, hb3⟩; have HB3 := Lib.hid (HB2.out.trans (hb3.mono HB2.out.size)); have hx := (HX.out.keep hb3).cell; have x0 := hx 0; have x1 := hx 1; have x2 := hx 2; clear hb3 hx)
 go_ret
 exact ⟨rfl, HB3.out⟩
set_option maxRecDepth 100000 in
set_option maxHeartbeats 4000000 in
theorem rname_1 (c : Ca) (n : Nat) (hn : n < 15) (hs : sortA n = 1) (w : World) : Calls Tryz.prog 79 #[.agg #[.int .i64 c.c1.u, .int .i64 c.c1.ro, .int .i64 c.c1.ty, .int .i64 c.c1.lo.s, .int .u64 c.c1.lo.c, .int .i64 c.c1.hi.s, .int .u64 c.c1.hi.c, .int .i64 c.c2.u, .int .i64 c.c2.ro, .int .i64 c.c2.ty, .int .i64 c.c2.lo.s, .int .u64 c.c2.lo.c, .int .i64 c.c2.hi.s, .int .u64 c.c2.hi.c, .int .i64 c.c3.u, .int .i64 c.c3.ro, .int .i64 c.c3.ty, .int .i64 c.c3.lo.s, .int .u64 c.c3.lo.c, .int .i64 c.c3.hi.s, .int .u64 c.c3.hi.c], .int .i64 n] w fun e w' => e = .returned (.int .i64 (nmX c n)) ∧ Below w.heap.size w w' := by
 unfold nmX
 rw [if_neg (by omega), if_pos hs]
 have p0 : (sortA n == 0) = false := by simp; omega
 have p1 : (sortA n == 1) = true := by simp; omega
 have HO := Lib.hid (rctx_c c n hn)
 have HS := Lib.hid (rsort_c n)
 generalize ctxX c (n / 5) = x at *
 generalize sortA n = sa at *
 obtain ⟨W, ZW⟩ : ∃ v, Hid ((w.alloc (.cells #[.int .i64 c.c1.u, .int .i64 c.c1.ro, .int .i64 c.c1.ty, .int .i64 c.c1.lo.s, .int .u64 c.c1.lo.c, .int .i64 c.c1.hi.s, .int .u64 c.c1.hi.c, .int .i64 c.c2.u, .int .i64 c.c2.ro, .int .i64 c.c2.ty, .int .i64 c.c2.lo.s, .int .u64 c.c2.lo.c, .int .i64 c.c2.hi.s, .int .u64 c.c2.hi.c, .int .i64 c.c3.u, .int .i64 c.c3.ro, .int .i64 c.c3.ty, .int .i64 c.c3.lo.s, .int .u64 c.c3.lo.c, .int .i64 c.c3.hi.s, .int .u64 c.c3.hi.c] 48)) = v) := ⟨_, Lib.hid rfl⟩
 have HB : Hid (Below w.heap.size w W) := by cases ZW.out; exact Lib.hid ((Below.refl _ _).alloc (Nat.le_refl _) _)
 have HC : Hid (Blk W w.heap.size 48 #[.int .i64 c.c1.u, .int .i64 c.c1.ro, .int .i64 c.c1.ty, .int .i64 c.c1.lo.s, .int .u64 c.c1.lo.c, .int .i64 c.c1.hi.s, .int .u64 c.c1.hi.c, .int .i64 c.c2.u, .int .i64 c.c2.ro, .int .i64 c.c2.ty, .int .i64 c.c2.lo.s, .int .u64 c.c2.lo.c, .int .i64 c.c2.hi.s, .int .u64 c.c2.hi.c, .int .i64 c.c3.u, .int .i64 c.c3.ro, .int .i64 c.c3.ty, .int .i64 c.c3.lo.s, .int .u64 c.c3.lo.c, .int .i64 c.c3.hi.s, .int .u64 c.c3.hi.c]) := by cases ZW.out; exact Lib.hid (Blk.new w _ _)
 clear hn hs
 go_enter Tryz.func79, Tryz.ntmps79
 go_upto_region 1 with fail
 rw [ZW.out]
 go_upto_region 2 with (first
  | (refine wpList_load (by rfl) _ rfl rfl (loadAt_case HC.out) ?_; simp only [Act.put, List.setIfInBounds_toArray, List.set_cons_succ, List.set_cons_zero])
  | (go_at_call 110; (with_reducible refine (HO.out _).mono ?_); rintro e w1 ⟨rfl, hb1⟩; have HB1 := Lib.hid (HB.out.trans (hb1.mono HB.out.size)); clear hb1))
 obtain ⟨W2, ZW2⟩ : ∃ v, Hid ((w1.alloc (.cells #[.int .i64 x.u, .int .i64 x.ro, .int .i64 x.ty, .int .i64 x.lo.s, .int .u64 x.lo.c, .int .i64 x.hi.s, .int .u64 x.hi.c] 46)) = v) := ⟨_, Lib.hid rfl⟩
 have HX : Hid (Blk W2 w1.heap.size 46 #[.int .i64 x.u, .int .i64 x.ro, .int .i64 x.ty, .int .i64 x.lo.s, .int .u64 x.lo.c, .int .i64 x.hi.s, .int .u64 x.hi.c]) := by cases ZW2.out; exact Lib.hid (Blk.new w1 _ _)
 have HB2 : Hid (Below w.heap.size w W2) := by cases ZW2.out; exact Lib.hid (HB1.out.alloc HB1.out.size _)
 rw [ZW2.out]
 generalize w1.heap.size = gx at *
 go_wp2_with (go_at_call 109; (with_reducible refine (HS.out _).mono ?_); rintro e w3 ⟨rfl, hb3⟩; have HB3 := Lib.hid (HB2.out.trans (hb3.mono HB2.out.size)); have hx := (HX.out.keep hb3).cell; have x0 := hx 0; have x1 := hx 1; have x2 := hx 2; clear hb3 hx)
 go_ret
 exact ⟨rfl, HB3.out⟩
set_option maxRecDepth 100000 in
set_option maxHeartbeats 4000000 in
theorem rname_2 (c : Ca) (n : Nat) (hn : n < 15) (hs : sortA n ≠ 0 ∧ sortA n ≠ 1) (w : World) : Calls Tryz.prog 79 #[.agg #[.int .i64 c.c1.u, .int .i64 c.c1.ro, .int .i64 c.c1.ty, .int .i64 c.c1.lo.s, .int .u64 c.c1.lo.c, .int .i64 c.c1.hi.s, .int .u64 c.c1.hi.c, .int .i64 c.c2.u, .int .i64 c.c2.ro, .int .i64 c.c2.ty, .int .i64 c.c2.lo.s, .int .u64 c.c2.lo.c, .int .i64 c.c2.hi.s, .int .u64 c.c2.hi.c, .int .i64 c.c3.u, .int .i64 c.c3.ro, .int .i64 c.c3.ty, .int .i64 c.c3.lo.s, .int .u64 c.c3.lo.c, .int .i64 c.c3.hi.s, .int .u64 c.c3.hi.c], .int .i64 n] w fun e w' => e = .returned (.int .i64 (nmX c n)) ∧ Below w.heap.size w w' := by
 unfold nmX
 rw [if_neg hs.1, if_neg hs.2]
 have p0 : (sortA n == 0) = false := by simp; omega
 have p1 : (sortA n == 1) = false := by simp; omega
 have HO := Lib.hid (rctx_c c n hn)
 have HS := Lib.hid (rsort_c n)
 generalize ctxX c (n / 5) = x at *
 generalize sortA n = sa at *
 obtain ⟨W, ZW⟩ : ∃ v, Hid ((w.alloc (.cells #[.int .i64 c.c1.u, .int .i64 c.c1.ro, .int .i64 c.c1.ty, .int .i64 c.c1.lo.s, .int .u64 c.c1.lo.c, .int .i64 c.c1.hi.s, .int .u64 c.c1.hi.c, .int .i64 c.c2.u, .int .i64 c.c2.ro, .int .i64 c.c2.ty, .int .i64 c.c2.lo.s, .int .u64 c.c2.lo.c, .int .i64 c.c2.hi.s, .int .u64 c.c2.hi.c, .int .i64 c.c3.u, .int .i64 c.c3.ro, .int .i64 c.c3.ty, .int .i64 c.c3.lo.s, .int .u64 c.c3.lo.c, .int .i64 c.c3.hi.s, .int .u64 c.c3.hi.c] 48)) = v) := ⟨_, Lib.hid rfl⟩
 have HB : Hid (Below w.heap.size w W) := by cases ZW.out; exact Lib.hid ((Below.refl _ _).alloc (Nat.le_refl _) _)
 have HC : Hid (Blk W w.heap.size 48 #[.int .i64 c.c1.u, .int .i64 c.c1.ro, .int .i64 c.c1.ty, .int .i64 c.c1.lo.s, .int .u64 c.c1.lo.c, .int .i64 c.c1.hi.s, .int .u64 c.c1.hi.c, .int .i64 c.c2.u, .int .i64 c.c2.ro, .int .i64 c.c2.ty, .int .i64 c.c2.lo.s, .int .u64 c.c2.lo.c, .int .i64 c.c2.hi.s, .int .u64 c.c2.hi.c, .int .i64 c.c3.u, .int .i64 c.c3.ro, .int .i64 c.c3.ty, .int .i64 c.c3.lo.s, .int .u64 c.c3.lo.c, .int .i64 c.c3.hi.s, .int .u64 c.c3.hi.c]) := by cases ZW.out; exact Lib.hid (Blk.new w _ _)
 clear hn hs
 go_enter Tryz.func79, Tryz.ntmps79
 go_upto_region 1 with fail
 rw [ZW.out]
 go_upto_region 2 with (first
  | (refine wpList_load (by rfl) _ rfl rfl (loadAt_case HC.out) ?_; simp only [Act.put, List.setIfInBounds_toArray, List.set_cons_succ, List.set_cons_zero])
  | (go_at_call 110; (with_reducible refine (HO.out _).mono ?_); rintro e w1 ⟨rfl, hb1⟩; have HB1 := Lib.hid (HB.out.trans (hb1.mono HB.out.size)); clear hb1))
 obtain ⟨W2, ZW2⟩ : ∃ v, Hid ((w1.alloc (.cells #[.int .i64 x.u, .int .i64 x.ro, .int .i64 x.ty, .int .i64 x.lo.s, .int .u64 x.lo.c, .int .i64 x.hi.s, .int .u64 x.hi.c] 46)) = v) := ⟨_, Lib.hid rfl⟩
 have HX : Hid (Blk W2 w1.heap.size 46 #[.int .i64 x.u, .int .i64 x.ro, .int .i64 x.ty, .int .i64 x.lo.s, .int .u64 x.lo.c, .int .i64 x.hi.s, .int .u64 x.hi.c]) := by cases ZW2.out; exact Lib.hid (Blk.new w1 _ _)
 have HB2 : Hid (Below w.heap.size w W2) := by cases ZW2.out; exact Lib.hid (HB1.out.alloc HB1.out.size _)
 rw [ZW2.out]
 generalize w1.heap.size = gx at *
 go_wp2_with (go_at_call 109; (with_reducible refine (HS.out _).mono ?_); rintro e w3 ⟨rfl, hb3⟩; have HB3 := Lib.hid (HB2.out.trans (hb3.mono HB2.out.size)); have hx := (HX.out.keep hb3).cell; have x0 := hx 0; have x1 := hx 1; have x2 := hx 2; clear hb3 hx)
 go_ret
 exact ⟨rfl, HB3.out⟩
theorem rname_c (c : Ca) (n : Nat) (hn : n < 15) (w : World) : Calls Tryz.prog 79 #[.agg #[.int .i64 c.c1.u, .int .i64 c.c1.ro, .int .i64 c.c1.ty, .int .i64 c.c1.lo.s, .int .u64 c.c1.lo.c, .int .i64 c.c1.hi.s, .int .u64 c.c1.hi.c, .int .i64 c.c2.u, .int .i64 c.c2.ro, .int .i64 c.c2.ty, .int .i64 c.c2.lo.s, .int .u64 c.c2.lo.c, .int .i64 c.c2.hi.s, .int .u64 c.c2.hi.c, .int .i64 c.c3.u, .int .i64 c.c3.ro, .int .i64 c.c3.ty, .int .i64 c.c3.lo.s, .int .u64 c.c3.lo.c, .int .i64 c.c3.hi.s, .int .u64 c.c3.hi.c], .int .i64 n] w fun e w' => e = .returned (.int .i64 (nmX c n)) ∧ Below w.heap.size w w' := by
 by_cases h0 : sortA n = 0
 · exact rname_0 c n hn h0 w
 · by_cases h1 : sortA n = 1
   · exact rname_1 c n hn h1 w
   · exact rname_2 c n hn ⟨h0, h1⟩ w
set_option maxRecDepth 100000 in
set_option maxHeartbeats 4000000 in
theorem rlevel_0 (c : Ca) (n : Nat) (hn : n < 15) (hs : (n : Int).tmod 5 = 4) (w : World) : Calls Tryz.prog 111 #[.agg #[.int .i64 c.c1.u, .int .i64 c.c1.ro, .int .i64 c.c1.ty, .int .i64 c.c1.lo.s, .int .u64 c.c1.lo.c, .int .i64 c.c1.hi.s, .int .u64 c.c1.hi.c, .int .i64 c.c2.u, .int .i64 c.c2.ro, .int .i64 c.c2.ty, .int .i64 c.c2.lo.s, .int .u64 c.c2.lo.c, .int .i64 c.c2.hi.s, .int .u64 c.c2.hi.c, .int .i64 c.c3.u, .int .i64 c.c3.ro, .int .i64 c.c3.ty, .int .i64 c.c3.lo.s, .int .u64 c.c3.lo.c, .int .i64 c.c3.hi.s, .int .u64 c.c3.hi.c], .int .i64 n] w fun e w' => e = .returned (.agg #[.int .i64 (lvX c n).s, .int .u64 (lvX c n).c]) ∧ Below w.heap.size w w' := by
 unfold lvX
 rw [if_pos hs]
 have p1 : ((n : Int) % 5 == 4) = true := by
  rw [Int.tmod_eq_emod_of_nonneg (by omega)] at hs
  simp; omega
 have hw : IntKind.i64.wrap ((n : Int).tmod 5) = (n : Int).tmod 5 := IntWalk.i64_in _ (by have := tmod5 n; omega)
 have HO := Lib.hid (rctx_c c n hn)
 generalize ctxX c (n / 5) = x at *
 obtain ⟨W, ZW⟩ : ∃ v, Hid (((w.alloc (.cells #[.int .i64 c.c1.u, .int .i64 c.c1.ro, .int .i64 c.c1.ty, .int .i64 c.c1.lo.s, .int .u64 c.c1.lo.c, .int .i64 c.c1.hi.s, .int .u64 c.c1.hi.c, .int .i64 c.c2.u, .int .i64 c.c2.ro, .int .i64 c.c2.ty, .int .i64 c.c2.lo.s, .int .u64 c.c2.lo.c, .int .i64 c.c2.hi.s, .int .u64 c.c2.hi.c, .int .i64 c.c3.u, .int .i64 c.c3.ro, .int .i64 c.c3.ty, .int .i64 c.c3.lo.s, .int .u64 c.c3.lo.c, .int .i64 c.c3.hi.s, .int .u64 c.c3.hi.c] 48)).alloc (.cells #[.int .i64 0, .int .u64 0] 42)) = v) := ⟨_, Lib.hid rfl⟩
 have HB : Hid (Below w.heap.size w W) := by cases ZW.out; exact Lib.hid (((Below.refl _ _).alloc (Nat.le_refl _) _).alloc (by simp) _)
 have HC : Hid (Blk W w.heap.size 48 #[.int .i64 c.c1.u, .int .i64 c.c1.ro, .int .i64 c.c1.ty, .int .i64 c.c1.lo.s, .int .u64 c.c1.lo.c, .int .i64 c.c1.hi.s, .int .u64 c.c1.hi.c, .int .i64 c.c2.u, .int .i64 c.c2.ro, .int .i64 c.c2.ty, .int .i64 c.c2.lo.s, .int .u64 c.c2.lo.c, .int .i64 c.c2.hi.s, .int .u64 c.c2.hi.c, .int .i64 c.c3.u, .int .i64 c.c3.ro, .int .i64 c.c3.ty, .int .i64 c.c3.lo.s, .int .u64 c.c3.lo.c, .int .i64 c.c3.hi.s, .int .u64 c.c3.hi.c]) := by cases ZW.out; exact Lib.hid ((Blk.new w _ _).alloc _)
 have HR : Hid (Blk W (w.heap.size + 1) 42 #[.int .i64 0, .int .u64 0]) := by cases ZW.out; exact Lib.hid (two_new' _ _ _ _)
 clear hn hs
 go_enter Tryz.func111, Tryz.ntmps111
 go_upto_region 1 with fail
 rw [ZW.out]
 have HLE : Hid (w.heap.size ≤ W.heap.size) := Lib.hid HB.out.size
 have HS : Hid (w.heap.size ≤ w.heap.size + 1) := Lib.hid (Nat.le_succ _)
 generalize w.heap.size + 1 = gr at *
 generalize hgc : w.heap.size = gc at *
 go_wp2_with (first
  | (refine wpList_load (by rfl) _ rfl rfl (loadAt_case HC.out) ?_; simp only [Act.put, List.setIfInBounds_toArray, List.set_cons_succ, List.set_cons_zero])
  | (go_at_call 110; (with_reducible refine (HO.out _).mono ?_); rintro e w1 ⟨rfl, hb1⟩; have HB1 := Lib.hid (HB.out.trans (hb1.mono HLE.out)); have HR1 := Lib.hid (HR.out.keep hb1); have l0 := HR1.out.cell 0; have l1 := HR1.out.cell 1; have zl := HR1.out.frozen; clear hb1))
 exact bodyPost_ret (v := .agg #[.int .i64 x.hi.s, .int .u64 x.hi.c]) (lvl_ret Tryz.results111 rfl ((HR1.out.set 0 _).set 1 _)) rfl ⟨rfl, by first | exact below_set1 (below_set1 HB1.out HS.out 0 _) HS.out 1 _ | (rw [hgc]; exact below_set1 (below_set1 HB1.out HS.out 0 _) HS.out 1 _)⟩
set_option maxRecDepth 100000 in
set_option maxHeartbeats 4000000 in
theorem rlevel_1 (c : Ca) (n : Nat) (hn : n < 15) (hs : ¬ (n : Int).tmod 5 = 4) (w : World) : Calls Tryz.prog 111 #[.agg #[.int .i64 c.c1.u, .int .i64 c.c1.ro, .int .i64 c.c1.ty, .int .i64 c.c1.lo.s, .int .u64 c.c1.lo.c, .int .i64 c.c1.hi.s, .int .u64 c.c1.hi.c, .int .i64 c.c2.u, .int .i64 c.c2.ro, .int .i64 c.c2.ty, .int .i64 c.c2.lo.s, .int .u64 c.c2.lo.c, .int .i64 c.c2.hi.s, .int .u64 c.c2.hi.c, .int .i64 c.c3.u, .int .i64 c.c3.ro, .int .i64 c.c3.ty, .int .i64 c.c3.lo.s, .int .u64 c.c3.lo.c, .int .i64 c.c3.hi.s, .int .u64 c.c3.hi.c], .int .i64 n] w fun e w' => e = .returned (.agg #[.int .i64 (lvX c n).s, .int .u64 (lvX c n).c]) ∧ Below w.heap.size w w' := by
 unfold lvX
 rw [if_neg hs]
 have p1 : ((n : Int) % 5 == 4) = false := by
  rw [Int.tmod_eq_emod_of_nonneg (by omega)] at hs
  simp; omega
 have hw : IntKind.i64.wrap ((n : Int).tmod 5) = (n : Int).tmod 5 := IntWalk.i64_in _ (by have := tmod5 n; omega)
 have HO := Lib.hid (rctx_c c n hn)
 generalize ctxX c (n / 5) = x at *
 obtain ⟨W, ZW⟩ : ∃ v, Hid (((w.alloc (.cells #[.int .i64 c.c1.u, .int .i64 c.c1.ro, .int .i64 c.c1.ty, .int .i64 c.c1.lo.s, .int .u64 c.c1.lo.c, .int .i64 c.c1.hi.s, .int .u64 c.c1.hi.c, .int .i64 c.c2.u, .int .i64 c.c2.ro, .int .i64 c.c2.ty, .int .i64 c.c2.lo.s, .int .u64 c.c2.lo.c, .int .i64 c.c2.hi.s, .int .u64 c.c2.hi.c, .int .i64 c.c3.u, .int .i64 c.c3.ro, .int .i64 c.c3.ty, .int .i64 c.c3.lo.s, .int .u64 c.c3.lo.c, .int .i64 c.c3.hi.s, .int .u64 c.c3.hi.c] 48)).alloc (.cells #[.int .i64 0, .int .u64 0] 42)) = v) := ⟨_, Lib.hid rfl⟩
 have HB : Hid (Below w.heap.size w W) := by cases ZW.out; exact Lib.hid (((Below.refl _ _).alloc (Nat.le_refl _) _).alloc (by simp) _)
 have HC : Hid (Blk W w.heap.size 48 #[.int .i64 c.c1.u, .int .i64 c.c1.ro, .int .i64 c.c1.ty, .int .i64 c.c1.lo.s, .int .u64 c.c1.lo.c, .int .i64 c.c1.hi.s, .int .u64 c.c1.hi.c, .int .i64 c.c2.u, .int .i64 c.c2.ro, .int .i64 c.c2.ty, .int .i64 c.c2.lo.s, .int .u64 c.c2.lo.c, .int .i64 c.c2.hi.s, .int .u64 c.c2.hi.c, .int .i64 c.c3.u, .int .i64 c.c3.ro, .int .i64 c.c3.ty, .int .i64 c.c3.lo.s, .int .u64 c.c3.lo.c, .int .i64 c.c3.hi.s, .int .u64 c.c3.hi.c]) := by cases ZW.out; exact Lib.hid ((Blk.new w _ _).alloc _)
 have HR : Hid (Blk W (w.heap.size + 1) 42 #[.int .i64 0, .int .u64 0]) := by cases ZW.out; exact Lib.hid (two_new' _ _ _ _)
 clear hn hs
 go_enter Tryz.func111, Tryz.ntmps111
 go_upto_region 1 with fail
 rw [ZW.out]
 have HLE : Hid (w.heap.size ≤ W.heap.size) := Lib.hid HB.out.size
 have HS : Hid (w.heap.size ≤ w.heap.size + 1) := Lib.hid (Nat.le_succ _)
 generalize w.heap.size + 1 = gr at *
 generalize hgc : w.heap.size = gc at *
 go_wp2_with (first
  | (refine wpList_load (by rfl) _ rfl rfl (loadAt_case HC.out) ?_; simp only [Act.put, List.setIfInBounds_toArray, List.set_cons_succ, List.set_cons_zero])
  | (go_at_call 110; (with_reducible refine (HO.out _).mono ?_); rintro e w1 ⟨rfl, hb1⟩; have HB1 := Lib.hid (HB.out.trans (hb1.mono HLE.out)); have HR1 := Lib.hid (HR.out.keep hb1); have l0 := HR1.out.cell 0; have l1 := HR1.out.cell 1; have zl := HR1.out.frozen; clear hb1))
 exact bodyPost_ret (v := .agg #[.int .i64 x.lo.s, .int .u64 x.lo.c]) (lvl_ret Tryz.results111 rfl ((HR1.out.set 0 _).set 1 _)) rfl ⟨rfl, by first | exact below_set1 (below_set1 HB1.out HS.out 0 _) HS.out 1 _ | (rw [hgc]; exact below_set1 (below_set1 HB1.out HS.out 0 _) HS.out 1 _)⟩
theorem rlevel_c (c : Ca) (n : Nat) (hn : n < 15) (w : World) : Calls Tryz.prog 111 #[.agg #[.int .i64 c.c1.u, .int .i64 c.c1.ro, .int .i64 c.c1.ty, .int .i64 c.c1.lo.s, .int .u64 c.c1.lo.c, .int .i64 c.c1.hi.s, .int .u64 c.c1.hi.c, .int .i64 c.c2.u, .int .i64 c.c2.ro, .int .i64 c.c2.ty, .int .i64 c.c2.lo.s, .int .u64 c.c2.lo.c, .int .i64 c.c2.hi.s, .int .u64 c.c2.hi.c, .int .i64 c.c3.u, .int .i64 c.c3.ro, .int .i64 c.c3.ty, .int .i64 c.c3.lo.s, .int .u64 c.c3.lo.c, .int .i64 c.c3.hi.s, .int .u64 c.c3.hi.c], .int .i64 n] w fun e w' => e = .returned (.agg #[.int .i64 (lvX c n).s, .int .u64 (lvX c n).c]) ∧ Below w.heap.size w w' := by
 by_cases h0 : (n : Int).tmod 5 = 4
 · exact rlevel_0 c n hn h0 w
 · exact rlevel_1 c n hn h0 w
open Go.RowKit Go
section
variable {P : Program} {ops : Array Oper} {n : Nat} {W : World} {a0 : Act} {Φ : Nat → Value → World → Prop} {Q : Exit → Act → World → Prop} {al : Nat → Bool}
def obSf (P : Program) (ops : Array Oper) (n : Nat) (W : World) (a0 : Act) (Φ : Nat → Value → World → Prop) (al : Nat → Bool) (i : Nat) (o : Oper) : Prop :=
 (match o.guard with | none => True | some (j, b) => ∀ v w, Φ j v w → v = .bool b) ∧ ∀ A w, Kp W w → (∀ t, factAt ops n Φ a0 o A w t) → Gives P o A w (fun u w' => Φ i u w' ∧ (al i = true → u = .pointer (some ⟨w.heap.size, 0, none⟩) ∧ w.heap.size < w'.heap.size))
structure PsInv (ops : Array Oper) (n : Nat) (W : World) (a0 : Act) (Φ : Nat → Value → World → Prop) (al : Nat → Bool) (listed : Array Bool) (a : Act) (w : World) : Prop where
 ph : PhInv ops n W a0 Φ listed a w
 lt : ∀ j oj t, j < n → al j = true → ops[j]? = some oj → oj.dst = some t → listed.getD j false = true → ∃ g, a.eval (.tmp t) = .pointer (some ⟨g, 0, none⟩) ∧ g < w.heap.size
 ne : ∀ j oj t k ok s, j < n → k < n → j ≠ k → al j = true → al k = true → ops[j]? = some oj → ops[k]? = some ok → oj.dst = some t → ok.dst = some s → listed.getD j false = true → listed.getD k false = true → a.eval (.tmp t) ≠ a.eval (.tmp s)
theorem phs_head {g : Nat} (hB : phiB ops n a0.tmps.size = true) (hst : ∀ i v w w', Φ i v w → Below w.heap.size w w' → Φ i v w')
 (ob : ∀ i o, i < n → ops[i]? = some o → obSf P ops n W a0 Φ al i o)
 (hready : ∀ listed, HeadInv .any ops n listed → (∃ i, i < n ∧ listed.getD i true = false) → ∀ t, n ≤ t → t ∉ Region.ready .any ops listed)
 (leaf : ∀ listed a w, PsInv ops n W a0 Φ al listed a w → HeadInv .any ops n listed → (∀ i, i < n → listed.getD i true = true) → wpAny P .any ops Q g listed a w) :
 ∀ (f : Nat) (listed : Array Bool) (a : Act) (w : World), HeadInv .any ops n listed → PsInv ops n W a0 Φ al listed a w → cntU n listed = f → wpAny P .any ops Q (f + g) listed a w := by
 intro f
 induction f with
 | zero =>
   intro listed a w hi hv hc
   rw [Nat.zero_add]
   refine leaf listed a w hv hi fun i hin => ?_
   have := List.countP_eq_zero.1 hc i (List.mem_range.2 hin)
   simpa using this
 | succ f ih =>
   intro listed a w hi hv hc
   have hex : ∃ i, i < n ∧ listed.getD i true = false := by
    have hpos : 0 < cntU n listed := by omega
    obtain ⟨i, him, hib⟩ := List.countP_pos_iff.1 hpos
    exact ⟨i, List.mem_range.1 him, by simpa using hib⟩
   have hr := hready listed hi hex
   rw [show f + 1 + g = (f + g) + 1 by omega]
   refine ⟨fun h0 => ?_, fun i him => ?_⟩
   · obtain ⟨k, hkn, hk⟩ := hex
     obtain ⟨i, hik, hil, hmin⟩ := least (p := fun i => listed.getD i true = false) k hk
     obtain ⟨o, ho, hlow, _⟩ := phiB_at hB (show i < n by omega)
     have : i ∈ Region.ready .any ops listed := mem_ready.2 ⟨hil, o, ho, fun e he hb => by
      have h1 := hlow e he hb
      have h2 := hmin e.on h1
      have h3 : e.on < listed.size := by
       rw [hi.size]
       have := (Array.getElem?_eq_some_iff.1 ho).1
       omega
      simp only [Array.getD_eq_getD_getElem?, Array.getElem?_eq_getElem h3, Option.getD_some] at h2 ⊢
      simpa using h2⟩
     rw [h0] at this
     cases this
   · have hin : i < n := by
      rcases Nat.lt_or_ge i n with h | h
      · exact h
      · exact absurd him (hr i h)
     obtain ⟨hil, oi, hoi, hall⟩ := mem_ready.1 him
     obtain ⟨o', ho', hlow, hdst, hgd⟩ := phiB_at hB hin
     obtain rfl : o' = oi := Option.some.inj (ho'.symm.trans hoi)
     obtain ⟨og, ov⟩ := ob i o' hin hoi
     have hlist : ∀ j, waitsOn o' j = true → listed.getD j false = true := fun j hj => by
      obtain ⟨e, he, hb, rfl⟩ := waitsOn_spec hj
      exact hall e he hb
     have hfact : ∀ t, factAt ops n Φ a0 o' a w t := fun t => by
      unfold factAt
      cases hs : srcOf ops n t with
      | none => exact hv.ph.out t hs
      | some j =>
        intro hw
        obtain ⟨hjn, oj, hoj, hdj⟩ := srcOf_some hs
        exact hv.ph.phi j oj t hjn hoj hdj (hlist j hw)
     have hwant : Region.wanted o' (yielded ops a.tmps) = true := by
      unfold Region.wanted
      cases hg : o'.guard with
      | none => rfl
      | some jb =>
        obtain ⟨j, b⟩ := jb
        obtain ⟨hjn, hwj, oj, t, hoj, hdj⟩ := hgd j b hg
        rw [hg] at og
        have hval := og _ _ (hv.ph.phi j oj t hjn hoj hdj (hlist j hwj))
        obtain ⟨_, hoj2, _, hd2, _⟩ := phiB_at hB hjn
        obtain rfl := Option.some.inj (hoj2.symm.trans hoj)
        have ht := (hd2 t hdj).1
        rw [← hv.ph.size] at ht
        have hval2 : a.tmps[t]? = some (.bool b) := by
         simp only [Act.eval, Array.getD_eq_getD_getElem?, Array.getElem?_eq_getElem ht, Option.getD_some] at hval
         rw [Array.getElem?_eq_getElem ht, hval]
        simp [yielded, hoj, hdj, hval2]
     unfold wpOp
     simp only [hoi, hwant, if_true]
     refine .inl ((ov a w hv.ph.kp hfact).wp fun u w' hb hu => ?_)
     have hsame : ∀ j oj t, j < n → ops[j]? = some oj → oj.dst = some t → j ≠ i → (a.put o'.dst u).eval (.tmp t) = a.eval (.tmp t) := fun j oj t hjn hoj hdj hji => by
      refine Act.eval_put (fun d hd e => ?_)
      cases e
      obtain ⟨_, hoj2, _, hd2, _⟩ := phiB_at hB hjn
      obtain rfl := Option.some.inj (hoj2.symm.trans hoj)
      have e1 := (hd2 t hdj).2
      rw [(hdst t hd).2] at e1
      exact hji (Option.some.inj e1).symm
     have hnew : ∀ t, o'.dst = some t → (a.put o'.dst u).eval (.tmp t) = u := fun t hd => by
      rw [hd]
      exact eval_same (by rw [hv.ph.size]; exact (hdst t hd).1)
     refine ih _ _ _ (hi.set him hin) ⟨⟨hv.ph.kp.step hb, by rw [put_size]; exact hv.ph.size, by rw [put_def]; exact hv.ph.defers, fun t ht => ?_, fun j oj t hjn hoj hdj hlj => ?_⟩, fun j oj t hjn haj hoj hdj hlj => ?_, fun j oj t k ok s hjn hkn hjk haj hak hoj hok hdj hdk hlj hlk => ?_⟩ ?_
     · rw [Act.eval_put (fun d hd e => ?_)]
       · exact hv.ph.out t ht
       · cases e
         rw [(hdst t hd).2] at ht
         cases ht
     · by_cases hji : j = i
       · subst hji
         obtain rfl := Option.some.inj (hoj.symm.trans hoi)
         rw [hnew t hdj]
         exact hu.1
       · rw [getD_set_ne false (Ne.symm hji)] at hlj
         rw [hsame j oj t hjn hoj hdj hji]
         exact hst _ _ _ _ (hv.ph.phi j oj t hjn hoj hdj hlj) hb
     · by_cases hji : j = i
       · subst hji
         obtain rfl := Option.some.inj (hoj.symm.trans hoi)
         rw [hnew t hdj]
         obtain ⟨e, hl⟩ := hu.2 haj
         exact ⟨_, e, hl⟩
       · rw [getD_set_ne false (Ne.symm hji)] at hlj
         rw [hsame j oj t hjn hoj hdj hji]
         obtain ⟨g, e, hl⟩ := hv.lt j oj t hjn haj hoj hdj hlj
         exact ⟨g, e, Nat.lt_of_lt_of_le hl hb.size⟩
     · by_cases hji : j = i
       · subst hji
         obtain rfl := Option.some.inj (hoj.symm.trans hoi)
         have hkj : k ≠ j := fun e => hjk e.symm
         rw [getD_set_ne false (Ne.symm hkj)] at hlk
         rw [hnew t hdj, hsame k ok s hkn hok hdk hkj, (hu.2 haj).1]
         obtain ⟨g, e, hl⟩ := hv.lt k ok s hkn hak hok hdk hlk
         rw [e]
         intro he
         simp only [Value.pointer.injEq, Option.some.injEq, Addr.mk.injEq] at he
         omega
       · rw [getD_set_ne false (Ne.symm hji)] at hlj
         rw [hsame j oj t hjn hoj hdj hji]
         by_cases hki : k = i
         · subst hki
           obtain rfl := Option.some.inj (hok.symm.trans hoi)
           rw [hnew s hdk, (hu.2 hak).1]
           obtain ⟨g, e, hl⟩ := hv.lt j oj t hjn haj hoj hdj hlj
           rw [e]
           intro he
           simp only [Value.pointer.injEq, Option.some.injEq, Addr.mk.injEq] at he
           omega
         · rw [getD_set_ne false (Ne.symm hki)] at hlk
           rw [hsame k ok s hkn hok hdk hki]
           exact hv.ne j oj t k ok s hjn hkn hjk haj hak hoj hok hdj hdk hlj hlk
     · have := cnt_step (fun j => !listed.getD j true) (fun j => !(listed.setIfInBounds i true).getD j true) i (by rw [hil]; rfl) (by
        have : i < listed.size := by rw [hi.size]; exact (Array.getElem?_eq_some_iff.1 hoi).1
        simp [this]) (fun j hj => by rw [getD_set_ne true (Ne.symm hj)]) n hin
       unfold cntU at hc ⊢
       omega
end
def obsS (P : Program) (ops : Array Oper) (n : Nat) (W : World) (a0 : Act) (Φ : Nat → Value → World → Prop) (al : Nat → Bool) : Nat → List Oper → Prop
 | _, [] => True
 | k, o :: r => obSf P ops n W a0 Φ al k o ∧ obsS P ops n W a0 Φ al (k + 1) r
theorem obsS_at {P : Program} {ops : Array Oper} {n : Nat} {W : World} {a0 : Act} {Φ : Nat → Value → World → Prop} {al : Nat → Bool} : ∀ {l : List Oper} {k : Nat}, obsS P ops n W a0 Φ al k l → ∀ i o, l[i]? = some o → obSf P ops n W a0 Φ al (k + i) o
 | [], _, _, i, o, h => by simp at h
 | x :: l, k, h, 0, o, ho => by
   obtain rfl : x = o := by simpa using ho
   exact h.1
 | x :: l, k, h, i + 1, o, ho => by
   have := obsS_at h.2 i o (by simpa using ho)
   rwa [show k + (i + 1) = k + 1 + i by omega]
theorem wp_region_phis {P : Program} {id : Nat} {Q : Exit → Act → World → Prop} {a0 : Act} {W : World} {l : List Oper} (n : Nat) (Φ : Nat → Value → World → Prop) (al : Nat → Bool) (hm : P.follows .mixedOrders = true) (hn : n ≤ l.length)
 (hB : phiB l.toArray n a0.tmps.size = true) (hs : sinkT l.toArray n = true) (hseq : Region.seqB .any l.toArray (l.length - n) n (doneA n (l.length - n)) = true)
 (hst : ∀ i v w w', Φ i v w → Below w.heap.size w w' → Φ i v w') (ob : obsS P l.toArray n W a0 Φ al 0 (l.take n))
 (h : ∀ a w, Kp W w → a.tmps.size = a0.tmps.size → a.defers = a0.defers → (∀ t, factEnd l.toArray n Φ a0 a w t) → (∀ i j t s, i ≠ j → al i = true → al j = true → srcOf l.toArray n t = some i → srcOf l.toArray n s = some j → a.tmps[t]?.getD undef ≠ a.tmps[s]?.getD undef) → wpList P l.toArray Q (l.drop n) a w) : (Code.region id l.toArray true).wp P Q a0 W := by
 refine wp_region_any hm ?_
 have hsz : l.toArray.size = n + (l.length - n) := by simp; omega
 have hready : ∀ listed, HeadInv .any l.toArray n listed → (∃ i, i < n ∧ listed.getD i true = false) → ∀ t, n ≤ t → t ∉ Region.ready .any l.toArray listed := fun listed inv ⟨i, hi, hun⟩ t ht hr => by
  obtain ⟨_, ot, hot, hall⟩ := mem_ready.1 hr
  have htlt : t < l.toArray.size := (Array.getElem?_eq_some_iff.1 hot).1
  have h1 := List.all_eq_true.1 hs t (List.mem_range.2 htlt)
  simp only [Bool.or_eq_true, decide_eq_true_eq] at h1
  rcases h1 with h1 | h1
  · omega
  · have h2 := List.all_eq_true.1 h1 i (List.mem_range.2 hi)
    have h3 := reach_listed inv.closed l.toArray.size t (fun o ho e he hb => by
     obtain rfl : o = ot := Option.some.inj (ho.symm.trans hot)
     exact hall e he hb) h2
    rw [getD_both hun] at h3
    cases h3
 have := phs_head (al := al) (P := P) (Q := Q) (g := l.length - n) (W := W) (a0 := a0) hB hst (fun i o hi ho => by
  have h1 : (l.take n)[i]? = some o := by rw [List.getElem?_take_of_lt hi]; simpa using ho
  have := obsS_at ob i o h1
  rwa [Nat.zero_add] at this) hready (fun listed a w hv hi hall => by
  have hl : listed = doneA n (l.length - n) := by
   refine Array.ext (by rw [hi.size, hsz]; simp [doneA]) fun k hk hk2 => ?_
   rcases Nat.lt_or_ge k n with hkn | hkn
   · have h1 := hall k hkn
     simp only [Array.getD_eq_getD_getElem?, Array.getElem?_eq_getElem hk, Option.getD_some] at h1
     rw [h1]
     simp [doneA, hkn]
   · have h1 := hi.tail k hkn (by rw [← hi.size]; exact hk)
     simp only [Array.getD_eq_getD_getElem?, Array.getElem?_eq_getElem hk, Option.getD_some] at h1
     rw [h1]
     simp [doneA, List.getElem_append, Nat.not_lt.2 hkn]
  subst hl
  have hdone : ∀ j, j < n → (doneA n (l.length - n)).getD j false = true := fun j hjn => by
   have h1 := hall j hjn
   have h2 : j < (doneA n (l.length - n)).size := by simp [doneA]; omega
   simp only [Array.getD_eq_getD_getElem?, Array.getElem?_eq_getElem h2, Option.getD_some] at h1 ⊢
   exact h1
  have hw := h a w hv.ph.kp hv.ph.size hv.ph.defers (fun t => by
   unfold factEnd
   cases hs : srcOf l.toArray n t with
   | none => exact hv.ph.out t hs
   | some j =>
     obtain ⟨hjn, oj, hoj, hdj⟩ := srcOf_some hs
     refine hv.ph.phi j oj t hjn hoj hdj ?_
     have h1 := hall j hjn
     have h2 : j < (doneA n (l.length - n)).size := by simp [doneA]; omega
     simp only [Array.getD_eq_getD_getElem?, Array.getElem?_eq_getElem h2, Option.getD_some] at h1 ⊢
     exact h1) (fun i j t s hij hai haj hs1 hs2 => by
     obtain ⟨hin, oi, hoi, hdi⟩ := srcOf_some hs1
     obtain ⟨hjn, oj, hoj, hdj⟩ := srcOf_some hs2
     have := hv.ne i oi t j oj s hin hjn hij hai haj hoi hoj hdi hdj (hdone i hin) (hdone j hjn)
     simpa [Act.eval] using this)
  have hd : (l.drop n).length = l.length - n := by simp
  have := wpAny_of_seq (md := .any) (Q' := Q) (l.drop n) n (doneA n (l.length - n)) a w (fun j => by simp [List.getElem?_drop]) (by rw [hd]; exact hseq) hw
  rwa [hd] at this) n (Array.replicate l.toArray.size false) a0 { W with drawn := W.drawn + 1 }
  ⟨by simp, fun j oj _ hl => (by rw [getD_replicate_false] at hl; cases hl), fun t ht ht' => getD_in (by simpa using ht') (getD_replicate_false _ _)⟩
  ⟨⟨(Below.refl _ _).drew, rfl, rfl, fun _ _ => rfl, fun j oj t _ _ _ hl => (by rw [getD_replicate_false] at hl; cases hl)⟩, fun j oj t _ _ _ _ hl => (by rw [getD_replicate_false] at hl; cases hl), fun j oj t k ok s _ _ _ _ _ _ _ _ _ hl => (by rw [getD_replicate_false] at hl; cases hl)⟩ (by
    unfold cntU
    rw [List.countP_eq_length.2 fun i hi => by
     rw [getD_in (by have := List.mem_range.1 hi; simp; omega) (getD_replicate_false _ _)]; rfl]
    simp)
 rw [hsz]
 rw [hsz] at this
 exact this
theorem Gives.no {P : Program} {o : Oper} {A : Act} {w : World} {φ : Value → World → Prop} {al : Bool} (h : Gives P o A w φ) (hal : al = false) : Gives P o A w (fun u w' => φ u w' ∧ (al = true → u = .pointer (some ⟨w.heap.size, 0, none⟩) ∧ w.heap.size < w'.heap.size)) := by
 subst hal
 unfold Gives at h ⊢
 generalize (execOp A.eval o).run P w = r at *
 cases r with
 | ok nx w' =>
   cases nx <;> simp only [GivesR] at h ⊢
   case value u => exact ⟨h.1, h.2, fun e => by cases e⟩
   case skip => exact ⟨h.1, h.2, fun e => by cases e⟩
   case enter f args => exact ⟨h.1, h.2.mono fun e w'' ⟨v, he, hb, hv⟩ => ⟨v, he, hb, hv, fun e => by cases e⟩⟩
 | halt x w' => simp only [GivesR] at h
end Go.Proofs.YtbhoofihnmmmfabGreat
