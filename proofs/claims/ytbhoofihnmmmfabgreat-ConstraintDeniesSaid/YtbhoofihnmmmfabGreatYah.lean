/- Part of the proof: Cxi Qt Cxj. No conditions. -/
import Derived.Test.YtbhoofihnmmmfabGreatYag
import Derived.Test.YtbhoofihnmmmfabGreatYaa
import Derived.StillTail
import Derived.Deep.Quiet
import Derived.Laws.Tables
namespace Go.Proofs.YtbhoofihnmmmfabGreat
open Go.RowKit
set_option maxRecDepth 100000 in
set_option maxHeartbeats 4000000 in
theorem related_0 (a b : Lv) (r : Int) (w : World) (hr : r = 0) : Calls Tryz.prog 73 #[.agg #[.int .i64 a.s, .int .u64 a.c], .int .i64 r, .agg #[.int .i64 b.s, .int .u64 b.c]] w fun e w' => e = .returned (.bool (relX a r b)) ∧ Below w.heap.size w w' := by
 unfold relX
 have p0 : (r == 0) = true := by simp [hr]
 have p1 : (r == 1) = false := by simp [hr]
 have p2 : (r == 2) = false := by simp [hr]
 have p3 : (r == 3) = false := by simp [hr]
 rw [if_pos hr]
 clear hr
 by_cases hab : a = b
 · subst hab
   rw [decide_eq_true rfl]
   obtain ⟨W0, hW0⟩ : ∃ W0, (w.alloc (.cells #[.int .i64 a.s, .int .u64 a.c] 42)).alloc (.cells #[.int .i64 a.s, .int .u64 a.c] 42) = W0 := ⟨_, rfl⟩
   have B1 : Blk W0 w.heap.size 42 #[.int .i64 a.s, .int .u64 a.c] := by rw [← hW0]; exact (Blk.new w _ _).alloc _
   have B2 : Blk W0 (w.heap.size + 1) 42 #[.int .i64 a.s, .int .u64 a.c] := by
    have h := Blk.new (w.alloc (.cells #[.int .i64 a.s, .int .u64 a.c] 42)) 42 #[.int .i64 a.s, .int .u64 a.c]
    rw [World.size_alloc, hW0] at h; exact h
   have HB0 : Hid (Below w.heap.size w W0) := Lib.hid (by rw [← hW0]; exact ((Below.refl _ _).alloc (Nat.le_refl _) _).alloc (by simp) _)
   have a0 := B1.cell 0
   have a1 := B1.cell 1
   have b0 := B2.cell 0
   have b1 := B2.cell 1
   go_enter Tryz.func73, Tryz.ntmps73
   go_wp2_with fail
   go_ret
   exact ⟨rfl, HB0.out⟩
 · rw [decide_eq_false hab]
   by_cases h : a.s = b.s
   · have hcc : ((a.c : Int) == (b.c : Int)) = false := by
      have : ¬ a.c = b.c := fun h2 => hab (lv_eq h h2)
      simp; omega
     have hss : (a.s == b.s) = true := by rw [h]; simp
     clear hab h
     obtain ⟨W0, hW0⟩ : ∃ W0, (w.alloc (.cells #[.int .i64 a.s, .int .u64 a.c] 42)).alloc (.cells #[.int .i64 b.s, .int .u64 b.c] 42) = W0 := ⟨_, rfl⟩
     have B1 : Blk W0 w.heap.size 42 #[.int .i64 a.s, .int .u64 a.c] := by rw [← hW0]; exact (Blk.new w _ _).alloc _
     have B2 : Blk W0 (w.heap.size + 1) 42 #[.int .i64 b.s, .int .u64 b.c] := by
      have h := Blk.new (w.alloc (.cells #[.int .i64 a.s, .int .u64 a.c] 42)) 42 #[.int .i64 b.s, .int .u64 b.c]
      rw [World.size_alloc, hW0] at h; exact h
     have HB0 : Hid (Below w.heap.size w W0) := Lib.hid (by rw [← hW0]; exact ((Below.refl _ _).alloc (Nat.le_refl _) _).alloc (by simp) _)
     have a0 := B1.cell 0
     have a1 := B1.cell 1
     have b0 := B2.cell 0
     have b1 := B2.cell 1
     go_enter Tryz.func73, Tryz.ntmps73
     go_wp2_with fail
     go_ret
     exact ⟨rfl, HB0.out⟩
   · have hss : (a.s == b.s) = false := by simpa using h
     clear hab h
     obtain ⟨W0, hW0⟩ : ∃ W0, (w.alloc (.cells #[.int .i64 a.s, .int .u64 a.c] 42)).alloc (.cells #[.int .i64 b.s, .int .u64 b.c] 42) = W0 := ⟨_, rfl⟩
     have B1 : Blk W0 w.heap.size 42 #[.int .i64 a.s, .int .u64 a.c] := by rw [← hW0]; exact (Blk.new w _ _).alloc _
     have B2 : Blk W0 (w.heap.size + 1) 42 #[.int .i64 b.s, .int .u64 b.c] := by
      have h := Blk.new (w.alloc (.cells #[.int .i64 a.s, .int .u64 a.c] 42)) 42 #[.int .i64 b.s, .int .u64 b.c]
      rw [World.size_alloc, hW0] at h; exact h
     have HB0 : Hid (Below w.heap.size w W0) := Lib.hid (by rw [← hW0]; exact ((Below.refl _ _).alloc (Nat.le_refl _) _).alloc (by simp) _)
     have a0 := B1.cell 0
     have a1 := B1.cell 1
     have b0 := B2.cell 0
     have b1 := B2.cell 1
     go_enter Tryz.func73, Tryz.ntmps73
     go_wp2_with fail
     go_ret
     exact ⟨rfl, HB0.out⟩
set_option maxRecDepth 100000 in
set_option maxHeartbeats 4000000 in
theorem related_1 (a b : Lv) (r : Int) (w : World) (hr : r = 1) : Calls Tryz.prog 73 #[.agg #[.int .i64 a.s, .int .u64 a.c], .int .i64 r, .agg #[.int .i64 b.s, .int .u64 b.c]] w fun e w' => e = .returned (.bool (relX a r b)) ∧ Below w.heap.size w w' := by
 unfold relX
 have p0 : (r == 0) = false := by simp [hr]
 have p1 : (r == 1) = true := by simp [hr]
 have p2 : (r == 2) = false := by simp [hr]
 have p3 : (r == 3) = false := by simp [hr]
 rw [if_neg (by omega), if_pos hr]
 clear hr
 by_cases hab : a = b
 · subst hab
   rw [decide_eq_true rfl]
   obtain ⟨W0, hW0⟩ : ∃ W0, (w.alloc (.cells #[.int .i64 a.s, .int .u64 a.c] 42)).alloc (.cells #[.int .i64 a.s, .int .u64 a.c] 42) = W0 := ⟨_, rfl⟩
   have B1 : Blk W0 w.heap.size 42 #[.int .i64 a.s, .int .u64 a.c] := by rw [← hW0]; exact (Blk.new w _ _).alloc _
   have B2 : Blk W0 (w.heap.size + 1) 42 #[.int .i64 a.s, .int .u64 a.c] := by
    have h := Blk.new (w.alloc (.cells #[.int .i64 a.s, .int .u64 a.c] 42)) 42 #[.int .i64 a.s, .int .u64 a.c]
    rw [World.size_alloc, hW0] at h; exact h
   have HB0 : Hid (Below w.heap.size w W0) := Lib.hid (by rw [← hW0]; exact ((Below.refl _ _).alloc (Nat.le_refl _) _).alloc (by simp) _)
   have a0 := B1.cell 0
   have a1 := B1.cell 1
   have b0 := B2.cell 0
   have b1 := B2.cell 1
   go_enter Tryz.func73, Tryz.ntmps73
   go_wp2_with fail
   go_ret
   exact ⟨rfl, HB0.out⟩
 · rw [decide_eq_false hab]
   by_cases h : a.s = b.s
   · have hcc : ((a.c : Int) == (b.c : Int)) = false := by
      have : ¬ a.c = b.c := fun h2 => hab (lv_eq h h2)
      simp; omega
     have hss : (a.s == b.s) = true := by rw [h]; simp
     clear hab h
     obtain ⟨W0, hW0⟩ : ∃ W0, (w.alloc (.cells #[.int .i64 a.s, .int .u64 a.c] 42)).alloc (.cells #[.int .i64 b.s, .int .u64 b.c] 42) = W0 := ⟨_, rfl⟩
     have B1 : Blk W0 w.heap.size 42 #[.int .i64 a.s, .int .u64 a.c] := by rw [← hW0]; exact (Blk.new w _ _).alloc _
     have B2 : Blk W0 (w.heap.size + 1) 42 #[.int .i64 b.s, .int .u64 b.c] := by
      have h := Blk.new (w.alloc (.cells #[.int .i64 a.s, .int .u64 a.c] 42)) 42 #[.int .i64 b.s, .int .u64 b.c]
      rw [World.size_alloc, hW0] at h; exact h
     have HB0 : Hid (Below w.heap.size w W0) := Lib.hid (by rw [← hW0]; exact ((Below.refl _ _).alloc (Nat.le_refl _) _).alloc (by simp) _)
     have a0 := B1.cell 0
     have a1 := B1.cell 1
     have b0 := B2.cell 0
     have b1 := B2.cell 1
     go_enter Tryz.func73, Tryz.ntmps73
     go_wp2_with fail
     go_ret
     exact ⟨rfl, HB0.out⟩
   · have hss : (a.s == b.s) = false := by simpa using h
     clear hab h
     obtain ⟨W0, hW0⟩ : ∃ W0, (w.alloc (.cells #[.int .i64 a.s, .int .u64 a.c] 42)).alloc (.cells #[.int .i64 b.s, .int .u64 b.c] 42) = W0 := ⟨_, rfl⟩
     have B1 : Blk W0 w.heap.size 42 #[.int .i64 a.s, .int .u64 a.c] := by rw [← hW0]; exact (Blk.new w _ _).alloc _
     have B2 : Blk W0 (w.heap.size + 1) 42 #[.int .i64 b.s, .int .u64 b.c] := by
      have h := Blk.new (w.alloc (.cells #[.int .i64 a.s, .int .u64 a.c] 42)) 42 #[.int .i64 b.s, .int .u64 b.c]
      rw [World.size_alloc, hW0] at h; exact h
     have HB0 : Hid (Below w.heap.size w W0) := Lib.hid (by rw [← hW0]; exact ((Below.refl _ _).alloc (Nat.le_refl _) _).alloc (by simp) _)
     have a0 := B1.cell 0
     have a1 := B1.cell 1
     have b0 := B2.cell 0
     have b1 := B2.cell 1
     go_enter Tryz.func73, Tryz.ntmps73
     go_wp2_with fail
     go_ret
     exact ⟨rfl, HB0.out⟩
set_option maxRecDepth 100000 in
set_option maxHeartbeats 4000000 in
theorem related_2 (a b : Lv) (r : Int) (w : World) (hr : r = 2) : Calls Tryz.prog 73 #[.agg #[.int .i64 a.s, .int .u64 a.c], .int .i64 r, .agg #[.int .i64 b.s, .int .u64 b.c]] w fun e w' => e = .returned (.bool (relX a r b)) ∧ Below w.heap.size w w' := by
 obtain ⟨W0, hW0⟩ : ∃ W0, (w.alloc (.cells #[.int .i64 a.s, .int .u64 a.c] 42)).alloc (.cells #[.int .i64 b.s, .int .u64 b.c] 42) = W0 := ⟨_, rfl⟩
 have B1 : Blk W0 w.heap.size 42 #[.int .i64 a.s, .int .u64 a.c] := by rw [← hW0]; exact (Blk.new w _ _).alloc _
 have B2 : Blk W0 (w.heap.size + 1) 42 #[.int .i64 b.s, .int .u64 b.c] := by
  have h := Blk.new (w.alloc (.cells #[.int .i64 a.s, .int .u64 a.c] 42)) 42 #[.int .i64 b.s, .int .u64 b.c]
  rw [World.size_alloc, hW0] at h; exact h
 have HB0 : Hid (Below w.heap.size w W0) := Lib.hid (by rw [← hW0]; exact ((Below.refl _ _).alloc (Nat.le_refl _) _).alloc (by simp) _)
 have a0 := B1.cell 0
 have a1 := B1.cell 1
 have b0 := B2.cell 0
 have b1 := B2.cell 1
 unfold relX
 have p0 : (r == 0) = false := by simp [hr]
 have p1 : (r == 1) = false := by simp [hr]
 have p2 : (r == 2) = true := by simp [hr]
 have p3 : (r == 3) = false := by simp [hr]
 rw [if_neg (by omega), if_neg (by omega), if_pos hr]
 clear hr
 go_enter Tryz.func73, Tryz.ntmps73
 go_upto_region 1 with fail
 try rw [hW0]
 clear hW0 B1 B2
 go_wp2_with (go_at_call 100; refine (domX_c a b _).mono ?_; rintro e W1 ⟨rfl, hb1⟩; have HB1 := Lib.hid (HB0.out.trans (hb1.mono HB0.out.size)); clear hb1)
 go_ret
 exact ⟨rfl, HB1.out⟩
set_option maxRecDepth 100000 in
set_option maxHeartbeats 4000000 in
theorem related_3 (a b : Lv) (r : Int) (w : World) (hr : r = 3) : Calls Tryz.prog 73 #[.agg #[.int .i64 a.s, .int .u64 a.c], .int .i64 r, .agg #[.int .i64 b.s, .int .u64 b.c]] w fun e w' => e = .returned (.bool (relX a r b)) ∧ Below w.heap.size w w' := by
 obtain ⟨W0, hW0⟩ : ∃ W0, (w.alloc (.cells #[.int .i64 a.s, .int .u64 a.c] 42)).alloc (.cells #[.int .i64 b.s, .int .u64 b.c] 42) = W0 := ⟨_, rfl⟩
 have B1 : Blk W0 w.heap.size 42 #[.int .i64 a.s, .int .u64 a.c] := by rw [← hW0]; exact (Blk.new w _ _).alloc _
 have B2 : Blk W0 (w.heap.size + 1) 42 #[.int .i64 b.s, .int .u64 b.c] := by
  have h := Blk.new (w.alloc (.cells #[.int .i64 a.s, .int .u64 a.c] 42)) 42 #[.int .i64 b.s, .int .u64 b.c]
  rw [World.size_alloc, hW0] at h; exact h
 have HB0 : Hid (Below w.heap.size w W0) := Lib.hid (by rw [← hW0]; exact ((Below.refl _ _).alloc (Nat.le_refl _) _).alloc (by simp) _)
 have a0 := B1.cell 0
 have a1 := B1.cell 1
 have b0 := B2.cell 0
 have b1 := B2.cell 1
 unfold relX
 have p0 : (r == 0) = false := by simp [hr]
 have p1 : (r == 1) = false := by simp [hr]
 have p2 : (r == 2) = false := by simp [hr]
 have p3 : (r == 3) = true := by simp [hr]
 rw [if_neg (by omega), if_neg (by omega), if_neg (by omega), if_pos hr]
 clear hr
 go_enter Tryz.func73, Tryz.ntmps73
 go_upto_region 1 with fail
 try rw [hW0]
 clear hW0 B1 B2
 go_wp2_with (go_at_call 100; refine (domX_c b a _).mono ?_; rintro e W1 ⟨rfl, hb1⟩; have HB1 := Lib.hid (HB0.out.trans (hb1.mono HB0.out.size)); clear hb1)
 go_ret
 exact ⟨rfl, HB1.out⟩
set_option maxRecDepth 100000 in
set_option maxHeartbeats 4000000 in
theorem related_4 (a b : Lv) (r : Int) (w : World) (hr : r ≠ 0 ∧ r ≠ 1 ∧ r ≠ 2 ∧ r ≠ 3) : Calls Tryz.prog 73 #[.agg #[.int .i64 a.s, .int .u64 a.c], .int .i64 r, .agg #[.int .i64 b.s, .int .u64 b.c]] w fun e w' => e = .returned (.bool (relX a r b)) ∧ Below w.heap.size w w' := by
 obtain ⟨W0, hW0⟩ : ∃ W0, (w.alloc (.cells #[.int .i64 a.s, .int .u64 a.c] 42)).alloc (.cells #[.int .i64 b.s, .int .u64 b.c] 42) = W0 := ⟨_, rfl⟩
 have B1 : Blk W0 w.heap.size 42 #[.int .i64 a.s, .int .u64 a.c] := by rw [← hW0]; exact (Blk.new w _ _).alloc _
 have B2 : Blk W0 (w.heap.size + 1) 42 #[.int .i64 b.s, .int .u64 b.c] := by
  have h := Blk.new (w.alloc (.cells #[.int .i64 a.s, .int .u64 a.c] 42)) 42 #[.int .i64 b.s, .int .u64 b.c]
  rw [World.size_alloc, hW0] at h; exact h
 have HB0 : Hid (Below w.heap.size w W0) := Lib.hid (by rw [← hW0]; exact ((Below.refl _ _).alloc (Nat.le_refl _) _).alloc (by simp) _)
 have a0 := B1.cell 0
 have a1 := B1.cell 1
 have b0 := B2.cell 0
 have b1 := B2.cell 1
 unfold relX
 have p0 : (r == 0) = false := by simp; omega
 have p1 : (r == 1) = false := by simp; omega
 have p2 : (r == 2) = false := by simp; omega
 have p3 : (r == 3) = false := by simp; omega
 rw [if_neg hr.1, if_neg hr.2.1, if_neg hr.2.2.1, if_neg hr.2.2.2]
 have hd : (relN a b == 4) = decide (relN a b = 4) := by by_cases h : relN a b = 4 <;> simp [h]
 clear hr
 go_enter Tryz.func73, Tryz.ntmps73
 go_upto_region 1 with fail
 try rw [hW0]
 clear hW0 B1 B2
 go_wp2_with (go_at_call 101; refine (relN_c a b _).mono ?_; rintro e W1 ⟨rfl, hb1⟩; have HB1 := Lib.hid (HB0.out.trans (hb1.mono HB0.out.size)); clear hb1)
 go_ret
 exact ⟨rfl, HB1.out⟩
theorem related_c (a b : Lv) (r : Int) (w : World) : Calls Tryz.prog 73 #[.agg #[.int .i64 a.s, .int .u64 a.c], .int .i64 r, .agg #[.int .i64 b.s, .int .u64 b.c]] w fun e w' => e = .returned (.bool (relX a r b)) ∧ Below w.heap.size w w' := by
 by_cases h0 : r = 0
 · exact related_0 a b r w h0
 · by_cases h1 : r = 1
   · exact related_1 a b r w h1
   · by_cases h2 : r = 2
     · exact related_2 a b r w h2
     · by_cases h3 : r = 3
       · exact related_3 a b r w h3
       · exact related_4 a b r w ⟨h0, h1, h2, h3⟩
def ctxX (c : Ca) (q : Nat) : Cx := if q = 0 then c.c1 else if q = 1 then c.c2 else c.c3
def rdX (c : Ca) (n : Nat) : Lv := atX (ctxX c (n / 5)) ((n : Int).tmod 5)
theorem case_cells {w : World} {g : Nat} {ty : TypeId} {c : Ca} (h : Blk w g ty #[.int .i64 c.c1.u, .int .i64 c.c1.ro, .int .i64 c.c1.ty, .int .i64 c.c1.lo.s, .int .u64 c.c1.lo.c, .int .i64 c.c1.hi.s, .int .u64 c.c1.hi.c, .int .i64 c.c2.u, .int .i64 c.c2.ro, .int .i64 c.c2.ty, .int .i64 c.c2.lo.s, .int .u64 c.c2.lo.c, .int .i64 c.c2.hi.s, .int .u64 c.c2.hi.c, .int .i64 c.c3.u, .int .i64 c.c3.ro, .int .i64 c.c3.ty, .int .i64 c.c3.lo.s, .int .u64 c.c3.lo.c, .int .i64 c.c3.hi.s, .int .u64 c.c3.hi.c]) {q : Nat} (hq : q < 3) : w.cell? ⟨g, q * 7, none⟩ = some (.int .i64 (ctxX c q).u) ∧ w.cell? ⟨g, q * 7 + 1, none⟩ = some (.int .i64 (ctxX c q).ro) ∧ w.cell? ⟨g, q * 7 + 2, none⟩ = some (.int .i64 (ctxX c q).ty) ∧ w.cell? ⟨g, q * 7 + 3, none⟩ = some (.int .i64 (ctxX c q).lo.s) ∧ w.cell? ⟨g, q * 7 + 4, none⟩ = some (.int .u64 (ctxX c q).lo.c) ∧ w.cell? ⟨g, q * 7 + 5, none⟩ = some (.int .i64 (ctxX c q).hi.s) ∧ w.cell? ⟨g, q * 7 + 6, none⟩ = some (.int .u64 (ctxX c q).hi.c) := by
 match q, hq with
 | 0, _ => exact ⟨h.cell 0, h.cell 1, h.cell 2, h.cell 3, h.cell 4, h.cell 5, h.cell 6⟩
 | 1, _ => exact ⟨h.cell 7, h.cell 8, h.cell 9, h.cell 10, h.cell 11, h.cell 12, h.cell 13⟩
 | 2, _ => exact ⟨h.cell 14, h.cell 15, h.cell 16, h.cell 17, h.cell 18, h.cell 19, h.cell 20⟩
def rdPhi (gc : Nat) (c : Ca) (W0 : World) (k : Nat) (v : Value) (u : World) : Prop := match k with
 | 0 => v = .pointer (some ⟨gc, 0, none⟩)
 | 1 => v = .pointer (some ⟨gc, 0, none⟩)
 | 2 => v = .pointer (some ⟨gc, 0, none⟩)
 | 3 => v = .agg #[.int .i64 c.c1.u, .int .i64 c.c1.ro, .int .i64 c.c1.ty, .int .i64 c.c1.lo.s, .int .u64 c.c1.lo.c, .int .i64 c.c1.hi.s, .int .u64 c.c1.hi.c]
 | 4 => v = .pointer (some ⟨gc, 0, none⟩)
 | 5 => v = .pointer (some ⟨gc, 0, none⟩)
 | 6 => v = .pointer (some ⟨gc, 7, none⟩)
 | 7 => v = .agg #[.int .i64 c.c2.u, .int .i64 c.c2.ro, .int .i64 c.c2.ty, .int .i64 c.c2.lo.s, .int .u64 c.c2.lo.c, .int .i64 c.c2.hi.s, .int .u64 c.c2.hi.c]
 | 8 => v = .pointer (some ⟨gc, 0, none⟩)
 | 9 => v = .pointer (some ⟨gc, 0, none⟩)
 | 10 => v = .pointer (some ⟨gc, 14, none⟩)
 | 11 => v = .agg #[.int .i64 c.c3.u, .int .i64 c.c3.ro, .int .i64 c.c3.ty, .int .i64 c.c3.lo.s, .int .u64 c.c3.lo.c, .int .i64 c.c3.hi.s, .int .u64 c.c3.hi.c]
 | 12 => v = .agg #[.int .i64 c.c1.u, .int .i64 c.c1.ro, .int .i64 c.c1.ty, .int .i64 c.c1.lo.s, .int .u64 c.c1.lo.c, .int .i64 c.c1.hi.s, .int .u64 c.c1.hi.c, .int .i64 c.c2.u, .int .i64 c.c2.ro, .int .i64 c.c2.ty, .int .i64 c.c2.lo.s, .int .u64 c.c2.lo.c, .int .i64 c.c2.hi.s, .int .u64 c.c2.hi.c, .int .i64 c.c3.u, .int .i64 c.c3.ro, .int .i64 c.c3.ty, .int .i64 c.c3.lo.s, .int .u64 c.c3.lo.c, .int .i64 c.c3.hi.s, .int .u64 c.c3.hi.c]
 | 13 => ∃ g, v = .pointer (some ⟨g, 0, none⟩) ∧ W0.heap.size ≤ g ∧ Blk u g 163 #[.int .i64 0, .int .i64 0, .int .i64 0, .int .i64 0, .int .u64 0, .int .i64 0, .int .u64 0, .int .i64 0, .int .i64 0, .int .i64 0, .int .i64 0, .int .u64 0, .int .i64 0, .int .u64 0, .int .i64 0, .int .i64 0, .int .i64 0, .int .i64 0, .int .u64 0, .int .i64 0, .int .u64 0]
 | _ => True
theorem rdPhi_keep {gc : Nat} {c : Ca} {W0 : World} {k : Nat} {v : Value} {u u' : World} (h : rdPhi gc c W0 k v u) (hb : Below u.heap.size u u') : rdPhi gc c W0 k v u' := by
 unfold rdPhi at h ⊢
 split at h
 iterate 13 exact h
 · obtain ⟨g, h1, h2, h3⟩ := h
   exact ⟨g, h1, h2, h3.keep hb⟩
 · trivial
open Go.RowKit Go
section
variable {P : Program} {ops : Array Oper} {md : Region.Mode} {C : World → Prop}
/-- whatever order is picked for the head; what is left then -/
def headQ (P : Program) (md : Region.Mode) (ops : Array Oper) (C : World → Prop) (n : Nat) (L : Array Bool → Act → Prop) : Nat → Array Bool → Act → Prop
 | 0, listed, a => L listed a
 | f + 1, listed, a => Region.ready md ops listed ≠ [] ∧ ∀ i ∈ Region.ready md ops listed, i < n ∧ qOp P ops C i (headQ P md ops C n L f (listed.setIfInBounds i true)) a
theorem any_of_headQ {n g : Nat} {L : Array Bool → Act → Prop} {Q' : Exit → Act → World → Prop} (hL : ∀ listed a w, C w → L listed a → wpAny P md ops Q' g listed a w) :
 ∀ (f : Nat) (listed : Array Bool) (a : Act) (w : World), C w → headQ P md ops C n L f listed a → wpAny P md ops Q' (f + g) listed a w
 | 0, _, _, _, hw, h => by rw [Nat.zero_add]; exact hL _ _ _ hw h
 | f + 1, listed, a, w, hw, h => by
   rw [show f + 1 + g = (f + g) + 1 by omega]
   exact ⟨fun h0 => absurd h0 h.1, fun i hi => wpOp_of_qOp hw (fun a' w' hw' h' => any_of_headQ hL f _ a' w' hw' h') (h.2 i hi).2⟩
theorem headQ_first {n i : Nat} {oi : Oper} {v : Value} {L : Array Bool → Act → Prop} (hi : ops[i]? = some oi) (hsel : ∀ (j : Nat) (o : Oper) cs b, ops[j]? = some o → o.op ≠ .select cs b)
 (hs : Region.sinkB md ops n = true) (hc : Region.chainB md ops n = true) (hn : n < ops.size) (hin : i < n)
 (hdone : ∀ listed a, L listed a → ∀ j ∈ Region.ready md ops listed, n ≤ j) :
 ∀ (f : Nat) (listed : Array Bool) (a : Act), HeadInv md ops n listed →
  (∀ j oj, ops[j]? = some oj → j ≠ i → listed.getD j true = false → (∀ e ∈ oj.after, Region.binds md e = true → e.on ≠ i) → oi.apart ops oj = true) →
  i ∈ Region.ready md ops listed → YieldsIn P ops C oi v a →
  headQ P md ops C n L f (listed.setIfInBounds i true) (a.put oi.dst v) → headQ P md ops C n L (f + 1) listed a := by
 intro f
 induction f with
 | zero =>
   intro listed a inv _ hr hy H
   have hun := (mem_ready.1 hr).1
   refine ⟨fun h => (by rw [h] at hr; cases hr), fun j hj => ?_⟩
   have hjn : j < n := by
    rcases Nat.lt_or_ge j n with h | h
    · exact h
    · exact absurd hj (tail_waits hs hc hn inv _ i rfl hin hun j h)
   refine ⟨hjn, ?_⟩
   by_cases hji : j = i
   · subst hji; exact hy.qOp hi H
   · have := hdone _ _ H j (ready_mono hj hji)
     omega
 | succ f ih =>
   intro listed a inv hfree hr hy H
   have hun := (mem_ready.1 hr).1
   refine ⟨fun h => (by rw [h] at hr; cases hr), fun j hj => ?_⟩
   have hjn : j < n := by
    rcases Nat.lt_or_ge j n with h | h
    · exact h
    · exact absurd hj (tail_waits hs hc hn inv _ i rfl hin hun j h)
   refine ⟨hjn, ?_⟩
   by_cases hji : j = i
   · subst hji; exact hy.qOp hi H
   · have h1 := (H.2 j (ready_mono hj hji)).2
     obtain ⟨hjun, oj, hoj, hall⟩ := mem_ready.1 hj
     have hnot : ∀ e ∈ oj.after, Region.binds md e = true → e.on ≠ i := fun e he hb heq => by
      have h1 := hall e he hb
      rw [heq, getD_both hun] at h1
      cases h1
     have h2 := qOp_put hoj (hfree j oj hoj hji hjun hnot) (fun cs b => hsel i oi cs b hi) (fun cs b => hsel j oj cs b hoj) hy h1
     have hfree' : ∀ k ok, ops[k]? = some ok → k ≠ i → (listed.setIfInBounds j true).getD k true = false →
      (∀ e ∈ ok.after, Region.binds md e = true → e.on ≠ i) → oi.apart ops ok = true := fun k ok hk hki hun hno => by
      refine hfree k ok hk hki ?_ hno
      by_cases hjk : j = k
      · subst hjk; exact hjun
      · rw [getD_set_ne true hjk] at hun; exact hun
     refine qOp_mono (fun a' h3 => ih (listed.setIfInBounds j true) a' (inv.set hj hjn) hfree' (ready_mono hr (Ne.symm hji)) h3.1 ?_) h2
     rw [Array.setIfInBounds_comm _ _ hji]
     exact h3.2
theorem headQ_lex {n g : Nat} {Lq : Act → Prop} (hsel : Region.noSelect ops = true) (hs : Region.sinkB md ops n = true) (hc : Region.chainB md ops n = true) (hn : n < ops.size) :
 ∀ (l : List Oper) (k : Nat) (listed : Array Bool) (a : Act), (∀ j, j < l.length → l[j]? = ops[k + j]?) → k + l.length = n → HeadInv md ops n listed →
 Region.lexHead md ops g l.length k listed = true → wpQuiet P ops C Lq l a →
 headQ P md ops C n (fun listed' a' => Region.seqB md ops g n listed' = true ∧ Lq a') l.length listed a
 | [], k, listed, a, _, hk, _, hB, h => by
   have : k = n := by simpa using hk
   subst this
   exact ⟨by simpa [Region.lexHead] using hB, h⟩
 | o :: l, k, listed, a, hl, hk, inv, hB, h => by
   have h0 : ops[k]? = some o := by simpa using (hl 0 (by simp)).symm
   simp only [List.length_cons, Region.lexHead, Bool.and_eq_true] at hB
   obtain ⟨⟨hr, hf⟩, hB'⟩ := hB
   have hkn : k < n := by simp only [List.length_cons] at hk; omega
   have hr' : k ∈ Region.ready md ops listed := by simpa using hr
   have hst : qOp P ops C k (wpQuiet P ops C Lq l) a := by unfold qOp; simp only [h0]; exact h
   obtain ⟨v, hy, hK⟩ := yieldsIn_of_qOp h0 hst
   exact headQ_first h0 (Region.noSelect_spec hsel) hs hc hn hkn (fun listed' a' hL => seqB_ready hL.1) l.length listed a inv (Region.free_spec h0 hf) hr' hy
    (headQ_lex hsel hs hc hn l (k + 1) _ _ (fun j hj => by have := hl (j + 1) (by simp; omega); simpa [Nat.add_assoc, Nat.add_comm 1 j] using this) (by simp only [List.length_cons] at hk; omega) (inv.set hr' hkn) hB' hK)
theorem wp_region_quiet_tail {id : Nat} {Q : Exit → Act → World → Prop} {a : Act} {w : World} {l : List Oper} (n : Nat) (hm : P.follows .mixedOrders = true) (hB : Region.lexTailB .any l.toArray n = true) (hC : C { w with drawn := w.drawn + 1 })
 (h : wpQuiet P l.toArray C (fun a' => ∀ w', C w' → wpList P l.toArray Q (l.drop n) a' w') (l.take n) a) : (Code.region id l.toArray true).wp P Q a w := by
 simp only [Region.lexTailB, Bool.and_eq_true, decide_eq_true_eq] at hB
 obtain ⟨⟨⟨⟨hsel, hn⟩, hs⟩, hc⟩, hlex⟩ := hB
 have hn' : n < l.length := by simpa using hn
 have htl : (l.take n).length = n := by simp; omega
 have hdl : (l.drop n).length = l.toArray.size - n := by simp
 have inv0 : HeadInv .any l.toArray n (Array.replicate l.toArray.size false) :=
  ⟨by simp, fun j oj _ hl => (by rw [getD_replicate_false] at hl; cases hl), fun t _ ht => getD_in (by simpa using ht) (getD_replicate_false _ _)⟩
 have H := headQ_lex (md := .any) (g := l.toArray.size - n) hsel hs hc hn (l.take n) 0 _ a (fun j hj => by
  have hj' : j < n := by rw [htl] at hj; exact hj
  simp [hj']) (by simpa using htl) inv0 (by rw [htl]; exact hlex) h
 refine wp_region_any hm ?_
 have := any_of_headQ (Q' := Q) (g := l.toArray.size - n) (fun listed a' w' hw' hL => by
  have := wpAny_of_seq (md := .any) (Q' := Q) (l.drop n) n listed a' w' (fun j => by simp [List.getElem?_drop]) (by rw [hdl]; exact hL.1) (hL.2 w' hw')
  rwa [hdl] at this) _ _ _ _ hC H
 rw [htl, show n + (l.toArray.size - n) = l.toArray.size by omega] at this
 exact this
end
/-- the head in the class of worlds that keep all that was there -/
theorem wp_region_kt {P : Program} {id : Nat} {Q : Exit → Act → World → Prop} {a : Act} {w : World} {l : List Oper} (n : Nat) (hm : P.follows .mixedOrders = true) (hB : Region.lexTailB .any l.toArray n = true)
 (h : wpQuiet P l.toArray (Kp w) (fun a' => ∀ w', Kp w w' → wpList P l.toArray Q (l.drop n) a' w') (l.take n) a) : (Code.region id l.toArray true).wp P Q a w :=
 wp_region_quiet_tail (C := Kp w) n hm hB ((Below.refl _ _).drew) h
open Go.RowKit
set_option maxRecDepth 100000 in
theorem storeAt_row {t ty : TypeId} {w : World} {g : Nat} {cs : Array Value} (vs : List Value) (v : Value) (hv : v.cells = vs.toArray) (hsz : (sizeOf t).run Tryz.prog w = .ok vs.length w) (h : Blk w g ty cs) (hl : vs.length = cs.size) (h1 : ∀ x ∈ vs, x.oneCell' = true) :
 (Instr.storeAt t (.pointer (some ⟨g, 0, none⟩)) v).run Tryz.prog w = .ok () (w.setRow g vs.toArray) := by
 have hst := run_storeCells_from (P := Tryz.prog) g ty vs 0 cs w h (by omega) h1
 simp only [List.take_zero, List.nil_append] at hst
 have hv2 : v.cells.size = vs.length := by rw [hv]; simp
 have hv3 : v.cells.toList = vs := by rw [hv]
 unfold Instr.storeAt storeVar
 rw [hv3]
 generalize v.cells.size = n at *
 subst hv2
 go_simp
theorem wpList_store_row {t ty : TypeId} {g : Nat} {w : World} {ops : Array Oper} {rest : List Oper} {o : Oper} {a : Act} {Q : Exit → Act → World → Prop} {cs : Array Value} (hw : Region.wanted o (yielded ops a.tmps) = true) (p x : Operand) (ho : o.op = .store t p x) (hd : o.dst = none)
 (hp : a.eval p = .pointer (some ⟨g, 0, none⟩)) (vs : List Value) (v : Value) (hx : a.eval x = v) (hv : v.cells = vs.toArray) (hsz : (sizeOf t).run Tryz.prog w = .ok vs.length w) (h : Blk w g ty cs) (hl : vs.length = cs.size) (h1 : ∀ x ∈ vs, x.oneCell' = true)
 (hK : wpList Tryz.prog ops Q rest a (w.setRow g vs.toArray)) : wpList Tryz.prog ops Q (o :: rest) a w := by
 unfold wpList
 rw [if_pos hw]
 refine .inl ?_
 have hst := storeAt_row vs v hv hsz h hl h1
 unfold Oper.wp execOp
 simp only [ho, hp, hx, Sem.run_bind, hst, Result.andThen_ok]
 go_simp
theorem Blk.row {t : TypeId} {w : World} {g : Nat} {cs : Array Value} (h : Blk w g t cs) (vs : List Value) : Blk (w.setRow g vs.toArray) g t vs.toArray := setRow_heap w g cs vs.toArray t (0, 0) h
theorem below_row {B : Nat} {w w' : World} {g : Nat} (h : Below B w w') (hg : B ≤ g) (cs : Array Value) : Below B w (w'.setRow g cs) :=
 ⟨h.os, h.tape, h.output, by rw [setRow_size]; exact h.size, fun j hj => (setRow_other w' g j cs (by omega)).trans (h.block j hj)⟩
theorem size_case (w : World) : (sizeOf 163).run Tryz.prog w = .ok 21 w := by go_simp
end Go.Proofs.YtbhoofihnmmmfabGreat
