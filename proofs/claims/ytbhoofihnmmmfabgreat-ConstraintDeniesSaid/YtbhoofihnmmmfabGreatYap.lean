/- Part of the proof: Cxt Cxu Cuu Cxv. No conditions. -/
import Derived.Test.YtbhoofihnmmmfabGreatYao
namespace Go.Proofs.YtbhoofihnmmmfabGreat
open Go.RowKit Go
theorem tmod_cases (n : Nat) : (n : Int).tmod 5 = 0 ∨ (n : Int).tmod 5 = 1 ∨ (n : Int).tmod 5 = 2 ∨ (n : Int).tmod 5 = 3 ∨ (n : Int).tmod 5 = 4 := by
 rw [Int.tmod_eq_emod_of_nonneg (by omega)]; omega
theorem rd_name (c : Ca) (n : Nat) (h : sortA n ≠ 3) : rdX c n = num (nmX c n) := by
 unfold rdX nmX atX
 rcases tmod_cases n with e | e | e | e | e <;> simp [sortA, e] at h ⊢
theorem rd_level (c : Ca) (n : Nat) (h : sortA n = 3) : rdX c n = lvX c n := by
 unfold rdX lvX atX
 rcases tmod_cases n with e | e | e | e | e <;> simp [sortA, e] at h ⊢
theorem num_eq (p q : Int) : num p = num q ↔ p = q := ⟨fun h => by have := congrArg Lv.s h; exact this, fun h => by rw [h]⟩
theorem rel_name (p q r : Int) (h : r = 0 ∨ r = 1) : relX (num p) r (num q) = ((p == q) == (r == 0)) := by
 unfold relX
 rcases h with rfl | rfl
 · rw [if_pos rfl]
   by_cases e : p = q
   · subst e; simp
   · have e2 : ¬ num p = num q := fun h => e ((num_eq p q).1 h)
     simp [e, e2]
 · rw [if_neg (by decide), if_pos rfl]
   by_cases e : p = q
   · subst e; simp
   · have e2 : ¬ num p = num q := fun h => e ((num_eq p q).1 h)
     simp [e, e2]
theorem rel_inc (a b : Lv) : decide (relN a b = 4) = (!domX a b && !domX b a) := by
 have hr : domX a a = true := by
  unfold domX domL
  rw [(subL_iff (a := a.c) (b := a.c) (by have := a.wf; unfold U64n; exact this)).2 fun n _ h => h]; simp
 unfold relN relL
 by_cases e : a.s = b.s ∧ a.c = b.c
 · obtain rfl : a = b := lv_eq e.1 e.2
   rw [if_pos e, hr]; simp
 · rw [if_neg e]
   unfold domX
   cases domL a.s a.c b.s b.c <;> cases domL b.s b.c a.s a.c <;> simp
set_option maxRecDepth 100000 in
set_option maxHeartbeats 8000000 in
theorem rcompare_n (op r : Int) (st : S4) (ao ak : Option Addr) (n1 n2 cap ck na nb : Nat) (c : Ca) (ha : na < 15) (hb : nb < 15) (hs : sortA na ≠ 3) (hs2 : sortA na = sortA nb) (hr : r = 0 ∨ r = 1) (w : World) :
 Calls Tryz.prog 80 #[.agg #[.int .i64 op, .int .i64 na, .int .i64 r, .int .i64 nb, .slice ao n1 cap, .int .u64 st.a, .int .u64 st.b, .int .u64 st.c, .int .u64 st.d, .slice ak n2 ck], .agg #[.int .i64 c.c1.u, .int .i64 c.c1.ro, .int .i64 c.c1.ty, .int .i64 c.c1.lo.s, .int .u64 c.c1.lo.c, .int .i64 c.c1.hi.s, .int .u64 c.c1.hi.c, .int .i64 c.c2.u, .int .i64 c.c2.ro, .int .i64 c.c2.ty, .int .i64 c.c2.lo.s, .int .u64 c.c2.lo.c, .int .i64 c.c2.hi.s, .int .u64 c.c2.hi.c, .int .i64 c.c3.u, .int .i64 c.c3.ro, .int .i64 c.c3.ty, .int .i64 c.c3.lo.s, .int .u64 c.c3.lo.c, .int .i64 c.c3.hi.s, .int .u64 c.c3.hi.c]] w fun e w' => e = .returned (.bool (relX (rdX c na) r (rdX c nb))) ∧ Below w.heap.size w w' := by
 rw [rd_name c na hs, rd_name c nb (by rw [← hs2]; exact hs), rel_name _ _ _ hr]
 have HSO := Lib.hid (rsort_c na)
 have p3 : (sortA na != 3) = true := by simpa using hs
 have HNA := Lib.hid (fun W => rname_c c na ha W)
 have HNB := Lib.hid (fun W => rname_c c nb hb W)
 generalize sortA na = sa at *
 generalize nmX c na = pa at *
 generalize nmX c nb = pb at *
 obtain ⟨W, ZW⟩ : ∃ v, Hid (((w.alloc (.cells #[.int .i64 op, .int .i64 na, .int .i64 r, .int .i64 nb, .slice ao n1 cap, .int .u64 st.a, .int .u64 st.b, .int .u64 st.c, .int .u64 st.d, .slice ak n2 ck] 55)).alloc (.cells #[.int .i64 c.c1.u, .int .i64 c.c1.ro, .int .i64 c.c1.ty, .int .i64 c.c1.lo.s, .int .u64 c.c1.lo.c, .int .i64 c.c1.hi.s, .int .u64 c.c1.hi.c, .int .i64 c.c2.u, .int .i64 c.c2.ro, .int .i64 c.c2.ty, .int .i64 c.c2.lo.s, .int .u64 c.c2.lo.c, .int .i64 c.c2.hi.s, .int .u64 c.c2.hi.c, .int .i64 c.c3.u, .int .i64 c.c3.ro, .int .i64 c.c3.ty, .int .i64 c.c3.lo.s, .int .u64 c.c3.lo.c, .int .i64 c.c3.hi.s, .int .u64 c.c3.hi.c] 48)) = v) := ⟨_, Lib.hid rfl⟩
 have HXC : Hid (XC W w.heap.size 0 op na r nb ao n1 cap st ak n2 ck) := by cases ZW.out; exact Lib.hid (XC.of_blk ((Blk.new w _ _).alloc _))
 have HC : Hid (Blk W (w.heap.size + 1) 48 #[.int .i64 c.c1.u, .int .i64 c.c1.ro, .int .i64 c.c1.ty, .int .i64 c.c1.lo.s, .int .u64 c.c1.lo.c, .int .i64 c.c1.hi.s, .int .u64 c.c1.hi.c, .int .i64 c.c2.u, .int .i64 c.c2.ro, .int .i64 c.c2.ty, .int .i64 c.c2.lo.s, .int .u64 c.c2.lo.c, .int .i64 c.c2.hi.s, .int .u64 c.c2.hi.c, .int .i64 c.c3.u, .int .i64 c.c3.ro, .int .i64 c.c3.ty, .int .i64 c.c3.lo.s, .int .u64 c.c3.lo.c, .int .i64 c.c3.hi.s, .int .u64 c.c3.hi.c]) := by cases ZW.out; exact Lib.hid (two_new' _ _ _ _)
 have HB : Hid (Below w.heap.size w W) := by cases ZW.out; exact Lib.hid (((Below.refl _ _).alloc (Nat.le_refl _) _).alloc (by simp) _)
 have HG : Hid (w.heap.size < W.heap.size) := by cases ZW.out; exact Lib.hid (by simp; omega)
 clear ha hb hs hs2 hr
 go_enter Tryz.func80, Tryz.ntmps80
 go_upto_region 1 with fail
 rw [ZW.out]
 have HLE : Hid (w.heap.size ≤ W.heap.size) := Lib.hid HB.out.size
 generalize w.heap.size + 1 = gc at *
 generalize hge : w.heap.size = ge at *
 obtain ⟨y0, y1, y2, y3, y4, y5, y6, y7, y8, y9⟩ := HXC.out.cells
 go_upto_region 2 with (go_at_call 109; (with_reducible refine (HSO.out _).mono ?_); rintro e w1 ⟨rfl, hb1⟩; have HB1 := Lib.hid (HB.out.trans (hb1.mono HLE.out)); have HX1 := Lib.hid (HXC.out.keep (hb1.block ge HG.out)); have HG1 := Lib.hid (Nat.lt_of_lt_of_le HG.out hb1.size); have HC1 := Lib.hid (HC.out.keep hb1); clear hb1)
 clear HXC HC HB HG HLE y0 y1 y2 y3 y4 y5 y6 y7 y8 y9
 have HC := HC1
 refine wp_region_kp (by kernel_rfl) (by kernel_rfl) ?_
 repeat (first | go_big_quiet_skip | (go_big_quiet_want; first | (refine quiet_load _ rfl rfl (fun w1 hC => loadAt_case (Blk.keep HC.out hC)) ?_; simp only [Act.put, List.setIfInBounds_toArray, List.set_cons_succ, List.set_cons_zero]; go_big_quiet_on) | (go_big_quiet_op; first | go_big_quiet_on | (apply Exists.intro; refine ⟨fun w1 hC => ?_, ?_⟩; (first | (go_at_call 79; with_reducible first | exact hC.call (HNA.out _) | exact hC.call (HNB.out _)) | (go_simp; exact ⟨rfl, rfl⟩) | (obtain ⟨y0, y1, y2, y3, y4, y5, y6, y7, y8, y9⟩ := (HX1.out.keep (Below.block hC ge HG1.out)).cells; go_simp; exact rfl)); go_big_quiet_on))))
 refine wpQuiet_nil ?_
 intro W1 hC
 have HCC := Lib.hid (HB1.out.trans (hC.mono (Nat.le_of_lt HG1.out)))
 clear hC
 go_wp2_with fail
 go_ret
 exact ⟨rfl, by first | exact HCC.out | (rw [hge]; exact HCC.out)⟩
open Go.RowKit Go
def cpPhi (c : Ca) (ge na nb : Nat) (la lb : Lv) (W0 : World) (k : Nat) (v : Value) (u : World) : Prop := match k with
 | 0 => v = .agg #[.int .i64 c.c1.u, .int .i64 c.c1.ro, .int .i64 c.c1.ty, .int .i64 c.c1.lo.s, .int .u64 c.c1.lo.c, .int .i64 c.c1.hi.s, .int .u64 c.c1.hi.c, .int .i64 c.c2.u, .int .i64 c.c2.ro, .int .i64 c.c2.ty, .int .i64 c.c2.lo.s, .int .u64 c.c2.lo.c, .int .i64 c.c2.hi.s, .int .u64 c.c2.hi.c, .int .i64 c.c3.u, .int .i64 c.c3.ro, .int .i64 c.c3.ty, .int .i64 c.c3.lo.s, .int .u64 c.c3.lo.c, .int .i64 c.c3.hi.s, .int .u64 c.c3.hi.c]
 | 1 => v = .pointer (some ⟨ge, 1, none⟩)
 | 2 => v = .int .i64 na
 | 3 => v = .agg #[.int .i64 la.s, .int .u64 la.c]
 | 4 => v = .agg #[.int .i64 c.c1.u, .int .i64 c.c1.ro, .int .i64 c.c1.ty, .int .i64 c.c1.lo.s, .int .u64 c.c1.lo.c, .int .i64 c.c1.hi.s, .int .u64 c.c1.hi.c, .int .i64 c.c2.u, .int .i64 c.c2.ro, .int .i64 c.c2.ty, .int .i64 c.c2.lo.s, .int .u64 c.c2.lo.c, .int .i64 c.c2.hi.s, .int .u64 c.c2.hi.c, .int .i64 c.c3.u, .int .i64 c.c3.ro, .int .i64 c.c3.ty, .int .i64 c.c3.lo.s, .int .u64 c.c3.lo.c, .int .i64 c.c3.hi.s, .int .u64 c.c3.hi.c]
 | 5 => v = .pointer (some ⟨ge, 3, none⟩)
 | 6 => v = .int .i64 nb
 | 7 => v = .agg #[.int .i64 lb.s, .int .u64 lb.c]
 | 8 => ∃ g, v = .pointer (some ⟨g, 0, none⟩) ∧ W0.heap.size ≤ g ∧ Blk u g 42 #[.int .i64 0, .int .u64 0]
 | 9 => ∃ g, v = .pointer (some ⟨g, 0, none⟩) ∧ W0.heap.size ≤ g ∧ Blk u g 42 #[.int .i64 0, .int .u64 0]
 | _ => True
theorem cpPhi_keep {c : Ca} {ge na nb : Nat} {la lb : Lv} {W0 : World} {k : Nat} {v : Value} {u u' : World} (h : cpPhi c ge na nb la lb W0 k v u) (hb : Below u.heap.size u u') : cpPhi c ge na nb la lb W0 k v u' := by
 unfold cpPhi at h ⊢
 split at h
 iterate 8 exact h
 · obtain ⟨g, h1, h2, h3⟩ := h
   exact ⟨g, h1, h2, h3.keep hb⟩
 · obtain ⟨g, h1, h2, h3⟩ := h
   exact ⟨g, h1, h2, h3.keep hb⟩
 · trivial
theorem gives_box2 {P : Program} {w : World} {φ : Value → World → Prop} {o : Obj} (h : φ (.pointer (some ⟨w.heap.size, 0, none⟩)) (w.alloc o)) : GivesR P w (fun u w' => φ u w' ∧ u = .pointer (some ⟨w.heap.size, 0, none⟩) ∧ w.heap.size < w'.heap.size) (.ok (.value (.pointer (some ⟨w.heap.size, 0, none⟩))) (w.alloc o)) :=
 ⟨(Below.refl _ _).alloc (Nat.le_refl _) _, h, rfl, by simp⟩
theorem size_lv (w : World) : (sizeOf 42).run Tryz.prog w = .ok 2 w := by go_simp
theorem Blk.other {w : World} {g g2 : Nat} {t : TypeId} {cs : Array Value} (h : Blk w g t cs) (hne : g ≠ g2) (cs2 : Array Value) : Blk (w.setRow g2 cs2) g t cs := (setRow_other w g2 g cs2 hne).trans h
open Go.RowKit Go
set_option maxRecDepth 100000 in
set_option maxHeartbeats 16000000 in
theorem rcl (op r : Int) (st : S4) (ao ak : Option Addr) (n1 n2 cap ck na nb : Nat) (c : Ca) (la lb : Lv) (rv : Bool) (hs : sortA na = 3) (H : (r = 0 ∧ rv = decide (la = lb)) ∨ (r = 1 ∧ rv = !decide (la = lb)) ∨ (r = 2 ∧ rv = domX la lb) ∨ (r = 3 ∧ rv = domX lb la) ∨ (r = 4 ∧ rv = (!domX la lb && !domX lb la))) (HLA : ∀ W, Calls Tryz.prog 111 #[.agg #[.int .i64 c.c1.u, .int .i64 c.c1.ro, .int .i64 c.c1.ty, .int .i64 c.c1.lo.s, .int .u64 c.c1.lo.c, .int .i64 c.c1.hi.s, .int .u64 c.c1.hi.c, .int .i64 c.c2.u, .int .i64 c.c2.ro, .int .i64 c.c2.ty, .int .i64 c.c2.lo.s, .int .u64 c.c2.lo.c, .int .i64 c.c2.hi.s, .int .u64 c.c2.hi.c, .int .i64 c.c3.u, .int .i64 c.c3.ro, .int .i64 c.c3.ty, .int .i64 c.c3.lo.s, .int .u64 c.c3.lo.c, .int .i64 c.c3.hi.s, .int .u64 c.c3.hi.c], .int .i64 na] W fun e w' => e = .returned (.agg #[.int .i64 la.s, .int .u64 la.c]) ∧ Below W.heap.size W w') (HLB : ∀ W, Calls Tryz.prog 111 #[.agg #[.int .i64 c.c1.u, .int .i64 c.c1.ro, .int .i64 c.c1.ty, .int .i64 c.c1.lo.s, .int .u64 c.c1.lo.c, .int .i64 c.c1.hi.s, .int .u64 c.c1.hi.c, .int .i64 c.c2.u, .int .i64 c.c2.ro, .int .i64 c.c2.ty, .int .i64 c.c2.lo.s, .int .u64 c.c2.lo.c, .int .i64 c.c2.hi.s, .int .u64 c.c2.hi.c, .int .i64 c.c3.u, .int .i64 c.c3.ro, .int .i64 c.c3.ty, .int .i64 c.c3.lo.s, .int .u64 c.c3.lo.c, .int .i64 c.c3.hi.s, .int .u64 c.c3.hi.c], .int .i64 nb] W fun e w' => e = .returned (.agg #[.int .i64 lb.s, .int .u64 lb.c]) ∧ Below W.heap.size W w') (w : World) :
 Calls Tryz.prog 80 #[.agg #[.int .i64 op, .int .i64 na, .int .i64 r, .int .i64 nb, .slice ao n1 cap, .int .u64 st.a, .int .u64 st.b, .int .u64 st.c, .int .u64 st.d, .slice ak n2 ck], .agg #[.int .i64 c.c1.u, .int .i64 c.c1.ro, .int .i64 c.c1.ty, .int .i64 c.c1.lo.s, .int .u64 c.c1.lo.c, .int .i64 c.c1.hi.s, .int .u64 c.c1.hi.c, .int .i64 c.c2.u, .int .i64 c.c2.ro, .int .i64 c.c2.ty, .int .i64 c.c2.lo.s, .int .u64 c.c2.lo.c, .int .i64 c.c2.hi.s, .int .u64 c.c2.hi.c, .int .i64 c.c3.u, .int .i64 c.c3.ro, .int .i64 c.c3.ty, .int .i64 c.c3.lo.s, .int .u64 c.c3.lo.c, .int .i64 c.c3.hi.s, .int .u64 c.c3.hi.c]] w fun e w' => e = .returned (.bool rv) ∧ Below w.heap.size w w' := by
 have HH := Lib.hid H
 clear H
 have HSO := Lib.hid (rsort_c na)
 have p3' : (sortA na != 3) = false := by simpa using hs
 have HNA := Lib.hid HLA
 have HNB := Lib.hid HLB
 generalize sortA na = sa at *
 obtain ⟨W, ZW⟩ : ∃ v, Hid (((w.alloc (.cells #[.int .i64 op, .int .i64 na, .int .i64 r, .int .i64 nb, .slice ao n1 cap, .int .u64 st.a, .int .u64 st.b, .int .u64 st.c, .int .u64 st.d, .slice ak n2 ck] 55)).alloc (.cells #[.int .i64 c.c1.u, .int .i64 c.c1.ro, .int .i64 c.c1.ty, .int .i64 c.c1.lo.s, .int .u64 c.c1.lo.c, .int .i64 c.c1.hi.s, .int .u64 c.c1.hi.c, .int .i64 c.c2.u, .int .i64 c.c2.ro, .int .i64 c.c2.ty, .int .i64 c.c2.lo.s, .int .u64 c.c2.lo.c, .int .i64 c.c2.hi.s, .int .u64 c.c2.hi.c, .int .i64 c.c3.u, .int .i64 c.c3.ro, .int .i64 c.c3.ty, .int .i64 c.c3.lo.s, .int .u64 c.c3.lo.c, .int .i64 c.c3.hi.s, .int .u64 c.c3.hi.c] 48)) = v) := ⟨_, Lib.hid rfl⟩
 have HXC : Hid (XC W w.heap.size 0 op na r nb ao n1 cap st ak n2 ck) := by cases ZW.out; exact Lib.hid (XC.of_blk ((Blk.new w _ _).alloc _))
 have HC0 : Hid (Blk W (w.heap.size + 1) 48 #[.int .i64 c.c1.u, .int .i64 c.c1.ro, .int .i64 c.c1.ty, .int .i64 c.c1.lo.s, .int .u64 c.c1.lo.c, .int .i64 c.c1.hi.s, .int .u64 c.c1.hi.c, .int .i64 c.c2.u, .int .i64 c.c2.ro, .int .i64 c.c2.ty, .int .i64 c.c2.lo.s, .int .u64 c.c2.lo.c, .int .i64 c.c2.hi.s, .int .u64 c.c2.hi.c, .int .i64 c.c3.u, .int .i64 c.c3.ro, .int .i64 c.c3.ty, .int .i64 c.c3.lo.s, .int .u64 c.c3.lo.c, .int .i64 c.c3.hi.s, .int .u64 c.c3.hi.c]) := by cases ZW.out; exact Lib.hid (two_new' _ _ _ _)
 have HB : Hid (Below w.heap.size w W) := by cases ZW.out; exact Lib.hid (((Below.refl _ _).alloc (Nat.le_refl _) _).alloc (by simp) _)
 have HG : Hid (w.heap.size < W.heap.size) := by cases ZW.out; exact Lib.hid (by simp; omega)
 clear hs HLA HLB
 go_enter Tryz.func80, Tryz.ntmps80
 go_upto_region 1 with fail
 rw [ZW.out]
 have HLE : Hid (w.heap.size ≤ W.heap.size) := Lib.hid HB.out.size
 generalize w.heap.size + 1 = gc at *
 generalize hge : w.heap.size = ge at *
 obtain ⟨y0, y1, y2, y3, y4, y5, y6, y7, y8, y9⟩ := HXC.out.cells
 go_upto_region 3 with (go_at_call 109; (with_reducible refine (HSO.out _).mono ?_); rintro e w1 ⟨rfl, hb1⟩; have HB1 := Lib.hid (HB.out.trans (hb1.mono HLE.out)); have HX1 := Lib.hid (HXC.out.keep (hb1.block ge HG.out)); have HG1 := Lib.hid (Nat.lt_of_lt_of_le HG.out hb1.size); have HC := Lib.hid (HC0.out.keep hb1); clear hb1)
 clear HXC HC0 HB HG HLE y0 y1 y2 y3 y4 y5 y6 y7 y8 y9
 refine wp_region_phis 10 (cpPhi c ge na nb la lb w1) (fun i => i == 8 || i == 9) (by kernel_rfl) (by decide) (by kernel_rfl) (by kernel_rfl) (by kernel_rfl) (fun k v u u2 h hb => cpPhi_keep h hb) ?_ ?_
 · refine ⟨⟨trivial, fun A u hK hF => ?_⟩, ⟨trivial, fun A u hK hF => ?_⟩, ⟨trivial, fun A u hK hF => ?_⟩, ⟨trivial, fun A u hK hF => ?_⟩, ⟨trivial, fun A u hK hF => ?_⟩, ⟨trivial, fun A u hK hF => ?_⟩, ⟨trivial, fun A u hK hF => ?_⟩, ⟨trivial, fun A u hK hF => ?_⟩, ⟨trivial, fun A u hK hF => ?_⟩, ⟨trivial, fun A u hK hF => ?_⟩, trivial⟩
   · have f3 : A.tmps[3]?.getD undef = .pointer (some ⟨gc, 0, none⟩) := fact_none (hF 3) (by kernel_rfl)
     refine Gives.no ?_ rfl
     unfold Gives
     rw [run_load (.tmp 3) rfl (by rw [← f3]; simp [Act.eval]) (loadAt_case (Blk.keep HC.out hK))]
     exact gives_val (Below.refl _ _) rfl
   · have f2 : A.tmps[2]?.getD undef = .pointer (some ⟨ge, 0, none⟩) := fact_none (hF 2) (by kernel_rfl)
     refine Gives.no ?_ rfl
     unfold Gives
     go_simp
     exact gives_val (Below.refl _ _) rfl
   · have f27 : A.tmps[27]?.getD undef = .pointer (some ⟨ge, 1, none⟩) := fact_some (hF 27) (j := 1) (by kernel_rfl) (by kernel_rfl)
     obtain ⟨y0, y1, y2, y3, y4, y5, y6, y7, y8, y9⟩ := (HX1.out.keep (Below.block hK ge HG1.out)).cells
     refine Gives.no ?_ rfl
     unfold Gives
     go_simp
     exact gives_val (Below.refl _ _) rfl
   · have f26 : A.tmps[26]?.getD undef = .agg #[.int .i64 c.c1.u, .int .i64 c.c1.ro, .int .i64 c.c1.ty, .int .i64 c.c1.lo.s, .int .u64 c.c1.lo.c, .int .i64 c.c1.hi.s, .int .u64 c.c1.hi.c, .int .i64 c.c2.u, .int .i64 c.c2.ro, .int .i64 c.c2.ty, .int .i64 c.c2.lo.s, .int .u64 c.c2.lo.c, .int .i64 c.c2.hi.s, .int .u64 c.c2.hi.c, .int .i64 c.c3.u, .int .i64 c.c3.ro, .int .i64 c.c3.ty, .int .i64 c.c3.lo.s, .int .u64 c.c3.lo.c, .int .i64 c.c3.hi.s, .int .u64 c.c3.hi.c] := fact_some (hF 26) (j := 0) (by kernel_rfl) (by kernel_rfl)
     have f28 : A.tmps[28]?.getD undef = .int .i64 na := fact_some (hF 28) (j := 2) (by kernel_rfl) (by kernel_rfl)
     refine Gives.no ?_ rfl
     unfold Gives
     go_simp
     exact gives_enter (((HNA).out u).mono fun e w2 ⟨he, hb⟩ => ⟨_, he, hb, rfl⟩)
   · have f3 : A.tmps[3]?.getD undef = .pointer (some ⟨gc, 0, none⟩) := fact_none (hF 3) (by kernel_rfl)
     refine Gives.no ?_ rfl
     unfold Gives
     rw [run_load (.tmp 3) rfl (by rw [← f3]; simp [Act.eval]) (loadAt_case (Blk.keep HC.out hK))]
     exact gives_val (Below.refl _ _) rfl
   · have f2 : A.tmps[2]?.getD undef = .pointer (some ⟨ge, 0, none⟩) := fact_none (hF 2) (by kernel_rfl)
     refine Gives.no ?_ rfl
     unfold Gives
     go_simp
     exact gives_val (Below.refl _ _) rfl
   · have f31 : A.tmps[31]?.getD undef = .pointer (some ⟨ge, 3, none⟩) := fact_some (hF 31) (j := 5) (by kernel_rfl) (by kernel_rfl)
     obtain ⟨y0, y1, y2, y3, y4, y5, y6, y7, y8, y9⟩ := (HX1.out.keep (Below.block hK ge HG1.out)).cells
     refine Gives.no ?_ rfl
     unfold Gives
     go_simp
     exact gives_val (Below.refl _ _) rfl
   · have f30 : A.tmps[30]?.getD undef = .agg #[.int .i64 c.c1.u, .int .i64 c.c1.ro, .int .i64 c.c1.ty, .int .i64 c.c1.lo.s, .int .u64 c.c1.lo.c, .int .i64 c.c1.hi.s, .int .u64 c.c1.hi.c, .int .i64 c.c2.u, .int .i64 c.c2.ro, .int .i64 c.c2.ty, .int .i64 c.c2.lo.s, .int .u64 c.c2.lo.c, .int .i64 c.c2.hi.s, .int .u64 c.c2.hi.c, .int .i64 c.c3.u, .int .i64 c.c3.ro, .int .i64 c.c3.ty, .int .i64 c.c3.lo.s, .int .u64 c.c3.lo.c, .int .i64 c.c3.hi.s, .int .u64 c.c3.hi.c] := fact_some (hF 30) (j := 4) (by kernel_rfl) (by kernel_rfl)
     have f32 : A.tmps[32]?.getD undef = .int .i64 nb := fact_some (hF 32) (j := 6) (by kernel_rfl) (by kernel_rfl)
     refine Gives.no ?_ rfl
     unfold Gives
     go_simp
     exact gives_enter (((HNB).out u).mono fun e w2 ⟨he, hb⟩ => ⟨_, he, hb, rfl⟩)
   · unfold Gives
     go_simp
     refine gives_box2 (φ := cpPhi c ge na nb la lb w1 8) ?_
     exact ⟨_, rfl, hK.size, Blk.new _ _ _⟩
   · unfold Gives
     go_simp
     refine gives_box2 (φ := cpPhi c ge na nb la lb w1 9) ?_
     exact ⟨_, rfl, hK.size, Blk.new _ _ _⟩
 intro a0 W2 hC hsz hdf hF hN
 have ha := end_mask [false, false, false, false, false, true, true, false, false, false, false, false, false, false, false, false, false, false, false, false, false, false, false, false, false, false, true, true, true, true, true, true, true, true, false, false, false, false, false, false, false, false, false, false, false, false, false, false, false, false, false, false, false, false, false, false, false, false, false, false, false, false, false, false] hsz hdf hF (by kernel_rfl)
 have f29 : a0.tmps[29]?.getD undef = .agg #[.int .i64 la.s, .int .u64 la.c] := fact_end (hF 29) (j := 3) (by kernel_rfl)
 have f33 : a0.tmps[33]?.getD undef = .agg #[.int .i64 lb.s, .int .u64 lb.c] := fact_end (hF 33) (j := 7) (by kernel_rfl)
 obtain ⟨g5, f5, hg5, hb5⟩ : ∃ g, a0.tmps[5]?.getD undef = .pointer (some ⟨g, 0, none⟩) ∧ w1.heap.size ≤ g ∧ Blk W2 g 42 #[.int .i64 0, .int .u64 0] := fact_end (hF 5) (j := 8) (by kernel_rfl)
 obtain ⟨g6, f6, hg6, hb6⟩ : ∃ g, a0.tmps[6]?.getD undef = .pointer (some ⟨g, 0, none⟩) ∧ w1.heap.size ≤ g ∧ Blk W2 g 42 #[.int .i64 0, .int .u64 0] := fact_end (hF 6) (j := 9) (by kernel_rfl)
 have hne : g6 ≠ g5 := fun e => hN 8 9 5 6 (by decide) rfl rfl (by kernel_rfl) (by kernel_rfl) (by rw [f5, f6, e])
 rw [ha]
 clear ha hF hN
 simp only [cutM_yes, cutM_no, cutM_nil, Nat.reduceAdd]
 rw [f29, f33, f5, f6]
 clear f29 f33 f5 f6
 generalize a0.tmps[26]?.getD undef = s26
 generalize a0.tmps[27]?.getD undef = s27
 generalize a0.tmps[28]?.getD undef = s28
 generalize a0.tmps[30]?.getD undef = s30
 generalize a0.tmps[31]?.getD undef = s31
 generalize a0.tmps[32]?.getD undef = s32
 clear hsz hdf
 refine wpList_store_row (by rfl) _ _ rfl rfl (by rfl) [.int .i64 la.s, .int .u64 la.c] (.agg #[.int .i64 la.s, .int .u64 la.c]) (by rfl) rfl (size_lv _) hb5 rfl (by intro x hx; simp only [List.mem_cons, List.not_mem_nil, or_false] at hx; rcases hx with rfl | rfl <;> rfl) ?_
 refine wpList_store_row (by rfl) _ _ rfl rfl (by rfl) [.int .i64 lb.s, .int .u64 lb.c] (.agg #[.int .i64 lb.s, .int .u64 lb.c]) (by rfl) rfl (size_lv _) (hb6.other hne _) rfl (by intro x hx; simp only [List.mem_cons, List.not_mem_nil, or_false] at hx; rcases hx with rfl | rfl <;> rfl) ?_
 obtain ⟨W3, ZW3⟩ : ∃ v, Hid (((W2.setRow g5 [.int .i64 la.s, .int .u64 la.c].toArray).setRow g6 [.int .i64 lb.s, .int .u64 lb.c].toArray) = v) := ⟨_, Lib.hid rfl⟩
 have HL5 : Hid (Blk W3 g5 42 #[.int .i64 la.s, .int .u64 la.c]) := by cases ZW3.out; exact Lib.hid ((hb5.row _).other (Ne.symm hne) _)
 have HL6 : Hid (Blk W3 g6 42 #[.int .i64 lb.s, .int .u64 lb.c]) := by cases ZW3.out; exact Lib.hid ((hb6.other hne _).row _)
 have HBW : Hid (Below w1.heap.size w1 W3) := by cases ZW3.out; exact Lib.hid (below_row (below_row hC hg5 _) hg6 _)
 rw [ZW3.out]
 clear hC hb5 hb6 hg5 hg6 hne
 have HX3 := Lib.hid (HX1.out.keep (HBW.out.block ge HG1.out))
 have HG3 := Lib.hid (Nat.lt_of_lt_of_le HG1.out HBW.out.size)
 have HB3 := Lib.hid (HB1.out.trans (HBW.out.mono (Nat.le_of_lt HG1.out)))
 clear HX1 HG1 HB1 HBW HC
 have HD1 := Lib.hid (rdomX_c la lb)
 have HD2 := Lib.hid (rdomX_c lb la)
 go_upto_region 4 with fail
 refine wp_region_kp (by kernel_rfl) (by kernel_rfl) ?_
 repeat (first
  | go_big_quiet_skip
  | (go_big_quiet_want
     go_big_quiet_op
     first
      | go_big_quiet_on
      | (apply Exists.intro
         refine ⟨fun w1 hC => ?_, ?_⟩
         · first
            | (go_at_call 112; with_reducible first | exact hC.call (HD1.out _) | exact hC.call (HD2.out _))
            | (have m5 := (hC.blk HL5.out).cell; have a0 := m5 0; have a1 := m5 1; have m6 := (hC.blk HL6.out).cell; have b0 := m6 0; have b1 := m6 1; clear m5 m6; go_simp; exact rfl)
            | (go_simp; exact ⟨rfl, rfl⟩)
         go_big_quiet_on)))
 refine wpQuiet_nil ?_
 intro W4 hC
 have HCC := Lib.hid (HB3.out.trans (hC.mono (Nat.le_of_lt HG3.out)))
 have HX4 := Lib.hid (HX3.out.keep (Below.block hC ge HG3.out))
 have HL54 := Lib.hid (hC.blk HL5.out)
 have HL64 := Lib.hid (hC.blk HL6.out)
 clear hC HX3 HG3 HB3 HL5 HL6 HD1 HD2
 rcases HH.out with ⟨hr, hv⟩ | ⟨hr, hv⟩ | ⟨hr, hv⟩ | ⟨hr, hv⟩ | ⟨hr, hv⟩
 all_goals clear HH
 · by_cases e : la = lb
   · subst e
     obtain rfl : true = rv := by rw [hv]; simp
     clear hv
     have q0 : (r == 0) = true := by simp; omega
     have q1 : (r == 1) = false := by simp; omega
     have q2 : (r == 2) = false := by simp; omega
     have q3 : (r == 3) = false := by simp; omega
     clear hr
     go_upto_region 5 with fail
     obtain ⟨y0, y1, y2, y3, y4, y5, y6, y7, y8, y9⟩ := HX4.out.cells
     clear y0 y1 y3 y4 y5 y6 y7 y8 y9
     have a0 := HL54.out.cell 0
     have a1 := HL54.out.cell 1
     have b0 := HL64.out.cell 0
     have b1 := HL64.out.cell 1
     go_wp2_with fail
     go_ret
     exact ⟨rfl, by first | exact HCC.out | (rw [hge]; exact HCC.out)⟩
   · have hv2 : false = rv := by rw [hv, decide_eq_false e] <;> rfl
     obtain rfl := hv2
     clear hv
     by_cases es : la.s = lb.s
     · have hcc : ((la.c : Int) == (lb.c : Int)) = false := by have h5 : ¬ la.c = lb.c := (fun h => e (lv_eq es h)); simp; omega
       have hss : (la.s == lb.s) = true := by simpa using es
       clear e es
       have q0 : (r == 0) = true := by simp; omega
       have q1 : (r == 1) = false := by simp; omega
       have q2 : (r == 2) = false := by simp; omega
       have q3 : (r == 3) = false := by simp; omega
       clear hr
       go_upto_region 5 with fail
       obtain ⟨y0, y1, y2, y3, y4, y5, y6, y7, y8, y9⟩ := HX4.out.cells
       clear y0 y1 y3 y4 y5 y6 y7 y8 y9
       have a0 := HL54.out.cell 0
       have a1 := HL54.out.cell 1
       have b0 := HL64.out.cell 0
       have b1 := HL64.out.cell 1
       go_wp2_with fail
       go_ret
       exact ⟨rfl, by first | exact HCC.out | (rw [hge]; exact HCC.out)⟩
     · have hss : (la.s == lb.s) = false := by simpa using es
       clear e es
       have q0 : (r == 0) = true := by simp; omega
       have q1 : (r == 1) = false := by simp; omega
       have q2 : (r == 2) = false := by simp; omega
       have q3 : (r == 3) = false := by simp; omega
       clear hr
       go_upto_region 5 with fail
       obtain ⟨y0, y1, y2, y3, y4, y5, y6, y7, y8, y9⟩ := HX4.out.cells
       clear y0 y1 y3 y4 y5 y6 y7 y8 y9
       have a0 := HL54.out.cell 0
       have a1 := HL54.out.cell 1
       have b0 := HL64.out.cell 0
       have b1 := HL64.out.cell 1
       go_wp2_with fail
       go_ret
       exact ⟨rfl, by first | exact HCC.out | (rw [hge]; exact HCC.out)⟩
 · by_cases e : la = lb
   · subst e
     obtain rfl : false = rv := by rw [hv]; simp
     clear hv
     have q0 : (r == 0) = false := by simp; omega
     have q1 : (r == 1) = true := by simp; omega
     have q2 : (r == 2) = false := by simp; omega
     have q3 : (r == 3) = false := by simp; omega
     clear hr
     go_upto_region 5 with fail
     obtain ⟨y0, y1, y2, y3, y4, y5, y6, y7, y8, y9⟩ := HX4.out.cells
     clear y0 y1 y3 y4 y5 y6 y7 y8 y9
     have a0 := HL54.out.cell 0
     have a1 := HL54.out.cell 1
     have b0 := HL64.out.cell 0
     have b1 := HL64.out.cell 1
     go_wp2_with fail
     go_ret
     exact ⟨rfl, by first | exact HCC.out | (rw [hge]; exact HCC.out)⟩
   · have hv2 : true = rv := by rw [hv, decide_eq_false e] <;> rfl
     obtain rfl := hv2
     clear hv
     by_cases es : la.s = lb.s
     · have hcc : ((la.c : Int) == (lb.c : Int)) = false := by have h5 : ¬ la.c = lb.c := (fun h => e (lv_eq es h)); simp; omega
       have hss : (la.s == lb.s) = true := by simpa using es
       clear e es
       have q0 : (r == 0) = false := by simp; omega
       have q1 : (r == 1) = true := by simp; omega
       have q2 : (r == 2) = false := by simp; omega
       have q3 : (r == 3) = false := by simp; omega
       clear hr
       go_upto_region 5 with fail
       obtain ⟨y0, y1, y2, y3, y4, y5, y6, y7, y8, y9⟩ := HX4.out.cells
       clear y0 y1 y3 y4 y5 y6 y7 y8 y9
       have a0 := HL54.out.cell 0
       have a1 := HL54.out.cell 1
       have b0 := HL64.out.cell 0
       have b1 := HL64.out.cell 1
       go_wp2_with fail
       go_ret
       exact ⟨rfl, by first | exact HCC.out | (rw [hge]; exact HCC.out)⟩
     · have hss : (la.s == lb.s) = false := by simpa using es
       clear e es
       have q0 : (r == 0) = false := by simp; omega
       have q1 : (r == 1) = true := by simp; omega
       have q2 : (r == 2) = false := by simp; omega
       have q3 : (r == 3) = false := by simp; omega
       clear hr
       go_upto_region 5 with fail
       obtain ⟨y0, y1, y2, y3, y4, y5, y6, y7, y8, y9⟩ := HX4.out.cells
       clear y0 y1 y3 y4 y5 y6 y7 y8 y9
       have a0 := HL54.out.cell 0
       have a1 := HL54.out.cell 1
       have b0 := HL64.out.cell 0
       have b1 := HL64.out.cell 1
       go_wp2_with fail
       go_ret
       exact ⟨rfl, by first | exact HCC.out | (rw [hge]; exact HCC.out)⟩
 · obtain rfl := hv
   have q0 : (r == 0) = false := by simp; omega
   have q1 : (r == 1) = false := by simp; omega
   have q2 : (r == 2) = true := by simp; omega
   have q3 : (r == 3) = false := by simp; omega
   clear hr
   go_upto_region 5 with fail
   obtain ⟨y0, y1, y2, y3, y4, y5, y6, y7, y8, y9⟩ := HX4.out.cells
   clear y0 y1 y3 y4 y5 y6 y7 y8 y9
   go_wp2_with fail
   go_ret
   exact ⟨rfl, by first | exact HCC.out | (rw [hge]; exact HCC.out)⟩
 · obtain rfl := hv
   have q0 : (r == 0) = false := by simp; omega
   have q1 : (r == 1) = false := by simp; omega
   have q2 : (r == 2) = false := by simp; omega
   have q3 : (r == 3) = true := by simp; omega
   clear hr
   go_upto_region 5 with fail
   obtain ⟨y0, y1, y2, y3, y4, y5, y6, y7, y8, y9⟩ := HX4.out.cells
   clear y0 y1 y3 y4 y5 y6 y7 y8 y9
   go_wp2_with fail
   go_ret
   exact ⟨rfl, by first | exact HCC.out | (rw [hge]; exact HCC.out)⟩
 · cases hd : domX la lb
   · rw [hd, Bool.not_false, Bool.true_and] at hv
     obtain rfl := hv
     have q0 : (r == 0) = false := by simp; omega
     have q1 : (r == 1) = false := by simp; omega
     have q2 : (r == 2) = false := by simp; omega
     have q3 : (r == 3) = false := by simp; omega
     clear hr
     go_upto_region 5 with fail
     obtain ⟨y0, y1, y2, y3, y4, y5, y6, y7, y8, y9⟩ := HX4.out.cells
     clear y0 y1 y3 y4 y5 y6 y7 y8 y9
     go_wp2_with fail
     go_ret
     exact ⟨rfl, by first | exact HCC.out | (rw [hge]; exact HCC.out)⟩
   · rw [hd, Bool.not_true, Bool.false_and] at hv
     obtain rfl := hv
     have q0 : (r == 0) = false := by simp; omega
     have q1 : (r == 1) = false := by simp; omega
     have q2 : (r == 2) = false := by simp; omega
     have q3 : (r == 3) = false := by simp; omega
     clear hr
     go_upto_region 5 with fail
     obtain ⟨y0, y1, y2, y3, y4, y5, y6, y7, y8, y9⟩ := HX4.out.cells
     clear y0 y1 y3 y4 y5 y6 y7 y8 y9
     go_wp2_with fail
     go_ret
     exact ⟨rfl, by first | exact HCC.out | (rw [hge]; exact HCC.out)⟩
open Go.RowKit Go
set_option maxRecDepth 100000 in
theorem rcompare_c (op r : Int) (st : S4) (ao ak : Option Addr) (n1 n2 cap ck na nb : Nat) (c : Ca) (ha : na < 15) (hb : nb < 15) (hs2 : sortA na = sortA nb) (hs : sortA na ≠ 3 → r ≤ 1) (h0 : 0 ≤ r) (h4 : r ≤ 4) (w : World) :
 Calls Tryz.prog 80 #[.agg #[.int .i64 op, .int .i64 na, .int .i64 r, .int .i64 nb, .slice ao n1 cap, .int .u64 st.a, .int .u64 st.b, .int .u64 st.c, .int .u64 st.d, .slice ak n2 ck], .agg #[.int .i64 c.c1.u, .int .i64 c.c1.ro, .int .i64 c.c1.ty, .int .i64 c.c1.lo.s, .int .u64 c.c1.lo.c, .int .i64 c.c1.hi.s, .int .u64 c.c1.hi.c, .int .i64 c.c2.u, .int .i64 c.c2.ro, .int .i64 c.c2.ty, .int .i64 c.c2.lo.s, .int .u64 c.c2.lo.c, .int .i64 c.c2.hi.s, .int .u64 c.c2.hi.c, .int .i64 c.c3.u, .int .i64 c.c3.ro, .int .i64 c.c3.ty, .int .i64 c.c3.lo.s, .int .u64 c.c3.lo.c, .int .i64 c.c3.hi.s, .int .u64 c.c3.hi.c]] w fun e w' => e = .returned (.bool (relX (rdX c na) r (rdX c nb))) ∧ Below w.heap.size w w' := by
 by_cases h3 : sortA na = 3
 · rw [rd_level c na h3, rd_level c nb (hs2 ▸ h3)]
   have HA := fun W => rlevel_c c na ha W
   have HB := fun W => rlevel_c c nb hb W
   generalize lvX c na = la at *
   generalize lvX c nb = lb at *
   refine rcl op r st ao ak n1 n2 cap ck na nb c la lb _ h3 ?_ HA HB w
   unfold relX
   by_cases e0 : r = 0
   · exact .inl ⟨e0, if_pos e0⟩
   · by_cases e1 : r = 1
     · exact .inr (.inl ⟨e1, by rw [if_neg e0, if_pos e1]⟩)
     · by_cases e2 : r = 2
       · exact .inr (.inr (.inl ⟨e2, by rw [if_neg e0, if_neg e1, if_pos e2]⟩))
       · by_cases e3 : r = 3
         · exact .inr (.inr (.inr (.inl ⟨e3, by rw [if_neg e0, if_neg e1, if_neg e2, if_pos e3]⟩)))
         · exact .inr (.inr (.inr (.inr ⟨by omega, by rw [if_neg e0, if_neg e1, if_neg e2, if_neg e3, rel_inc]⟩)))
 · exact rcompare_n op r st ao ak n1 n2 cap ck na nb c ha hb h3 hs2 (by have := hs h3; omega) w
theorem rd_name' (c : Ca) (n : Nat) (h : sortA n ≠ 3) : (rdX c n).s = nmX c n := by rw [rd_name c n h]; rfl
theorem kpb {w W w1 : World} {B : Nat} (h : Below B w W) (hl : B ≤ W.heap.size) (hC : Kp W w1) : Below B w w1 := h.trans (hC.mono hl)
def okW : Nat → X → Prop
 | 0, _ => False
 | n + 1, x => okN x ∧ (x.op = 8 → sortA x.a = sortA x.b ∧ (sortA x.a ≠ 3 → x.r ≤ 1) ∧ 0 ≤ x.r ∧ x.r ≤ 4) ∧ (x.op = 9 → sortA x.a ≠ 3) ∧ ∀ k ∈ x.ks, okW n k
end Go.Proofs.YtbhoofihnmmmfabGreat
