/- A policy that is handed in, copied. -/
import Derived.Test.YtbcbhgclgakljaaGdf
import Derived.Test.YtbcbhgclgakljaaMdh
namespace Go.Proofs.Ytbcbhgclgakljaa
open Go.RowKit Go.Maps
/-- what is known of the lists of a policy that is handed in: copies of them -/
theorem below_in {W0 w u : World} {g : Nat} (h : Below W0.heap.size W0 w) (hs : W0.heap.size ≤ g) (hb : Below g w u) : Below W0.heap.size W0 u := h.trans (hb.mono hs)
theorem RowZ.same {w w' : World} {B : Nat} {v : Value} {T : List Tz} (h : RowZ w B v T) (hs : ∀ g, B ≤ g → g < w.heap.size → w'.heap[g]? = w.heap[g]?) : RowZ w' B v T := by
  rcases h with h | ⟨g, c, cs, h1, h2, h3, h4, h5⟩
  · exact .inl h
  · exact .inr ⟨g, c, cs, h1, h2, h3, (hs g h3 h4.lt).trans h4, h5⟩
theorem RowZ.far {w : World} {B : Nat} {v : Value} {T : List Tz} (h : RowZ w B v T) {p : Addr} (hp : p.block < B) {x : Value} : RowZ (w.setCell p x) B v T := h.same fun g h1 _ => Below.heap_setCell w p x g (by omega)
theorem RowZ.row {w : World} {B g : Nat} {v : Value} {T : List Tz} {cs : Array Value} (h : RowZ w B v T) (hp : g < B) : RowZ (w.setRow g cs) B v T := h.same fun j h1 _ => setRow_other w g j cs (by omega)
structure PolIn (W0 : World) (v0 v1 v2 v3 v4 v5 v6 v7 v8 v9 v10 v11 v12 v13 v14 v15 v16 : Value) (n0 n2 n3 n4 n5 n6 n7 n8 n9 n10 n11 n12 n13 n14 n15 n16 : Nat) (T : List Tz) : Prop where
  s0 : SlN v0 n0
  p0 : ∀ u, Below W0.heap.size W0 u → Calls Try.prog 56 #[v0, .func (.func 57) #[] #[]] u fun e w' => ∃ v', e = .returned v' ∧ SlN v' n0 ∧ Below u.heap.size u w'
  t : RdZ W0 v1 T
  p1 : ∀ u, Below W0.heap.size W0 u → Calls Try.prog 59 #[v1, .func (.func 60) #[] #[]] u fun e w' => ∃ v', e = .returned v' ∧ RowZ w' u.heap.size v' T ∧ Below u.heap.size u w'
  s2 : SlN v2 n2
  p2 : ∀ u, Below W0.heap.size W0 u → Calls Try.prog 61 #[v2] u fun e w' => ∃ v', e = .returned v' ∧ SlN v' n2 ∧ Below u.heap.size u w'
  s3 : SlN v3 n3
  p3 : ∀ u, Below W0.heap.size W0 u → Calls Try.prog 62 #[v3] u fun e w' => ∃ v', e = .returned v' ∧ SlN v' n3 ∧ Below u.heap.size u w'
  s4 : SlN v4 n4
  p4 : ∀ u, Below W0.heap.size W0 u → Calls Try.prog 63 #[v4] u fun e w' => ∃ v', e = .returned v' ∧ SlN v' n4 ∧ Below u.heap.size u w'
  s5 : SlN v5 n5
  p5 : ∀ u, Below W0.heap.size W0 u → Calls Try.prog 64 #[v5] u fun e w' => ∃ v', e = .returned v' ∧ SlN v' n5 ∧ Below u.heap.size u w'
  s6 : SlN v6 n6
  p6 : ∀ u, Below W0.heap.size W0 u → Calls Try.prog 58 #[v6] u fun e w' => ∃ v', e = .returned v' ∧ SlN v' n6 ∧ Below u.heap.size u w'
  s7 : SlN v7 n7
  p7 : ∀ u, Below W0.heap.size W0 u → Calls Try.prog 58 #[v7] u fun e w' => ∃ v', e = .returned v' ∧ SlN v' n7 ∧ Below u.heap.size u w'
  s8 : SlN v8 n8
  p8 : ∀ u, Below W0.heap.size W0 u → Calls Try.prog 65 #[v8, .func (.func 66) #[] #[]] u fun e w' => ∃ v', e = .returned v' ∧ SlN v' n8 ∧ Below u.heap.size u w'
  s9 : SlN v9 n9
  p9 : ∀ u, Below W0.heap.size W0 u → Calls Try.prog 67 #[v9] u fun e w' => ∃ v', e = .returned v' ∧ SlN v' n9 ∧ Below u.heap.size u w'
  s10 : SlN v10 n10
  p10 : ∀ u, Below W0.heap.size W0 u → Calls Try.prog 68 #[v10] u fun e w' => ∃ v', e = .returned v' ∧ SlN v' n10 ∧ Below u.heap.size u w'
  s11 : SlN v11 n11
  p11 : ∀ u, Below W0.heap.size W0 u → Calls Try.prog 69 #[v11] u fun e w' => ∃ v', e = .returned v' ∧ SlN v' n11 ∧ Below u.heap.size u w'
  s12 : SlN v12 n12
  p12 : ∀ u, Below W0.heap.size W0 u → Calls Try.prog 70 #[v12] u fun e w' => ∃ v', e = .returned v' ∧ SlN v' n12 ∧ Below u.heap.size u w'
  s13 : SlN v13 n13
  p13 : ∀ u, Below W0.heap.size W0 u → Calls Try.prog 71 #[v13, .func (.func 72) #[] #[]] u fun e w' => ∃ v', e = .returned v' ∧ SlN v' n13 ∧ Below u.heap.size u w'
  s14 : SlN v14 n14
  p14 : ∀ u, Below W0.heap.size W0 u → Calls Try.prog 73 #[v14] u fun e w' => ∃ v', e = .returned v' ∧ SlN v' n14 ∧ Below u.heap.size u w'
  s15 : SlN v15 n15
  p15 : ∀ u, Below W0.heap.size W0 u → Calls Try.prog 74 #[v15] u fun e w' => ∃ v', e = .returned v' ∧ SlN v' n15 ∧ Below u.heap.size u w'
  s16 : SlN v16 n16
  p16 : ∀ u, Below W0.heap.size W0 u → Calls Try.prog 75 #[v16] u fun e w' => ∃ v', e = .returned v' ∧ SlN v' n16 ∧ Below u.heap.size u w'
theorem polIn {H : Type} {enc : TypeId × Value → H} {W0 : World} {fuel : Nat} {v0 v1 v2 v3 v4 v5 v6 v7 v8 v9 v10 v11 v12 v13 v14 v15 v16 : Value} (h : Good enc Try.prog W0 fuel 62 [v0, v1, v2, v3, v4, v5, v6, v7, v8, v9, v10, v11, v12, v13, v14, v15, v16]) : ∃ n0 n2 n3 n4 n5 n6 n7 n8 n9 n10 n11 n12 n13 n14 n15 n16 T, PolIn W0 v0 v1 v2 v3 v4 v5 v6 v7 v8 v9 v10 v11 v12 v13 v14 v15 v16 n0 n2 n3 n4 n5 n6 n7 n8 n9 n10 n11 n12 n13 n14 n15 n16 T := by
  obtain ⟨k0, _, h0, _⟩ := Good.fld Try.underlying62 h (i := 0) rfl
  change Good enc _ W0 k0 45 (([v0, v1, v2, v3, v4, v5, v6, v7, v8, v9, v10, v11, v12, v13, v14, v15, v16].drop 0).take (Try.prog.cellsOf 45)) at h0
  rw [show Try.prog.cellsOf 45 = 1 by kernel_rfl] at h0
  obtain ⟨n0, s0, p0⟩ := gClass h0
  obtain ⟨k1, _, h1, _⟩ := Good.fld Try.underlying62 h (i := 1) rfl
  change Good enc _ W0 k1 46 (([v0, v1, v2, v3, v4, v5, v6, v7, v8, v9, v10, v11, v12, v13, v14, v15, v16].drop 1).take (Try.prog.cellsOf 46)) at h1
  rw [show Try.prog.cellsOf 46 = 1 by kernel_rfl] at h1
  obtain ⟨T, t1, p1⟩ := gType h1
  obtain ⟨k2, _, h2, _⟩ := Good.fld Try.underlying62 h (i := 2) rfl
  change Good enc _ W0 k2 47 (([v0, v1, v2, v3, v4, v5, v6, v7, v8, v9, v10, v11, v12, v13, v14, v15, v16].drop 2).take (Try.prog.cellsOf 47)) at h2
  rw [show Try.prog.cellsOf 47 = 1 by kernel_rfl] at h2
  obtain ⟨n2, s2, p2⟩ := gAttr h2
  obtain ⟨k3, _, h3, _⟩ := Good.fld Try.underlying62 h (i := 3) rfl
  change Good enc _ W0 k3 48 (([v0, v1, v2, v3, v4, v5, v6, v7, v8, v9, v10, v11, v12, v13, v14, v15, v16].drop 3).take (Try.prog.cellsOf 48)) at h3
  rw [show Try.prog.cellsOf 48 = 1 by kernel_rfl] at h3
  obtain ⟨n3, s3, p3⟩ := gRole h3
  obtain ⟨k4, _, h4, _⟩ := Good.fld Try.underlying62 h (i := 4) rfl
  change Good enc _ W0 k4 49 (([v0, v1, v2, v3, v4, v5, v6, v7, v8, v9, v10, v11, v12, v13, v14, v15, v16].drop 4).take (Try.prog.cellsOf 49)) at h4
  rw [show Try.prog.cellsOf 49 = 1 by kernel_rfl] at h4
  obtain ⟨n4, s4, p4⟩ := gUser h4
  obtain ⟨k5, _, h5, _⟩ := Good.fld Try.underlying62 h (i := 5) rfl
  change Good enc _ W0 k5 50 (([v0, v1, v2, v3, v4, v5, v6, v7, v8, v9, v10, v11, v12, v13, v14, v15, v16].drop 5).take (Try.prog.cellsOf 50)) at h5
  rw [show Try.prog.cellsOf 50 = 1 by kernel_rfl] at h5
  obtain ⟨n5, s5, p5⟩ := gBool h5
  obtain ⟨k6, _, h6, _⟩ := Good.fld Try.underlying62 h (i := 6) rfl
  change Good enc _ W0 k6 51 (([v0, v1, v2, v3, v4, v5, v6, v7, v8, v9, v10, v11, v12, v13, v14, v15, v16].drop 6).take (Try.prog.cellsOf 51)) at h6
  rw [show Try.prog.cellsOf 51 = 1 by kernel_rfl] at h6
  obtain ⟨n6, s6, p6⟩ := gStr h6
  obtain ⟨k7, _, h7, _⟩ := Good.fld Try.underlying62 h (i := 7) rfl
  change Good enc _ W0 k7 51 (([v0, v1, v2, v3, v4, v5, v6, v7, v8, v9, v10, v11, v12, v13, v14, v15, v16].drop 7).take (Try.prog.cellsOf 51)) at h7
  rw [show Try.prog.cellsOf 51 = 1 by kernel_rfl] at h7
  obtain ⟨n7, s7, p7⟩ := gStr h7
  obtain ⟨k8, _, h8, _⟩ := Good.fld Try.underlying62 h (i := 8) rfl
  change Good enc _ W0 k8 52 (([v0, v1, v2, v3, v4, v5, v6, v7, v8, v9, v10, v11, v12, v13, v14, v15, v16].drop 8).take (Try.prog.cellsOf 52)) at h8
  rw [show Try.prog.cellsOf 52 = 1 by kernel_rfl] at h8
  obtain ⟨n8, s8, p8⟩ := gExpr h8
  obtain ⟨k9, _, h9, _⟩ := Good.fld Try.underlying62 h (i := 9) rfl
  change Good enc _ W0 k9 53 (([v0, v1, v2, v3, v4, v5, v6, v7, v8, v9, v10, v11, v12, v13, v14, v15, v16].drop 9).take (Try.prog.cellsOf 53)) at h9
  rw [show Try.prog.cellsOf 53 = 1 by kernel_rfl] at h9
  obtain ⟨n9, s9, p9⟩ := gRule h9
  obtain ⟨k10, _, h10, _⟩ := Good.fld Try.underlying62 h (i := 10) rfl
  change Good enc _ W0 k10 54 (([v0, v1, v2, v3, v4, v5, v6, v7, v8, v9, v10, v11, v12, v13, v14, v15, v16].drop 10).take (Try.prog.cellsOf 54)) at h10
  rw [show Try.prog.cellsOf 54 = 1 by kernel_rfl] at h10
  obtain ⟨n10, s10, p10⟩ := gTrans h10
  obtain ⟨k11, _, h11, _⟩ := Good.fld Try.underlying62 h (i := 11) rfl
  change Good enc _ W0 k11 55 (([v0, v1, v2, v3, v4, v5, v6, v7, v8, v9, v10, v11, v12, v13, v14, v15, v16].drop 11).take (Try.prog.cellsOf 55)) at h11
  rw [show Try.prog.cellsOf 55 = 1 by kernel_rfl] at h11
  obtain ⟨n11, s11, p11⟩ := gRoleTrans h11
  obtain ⟨k12, _, h12, _⟩ := Good.fld Try.underlying62 h (i := 12) rfl
  change Good enc _ W0 k12 56 (([v0, v1, v2, v3, v4, v5, v6, v7, v8, v9, v10, v11, v12, v13, v14, v15, v16].drop 12).take (Try.prog.cellsOf 56)) at h12
  rw [show Try.prog.cellsOf 56 = 1 by kernel_rfl] at h12
  obtain ⟨n12, s12, p12⟩ := gRangeTrans h12
  obtain ⟨k13, _, h13, _⟩ := Good.fld Try.underlying62 h (i := 13) rfl
  change Good enc _ W0 k13 57 (([v0, v1, v2, v3, v4, v5, v6, v7, v8, v9, v10, v11, v12, v13, v14, v15, v16].drop 13).take (Try.prog.cellsOf 57)) at h13
  rw [show Try.prog.cellsOf 57 = 1 by kernel_rfl] at h13
  obtain ⟨n13, s13, p13⟩ := gConstraint h13
  obtain ⟨k14, _, h14, _⟩ := Good.fld Try.underlying62 h (i := 14) rfl
  change Good enc _ W0 k14 58 (([v0, v1, v2, v3, v4, v5, v6, v7, v8, v9, v10, v11, v12, v13, v14, v15, v16].drop 14).take (Try.prog.cellsOf 58)) at h14
  rw [show Try.prog.cellsOf 58 = 1 by kernel_rfl] at h14
  obtain ⟨n14, s14, p14⟩ := gInitialSid h14
  obtain ⟨k15, _, h15, _⟩ := Good.fld Try.underlying62 h (i := 15) rfl
  change Good enc _ W0 k15 59 (([v0, v1, v2, v3, v4, v5, v6, v7, v8, v9, v10, v11, v12, v13, v14, v15, v16].drop 15).take (Try.prog.cellsOf 59)) at h15
  rw [show Try.prog.cellsOf 59 = 1 by kernel_rfl] at h15
  obtain ⟨n15, s15, p15⟩ := gFileRule h15
  obtain ⟨k16, _, h16, _⟩ := Good.fld Try.underlying62 h (i := 16) rfl
  change Good enc _ W0 k16 60 (([v0, v1, v2, v3, v4, v5, v6, v7, v8, v9, v10, v11, v12, v13, v14, v15, v16].drop 16).take (Try.prog.cellsOf 60)) at h16
  rw [show Try.prog.cellsOf 60 = 1 by kernel_rfl] at h16
  obtain ⟨n16, s16, p16⟩ := gAssert h16
  exact ⟨n0, n2, n3, n4, n5, n6, n7, n8, n9, n10, n11, n12, n13, n14, n15, n16, T, ⟨s0, p0, t1, p1, s2, p2, s3, p3, s4, p4, s5, p5, s6, p6, s7, p7, s8, p8, s9, p9, s10, p10, s11, p11, s12, p12, s13, p13, s14, p14, s15, p15, s16, p16⟩⟩
theorem one_sl {l : List Value} (h : l.all (fun v => match v with | .slice _ _ _ => true | _ => false) = true) : ∀ x ∈ l, x.oneCell' = true := by
  intro x hx
  have := List.all_eq_true.1 h x hx
  cases x <;> first | rfl | cases this
set_option maxRecDepth 100000 in
set_option maxHeartbeats 16000000 in
theorem clonePolG (W0 w : World) (a0 a1 a2 a3 a4 a5 a6 a7 a8 a9 a10 a11 a12 a13 a14 a15 a16 : Option Addr) (n0 n1 n2 n3 n4 n5 n6 n7 n8 n9 n10 n11 n12 n13 n14 n15 n16 c0 c1 c2 c3 c4 c5 c6 c7 c8 c9 c10 c11 c12 c13 c14 c15 c16 : Nat) (T : List Tz) (h : PolIn W0 (.slice a0 n0 c0) (.slice a1 n1 c1) (.slice a2 n2 c2) (.slice a3 n3 c3) (.slice a4 n4 c4) (.slice a5 n5 c5) (.slice a6 n6 c6) (.slice a7 n7 c7) (.slice a8 n8 c8) (.slice a9 n9 c9) (.slice a10 n10 c10) (.slice a11 n11 c11) (.slice a12 n12 c12) (.slice a13 n13 c13) (.slice a14 n14 c14) (.slice a15 n15 c15) (.slice a16 n16 c16) n0 n2 n3 n4 n5 n6 n7 n8 n9 n10 n11 n12 n13 n14 n15 n16 T) (hb : Below W0.heap.size W0 w) :
    Calls Try.prog 43 #[.agg #[.slice a0 n0 c0, .slice a1 n1 c1, .slice a2 n2 c2, .slice a3 n3 c3, .slice a4 n4 c4, .slice a5 n5 c5, .slice a6 n6 c6, .slice a7 n7 c7, .slice a8 n8 c8, .slice a9 n9 c9, .slice a10 n10 c10, .slice a11 n11 c11, .slice a12 n12 c12, .slice a13 n13 c13, .slice a14 n14 c14, .slice a15 n15 c15, .slice a16 n16 c16]] w fun e w' => ∃ u0 u1 u2 u3 u4 u5 u6 u7 u8 u9 u10 u11 u12 u13 u14 u15 u16, e = .returned (.agg #[u0, u1, u2, u3, u4, u5, u6, u7, u8, u9, u10, u11, u12, u13, u14, u15, u16]) ∧ (SlN u0 n0 ∧ SlN u2 n2 ∧ SlN u3 n3 ∧ SlN u4 n4 ∧ SlN u5 n5 ∧ SlN u6 n6 ∧ SlN u7 n7 ∧ SlN u8 n8 ∧ SlN u9 n9 ∧ SlN u10 n10 ∧ SlN u11 n11 ∧ SlN u12 n12 ∧ SlN u13 n13 ∧ SlN u14 n14 ∧ SlN u15 n15 ∧ SlN u16 n16) ∧ RowZ w' w.heap.size u1 T ∧ Below w.heap.size w w' := by
  have HB0 : Hid (Below w.heap.size w ((w.alloc (.cells #[.slice a0 n0 c0, .slice a1 n1 c1, .slice a2 n2 c2, .slice a3 n3 c3, .slice a4 n4 c4, .slice a5 n5 c5, .slice a6 n6 c6, .slice a7 n7 c7, .slice a8 n8 c8, .slice a9 n9 c9, .slice a10 n10 c10, .slice a11 n11 c11, .slice a12 n12 c12, .slice a13 n13 c13, .slice a14 n14 c14, .slice a15 n15 c15, .slice a16 n16 c16] 62)).alloc (.cells #[.slice none 0 0, .slice none 0 0, .slice none 0 0, .slice none 0 0, .slice none 0 0, .slice none 0 0, .slice none 0 0, .slice none 0 0, .slice none 0 0, .slice none 0 0, .slice none 0 0, .slice none 0 0, .slice none 0 0, .slice none 0 0, .slice none 0 0, .slice none 0 0, .slice none 0 0] 62))) := Lib.hid (((Below.refl _ _).alloc (Nat.le_refl _) _).alloc (by simp) _)
  have HP0 : Hid (Blk ((w.alloc (.cells #[.slice a0 n0 c0, .slice a1 n1 c1, .slice a2 n2 c2, .slice a3 n3 c3, .slice a4 n4 c4, .slice a5 n5 c5, .slice a6 n6 c6, .slice a7 n7 c7, .slice a8 n8 c8, .slice a9 n9 c9, .slice a10 n10 c10, .slice a11 n11 c11, .slice a12 n12 c12, .slice a13 n13 c13, .slice a14 n14 c14, .slice a15 n15 c15, .slice a16 n16 c16] 62)).alloc (.cells #[.slice none 0 0, .slice none 0 0, .slice none 0 0, .slice none 0 0, .slice none 0 0, .slice none 0 0, .slice none 0 0, .slice none 0 0, .slice none 0 0, .slice none 0 0, .slice none 0 0, .slice none 0 0, .slice none 0 0, .slice none 0 0, .slice none 0 0, .slice none 0 0, .slice none 0 0] 62)) w.heap.size 62 #[.slice a0 n0 c0, .slice a1 n1 c1, .slice a2 n2 c2, .slice a3 n3 c3, .slice a4 n4 c4, .slice a5 n5 c5, .slice a6 n6 c6, .slice a7 n7 c7, .slice a8 n8 c8, .slice a9 n9 c9, .slice a10 n10 c10, .slice a11 n11 c11, .slice a12 n12 c12, .slice a13 n13 c13, .slice a14 n14 c14, .slice a15 n15 c15, .slice a16 n16 c16]) := Lib.hid ((Blk.here rfl).alloc _)
  have HQ0 : Hid (Blk ((w.alloc (.cells #[.slice a0 n0 c0, .slice a1 n1 c1, .slice a2 n2 c2, .slice a3 n3 c3, .slice a4 n4 c4, .slice a5 n5 c5, .slice a6 n6 c6, .slice a7 n7 c7, .slice a8 n8 c8, .slice a9 n9 c9, .slice a10 n10 c10, .slice a11 n11 c11, .slice a12 n12 c12, .slice a13 n13 c13, .slice a14 n14 c14, .slice a15 n15 c15, .slice a16 n16 c16] 62)).alloc (.cells #[.slice none 0 0, .slice none 0 0, .slice none 0 0, .slice none 0 0, .slice none 0 0, .slice none 0 0, .slice none 0 0, .slice none 0 0, .slice none 0 0, .slice none 0 0, .slice none 0 0, .slice none 0 0, .slice none 0 0, .slice none 0 0, .slice none 0 0, .slice none 0 0, .slice none 0 0] 62)) (w.heap.size + 1) 62 #[.slice none 0 0, .slice none 0 0, .slice none 0 0, .slice none 0 0, .slice none 0 0, .slice none 0 0, .slice none 0 0, .slice none 0 0, .slice none 0 0, .slice none 0 0, .slice none 0 0, .slice none 0 0, .slice none 0 0, .slice none 0 0, .slice none 0 0, .slice none 0 0, .slice none 0 0]) := Lib.hid (Blk.here (by simp))
  have hne : w.heap.size + 1 ≠ w.heap.size := by omega
  have HG : Hid (w.heap.size ≤ w.heap.size + 1) := Lib.hid (by omega)
  have HH := Lib.hid h
  have HW : Hid (Below W0.heap.size W0 w) := Lib.hid hb
  have HWS : Hid (W0.heap.size ≤ w.heap.size) := Lib.hid hb.size
  clear h hb
  go_enter Try.func43, Try.ntmps43
  go_upto_region 1 with fail
  generalize (w.alloc (.cells #[.slice a0 n0 c0, .slice a1 n1 c1, .slice a2 n2 c2, .slice a3 n3 c3, .slice a4 n4 c4, .slice a5 n5 c5, .slice a6 n6 c6, .slice a7 n7 c7, .slice a8 n8 c8, .slice a9 n9 c9, .slice a10 n10 c10, .slice a11 n11 c11, .slice a12 n12 c12, .slice a13 n13 c13, .slice a14 n14 c14, .slice a15 n15 c15, .slice a16 n16 c16] 62)).alloc (.cells #[.slice none 0 0, .slice none 0 0, .slice none 0 0, .slice none 0 0, .slice none 0 0, .slice none 0 0, .slice none 0 0, .slice none 0 0, .slice none 0 0, .slice none 0 0, .slice none 0 0, .slice none 0 0, .slice none 0 0, .slice none 0 0, .slice none 0 0, .slice none 0 0, .slice none 0 0] 62) = w0 at *
  generalize w.heap.size + 1 = g2 at *
  generalize hgx : w.heap.size = g1 at *
  obtain ⟨d1, d2⟩ := slotB (i := 0) (v := .slice a0 n0 c0) HP0.out rfl
  go_upto_region 2 with (first | (go_at_call 56; refine (HH.out.p0 _ (below_in HW.out HWS.out HB0.out)).mono ?_; rintro e w1 ⟨v9, rfl, h2, h3⟩; have HC := Lib.hid h3; obtain ⟨b0, e0, rfl⟩ := h2; clear d1 d2; obtain ⟨d1, d2⟩ := slotB (i := 0) (v := .slice a0 n0 c0) (HP0.out.keep HC.out) rfl; clear h3) | fail)
  clear d1 d2
  have HP1 : Hid (Blk (w1.setCell ⟨g1, 0, none⟩ (.slice b0 n0 e0)) g1 62 #[.slice b0 n0 e0, .slice a1 n1 c1, .slice a2 n2 c2, .slice a3 n3 c3, .slice a4 n4 c4, .slice a5 n5 c5, .slice a6 n6 c6, .slice a7 n7 c7, .slice a8 n8 c8, .slice a9 n9 c9, .slice a10 n10 c10, .slice a11 n11 c11, .slice a12 n12 c12, .slice a13 n13 c13, .slice a14 n14 c14, .slice a15 n15 c15, .slice a16 n16 c16]) := Lib.hid (by simpa using (HP0.out.keep HC.out).set 0 (.slice b0 n0 e0))
  have HQ1 := Lib.hid ((HQ0.out.keep HC.out).far (p := ⟨g1, 0, none⟩) hne (.slice b0 n0 e0))
  have HB1 : Hid (Below g1 w (w1.setCell ⟨g1, 0, none⟩ (.slice b0 n0 e0))) := Lib.hid ((HB0.out.trans (HC.out.mono (by have := HP0.out.lt; omega))).setCell (p := ⟨g1, 0, none⟩) (Nat.le_refl _) _)
  clear HP0 HQ0 HB0 HC
  generalize w1.setCell ⟨g1, 0, none⟩ (.slice b0 n0 e0) = w1 at *
  obtain ⟨d1, d2⟩ := slotB (i := 1) (v := .slice a1 n1 c1) HP1.out rfl
  go_upto_region 3 with (first | (go_at_call 59; refine (HH.out.p1 _ (below_in HW.out HWS.out HB1.out)).mono ?_; rintro e w2 ⟨v9, rfl, h2, h3⟩; have HC := Lib.hid h3; have HR := Lib.hid h2; obtain ⟨b1, e1, rfl⟩ := h2.n; clear d1 d2; obtain ⟨d1, d2⟩ := slotB (i := 1) (v := .slice a1 n1 c1) (HP1.out.keep HC.out) rfl; clear h2 h3) | fail)
  clear d1 d2
  have HP2 : Hid (Blk (w2.setCell ⟨g1, 1, none⟩ (.slice b1 T.length e1)) g1 62 #[.slice b0 n0 e0, .slice b1 T.length e1, .slice a2 n2 c2, .slice a3 n3 c3, .slice a4 n4 c4, .slice a5 n5 c5, .slice a6 n6 c6, .slice a7 n7 c7, .slice a8 n8 c8, .slice a9 n9 c9, .slice a10 n10 c10, .slice a11 n11 c11, .slice a12 n12 c12, .slice a13 n13 c13, .slice a14 n14 c14, .slice a15 n15 c15, .slice a16 n16 c16]) := Lib.hid (by simpa using (HP1.out.keep HC.out).set 1 (.slice b1 T.length e1))
  have HQ2 := Lib.hid ((HQ1.out.keep HC.out).far (p := ⟨g1, 1, none⟩) hne (.slice b1 T.length e1))
  have HB2 : Hid (Below g1 w (w2.setCell ⟨g1, 1, none⟩ (.slice b1 T.length e1))) := Lib.hid ((HB1.out.trans (HC.out.mono (by have := HP1.out.lt; omega))).setCell (p := ⟨g1, 1, none⟩) (Nat.le_refl _) _)
  have HR2 : Hid (RowZ (w2.setCell ⟨g1, 1, none⟩ (.slice b1 T.length e1)) w1.heap.size (.slice b1 T.length e1) T) := Lib.hid (HR.out.far HP1.out.lt)
  have HLE : Hid (g1 ≤ w1.heap.size ∧ g2 < w1.heap.size) := Lib.hid ⟨Nat.le_of_lt HP1.out.lt, HQ1.out.lt⟩
  have HLT : Hid (g1 < w1.heap.size) := Lib.hid HP1.out.lt
  clear HR
  clear HP1 HQ1 HB1 HC
  generalize w1.heap.size = bz at *
  have HLB : Hid (g1 < bz) := Lib.hid HLT.out
  generalize w2.setCell ⟨g1, 1, none⟩ (.slice b1 T.length e1) = w2 at *
  obtain ⟨d1, d2⟩ := slotB (i := 2) (v := .slice a2 n2 c2) HP2.out rfl
  go_upto_region 4 with (first | (go_at_call 61; refine (HH.out.p2 _ (below_in HW.out HWS.out HB2.out)).mono ?_; rintro e w3 ⟨v9, rfl, h2, h3⟩; have HC := Lib.hid h3; obtain ⟨b2, e2, rfl⟩ := h2; clear d1 d2; obtain ⟨d1, d2⟩ := slotB (i := 2) (v := .slice a2 n2 c2) (HP2.out.keep HC.out) rfl; clear h3) | fail)
  clear d1 d2
  have HP3 : Hid (Blk (w3.setCell ⟨g1, 2, none⟩ (.slice b2 n2 e2)) g1 62 #[.slice b0 n0 e0, .slice b1 T.length e1, .slice b2 n2 e2, .slice a3 n3 c3, .slice a4 n4 c4, .slice a5 n5 c5, .slice a6 n6 c6, .slice a7 n7 c7, .slice a8 n8 c8, .slice a9 n9 c9, .slice a10 n10 c10, .slice a11 n11 c11, .slice a12 n12 c12, .slice a13 n13 c13, .slice a14 n14 c14, .slice a15 n15 c15, .slice a16 n16 c16]) := Lib.hid (by simpa using (HP2.out.keep HC.out).set 2 (.slice b2 n2 e2))
  have HQ3 := Lib.hid ((HQ2.out.keep HC.out).far (p := ⟨g1, 2, none⟩) hne (.slice b2 n2 e2))
  have HB3 : Hid (Below g1 w (w3.setCell ⟨g1, 2, none⟩ (.slice b2 n2 e2))) := Lib.hid ((HB2.out.trans (HC.out.mono (by have := HP2.out.lt; omega))).setCell (p := ⟨g1, 2, none⟩) (Nat.le_refl _) _)
  have HR3 : Hid (RowZ (w3.setCell ⟨g1, 2, none⟩ (.slice b2 n2 e2)) bz (.slice b1 T.length e1) T) := Lib.hid ((HR2.out.below HC.out).far HLB.out)
  clear HR2
  clear HP2 HQ2 HB2 HC
  generalize w3.setCell ⟨g1, 2, none⟩ (.slice b2 n2 e2) = w3 at *
  obtain ⟨d1, d2⟩ := slotB (i := 3) (v := .slice a3 n3 c3) HP3.out rfl
  go_upto_region 5 with (first | (go_at_call 62; refine (HH.out.p3 _ (below_in HW.out HWS.out HB3.out)).mono ?_; rintro e w4 ⟨v9, rfl, h2, h3⟩; have HC := Lib.hid h3; obtain ⟨b3, e3, rfl⟩ := h2; clear d1 d2; obtain ⟨d1, d2⟩ := slotB (i := 3) (v := .slice a3 n3 c3) (HP3.out.keep HC.out) rfl; clear h3) | fail)
  clear d1 d2
  have HP4 : Hid (Blk (w4.setCell ⟨g1, 3, none⟩ (.slice b3 n3 e3)) g1 62 #[.slice b0 n0 e0, .slice b1 T.length e1, .slice b2 n2 e2, .slice b3 n3 e3, .slice a4 n4 c4, .slice a5 n5 c5, .slice a6 n6 c6, .slice a7 n7 c7, .slice a8 n8 c8, .slice a9 n9 c9, .slice a10 n10 c10, .slice a11 n11 c11, .slice a12 n12 c12, .slice a13 n13 c13, .slice a14 n14 c14, .slice a15 n15 c15, .slice a16 n16 c16]) := Lib.hid (by simpa using (HP3.out.keep HC.out).set 3 (.slice b3 n3 e3))
  have HQ4 := Lib.hid ((HQ3.out.keep HC.out).far (p := ⟨g1, 3, none⟩) hne (.slice b3 n3 e3))
  have HB4 : Hid (Below g1 w (w4.setCell ⟨g1, 3, none⟩ (.slice b3 n3 e3))) := Lib.hid ((HB3.out.trans (HC.out.mono (by have := HP3.out.lt; omega))).setCell (p := ⟨g1, 3, none⟩) (Nat.le_refl _) _)
  have HR4 : Hid (RowZ (w4.setCell ⟨g1, 3, none⟩ (.slice b3 n3 e3)) bz (.slice b1 T.length e1) T) := Lib.hid ((HR3.out.below HC.out).far HLB.out)
  clear HR3
  clear HP3 HQ3 HB3 HC
  generalize w4.setCell ⟨g1, 3, none⟩ (.slice b3 n3 e3) = w4 at *
  obtain ⟨d1, d2⟩ := slotB (i := 4) (v := .slice a4 n4 c4) HP4.out rfl
  go_upto_region 6 with (first | (go_at_call 63; refine (HH.out.p4 _ (below_in HW.out HWS.out HB4.out)).mono ?_; rintro e w5 ⟨v9, rfl, h2, h3⟩; have HC := Lib.hid h3; obtain ⟨b4, e4, rfl⟩ := h2; clear d1 d2; obtain ⟨d1, d2⟩ := slotB (i := 4) (v := .slice a4 n4 c4) (HP4.out.keep HC.out) rfl; clear h3) | fail)
  clear d1 d2
  have HP5 : Hid (Blk (w5.setCell ⟨g1, 4, none⟩ (.slice b4 n4 e4)) g1 62 #[.slice b0 n0 e0, .slice b1 T.length e1, .slice b2 n2 e2, .slice b3 n3 e3, .slice b4 n4 e4, .slice a5 n5 c5, .slice a6 n6 c6, .slice a7 n7 c7, .slice a8 n8 c8, .slice a9 n9 c9, .slice a10 n10 c10, .slice a11 n11 c11, .slice a12 n12 c12, .slice a13 n13 c13, .slice a14 n14 c14, .slice a15 n15 c15, .slice a16 n16 c16]) := Lib.hid (by simpa using (HP4.out.keep HC.out).set 4 (.slice b4 n4 e4))
  have HQ5 := Lib.hid ((HQ4.out.keep HC.out).far (p := ⟨g1, 4, none⟩) hne (.slice b4 n4 e4))
  have HB5 : Hid (Below g1 w (w5.setCell ⟨g1, 4, none⟩ (.slice b4 n4 e4))) := Lib.hid ((HB4.out.trans (HC.out.mono (by have := HP4.out.lt; omega))).setCell (p := ⟨g1, 4, none⟩) (Nat.le_refl _) _)
  have HR5 : Hid (RowZ (w5.setCell ⟨g1, 4, none⟩ (.slice b4 n4 e4)) bz (.slice b1 T.length e1) T) := Lib.hid ((HR4.out.below HC.out).far HLB.out)
  clear HR4
  clear HP4 HQ4 HB4 HC
  generalize w5.setCell ⟨g1, 4, none⟩ (.slice b4 n4 e4) = w5 at *
  obtain ⟨d1, d2⟩ := slotB (i := 5) (v := .slice a5 n5 c5) HP5.out rfl
  go_upto_region 7 with (first | (go_at_call 64; refine (HH.out.p5 _ (below_in HW.out HWS.out HB5.out)).mono ?_; rintro e w6 ⟨v9, rfl, h2, h3⟩; have HC := Lib.hid h3; obtain ⟨b5, e5, rfl⟩ := h2; clear d1 d2; obtain ⟨d1, d2⟩ := slotB (i := 5) (v := .slice a5 n5 c5) (HP5.out.keep HC.out) rfl; clear h3) | fail)
  clear d1 d2
  have HP6 : Hid (Blk (w6.setCell ⟨g1, 5, none⟩ (.slice b5 n5 e5)) g1 62 #[.slice b0 n0 e0, .slice b1 T.length e1, .slice b2 n2 e2, .slice b3 n3 e3, .slice b4 n4 e4, .slice b5 n5 e5, .slice a6 n6 c6, .slice a7 n7 c7, .slice a8 n8 c8, .slice a9 n9 c9, .slice a10 n10 c10, .slice a11 n11 c11, .slice a12 n12 c12, .slice a13 n13 c13, .slice a14 n14 c14, .slice a15 n15 c15, .slice a16 n16 c16]) := Lib.hid (by simpa using (HP5.out.keep HC.out).set 5 (.slice b5 n5 e5))
  have HQ6 := Lib.hid ((HQ5.out.keep HC.out).far (p := ⟨g1, 5, none⟩) hne (.slice b5 n5 e5))
  have HB6 : Hid (Below g1 w (w6.setCell ⟨g1, 5, none⟩ (.slice b5 n5 e5))) := Lib.hid ((HB5.out.trans (HC.out.mono (by have := HP5.out.lt; omega))).setCell (p := ⟨g1, 5, none⟩) (Nat.le_refl _) _)
  have HR6 : Hid (RowZ (w6.setCell ⟨g1, 5, none⟩ (.slice b5 n5 e5)) bz (.slice b1 T.length e1) T) := Lib.hid ((HR5.out.below HC.out).far HLB.out)
  clear HR5
  clear HP5 HQ5 HB5 HC
  generalize w6.setCell ⟨g1, 5, none⟩ (.slice b5 n5 e5) = w6 at *
  obtain ⟨d1, d2⟩ := slotB (i := 6) (v := .slice a6 n6 c6) HP6.out rfl
  go_upto_region 8 with (first | (go_at_call 58; refine (HH.out.p6 _ (below_in HW.out HWS.out HB6.out)).mono ?_; rintro e w7 ⟨v9, rfl, h2, h3⟩; have HC := Lib.hid h3; obtain ⟨b6, e6, rfl⟩ := h2; clear d1 d2; obtain ⟨d1, d2⟩ := slotB (i := 6) (v := .slice a6 n6 c6) (HP6.out.keep HC.out) rfl; clear h3) | fail)
  clear d1 d2
  have HP7 : Hid (Blk (w7.setCell ⟨g1, 6, none⟩ (.slice b6 n6 e6)) g1 62 #[.slice b0 n0 e0, .slice b1 T.length e1, .slice b2 n2 e2, .slice b3 n3 e3, .slice b4 n4 e4, .slice b5 n5 e5, .slice b6 n6 e6, .slice a7 n7 c7, .slice a8 n8 c8, .slice a9 n9 c9, .slice a10 n10 c10, .slice a11 n11 c11, .slice a12 n12 c12, .slice a13 n13 c13, .slice a14 n14 c14, .slice a15 n15 c15, .slice a16 n16 c16]) := Lib.hid (by simpa using (HP6.out.keep HC.out).set 6 (.slice b6 n6 e6))
  have HQ7 := Lib.hid ((HQ6.out.keep HC.out).far (p := ⟨g1, 6, none⟩) hne (.slice b6 n6 e6))
  have HB7 : Hid (Below g1 w (w7.setCell ⟨g1, 6, none⟩ (.slice b6 n6 e6))) := Lib.hid ((HB6.out.trans (HC.out.mono (by have := HP6.out.lt; omega))).setCell (p := ⟨g1, 6, none⟩) (Nat.le_refl _) _)
  have HR7 : Hid (RowZ (w7.setCell ⟨g1, 6, none⟩ (.slice b6 n6 e6)) bz (.slice b1 T.length e1) T) := Lib.hid ((HR6.out.below HC.out).far HLB.out)
  clear HR6
  clear HP6 HQ6 HB6 HC
  generalize w7.setCell ⟨g1, 6, none⟩ (.slice b6 n6 e6) = w7 at *
  obtain ⟨d1, d2⟩ := slotB (i := 7) (v := .slice a7 n7 c7) HP7.out rfl
  go_upto_region 9 with (first | (go_at_call 58; refine (HH.out.p7 _ (below_in HW.out HWS.out HB7.out)).mono ?_; rintro e w8 ⟨v9, rfl, h2, h3⟩; have HC := Lib.hid h3; obtain ⟨b7, e7, rfl⟩ := h2; clear d1 d2; obtain ⟨d1, d2⟩ := slotB (i := 7) (v := .slice a7 n7 c7) (HP7.out.keep HC.out) rfl; clear h3) | fail)
  clear d1 d2
  have HP8 : Hid (Blk (w8.setCell ⟨g1, 7, none⟩ (.slice b7 n7 e7)) g1 62 #[.slice b0 n0 e0, .slice b1 T.length e1, .slice b2 n2 e2, .slice b3 n3 e3, .slice b4 n4 e4, .slice b5 n5 e5, .slice b6 n6 e6, .slice b7 n7 e7, .slice a8 n8 c8, .slice a9 n9 c9, .slice a10 n10 c10, .slice a11 n11 c11, .slice a12 n12 c12, .slice a13 n13 c13, .slice a14 n14 c14, .slice a15 n15 c15, .slice a16 n16 c16]) := Lib.hid (by simpa using (HP7.out.keep HC.out).set 7 (.slice b7 n7 e7))
  have HQ8 := Lib.hid ((HQ7.out.keep HC.out).far (p := ⟨g1, 7, none⟩) hne (.slice b7 n7 e7))
  have HB8 : Hid (Below g1 w (w8.setCell ⟨g1, 7, none⟩ (.slice b7 n7 e7))) := Lib.hid ((HB7.out.trans (HC.out.mono (by have := HP7.out.lt; omega))).setCell (p := ⟨g1, 7, none⟩) (Nat.le_refl _) _)
  have HR8 : Hid (RowZ (w8.setCell ⟨g1, 7, none⟩ (.slice b7 n7 e7)) bz (.slice b1 T.length e1) T) := Lib.hid ((HR7.out.below HC.out).far HLB.out)
  clear HR7
  clear HP7 HQ7 HB7 HC
  generalize w8.setCell ⟨g1, 7, none⟩ (.slice b7 n7 e7) = w8 at *
  obtain ⟨d1, d2⟩ := slotB (i := 8) (v := .slice a8 n8 c8) HP8.out rfl
  go_upto_region 10 with (first | (go_at_call 65; refine (HH.out.p8 _ (below_in HW.out HWS.out HB8.out)).mono ?_; rintro e w9 ⟨v9, rfl, h2, h3⟩; have HC := Lib.hid h3; obtain ⟨b8, e8, rfl⟩ := h2; clear d1 d2; obtain ⟨d1, d2⟩ := slotB (i := 8) (v := .slice a8 n8 c8) (HP8.out.keep HC.out) rfl; clear h3) | fail)
  clear d1 d2
  have HP9 : Hid (Blk (w9.setCell ⟨g1, 8, none⟩ (.slice b8 n8 e8)) g1 62 #[.slice b0 n0 e0, .slice b1 T.length e1, .slice b2 n2 e2, .slice b3 n3 e3, .slice b4 n4 e4, .slice b5 n5 e5, .slice b6 n6 e6, .slice b7 n7 e7, .slice b8 n8 e8, .slice a9 n9 c9, .slice a10 n10 c10, .slice a11 n11 c11, .slice a12 n12 c12, .slice a13 n13 c13, .slice a14 n14 c14, .slice a15 n15 c15, .slice a16 n16 c16]) := Lib.hid (by simpa using (HP8.out.keep HC.out).set 8 (.slice b8 n8 e8))
  have HQ9 := Lib.hid ((HQ8.out.keep HC.out).far (p := ⟨g1, 8, none⟩) hne (.slice b8 n8 e8))
  have HB9 : Hid (Below g1 w (w9.setCell ⟨g1, 8, none⟩ (.slice b8 n8 e8))) := Lib.hid ((HB8.out.trans (HC.out.mono (by have := HP8.out.lt; omega))).setCell (p := ⟨g1, 8, none⟩) (Nat.le_refl _) _)
  have HR9 : Hid (RowZ (w9.setCell ⟨g1, 8, none⟩ (.slice b8 n8 e8)) bz (.slice b1 T.length e1) T) := Lib.hid ((HR8.out.below HC.out).far HLB.out)
  clear HR8
  clear HP8 HQ8 HB8 HC
  generalize w9.setCell ⟨g1, 8, none⟩ (.slice b8 n8 e8) = w9 at *
  obtain ⟨d1, d2⟩ := slotB (i := 9) (v := .slice a9 n9 c9) HP9.out rfl
  go_upto_region 11 with (first | (go_at_call 67; refine (HH.out.p9 _ (below_in HW.out HWS.out HB9.out)).mono ?_; rintro e w10 ⟨v9, rfl, h2, h3⟩; have HC := Lib.hid h3; obtain ⟨b9, e9, rfl⟩ := h2; clear d1 d2; obtain ⟨d1, d2⟩ := slotB (i := 9) (v := .slice a9 n9 c9) (HP9.out.keep HC.out) rfl; clear h3) | fail)
  clear d1 d2
  have HP10 : Hid (Blk (w10.setCell ⟨g1, 9, none⟩ (.slice b9 n9 e9)) g1 62 #[.slice b0 n0 e0, .slice b1 T.length e1, .slice b2 n2 e2, .slice b3 n3 e3, .slice b4 n4 e4, .slice b5 n5 e5, .slice b6 n6 e6, .slice b7 n7 e7, .slice b8 n8 e8, .slice b9 n9 e9, .slice a10 n10 c10, .slice a11 n11 c11, .slice a12 n12 c12, .slice a13 n13 c13, .slice a14 n14 c14, .slice a15 n15 c15, .slice a16 n16 c16]) := Lib.hid (by simpa using (HP9.out.keep HC.out).set 9 (.slice b9 n9 e9))
  have HQ10 := Lib.hid ((HQ9.out.keep HC.out).far (p := ⟨g1, 9, none⟩) hne (.slice b9 n9 e9))
  have HB10 : Hid (Below g1 w (w10.setCell ⟨g1, 9, none⟩ (.slice b9 n9 e9))) := Lib.hid ((HB9.out.trans (HC.out.mono (by have := HP9.out.lt; omega))).setCell (p := ⟨g1, 9, none⟩) (Nat.le_refl _) _)
  have HR10 : Hid (RowZ (w10.setCell ⟨g1, 9, none⟩ (.slice b9 n9 e9)) bz (.slice b1 T.length e1) T) := Lib.hid ((HR9.out.below HC.out).far HLB.out)
  clear HR9
  clear HP9 HQ9 HB9 HC
  generalize w10.setCell ⟨g1, 9, none⟩ (.slice b9 n9 e9) = w10 at *
  obtain ⟨d1, d2⟩ := slotB (i := 10) (v := .slice a10 n10 c10) HP10.out rfl
  go_upto_region 12 with (first | (go_at_call 68; refine (HH.out.p10 _ (below_in HW.out HWS.out HB10.out)).mono ?_; rintro e w11 ⟨v9, rfl, h2, h3⟩; have HC := Lib.hid h3; obtain ⟨b10, e10, rfl⟩ := h2; clear d1 d2; obtain ⟨d1, d2⟩ := slotB (i := 10) (v := .slice a10 n10 c10) (HP10.out.keep HC.out) rfl; clear h3) | fail)
  clear d1 d2
  have HP11 : Hid (Blk (w11.setCell ⟨g1, 10, none⟩ (.slice b10 n10 e10)) g1 62 #[.slice b0 n0 e0, .slice b1 T.length e1, .slice b2 n2 e2, .slice b3 n3 e3, .slice b4 n4 e4, .slice b5 n5 e5, .slice b6 n6 e6, .slice b7 n7 e7, .slice b8 n8 e8, .slice b9 n9 e9, .slice b10 n10 e10, .slice a11 n11 c11, .slice a12 n12 c12, .slice a13 n13 c13, .slice a14 n14 c14, .slice a15 n15 c15, .slice a16 n16 c16]) := Lib.hid (by simpa using (HP10.out.keep HC.out).set 10 (.slice b10 n10 e10))
  have HQ11 := Lib.hid ((HQ10.out.keep HC.out).far (p := ⟨g1, 10, none⟩) hne (.slice b10 n10 e10))
  have HB11 : Hid (Below g1 w (w11.setCell ⟨g1, 10, none⟩ (.slice b10 n10 e10))) := Lib.hid ((HB10.out.trans (HC.out.mono (by have := HP10.out.lt; omega))).setCell (p := ⟨g1, 10, none⟩) (Nat.le_refl _) _)
  have HR11 : Hid (RowZ (w11.setCell ⟨g1, 10, none⟩ (.slice b10 n10 e10)) bz (.slice b1 T.length e1) T) := Lib.hid ((HR10.out.below HC.out).far HLB.out)
  clear HR10
  clear HP10 HQ10 HB10 HC
  generalize w11.setCell ⟨g1, 10, none⟩ (.slice b10 n10 e10) = w11 at *
  obtain ⟨d1, d2⟩ := slotB (i := 11) (v := .slice a11 n11 c11) HP11.out rfl
  go_upto_region 13 with (first | (go_at_call 69; refine (HH.out.p11 _ (below_in HW.out HWS.out HB11.out)).mono ?_; rintro e w12 ⟨v9, rfl, h2, h3⟩; have HC := Lib.hid h3; obtain ⟨b11, e11, rfl⟩ := h2; clear d1 d2; obtain ⟨d1, d2⟩ := slotB (i := 11) (v := .slice a11 n11 c11) (HP11.out.keep HC.out) rfl; clear h3) | fail)
  clear d1 d2
  have HP12 : Hid (Blk (w12.setCell ⟨g1, 11, none⟩ (.slice b11 n11 e11)) g1 62 #[.slice b0 n0 e0, .slice b1 T.length e1, .slice b2 n2 e2, .slice b3 n3 e3, .slice b4 n4 e4, .slice b5 n5 e5, .slice b6 n6 e6, .slice b7 n7 e7, .slice b8 n8 e8, .slice b9 n9 e9, .slice b10 n10 e10, .slice b11 n11 e11, .slice a12 n12 c12, .slice a13 n13 c13, .slice a14 n14 c14, .slice a15 n15 c15, .slice a16 n16 c16]) := Lib.hid (by simpa using (HP11.out.keep HC.out).set 11 (.slice b11 n11 e11))
  have HQ12 := Lib.hid ((HQ11.out.keep HC.out).far (p := ⟨g1, 11, none⟩) hne (.slice b11 n11 e11))
  have HB12 : Hid (Below g1 w (w12.setCell ⟨g1, 11, none⟩ (.slice b11 n11 e11))) := Lib.hid ((HB11.out.trans (HC.out.mono (by have := HP11.out.lt; omega))).setCell (p := ⟨g1, 11, none⟩) (Nat.le_refl _) _)
  have HR12 : Hid (RowZ (w12.setCell ⟨g1, 11, none⟩ (.slice b11 n11 e11)) bz (.slice b1 T.length e1) T) := Lib.hid ((HR11.out.below HC.out).far HLB.out)
  clear HR11
  clear HP11 HQ11 HB11 HC
  generalize w12.setCell ⟨g1, 11, none⟩ (.slice b11 n11 e11) = w12 at *
  obtain ⟨d1, d2⟩ := slotB (i := 12) (v := .slice a12 n12 c12) HP12.out rfl
  go_upto_region 14 with (first | (go_at_call 70; refine (HH.out.p12 _ (below_in HW.out HWS.out HB12.out)).mono ?_; rintro e w13 ⟨v9, rfl, h2, h3⟩; have HC := Lib.hid h3; obtain ⟨b12, e12, rfl⟩ := h2; clear d1 d2; obtain ⟨d1, d2⟩ := slotB (i := 12) (v := .slice a12 n12 c12) (HP12.out.keep HC.out) rfl; clear h3) | fail)
  clear d1 d2
  have HP13 : Hid (Blk (w13.setCell ⟨g1, 12, none⟩ (.slice b12 n12 e12)) g1 62 #[.slice b0 n0 e0, .slice b1 T.length e1, .slice b2 n2 e2, .slice b3 n3 e3, .slice b4 n4 e4, .slice b5 n5 e5, .slice b6 n6 e6, .slice b7 n7 e7, .slice b8 n8 e8, .slice b9 n9 e9, .slice b10 n10 e10, .slice b11 n11 e11, .slice b12 n12 e12, .slice a13 n13 c13, .slice a14 n14 c14, .slice a15 n15 c15, .slice a16 n16 c16]) := Lib.hid (by simpa using (HP12.out.keep HC.out).set 12 (.slice b12 n12 e12))
  have HQ13 := Lib.hid ((HQ12.out.keep HC.out).far (p := ⟨g1, 12, none⟩) hne (.slice b12 n12 e12))
  have HB13 : Hid (Below g1 w (w13.setCell ⟨g1, 12, none⟩ (.slice b12 n12 e12))) := Lib.hid ((HB12.out.trans (HC.out.mono (by have := HP12.out.lt; omega))).setCell (p := ⟨g1, 12, none⟩) (Nat.le_refl _) _)
  have HR13 : Hid (RowZ (w13.setCell ⟨g1, 12, none⟩ (.slice b12 n12 e12)) bz (.slice b1 T.length e1) T) := Lib.hid ((HR12.out.below HC.out).far HLB.out)
  clear HR12
  clear HP12 HQ12 HB12 HC
  generalize w13.setCell ⟨g1, 12, none⟩ (.slice b12 n12 e12) = w13 at *
  obtain ⟨d1, d2⟩ := slotB (i := 13) (v := .slice a13 n13 c13) HP13.out rfl
  go_upto_region 15 with (first | (go_at_call 71; refine (HH.out.p13 _ (below_in HW.out HWS.out HB13.out)).mono ?_; rintro e w14 ⟨v9, rfl, h2, h3⟩; have HC := Lib.hid h3; obtain ⟨b13, e13, rfl⟩ := h2; clear d1 d2; obtain ⟨d1, d2⟩ := slotB (i := 13) (v := .slice a13 n13 c13) (HP13.out.keep HC.out) rfl; clear h3) | fail)
  clear d1 d2
  have HP14 : Hid (Blk (w14.setCell ⟨g1, 13, none⟩ (.slice b13 n13 e13)) g1 62 #[.slice b0 n0 e0, .slice b1 T.length e1, .slice b2 n2 e2, .slice b3 n3 e3, .slice b4 n4 e4, .slice b5 n5 e5, .slice b6 n6 e6, .slice b7 n7 e7, .slice b8 n8 e8, .slice b9 n9 e9, .slice b10 n10 e10, .slice b11 n11 e11, .slice b12 n12 e12, .slice b13 n13 e13, .slice a14 n14 c14, .slice a15 n15 c15, .slice a16 n16 c16]) := Lib.hid (by simpa using (HP13.out.keep HC.out).set 13 (.slice b13 n13 e13))
  have HQ14 := Lib.hid ((HQ13.out.keep HC.out).far (p := ⟨g1, 13, none⟩) hne (.slice b13 n13 e13))
  have HB14 : Hid (Below g1 w (w14.setCell ⟨g1, 13, none⟩ (.slice b13 n13 e13))) := Lib.hid ((HB13.out.trans (HC.out.mono (by have := HP13.out.lt; omega))).setCell (p := ⟨g1, 13, none⟩) (Nat.le_refl _) _)
  have HR14 : Hid (RowZ (w14.setCell ⟨g1, 13, none⟩ (.slice b13 n13 e13)) bz (.slice b1 T.length e1) T) := Lib.hid ((HR13.out.below HC.out).far HLB.out)
  clear HR13
  clear HP13 HQ13 HB13 HC
  generalize w14.setCell ⟨g1, 13, none⟩ (.slice b13 n13 e13) = w14 at *
  obtain ⟨d1, d2⟩ := slotB (i := 14) (v := .slice a14 n14 c14) HP14.out rfl
  go_upto_region 16 with (first | (go_at_call 73; refine (HH.out.p14 _ (below_in HW.out HWS.out HB14.out)).mono ?_; rintro e w15 ⟨v9, rfl, h2, h3⟩; have HC := Lib.hid h3; obtain ⟨b14, e14, rfl⟩ := h2; clear d1 d2; obtain ⟨d1, d2⟩ := slotB (i := 14) (v := .slice a14 n14 c14) (HP14.out.keep HC.out) rfl; clear h3) | fail)
  clear d1 d2
  have HP15 : Hid (Blk (w15.setCell ⟨g1, 14, none⟩ (.slice b14 n14 e14)) g1 62 #[.slice b0 n0 e0, .slice b1 T.length e1, .slice b2 n2 e2, .slice b3 n3 e3, .slice b4 n4 e4, .slice b5 n5 e5, .slice b6 n6 e6, .slice b7 n7 e7, .slice b8 n8 e8, .slice b9 n9 e9, .slice b10 n10 e10, .slice b11 n11 e11, .slice b12 n12 e12, .slice b13 n13 e13, .slice b14 n14 e14, .slice a15 n15 c15, .slice a16 n16 c16]) := Lib.hid (by simpa using (HP14.out.keep HC.out).set 14 (.slice b14 n14 e14))
  have HQ15 := Lib.hid ((HQ14.out.keep HC.out).far (p := ⟨g1, 14, none⟩) hne (.slice b14 n14 e14))
  have HB15 : Hid (Below g1 w (w15.setCell ⟨g1, 14, none⟩ (.slice b14 n14 e14))) := Lib.hid ((HB14.out.trans (HC.out.mono (by have := HP14.out.lt; omega))).setCell (p := ⟨g1, 14, none⟩) (Nat.le_refl _) _)
  have HR15 : Hid (RowZ (w15.setCell ⟨g1, 14, none⟩ (.slice b14 n14 e14)) bz (.slice b1 T.length e1) T) := Lib.hid ((HR14.out.below HC.out).far HLB.out)
  clear HR14
  clear HP14 HQ14 HB14 HC
  generalize w15.setCell ⟨g1, 14, none⟩ (.slice b14 n14 e14) = w15 at *
  obtain ⟨d1, d2⟩ := slotB (i := 15) (v := .slice a15 n15 c15) HP15.out rfl
  go_upto_region 17 with (first | (go_at_call 74; refine (HH.out.p15 _ (below_in HW.out HWS.out HB15.out)).mono ?_; rintro e w16 ⟨v9, rfl, h2, h3⟩; have HC := Lib.hid h3; obtain ⟨b15, e15, rfl⟩ := h2; clear d1 d2; obtain ⟨d1, d2⟩ := slotB (i := 15) (v := .slice a15 n15 c15) (HP15.out.keep HC.out) rfl; clear h3) | fail)
  clear d1 d2
  have HP16 : Hid (Blk (w16.setCell ⟨g1, 15, none⟩ (.slice b15 n15 e15)) g1 62 #[.slice b0 n0 e0, .slice b1 T.length e1, .slice b2 n2 e2, .slice b3 n3 e3, .slice b4 n4 e4, .slice b5 n5 e5, .slice b6 n6 e6, .slice b7 n7 e7, .slice b8 n8 e8, .slice b9 n9 e9, .slice b10 n10 e10, .slice b11 n11 e11, .slice b12 n12 e12, .slice b13 n13 e13, .slice b14 n14 e14, .slice b15 n15 e15, .slice a16 n16 c16]) := Lib.hid (by simpa using (HP15.out.keep HC.out).set 15 (.slice b15 n15 e15))
  have HQ16 := Lib.hid ((HQ15.out.keep HC.out).far (p := ⟨g1, 15, none⟩) hne (.slice b15 n15 e15))
  have HB16 : Hid (Below g1 w (w16.setCell ⟨g1, 15, none⟩ (.slice b15 n15 e15))) := Lib.hid ((HB15.out.trans (HC.out.mono (by have := HP15.out.lt; omega))).setCell (p := ⟨g1, 15, none⟩) (Nat.le_refl _) _)
  have HR16 : Hid (RowZ (w16.setCell ⟨g1, 15, none⟩ (.slice b15 n15 e15)) bz (.slice b1 T.length e1) T) := Lib.hid ((HR15.out.below HC.out).far HLB.out)
  clear HR15
  clear HP15 HQ15 HB15 HC
  generalize w16.setCell ⟨g1, 15, none⟩ (.slice b15 n15 e15) = w16 at *
  obtain ⟨d1, d2⟩ := slotB (i := 16) (v := .slice a16 n16 c16) HP16.out rfl
  go_upto_region 18 with (first | (go_at_call 75; refine (HH.out.p16 _ (below_in HW.out HWS.out HB16.out)).mono ?_; rintro e w17 ⟨v9, rfl, h2, h3⟩; have HC := Lib.hid h3; obtain ⟨b16, e16, rfl⟩ := h2; clear d1 d2; obtain ⟨d1, d2⟩ := slotB (i := 16) (v := .slice a16 n16 c16) (HP16.out.keep HC.out) rfl; clear h3) | fail)
  clear d1 d2
  have HP17 : Hid (Blk (w17.setCell ⟨g1, 16, none⟩ (.slice b16 n16 e16)) g1 62 #[.slice b0 n0 e0, .slice b1 T.length e1, .slice b2 n2 e2, .slice b3 n3 e3, .slice b4 n4 e4, .slice b5 n5 e5, .slice b6 n6 e6, .slice b7 n7 e7, .slice b8 n8 e8, .slice b9 n9 e9, .slice b10 n10 e10, .slice b11 n11 e11, .slice b12 n12 e12, .slice b13 n13 e13, .slice b14 n14 e14, .slice b15 n15 e15, .slice b16 n16 e16]) := Lib.hid (by simpa using (HP16.out.keep HC.out).set 16 (.slice b16 n16 e16))
  have HQ17 := Lib.hid ((HQ16.out.keep HC.out).far (p := ⟨g1, 16, none⟩) hne (.slice b16 n16 e16))
  have HB17 : Hid (Below g1 w (w17.setCell ⟨g1, 16, none⟩ (.slice b16 n16 e16))) := Lib.hid ((HB16.out.trans (HC.out.mono (by have := HP16.out.lt; omega))).setCell (p := ⟨g1, 16, none⟩) (Nat.le_refl _) _)
  have HR17 : Hid (RowZ (w17.setCell ⟨g1, 16, none⟩ (.slice b16 n16 e16)) bz (.slice b1 T.length e1) T) := Lib.hid ((HR16.out.below HC.out).far HLB.out)
  clear HR16
  clear HP16 HQ16 HB16 HC
  generalize w17.setCell ⟨g1, 16, none⟩ (.slice b16 n16 e16) = w17 at *
  refine wp_region_lit ?_
  refine wpList_load (by rfl) (.tmp 1) rfl rfl (loadAt_blk [.slice b0 n0 e0, .slice b1 T.length e1, .slice b2 n2 e2, .slice b3 n3 e3, .slice b4 n4 e4, .slice b5 n5 e5, .slice b6 n6 e6, .slice b7 n7 e7, .slice b8 n8 e8, .slice b9 n9 e9, .slice b10 n10 e10, .slice b11 n11 e11, .slice b12 n12 e12, .slice b13 n13 e13, .slice b14 n14 e14, .slice b15 n15 e15, .slice b16 n16 e16] (agg_pol _) (size_pol _) HP17.out) ?_
  simp only [Act.put, List.setIfInBounds_toArray, List.set_cons_succ, List.set_cons_zero]
  refine wpList_store_row (by rfl) _ _ rfl rfl (by rfl) [.slice b0 n0 e0, .slice b1 T.length e1, .slice b2 n2 e2, .slice b3 n3 e3, .slice b4 n4 e4, .slice b5 n5 e5, .slice b6 n6 e6, .slice b7 n7 e7, .slice b8 n8 e8, .slice b9 n9 e9, .slice b10 n10 e10, .slice b11 n11 e11, .slice b12 n12 e12, .slice b13 n13 e13, .slice b14 n14 e14, .slice b15 n15 e15, .slice b16 n16 e16] (.agg #[.slice b0 n0 e0, .slice b1 T.length e1, .slice b2 n2 e2, .slice b3 n3 e3, .slice b4 n4 e4, .slice b5 n5 e5, .slice b6 n6 e6, .slice b7 n7 e7, .slice b8 n8 e8, .slice b9 n9 e9, .slice b10 n10 e10, .slice b11 n11 e11, .slice b12 n12 e12, .slice b13 n13 e13, .slice b14 n14 e14, .slice b15 n15 e15, .slice b16 n16 e16]) (by rfl) rfl (size_pol _) HQ17.out rfl (one_sl rfl) ?_
  have HQ : Hid (Blk (w17.setRow g2 #[.slice b0 n0 e0, .slice b1 T.length e1, .slice b2 n2 e2, .slice b3 n3 e3, .slice b4 n4 e4, .slice b5 n5 e5, .slice b6 n6 e6, .slice b7 n7 e7, .slice b8 n8 e8, .slice b9 n9 e9, .slice b10 n10 e10, .slice b11 n11 e11, .slice b12 n12 e12, .slice b13 n13 e13, .slice b14 n14 e14, .slice b15 n15 e15, .slice b16 n16 e16]) g2 62 #[.slice b0 n0 e0, .slice b1 T.length e1, .slice b2 n2 e2, .slice b3 n3 e3, .slice b4 n4 e4, .slice b5 n5 e5, .slice b6 n6 e6, .slice b7 n7 e7, .slice b8 n8 e8, .slice b9 n9 e9, .slice b10 n10 e10, .slice b11 n11 e11, .slice b12 n12 e12, .slice b13 n13 e13, .slice b14 n14 e14, .slice b15 n15 e15, .slice b16 n16 e16]) := Lib.hid (HQ17.out.row [.slice b0 n0 e0, .slice b1 T.length e1, .slice b2 n2 e2, .slice b3 n3 e3, .slice b4 n4 e4, .slice b5 n5 e5, .slice b6 n6 e6, .slice b7 n7 e7, .slice b8 n8 e8, .slice b9 n9 e9, .slice b10 n10 e10, .slice b11 n11 e11, .slice b12 n12 e12, .slice b13 n13 e13, .slice b14 n14 e14, .slice b15 n15 e15, .slice b16 n16 e16])
  have HB : Hid (Below g1 w (w17.setRow g2 #[.slice b0 n0 e0, .slice b1 T.length e1, .slice b2 n2 e2, .slice b3 n3 e3, .slice b4 n4 e4, .slice b5 n5 e5, .slice b6 n6 e6, .slice b7 n7 e7, .slice b8 n8 e8, .slice b9 n9 e9, .slice b10 n10 e10, .slice b11 n11 e11, .slice b12 n12 e12, .slice b13 n13 e13, .slice b14 n14 e14, .slice b15 n15 e15, .slice b16 n16 e16])) := Lib.hid (below_row HB17.out HG.out _)
  have HR : Hid (RowZ (w17.setRow g2 #[.slice b0 n0 e0, .slice b1 T.length e1, .slice b2 n2 e2, .slice b3 n3 e3, .slice b4 n4 e4, .slice b5 n5 e5, .slice b6 n6 e6, .slice b7 n7 e7, .slice b8 n8 e8, .slice b9 n9 e9, .slice b10 n10 e10, .slice b11 n11 e11, .slice b12 n12 e12, .slice b13 n13 e13, .slice b14 n14 e14, .slice b15 n15 e15, .slice b16 n16 e16]) bz (.slice b1 T.length e1) T) := Lib.hid (HR17.out.row HLE.out.2)
  generalize w17.setRow g2 #[.slice b0 n0 e0, .slice b1 T.length e1, .slice b2 n2 e2, .slice b3 n3 e3, .slice b4 n4 e4, .slice b5 n5 e5, .slice b6 n6 e6, .slice b7 n7 e7, .slice b8 n8 e8, .slice b9 n9 e9, .slice b10 n10 e10, .slice b11 n11 e11, .slice b12 n12 e12, .slice b13 n13 e13, .slice b14 n14 e14, .slice b15 n15 e15, .slice b16 n16 e16] = w18 at *
  go_wp2_with fail
  refine bodyPost_ret (v := .agg #[.slice b0 n0 e0, .slice b1 T.length e1, .slice b2 n2 e2, .slice b3 n3 e3, .slice b4 n4 e4, .slice b5 n5 e5, .slice b6 n6 e6, .slice b7 n7 e7, .slice b8 n8 e8, .slice b9 n9 e9, .slice b10 n10 e10, .slice b11 n11 e11, .slice b12 n12 e12, .slice b13 n13 e13, .slice b14 n14 e14, .slice b15 n15 e15, .slice b16 n16 e16]) (blk_ret [.slice b0 n0 e0, .slice b1 T.length e1, .slice b2 n2 e2, .slice b3 n3 e3, .slice b4 n4 e4, .slice b5 n5 e5, .slice b6 n6 e6, .slice b7 n7 e7, .slice b8 n8 e8, .slice b9 n9 e9, .slice b10 n10 e10, .slice b11 n11 e11, .slice b12 n12 e12, .slice b13 n13 e13, .slice b14 n14 e14, .slice b15 n15 e15, .slice b16 n16 e16] rfl rfl (agg_pol _) (size_pol _) HQ.out) rfl ⟨.slice b0 n0 e0, .slice b1 T.length e1, .slice b2 n2 e2, .slice b3 n3 e3, .slice b4 n4 e4, .slice b5 n5 e5, .slice b6 n6 e6, .slice b7 n7 e7, .slice b8 n8 e8, .slice b9 n9 e9, .slice b10 n10 e10, .slice b11 n11 e11, .slice b12 n12 e12, .slice b13 n13 e13, .slice b14 n14 e14, .slice b15 n15 e15, .slice b16 n16 e16, rfl, ⟨⟨_, _, rfl⟩, ⟨_, _, rfl⟩, ⟨_, _, rfl⟩, ⟨_, _, rfl⟩, ⟨_, _, rfl⟩, ⟨_, _, rfl⟩, ⟨_, _, rfl⟩, ⟨_, _, rfl⟩, ⟨_, _, rfl⟩, ⟨_, _, rfl⟩, ⟨_, _, rfl⟩, ⟨_, _, rfl⟩, ⟨_, _, rfl⟩, ⟨_, _, rfl⟩, ⟨_, _, rfl⟩, ⟨_, _, rfl⟩⟩, ?_, ?_⟩
  · exact HR.out.base (by rw [hgx]; exact HLE.out.1)
  · rw [hgx]; exact HB.out
end Go.Proofs.Ytbcbhgclgakljaa
