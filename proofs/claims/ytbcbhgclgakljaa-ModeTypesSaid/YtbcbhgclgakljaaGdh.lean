/- With of any policy that is handed in. -/
import Derived.Test.YtbcbhgclgakljaaGdg
import Derived.Test.YtbcbhgclgakljaaMdk
namespace Go.Proofs.Ytbcbhgclgakljaa
open Go.RowKit Go.Maps
theorem RowZ.at {w : World} {B g n c i : Nat} {T : List Tz} {x : Tz} (h : RowZ w B (.slice (some ⟨g, 0, none⟩) n c) T) (hx : T[i]? = some x) : B ≤ g ∧ g < w.heap.size ∧ w.cell? ⟨g, i * 3 + 2, none⟩ = some (.bool x.pm) ∧ w.frozen? ⟨g, i * 3 + 2, none⟩ = false := by
  rcases h with ⟨rfl, _⟩ | ⟨g', c', cs, h1, h2, h3, h4, h5⟩
  · simp at hx
  · simp only [Value.slice.injEq, Option.some.injEq, Addr.mk.injEq, and_true] at h1
    obtain ⟨rfl, _, _⟩ := h1
    exact ⟨h3, h4.lt, by rw [h4.cell]; exact (h5 i x hx).2.2, h4.frozen _⟩
theorem RowZ.some {w : World} {B n c : Nat} {a : Option Addr} {T : List Tz} (h : RowZ w B (.slice a n c) T) (hn : T ≠ []) : ∃ g, a = Option.some ⟨g, 0, none⟩ ∧ T.length ≤ c := by
  rcases h with ⟨rfl, _⟩ | ⟨g, c', cs, h1, h2, _⟩
  · exact absurd rfl hn
  · simp only [Value.slice.injEq] at h1
    exact ⟨g, h1.1, by omega⟩
theorem RowZ.set {w : World} {B g n c i : Nat} {T : List Tz} {x : Tz} {b : Bool} (h : RowZ w B (.slice (Option.some ⟨g, 0, none⟩) n c) T) (hx : T[i]? = Option.some x) : RowZ (w.setCell ⟨g, i * 3 + 2, none⟩ (.bool b)) B (.slice (Option.some ⟨g, 0, none⟩) n c) (T.set i ⟨x.n, x.an, b⟩) := by
  rcases h with ⟨rfl, _⟩ | ⟨g', c', cs, h1, h2, h3, h4, h5⟩
  · simp at hx
  · have e := h1
    simp only [Value.slice.injEq, Option.some.injEq, Addr.mk.injEq, and_true] at e
    obtain ⟨rfl, e2, rfl⟩ := e
    refine .inr ⟨g, c, cs.setIfInBounds (i * 3 + 2) (.bool b), by rw [List.length_set, e2], by rw [List.length_set]; exact h2, h3, h4.set _ _, fun j y hy => ?_⟩
    rw [List.getElem?_set] at hy
    by_cases e : i = j
    · subst e
      rw [if_pos rfl, if_pos (List.getElem?_eq_some_iff.1 hx).1] at hy
      obtain rfl := Option.some.inj hy
      obtain ⟨k0, k1, k2⟩ := h5 i x hx
      refine ⟨by rw [set_at (by omega)]; exact k0, by rw [set_at (by omega)]; exact k1, ?_⟩
      rw [Array.getElem?_setIfInBounds, if_pos rfl, if_pos (Array.getElem?_eq_some_iff.1 k2).1]
    · rw [if_neg e] at hy
      have := h5 j y hy
      rw [set_at (by omega), set_at (by omega), set_at (by omega)]
      exact this
/-- the types T with other marks -/
def PZ (f : Nat → Tz → Bool) (T Tc : List Tz) : Prop := ∀ j, Tc[j]? = (T[j]?).map (fun x => (⟨x.n, x.an, f j x⟩ : Tz))
theorem PZ.start (T : List Tz) : PZ (fun _ x => x.pm) T T := fun j => by cases T[j]? <;> rfl
theorem PZ.len {f : Nat → Tz → Bool} {T Tc : List Tz} (h : PZ f T Tc) : Tc.length = T.length := by
  apply Nat.le_antisymm
  · apply Nat.le_of_not_lt
    intro hlt
    have h1 := h T.length
    rw [List.getElem?_eq_getElem hlt, List.getElem?_eq_none (Nat.le_refl _)] at h1
    cases h1
  · apply Nat.le_of_not_lt
    intro hlt
    have h1 := h Tc.length
    rw [List.getElem?_eq_getElem hlt, List.getElem?_eq_none (Nat.le_refl _)] at h1
    cases h1
theorem PZ.set {f g : Nat → Tz → Bool} {T Tc : List Tz} {i : Nat} {x : Tz} {b : Bool} (h : PZ f T Tc) (hx : T[i]? = some x) (hg : ∀ j y, g j y = if j = i then b else f j y) : PZ g T (Tc.set i ⟨x.n, x.an, b⟩) := by
  intro j
  rw [List.getElem?_set]
  by_cases e : i = j
  · subst e
    have h1 := h i
    rw [hx] at h1
    have hlt : i < Tc.length := (List.getElem?_eq_some_iff.1 h1).1
    rw [if_pos rfl, if_pos hlt, hx]
    simp [hg]
  · rw [if_neg e, h j]
    cases T[j]? with
    | none => rfl
    | some y => simp [hg, Ne.symm e]
theorem PZ.eq {f g : Nat → Tz → Bool} {T Tc : List Tz} (h : PZ f T Tc) (he : ∀ j y, T[j]? = some y → f j y = g j y) : PZ g T Tc := by
  intro j
  rw [h j]
  cases hj : T[j]? with
  | none => rfl
  | some y => simp [he j y hj]
set_option maxRecDepth 100000 in
set_option maxHeartbeats 16000000 in
theorem withG (W0 w : World) (a0 a1 a2 a3 a4 a5 a6 a7 a8 a9 a10 a11 a12 a13 a14 a15 a16 : Option Addr) (n0 n1 n2 n3 n4 n5 n6 n7 n8 n9 n10 n11 n12 n13 n14 n15 n16 c0 c1 c2 c3 c4 c5 c6 c7 c8 c9 c10 c11 c12 c13 c14 c15 c16 : Nat) (T : List Tz) (L : List Int) (al : Option Addr) (m cl : Nat) (h : PolIn W0 (.slice a0 n0 c0) (.slice a1 n1 c1) (.slice a2 n2 c2) (.slice a3 n3 c3) (.slice a4 n4 c4) (.slice a5 n5 c5) (.slice a6 n6 c6) (.slice a7 n7 c7) (.slice a8 n8 c8) (.slice a9 n9 c9) (.slice a10 n10 c10) (.slice a11 n11 c11) (.slice a12 n12 c12) (.slice a13 n13 c13) (.slice a14 n14 c14) (.slice a15 n15 c15) (.slice a16 n16 c16) n0 n2 n3 n4 n5 n6 n7 n8 n9 n10 n11 n12 n13 n14 n15 n16 T) (hb : Below W0.heap.size W0 w) (hl : T.length ≤ 1000) (hi : Rows' RIn w (.slice al m cl) L) (hm : m = L.length) (hml : m ≤ 1000) :
    Calls Try.prog 19 #[.agg #[.slice a0 n0 c0, .slice a1 n1 c1, .slice a2 n2 c2, .slice a3 n3 c3, .slice a4 n4 c4, .slice a5 n5 c5, .slice a6 n6 c6, .slice a7 n7 c7, .slice a8 n8 c8, .slice a9 n9 c9, .slice a10 n10 c10, .slice a11 n11 c11, .slice a12 n12 c12, .slice a13 n13 c13, .slice a14 n14 c14, .slice a15 n15 c15, .slice a16 n16 c16], .slice al m cl] w fun e w' => ∃ u0 u1 u2 u3 u4 u5 u6 u7 u8 u9 u10 u11 u12 u13 u14 u15 u16, e = .returned (.agg #[u0, u1, u2, u3, u4, u5, u6, u7, u8, u9, u10, u11, u12, u13, u14, u15, u16]) ∧ (SlN u0 n0 ∧ SlN u2 n2 ∧ SlN u3 n3 ∧ SlN u4 n4 ∧ SlN u5 n5 ∧ SlN u6 n6 ∧ SlN u7 n7 ∧ SlN u8 n8 ∧ SlN u9 n9 ∧ SlN u10 n10 ∧ SlN u11 n11 ∧ SlN u12 n12 ∧ SlN u13 n13 ∧ SlN u14 n14 ∧ SlN u15 n15 ∧ SlN u16 n16) ∧ (∃ Tc, RowZ w' w.heap.size u1 Tc ∧ PZ (fun j _ => inL L j) T Tc) ∧ Below w.heap.size w w' := by
  have HB0 : Hid (Below w.heap.size w ((w.alloc (.cells #[.slice a0 n0 c0, .slice a1 n1 c1, .slice a2 n2 c2, .slice a3 n3 c3, .slice a4 n4 c4, .slice a5 n5 c5, .slice a6 n6 c6, .slice a7 n7 c7, .slice a8 n8 c8, .slice a9 n9 c9, .slice a10 n10 c10, .slice a11 n11 c11, .slice a12 n12 c12, .slice a13 n13 c13, .slice a14 n14 c14, .slice a15 n15 c15, .slice a16 n16 c16] 62)).alloc (.cells #[.slice none 0 0, .slice none 0 0, .slice none 0 0, .slice none 0 0, .slice none 0 0, .slice none 0 0, .slice none 0 0, .slice none 0 0, .slice none 0 0, .slice none 0 0, .slice none 0 0, .slice none 0 0, .slice none 0 0, .slice none 0 0, .slice none 0 0, .slice none 0 0, .slice none 0 0] 62))) := Lib.hid (((Below.refl _ _).alloc (Nat.le_refl _) _).alloc (by simp) _)
  have HP0 : Hid (Blk ((w.alloc (.cells #[.slice a0 n0 c0, .slice a1 n1 c1, .slice a2 n2 c2, .slice a3 n3 c3, .slice a4 n4 c4, .slice a5 n5 c5, .slice a6 n6 c6, .slice a7 n7 c7, .slice a8 n8 c8, .slice a9 n9 c9, .slice a10 n10 c10, .slice a11 n11 c11, .slice a12 n12 c12, .slice a13 n13 c13, .slice a14 n14 c14, .slice a15 n15 c15, .slice a16 n16 c16] 62)).alloc (.cells #[.slice none 0 0, .slice none 0 0, .slice none 0 0, .slice none 0 0, .slice none 0 0, .slice none 0 0, .slice none 0 0, .slice none 0 0, .slice none 0 0, .slice none 0 0, .slice none 0 0, .slice none 0 0, .slice none 0 0, .slice none 0 0, .slice none 0 0, .slice none 0 0, .slice none 0 0] 62)) w.heap.size 62 #[.slice a0 n0 c0, .slice a1 n1 c1, .slice a2 n2 c2, .slice a3 n3 c3, .slice a4 n4 c4, .slice a5 n5 c5, .slice a6 n6 c6, .slice a7 n7 c7, .slice a8 n8 c8, .slice a9 n9 c9, .slice a10 n10 c10, .slice a11 n11 c11, .slice a12 n12 c12, .slice a13 n13 c13, .slice a14 n14 c14, .slice a15 n15 c15, .slice a16 n16 c16]) := Lib.hid ((Blk.here rfl).alloc _)
  have HQ0 : Hid (Blk ((w.alloc (.cells #[.slice a0 n0 c0, .slice a1 n1 c1, .slice a2 n2 c2, .slice a3 n3 c3, .slice a4 n4 c4, .slice a5 n5 c5, .slice a6 n6 c6, .slice a7 n7 c7, .slice a8 n8 c8, .slice a9 n9 c9, .slice a10 n10 c10, .slice a11 n11 c11, .slice a12 n12 c12, .slice a13 n13 c13, .slice a14 n14 c14, .slice a15 n15 c15, .slice a16 n16 c16] 62)).alloc (.cells #[.slice none 0 0, .slice none 0 0, .slice none 0 0, .slice none 0 0, .slice none 0 0, .slice none 0 0, .slice none 0 0, .slice none 0 0, .slice none 0 0, .slice none 0 0, .slice none 0 0, .slice none 0 0, .slice none 0 0, .slice none 0 0, .slice none 0 0, .slice none 0 0, .slice none 0 0] 62)) (w.heap.size + 1) 62 #[.slice none 0 0, .slice none 0 0, .slice none 0 0, .slice none 0 0, .slice none 0 0, .slice none 0 0, .slice none 0 0, .slice none 0 0, .slice none 0 0, .slice none 0 0, .slice none 0 0, .slice none 0 0, .slice none 0 0, .slice none 0 0, .slice none 0 0, .slice none 0 0, .slice none 0 0]) := Lib.hid (Blk.here (by simp))
  have HCL := Lib.hid (clonePolG W0 ((w.alloc (.cells #[.slice a0 n0 c0, .slice a1 n1 c1, .slice a2 n2 c2, .slice a3 n3 c3, .slice a4 n4 c4, .slice a5 n5 c5, .slice a6 n6 c6, .slice a7 n7 c7, .slice a8 n8 c8, .slice a9 n9 c9, .slice a10 n10 c10, .slice a11 n11 c11, .slice a12 n12 c12, .slice a13 n13 c13, .slice a14 n14 c14, .slice a15 n15 c15, .slice a16 n16 c16] 62)).alloc (.cells #[.slice none 0 0, .slice none 0 0, .slice none 0 0, .slice none 0 0, .slice none 0 0, .slice none 0 0, .slice none 0 0, .slice none 0 0, .slice none 0 0, .slice none 0 0, .slice none 0 0, .slice none 0 0, .slice none 0 0, .slice none 0 0, .slice none 0 0, .slice none 0 0, .slice none 0 0] 62)) a0 a1 a2 a3 a4 a5 a6 a7 a8 a9 a10 a11 a12 a13 a14 a15 a16 n0 n1 n2 n3 n4 n5 n6 n7 n8 n9 n10 n11 n12 n13 n14 n15 n16 c0 c1 c2 c3 c4 c5 c6 c7 c8 c9 c10 c11 c12 c13 c14 c15 c16 T h (hb.trans (HB0.out.mono hb.size)))
  have HI := Lib.hid hi
  have hne : w.heap.size + 1 ≠ w.heap.size := by omega
  have HG : Hid (w.heap.size ≤ w.heap.size + 1) := Lib.hid (by omega)
  have HM := Lib.hid hm
  have hmI : (m : Int) ≤ (cl : Int) := by
    obtain ⟨_, _, e, hc, _⟩ := hi.form
    simp only [Value.slice.injEq] at e
    rw [hm, e.2.2]; omega
  clear h hb hi hm
  go_enter Try.func19, Try.ntmps19
  go_upto_region 1 with fail
  generalize (w.alloc (.cells #[.slice a0 n0 c0, .slice a1 n1 c1, .slice a2 n2 c2, .slice a3 n3 c3, .slice a4 n4 c4, .slice a5 n5 c5, .slice a6 n6 c6, .slice a7 n7 c7, .slice a8 n8 c8, .slice a9 n9 c9, .slice a10 n10 c10, .slice a11 n11 c11, .slice a12 n12 c12, .slice a13 n13 c13, .slice a14 n14 c14, .slice a15 n15 c15, .slice a16 n16 c16] 62)).alloc (.cells #[.slice none 0 0, .slice none 0 0, .slice none 0 0, .slice none 0 0, .slice none 0 0, .slice none 0 0, .slice none 0 0, .slice none 0 0, .slice none 0 0, .slice none 0 0, .slice none 0 0, .slice none 0 0, .slice none 0 0, .slice none 0 0, .slice none 0 0, .slice none 0 0, .slice none 0 0] 62) = w0 at *
  generalize w.heap.size + 1 = g4 at *
  generalize hgx : w.heap.size = g2 at *
  refine wp_region_lit ?_
  refine wpList_load (by rfl) (.tmp 2) rfl rfl (loadAt_blk [.slice a0 n0 c0, .slice a1 n1 c1, .slice a2 n2 c2, .slice a3 n3 c3, .slice a4 n4 c4, .slice a5 n5 c5, .slice a6 n6 c6, .slice a7 n7 c7, .slice a8 n8 c8, .slice a9 n9 c9, .slice a10 n10 c10, .slice a11 n11 c11, .slice a12 n12 c12, .slice a13 n13 c13, .slice a14 n14 c14, .slice a15 n15 c15, .slice a16 n16 c16] (agg_pol _) (size_pol _) HP0.out) ?_
  simp only [Act.put, List.setIfInBounds_toArray, List.set_cons_succ, List.set_cons_zero]
  refine wpList_enterX (by rfl) (by go_simp) HCL.out ?_
  rintro e w1 ⟨u0, u1, u2, u3, u4, u5, u6, u7, u8, u9, u10, u11, u12, u13, u14, u15, u16, rfl, ⟨s0, s2, s3, s4, s5, s6, s7, s8, s9, s10, s11, s12, s13, s14, s15, s16⟩, h1, h2⟩
  refine ⟨_, rfl, ?_⟩
  obtain ⟨b0, e0, rfl⟩ := s0
  obtain ⟨b2, e2, rfl⟩ := s2
  obtain ⟨b3, e3, rfl⟩ := s3
  obtain ⟨b4, e4, rfl⟩ := s4
  obtain ⟨b5, e5, rfl⟩ := s5
  obtain ⟨b6, e6, rfl⟩ := s6
  obtain ⟨b7, e7, rfl⟩ := s7
  obtain ⟨b8, e8, rfl⟩ := s8
  obtain ⟨b9, e9, rfl⟩ := s9
  obtain ⟨b10, e10, rfl⟩ := s10
  obtain ⟨b11, e11, rfl⟩ := s11
  obtain ⟨b12, e12, rfl⟩ := s12
  obtain ⟨b13, e13, rfl⟩ := s13
  obtain ⟨b14, e14, rfl⟩ := s14
  obtain ⟨b15, e15, rfl⟩ := s15
  obtain ⟨b16, e16, rfl⟩ := s16
  obtain ⟨b1, e1, rfl⟩ := h1.n
  have HO1 := Lib.hid h1
  have HB1 := Lib.hid h2
  clear h1 h2
  simp only [Act.put, List.setIfInBounds_toArray, List.set_cons_succ, List.set_cons_zero]
  refine wpList_store_row (by rfl) _ _ rfl rfl (by rfl) [.slice b0 n0 e0, .slice b1 T.length e1, .slice b2 n2 e2, .slice b3 n3 e3, .slice b4 n4 e4, .slice b5 n5 e5, .slice b6 n6 e6, .slice b7 n7 e7, .slice b8 n8 e8, .slice b9 n9 e9, .slice b10 n10 e10, .slice b11 n11 e11, .slice b12 n12 e12, .slice b13 n13 e13, .slice b14 n14 e14, .slice b15 n15 e15, .slice b16 n16 e16] (.agg #[.slice b0 n0 e0, .slice b1 T.length e1, .slice b2 n2 e2, .slice b3 n3 e3, .slice b4 n4 e4, .slice b5 n5 e5, .slice b6 n6 e6, .slice b7 n7 e7, .slice b8 n8 e8, .slice b9 n9 e9, .slice b10 n10 e10, .slice b11 n11 e11, .slice b12 n12 e12, .slice b13 n13 e13, .slice b14 n14 e14, .slice b15 n15 e15, .slice b16 n16 e16]) (by rfl) rfl (size_pol _) (HP0.out.keep HB1.out) rfl (one_sl rfl) ?_
  have HP2 : Hid (Blk (w1.setRow g2 [.slice b0 n0 e0, .slice b1 T.length e1, .slice b2 n2 e2, .slice b3 n3 e3, .slice b4 n4 e4, .slice b5 n5 e5, .slice b6 n6 e6, .slice b7 n7 e7, .slice b8 n8 e8, .slice b9 n9 e9, .slice b10 n10 e10, .slice b11 n11 e11, .slice b12 n12 e12, .slice b13 n13 e13, .slice b14 n14 e14, .slice b15 n15 e15, .slice b16 n16 e16].toArray) g2 62 #[.slice b0 n0 e0, .slice b1 T.length e1, .slice b2 n2 e2, .slice b3 n3 e3, .slice b4 n4 e4, .slice b5 n5 e5, .slice b6 n6 e6, .slice b7 n7 e7, .slice b8 n8 e8, .slice b9 n9 e9, .slice b10 n10 e10, .slice b11 n11 e11, .slice b12 n12 e12, .slice b13 n13 e13, .slice b14 n14 e14, .slice b15 n15 e15, .slice b16 n16 e16]) := Lib.hid ((HP0.out.keep HB1.out).row _)
  have HQ2 : Hid (Blk (w1.setRow g2 [.slice b0 n0 e0, .slice b1 T.length e1, .slice b2 n2 e2, .slice b3 n3 e3, .slice b4 n4 e4, .slice b5 n5 e5, .slice b6 n6 e6, .slice b7 n7 e7, .slice b8 n8 e8, .slice b9 n9 e9, .slice b10 n10 e10, .slice b11 n11 e11, .slice b12 n12 e12, .slice b13 n13 e13, .slice b14 n14 e14, .slice b15 n15 e15, .slice b16 n16 e16].toArray) g4 62 #[.slice none 0 0, .slice none 0 0, .slice none 0 0, .slice none 0 0, .slice none 0 0, .slice none 0 0, .slice none 0 0, .slice none 0 0, .slice none 0 0, .slice none 0 0, .slice none 0 0, .slice none 0 0, .slice none 0 0, .slice none 0 0, .slice none 0 0, .slice none 0 0, .slice none 0 0]) := Lib.hid ((setRow_other w1 g2 g4 _ hne).trans (HQ0.out.keep HB1.out))
  have HB2 : Hid (Below g2 w (w1.setRow g2 [.slice b0 n0 e0, .slice b1 T.length e1, .slice b2 n2 e2, .slice b3 n3 e3, .slice b4 n4 e4, .slice b5 n5 e5, .slice b6 n6 e6, .slice b7 n7 e7, .slice b8 n8 e8, .slice b9 n9 e9, .slice b10 n10 e10, .slice b11 n11 e11, .slice b12 n12 e12, .slice b13 n13 e13, .slice b14 n14 e14, .slice b15 n15 e15, .slice b16 n16 e16].toArray)) := Lib.hid (below_row (HB0.out.trans (HB1.out.mono (Nat.le_of_lt HP0.out.lt))) (Nat.le_refl _) _)
  have HO2 : Hid (RowZ (w1.setRow g2 [.slice b0 n0 e0, .slice b1 T.length e1, .slice b2 n2 e2, .slice b3 n3 e3, .slice b4 n4 e4, .slice b5 n5 e5, .slice b6 n6 e6, .slice b7 n7 e7, .slice b8 n8 e8, .slice b9 n9 e9, .slice b10 n10 e10, .slice b11 n11 e11, .slice b12 n12 e12, .slice b13 n13 e13, .slice b14 n14 e14, .slice b15 n15 e15, .slice b16 n16 e16].toArray) w0.heap.size (.slice b1 T.length e1) T) := Lib.hid (HO1.out.row HP0.out.lt)
  have HLT : Hid (g2 < w0.heap.size ∧ g4 < w0.heap.size) := Lib.hid ⟨HP0.out.lt, HQ0.out.lt⟩
  clear HP0 HQ0 HB0 HO1 HB1 HCL
  generalize w0.heap.size = bz at *
  generalize w1.setRow g2 [.slice b0 n0 e0, .slice b1 T.length e1, .slice b2 n2 e2, .slice b3 n3 e3, .slice b4 n4 e4, .slice b5 n5 e5, .slice b6 n6 e6, .slice b7 n7 e7, .slice b8 n8 e8, .slice b9 n9 e9, .slice b10 n10 e10, .slice b11 n11 e11, .slice b12 n12 e12, .slice b13 n13 e13, .slice b14 n14 e14, .slice b15 n15 e15, .slice b16 n16 e16].toArray = w2 at *
  obtain ⟨n, hn⟩ : ∃ n, T.length = n := ⟨_, rfl⟩
  have HN := Lib.hid hn
  rw [hn] at HP2 HO2 hl ⊢
  clear hn
  have d1 := HP2.out.cell 1
  simp only [List.getElem?_toArray, List.getElem?_cons_zero, List.getElem?_cons_succ] at d1
  go_wp2_with fail
  clear d1
  go_loopw [13] (fun vi wr => ∃ (i : Nat) (Tc : List Tz), i ≤ n ∧ vi = .int .i64 i ∧ Hid (RowZ wr bz (.slice b1 n e1) Tc) ∧ Hid (PZ (fun j y => if j < i then false else y.pm) T Tc) ∧ Hid (Below g2 w wr) ∧ Hid (Blk wr g2 62 #[.slice b0 n0 e0, .slice b1 n e1, .slice b2 n2 e2, .slice b3 n3 e3, .slice b4 n4 e4, .slice b5 n5 e5, .slice b6 n6 e6, .slice b7 n7 e7, .slice b8 n8 e8, .slice b9 n9 e9, .slice b10 n10 e10, .slice b11 n11 e11, .slice b12 n12 e12, .slice b13 n13 e13, .slice b14 n14 e14, .slice b15 n15 e15, .slice b16 n16 e16]) ∧ Hid (Blk wr g4 62 #[.slice none 0 0, .slice none 0 0, .slice none 0 0, .slice none 0 0, .slice none 0 0, .slice none 0 0, .slice none 0 0, .slice none 0 0, .slice none 0 0, .slice none 0 0, .slice none 0 0, .slice none 0 0, .slice none 0 0, .slice none 0 0, .slice none 0 0, .slice none 0 0, .slice none 0 0])) (fun vi _ => n - (intOf vi).toNat)
  case atStart => exact ⟨0, T, Nat.zero_le _, rfl, HO2, Lib.hid ((PZ.start T).eq fun j y _ => by simp), HB2, HP2, HQ2⟩
  case round =>
    obtain ⟨i, Tc, hi, rfl, HO, HT, HBr, HPr, HQr⟩ := hrel
    by_cases hlt : i < n
    · have hltI : (i : Int) < (n : Int) := by omega
      have hx : T[i]? = some (T[i]'(by rw [HN.out]; exact hlt)) := List.getElem?_eq_getElem _
      generalize T[i]'(by rw [HN.out]; exact hlt) = x at hx
      have hxc : Tc[i]? = some ⟨x.n, x.an, x.pm⟩ := by have := HT.out i; rw [hx] at this; simpa using this
      obtain ⟨gt, rfl, hgc⟩ := HO.out.some (by rintro rfl; simp at hxc)
      have hltC : (i : Int) < (e1 : Int) := by have := HT.out.len; have := HN.out; omega
      obtain ⟨hgt, _, d2, f2⟩ := HO.out.at hxc
      have d1 := HPr.out.cell 1
      simp only [List.getElem?_toArray, List.getElem?_cons_zero, List.getElem?_cons_succ] at d1
      have HLG : Hid (bz ≤ gt ∧ gt ≠ g2 ∧ gt ≠ g4) := Lib.hid (by have h2 := HLT.out; omega)
      have HO3 : Hid (RowZ (wr.setCell ⟨gt, i * 3 + 2, none⟩ (.bool false)) bz (.slice (some ⟨gt, 0, none⟩) n e1) (Tc.set i ⟨x.n, x.an, false⟩)) := Lib.hid (HO.out.set hxc)
      have HT3 : Hid (PZ (fun j y => if j < i + 1 then false else y.pm) T (Tc.set i ⟨x.n, x.an, false⟩)) := Lib.hid (HT.out.set hx (b := false) fun j y => by by_cases e : j = i <;> by_cases e2 : j < i <;> simp [e, e2] <;> omega)
      have HB3 : Hid (Below g2 w (wr.setCell ⟨gt, i * 3 + 2, none⟩ (.bool false))) := Lib.hid (HBr.out.setCell (p := ⟨gt, i * 3 + 2, none⟩) (by have h1 := HLG.out; have h2 := HLT.out; show g2 ≤ gt; omega) _)
      have HP3 := Lib.hid (HPr.out.far (p := ⟨gt, i * 3 + 2, none⟩) (fun e => HLG.out.2.1 e.symm) (.bool false))
      have HQ3 := Lib.hid (HQr.out.far (p := ⟨gt, i * 3 + 2, none⟩) (fun e => HLG.out.2.2 e.symm) (.bool false))
      clear hx hxc hgt hgc
      go_wp2_with fail
      exact ⟨⟨i + 1, Tc.set i ⟨x.n, x.an, false⟩, by omega, by go_num, HO3, HT3, HB3, HP3, HQ3⟩, by simp [intOf]; omega⟩
    · obtain rfl : i = n := by omega
      have HT0 : Hid (PZ (fun j _ => inL (L.take 0) j) T Tc) := Lib.hid (HT.out.eq fun j y hj => by
        have : j < i := by rw [← HN.out]; exact (List.getElem?_eq_some_iff.1 hj).1
        simp [this, inL])
      clear HT
      generalize wr = w3 at *
      go_wp2_with fail
      go_loopw [24] (fun vi wr => ∃ (k : Nat) (Tc : List Tz), k ≤ m ∧ vi = .int .i64 k ∧ Hid (RowZ wr bz (.slice b1 i e1) Tc) ∧ Hid (PZ (fun j _ => inL (L.take k) j) T Tc) ∧ Hid (Below g2 w wr) ∧ Hid (Blk wr g2 62 #[.slice b0 n0 e0, .slice b1 i e1, .slice b2 n2 e2, .slice b3 n3 e3, .slice b4 n4 e4, .slice b5 n5 e5, .slice b6 n6 e6, .slice b7 n7 e7, .slice b8 n8 e8, .slice b9 n9 e9, .slice b10 n10 e10, .slice b11 n11 e11, .slice b12 n12 e12, .slice b13 n13 e13, .slice b14 n14 e14, .slice b15 n15 e15, .slice b16 n16 e16]) ∧ Hid (Blk wr g4 62 #[.slice none 0 0, .slice none 0 0, .slice none 0 0, .slice none 0 0, .slice none 0 0, .slice none 0 0, .slice none 0 0, .slice none 0 0, .slice none 0 0, .slice none 0 0, .slice none 0 0, .slice none 0 0, .slice none 0 0, .slice none 0 0, .slice none 0 0, .slice none 0 0, .slice none 0 0])) (fun vi _ => m - (intOf vi).toNat)
      case atStart => exact ⟨0, Tc, Nat.zero_le _, rfl, HO, HT0, HBr, HPr, HQr⟩
      case round =>
        obtain ⟨k, Td, hk, rfl, HOk, HTk, HBk, HPk, HQk⟩ := hrel
        by_cases hltk : k < m
        · have hltI : (k : Int) < (m : Int) := by omega
          have hltC : (k : Int) < (cl : Int) := by omega
          have hx : L[k]? = some (L[k]'(by rw [← HM.out]; exact hltk)) := List.getElem?_eq_getElem _
          generalize L[k]'(by rw [← HM.out]; exact hltk) = x at hx
          obtain ⟨gl, ol, cl', e2, _⟩ := HI.out.some (by rintro rfl; simp at hx)
          simp only [Value.slice.injEq] at e2
          obtain ⟨rfl, _, rfl⟩ := e2
          have d0 := (HI.out.below (by rw [hgx]; exact HBk.out)).at1 rfl hx
          have d1 := HPk.out.cell 1
          simp only [List.getElem?_toArray, List.getElem?_cons_zero, List.getElem?_cons_succ] at d1
          have HTS : Hid (L.take (k + 1) = L.take k ++ [x]) := Lib.hid (by rw [List.take_add_one, hx]; rfl)
          clear hx
          by_cases hr : 0 ≤ x ∧ x < (i : Int)
          · obtain ⟨q, rfl⟩ : ∃ q : Nat, x = (q : Int) := ⟨x.toNat, by omega⟩
            have hq : q < i := by omega
            have hqI : (q : Int) < (i : Int) := by omega
            have hxq : T[q]? = some (T[q]'(by rw [HN.out]; exact hq)) := List.getElem?_eq_getElem _
            generalize T[q]'(by rw [HN.out]; exact hq) = z at hxq
            have hxc : Td[q]? = some ⟨z.n, z.an, inL (L.take k) q⟩ := by have := HTk.out q; rw [hxq] at this; simpa using this
            obtain ⟨gt, rfl, hgc⟩ := HOk.out.some (by rintro rfl; simp at hxc)
            have hqC : (q : Int) < (e1 : Int) := by have := HTk.out.len; have := HN.out; omega
            obtain ⟨hgt, _, d2, f2⟩ := HOk.out.at hxc
            have HLG : Hid (bz ≤ gt ∧ gt ≠ g2 ∧ gt ≠ g4) := Lib.hid (by have h2 := HLT.out; omega)
            have HO3 : Hid (RowZ (wr.setCell ⟨gt, q * 3 + 2, none⟩ (.bool true)) bz (.slice (some ⟨gt, 0, none⟩) i e1) (Td.set q ⟨z.n, z.an, true⟩)) := Lib.hid (HOk.out.set (x := ⟨z.n, z.an, inL (L.take k) q⟩) hxc)
            have HT3 : Hid (PZ (fun j _ => inL (L.take (k + 1)) j) T (Td.set q ⟨z.n, z.an, true⟩)) := Lib.hid (HTk.out.set hxq (b := true) fun j y => by rw [HTS.out]; by_cases e : j = q <;> simp [inL, e] <;> omega)
            have HB3 : Hid (Below g2 w (wr.setCell ⟨gt, q * 3 + 2, none⟩ (.bool true))) := Lib.hid (HBk.out.setCell (p := ⟨gt, q * 3 + 2, none⟩) (by have h1 := HLG.out; have h2 := HLT.out; show g2 ≤ gt; omega) _)
            have HP3 := Lib.hid (HPk.out.far (p := ⟨gt, q * 3 + 2, none⟩) (fun e => HLG.out.2.1 e.symm) (.bool true))
            have HQ3 := Lib.hid (HQk.out.far (p := ⟨gt, q * 3 + 2, none⟩) (fun e => HLG.out.2.2 e.symm) (.bool true))
            clear hxq hxc hgt hgc
            go_wp2_with fail
            exact ⟨⟨k + 1, Td.set q ⟨z.n, z.an, true⟩, by omega, by go_num, HO3, HT3, HB3, HP3, HQ3⟩, by simp [intOf]; omega⟩
          · have HT3 : Hid (PZ (fun j _ => inL (L.take (k + 1)) j) T Td) := Lib.hid (HTk.out.eq fun j y hj => by
              have hji : j < i := by rw [← HN.out]; exact (List.getElem?_eq_some_iff.1 hj).1
              have hne : (j : Int) ≠ x := by omega
              rw [HTS.out]
              simp [inL, hne])
            by_cases hx0 : 0 ≤ x
            · have hxi : ¬ x < (i : Int) := by omega
              go_wp2_with fail
              exact ⟨⟨k + 1, Td, by omega, by go_num, HOk, HT3, HBk, HPk, HQk⟩, by simp [intOf]; omega⟩
            · go_wp2_with fail
              exact ⟨⟨k + 1, Td, by omega, by go_num, HOk, HT3, HBk, HPk, HQk⟩, by simp [intOf]; omega⟩
        · obtain rfl : k = m := by omega
          have HTE : Hid (PZ (fun j _ => inL L j) T Td) := Lib.hid (by have := HTk.out; rwa [List.take_of_length_le (by rw [HM.out]; exact Nat.le_refl _)] at this)
          clear HTk
          go_upto_region 13 with fail
          refine wp_region_lit ?_
          refine wpList_load (by rfl) (.tmp 2) rfl rfl (loadAt_blk [.slice b0 n0 e0, .slice b1 i e1, .slice b2 n2 e2, .slice b3 n3 e3, .slice b4 n4 e4, .slice b5 n5 e5, .slice b6 n6 e6, .slice b7 n7 e7, .slice b8 n8 e8, .slice b9 n9 e9, .slice b10 n10 e10, .slice b11 n11 e11, .slice b12 n12 e12, .slice b13 n13 e13, .slice b14 n14 e14, .slice b15 n15 e15, .slice b16 n16 e16] (agg_pol _) (size_pol _) HPk.out) ?_
          simp only [Act.put, List.setIfInBounds_toArray, List.set_cons_succ, List.set_cons_zero]
          refine wpList_store_row (by rfl) _ _ rfl rfl (by rfl) [.slice b0 n0 e0, .slice b1 i e1, .slice b2 n2 e2, .slice b3 n3 e3, .slice b4 n4 e4, .slice b5 n5 e5, .slice b6 n6 e6, .slice b7 n7 e7, .slice b8 n8 e8, .slice b9 n9 e9, .slice b10 n10 e10, .slice b11 n11 e11, .slice b12 n12 e12, .slice b13 n13 e13, .slice b14 n14 e14, .slice b15 n15 e15, .slice b16 n16 e16] (.agg #[.slice b0 n0 e0, .slice b1 i e1, .slice b2 n2 e2, .slice b3 n3 e3, .slice b4 n4 e4, .slice b5 n5 e5, .slice b6 n6 e6, .slice b7 n7 e7, .slice b8 n8 e8, .slice b9 n9 e9, .slice b10 n10 e10, .slice b11 n11 e11, .slice b12 n12 e12, .slice b13 n13 e13, .slice b14 n14 e14, .slice b15 n15 e15, .slice b16 n16 e16]) (by rfl) rfl (size_pol _) HQk.out rfl (one_sl rfl) ?_
          have HQ : Hid (Blk (wr.setRow g4 [.slice b0 n0 e0, .slice b1 i e1, .slice b2 n2 e2, .slice b3 n3 e3, .slice b4 n4 e4, .slice b5 n5 e5, .slice b6 n6 e6, .slice b7 n7 e7, .slice b8 n8 e8, .slice b9 n9 e9, .slice b10 n10 e10, .slice b11 n11 e11, .slice b12 n12 e12, .slice b13 n13 e13, .slice b14 n14 e14, .slice b15 n15 e15, .slice b16 n16 e16].toArray) g4 62 [.slice b0 n0 e0, .slice b1 i e1, .slice b2 n2 e2, .slice b3 n3 e3, .slice b4 n4 e4, .slice b5 n5 e5, .slice b6 n6 e6, .slice b7 n7 e7, .slice b8 n8 e8, .slice b9 n9 e9, .slice b10 n10 e10, .slice b11 n11 e11, .slice b12 n12 e12, .slice b13 n13 e13, .slice b14 n14 e14, .slice b15 n15 e15, .slice b16 n16 e16].toArray) := Lib.hid (HQk.out.row _)
          have HB : Hid (Below g2 w (wr.setRow g4 [.slice b0 n0 e0, .slice b1 i e1, .slice b2 n2 e2, .slice b3 n3 e3, .slice b4 n4 e4, .slice b5 n5 e5, .slice b6 n6 e6, .slice b7 n7 e7, .slice b8 n8 e8, .slice b9 n9 e9, .slice b10 n10 e10, .slice b11 n11 e11, .slice b12 n12 e12, .slice b13 n13 e13, .slice b14 n14 e14, .slice b15 n15 e15, .slice b16 n16 e16].toArray)) := Lib.hid (below_row HBk.out HG.out _)
          have HOE := Lib.hid (HOk.out.row (cs := [.slice b0 n0 e0, .slice b1 i e1, .slice b2 n2 e2, .slice b3 n3 e3, .slice b4 n4 e4, .slice b5 n5 e5, .slice b6 n6 e6, .slice b7 n7 e7, .slice b8 n8 e8, .slice b9 n9 e9, .slice b10 n10 e10, .slice b11 n11 e11, .slice b12 n12 e12, .slice b13 n13 e13, .slice b14 n14 e14, .slice b15 n15 e15, .slice b16 n16 e16].toArray) HLT.out.2)
          generalize wr.setRow g4 [.slice b0 n0 e0, .slice b1 i e1, .slice b2 n2 e2, .slice b3 n3 e3, .slice b4 n4 e4, .slice b5 n5 e5, .slice b6 n6 e6, .slice b7 n7 e7, .slice b8 n8 e8, .slice b9 n9 e9, .slice b10 n10 e10, .slice b11 n11 e11, .slice b12 n12 e12, .slice b13 n13 e13, .slice b14 n14 e14, .slice b15 n15 e15, .slice b16 n16 e16].toArray = w18 at *
          go_wp2_with fail
          refine bodyPost_ret (v := .agg #[.slice b0 n0 e0, .slice b1 i e1, .slice b2 n2 e2, .slice b3 n3 e3, .slice b4 n4 e4, .slice b5 n5 e5, .slice b6 n6 e6, .slice b7 n7 e7, .slice b8 n8 e8, .slice b9 n9 e9, .slice b10 n10 e10, .slice b11 n11 e11, .slice b12 n12 e12, .slice b13 n13 e13, .slice b14 n14 e14, .slice b15 n15 e15, .slice b16 n16 e16]) (blk_ret [.slice b0 n0 e0, .slice b1 i e1, .slice b2 n2 e2, .slice b3 n3 e3, .slice b4 n4 e4, .slice b5 n5 e5, .slice b6 n6 e6, .slice b7 n7 e7, .slice b8 n8 e8, .slice b9 n9 e9, .slice b10 n10 e10, .slice b11 n11 e11, .slice b12 n12 e12, .slice b13 n13 e13, .slice b14 n14 e14, .slice b15 n15 e15, .slice b16 n16 e16] rfl rfl (agg_pol _) (size_pol _) HQ.out) rfl ⟨.slice b0 n0 e0, .slice b1 i e1, .slice b2 n2 e2, .slice b3 n3 e3, .slice b4 n4 e4, .slice b5 n5 e5, .slice b6 n6 e6, .slice b7 n7 e7, .slice b8 n8 e8, .slice b9 n9 e9, .slice b10 n10 e10, .slice b11 n11 e11, .slice b12 n12 e12, .slice b13 n13 e13, .slice b14 n14 e14, .slice b15 n15 e15, .slice b16 n16 e16, rfl, ⟨⟨_, _, rfl⟩, ⟨_, _, rfl⟩, ⟨_, _, rfl⟩, ⟨_, _, rfl⟩, ⟨_, _, rfl⟩, ⟨_, _, rfl⟩, ⟨_, _, rfl⟩, ⟨_, _, rfl⟩, ⟨_, _, rfl⟩, ⟨_, _, rfl⟩, ⟨_, _, rfl⟩, ⟨_, _, rfl⟩, ⟨_, _, rfl⟩, ⟨_, _, rfl⟩, ⟨_, _, rfl⟩, ⟨_, _, rfl⟩⟩, ⟨Td, ?_, HTE.out⟩, ?_⟩
          · exact HOE.out.base (by rw [hgx]; exact Nat.le_of_lt HLT.out.1)
          · rw [hgx]; exact HB.out
end Go.Proofs.Ytbcbhgclgakljaa
