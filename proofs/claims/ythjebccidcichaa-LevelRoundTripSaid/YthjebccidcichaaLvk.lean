/- The reference's range of a range in a source. -/
import Derived.Test.YthjebccidcichaaLvj
import Derived.Deep.RegionHeld3
namespace Go.Proofs.Ythjebccidcichaa
open Go.RowKit
theorem domL_self (s : Int) {c : Nat} (hc : c < U64) : domL s c s c = true := by
  unfold domL
  rw [decide_eq_true (Int.le_refl s), show subL c c = true from (subL_iff hc).2 fun _ _ h => h]
  rfl
theorem rdominates_b (s : Int) (c : Nat) (s' : Int) (c' : Nat) (w : World) (hc : c < U64) (hc' : c' < U64) :
    Calls Try.prog 19 #[.agg #[.int .i64 s, .int .u64 c], .agg #[.int .i64 s', .int .u64 c']] w fun e w' => e = .returned (.bool (domL s c s' c')) ∧ Below w.heap.size w w' :=
  rdominates_c s c s' c' w hc hc'
set_option maxRecDepth 100000 in
set_option maxHeartbeats 8000000 in
theorem rrange_c (cv dv v u : Value) (s s' : ByteArray) (L L' : List Sp) (l m : List ByteArray) (w : World) (hS : Spans w cv L) (hS' : Spans w dv L') (hV : Strs w v l) (hU : Strs w u m) (hF : Few l) (hG : Few m) (hL : L.length ≤ 1000000000000) (hL' : L'.length ≤ 1000000000000) :
    Calls Try.prog 38 #[.agg #[.string s, cv, .string s', dv], v, u] w fun e w' => e = .returned (.tuple #[rgV (rngX l m s L s' L').2, .int .i64 (rngX l m s L s' L').1]) ∧ Below w.heap.size w w' := by
  obtain ⟨ao, cap, rfl, _⟩ := id hV
  obtain ⟨ao2, cap2, rfl, _⟩ := id hU
  obtain ⟨aos, caps, rfl, _⟩ := id hS
  obtain ⟨aot, capt, rfl, _⟩ := id hS'
  have H1 := Lib.hid (fun W (hW : Kp w W) => rlevel_c _ _ _ s L l m W (hS.keep hW) (hV.keep hW) (hU.keep hW) hF hG hL)
  have H2 := Lib.hid (fun W (hW : Kp w W) => rlevel_c _ _ _ s' L' l m W (hS'.keep hW) (hV.keep hW) (hU.keep hW) hF hG hL')
  have c1 := levC_lt (l := l) (m := m) s L
  have c2 := levC_lt (l := l) (m := m) s' L'
  obtain ⟨R, hR⟩ : ∃ R, rngX l m s L s' L' = R := ⟨_, rfl⟩
  rw [hR]
  unfold rngX at hR
  obtain ⟨E1, h⟩ : ∃ E, levE l m s L = E := ⟨_, rfl⟩
  rw [h] at hR H1
  clear h
  obtain ⟨S1, h⟩ : ∃ E, levS l m s L = E := ⟨_, rfl⟩
  rw [h] at hR H1
  clear h
  obtain ⟨C1, h⟩ : ∃ E, levC l m s L = E := ⟨_, rfl⟩
  rw [h] at hR H1 c1
  clear h
  obtain ⟨E2, h⟩ : ∃ E, levE l m s' L' = E := ⟨_, rfl⟩
  rw [h] at hR H2
  clear h
  obtain ⟨S2, h⟩ : ∃ E, levS l m s' L' = E := ⟨_, rfl⟩
  rw [h] at hR H2
  clear h
  obtain ⟨C2, h⟩ : ∃ E, levC l m s' L' = E := ⟨_, rfl⟩
  rw [h] at hR H2 c2
  clear h
  have HD := Lib.hid (fun W => rdominates_b S2 C2 S1 C1 W c2 c1)
  have HDD := Lib.hid (fun W => rdominates_b S1 C1 S1 C1 W c1 c1)
  rw [domL_self _ c1] at HDD
  obtain ⟨D, h⟩ : ∃ E, domL S2 C2 S1 C1 = E := ⟨_, rfl⟩
  rw [h] at hR HD
  clear h c1 c2 hS hS' hV hU hF hG hL hL'
  have he := empty_beq s'
  obtain ⟨hB1, hB2, hW0, hfr⟩ := two_box w 52 26 #[.string s, .slice aos L.length caps, .string s', .slice aot L'.length capt] #[.int .i64 0, .int .u64 0, .int .i64 0, .int .u64 0]
  clear hfr
  by_cases e1 : E1 = 0
  · subst e1
    rw [if_neg (by simp)] at hR
    by_cases hs : s'.size = 0
    · rw [decide_eq_true hs] at he
      by_cases hn0 : L'.length = 0
      · rw [if_pos (show misS s' L'.length = true from decide_eq_true ⟨hs, hn0⟩)] at hR
        subst hR
        obtain rfl : L' = [] := List.eq_nil_of_length_eq_zero hn0
        clear hs hn0 H2 HD
        go_enter Try.func38, Try.ntmps38
        obtain ⟨y0, y1, y2, y3⟩ := hB1.box4
        go_wp2_with fail
        refine (H1.out _ hW0).mono ?_
        rintro e w2 ⟨rfl, hb2⟩
        have hC := Kp.step (W := w) hW0 hb2
        have q1 := hB1.keep hb2
        have q2 := hB2.keep hb2
        clear hb2 y0 y1 y2 y3
        obtain ⟨p3, p4, pW, _⟩ := two_box w2 24 24 #[.int .i64 S1, .int .u64 C1] #[.int .i64 S1, .int .u64 C1]
        have p1 := (q1.alloc (.cells #[.int .i64 S1, .int .u64 C1] 24)).alloc (.cells #[.int .i64 S1, .int .u64 C1] 24)
        have p2 := (q2.alloc (.cells #[.int .i64 S1, .int .u64 C1] 24)).alloc (.cells #[.int .i64 S1, .int .u64 C1] 24)
        have hCC := (hC.alloc (.cells #[.int .i64 S1, .int .u64 C1] 24)).alloc (.cells #[.int .i64 S1, .int .u64 C1] 24)
        have hn : w.heap.size + 1 < w2.heap.size := q2.lt
        obtain ⟨b0, b1, b2, b3⟩ := p1.box4
        obtain ⟨d0, d1, d2, d3⟩ := p3.cells2
        obtain ⟨f0, f1, f2, f3⟩ := p4.cells2
        clear q1 q2 hC pW
        go_wp2_with fail
        refine (HDD.out _).mono ?_
        rintro e w4 ⟨rfl, hb4⟩
        have hC4 := Kp.step hCC hb4
        have t2 := p2.keep hb4
        have t3 := p3.keep hb4
        have t4 := p4.keep hb4
        clear b0 b1 b2 b3 d0 d1 d2 d3 f0 f1 f2 f3 p1 p2 p3 p4 hCC hb4
        generalize w2.heap.size = g8 at *
        obtain ⟨d0, d1, d2, d3⟩ := t3.cells2
        obtain ⟨f0, f1, f2, f3⟩ := t4.cells2
        obtain ⟨z0, z1, z2, z3, z4, z5, z6, z7⟩ := t2.cells4
        go_wp2_with fail
        obtain ⟨r0, r1, r2, r3⟩ := (t2.set4 (.int .i64 S1) (.int .u64 C1) (.int .i64 S1) (.int .u64 C1)).box4
        exact bodyPost_ret (v := .tuple #[.agg #[.int .i64 S1, .int .u64 C1, .int .i64 S1, .int .u64 C1], .int .i64 0]) (by simp [results, Try.results38, go_sem, r0, r1, r2, r3]) rfl ⟨rfl, below_set4 hC4 (Nat.le_succ _) _ _ _ _⟩
      · rw [if_neg (by unfold misS; rw [decide_eq_false fun h => hn0 h.2]; decide)] at hR
        have hnp : (0 : Int) < (L'.length : Int) := by omega
        clear hs hn0
        by_cases e2 : E2 = 0
        · subst e2
          rw [if_neg (by simp)] at hR
          cases D
          · rw [if_pos rfl] at hR
            subst hR
            go_enter Try.func38, Try.ntmps38
            obtain ⟨y0, y1, y2, y3⟩ := hB1.box4
            go_wp2_with fail
            refine (H1.out _ hW0).mono ?_
            rintro e w2 ⟨rfl, hb2⟩
            have hC := Kp.step (W := w) hW0 hb2
            have q1 := hB1.keep hb2
            have q2 := hB2.keep hb2
            clear hb2 y0 y1 y2 y3
            obtain ⟨p3, p4, pW, _⟩ := two_box w2 24 24 #[.int .i64 S1, .int .u64 C1] #[.int .i64 S1, .int .u64 C1]
            have p1 := (q1.alloc (.cells #[.int .i64 S1, .int .u64 C1] 24)).alloc (.cells #[.int .i64 S1, .int .u64 C1] 24)
            have p2 := (q2.alloc (.cells #[.int .i64 S1, .int .u64 C1] 24)).alloc (.cells #[.int .i64 S1, .int .u64 C1] 24)
            have hCC := (hC.alloc (.cells #[.int .i64 S1, .int .u64 C1] 24)).alloc (.cells #[.int .i64 S1, .int .u64 C1] 24)
            have hn : w.heap.size + 1 < w2.heap.size := q2.lt
            obtain ⟨b0, b1, b2, b3⟩ := p1.box4
            obtain ⟨d0, d1, d2, d3⟩ := p3.cells2
            obtain ⟨f0, f1, f2, f3⟩ := p4.cells2
            clear q1 q2 hC pW
            go_wp2_with fail
            refine (H2.out _ hCC).mono ?_
            rintro e w5 ⟨rfl, hb5⟩
            have hC5 := Kp.step hCC hb5
            have u2 := p2.keep hb5
            have u3 := p3.keep hb5
            have u4 := p4.keep hb5
            clear b0 b1 b2 b3 d0 d1 d2 d3 f0 f1 f2 f3 p1 p2 p3 p4 hCC hb5
            generalize w2.heap.size = g8 at *
            obtain ⟨f0, f1, f2, f3⟩ := u4.cells2
            have U2 := u2.far2 (g' := g8 + 1) (by omega) (.int .i64 S2) (.int .u64 C2)
            have U3 := u3.far2 (g' := g8 + 1) (by omega) (.int .i64 S2) (.int .u64 C2)
            have U4 := u4.set2 (.int .i64 S2) (.int .u64 C2)
            have hCU : Kp w _ := below_set2 hC5 (g := g8 + 1) (by omega) (.int .i64 S2) (.int .u64 C2)
            clear u2 u3 u4
            obtain ⟨x0, x1, x2, x3⟩ := U3.cells2
            obtain ⟨v0, v1, v2, v3⟩ := U4.cells2
            go_wp2_with fail
            refine (HD.out _).mono ?_
            rintro e w6 ⟨rfl, hb6⟩
            have hC6 := Kp.step hCU hb6
            have V2 := U2.keep hb6
            have V3 := U3.keep hb6
            have V4 := U4.keep hb6
            clear x0 x1 x2 x3 v0 v1 v2 v3 f0 f1 f2 f3 U2 U3 U4 hCU hb6 hC5
            obtain ⟨z0, z1, z2, z3, z4, z5, z6, z7⟩ := V2.cells4
            obtain ⟨d0, d1, d2, d3⟩ := V3.cells2
            obtain ⟨f0, f1, f2, f3⟩ := V4.cells2
            go_wp2_with fail
            obtain ⟨r0, r1, r2, r3⟩ := (V2.set4 (.int .i64 0) (.int .u64 0) (.int .i64 0) (.int .u64 0)).box4
            exact bodyPost_ret (v := .tuple #[.agg #[.int .i64 0, .int .u64 0, .int .i64 0, .int .u64 0], .int .i64 18]) (by simp [results, Try.results38, go_sem, r0, r1, r2, r3]) rfl ⟨rfl, below_set4 hC6 (Nat.le_succ _) _ _ _ _⟩
          · rw [if_neg (by decide)] at hR
            subst hR
            go_enter Try.func38, Try.ntmps38
            obtain ⟨y0, y1, y2, y3⟩ := hB1.box4
            go_wp2_with fail
            refine (H1.out _ hW0).mono ?_
            rintro e w2 ⟨rfl, hb2⟩
            have hC := Kp.step (W := w) hW0 hb2
            have q1 := hB1.keep hb2
            have q2 := hB2.keep hb2
            clear hb2 y0 y1 y2 y3
            obtain ⟨p3, p4, pW, _⟩ := two_box w2 24 24 #[.int .i64 S1, .int .u64 C1] #[.int .i64 S1, .int .u64 C1]
            have p1 := (q1.alloc (.cells #[.int .i64 S1, .int .u64 C1] 24)).alloc (.cells #[.int .i64 S1, .int .u64 C1] 24)
            have p2 := (q2.alloc (.cells #[.int .i64 S1, .int .u64 C1] 24)).alloc (.cells #[.int .i64 S1, .int .u64 C1] 24)
            have hCC := (hC.alloc (.cells #[.int .i64 S1, .int .u64 C1] 24)).alloc (.cells #[.int .i64 S1, .int .u64 C1] 24)
            have hn : w.heap.size + 1 < w2.heap.size := q2.lt
            obtain ⟨b0, b1, b2, b3⟩ := p1.box4
            obtain ⟨d0, d1, d2, d3⟩ := p3.cells2
            obtain ⟨f0, f1, f2, f3⟩ := p4.cells2
            clear q1 q2 hC pW
            go_wp2_with fail
            refine (H2.out _ hCC).mono ?_
            rintro e w5 ⟨rfl, hb5⟩
            have hC5 := Kp.step hCC hb5
            have u2 := p2.keep hb5
            have u3 := p3.keep hb5
            have u4 := p4.keep hb5
            clear b0 b1 b2 b3 d0 d1 d2 d3 f0 f1 f2 f3 p1 p2 p3 p4 hCC hb5
            generalize w2.heap.size = g8 at *
            obtain ⟨f0, f1, f2, f3⟩ := u4.cells2
            have U2 := u2.far2 (g' := g8 + 1) (by omega) (.int .i64 S2) (.int .u64 C2)
            have U3 := u3.far2 (g' := g8 + 1) (by omega) (.int .i64 S2) (.int .u64 C2)
            have U4 := u4.set2 (.int .i64 S2) (.int .u64 C2)
            have hCU : Kp w _ := below_set2 hC5 (g := g8 + 1) (by omega) (.int .i64 S2) (.int .u64 C2)
            clear u2 u3 u4
            obtain ⟨x0, x1, x2, x3⟩ := U3.cells2
            obtain ⟨v0, v1, v2, v3⟩ := U4.cells2
            go_wp2_with fail
            refine (HD.out _).mono ?_
            rintro e w6 ⟨rfl, hb6⟩
            have hC6 := Kp.step hCU hb6
            have V2 := U2.keep hb6
            have V3 := U3.keep hb6
            have V4 := U4.keep hb6
            clear x0 x1 x2 x3 v0 v1 v2 v3 f0 f1 f2 f3 U2 U3 U4 hCU hb6 hC5
            obtain ⟨z0, z1, z2, z3, z4, z5, z6, z7⟩ := V2.cells4
            obtain ⟨d0, d1, d2, d3⟩ := V3.cells2
            obtain ⟨f0, f1, f2, f3⟩ := V4.cells2
            go_wp2_with fail
            obtain ⟨r0, r1, r2, r3⟩ := (V2.set4 (.int .i64 S1) (.int .u64 C1) (.int .i64 S2) (.int .u64 C2)).box4
            exact bodyPost_ret (v := .tuple #[.agg #[.int .i64 S1, .int .u64 C1, .int .i64 S2, .int .u64 C2], .int .i64 0]) (by simp [results, Try.results38, go_sem, r0, r1, r2, r3]) rfl ⟨rfl, below_set4 hC6 (Nat.le_succ _) _ _ _ _⟩
        · rw [if_pos e2] at hR
          subst hR
          have e2b : (E2 == 0) = false := by simpa using e2
          go_enter Try.func38, Try.ntmps38
          obtain ⟨y0, y1, y2, y3⟩ := hB1.box4
          go_wp2_with fail
          refine (H1.out _ hW0).mono ?_
          rintro e w2 ⟨rfl, hb2⟩
          have hC := Kp.step (W := w) hW0 hb2
          have q1 := hB1.keep hb2
          have q2 := hB2.keep hb2
          clear hb2 y0 y1 y2 y3
          obtain ⟨p3, p4, pW, _⟩ := two_box w2 24 24 #[.int .i64 S1, .int .u64 C1] #[.int .i64 S1, .int .u64 C1]
          have p1 := (q1.alloc (.cells #[.int .i64 S1, .int .u64 C1] 24)).alloc (.cells #[.int .i64 S1, .int .u64 C1] 24)
          have p2 := (q2.alloc (.cells #[.int .i64 S1, .int .u64 C1] 24)).alloc (.cells #[.int .i64 S1, .int .u64 C1] 24)
          have hCC := (hC.alloc (.cells #[.int .i64 S1, .int .u64 C1] 24)).alloc (.cells #[.int .i64 S1, .int .u64 C1] 24)
          have hn : w.heap.size + 1 < w2.heap.size := q2.lt
          obtain ⟨b0, b1, b2, b3⟩ := p1.box4
          obtain ⟨d0, d1, d2, d3⟩ := p3.cells2
          obtain ⟨f0, f1, f2, f3⟩ := p4.cells2
          clear q1 q2 hC pW
          go_wp2_with fail
          refine (H2.out _ hCC).mono ?_
          rintro e w5 ⟨rfl, hb5⟩
          have hC5 := Kp.step hCC hb5
          have u2 := p2.keep hb5
          have u3 := p3.keep hb5
          have u4 := p4.keep hb5
          clear b0 b1 b2 b3 d0 d1 d2 d3 f0 f1 f2 f3 p1 p2 p3 p4 hCC hb5
          generalize w2.heap.size = g8 at *
          obtain ⟨f0, f1, f2, f3⟩ := u4.cells2
          have U2 := u2.far2 (g' := g8 + 1) (by omega) (.int .i64 S2) (.int .u64 C2)
          have U3 := u3.far2 (g' := g8 + 1) (by omega) (.int .i64 S2) (.int .u64 C2)
          have U4 := u4.set2 (.int .i64 S2) (.int .u64 C2)
          have hCU : Kp w _ := below_set2 hC5 (g := g8 + 1) (by omega) (.int .i64 S2) (.int .u64 C2)
          clear u2 u3 u4
          obtain ⟨z0, z1, z2, z3, z4, z5, z6, z7⟩ := U2.cells4
          go_wp2_with fail
          obtain ⟨r0, r1, r2, r3⟩ := (U2.set4 (.int .i64 0) (.int .u64 0) (.int .i64 0) (.int .u64 0)).box4
          exact bodyPost_ret (v := .tuple #[.agg #[.int .i64 0, .int .u64 0, .int .i64 0, .int .u64 0], .int .i64 E2]) (by simp [results, Try.results38, go_sem, r0, r1, r2, r3]) rfl ⟨rfl, below_set4 hCU (Nat.le_succ _) _ _ _ _⟩
    · rw [decide_eq_false hs] at he
      rw [if_neg (by unfold misS; rw [decide_eq_false fun h => hs h.1]; decide)] at hR
      clear hs
      by_cases e2 : E2 = 0
      · subst e2
        rw [if_neg (by simp)] at hR
        cases D
        · rw [if_pos rfl] at hR
          subst hR
          go_enter Try.func38, Try.ntmps38
          obtain ⟨y0, y1, y2, y3⟩ := hB1.box4
          go_wp2_with fail
          refine (H1.out _ hW0).mono ?_
          rintro e w2 ⟨rfl, hb2⟩
          have hC := Kp.step (W := w) hW0 hb2
          have q1 := hB1.keep hb2
          have q2 := hB2.keep hb2
          clear hb2 y0 y1 y2 y3
          obtain ⟨p3, p4, pW, _⟩ := two_box w2 24 24 #[.int .i64 S1, .int .u64 C1] #[.int .i64 S1, .int .u64 C1]
          have p1 := (q1.alloc (.cells #[.int .i64 S1, .int .u64 C1] 24)).alloc (.cells #[.int .i64 S1, .int .u64 C1] 24)
          have p2 := (q2.alloc (.cells #[.int .i64 S1, .int .u64 C1] 24)).alloc (.cells #[.int .i64 S1, .int .u64 C1] 24)
          have hCC := (hC.alloc (.cells #[.int .i64 S1, .int .u64 C1] 24)).alloc (.cells #[.int .i64 S1, .int .u64 C1] 24)
          have hn : w.heap.size + 1 < w2.heap.size := q2.lt
          obtain ⟨b0, b1, b2, b3⟩ := p1.box4
          obtain ⟨d0, d1, d2, d3⟩ := p3.cells2
          obtain ⟨f0, f1, f2, f3⟩ := p4.cells2
          clear q1 q2 hC pW
          go_wp2_with fail
          refine (H2.out _ hCC).mono ?_
          rintro e w5 ⟨rfl, hb5⟩
          have hC5 := Kp.step hCC hb5
          have u2 := p2.keep hb5
          have u3 := p3.keep hb5
          have u4 := p4.keep hb5
          clear b0 b1 b2 b3 d0 d1 d2 d3 f0 f1 f2 f3 p1 p2 p3 p4 hCC hb5
          generalize w2.heap.size = g8 at *
          obtain ⟨f0, f1, f2, f3⟩ := u4.cells2
          have U2 := u2.far2 (g' := g8 + 1) (by omega) (.int .i64 S2) (.int .u64 C2)
          have U3 := u3.far2 (g' := g8 + 1) (by omega) (.int .i64 S2) (.int .u64 C2)
          have U4 := u4.set2 (.int .i64 S2) (.int .u64 C2)
          have hCU : Kp w _ := below_set2 hC5 (g := g8 + 1) (by omega) (.int .i64 S2) (.int .u64 C2)
          clear u2 u3 u4
          obtain ⟨x0, x1, x2, x3⟩ := U3.cells2
          obtain ⟨v0, v1, v2, v3⟩ := U4.cells2
          go_wp2_with fail
          refine (HD.out _).mono ?_
          rintro e w6 ⟨rfl, hb6⟩
          have hC6 := Kp.step hCU hb6
          have V2 := U2.keep hb6
          have V3 := U3.keep hb6
          have V4 := U4.keep hb6
          clear x0 x1 x2 x3 v0 v1 v2 v3 f0 f1 f2 f3 U2 U3 U4 hCU hb6 hC5
          obtain ⟨z0, z1, z2, z3, z4, z5, z6, z7⟩ := V2.cells4
          obtain ⟨d0, d1, d2, d3⟩ := V3.cells2
          obtain ⟨f0, f1, f2, f3⟩ := V4.cells2
          go_wp2_with fail
          obtain ⟨r0, r1, r2, r3⟩ := (V2.set4 (.int .i64 0) (.int .u64 0) (.int .i64 0) (.int .u64 0)).box4
          exact bodyPost_ret (v := .tuple #[.agg #[.int .i64 0, .int .u64 0, .int .i64 0, .int .u64 0], .int .i64 18]) (by simp [results, Try.results38, go_sem, r0, r1, r2, r3]) rfl ⟨rfl, below_set4 hC6 (Nat.le_succ _) _ _ _ _⟩
        · rw [if_neg (by decide)] at hR
          subst hR
          go_enter Try.func38, Try.ntmps38
          obtain ⟨y0, y1, y2, y3⟩ := hB1.box4
          go_wp2_with fail
          refine (H1.out _ hW0).mono ?_
          rintro e w2 ⟨rfl, hb2⟩
          have hC := Kp.step (W := w) hW0 hb2
          have q1 := hB1.keep hb2
          have q2 := hB2.keep hb2
          clear hb2 y0 y1 y2 y3
          obtain ⟨p3, p4, pW, _⟩ := two_box w2 24 24 #[.int .i64 S1, .int .u64 C1] #[.int .i64 S1, .int .u64 C1]
          have p1 := (q1.alloc (.cells #[.int .i64 S1, .int .u64 C1] 24)).alloc (.cells #[.int .i64 S1, .int .u64 C1] 24)
          have p2 := (q2.alloc (.cells #[.int .i64 S1, .int .u64 C1] 24)).alloc (.cells #[.int .i64 S1, .int .u64 C1] 24)
          have hCC := (hC.alloc (.cells #[.int .i64 S1, .int .u64 C1] 24)).alloc (.cells #[.int .i64 S1, .int .u64 C1] 24)
          have hn : w.heap.size + 1 < w2.heap.size := q2.lt
          obtain ⟨b0, b1, b2, b3⟩ := p1.box4
          obtain ⟨d0, d1, d2, d3⟩ := p3.cells2
          obtain ⟨f0, f1, f2, f3⟩ := p4.cells2
          clear q1 q2 hC pW
          go_wp2_with fail
          refine (H2.out _ hCC).mono ?_
          rintro e w5 ⟨rfl, hb5⟩
          have hC5 := Kp.step hCC hb5
          have u2 := p2.keep hb5
          have u3 := p3.keep hb5
          have u4 := p4.keep hb5
          clear b0 b1 b2 b3 d0 d1 d2 d3 f0 f1 f2 f3 p1 p2 p3 p4 hCC hb5
          generalize w2.heap.size = g8 at *
          obtain ⟨f0, f1, f2, f3⟩ := u4.cells2
          have U2 := u2.far2 (g' := g8 + 1) (by omega) (.int .i64 S2) (.int .u64 C2)
          have U3 := u3.far2 (g' := g8 + 1) (by omega) (.int .i64 S2) (.int .u64 C2)
          have U4 := u4.set2 (.int .i64 S2) (.int .u64 C2)
          have hCU : Kp w _ := below_set2 hC5 (g := g8 + 1) (by omega) (.int .i64 S2) (.int .u64 C2)
          clear u2 u3 u4
          obtain ⟨x0, x1, x2, x3⟩ := U3.cells2
          obtain ⟨v0, v1, v2, v3⟩ := U4.cells2
          go_wp2_with fail
          refine (HD.out _).mono ?_
          rintro e w6 ⟨rfl, hb6⟩
          have hC6 := Kp.step hCU hb6
          have V2 := U2.keep hb6
          have V3 := U3.keep hb6
          have V4 := U4.keep hb6
          clear x0 x1 x2 x3 v0 v1 v2 v3 f0 f1 f2 f3 U2 U3 U4 hCU hb6 hC5
          obtain ⟨z0, z1, z2, z3, z4, z5, z6, z7⟩ := V2.cells4
          obtain ⟨d0, d1, d2, d3⟩ := V3.cells2
          obtain ⟨f0, f1, f2, f3⟩ := V4.cells2
          go_wp2_with fail
          obtain ⟨r0, r1, r2, r3⟩ := (V2.set4 (.int .i64 S1) (.int .u64 C1) (.int .i64 S2) (.int .u64 C2)).box4
          exact bodyPost_ret (v := .tuple #[.agg #[.int .i64 S1, .int .u64 C1, .int .i64 S2, .int .u64 C2], .int .i64 0]) (by simp [results, Try.results38, go_sem, r0, r1, r2, r3]) rfl ⟨rfl, below_set4 hC6 (Nat.le_succ _) _ _ _ _⟩
      · rw [if_pos e2] at hR
        subst hR
        have e2b : (E2 == 0) = false := by simpa using e2
        go_enter Try.func38, Try.ntmps38
        obtain ⟨y0, y1, y2, y3⟩ := hB1.box4
        go_wp2_with fail
        refine (H1.out _ hW0).mono ?_
        rintro e w2 ⟨rfl, hb2⟩
        have hC := Kp.step (W := w) hW0 hb2
        have q1 := hB1.keep hb2
        have q2 := hB2.keep hb2
        clear hb2 y0 y1 y2 y3
        obtain ⟨p3, p4, pW, _⟩ := two_box w2 24 24 #[.int .i64 S1, .int .u64 C1] #[.int .i64 S1, .int .u64 C1]
        have p1 := (q1.alloc (.cells #[.int .i64 S1, .int .u64 C1] 24)).alloc (.cells #[.int .i64 S1, .int .u64 C1] 24)
        have p2 := (q2.alloc (.cells #[.int .i64 S1, .int .u64 C1] 24)).alloc (.cells #[.int .i64 S1, .int .u64 C1] 24)
        have hCC := (hC.alloc (.cells #[.int .i64 S1, .int .u64 C1] 24)).alloc (.cells #[.int .i64 S1, .int .u64 C1] 24)
        have hn : w.heap.size + 1 < w2.heap.size := q2.lt
        obtain ⟨b0, b1, b2, b3⟩ := p1.box4
        obtain ⟨d0, d1, d2, d3⟩ := p3.cells2
        obtain ⟨f0, f1, f2, f3⟩ := p4.cells2
        clear q1 q2 hC pW
        go_wp2_with fail
        refine (H2.out _ hCC).mono ?_
        rintro e w5 ⟨rfl, hb5⟩
        have hC5 := Kp.step hCC hb5
        have u2 := p2.keep hb5
        have u3 := p3.keep hb5
        have u4 := p4.keep hb5
        clear b0 b1 b2 b3 d0 d1 d2 d3 f0 f1 f2 f3 p1 p2 p3 p4 hCC hb5
        generalize w2.heap.size = g8 at *
        obtain ⟨f0, f1, f2, f3⟩ := u4.cells2
        have U2 := u2.far2 (g' := g8 + 1) (by omega) (.int .i64 S2) (.int .u64 C2)
        have U3 := u3.far2 (g' := g8 + 1) (by omega) (.int .i64 S2) (.int .u64 C2)
        have U4 := u4.set2 (.int .i64 S2) (.int .u64 C2)
        have hCU : Kp w _ := below_set2 hC5 (g := g8 + 1) (by omega) (.int .i64 S2) (.int .u64 C2)
        clear u2 u3 u4
        obtain ⟨z0, z1, z2, z3, z4, z5, z6, z7⟩ := U2.cells4
        go_wp2_with fail
        obtain ⟨r0, r1, r2, r3⟩ := (U2.set4 (.int .i64 0) (.int .u64 0) (.int .i64 0) (.int .u64 0)).box4
        exact bodyPost_ret (v := .tuple #[.agg #[.int .i64 0, .int .u64 0, .int .i64 0, .int .u64 0], .int .i64 E2]) (by simp [results, Try.results38, go_sem, r0, r1, r2, r3]) rfl ⟨rfl, below_set4 hCU (Nat.le_succ _) _ _ _ _⟩
  · rw [if_pos e1] at hR
    subst hR
    have e1b : (E1 == 0) = false := by simpa using e1
    go_enter Try.func38, Try.ntmps38
    obtain ⟨y0, y1, y2, y3⟩ := hB1.box4
    go_wp2_with fail
    refine (H1.out _ hW0).mono ?_
    rintro e w2 ⟨rfl, hb2⟩
    have hC := Kp.step (W := w) hW0 hb2
    have q1 := hB1.keep hb2
    have q2 := hB2.keep hb2
    clear hb2 y0 y1 y2 y3
    obtain ⟨z0, z1, z2, z3, z4, z5, z6, z7⟩ := q2.aft4
    go_wp2_with fail
    obtain ⟨r0, r1, r2, r3⟩ := ((q2.alloc (.cells #[.int .i64 S1, .int .u64 C1] 24)).set4 (.int .i64 0) (.int .u64 0) (.int .i64 0) (.int .u64 0)).box4
    exact bodyPost_ret (v := .tuple #[.agg #[.int .i64 0, .int .u64 0, .int .i64 0, .int .u64 0], .int .i64 E1]) (by simp [results, Try.results38, go_sem, r0, r1, r2, r3]) rfl ⟨rfl, below_set4 (hC.alloc _) (Nat.le_succ _) _ _ _ _⟩
end Go.Proofs.Ythjebccidcichaa
