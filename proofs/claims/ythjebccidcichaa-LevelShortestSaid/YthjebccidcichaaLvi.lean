/- The range of a range in a source. -/
import Derived.Test.YthjebccidcichaaLvh
import Derived.Deep.RegionHeld3
namespace Go.Proofs.Ythjebccidcichaa
open Go.RowKit
section
variable {w : World} {g : Nat} {t : TypeId} {a b c d : Value}
theorem Blk.aft4 (h : Blk w g t #[a, b, c, d]) : (∀ o, (w.alloc o).cell? ⟨g, 0, none⟩ = some a) ∧ (∀ o, (w.alloc o).cell? ⟨g, 1, none⟩ = some b) ∧ (∀ o, (w.alloc o).cell? ⟨g, 2, none⟩ = some c) ∧ (∀ o, (w.alloc o).cell? ⟨g, 3, none⟩ = some d) ∧
    (∀ o, (w.alloc o).frozen? ⟨g, 0, none⟩ = false) ∧ (∀ o, (w.alloc o).frozen? ⟨g, 1, none⟩ = false) ∧ (∀ o, (w.alloc o).frozen? ⟨g, 2, none⟩ = false) ∧ (∀ o, (w.alloc o).frozen? ⟨g, 3, none⟩ = false) :=
  ⟨fun o => (h.alloc o).cell 0, fun o => (h.alloc o).cell 1, fun o => (h.alloc o).cell 2, fun o => (h.alloc o).cell 3, fun o => (h.alloc o).frozen 0, fun o => (h.alloc o).frozen 1, fun o => (h.alloc o).frozen 2, fun o => (h.alloc o).frozen 3⟩
theorem Blk.aft2 (h : Blk w g t #[a, b]) : (∀ o, (w.alloc o).cell? ⟨g, 0, none⟩ = some a) ∧ (∀ o, (w.alloc o).cell? ⟨g, 1, none⟩ = some b) :=
  ⟨fun o => (h.alloc o).cell 0, fun o => (h.alloc o).cell 1⟩
end
def misS (sn : ByteArray) (n : Nat) : Bool := decide (sn.size = 0 ∧ n = 0)
set_option maxRecDepth 100000 in
set_option maxHeartbeats 4000000 in
theorem missing_c (ao : Option Addr) (n cap : Nat) (sn : ByteArray) (w : World) :
    Calls Try.prog 43 #[.agg #[.string sn, .slice ao n cap]] w fun e w' => e = .returned (.bool (misS sn n)) ∧ Below w.heap.size w w' := by
  have he := empty_beq sn
  have hW : Below w.heap.size w (w.alloc (.cells #[.string sn, .slice ao n cap] 50)) := (Below.refl _ _).alloc (Nat.le_refl _) _
  have hz := nat_zero n
  by_cases h1 : sn.size = 0
  · rw [decide_eq_true h1] at he
    by_cases h2 : n = 0
    · subst h2
      rw [show misS sn 0 = true from decide_eq_true ⟨h1, rfl⟩]
      clear hz h1
      go_enter Try.func43, Try.ntmps43
      go_wp2_with fail
      go_ret
      exact ⟨rfl, hW⟩
    · rw [decide_eq_false h2] at hz
      rw [show misS sn n = false from decide_eq_false fun h => h2 h.2]
      clear h1
      go_enter Try.func43, Try.ntmps43
      go_wp2_with fail
      go_ret
      exact ⟨rfl, hW⟩
  · rw [decide_eq_false h1] at he
    rw [show misS sn n = false from decide_eq_false fun h => h1 h.1]
    clear h1 hz
    go_enter Try.func43, Try.ntmps43
    go_wp2_with fail
    go_ret
    exact ⟨rfl, hW⟩
theorem levC_lt {l m : List ByteArray} (sn : ByteArray) (L : List Sp) : levC l m sn L < U64 := by
  unfold levC
  split
  · rename_i h
    have hp : proper l m = true := by
      cases h' : proper l m
      · unfold levE at h; rw [if_pos h'] at h; cases h
      · rfl
    have := spsB_lt (L := L) (proper_len hp).2 L.length
    rwa [List.take_length] at this
  · decide
def zR : Rg := ⟨⟨0, 0⟩, ⟨0, 0⟩⟩
def rngX (l m : List ByteArray) (s : ByteArray) (L : List Sp) (s' : ByteArray) (L' : List Sp) : Int × Rg :=
  if levE l m s L ≠ 0 then (levE l m s L, zR)
  else if misS s' L'.length = true then (0, ⟨⟨levS l m s L, levC l m s L⟩, ⟨levS l m s L, levC l m s L⟩⟩)
  else if levE l m s' L' ≠ 0 then (levE l m s' L', zR)
  else if domL (levS l m s' L') (levC l m s' L') (levS l m s L) (levC l m s L) = false then (18, zR)
  else (0, ⟨⟨levS l m s L, levC l m s L⟩, ⟨levS l m s' L', levC l m s' L'⟩⟩)
set_option maxRecDepth 100000 in
set_option maxHeartbeats 8000000 in
theorem range_c (cv dv v u : Value) (s s' : ByteArray) (L L' : List Sp) (l m : List ByteArray) (w : World) (hS : Spans w cv L) (hS' : Spans w dv L') (hV : Strs w v l) (hU : Strs w u m) (hF : Few l) (hG : Few m) (hL : L.length ≤ 1000000000000) (hL' : L'.length ≤ 1000000000000) :
    Calls Try.prog 37 #[.agg #[.string s, cv, .string s', dv], v, u] w fun e w' => e = .returned (.tuple #[rgV (rngX l m s L s' L').2, .int .i64 (rngX l m s L s' L').1]) ∧ Below w.heap.size w w' := by
  obtain ⟨ao, cap, rfl, _⟩ := id hV
  obtain ⟨ao2, cap2, rfl, _⟩ := id hU
  obtain ⟨aos, caps, rfl, _⟩ := id hS
  obtain ⟨aot, capt, rfl, _⟩ := id hS'
  have H1 := Lib.hid (fun W (hW : Kp w W) => level_c _ _ _ s L l m W (hS.keep hW) (hV.keep hW) (hU.keep hW) hF hG hL)
  have H2 := Lib.hid (fun W (hW : Kp w W) => level_c _ _ _ s' L' l m W (hS'.keep hW) (hV.keep hW) (hU.keep hW) hF hG hL')
  have HM := Lib.hid (fun W => missing_c aot L'.length capt s' W)
  have c1 := levC_lt (l := l) (m := m) s L
  have c2 := levC_lt (l := l) (m := m) s' L'
  obtain ⟨R, hR⟩ : ∃ R, rngX l m s L s' L' = R := ⟨_, rfl⟩
  rw [hR]
  unfold rngX at hR
  obtain ⟨E1, h⟩ : ∃ E, levE l m s L = E := ⟨_, rfl⟩
  rw [h] at hR H1
  clear h
  obtain ⟨S1, h⟩ : ∃ E, levS l m s L = E := ⟨_, rfl⟩
  rw [h] at hR H1
  clear h
  obtain ⟨C1, h⟩ : ∃ E, levC l m s L = E := ⟨_, rfl⟩
  rw [h] at hR H1 c1
  clear h
  obtain ⟨E2, h⟩ : ∃ E, levE l m s' L' = E := ⟨_, rfl⟩
  rw [h] at hR H2
  clear h
  obtain ⟨S2, h⟩ : ∃ E, levS l m s' L' = E := ⟨_, rfl⟩
  rw [h] at hR H2
  clear h
  obtain ⟨C2, h⟩ : ∃ E, levC l m s' L' = E := ⟨_, rfl⟩
  rw [h] at hR H2 c2
  clear h
  obtain ⟨M, h⟩ : ∃ E, misS s' L'.length = E := ⟨_, rfl⟩
  rw [h] at hR HM
  clear h
  have HD := Lib.hid (fun W => dominates_c S2 C2 S1 C1 W c2 c1)
  obtain ⟨D, h⟩ : ∃ E, domL S2 C2 S1 C1 = E := ⟨_, rfl⟩
  rw [h] at hR HD
  clear h c1 c2 hS hS' hV hU hF hG hL hL'
  obtain ⟨hB1, hB2, hW0, hfr⟩ := two_box w 52 26 #[.string s, .slice aos L.length caps, .string s', .slice aot L'.length capt] #[.int .i64 0, .int .u64 0, .int .i64 0, .int .u64 0]
  clear hfr
  by_cases e1 : E1 = 0
  · subst e1
    rw [if_neg (by simp)] at hR
    cases M
    · rw [if_neg (by decide)] at hR
      by_cases e2 : E2 = 0
      · subst e2
        rw [if_neg (by simp)] at hR
        cases D
        · rw [if_pos rfl] at hR
          subst hR
          go_enter Try.func37, Try.ntmps37
          obtain ⟨y0, y1, y2, y3⟩ := hB1.box4
          go_wp2_with fail
          refine (H1.out _ hW0).mono ?_
          rintro e w2 ⟨rfl, hb2⟩
          have hC := Kp.step (W := w) hW0 hb2
          have q1 := hB1.keep hb2
          have q2 := hB2.keep hb2
          clear hb2 y0 y1 y2 y3
          obtain ⟨x0, x1, x2, x3, x4, x5, x6, x7⟩ := q1.aft4
          go_wp2_with fail
          refine (HM.out _).mono ?_
          rintro e w4 ⟨rfl, hb4⟩
          have hC4 := Kp.step (W := w) (hC.alloc (.cells #[.int .i64 S1, .int .u64 C1] 24)) hb4
          have t2 := (q2.alloc (.cells #[.int .i64 S1, .int .u64 C1] 24)).keep hb4
          have t1 := (q1.alloc (.cells #[.int .i64 S1, .int .u64 C1] 24)).keep hb4
          have t3 := (Blk.new w2 24 #[.int .i64 S1, .int .u64 C1]).keep hb4
          have hn : w.heap.size + 1 < w2.heap.size := q2.lt
          have hn0 : w.heap.size < w2.heap.size := q1.lt
          generalize w2.heap.size = g8 at *
          clear q1 q2 hb4 hC x0 x1 x2 x3 x4 x5 x6 x7
          obtain ⟨b0, b1, b2, b3⟩ := t1.box4
          go_wp2_with fail
          refine (H2.out _ hC4).mono ?_
          rintro e w5 ⟨rfl, hb5⟩
          have hC5 := Kp.step hC4 hb5
          have u2 := t2.keep hb5
          have u3 := t3.keep hb5
          clear b0 b1 b2 b3 t1 t2 t3 hb5 hC4
          obtain ⟨b0, b1⟩ := u3.aft2
          go_wp2_with fail
          refine (HD.out _).mono ?_
          rintro e w6 ⟨rfl, hb6⟩
          have hC6 := Kp.step (hC5.alloc (.cells #[.int .i64 S2, .int .u64 C2] 24)) hb6
          have v2 := (u2.alloc (.cells #[.int .i64 S2, .int .u64 C2] 24)).keep hb6
          have v3 := (u3.alloc (.cells #[.int .i64 S2, .int .u64 C2] 24)).keep hb6
          have v4 := (Blk.new w5 24 #[.int .i64 S2, .int .u64 C2]).keep hb6
          obtain ⟨z0, z1, z2, z3, z4, z5, z6, z7⟩ := v2.cells4
          go_wp2_with fail
          obtain ⟨r0, r1, r2, r3⟩ := (v2.set4 (.int .i64 0) (.int .u64 0) (.int .i64 0) (.int .u64 0)).box4
          exact bodyPost_ret (v := .tuple #[.agg #[.int .i64 0, .int .u64 0, .int .i64 0, .int .u64 0], .int .i64 18]) (by simp [results, Try.results37, go_sem, r0, r1, r2, r3]) rfl ⟨rfl, below_set4 hC6 (Nat.le_succ _) _ _ _ _⟩
        · rw [if_neg (by decide)] at hR
          subst hR
          go_enter Try.func37, Try.ntmps37
          obtain ⟨y0, y1, y2, y3⟩ := hB1.box4
          go_wp2_with fail
          refine (H1.out _ hW0).mono ?_
          rintro e w2 ⟨rfl, hb2⟩
          have hC := Kp.step (W := w) hW0 hb2
          have q1 := hB1.keep hb2
          have q2 := hB2.keep hb2
          clear hb2 y0 y1 y2 y3
          obtain ⟨x0, x1, x2, x3, x4, x5, x6, x7⟩ := q1.aft4
          go_wp2_with fail
          refine (HM.out _).mono ?_
          rintro e w4 ⟨rfl, hb4⟩
          have hC4 := Kp.step (W := w) (hC.alloc (.cells #[.int .i64 S1, .int .u64 C1] 24)) hb4
          have t2 := (q2.alloc (.cells #[.int .i64 S1, .int .u64 C1] 24)).keep hb4
          have t1 := (q1.alloc (.cells #[.int .i64 S1, .int .u64 C1] 24)).keep hb4
          have t3 := (Blk.new w2 24 #[.int .i64 S1, .int .u64 C1]).keep hb4
          have hn : w.heap.size + 1 < w2.heap.size := q2.lt
          have hn0 : w.heap.size < w2.heap.size := q1.lt
          generalize w2.heap.size = g8 at *
          clear q1 q2 hb4 hC x0 x1 x2 x3 x4 x5 x6 x7
          obtain ⟨b0, b1, b2, b3⟩ := t1.box4
          go_wp2_with fail
          refine (H2.out _ hC4).mono ?_
          rintro e w5 ⟨rfl, hb5⟩
          have hC5 := Kp.step hC4 hb5
          have u2 := t2.keep hb5
          have u3 := t3.keep hb5
          clear b0 b1 b2 b3 t1 t2 t3 hb5 hC4
          obtain ⟨b0, b1⟩ := u3.aft2
          go_wp2_with fail
          refine (HD.out _).mono ?_
          rintro e w6 ⟨rfl, hb6⟩
          have hC6 := Kp.step (hC5.alloc (.cells #[.int .i64 S2, .int .u64 C2] 24)) hb6
          have v2 := (u2.alloc (.cells #[.int .i64 S2, .int .u64 C2] 24)).keep hb6
          have v3 := (u3.alloc (.cells #[.int .i64 S2, .int .u64 C2] 24)).keep hb6
          have v4 := (Blk.new w5 24 #[.int .i64 S2, .int .u64 C2]).keep hb6
          obtain ⟨z0, z1, z2, z3, z4, z5, z6, z7⟩ := v2.cells4
          obtain ⟨d0, d1, d2, d3⟩ := v3.cells2
          obtain ⟨e0, e1, e2, e3⟩ := v4.cells2
          go_wp2_with fail
          obtain ⟨r0, r1, r2, r3⟩ := (v2.set4 (.int .i64 S1) (.int .u64 C1) (.int .i64 S2) (.int .u64 C2)).box4
          exact bodyPost_ret (v := .tuple #[.agg #[.int .i64 S1, .int .u64 C1, .int .i64 S2, .int .u64 C2], .int .i64 0]) (by simp [results, Try.results37, go_sem, r0, r1, r2, r3]) rfl ⟨rfl, below_set4 hC6 (Nat.le_succ _) _ _ _ _⟩
      · rw [if_pos e2] at hR
        subst hR
        have e2b : (E2 == 0) = false := by simpa using e2
        go_enter Try.func37, Try.ntmps37
        obtain ⟨y0, y1, y2, y3⟩ := hB1.box4
        go_wp2_with fail
        refine (H1.out _ hW0).mono ?_
        rintro e w2 ⟨rfl, hb2⟩
        have hC := Kp.step (W := w) hW0 hb2
        have q1 := hB1.keep hb2
        have q2 := hB2.keep hb2
        clear hb2 y0 y1 y2 y3
        obtain ⟨x0, x1, x2, x3, x4, x5, x6, x7⟩ := q1.aft4
        go_wp2_with fail
        refine (HM.out _).mono ?_
        rintro e w4 ⟨rfl, hb4⟩
        have hC4 := Kp.step (W := w) (hC.alloc (.cells #[.int .i64 S1, .int .u64 C1] 24)) hb4
        have t2 := (q2.alloc (.cells #[.int .i64 S1, .int .u64 C1] 24)).keep hb4
        have t1 := (q1.alloc (.cells #[.int .i64 S1, .int .u64 C1] 24)).keep hb4
        have t3 := (Blk.new w2 24 #[.int .i64 S1, .int .u64 C1]).keep hb4
        have hn : w.heap.size + 1 < w2.heap.size := q2.lt
        have hn0 : w.heap.size < w2.heap.size := q1.lt
        generalize w2.heap.size = g8 at *
        clear q1 q2 hb4 hC x0 x1 x2 x3 x4 x5 x6 x7
        obtain ⟨b0, b1, b2, b3⟩ := t1.box4
        go_wp2_with fail
        refine (H2.out _ hC4).mono ?_
        rintro e w5 ⟨rfl, hb5⟩
        have hC5 := Kp.step hC4 hb5
        have u2 := t2.keep hb5
        have u3 := t3.keep hb5
        clear b0 b1 b2 b3 t1 t2 t3 hb5 hC4
        obtain ⟨z0, z1, z2, z3, z4, z5, z6, z7⟩ := u2.aft4
        go_wp2_with fail
        obtain ⟨r0, r1, r2, r3⟩ := ((u2.alloc (.cells #[.int .i64 S2, .int .u64 C2] 24)).set4 (.int .i64 0) (.int .u64 0) (.int .i64 0) (.int .u64 0)).box4
        exact bodyPost_ret (v := .tuple #[.agg #[.int .i64 0, .int .u64 0, .int .i64 0, .int .u64 0], .int .i64 E2]) (by simp [results, Try.results37, go_sem, r0, r1, r2, r3]) rfl ⟨rfl, below_set4 (hC5.alloc _) (Nat.le_succ _) _ _ _ _⟩
    · rw [if_pos rfl] at hR
      subst hR
      go_enter Try.func37, Try.ntmps37
      obtain ⟨y0, y1, y2, y3⟩ := hB1.box4
      go_wp2_with fail
      refine (H1.out _ hW0).mono ?_
      rintro e w2 ⟨rfl, hb2⟩
      have hC := Kp.step (W := w) hW0 hb2
      have q1 := hB1.keep hb2
      have q2 := hB2.keep hb2
      clear hb2 y0 y1 y2 y3
      obtain ⟨x0, x1, x2, x3, x4, x5, x6, x7⟩ := q1.aft4
      go_wp2_with fail
      refine (HM.out _).mono ?_
      rintro e w4 ⟨rfl, hb4⟩
      have hC4 := Kp.step (W := w) (hC.alloc (.cells #[.int .i64 S1, .int .u64 C1] 24)) hb4
      have t2 := (q2.alloc (.cells #[.int .i64 S1, .int .u64 C1] 24)).keep hb4
      have t1 := (q1.alloc (.cells #[.int .i64 S1, .int .u64 C1] 24)).keep hb4
      have t3 := (Blk.new w2 24 #[.int .i64 S1, .int .u64 C1]).keep hb4
      have hn : w.heap.size + 1 < w2.heap.size := q2.lt
      have hn0 : w.heap.size < w2.heap.size := q1.lt
      generalize w2.heap.size = g8 at *
      clear q1 q2 hb4 hC x0 x1 x2 x3 x4 x5 x6 x7
      obtain ⟨b0, b1, b2, b3⟩ := t3.cells2
      obtain ⟨z0, z1, z2, z3, z4, z5, z6, z7⟩ := t2.cells4
      go_wp2_with fail
      obtain ⟨r0, r1, r2, r3⟩ := (t2.set4 (.int .i64 S1) (.int .u64 C1) (.int .i64 S1) (.int .u64 C1)).box4
      exact bodyPost_ret (v := .tuple #[.agg #[.int .i64 S1, .int .u64 C1, .int .i64 S1, .int .u64 C1], .int .i64 0]) (by simp [results, Try.results37, go_sem, r0, r1, r2, r3]) rfl ⟨rfl, below_set4 hC4 (Nat.le_succ _) _ _ _ _⟩
  · rw [if_pos e1] at hR
    subst hR
    have e1b : (E1 == 0) = false := by simpa using e1
    go_enter Try.func37, Try.ntmps37
    obtain ⟨y0, y1, y2, y3⟩ := hB1.box4
    go_wp2_with fail
    refine (H1.out _ hW0).mono ?_
    rintro e w2 ⟨rfl, hb2⟩
    have hC := Kp.step (W := w) hW0 hb2
    have q1 := hB1.keep hb2
    have q2 := hB2.keep hb2
    clear hb2 y0 y1 y2 y3
    obtain ⟨z0, z1, z2, z3, z4, z5, z6, z7⟩ := q2.aft4
    go_wp2_with fail
    obtain ⟨r0, r1, r2, r3⟩ := ((q2.alloc (.cells #[.int .i64 S1, .int .u64 C1] 24)).set4 (.int .i64 0) (.int .u64 0) (.int .i64 0) (.int .u64 0)).box4
    exact bodyPost_ret (v := .tuple #[.agg #[.int .i64 0, .int .u64 0, .int .i64 0, .int .u64 0], .int .i64 E1]) (by simp [results, Try.results37, go_sem, r0, r1, r2, r3]) rfl ⟨rfl, below_set4 (hC.alloc _) (Nat.le_succ _) _ _ _ _⟩
end Go.Proofs.Ythjebccidcichaa
