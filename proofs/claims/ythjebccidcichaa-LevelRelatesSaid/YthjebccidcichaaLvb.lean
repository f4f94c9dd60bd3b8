/- Check, Dominates, Relation, Join, Meet, CheckRange, Contains, Span. -/
import Derived.Test.YthjebccidcichaaMm
import Derived.Test.YthjebccidcichaaLva
import Derived.Laws.StructEq
namespace Go.Proofs.Ythjebccidcichaa
open Go.RowKit
def lvV (l : Lv) : Value := .agg #[.int .i64 l.sens, .int .u64 l.cats]
def rgV (r : Rg) : Value := .agg #[.int .i64 r.low.sens, .int .u64 r.low.cats, .int .i64 r.high.sens, .int .u64 r.high.cats]
theorem ret_b {a b : Bool} (h : a = b) : Ending.returned (.bool a) = .returned (.bool b) := by rw [h]
theorem low_walk (c k : Nat) : ((c : Int) / 2 ^ k == 0) = decide (c / 2 ^ k = 0) := by
  have h1 : ((c : Int) / 2 ^ k) = ((c / 2 ^ k : Nat) : Int) := by simp
  rw [h1]
  generalize c / 2 ^ k = y
  rw [Bool.eq_iff_iff]
  simp
theorem nat_zero (c : Nat) : ((c : Int) == 0) = decide (c = 0) := by
  rw [Bool.eq_iff_iff]
  simp
set_option maxRecDepth 100000 in
set_option maxHeartbeats 2000000 in
theorem check_c (s : Int) (c : Nat) (sens cats : Int) (w : World) :
    Calls Try.prog 12 #[.agg #[.int .i64 s, .int .u64 c], .int .i64 sens, .int .i64 cats] w fun e w' => e = .returned (.bool (chkL s c sens cats)) ∧ Below w.heap.size w w' := by
  obtain ⟨R, hR⟩ : ∃ R, chkL s c sens cats = R := ⟨_, rfl⟩
  rw [hR]
  have HR := Lib.hid hR
  clear hR
  go_enter Try.func12, Try.ntmps12
  go_wp2_with fail
  all_goals
    go_ret
    refine ⟨ret_b ?_, (Below.refl _ _).alloc (Nat.le_refl _) _⟩
    rw [← HR.out]
    unfold chkL lowL
    first
      | (rw [decide_eq_true (show 0 ≤ s ∧ s < sens from ⟨by assumption, by assumption⟩), if_neg (by omega), low_walk]; rfl)
      | (rw [decide_eq_true (show 0 ≤ s ∧ s < sens from ⟨by assumption, by assumption⟩), if_pos (by omega)]; simp; exact nat_zero c)
      | (rw [decide_eq_false (show ¬ (0 ≤ s ∧ s < sens) by omega)]; rfl)
theorem sub_walk (c c' : Nat) (hc : c < U64) (hc' : c' < U64) : (bits .andNot .u64 (c' : Int) (c : Int) == 0) = subL c c' := by
  rw [u64_andNot_nat c' c hc' hc]
  unfold subL
  rw [Bool.eq_iff_iff]
  simp
set_option maxRecDepth 100000 in
set_option maxHeartbeats 2000000 in
theorem dominates_c (s : Int) (c : Nat) (s' : Int) (c' : Nat) (w : World) (hc : c < U64) (hc' : c' < U64) :
    Calls Try.prog 17 #[.agg #[.int .i64 s, .int .u64 c], .agg #[.int .i64 s', .int .u64 c']] w fun e w' => e = .returned (.bool (domL s c s' c')) ∧ Below w.heap.size w w' := by
  have HW := Lib.hid (sub_walk c c' hc hc')
  unfold domL
  by_cases h : s' ≤ s
  · rw [decide_eq_true h, Bool.true_and]
    go_enter Try.func17, Try.ntmps17
    go_wp2_with fail
    go_ret
    exact ⟨ret_b HW.out, ((Below.refl _ _).alloc (Nat.le_refl _) _).alloc (by simp) _⟩
  · rw [decide_eq_false h]
    go_enter Try.func17, Try.ntmps17
    go_wp2_with fail
    go_ret
    exact ⟨rfl, ((Below.refl _ _).alloc (Nat.le_refl _) _).alloc (by simp) _⟩
set_option maxRecDepth 100000 in
set_option maxHeartbeats 2000000 in
theorem rhas_c (s : Int) (c : Nat) (n : Int) (w : World) (hc : c < U64) :
    Calls Try.prog 42 #[.agg #[.int .i64 s, .int .u64 c], .int .i64 n] w fun e w' => e = .returned (.bool (hasL c n)) ∧ Below w.heap.size w w' := by
  by_cases h : 0 ≤ n ∧ n < 64
  · obtain ⟨k, rfl⟩ : ∃ k : Nat, n = k := ⟨n.toNat, by omega⟩
    obtain ⟨_, h1⟩ := h
    have hb := bit_walk c k hc (by omega)
    have HB := Lib.hid hb
    have hm : min k 64 = k := by omega
    clear hb
    go_enter Try.func42, Try.ntmps42
    go_wp2_with fail
    go_ret
    exact ⟨ret_b HB.out, (Below.refl _ _).alloc (Nat.le_refl _) _⟩
  · rw [hasL_out c h]
    rcases (by omega : n < 0 ∨ ¬ n < 0 ∧ 64 ≤ n) with h0 | ⟨h0, h1⟩
    all_goals
      go_enter Try.func42, Try.ntmps42
      go_wp2_with fail
      go_ret
      exact ⟨rfl, (Below.refl _ _).alloc (Nat.le_refl _) _⟩
theorem Blk.box2 {w : World} {g : Nat} {t : TypeId} {a b : Value} (h : Blk w g t #[a, b]) : w.cell? ⟨g, 0, none⟩ = some a ∧ w.cell? ⟨g, 1, none⟩ = some b := ⟨h.cell 0, h.cell 1⟩
theorem Blk.box4 {w : World} {g : Nat} {t : TypeId} {a b c d : Value} (h : Blk w g t #[a, b, c, d]) : w.cell? ⟨g, 0, none⟩ = some a ∧ w.cell? ⟨g, 1, none⟩ = some b ∧ w.cell? ⟨g, 2, none⟩ = some c ∧ w.cell? ⟨g, 3, none⟩ = some d := ⟨h.cell 0, h.cell 1, h.cell 2, h.cell 3⟩
/-- two boxes, one behind the other -/
theorem two_box (w : World) (t t' : TypeId) (cs cs' : Array Value) : Blk ((w.alloc (.cells cs t)).alloc (.cells cs' t')) w.heap.size t cs ∧ Blk ((w.alloc (.cells cs t)).alloc (.cells cs' t')) (w.heap.size + 1) t' cs' ∧ Below w.heap.size w ((w.alloc (.cells cs t)).alloc (.cells cs' t')) ∧ ((w.alloc (.cells cs t)).alloc (.cells cs' t')).heap.size = w.heap.size + 2 := by
  refine ⟨(Blk.new w _ _).alloc _, ?_, ((Below.refl _ _).alloc (Nat.le_refl _) _).alloc (by simp) _, by simp⟩
  have := Blk.new (w.alloc (.cells cs t)) t' cs'
  simpa using this
set_option maxRecDepth 100000 in
set_option maxHeartbeats 4000000 in
theorem rcheck_c (s : Int) (c : Nat) (sens cats : Int) (w : World) (hc : c < U64) :
    Calls Try.prog 13 #[.agg #[.int .i64 s, .int .u64 c], .int .i64 sens, .int .i64 cats] w fun e w' => e = .returned (.bool (chkL s c sens cats)) ∧ Below w.heap.size w w' := by
  obtain ⟨R, hR⟩ : ∃ R, chkL s c sens cats = R := ⟨_, rfl⟩
  rw [hR]
  have HR := Lib.hid hR
  clear hR
  have HH := Lib.hid (fun (n : Int) (w : World) => rhas_c s c n w hc)
  have hB : Blk (w.alloc (.cells #[.int .i64 s, .int .u64 c] 24)) w.heap.size 24 _ := Blk.new w 24 #[.int .i64 s, .int .u64 c]
  have hW : Below w.heap.size w (w.alloc (.cells #[.int .i64 s, .int .u64 c] 24)) := (Below.refl _ _).alloc (Nat.le_refl _) _
  go_enter Try.func13, Try.ntmps13
  go_wp2_with fail
  generalize w.alloc (.cells #[.int .i64 s, .int .u64 c] 24) = W at *
  have HB := Lib.hid hB
  have HW := Lib.hid hW
  clear hB hW
  go_loopw [7] (fun vi wr => ∃ i : Nat, i ≤ 64 ∧ vi = .int .i64 i ∧ Hid (allLow c cats i) ∧ Kp W wr) (fun vi _ => 64 - (intOf vi).toNat)
  case atStart => exact ⟨0, Nat.zero_le _, rfl, Lib.hid (fun n h => by omega), Kp.rfl'⟩
  case round =>
    obtain ⟨i, hi, rfl, HA, hC⟩ := hrel
    obtain ⟨p0, p1⟩ := (hC.blk HB.out).box2
    by_cases hlt : i < 64
    · have hlt' : (i : Int) < 64 := by omega
      cases hh : hasL c i
      · have HX := Lib.hid (HH.out i wr)
        rw [hh] at HX
        have HA2 : Hid (allLow c cats (i + 1)) := Lib.hid fun n hn => by
          rcases Nat.lt_or_ge n i with h | h
          · exact HA.out n h
          · obtain rfl : n = i := by omega
            rw [hh]; simp
        clear hh
        go_wp2_with (go_at_call 42; refine HX.out.mono ?_; rintro e w2 ⟨rfl, hb2⟩)
        go_roundw
        case rel => exact ⟨i + 1, hlt, by go_num, HA2, hC.step hb2⟩
        case measure => simp [intOf]; omega
      · have HX := Lib.hid (HH.out i wr)
        rw [hh] at HX
        by_cases hge : cats ≤ (i : Int)
        · have hR0 : R = false := by rw [← HR.out]; unfold chkL; rw [allLow_no hc hlt hh hge, Bool.and_false]
          subst hR0
          clear hh HR
          go_wp2_with (go_at_call 42; refine HX.out.mono ?_; rintro e w2 ⟨rfl, hb2⟩)
          go_ret
          exact ⟨rfl, HW.out.trans (Below.mono (hC.step hb2) HW.out.size)⟩
        · have HA2 : Hid (allLow c cats (i + 1)) := Lib.hid fun n hn => by
            rcases Nat.lt_or_ge n i with h | h
            · exact HA.out n h
            · obtain rfl : n = i := by omega
              exact fun h => hge h.2
          clear hh
          go_wp2_with (go_at_call 42; refine HX.out.mono ?_; rintro e w2 ⟨rfl, hb2⟩)
          go_roundw
          case rel => exact ⟨i + 1, hlt, by go_num, HA2, hC.step hb2⟩
          case measure => simp [intOf]; omega
    · obtain rfl : i = 64 := by omega
      have hR0 : R = decide (0 ≤ s ∧ s < sens) := by rw [← HR.out]; unfold chkL; rw [allLow_end hc HA.out, Bool.and_true]
      clear HR
      by_cases h0 : 0 ≤ s
      · by_cases h1 : s < sens
        · obtain rfl : R = true := hR0.trans (decide_eq_true ⟨h0, h1⟩)
          clear hR0
          go_wp2_with fail
          go_ret
          exact ⟨rfl, HW.out.trans (Below.mono hC HW.out.size)⟩
        · obtain rfl : R = false := hR0.trans (decide_eq_false (fun h => h1 h.2))
          clear hR0
          go_wp2_with fail
          go_ret
          exact ⟨rfl, HW.out.trans (Below.mono hC HW.out.size)⟩
      · obtain rfl : R = false := hR0.trans (decide_eq_false (fun h => h0 h.1))
        clear hR0
        go_wp2_with fail
        go_ret
        exact ⟨rfl, HW.out.trans (Below.mono hC HW.out.size)⟩
set_option maxRecDepth 100000 in
set_option maxHeartbeats 4000000 in
theorem rdominates_c (s : Int) (c : Nat) (s' : Int) (c' : Nat) (w : World) (hc : c < U64) (hc' : c' < U64) :
    Calls Try.prog 19 #[.agg #[.int .i64 s, .int .u64 c], .agg #[.int .i64 s', .int .u64 c']] w fun e w' => e = .returned (.bool (domL s c s' c')) ∧ Below w.heap.size w w' := by
  obtain ⟨R, hR⟩ : ∃ R, domL s c s' c' = R := ⟨_, rfl⟩
  rw [hR]
  have HR := Lib.hid hR
  clear hR
  have HH := Lib.hid (fun (n : Int) (w : World) => rhas_c s c n w hc)
  have HH2 := Lib.hid (fun (n : Int) (w : World) => rhas_c s' c' n w hc')
  obtain ⟨hB, hB2, hW, _⟩ := two_box w 24 24 #[.int .i64 s, .int .u64 c] #[.int .i64 s', .int .u64 c']
  go_enter Try.func19, Try.ntmps19
  go_wp2_with fail
  generalize (w.alloc (.cells #[.int .i64 s, .int .u64 c] 24)).alloc (.cells #[.int .i64 s', .int .u64 c'] 24) = W at *
  have HB := Lib.hid hB
  have HB2 := Lib.hid hB2
  have HW := Lib.hid hW
  clear hB hB2 hW
  go_loopw [5] (fun vi wr => ∃ i : Nat, i ≤ 64 ∧ vi = .int .i64 i ∧ Hid (allSub c c' i) ∧ Kp W wr) (fun vi _ => 64 - (intOf vi).toNat)
  case atStart => exact ⟨0, Nat.zero_le _, rfl, Lib.hid (fun n h => by omega), Kp.rfl'⟩
  case round =>
    obtain ⟨i, hi, rfl, HA, hC⟩ := hrel
    obtain ⟨p0, p1⟩ := (hC.blk HB.out).box2
    obtain ⟨q0, q1⟩ := (hC.blk HB2.out).box2
    by_cases hlt : i < 64
    · have hlt' : (i : Int) < 64 := by omega
      have step : ∀ (h : ¬ (hasL c' i = true ∧ hasL c i = false)), Hid (allSub c c' (i + 1)) := fun hno => Lib.hid fun n hn => by
        rcases Nat.lt_or_ge n i with h | h
        · exact HA.out n h
        · obtain rfl : n = i := by omega
          exact hno
      have HST := Lib.hid step
      clear step
      cases hh : hasL c' i
      · have HX := Lib.hid (HH2.out i wr)
        rw [hh] at HX
        have HA2 := HST.out (by rw [hh]; simp)
        clear hh
        go_wp2_with (go_at_call 42; refine HX.out.mono ?_; rintro e w2 ⟨rfl, hb2⟩)
        go_roundw
        case rel => exact ⟨i + 1, hlt, by go_num, HA2, hC.step hb2⟩
        case measure => simp [intOf]; omega
      · have HX := Lib.hid (HH2.out i wr)
        rw [hh] at HX
        cases hg : hasL c i
        · have hR0 : R = false := by rw [← HR.out]; unfold domL; rw [allSub_no hc hlt hh hg, Bool.and_false]
          subst hR0
          have HY := Lib.hid (fun w => HH.out i w)
          rw [hg] at HY
          clear hh hg HR
          go_wp2_with fail
          refine HX.out.mono ?_
          rintro e w2 ⟨rfl, hb2⟩
          have hC2 := hC.step hb2
          obtain ⟨r0, r1⟩ := (hC2.blk HB.out).box2
          go_wp2_with fail
          refine (HY.out w2).mono ?_
          rintro e w3 ⟨rfl, hb3⟩
          go_wp2_with fail
          go_ret
          exact ⟨rfl, HW.out.trans (Below.mono (hC2.step hb3) HW.out.size)⟩
        · have HA2 := HST.out (by rw [hg]; simp)
          have HY := Lib.hid (fun w => HH.out i w)
          rw [hg] at HY
          clear hh hg
          go_wp2_with fail
          refine HX.out.mono ?_
          rintro e w2 ⟨rfl, hb2⟩
          have hC2 := hC.step hb2
          obtain ⟨r0, r1⟩ := (hC2.blk HB.out).box2
          go_wp2_with fail
          refine (HY.out w2).mono ?_
          rintro e w3 ⟨rfl, hb3⟩
          go_wp2_with fail
          go_roundw
          case rel => exact ⟨i + 1, hlt, by go_num, HA2, hC2.step hb3⟩
          case measure => simp [intOf]; omega
    · obtain rfl : i = 64 := by omega
      have hR0 : R = decide (s' ≤ s) := by rw [← HR.out]; unfold domL; rw [allSub_end hc HA.out, Bool.and_true]
      clear HR
      by_cases h0 : s' ≤ s
      · obtain rfl : R = true := hR0.trans (decide_eq_true h0)
        clear hR0
        go_wp2_with fail
        go_ret
        exact ⟨rfl, HW.out.trans (Below.mono hC HW.out.size)⟩
      · obtain rfl : R = false := hR0.trans (decide_eq_false h0)
        clear hR0
        go_wp2_with fail
        go_ret
        exact ⟨rfl, HW.out.trans (Below.mono hC HW.out.size)⟩
end Go.Proofs.Ythjebccidcichaa
