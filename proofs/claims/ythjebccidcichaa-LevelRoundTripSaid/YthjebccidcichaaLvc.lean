/- Relation, Join, Meet, CheckRange, Contains, Span. -/
import Derived.Test.YthjebccidcichaaLvb
import Derived.Deep.RegionHeld3
namespace Go.Proofs.Ythjebccidcichaa
open Go.RowKit
theorem max_int (x y : Int) : (if y > x then y else x) = max x y := by split <;> omega
theorem min_int (x y : Int) : (if y < x then y else x) = min x y := by split <;> omega
set_option maxRecDepth 100000 in
set_option maxHeartbeats 4000000 in
theorem relation_c (s : Int) (c : Nat) (s' : Int) (c' : Nat) (w : World) (hc : c < U64) (hc' : c' < U64) :
    Calls Try.prog 18 #[.agg #[.int .i64 s, .int .u64 c], .agg #[.int .i64 s', .int .u64 c']] w fun e w' => e = .returned (.int .i64 (relL s c s' c')) ∧ Below w.heap.size w w' := by
  obtain ⟨hB, hB2, hW, _⟩ := two_box w 24 24 #[.int .i64 s, .int .u64 c] #[.int .i64 s', .int .u64 c']
  have HD1 := Lib.hid (fun w => dominates_c s c s' c' w hc hc')
  have HD2 := Lib.hid (fun w => dominates_c s' c' s c w hc' hc)
  by_cases he : s = s' ∧ c = c'
  · obtain ⟨rfl, rfl⟩ := he
    have hr : relL s c s c = 0 := if_pos ⟨rfl, rfl⟩
    rw [hr]
    clear hr HD1 HD2
    go_enter Try.func18, Try.ntmps18
    go_wp2_with fail
    go_ret
    exact ⟨rfl, hW⟩
  · have hne : (¬ s = s' ∧ (s == s') = false) ∨ (s = s' ∧ ¬ c = c' ∧ ((c : Int) == (c' : Int)) = false) := by
      by_cases h : s = s'
      · have hcc : ¬ c = c' := fun h2 => he ⟨h, h2⟩
        exact .inr ⟨h, hcc, by simp; omega⟩
      · exact .inl ⟨h, by simpa using h⟩
    have hr : relL s c s' c' = if domL s c s' c' = true then 2 else if domL s' c' s c = true then 3 else 4 := if_neg he
    rw [hr]
    have HB := Lib.hid hB
    have HB2 := Lib.hid hB2
    have HW := Lib.hid hW
    clear hr he hB hB2 hW
    obtain ⟨d1, hd1⟩ : ∃ d, domL s c s' c' = d := ⟨_, rfl⟩
    obtain ⟨d2, hd2⟩ : ∃ d, domL s' c' s c = d := ⟨_, rfl⟩
    rw [hd1] at HD1 ⊢
    rw [hd2] at HD2 ⊢
    clear hd1 hd2
    cases d1
    · cases d2
      all_goals
        rcases hne with ⟨hn1, hn2⟩ | ⟨rfl, hn1, hn2⟩
        all_goals
          go_enter Try.func18, Try.ntmps18
          go_wp2_with fail
          refine (HD1.out _).mono ?_
          rintro e w2 ⟨rfl, hb2⟩
          obtain ⟨p0, p1⟩ := (HB.out.keep hb2).box2
          obtain ⟨q0, q1⟩ := (HB2.out.keep hb2).box2
          go_wp2_with fail
          refine (HD2.out _).mono ?_
          rintro e w3 ⟨rfl, hb3⟩
          go_wp2_with fail
          go_ret
          exact ⟨rfl, (HW.out.trans (Below.mono (Kp.step (Kp.step Kp.rfl' hb2) hb3) HW.out.size))⟩
    · rcases hne with ⟨hn1, hn2⟩ | ⟨rfl, hn1, hn2⟩
      all_goals
        go_enter Try.func18, Try.ntmps18
        go_wp2_with fail
        refine (HD1.out _).mono ?_
        rintro e w2 ⟨rfl, hb2⟩
        go_wp2_with fail
        go_ret
        exact ⟨rfl, HW.out.trans (Below.mono (Kp.step Kp.rfl' hb2) HW.out.size)⟩
set_option maxRecDepth 100000 in
set_option maxHeartbeats 4000000 in
theorem join_c (s : Int) (c : Nat) (s' : Int) (c' : Nat) (w : World) (hc : c < U64) (hc' : c' < U64) :
    Calls Try.prog 21 #[.agg #[.int .i64 s, .int .u64 c], .agg #[.int .i64 s', .int .u64 c']] w fun e w' => e = .returned (.agg #[.int .i64 (max s s'), .int .u64 ((c ||| c' : Nat) : Int)]) ∧ Below w.heap.size w w' := by
  have hm := max_int s s'
  have HL := Lib.hid (u64_or_nat c c' hc hc')
  go_enter Try.func21, Try.ntmps21
  go_wp2_with fail
  exact bodyPost_ret (v := .agg #[.int .i64 (max s s'), .int .u64 (bits .or .u64 (c : Int) (c' : Int))]) (by simp [results, Try.results21, go_sem]) rfl ⟨by rw [HL.out], (((Below.refl _ _).alloc (Nat.le_refl _) _).alloc (by simp) _).alloc (by simp; omega) _⟩
set_option maxRecDepth 100000 in
set_option maxHeartbeats 4000000 in
theorem meet_c (s : Int) (c : Nat) (s' : Int) (c' : Nat) (w : World) (hc : c < U64) (hc' : c' < U64) :
    Calls Try.prog 22 #[.agg #[.int .i64 s, .int .u64 c], .agg #[.int .i64 s', .int .u64 c']] w fun e w' => e = .returned (.agg #[.int .i64 (min s s'), .int .u64 ((c &&& c' : Nat) : Int)]) ∧ Below w.heap.size w w' := by
  have hm := min_int s s'
  have HL := Lib.hid (u64_and_nat c c' hc hc')
  go_enter Try.func22, Try.ntmps22
  go_wp2_with fail
  exact bodyPost_ret (v := .agg #[.int .i64 (min s s'), .int .u64 (bits .and .u64 (c : Int) (c' : Int))]) (by simp [results, Try.results22, go_sem]) rfl ⟨by rw [HL.out], (((Below.refl _ _).alloc (Nat.le_refl _) _).alloc (by simp) _).alloc (by simp; omega) _⟩
set_option maxRecDepth 100000 in
set_option maxHeartbeats 4000000 in
theorem rrelation_c (s : Int) (c : Nat) (s' : Int) (c' : Nat) (w : World) (hc : c < U64) (hc' : c' < U64) :
    Calls Try.prog 20 #[.agg #[.int .i64 s, .int .u64 c], .agg #[.int .i64 s', .int .u64 c']] w fun e w' => e = .returned (.int .i64 (relL s c s' c')) ∧ Below w.heap.size w w' := by
  obtain ⟨hB, hB2, hW, _⟩ := two_box w 24 24 #[.int .i64 s, .int .u64 c] #[.int .i64 s', .int .u64 c']
  have HD1 := Lib.hid (fun w => rdominates_c s c s' c' w hc hc')
  have HD2 := Lib.hid (fun w => rdominates_c s' c' s c w hc' hc)
  by_cases he : s = s' ∧ c = c'
  · obtain ⟨rfl, rfl⟩ := he
    have hr : relL s c s c = 0 := if_pos ⟨rfl, rfl⟩
    rw [hr]
    clear hr HD1 HD2
    go_enter Try.func20, Try.ntmps20
    go_wp2_with fail
    go_ret
    exact ⟨rfl, hW⟩
  · have hne : (¬ s = s' ∧ (s == s') = false) ∨ (s = s' ∧ ¬ c = c' ∧ ((c : Int) == (c' : Int)) = false) := by
      by_cases h : s = s'
      · have hcc : ¬ c = c' := fun h2 => he ⟨h, h2⟩
        exact .inr ⟨h, hcc, by simp; omega⟩
      · exact .inl ⟨h, by simpa using h⟩
    have hr : relL s c s' c' = if domL s c s' c' = true then 2 else if domL s' c' s c = true then 3 else 4 := if_neg he
    rw [hr]
    have HB := Lib.hid hB
    have HB2 := Lib.hid hB2
    have HW := Lib.hid hW
    clear hr he hB hB2 hW
    obtain ⟨d1, hd1⟩ : ∃ d, domL s c s' c' = d := ⟨_, rfl⟩
    obtain ⟨d2, hd2⟩ : ∃ d, domL s' c' s c = d := ⟨_, rfl⟩
    rw [hd1] at HD1 ⊢
    rw [hd2] at HD2 ⊢
    clear hd1 hd2
    cases d1
    · cases d2
      all_goals
        rcases hne with ⟨hn1, hn2⟩ | ⟨rfl, hn1, hn2⟩
        all_goals
          go_enter Try.func20, Try.ntmps20
          go_wp2_with fail
          refine (HD1.out _).mono ?_
          rintro e w2 ⟨rfl, hb2⟩
          obtain ⟨p0, p1⟩ := (HB.out.keep hb2).box2
          obtain ⟨q0, q1⟩ := (HB2.out.keep hb2).box2
          go_wp2_with fail
          refine (HD2.out _).mono ?_
          rintro e w3 ⟨rfl, hb3⟩
          go_wp2_with fail
          go_ret
          exact ⟨rfl, (HW.out.trans (Below.mono (Kp.step (Kp.step Kp.rfl' hb2) hb3) HW.out.size))⟩
    · rcases hne with ⟨hn1, hn2⟩ | ⟨rfl, hn1, hn2⟩
      all_goals
        go_enter Try.func20, Try.ntmps20
        go_wp2_with fail
        refine (HD1.out _).mono ?_
        rintro e w2 ⟨rfl, hb2⟩
        go_wp2_with fail
        go_ret
        exact ⟨rfl, HW.out.trans (Below.mono (Kp.step Kp.rfl' hb2) HW.out.size)⟩
set_option maxRecDepth 100000 in
set_option maxHeartbeats 4000000 in
theorem rjoin_c (s : Int) (c : Nat) (s' : Int) (c' : Nat) (w : World) (hc : c < U64) (hc' : c' < U64) :
    Calls Try.prog 27 #[.agg #[.int .i64 s, .int .u64 c], .agg #[.int .i64 s', .int .u64 c']] w fun e w' => e = .returned (.agg #[.int .i64 (max s s'), .int .u64 ((c ||| c' : Nat) : Int)]) ∧ Below w.heap.size w w' := by
  have hm := max_int s s'
  have HL := Lib.hid (u64_or_nat c c' hc hc')
  go_enter Try.func27, Try.ntmps27
  go_wp2_with fail
  exact bodyPost_ret (v := .agg #[.int .i64 (max s s'), .int .u64 (bits .or .u64 (c : Int) (c' : Int))]) (by simp [results, Try.results27, go_sem]) rfl ⟨by rw [HL.out], (((Below.refl _ _).alloc (Nat.le_refl _) _).alloc (by simp) _).alloc (by simp; omega) _⟩
set_option maxRecDepth 100000 in
set_option maxHeartbeats 4000000 in
theorem rmeet_c (s : Int) (c : Nat) (s' : Int) (c' : Nat) (w : World) (hc : c < U64) (hc' : c' < U64) :
    Calls Try.prog 28 #[.agg #[.int .i64 s, .int .u64 c], .agg #[.int .i64 s', .int .u64 c']] w fun e w' => e = .returned (.agg #[.int .i64 (min s s'), .int .u64 ((c &&& c' : Nat) : Int)]) ∧ Below w.heap.size w w' := by
  have hm := min_int s s'
  have HL := Lib.hid (u64_and_nat c c' hc hc')
  go_enter Try.func28, Try.ntmps28
  go_wp2_with fail
  exact bodyPost_ret (v := .agg #[.int .i64 (min s s'), .int .u64 (bits .and .u64 (c : Int) (c' : Int))]) (by simp [results, Try.results28, go_sem]) rfl ⟨by rw [HL.out], (((Below.refl _ _).alloc (Nat.le_refl _) _).alloc (by simp) _).alloc (by simp; omega) _⟩
set_option maxRecDepth 100000 in
set_option maxHeartbeats 4000000 in
theorem checkRange_c (s : Int) (c : Nat) (s2 : Int) (c2 : Nat) (sens cats : Int) (w : World) (h1 : c < U64) (h3 : c2 < U64) :
    Calls Try.prog 14 #[.agg #[.int .i64 s, .int .u64 c, .int .i64 s2, .int .u64 c2], .int .i64 sens, .int .i64 cats] w fun e w' => e = .returned (.bool (chkL s c sens cats && (chkL s2 c2 sens cats && domL s2 c2 s c))) ∧ Below w.heap.size w w' := by
  have hB : Blk (w.alloc (.cells #[.int .i64 s, .int .u64 c, .int .i64 s2, .int .u64 c2] 26)) w.heap.size 26 _ := Blk.new w 26 #[.int .i64 s, .int .u64 c, .int .i64 s2, .int .u64 c2]
  have hW : Below w.heap.size w (w.alloc (.cells #[.int .i64 s, .int .u64 c, .int .i64 s2, .int .u64 c2] 26)) := (Below.refl _ _).alloc (Nat.le_refl _) _
  have HC1 := Lib.hid (fun w => check_c s c sens cats w)
  have HC2 := Lib.hid (fun w => check_c s2 c2 sens cats w)
  have HD := Lib.hid (fun w => dominates_c s2 c2 s c w h3 h1)
  obtain ⟨k1, hk1⟩ : ∃ k, chkL s c sens cats = k := ⟨_, rfl⟩
  obtain ⟨k2, hk2⟩ : ∃ k, chkL s2 c2 sens cats = k := ⟨_, rfl⟩
  obtain ⟨k3, hk3⟩ : ∃ k, domL s2 c2 s c = k := ⟨_, rfl⟩
  rw [hk1] at HC1 ⊢
  rw [hk2] at HC2 ⊢
  rw [hk3] at HD ⊢
  clear hk1 hk2 hk3
  cases k1 <;> cases k2
  all_goals
    go_enter Try.func14, Try.ntmps14
    go_wp2_with fail
    generalize w.alloc (.cells #[.int .i64 s, .int .u64 c, .int .i64 s2, .int .u64 c2] 26) = W at *
    have HB := Lib.hid hB
    have HW := Lib.hid hW
    have hC0 : Kp W W := Kp.rfl'
    clear hB hW
    go_wp2_with (first
      | (go_at_call 12; (with_reducible refine (HC1.out _).mono ?_); rintro e w2 ⟨rfl, hb2⟩; have hC2 := Kp.step (by assumption) hb2; obtain ⟨p0, p1, p2, p3⟩ := (Kp.blk hC2 HB.out).box4; clear hb2)
      | (go_at_call 12; (with_reducible refine (HC2.out _).mono ?_); rintro e w3 ⟨rfl, hb3⟩; have hC3 := Kp.step (by assumption) hb3; obtain ⟨p0, p1, p2, p3⟩ := (Kp.blk hC3 HB.out).box4; clear hb3)
      | (go_at_call 17; (with_reducible refine (HD.out _).mono ?_); rintro e w4 ⟨rfl, hb4⟩; have hC4 := Kp.step (by assumption) hb4; obtain ⟨p0, p1, p2, p3⟩ := (Kp.blk hC4 HB.out).box4; clear hb4))
    go_ret
    exact ⟨rfl, HW.out.trans (Below.mono (by assumption) HW.out.size)⟩
set_option maxRecDepth 100000 in
set_option maxHeartbeats 4000000 in
theorem contains_c (s : Int) (c : Nat) (s2 : Int) (c2 : Nat) (t : Int) (d : Nat) (t2 : Int) (d2 : Nat) (w : World) (h1 : c < U64) (h3 : c2 < U64) (h5 : d < U64) (h7 : d2 < U64) :
    Calls Try.prog 25 #[.agg #[.int .i64 s, .int .u64 c, .int .i64 s2, .int .u64 c2], .agg #[.int .i64 t, .int .u64 d, .int .i64 t2, .int .u64 d2]] w fun e w' => e = .returned (.bool (domL t d s c && domL s2 c2 t2 d2)) ∧ Below w.heap.size w w' := by
  obtain ⟨hB, hB2, hW, _⟩ := two_box w 26 26 #[.int .i64 s, .int .u64 c, .int .i64 s2, .int .u64 c2] #[.int .i64 t, .int .u64 d, .int .i64 t2, .int .u64 d2]
  have HD1 := Lib.hid (fun w => dominates_c t d s c w h5 h1)
  have HD2 := Lib.hid (fun w => dominates_c s2 c2 t2 d2 w h3 h7)
  obtain ⟨k1, hk1⟩ : ∃ k, domL t d s c = k := ⟨_, rfl⟩
  obtain ⟨k2, hk2⟩ : ∃ k, domL s2 c2 t2 d2 = k := ⟨_, rfl⟩
  rw [hk1] at HD1 ⊢
  rw [hk2] at HD2 ⊢
  clear hk1 hk2
  cases k1
  all_goals
    go_enter Try.func25, Try.ntmps25
    go_wp2_with fail
    generalize (w.alloc (.cells #[.int .i64 s, .int .u64 c, .int .i64 s2, .int .u64 c2] 26)).alloc (.cells #[.int .i64 t, .int .u64 d, .int .i64 t2, .int .u64 d2] 26) = W at *
    have HB := Lib.hid hB
    have HB2 := Lib.hid hB2
    have HW := Lib.hid hW
    have hC0 : Kp W W := Kp.rfl'
    clear hB hB2 hW
    go_wp2_with (first
      | (go_at_call 17; (with_reducible refine (HD1.out _).mono ?_); rintro e w2 ⟨rfl, hb2⟩; have hC2 := Kp.step (by assumption) hb2; obtain ⟨p0, p1, p2, p3⟩ := (Kp.blk hC2 HB.out).box4; obtain ⟨q0, q1, q2, q3⟩ := (Kp.blk hC2 HB2.out).box4; clear hb2)
      | (go_at_call 17; (with_reducible refine (HD2.out _).mono ?_); rintro e w3 ⟨rfl, hb3⟩; have hC3 := Kp.step (by assumption) hb3; obtain ⟨p0, p1, p2, p3⟩ := (Kp.blk hC3 HB.out).box4; obtain ⟨q0, q1, q2, q3⟩ := (Kp.blk hC3 HB2.out).box4; clear hb3))
    go_ret
    exact ⟨rfl, HW.out.trans (Below.mono (by assumption) HW.out.size)⟩
set_option maxRecDepth 100000 in
set_option maxHeartbeats 4000000 in
theorem rcheckRange_c (s : Int) (c : Nat) (s2 : Int) (c2 : Nat) (sens cats : Int) (w : World) (h1 : c < U64) (h3 : c2 < U64) :
    Calls Try.prog 15 #[.agg #[.int .i64 s, .int .u64 c, .int .i64 s2, .int .u64 c2], .int .i64 sens, .int .i64 cats] w fun e w' => e = .returned (.bool (chkL s c sens cats && (chkL s2 c2 sens cats && domL s2 c2 s c))) ∧ Below w.heap.size w w' := by
  have hB : Blk (w.alloc (.cells #[.int .i64 s, .int .u64 c, .int .i64 s2, .int .u64 c2] 26)) w.heap.size 26 _ := Blk.new w 26 #[.int .i64 s, .int .u64 c, .int .i64 s2, .int .u64 c2]
  have hW : Below w.heap.size w (w.alloc (.cells #[.int .i64 s, .int .u64 c, .int .i64 s2, .int .u64 c2] 26)) := (Below.refl _ _).alloc (Nat.le_refl _) _
  have HC1 := Lib.hid (fun w => rcheck_c s c sens cats w h1)
  have HC2 := Lib.hid (fun w => rcheck_c s2 c2 sens cats w h3)
  have HD := Lib.hid (fun w => rdominates_c s2 c2 s c w h3 h1)
  obtain ⟨k1, hk1⟩ : ∃ k, chkL s c sens cats = k := ⟨_, rfl⟩
  obtain ⟨k2, hk2⟩ : ∃ k, chkL s2 c2 sens cats = k := ⟨_, rfl⟩
  obtain ⟨k3, hk3⟩ : ∃ k, domL s2 c2 s c = k := ⟨_, rfl⟩
  rw [hk1] at HC1 ⊢
  rw [hk2] at HC2 ⊢
  rw [hk3] at HD ⊢
  clear hk1 hk2 hk3
  cases k1 <;> cases k2
  all_goals
    go_enter Try.func15, Try.ntmps15
    go_wp2_with fail
    generalize w.alloc (.cells #[.int .i64 s, .int .u64 c, .int .i64 s2, .int .u64 c2] 26) = W at *
    have HB := Lib.hid hB
    have HW := Lib.hid hW
    have hC0 : Kp W W := Kp.rfl'
    clear hB hW
    go_wp2_with (first
      | (go_at_call 13; (with_reducible refine (HC1.out _).mono ?_); rintro e w2 ⟨rfl, hb2⟩; have hC2 := Kp.step (by assumption) hb2; obtain ⟨p0, p1, p2, p3⟩ := (Kp.blk hC2 HB.out).box4; clear hb2)
      | (go_at_call 13; (with_reducible refine (HC2.out _).mono ?_); rintro e w3 ⟨rfl, hb3⟩; have hC3 := Kp.step (by assumption) hb3; obtain ⟨p0, p1, p2, p3⟩ := (Kp.blk hC3 HB.out).box4; clear hb3)
      | (go_at_call 19; (with_reducible refine (HD.out _).mono ?_); rintro e w4 ⟨rfl, hb4⟩; have hC4 := Kp.step (by assumption) hb4; obtain ⟨p0, p1, p2, p3⟩ := (Kp.blk hC4 HB.out).box4; clear hb4))
    go_ret
    exact ⟨rfl, HW.out.trans (Below.mono (by assumption) HW.out.size)⟩
set_option maxRecDepth 100000 in
set_option maxHeartbeats 4000000 in
theorem rcontains_c (s : Int) (c : Nat) (s2 : Int) (c2 : Nat) (t : Int) (d : Nat) (t2 : Int) (d2 : Nat) (w : World) (h1 : c < U64) (h3 : c2 < U64) (h5 : d < U64) (h7 : d2 < U64) :
    Calls Try.prog 26 #[.agg #[.int .i64 s, .int .u64 c, .int .i64 s2, .int .u64 c2], .agg #[.int .i64 t, .int .u64 d, .int .i64 t2, .int .u64 d2]] w fun e w' => e = .returned (.bool (domL t d s c && domL s2 c2 t2 d2)) ∧ Below w.heap.size w w' := by
  obtain ⟨hB, hB2, hW, _⟩ := two_box w 26 26 #[.int .i64 s, .int .u64 c, .int .i64 s2, .int .u64 c2] #[.int .i64 t, .int .u64 d, .int .i64 t2, .int .u64 d2]
  have HD1 := Lib.hid (fun w => rdominates_c t d s c w h5 h1)
  have HD2 := Lib.hid (fun w => rdominates_c s2 c2 t2 d2 w h3 h7)
  obtain ⟨k1, hk1⟩ : ∃ k, domL t d s c = k := ⟨_, rfl⟩
  obtain ⟨k2, hk2⟩ : ∃ k, domL s2 c2 t2 d2 = k := ⟨_, rfl⟩
  rw [hk1] at HD1 ⊢
  rw [hk2] at HD2 ⊢
  clear hk1 hk2
  cases k1
  all_goals
    go_enter Try.func26, Try.ntmps26
    go_wp2_with fail
    generalize (w.alloc (.cells #[.int .i64 s, .int .u64 c, .int .i64 s2, .int .u64 c2] 26)).alloc (.cells #[.int .i64 t, .int .u64 d, .int .i64 t2, .int .u64 d2] 26) = W at *
    have HB := Lib.hid hB
    have HB2 := Lib.hid hB2
    have HW := Lib.hid hW
    have hC0 : Kp W W := Kp.rfl'
    clear hB hB2 hW
    go_wp2_with (first
      | (go_at_call 19; (with_reducible refine (HD1.out _).mono ?_); rintro e w2 ⟨rfl, hb2⟩; have hC2 := Kp.step (by assumption) hb2; obtain ⟨p0, p1, p2, p3⟩ := (Kp.blk hC2 HB.out).box4; obtain ⟨q0, q1, q2, q3⟩ := (Kp.blk hC2 HB2.out).box4; clear hb2)
      | (go_at_call 19; (with_reducible refine (HD2.out _).mono ?_); rintro e w3 ⟨rfl, hb3⟩; have hC3 := Kp.step (by assumption) hb3; obtain ⟨p0, p1, p2, p3⟩ := (Kp.blk hC3 HB.out).box4; obtain ⟨q0, q1, q2, q3⟩ := (Kp.blk hC3 HB2.out).box4; clear hb3))
    go_ret
    exact ⟨rfl, HW.out.trans (Below.mono (by assumption) HW.out.size)⟩
end Go.Proofs.Ythjebccidcichaa
