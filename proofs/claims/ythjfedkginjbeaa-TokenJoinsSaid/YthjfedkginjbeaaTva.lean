/- The law TokenJoins, walked. -/
import Derived.Test.YthjfedkginjbeaaTuz
namespace Go.Proofs.Ythjfedkginjbeaa
open Go.RowKit
@[go_sem] theorem field_pos (x y : Int) (w : World) : (Instr.field 26 (.agg #[.int .i64 x, .int .i64 y]) 0).run Try.prog w = .ok (.int .i64 x) w := by
  rfl
/-- a contract of Scan at a source -/
def ScanIs (s : ByteArray) (l : List TI) (x0 x1 x2 : Int) : Prop := ∀ w, Calls Try.prog 14 #[.string s] w fun e w' => ∃ v, e = .returned (.tuple #[v, .agg #[.int .i64 x0, .int .i64 x1, .int .i64 x2, .string ⟨#[]⟩]]) ∧ Toks w' v l ∧ Below w.heap.size w w'
theorem scanIs (s : ByteArray) (hm : s.size ≤ 65536) {o : Option (Int × Nat)} {l : List Tk} (h : scF s (s.size + 1) 0 [] = (o, l)) {x0 x1 x2 : Int} (hf : faultV s o = .agg #[.int .i64 x0, .int .i64 x1, .int .i64 x2, .string ⟨#[]⟩]) : ScanIs s (l.map Tk.toI) x0 x1 x2 := by
  intro w
  have := scan_t s w hm
  rw [h] at this
  simp only [hf] at this
  exact this
set_option maxRecDepth 100000 in
set_option maxHeartbeats 8000000 in
/-- the first source has a fault -/
theorem joins_1 (s t : ByteArray) (w : World) {LA LB LJ : List TI} {a0 a1 a2 b0 b1 b2 j0 j1 j2 : Int} (hs : s.size ≤ 300) (ht : t.size ≤ 300) (HA : Hid (ScanIs s LA a0 a1 a2)) (HB : Hid (ScanIs t LB b0 b1 b2)) (HJ : Hid (ScanIs (s ++ ⟨#[10]⟩ ++ t) LJ j0 j1 j2))
    (ha : a0 ≠ 0) (hj : j0 ≠ 0) (he : a0 = 5 ∨ (j0 = a0 ∧ j1 = a1 ∧ j2 = a2)) :
    Calls Try.prog 11 #[.string s, .string t] w fun e w' => e = .returned (.bool true) ∧ Below w.heap.size w w' := by
  have m1 : ¬ 9223372036854775807 < s.size + 1 := by omega
  have m2 : ¬ 9223372036854775807 < s.size + 1 + t.size := by omega
  have m3 : ¬ (300 : Int) < (s.size : Int) := by omega
  have m4 : ¬ (300 : Int) < (t.size : Int) := by omega
  have q1 : (a0 != 0) = true := by simpa using ha
  have q2 : (j0 != 0) = true := by simpa using hj
  go_enter Try.func11, Try.ntmps11
  go_wp2_with fail
  refine (HA.out _).mono ?_
  rintro e w2 ⟨v1, rfl, ⟨ao1, cap1, rfl, hc1, hr1⟩, hb2⟩
  have hT1 : Hid (Toks w2 (.slice ao1 LA.length cap1) LA) := Lib.hid ⟨ao1, cap1, rfl, hc1, hr1⟩
  clear hr1
  go_wp2_with fail
  have F1 : Blk (w2.alloc (.cells #[.int .i64 a0, .int .i64 a1, .int .i64 a2, .string ⟨#[]⟩] 28)) w2.heap.size 28 #[.int .i64 a0, .int .i64 a1, .int .i64 a2, .string ⟨#[]⟩] := Blk.new w2 _ _
  have T1 : Hid (Toks (w2.alloc (.cells #[.int .i64 a0, .int .i64 a1, .int .i64 a2, .string ⟨#[]⟩] 28)) (.slice ao1 LA.length cap1) LA) := Lib.hid (hT1.out.keep ((Below.refl _ _).alloc (Nat.le_refl _) _))
  have hbA := hb2.alloc hb2.size (.cells #[.int .i64 a0, .int .i64 a1, .int .i64 a2, .string ⟨#[]⟩] 28)
  obtain ⟨f1, hf1⟩ : ∃ f, w2.heap.size = f := ⟨_, rfl⟩
  rw [hf1] at F1
  simp only [hf1]
  generalize w2.alloc (.cells #[.int .i64 a0, .int .i64 a1, .int .i64 a2, .string ⟨#[]⟩] 28) = W1 at *
  clear hT1 hb2 hf1 w2
  refine (HB.out _).mono ?_
  rintro e w2 ⟨v2, rfl, ⟨ao2, cap2, rfl, hc2, hr2⟩, hb2⟩
  have hT2 : Hid (Toks w2 (.slice ao2 LB.length cap2) LB) := Lib.hid ⟨ao2, cap2, rfl, hc2, hr2⟩
  have F1' := F1.keep hb2
  have T1' := Lib.hid (T1.out.keep hb2)
  have hbB := hbA.trans (hb2.mono hbA.size)
  clear hr2 F1 T1 hbA
  go_wp2_with fail
  have F2 : Blk (w2.alloc (.cells #[.int .i64 b0, .int .i64 b1, .int .i64 b2, .string ⟨#[]⟩] 28)) w2.heap.size 28 #[.int .i64 b0, .int .i64 b1, .int .i64 b2, .string ⟨#[]⟩] := Blk.new w2 _ _
  have F1 := F1'.alloc (.cells #[.int .i64 b0, .int .i64 b1, .int .i64 b2, .string ⟨#[]⟩] 28)
  have T2 : Hid (Toks (w2.alloc (.cells #[.int .i64 b0, .int .i64 b1, .int .i64 b2, .string ⟨#[]⟩] 28)) (.slice ao2 LB.length cap2) LB) := Lib.hid (hT2.out.keep ((Below.refl _ _).alloc (Nat.le_refl _) _))
  have T1 : Hid (Toks (w2.alloc (.cells #[.int .i64 b0, .int .i64 b1, .int .i64 b2, .string ⟨#[]⟩] 28)) (.slice ao1 LA.length cap1) LA) := Lib.hid (T1'.out.keep ((Below.refl _ _).alloc (Nat.le_refl _) _))
  have hbA := hbB.alloc hbB.size (.cells #[.int .i64 b0, .int .i64 b1, .int .i64 b2, .string ⟨#[]⟩] 28)
  obtain ⟨f2, hf2⟩ : ∃ f, w2.heap.size = f := ⟨_, rfl⟩
  rw [hf2] at F2
  have hg2 := hbB.size
  rw [hf2] at hg2
  simp only [hf2]
  generalize w2.alloc (.cells #[.int .i64 b0, .int .i64 b1, .int .i64 b2, .string ⟨#[]⟩] 28) = W2 at *
  clear hT2 hb2 hf2 F1' T1' hbB w2
  refine (HJ.out _).mono ?_
  rintro e w2 ⟨v3, rfl, ⟨ao3, cap3, rfl, hc3, hr3⟩, hb2⟩
  have hT3 : Hid (Toks w2 (.slice ao3 LJ.length cap3) LJ) := Lib.hid ⟨ao3, cap3, rfl, hc3, hr3⟩
  have F1' := F1.keep hb2
  have T1' := Lib.hid (T1.out.keep hb2)
  have F2' := F2.keep hb2
  have T2' := Lib.hid (T2.out.keep hb2)
  have hbB := hbA.trans (hb2.mono hbA.size)
  clear hr3 F1 T1 F2 T2 hbA
  have F3 : Blk (w2.alloc (.cells #[.int .i64 j0, .int .i64 j1, .int .i64 j2, .string ⟨#[]⟩] 28)) w2.heap.size 28 #[.int .i64 j0, .int .i64 j1, .int .i64 j2, .string ⟨#[]⟩] := Blk.new w2 _ _
  have F1 := F1'.alloc (.cells #[.int .i64 j0, .int .i64 j1, .int .i64 j2, .string ⟨#[]⟩] 28)
  have F2 := F2'.alloc (.cells #[.int .i64 j0, .int .i64 j1, .int .i64 j2, .string ⟨#[]⟩] 28)
  have T3 : Hid (Toks (w2.alloc (.cells #[.int .i64 j0, .int .i64 j1, .int .i64 j2, .string ⟨#[]⟩] 28)) (.slice ao3 LJ.length cap3) LJ) := Lib.hid (hT3.out.keep ((Below.refl _ _).alloc (Nat.le_refl _) _))
  have T2 : Hid (Toks (w2.alloc (.cells #[.int .i64 j0, .int .i64 j1, .int .i64 j2, .string ⟨#[]⟩] 28)) (.slice ao2 LB.length cap2) LB) := Lib.hid (T2'.out.keep ((Below.refl _ _).alloc (Nat.le_refl _) _))
  have T1 : Hid (Toks (w2.alloc (.cells #[.int .i64 j0, .int .i64 j1, .int .i64 j2, .string ⟨#[]⟩] 28)) (.slice ao1 LA.length cap1) LA) := Lib.hid (T1'.out.keep ((Below.refl _ _).alloc (Nat.le_refl _) _))
  have hb := hbB.alloc hbB.size (.cells #[.int .i64 j0, .int .i64 j1, .int .i64 j2, .string ⟨#[]⟩] 28)
  have hl2 := F2'.lt
  clear hT3 F1' F2' T1' T2' hbB hb2
  obtain ⟨x0, x1, x2, x3, _⟩ := cells4 F1
  obtain ⟨z0, z1, z2, z3, _⟩ := cells4 F3
  rcases he with rfl | ⟨rfl, rfl, rfl⟩
  · go_wp2_with (go_at_call 13; refine (awake_c _).mono ?_; rintro e w9 ⟨rfl, hq⟩; replace hb := hb.trans (hq.mono hb.size); clear hq)
    go_ret
    exact ⟨rfl, hb⟩
  · cases h5 : (j0 == 5)
    all_goals
      go_wp2_with (go_at_call 13; refine (awake_c _).mono ?_; rintro e w9 ⟨rfl, hq⟩; replace hb := hb.trans (hq.mono hb.size); clear hq)
      go_ret
      exact ⟨rfl, hb⟩
set_option maxRecDepth 100000 in
set_option maxHeartbeats 8000000 in
/-- the second source has a fault -/
theorem joins_2 (s t : ByteArray) (w : World) {LA LB LJ : List TI} {a1 a2 b0 b1 b2 P : Int} (hs : s.size ≤ 300) (ht : t.size ≤ 300) (HA : Hid (ScanIs s LA 0 a1 a2)) (HB : Hid (ScanIs t LB b0 b1 b2)) (HJ : Hid (ScanIs (s ++ ⟨#[10]⟩ ++ t) LJ b0 (b1 + P) b2))
    (hb0 : b0 ≠ 0) (h1 : 0 ≤ b1) (h1' : b1 ≤ 1000) (hP : (posI s s.size).1 = P) :
    Calls Try.prog 11 #[.string s, .string t] w fun e w' => e = .returned (.bool true) ∧ Below w.heap.size w w' := by
  have m1 : ¬ 9223372036854775807 < s.size + 1 := by omega
  have m2 : ¬ 9223372036854775807 < s.size + 1 + t.size := by omega
  have m3 : ¬ (300 : Int) < (s.size : Int) := by omega
  have m4 : ¬ (300 : Int) < (t.size : Int) := by omega
  have q1 : (b0 != 0) = true := by simpa using hb0
  have hpb := posI_bd s s.size
  have hLoc := fun w => loc_in s s.size w (Nat.le_refl _) (by omega)
  rw [hP] at hpb hLoc
  have hp0 := hpb.1
  have hp1 : P ≤ 301 := by omega
  have HLoc := Lib.hid hLoc
  clear hpb hLoc hP
  go_enter Try.func11, Try.ntmps11
  go_wp2_with fail
  refine (HA.out _).mono ?_
  rintro e w2 ⟨v1, rfl, ⟨ao1, cap1, rfl, hc1, hr1⟩, hb2⟩
  have hT1 : Hid (Toks w2 (.slice ao1 LA.length cap1) LA) := Lib.hid ⟨ao1, cap1, rfl, hc1, hr1⟩
  clear hr1
  go_wp2_with fail
  have F1 : Blk (w2.alloc (.cells #[.int .i64 0, .int .i64 a1, .int .i64 a2, .string ⟨#[]⟩] 28)) w2.heap.size 28 #[.int .i64 0, .int .i64 a1, .int .i64 a2, .string ⟨#[]⟩] := Blk.new w2 _ _
  have T1 : Hid (Toks (w2.alloc (.cells #[.int .i64 0, .int .i64 a1, .int .i64 a2, .string ⟨#[]⟩] 28)) (.slice ao1 LA.length cap1) LA) := Lib.hid (hT1.out.keep ((Below.refl _ _).alloc (Nat.le_refl _) _))
  have hbA := hb2.alloc hb2.size (.cells #[.int .i64 0, .int .i64 a1, .int .i64 a2, .string ⟨#[]⟩] 28)
  obtain ⟨f1, hf1⟩ : ∃ f, w2.heap.size = f := ⟨_, rfl⟩
  rw [hf1] at F1
  simp only [hf1]
  generalize w2.alloc (.cells #[.int .i64 0, .int .i64 a1, .int .i64 a2, .string ⟨#[]⟩] 28) = W1 at *
  clear hT1 hb2 hf1 w2
  refine (HB.out _).mono ?_
  rintro e w2 ⟨v2, rfl, ⟨ao2, cap2, rfl, hc2, hr2⟩, hb2⟩
  have hT2 : Hid (Toks w2 (.slice ao2 LB.length cap2) LB) := Lib.hid ⟨ao2, cap2, rfl, hc2, hr2⟩
  have F1' := F1.keep hb2
  have T1' := Lib.hid (T1.out.keep hb2)
  have hbB := hbA.trans (hb2.mono hbA.size)
  clear hr2 F1 T1 hbA
  go_wp2_with fail
  have F2 : Blk (w2.alloc (.cells #[.int .i64 b0, .int .i64 b1, .int .i64 b2, .string ⟨#[]⟩] 28)) w2.heap.size 28 #[.int .i64 b0, .int .i64 b1, .int .i64 b2, .string ⟨#[]⟩] := Blk.new w2 _ _
  have F1 := F1'.alloc (.cells #[.int .i64 b0, .int .i64 b1, .int .i64 b2, .string ⟨#[]⟩] 28)
  have T2 : Hid (Toks (w2.alloc (.cells #[.int .i64 b0, .int .i64 b1, .int .i64 b2, .string ⟨#[]⟩] 28)) (.slice ao2 LB.length cap2) LB) := Lib.hid (hT2.out.keep ((Below.refl _ _).alloc (Nat.le_refl _) _))
  have T1 : Hid (Toks (w2.alloc (.cells #[.int .i64 b0, .int .i64 b1, .int .i64 b2, .string ⟨#[]⟩] 28)) (.slice ao1 LA.length cap1) LA) := Lib.hid (T1'.out.keep ((Below.refl _ _).alloc (Nat.le_refl _) _))
  have hbA := hbB.alloc hbB.size (.cells #[.int .i64 b0, .int .i64 b1, .int .i64 b2, .string ⟨#[]⟩] 28)
  obtain ⟨f2, hf2⟩ : ∃ f, w2.heap.size = f := ⟨_, rfl⟩
  rw [hf2] at F2
  have hg2 := hbB.size
  rw [hf2] at hg2
  simp only [hf2]
  generalize w2.alloc (.cells #[.int .i64 b0, .int .i64 b1, .int .i64 b2, .string ⟨#[]⟩] 28) = W2 at *
  clear hT2 hb2 hf2 F1' T1' hbB w2
  refine (HJ.out _).mono ?_
  rintro e w2 ⟨v3, rfl, ⟨ao3, cap3, rfl, hc3, hr3⟩, hb2⟩
  have hT3 : Hid (Toks w2 (.slice ao3 LJ.length cap3) LJ) := Lib.hid ⟨ao3, cap3, rfl, hc3, hr3⟩
  have F1' := F1.keep hb2
  have T1' := Lib.hid (T1.out.keep hb2)
  have F2' := F2.keep hb2
  have T2' := Lib.hid (T2.out.keep hb2)
  have hbB := hbA.trans (hb2.mono hbA.size)
  clear hr3 F1 T1 F2 T2 hbA
  have F3 : Blk (w2.alloc (.cells #[.int .i64 b0, .int .i64 (b1 + P), .int .i64 b2, .string ⟨#[]⟩] 28)) w2.heap.size 28 #[.int .i64 b0, .int .i64 (b1 + P), .int .i64 b2, .string ⟨#[]⟩] := Blk.new w2 _ _
  have F1 := F1'.alloc (.cells #[.int .i64 b0, .int .i64 (b1 + P), .int .i64 b2, .string ⟨#[]⟩] 28)
  have F2 := F2'.alloc (.cells #[.int .i64 b0, .int .i64 (b1 + P), .int .i64 b2, .string ⟨#[]⟩] 28)
  have T3 : Hid (Toks (w2.alloc (.cells #[.int .i64 b0, .int .i64 (b1 + P), .int .i64 b2, .string ⟨#[]⟩] 28)) (.slice ao3 LJ.length cap3) LJ) := Lib.hid (hT3.out.keep ((Below.refl _ _).alloc (Nat.le_refl _) _))
  have T2 : Hid (Toks (w2.alloc (.cells #[.int .i64 b0, .int .i64 (b1 + P), .int .i64 b2, .string ⟨#[]⟩] 28)) (.slice ao2 LB.length cap2) LB) := Lib.hid (T2'.out.keep ((Below.refl _ _).alloc (Nat.le_refl _) _))
  have T1 : Hid (Toks (w2.alloc (.cells #[.int .i64 b0, .int .i64 (b1 + P), .int .i64 b2, .string ⟨#[]⟩] 28)) (.slice ao1 LA.length cap1) LA) := Lib.hid (T1'.out.keep ((Below.refl _ _).alloc (Nat.le_refl _) _))
  have hb := hbB.alloc hbB.size (.cells #[.int .i64 b0, .int .i64 (b1 + P), .int .i64 b2, .string ⟨#[]⟩] 28)
  have hl2 := F2'.lt
  clear hT3 F1' F2' T1' T2' hbB hb2
  obtain ⟨x0, x1, x2, x3, _⟩ := cells4 F1
  obtain ⟨y0, y1, y2, y3, y4, y5, y6, y7⟩ := cells4 F2
  go_wp2_with fail
  have hwr : IntKind.i64.wrap (b1 + P) = b1 + P := by
    unfold IntKind.wrap
    simp [IntKind.signed, IntKind.bits]
    omega
  clear x0 x1 x2 x3 F1 T1 T2 T3
  go_region_with (go_at_call 28; refine (HLoc.out _).mono ?_; rintro e w5 ⟨rfl, hb5⟩; obtain ⟨u0, u1, u2, u3, u4, u5, u6, u7⟩ := cells4 (Blk.keep (Blk.drew F2) hb5))
  all_goals
    have hs5 := hb5.size
    have F2n : Blk (w5.setCell ⟨f2, 1, none⟩ (.int .i64 (b1 + P))) f2 28 #[.int .i64 b0, .int .i64 (b1 + P), .int .i64 b2, .string ⟨#[]⟩] := by simpa using (Blk.keep (Blk.drew F2) hb5).set 1 (.int .i64 (b1 + P))
    have F3n := (Blk.keep (Blk.drew F3) hb5).far (p := ⟨f2, 1, none⟩) (by simp; omega) (.int .i64 (b1 + P))
    have hbn := (hb.drew.trans (Below.mono hb5 hb.size)).setCell (p := ⟨f2, 1, none⟩) hg2 (.int .i64 (b1 + P))
    try rw [hwr]
    generalize w5.setCell ⟨f2, 1, none⟩ (.int .i64 (b1 + P)) = W5 at *
    clear y0 y1 y2 y3 y4 y5 y6 y7 u0 u1 u2 u3 u4 u5 u6 u7 F2 F3 hb5
    obtain ⟨y0, y1, y2, y3, _⟩ := cells4 F2n
    obtain ⟨z0, z1, z2, z3, _⟩ := cells4 F3n
    go_wp2_with (go_at_call 13; refine (awake_c _).mono ?_; rintro e w9 ⟨rfl, hq⟩; replace hbn := hbn.trans (hq.mono hbn.size); clear hq)
    go_ret
    exact ⟨rfl, hbn⟩
theorem Row.drop {w : World} {g o n : Nat} {l : List TI} (h : Row w g o l) : Row w g (o + n * 4) (l.drop n) := by
  intro i t ht
  rw [List.getElem?_drop] at ht
  have := h (n + i) t ht
  rw [show o + (n + i) * 4 = o + n * 4 + i * 4 by omega] at this
  exact this
set_option maxRecDepth 100000 in
set_option maxHeartbeats 8000000 in
/-- both sources are right -/
theorem joins_3 (s t : ByteArray) (w : World) {LA LB LJ T1 T2 : List TI} {N M : Nat} {e : TI} (hs : s.size ≤ 300) (ht : t.size ≤ 300) (HA : Hid (ScanIs s LA 0 0 0)) (HB : Hid (ScanIs t LB 0 0 0)) (HJ : Hid (ScanIs (s ++ ⟨#[10]⟩ ++ t) LJ 0 0 0))
    (g1 : LA = T1 ++ [e]) (g2 : LJ = T1 ++ T2) (g3 : T2.map TI.key = LB.map TI.key) (g4 : T1.length = N) (g5 : LB.length = M) (g6 : 0 < M) (g7 : N ≤ 100000) (g8 : M ≤ 100000) :
    Calls Try.prog 11 #[.string s, .string t] w fun e w' => e = .returned (.bool true) ∧ Below w.heap.size w w' := by
  have m1 : ¬ 9223372036854775807 < s.size + 1 := by omega
  have m2 : ¬ 9223372036854775807 < s.size + 1 + t.size := by omega
  have m3 : ¬ (300 : Int) < (s.size : Int) := by omega
  have m4 : ¬ (300 : Int) < (t.size : Int) := by omega
  have hT2 : T2.length = M := by have := congrArg List.length g3; simp at this; omega
  have hLA : LA.length = N + 1 := by rw [g1]; simp [g4]
  obtain ⟨Z, hLJ⟩ : ∃ Z, LJ.length = Z := ⟨_, rfl⟩
  have hZ : Z = N + M := by rw [← hLJ, g2]; simp [g4, hT2]
  have hZ1 : ((Z : Int) == (N : Int) + (M : Int)) = true := by simp; omega
  have hZ2 : (N : Int) ≤ (Z : Int) := by omega
  have HZ := Lib.hid hZ
  have s1 : sameL (LJ.take N) (LA.take N) = true := by
    rw [g1, g2, List.take_left' g4, List.take_left' g4]
    exact sameL_self _
  have s2 : sameL (LJ.drop N) LB = true := by
    rw [g2, List.drop_left' g4]
    exact decide_eq_true g3
  have S1 := Lib.hid s1
  have S2 := Lib.hid s2
  clear s1 s2 g1 g2 g3 g4 hT2 hZ
  go_enter Try.func11, Try.ntmps11
  go_wp2_with fail
  refine (HA.out _).mono ?_
  rintro e w2 ⟨v1, rfl, ⟨ao1, cap1, rfl, hc1, hr1⟩, hb2⟩
  have hT1 : Hid (Toks w2 (.slice ao1 LA.length cap1) LA) := Lib.hid ⟨ao1, cap1, rfl, hc1, hr1⟩
  clear hr1
  go_wp2_with fail
  have F1 : Blk (w2.alloc (.cells #[.int .i64 0, .int .i64 0, .int .i64 0, .string ⟨#[]⟩] 28)) w2.heap.size 28 #[.int .i64 0, .int .i64 0, .int .i64 0, .string ⟨#[]⟩] := Blk.new w2 _ _
  have T1 : Hid (Toks (w2.alloc (.cells #[.int .i64 0, .int .i64 0, .int .i64 0, .string ⟨#[]⟩] 28)) (.slice ao1 LA.length cap1) LA) := Lib.hid (hT1.out.keep ((Below.refl _ _).alloc (Nat.le_refl _) _))
  have hbA := hb2.alloc hb2.size (.cells #[.int .i64 0, .int .i64 0, .int .i64 0, .string ⟨#[]⟩] 28)
  obtain ⟨f1, hf1⟩ : ∃ f, w2.heap.size = f := ⟨_, rfl⟩
  rw [hf1] at F1
  simp only [hf1]
  generalize w2.alloc (.cells #[.int .i64 0, .int .i64 0, .int .i64 0, .string ⟨#[]⟩] 28) = W1 at *
  clear hT1 hb2 hf1 w2
  refine (HB.out _).mono ?_
  rintro e w2 ⟨v2, rfl, ⟨ao2, cap2, rfl, hc2, hr2⟩, hb2⟩
  have hT2 : Hid (Toks w2 (.slice ao2 LB.length cap2) LB) := Lib.hid ⟨ao2, cap2, rfl, hc2, hr2⟩
  have F1' := F1.keep hb2
  have T1' := Lib.hid (T1.out.keep hb2)
  have hbB := hbA.trans (hb2.mono hbA.size)
  clear hr2 F1 T1 hbA
  go_wp2_with fail
  have F2 : Blk (w2.alloc (.cells #[.int .i64 0, .int .i64 0, .int .i64 0, .string ⟨#[]⟩] 28)) w2.heap.size 28 #[.int .i64 0, .int .i64 0, .int .i64 0, .string ⟨#[]⟩] := Blk.new w2 _ _
  have F1 := F1'.alloc (.cells #[.int .i64 0, .int .i64 0, .int .i64 0, .string ⟨#[]⟩] 28)
  have T2 : Hid (Toks (w2.alloc (.cells #[.int .i64 0, .int .i64 0, .int .i64 0, .string ⟨#[]⟩] 28)) (.slice ao2 LB.length cap2) LB) := Lib.hid (hT2.out.keep ((Below.refl _ _).alloc (Nat.le_refl _) _))
  have T1 : Hid (Toks (w2.alloc (.cells #[.int .i64 0, .int .i64 0, .int .i64 0, .string ⟨#[]⟩] 28)) (.slice ao1 LA.length cap1) LA) := Lib.hid (T1'.out.keep ((Below.refl _ _).alloc (Nat.le_refl _) _))
  have hbA := hbB.alloc hbB.size (.cells #[.int .i64 0, .int .i64 0, .int .i64 0, .string ⟨#[]⟩] 28)
  obtain ⟨f2, hf2⟩ : ∃ f, w2.heap.size = f := ⟨_, rfl⟩
  rw [hf2] at F2
  have hg2 := hbB.size
  rw [hf2] at hg2
  simp only [hf2]
  generalize w2.alloc (.cells #[.int .i64 0, .int .i64 0, .int .i64 0, .string ⟨#[]⟩] 28) = W2 at *
  clear hT2 hb2 hf2 F1' T1' hbB w2
  refine (HJ.out _).mono ?_
  rintro e w2 ⟨v3, rfl, ⟨ao3, cap3, rfl, hc3, hr3⟩, hb2⟩
  have hT3 : Hid (Toks w2 (.slice ao3 LJ.length cap3) LJ) := Lib.hid ⟨ao3, cap3, rfl, hc3, hr3⟩
  have F1' := F1.keep hb2
  have T1' := Lib.hid (T1.out.keep hb2)
  have F2' := F2.keep hb2
  have T2' := Lib.hid (T2.out.keep hb2)
  have hbB := hbA.trans (hb2.mono hbA.size)
  clear hr3 F1 T1 F2 T2 hbA
  have x0 := fun o => (cells4 (F1'.alloc o)).1
  have y0 := fun o => (cells4 (F2'.alloc o)).1
  go_wp2_with fail
  have F3 : Blk (w2.alloc (.cells #[.int .i64 0, .int .i64 0, .int .i64 0, .string ⟨#[]⟩] 28)) w2.heap.size 28 #[.int .i64 0, .int .i64 0, .int .i64 0, .string ⟨#[]⟩] := Blk.new w2 _ _
  have F1 := F1'.alloc (.cells #[.int .i64 0, .int .i64 0, .int .i64 0, .string ⟨#[]⟩] 28)
  have F2 := F2'.alloc (.cells #[.int .i64 0, .int .i64 0, .int .i64 0, .string ⟨#[]⟩] 28)
  have T3 : Hid (Toks (w2.alloc (.cells #[.int .i64 0, .int .i64 0, .int .i64 0, .string ⟨#[]⟩] 28)) (.slice ao3 LJ.length cap3) LJ) := Lib.hid (hT3.out.keep ((Below.refl _ _).alloc (Nat.le_refl _) _))
  have T2 : Hid (Toks (w2.alloc (.cells #[.int .i64 0, .int .i64 0, .int .i64 0, .string ⟨#[]⟩] 28)) (.slice ao2 LB.length cap2) LB) := Lib.hid (T2'.out.keep ((Below.refl _ _).alloc (Nat.le_refl _) _))
  have T1 : Hid (Toks (w2.alloc (.cells #[.int .i64 0, .int .i64 0, .int .i64 0, .string ⟨#[]⟩] 28)) (.slice ao1 LA.length cap1) LA) := Lib.hid (T1'.out.keep ((Below.refl _ _).alloc (Nat.le_refl _) _))
  have hb := hbB.alloc hbB.size (.cells #[.int .i64 0, .int .i64 0, .int .i64 0, .string ⟨#[]⟩] 28)
  have hl2 := F2'.lt
  clear hT3 F1' F2' T1' T2' hbB hb2
  rw [hLA] at hc1 T1
  rw [hLJ] at hc3 T3
  rw [g5] at hc2 T2
  obtain ⟨ao', cap', hv, _, hr⟩ := T3.out
  obtain ⟨h1, _, h3⟩ := Value.slice.inj hv
  subst h1 h3
  obtain ⟨g, o, rfl, hRow⟩ := hr (by rintro rfl; have := HZ.out; simp only [List.length_nil] at hLJ; omega)
  have n1 : (N : Int) ≤ (cap3 : Int) := by omega
  have n2 : (N : Int) ≤ (cap1 : Int) := by omega
  have n3 : ¬ (N : Int) < 0 := by omega
  have n4 : (0 : Int) ≤ (N : Int) := by omega
  generalize w2.alloc (.cells #[.int .i64 0, .int .i64 0, .int .i64 0, .string ⟨#[]⟩] 28) = W at *
  have hS1 : ∀ w1, Kp W w1 → Calls Try.prog 26 #[.slice (some ⟨g, o, none⟩) N cap3, .slice ao1 N cap1] w1 fun e w' => e = .returned (.bool true) ∧ Below w1.heap.size w1 w' := fun w1 hC => by
    have t1 := (T3.out.take N (by have := HZ.out; omega)).keep hC
    have t2 := (T1.out.take N (by omega)).keep hC
    have := same_c _ _ _ _ w1 (by rw [List.length_take]; have := HZ.out; omega) (by rw [List.length_take]; omega) t1 t2
    rwa [S1.out] at this
  have hS2 : ∀ w1, Kp W w1 → Calls Try.prog 26 #[.slice (some ⟨g, o + N * 4, none⟩) (Z - N) (cap3 - N), .slice ao2 M cap2] w1 fun e w' => e = .returned (.bool true) ∧ Below w1.heap.size w1 w' := fun w1 hC => by
    have t1 : Toks W (.slice (some ⟨g, o + N * 4, none⟩) (Z - N) (cap3 - N)) (LJ.drop N) := ⟨_, _, by rw [List.length_drop, hLJ], by rw [List.length_drop]; omega, fun _ => ⟨g, o + N * 4, rfl, hRow.drop⟩⟩
    have := same_c _ _ _ _ w1 (by rw [List.length_drop]; have := HZ.out; omega) (by omega) (t1.keep hC) (T2.out.keep hC)
    rwa [S2.out] at this
  have HS1 := Lib.hid hS1
  have HS2 := Lib.hid hS2
  have hS3 : ∀ w1, Kp W w1 → Calls Try.prog 26 #[.slice (some ⟨g, o + N * 4, none⟩) (LJ.length - N) (cap3 - N), .slice ao2 M cap2] w1 fun e w' => e = .returned (.bool true) ∧ Below w1.heap.size w1 w' := fun w1 hC => by
    rw [hLJ]
    exact hS2 w1 hC
  have HS3 := Lib.hid hS3
  clear hS3
  have n5 : decide ((0 : Int) ≤ (N : Int)) = true := decide_eq_true n4
  have hzc : (Z : Int) ≤ (cap3 : Int) := by omega
  have hq9 := HZ.out
  have hne1 : ¬ cap3 = N := by omega
  have hne2 : ¬ N = cap3 := by omega
  have hne3 : ¬ cap3 - N = 0 := by omega
  have hne4 : ¬ cap3 ≤ N := by omega
  have hne5 : N < cap3 := by omega
  have hne6 : (cap3 == N) = false := by simpa using hne1
  clear hq9
  clear hS1 hS2 hr hRow T1 T2 T3 x0 y0 hZ1 F1 F2 hLA g5 hLJ
  have hZ5 : (N : Int) + (M : Int) = (Z : Int) := by have := HZ.out; omega
  refine wp_region_kp (by kernel_rfl) (by kernel_rfl) ?_
  repeat (first
    | go_big_quiet_skip
    | (go_big_quiet_want
       go_big_quiet_op
       first
         | go_big_quiet_on
         | (apply Exists.intro
            refine ⟨fun w1 hC => ?_, ?_⟩
            · first
                | (go_at_call 26; with_reducible exact hC.call (HS1.out _ hC))
                | (go_at_call 26; with_reducible exact hC.call (HS2.out _ hC))
                | (go_at_call 26; with_reducible exact hC.call (HS3.out _ hC))
                | (go_at_call 13; with_reducible exact hC.call (awake_c _))
                | (obtain ⟨p0, p1, p2, p3, _⟩ := cells4 (hC.blk F3); go_simp; exact rfl)
            go_big_quiet_on)))
  refine wpQuiet_nil ?_
  intro W' hC
  go_wp2
  go_ret
  exact ⟨rfl, hb.trans (Below.mono hC hb.size)⟩
theorem scF_fle {s : ByteArray} {c : Int} {f : Nat} : ∀ n i acc, i ≤ s.size → (scF s n i acc).1 = some (c, f) → f ≤ s.size
  | 0, i, acc, _, h => by simp [scF] at h
  | n + 1, i, acc, hi, h => by
    have hj := sk_le hi
    by_cases hc : oneC s (sk s i) = 0
    · by_cases hk : oneK s (sk s i) = 0
      · rw [scF_end hc hk] at h; cases h
      · rw [scF_go hc hk] at h
        exact scF_fle n _ _ (oneE_lt hc hk).2 h
    · rw [scF_bad hc] at h
      simp only [Option.some.injEq, Prod.mk.injEq] at h
      rw [← h.2]
      rcases Nat.lt_or_ge (sk s i) s.size with h1 | h1
      · exact oneF_size h1
      · exact absurd (by rw [show sk s i = s.size by omega]; exact (oneK_end s).2.1) hc
theorem scan_end {s : ByteArray} (h : (scF s (s.size + 1) 0 []).1 = none) : scF s (s.size + 1) 0 [] = (none, (scF s (s.size + 1) 0 []).2) := Prod.ext h rfl
set_option maxRecDepth 100000 in
set_option maxHeartbeats 8000000 in
theorem ljoins_c (s t : ByteArray) (w : World) (hs : s.size ≤ 9223372036854775807) (ht : t.size ≤ 9223372036854775807) :
    Calls Try.prog 11 #[.string s, .string t] w fun e w' => e = .returned (.bool true) ∧ Below w.heap.size w w' := by
  have hb := Below.refl w.heap.size w
  by_cases h1 : (300 : Int) < (s.size : Int)
  · go_enter Try.func11, Try.ntmps11
    go_wp2_with (go_at_call 13; refine (awake_c _).mono ?_; rintro e w6 ⟨rfl, hq⟩; replace hb := hb.trans (hq.mono hb.size); clear hq)
    go_ret
    exact ⟨rfl, hb⟩
  by_cases h2 : (300 : Int) < (t.size : Int)
  · go_enter Try.func11, Try.ntmps11
    go_wp2_with (go_at_call 13; refine (awake_c _).mono ?_; rintro e w6 ⟨rfl, hq⟩; replace hb := hb.trans (hq.mono hb.size); clear hq)
    go_ret
    exact ⟨rfl, hb⟩
  have hz1 : s.size ≤ 300 := by omega
  have hz2 : t.size ≤ 300 := by omega
  have hj := jn_size s t
  have hF := scan_front (a := s) (b := t) (s.size + 1) 0 [] (Nat.zero_le _) (by omega) ((jn s t).size + 1) (by omega) []
  have hB := scan_back (a := s) (b := t) (t.size + 1) 0 [] (Nat.zero_le _) (by omega)
  cases hfa : (scF s (s.size + 1) 0 []).1 with
  | some cf =>
    obtain ⟨c, f⟩ := cf
    obtain ⟨hc0, hl0⟩ := scF_some _ _ _ hfa
    have HA := scanIs s (by omega) (Prod.ext hfa rfl) (x0 := c) (x1 := (posI s f).1) (x2 := (posI s f).2) rfl
    obtain ⟨b0, b1, b2, hfb⟩ := faultV_is t (scF t (t.size + 1) 0 []).1
    have HB := scanIs t (by omega) rfl hfb
    by_cases h5 : c = 5
    · obtain ⟨c', f', hj'⟩ := (hF.1 c f hfa).1 h5
      have HJ := scanIs (jn s t) (by omega) (Prod.ext hj' rfl) (x0 := c') (x1 := (posI (jn s t) f').1) (x2 := (posI (jn s t) f').2) rfl
      exact joins_1 s t w hz1 hz2 (Lib.hid HA) (Lib.hid HB) (Lib.hid HJ) hc0 (scF_some _ _ _ hj').1 (.inl h5)
    · obtain ⟨hj', hfl⟩ := (hF.1 c f hfa).2 h5
      have HJ := scanIs (jn s t) (by omega) (Prod.ext hj' rfl) (x0 := c) (x1 := (posI (jn s t) f).1) (x2 := (posI (jn s t) f).2) rfl
      have hp := front_pos (a := s) (b := t) f hfl
      exact joins_1 s t w hz1 hz2 (Lib.hid HA) (Lib.hid HB) (Lib.hid HJ) hc0 hc0 (.inr ⟨rfl, by rw [hp], by rw [hp]⟩)
  | none =>
    obtain ⟨T1, e, m', e1, e2, e3⟩ := hF.2 hfa
    have HA := scanIs s (by omega) (scan_end hfa) (x0 := 0) (x1 := 0) (x2 := 0) rfl
    have hfu : scF (jn s t) m' (s.size + 1) ([] ++ T1) = scF (jn s t) (t.size + 1) (s.size + 1) ([] ++ T1) := scF_fuel _ _ _ _ (by omega) (by omega) (by omega)
    rw [hfu] at e3
    have hBB := hB ([] ++ T1)
    rw [Nat.add_zero] at hBB
    cases hfb : (scF t (t.size + 1) 0 []).1 with
    | some cf =>
      obtain ⟨c, f⟩ := cf
      obtain ⟨hc0, hl0⟩ := scF_some _ _ _ hfb
      have HB := scanIs t (by omega) (Prod.ext hfb rfl) (x0 := c) (x1 := (posI t f).1) (x2 := (posI t f).2) rfl
      have hx := e3.trans (hBB.1 c f hfb)
      have hp := back_pos (a := s) (b := t) f
      have HJ := scanIs (jn s t) (by omega) hx (x0 := c) (x1 := (posI t f).1 + (posI s s.size).1) (x2 := (posI t f).2) (by simp only [faultV, hp])
      have hbd := posI_bd t f
      have hff : f ≤ t.size := scF_fle _ _ _ (Nat.zero_le _) hfb
      exact joins_2 s t w hz1 hz2 (Lib.hid HA) (Lib.hid HB) (Lib.hid HJ) hc0 hbd.1 (by omega) rfl
    | none =>
      obtain ⟨t1, t2, y1, y2, y3⟩ := hBB.2 hfb
      have HB := scanIs t (by omega) (scan_end hfb) (x0 := 0) (x1 := 0) (x2 := 0) rfl
      have hx := e3.trans y2
      have HJ := scanIs (jn s t) (by omega) hx (x0 := 0) (x1 := 0) (x2 := 0) rfl
      have hle1 := scF_len s (s.size + 1) 0 []
      have hle2 := scF_len t (t.size + 1) 0 []
      obtain ⟨js, hjs, htr⟩ := scF_trail _ _ _ (Nat.zero_le _) (by omega) hfb
      have hpos := (trail_at js 0 htr).2.2.2
      rw [y1] at hle2 HB hjs
      rw [e1] at hle1 HA
      simp only [List.nil_append] at HA HB HJ hjs hle1 hle2
      have hlen : 0 < t1.length := by rw [hjs]; simpa using hpos
      simp at hle1 hle2
      exact joins_3 (LA := (T1 ++ [e]).map Tk.toI) (LB := t1.map Tk.toI) (LJ := (T1 ++ t2).map Tk.toI) (T1 := T1.map Tk.toI) (T2 := t2.map Tk.toI) (N := T1.length) (M := t1.length) (e := e.toI) s t w hz1 hz2 (Lib.hid HA) (Lib.hid HB) (Lib.hid HJ) (by simp) (by simp) (by rw [List.map_map, List.map_map, show TI.key ∘ Tk.toI = Tk.key from rfl, y3]) (by simp) (by simp) hlen (by omega) (by omega)
end Go.Proofs.Ythjfedkginjbeaa
