/- The chapter's example; no limiter of New's: the law RatelimitNil. -/
import Derived.Test.YtcainohglmgdpaaRao
namespace Go.Proofs.Ytcainohglmgdpaa
open Go.RowKit Go.Maps Go.WideElems Go.WideMaps Go.WideShapes Go.Sort Go.Shelf
def kA : ByteArray := ⟨#[97]⟩
def kB : ByteArray := ⟨#[98]⟩
def st0 : RS := firstR 2 10 1
def st1 : RS := (allowR st0 kA 0).1
def st2 : RS := (allowR st1 kA 1).1
def st3 : RS := (allowR st2 kA 2).1
def st4 : RS := (allowR st3 kB 5).1
def st5 : RS := (allowR st4 kB 25).1
theorem ok0 : st0.Ok 0 := firstR_ok (by kernel_rfl)
theorem ok1 : st1.Ok 1 := allowR_ok ok0 _ _
theorem ok2 : st2.Ok 2 := allowR_ok ok1 _ _
theorem ok3 : st3.Ok 3 := allowR_ok ok2 _ _
theorem ok4 : st4.Ok 4 := allowR_ok ok3 _ _
theorem ok5 : st5.Ok 5 := allowR_ok ok4 _ _
theorem r1 : (allowR st0 kA 0).2 = true := by decide +kernel
theorem r2 : (allowR st1 kA 1).2 = true := by decide +kernel
theorem r3 : (allowR st2 kA 2).2 = false := by decide +kernel
theorem r4 : (allowR st3 kB 5).2 = false := by decide +kernel
theorem r5 : (allowR st4 kB 25).2 = true := by decide +kernel
theorem l9 : leftR st4 kA (timeR st4 9) = 0 := by decide +kernel
theorem l10 : leftR st4 kA (timeR st4 10) = 1 := by decide +kernel
theorem l20 : leftR st4 kA (timeR st4 20) = 2 := by decide +kernel
theorem dA : droppedR st4 kA = 1 := by decide +kernel
theorem ks : st5.L.map Bk.k = [kB] := by decide +kernel
set_option maxRecDepth 100000 in
theorem eqNil (a : Addr) (w : World) : (binOp .eql 25 (.pointer (some a)) (.pointer none)).run Try.prog w = .ok (.bool false) w := by
  have h : ∀ d : Nat, (Op.equalIn (d + 1) 25 (.pointer (some a)) (.pointer none)).run Try.prog w = .ok false w := fun d => by
    simp [Op.equalIn, run_underlying Try.underlying25, sizeOf, typeInfo]
  simp only [binOp]
  simp [Op.equal, Op.maxDepth, h 9999]
section
variable {w w' : World} {g m : Nat}
theorem a1 (h : Lim w g m st0) : Calls Try.prog 15 #[.pointer (some ⟨g, 0, none⟩), .string ⟨#[97]⟩, .int .i64 0] w fun r w' => r = .returned (.bool true) ∧ Lim w' g m st1 ∧ Apart (Fl g m) w w' := by
  have := allow_c (s := kA) 0 h ok0 (by decide) (by decide)
  rw [r1] at this
  exact this
theorem a2 (h : Lim w g m st1) : Calls Try.prog 15 #[.pointer (some ⟨g, 0, none⟩), .string ⟨#[97]⟩, .int .i64 1] w fun r w' => r = .returned (.bool true) ∧ Lim w' g m st2 ∧ Apart (Fl g m) w w' := by
  have := allow_c (s := kA) 1 h ok1 (by decide) (by decide)
  rw [r2] at this
  exact this
theorem a3 (h : Lim w g m st2) : Calls Try.prog 15 #[.pointer (some ⟨g, 0, none⟩), .string ⟨#[97]⟩, .int .i64 2] w fun r w' => r = .returned (.bool false) ∧ Lim w' g m st3 ∧ Apart (Fl g m) w w' := by
  have := allow_c (s := kA) 2 h ok2 (by decide) (by decide)
  rw [r3] at this
  exact this
theorem a4 (h : Lim w g m st3) : Calls Try.prog 15 #[.pointer (some ⟨g, 0, none⟩), .string ⟨#[98]⟩, .int .i64 5] w fun r w' => r = .returned (.bool false) ∧ Lim w' g m st4 ∧ Apart (Fl g m) w w' := by
  have := allow_c (s := kB) 5 h ok3 (by decide) (by decide)
  rw [r4] at this
  exact this
theorem a5 (h : Lim w g m st4) : Calls Try.prog 15 #[.pointer (some ⟨g, 0, none⟩), .string ⟨#[98]⟩, .int .i64 25] w fun r w' => r = .returned (.bool true) ∧ Lim w' g m st5 ∧ Apart (Fl g m) w w' := by
  have := allow_c (s := kB) 25 h ok4 (by decide) (by decide)
  rw [r5] at this
  exact this
theorem b1 (h : Lim w g m st4) : Calls Try.prog 16 #[.pointer (some ⟨g, 0, none⟩), .string ⟨#[97]⟩, .int .i64 9] w fun r w' => r = .returned (.int .i64 0) ∧ Below w.heap.size w w' := by
  have := lLeft_c (s := kA) 9 h ok4 (by decide)
  rw [l9] at this
  exact this
theorem b2 (h : Lim w g m st4) : Calls Try.prog 16 #[.pointer (some ⟨g, 0, none⟩), .string ⟨#[97]⟩, .int .i64 10] w fun r w' => r = .returned (.int .i64 1) ∧ Below w.heap.size w w' := by
  have := lLeft_c (s := kA) 10 h ok4 (by decide)
  rw [l10] at this
  exact this
theorem b3 (h : Lim w g m st4) : Calls Try.prog 16 #[.pointer (some ⟨g, 0, none⟩), .string ⟨#[97]⟩, .int .i64 20] w fun r w' => r = .returned (.int .i64 2) ∧ Below w.heap.size w w' := by
  have := lLeft_c (s := kA) 20 h ok4 (by decide)
  rw [l20] at this
  exact this
theorem b4 (h : Lim w g m st4) : Calls Try.prog 18 #[.pointer (some ⟨g, 0, none⟩), .string ⟨#[97]⟩] w fun r w' => r = .returned (.int .i64 1) ∧ w' = w := by
  have := dropped_c h (s := kA) (by decide)
  rw [dA] at this
  exact this
theorem b5 (h : Lim w g m st5) : Calls Try.prog 19 #[.pointer (some ⟨g, 0, none⟩)] w fun r w' => ∃ v, r = .returned v ∧ Own RSt w' w.heap.size v [kB] ∧ Below w.heap.size w w' := by
  have := lkeys_c h ok5
  rw [ks] at this
  exact this
theorem b0 (w : World) : Calls Try.prog 8 #[.int .i64 2, .int .i64 10, .int .i64 1] w fun r w' => ∃ g m, r = .returned (.pointer (some ⟨g, 0, none⟩)) ∧ Lim w' g m st0 ∧ Below w.heap.size w w' ∧ w.heap.size ≤ g ∧ w.heap.size ≤ m := new_c 2 10 1 w (by kernel_rfl)
theorem fl_below {B : Nat} (h : Apart (Fl g m) w w') (hB : B ≤ w.heap.size) (hg : B ≤ g) (hm : B ≤ m) : Below B w w' := h.below hB (fun k hk => by rcases hk with rfl | rfl <;> assumption)
set_option maxRecDepth 100000 in
set_option maxHeartbeats 8000000 in
theorem alive_c (w : World) : Calls Try.prog 11 #[] w fun r w' => r = .returned (.bool true) ∧ Below w.heap.size w w' := by
  have hq := fun (a : Addr) w => eqNil a w
  go_enter Try.func11, Try.ntmps11
  go_wp2_with fail
  refine (b0 _).mono ?_
  rintro r w1 ⟨g, m, rfl, hl, hb, hg, hm⟩
  have HL1 := Lib.hid hl
  have HB1 := Lib.hid hb
  have HG := Lib.hid hg
  have HM := Lib.hid hm
  clear hl hb hg hm
  go_wp2_with fail
  with_reducible refine (a1 HL1.out).mono ?_
  rintro r w2 ⟨rfl, hl, ha⟩
  have HL2 := Lib.hid hl
  have HB2 := Lib.hid (HB1.out.trans (fl_below ha HB1.out.size HG.out HM.out))
  clear hl ha HL1 HB1
  go_wp2_with fail
  with_reducible refine (a2 HL2.out).mono ?_
  rintro r w3 ⟨rfl, hl, ha⟩
  have HL3 := Lib.hid hl
  have HB3 := Lib.hid (HB2.out.trans (fl_below ha HB2.out.size HG.out HM.out))
  clear hl ha HL2 HB2
  go_wp2_with fail
  with_reducible refine (a3 HL3.out).mono ?_
  rintro r w4 ⟨rfl, hl, ha⟩
  have HL4 := Lib.hid hl
  have HB4 := Lib.hid (HB3.out.trans (fl_below ha HB3.out.size HG.out HM.out))
  clear hl ha HL3 HB3
  go_wp2_with fail
  with_reducible refine (a4 HL4.out).mono ?_
  rintro r w5 ⟨rfl, hl, ha⟩
  have HL5 := Lib.hid hl
  have HB5 := Lib.hid (HB4.out.trans (fl_below ha HB4.out.size HG.out HM.out))
  clear hl ha HL4 HB4
  go_wp2_with fail
  with_reducible refine (b1 HL5.out).mono ?_
  rintro r w6 ⟨rfl, hb⟩
  have HL6 := Lib.hid (HL5.out.keep hb)
  have HB6 := Lib.hid (HB5.out.trans (hb.mono HB5.out.size))
  clear hb HL5 HB5
  go_wp2_with fail
  with_reducible refine (b2 HL6.out).mono ?_
  rintro r w7 ⟨rfl, hb⟩
  have HL7 := Lib.hid (HL6.out.keep hb)
  have HB7 := Lib.hid (HB6.out.trans (hb.mono HB6.out.size))
  clear hb HL6 HB6
  go_wp2_with fail
  with_reducible refine (b3 HL7.out).mono ?_
  rintro r w8 ⟨rfl, hb⟩
  have HL8 := Lib.hid (HL7.out.keep hb)
  have HB8 := Lib.hid (HB7.out.trans (hb.mono HB7.out.size))
  clear hb HL7 HB7
  go_wp2_with fail
  with_reducible refine (b4 HL8.out).mono ?_
  rintro r wX ⟨rfl, rfl⟩
  go_wp2_with fail
  with_reducible refine (a5 HL8.out).mono ?_
  rintro r w9 ⟨rfl, hl, ha⟩
  have HL9 := Lib.hid hl
  have HB9 := Lib.hid (HB8.out.trans (fl_below ha HB8.out.size HG.out HM.out))
  clear hl ha HL8 HB8
  go_wp2_with fail
  with_reducible refine (b5 HL9.out).mono ?_
  rintro r wK ⟨v, rfl, ho, hb⟩
  have HO := Lib.hid ho
  have HBK := Lib.hid (HB9.out.trans (hb.mono HB9.out.size))
  clear ho hb
  have HNW : Hid (Rows' RSt (wK.alloc (.cells #[.string ⟨#[98]⟩] 9)) (.slice (some ⟨wK.heap.size, 0, none⟩) 1 1) [kB]) := Lib.hid ⟨⟨_, 1, rfl, Nat.le_refl _, fun _ => ⟨wK.heap.size, 0, rfl, by simp, fun i x hx k u hu => by
    have hi : i = 0 := by have := (List.getElem?_eq_some_iff.1 hx).1; simp at this; exact this
    subst hi
    obtain rfl : kB = x := by simpa using hx
    have hk : k = 0 := by have := (List.getElem?_eq_some_iff.1 hu).1; simp [RSt] at this; exact this
    subst hk
    have : u = .string ⟨#[98]⟩ := by have hu : [Value.string kB][0]? = some u := hu; simpa [kB] using hu.symm
    subst this
    exact (Blk.new wK 9 #[.string ⟨#[98]⟩]).cell 0⟩⟩⟩
  have HA : Hid (Below wK.heap.size wK (wK.alloc (.cells #[.string ⟨#[98]⟩] 9))) := Lib.hid ((Below.refl _ _).alloc (Nat.le_refl _) _)
  have HV := Lib.hid (HO.out.rows.below HA.out)
  have HT := Lib.hid (texts_c _ _ [kB] [kB] _ HV.out HNW.out (by decide) (by decide))
  rw [sameS_self] at HT
  go_wp2_with fail
  refine HT.out.mono ?_
  rintro r wT ⟨rfl, hb⟩
  have HBT := Lib.hid ((HBK.out.trans (HA.out.mono HBK.out.size)).trans (hb.mono (HBK.out.trans (HA.out.mono HBK.out.size)).size))
  clear hb
  go_wp2_with fail
  go_ret
  exact ⟨rfl, HBT.out⟩
set_option maxRecDepth 100000 in
theorem neqNil (w : World) : (binOp .neq 25 (.pointer none) (.pointer none)).run Try.prog w = .ok (.bool false) w := by
  have h : ∀ d : Nat, (Op.equalIn (d + 1) 25 (.pointer none) (.pointer none)).run Try.prog w = .ok true w := fun d => by
    simp [Op.equalIn, run_underlying Try.underlying25, sizeOf, typeInfo]
  simp only [binOp]
  simp [Op.equal, Op.maxDepth, h 9999]
set_option maxRecDepth 100000 in
set_option maxHeartbeats 8000000 in
theorem nil_c (s : ByteArray) (n : Int) (w : World) : Calls Try.prog 7 #[.string s, .int .i64 n] w fun e w' => e = .returned (.bool true) ∧ Below w.heap.size w w' := by
  have hne := neqNil
  go_enter Try.func7, Try.ntmps7
  go_wp2_with fail
  have HZ : Hid (Blk ((w.alloc (.cells #[.pointer none, .int .i64 0, .int .i64 0, .int .i64 0, .int .i64 0, .map none, .int .i64 0, .int .i64 0] 47)).alloc (.cells #[.pointer none, .pointer (some ⟨w.heap.size, 0, none⟩)] 25)) w.heap.size 47 #[.pointer none, .int .i64 0, .int .i64 0, .int .i64 0, .int .i64 0, .map none, .int .i64 0, .int .i64 0]) := Lib.hid ((Blk.new w _ _).alloc _)
  have HS : Hid (Blk ((w.alloc (.cells #[.pointer none, .int .i64 0, .int .i64 0, .int .i64 0, .int .i64 0, .map none, .int .i64 0, .int .i64 0] 47)).alloc (.cells #[.pointer none, .pointer (some ⟨w.heap.size, 0, none⟩)] 25)) (w.heap.size + 1) 25 #[.pointer none, .pointer (some ⟨w.heap.size, 0, none⟩)]) := Lib.hid (by
    have := Blk.new (w.alloc (.cells #[.pointer none, .int .i64 0, .int .i64 0, .int .i64 0, .int .i64 0, .map none, .int .i64 0, .int .i64 0] 47)) 25 #[.pointer none, .pointer (some ⟨w.heap.size, 0, none⟩)]
    simpa using this)
  have hW : Below w.heap.size w ((w.alloc (.cells #[.pointer none, .int .i64 0, .int .i64 0, .int .i64 0, .int .i64 0, .map none, .int .i64 0, .int .i64 0] 47)).alloc (.cells #[.pointer none, .pointer (some ⟨w.heap.size, 0, none⟩)] 25)) := ((Below.refl _ _).alloc (Nat.le_refl _) _).alloc (by simp) _
  generalize ((w.alloc (.cells #[.pointer none, .int .i64 0, .int .i64 0, .int .i64 0, .int .i64 0, .map none, .int .i64 0, .int .i64 0] 47)).alloc (.cells #[.pointer none, .pointer (some ⟨w.heap.size, 0, none⟩)] 25)) = W at *
  go_loopw [14] (fun vi wr => ∃ i : Nat, i ≤ 2 ∧ vi = .int .i64 i ∧ wr = W) (fun vi _ => 2 - (intOf vi).toNat)
  case atStart => exact ⟨0, Nat.zero_le _, rfl, rfl⟩
  case round =>
    obtain ⟨i, hi, rfl, rfl⟩ := hrel
    by_cases hlt : i < 2
    · obtain ⟨t, ht, hI⟩ : ∃ t, wr.cell? ⟨w.heap.size + 1, i, none⟩ = some t ∧ Idle wr t := by
        rcases (by omega : i = 0 ∨ i = 1) with rfl | rfl
        · exact ⟨_, HS.out.cell 0, .inl rfl⟩
        · exact ⟨_, HS.out.cell 1, .inr ⟨_, _, _, _, _, _, _, _, rfl, HZ.out⟩⟩
      have hlt' : (i : Int) < 2 := by omega
      go_wp2_with (first
        | (go_at_call 15; with_reducible refine (idle_allow hI s n).mono ?_; rintro e w1 ⟨rfl, rfl⟩)
        | (go_at_call 17; with_reducible refine (idle_total hI).mono ?_; rintro e w1 ⟨rfl, rfl⟩)
        | (go_at_call 16; with_reducible refine (idle_left hI s n).mono ?_; rintro e w1 ⟨rfl, rfl⟩)
        | (go_at_call 18; with_reducible refine (idle_dropped hI s).mono ?_; rintro e w1 ⟨rfl, rfl⟩)
        | (go_at_call 19; with_reducible refine (idle_keys hI).mono ?_; rintro e w1 ⟨rfl, rfl⟩)
        | (go_at_call 14; with_reducible refine (idle_copy hI).mono ?_; rintro e w1 ⟨rfl, rfl⟩))
      go_roundw
      case rel => exact ⟨i + 1, hlt, by go_num, trivial⟩
      case measure => simp [intOf]; omega
    · obtain rfl : i = 2 := by omega
      go_wp2_with (go_at_call 11; with_reducible refine (alive_c _).mono ?_; rintro e w2 ⟨rfl, hb2⟩)
      go_ret
      exact ⟨rfl, hW.trans (hb2.mono hW.size)⟩
end
end Go.Proofs.Ytcainohglmgdpaa
