/- Package token: how long the mark at the beginning of a text is. -/
import Derived.Test.YtffgjamnijhlpaaTsc
namespace Go.Proofs.Ytffgjamnijhlpaa
open Go.RowKit
def mk2 (c d : Int) : Bool := decide ((c = 61 ∧ d = 61) ∨ (c = 33 ∧ d = 61) ∨ (c = 38 ∧ d = 38) ∨ (c = 124 ∧ d = 124))
def mk1 (c : Int) : Bool := decide (c = 123 ∨ c = 125 ∨ c = 40 ∨ c = 41 ∨ c = 59 ∨ c = 58 ∨ c = 44 ∨ c = 46 ∨ c = 45 ∨ c = 126 ∨ c = 42 ∨ c = 33 ∨ c = 94)
/-- the length of the longest mark at two characters -/
def mkN (c d : Int) : Nat := if mk2 c d = true then 2 else if mk1 c = true then 1 else 0
theorem two_eq (t : ByteArray) (a b : UInt8) (h : 2 ≤ t.size) : ((t.extract 0 2).toList == [a, b]) = decide (chI t 0 = (a.toNat : Int) ∧ chI t 1 = (b.toNat : Int)) := by
  rw [ByteArray.toList_eq, chI_lt (by omega), chI_lt (by omega)]
  obtain ⟨⟨l⟩⟩ := t
  match l, h with
  | x :: y :: l, _ =>
    have e : (ByteArray.extract ⟨⟨x :: y :: l⟩⟩ 0 2).data.toList = [x, y] := by simp
    rw [e]
    have e0 : (ByteArray.mk ⟨x :: y :: l⟩)[0]'(by simp [ByteArray.size]) = x := rfl
    have e1 : (ByteArray.mk ⟨x :: y :: l⟩)[1]'(by simp [ByteArray.size]) = y := rfl
    rw [e0, e1]
    rw [Bool.eq_iff_iff]
    simp
    constructor
    · rintro ⟨rfl, rfl⟩; exact ⟨rfl, rfl⟩
    · rintro ⟨h1, h2⟩
      exact ⟨UInt8.toNat_inj.1 (by omega), UInt8.toNat_inj.1 (by omega)⟩
theorem one_eq (t : ByteArray) (a b : UInt8) (h : t.size = 1) : (t.toList == [a, b]) = false := by
  rw [ByteArray.toList_eq]
  obtain ⟨⟨l⟩⟩ := t
  have hl : l.length = 1 := h
  match l, hl with
  | [x], _ => simp
theorem mk2_of {c d : Int} (h : mk2 c d = true) : mkN c d = 2 := if_pos h
theorem mk1_of {c d : Int} (h : ¬ mk2 c d = true) (h' : mk1 c = true) : mkN c d = 1 := by unfold mkN; rw [if_neg h, if_pos h']
theorem mk0_of {c d : Int} (h : ¬ mk2 c d = true) (h' : ¬ mk1 c = true) : mkN c d = 0 := by unfold mkN; rw [if_neg h, if_neg h']
theorem ml2_0 (t : ByteArray) (w : World) (_h : ¬ (t.size : Int) < 2) (p0 : ((t.extract 0 2).toList == [61, 61]) = true) :
    Calls Try.prog 75 #[.string t] w fun e w' => e = .returned (.int .i64 2) ∧ w' = w := by
  go_enter Try.func75, Try.ntmps75
  go_wp2
  go_ret
  exact ⟨rfl, rfl⟩
theorem ml2_1 (t : ByteArray) (w : World) (_h : ¬ (t.size : Int) < 2) (p0 : ((t.extract 0 2).toList == [61, 61]) = false) (p1 : ((t.extract 0 2).toList == [33, 61]) = true) :
    Calls Try.prog 75 #[.string t] w fun e w' => e = .returned (.int .i64 2) ∧ w' = w := by
  go_enter Try.func75, Try.ntmps75
  go_wp2
  go_ret
  exact ⟨rfl, rfl⟩
theorem ml2_2 (t : ByteArray) (w : World) (_h : ¬ (t.size : Int) < 2) (p0 : ((t.extract 0 2).toList == [61, 61]) = false) (p1 : ((t.extract 0 2).toList == [33, 61]) = false) (p2 : ((t.extract 0 2).toList == [38, 38]) = true) :
    Calls Try.prog 75 #[.string t] w fun e w' => e = .returned (.int .i64 2) ∧ w' = w := by
  go_enter Try.func75, Try.ntmps75
  go_wp2
  go_ret
  exact ⟨rfl, rfl⟩
theorem ml2_3 (t : ByteArray) (w : World) (_h : ¬ (t.size : Int) < 2) (p0 : ((t.extract 0 2).toList == [61, 61]) = false) (p1 : ((t.extract 0 2).toList == [33, 61]) = false) (p2 : ((t.extract 0 2).toList == [38, 38]) = false) (p3 : ((t.extract 0 2).toList == [124, 124]) = true) :
    Calls Try.prog 75 #[.string t] w fun e w' => e = .returned (.int .i64 2) ∧ w' = w := by
  go_enter Try.func75, Try.ntmps75
  go_wp2
  go_ret
  exact ⟨rfl, rfl⟩
theorem ml1_b0 (t : ByteArray) (w : World) (_h : ¬ (t.size : Int) < 2) (h0 : 0 < t.size) (_hz : (0 : Int) < (t.size : Int)) (p0 : ((t.extract 0 2).toList == [61, 61]) = false) (p1 : ((t.extract 0 2).toList == [33, 61]) = false) (p2 : ((t.extract 0 2).toList == [38, 38]) = false) (p3 : ((t.extract 0 2).toList == [124, 124]) = false) (q : wrap32 (t[0].toNat : Int) = 123) :
    Calls Try.prog 75 #[.string t] w fun e w' => e = .returned (.int .i64 1) ∧ w' = w := by
  go_enter Try.func75, Try.ntmps75
  go_wp2
  go_ret
  exact ⟨rfl, rfl⟩
theorem ml1_b1 (t : ByteArray) (w : World) (_h : ¬ (t.size : Int) < 2) (h0 : 0 < t.size) (_hz : (0 : Int) < (t.size : Int)) (p0 : ((t.extract 0 2).toList == [61, 61]) = false) (p1 : ((t.extract 0 2).toList == [33, 61]) = false) (p2 : ((t.extract 0 2).toList == [38, 38]) = false) (p3 : ((t.extract 0 2).toList == [124, 124]) = false) (q : wrap32 (t[0].toNat : Int) = 125) :
    Calls Try.prog 75 #[.string t] w fun e w' => e = .returned (.int .i64 1) ∧ w' = w := by
  go_enter Try.func75, Try.ntmps75
  go_wp2
  go_ret
  exact ⟨rfl, rfl⟩
theorem ml1_b2 (t : ByteArray) (w : World) (_h : ¬ (t.size : Int) < 2) (h0 : 0 < t.size) (_hz : (0 : Int) < (t.size : Int)) (p0 : ((t.extract 0 2).toList == [61, 61]) = false) (p1 : ((t.extract 0 2).toList == [33, 61]) = false) (p2 : ((t.extract 0 2).toList == [38, 38]) = false) (p3 : ((t.extract 0 2).toList == [124, 124]) = false) (q : wrap32 (t[0].toNat : Int) = 40) :
    Calls Try.prog 75 #[.string t] w fun e w' => e = .returned (.int .i64 1) ∧ w' = w := by
  go_enter Try.func75, Try.ntmps75
  go_wp2
  go_ret
  exact ⟨rfl, rfl⟩
theorem ml1_b3 (t : ByteArray) (w : World) (_h : ¬ (t.size : Int) < 2) (h0 : 0 < t.size) (_hz : (0 : Int) < (t.size : Int)) (p0 : ((t.extract 0 2).toList == [61, 61]) = false) (p1 : ((t.extract 0 2).toList == [33, 61]) = false) (p2 : ((t.extract 0 2).toList == [38, 38]) = false) (p3 : ((t.extract 0 2).toList == [124, 124]) = false) (q : wrap32 (t[0].toNat : Int) = 41) :
    Calls Try.prog 75 #[.string t] w fun e w' => e = .returned (.int .i64 1) ∧ w' = w := by
  go_enter Try.func75, Try.ntmps75
  go_wp2
  go_ret
  exact ⟨rfl, rfl⟩
theorem ml1_b4 (t : ByteArray) (w : World) (_h : ¬ (t.size : Int) < 2) (h0 : 0 < t.size) (_hz : (0 : Int) < (t.size : Int)) (p0 : ((t.extract 0 2).toList == [61, 61]) = false) (p1 : ((t.extract 0 2).toList == [33, 61]) = false) (p2 : ((t.extract 0 2).toList == [38, 38]) = false) (p3 : ((t.extract 0 2).toList == [124, 124]) = false) (q : wrap32 (t[0].toNat : Int) = 59) :
    Calls Try.prog 75 #[.string t] w fun e w' => e = .returned (.int .i64 1) ∧ w' = w := by
  go_enter Try.func75, Try.ntmps75
  go_wp2
  go_ret
  exact ⟨rfl, rfl⟩
theorem ml1_b5 (t : ByteArray) (w : World) (_h : ¬ (t.size : Int) < 2) (h0 : 0 < t.size) (_hz : (0 : Int) < (t.size : Int)) (p0 : ((t.extract 0 2).toList == [61, 61]) = false) (p1 : ((t.extract 0 2).toList == [33, 61]) = false) (p2 : ((t.extract 0 2).toList == [38, 38]) = false) (p3 : ((t.extract 0 2).toList == [124, 124]) = false) (q : wrap32 (t[0].toNat : Int) = 58) :
    Calls Try.prog 75 #[.string t] w fun e w' => e = .returned (.int .i64 1) ∧ w' = w := by
  go_enter Try.func75, Try.ntmps75
  go_wp2
  go_ret
  exact ⟨rfl, rfl⟩
theorem ml1_b6 (t : ByteArray) (w : World) (_h : ¬ (t.size : Int) < 2) (h0 : 0 < t.size) (_hz : (0 : Int) < (t.size : Int)) (p0 : ((t.extract 0 2).toList == [61, 61]) = false) (p1 : ((t.extract 0 2).toList == [33, 61]) = false) (p2 : ((t.extract 0 2).toList == [38, 38]) = false) (p3 : ((t.extract 0 2).toList == [124, 124]) = false) (q : wrap32 (t[0].toNat : Int) = 44) :
    Calls Try.prog 75 #[.string t] w fun e w' => e = .returned (.int .i64 1) ∧ w' = w := by
  go_enter Try.func75, Try.ntmps75
  go_wp2
  go_ret
  exact ⟨rfl, rfl⟩
theorem ml1_b7 (t : ByteArray) (w : World) (_h : ¬ (t.size : Int) < 2) (h0 : 0 < t.size) (_hz : (0 : Int) < (t.size : Int)) (p0 : ((t.extract 0 2).toList == [61, 61]) = false) (p1 : ((t.extract 0 2).toList == [33, 61]) = false) (p2 : ((t.extract 0 2).toList == [38, 38]) = false) (p3 : ((t.extract 0 2).toList == [124, 124]) = false) (q : wrap32 (t[0].toNat : Int) = 46) :
    Calls Try.prog 75 #[.string t] w fun e w' => e = .returned (.int .i64 1) ∧ w' = w := by
  go_enter Try.func75, Try.ntmps75
  go_wp2
  go_ret
  exact ⟨rfl, rfl⟩
theorem ml1_b8 (t : ByteArray) (w : World) (_h : ¬ (t.size : Int) < 2) (h0 : 0 < t.size) (_hz : (0 : Int) < (t.size : Int)) (p0 : ((t.extract 0 2).toList == [61, 61]) = false) (p1 : ((t.extract 0 2).toList == [33, 61]) = false) (p2 : ((t.extract 0 2).toList == [38, 38]) = false) (p3 : ((t.extract 0 2).toList == [124, 124]) = false) (q : wrap32 (t[0].toNat : Int) = 45) :
    Calls Try.prog 75 #[.string t] w fun e w' => e = .returned (.int .i64 1) ∧ w' = w := by
  go_enter Try.func75, Try.ntmps75
  go_wp2
  go_ret
  exact ⟨rfl, rfl⟩
theorem ml1_b9 (t : ByteArray) (w : World) (_h : ¬ (t.size : Int) < 2) (h0 : 0 < t.size) (_hz : (0 : Int) < (t.size : Int)) (p0 : ((t.extract 0 2).toList == [61, 61]) = false) (p1 : ((t.extract 0 2).toList == [33, 61]) = false) (p2 : ((t.extract 0 2).toList == [38, 38]) = false) (p3 : ((t.extract 0 2).toList == [124, 124]) = false) (q : wrap32 (t[0].toNat : Int) = 126) :
    Calls Try.prog 75 #[.string t] w fun e w' => e = .returned (.int .i64 1) ∧ w' = w := by
  go_enter Try.func75, Try.ntmps75
  go_wp2
  go_ret
  exact ⟨rfl, rfl⟩
theorem ml1_b10 (t : ByteArray) (w : World) (_h : ¬ (t.size : Int) < 2) (h0 : 0 < t.size) (_hz : (0 : Int) < (t.size : Int)) (p0 : ((t.extract 0 2).toList == [61, 61]) = false) (p1 : ((t.extract 0 2).toList == [33, 61]) = false) (p2 : ((t.extract 0 2).toList == [38, 38]) = false) (p3 : ((t.extract 0 2).toList == [124, 124]) = false) (q : wrap32 (t[0].toNat : Int) = 42) :
    Calls Try.prog 75 #[.string t] w fun e w' => e = .returned (.int .i64 1) ∧ w' = w := by
  go_enter Try.func75, Try.ntmps75
  go_wp2
  go_ret
  exact ⟨rfl, rfl⟩
theorem ml1_b11 (t : ByteArray) (w : World) (_h : ¬ (t.size : Int) < 2) (h0 : 0 < t.size) (_hz : (0 : Int) < (t.size : Int)) (p0 : ((t.extract 0 2).toList == [61, 61]) = false) (p1 : ((t.extract 0 2).toList == [33, 61]) = false) (p2 : ((t.extract 0 2).toList == [38, 38]) = false) (p3 : ((t.extract 0 2).toList == [124, 124]) = false) (q : wrap32 (t[0].toNat : Int) = 33) :
    Calls Try.prog 75 #[.string t] w fun e w' => e = .returned (.int .i64 1) ∧ w' = w := by
  go_enter Try.func75, Try.ntmps75
  go_wp2
  go_ret
  exact ⟨rfl, rfl⟩
theorem ml1_b12 (t : ByteArray) (w : World) (_h : ¬ (t.size : Int) < 2) (h0 : 0 < t.size) (_hz : (0 : Int) < (t.size : Int)) (p0 : ((t.extract 0 2).toList == [61, 61]) = false) (p1 : ((t.extract 0 2).toList == [33, 61]) = false) (p2 : ((t.extract 0 2).toList == [38, 38]) = false) (p3 : ((t.extract 0 2).toList == [124, 124]) = false) (q : wrap32 (t[0].toNat : Int) = 94) :
    Calls Try.prog 75 #[.string t] w fun e w' => e = .returned (.int .i64 1) ∧ w' = w := by
  go_enter Try.func75, Try.ntmps75
  go_wp2
  go_ret
  exact ⟨rfl, rfl⟩
theorem ml0_b (t : ByteArray) (w : World) (_h : ¬ (t.size : Int) < 2) (h0 : 0 < t.size) (_hz : (0 : Int) < (t.size : Int)) (p0 : ((t.extract 0 2).toList == [61, 61]) = false) (p1 : ((t.extract 0 2).toList == [33, 61]) = false) (p2 : ((t.extract 0 2).toList == [38, 38]) = false) (p3 : ((t.extract 0 2).toList == [124, 124]) = false) (q0 : (wrap32 (t[0].toNat : Int) == 123) = false) (q1 : (wrap32 (t[0].toNat : Int) == 125) = false) (q2 : (wrap32 (t[0].toNat : Int) == 40) = false) (q3 : (wrap32 (t[0].toNat : Int) == 41) = false) (q4 : (wrap32 (t[0].toNat : Int) == 59) = false) (q5 : (wrap32 (t[0].toNat : Int) == 58) = false) (q6 : (wrap32 (t[0].toNat : Int) == 44) = false) (q7 : (wrap32 (t[0].toNat : Int) == 46) = false) (q8 : (wrap32 (t[0].toNat : Int) == 45) = false) (q9 : (wrap32 (t[0].toNat : Int) == 126) = false) (q10 : (wrap32 (t[0].toNat : Int) == 42) = false) (q11 : (wrap32 (t[0].toNat : Int) == 33) = false) (q12 : (wrap32 (t[0].toNat : Int) == 94) = false) :
    Calls Try.prog 75 #[.string t] w fun e w' => e = .returned (.int .i64 0) ∧ w' = w := by
  go_enter Try.func75, Try.ntmps75
  go_wp2
  go_ret
  exact ⟨rfl, rfl⟩
theorem ml1_s0 (t : ByteArray) (w : World) (_h : (t.size : Int) < 2) (h0 : 0 < t.size) (_hz : (0 : Int) < (t.size : Int)) (p0 : (t.toList == [61, 61]) = false) (p1 : (t.toList == [33, 61]) = false) (p2 : (t.toList == [38, 38]) = false) (p3 : (t.toList == [124, 124]) = false) (q : wrap32 (t[0].toNat : Int) = 123) :
    Calls Try.prog 75 #[.string t] w fun e w' => e = .returned (.int .i64 1) ∧ w' = w := by
  go_enter Try.func75, Try.ntmps75
  go_wp2
  go_ret
  exact ⟨rfl, rfl⟩
theorem ml1_s1 (t : ByteArray) (w : World) (_h : (t.size : Int) < 2) (h0 : 0 < t.size) (_hz : (0 : Int) < (t.size : Int)) (p0 : (t.toList == [61, 61]) = false) (p1 : (t.toList == [33, 61]) = false) (p2 : (t.toList == [38, 38]) = false) (p3 : (t.toList == [124, 124]) = false) (q : wrap32 (t[0].toNat : Int) = 125) :
    Calls Try.prog 75 #[.string t] w fun e w' => e = .returned (.int .i64 1) ∧ w' = w := by
  go_enter Try.func75, Try.ntmps75
  go_wp2
  go_ret
  exact ⟨rfl, rfl⟩
theorem ml1_s2 (t : ByteArray) (w : World) (_h : (t.size : Int) < 2) (h0 : 0 < t.size) (_hz : (0 : Int) < (t.size : Int)) (p0 : (t.toList == [61, 61]) = false) (p1 : (t.toList == [33, 61]) = false) (p2 : (t.toList == [38, 38]) = false) (p3 : (t.toList == [124, 124]) = false) (q : wrap32 (t[0].toNat : Int) = 40) :
    Calls Try.prog 75 #[.string t] w fun e w' => e = .returned (.int .i64 1) ∧ w' = w := by
  go_enter Try.func75, Try.ntmps75
  go_wp2
  go_ret
  exact ⟨rfl, rfl⟩
theorem ml1_s3 (t : ByteArray) (w : World) (_h : (t.size : Int) < 2) (h0 : 0 < t.size) (_hz : (0 : Int) < (t.size : Int)) (p0 : (t.toList == [61, 61]) = false) (p1 : (t.toList == [33, 61]) = false) (p2 : (t.toList == [38, 38]) = false) (p3 : (t.toList == [124, 124]) = false) (q : wrap32 (t[0].toNat : Int) = 41) :
    Calls Try.prog 75 #[.string t] w fun e w' => e = .returned (.int .i64 1) ∧ w' = w := by
  go_enter Try.func75, Try.ntmps75
  go_wp2
  go_ret
  exact ⟨rfl, rfl⟩
theorem ml1_s4 (t : ByteArray) (w : World) (_h : (t.size : Int) < 2) (h0 : 0 < t.size) (_hz : (0 : Int) < (t.size : Int)) (p0 : (t.toList == [61, 61]) = false) (p1 : (t.toList == [33, 61]) = false) (p2 : (t.toList == [38, 38]) = false) (p3 : (t.toList == [124, 124]) = false) (q : wrap32 (t[0].toNat : Int) = 59) :
    Calls Try.prog 75 #[.string t] w fun e w' => e = .returned (.int .i64 1) ∧ w' = w := by
  go_enter Try.func75, Try.ntmps75
  go_wp2
  go_ret
  exact ⟨rfl, rfl⟩
theorem ml1_s5 (t : ByteArray) (w : World) (_h : (t.size : Int) < 2) (h0 : 0 < t.size) (_hz : (0 : Int) < (t.size : Int)) (p0 : (t.toList == [61, 61]) = false) (p1 : (t.toList == [33, 61]) = false) (p2 : (t.toList == [38, 38]) = false) (p3 : (t.toList == [124, 124]) = false) (q : wrap32 (t[0].toNat : Int) = 58) :
    Calls Try.prog 75 #[.string t] w fun e w' => e = .returned (.int .i64 1) ∧ w' = w := by
  go_enter Try.func75, Try.ntmps75
  go_wp2
  go_ret
  exact ⟨rfl, rfl⟩
theorem ml1_s6 (t : ByteArray) (w : World) (_h : (t.size : Int) < 2) (h0 : 0 < t.size) (_hz : (0 : Int) < (t.size : Int)) (p0 : (t.toList == [61, 61]) = false) (p1 : (t.toList == [33, 61]) = false) (p2 : (t.toList == [38, 38]) = false) (p3 : (t.toList == [124, 124]) = false) (q : wrap32 (t[0].toNat : Int) = 44) :
    Calls Try.prog 75 #[.string t] w fun e w' => e = .returned (.int .i64 1) ∧ w' = w := by
  go_enter Try.func75, Try.ntmps75
  go_wp2
  go_ret
  exact ⟨rfl, rfl⟩
theorem ml1_s7 (t : ByteArray) (w : World) (_h : (t.size : Int) < 2) (h0 : 0 < t.size) (_hz : (0 : Int) < (t.size : Int)) (p0 : (t.toList == [61, 61]) = false) (p1 : (t.toList == [33, 61]) = false) (p2 : (t.toList == [38, 38]) = false) (p3 : (t.toList == [124, 124]) = false) (q : wrap32 (t[0].toNat : Int) = 46) :
    Calls Try.prog 75 #[.string t] w fun e w' => e = .returned (.int .i64 1) ∧ w' = w := by
  go_enter Try.func75, Try.ntmps75
  go_wp2
  go_ret
  exact ⟨rfl, rfl⟩
theorem ml1_s8 (t : ByteArray) (w : World) (_h : (t.size : Int) < 2) (h0 : 0 < t.size) (_hz : (0 : Int) < (t.size : Int)) (p0 : (t.toList == [61, 61]) = false) (p1 : (t.toList == [33, 61]) = false) (p2 : (t.toList == [38, 38]) = false) (p3 : (t.toList == [124, 124]) = false) (q : wrap32 (t[0].toNat : Int) = 45) :
    Calls Try.prog 75 #[.string t] w fun e w' => e = .returned (.int .i64 1) ∧ w' = w := by
  go_enter Try.func75, Try.ntmps75
  go_wp2
  go_ret
  exact ⟨rfl, rfl⟩
theorem ml1_s9 (t : ByteArray) (w : World) (_h : (t.size : Int) < 2) (h0 : 0 < t.size) (_hz : (0 : Int) < (t.size : Int)) (p0 : (t.toList == [61, 61]) = false) (p1 : (t.toList == [33, 61]) = false) (p2 : (t.toList == [38, 38]) = false) (p3 : (t.toList == [124, 124]) = false) (q : wrap32 (t[0].toNat : Int) = 126) :
    Calls Try.prog 75 #[.string t] w fun e w' => e = .returned (.int .i64 1) ∧ w' = w := by
  go_enter Try.func75, Try.ntmps75
  go_wp2
  go_ret
  exact ⟨rfl, rfl⟩
theorem ml1_s10 (t : ByteArray) (w : World) (_h : (t.size : Int) < 2) (h0 : 0 < t.size) (_hz : (0 : Int) < (t.size : Int)) (p0 : (t.toList == [61, 61]) = false) (p1 : (t.toList == [33, 61]) = false) (p2 : (t.toList == [38, 38]) = false) (p3 : (t.toList == [124, 124]) = false) (q : wrap32 (t[0].toNat : Int) = 42) :
    Calls Try.prog 75 #[.string t] w fun e w' => e = .returned (.int .i64 1) ∧ w' = w := by
  go_enter Try.func75, Try.ntmps75
  go_wp2
  go_ret
  exact ⟨rfl, rfl⟩
theorem ml1_s11 (t : ByteArray) (w : World) (_h : (t.size : Int) < 2) (h0 : 0 < t.size) (_hz : (0 : Int) < (t.size : Int)) (p0 : (t.toList == [61, 61]) = false) (p1 : (t.toList == [33, 61]) = false) (p2 : (t.toList == [38, 38]) = false) (p3 : (t.toList == [124, 124]) = false) (q : wrap32 (t[0].toNat : Int) = 33) :
    Calls Try.prog 75 #[.string t] w fun e w' => e = .returned (.int .i64 1) ∧ w' = w := by
  go_enter Try.func75, Try.ntmps75
  go_wp2
  go_ret
  exact ⟨rfl, rfl⟩
theorem ml1_s12 (t : ByteArray) (w : World) (_h : (t.size : Int) < 2) (h0 : 0 < t.size) (_hz : (0 : Int) < (t.size : Int)) (p0 : (t.toList == [61, 61]) = false) (p1 : (t.toList == [33, 61]) = false) (p2 : (t.toList == [38, 38]) = false) (p3 : (t.toList == [124, 124]) = false) (q : wrap32 (t[0].toNat : Int) = 94) :
    Calls Try.prog 75 #[.string t] w fun e w' => e = .returned (.int .i64 1) ∧ w' = w := by
  go_enter Try.func75, Try.ntmps75
  go_wp2
  go_ret
  exact ⟨rfl, rfl⟩
theorem ml0_s (t : ByteArray) (w : World) (_h : (t.size : Int) < 2) (h0 : 0 < t.size) (_hz : (0 : Int) < (t.size : Int)) (p0 : (t.toList == [61, 61]) = false) (p1 : (t.toList == [33, 61]) = false) (p2 : (t.toList == [38, 38]) = false) (p3 : (t.toList == [124, 124]) = false) (q0 : (wrap32 (t[0].toNat : Int) == 123) = false) (q1 : (wrap32 (t[0].toNat : Int) == 125) = false) (q2 : (wrap32 (t[0].toNat : Int) == 40) = false) (q3 : (wrap32 (t[0].toNat : Int) == 41) = false) (q4 : (wrap32 (t[0].toNat : Int) == 59) = false) (q5 : (wrap32 (t[0].toNat : Int) == 58) = false) (q6 : (wrap32 (t[0].toNat : Int) == 44) = false) (q7 : (wrap32 (t[0].toNat : Int) == 46) = false) (q8 : (wrap32 (t[0].toNat : Int) == 45) = false) (q9 : (wrap32 (t[0].toNat : Int) == 126) = false) (q10 : (wrap32 (t[0].toNat : Int) == 42) = false) (q11 : (wrap32 (t[0].toNat : Int) == 33) = false) (q12 : (wrap32 (t[0].toNat : Int) == 94) = false) :
    Calls Try.prog 75 #[.string t] w fun e w' => e = .returned (.int .i64 0) ∧ w' = w := by
  go_enter Try.func75, Try.ntmps75
  go_wp2
  go_ret
  exact ⟨rfl, rfl⟩
theorem w0 {t : ByteArray} (h : 0 < t.size) : wrap32 (t[0].toNat : Int) = chI t 0 := by rw [chI_lt h, wrap32_u8]
theorem bq_false {x a : Int} (h : x ≠ a) : (x == a) = false := by simpa using h
/-- markLength: every text that is not empty -/
theorem ml_c (t : ByteArray) (w : World) (h0 : 0 < t.size) :
    Calls Try.prog 75 #[.string t] w fun e w' => e = .returned (.int .i64 (mkN (chI t 0) (chI t 1) : Nat)) ∧ w' = w := by
  by_cases h1 : t.size = 1
  · have c1 : chI t 1 = -1 := chI_ge (by omega)
    have hm2 : ¬ mk2 (chI t 0) (chI t 1) = true := by rw [c1]; simp [mk2]
    by_cases hm1 : mk1 (chI t 0) = true
    · rw [mk1_of hm2 hm1]
      have hm := of_decide_eq_true hm1
      rcases hm with hm | hm | hm | hm | hm | hm | hm | hm | hm | hm | hm | hm | hm
      · exact ml1_s0 t w (by omega) h0 (by omega) (one_eq t _ _ h1) (one_eq t _ _ h1) (one_eq t _ _ h1) (one_eq t _ _ h1) ((w0 h0).trans hm)
      · exact ml1_s1 t w (by omega) h0 (by omega) (one_eq t _ _ h1) (one_eq t _ _ h1) (one_eq t _ _ h1) (one_eq t _ _ h1) ((w0 h0).trans hm)
      · exact ml1_s2 t w (by omega) h0 (by omega) (one_eq t _ _ h1) (one_eq t _ _ h1) (one_eq t _ _ h1) (one_eq t _ _ h1) ((w0 h0).trans hm)
      · exact ml1_s3 t w (by omega) h0 (by omega) (one_eq t _ _ h1) (one_eq t _ _ h1) (one_eq t _ _ h1) (one_eq t _ _ h1) ((w0 h0).trans hm)
      · exact ml1_s4 t w (by omega) h0 (by omega) (one_eq t _ _ h1) (one_eq t _ _ h1) (one_eq t _ _ h1) (one_eq t _ _ h1) ((w0 h0).trans hm)
      · exact ml1_s5 t w (by omega) h0 (by omega) (one_eq t _ _ h1) (one_eq t _ _ h1) (one_eq t _ _ h1) (one_eq t _ _ h1) ((w0 h0).trans hm)
      · exact ml1_s6 t w (by omega) h0 (by omega) (one_eq t _ _ h1) (one_eq t _ _ h1) (one_eq t _ _ h1) (one_eq t _ _ h1) ((w0 h0).trans hm)
      · exact ml1_s7 t w (by omega) h0 (by omega) (one_eq t _ _ h1) (one_eq t _ _ h1) (one_eq t _ _ h1) (one_eq t _ _ h1) ((w0 h0).trans hm)
      · exact ml1_s8 t w (by omega) h0 (by omega) (one_eq t _ _ h1) (one_eq t _ _ h1) (one_eq t _ _ h1) (one_eq t _ _ h1) ((w0 h0).trans hm)
      · exact ml1_s9 t w (by omega) h0 (by omega) (one_eq t _ _ h1) (one_eq t _ _ h1) (one_eq t _ _ h1) (one_eq t _ _ h1) ((w0 h0).trans hm)
      · exact ml1_s10 t w (by omega) h0 (by omega) (one_eq t _ _ h1) (one_eq t _ _ h1) (one_eq t _ _ h1) (one_eq t _ _ h1) ((w0 h0).trans hm)
      · exact ml1_s11 t w (by omega) h0 (by omega) (one_eq t _ _ h1) (one_eq t _ _ h1) (one_eq t _ _ h1) (one_eq t _ _ h1) ((w0 h0).trans hm)
      · exact ml1_s12 t w (by omega) h0 (by omega) (one_eq t _ _ h1) (one_eq t _ _ h1) (one_eq t _ _ h1) (one_eq t _ _ h1) ((w0 h0).trans hm)
    · rw [mk0_of hm2 hm1]
      exact ml0_s t w (by omega) h0 (by omega) (one_eq t _ _ h1) (one_eq t _ _ h1) (one_eq t _ _ h1) (one_eq t _ _ h1) (bq_false (fun e => hm1 (decide_eq_true (by rw [w0 h0] at e; simp [e])))) (bq_false (fun e => hm1 (decide_eq_true (by rw [w0 h0] at e; simp [e])))) (bq_false (fun e => hm1 (decide_eq_true (by rw [w0 h0] at e; simp [e])))) (bq_false (fun e => hm1 (decide_eq_true (by rw [w0 h0] at e; simp [e])))) (bq_false (fun e => hm1 (decide_eq_true (by rw [w0 h0] at e; simp [e])))) (bq_false (fun e => hm1 (decide_eq_true (by rw [w0 h0] at e; simp [e])))) (bq_false (fun e => hm1 (decide_eq_true (by rw [w0 h0] at e; simp [e])))) (bq_false (fun e => hm1 (decide_eq_true (by rw [w0 h0] at e; simp [e])))) (bq_false (fun e => hm1 (decide_eq_true (by rw [w0 h0] at e; simp [e])))) (bq_false (fun e => hm1 (decide_eq_true (by rw [w0 h0] at e; simp [e])))) (bq_false (fun e => hm1 (decide_eq_true (by rw [w0 h0] at e; simp [e])))) (bq_false (fun e => hm1 (decide_eq_true (by rw [w0 h0] at e; simp [e])))) (bq_false (fun e => hm1 (decide_eq_true (by rw [w0 h0] at e; simp [e]))))
  · have h2 : 2 ≤ t.size := by omega
    by_cases H0 : chI t 0 = ((61 : UInt8).toNat : Int) ∧ chI t 1 = ((61 : UInt8).toNat : Int)
    · rw [mk2_of (decide_eq_true (by rw [H0.1, H0.2]; decide))]
      exact ml2_0 t w (by omega)  ((two_eq t 61 61 h2).trans (decide_eq_true H0))
    by_cases H1 : chI t 0 = ((33 : UInt8).toNat : Int) ∧ chI t 1 = ((61 : UInt8).toNat : Int)
    · rw [mk2_of (decide_eq_true (by rw [H1.1, H1.2]; decide))]
      exact ml2_1 t w (by omega) ((two_eq t 61 61 h2).trans (decide_eq_false H0)) ((two_eq t 33 61 h2).trans (decide_eq_true H1))
    by_cases H2 : chI t 0 = ((38 : UInt8).toNat : Int) ∧ chI t 1 = ((38 : UInt8).toNat : Int)
    · rw [mk2_of (decide_eq_true (by rw [H2.1, H2.2]; decide))]
      exact ml2_2 t w (by omega) ((two_eq t 61 61 h2).trans (decide_eq_false H0)) ((two_eq t 33 61 h2).trans (decide_eq_false H1)) ((two_eq t 38 38 h2).trans (decide_eq_true H2))
    by_cases H3 : chI t 0 = ((124 : UInt8).toNat : Int) ∧ chI t 1 = ((124 : UInt8).toNat : Int)
    · rw [mk2_of (decide_eq_true (by rw [H3.1, H3.2]; decide))]
      exact ml2_3 t w (by omega) ((two_eq t 61 61 h2).trans (decide_eq_false H0)) ((two_eq t 33 61 h2).trans (decide_eq_false H1)) ((two_eq t 38 38 h2).trans (decide_eq_false H2)) ((two_eq t 124 124 h2).trans (decide_eq_true H3))
    have hm2 : ¬ mk2 (chI t 0) (chI t 1) = true := fun e => by
      have hm := of_decide_eq_true e
      rcases hm with hm | hm | hm | hm
      · exact H0 hm
      · exact H1 hm
      · exact H2 hm
      · exact H3 hm
    by_cases hm1 : mk1 (chI t 0) = true
    · rw [mk1_of hm2 hm1]
      have hm := of_decide_eq_true hm1
      rcases hm with hm | hm | hm | hm | hm | hm | hm | hm | hm | hm | hm | hm | hm
      · exact ml1_b0 t w (by omega) h0 (by omega) ((two_eq t 61 61 h2).trans (decide_eq_false H0)) ((two_eq t 33 61 h2).trans (decide_eq_false H1)) ((two_eq t 38 38 h2).trans (decide_eq_false H2)) ((two_eq t 124 124 h2).trans (decide_eq_false H3)) ((w0 h0).trans hm)
      · exact ml1_b1 t w (by omega) h0 (by omega) ((two_eq t 61 61 h2).trans (decide_eq_false H0)) ((two_eq t 33 61 h2).trans (decide_eq_false H1)) ((two_eq t 38 38 h2).trans (decide_eq_false H2)) ((two_eq t 124 124 h2).trans (decide_eq_false H3)) ((w0 h0).trans hm)
      · exact ml1_b2 t w (by omega) h0 (by omega) ((two_eq t 61 61 h2).trans (decide_eq_false H0)) ((two_eq t 33 61 h2).trans (decide_eq_false H1)) ((two_eq t 38 38 h2).trans (decide_eq_false H2)) ((two_eq t 124 124 h2).trans (decide_eq_false H3)) ((w0 h0).trans hm)
      · exact ml1_b3 t w (by omega) h0 (by omega) ((two_eq t 61 61 h2).trans (decide_eq_false H0)) ((two_eq t 33 61 h2).trans (decide_eq_false H1)) ((two_eq t 38 38 h2).trans (decide_eq_false H2)) ((two_eq t 124 124 h2).trans (decide_eq_false H3)) ((w0 h0).trans hm)
      · exact ml1_b4 t w (by omega) h0 (by omega) ((two_eq t 61 61 h2).trans (decide_eq_false H0)) ((two_eq t 33 61 h2).trans (decide_eq_false H1)) ((two_eq t 38 38 h2).trans (decide_eq_false H2)) ((two_eq t 124 124 h2).trans (decide_eq_false H3)) ((w0 h0).trans hm)
      · exact ml1_b5 t w (by omega) h0 (by omega) ((two_eq t 61 61 h2).trans (decide_eq_false H0)) ((two_eq t 33 61 h2).trans (decide_eq_false H1)) ((two_eq t 38 38 h2).trans (decide_eq_false H2)) ((two_eq t 124 124 h2).trans (decide_eq_false H3)) ((w0 h0).trans hm)
      · exact ml1_b6 t w (by omega) h0 (by omega) ((two_eq t 61 61 h2).trans (decide_eq_false H0)) ((two_eq t 33 61 h2).trans (decide_eq_false H1)) ((two_eq t 38 38 h2).trans (decide_eq_false H2)) ((two_eq t 124 124 h2).trans (decide_eq_false H3)) ((w0 h0).trans hm)
      · exact ml1_b7 t w (by omega) h0 (by omega) ((two_eq t 61 61 h2).trans (decide_eq_false H0)) ((two_eq t 33 61 h2).trans (decide_eq_false H1)) ((two_eq t 38 38 h2).trans (decide_eq_false H2)) ((two_eq t 124 124 h2).trans (decide_eq_false H3)) ((w0 h0).trans hm)
      · exact ml1_b8 t w (by omega) h0 (by omega) ((two_eq t 61 61 h2).trans (decide_eq_false H0)) ((two_eq t 33 61 h2).trans (decide_eq_false H1)) ((two_eq t 38 38 h2).trans (decide_eq_false H2)) ((two_eq t 124 124 h2).trans (decide_eq_false H3)) ((w0 h0).trans hm)
      · exact ml1_b9 t w (by omega) h0 (by omega) ((two_eq t 61 61 h2).trans (decide_eq_false H0)) ((two_eq t 33 61 h2).trans (decide_eq_false H1)) ((two_eq t 38 38 h2).trans (decide_eq_false H2)) ((two_eq t 124 124 h2).trans (decide_eq_false H3)) ((w0 h0).trans hm)
      · exact ml1_b10 t w (by omega) h0 (by omega) ((two_eq t 61 61 h2).trans (decide_eq_false H0)) ((two_eq t 33 61 h2).trans (decide_eq_false H1)) ((two_eq t 38 38 h2).trans (decide_eq_false H2)) ((two_eq t 124 124 h2).trans (decide_eq_false H3)) ((w0 h0).trans hm)
      · exact ml1_b11 t w (by omega) h0 (by omega) ((two_eq t 61 61 h2).trans (decide_eq_false H0)) ((two_eq t 33 61 h2).trans (decide_eq_false H1)) ((two_eq t 38 38 h2).trans (decide_eq_false H2)) ((two_eq t 124 124 h2).trans (decide_eq_false H3)) ((w0 h0).trans hm)
      · exact ml1_b12 t w (by omega) h0 (by omega) ((two_eq t 61 61 h2).trans (decide_eq_false H0)) ((two_eq t 33 61 h2).trans (decide_eq_false H1)) ((two_eq t 38 38 h2).trans (decide_eq_false H2)) ((two_eq t 124 124 h2).trans (decide_eq_false H3)) ((w0 h0).trans hm)
    · rw [mk0_of hm2 hm1]
      exact ml0_b t w (by omega) h0 (by omega) ((two_eq t 61 61 h2).trans (decide_eq_false H0)) ((two_eq t 33 61 h2).trans (decide_eq_false H1)) ((two_eq t 38 38 h2).trans (decide_eq_false H2)) ((two_eq t 124 124 h2).trans (decide_eq_false H3)) (bq_false (fun e => hm1 (decide_eq_true (by rw [w0 h0] at e; simp [e])))) (bq_false (fun e => hm1 (decide_eq_true (by rw [w0 h0] at e; simp [e])))) (bq_false (fun e => hm1 (decide_eq_true (by rw [w0 h0] at e; simp [e])))) (bq_false (fun e => hm1 (decide_eq_true (by rw [w0 h0] at e; simp [e])))) (bq_false (fun e => hm1 (decide_eq_true (by rw [w0 h0] at e; simp [e])))) (bq_false (fun e => hm1 (decide_eq_true (by rw [w0 h0] at e; simp [e])))) (bq_false (fun e => hm1 (decide_eq_true (by rw [w0 h0] at e; simp [e])))) (bq_false (fun e => hm1 (decide_eq_true (by rw [w0 h0] at e; simp [e])))) (bq_false (fun e => hm1 (decide_eq_true (by rw [w0 h0] at e; simp [e])))) (bq_false (fun e => hm1 (decide_eq_true (by rw [w0 h0] at e; simp [e])))) (bq_false (fun e => hm1 (decide_eq_true (by rw [w0 h0] at e; simp [e])))) (bq_false (fun e => hm1 (decide_eq_true (by rw [w0 h0] at e; simp [e])))) (bq_false (fun e => hm1 (decide_eq_true (by rw [w0 h0] at e; simp [e]))))
end Go.Proofs.Ytffgjamnijhlpaa
