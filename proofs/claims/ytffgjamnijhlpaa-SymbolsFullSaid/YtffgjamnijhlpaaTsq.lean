/- The reference's within. -/
import Derived.Test.YtffgjamnijhlpaaTsp
namespace Go.Proofs.Ytffgjamnijhlpaa
open Go.RowKit
/-- the words of a text, each ended by a blank -/
def segF (t : ByteArray) : Nat → Nat → Nat → List (List UInt8)
  | 0, _, _ => []
  | n + 1, i, from_ => if chI t i = 32 then (t.extract from_ i).toList :: segF t n (i + 1) (i + 1) else segF t n (i + 1) from_
def isIn (s : ByteArray) (l : List (List UInt8)) : Bool := !(s.toList == []) && l.contains s.toList
set_option maxRecDepth 100000 in
set_option maxHeartbeats 2000000 in
theorem within_c (s t : ByteArray) (w : World) (ht : t.size ≤ 1000000) :
    Calls Try.prog 53 #[.string s, .string t] w fun e w' => e = .returned (.bool (isIn s (segF t t.size 0 0))) ∧ w' = w := by
  obtain ⟨R, hR⟩ : ∃ r, isIn s (segF t t.size 0 0) = r := ⟨_, rfl⟩
  have HR := Lib.hid hR
  clear hR
  rw [HR.out]
  go_enter Try.func53, Try.ntmps53
  go_wp2_with fail
  go_loopw [5, 6] (fun vf vi wr => ∃ i f : Nat, f ≤ i ∧ i ≤ t.size ∧ vf = .int .i64 f ∧ vi = .int .i64 i ∧ isIn s (segF t (t.size - i) i f) = R ∧ wr = w)
    (fun _ vi _ => t.size - (intOf vi).toNat)
  case atStart => exact ⟨0, 0, Nat.le_refl _, Nat.zero_le _, rfl, rfl, HR.out, rfl⟩
  case round =>
    obtain ⟨i, f, hf, hi, rfl, rfl, hr, rfl⟩ := hrel
    by_cases hlt : i < t.size
    · have hl : (i : Int) < (t.size : Int) := by omega
      have hf' : (f : Int) ≤ (i : Int) := by omega
      have hi' : (i : Int) ≤ (t.size : Int) := by omega
      rw [show t.size - i = (t.size - (i + 1)) + 1 by omega, segF, chI_lt hlt] at hr
      by_cases hb : (t[i].toNat : Int) = 32
      · rw [if_pos hb] at hr
        cases hm : ((t.extract f i).toList == s.toList)
        · have hr' : isIn s (segF t (t.size - (i + 1)) (i + 1) (i + 1)) = R := by
            rw [← hr]
            have hm2 : ¬ s.toList = (t.extract f i).toList := fun e => by rw [e] at hm; simp at hm
            simp [isIn, hm2]
          have HQ := Lib.hid hr'
          clear hr hr'
          go_wp2
          exact ⟨⟨i + 1, i + 1, Nat.le_refl _, hlt, by simp, by simp, HQ.out, trivial⟩, by simp [intOf]; omega⟩
        · cases he : (s.toList == [])
          · have hR1 : R = true := by
              rw [← hr]
              have hm2 : s.toList = (t.extract f i).toList := (by simpa using hm : (t.extract f i).toList = s.toList).symm
              have he2 : ¬ s.toList = [] := by simpa using he
              simp [isIn, hm2]
              rw [← hm2]; simpa using he2
            subst hR1
            go_wp2
            go_ret
            exact ⟨rfl, rfl⟩
          · have hr' : isIn s (segF t (t.size - (i + 1)) (i + 1) (i + 1)) = R := by
              rw [← hr]
              have he2 : s.toList = [] := by simpa using he
              simp [isIn, he2]
            have HQ := Lib.hid hr'
            clear hr hr'
            go_wp2
            exact ⟨⟨i + 1, i + 1, Nat.le_refl _, hlt, by simp, by simp, HQ.out, trivial⟩, by simp [intOf]; omega⟩
      · rw [if_neg hb] at hr
        have HQ := Lib.hid hr
        have hb' : ((t[i].toNat : Int) == 32) = false := by simpa using hb
        clear hr
        go_wp2
        exact ⟨⟨i + 1, f, by omega, hlt, by simp, by simp, HQ.out, trivial⟩, by simp [intOf]; omega⟩
    · obtain rfl : i = t.size := by omega
      have hR0 : R = false := by rw [← hr, Nat.sub_self]; simp [segF, isIn]
      subst hR0
      go_wp2
      go_ret
      exact ⟨rfl, rfl⟩
def kwText : ByteArray := { data := #[109, 111, 100, 117, 108, 101, 32, 99, 108, 97, 115, 115, 32, 116, 121, 112, 101, 32, 97, 108, 105, 97, 115, 32, 116, 121, 112, 101, 97, 116, 116, 114, 105, 98, 117, 116, 101, 32, 97, 116, 116, 114, 105, 98, 117, 116, 101, 32, 114, 111, 108, 101, 32, 116, 121, 112, 101, 115, 32, 114, 111, 108, 101, 97, 108, 108, 111, 119, 32, 114, 111, 108, 101, 95, 116, 114, 97, 110, 115, 105, 116, 105, 111, 110, 32, 117, 115, 101, 114, 32, 114, 111, 108, 101, 115, 32, 108, 101, 118, 101, 108, 32, 114, 97, 110, 103, 101, 32, 98, 111, 111, 108, 32, 116, 114, 117, 101, 32, 102, 97, 108, 115, 101, 32, 115, 101, 110, 115, 105, 116, 105, 118, 105, 116, 121, 32, 99, 97, 116, 101, 103, 111, 114, 121, 32, 97, 108, 108, 111, 119, 32, 97, 117, 100, 105, 116, 97, 108, 108, 111, 119, 32, 100, 111, 110, 116, 97, 117, 100, 105, 116, 32, 110, 101, 118, 101, 114, 97, 108, 108, 111, 119, 32, 116, 121, 112, 101, 95, 116, 114, 97, 110, 115, 105, 116, 105, 111, 110, 32, 116, 121, 112, 101, 95, 99, 104, 97, 110, 103, 101, 32, 116, 121, 112, 101, 95, 109, 101, 109, 98, 101, 114, 32, 114, 97, 110, 103, 101, 95, 116, 114, 97, 110, 115, 105, 116, 105, 111, 110, 32, 99, 111, 110, 115, 116, 114, 97, 105, 110, 32, 118, 97, 108, 105, 100, 97, 116, 101, 116, 114, 97, 110, 115, 32, 105, 102, 32, 101, 108, 115, 101, 32, 111, 112, 116, 105, 111, 110, 97, 108, 32, 114, 101, 113, 117, 105, 114, 101, 32, 115, 105, 100, 32, 102, 105, 108, 101, 99, 111, 110, 32, 112, 101, 114, 109, 105, 115, 115, 105, 118, 101, 32, 97, 115, 115, 101, 114, 116, 32, 115, 101, 108, 102, 32, 105, 110, 32] }
set_option maxRecDepth 100000 in
theorem kwText_seg : segF kwText kwText.size 0 0 = kws := by kernel_rfl
theorem isKw_seg (s : ByteArray) : isIn s (segF kwText kwText.size 0 0) = isKw s := by
  rw [kwText_seg]
  unfold isIn isKw
  by_cases h : s.toList = []
  · rw [h]; decide
  · simp [h]
set_option maxRecDepth 100000 in
theorem rkw_c (s : ByteArray) (w : World) :
    Calls Try.prog 44 #[.string s] w fun e w' => e = .returned (.bool (isKw s)) ∧ w' = w := by
  go_enter Try.func44, Try.ntmps44
  go_wp2_with (go_at_call 53; refine (within_c s kwText _ (by decide)).mono ?_; rintro e w' ⟨rfl, rfl⟩; rw [isKw_seg])
  go_ret
  exact ⟨rfl, rfl⟩
end Go.Proofs.Ytffgjamnijhlpaa
