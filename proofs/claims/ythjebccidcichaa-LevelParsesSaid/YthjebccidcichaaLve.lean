/- Names: bytes of words, isName, the index of a text in a list. -/
import Derived.Test.YthjebccidcichaaLvd
import Derived.Test.YthjebccidcichaaStr
import Derived.Lib.ConvBytes
namespace Go.Proofs.Ythjebccidcichaa
open Go.RowKit
def wdB (c : Int) : Bool := decide ((97 ≤ c ∧ c ≤ 122) ∨ (65 ≤ c ∧ c ≤ 90) ∨ (48 ≤ c ∧ c ≤ 57) ∨ c = 95)
def byI (s : ByteArray) (i : Nat) : Int := ((s.data.toList.getD i 0).toNat : Int)
/-- the first index from i on, whose byte is of no word; the end -/
def allW (s : ByteArray) (k : Nat) : Prop := ∀ i, i < k → wdB (byI s i) = true
def nameS (s : ByteArray) : Bool := decide (0 < s.size ∧ ∀ i, i < s.size → wdB (byI s i) = true)
set_option maxRecDepth 100000 in
set_option maxHeartbeats 2000000 in
theorem word_c (c : Int) (w : World) (h0 : 0 ≤ c) (h1 : c ≤ 255) :
    Calls Try.prog 72 #[.int .u8 c] w fun e w' => e = .returned (.bool (wdB c)) ∧ w' = w := by
  obtain ⟨R, hR⟩ : ∃ R, wdB c = R := ⟨_, rfl⟩
  rw [hR]
  have HR := Lib.hid hR
  clear hR
  go_enter Try.func72, Try.ntmps72
  go_wp2_with fail
  all_goals
    go_ret
    refine ⟨ret_b ?_, rfl⟩
    rw [← HR.out]
    unfold wdB
    rw [Bool.eq_iff_iff]
    simp
    try omega
set_option maxRecDepth 100000 in
set_option maxHeartbeats 2000000 in
theorem rletter_c (c : Int) (w : World) (h0 : 0 ≤ c) (h1 : c ≤ 255) :
    Calls Try.prog 68 #[.int .u8 c] w fun e w' => e = .returned (.bool (wdB c)) ∧ w' = w := by
  obtain ⟨R, hR⟩ : ∃ R, wdB c = R := ⟨_, rfl⟩
  rw [hR]
  have HR := Lib.hid hR
  clear hR
  go_enter Try.func68, Try.ntmps68
  go_wp2_with fail
  all_goals
    go_ret
    refine ⟨ret_b ?_, rfl⟩
    rw [← HR.out]
    unfold wdB
    rw [Bool.eq_iff_iff]
    simp
    try omega
theorem nameS_no {s : ByteArray} {i : Nat} (h : i < s.size) (hw : wdB (byI s i) = false) : nameS s = false := decide_eq_false fun hh => by rw [hh.2 i h] at hw; cases hw
theorem nameS_yes {s : ByteArray} (h0 : 0 < s.size) (h : allW s s.size) : nameS s = true := decide_eq_true ⟨h0, h⟩
theorem nameS_nil {s : ByteArray} (h0 : s.size = 0) : nameS s = false := decide_eq_false fun hh => by omega
theorem byI_bd (s : ByteArray) (i : Nat) : 0 ≤ byI s i ∧ byI s i ≤ 255 := by
  unfold byI
  have := (s.data.toList.getD i 0).toNat_lt
  omega
theorem empty_is {s : ByteArray} (h : s.size = 0) : s = ⟨#[]⟩ := ByteArray.ext (Array.eq_empty_of_size_eq_zero h)
set_option maxRecDepth 100000 in
set_option maxHeartbeats 2000000 in
theorem isName_c (s : ByteArray) (w : World) (hs : s.size ≤ 1000000000000) :
    Calls Try.prog 65 #[.string s] w fun e w' => e = .returned (.bool (nameS s)) ∧ Below w.heap.size w w' := by
  obtain ⟨R, hR⟩ : ∃ R, nameS s = R := ⟨_, rfl⟩
  rw [hR]
  have HR := Lib.hid hR
  clear hR
  have hrun := Go.Lib.run_convert_string_bytes (P := Try.prog) w 9 76 5 s Try.underlying9 Try.underlying76 Try.underlying5
  have hcell := fun j hj => Go.Lib.bytesWorld_cell w 5 s j hj
  have hW : Below w.heap.size w (Go.Lib.bytesWorld w 5 s) := ⟨rfl, rfl, rfl, by rw [Go.Lib.bytesWorld_size]; omega, fun k hk => Go.Lib.bytesWorld_at_old w _ s k hk⟩
  generalize Go.Lib.bytesWorld w 5 s = W at *
  have HC := Lib.hid hcell
  have HW := Lib.hid hW
  clear hcell hW
  go_enter Try.func65, Try.ntmps65
  go_wp2_with fail
  go_loop [8] (fun vi => ∃ i : Nat, i ≤ s.size ∧ vi = .int .i64 i ∧ Hid (allW s i)) (fun vi => s.size - (intOf vi).toNat)
  case atStart => exact ⟨0, Nat.zero_le _, rfl, Lib.hid (fun i h => by omega)⟩
  case round =>
    obtain ⟨i, hi, rfl, HA⟩ := hrel
    by_cases hlt : i < s.size
    · have hlt' : (i : Int) < (s.size : Int) := by omega
      have hq : W.cell? ⟨w.heap.size, i, none⟩ = some (.int .u8 (byI s i)) := HC.out i hlt
      obtain ⟨b0, b1⟩ := byI_bd s i
      obtain ⟨b, hb⟩ : ∃ b, byI s i = b := ⟨_, rfl⟩
      rw [hb] at hq b0 b1
      have HWd := Lib.hid (word_c b W b0 b1)
      cases hw : wdB b
      · have hR0 : R = false := by rw [← HR.out]; exact nameS_no hlt (by rw [hb]; exact hw)
        subst hR0
        rw [hw] at HWd
        clear hb hw
        go_wp2_with (go_at_call 72; refine HWd.out.mono ?_; rintro e w2 ⟨rfl, rfl⟩)
        go_ret
        exact ⟨rfl, HW.out⟩
      · have HA2 : Hid (allW s (i + 1)) := Lib.hid fun k hk => by
          rcases Nat.lt_or_ge k i with h | h
          · exact HA.out k h
          · obtain rfl : k = i := by omega
            rw [hb]; exact hw
        rw [hw] at HWd
        clear hb hw
        go_wp2_with (go_at_call 72; refine HWd.out.mono ?_; rintro e w2 ⟨rfl, rfl⟩)
        go_round
        case rel => exact ⟨i + 1, hlt, by go_num, HA2⟩
        case measure => simp [intOf]; omega
    · obtain rfl : i = s.size := by omega
      by_cases h0 : s.size = 0
      · have hR0 : R = false := by rw [← HR.out]; exact nameS_nil h0
        subst hR0
        have he := empty_is h0
        have ht : s.toList = [] := by rw [he, ByteArray.toList_eq]
        clear h0 he
        go_wp2_with fail
        go_ret
        exact ⟨ret_b (by simp), HW.out⟩
      · have hR0 : R = true := by rw [← HR.out]; exact nameS_yes (by omega) HA.out
        subst hR0
        have ht : (s.toList == []) = false := by
          rw [ByteArray.toList_eq]
          cases hl : s.data.toList
          · exfalso
            have := congrArg List.length hl
            simp at this
            exact h0 (by rw [ByteArray.size, this]; rfl)
          · rfl
        clear h0
        go_wp2_with fail
        go_ret
        exact ⟨ret_b (by simp), HW.out⟩
/-- the first index of a text, or -1 -/
def idxS (l : List ByteArray) (s : ByteArray) : Int := if l.findIdx (fun x => decide (x = s)) < l.length then (l.findIdx (fun x => decide (x = s)) : Int) else -1
theorem idx_at {l : List ByteArray} {s : ByteArray} {i : Nat} (h : i < l.length) (he : l[i] = s) (hn : ∀ k (_ : k < i) (h' : k < l.length), l[k] ≠ s) : idxS l s = i := by
  have : l.findIdx (fun x => decide (x = s)) = i := (List.findIdx_eq h).2 ⟨by simpa using he, fun j hj => by simpa using hn j hj (by omega)⟩
  unfold idxS
  rw [this, if_pos h]
theorem idx_no {l : List ByteArray} {s : ByteArray} (hn : ∀ k (h' : k < l.length), l[k] ≠ s) : idxS l s = -1 := by
  unfold idxS
  rw [if_neg]
  intro h
  have := List.findIdx_getElem (p := fun x => decide (x = s)) (w := h)
  exact hn _ h (by simpa using this)
set_option maxRecDepth 100000 in
set_option maxHeartbeats 2000000 in
theorem index_c (v : Value) (l : List ByteArray) (s : ByteArray) (w : World) (hV : Strs w v l) (hl : l.length ≤ 1000000000000) :
    Calls Try.prog 50 #[v, .string s] w fun e w' => e = .returned (.int .i64 (idxS l s)) ∧ w' = w := by
  obtain ⟨ao, cap, rfl, hV⟩ := hV
  obtain ⟨R, hR⟩ : ∃ R, idxS l s = R := ⟨_, rfl⟩
  rw [hR]
  have HR := Lib.hid hR
  have HV := Lib.hid hV
  clear hR hV
  go_enter Try.func50, Try.ntmps50
  go_wp2_with fail
  go_loop [8] (fun vi => ∃ i : Nat, i ≤ l.length ∧ vi = .int .i64 i ∧ Hid (∀ k (_ : k < i) (h : k < l.length), l[k] ≠ s)) (fun vi => l.length - (intOf vi).toNat)
  case atStart => exact ⟨0, Nat.zero_le _, rfl, Lib.hid fun k h => absurd h (by omega)⟩
  case round =>
    obtain ⟨i, hi, rfl, HS⟩ := hrel
    by_cases hlt : i < l.length
    · obtain ⟨g, o, rfl, hRow⟩ := HV.out (by rintro rfl; simp at hlt)
      have q1 := hRow i hlt
      have hlt' : (i : Int) < (l.length : Int) := by omega
      obtain ⟨x, hx⟩ : ∃ x, l[i] = x := ⟨_, rfl⟩
      rw [hx] at q1
      by_cases hxs : x = s
      · subst hxs
        have e1 := idx_at hlt hx (HS.out)
        rw [HR.out] at e1
        subst e1
        clear hx HS hRow HR
        go_wp2_with fail
        go_ret
        exact ⟨rfl, rfl⟩
      · have h2 : (x.toList == s.toList) = false := by
          rw [bytes_beq]
          exact decide_eq_false hxs
        have h3 : (s.toList == x.toList) = false := by
          rw [bytes_beq]
          exact decide_eq_false (fun e => hxs e.symm)
        have HS2 : Hid (∀ k (_ : k < i + 1) (h : k < l.length), l[k] ≠ s) := Lib.hid fun k h h1 => by
          rcases Nat.lt_or_ge k i with hk | hk
          · exact HS.out k hk h1
          · obtain rfl : k = i := by omega
            rw [hx]; exact hxs
        clear hx HS hRow
        go_wp2_with fail
        go_round
        case rel => exact ⟨i + 1, hlt, by go_num, HS2⟩
        case measure => simp [intOf]; omega
    · obtain rfl : i = l.length := by omega
      have e1 := idx_no (s := s) (fun k h => HS.out k h h)
      rw [HR.out] at e1
      subst e1
      clear HR
      go_wp2_with fail
      go_ret
      exact ⟨rfl, rfl⟩
set_option maxRecDepth 100000 in
set_option maxHeartbeats 2000000 in
theorem rindex_c (v : Value) (l : List ByteArray) (s : ByteArray) (w : World) (hV : Strs w v l) (hl : l.length ≤ 1000000000000) :
    Calls Try.prog 52 #[v, .string s] w fun e w' => e = .returned (.int .i64 (idxS l s)) ∧ w' = w := by
  obtain ⟨ao, cap, rfl, hV⟩ := hV
  obtain ⟨R, hR⟩ : ∃ R, idxS l s = R := ⟨_, rfl⟩
  rw [hR]
  have HR := Lib.hid hR
  have HV := Lib.hid hV
  clear hR hV
  go_enter Try.func52, Try.ntmps52
  go_wp2_with fail
  go_loop [5] (fun vi => ∃ i : Nat, i ≤ l.length ∧ vi = .int .i64 i ∧ Hid (∀ k (_ : k < i) (h : k < l.length), l[k] ≠ s)) (fun vi => l.length - (intOf vi).toNat)
  case atStart => exact ⟨0, Nat.zero_le _, rfl, Lib.hid fun k h => absurd h (by omega)⟩
  case round =>
    obtain ⟨i, hi, rfl, HS⟩ := hrel
    by_cases hlt : i < l.length
    · obtain ⟨g, o, rfl, hRow⟩ := HV.out (by rintro rfl; simp at hlt)
      have q1 := hRow i hlt
      have hlt' : (i : Int) < (l.length : Int) := by omega
      obtain ⟨x, hx⟩ : ∃ x, l[i] = x := ⟨_, rfl⟩
      rw [hx] at q1
      by_cases hxs : x = s
      · subst hxs
        have e1 := idx_at hlt hx (HS.out)
        rw [HR.out] at e1
        subst e1
        clear hx HS hRow HR
        go_wp2_with fail
        go_ret
        exact ⟨rfl, rfl⟩
      · have h2 : (x.toList == s.toList) = false := by
          rw [bytes_beq]
          exact decide_eq_false hxs
        have h3 : (s.toList == x.toList) = false := by
          rw [bytes_beq]
          exact decide_eq_false (fun e => hxs e.symm)
        have HS2 : Hid (∀ k (_ : k < i + 1) (h : k < l.length), l[k] ≠ s) := Lib.hid fun k h h1 => by
          rcases Nat.lt_or_ge k i with hk | hk
          · exact HS.out k hk h1
          · obtain rfl : k = i := by omega
            rw [hx]; exact hxs
        clear hx HS hRow
        go_wp2_with fail
        go_round
        case rel => exact ⟨i + 1, hlt, by go_num, HS2⟩
        case measure => simp [intOf]; omega
    · obtain rfl : i = l.length := by omega
      have e1 := idx_no (s := s) (fun k h => HS.out k h h)
      rw [HR.out] at e1
      subst e1
      clear HR
      go_wp2_with fail
      go_ret
      exact ⟨rfl, rfl⟩
end Go.Proofs.Ythjebccidcichaa
