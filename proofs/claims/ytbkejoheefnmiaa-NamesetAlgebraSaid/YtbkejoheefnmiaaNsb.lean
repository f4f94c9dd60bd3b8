/- slices.Index, slices.Contains and the reference's index: where a text stands in a list. Condition: at most 10^12 texts. -/
import Derived.Test.YtbkejoheefnmiaaNsa
import Derived.LoopTactic
namespace Go.Proofs.Ytbkejoheefnmiaa
open Go.RowKit
set_option maxRecDepth 100000 in
set_option maxHeartbeats 1000000 in
theorem index_c (v : Value) (l : List ByteArray) (s : ByteArray) (w : World) (hS : Strs w v l) (hn : l.length ≤ 1000000000000) :
    Calls Try.prog 47 #[v, .string s] w fun e w' => e = .returned (.int .i64 (idxI l s)) ∧ w = w' := by
  obtain ⟨ao, cap, rfl, hr⟩ := hS
  obtain ⟨R, hR⟩ : ∃ R, idxI l s = R := ⟨_, rfl⟩
  rw [hR]
  have HR := Lib.hid hR
  clear hR
  go_enter Try.func47, Try.ntmps47
  go_wp2_with fail
  go_loop [8] (fun vi => ∃ i : Nat, i ≤ l.length ∧ vi = .int .i64 i ∧ Hid (∀ k (_ : k < i) (h' : k < l.length), l[k] ≠ s)) (fun vi => l.length - (intOf vi).toNat)
  case atStart => exact ⟨0, Nat.zero_le _, rfl, Lib.hid fun k h => absurd h (by omega)⟩
  case round =>
    obtain ⟨i, hi, rfl, HA⟩ := hrel
    by_cases hlt : i < l.length
    · have hlt' : (i : Int) < (l.length : Int) := by omega
      obtain ⟨g, o, rfl, q⟩ := hr (by rintro rfl; simp at hlt)
      have q := q i hlt
      obtain ⟨x, hx⟩ : ∃ x, l[i] = x := ⟨_, rfl⟩
      rw [hx] at q
      by_cases hs : x = s
      · subst hs
        obtain rfl : (i : Int) = R := by rw [← HR.out, idxI_hit hlt hx HA.out]
        clear hx HA
        have hb : (x.toList == x.toList) = true := by simp
        go_wp2_with fail
        go_ret
        exact ⟨rfl, rfl⟩
      · have hb : (s.toList == x.toList) = false := by rw [bytes_beq]; exact decide_eq_false fun e => hs e.symm
        have HA2 : Hid (∀ k (_ : k < i + 1) (h' : k < l.length), l[k] ≠ s) := Lib.hid fun k hk h => by
          rcases Nat.lt_or_ge k i with h' | h'
          · exact HA.out k h' h
          · obtain rfl : k = i := by omega
            rw [hx]; exact hs
        clear hx HA hs
        go_wp2_with fail
        go_round
        case rel => exact ⟨i + 1, hlt, by go_num, HA2⟩
        case measure => simp [intOf]; omega
    · obtain rfl : i = l.length := by omega
      obtain rfl : -1 = R := by rw [← HR.out, idxI_none fun k h => HA.out k h h]
      clear HA
      go_wp2_with fail
      go_ret
      exact ⟨rfl, rfl⟩
set_option maxRecDepth 100000 in
set_option maxHeartbeats 1000000 in
theorem rindex_c (v : Value) (l : List ByteArray) (s : ByteArray) (w : World) (hS : Strs w v l) (hn : l.length ≤ 1000000000000) :
    Calls Try.prog 34 #[v, .string s] w fun e w' => e = .returned (.int .i64 (idxI l s)) ∧ w = w' := by
  obtain ⟨ao, cap, rfl, hr⟩ := hS
  obtain ⟨R, hR⟩ : ∃ R, idxI l s = R := ⟨_, rfl⟩
  rw [hR]
  have HR := Lib.hid hR
  clear hR
  go_enter Try.func34, Try.ntmps34
  go_wp2_with fail
  go_loop [5] (fun vi => ∃ i : Nat, i ≤ l.length ∧ vi = .int .i64 i ∧ Hid (∀ k (_ : k < i) (h' : k < l.length), l[k] ≠ s)) (fun vi => l.length - (intOf vi).toNat)
  case atStart => exact ⟨0, Nat.zero_le _, rfl, Lib.hid fun k h => absurd h (by omega)⟩
  case round =>
    obtain ⟨i, hi, rfl, HA⟩ := hrel
    by_cases hlt : i < l.length
    · have hlt' : (i : Int) < (l.length : Int) := by omega
      obtain ⟨g, o, rfl, q⟩ := hr (by rintro rfl; simp at hlt)
      have q := q i hlt
      obtain ⟨x, hx⟩ : ∃ x, l[i] = x := ⟨_, rfl⟩
      rw [hx] at q
      by_cases hs : x = s
      · subst hs
        obtain rfl : (i : Int) = R := by rw [← HR.out, idxI_hit hlt hx HA.out]
        clear hx HA
        have hb : (x.toList == x.toList) = true := by simp
        go_wp2_with fail
        go_ret
        exact ⟨rfl, rfl⟩
      · have hb : (x.toList == s.toList) = false := by rw [bytes_beq]; exact decide_eq_false hs
        have HA2 : Hid (∀ k (_ : k < i + 1) (h' : k < l.length), l[k] ≠ s) := Lib.hid fun k hk h => by
          rcases Nat.lt_or_ge k i with h' | h'
          · exact HA.out k h' h
          · obtain rfl : k = i := by omega
            rw [hx]; exact hs
        clear hx HA hs
        go_wp2_with fail
        go_round
        case rel => exact ⟨i + 1, hlt, by go_num, HA2⟩
        case measure => simp [intOf]; omega
    · obtain rfl : i = l.length := by omega
      obtain rfl : -1 = R := by rw [← HR.out, idxI_none fun k h => HA.out k h h]
      clear HA
      go_wp2_with fail
      go_ret
      exact ⟨rfl, rfl⟩
theorem contains_c (v : Value) (l : List ByteArray) (s : ByteArray) (w : World) (hS : Strs w v l) (hn : l.length ≤ 1000000000000) :
    Calls Try.prog 33 #[v, .string s] w fun e w' => e = .returned (.bool (hasT l s)) ∧ w = w' := by
  have H := Lib.hid (index_c v l s w hS hn)
  unfold hasT
  obtain ⟨R, hR⟩ : ∃ R, idxI l s = R := ⟨_, rfl⟩
  rw [hR]
  go_enter Try.func33, Try.ntmps33
  go_wp2_with (go_at_call 47; refine H.out.mono ?_; rintro e w2 ⟨rfl, rfl⟩; rw [hR])
  go_ret
  exact ⟨rfl, rfl⟩
end Go.Proofs.Ytbkejoheefnmiaa
