/- few and short. -/
import Derived.Test.YthjebccidcichaaLvi
namespace Go.Proofs.Ythjebccidcichaa
open Go.RowKit
def FewN (l : List ByteArray) : Prop := l.length ≤ 100 ∧ ∀ s ∈ l, s.size ≤ 100
theorem FewN.few {l : List ByteArray} (h : FewN l) : Few l := ⟨by have := h.1; omega, fun s hs => by have := h.2 s hs; omega⟩
theorem FewN.at {l : List ByteArray} (h : FewN l) {i : Nat} (hi : i < l.length) : l[i].size ≤ 100 := h.2 _ (List.getElem_mem hi)
theorem FewN.mk' {l : List ByteArray} (h : l.length ≤ 100) (h2 : ∀ i (hi : i < l.length), l[i].size ≤ 100) : FewN l := ⟨h, fun s hs => by
  obtain ⟨i, hi, rfl⟩ := List.mem_iff_getElem.1 hs
  exact h2 i hi⟩
/-- whether both lists are few: chosen by whoever asks -/
def FewOut (l m : List ByteArray) (w : World) (e : Ending) (w' : World) : Prop := ∃ b : Bool, e = .returned (.bool b) ∧ (b = true → FewN l ∧ FewN m) ∧ Below w.heap.size w w'
set_option maxRecDepth 100000 in
set_option maxHeartbeats 8000000 in
theorem few_c (v u : Value) (l m : List ByteArray) (w : World) (hV : Strs w v l) (hU : Strs w u m) (hl : l.length ≤ maxLen) (hm : m.length ≤ maxLen) :
    Calls Try.prog 29 #[.agg #[v, u]] w (FewOut l m w) := by
  unfold maxLen at hl hm
  obtain ⟨ao, cap, rfl, hr⟩ := hV
  obtain ⟨ao2, cap2, rfl, hr2⟩ := hU
  have hB := Blk.new w 39 #[.slice ao l.length cap, .slice ao2 m.length cap2]
  have hW : Kp w (w.alloc (.cells #[.slice ao l.length cap, .slice ao2 m.length cap2] 39)) := Kp.rfl'.alloc _
  have HR : Hid (∀ i (h : i < l.length), ∃ g o, ao = some ⟨g, o, none⟩ ∧ (w.alloc (.cells #[.slice ao l.length cap, .slice ao2 m.length cap2] 39)).cell? ⟨g, o + i, none⟩ = some (.string l[i])) := Lib.hid fun i h => by
    obtain ⟨g, o, rfl, hR⟩ := hr (by rintro rfl; simp at h)
    exact ⟨g, o, rfl, (hR.keep (hW.block g (hR.lt (by omega)))) i h⟩
  have HR2 : Hid (∀ i (h : i < m.length), ∃ g o, ao2 = some ⟨g, o, none⟩ ∧ (w.alloc (.cells #[.slice ao l.length cap, .slice ao2 m.length cap2] 39)).cell? ⟨g, o + i, none⟩ = some (.string m[i])) := Lib.hid fun i h => by
    obtain ⟨g, o, rfl, hR⟩ := hr2 (by rintro rfl; simp at h)
    exact ⟨g, o, rfl, (hR.keep (hW.block g (hR.lt (by omega)))) i h⟩
  clear hr hr2
  obtain ⟨y0, y1⟩ := hB.box2
  have HW := Lib.hid hW
  clear hB hW
  have HNO : Hid (∀ w', Below w.heap.size w w' → FewOut l m w (.returned (.bool false)) w') := Lib.hid fun w' hb => ⟨false, rfl, (fun h => by cases h), hb⟩
  by_cases h1 : l.length ≤ 100
  · have h1' : (l.length : Int) ≤ 100 := by omega
    by_cases h2 : m.length ≤ 100
    · have h2' : (m.length : Int) ≤ 100 := by omega
      go_enter Try.func29, Try.ntmps29
      go_wp2_with fail
      generalize w.alloc (.cells #[.slice ao l.length cap, .slice ao2 m.length cap2] 39) = W at *
      go_loop [3] (fun vi => ∃ i : Nat, i ≤ l.length ∧ vi = .int .i64 i ∧ Hid (∀ k (_ : k < i) (h : k < l.length), l[k].size ≤ 100)) (fun vi => l.length - (intOf vi).toNat)
      case atStart => exact ⟨0, Nat.zero_le _, rfl, Lib.hid fun k h => absurd h (by omega)⟩
      case round =>
        obtain ⟨i, hi, rfl, HA⟩ := hrel
        by_cases hlt : i < l.length
        · have hlt' : (i : Int) < (l.length : Int) := by omega
          obtain ⟨g, o, rfl, q⟩ := HR.out i hlt
          obtain ⟨x, hx⟩ : ∃ x, l[i] = x := ⟨_, rfl⟩
          rw [hx] at q
          by_cases hs : x.size ≤ 100
          · have hs' : (x.size : Int) ≤ 100 := by omega
            have HA2 : Hid (∀ k (_ : k < i + 1) (h : k < l.length), l[k].size ≤ 100) := Lib.hid fun k hk h => by
              rcases Nat.lt_or_ge k i with h' | h'
              · exact HA.out k h' h
              · obtain rfl : k = i := by omega
                rw [hx]; exact hs
            clear hx HA hs
            go_wp2_with fail
            go_round
            case rel => exact ⟨i + 1, hlt, by go_num, HA2⟩
            case measure => simp [intOf]; omega
          · have hs' : (100 : Int) < (x.size : Int) := by omega
            clear hx HA hs
            go_wp2_with fail
            go_ret
            exact HNO.out _ HW.out
        · obtain rfl : i = l.length := by omega
          have HA1 := Lib.hid (FewN.mk' h1 fun i hi => HA.out i hi hi)
          clear HA
          go_wp2_with fail
          go_loop [4] (fun vi => ∃ i : Nat, i ≤ m.length ∧ vi = .int .i64 i ∧ Hid (∀ k (_ : k < i) (h : k < m.length), m[k].size ≤ 100)) (fun vi => m.length - (intOf vi).toNat)
          case atStart => exact ⟨0, Nat.zero_le _, rfl, Lib.hid fun k h => absurd h (by omega)⟩
          case round =>
            obtain ⟨i, hi, rfl, HA⟩ := hrel
            by_cases hlt : i < m.length
            · have hlt' : (i : Int) < (m.length : Int) := by omega
              obtain ⟨g, o, rfl, q⟩ := HR2.out i hlt
              obtain ⟨x, hx⟩ : ∃ x, m[i] = x := ⟨_, rfl⟩
              rw [hx] at q
              by_cases hs : x.size ≤ 100
              · have hs' : (x.size : Int) ≤ 100 := by omega
                have HA2 : Hid (∀ k (_ : k < i + 1) (h : k < m.length), m[k].size ≤ 100) := Lib.hid fun k hk h => by
                  rcases Nat.lt_or_ge k i with h' | h'
                  · exact HA.out k h' h
                  · obtain rfl : k = i := by omega
                    rw [hx]; exact hs
                clear hx HA hs
                go_wp2_with fail
                go_round
                case rel => exact ⟨i + 1, hlt, by go_num, HA2⟩
                case measure => simp [intOf]; omega
              · have hs' : (100 : Int) < (x.size : Int) := by omega
                clear hx HA hs
                go_wp2_with fail
                go_ret
                exact HNO.out _ HW.out
            · obtain rfl : i = m.length := by omega
              have HA2 := Lib.hid (FewN.mk' h2 fun i hi => HA.out i hi hi)
              clear HA
              go_wp2_with fail
              go_ret
              exact ⟨true, rfl, fun _ => ⟨HA1.out, HA2.out⟩, HW.out⟩
    · have h2' : (100 : Int) < (m.length : Int) := by omega
      go_enter Try.func29, Try.ntmps29
      go_wp2_with fail
      go_ret
      exact HNO.out _ HW.out
  · have h1' : (100 : Int) < (l.length : Int) := by omega
    go_enter Try.func29, Try.ntmps29
    go_wp2_with fail
    go_ret
    exact HNO.out _ HW.out
set_option maxRecDepth 100000 in
set_option maxHeartbeats 4000000 in
theorem short_c (sn : ByteArray) (ao : Option Addr) (n cap : Nat) (w : World) :
    Calls Try.prog 34 #[.agg #[.string sn, .slice ao n cap]] w fun e w' => e = .returned (.bool (decide ((n : Int) ≤ 100))) ∧ Below w.heap.size w w' := by
  have hW : Kp w (w.alloc (.cells #[.string sn, .slice ao n cap] 50)) := Kp.rfl'.alloc _
  go_enter Try.func34, Try.ntmps34
  go_wp2_with fail
  go_ret
  exact ⟨rfl, hW⟩
end Go.Proofs.Ythjebccidcichaa
