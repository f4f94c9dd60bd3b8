/- Equality of lists of texts: Same of the reference. Condition: at most a million names, types, attributes and aliases. -/
import Derived.Test.YtbkejoheefnmiaaNsq
namespace Go.Proofs.Ytbkejoheefnmiaa
open Go.RowKit
set_option maxRecDepth 100000 in
set_option maxHeartbeats 2000000 in
theorem same_c (v v2 : Value) (l m : List ByteArray) (w : World) (hS : Strs w v l) (hS2 : Strs w v2 m) (hn2 : m.length ≤ 1000000) :
    Calls Try.prog 24 #[v, v2] w fun e w' => e = .returned (.bool (sameS l m)) ∧ Below w.heap.size w w' := by
  obtain ⟨ao, cap, rfl, hr⟩ := hS
  obtain ⟨ao2, cap2, rfl, hr2⟩ := hS2
  obtain ⟨R, hR⟩ : ∃ R, sameS l m = R := ⟨_, rfl⟩
  rw [hR]
  have HR := Lib.hid hR
  clear hR
  by_cases hlen : l.length = m.length
  · have HL := Lib.hid hlen
    rw [hlen]
    clear hlen
    go_enter Try.func24, Try.ntmps24
    go_wp2_with fail
    go_loopw [5] (fun vi wr => ∃ i : Nat, i ≤ m.length ∧ vi = .int .i64 i ∧ Hid (∀ k (_ : k < i) (h1 : k < l.length) (h2 : k < m.length), l[k] = m[k]) ∧ Hid (Kp w wr)) (fun vi _ => m.length - (intOf vi).toNat)
    case atStart => exact ⟨0, Nat.zero_le _, rfl, Lib.hid fun k h => absurd h (by omega), Lib.hid Kp.rfl'⟩
    case round =>
      obtain ⟨i, hi, rfl, HA, HK⟩ := hrel
      by_cases hlt2 : i < m.length
      · have hlt : i < l.length := by rw [HL.out]; exact hlt2
        obtain ⟨g, o, rfl, hRow⟩ := hr (by rintro rfl; simp at hlt)
        obtain ⟨g2, o2, rfl, hRow2⟩ := hr2 (by rintro rfl; simp at hlt2)
        obtain ⟨x, hx⟩ : ∃ x, l[i] = x := ⟨_, rfl⟩
        obtain ⟨y, hy⟩ : ∃ y, m[i] = y := ⟨_, rfl⟩
        have HS1 : Hid (∀ W', Kp wr W' → W'.cell? ⟨g, o + i, none⟩ = some (.string x)) := Lib.hid fun W' h => by
          rw [← hx]; exact (hRow.keep ((Below.trans HK.out (Below.mono h HK.out.size)).block g (hRow.lt (by omega)))) i hlt
        have HS2 : Hid (∀ W', Kp wr W' → W'.cell? ⟨g2, o2 + i, none⟩ = some (.string y)) := Lib.hid fun W' h => by
          rw [← hy]; exact (hRow2.keep ((Below.trans HK.out (Below.mono h HK.out.size)).block g2 (hRow2.lt (by omega)))) i hlt2
        have hi0 : (0 : Int) ≤ (i : Int) := by omega
        have hlt' : (i : Int) < (m.length : Int) := by omega
        by_cases hs : x = y
        · have HA2 : Hid (∀ k (_ : k < i + 1) (h1 : k < l.length) (h2 : k < m.length), l[k] = m[k]) := Lib.hid fun k hk h1 h2 => by
            rcases Nat.lt_or_ge k i with h' | h'
            · exact HA.out k h' h1 h2
            · obtain rfl : k = i := by omega
              rw [hx, hy]; exact hs
          subst hs
          have hb : (x.toList == x.toList) = true := by simp
          have hb2 : (x.toList != x.toList) = false := by simp
          clear hx hy HA hlt
          go_wp2_with fail
          refine wp_region_kp (by kernel_rfl) (by kernel_rfl) ?_
          repeat (first
            | go_big_quiet_skip
            | (go_big_quiet_want
               go_big_quiet_op
               first
                 | go_big_quiet_on
                 | (apply Exists.intro
                    refine ⟨fun w1 hC => ?_, ?_⟩
                    · first
                        | (have p0 := HS1.out _ hC; have p1 := HS2.out _ hC; go_simp; exact rfl)
                        | (go_simp; exact ⟨rfl, rfl⟩)
                    go_big_quiet_on)))
          refine wpQuiet_nil ?_
          intro W' hC
          have HK2 := Lib.hid (Below.trans HK.out (Below.mono hC HK.out.size))
          go_wp2_with fail
          go_roundw
          case rel => exact ⟨i + 1, hlt2, by go_num, HA2, HK2⟩
          case measure => simp [intOf]; omega
        · obtain rfl : false = R := by rw [← HR.out, sameS_no hlt hlt2 (by rw [hx, hy]; exact hs)]
          have hb : (x.toList == y.toList) = false := by rw [bytes_beq]; exact decide_eq_false hs
          have hb2 : (x.toList != y.toList) = true := by unfold bne; rw [hb]; rfl
          clear hx hy HA hlt hs
          go_wp2_with fail
          refine wp_region_kp (by kernel_rfl) (by kernel_rfl) ?_
          repeat (first
            | go_big_quiet_skip
            | (go_big_quiet_want
               go_big_quiet_op
               first
                 | go_big_quiet_on
                 | (apply Exists.intro
                    refine ⟨fun w1 hC => ?_, ?_⟩
                    · first
                        | (have p0 := HS1.out _ hC; have p1 := HS2.out _ hC; go_simp; exact rfl)
                        | (go_simp; exact ⟨rfl, rfl⟩)
                    go_big_quiet_on)))
          refine wpQuiet_nil ?_
          intro W' hC
          have HK2 := Lib.hid (Below.trans HK.out (Below.mono hC HK.out.size))
          go_wp2_with fail
          go_ret
          exact ⟨rfl, HK2.out⟩
      · obtain rfl : i = m.length := by omega
        obtain rfl : true = R := by rw [← HR.out, sameS_yes HL.out fun k h1 h2 => HA.out k h2 h1 h2]
        clear HA
        go_wp2_with fail
        go_ret
        exact ⟨rfl, HK.out⟩
  · obtain rfl : false = R := by rw [← HR.out, sameS_len hlen]
    have h1 : ((l.length : Int) == (m.length : Int)) = false := by simpa using fun h : (l.length : Int) = m.length => hlen (by omega)
    have h2 : ((l.length : Int) != (m.length : Int)) = true := by unfold bne; rw [h1]; rfl
    go_enter Try.func24, Try.ntmps24
    go_wp2_with fail
    go_ret
    exact ⟨rfl, Below.refl _ _⟩
end Go.Proofs.Ytbkejoheefnmiaa
