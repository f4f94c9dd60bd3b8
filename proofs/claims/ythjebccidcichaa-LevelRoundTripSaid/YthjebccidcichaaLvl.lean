/- The reference's word; has. -/
import Derived.Test.YthjebccidcichaaLvk
namespace Go.Proofs.Ythjebccidcichaa
open Go.RowKit
def wGo (s : ByteArray) : Nat → Nat → Nat
  | 0, i => i
  | f + 1, i => if i < s.size ∧ wdB (byI s i) = true then wGo s f (i + 1) else i
/-- the index behind the name that begins at i -/
def wEnd (s : ByteArray) (i : Nat) : Nat := wGo s (s.size - i) i
theorem wEnd_step {s : ByteArray} {i : Nat} (h : i < s.size) (hw : wdB (byI s i) = true) : wEnd s i = wEnd s (i + 1) := by
  unfold wEnd
  rw [show s.size - i = (s.size - (i + 1)) + 1 by omega]
  exact if_pos ⟨h, hw⟩
theorem wEnd_stop {s : ByteArray} {i : Nat} (h : ¬ (i < s.size ∧ wdB (byI s i) = true)) : wEnd s i = i := by
  unfold wEnd
  cases s.size - i with
  | zero => rfl
  | succ f => exact if_neg h
theorem wGo_le (s : ByteArray) : ∀ f i, i ≤ s.size → i ≤ wGo s f i ∧ wGo s f i ≤ s.size
  | 0, i, h => ⟨Nat.le_refl _, h⟩
  | f + 1, i, h => by
    unfold wGo
    split
    · rename_i hh
      have := wGo_le s f (i + 1) hh.1
      omega
    · exact ⟨Nat.le_refl _, h⟩
theorem wEnd_le {s : ByteArray} {i : Nat} (h : i ≤ s.size) : i ≤ wEnd s i ∧ wEnd s i ≤ s.size := wGo_le s _ i h
set_option maxRecDepth 100000 in
set_option maxHeartbeats 2000000 in
theorem rword_c (s : ByteArray) (i : Nat) (w : World) (hs : s.size ≤ 1000000000000) (hi : i ≤ s.size) :
    Calls Try.prog 69 #[.string s, .int .i64 i] w fun e w' => e = .returned (.int .i64 (wEnd s i)) ∧ w' = w := by
  obtain ⟨R, hR⟩ : ∃ R, wEnd s i = R := ⟨_, rfl⟩
  rw [hR]
  have HR := Lib.hid hR
  clear hR
  go_enter Try.func69, Try.ntmps69
  go_wp2_with fail
  go_loop [1] (fun vk => ∃ k : Nat, k ≤ s.size ∧ vk = .int .i64 k ∧ Hid (wEnd s k = R)) (fun vk => s.size - (intOf vk).toNat)
  case atStart => exact ⟨i, hi, rfl, HR⟩
  case round =>
    clear HR
    obtain ⟨k, hk, rfl, HR⟩ := hrel
    by_cases hkt : k < s.size
    · have hkt' : (k : Int) < (s.size : Int) := by omega
      obtain ⟨b0, b1⟩ := byI_bd s k
      have hbg := byI_get hkt
      have HWd := Lib.hid (fun W => rletter_c (byI s k) W b0 b1)
      clear b0 b1
      cases hw : wdB (byI s k)
      · have hR0 : k = R := by rw [← HR.out]; exact (wEnd_stop (fun h => by rw [hw] at h; cases h.2)).symm
        subst hR0
        rw [hw] at HWd
        have HBG := Lib.hid hbg
        clear hw HR hbg
        go_wp2_with (go_at_call 68; rw [HBG.out]; refine (HWd.out _).mono ?_; rintro e w2 ⟨rfl, rfl⟩)
        go_ret
        exact ⟨rfl, rfl⟩
      · have HR2 : Hid (wEnd s (k + 1) = R) := Lib.hid (by rw [← HR.out]; exact (wEnd_step hkt hw).symm)
        rw [hw] at HWd
        have HBG := Lib.hid hbg
        clear hw HR hbg
        go_wp2_with (go_at_call 68; rw [HBG.out]; refine (HWd.out _).mono ?_; rintro e w2 ⟨rfl, rfl⟩)
        go_round
        case rel => exact ⟨k + 1, hkt, by go_num, HR2⟩
        case measure => simp [intOf]; omega
    · obtain rfl : k = s.size := by omega
      have hR0 : s.size = R := by rw [← HR.out]; exact (wEnd_stop (fun h => absurd h.1 (by omega))).symm
      subst hR0
      clear HR
      go_wp2_with fail
      go_ret
      exact ⟨rfl, rfl⟩
set_option maxRecDepth 100000 in
set_option maxHeartbeats 2000000 in
/-- the program's has, for the numbers that runs asks for -/
theorem has_c (c k : Nat) (w : World) (hc : c < U64) (hk : k ≤ 64) :
    Calls Try.prog 70 #[.int .u64 c, .int .i64 k] w fun e w' => e = .returned (.bool (hasL c k)) ∧ w' = w := by
  by_cases h : k < 64
  · have hb := bit_walk c k hc h
    have HB := Lib.hid hb
    have hm : min k 64 = k := by omega
    clear hb
    go_enter Try.func70, Try.ntmps70
    go_wp2_with fail
    go_ret
    exact ⟨ret_b HB.out, rfl⟩
  · obtain rfl : k = 64 := by omega
    rw [hasL_out c (by omega)]
    go_enter Try.func70, Try.ntmps70
    go_wp2_with fail
    go_ret
    have hu : c < 18446744073709551616 := hc
    have hq : (c : Int) / 18446744073709551616 = 0 := by omega
    have hz : (bits .and .u64 ((c : Int) / 18446744073709551616) 1 == 1) = false := by rw [hq]; decide
    exact ⟨ret_b hz, rfl⟩
end Go.Proofs.Ythjebccidcichaa
