/- Number, on both sides. -/
import Derived.Test.YtohmlmbolilbbaaOpg
namespace Go.Proofs.Ytohmlmbolilbbaa
open Go.RowKit
/-- the bytes behind a number -/
def decR (l : List Int) : List Int := if (dec l).1 = 0 then l.drop (dec l).2.2 else []
theorem decR_all {l : List Int} (h : AllB l) : AllB (decR l) := by
  unfold decR
  split
  · exact h.drop _
  · exact AllB.nil
theorem decG_stop {c : Int} {r : List Int} {i a : Nat} (h : (i = 9 ∧ 1 < c) ∨ (0 < i ∧ c = 0)) : decG (c :: r) i a = (6, 0, 0) := by simp only [decG, h, if_true]
theorem decG_last {c : Int} {r : List Int} {i a : Nat} (h : ¬ ((i = 9 ∧ 1 < c) ∨ (0 < i ∧ c = 0))) (h2 : c < 128) : decG (c :: r) i a = (0, a + c.toNat * 128 ^ i, i + 1) := by simp only [decG, h, h2, if_true, if_false]
theorem decG_next {c : Int} {r : List Int} {i a : Nat} (h : ¬ ((i = 9 ∧ 1 < c) ∨ (0 < i ∧ c = 0))) (h2 : ¬ c < 128) : decG (c :: r) i a = decG r (i + 1) (a + (c.toNat - 128) * 128 ^ i) := by simp only [decG, h, h2, if_false]
theorem u8w (n : Int) : IntKind.u8.wrap n = n % 256 := IntKind.wrap_u8' n
theorem acc_e (a i : Nat) (c : Int) (hc : 0 ≤ c ∧ c ≤ 255) (ha : a < 128 ^ i) (hs : a + (c % 128).toNat * 128 ^ i < 18446744073709551616) :
    bits BinOp.or IntKind.u64 (a : Int) (IntKind.u64.wrap (IntKind.u64.wrap (bits BinOp.andNot IntKind.u8 c 128) * 2 ^ (7 * i))) = ((a + (c % 128).toNat * 128 ^ i : Nat) : Int) := by
  rw [andNot128 c hc.1 hc.2]
  obtain ⟨d, hd⟩ : ∃ d : Nat, c % 128 = d := ⟨(c % 128).toNat, by omega⟩
  rw [hd] at hs ⊢
  rw [Int.toNat_natCast] at hs ⊢
  have e1 : IntKind.u64.wrap (d : Int) = d := by rw [u64w]; omega
  have e2 : (d : Int) * 2 ^ (7 * i) = ((d * 128 ^ i : Nat) : Int) := by
    rw [Int.natCast_mul, Int.natCast_pow]
    congr 1
    rw [show ((128 : Nat) : Int) = 2 ^ 7 from rfl, Int.pow_mul]
  rw [e1, e2]
  have e3 : IntKind.u64.wrap ((d * 128 ^ i : Nat) : Int) = ((d * 128 ^ i : Nat) : Int) := by rw [u64w]; omega
  rw [e3]
  exact u64_group a d i ha hs
theorem grp_lt {a i : Nat} {c : Int} (ha : a < 128 ^ i) (hi : i ≤ 9) (h : c % 128 ≤ 1 ∨ i ≤ 8) : a + (c % 128).toNat * 128 ^ i < 18446744073709551616 := by
  by_cases h8 : i ≤ 8
  · have h1 := pow_le (i := i + 1) (j := 9) (by omega)
    have h2 := Nat.mul_le_mul_right (128 ^ i) (show (c % 128).toNat ≤ 127 by omega)
    rw [Nat.pow_succ] at h1
    rw [pow9] at h1
    omega
  · obtain rfl : i = 9 := by omega
    have h2 := Nat.mul_le_mul_right (128 ^ 9) (show (c % 128).toNat ≤ 1 by omega)
    rw [pow9] at *
    omega
theorem grp_last {c : Int} {i : Nat} (hc : 0 ≤ c ∧ c ≤ 255) (h : ¬ ((i = 9 ∧ 1 < c) ∨ (0 < i ∧ c = 0))) (h2 : c < 128) (hi : i ≤ 9) : c % 128 ≤ 1 ∨ i ≤ 8 := by omega
set_option maxRecDepth 100000 in
set_option maxHeartbeats 4000000 in
theorem number_c (v : Value) (l : List Int) (w : World) (hV : Byts w v l) (hn : l.length ≤ 1000000000000) :
    Calls Try.prog 12 #[v] w fun e w' => ∃ vr, e = .returned (.tuple #[.int .u64 (dec l).2.1, vr, .int .i64 (dec l).1]) ∧ Byts w' vr (decR l) ∧ Below w.heap.size w w' := by
  have hP := fun a b (h1 : a ≤ b) (h2 : b ≤ l.length) => pieceB v l a b w hV h1 h2
  obtain ⟨al, ao, cap, rfl, hcap, _, hV⟩ := hV
  have HV := Lib.hid hV
  have HP := Lib.hid hP
  clear hV hP
  obtain ⟨D, hD⟩ : ∃ D, dec l = D := ⟨_, rfl⟩
  obtain ⟨E, N, k⟩ := D
  obtain ⟨R, hR⟩ : ∃ R, decR l = R := ⟨_, rfl⟩
  have HR := Lib.hid hR
  have HD := Lib.hid hD
  rw [hD, hR]
  clear hR hD
  simp only
  go_enter Try.func12, Try.ntmps12
  go_wp2_with fail
  go_loop [5, 6, 7, 10] (fun vn _ _ vi => ∃ i a : Nat, i ≤ l.length ∧ i ≤ 9 ∧ vi = .int .i64 i ∧ vn = .int .u64 a ∧ Hid (a < 128 ^ i) ∧ Hid (decG (l.drop i) i a = (E, N, k))) (fun _ _ _ vi => l.length - (intOf vi).toNat)
  case atStart => exact ⟨0, 0, Nat.zero_le _, Nat.zero_le _, rfl, rfl, Lib.hid (by decide), Lib.hid HD.out⟩
  case round =>
    obtain ⟨i, a, hil, hi9, rfl, rfl, HA, HG⟩ := hrel
    by_cases hlt : i < l.length
    · obtain ⟨g, o, rfl, hRow⟩ := HV.out (by rintro rfl; simp at hlt)
      have q1 := hRow i hlt
      have hc := al.at hlt
      have HL := Lib.hid (List.drop_eq_getElem_cons hlt)
      obtain ⟨c, hc0⟩ : ∃ c, l[i] = c := ⟨_, rfl⟩
      rw [hc0] at q1 hc HL
      have hlt' : (i : Int) < (l.length : Int) := by omega
      clear hc0 hRow
      by_cases hB : (i = 9 ∧ 1 < c) ∨ (0 < i ∧ c = 0)
      · have hG := HG.out
        rw [HL.out, decG_stop hB] at hG
        simp only [Prod.mk.injEq] at hG
        obtain ⟨rfl, rfl, rfl⟩ := hG
        have hR0 : R = [] := by rw [← HR.out]; unfold decR; rw [HD.out]; rfl
        subst hR0
        rcases hB with ⟨rfl, h1⟩ | ⟨h0, rfl⟩
        · go_wp2_with fail
          exact bodyPost_ret (v := .tuple #[.int .u64 0, .slice none 0 0, .int .i64 6]) (by simp [results, Try.results12, go_sem]) rfl ⟨_, rfl, Byts.nil, Below.refl _ _⟩
        · by_cases h9 : i = 9
          · subst h9
            go_wp2_with fail
            exact bodyPost_ret (v := .tuple #[.int .u64 0, .slice none 0 0, .int .i64 6]) (by simp [results, Try.results12, go_sem]) rfl ⟨_, rfl, Byts.nil, Below.refl _ _⟩
          · have h9' : ((i : Int) == 9) = false := by simp; omega
            have h0' : (0 : Int) < (i : Int) := by omega
            go_wp2_with fail
            exact bodyPost_ret (v := .tuple #[.int .u64 0, .slice none 0 0, .int .i64 6]) (by simp [results, Try.results12, go_sem]) rfl ⟨_, rfl, Byts.nil, Below.refl _ _⟩
      · have HB := Lib.hid hB
        by_cases h9 : i = 9
        · have h9' : ((i : Int) == 9) = true := by simp; omega
          have h0' : (0 : Int) < (i : Int) := by omega
          have hc0 : (c == 0) = false := by simp; omega
          have hc2 : ¬ 1 < c := by omega
          have hc1 : c < 128 := by omega
          have h9l : 9 ≤ i := by omega
          clear hB h9
          have hG := HG.out
          rw [HL.out, decG_last HB.out hc1] at hG
          simp only [Prod.mk.injEq] at hG
          obtain ⟨rfl, hN, rfl⟩ := hG
          have hR0 : R = l.drop (i + 1) := by rw [← HR.out]; unfold decR; rw [HD.out]; rfl
          have HN : Hid (bits BinOp.or IntKind.u64 (a : Int) (IntKind.u64.wrap (IntKind.u64.wrap (bits BinOp.andNot IntKind.u8 c 128) * 2 ^ (7 * i))) = (N : Int)) := Lib.hid (by
            rw [acc_e a i c hc HA.out (grp_lt HA.out hi9 (grp_last hc HB.out hc1 hi9)), ← hN]
            congr 3
            omega)
          have hand : bits .and .u8 c 128 = 0 := by rw [and128 c hc.1 hc.2, if_pos hc1]
          have hp : Calls Try.prog 36 #[.slice (some ⟨g, o, none⟩) l.length cap, .int .i64 ((i : Int) + 1), .int .i64 l.length] w _ := HP.out (i + 1) l.length hlt (Nat.le_refl _)
          rw [List.take_length, ← hR0] at hp
          have HP2 := Lib.hid hp
          clear hp hN hR0 HG HL
          go_wp2_with (go_at_call 36; refine HP2.out.mono ?_; rintro e w2 ⟨a2, rfl, hB2, rfl⟩)
          rw [HN.out]
          exact bodyPost_ret (v := .tuple #[.int .u64 N, .slice a2 (l.length - (i + 1)) (l.length - (i + 1)), .int .i64 0]) (by simp [results, Try.results12, go_sem]) rfl ⟨_, rfl, hB2, Below.refl _ _⟩
        · have h9' : ((i : Int) == 9) = false := by simp; omega
          by_cases h0 : i = 0
          · have h0' : ¬ (0 : Int) < (i : Int) := by omega
            clear hB h0
            by_cases hc1 : c < 128
            · have hG := HG.out
              rw [HL.out, decG_last HB.out hc1] at hG
              simp only [Prod.mk.injEq] at hG
              obtain ⟨rfl, hN, rfl⟩ := hG
              have hR0 : R = l.drop (i + 1) := by rw [← HR.out]; unfold decR; rw [HD.out]; rfl
              have HN : Hid (bits BinOp.or IntKind.u64 (a : Int) (IntKind.u64.wrap (IntKind.u64.wrap (bits BinOp.andNot IntKind.u8 c 128) * 2 ^ (7 * i))) = (N : Int)) := Lib.hid (by
                rw [acc_e a i c hc HA.out (grp_lt HA.out hi9 (grp_last hc HB.out hc1 hi9)), ← hN]
                congr 3
                omega)
              have hand : bits .and .u8 c 128 = 0 := by rw [and128 c hc.1 hc.2, if_pos hc1]
              have hp : Calls Try.prog 36 #[.slice (some ⟨g, o, none⟩) l.length cap, .int .i64 ((i : Int) + 1), .int .i64 l.length] w _ := HP.out (i + 1) l.length hlt (Nat.le_refl _)
              rw [List.take_length, ← hR0] at hp
              have HP2 := Lib.hid hp
              clear hp hN hR0 HG HL
              go_wp2_with (go_at_call 36; refine HP2.out.mono ?_; rintro e w2 ⟨a2, rfl, hB2, rfl⟩)
              rw [HN.out]
              exact bodyPost_ret (v := .tuple #[.int .u64 N, .slice a2 (l.length - (i + 1)) (l.length - (i + 1)), .int .i64 0]) (by simp [results, Try.results12, go_sem]) rfl ⟨_, rfl, hB2, Below.refl _ _⟩
            · have hand : bits .and .u8 c 128 = 128 := by rw [and128 c hc.1 hc.2, if_neg hc1]
              have hi8 : i ≤ 8 := by
                have hB := HB.out
                omega
              have HN : Hid (bits BinOp.or IntKind.u64 (a : Int) (IntKind.u64.wrap (IntKind.u64.wrap (bits BinOp.andNot IntKind.u8 c 128) * 2 ^ (7 * i))) = ((a + (c.toNat - 128) * 128 ^ i : Nat) : Int)) := Lib.hid (by
                rw [acc_e a i c hc HA.out (grp_lt HA.out hi9 (.inr hi8))]
                congr 3
                omega)
              have HG2 : Hid (decG (l.drop (i + 1)) (i + 1) (a + (c.toNat - 128) * 128 ^ i) = (E, N, k)) := by have h := HG.out; rw [HL.out, decG_next HB.out hc1] at h; exact Lib.hid h
              have HA2 : Hid (a + (c.toNat - 128) * 128 ^ i < 128 ^ (i + 1)) := Lib.hid (by
                have h1 := Nat.mul_le_mul_right (128 ^ i) (show c.toNat - 128 ≤ 127 by omega)
                have h2 := HA.out
                rw [Nat.pow_succ]
                omega)
              clear HG HL
              go_wp2_with fail
              rw [HN.out]
              exact ⟨⟨i + 1, _, hlt, by omega, by go_num, rfl, HA2, HG2⟩, by simp [intOf]; omega⟩
          · have h0' : (0 : Int) < (i : Int) := by omega
            have hc0 : (c == 0) = false := by simp; omega
            clear hB
            by_cases hc1 : c < 128
            · have hG := HG.out
              rw [HL.out, decG_last HB.out hc1] at hG
              simp only [Prod.mk.injEq] at hG
              obtain ⟨rfl, hN, rfl⟩ := hG
              have hR0 : R = l.drop (i + 1) := by rw [← HR.out]; unfold decR; rw [HD.out]; rfl
              have HN : Hid (bits BinOp.or IntKind.u64 (a : Int) (IntKind.u64.wrap (IntKind.u64.wrap (bits BinOp.andNot IntKind.u8 c 128) * 2 ^ (7 * i))) = (N : Int)) := Lib.hid (by
                rw [acc_e a i c hc HA.out (grp_lt HA.out hi9 (grp_last hc HB.out hc1 hi9)), ← hN]
                congr 3
                omega)
              have hand : bits .and .u8 c 128 = 0 := by rw [and128 c hc.1 hc.2, if_pos hc1]
              have hp : Calls Try.prog 36 #[.slice (some ⟨g, o, none⟩) l.length cap, .int .i64 ((i : Int) + 1), .int .i64 l.length] w _ := HP.out (i + 1) l.length hlt (Nat.le_refl _)
              rw [List.take_length, ← hR0] at hp
              have HP2 := Lib.hid hp
              clear hp hN hR0 HG HL
              go_wp2_with (go_at_call 36; refine HP2.out.mono ?_; rintro e w2 ⟨a2, rfl, hB2, rfl⟩)
              rw [HN.out]
              exact bodyPost_ret (v := .tuple #[.int .u64 N, .slice a2 (l.length - (i + 1)) (l.length - (i + 1)), .int .i64 0]) (by simp [results, Try.results12, go_sem]) rfl ⟨_, rfl, hB2, Below.refl _ _⟩
            · have hand : bits .and .u8 c 128 = 128 := by rw [and128 c hc.1 hc.2, if_neg hc1]
              have hi8 : i ≤ 8 := by
                have hB := HB.out
                omega
              have HN : Hid (bits BinOp.or IntKind.u64 (a : Int) (IntKind.u64.wrap (IntKind.u64.wrap (bits BinOp.andNot IntKind.u8 c 128) * 2 ^ (7 * i))) = ((a + (c.toNat - 128) * 128 ^ i : Nat) : Int)) := Lib.hid (by
                rw [acc_e a i c hc HA.out (grp_lt HA.out hi9 (.inr hi8))]
                congr 3
                omega)
              have HG2 : Hid (decG (l.drop (i + 1)) (i + 1) (a + (c.toNat - 128) * 128 ^ i) = (E, N, k)) := by have h := HG.out; rw [HL.out, decG_next HB.out hc1] at h; exact Lib.hid h
              have HA2 : Hid (a + (c.toNat - 128) * 128 ^ i < 128 ^ (i + 1)) := Lib.hid (by
                have h1 := Nat.mul_le_mul_right (128 ^ i) (show c.toNat - 128 ≤ 127 by omega)
                have h2 := HA.out
                rw [Nat.pow_succ]
                omega)
              clear HG HL
              go_wp2_with fail
              rw [HN.out]
              exact ⟨⟨i + 1, _, hlt, by omega, by go_num, rfl, HA2, HG2⟩, by simp [intOf]; omega⟩
    · obtain rfl : i = l.length := by omega
      have hG := HG.out
      rw [List.drop_length] at hG
      simp only [decG, Prod.mk.injEq] at hG
      obtain ⟨rfl, rfl, rfl⟩ := hG
      have hR0 : R = [] := by rw [← HR.out]; unfold decR; rw [HD.out]; rfl
      subst hR0
      go_wp2_with fail
      exact bodyPost_ret (v := .tuple #[.int .u64 0, .slice none 0 0, .int .i64 5]) (by simp [results, Try.results12, go_sem]) rfl ⟨_, rfl, Byts.nil, Below.refl _ _⟩
end Go.Proofs.Ytohmlmbolilbbaa
