/- The reference's Number. -/
import Derived.Test.YtohmlmbolilbbaaOph
namespace Go.Proofs.Ytohmlmbolilbbaa
open Go.RowKit
theorem Byts.from {w : World} {ao : Option Addr} {n cap : Nat} {l : List Int} (h : Byts w (.slice ao n cap) l) {a : Nat} (h1 : a ≤ n) :
    Byts w (.slice (if cap = a then ao else ao.map (·.add (a * 1))) (n - a) (cap - a)) (l.drop a) := by
  obtain ⟨hl, hc, _, _⟩ := h.slice
  have := h.cut (a := a) (b := n) cap h1 (Nat.le_refl _) hc (Nat.le_refl _)
  rwa [← hl, List.take_length, hl] at this
theorem acc_r (a i : Nat) (c : Int) (hc : 0 ≤ c ∧ c ≤ 255) (hs : a + (c % 128).toNat * 128 ^ i < 18446744073709551616) :
    IntKind.u64.wrap ((a : Int) + IntKind.u64.wrap (c % 128 * 2 ^ (7 * i))) = ((a + (c % 128).toNat * 128 ^ i : Nat) : Int) := by
  obtain ⟨d, hd⟩ : ∃ d : Nat, c % 128 = d := ⟨(c % 128).toNat, by omega⟩
  rw [hd] at hs ⊢
  rw [Int.toNat_natCast] at hs ⊢
  have e2 : (d : Int) * 2 ^ (7 * i) = ((d * 128 ^ i : Nat) : Int) := by
    rw [Int.natCast_mul, Int.natCast_pow]
    congr 1
    rw [show ((128 : Nat) : Int) = 2 ^ 7 from rfl, Int.pow_mul]
  rw [e2, u64w, u64w]
  omega
set_option maxRecDepth 100000 in
set_option maxHeartbeats 4000000 in
theorem rNumber_c (v : Value) (l : List Int) (w : World) (hV : Byts w v l) (hn : l.length ≤ 1000000000000) :
    Calls Try.prog 13 #[v] w fun e w' => ∃ vr, e = .returned (.tuple #[.int .u64 (dec l).2.1, vr, .int .i64 (dec l).1]) ∧ Byts w' vr (decR l) ∧ Below w.heap.size w w' := by
  have HB0 := Lib.hid hV
  obtain ⟨al, ao, cap, rfl, hcap, _, hV⟩ := hV
  have HF := fun a (h1 : a ≤ l.length) => Lib.hid (HB0.out.from h1)
  have HV := Lib.hid hV
  clear hV HB0
  obtain ⟨D, hD⟩ : ∃ D, dec l = D := ⟨_, rfl⟩
  obtain ⟨E, N, k⟩ := D
  obtain ⟨R, hR⟩ : ∃ R, decR l = R := ⟨_, rfl⟩
  have HR := Lib.hid hR
  have HD := Lib.hid hD
  rw [hD, hR]
  clear hR hD
  simp only
  go_enter Try.func13, Try.ntmps13
  go_wp2_with fail
  go_loop [5, 6] (fun vn vi => ∃ i a : Nat, i ≤ l.length ∧ i ≤ 9 ∧ vi = .int .i64 i ∧ vn = .int .u64 a ∧ Hid (a < 128 ^ i) ∧ Hid (decG (l.drop i) i a = (E, N, k))) (fun _ vi => l.length - (intOf vi).toNat)
  case atStart => exact ⟨0, 0, Nat.zero_le _, Nat.zero_le _, rfl, rfl, Lib.hid (by decide), Lib.hid HD.out⟩
  case round =>
    obtain ⟨i, a, hil, hi9, rfl, rfl, HA, HG⟩ := hrel
    by_cases hlt : i < l.length
    · obtain ⟨g, o, rfl, hRow⟩ := HV.out (by rintro rfl; simp at hlt)
      have q1 := hRow i hlt
      have hc := al.at hlt
      have HL := Lib.hid (List.drop_eq_getElem_cons hlt)
      obtain ⟨c, hc0⟩ : ∃ c, l[i] = c := ⟨_, rfl⟩
      rw [hc0] at q1 hc HL
      have hlt' : (i : Int) < (l.length : Int) := by omega
      clear hc0 hRow
      by_cases hB : (i = 9 ∧ 1 < c) ∨ (0 < i ∧ c = 0)
      · have hG := HG.out
        rw [HL.out, decG_stop hB] at hG
        simp only [Prod.mk.injEq] at hG
        obtain ⟨rfl, rfl, rfl⟩ := hG
        have hR0 : R = [] := by rw [← HR.out]; unfold decR; rw [HD.out]; rfl
        subst hR0
        rcases hB with ⟨rfl, h1⟩ | ⟨h0, rfl⟩
        · go_wp2_with fail
          exact bodyPost_ret (v := .tuple #[.int .u64 0, .slice none 0 0, .int .i64 6]) (by simp [results, Try.results13, go_sem]) rfl ⟨_, rfl, Byts.nil, Below.refl _ _⟩
        · by_cases h9 : i = 9
          · subst h9
            go_wp2_with fail
            exact bodyPost_ret (v := .tuple #[.int .u64 0, .slice none 0 0, .int .i64 6]) (by simp [results, Try.results13, go_sem]) rfl ⟨_, rfl, Byts.nil, Below.refl _ _⟩
          · have h9' : ((i : Int) == 9) = false := by simp; omega
            have h0' : (0 : Int) < (i : Int) := by omega
            go_wp2_with fail
            exact bodyPost_ret (v := .tuple #[.int .u64 0, .slice none 0 0, .int .i64 6]) (by simp [results, Try.results13, go_sem]) rfl ⟨_, rfl, Byts.nil, Below.refl _ _⟩
      · have HB := Lib.hid hB
        by_cases h9 : i = 9
        · have h9' : ((i : Int) == 9) = true := by simp; omega
          have h0' : (0 : Int) < (i : Int) := by omega
          have hc0 : (c == 0) = false := by simp; omega
          have hc2 : ¬ 1 < c := by omega
          have hc1 : c < 128 := by omega
          have h9l : 9 ≤ i := by omega
          clear hB h9
          have hG := HG.out
          rw [HL.out, decG_last HB.out hc1] at hG
          simp only [Prod.mk.injEq] at hG
          obtain ⟨rfl, hN, rfl⟩ := hG
          have hR0 : R = l.drop (i + 1) := by rw [← HR.out]; unfold decR; rw [HD.out]; rfl
          have HFi := HF (i + 1) hlt
          rw [← hR0] at HFi
          have HN : Hid (IntKind.u64.wrap ((a : Int) + IntKind.u64.wrap (c % 128 * 2 ^ (7 * i))) = (N : Int)) := Lib.hid (by
            rw [acc_r a i c hc (grp_lt HA.out hi9 (grp_last hc HB.out hc1 hi9)), ← hN]
            congr 3
            omega)
          clear hN hR0 HG HL
          by_cases hcc : cap = i + 1
          · have HB2 : Hid (Byts w (.slice (some ⟨g, o, none⟩) (l.length - (i + 1)) (cap - (i + 1))) R) := by have h := HFi.out; rw [if_pos hcc] at h; exact Lib.hid h
            go_wp2_with fail
            go_quiet (fail)
            go_wp2_with fail
            rw [HN.out]
            exact bodyPost_ret (v := .tuple #[.int .u64 N, .slice (some ⟨g, o, none⟩) (l.length - (i + 1)) (cap - (i + 1)), .int .i64 0]) (by simp [results, Try.results13, go_sem, hcc]) rfl ⟨_, rfl, HB2.out.keep (below_drewN _), below_drewN _⟩
          · have HB2 : Hid (Byts w (.slice (some ⟨g, o + (i + 1), none⟩) (l.length - (i + 1)) (cap - (i + 1))) R) := by have h := HFi.out; rw [if_neg hcc] at h; simpa [Addr.add] using Lib.hid h
            go_wp2_with fail
            go_quiet (fail)
            go_wp2_with fail
            rw [HN.out]
            exact bodyPost_ret (v := .tuple #[.int .u64 N, .slice (some ⟨g, o + (i + 1), none⟩) (l.length - (i + 1)) (cap - (i + 1)), .int .i64 0]) (by simp [results, Try.results13, go_sem, hcc]) rfl ⟨_, rfl, HB2.out.keep (below_drewN _), below_drewN _⟩
        · have h9' : ((i : Int) == 9) = false := by simp; omega
          by_cases h0 : i = 0
          · have h0' : ¬ (0 : Int) < (i : Int) := by omega
            clear hB h0
            by_cases hc1 : c < 128
            · have hG := HG.out
              rw [HL.out, decG_last HB.out hc1] at hG
              simp only [Prod.mk.injEq] at hG
              obtain ⟨rfl, hN, rfl⟩ := hG
              have hR0 : R = l.drop (i + 1) := by rw [← HR.out]; unfold decR; rw [HD.out]; rfl
              have HFi := HF (i + 1) hlt
              rw [← hR0] at HFi
              have HN : Hid (IntKind.u64.wrap ((a : Int) + IntKind.u64.wrap (c % 128 * 2 ^ (7 * i))) = (N : Int)) := Lib.hid (by
                rw [acc_r a i c hc (grp_lt HA.out hi9 (grp_last hc HB.out hc1 hi9)), ← hN]
                congr 3
                omega)
              clear hN hR0 HG HL
              by_cases hcc : cap = i + 1
              · have HB2 : Hid (Byts w (.slice (some ⟨g, o, none⟩) (l.length - (i + 1)) (cap - (i + 1))) R) := by have h := HFi.out; rw [if_pos hcc] at h; exact Lib.hid h
                go_wp2_with fail
                go_quiet (fail)
                go_wp2_with fail
                rw [HN.out]
                exact bodyPost_ret (v := .tuple #[.int .u64 N, .slice (some ⟨g, o, none⟩) (l.length - (i + 1)) (cap - (i + 1)), .int .i64 0]) (by simp [results, Try.results13, go_sem, hcc]) rfl ⟨_, rfl, HB2.out.keep (below_drewN _), below_drewN _⟩
              · have HB2 : Hid (Byts w (.slice (some ⟨g, o + (i + 1), none⟩) (l.length - (i + 1)) (cap - (i + 1))) R) := by have h := HFi.out; rw [if_neg hcc] at h; simpa [Addr.add] using Lib.hid h
                go_wp2_with fail
                go_quiet (fail)
                go_wp2_with fail
                rw [HN.out]
                exact bodyPost_ret (v := .tuple #[.int .u64 N, .slice (some ⟨g, o + (i + 1), none⟩) (l.length - (i + 1)) (cap - (i + 1)), .int .i64 0]) (by simp [results, Try.results13, go_sem, hcc]) rfl ⟨_, rfl, HB2.out.keep (below_drewN _), below_drewN _⟩
            · have hi8 : i ≤ 8 := by
                have hB := HB.out
                omega
              have HN : Hid (IntKind.u64.wrap ((a : Int) + IntKind.u64.wrap (c % 128 * 2 ^ (7 * i))) = ((a + (c.toNat - 128) * 128 ^ i : Nat) : Int)) := Lib.hid (by
                rw [acc_r a i c hc (grp_lt HA.out hi9 (.inr hi8))]
                congr 3
                omega)
              have HG2 : Hid (decG (l.drop (i + 1)) (i + 1) (a + (c.toNat - 128) * 128 ^ i) = (E, N, k)) := by have h := HG.out; rw [HL.out, decG_next HB.out hc1] at h; exact Lib.hid h
              have HA2 : Hid (a + (c.toNat - 128) * 128 ^ i < 128 ^ (i + 1)) := Lib.hid (by
                have h1 := Nat.mul_le_mul_right (128 ^ i) (show c.toNat - 128 ≤ 127 by omega)
                have h2 := HA.out
                rw [Nat.pow_succ]
                omega)
              clear HG HL
              go_wp2_with fail
              rw [HN.out]
              exact ⟨⟨i + 1, _, hlt, by omega, by go_num, rfl, HA2, HG2⟩, by simp [intOf]; omega⟩
          · have h0' : (0 : Int) < (i : Int) := by omega
            have hc0 : (c == 0) = false := by simp; omega
            clear hB
            by_cases hc1 : c < 128
            · have hG := HG.out
              rw [HL.out, decG_last HB.out hc1] at hG
              simp only [Prod.mk.injEq] at hG
              obtain ⟨rfl, hN, rfl⟩ := hG
              have hR0 : R = l.drop (i + 1) := by rw [← HR.out]; unfold decR; rw [HD.out]; rfl
              have HFi := HF (i + 1) hlt
              rw [← hR0] at HFi
              have HN : Hid (IntKind.u64.wrap ((a : Int) + IntKind.u64.wrap (c % 128 * 2 ^ (7 * i))) = (N : Int)) := Lib.hid (by
                rw [acc_r a i c hc (grp_lt HA.out hi9 (grp_last hc HB.out hc1 hi9)), ← hN]
                congr 3
                omega)
              clear hN hR0 HG HL
              by_cases hcc : cap = i + 1
              · have HB2 : Hid (Byts w (.slice (some ⟨g, o, none⟩) (l.length - (i + 1)) (cap - (i + 1))) R) := by have h := HFi.out; rw [if_pos hcc] at h; exact Lib.hid h
                go_wp2_with fail
                go_quiet (fail)
                go_wp2_with fail
                rw [HN.out]
                exact bodyPost_ret (v := .tuple #[.int .u64 N, .slice (some ⟨g, o, none⟩) (l.length - (i + 1)) (cap - (i + 1)), .int .i64 0]) (by simp [results, Try.results13, go_sem, hcc]) rfl ⟨_, rfl, HB2.out.keep (below_drewN _), below_drewN _⟩
              · have HB2 : Hid (Byts w (.slice (some ⟨g, o + (i + 1), none⟩) (l.length - (i + 1)) (cap - (i + 1))) R) := by have h := HFi.out; rw [if_neg hcc] at h; simpa [Addr.add] using Lib.hid h
                go_wp2_with fail
                go_quiet (fail)
                go_wp2_with fail
                rw [HN.out]
                exact bodyPost_ret (v := .tuple #[.int .u64 N, .slice (some ⟨g, o + (i + 1), none⟩) (l.length - (i + 1)) (cap - (i + 1)), .int .i64 0]) (by simp [results, Try.results13, go_sem, hcc]) rfl ⟨_, rfl, HB2.out.keep (below_drewN _), below_drewN _⟩
            · have hi8 : i ≤ 8 := by
                have hB := HB.out
                omega
              have HN : Hid (IntKind.u64.wrap ((a : Int) + IntKind.u64.wrap (c % 128 * 2 ^ (7 * i))) = ((a + (c.toNat - 128) * 128 ^ i : Nat) : Int)) := Lib.hid (by
                rw [acc_r a i c hc (grp_lt HA.out hi9 (.inr hi8))]
                congr 3
                omega)
              have HG2 : Hid (decG (l.drop (i + 1)) (i + 1) (a + (c.toNat - 128) * 128 ^ i) = (E, N, k)) := by have h := HG.out; rw [HL.out, decG_next HB.out hc1] at h; exact Lib.hid h
              have HA2 : Hid (a + (c.toNat - 128) * 128 ^ i < 128 ^ (i + 1)) := Lib.hid (by
                have h1 := Nat.mul_le_mul_right (128 ^ i) (show c.toNat - 128 ≤ 127 by omega)
                have h2 := HA.out
                rw [Nat.pow_succ]
                omega)
              clear HG HL
              go_wp2_with fail
              rw [HN.out]
              exact ⟨⟨i + 1, _, hlt, by omega, by go_num, rfl, HA2, HG2⟩, by simp [intOf]; omega⟩
    · obtain rfl : i = l.length := by omega
      have hG := HG.out
      rw [List.drop_length] at hG
      simp only [decG, Prod.mk.injEq] at hG
      obtain ⟨rfl, rfl, rfl⟩ := hG
      have hR0 : R = [] := by rw [← HR.out]; unfold decR; rw [HD.out]; rfl
      subst hR0
      go_wp2_with fail
      exact bodyPost_ret (v := .tuple #[.int .u64 0, .slice none 0 0, .int .i64 5]) (by simp [results, Try.results13, go_sem]) rfl ⟨_, rfl, Byts.nil, Below.refl _ _⟩
end Go.Proofs.Ytohmlmbolilbbaa
