/- Set (decoding), the reference's. -/
import Derived.Test.YtohmlmbolilbbaaOpo
namespace Go.Proofs.Ytohmlmbolilbbaa
open Go.RowKit
theorem pad_at {ys : List Int} {j : Nat} (h : j < ys.length) : (pad ys).getD j 0 = ys.getD j 0 := by
  unfold pad
  rw [List.getD, List.getElem?_append_left h]
  rfl
set_option maxRecDepth 100000 in
set_option maxHeartbeats 4000000 in
theorem rSet_c (v : Value) (l : List Int) (w : World) (hV : Byts w v l) (hn : l.length ≤ 1000000000000) :
    Calls Try.prog 26 #[v] w fun e w' => ∃ vr, e = .returned (.tuple #[aggU (decS l).2.1, vr, .int .i64 (decS l).1]) ∧ Byts w' vr (decS l).2.2 ∧ Below w.heap.size w w' := by
  have hN := fun w hV => rNumber_c v l w hV hn
  have HV := Lib.hid hV
  obtain ⟨D, hD⟩ : ∃ D, decS l = D := ⟨_, rfl⟩
  rw [hD]
  obtain ⟨DE, DX, DR⟩ := D
  unfold decS at hD
  have HD := Lib.hid hD
  have HN := Lib.hid hN
  clear hD hN hV
  simp only
  go_enter Try.func26, Try.ntmps26
  go_wp2_with fail
  have R0 : Blk ((w.alloc (.cells #[.int .u64 0, .int .u64 0, .int .u64 0, .int .u64 0] 40)).alloc (.cells #[.int .u64 0, .int .u64 0, .int .u64 0, .int .u64 0] 40)) w.heap.size _ _ := (Blk.new w 40 #[.int .u64 0, .int .u64 0, .int .u64 0, .int .u64 0]).alloc (.cells #[.int .u64 0, .int .u64 0, .int .u64 0, .int .u64 0] 40)
  have S0 : Blk ((w.alloc (.cells #[.int .u64 0, .int .u64 0, .int .u64 0, .int .u64 0] 40)).alloc (.cells #[.int .u64 0, .int .u64 0, .int .u64 0, .int .u64 0] 40)) (w.heap.size + 1) 40 #[.int .u64 0, .int .u64 0, .int .u64 0, .int .u64 0] := Blk.here (by simp)
  have hb0 : Below w.heap.size w ((w.alloc (.cells #[.int .u64 0, .int .u64 0, .int .u64 0, .int .u64 0] 40)).alloc (.cells #[.int .u64 0, .int .u64 0, .int .u64 0, .int .u64 0] 40)) := ((Below.refl _ _).alloc (Nat.le_refl _) _).alloc (by simp) _
  generalize ((w.alloc (.cells #[.int .u64 0, .int .u64 0, .int .u64 0, .int .u64 0] 40)).alloc (.cells #[.int .u64 0, .int .u64 0, .int .u64 0, .int .u64 0] 40)) = W at *
  refine (HN.out W (HV.out.keep hb0)).mono ?_
  rintro e w2 ⟨vr, rfl, hB2, hb2⟩
  have R := R0.keep hb2
  have S := S0.keep hb2
  have hb3 := hb0.trans (hb2.mono hb0.size)
  have hRlen : (decR l).length ≤ 1000000000000 := by unfold decR; split <;> simp <;> omega
  clear R0 S0 hb0 hb2 HN W
  obtain ⟨D, hDl⟩ : ∃ D, dec l = D := ⟨_, rfl⟩
  obtain ⟨E, N, k⟩ := D
  obtain ⟨rl, hrl⟩ : ∃ rl, decR l = rl := ⟨_, rfl⟩
  have hdr : E = 0 → l.drop k = rl := fun h => by rw [← hrl]; unfold decR; rw [hDl]; simp [h]
  have hD := HD.out
  rw [hrl] at hB2 hRlen
  rw [hDl] at hD ⊢
  simp only at hD ⊢
  clear HD
  by_cases hE : E ≠ 0
  · rw [if_pos hE] at hD
    cases hD
    have hE' : (DE != 0) = true := by simpa using hE
    obtain ⟨⟨r0, r1, r2, r3⟩, f0, f1, f2, f3⟩ := box8 R
    clear hE hdr hrl hDl
    go_wp2_with fail
    exact bodyPost_ret (v := .tuple #[.agg #[.int .u64 0, .int .u64 0, .int .u64 0, .int .u64 0], .slice none 0 0, .int .i64 DE]) (by simp [results, Try.results26, go_sem, r0, r1, r2, r3]) rfl ⟨_, rfl, Byts.nil, below_set4 hb3 (Nat.le_refl _) _ _ _ _⟩
  · rw [if_neg hE] at hD
    obtain rfl : E = 0 := by omega
    rw [hdr rfl] at hD
    by_cases h4 : 4 < N
    · rw [if_pos h4] at hD
      cases hD
      have h4' : (4 : Int) < (N : Int) := by omega
      obtain ⟨⟨r0, r1, r2, r3⟩, f0, f1, f2, f3⟩ := box8 R
      clear hE hdr hrl hDl
      go_wp2_with fail
      exact bodyPost_ret (v := .tuple #[.agg #[.int .u64 0, .int .u64 0, .int .u64 0, .int .u64 0], .slice none 0 0, .int .i64 6]) (by simp [results, Try.results26, go_sem, r0, r1, r2, r3]) rfl ⟨_, rfl, Byts.nil, below_set4 hb3 (Nat.le_refl _) _ _ _ _⟩
    · rw [if_neg h4] at hD
      have h4' : ¬ (4 : Int) < (N : Int) := by omega
      have HD := Lib.hid hD
      have hw : wrap64 (N : Int) = N := by unfold wrap64; omega
      clear hE hdr hrl hDl hD
      go_wp2_with fail
      go_loopw [7, 9] (fun v7 v9 wr => ∃ (i : Nat) (ys rs : List Int) (z0 z1 z2 z3 : Int), i ≤ N ∧ v9 = .int .i64 i ∧ Hid (decP i rl = (0, ys, rs)) ∧ Hid (ys.length = i) ∧ Hid (pad ys = [z0, z1, z2, z3]) ∧ Hid (rs.length ≤ 1000000000000) ∧ Byts wr v7 rs ∧ Blk wr w.heap.size 40 #[.int .u64 0, .int .u64 0, .int .u64 0, .int .u64 0] ∧ Blk wr (w.heap.size + 1) 40 #[.int .u64 z0, .int .u64 z1, .int .u64 z2, .int .u64 z3] ∧ Below w.heap.size w wr) (fun _ v9 _ => N - (intOf v9).toNat)
      case atStart => exact ⟨0, [], rl, 0, 0, 0, 0, Nat.zero_le _, rfl, Lib.hid rfl, Lib.hid rfl, Lib.hid rfl, Lib.hid hRlen, hB2, R, S, hb3⟩
      case round =>
        clear R S hb3 hB2 hRlen
        obtain ⟨i, ys, rs, z0, z1, z2, z3, hiN, rfl, HP, HY, HZ, HL, hB2, R, S, hb3⟩ := hrel
        have hg := S.lt
        by_cases hlt : i < N
        · have hlt' : (i : Int) < (N : Int) := by omega
          have hstep := decP_step HP.out
          have hNum := rNumber_c u7 rs wr hB2 HL.out
          have hRl2 : (decR rs).length ≤ 1000000000000 := by have := HL.out; unfold decR; split <;> simp <;> omega
          obtain ⟨D2, hD2⟩ : ∃ D, dec rs = D := ⟨_, rfl⟩
          obtain ⟨E2, N2, k2⟩ := D2
          rw [hD2] at hstep hNum
          simp only at hstep hNum
          have HNum := Lib.hid hNum
          clear hNum hD2
          by_cases hE2 : E2 ≠ 0
          · have hp := hstep.1 hE2
            have hq : decP N rl = (E2, [], []) := by
              have h := decP_more (i := i + 1) (l := rl) (by rw [hp]; exact hE2) (N - (i + 1))
              rw [show i + 1 + (N - (i + 1)) = N by omega, hp] at h
              exact h
            have hD := HD.out
            rw [hq] at hD
            unfold setR at hD
            rw [if_pos hE2] at hD
            simp only [Prod.mk.injEq] at hD
            obtain ⟨h1, h2, h3⟩ := hD
            subst h2 h3
            have h1' := h1.symm
            subst h1'
            have hE' : (DE != 0) = true := by simpa using hE2
            clear hE2 hq hp hstep
            go_wp2_with (go_at_call 13; refine HNum.out.mono ?_; rintro e w3 ⟨v3, rfl, hB3, hb4⟩; have R3 := R.keep hb4; obtain ⟨⟨r0, r1, r2, r3⟩, f0, f1, f2, f3⟩ := box8 R3)
            exact bodyPost_ret (v := .tuple #[.agg #[.int .u64 0, .int .u64 0, .int .u64 0, .int .u64 0], .slice none 0 0, .int .i64 DE]) (by simp [results, Try.results26, go_sem, r0, r1, r2, r3]) rfl ⟨_, rfl, Byts.nil, below_set4 (hb3.trans (hb4.mono hb3.size)) (Nat.le_refl _) _ _ _ _⟩
          · obtain rfl : E2 = 0 := by omega
            have HP2 := Lib.hid (hstep.2 rfl)
            obtain ⟨y0, y1, y2, y3, hy, hset⟩ := pad_set (N2 : Int) HZ.out HY.out (by omega)
            have HY2 : Hid ((ys ++ [(N2 : Int)]).length = i + 1) := Lib.hid (by rw [List.length_append, HY.out]; rfl)
            have HZ2 := Lib.hid hy
            have HS := Lib.hid hset
            have HL2 := Lib.hid hRl2
            clear hstep hE2 hy hset hRl2
            go_wp2_with (go_at_call 13; refine HNum.out.mono ?_; rintro e w3 ⟨v3, rfl, hB3, hb4⟩; have R3 := R.keep hb4; have S3 := S.keep hb4; have hsc := box_cell S3 (i := i) (by omega); have hsf := S3.frozen i)
            have R4 := R3.far (p := ⟨w.heap.size + 1, i, none⟩) (by simp) (.int .u64 N2)
            have S4 := S3.set i (.int .u64 N2)
            rw [HS.out] at S4
            have hb5 : Below w.heap.size w (w3.setCell ⟨w.heap.size + 1, i, none⟩ (.int .u64 N2)) := (hb3.trans (hb4.mono hb3.size)).setCell (by simp) _
            have hB5 := hB3.far S3 (no_u8 _ _ _ _) i (.int .u64 N2)
            go_roundw
            case rel => exact ⟨i + 1, ys ++ [(N2 : Int)], decR rs, y0, y1, y2, y3, hlt, by go_num, HP2, HY2, HZ2, HL2, hB5, R4, S4, hb5⟩
            case measure => simp [intOf]; omega
        · obtain rfl : i = N := by omega
          have hD := HD.out
          rw [HP.out] at hD
          by_cases hF : 0 < i ∧ ys.getD (i - 1) 0 = 0
          · rw [setR_form hF] at hD
            simp only [Prod.mk.injEq] at hD
            obtain ⟨h1, h2, h3⟩ := hD
            subst h1 h2 h3
            obtain ⟨j, rfl⟩ : ∃ j, i = j + 1 := ⟨i - 1, by omega⟩
            have hsc := box_cell S (i := j) (by omega)
            rw [← HZ.out, pad_at (by rw [HY.out]; omega), show j = j + 1 - 1 from rfl, hF.2] at hsc
            simp only [Nat.add_sub_cancel] at hsc
            obtain ⟨⟨r0, r1, r2, r3⟩, f0, f1, f2, f3⟩ := box8 R
            clear hF
            go_wp2_with fail
            exact bodyPost_ret (v := .tuple #[.agg #[.int .u64 0, .int .u64 0, .int .u64 0, .int .u64 0], .slice none 0 0, .int .i64 6]) (by simp [results, Try.results26, go_sem, r0, r1, r2, r3]) rfl ⟨_, rfl, Byts.nil, below_set4 hb3 (Nat.le_refl _) _ _ _ _⟩
          · rw [setR_ok HY.out hF, HZ.out] at hD
            simp only [Prod.mk.injEq] at hD
            obtain ⟨h1, h2, h3⟩ := hD
            subst h1 h2 h3
            obtain ⟨t0, t1, t2, t3⟩ := mem4 S
            obtain ⟨⟨r0, r1, r2, r3⟩, f0, f1, f2, f3⟩ := box8 R
            by_cases hi0 : i = 0
            · subst hi0
              clear hF
              go_wp2_with fail
              exact bodyPost_ret (v := .tuple #[.agg #[.int .u64 z0, .int .u64 z1, .int .u64 z2, .int .u64 z3], u7, .int .i64 0]) (by simp [results, Try.results26, go_sem, r0, r1, r2, r3]) rfl ⟨_, rfl, hB2.far4 R z0 z1 z2 z3, below_set4 hb3 (Nat.le_refl _) _ _ _ _⟩
            · obtain ⟨j, rfl⟩ : ∃ j, i = j + 1 := ⟨i - 1, by omega⟩
              have hsc := box_cell S (i := j) (by omega)
              have hX : [z0, z1, z2, z3].getD j 0 ≠ 0 := by
                intro h
                apply hF
                refine ⟨by omega, ?_⟩
                rw [← HZ.out, pad_at (by rw [HY.out]; omega)] at h
                simpa using h
              generalize [z0, z1, z2, z3].getD j 0 = X at hsc hX
              have hX' : (X == 0) = false := by simpa using hX
              clear hF hX hi0
              go_wp2_with fail
              exact bodyPost_ret (v := .tuple #[.agg #[.int .u64 z0, .int .u64 z1, .int .u64 z2, .int .u64 z3], u7, .int .i64 0]) (by simp [results, Try.results26, go_sem, r0, r1, r2, r3]) rfl ⟨_, rfl, hB2.far4 R z0 z1 z2 z3, below_set4 hb3 (Nat.le_refl _) _ _ _ _⟩
end Go.Proofs.Ytohmlmbolilbbaa
