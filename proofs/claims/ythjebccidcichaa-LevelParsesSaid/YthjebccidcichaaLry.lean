/- The reference's Parse; what is read is valid. -/
import Derived.Test.YthjebccidcichaaLrw
import Derived.Test.YthjebccidcichaaLvk
namespace Go.Proofs.Ythjebccidcichaa
open Go.RowKit
theorem lv_len {l : LvB} (h : levW l) : l.2.length ≤ (levR l).length := by
  have h3 := lsR_len l.2 h.2
  unfold levR
  rw [List.length_append]
  by_cases hl : l.2 = []
  · rw [hl]; exact Nat.zero_le _
  · rw [if_neg hl, List.length_cons]; omega
theorem rg_len {s : Bs} {r : LvB × LvB} (h : rdRg s = some r) : r.1.2.length ≤ s.length ∧ r.2.2.length ≤ s.length := by
  obtain ⟨h1, h2, h3⟩ := rdRg_iff.1 h
  have a := lv_len h2
  subst h1
  unfold rngR
  rw [List.length_append]
  refine ⟨by omega, ?_⟩
  rcases h3 with h3 | h3
  · rw [h3]; exact Nat.zero_le _
  · have b := lv_len h3
    rw [if_neg (nm_iff.1 h3.1).1, List.length_cons]; omega
set_option maxRecDepth 100000 in
set_option maxHeartbeats 8000000 in
theorem rparse_c (S : ByteArray) (v u : Value) (l m : List ByteArray) (w : World) (hs : S.size ≤ 1000000) (hV : Strs w v l) (hU : Strs w u m) (hF : Few l) (hG : Few m) :
    Calls Try.prog 33 #[.string S, v, u] w fun e w' => e = .returned (.tuple #[rgV (prsX l m S.data.toList).2, .int .i64 (prsX l m S.data.toList).1]) ∧ Below w.heap.size w w' := by
  obtain ⟨ao, cap, rfl, _⟩ := id hV
  obtain ⟨ao2, cap2, rfl, _⟩ := id hU
  have HP := Lib.hid (fun W (hW : Kp w W) => rproper_b _ _ l m W (hV.keep hW) (hU.keep hW) hF hG)
  have HR := Lib.hid (fun W => rread_c S W hs)
  have hB := Blk.new w 26 #[.int .i64 0, .int .u64 0, .int .i64 0, .int .u64 0]
  have hW : Kp w (w.alloc (.cells #[.int .i64 0, .int .u64 0, .int .i64 0, .int .u64 0] 26)) := Kp.rfl'.alloc _
  have hX0 : prsX l m S.data.toList = prsX l m S.data.toList := rfl
  conv at hX0 => rhs; unfold prsX
  rw [← reads_same] at hX0
  obtain ⟨X, hXX⟩ : ∃ X, prsX l m S.data.toList = X := ⟨_, rfl⟩
  rw [hXX] at hX0 ⊢
  clear hXX
  cases hp : proper l m
  · rw [hp] at HP hX0
    rw [if_pos rfl] at hX0
    subst hX0
    clear hp HR hV hU
    go_enter Try.func33, Try.ntmps33
    go_wp2_with fail
    refine (HP.out _ hW).mono ?_
    rintro e w2 ⟨rfl, hb2⟩
    have hC2 := Kp.step hW hb2
    have q2 := hB.keep hb2
    obtain ⟨z0, z1, z2, z3, z4, z5, z6, z7⟩ := q2.cells4
    clear hb2
    go_wp2_with fail
    obtain ⟨r0, r1, r2, r3⟩ := (q2.set4 (.int .i64 0) (.int .u64 0) (.int .i64 0) (.int .u64 0)).box4
    exact bodyPost_ret (v := .tuple #[.agg #[.int .i64 0, .int .u64 0, .int .i64 0, .int .u64 0], .int .i64 2]) (by simp [results, Try.results33, go_sem, r0, r1, r2, r3]) rfl ⟨rfl, below_set4 hC2 (Nat.le_refl _) _ _ _ _⟩
  · rw [hp] at HP hX0
    rw [if_neg (by decide)] at hX0
    have HX := Lib.hid hX0
    have HV := Lib.hid hV
    have HU := Lib.hid hU
    clear hX0 hp hV hU
    go_enter Try.func33, Try.ntmps33
    go_wp2_with fail
    refine (HP.out _ hW).mono ?_
    rintro e w2 ⟨rfl, hb2⟩
    have hC2 := Kp.step hW hb2
    have q2 := hB.keep hb2
    clear hb2
    go_wp2_with fail
    refine (HR.out _).mono ?_
    rintro e w3 ⟨n1, n2, v1, v2, L1, L2, ok, rfl, hS1, hS2, hb3, hno, hyes⟩
    obtain ⟨aox, capx, rfl, hd1⟩ := id hS1
    obtain ⟨aoy, capy, rfl, hd2⟩ := id hS2
    have hC3 := (Kp.step hC2 hb3).alloc (.cells #[.string n1, .slice aox L1.length capx, .string n2, .slice aoy L2.length capy] 52)
    have hbb : Below w3.heap.size w3 (w3.alloc (.cells #[.string n1, .slice aox L1.length capx, .string n2, .slice aoy L2.length capy] 52)) := (Below.refl _ _).alloc (Nat.le_refl _) _
    have q3 := (q2.keep hb3).alloc (.cells #[.string n1, .slice aox L1.length capx, .string n2, .slice aoy L2.length capy] 52)
    obtain ⟨z0, z1, z2, z3, z4, z5, z6, z7⟩ := q3.cells4
    cases ok
    · have hE : X = (9, zR) := by rw [HX.out, hno rfl]
      clear HX
      subst hE
      clear hno hyes hb3 hbb hS1 hS2 hd1 hd2 q2
      go_wp2_with fail
      obtain ⟨r0, r1, r2, r3⟩ := (q3.set4 (.int .i64 0) (.int .u64 0) (.int .i64 0) (.int .u64 0)).box4
      exact bodyPost_ret (v := .tuple #[.agg #[.int .i64 0, .int .u64 0, .int .i64 0, .int .u64 0], .int .i64 9]) (by simp [results, Try.results33, go_sem, r0, r1, r2, r3]) rfl ⟨rfl, below_set4 hC3 (Nat.le_refl _) _ _ _ _⟩
    · obtain ⟨r, hr, rfl, hl1, rfl, hl2⟩ := hyes rfl
      have hlen := rg_len (reads_same S.data.toList ▸ hr)
      rw [← Go.Lib.size_eq] at hlen
      have hE : X = rngX l m (mk r.1.1) (r.1.2.map mkS) (mk r.2.1) (r.2.2.map mkS) := by rw [HX.out, hr]
      rw [← hl1, ← hl2] at hE
      have e1 : L1.length = r.1.2.length := by rw [hl1, List.length_map]
      have e2 : L2.length = r.2.2.length := by rw [hl2, List.length_map]
      have HRG := Lib.hid (rrange_c _ _ _ _ (mk r.1.1) (mk r.2.1) L1 L2 l m _ (hS1.keep hbb) (hS2.keep hbb) (HV.out.keep hC3) (HU.out.keep hC3) hF hG (by omega) (by omega))
      rw [← hE] at HRG
      clear hE HX
      obtain ⟨E, ⟨⟨s1, c1⟩, ⟨s2, c2⟩⟩⟩ := X
      clear hno hyes hb3 hbb hS1 hS2 hd1 hd2 q2 hr hl1 hl2 hlen HV HU e1 e2 z0 z1 z2 z3 z4 z5 z6 z7
      unfold rgV at *
      simp only at HRG ⊢
      go_wp2_with fail
      refine HRG.out.mono ?_
      rintro e w4 ⟨rfl, hb4⟩
      have hC4 := Kp.step hC3 hb4
      have q4 := q3.keep hb4
      obtain ⟨z0, z1, z2, z3, z4, z5, z6, z7⟩ := q4.cells4
      clear hb4 q3
      go_wp2_with fail
      obtain ⟨r0, r1, r2, r3⟩ := (q4.set4 (.int .i64 s1) (.int .u64 c1) (.int .i64 s2) (.int .u64 c2)).box4
      exact bodyPost_ret (v := .tuple #[.agg #[.int .i64 s1, .int .u64 c1, .int .i64 s2, .int .u64 c2], .int .i64 E]) (by simp [results, Try.results33, go_sem, r0, r1, r2, r3]) rfl ⟨rfl, below_set4 hC4 (Nat.le_refl _) _ _ _ _⟩
/-! what is read is valid -/
theorem lev_chk {l m : List ByteArray} {sn : ByteArray} {L : List Sp} (hE : levE l m sn L = 0) : proper l m = true ∧ chkL (levS l m sn L) (levC l m sn L) l.length m.length = true := by
  have hp : proper l m = true := by
    unfold levE at hE
    cases h : proper l m with
    | true => rfl
    | false => rw [if_pos h] at hE; cases hE
  refine ⟨hp, ?_⟩
  have hE' := hE
  unfold levE at hE'
  rw [if_neg (by rw [hp]; decide)] at hE'
  have hi : ¬ idxS l sn < 0 := fun h => by rw [if_pos h] at hE'; cases hE'
  rw [if_neg hi] at hE'
  have hS : levS l m sn L = idxS l sn := if_pos hE
  have hC : levC l m sn L = spsB m L := if_pos hE
  have hb := idx_bd l sn
  have hm := (proper_len hp).2
  have hlt : spsB m L < U64 := by have := spsB_lt (L := L) hm L.length; rwa [List.take_length] at this
  unfold chkL
  rw [hS, hC, Bool.and_eq_true, decide_eq_true_eq]
  refine ⟨by omega, (lowL_iff hlt _).2 fun n hn hbn => ?_⟩
  unfold spsB at hbn
  rw [foldl_or_bit (spBits m), Nat.zero_testBit, Bool.false_or, List.any_eq_true] at hbn
  obtain ⟨sp, _, hsb⟩ := hbn
  unfold spBits at hsb
  split at hsb
  · rename_i hc
    rw [orB_bit, Nat.zero_testBit, Bool.false_or, decide_eq_true_eq] at hsb
    obtain ⟨_, _, ht⟩ := spT_bd m sp
    have h5 : ¬ (spF m sp < 0 ∨ spT m sp < 0) := fun h' => by unfold spCode at hc; rw [if_pos h'] at hc; cases hc
    omega
  · rw [Nat.zero_testBit] at hsb; cases hsb
theorem rng_valid {l m : List ByteArray} {s s' : ByteArray} {L L' : List Sp} (h : (rngX l m s L s' L').1 = 0) :
    rngB (rngX l m s L s' L').2.low.sens (rngX l m s L s' L').2.low.cats (rngX l m s L s' L').2.high.sens (rngX l m s L s' L').2.high.cats l.length m.length = true := by
  unfold rngX at h ⊢
  by_cases h1 : levE l m s L ≠ 0
  · rw [if_pos h1] at h; exact absurd h h1
  · rw [if_neg h1] at h ⊢
    have e1 : levE l m s L = 0 := by simpa using h1
    obtain ⟨_, k1⟩ := lev_chk e1
    by_cases h2 : misS s' L'.length = true
    · rw [if_pos h2]
      unfold rngB
      simp only
      rw [k1, domL_self _ (levC_lt s L)]; rfl
    · rw [if_neg h2] at h ⊢
      by_cases h3 : levE l m s' L' ≠ 0
      · rw [if_pos h3] at h; exact absurd h h3
      · rw [if_neg h3] at h ⊢
        have e2 : levE l m s' L' = 0 := by simpa using h3
        obtain ⟨_, k2⟩ := lev_chk e2
        by_cases h4 : domL (levS l m s' L') (levC l m s' L') (levS l m s L) (levC l m s L) = false
        · rw [if_pos h4] at h; cases h
        · rw [if_neg h4]
          unfold rngB
          simp only
          rw [k1, k2]
          simpa using h4
theorem prs_valid {l m : List ByteArray} {s : Bs} (h : (prsX l m s).1 = 0) : rngB (prsX l m s).2.low.sens (prsX l m s).2.low.cats (prsX l m s).2.high.sens (prsX l m s).2.high.cats l.length m.length = true := by
  unfold prsX at h ⊢
  by_cases hp : proper l m = false
  · rw [if_pos hp] at h; cases h
  · rw [if_neg hp] at h ⊢
    cases hr : rdRg s with
    | none => rw [hr] at h; cases h
    | some r => rw [hr] at h; exact rng_valid h
theorem prs_cats {l m : List ByteArray} {s : Bs} : (prsX l m s).2.low.cats < U64 ∧ (prsX l m s).2.high.cats < U64 := by
  have hz : (zR : Rg).low.cats < U64 ∧ (zR : Rg).high.cats < U64 := ⟨by decide, by decide⟩
  unfold prsX
  split
  · exact hz
  · split
    · exact hz
    · unfold rngX
      split
      · exact hz
      · split
        · exact ⟨levC_lt _ _, levC_lt _ _⟩
        · split
          · exact hz
          · split
            · exact hz
            · exact ⟨levC_lt _ _, levC_lt _ _⟩
end Go.Proofs.Ythjebccidcichaa
