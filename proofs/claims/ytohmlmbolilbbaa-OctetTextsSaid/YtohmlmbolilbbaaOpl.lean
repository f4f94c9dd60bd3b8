/- Text, on both sides. -/
import Derived.Test.YtohmlmbolilbbaaOpk
namespace Go.Proofs.Ytohmlmbolilbbaa
open Go.RowKit
theorem decT_eq (l : List Int) (most : Int) : decT l most = if (dec l).1 ≠ 0 then ((dec l).1, ByteArray.empty, []) else if most < 0 ∨ most < (dec l).2.1 then (4, ByteArray.empty, [])
    else if (decR l).length < (dec l).2.1 then (5, ByteArray.empty, []) else (0, strOfNums ((decR l).take (dec l).2.1), (decR l).drop (dec l).2.1) := by
  unfold decT decR
  by_cases h : (dec l).1 ≠ 0
  · rw [if_pos h, if_pos h]
  · have h' : (dec l).1 = 0 := by omega
    rw [if_neg h, if_neg h, if_pos h', List.length_drop]
theorem Byts.take {w : World} {ao : Option Addr} {n cap : Nat} {l : List Int} (h : Byts w (.slice ao n cap) l) {k : Nat} (hk : k ≤ n) : Byts w (.slice ao k cap) (l.take k) := by
  obtain ⟨hl, hc, hn, hr⟩ := h.slice
  have hlen : (l.take k).length = k := by rw [List.length_take]; omega
  refine ⟨h.all.take _, ao, cap, by rw [hlen], by omega, hn, fun hne => ?_⟩
  have hpos : 0 < (l.take k).length := List.length_pos_iff.2 hne
  obtain ⟨g, o, rfl, _, hR⟩ := hr (by omega)
  exact ⟨g, o, rfl, hR.take k⟩
theorem conv_bytes {w : World} {ao : Option Addr} {n cap : Nat} {l : List Int} (h : Byts w (.slice ao n cap) l) : (convert 22 9 (.slice ao n cap)).run Try.prog w = .ok (.string (strOfNums l)) w := by
  obtain ⟨hl, hc, hn, hr⟩ := h.slice
  by_cases h0 : n = 0
  · subst h0
    have e : l = [] := List.eq_nil_of_length_eq_zero hl
    subst e
    cases ao with
    | none => exact run_convert_bytes_nil w _ 5 Try.underlying22 Try.underlying5 0 cap _ Try.underlying9
    | some ad => exact run_convert_bytes_back w _ _ 5 ad cap [] Try.underlying22 Try.underlying5 Try.underlying9 (fun j hj => absurd hj (by simp))
  · obtain ⟨g, o, rfl, _, hR⟩ := hr (by omega)
    refine run_convert_bytes_arg w _ 5 Try.underlying22 Try.underlying5 g o n cap l hl (fun i hi => ?_) _ Try.underlying9
    rw [hR i (by omega), List.getD, List.getElem?_eq_getElem (by omega)]
    rfl
set_option maxRecDepth 100000 in
set_option maxHeartbeats 2000000 in
theorem text_c (v : Value) (l : List Int) (most : Int) (w : World) (hV : Byts w v l) (hn : l.length ≤ 1000000000000) (hm1 : -9223372036854775808 ≤ most) (hm2 : most ≤ 9223372036854775807) :
    Calls Try.prog 21 #[v, .int .i64 most] w fun e w' => ∃ vr, e = .returned (.tuple #[.string (decT l most).2.1, vr, .int .i64 (decT l most).1]) ∧ Byts w' vr (decT l most).2.2 ∧ Below w.heap.size w w' := by
  have hN := number_c v l w hV hn
  have hlt := dec_lt hV.all
  rw [decT_eq]
  have hrl : (decR l).length ≤ 1000000000000 := by
    unfold decR
    split
    · rw [List.length_drop]; omega
    · simp
  generalize decR l = r at hN hrl ⊢
  generalize dec l = D at hN hlt ⊢
  obtain ⟨E, N, k⟩ := D
  simp only at hN hlt ⊢
  have HN := Lib.hid hN
  have HL := Lib.hid hlt
  clear hN hlt
  by_cases hE : E = 0
  · subst hE
    rw [if_neg (by simp)]
    by_cases h1 : most < 0 ∨ most < (N : Int)
    · rw [if_pos h1]
      simp only
      rcases (show most < 0 ∨ (0 ≤ most ∧ most < (N : Int)) by omega) with h1 | ⟨h1, h2⟩
      · go_enter Try.func21, Try.ntmps21
        go_wp2_with (go_at_call 12; refine HN.out.mono ?_; rintro e w2 ⟨vr, rfl, hB2, hb2⟩)
        exact bodyPost_ret (v := .tuple #[.string ⟨#[]⟩, .slice none 0 0, .int .i64 4]) (by simp [results, Try.results21, go_sem]) rfl ⟨_, rfl, Byts.nil, hb2⟩
      · have hu : IntKind.u64.wrap most = most := by rw [u64w]; omega
        have hm3 : most < (N : Int) := h2
        go_enter Try.func21, Try.ntmps21
        go_wp2_with (go_at_call 12; refine HN.out.mono ?_; rintro e w2 ⟨vr, rfl, hB2, hb2⟩)
        exact bodyPost_ret (v := .tuple #[.string ⟨#[]⟩, .slice none 0 0, .int .i64 4]) (by simp [results, Try.results21, go_sem]) rfl ⟨_, rfl, Byts.nil, hb2⟩
    · rw [if_neg h1]
      have h2 : 0 ≤ most := by omega
      have h3 : ¬ most < (N : Int) := by omega
      have hu : IntKind.u64.wrap most = most := by rw [u64w]; omega
      by_cases h4 : r.length < N
      · rw [if_pos h4]
        simp only
        have h4' : (r.length : Int) < (N : Int) := by omega
        go_enter Try.func21, Try.ntmps21
        go_wp2_with (go_at_call 12; refine HN.out.mono ?_; rintro e w2 ⟨vr, rfl, hB2, hb2⟩; obtain ⟨_, ar, cr, rfl, _, _, _⟩ := hB2)
        exact bodyPost_ret (v := .tuple #[.string ⟨#[]⟩, .slice none 0 0, .int .i64 5]) (by simp [results, Try.results21, go_sem]) rfl ⟨_, rfl, Byts.nil, hb2⟩
      · rw [if_neg h4]
        simp only
        obtain ⟨S, hS⟩ : ∃ S, strOfNums (r.take N) = S := ⟨_, rfl⟩
        have HS := Lib.hid hS
        rw [hS]
        clear hS
        have h4' : ¬ (r.length : Int) < (N : Int) := by omega
        go_enter Try.func21, Try.ntmps21
        go_wp2_with (go_at_call 12; refine HN.out.mono ?_; rintro e w2 ⟨vr, rfl, hB2, hb2⟩; have HB2 := Lib.hid hB2; obtain ⟨_, ar, cr, rfl, hcr, _, _⟩ := hB2)
        obtain ⟨X, hX⟩ : ∃ X, (if r.length = N then ar else ar.map (·.add (N * 1))) = X := ⟨_, rfl⟩
        have hpc := fun w => piece_c ar r.length cr N r.length w (by omega) hcr
        rw [hX] at hpc
        have hBx : Byts w2 (.slice X (r.length - N) (r.length - N)) (r.drop N) := by
          have h := HB2.out.cut (a := N) (b := r.length) r.length (by omega) (Nat.le_refl _) (Nat.le_refl _) hcr
          rw [hX, List.take_length] at h
          exact h
        have hcv : ∀ k, (convert 22 9 (.slice ar N cr)).run Try.prog (w2.drewN k) = .ok (.string S) (w2.drewN k) := fun k => by rw [← HS.out]; exact conv_bytes ((HB2.out.take (k := N) (by omega)).keep (below_drewN k))
        have hw : wrap64 (N : Int) = N := by unfold wrap64; omega
        have HBx := Lib.hid hBx
        clear hBx HB2 hX
        go_quiet ((go_at_call 36; exact Calls.quiet_of_same (hpc _)))
        go_wp2_with fail
        exact bodyPost_ret (v := .tuple #[.string S, .slice X (r.length - N) (r.length - N), .int .i64 0]) (by simp [results, Try.results21, go_sem]) rfl ⟨_, rfl, HBx.out.keep (below_drewN _), hb2.trans (below_drewN _)⟩
  · rw [if_pos hE]
    simp only
    have hE' : (E != 0) = true := by simpa using hE
    clear hE
    go_enter Try.func21, Try.ntmps21
    go_wp2_with (go_at_call 12; refine HN.out.mono ?_; rintro e w2 ⟨vr, rfl, hB2, hb2⟩)
    exact bodyPost_ret (v := .tuple #[.string ⟨#[]⟩, .slice none 0 0, .int .i64 E]) (by simp [results, Try.results21, go_sem]) rfl ⟨_, rfl, Byts.nil, hb2⟩
set_option maxRecDepth 100000 in
set_option maxHeartbeats 2000000 in
theorem rText_c (v : Value) (l : List Int) (most : Int) (w : World) (hV : Byts w v l) (hn : l.length ≤ 1000000000000) (hm1 : -9223372036854775808 ≤ most) (hm2 : most ≤ 9223372036854775807) :
    Calls Try.prog 22 #[v, .int .i64 most] w fun e w' => ∃ vr, e = .returned (.tuple #[.string (decT l most).2.1, vr, .int .i64 (decT l most).1]) ∧ Byts w' vr (decT l most).2.2 ∧ Below w.heap.size w w' := by
  have hN := rNumber_c v l w hV hn
  have hlt := dec_lt hV.all
  rw [decT_eq]
  have hrl : (decR l).length ≤ 1000000000000 := by
    unfold decR
    split
    · rw [List.length_drop]; omega
    · simp
  generalize decR l = r at hN hrl ⊢
  generalize dec l = D at hN hlt ⊢
  obtain ⟨E, N, k⟩ := D
  simp only at hN hlt ⊢
  have HN := Lib.hid hN
  have HL := Lib.hid hlt
  clear hN hlt
  by_cases hE : E = 0
  · subst hE
    rw [if_neg (by simp)]
    by_cases h1 : most < 0 ∨ most < (N : Int)
    · rw [if_pos h1]
      simp only
      rcases (show most < 0 ∨ (0 ≤ most ∧ most < (N : Int)) by omega) with h1 | ⟨h1, h2⟩
      · go_enter Try.func22, Try.ntmps22
        go_wp2_with (go_at_call 13; refine HN.out.mono ?_; rintro e w2 ⟨vr, rfl, hB2, hb2⟩)
        exact bodyPost_ret (v := .tuple #[.string ⟨#[]⟩, .slice none 0 0, .int .i64 4]) (by simp [results, Try.results22, go_sem]) rfl ⟨_, rfl, Byts.nil, hb2⟩
      · have hu : IntKind.u64.wrap most = most := by rw [u64w]; omega
        have hm3 : most < (N : Int) := h2
        go_enter Try.func22, Try.ntmps22
        go_wp2_with (go_at_call 13; refine HN.out.mono ?_; rintro e w2 ⟨vr, rfl, hB2, hb2⟩)
        exact bodyPost_ret (v := .tuple #[.string ⟨#[]⟩, .slice none 0 0, .int .i64 4]) (by simp [results, Try.results22, go_sem]) rfl ⟨_, rfl, Byts.nil, hb2⟩
    · rw [if_neg h1]
      have h2 : 0 ≤ most := by omega
      have h3 : ¬ most < (N : Int) := by omega
      have hu : IntKind.u64.wrap most = most := by rw [u64w]; omega
      by_cases h4 : r.length < N
      · rw [if_pos h4]
        simp only
        have h4' : (r.length : Int) < (N : Int) := by omega
        go_enter Try.func22, Try.ntmps22
        go_wp2_with (go_at_call 13; refine HN.out.mono ?_; rintro e w2 ⟨vr, rfl, hB2, hb2⟩; obtain ⟨_, ar, cr, rfl, _, _, _⟩ := hB2)
        exact bodyPost_ret (v := .tuple #[.string ⟨#[]⟩, .slice none 0 0, .int .i64 5]) (by simp [results, Try.results22, go_sem]) rfl ⟨_, rfl, Byts.nil, hb2⟩
      · rw [if_neg h4]
        simp only
        obtain ⟨S, hS⟩ : ∃ S, strOfNums (r.take N) = S := ⟨_, rfl⟩
        have HS := Lib.hid hS
        rw [hS]
        clear hS
        have h4' : ¬ (r.length : Int) < (N : Int) := by omega
        go_enter Try.func22, Try.ntmps22
        go_wp2_with (go_at_call 13; refine HN.out.mono ?_; rintro e w2 ⟨vr, rfl, hB2, hb2⟩; have HB2 := Lib.hid hB2; obtain ⟨_, ar, cr, rfl, hcr, _, _⟩ := hB2)
        have hcv : ∀ k, (convert 22 9 (.slice ar N cr)).run Try.prog (w2.drewN k) = .ok (.string S) (w2.drewN k) := fun k => by rw [← HS.out]; exact conv_bytes ((HB2.out.take (k := N) (by omega)).keep (below_drewN k))
        have HF := Lib.hid (HB2.out.from (a := N) (by omega))
        clear HB2
        by_cases hc : cr = N
        · have HBx : Hid (Byts w2 (.slice ar (r.length - N) 0) (r.drop N)) := by have h := HF.out; rw [if_pos hc, hc, Nat.sub_self] at h; exact Lib.hid h
          clear HF
          subst hc
          go_quiet (fail)
          go_wp2_with fail
          exact bodyPost_ret (v := .tuple #[.string S, .slice ar (r.length - cr) 0, .int .i64 0]) (by simp [results, Try.results22, go_sem]; omega) rfl ⟨_, rfl, HBx.out.keep (below_drewN _), hb2.trans (below_drewN _)⟩
        · have HBx : Hid (Byts w2 (.slice (ar.map (·.add N)) (r.length - N) (cr - N)) (r.drop N)) := by have h := HF.out; rw [if_neg hc, Nat.mul_one] at h; exact Lib.hid h
          clear HF
          go_quiet (fail)
          go_wp2_with fail
          exact bodyPost_ret (v := .tuple #[.string S, .slice (ar.map (·.add N)) (r.length - N) (cr - N), .int .i64 0]) (by simp [results, Try.results22, go_sem]) rfl ⟨_, rfl, HBx.out.keep (below_drewN _), hb2.trans (below_drewN _)⟩
  · rw [if_pos hE]
    simp only
    have hE' : (E != 0) = true := by simpa using hE
    clear hE
    go_enter Try.func22, Try.ntmps22
    go_wp2_with (go_at_call 13; refine HN.out.mono ?_; rintro e w2 ⟨vr, rfl, hB2, hb2⟩)
    exact bodyPost_ret (v := .tuple #[.string ⟨#[]⟩, .slice none 0 0, .int .i64 E]) (by simp [results, Try.results22, go_sem]) rfl ⟨_, rfl, Byts.nil, hb2⟩
end Go.Proofs.Ytohmlmbolilbbaa
