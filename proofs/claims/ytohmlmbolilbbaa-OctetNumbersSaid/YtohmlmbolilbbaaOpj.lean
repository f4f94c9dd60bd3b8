/- Signed, on both sides. -/
import Derived.Test.YtohmlmbolilbbaaOpi
namespace Go.Proofs.Ytohmlmbolilbbaa
open Go.RowKit
theorem dec_zero {l : List Int} (h : (dec l).1 ≠ 0) : (dec l).2.1 = 0 := by rw [dec_err h]
theorem decR_err {l : List Int} (h : (dec l).1 ≠ 0) : decR l = [] := if_neg h
set_option maxRecDepth 100000 in
theorem signed_c (v : Value) (l : List Int) (w : World) (hV : Byts w v l) (hn : l.length ≤ 1000000000000) :
    Calls Try.prog 14 #[v] w fun e w' => ∃ vr, e = .returned (.tuple #[.int .i64 (unfoldI (dec l).2.1), vr, .int .i64 (dec l).1]) ∧ Byts w' vr (decR l) ∧ Below w.heap.size w w' := by
  have hN := number_c v l w hV hn
  have hlt := dec_lt hV.all
  generalize dec l = D at hN hlt ⊢
  obtain ⟨E, N, k⟩ := D
  simp only at hN hlt ⊢
  have HU := fun w => Lib.hid (unfold_c (N : Int) w (by omega) (by omega))
  have HN := Lib.hid hN
  clear hN hlt
  go_enter Try.func14, Try.ntmps14
  go_wp2_with (first
    | (go_at_call 12; refine HN.out.mono ?_; rintro e w2 ⟨vr, rfl, hB2, hb2⟩)
    | (go_at_call 37; refine (HU _).out.mono ?_; rintro e w3 ⟨rfl, rfl⟩))
  exact bodyPost_ret (v := .tuple #[.int .i64 (unfoldI N), vr, .int .i64 E]) (by simp [results, Try.results14, go_sem]) rfl ⟨_, rfl, hB2, hb2⟩
set_option maxRecDepth 100000 in
set_option maxHeartbeats 1000000 in
theorem rSigned_c (v : Value) (l : List Int) (w : World) (hV : Byts w v l) (hn : l.length ≤ 1000000000000) :
    Calls Try.prog 15 #[v] w fun e w' => ∃ vr, e = .returned (.tuple #[.int .i64 (unfoldI (dec l).2.1), vr, .int .i64 (dec l).1]) ∧ Byts w' vr (decR l) ∧ Below w.heap.size w w' := by
  have hN := rNumber_c v l w hV hn
  have hlt := dec_lt hV.all
  by_cases hE : (dec l).1 = 0
  · generalize hD : dec l = D at hN hlt hE ⊢
    obtain ⟨E, N, k⟩ := D
    simp only at hN hlt hE ⊢
    subst hE
    have HN := Lib.hid hN
    have HL := Lib.hid hlt
    clear hN hlt hD
    by_cases h2 : N % 2 = 0
    · have h2' : ((N : Int) % 2 == 0) = true := by simp; omega
      have HE : Hid (wrap64 (IntKind.u64.wrap ((N : Int) / 2)) = unfoldI N) := Lib.hid (by
        have := HL.out
        unfold unfoldI
        rw [if_pos (by omega), u64w]
        unfold wrap64
        omega)
      clear h2
      go_enter Try.func15, Try.ntmps15
      go_wp2_with (go_at_call 13; refine HN.out.mono ?_; rintro e w2 ⟨vr, rfl, hB2, hb2⟩)
      rw [HE.out]
      exact bodyPost_ret (v := .tuple #[.int .i64 (unfoldI N), vr, .int .i64 0]) (by simp [results, Try.results15, go_sem]) rfl ⟨_, rfl, hB2, hb2⟩
    · have h2' : ((N : Int) % 2 == 0) = false := by simp; omega
      have HE : Hid (wrap64 (wrap64 (-wrap64 (IntKind.u64.wrap ((N : Int) / 2))) - 1) = unfoldI N) := Lib.hid (by
        have := HL.out
        unfold unfoldI
        rw [if_neg (by omega), u64w]
        unfold wrap64
        omega)
      clear h2
      go_enter Try.func15, Try.ntmps15
      go_wp2_with (go_at_call 13; refine HN.out.mono ?_; rintro e w2 ⟨vr, rfl, hB2, hb2⟩)
      rw [HE.out]
      exact bodyPost_ret (v := .tuple #[.int .i64 (unfoldI N), vr, .int .i64 0]) (by simp [results, Try.results15, go_sem]) rfl ⟨_, rfl, hB2, hb2⟩
  · have e0 := dec_zero hE
    have eR := decR_err hE
    rw [e0] at hN
    rw [eR] at hN
    rw [e0, eR]
    generalize dec l = D at hN hE ⊢
    obtain ⟨E, N, k⟩ := D
    simp only at hN hE ⊢
    have HN := Lib.hid hN
    have hE' : (E != 0) = true := by simpa using hE
    clear hN e0 eR hlt hE
    go_enter Try.func15, Try.ntmps15
    go_wp2_with (go_at_call 13; refine HN.out.mono ?_; rintro e w2 ⟨vr, rfl, hB2, hb2⟩)
    exact bodyPost_ret (v := .tuple #[.int .i64 0, .slice none 0 0, .int .i64 E]) (by simp [results, Try.results15, go_sem]) rfl ⟨_, rfl, Byts.nil, hb2⟩
end Go.Proofs.Ytohmlmbolilbbaa
