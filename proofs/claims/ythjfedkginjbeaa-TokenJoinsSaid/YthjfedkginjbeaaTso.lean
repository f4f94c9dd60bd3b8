/- The reference's Locate. -/
import Derived.Test.YthjfedkginjbeaaTsn
namespace Go.Proofs.Ythjfedkginjbeaa
open Go.RowKit
set_option maxRecDepth 100000 in
set_option maxHeartbeats 2000000 in
theorem rloc_in (s : ByteArray) (i : Nat) (w : World) (hi : i ≤ s.size) (hm : s.size ≤ 65536) :
    Calls Try.prog 29 #[.string s, .int .i64 i] w fun e w' => e = .returned (.agg #[.int .i64 (posI s i).1, .int .i64 (posI s i).2]) ∧ Below w.heap.size w w' := by
  have h0 : (i : Int) ≤ (s.size : Int) := by omega
  go_enter Try.func29, Try.ntmps29
  go_wp2_with fail
  have P2 : Blk ((w.alloc (.cells #[.int .i64 0, .int .i64 0] 26)).alloc (.cells #[.int .i64 1, .int .i64 1] 26)) (w.heap.size + 1) _ _ := Blk.here (by simp)
  have F2 := (Blk.new w 26 #[.int .i64 0, .int .i64 0]).alloc (.cells #[.int .i64 1, .int .i64 1] 26)
  have hb3 := ((Below.refl w.heap.size w).alloc (Nat.le_refl _) (.cells #[.int .i64 0, .int .i64 0] 26)).alloc (by simp) (.cells #[.int .i64 1, .int .i64 1] 26)
  generalize (w.alloc (.cells #[.int .i64 0, .int .i64 0] 26)).alloc (.cells #[.int .i64 1, .int .i64 1] 26) = W2 at *
  go_loopw [6] (fun v wr => ∃ k : Nat, k ≤ i ∧ v = .int .i64 k ∧ Blk wr (w.heap.size + 1) 26 #[.int .i64 (posI s k).1, .int .i64 (posI s k).2] ∧ Blk wr w.heap.size 26 #[.int .i64 0, .int .i64 0] ∧ Below w.heap.size w wr)
    (fun v _ => i - (intOf v).toNat)
  case atStart => exact ⟨0, Nat.zero_le _, rfl, P2, F2, hb3⟩
  case round =>
    obtain ⟨k, hk, rfl, hP, hF, hb⟩ := hrel
    obtain ⟨p0, p1, q0, q1⟩ := pos_facts hP
    obtain ⟨f0, f1, e0, e1⟩ := pos_facts hF
    by_cases hlt : k < i
    · have hbd := posI_bd s k
      have hks : (k : Int) < (s.size : Int) := by omega
      have hks' : k < s.size := by omega
      obtain ⟨L, hL⟩ : ∃ L, (posI s k).1 = L := ⟨_, rfl⟩
      obtain ⟨C, hC⟩ : ∃ C, (posI s k).2 = C := ⟨_, rfl⟩
      have hn := posI_next s k
      rw [chI_lt hks', hL, hC] at hn
      rw [hL, hC] at hbd
      rw [hL, hC] at hP
      rw [hL] at p0
      rw [hC] at p1
      have HN := Lib.hid hn
      clear hn
      by_cases h10 : (s[k].toNat : Int) = 10
      · have hn' : posI s (k + 1) = (L + 1, 1) := by rw [HN.out]; simp [nxL, nxC, h10]
        have HM := Lib.hid hn'
        clear hn' hL hC
        go_wp2
        refine ⟨⟨k + 1, by omega, by simp, ?_, ?_, ?_⟩, by simp [intOf]; omega⟩
        · rw [HM.out]
          simpa using ((hP.set 1 (.int .i64 (C + 1))).set 0 (.int .i64 (L + 1))).set 1 (.int .i64 1)
        · exact ((hF.far (p := ⟨w.heap.size + 1, 1, none⟩) (by simp) _).far (p := ⟨w.heap.size + 1, 0, none⟩) (by simp) _).far (p := ⟨w.heap.size + 1, 1, none⟩) (by simp) _
        · exact ((hb.setCell (p := ⟨w.heap.size + 1, 1, none⟩) (by simp) _).setCell (p := ⟨w.heap.size + 1, 0, none⟩) (by simp) _).setCell (p := ⟨w.heap.size + 1, 1, none⟩) (by simp) _
      · have hn' : posI s (k + 1) = (L, C + 1) := by rw [HN.out]; simp [nxL, nxC, h10]
        have HM := Lib.hid hn'
        have h11 : ((s[k].toNat : Int) == 10) = false := by simpa using h10
        clear hn' hL hC
        go_wp2
        refine ⟨⟨k + 1, by omega, by simp, ?_, ?_, ?_⟩, by simp [intOf]; omega⟩
        · rw [HM.out]
          simpa using hP.set 1 (.int .i64 (C + 1))
        · exact hF.far (p := ⟨w.heap.size + 1, 1, none⟩) (by simp) _
        · exact hb.setCell (p := ⟨w.heap.size + 1, 1, none⟩) (by simp) _
    · obtain rfl : k = i := by omega
      go_wp2
      exact bodyPost_ret (pos_ret Try.results29 rfl (by simpa using (hF.set 0 (.int .i64 (posI s k).1)).set 1 (.int .i64 (posI s k).2))) rfl ⟨rfl, (hb.setCell (Nat.le_refl _) _).setCell (Nat.le_refl _) _⟩
set_option maxRecDepth 100000 in
theorem rloc_out (s : ByteArray) (i : Int) (w : World) (hi : i < 0 ∨ (s.size : Int) < i) :
    Calls Try.prog 29 #[.string s, .int .i64 i] w fun e w' => e = .returned (.agg #[.int .i64 0, .int .i64 0]) ∧ Below w.heap.size w w' := by
  rcases hi with h | h
  · go_enter Try.func29, Try.ntmps29
    go_wp2
    exact bodyPost_ret (pos_ret Try.results29 rfl (Blk.new w _ _)) rfl ⟨rfl, (Below.refl _ _).alloc (Nat.le_refl _) _⟩
  · go_enter Try.func29, Try.ntmps29
    go_wp2
    exact bodyPost_ret (pos_ret Try.results29 rfl (Blk.new w _ _)) rfl ⟨rfl, (Below.refl _ _).alloc (Nat.le_refl _) _⟩
end Go.Proofs.Ythjfedkginjbeaa
