/- Package token: Locate. -/
import Derived.Test.YthjfedkginjbeaaTsm
import Derived.StillTailTactics
namespace Go.Proofs.Ythjfedkginjbeaa
open Go.RowKit
theorem kp_pos {W w : World} {g : Nat} {t : TypeId} {a b : Value} (h : Blk W g t #[a, b]) (hC : Kp W w) : w.cell? ⟨g, 0, none⟩ = some a ∧ w.cell? ⟨g, 1, none⟩ = some b ∧ w.frozen? ⟨g, 0, none⟩ = false ∧ w.frozen? ⟨g, 1, none⟩ = false := pos_facts (hC.blk h)
set_option maxRecDepth 100000 in
set_option maxHeartbeats 2000000 in
theorem loc_in (s : ByteArray) (i : Nat) (w : World) (hi : i ≤ s.size) (hm : s.size ≤ 65536) :
    Calls Try.prog 28 #[.string s, .int .i64 i] w fun e w' => e = .returned (.agg #[.int .i64 (posI s i).1, .int .i64 (posI s i).2]) ∧ Below w.heap.size w w' := by
  have h0 : (i : Int) ≤ (s.size : Int) := by omega
  go_enter Try.func28, Try.ntmps28
  go_wp2_with fail
  have F : Blk (w.alloc (.cells #[.int .i64 0, .int .i64 0] 26)) w.heap.size _ _ := Blk.new w _ _
  have hb : Below w.heap.size w (w.alloc (.cells #[.int .i64 0, .int .i64 0] 26)) := (Below.refl _ _).alloc (Nat.le_refl _) _
  generalize w.alloc (.cells #[.int .i64 0, .int .i64 0] 26) = W at *
  have hF := F.lt
  go_wp2_with (go_at_call 33; refine (firstPos_c _).mono ?_; rintro e w2 ⟨rfl, hb2⟩)
  have P2 : Blk (w2.alloc (.cells #[.int .i64 1, .int .i64 1] 26)) w2.heap.size _ _ := Blk.new w2 _ _
  have F2 := (F.keep hb2).alloc (.cells #[.int .i64 1, .int .i64 1] 26)
  have hs2 := hb2.size
  have hb3 := (hb.trans (hb2.mono (by omega))).alloc (by omega) (.cells #[.int .i64 1, .int .i64 1] 26)
  obtain ⟨g, hg⟩ : ∃ g, w2.heap.size = g := ⟨_, rfl⟩
  rw [hg] at P2 hs2
  rw [hg]
  generalize w2.alloc (.cells #[.int .i64 1, .int .i64 1] 26) = W2 at *
  clear hb2 hb F hg w2
  have hgw : w.heap.size < g := by omega
  clear hF hs2
  go_loopw [18] (fun v wr => ∃ k : Nat, k ≤ i ∧ v = .int .i64 k ∧ Blk wr g 26 #[.int .i64 (posI s k).1, .int .i64 (posI s k).2] ∧ Blk wr w.heap.size 26 #[.int .i64 0, .int .i64 0] ∧ Below w.heap.size w wr)
    (fun v _ => i - (intOf v).toNat)
  case atStart => exact ⟨0, Nat.zero_le _, rfl, P2, F2, hb3⟩
  case round =>
    obtain ⟨k, hk, rfl, hP, hF, hb⟩ := hrel
    obtain ⟨p0, p1, q0, q1⟩ := pos_facts hP
    obtain ⟨f0, f1, e0, e1⟩ := pos_facts hF
    have hPl := hP.lt
    by_cases hlt : k < i
    · have hbd := posI_bd s k
      have hks : (k : Int) < (s.size : Int) := by omega
      have hks' : k < s.size := by omega
      go_wp2_with fail
      go_still_tail 5, (by kernel_rfl)
      change wpList _ _ _ _ _ wr.drew
      have hP2 : Blk wr.drew g _ _ := hP
      have hF2 : Blk wr.drew w.heap.size _ _ := hF
      have hb2 := hb.drew
      generalize wr.drew = wz at *
      clear hP hF hb p0 p1 q0 q1 f0 f1 e0 e1 hPl
      go_wp2_with (go_at_call 49; refine (behind_c _ _ _ _ hbd.1 (by omega) hbd.2.2.1 (by omega)).mono ?_; rintro e w1 ⟨rfl, hb1⟩; have hP3 := hP2.keep hb1; obtain ⟨p0, p1, q0, q1⟩ := pos_facts hP3)
      refine ⟨⟨k + 1, by omega, by simp, ?_, ?_, ?_⟩, by simp [intOf]; omega⟩
      · rw [posI_next, chI_lt hks', wrap32_u8]
        simpa using (hP3.set 0 (.int .i64 (nxL (posI s k).1 (s[k].toNat : Int)))).set 1 (.int .i64 (nxC (posI s k).2 (s[k].toNat : Int)))
      · exact ((hF2.keep hb1).far (p := ⟨g, 0, none⟩) (by simp; omega) _).far (p := ⟨g, 1, none⟩) (by simp; omega) _
      · exact ((hb2.trans (hb1.mono hb2.size)).setCell (p := ⟨g, 0, none⟩) (by simp; omega) _).setCell (p := ⟨g, 1, none⟩) (by simp; omega) _
    · obtain rfl : k = i := by omega
      go_wp2
      exact bodyPost_ret (pos_ret Try.results28 rfl (by simpa using (hF.set 0 (.int .i64 (posI s k).1)).set 1 (.int .i64 (posI s k).2))) rfl ⟨rfl, (hb.setCell (Nat.le_refl _) _).setCell (Nat.le_refl _) _⟩
set_option maxRecDepth 100000 in
theorem loc_out (s : ByteArray) (i : Int) (w : World) (hi : i < 0 ∨ (s.size : Int) < i) :
    Calls Try.prog 28 #[.string s, .int .i64 i] w fun e w' => e = .returned (.agg #[.int .i64 0, .int .i64 0]) ∧ Below w.heap.size w w' := by
  rcases hi with h | h
  · go_enter Try.func28, Try.ntmps28
    go_wp2
    exact bodyPost_ret (pos_ret Try.results28 rfl (Blk.new w _ _)) rfl ⟨rfl, (Below.refl _ _).alloc (Nat.le_refl _) _⟩
  · go_enter Try.func28, Try.ntmps28
    go_wp2
    exact bodyPost_ret (pos_ret Try.results28 rfl (Blk.new w _ _)) rfl ⟨rfl, (Below.refl _ _).alloc (Nat.le_refl _) _⟩
end Go.Proofs.Ythjfedkginjbeaa
