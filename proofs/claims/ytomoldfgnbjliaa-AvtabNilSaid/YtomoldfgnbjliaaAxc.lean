/- AvtabNil: the walk. -/
import Derived.Test.YtomoldfgnbjliaaAxb
namespace Go.Proofs.Ytomoldfgnbjliaa
open Go.RowKit Go.Sort Go.Shelf
set_option maxRecDepth 100000 in
set_option maxHeartbeats 4000000 in
theorem lnil_c (a b c d : Int) (vv : Value) (W : World) : Calls Try.prog 7 #[.agg #[.int .i64 a, .int .i64 b, .int .i64 c, .int .u32 d], vv] W fun e w' => e = .returned (.bool true) ∧ Below W.heap.size W w' := by
  have HAl := Lib.hid (@alive_c)
  have hor : bits .or .u32 0 0 = 0 := by decide
  go_enter Try.func7, Try.ntmps7
  go_wp2_with fail
  go_loopw [14] (fun i wr => ∃ k : Nat, k ≤ 2 ∧ i = .int .i64 k ∧ Blk wr W.heap.size 48 #[.int .i64 a, .int .i64 b, .int .i64 c, .int .u32 d] ∧ wr.cell? ⟨W.heap.size + 1, 0, none⟩ = some (.pointer none) ∧
      Blk wr (W.heap.size + 1 + 1) 27 #[.pointer none, .pointer (some ⟨W.heap.size + 1, 0, none⟩)] ∧ Below W.heap.size W wr)
    (fun i _ => 2 - (intOf i).toNat)
  case atStart =>
    refine ⟨0, by omega, rfl, ((Blk.new W _ _).alloc _).alloc _, ?_, ?_, (((Below.refl _ W).alloc (Nat.le_refl _) _).alloc (by simp) _).alloc (by simp; omega) _⟩
    · exact (((Blk.here (by simp)).alloc _).cell 0)
    · exact Blk.here (by simp)
  case round =>
    obtain ⟨k, hk, rfl, hQ, hZ, hP, hB⟩ := hrel
    obtain ⟨q0, q1, q2, q3⟩ := (show _ ∧ _ ∧ _ ∧ _ from ⟨hQ.cell 0, hQ.cell 1, hQ.cell 2, hQ.cell 3⟩)
    have p0 := hP.cell 0
    have p1 := hP.cell 1
    have HQ := Lib.hid hQ
    have HZ := Lib.hid hZ
    have HP := Lib.hid hP
    have HB := Lib.hid hB
    have HN1 : Hid (NotT wr none) := Lib.hid (.inl rfl)
    have HN2 : Hid (NotT wr (some ⟨W.heap.size + 1, 0, none⟩)) := Lib.hid (.inr ⟨_, rfl, hZ⟩)
    clear hQ hZ hP hB
    have hkk : k = 0 ∨ k = 1 ∨ k = 2 := by omega
    rcases hkk with rfl | rfl | rfl
    · go_wp2_with (first
        | (go_at_call 13; refine (activate_no HN1.out _).mono ?_; rintro e w' ⟨rfl, rfl⟩)
        | (go_at_call 20; refine (find_no HN1.out _ _ _).mono ?_; rintro e w' ⟨rfl, rfl⟩)
        | (go_at_call 17; refine (entries_no HN1.out).mono ?_; rintro e w' ⟨rfl, rfl⟩)
        | (go_at_call 18; refine (visible_no HN1.out).mono ?_; rintro e w' ⟨rfl, rfl⟩)
        | (go_at_call 22; refine (targets_no HN1.out _ _ _).mono ?_; rintro e w' ⟨rfl, rfl⟩)
        | (go_at_call 23; refine (sources_no HN1.out _ _ _).mono ?_; rintro e w' ⟨rfl, rfl⟩)
        | (go_at_call 21; refine (len_no HN1.out).mono ?_; rintro e w' ⟨rfl, rfl⟩)
        | (go_at_call 15; refine (copy_no HN1.out).mono ?_; rintro e w' ⟨rfl, rfl⟩))
      go_roundw
      case rel => exact ⟨1, by omega, by go_num, HQ.out, HZ.out, HP.out, HB.out⟩
      case measure => simp [intOf]
    · go_wp2_with (first
        | (go_at_call 13; refine (activate_no HN2.out _).mono ?_; rintro e w' ⟨rfl, rfl⟩)
        | (go_at_call 20; refine (find_no HN2.out _ _ _).mono ?_; rintro e w' ⟨rfl, rfl⟩)
        | (go_at_call 17; refine (entries_no HN2.out).mono ?_; rintro e w' ⟨rfl, rfl⟩)
        | (go_at_call 18; refine (visible_no HN2.out).mono ?_; rintro e w' ⟨rfl, rfl⟩)
        | (go_at_call 22; refine (targets_no HN2.out _ _ _).mono ?_; rintro e w' ⟨rfl, rfl⟩)
        | (go_at_call 23; refine (sources_no HN2.out _ _ _).mono ?_; rintro e w' ⟨rfl, rfl⟩)
        | (go_at_call 21; refine (len_no HN2.out).mono ?_; rintro e w' ⟨rfl, rfl⟩)
        | (go_at_call 15; refine (copy_no HN2.out).mono ?_; rintro e w' ⟨rfl, rfl⟩))
      go_roundw
      case rel => exact ⟨2, by omega, by go_num, HQ.out, HZ.out, HP.out, HB.out⟩
      case measure => simp [intOf]
    · go_wp2_with (go_at_call 9; refine (HAl.out _).mono ?_; rintro e w2 ⟨rfl, hb⟩; have HB2 := Lib.hid (HB.out.trans (hb.mono HB.out.size)); clear hb)
      go_ret
      exact ⟨rfl, HB2.out⟩
end Go.Proofs.Ytomoldfgnbjliaa
