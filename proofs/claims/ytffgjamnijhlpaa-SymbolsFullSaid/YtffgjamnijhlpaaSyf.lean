/- The chapter's example (alive). -/
import Derived.Test.YtffgjamnijhlpaaSyh
import Derived.Sort.KeysCollected
namespace Go.Proofs.Ytffgjamnijhlpaa
open Go.RowKit Go.Maps Go.Sort
theorem al_a : identB ⟨#[97]⟩ = true := by kernel_rfl
theorem al_b : identB ⟨#[98]⟩ = true := by kernel_rfl
theorem al_c : identB ⟨#[99]⟩ = true := by kernel_rfl
theorem al_x : identB ⟨#[120]⟩ = true := by kernel_rfl
theorem al_type : identB ⟨#[116, 121, 112, 101]⟩ = false := by kernel_rfl
theorem al_ms {ss : List (List UInt8)} (h : ss.Perm [[97], [98], [120]]) : ss.mergeSort (fun x y => decide (x ≤ y)) = [[97], [98], [120]] := by
  have h1 := mergeSort_of_perm h
  have h2 : ([[97], [98], [120]] : List (List UInt8)).mergeSort leB = [[97], [98], [120]] := List.mergeSort_of_pairwise (by decide)
  rw [h2] at h1
  exact h1
theorem add_alive1 {w : World} {B g : Nat} (h : Tab w B g 2 [] []) : Calls Try.prog 19 #[.pointer (some ⟨g, 0, none⟩), .string ⟨#[97]⟩] w fun e w' => e = .returned (.tuple #[.int .i64 0, .int .i64 0]) ∧ Tab w' B g 2 [⟨#[97]⟩] [(⟨#[97]⟩, 0)] ∧ Below B w w' :=
  add_ok _ h (by decide) al_a rfl (by decide) (by decide) (by decide)
theorem add_alive2 {w : World} {B g : Nat} (h : Tab w B g 2 [⟨#[97]⟩] [(⟨#[97]⟩, 0)]) : Calls Try.prog 19 #[.pointer (some ⟨g, 0, none⟩), .string ⟨#[98]⟩] w fun e w' => e = .returned (.tuple #[.int .i64 1, .int .i64 0]) ∧ Tab w' B g 2 [⟨#[97]⟩, ⟨#[98]⟩] [(⟨#[97]⟩, 0), (⟨#[98]⟩, 1)] ∧ Below B w w' :=
  add_ok _ h (by decide) al_b (by decide) (by decide) (by decide) (by decide)
theorem alias_alive {w : World} {B g : Nat} (h : Tab w B g 2 [⟨#[97]⟩, ⟨#[98]⟩] [(⟨#[97]⟩, 0), (⟨#[98]⟩, 1)]) : Calls Try.prog 20 #[.pointer (some ⟨g, 0, none⟩), .string ⟨#[120]⟩, .int .i64 1] w fun e w' => e = .returned (.int .i64 0) ∧ Tab w' B g 2 [⟨#[97]⟩, ⟨#[98]⟩] [(⟨#[97]⟩, 0), (⟨#[98]⟩, 1), (⟨#[120]⟩, 1)] ∧ Below B w w' :=
  alias_ok _ 1 h (by decide) al_x (by decide) (by decide) (by decide) (by decide) (by decide)
def AlE : List (ByteArray × Int) := [(⟨#[97]⟩, 0), (⟨#[98]⟩, 1), (⟨#[120]⟩, 1)]
def AlN : List ByteArray := [⟨#[97]⟩, ⟨#[98]⟩]
theorem find_alive {w : World} {B g : Nat} (h : Tab w B g 2 AlN AlE) : Calls Try.prog 14 #[.pointer (some ⟨g, 0, none⟩), .string ⟨#[120]⟩] w fun e w' => e = .returned (.tuple #[.int .i64 1, .bool true]) ∧ w' = w := by
  have := find_c ⟨#[120]⟩ h (by decide)
  rw [show lookE AlE ⟨#[120]⟩ = 1 by decide, show hasE AlE ⟨#[120]⟩ = true by decide] at this
  exact this
theorem sorted_alive {w : World} {B g : Nat} (h : Tab w B g 2 AlN AlE) : Calls Try.prog 22 #[.pointer (some ⟨g, 0, none⟩)] w fun e w' => ∃ v, e = .returned v ∧ Strs w' v [⟨#[97]⟩, ⟨#[98]⟩, ⟨#[120]⟩] ∧ Below w.heap.size w w' := by
  refine (sorted_c h (by decide)).mono ?_
  rintro e w' ⟨v, ss, rfl, hp, hs, hb⟩
  rw [al_ms hp] at hs
  exact ⟨v, rfl, hs, hb⟩
set_option maxRecDepth 100000 in
set_option maxHeartbeats 16000000 in
theorem alive_c (w : World) : Calls Try.prog 11 #[] w fun e w' => e = .returned (.bool true) ∧ Below w.heap.size w w' := by
  go_enter Try.func11, Try.ntmps11
  go_wp2_with fail
  refine (new_c 2 w (by decide)).mono ?_
  rintro e w1 ⟨g, rfl, hT, hb⟩
  go_wp2_with fail
  refine (add_alive1 hT).mono ?_
  rintro e w2 ⟨rfl, hT2, hk⟩
  replace hb := hb.trans hk
  clear hT hk
  go_wp2_with fail
  refine (add_alive2 hT2).mono ?_
  rintro e w3 ⟨rfl, hT, hk⟩
  replace hb := hb.trans hk
  clear hT2 hk
  go_wp2_with fail
  refine (add_full ⟨#[99]⟩ hT (by decide) al_c (by decide) (by decide) (by decide)).mono ?_
  rintro e w4 ⟨rfl, hk⟩
  replace hT := hT.keep hk
  replace hb := hb.trans (hk.mono hb.size)
  clear hk
  go_wp2_with fail
  refine (alias_alive hT).mono ?_
  rintro e w5 ⟨rfl, hT2, hk⟩
  replace hb := hb.trans hk
  clear hT hk
  go_wp2_with fail
  refine (find_alive hT2).mono ?_
  rintro e w6 ⟨rfl, rfl⟩
  go_wp2_with fail
  refine (add_twice ⟨#[120]⟩ hT2 (by decide) al_x (by decide)).mono ?_
  rintro e w7 ⟨rfl, hk⟩
  replace hT2 := hT2.keep hk
  replace hb := hb.trans (hk.mono hb.size)
  clear hk
  go_wp2_with fail
  refine (add_name ⟨#[116, 121, 112, 101]⟩ hT2 (by decide) al_type).mono ?_
  rintro e w8 ⟨rfl, hk⟩
  replace hT2 := hT2.keep hk
  replace hb := hb.trans (hk.mono hb.size)
  clear hk
  go_wp2_with fail
  refine (sorted_alive hT2).mono ?_
  rintro e w9 ⟨v, rfl, hs, hk⟩
  replace hb := hb.trans (hk.mono hb.size)
  clear hk hT2
  obtain ⟨ao, cap, rfl, hs⟩ := hs
  go_wp2_with fail
  have hnew : Strs (w9.alloc (.cells #[.string ⟨#[97]⟩, .string ⟨#[98]⟩, .string ⟨#[120]⟩] 9)) (.slice (some ⟨w9.heap.size, 0, none⟩) 3 3) [⟨#[97]⟩, ⟨#[98]⟩, ⟨#[120]⟩] := by
    refine ⟨_, _, rfl, fun _ => ⟨_, _, rfl, fun k hk => ?_⟩⟩
    have hB := Blk.new w9 9 #[.string ⟨#[97]⟩, .string ⟨#[98]⟩, .string ⟨#[120]⟩]
    have hk3 : k < 3 := hk
    rcases (by omega : k = 0 ∨ k = 1 ∨ k = 2) with rfl | rfl | rfl
    · exact hB.cell 0
    · exact hB.cell 1
    · exact hB.cell 2
  refine (texts_c _ _ [⟨#[97]⟩, ⟨#[98]⟩, ⟨#[120]⟩] [⟨#[97]⟩, ⟨#[98]⟩, ⟨#[120]⟩] _ (Strs.keep ⟨ao, cap, rfl, hs⟩ ((Below.refl _ _).alloc (Nat.le_refl _) _)) hnew (by decide) (by decide)).mono ?_
  rintro e w10 ⟨rfl, hk⟩
  rw [sameS_self]
  replace hb := (hb.alloc hb.size _).trans (hk.mono (by have := hb.size; simp; omega))
  clear hk hnew hs
  go_wp2_with fail
  go_ret
  exact ⟨rfl, hb⟩
end Go.Proofs.Ytffgjamnijhlpaa
