/- The environment of the examples: sample of the laws. Condition: at most a million names, types, attributes and aliases. -/
import Derived.Test.YtbkejoheefnmiaaNsq
namespace Go.Proofs.Ytbkejoheefnmiaa
open Go.RowKit
def sTs : List TyE := [(⟨#[97]⟩, [⟨#[120]⟩]), (⟨#[98]⟩, []), (⟨#[99]⟩, [])]
def sAs : List AtE := [(⟨#[100]⟩, ofS [1, 2])]
/-- the environment of the examples -/
def SampleOut (w : World) (e : Ending) (w' : World) : Prop := ∃ vT vA, e = .returned (.agg #[vT, vA]) ∧ Tys w' vT sTs ∧ Ats w' vA sAs ∧ Below w.heap.size w w'
set_option maxRecDepth 100000 in
set_option maxHeartbeats 4000000 in
theorem sample_c (w : World) : Calls Try.prog 30 #[] w (SampleOut w) := by
  have s1 : (w.alloc (.cells #[.slice none 0 0, .slice none 0 0] 25)).heap.size = w.heap.size + 1 := by simp
  have s2 : ((w.alloc (.cells #[.slice none 0 0, .slice none 0 0] 25)).alloc (.cells #[.string ⟨#[120]⟩] 9)).heap.size = w.heap.size + 1 + 1 := by simp
  have s3 : (((w.alloc (.cells #[.slice none 0 0, .slice none 0 0] 25)).alloc (.cells #[.string ⟨#[120]⟩] 9)).alloc (.cells #[.string ⟨#[97]⟩, .slice (some ⟨w.heap.size + 1, 0, none⟩) 1 1, .bool false, .string ⟨#[98]⟩, .slice none 0 0, .bool false, .string ⟨#[99]⟩, .slice none 0 0, .bool false] 53)).heap.size = w.heap.size + 1 + 1 + 1 := by simp
  have hW : Kp w ((((w.alloc (.cells #[.slice none 0 0, .slice none 0 0] 25)).alloc (.cells #[.string ⟨#[120]⟩] 9)).alloc (.cells #[.string ⟨#[97]⟩, .slice (some ⟨w.heap.size + 1, 0, none⟩) 1 1, .bool false, .string ⟨#[98]⟩, .slice none 0 0, .bool false, .string ⟨#[99]⟩, .slice none 0 0, .bool false] 53)).alloc (.cells #[.int .i64 1, .int .i64 2] 3)) := ((((Below.refl _ _).alloc (Nat.le_refl _) _).alloc (by simp) _).alloc (by simp; omega) _).alloc (by simp; omega) _
  have hE : Blk ((((w.alloc (.cells #[.slice none 0 0, .slice none 0 0] 25)).alloc (.cells #[.string ⟨#[120]⟩] 9)).alloc (.cells #[.string ⟨#[97]⟩, .slice (some ⟨w.heap.size + 1, 0, none⟩) 1 1, .bool false, .string ⟨#[98]⟩, .slice none 0 0, .bool false, .string ⟨#[99]⟩, .slice none 0 0, .bool false] 53)).alloc (.cells #[.int .i64 1, .int .i64 2] 3)) w.heap.size 25 #[.slice none 0 0, .slice none 0 0] := (((Blk.new w _ _).alloc _).alloc _).alloc _
  have hX : Blk ((((w.alloc (.cells #[.slice none 0 0, .slice none 0 0] 25)).alloc (.cells #[.string ⟨#[120]⟩] 9)).alloc (.cells #[.string ⟨#[97]⟩, .slice (some ⟨w.heap.size + 1, 0, none⟩) 1 1, .bool false, .string ⟨#[98]⟩, .slice none 0 0, .bool false, .string ⟨#[99]⟩, .slice none 0 0, .bool false] 53)).alloc (.cells #[.int .i64 1, .int .i64 2] 3)) (w.heap.size + 1) 9 #[.string ⟨#[120]⟩] := by
    rw [← s1]; exact ((Blk.new (w.alloc (.cells #[.slice none 0 0, .slice none 0 0] 25)) _ _).alloc _).alloc _
  have hT : Blk ((((w.alloc (.cells #[.slice none 0 0, .slice none 0 0] 25)).alloc (.cells #[.string ⟨#[120]⟩] 9)).alloc (.cells #[.string ⟨#[97]⟩, .slice (some ⟨w.heap.size + 1, 0, none⟩) 1 1, .bool false, .string ⟨#[98]⟩, .slice none 0 0, .bool false, .string ⟨#[99]⟩, .slice none 0 0, .bool false] 53)).alloc (.cells #[.int .i64 1, .int .i64 2] 3)) (w.heap.size + 1 + 1) 53 #[.string ⟨#[97]⟩, .slice (some ⟨w.heap.size + 1, 0, none⟩) 1 1, .bool false, .string ⟨#[98]⟩, .slice none 0 0, .bool false, .string ⟨#[99]⟩, .slice none 0 0, .bool false] := by
    rw [← s2]; exact (Blk.new ((w.alloc (.cells #[.slice none 0 0, .slice none 0 0] 25)).alloc (.cells #[.string ⟨#[120]⟩] 9)) _ _).alloc _
  have hI : Ints ((((w.alloc (.cells #[.slice none 0 0, .slice none 0 0] 25)).alloc (.cells #[.string ⟨#[120]⟩] 9)).alloc (.cells #[.string ⟨#[97]⟩, .slice (some ⟨w.heap.size + 1, 0, none⟩) 1 1, .bool false, .string ⟨#[98]⟩, .slice none 0 0, .bool false, .string ⟨#[99]⟩, .slice none 0 0, .bool false] 53)).alloc (.cells #[.int .i64 1, .int .i64 2] 3)) (some ⟨w.heap.size + 1 + 1 + 1, 0, none⟩) [1, 2] := fun i hi => by
    have := Blk.new (((w.alloc (.cells #[.slice none 0 0, .slice none 0 0] 25)).alloc (.cells #[.string ⟨#[120]⟩] 9)).alloc (.cells #[.string ⟨#[97]⟩, .slice (some ⟨w.heap.size + 1, 0, none⟩) 1 1, .bool false, .string ⟨#[98]⟩, .slice none 0 0, .bool false, .string ⟨#[99]⟩, .slice none 0 0, .bool false] 53)) 3 #[.int .i64 1, .int .i64 2]
    rw [s3] at this
    have hi2 : i = 0 ∨ i = 1 := by simp at hi; omega
    rcases hi2 with rfl | rfl
    · exact ⟨_, 0, rfl, this.cell 0, this.lt⟩
    · exact ⟨_, 0, rfl, this.cell 1, this.lt⟩
  have HOF := Lib.hid (rof_c (some ⟨w.heap.size + 1 + 1 + 1, 0, none⟩) [1, 2] 2 ((((w.alloc (.cells #[.slice none 0 0, .slice none 0 0] 25)).alloc (.cells #[.string ⟨#[120]⟩] 9)).alloc (.cells #[.string ⟨#[97]⟩, .slice (some ⟨w.heap.size + 1, 0, none⟩) 1 1, .bool false, .string ⟨#[98]⟩, .slice none 0 0, .bool false, .string ⟨#[99]⟩, .slice none 0 0, .bool false] 53)).alloc (.cells #[.int .i64 1, .int .i64 2] 3)) hI (by unfold maxLen; decide))
  have HE := Lib.hid hE
  have HX := Lib.hid hX
  have HT := Lib.hid hT
  have HW := Lib.hid hW
  clear hE hX hT hW hI s1 s2 s3
  go_enter Try.func30, Try.ntmps30
  go_wp2_with fail
  generalize ((((w.alloc (.cells #[.slice none 0 0, .slice none 0 0] 25)).alloc (.cells #[.string ⟨#[120]⟩] 9)).alloc (.cells #[.string ⟨#[97]⟩, .slice (some ⟨w.heap.size + 1, 0, none⟩) 1 1, .bool false, .string ⟨#[98]⟩, .slice none 0 0, .bool false, .string ⟨#[99]⟩, .slice none 0 0, .bool false] 53)).alloc (.cells #[.int .i64 1, .int .i64 2] 3)) = W at *
  refine HOF.out.mono ?_
  rintro e w2 ⟨rfl, hb2⟩
  have HE2 := Lib.hid ((HE.out.keep hb2).alloc (.cells #[.string ⟨#[100]⟩, .int .u64 (ofI [1, 2] 0), .int .u64 (ofI [1, 2] 1), .int .u64 (ofI [1, 2] 2), .int .u64 (ofI [1, 2] 3)] 65))
  have HX2 := Lib.hid ((HX.out.keep hb2).alloc (.cells #[.string ⟨#[100]⟩, .int .u64 (ofI [1, 2] 0), .int .u64 (ofI [1, 2] 1), .int .u64 (ofI [1, 2] 2), .int .u64 (ofI [1, 2] 3)] 65))
  have HT2 := Lib.hid ((HT.out.keep hb2).alloc (.cells #[.string ⟨#[100]⟩, .int .u64 (ofI [1, 2] 0), .int .u64 (ofI [1, 2] 1), .int .u64 (ofI [1, 2] 2), .int .u64 (ofI [1, 2] 3)] 65))
  have HA2 := Lib.hid (Blk.new w2 65 #[.string ⟨#[100]⟩, .int .u64 (ofI [1, 2] 0), .int .u64 (ofI [1, 2] 1), .int .u64 (ofI [1, 2] 2), .int .u64 (ofI [1, 2] 3)])
  have HB2 := Lib.hid ((Kp.step HW.out hb2).alloc (.cells #[.string ⟨#[100]⟩, .int .u64 (ofI [1, 2] 0), .int .u64 (ofI [1, 2] 1), .int .u64 (ofI [1, 2] 2), .int .u64 (ofI [1, 2] 3)] 65))
  have hl : w.heap.size < w2.heap.size := (HE.out.keep hb2).lt
  have HL := Lib.hid hl
  obtain ⟨e0, e1⟩ := HE2.out.two
  have f0 := HE2.out.frozen 0
  have f1 := HE2.out.frozen 1
  clear hb2 hl
  go_wp2_with fail
  generalize w2.alloc (.cells #[.string ⟨#[100]⟩, .int .u64 (ofI [1, 2] 0), .int .u64 (ofI [1, 2] 1), .int .u64 (ofI [1, 2] 2), .int .u64 (ofI [1, 2] 3)] 65) = w3 at *
  have hr0 : Blk ((w3.setCell ⟨w.heap.size, 0, none⟩ (.slice (some ⟨w.heap.size + 1 + 1, 0, none⟩) 3 3)).setCell ⟨w.heap.size, 1, none⟩ (.slice (some ⟨w2.heap.size, 0, none⟩) 1 1)) w.heap.size 25 #[.slice (some ⟨w.heap.size + 1 + 1, 0, none⟩) 3 3, .slice (some ⟨w2.heap.size, 0, none⟩) 1 1] := by simpa using (HE2.out.set 0 (.slice (some ⟨w.heap.size + 1 + 1, 0, none⟩) 3 3)).set 1 (.slice (some ⟨w2.heap.size, 0, none⟩) 1 1)
  have hX3 := (HX2.out.far (p := ⟨w.heap.size, 0, none⟩) (show w.heap.size + 1 ≠ w.heap.size by omega) (.slice (some ⟨w.heap.size + 1 + 1, 0, none⟩) 3 3)).far (p := ⟨w.heap.size, 1, none⟩) (show w.heap.size + 1 ≠ w.heap.size by omega) (.slice (some ⟨w2.heap.size, 0, none⟩) 1 1)
  have hT3 := (HT2.out.far (p := ⟨w.heap.size, 0, none⟩) (show w.heap.size + 1 + 1 ≠ w.heap.size by omega) (.slice (some ⟨w.heap.size + 1 + 1, 0, none⟩) 3 3)).far (p := ⟨w.heap.size, 1, none⟩) (show w.heap.size + 1 + 1 ≠ w.heap.size by omega) (.slice (some ⟨w2.heap.size, 0, none⟩) 1 1)
  have hA3 := (HA2.out.far (p := ⟨w.heap.size, 0, none⟩) (Nat.ne_of_gt HL.out) (.slice (some ⟨w.heap.size + 1 + 1, 0, none⟩) 3 3)).far (p := ⟨w.heap.size, 1, none⟩) (Nat.ne_of_gt HL.out) (.slice (some ⟨w2.heap.size, 0, none⟩) 1 1)
  have hB3 := (Below.setCell HB2.out (p := ⟨w.heap.size, 0, none⟩) (Nat.le_refl _) (.slice (some ⟨w.heap.size + 1 + 1, 0, none⟩) 3 3)).setCell (p := ⟨w.heap.size, 1, none⟩) (Nat.le_refl _) (.slice (some ⟨w2.heap.size, 0, none⟩) 1 1)
  obtain ⟨r0, r1⟩ := hr0.two
  refine bodyPost_ret (v := .agg #[.slice (some ⟨w.heap.size + 1 + 1, 0, none⟩) 3 3, .slice (some ⟨w2.heap.size, 0, none⟩) 1 1]) (by simp [results, Try.results30, go_sem, r0, r1]) rfl ⟨_, _, rfl, ?_, ?_, hB3⟩
  · refine ⟨_, _, rfl, fun _ => ⟨_, _, rfl, hT3.lt, fun k hk => ?_⟩⟩
    have hk2 : k = 0 ∨ k = 1 ∨ k = 2 := by simp [sTs] at hk; omega
    rcases hk2 with rfl | rfl | rfl
    · refine ⟨hT3.cell 0, _, hT3.cell 1, ⟨_, _, rfl, fun _ => ⟨_, _, rfl, fun j hj => ?_⟩⟩⟩
      obtain rfl : j = 0 := by simp [sTs] at hj; omega
      exact hX3.cell 0
    · exact ⟨hT3.cell 3, _, hT3.cell 4, Strs.nil⟩
    · exact ⟨hT3.cell 6, _, hT3.cell 7, Strs.nil⟩
  · refine ⟨_, _, rfl, fun _ => ⟨_, _, rfl, hA3.lt, fun k hk => ?_⟩⟩
    obtain rfl : k = 0 := by simp [sAs] at hk; omega
    exact ⟨hA3.cell 0, hA3.cell 1, hA3.cell 2, hA3.cell 3, hA3.cell 4⟩
end Go.Proofs.Ytbkejoheefnmiaa
