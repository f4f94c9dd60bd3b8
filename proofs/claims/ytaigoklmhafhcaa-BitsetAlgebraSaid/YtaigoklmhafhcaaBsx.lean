/- Contracts of Union and Meet that tell the world which they leave to the cell. -/
import Derived.Test.YtaigoklmhafhcaaBsc
namespace Go.Proofs.Ytaigoklmhafhcaa
open Go.RowKit
set_option maxHeartbeats 1000000 in
theorem union_x (x0 x1 x2 x3 y0 y1 y2 y3 : Int) (w : World) :
    Calls Try.prog 26 #[.agg #[.int .u64 x0, .int .u64 x1, .int .u64 x2, .int .u64 x3], .agg #[.int .u64 y0, .int .u64 y1, .int .u64 y2, .int .u64 y3]] w fun e w' =>
      e = .returned (.agg #[.int .u64 (bits .or .u64 x0 y0), .int .u64 (bits .or .u64 x1 y1), .int .u64 (bits .or .u64 x2 y2), .int .u64 (bits .or .u64 x3 y3)]) ∧ w' = (((w.alloc (.cells #[.int .u64 (bits .or .u64 x0 y0), .int .u64 (bits .or .u64 x1 y1), .int .u64 (bits .or .u64 x2 y2), .int .u64 (bits .or .u64 x3 y3)] 24)).alloc (.cells #[.int .u64 y0, .int .u64 y1, .int .u64 y2, .int .u64 y3] 24)).alloc (.cells #[.int .u64 (bits .or .u64 x0 y0), .int .u64 (bits .or .u64 x1 y1), .int .u64 (bits .or .u64 x2 y2), .int .u64 (bits .or .u64 x3 y3)] 24)).drew.drew.drew.drew := by
  go_enter Try.func26, Try.ntmps26
  go_wp2
  refine wp_loop_rounds 5 ?_
  iterate 4 (rw [rounds_succ]; go_wp2; go_region; go_wp2)
  rw [rounds_succ]
  go_wp2
  exact bodyPost_ret (v := .agg #[.int .u64 (bits .or .u64 x0 y0), .int .u64 (bits .or .u64 x1 y1), .int .u64 (bits .or .u64 x2 y2), .int .u64 (bits .or .u64 x3 y3)]) (by simp [results, Try.results26, go_sem]) rfl ⟨rfl, rfl⟩
set_option maxHeartbeats 1000000 in
theorem meet_x (x0 x1 x2 x3 y0 y1 y2 y3 : Int) (w : World) :
    Calls Try.prog 28 #[.agg #[.int .u64 x0, .int .u64 x1, .int .u64 x2, .int .u64 x3], .agg #[.int .u64 y0, .int .u64 y1, .int .u64 y2, .int .u64 y3]] w fun e w' =>
      e = .returned (.agg #[.int .u64 (bits .and .u64 x0 y0), .int .u64 (bits .and .u64 x1 y1), .int .u64 (bits .and .u64 x2 y2), .int .u64 (bits .and .u64 x3 y3)]) ∧ w' = (((w.alloc (.cells #[.int .u64 (bits .and .u64 x0 y0), .int .u64 (bits .and .u64 x1 y1), .int .u64 (bits .and .u64 x2 y2), .int .u64 (bits .and .u64 x3 y3)] 24)).alloc (.cells #[.int .u64 y0, .int .u64 y1, .int .u64 y2, .int .u64 y3] 24)).alloc (.cells #[.int .u64 (bits .and .u64 x0 y0), .int .u64 (bits .and .u64 x1 y1), .int .u64 (bits .and .u64 x2 y2), .int .u64 (bits .and .u64 x3 y3)] 24)).drew.drew.drew.drew := by
  go_enter Try.func28, Try.ntmps28
  go_wp2
  refine wp_loop_rounds 5 ?_
  iterate 4 (rw [rounds_succ]; go_wp2; go_region; go_wp2)
  rw [rounds_succ]
  go_wp2
  exact bodyPost_ret (v := .agg #[.int .u64 (bits .and .u64 x0 y0), .int .u64 (bits .and .u64 x1 y1), .int .u64 (bits .and .u64 x2 y2), .int .u64 (bits .and .u64 x3 y3)]) (by simp [results, Try.results28, go_sem]) rfl ⟨rfl, rfl⟩
end Go.Proofs.Ytaigoklmhafhcaa
