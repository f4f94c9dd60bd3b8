/- The laws' decision and play. -/
import Derived.Test.YtbcbhgclgakljaaKcn
namespace Go.Proofs.Ytbcbhgclgakljaa
open Go.RowKit Go.Maps Go.WideElems Go.WideShapes
theorem Blk.cells6 {w : World} {g : Nat} {t : TypeId} {a0 a1 a2 a3 a4 a5 : Value} (h : Blk w g t #[a0, a1, a2, a3, a4, a5]) :
    w.cell? ⟨g, 0, none⟩ = some a0 ∧ w.cell? ⟨g, 1, none⟩ = some a1 ∧ w.cell? ⟨g, 2, none⟩ = some a2 ∧ w.cell? ⟨g, 3, none⟩ = some a3 ∧ w.cell? ⟨g, 4, none⟩ = some a4 ∧ w.cell? ⟨g, 5, none⟩ = some a5 :=
  ⟨h.cell 0, h.cell 1, h.cell 2, h.cell 3, h.cell 4, h.cell 5⟩
section
variable {w w' : World} {F G : Nat → Prop} {c : Nat} {s : CS}
set_option maxRecDepth 100000 in
set_option maxHeartbeats 8000000 in
theorem decision_c (x : Opr) (w : World) : Calls Try.prog 37 #[.agg #[.int .u8 x.kind, .int .i64 x.k.a, .int .i64 x.k.b, .int .i64 x.k.c, .int .u32 x.al, .int .i64 x.sq]] w fun e w' => e = .returned (.agg #[.int .u32 x.al, .int .u32 0, .int .u32 0, .bool false, .int .i64 x.sq]) ∧ Below w.heap.size w w' := by
  have HB : Hid (Below w.heap.size w ((w.alloc (.cells #[.int .u8 x.kind, .int .i64 x.k.a, .int .i64 x.k.b, .int .i64 x.k.c, .int .u32 x.al, .int .i64 x.sq] 35)).alloc (.cells #[.int .u32 0, .int .u32 0, .int .u32 0, .bool false, .int .i64 0] 39))) := Lib.hid (((Below.refl _ _).alloc (Nat.le_refl _) _).alloc (by simp) _)
  have HN : Hid (Blk ((w.alloc (.cells #[.int .u8 x.kind, .int .i64 x.k.a, .int .i64 x.k.b, .int .i64 x.k.c, .int .u32 x.al, .int .i64 x.sq] 35)).alloc (.cells #[.int .u32 0, .int .u32 0, .int .u32 0, .bool false, .int .i64 0] 39)) w.heap.size 35 #[.int .u8 x.kind, .int .i64 x.k.a, .int .i64 x.k.b, .int .i64 x.k.c, .int .u32 x.al, .int .i64 x.sq]) := Lib.hid ((Blk.here rfl).alloc _)
  have HV : Hid (Blk ((w.alloc (.cells #[.int .u8 x.kind, .int .i64 x.k.a, .int .i64 x.k.b, .int .i64 x.k.c, .int .u32 x.al, .int .i64 x.sq] 35)).alloc (.cells #[.int .u32 0, .int .u32 0, .int .u32 0, .bool false, .int .i64 0] 39)) (w.heap.size + 1) 39 #[.int .u32 0, .int .u32 0, .int .u32 0, .bool false, .int .i64 0]) := Lib.hid (Blk.here (by simp))
  go_enter Try.func37, Try.ntmps37
  go_upto_region 1 with fail
  generalize (w.alloc (.cells #[.int .u8 x.kind, .int .i64 x.k.a, .int .i64 x.k.b, .int .i64 x.k.c, .int .u32 x.al, .int .i64 x.sq] 35)).alloc (.cells #[.int .u32 0, .int .u32 0, .int .u32 0, .bool false, .int .i64 0] 39) = W at *
  have HGY : Hid (w.heap.size < w.heap.size + 1) := Lib.hid (Nat.lt_succ_self _)
  generalize w.heap.size + 1 = gy at *
  generalize hgx : w.heap.size = gx at *
  obtain ⟨k0, k1, k2, k3, k4, k5⟩ := HN.out.cells6
  obtain ⟨r0, r1, r2, r3, r4, f0, f1, f2, f3, f4⟩ := HV.out.cells5
  have HA : Hid (Below gx w (((((W.setCell ⟨gy, 0, none⟩ (.int .u32 x.al)).setCell ⟨gy, 1, none⟩ (.int .u32 0)).setCell ⟨gy, 2, none⟩ (.int .u32 0)).setCell ⟨gy, 3, none⟩ (.bool false)).setCell ⟨gy, 4, none⟩ (.int .i64 x.sq))) := Lib.hid (by
    have h1 : Apart (fun _ => False) w W := Apart.of (by rw [hgx]; exact HB.out)
    rw [← hgx]
    exact (apart_set5 h1 (.inr (by rw [hgx]; exact Nat.le_of_lt HGY.out)) _ _ _ _ _).to_below)
  have HS := Lib.hid (HV.out.set5 (.int .u32 x.al) (.int .u32 0) (.int .u32 0) (.bool false) (.int .i64 x.sq))
  go_wp2_with fail
  clear r0 r1 r2 r3 r4 f0 f1 f2 f3 f4 k0 k1 k2 k3 k4 k5
  generalize ((((W.setCell ⟨gy, 0, none⟩ (.int .u32 x.al)).setCell ⟨gy, 1, none⟩ (.int .u32 0)).setCell ⟨gy, 2, none⟩ (.int .u32 0)).setCell ⟨gy, 3, none⟩ (.bool false)).setCell ⟨gy, 4, none⟩ (.int .i64 x.sq) = W5 at *
  obtain ⟨r0, r1, r2, r3, r4, _⟩ := HS.out.cells5
  refine bodyPost_ret (v := .agg #[.int .u32 x.al, .int .u32 0, .int .u32 0, .bool false, .int .i64 x.sq]) (by simp [results, Try.results37, go_sem, r0, r1, r2, r3, r4]) rfl ⟨rfl, by rw [hgx]; exact HA.out⟩
end
end Go.Proofs.Ytbcbhgclgakljaa
