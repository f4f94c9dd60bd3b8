/- What a set of names means among the types of an environment: Types of the program. Condition: at most a million names, types, attributes and aliases. -/
import Derived.Test.YtbkejoheefnmiaaNsl
namespace Go.Proofs.Ytbkejoheefnmiaa
open Go.RowKit
set_option maxRecDepth 100000 in
set_option maxHeartbeats 8000000 in
theorem types_c (al no sf : Bool) (vN vE vT vA : Value) (N E : List ByteArray) (Ts : List TyE) (As : List AtE) (w : World) (hN : Strs w vN N) (hE : Strs w vE E) (hT : Tys w vT Ts) (hA : Ats w vA As) (hn : N.length ≤ 1000000) (hn2 : E.length ≤ 1000000) (hn3 : Ts.length ≤ 1000000) (hn4 : As.length ≤ 1000000) (hal : ∀ k (h : k < Ts.length), Ts[k].2.length ≤ 1000000) :
    Calls Try.prog 14 #[.agg #[.bool al, .bool no, .bool sf, vN, vE], .agg #[vT, vA]] w (ErrOut (meanS al no Ts.length (oneS Ts As) (oneB Ts As) N E) (errI (meanB (oneB Ts As) N E) 11) w) := by
  have hW : Kp w (((w.alloc (.cells #[.bool al, .bool no, .bool sf, vN, vE] 29)).alloc (.cells #[vT, vA] 25)).alloc (.cells #[.int .u64 0, .int .u64 0, .int .u64 0, .int .u64 0] 35)) := (((Below.refl _ _).alloc (Nat.le_refl _) _).alloc (by simp) _).alloc (by simp; omega) _
  have hNS : Blk (((w.alloc (.cells #[.bool al, .bool no, .bool sf, vN, vE] 29)).alloc (.cells #[vT, vA] 25)).alloc (.cells #[.int .u64 0, .int .u64 0, .int .u64 0, .int .u64 0] 35)) w.heap.size 29 #[.bool al, .bool no, .bool sf, vN, vE] := ((Blk.new w _ _).alloc _).alloc _
  have s1 : (w.alloc (.cells #[.bool al, .bool no, .bool sf, vN, vE] 29)).heap.size = w.heap.size + 1 := by simp
  have s2 : ((w.alloc (.cells #[.bool al, .bool no, .bool sf, vN, vE] 29)).alloc (.cells #[vT, vA] 25)).heap.size = w.heap.size + 1 + 1 := by simp
  have hEN : Blk (((w.alloc (.cells #[.bool al, .bool no, .bool sf, vN, vE] 29)).alloc (.cells #[vT, vA] 25)).alloc (.cells #[.int .u64 0, .int .u64 0, .int .u64 0, .int .u64 0] 35)) (w.heap.size + 1) 25 #[vT, vA] := by
    rw [← s1]; exact (Blk.new (w.alloc (.cells #[.bool al, .bool no, .bool sf, vN, vE] 29)) _ _).alloc _
  have hQ4 : Quad (((w.alloc (.cells #[.bool al, .bool no, .bool sf, vN, vE] 29)).alloc (.cells #[vT, vA] 25)).alloc (.cells #[.int .u64 0, .int .u64 0, .int .u64 0, .int .u64 0] 35)) (w.heap.size + 1 + 1) 0 0 0 0 := by
    rw [← s2]; exact Quad.new ((w.alloc (.cells #[.bool al, .bool no, .bool sf, vN, vE] 29)).alloc (.cells #[vT, vA] 25)) 0 0 0 0
  clear s1 s2
  have HM := Lib.hid (meaning_t (w.heap.size + 1) (oneS Ts As) (oneB Ts As) al no sf vN vE N E Ts.length (((w.alloc (.cells #[.bool al, .bool no, .bool sf, vN, vE] 29)).alloc (.cells #[vT, vA] 25)).alloc (.cells #[.int .u64 0, .int .u64 0, .int .u64 0, .int .u64 0] 35)) (hN.keep hW) (hE.keep hW) hn hn2 (by omega) (by omega) (fun n W' h => find_t (w.heap.size + 1) vT vA Ts As n W' (h.blk hEN) (hT.keep (Below.trans hW (Below.mono h hW.size))) (hA.keep (Below.trans hW (Below.mono h hW.size))) hn3 hn4 hal))
  obtain ⟨S, hS⟩ : ∃ S, meanS al no Ts.length (oneS Ts As) (oneB Ts As) N E = S := ⟨_, rfl⟩
  obtain ⟨B, hB⟩ : ∃ B, meanB (oneB Ts As) N E = B := ⟨_, rfl⟩
  have hZ : B = false → S4.zero = S := fun h => by rw [← hS]; unfold meanS; rw [show (unB (oneB Ts As) N && unB (oneB Ts As) E) = false from hB.trans h]; rfl
  have HZ := Lib.hid hZ
  rw [hS, hB] at HM ⊢
  clear hS hB hZ
  obtain ⟨ao, cap, rfl, -⟩ := hT
  obtain ⟨y0, y1, y2, y3, y4⟩ := hNS.five
  obtain ⟨e0, e1⟩ := hEN.two
  have HQ4 := Lib.hid hQ4
  have HW := Lib.hid hW
  clear hQ4 hW hNS hEN hN hE hA hal
  cases B
  all_goals
    go_enter Try.func14, Try.ntmps14
    go_wp2_with fail
    refine HM.out.mono ?_
    rintro e w2 ⟨rfl, hb2⟩
    have hQ := (HQ4.out.keep hb2).alloc (.cells #[.int .u64 (S).a, .int .u64 (S).b, .int .u64 (S).c, .int .u64 (S).d] 35)
    have HB := Lib.hid (Kp.alloc (Kp.step HW.out hb2) (.cells #[.int .u64 (S).a, .int .u64 (S).b, .int .u64 (S).c, .int .u64 (S).d] 35))
    obtain ⟨c0, c1, c2, c3, f0, f1, f2, f3⟩ := hQ.facts
    have HQ := Lib.hid hQ
    clear hb2 hQ y0 y1 y2 y3 y4 e0 e1
    go_wp2_with fail
  · obtain rfl := HZ.out (by simp)
    obtain ⟨r0, r1, r2, r3⟩ := quad_box (HQ.out.set4 0 0 0 0)
    exact bodyPost_ret (v := .tuple #[.agg #[.int .u64 0, .int .u64 0, .int .u64 0, .int .u64 0], .int .i64 11]) (by simp [results, Try.results14, go_sem, r0, r1, r2, r3]) rfl ⟨rfl, below_set4 HB.out (by omega) _ _ _ _⟩
  · obtain ⟨r0, r1, r2, r3⟩ := quad_box (HQ.out.set4 (S).a (S).b (S).c (S).d)
    exact bodyPost_ret (v := .tuple #[.agg #[.int .u64 (S).a, .int .u64 (S).b, .int .u64 (S).c, .int .u64 (S).d], .int .i64 0]) (by simp [results, Try.results14, go_sem, r0, r1, r2, r3]) rfl ⟨rfl, below_set4 HB.out (by omega) _ _ _ _⟩
end Go.Proofs.Ytbkejoheefnmiaa
