/- The reference's filled; forget. -/
import Derived.Test.YtcainohglmgdpaaRva
namespace Go.Proofs.Ytcainohglmgdpaa
open Go.RowKit Go.Maps Go.WideElems Go.WideMaps Go.WideShapes Go.Sort Go.Shelf
@[go_sem] theorem fldR1 (a b c d : Value) (w : World) : (Instr.field 71 (.agg #[a, b, c, d]) 1).run Try.prog w = .ok b w := by kernel_rfl
@[go_sem] theorem fldR4 (a b c d e f g : Value) (w : World) : (Instr.field 29 (.agg #[a, b, c, d, e, f, g]) 4).run Try.prog w = .ok e w := by kernel_rfl
section
variable {w w' : World} {g m B : Nat} {S : RS} {a : Option Addr} {n c : Nat} {L : List Bk} {e : Int}
theorem Blk.set4 {g : Nat} {t : TypeId} {a0 a1 a2 a3 : Value} (h : Blk w g t #[a0, a1, a2, a3]) (b0 b1 b2 b3 : Value) :
    Blk ((((w.setCell ⟨g, 0, none⟩ b0).setCell ⟨g, 1, none⟩ b1).setCell ⟨g, 2, none⟩ b2).setCell ⟨g, 3, none⟩ b3) g t #[b0, b1, b2, b3] := by
  simpa using (((h.set 0 b0).set 1 b1).set 2 b2).set 3 b3
theorem below_set4 {B : Nat} {w0 w' : World} {g : Nat} (h : Below B w0 w') (hg : B ≤ g) (b0 b1 b2 b3 : Value) :
    Below B w0 ((((w'.setCell ⟨g, 0, none⟩ b0).setCell ⟨g, 1, none⟩ b1).setCell ⟨g, 2, none⟩ b2).setCell ⟨g, 3, none⟩ b3) :=
  (((h.setCell (p := ⟨g, 0, none⟩) hg b0).setCell (p := ⟨g, 1, none⟩) hg b1).setCell (p := ⟨g, 2, none⟩) hg b2).setCell (p := ⟨g, 3, none⟩) hg b3
set_option maxRecDepth 100000 in
set_option maxHeartbeats 4000000 in
theorem rfilled_c {x : Bk} {t t0 : Int} (sl : Value) (hS : S.Ok e) (hx : x.Ok S.b t0 e) (ht : t0 ≤ t) (ht2 : t ≤ 1125899906842624) (w : World) :
    Calls Try.prog 38 #[.agg #[.int .i64 S.b, .int .i64 S.i, .int .i64 S.n, .int .i64 S.t, sl, .int .i64 S.al, .int .i64 S.dr], .agg #[.string x.k, .int .i64 x.l, .int .i64 x.c, .int .i64 x.d], .int .i64 t] w fun r w' => r = .returned (.agg #[.string x.k, .int .i64 (fillB S.b S.i x t).l, .int .i64 (fillB S.b S.i x t).c, .int .i64 x.d]) ∧ Below w.heap.size w w' := by
  have hc1 := hx.c1
  have hc0 := hx.c0
  have hl0 := hx.l0
  have hl1 := hx.l1
  have hb1 := hS.b1
  have hi0 := hS.i0
  obtain ⟨d0, d1, d2, d3⟩ := div_facts (a := t - x.c) (i := S.i) (by omega) hi0
  generalize hF : fillB S.b S.i x t = y
  have HF := Lib.hid hF
  have hw1 : IntKind.i64.wrap (t - x.c) = t - x.c := IntWalk.i64_in _ (by omega)
  have hw2 : IntKind.i64.wrap ((t - x.c).tdiv S.i) = (t - x.c).tdiv S.i := IntWalk.i64_in _ (by omega)
  have hw3 : IntKind.i64.wrap (x.l + (t - x.c).tdiv S.i) = x.l + (t - x.c).tdiv S.i := IntWalk.i64_in _ (by omega)
  have hw4 : IntKind.i64.wrap ((t - x.c).tdiv S.i * S.i) = (t - x.c).tdiv S.i * S.i := IntWalk.i64_in _ (by omega)
  have hw5 : IntKind.i64.wrap (x.c + (t - x.c).tdiv S.i * S.i) = x.c + (t - x.c).tdiv S.i * S.i := IntWalk.i64_in _ (by omega)
  have hi1 : (S.i = 0) = False := eq_false (by omega)
  have hmin : min S.b (x.l + (t - x.c).tdiv S.i) = y.l := by
    rw [← hF]; unfold fillB
    split
    · show _ = S.b
      omega
    · show _ = x.l + _
      omega
  have hcc : ∀ z, y.l = S.b → z = t → y.c = z := fun z h1 h2 => by
    rw [← hF] at h1 ⊢; unfold fillB at h1 ⊢
    split
    · exact h2.symm
    · rename_i h
      rw [if_neg h] at h1
      have h1 : x.l + _ = S.b := h1
      omega
  have hcd : y.l ≠ S.b → y.c = x.c + (t - x.c).tdiv S.i * S.i := fun h1 => by
    rw [← hF] at h1 ⊢; unfold fillB at h1 ⊢
    split
    · rename_i h
      rw [if_pos h] at h1
      exact absurd rfl h1
    · rfl
  clear hS hx hc1 hc0 hl0 hl1 hb1 hi0 d0 d1 d2 d3 ht ht2 hF HF
  have HCC := Lib.hid hcc
  have HCD := Lib.hid hcd
  clear hcc hcd
  go_enter Try.func38, Try.ntmps38
  go_upto_region 1 with fail
  have HB : Hid (Below w.heap.size w (((w.alloc (.cells #[.int .i64 S.b, .int .i64 S.i, .int .i64 S.n, .int .i64 S.t, sl, .int .i64 S.al, .int .i64 S.dr] 29)).alloc (.cells #[.string x.k, .int .i64 x.l, .int .i64 x.c, .int .i64 x.d] 71)).alloc (.cells #[.string ⟨#[]⟩, .int .i64 0, .int .i64 0, .int .i64 0] 71))) := Lib.hid ((((Below.refl _ _).alloc (Nat.le_refl _) _).alloc (by simp) _).alloc (by simp; omega) _)
  have HX : Hid (Blk (((w.alloc (.cells #[.int .i64 S.b, .int .i64 S.i, .int .i64 S.n, .int .i64 S.t, sl, .int .i64 S.al, .int .i64 S.dr] 29)).alloc (.cells #[.string x.k, .int .i64 x.l, .int .i64 x.c, .int .i64 x.d] 71)).alloc (.cells #[.string ⟨#[]⟩, .int .i64 0, .int .i64 0, .int .i64 0] 71)) w.heap.size 29 #[.int .i64 S.b, .int .i64 S.i, .int .i64 S.n, .int .i64 S.t, sl, .int .i64 S.al, .int .i64 S.dr]) := Lib.hid (((Blk.new w _ _).alloc _).alloc _)
  have HY : Hid (Blk (((w.alloc (.cells #[.int .i64 S.b, .int .i64 S.i, .int .i64 S.n, .int .i64 S.t, sl, .int .i64 S.al, .int .i64 S.dr] 29)).alloc (.cells #[.string x.k, .int .i64 x.l, .int .i64 x.c, .int .i64 x.d] 71)).alloc (.cells #[.string ⟨#[]⟩, .int .i64 0, .int .i64 0, .int .i64 0] 71)) (w.heap.size + 1) 71 #[.string x.k, .int .i64 x.l, .int .i64 x.c, .int .i64 x.d]) := Lib.hid (by
    have := (Blk.new (w.alloc (.cells #[.int .i64 S.b, .int .i64 S.i, .int .i64 S.n, .int .i64 S.t, sl, .int .i64 S.al, .int .i64 S.dr] 29)) 71 #[.string x.k, .int .i64 x.l, .int .i64 x.c, .int .i64 x.d]).alloc (.cells #[.string ⟨#[]⟩, .int .i64 0, .int .i64 0, .int .i64 0] 71)
    simpa using this)
  have HZ : Hid (Blk (((w.alloc (.cells #[.int .i64 S.b, .int .i64 S.i, .int .i64 S.n, .int .i64 S.t, sl, .int .i64 S.al, .int .i64 S.dr] 29)).alloc (.cells #[.string x.k, .int .i64 x.l, .int .i64 x.c, .int .i64 x.d] 71)).alloc (.cells #[.string ⟨#[]⟩, .int .i64 0, .int .i64 0, .int .i64 0] 71)) (w.heap.size + 1 + 1) 71 #[.string ⟨#[]⟩, .int .i64 0, .int .i64 0, .int .i64 0]) := Lib.hid (by
    have := Blk.new ((w.alloc (.cells #[.int .i64 S.b, .int .i64 S.i, .int .i64 S.n, .int .i64 S.t, sl, .int .i64 S.al, .int .i64 S.dr] 29)).alloc (.cells #[.string x.k, .int .i64 x.l, .int .i64 x.c, .int .i64 x.d] 71)) 71 #[.string ⟨#[]⟩, .int .i64 0, .int .i64 0, .int .i64 0]
    simpa using this)
  generalize (((w.alloc (.cells #[.int .i64 S.b, .int .i64 S.i, .int .i64 S.n, .int .i64 S.t, sl, .int .i64 S.al, .int .i64 S.dr] 29)).alloc (.cells #[.string x.k, .int .i64 x.l, .int .i64 x.c, .int .i64 x.d] 71)).alloc (.cells #[.string ⟨#[]⟩, .int .i64 0, .int .i64 0, .int .i64 0] 71)) = W at *
  obtain ⟨p, hp⟩ : ∃ p, w.heap.size = p := ⟨_, rfl⟩
  have HP := Lib.hid hp
  rw [hp] at HX HY HZ HB ⊢
  clear hp
  obtain ⟨x0, x1, x2, x3, x4, x5, x6⟩ := HX.out.cells7
  obtain ⟨y0, y1, y2, y3⟩ := HY.out.cells4
  have f1 := HY.out.frozen 1
  have f2 := HY.out.frozen 2
  have HY2 : Hid (Blk ((W.setCell ⟨p + 1, 1, none⟩ (.int .i64 y.l)).setCell ⟨p + 1, 2, none⟩ (.int .i64 (x.c + (t - x.c).tdiv S.i * S.i))) (p + 1) 71 #[.string x.k, .int .i64 y.l, .int .i64 (x.c + (t - x.c).tdiv S.i * S.i), .int .i64 x.d]) := Lib.hid (by simpa using (HY.out.set 1 (.int .i64 y.l)).set 2 (.int .i64 (x.c + (t - x.c).tdiv S.i * S.i)))
  have HX2 := Lib.hid ((HX.out.far (p := ⟨p + 1, 1, none⟩) (by simp) (.int .i64 y.l)).far (p := ⟨p + 1, 2, none⟩) (by simp) (.int .i64 (x.c + (t - x.c).tdiv S.i * S.i)))
  have HZ2 := Lib.hid ((HZ.out.far (p := ⟨p + 1, 1, none⟩) (by simp) (.int .i64 y.l)).far (p := ⟨p + 1, 2, none⟩) (by simp) (.int .i64 (x.c + (t - x.c).tdiv S.i * S.i)))
  have HB2 : Hid (Below p w ((W.setCell ⟨p + 1, 1, none⟩ (.int .i64 y.l)).setCell ⟨p + 1, 2, none⟩ (.int .i64 (x.c + (t - x.c).tdiv S.i * S.i)))) := Lib.hid ((HB.out.setCell (p := ⟨p + 1, 1, none⟩) (Nat.le_succ _) _).setCell (p := ⟨p + 1, 2, none⟩) (Nat.le_succ _) _)
  clear HY HX HZ HB
  go_upto_region 4 with fail
  clear x0 x1 x2 x3 x4 x5 x6 y0 y1 y2 y3 f1 f2
  generalize (W.setCell ⟨p + 1, 1, none⟩ (.int .i64 y.l)).setCell ⟨p + 1, 2, none⟩ (.int .i64 (x.c + (t - x.c).tdiv S.i * S.i)) = W2 at *
  have x0 : W2.cell? ⟨p, 0, none⟩ = some (.int .i64 S.b) := HX2.out.cell 0
  obtain ⟨y0, y1, y2, y3⟩ := HY2.out.cells4
  have f2 := HY2.out.frozen 2
  by_cases hfull : y.l = S.b
  · have HYC : Hid (y.c = t) := Lib.hid (HCC.out t hfull rfl)
    have HY3 : Hid (Blk (W2.setCell ⟨p + 1, 2, none⟩ (.int .i64 t)) (p + 1) 71 #[.string x.k, .int .i64 y.l, .int .i64 t, .int .i64 x.d]) := Lib.hid (by simpa using HY2.out.set 2 (.int .i64 t))
    have HZ3 := Lib.hid (HZ2.out.far (p := ⟨p + 1, 2, none⟩) (by simp) (.int .i64 t))
    have HB3 := Lib.hid (HB2.out.setCell (p := ⟨p + 1, 2, none⟩) (Nat.le_succ _) (.int .i64 t))
    go_upto_region 6 with fail
    clear x0 y0 y1 y2 y3 f2 hfull
    generalize W2.setCell ⟨p + 1, 2, none⟩ (.int .i64 t) = W3 at *
    obtain ⟨y0, y1, y2, y3⟩ := HY3.out.cells4
    have HZ4 := Lib.hid (HZ3.out.set4 (.string x.k) (.int .i64 y.l) (.int .i64 t) (.int .i64 x.d))
    have HB4 := Lib.hid (below_set4 HB3.out (show p ≤ p + 1 + 1 by omega) (.string x.k) (.int .i64 y.l) (.int .i64 t) (.int .i64 x.d))
    obtain ⟨z0, z1, z2, z3⟩ := HZ3.out.cells4
    have k0 := HZ3.out.frozen 0
    have k1 := HZ3.out.frozen 1
    have k2 := HZ3.out.frozen 2
    have k3 := HZ3.out.frozen 3
    go_wp2_with fail
    clear y0 y1 y2 y3 z0 z1 z2 z3 k0 k1 k2 k3
    obtain ⟨r0, r1, r2, r3⟩ := HZ4.out.cells4
    rw [HYC.out]
    refine bodyPost_ret (v := .agg #[.string x.k, .int .i64 y.l, .int .i64 t, .int .i64 x.d]) (by simp [results, Try.results38, go_sem, r0, r1, r2, r3]) rfl ⟨rfl, by rw [HP.out]; exact HB4.out⟩
  · have HYC : Hid (y.c = x.c + (t - x.c).tdiv S.i * S.i) := Lib.hid (HCD.out hfull)
    go_upto_region 6 with fail
    have HZ4 := Lib.hid (HZ2.out.set4 (.string x.k) (.int .i64 y.l) (.int .i64 (x.c + (t - x.c).tdiv S.i * S.i)) (.int .i64 x.d))
    have HB4 := Lib.hid (below_set4 HB2.out (show p ≤ p + 1 + 1 by omega) (.string x.k) (.int .i64 y.l) (.int .i64 (x.c + (t - x.c).tdiv S.i * S.i)) (.int .i64 x.d))
    obtain ⟨z0, z1, z2, z3⟩ := HZ2.out.cells4
    have k0 := HZ2.out.frozen 0
    have k1 := HZ2.out.frozen 1
    have k2 := HZ2.out.frozen 2
    have k3 := HZ2.out.frozen 3
    go_wp2_with fail
    clear y0 y1 y2 y3 z0 z1 z2 z3 k0 k1 k2 k3
    obtain ⟨r0, r1, r2, r3⟩ := HZ4.out.cells4
    rw [HYC.out]
    refine bodyPost_ret (v := .agg #[.string x.k, .int .i64 y.l, .int .i64 (x.c + (t - x.c).tdiv S.i * S.i), .int .i64 x.d]) (by simp [results, Try.results38, go_sem, r0, r1, r2, r3]) rfl ⟨rfl, by rw [HP.out]; exact HB4.out⟩
end
end Go.Proofs.Ytcainohglmgdpaa
