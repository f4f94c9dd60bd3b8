/- An event that is not permitted, and one that is. -/
import Derived.Test.YtcainohglmgdpaaRag
namespace Go.Proofs.Ytcainohglmgdpaa
open Go.RowKit Go.Maps Go.WideElems Go.WideMaps Go.WideShapes
@[go_sem] theorem fldB0 (a b c : Value) (w : World) : (Instr.field 61 (.agg #[a, b, c]) 0).run Try.prog w = .ok a w := by kernel_rfl
@[go_sem] theorem fldB2 (a b c : Value) (w : World) : (Instr.field 61 (.agg #[a, b, c]) 2).run Try.prog w = .ok c w := by kernel_rfl
section
variable {w w' : World} {g m : Nat} {S : RS} {L : List Bk} {F : Nat → Prop} {e : Int}
set_option maxRecDepth 100000 in
theorem dropped_c (h : Lim w g m S) {s : ByteArray} (hs : s.size ≤ maxLen) : Calls Try.prog 18 #[.pointer (some ⟨g, 0, none⟩), .string s] w fun e w' => e = .returned (.int .i64 (droppedR S s)) ∧ w' = w := by
  have HM := Lib.hid (made_c h)
  obtain ⟨c0, c1, c2, c3, c4, c5, c6, c7⟩ := h.cells
  have hl := h.mp.look1 hs
  have HD : droppedR S s = (getB (findB S.L s)).d := by unfold droppedR; cases findB S.L s <;> rfl
  rw [HD]
  clear h HD
  generalize getB (findB S.L s) = y at *
  unfold bV at hl
  go_enter Try.func18, Try.ntmps18
  go_wp2_with (go_at_call 27; refine HM.out.mono ?_; rintro e w1 ⟨rfl, rfl⟩)
  go_ret
  exact ⟨rfl, rfl⟩
/-- the last cell of a limiter -/
theorem lim_dr (h : Blk w g 47 (limC g m S)) (z : Int) : Blk (w.setCell ⟨g, 7, none⟩ (.int .i64 z)) g 47 (limC g m { S with dr := z }) := by simpa [limC] using h.set 7 (.int .i64 z)
theorem lim_al (h : Blk w g 47 (limC g m S)) (z : Int) : Blk (w.setCell ⟨g, 6, none⟩ (.int .i64 z)) g 47 (limC g m { S with al := z }) := by simpa [limC] using h.set 6 (.int .i64 z)
theorem lim_t (h : Blk w g 47 (limC g m S)) (z : Int) : Blk (w.setCell ⟨g, 4, none⟩ (.int .i64 z)) g 47 (limC g m { S with t := z }) := by simpa [limC] using h.set 4 (.int .i64 z)
theorem limC_L (S : RS) (L : List Bk) : limC g m { S with L := L } = limC g m S := rfl
/-- the blocks of a limiter -/
def Fl (g m : Nat) (k : Nat) : Prop := k = g ∨ k = m
set_option maxRecDepth 100000 in
set_option maxHeartbeats 4000000 in
theorem drop_out {s : ByteArray} (h : Lim w g m S) (hS : S.Ok e) (he : e ≤ 1000000) (hs : s.size ≤ maxLen) (hf : findB S.L s = none) :
    Calls Try.prog 31 #[.pointer (some ⟨g, 0, none⟩), .string s] w fun r w' => r = .returned (.tuple #[]) ∧ Lim w' g m (dropR S s) ∧ Apart (Fl g m) w w' := by
  obtain ⟨c0, c1, c2, c3, c4, c5, c6, c7⟩ := h.cells
  have hl := h.mp.look hs
  have hr0 := hS.r0
  have hr1 := hS.r1
  have HD : dropR S s = { S with dr := S.dr + 1 } := by unfold dropR; rw [hf]
  rw [HD]
  rw [hasB_of_none hf] at hl
  clear HD hf hS
  generalize getB (findB S.L s) = y at *
  unfold bV at hl
  have HC := Lib.hid h
  clear h
  go_enter Try.func31, Try.ntmps31
  go_upto_region 4 with fail
  clear c0 c1 c2 c3 c4 c5 c6 c7
  have HB : Hid (Below w.heap.size w (w.alloc (.cells #[.int .i64 y.l, .int .i64 y.c, .int .i64 y.d] 61))) := Lib.hid ((Below.refl _ _).alloc (Nat.le_refl _) _)
  have HL := Lib.hid (HC.out.keep HB.out)
  generalize w.alloc (.cells #[.int .i64 y.l, .int .i64 y.c, .int .i64 y.d] 61) = W at *
  obtain ⟨c0, c1, c2, c3, c4, c5, c6, c7⟩ := HL.out.cells
  have f7 := HL.out.blk.frozen 7
  have hw : IntKind.i64.wrap (S.dr + 1) = S.dr + 1 := IntWalk.i64_in _ (by omega)
  have HL2 := Lib.hid (lim_dr HL.out.blk (S.dr + 1))
  have HA : Hid (Apart (fun k => k = g) W (W.setCell ⟨g, 7, none⟩ (.int .i64 (S.dr + 1)))) := Lib.hid (Apart.setCell (F := fun k => k = g) (p := ⟨g, 7, none⟩) Apart.refl (.inl rfl) _)
  have HP := Lib.hid (HL.out.mp.apart HA.out (fun e => HL.out.ne e.symm))
  go_wp2_with fail
  exact bodyPost_end (v := .tuple #[]) (by simp [results, Try.results31, go_sem]) rfl ⟨rfl, ⟨HL2.out, HP.out⟩, (Apart.of HB.out).trans HA.out (fun k hk => .inl (.inl hk))⟩
set_option maxRecDepth 100000 in
set_option maxHeartbeats 4000000 in
theorem drop_in {s : ByteArray} {x : Bk} (h : Lim w g m S) (hS : S.Ok e) (he : e ≤ 1000000) (hs : s.size ≤ maxLen) (hf : findB S.L s = some x) :
    Calls Try.prog 31 #[.pointer (some ⟨g, 0, none⟩), .string s] w fun r w' => r = .returned (.tuple #[]) ∧ Lim w' g m (dropR S s) ∧ Apart (Fl g m) w w' := by
  obtain ⟨c0, c1, c2, c3, c4, c5, c6, c7⟩ := h.cells
  have hl := h.mp.look hs
  have hr0 := hS.r0
  have hr1 := hS.r1
  have hx := findB_mem hf
  have hd0 := (hS.bk x hx.1).d0
  have hd1 := (hS.bk x hx.1).d1
  have HD : dropR S s = { S with L := putB { x with d := x.d + 1 } S.L, dr := S.dr + 1 } := by unfold dropR; rw [hf]
  rw [HD]
  rw [hasB_of_find hf, hf] at hl
  have HST := Lib.hid hS.st
  have HK := Lib.hid hx.2
  have HN : Hid (S.L.length ≤ 1024) := Lib.hid (by have h1 := hS.len; have h2 := hS.n1; omega)
  have HSZ := Lib.hid hs
  replace hl : _ = Result.ok (Value.tuple #[bV x, .bool true]) w := hl
  clear HD hf hS hx hs
  unfold bV at hl
  have HC := Lib.hid h
  clear h
  go_enter Try.func31, Try.ntmps31
  go_upto_region 2 with fail
  clear c0 c1 c2 c3 c4 c5 c6 c7
  have HB : Hid (Below w.heap.size w (w.alloc (.cells #[.int .i64 x.l, .int .i64 x.c, .int .i64 x.d] 61))) := Lib.hid ((Below.refl _ _).alloc (Nat.le_refl _) _)
  have HX : Hid (Blk (w.alloc (.cells #[.int .i64 x.l, .int .i64 x.c, .int .i64 x.d] 61)) w.heap.size 61 #[.int .i64 x.l, .int .i64 x.c, .int .i64 x.d]) := Lib.hid (Blk.new w _ _)
  have HL := Lib.hid (HC.out.keep HB.out)
  generalize w.alloc (.cells #[.int .i64 x.l, .int .i64 x.c, .int .i64 x.d] 61) = W at *
  generalize hp : w.heap.size = p at *
  have hw : IntKind.i64.wrap (S.dr + 1) = S.dr + 1 := IntWalk.i64_in _ (by omega)
  have hw2 : IntKind.i64.wrap (x.d + 1) = x.d + 1 := IntWalk.i64_in _ (by omega)
  have HGN : Hid (g ≠ p) := Lib.hid (HL.out.blk.ne HX.out (by decide))
  have HMN : Hid (m ≠ p) := Lib.hid (by obtain ⟨D, h2, _⟩ := HL.out.mp; exact (HX.out.ne_map h2).symm)
  obtain ⟨x0, x1, x2, g0, g1, g2⟩ := HX.out.cells3
  have HX1 : Hid (Blk (W.setCell ⟨p, 2, none⟩ (.int .i64 (x.d + 1))) p 61 #[.int .i64 x.l, .int .i64 x.c, .int .i64 (x.d + 1)]) := Lib.hid (by simpa using HX.out.set 2 (.int .i64 (x.d + 1)))
  have HL1 : Hid (Lim (W.setCell ⟨p, 2, none⟩ (.int .i64 (x.d + 1))) g m S) := Lib.hid (HL.out.apart (F := fun k => k = p) (Apart.setCell (F := fun k => k = p) (p := ⟨p, 2, none⟩) Apart.refl (.inl rfl) _) HGN.out HMN.out)
  have HB1 : Hid (Below p w (W.setCell ⟨p, 2, none⟩ (.int .i64 (x.d + 1)))) := Lib.hid (HB.out.setCell (p := ⟨p, 2, none⟩) (Nat.le_refl _) _)
  clear HX HL HB
  go_upto_region 3 with fail
  clear x0 x1 x2 g0 g1 g2
  generalize W.setCell ⟨p, 2, none⟩ (.int .i64 (x.d + 1)) = W1 at *
  refine wp_region_kt 6 (by kernel_rfl) (by kernel_rfl) ?_
  simp only [List.take_succ_cons, List.take_zero, List.drop_succ_cons, List.drop_zero]
  repeat (first
    | go_big_quiet_skip
    | (go_big_quiet_want
       first
         | (go_big_quiet_op
            first
              | go_big_quiet_on
              | (apply Exists.intro
                 refine ⟨fun w1 hC => ?_, ?_⟩
                 · first
                     | (obtain ⟨x0, x1, x2, g0, g1, g2⟩ := (HX1.out.keep hC).cells3; go_simp; first | exact rfl | exact ⟨rfl, rfl⟩)
                     | (obtain ⟨c0, c1, c2, c3, c4, c5, c6, c7⟩ := (HL1.out.keep hC).cells; go_simp; first | exact rfl | exact ⟨rfl, rfl⟩)
                     | exact rfl
                     | (go_simp; exact ⟨rfl, rfl⟩)
                 go_big_quiet_on))))
  refine wpQuiet_nil ?_
  intro W2 hC2
  have HL2 := Lib.hid (HL1.out.keep hC2)
  have HB2 := Lib.hid (HB1.out.trans (Below.mono hC2 (by have := HB1.out.size; omega)))
  clear HL1 HX1 HB1 hC2
  obtain ⟨D, hm, hD⟩ := HL2.out.mp
  refine wpList_mapUpdate_in _ rfl _ _ _ 45 rfl 9 61 keyedS Try.underlying45 Rid m S.L.length D rfl hm (by have := HN.out; unfold maxLen; omega) _ _ (keyS s) rfl rfl (keyOfS HSZ.out) _ _ rfl ?_
  intro w5 hm5 ht5
  have HP5 : Hid (Mp w5 m (putB { x with d := x.d + 1 } S.L)) := Lib.hid (Mp.of hm5 (by
    have := hD.put HST.out { x with d := x.d + 1 }
    have e : keyS ({ x with d := x.d + 1 } : Bk).k = keyS s := congrArg keyS HK.out
    rw [e] at this
    exact this))
  have HA5 : Hid (Apart (fun k => k = m) W2 w5) := Lib.hid (Apart.refl.grown ht5.grown (fun k e => .inl (by simpa using e.symm)))
  have HC5 := Lib.hid (HA5.out.blk HL2.out.blk HL2.out.ne)
  clear hm hD hm5 ht5
  have f7 := HC5.out.frozen 7
  obtain ⟨c0, c1, c2, c3, c4, c5, c6, c7⟩ := HC5.out.cells8
  have HL6 := Lib.hid (lim_dr HC5.out (S.dr + 1))
  have HA6 : Hid (Apart (fun k => k = g) w5 (w5.setCell ⟨g, 7, none⟩ (.int .i64 (S.dr + 1)))) := Lib.hid (Apart.setCell (F := fun k => k = g) (p := ⟨g, 7, none⟩) Apart.refl (.inl rfl) _)
  have HP6 := Lib.hid (HP5.out.apart HA6.out (fun e => HL2.out.ne e.symm))
  go_wp2_with fail
  refine bodyPost_end (v := .tuple #[]) (by simp [results, Try.results31, go_sem]) rfl ⟨rfl, ⟨HL6.out, HP6.out⟩, ?_⟩
  exact ((Apart.of (by rw [hp]; exact HB2.out)).trans HA5.out (fun k hk => .inl (.inr hk))).trans HA6.out (fun k hk => .inl (.inl hk))
theorem drop_c {s : ByteArray} (h : Lim w g m S) (hS : S.Ok e) (he : e ≤ 1000000) (hs : s.size ≤ maxLen) :
    Calls Try.prog 31 #[.pointer (some ⟨g, 0, none⟩), .string s] w fun r w' => r = .returned (.tuple #[]) ∧ Lim w' g m (dropR S s) ∧ Apart (Fl g m) w w' := by
  cases hf : findB S.L s with
  | none => exact drop_out h hS he hs hf
  | some x => exact drop_in h hS he hs hf
end
end Go.Proofs.Ytcainohglmgdpaa
