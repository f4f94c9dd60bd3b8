/- A limiter in memory: what is read of it; buckets that are filled. -/
import Derived.Test.YtcainohglmgdpaaRac
import Derived.Test.YtcainohglmgdpaaRaf
import Derived.Test.YtcainohglmgdpaaQt
import Derived.Test.YtcainohglmgdpaaPhh
namespace Go.Proofs.Ytcainohglmgdpaa
open Go.RowKit Go.Maps Go.WideElems Go.WideMaps Go.WideShapes
theorem Try.own : ownKnob Try.prog.godebug = none := by kernel_rfl
theorem Try.laidOut : laidOutB Try.prog = true := by kernel_rfl
theorem keyedS : Keyed Try.prog 9 := string_keyed Try.underlying9
theorem keyOfS {s : ByteArray} (h : s.size ≤ maxLen) : keyOf Try.prog 9 (.string s) = some (keyS s) := keyOf_string_mk Try.underlying9 h
section
variable {w : World}
theorem Blk.cells8 {g : Nat} {t : TypeId} {a0 a1 a2 a3 a4 a5 a6 a7 : Value} (h : Blk w g t #[a0, a1, a2, a3, a4, a5, a6, a7]) :
    w.cell? ⟨g, 0, none⟩ = some a0 ∧ w.cell? ⟨g, 1, none⟩ = some a1 ∧ w.cell? ⟨g, 2, none⟩ = some a2 ∧ w.cell? ⟨g, 3, none⟩ = some a3 ∧ w.cell? ⟨g, 4, none⟩ = some a4 ∧ w.cell? ⟨g, 5, none⟩ = some a5 ∧ w.cell? ⟨g, 6, none⟩ = some a6 ∧ w.cell? ⟨g, 7, none⟩ = some a7 :=
  ⟨h.cell 0, h.cell 1, h.cell 2, h.cell 3, h.cell 4, h.cell 5, h.cell 6, h.cell 7⟩
theorem Blk.cells3 {g : Nat} {t : TypeId} {a0 a1 a2 : Value} (h : Blk w g t #[a0, a1, a2]) :
    w.cell? ⟨g, 0, none⟩ = some a0 ∧ w.cell? ⟨g, 1, none⟩ = some a1 ∧ w.cell? ⟨g, 2, none⟩ = some a2 ∧ w.frozen? ⟨g, 0, none⟩ = false ∧ w.frozen? ⟨g, 1, none⟩ = false ∧ w.frozen? ⟨g, 2, none⟩ = false :=
  ⟨h.cell 0, h.cell 1, h.cell 2, h.frozen 0, h.frozen 1, h.frozen 2⟩
theorem Blk.set3 {g : Nat} {t : TypeId} {a0 a1 a2 : Value} (h : Blk w g t #[a0, a1, a2]) (b0 b1 b2 : Value) :
    Blk (((w.setCell ⟨g, 0, none⟩ b0).setCell ⟨g, 1, none⟩ b1).setCell ⟨g, 2, none⟩ b2) g t #[b0, b1, b2] := by
  simpa using ((h.set 0 b0).set 1 b1).set 2 b2
theorem below_set3 {B : Nat} {w0 w' : World} {g : Nat} (h : Below B w0 w') (hg : B ≤ g) (b0 b1 b2 : Value) :
    Below B w0 (((w'.setCell ⟨g, 0, none⟩ b0).setCell ⟨g, 1, none⟩ b1).setCell ⟨g, 2, none⟩ b2) :=
  ((h.setCell (p := ⟨g, 0, none⟩) hg b0).setCell (p := ⟨g, 1, none⟩) hg b1).setCell (p := ⟨g, 2, none⟩) hg b2
/-- blocks of different types are different -/
theorem Blk.ne {g g' : Nat} {t t' : TypeId} {cs cs' : Array Value} (h : Blk w g t cs) (h' : Blk w g' t' cs') (ht : t ≠ t') : g ≠ g' := by
  rintro rfl
  unfold Blk at h h'
  rw [h] at h'
  simp at h'
  exact ht h'.2
theorem Blk.ne_map {g b n : Nat} {t : TypeId} {cs : Array Value} {P : Program} {k : TypeId} {R : Value → Option (DataW Value × List MemPlace)} {D : DataW Value} (h : Blk w g t cs) (h' : w.ownsMap P k R b n D) : g ≠ b := by
  rintro rfl
  obtain ⟨es, clock, he, _⟩ := h'
  unfold Blk at h
  rw [h] at he
  simp at he
end
/-- block m is the map of L -/
def Mp (w : World) (m : Nat) (L : List Bk) : Prop := ∃ D, w.ownsMap Try.prog 9 Rid m L.length D ∧ MB D L
def limC (g m : Nat) (S : RS) : Array Value := #[.pointer (some ⟨g, 0, none⟩), .int .i64 S.b, .int .i64 S.i, .int .i64 S.n, .int .i64 S.t, .map (some m), .int .i64 S.al, .int .i64 S.dr]
/-- a limiter in memory -/
structure Lim (w : World) (g m : Nat) (S : RS) : Prop where
  blk : Blk w g 47 (limC g m S)
  mp : Mp w m S.L
section
variable {w w' : World} {g m : Nat} {S : RS} {L : List Bk} {F : Nat → Prop}
theorem Mp.of {n : Nat} {D : DataW Value} (h : w.ownsMap Try.prog 9 Rid m n D) (hD : MB D L) : Mp w m L := ⟨D, hD.n ▸ tight h, hD⟩
theorem Mp.lt (h : Mp w m L) : m < w.heap.size := by obtain ⟨D, h, _⟩ := h; exact h.lt
theorem Mp.apart (h : Mp w m L) (hb : Apart F w w') (hn : ¬ F m) : Mp w' m L := by
  obtain ⟨D, h, hD⟩ := h
  exact ⟨D, hb.map h hn, hD⟩
theorem Mp.keep (h : Mp w m L) (hb : Below w.heap.size w w') : Mp w' m L := h.apart (F := fun _ => False) (Apart.of hb) (fun h => h)
theorem Lim.apart (h : Lim w g m S) (hb : Apart F w w') (hg : ¬ F g) (hm : ¬ F m) : Lim w' g m S := ⟨hb.blk h.blk hg, h.mp.apart hb hm⟩
theorem Lim.keep (h : Lim w g m S) (hb : Below w.heap.size w w') : Lim w' g m S := ⟨h.blk.keep hb, h.mp.keep hb⟩
theorem Lim.ne (h : Lim w g m S) : g ≠ m := by obtain ⟨D, h2, _⟩ := h.mp; exact h.blk.ne_map h2
theorem Lim.cells (h : Lim w g m S) :
    w.cell? ⟨g, 0, none⟩ = some (.pointer (some ⟨g, 0, none⟩)) ∧ w.cell? ⟨g, 1, none⟩ = some (.int .i64 S.b) ∧ w.cell? ⟨g, 2, none⟩ = some (.int .i64 S.i) ∧ w.cell? ⟨g, 3, none⟩ = some (.int .i64 S.n) ∧ w.cell? ⟨g, 4, none⟩ = some (.int .i64 S.t) ∧ w.cell? ⟨g, 5, none⟩ = some (.map (some m)) ∧ w.cell? ⟨g, 6, none⟩ = some (.int .i64 S.al) ∧ w.cell? ⟨g, 7, none⟩ = some (.int .i64 S.dr) :=
  h.blk.cells8
theorem zeroB (w : World) : (zeroValue 61).run Try.prog w = .ok (bV zB) w := Try.zeroValue61 w
theorem Mp.look (h : Mp w m L) {s : ByteArray} (hs : s.size ≤ maxLen) : (Instr.lookup 45 (.map (some m)) (.string s) true).run Try.prog w = .ok (.tuple #[bV (getB (findB L s)), .bool (hasB L s)]) w := by
  obtain ⟨D, h, hD⟩ := h
  obtain ⟨v, ps, hrun, hv⟩ := World.ownsMap.look_ok h keyedS Try.underlying45 (zeroB w) (zd := .held (bV zB)) (zp := []) rfl (keyOfS hs)
  simp only [Rid, Option.some.injEq, Prod.mk.injEq] at hv
  rw [hD.get] at hv
  rw [hrun, hD.h]
  have : v = bV (getB (findB L s)) := by simpa using hv.1
  rw [this]
theorem Mp.look1 (h : Mp w m L) {s : ByteArray} (hs : s.size ≤ maxLen) : (Instr.lookup 45 (.map (some m)) (.string s) false).run Try.prog w = .ok (bV (getB (findB L s))) w := by
  obtain ⟨D, h, hD⟩ := h
  obtain ⟨v, ps, hrun, hv⟩ := World.ownsMap.lookup h keyedS Try.underlying45 (zeroB w) (zd := .held (bV zB)) (zp := []) rfl (keyOfS hs)
  simp only [Rid, Option.some.injEq, Prod.mk.injEq] at hv
  rw [hD.get] at hv
  rw [hrun]
  have : v = bV (getB (findB L s)) := by simpa using hv.1
  rw [this]
theorem Mp.len (h : Mp w m L) (ty : TypeId) : (Builtin.len_ #[45] ty #[.map (some m)]).run Try.prog w = .ok (.int .i64 L.length) w := by
  obtain ⟨D, h, hD⟩ := h
  rw [← hD.n]
  exact h.len Try.underlying45 ty
/-! no limiter of New's -/
def Idle (w : World) (v : Value) : Prop := v = .pointer none ∨ ∃ g a1 a2 a3 a4 a5 a6 a7, v = .pointer (some ⟨g, 0, none⟩) ∧ Blk w g 47 #[.pointer none, a1, a2, a3, a4, a5, a6, a7]
theorem Idle.keep {v : Value} (h : Idle w v) (hb : Below w.heap.size w w') : Idle w' v := by
  rcases h with h | ⟨g, a1, a2, a3, a4, a5, a6, a7, h, hB⟩
  · exact .inl h
  · exact .inr ⟨g, a1, a2, a3, a4, a5, a6, a7, h, hB.keep hb⟩
set_option maxRecDepth 100000 in
theorem infoC : ∃ j, Try.prog.info? 47 = some j := Option.isSome_iff_exists.1 (by kernel_rfl)
set_option maxRecDepth 100000 in
theorem eqC (a : Addr) (w : World) : (binOp .eql 25 (.pointer (some a)) (.pointer (some a))).run Try.prog w = .ok (.bool true) w := by
  obtain ⟨j, hj⟩ := infoC
  exact run_eql_ptr_same w a Try.underlying25 hj
set_option maxRecDepth 100000 in
theorem eqCNil (a : Addr) (w : World) : (binOp .eql 25 (.pointer none) (.pointer (some a))).run Try.prog w = .ok (.bool false) w := by
  have h : ∀ d : Nat, (Op.equalIn (d + 1) 25 (.pointer none) (.pointer (some a))).run Try.prog w = .ok false w := fun d => by
    simp [Op.equalIn, run_underlying Try.underlying25, sizeOf, typeInfo]
  simp only [binOp]
  simp [Op.equal, Op.maxDepth, h 9999]
theorem made_c (h : Lim w g m S) : Calls Try.prog 27 #[.pointer (some ⟨g, 0, none⟩)] w fun e w' => e = .returned (.bool true) ∧ w' = w := by
  obtain ⟨c0, _⟩ := h.cells
  clear h
  have hq := fun w => eqC ⟨g, 0, none⟩ w
  go_enter Try.func27, Try.ntmps27
  go_wp2
  go_ret
  exact ⟨rfl, rfl⟩
theorem made_bad {v : Value} (h : Idle w v) : Calls Try.prog 27 #[v] w fun e w' => e = .returned (.bool false) ∧ w' = w := by
  rcases h with rfl | ⟨g, a1, a2, a3, a4, a5, a6, a7, rfl, hB⟩
  · go_enter Try.func27, Try.ntmps27
    go_wp2
    go_ret
    exact ⟨rfl, rfl⟩
  · obtain ⟨c0, _⟩ := hB.cells8
    clear hB
    have hq := fun w => eqCNil ⟨g, 0, none⟩ w
    go_enter Try.func27, Try.ntmps27
    go_wp2
    go_ret
    exact ⟨rfl, rfl⟩
theorem within_c (n k : Int) (w : World) : Calls Try.prog 20 #[.int .i64 n, .int .i64 k] w fun e w' => e = .returned (.bool (decide (1 ≤ n) && decide (n ≤ k))) ∧ w' = w := by
  go_enter Try.func20, Try.ntmps20
  go_wp2
  all_goals (go_ret; refine ⟨?_, rfl⟩; first | (simp_all; done) | (simp_all; omega))
theorem timeOf_c (h : Lim w g m S) (now : Int) : Calls Try.prog 29 #[.pointer (some ⟨g, 0, none⟩), .int .i64 now] w fun e w' => e = .returned (.int .i64 (timeR S now)) ∧ w' = w := by
  obtain ⟨c0, c1, c2, c3, c4, c5, c6, c7⟩ := h.cells
  clear h
  unfold timeR
  go_enter Try.func29, Try.ntmps29
  go_wp2
  all_goals
    go_ret
    refine ⟨?_, rfl⟩
    show Ending.returned (.int .i64 _) = Ending.returned (.int .i64 _)
    congr 2
    omega
set_option maxRecDepth 100000 in
set_option maxHeartbeats 4000000 in
theorem filled_c {x : Bk} {t t0 e : Int} (h : Lim w g m S) (hS : S.Ok e) (hx : x.Ok S.b t0 e) (ht : t0 ≤ t) (ht2 : t ≤ 1125899906842624) :
    Calls Try.prog 41 #[.pointer (some ⟨g, 0, none⟩), bV x, .int .i64 t] w fun e w' => e = .returned (bV (fillB S.b S.i x t)) ∧ Below w.heap.size w w' := by
  have hc1 := hx.c1
  have hc0 := hx.c0
  have hl0 := hx.l0
  have hl1 := hx.l1
  have hb1 := hS.b1
  have hi0 := hS.i0
  obtain ⟨d0, d1, d2, d3⟩ := div_facts (a := t - x.c) (i := S.i) (by omega) hi0
  generalize hF : fillB S.b S.i x t = y
  have HF := Lib.hid hF
  clear hF
  unfold bV
  have HC := Lib.hid h
  clear h
  go_enter Try.func41, Try.ntmps41
  go_upto_region 1 with fail
  have HB : Hid (Below w.heap.size w ((w.alloc (.cells #[.int .i64 x.l, .int .i64 x.c, .int .i64 x.d] 61)).alloc (.cells #[.int .i64 0, .int .i64 0, .int .i64 0] 61))) := Lib.hid (((Below.refl _ _).alloc (Nat.le_refl _) _).alloc (by simp) _)
  have HX : Hid (Blk ((w.alloc (.cells #[.int .i64 x.l, .int .i64 x.c, .int .i64 x.d] 61)).alloc (.cells #[.int .i64 0, .int .i64 0, .int .i64 0] 61)) w.heap.size 61 #[.int .i64 x.l, .int .i64 x.c, .int .i64 x.d]) := Lib.hid ((Blk.new w _ _).alloc _)
  have HZ : Hid (Blk ((w.alloc (.cells #[.int .i64 x.l, .int .i64 x.c, .int .i64 x.d] 61)).alloc (.cells #[.int .i64 0, .int .i64 0, .int .i64 0] 61)) (w.heap.size + 1) 61 #[.int .i64 0, .int .i64 0, .int .i64 0]) := Lib.hid (by
    have := Blk.new (w.alloc (.cells #[.int .i64 x.l, .int .i64 x.c, .int .i64 x.d] 61)) 61 #[.int .i64 0, .int .i64 0, .int .i64 0]
    simpa using this)
  have HL := Lib.hid (HC.out.keep HB.out)
  generalize (w.alloc (.cells #[.int .i64 x.l, .int .i64 x.c, .int .i64 x.d] 61)).alloc (.cells #[.int .i64 0, .int .i64 0, .int .i64 0] 61) = W at *
  generalize hp : w.heap.size = p at *
  have hw1 : IntKind.i64.wrap (t - x.c) = t - x.c := IntWalk.i64_in _ (by omega)
  have hw2 : IntKind.i64.wrap ((t - x.c).tdiv S.i) = (t - x.c).tdiv S.i := IntWalk.i64_in _ (by omega)
  have hw3 : IntKind.i64.wrap (x.l + (t - x.c).tdiv S.i) = x.l + (t - x.c).tdiv S.i := IntWalk.i64_in _ (by omega)
  have hw4 : IntKind.i64.wrap ((t - x.c).tdiv S.i * S.i) = (t - x.c).tdiv S.i * S.i := IntWalk.i64_in _ (by omega)
  have hw5 : IntKind.i64.wrap (x.c + (t - x.c).tdiv S.i * S.i) = x.c + (t - x.c).tdiv S.i * S.i := IntWalk.i64_in _ (by omega)
  have hi1 : (S.i = 0) = False := eq_false (by omega)
  clear hS hx hc1 hc0 hl0 hl1 hb1 hi0 d0 d1 d2 d3 ht ht2 HC
  refine wp_region_kp (by kernel_rfl) (by kernel_rfl) ?_
  repeat (first
    | go_big_quiet_skip
    | (go_big_quiet_want
       first
         | (go_big_quiet_op
            first
              | go_big_quiet_on
              | (apply Exists.intro
                 refine ⟨fun w1 hC => ?_, ?_⟩
                 · first
                     | (obtain ⟨x0, x1, x2, g0, g1, g2⟩ := (HX.out.keep hC).cells3; go_simp; first | exact rfl | exact ⟨rfl, rfl⟩)
                     | (obtain ⟨c0, c1, c2, c3, c4, c5, c6, c7⟩ := (HL.out.keep hC).cells; go_simp; first | exact rfl | exact ⟨rfl, rfl⟩)
                     | exact rfl
                     | (go_simp; exact ⟨rfl, rfl⟩)
                 go_big_quiet_on))))
  refine wpQuiet_nil ?_
  intro W1 hC1
  have HX1 := Lib.hid (HX.out.keep hC1)
  have HZ1 := Lib.hid (HZ.out.keep hC1)
  have HL1 := Lib.hid (HL.out.keep hC1)
  have HB1 := Lib.hid (HB.out.trans (hC1.mono (by have := HB.out.size; omega)))
  clear HX HZ HL HB hC1
  go_upto_region 2 with fail
  refine wp_region_kp (by kernel_rfl) (by kernel_rfl) ?_
  repeat (first
    | go_big_quiet_skip
    | (go_big_quiet_want
       first
         | (go_big_quiet_op
            first
              | go_big_quiet_on
              | (apply Exists.intro
                 refine ⟨fun w1 hC => ?_, ?_⟩
                 · first
                     | (obtain ⟨x0, x1, x2, g0, g1, g2⟩ := (HX1.out.keep hC).cells3; go_simp; first | exact rfl | exact ⟨rfl, rfl⟩)
                     | (obtain ⟨c0, c1, c2, c3, c4, c5, c6, c7⟩ := (HL1.out.keep hC).cells; go_simp; first | exact rfl | exact ⟨rfl, rfl⟩)
                     | exact rfl
                     | (go_simp; exact ⟨rfl, rfl⟩)
                 go_big_quiet_on))))
  refine wpQuiet_nil ?_
  intro W2 hC1
  have HX2 := Lib.hid (HX1.out.keep hC1)
  have HZ2 := Lib.hid (HZ1.out.keep hC1)
  have HL2 := Lib.hid (HL1.out.keep hC1)
  have HB2 := Lib.hid (HB1.out.trans (hC1.mono (by have := HB1.out.size; omega)))
  clear HX1 HZ1 HL1 HB1 hC1
  by_cases hfull : S.b ≤ x.l + (t - x.c).tdiv S.i
  · obtain rfl : y = ⟨x.k, S.b, t, x.d⟩ := by rw [← HF.out]; unfold fillB; rw [if_pos hfull]
    obtain ⟨c0, c1, c2, c3, c4, c5, c6, c7⟩ := HL2.out.cells
    obtain ⟨x0, x1, x2, g0, g1, g2⟩ := HX2.out.cells3
    go_upto_region 4 with fail
    clear x0 x1 x2 g0 g1 g2
    have HX3 : Blk ((W2.setCell ⟨p, 0, none⟩ (.int .i64 S.b)).setCell ⟨p, 1, none⟩ (.int .i64 t)) p 61 #[.int .i64 S.b, .int .i64 t, .int .i64 x.d] := by simpa using (HX2.out.set 0 (.int .i64 S.b)).set 1 (.int .i64 t)
    have HZ3 := (HZ2.out.far (p := ⟨p, 0, none⟩) (by simp) (.int .i64 S.b)).far (p := ⟨p, 1, none⟩) (by simp) (.int .i64 t)
    have HB3 := (HB2.out.setCell (p := ⟨p, 0, none⟩) (Nat.le_refl _) (.int .i64 S.b)).setCell (p := ⟨p, 1, none⟩) (Nat.le_refl _) (.int .i64 t)
    have HX4 := Lib.hid HX3
    have HZ4 := Lib.hid HZ3
    have HB4 := Lib.hid HB3
    clear HX3 HZ3 HB3 HX2 HZ2 HB2
    generalize (W2.setCell ⟨p, 0, none⟩ (.int .i64 S.b)).setCell ⟨p, 1, none⟩ (.int .i64 t) = W4 at *
    obtain ⟨x0, x1, x2, g0, g1, g2⟩ := HX4.out.cells3
    obtain ⟨z0, z1, z2, k0, k1, k2⟩ := HZ4.out.cells3
    have HZ5 := Lib.hid (HZ4.out.set3 (.int .i64 S.b) (.int .i64 t) (.int .i64 x.d))
    have HB5 := Lib.hid (below_set3 HB4.out (show p ≤ p + 1 by omega) (.int .i64 S.b) (.int .i64 t) (.int .i64 x.d))
    go_wp2_with fail
    clear x0 x1 x2 g0 g1 g2 z0 z1 z2 k0 k1 k2
    obtain ⟨r0, r1, r2, _⟩ := HZ5.out.cells3
    refine bodyPost_ret (v := .agg #[.int .i64 S.b, .int .i64 t, .int .i64 x.d]) (by simp [results, Try.results41, go_sem, r0, r1, r2]) rfl ⟨rfl, HB5.out⟩
  · obtain rfl : y = ⟨x.k, x.l + (t - x.c).tdiv S.i, x.c + (t - x.c).tdiv S.i * S.i, x.d⟩ := by rw [← HF.out]; unfold fillB; rw [if_neg hfull]
    obtain ⟨x0, x1, x2, g0, g1, g2⟩ := HX2.out.cells3
    go_upto_region 6 with fail
    clear x0 x1 x2 g0 g1 g2
    have HX3 : Blk (W2.setCell ⟨p, 0, none⟩ (.int .i64 (x.l + (t - x.c).tdiv S.i))) p 61 #[.int .i64 (x.l + (t - x.c).tdiv S.i), .int .i64 x.c, .int .i64 x.d] := by simpa using HX2.out.set 0 (.int .i64 (x.l + (t - x.c).tdiv S.i))
    have HZ3 := HZ2.out.far (p := ⟨p, 0, none⟩) (by simp) (.int .i64 (x.l + (t - x.c).tdiv S.i))
    have HB3 := HB2.out.setCell (p := ⟨p, 0, none⟩) (Nat.le_refl _) (.int .i64 (x.l + (t - x.c).tdiv S.i))
    have HGN : Hid (g ≠ p) := Lib.hid (HL2.out.blk.ne HX2.out (by decide))
    have HL3 := Lib.hid (HL2.out.blk.far (p := ⟨p, 0, none⟩) HGN.out (.int .i64 (x.l + (t - x.c).tdiv S.i)))
    have HX2 := Lib.hid HX3
    have HZ2 := Lib.hid HZ3
    have HB2 := Lib.hid HB3
    clear HX3 HZ3 HB3
    generalize W2.setCell ⟨p, 0, none⟩ (.int .i64 (x.l + (t - x.c).tdiv S.i)) = W3 at *
    refine wp_region_kt 10 (by kernel_rfl) (by kernel_rfl) ?_
    simp only [List.take_succ_cons, List.take_zero, List.drop_succ_cons, List.drop_zero]
    repeat (first
      | go_big_quiet_skip
      | (go_big_quiet_want
         first
           | (go_big_quiet_op
              first
                | go_big_quiet_on
                | (apply Exists.intro
                   refine ⟨fun w1 hC => ?_, ?_⟩
                   · first
                       | (obtain ⟨x0, x1, x2, g0, g1, g2⟩ := (HX2.out.keep hC).cells3; go_simp; first | exact rfl | exact ⟨rfl, rfl⟩)
                       | (have c2 : w1.cell? ⟨g, 2, none⟩ = some (.int .i64 S.i) := (HL3.out.keep hC).cell 2; go_simp; first | exact rfl | exact ⟨rfl, rfl⟩)
                       | exact rfl
                       | (go_simp; exact ⟨rfl, rfl⟩)
                   go_big_quiet_on))))
    refine wpQuiet_nil ?_
    intro W5 hC5
    have HX6 := Lib.hid (HX2.out.keep hC5)
    have HZ6 := Lib.hid (HZ2.out.keep hC5)
    have HB6 := Lib.hid (HB2.out.trans (hC5.mono (by have := HB2.out.size; omega)))
    clear HX2 HZ2 HB2 hC5
    obtain ⟨x0, x1, x2, g0, g1, g2⟩ := HX6.out.cells3
    go_upto_region 7 with fail
    clear x0 x1 x2 g0 g1 g2
    have HX7 : Blk (W5.setCell ⟨p, 1, none⟩ (.int .i64 (x.c + (t - x.c).tdiv S.i * S.i))) p 61 #[.int .i64 (x.l + (t - x.c).tdiv S.i), .int .i64 (x.c + (t - x.c).tdiv S.i * S.i), .int .i64 x.d] := by simpa using HX6.out.set 1 (.int .i64 (x.c + (t - x.c).tdiv S.i * S.i))
    have HZ7 := HZ6.out.far (p := ⟨p, 1, none⟩) (by simp) (.int .i64 (x.c + (t - x.c).tdiv S.i * S.i))
    have HB7 := HB6.out.setCell (p := ⟨p, 1, none⟩) (Nat.le_refl _) (.int .i64 (x.c + (t - x.c).tdiv S.i * S.i))
    have HX4 := Lib.hid HX7
    have HZ4 := Lib.hid HZ7
    have HB4 := Lib.hid HB7
    clear HX7 HZ7 HB7 HX6 HZ6 HB6
    generalize W5.setCell ⟨p, 1, none⟩ (.int .i64 (x.c + (t - x.c).tdiv S.i * S.i)) = W4 at *
    obtain ⟨x0, x1, x2, g0, g1, g2⟩ := HX4.out.cells3
    obtain ⟨z0, z1, z2, k0, k1, k2⟩ := HZ4.out.cells3
    have HZ5 := Lib.hid (HZ4.out.set3 (.int .i64 (x.l + (t - x.c).tdiv S.i)) (.int .i64 (x.c + (t - x.c).tdiv S.i * S.i)) (.int .i64 x.d))
    have HB5 := Lib.hid (below_set3 HB4.out (show p ≤ p + 1 by omega) (.int .i64 (x.l + (t - x.c).tdiv S.i)) (.int .i64 (x.c + (t - x.c).tdiv S.i * S.i)) (.int .i64 x.d))
    go_wp2_with fail
    clear x0 x1 x2 g0 g1 g2 z0 z1 z2 k0 k1 k2
    obtain ⟨r0, r1, r2, _⟩ := HZ5.out.cells3
    refine bodyPost_ret (v := .agg #[.int .i64 (x.l + (t - x.c).tdiv S.i), .int .i64 (x.c + (t - x.c).tdiv S.i * S.i), .int .i64 x.d]) (by simp [results, Try.results41, go_sem, r0, r1, r2]) rfl ⟨rfl, HB5.out⟩
set_option maxRecDepth 100000 in
theorem full_c {x : Bk} {t t0 e : Int} (h : Lim w g m S) (hS : S.Ok e) (hx : x.Ok S.b t0 e) (ht : t0 ≤ t) (ht2 : t ≤ 1125899906842624) :
    Calls Try.prog 47 #[.pointer (some ⟨g, 0, none⟩), bV x, .int .i64 t] w fun e w' => e = .returned (.bool (fullB S.b S.i x t)) ∧ Below w.heap.size w w' := by
  unfold fullB
  have HC := Lib.hid h
  have HF := Lib.hid fun w' (hb : Below w.heap.size w w') => filled_c (h.keep hb) hS hx ht ht2
  clear h
  generalize fillB S.b S.i x t = y at *
  unfold bV at *
  go_enter Try.func47, Try.ntmps47
  go_upto_region 1 with fail
  have HB : Hid (Below w.heap.size w (w.alloc (.cells #[.int .i64 x.l, .int .i64 x.c, .int .i64 x.d] 61))) := Lib.hid ((Below.refl _ _).alloc (Nat.le_refl _) _)
  have HX : Hid (Blk (w.alloc (.cells #[.int .i64 x.l, .int .i64 x.c, .int .i64 x.d] 61)) w.heap.size 61 #[.int .i64 x.l, .int .i64 x.c, .int .i64 x.d]) := Lib.hid (Blk.new w _ _)
  generalize w.alloc (.cells #[.int .i64 x.l, .int .i64 x.c, .int .i64 x.d] 61) = W at *
  have HL := Lib.hid (HC.out.keep HB.out)
  have HF1 : Hid (∀ w1, Kp W w1 → Calls Try.prog 41 #[.pointer (some ⟨g, 0, none⟩), .agg #[.int .i64 x.l, .int .i64 x.c, .int .i64 x.d], .int .i64 t] w1 fun e w' => e = .returned (.agg #[.int .i64 y.l, .int .i64 y.c, .int .i64 y.d]) ∧ Below w1.heap.size w1 w') := Lib.hid fun w1 hC => HF.out w1 (HB.out.trans (Below.mono hC HB.out.size))
  clear HF
  generalize hp : w.heap.size = p at *
  refine wp_region_kp (by kernel_rfl) (by kernel_rfl) ?_
  repeat (first
    | go_big_quiet_skip
    | (go_big_quiet_want
       first
         | (go_big_quiet_op
            first
              | go_big_quiet_on
              | (apply Exists.intro
                 refine ⟨fun w1 hC => ?_, ?_⟩
                 · first
                     | (exact hC.call (HF1.out w1 hC))
                     | (obtain ⟨x0, x1, x2, g0, g1, g2⟩ := (HX.out.keep hC).cells3; go_simp; first | exact rfl | exact ⟨rfl, rfl⟩)
                     | (obtain ⟨c0, c1, c2, c3, c4, c5, c6, c7⟩ := (HL.out.keep hC).cells; go_simp; first | exact rfl | exact ⟨rfl, rfl⟩)
                     | exact rfl
                     | (go_simp; exact ⟨rfl, rfl⟩)
                 go_big_quiet_on))))
  refine wpQuiet_nil ?_
  intro W1 hC1
  have HB1 := Lib.hid (HB.out.trans (Below.mono hC1 (by have := HB.out.size; omega)))
  clear hC1
  go_wp2_with fail
  go_ret
  exact ⟨rfl, by rw [hp]; exact HB1.out⟩
theorem idle_left {v : Value} (h : Idle w v) (s : ByteArray) (now : Int) : Calls Try.prog 16 #[v, .string s, .int .i64 now] w fun e w' => e = .returned (.int .i64 0) ∧ w' = w := by
  have HM := Lib.hid (made_bad h)
  clear h
  go_enter Try.func16, Try.ntmps16
  go_wp2_with (go_at_call 27; refine HM.out.mono ?_; rintro e w1 ⟨rfl, rfl⟩)
  go_ret
  exact ⟨rfl, rfl⟩
theorem idle_allow {v : Value} (h : Idle w v) (s : ByteArray) (now : Int) : Calls Try.prog 15 #[v, .string s, .int .i64 now] w fun e w' => e = .returned (.bool false) ∧ w' = w := by
  have HM := Lib.hid (made_bad h)
  clear h
  go_enter Try.func15, Try.ntmps15
  go_wp2_with (go_at_call 27; refine HM.out.mono ?_; rintro e w1 ⟨rfl, rfl⟩)
  go_ret
  exact ⟨rfl, rfl⟩
theorem idle_dropped {v : Value} (h : Idle w v) (s : ByteArray) : Calls Try.prog 18 #[v, .string s] w fun e w' => e = .returned (.int .i64 0) ∧ w' = w := by
  have HM := Lib.hid (made_bad h)
  clear h
  go_enter Try.func18, Try.ntmps18
  go_wp2_with (go_at_call 27; refine HM.out.mono ?_; rintro e w1 ⟨rfl, rfl⟩)
  go_ret
  exact ⟨rfl, rfl⟩
theorem idle_total {v : Value} (h : Idle w v) : Calls Try.prog 17 #[v] w fun e w' => e = .returned (.tuple #[.int .i64 0, .int .i64 0]) ∧ w' = w := by
  have HM := Lib.hid (made_bad h)
  clear h
  go_enter Try.func17, Try.ntmps17
  go_wp2_with (go_at_call 27; refine HM.out.mono ?_; rintro e w1 ⟨rfl, rfl⟩)
  go_ret2
  exact ⟨rfl, rfl⟩
theorem idle_keys {v : Value} (h : Idle w v) : Calls Try.prog 19 #[v] w fun e w' => e = .returned (.slice none 0 0) ∧ w' = w := by
  have HM := Lib.hid (made_bad h)
  clear h
  go_enter Try.func19, Try.ntmps19
  go_wp2_with (go_at_call 27; refine HM.out.mono ?_; rintro e w1 ⟨rfl, rfl⟩)
  go_ret
  exact ⟨rfl, rfl⟩
theorem idle_copy {v : Value} (h : Idle w v) : Calls Try.prog 14 #[v] w fun e w' => e = .returned (.pointer none) ∧ w' = w := by
  have HM := Lib.hid (made_bad h)
  clear h
  go_enter Try.func14, Try.ntmps14
  go_wp2_with (go_at_call 27; refine HM.out.mono ?_; rintro e w1 ⟨rfl, rfl⟩)
  go_ret
  exact ⟨rfl, rfl⟩
set_option maxRecDepth 100000 in
theorem total_c (h : Lim w g m S) : Calls Try.prog 17 #[.pointer (some ⟨g, 0, none⟩)] w fun e w' => e = .returned (.tuple #[.int .i64 S.al, .int .i64 S.dr]) ∧ Below w.heap.size w w' := by
  have HM := Lib.hid (made_c h)
  have HC := Lib.hid h
  clear h
  go_enter Try.func17, Try.ntmps17
  go_upto_region 3 with (go_at_call 27; refine HM.out.mono ?_; rintro e w1 ⟨rfl, rfl⟩)
  obtain ⟨c0, c1, c2, c3, c4, c5, c6, c7⟩ := HC.out.cells
  refine wp_region_kp (by kernel_rfl) (by kernel_rfl) ?_
  repeat (first
    | go_big_quiet_skip
    | (go_big_quiet_want
       first
         | (go_big_quiet_op
            first
              | go_big_quiet_on
              | (apply Exists.intro
                 refine ⟨fun w1 hC => ?_, ?_⟩
                 · first
                     | (obtain ⟨c0, c1, c2, c3, c4, c5, c6, c7⟩ := (HC.out.keep hC).cells; go_simp; first | exact rfl | exact ⟨rfl, rfl⟩)
                     | exact rfl
                     | (go_simp; exact ⟨rfl, rfl⟩)
                 go_big_quiet_on))))
  refine wpQuiet_nil ?_
  intro W1 hC1
  have HB1 : Hid (Below w1.heap.size w1 W1) := Lib.hid hC1
  clear hC1
  go_wp2_with fail
  refine bodyPost_ret (v := .tuple #[.int .i64 S.al, .int .i64 S.dr]) (by simp [results, Try.results17, go_sem]) rfl ⟨rfl, HB1.out⟩
end
end Go.Proofs.Ytcainohglmgdpaa
