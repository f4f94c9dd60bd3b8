/- How many events a key may have; an event that is permitted. -/
import Derived.Test.YtcainohglmgdpaaRaj
namespace Go.Proofs.Ytcainohglmgdpaa
open Go.RowKit Go.Maps Go.WideElems Go.WideMaps Go.WideShapes Go.Sort
section
variable {w w' : World} {g m r cnt : Nat} {S : RS} {L : List Bk} {left : Lit → Bool} {F : Nat → Prop} {e : Int}
set_option maxRecDepth 100000 in
set_option maxHeartbeats 8000000 in
theorem left_in {s : ByteArray} {t : Int} {x : Bk} (h : Lim w g m S) (hS : S.Ok e) (ht : S.t ≤ t) (ht2 : t ≤ 1125899906842624) (hs : s.size ≤ maxLen) (hf : findB S.L s = some x) :
    Calls Try.prog 30 #[.pointer (some ⟨g, 0, none⟩), .string s, .int .i64 t] w fun r w' => r = .returned (.int .i64 (leftR S s t)) ∧ Below w.heap.size w w' := by
  obtain ⟨c0, c1, c2, c3, c4, c5, c6, c7⟩ := h.cells
  have hl := h.mp.look hs
  have hx := findB_mem hf
  have HF := Lib.hid fun w1 (h1 : Lim w1 g m S) => filled_c h1 hS (hS.bk x hx.1) ht ht2
  have HD : leftR S s t = (fillB S.b S.i x t).l := by unfold leftR; rw [hf]
  rw [HD]
  rw [hasB_of_find hf, hf] at hl
  replace hl : _ = Result.ok (Value.tuple #[bV x, .bool true]) w := hl
  clear HD hf hS hx hs ht ht2
  generalize fillB S.b S.i x t = y at *
  unfold bV at hl HF
  have HC := Lib.hid h
  clear h
  go_enter Try.func30, Try.ntmps30
  have HB : Hid (Below w.heap.size w (w.alloc (.cells #[.int .i64 x.l, .int .i64 x.c, .int .i64 x.d] 61))) := Lib.hid ((Below.refl _ _).alloc (Nat.le_refl _) _)
  have HX : Hid (Blk (w.alloc (.cells #[.int .i64 x.l, .int .i64 x.c, .int .i64 x.d] 61)) w.heap.size 61 #[.int .i64 x.l, .int .i64 x.c, .int .i64 x.d]) := Lib.hid (Blk.new w _ _)
  have HL := Lib.hid (HC.out.keep HB.out)
  go_upto_region 3 with fail
  clear c0 c1 c2 c3 c4 c5 c6 c7
  generalize w.alloc (.cells #[.int .i64 x.l, .int .i64 x.c, .int .i64 x.d] 61) = W at *
  generalize hp : w.heap.size = p at *
  have HF1 := Lib.hid (HF.out W HL.out)
  obtain ⟨x0, x1, x2, g0, g1, g2⟩ := HX.out.cells3
  go_wp2_with (go_at_call 41; refine HF1.out.mono ?_; rintro e w5 ⟨rfl, hb5⟩; have HB5 := Lib.hid (HB.out.trans (hb5.mono (by have := HB.out.size; omega))); clear hb5)
  go_ret
  exact ⟨rfl, by rw [hp]; exact HB5.out⟩
set_option maxRecDepth 100000 in
set_option maxHeartbeats 8000000 in
theorem left_out {s : ByteArray} {t : Int} (h : Lim w g m S) (hS : S.Ok e) (ht : S.t ≤ t) (ht2 : t ≤ 1125899906842624) (hs : s.size ≤ maxLen) (hf : findB S.L s = none) :
    Calls Try.prog 30 #[.pointer (some ⟨g, 0, none⟩), .string s, .int .i64 t] w fun r w' => r = .returned (.int .i64 (leftR S s t)) ∧ Below w.heap.size w w' := by
  obtain ⟨c0, c1, c2, c3, c4, c5, c6, c7⟩ := h.cells
  have hl := h.mp.look hs
  have HF := Lib.hid fun w1 (h1 : Lim w1 g m S) => hasRoom_c h1 hS ht ht2
  have HD : leftR S s t = if roomR S t then S.b else 0 := by unfold leftR; rw [hf]
  rw [HD]
  generalize hv : (if roomR S t then S.b else 0) = v
  have HV := Lib.hid hv
  rw [hasB_of_none hf, hf] at hl
  replace hl : _ = Result.ok (Value.tuple #[.agg #[.int .i64 0, .int .i64 0, .int .i64 0], .bool false]) w := hl
  clear HD hf hS hs ht ht2 hv
  have HC := Lib.hid h
  clear h
  go_enter Try.func30, Try.ntmps30
  have HB : Hid (Below w.heap.size w (w.alloc (.cells #[.int .i64 0, .int .i64 0, .int .i64 0] 61))) := Lib.hid ((Below.refl _ _).alloc (Nat.le_refl _) _)
  have HL := Lib.hid (HC.out.keep HB.out)
  go_upto_region 4 with fail
  clear c0 c1 c2 c3 c4 c5 c6 c7
  generalize w.alloc (.cells #[.int .i64 0, .int .i64 0, .int .i64 0] 61) = W at *
  have HF1 := Lib.hid (HF.out W HL.out)
  cases hr : roomR S t
  · rw [hr] at HF1
    obtain rfl : v = 0 := by rw [← HV.out, hr]; rfl
    go_wp2_with (go_at_call 42; refine HF1.out.mono ?_; rintro e w5 ⟨rfl, hb5⟩; have HB5 := Lib.hid (HB.out.trans (hb5.mono HB.out.size)); clear hb5)
    go_ret
    exact ⟨rfl, HB5.out⟩
  · rw [hr] at HF1
    obtain rfl : v = S.b := by rw [← HV.out, hr]; rfl
    go_wp2_with (go_at_call 42; refine HF1.out.mono ?_; rintro e w5 ⟨rfl, hb5⟩; have HB5 := Lib.hid (HB.out.trans (hb5.mono HB.out.size)); obtain ⟨c0, c1, c2, c3, c4, c5, c6, c7⟩ := (HL.out.keep hb5).cells; clear hb5)
    go_ret
    exact ⟨rfl, HB5.out⟩
theorem left_c {s : ByteArray} {t : Int} (h : Lim w g m S) (hS : S.Ok e) (ht : S.t ≤ t) (ht2 : t ≤ 1125899906842624) (hs : s.size ≤ maxLen) :
    Calls Try.prog 30 #[.pointer (some ⟨g, 0, none⟩), .string s, .int .i64 t] w fun r w' => r = .returned (.int .i64 (leftR S s t)) ∧ Below w.heap.size w w' := by
  cases hf : findB S.L s with
  | none => exact left_out h hS ht ht2 hs hf
  | some x => exact left_in h hS ht ht2 hs hf
set_option maxRecDepth 100000 in
theorem lLeft_c {s : ByteArray} (now : Int) (h : Lim w g m S) (hS : S.Ok e) (hs : s.size ≤ maxLen) :
    Calls Try.prog 16 #[.pointer (some ⟨g, 0, none⟩), .string s, .int .i64 now] w fun r w' => r = .returned (.int .i64 (leftR S s (timeR S now))) ∧ Below w.heap.size w w' := by
  have HM := Lib.hid (made_c h)
  have HT := Lib.hid (timeOf_c h now)
  have ht := timeR_ok hS now
  have HL := Lib.hid (left_c h hS ht.1 ht.2 hs)
  clear h ht
  go_enter Try.func16, Try.ntmps16
  go_wp2_with (first
    | (go_at_call 27; refine HM.out.mono ?_; rintro e w1 ⟨rfl, rfl⟩)
    | (go_at_call 29; refine HT.out.mono ?_; rintro e w1 ⟨rfl, rfl⟩)
    | (go_at_call 30; refine HL.out.mono ?_; rintro e w1 ⟨rfl, hb⟩; have HB := Lib.hid hb; clear hb))
  go_ret
  exact ⟨rfl, HB.out⟩
set_option maxRecDepth 100000 in
set_option maxHeartbeats 8000000 in
theorem permit_in {s : ByteArray} {x : Bk} (h : Lim w g m S) (hS : S.Ok e) (he : e ≤ 1000000) (hs : s.size ≤ maxLen) (hf : findB S.L s = some x) :
    Calls Try.prog 32 #[.pointer (some ⟨g, 0, none⟩), .string s] w fun r w' => r = .returned (.tuple #[]) ∧ Lim w' g m (permitR S s) ∧ Apart (Fl g m) w w' := by
  obtain ⟨c0, c1, c2, c3, c4, c5, c6, c7⟩ := h.cells
  have hl := h.mp.look hs
  have hx := findB_mem hf
  have HF := Lib.hid fun w1 (h1 : Lim w1 g m S) => filled_c h1 hS (hS.bk x hx.1) (Int.le_refl _) hS.t1
  have HD : permitR S s = takeR S x := by unfold permitR; rw [hf]
  rw [HD]
  rw [hasB_of_find hf, hf] at hl
  replace hl : _ = Result.ok (Value.tuple #[bV x, .bool true]) w := hl
  have HST := Lib.hid hS.st
  have HK := Lib.hid (show (fillB S.b S.i x S.t).k = s from fill_k.trans hx.2)
  have HN : Hid (S.L.length ≤ 1024) := Lib.hid (by have h1 := hS.len; have h2 := hS.n1; omega)
  have HAL : Hid (0 ≤ S.al ∧ S.al ≤ 1000000) := Lib.hid ⟨hS.a0, Int.le_trans hS.a1 he⟩
  have HSZ := Lib.hid hs
  have hF := fill_ok (hS.bk x hx.1) hS.b0 hS.i0 (Int.le_refl _)
  have HY : Hid (0 ≤ (fillB S.b S.i x S.t).l ∧ (fillB S.b S.i x S.t).l ≤ 1000000) := Lib.hid ⟨hF.l0, Int.le_trans hF.l1 hS.b1⟩
  have HR : Hid ({ S with L := putB { fillB S.b S.i x S.t with l := (fillB S.b S.i x S.t).l - 1, d := 0 } S.L, al := S.al + 1 } = takeR S x) := Lib.hid rfl
  generalize fillB S.b S.i x S.t = y at *
  unfold bV at hl HF
  have HC := Lib.hid h
  clear HD hf hS hx hs hF h
  generalize takeR S x = S2 at *
  go_enter Try.func32, Try.ntmps32
  have HX : Hid (Blk (w.alloc (.cells #[.int .i64 x.l, .int .i64 x.c, .int .i64 x.d] 61)) w.heap.size 61 #[.int .i64 x.l, .int .i64 x.c, .int .i64 x.d]) := Lib.hid (Blk.new w _ _)
  have hB : Below w.heap.size w (w.alloc (.cells #[.int .i64 x.l, .int .i64 x.c, .int .i64 x.d] 61)) := (Below.refl _ _).alloc (Nat.le_refl _) _
  have HL := Lib.hid (HC.out.keep hB)
  have HA : Hid (Apart (Fl g m) w (w.alloc (.cells #[.int .i64 x.l, .int .i64 x.c, .int .i64 x.d] 61))) := Lib.hid (Apart.of hB)
  clear hB
  go_upto_region 4 with fail
  clear c0 c1 c2 c3 c4 c5 c6 c7
  generalize w.alloc (.cells #[.int .i64 x.l, .int .i64 x.c, .int .i64 x.d] 61) = W at *
  obtain ⟨p, hp⟩ : ∃ p, w.heap.size = p := ⟨_, rfl⟩
  have HPW : Hid (w.heap.size ≤ p) := Lib.hid (Nat.le_of_eq hp)
  rw [hp] at HX ⊢
  have HF1 : Hid (∀ w1, Kp W w1 → Calls Try.prog 41 #[.pointer (some ⟨g, 0, none⟩), .agg #[.int .i64 x.l, .int .i64 x.c, .int .i64 x.d], .int .i64 S.t] w1 fun e w' => e = .returned (.agg #[.int .i64 y.l, .int .i64 y.c, .int .i64 y.d]) ∧ Below w1.heap.size w1 w') := Lib.hid fun w1 hC => HF.out w1 (HL.out.keep hC)
  refine wp_region_kt 7 (by kernel_rfl) (by kernel_rfl) ?_
  simp only [List.take_succ_cons, List.take_zero, List.drop_succ_cons, List.drop_zero]
  repeat (first
    | go_big_quiet_skip
    | (go_big_quiet_want
       first
         | (go_big_quiet_op
            first
              | go_big_quiet_on
              | (apply Exists.intro
                 refine ⟨fun w1 hC => ?_, ?_⟩
                 · first
                     | (go_at_call 41; with_reducible exact hC.call (HF1.out w1 hC))
                     | (obtain ⟨x0, x1, x2, g0, g1, g2⟩ := (HX.out.keep hC).cells3; go_simp; first | exact rfl | exact ⟨rfl, rfl⟩)
                     | (have c4 : w1.cell? ⟨g, 4, none⟩ = some (.int .i64 S.t) := (HL.out.keep hC).blk.cell 4; go_simp; first | exact rfl | exact ⟨rfl, rfl⟩)
                     | exact rfl
                     | (go_simp; exact ⟨rfl, rfl⟩)
                 go_big_quiet_on))))
  refine wpQuiet_nil ?_
  intro W2 hC2
  have HX2 := Lib.hid (HX.out.keep hC2)
  have HL2 := Lib.hid (HL.out.keep hC2)
  have HA2 := Lib.hid (HA.out.then hC2)
  have HP2 : Hid (w.heap.size ≤ p ∧ g ≠ p ∧ m ≠ p) := Lib.hid ⟨HPW.out, HL2.out.blk.ne HX2.out (by decide), by obtain ⟨D, h2, _⟩ := HL2.out.mp; exact (HX2.out.ne_map h2).symm⟩
  clear hC2 HX HL HA HF1
  obtain ⟨x0, x1, x2, g0, g1, g2⟩ := HX2.out.cells3
  have HX3 := Lib.hid (HX2.out.set3 (.int .i64 y.l) (.int .i64 y.c) (.int .i64 y.d))
  have HA3 : Hid (Apart (fun k => k = p) W2 (((W2.setCell ⟨p, 0, none⟩ (.int .i64 y.l)).setCell ⟨p, 1, none⟩ (.int .i64 y.c)).setCell ⟨p, 2, none⟩ (.int .i64 y.d))) := Lib.hid (((Apart.setCell (F := fun k => k = p) (p := ⟨p, 0, none⟩) Apart.refl (.inl rfl) _).setCell (p := ⟨p, 1, none⟩) (.inl rfl) _).setCell (p := ⟨p, 2, none⟩) (.inl rfl) _)
  have HL3 := Lib.hid (HL2.out.apart HA3.out HP2.out.2.1 HP2.out.2.2)
  have HA4 := Lib.hid (HA2.out.trans HA3.out (fun k hk => .inr (by subst hk; exact HP2.out.1)))
  clear HX2 HL2 HA2 HA3
  go_upto_region 5 with fail
  clear x0 x1 x2 g0 g1 g2
  generalize ((W2.setCell ⟨p, 0, none⟩ (.int .i64 y.l)).setCell ⟨p, 1, none⟩ (.int .i64 y.c)).setCell ⟨p, 2, none⟩ (.int .i64 y.d) = W3 at *
  obtain ⟨x0, x1, x2, g0, g1, g2⟩ := HX3.out.cells3
  have HX5 : Hid (Blk ((W3.setCell ⟨p, 0, none⟩ (.int .i64 (y.l - 1))).setCell ⟨p, 2, none⟩ (.int .i64 0)) p 61 #[.int .i64 (y.l - 1), .int .i64 y.c, .int .i64 0]) := Lib.hid (by simpa using (HX3.out.set 0 (.int .i64 (y.l - 1))).set 2 (.int .i64 0))
  have HA5 : Hid (Apart (fun k => k = p) W3 ((W3.setCell ⟨p, 0, none⟩ (.int .i64 (y.l - 1))).setCell ⟨p, 2, none⟩ (.int .i64 0))) := Lib.hid ((Apart.setCell (F := fun k => k = p) (p := ⟨p, 0, none⟩) Apart.refl (.inl rfl) _).setCell (p := ⟨p, 2, none⟩) (.inl rfl) _)
  have HL5 := Lib.hid (HL3.out.apart HA5.out HP2.out.2.1 HP2.out.2.2)
  have HA6 := Lib.hid (HA4.out.trans HA5.out (fun k hk => .inr (by subst hk; exact HP2.out.1)))
  clear HX3 HL3 HA4 HA5
  have hw1 : IntKind.i64.wrap (y.l - 1) = y.l - 1 := IntWalk.i64_in _ (by have := HY.out; omega)
  go_upto_region 7 with fail
  clear x0 x1 x2 g0 g1 g2
  generalize (W3.setCell ⟨p, 0, none⟩ (.int .i64 (y.l - 1))).setCell ⟨p, 2, none⟩ (.int .i64 0) = W5 at *
  refine wp_region_kt 6 (by kernel_rfl) (by kernel_rfl) ?_
  simp only [List.take_succ_cons, List.take_zero, List.drop_succ_cons, List.drop_zero]
  repeat (first
    | go_big_quiet_skip
    | (go_big_quiet_want
       first
         | (go_big_quiet_op
            first
              | go_big_quiet_on
              | (apply Exists.intro
                 refine ⟨fun w1 hC => ?_, ?_⟩
                 · first
                     | (obtain ⟨x0, x1, x2, g0, g1, g2⟩ := (HX5.out.keep hC).cells3; go_simp; first | exact rfl | exact ⟨rfl, rfl⟩)
                     | (have c5 : w1.cell? ⟨g, 5, none⟩ = some (.map (some m)) := (HL5.out.keep hC).blk.cell 5; go_simp; first | exact rfl | exact ⟨rfl, rfl⟩)
                     | exact rfl
                     | (go_simp; exact ⟨rfl, rfl⟩)
                 go_big_quiet_on))))
  refine wpQuiet_nil ?_
  intro W7 hC7
  have HL7 := Lib.hid (HL5.out.keep hC7)
  have HA7 := Lib.hid (HA6.out.then hC7)
  clear HL5 HX5 HA6 hC7
  obtain ⟨D, hm, hD⟩ := HL7.out.mp
  refine wpList_mapUpdate_in _ rfl _ _ _ 45 rfl 9 61 keyedS Try.underlying45 Rid m S.L.length D rfl hm (by have := HN.out; unfold maxLen; omega) _ _ (keyS s) rfl rfl (keyOfS HSZ.out) _ _ rfl ?_
  intro w8 hm8 ht8
  have HP8 : Hid (Mp w8 m (putB { y with l := y.l - 1, d := 0 } S.L)) := Lib.hid (Mp.of hm8 (by
    have := hD.put HST.out { y with l := y.l - 1, d := 0 }
    have e : keyS ({ y with l := y.l - 1, d := 0 } : Bk).k = keyS s := congrArg keyS HK.out
    rw [e] at this
    exact this))
  have HA8 : Hid (Apart (fun k => k = m) W7 w8) := Lib.hid (Apart.refl.grown ht8.grown (fun k e => .inl (by simpa using e.symm)))
  have HC8 := Lib.hid (HA8.out.blk HL7.out.blk HL7.out.ne)
  have HA9 := Lib.hid (HA7.out.trans HA8.out (fun k hk => .inl (.inr hk)))
  clear hm hD hm8 ht8 HA8 HA7
  obtain ⟨c0, c1, c2, c3, c4, c5, c6, c7⟩ := HC8.out.cells8
  have f6 := HC8.out.frozen 6
  have hw2 : IntKind.i64.wrap (S.al + 1) = S.al + 1 := IntWalk.i64_in _ (by have := HAL.out; omega)
  have HL10 := Lib.hid (lim_al HC8.out (S.al + 1))
  have HA10 : Hid (Apart (fun k => k = g) w8 (w8.setCell ⟨g, 6, none⟩ (.int .i64 (S.al + 1)))) := Lib.hid (Apart.setCell (F := fun k => k = g) (p := ⟨g, 6, none⟩) Apart.refl (.inl rfl) _)
  have HP10 := Lib.hid (HP8.out.apart HA10.out (fun e => HL7.out.ne e.symm))
  have HA11 := Lib.hid (HA9.out.trans HA10.out (fun k hk => .inl (.inl hk)))
  go_wp2_with fail
  refine bodyPost_end (v := .tuple #[]) (by simp [results, Try.results32, go_sem]) rfl ⟨rfl, ?_, HA11.out⟩
  rw [← HR.out]
  exact ⟨HL10.out, HP10.out⟩
set_option maxRecDepth 100000 in
set_option maxHeartbeats 8000000 in
theorem permit_out {s : ByteArray} (h : Lim w g m S) (hS : S.Ok e) (he : e ≤ 1000000) (hs : s.size ≤ maxLen) (hf : findB S.L s = none) :
    Calls Try.prog 32 #[.pointer (some ⟨g, 0, none⟩), .string s] w fun r w' => r = .returned (.tuple #[]) ∧ Lim w' g m (permitR S s) ∧ Apart (Fl g m) w w' := by
  obtain ⟨c0, c1, c2, c3, c4, c5, c6, c7⟩ := h.cells
  have hl := h.mp.look hs
  have hM := makeR_ok hS
  have HMR := Lib.hid fun w1 (h1 : Lim w1 g m S) => makeRoom_c h1 hS
  have HD : permitR S s = takeR (makeR S) ⟨s, S.b, 0, 0⟩ := by unfold permitR; rw [hf]
  rw [HD]
  rw [hasB_of_none hf, hf] at hl
  replace hl : _ = Result.ok (Value.tuple #[.agg #[.int .i64 0, .int .i64 0, .int .i64 0], .bool false]) w := hl
  have HSB : Hid ((makeR S).b = S.b) := Lib.hid makeR_b
  generalize makeR S = T at *
  have hx : (⟨s, S.b, 0, 0⟩ : Bk).Ok T.b T.t e := ⟨by have := hS.b0; show 0 ≤ S.b; omega, by rw [HSB.out]; exact Int.le_refl _, Int.le_refl _, hM.t0, Int.le_refl _, Int.le_trans hM.a0 hM.a1⟩
  have HF := Lib.hid fun w1 (h1 : Lim w1 g m T) => filled_c h1 hM hx (Int.le_refl _) hM.t1
  have HST := Lib.hid hM.st
  have HK := Lib.hid (show (fillB T.b T.i ⟨s, S.b, 0, 0⟩ T.t).k = s from fill_k)
  have HN : Hid (T.L.length ≤ 1024) := Lib.hid (by have h1 := hM.len; have h2 := hM.n1; omega)
  have HAL : Hid (0 ≤ T.al ∧ T.al ≤ 1000000) := Lib.hid ⟨hM.a0, Int.le_trans hM.a1 he⟩
  have HSZ := Lib.hid hs
  have hF := fill_ok hx hM.b0 hM.i0 (Int.le_refl _)
  have HY : Hid (0 ≤ (fillB T.b T.i ⟨s, S.b, 0, 0⟩ T.t).l ∧ (fillB T.b T.i ⟨s, S.b, 0, 0⟩ T.t).l ≤ 1000000) := Lib.hid ⟨hF.l0, Int.le_trans hF.l1 hM.b1⟩
  have HR : Hid ({ T with L := putB { fillB T.b T.i ⟨s, S.b, 0, 0⟩ T.t with l := (fillB T.b T.i ⟨s, S.b, 0, 0⟩ T.t).l - 1, d := 0 } T.L, al := T.al + 1 } = takeR T ⟨s, S.b, 0, 0⟩) := Lib.hid rfl
  generalize fillB T.b T.i ⟨s, S.b, 0, 0⟩ T.t = y at *
  have HF : Hid (∀ w1, Lim w1 g m T → Calls Try.prog 41 #[.pointer (some ⟨g, 0, none⟩), .agg #[.int .i64 S.b, .int .i64 0, .int .i64 0], .int .i64 T.t] w1 fun e w' => e = .returned (.agg #[.int .i64 y.l, .int .i64 y.c, .int .i64 y.d]) ∧ Below w1.heap.size w1 w') := HF
  have HC := Lib.hid h
  clear HD hf hS hx hs hF h hM
  generalize takeR T ⟨s, S.b, 0, 0⟩ = S2 at *
  go_enter Try.func32, Try.ntmps32
  have HX : Hid (Blk (w.alloc (.cells #[.int .i64 0, .int .i64 0, .int .i64 0] 61)) w.heap.size 61 #[.int .i64 0, .int .i64 0, .int .i64 0]) := Lib.hid (Blk.new w _ _)
  have hB : Below w.heap.size w (w.alloc (.cells #[.int .i64 0, .int .i64 0, .int .i64 0] 61)) := (Below.refl _ _).alloc (Nat.le_refl _) _
  have HL := Lib.hid (HC.out.keep hB)
  have HA : Hid (Apart (Fl g m) w (w.alloc (.cells #[.int .i64 0, .int .i64 0, .int .i64 0] 61))) := Lib.hid (Apart.of hB)
  clear hB
  go_upto_region 2 with fail
  clear c0 c1 c2 c3 c4 c5 c6 c7
  generalize w.alloc (.cells #[.int .i64 0, .int .i64 0, .int .i64 0] 61) = W0 at *
  obtain ⟨p, hp⟩ : ∃ p, w.heap.size = p := ⟨_, rfl⟩
  have HPW : Hid (w.heap.size ≤ p) := Lib.hid (Nat.le_of_eq hp)
  rw [hp] at HX ⊢
  have HMR0 := Lib.hid (HMR.out W0 HL.out)
  have HPN : Hid (p ≠ g ∧ p ≠ m) := Lib.hid ⟨(HL.out.blk.ne HX.out (by decide)).symm, by obtain ⟨D, h2, _⟩ := HL.out.mp; exact HX.out.ne_map h2⟩
  go_upto_region 3 with (go_at_call 43; refine HMR0.out.mono ?_; rintro e W1 ⟨rfl, hl1, ha1⟩; have HL1 := Lib.hid hl1; have HA1 := Lib.hid ha1; clear hl1 ha1)
  have HX1 := Lib.hid (HA1.out.blk HX.out (fun h => h.elim HPN.out.1 HPN.out.2))
  have HA2 := Lib.hid (HA.out.trans HA1.out (fun k hk => .inl hk))
  clear HX HL HA HA1 HMR HMR0
  have c1 : W1.cell? ⟨g, 1, none⟩ = some (.int .i64 S.b) := by have := HL1.out.cells.2.1; rw [HSB.out] at this; exact this
  obtain ⟨x0, x1, x2, g0, g1, g2⟩ := HX1.out.cells3
  have HX : Hid (Blk (W1.setCell ⟨p, 0, none⟩ (.int .i64 S.b)) p 61 #[.int .i64 S.b, .int .i64 0, .int .i64 0]) := Lib.hid (by simpa using HX1.out.set 0 (.int .i64 S.b))
  have HA3 : Hid (Apart (fun k => k = p) W1 (W1.setCell ⟨p, 0, none⟩ (.int .i64 S.b))) := Lib.hid (Apart.setCell (F := fun k => k = p) (p := ⟨p, 0, none⟩) Apart.refl (.inl rfl) _)
  have HL := Lib.hid (HL1.out.apart HA3.out (fun h => HPN.out.1 h.symm) (fun h => HPN.out.2 h.symm))
  have HA := Lib.hid (HA2.out.trans HA3.out (fun k hk => .inr (by subst hk; exact HPW.out)))
  go_upto_region 4 with fail
  clear x0 x1 x2 g0 g1 g2 c1 HX1 HA3 HA2 HL1
  generalize W1.setCell ⟨p, 0, none⟩ (.int .i64 S.b) = W at *
  have HF1 : Hid (∀ w1, Kp W w1 → Calls Try.prog 41 #[.pointer (some ⟨g, 0, none⟩), .agg #[.int .i64 S.b, .int .i64 0, .int .i64 0], .int .i64 T.t] w1 fun e w' => e = .returned (.agg #[.int .i64 y.l, .int .i64 y.c, .int .i64 y.d]) ∧ Below w1.heap.size w1 w') := Lib.hid fun w1 hC => HF.out w1 (HL.out.keep hC)
  refine wp_region_kt 7 (by kernel_rfl) (by kernel_rfl) ?_
  simp only [List.take_succ_cons, List.take_zero, List.drop_succ_cons, List.drop_zero]
  repeat (first
    | go_big_quiet_skip
    | (go_big_quiet_want
       first
         | (go_big_quiet_op
            first
              | go_big_quiet_on
              | (apply Exists.intro
                 refine ⟨fun w1 hC => ?_, ?_⟩
                 · first
                     | (go_at_call 41; with_reducible exact hC.call (HF1.out w1 hC))
                     | (obtain ⟨x0, x1, x2, g0, g1, g2⟩ := (HX.out.keep hC).cells3; go_simp; first | exact rfl | exact ⟨rfl, rfl⟩)
                     | (have c4 : w1.cell? ⟨g, 4, none⟩ = some (.int .i64 T.t) := (HL.out.keep hC).blk.cell 4; go_simp; first | exact rfl | exact ⟨rfl, rfl⟩)
                     | exact rfl
                     | (go_simp; exact ⟨rfl, rfl⟩)
                 go_big_quiet_on))))
  refine wpQuiet_nil ?_
  intro W2 hC2
  have HX2 := Lib.hid (HX.out.keep hC2)
  have HL2 := Lib.hid (HL.out.keep hC2)
  have HA2 := Lib.hid (HA.out.then hC2)
  have HP2 : Hid (w.heap.size ≤ p ∧ g ≠ p ∧ m ≠ p) := Lib.hid ⟨HPW.out, HL2.out.blk.ne HX2.out (by decide), by obtain ⟨D, h2, _⟩ := HL2.out.mp; exact (HX2.out.ne_map h2).symm⟩
  clear hC2 HX HL HA HF1
  obtain ⟨x0, x1, x2, g0, g1, g2⟩ := HX2.out.cells3
  have HX3 := Lib.hid (HX2.out.set3 (.int .i64 y.l) (.int .i64 y.c) (.int .i64 y.d))
  have HA3 : Hid (Apart (fun k => k = p) W2 (((W2.setCell ⟨p, 0, none⟩ (.int .i64 y.l)).setCell ⟨p, 1, none⟩ (.int .i64 y.c)).setCell ⟨p, 2, none⟩ (.int .i64 y.d))) := Lib.hid (((Apart.setCell (F := fun k => k = p) (p := ⟨p, 0, none⟩) Apart.refl (.inl rfl) _).setCell (p := ⟨p, 1, none⟩) (.inl rfl) _).setCell (p := ⟨p, 2, none⟩) (.inl rfl) _)
  have HL3 := Lib.hid (HL2.out.apart HA3.out HP2.out.2.1 HP2.out.2.2)
  have HA4 := Lib.hid (HA2.out.trans HA3.out (fun k hk => .inr (by subst hk; exact HP2.out.1)))
  clear HX2 HL2 HA2 HA3
  go_upto_region 5 with fail
  clear x0 x1 x2 g0 g1 g2
  generalize ((W2.setCell ⟨p, 0, none⟩ (.int .i64 y.l)).setCell ⟨p, 1, none⟩ (.int .i64 y.c)).setCell ⟨p, 2, none⟩ (.int .i64 y.d) = W3 at *
  obtain ⟨x0, x1, x2, g0, g1, g2⟩ := HX3.out.cells3
  have HX5 : Hid (Blk ((W3.setCell ⟨p, 0, none⟩ (.int .i64 (y.l - 1))).setCell ⟨p, 2, none⟩ (.int .i64 0)) p 61 #[.int .i64 (y.l - 1), .int .i64 y.c, .int .i64 0]) := Lib.hid (by simpa using (HX3.out.set 0 (.int .i64 (y.l - 1))).set 2 (.int .i64 0))
  have HA5 : Hid (Apart (fun k => k = p) W3 ((W3.setCell ⟨p, 0, none⟩ (.int .i64 (y.l - 1))).setCell ⟨p, 2, none⟩ (.int .i64 0))) := Lib.hid ((Apart.setCell (F := fun k => k = p) (p := ⟨p, 0, none⟩) Apart.refl (.inl rfl) _).setCell (p := ⟨p, 2, none⟩) (.inl rfl) _)
  have HL5 := Lib.hid (HL3.out.apart HA5.out HP2.out.2.1 HP2.out.2.2)
  have HA6 := Lib.hid (HA4.out.trans HA5.out (fun k hk => .inr (by subst hk; exact HP2.out.1)))
  clear HX3 HL3 HA4 HA5
  have hw1 : IntKind.i64.wrap (y.l - 1) = y.l - 1 := IntWalk.i64_in _ (by have := HY.out; omega)
  go_upto_region 7 with fail
  clear x0 x1 x2 g0 g1 g2
  generalize (W3.setCell ⟨p, 0, none⟩ (.int .i64 (y.l - 1))).setCell ⟨p, 2, none⟩ (.int .i64 0) = W5 at *
  refine wp_region_kt 6 (by kernel_rfl) (by kernel_rfl) ?_
  simp only [List.take_succ_cons, List.take_zero, List.drop_succ_cons, List.drop_zero]
  repeat (first
    | go_big_quiet_skip
    | (go_big_quiet_want
       first
         | (go_big_quiet_op
            first
              | go_big_quiet_on
              | (apply Exists.intro
                 refine ⟨fun w1 hC => ?_, ?_⟩
                 · first
                     | (obtain ⟨x0, x1, x2, g0, g1, g2⟩ := (HX5.out.keep hC).cells3; go_simp; first | exact rfl | exact ⟨rfl, rfl⟩)
                     | (have c5 : w1.cell? ⟨g, 5, none⟩ = some (.map (some m)) := (HL5.out.keep hC).blk.cell 5; go_simp; first | exact rfl | exact ⟨rfl, rfl⟩)
                     | exact rfl
                     | (go_simp; exact ⟨rfl, rfl⟩)
                 go_big_quiet_on))))
  refine wpQuiet_nil ?_
  intro W7 hC7
  have HL7 := Lib.hid (HL5.out.keep hC7)
  have HA7 := Lib.hid (HA6.out.then hC7)
  clear HL5 HX5 HA6 hC7
  obtain ⟨D, hm, hD⟩ := HL7.out.mp
  refine wpList_mapUpdate_in _ rfl _ _ _ 45 rfl 9 61 keyedS Try.underlying45 Rid m T.L.length D rfl hm (by have := HN.out; unfold maxLen; omega) _ _ (keyS s) rfl rfl (keyOfS HSZ.out) _ _ rfl ?_
  intro w8 hm8 ht8
  have HP8 : Hid (Mp w8 m (putB { y with l := y.l - 1, d := 0 } T.L)) := Lib.hid (Mp.of hm8 (by
    have := hD.put HST.out { y with l := y.l - 1, d := 0 }
    have e : keyS ({ y with l := y.l - 1, d := 0 } : Bk).k = keyS s := congrArg keyS HK.out
    rw [e] at this
    exact this))
  have HA8 : Hid (Apart (fun k => k = m) W7 w8) := Lib.hid (Apart.refl.grown ht8.grown (fun k e => .inl (by simpa using e.symm)))
  have HC8 := Lib.hid (HA8.out.blk HL7.out.blk HL7.out.ne)
  have HA9 := Lib.hid (HA7.out.trans HA8.out (fun k hk => .inl (.inr hk)))
  clear hm hD hm8 ht8 HA8 HA7
  obtain ⟨c0, c1, c2, c3, c4, c5, c6, c7⟩ := HC8.out.cells8
  have f6 := HC8.out.frozen 6
  have hw2 : IntKind.i64.wrap (T.al + 1) = T.al + 1 := IntWalk.i64_in _ (by have := HAL.out; omega)
  have HL10 := Lib.hid (lim_al HC8.out (T.al + 1))
  have HA10 : Hid (Apart (fun k => k = g) w8 (w8.setCell ⟨g, 6, none⟩ (.int .i64 (T.al + 1)))) := Lib.hid (Apart.setCell (F := fun k => k = g) (p := ⟨g, 6, none⟩) Apart.refl (.inl rfl) _)
  have HP10 := Lib.hid (HP8.out.apart HA10.out (fun e => HL7.out.ne e.symm))
  have HA11 := Lib.hid (HA9.out.trans HA10.out (fun k hk => .inl (.inl hk)))
  go_wp2_with fail
  refine bodyPost_end (v := .tuple #[]) (by simp [results, Try.results32, go_sem]) rfl ⟨rfl, ?_, HA11.out⟩
  rw [← HR.out]
  exact ⟨HL10.out, HP10.out⟩
theorem permit_c {s : ByteArray} (h : Lim w g m S) (hS : S.Ok e) (he : e ≤ 1000000) (hs : s.size ≤ maxLen) :
    Calls Try.prog 32 #[.pointer (some ⟨g, 0, none⟩), .string s] w fun r w' => r = .returned (.tuple #[]) ∧ Lim w' g m (permitR S s) ∧ Apart (Fl g m) w w' := by
  cases hf : findB S.L s with
  | none => exact permit_out h hS he hs hf
  | some x => exact permit_in h hS he hs hf
end
end Go.Proofs.Ytcainohglmgdpaa
