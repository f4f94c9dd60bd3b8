/- The reference's known, Total, Dropped, Left. -/
import Derived.Test.YtcainohglmgdpaaRvd
namespace Go.Proofs.Ytcainohglmgdpaa
open Go.RowKit Go.Maps Go.WideElems Go.WideMaps Go.WideShapes Go.Sort Go.Shelf
@[go_sem] theorem fldR3 (a b c d : Value) (w : World) : (Instr.field 71 (.agg #[a, b, c, d]) 3).run Try.prog w = .ok d w := by kernel_rfl
section
variable {w w' : World} {g m B : Nat} {S : RS} {a : Option Addr} {n c : Nat} {L : List Bk} {e : Int}
theorem known_c {s : ByteArray} (h : Own RBk w B (.slice a n c) S.L) (hBw : B ≤ w.heap.size) (hS : S.Ok e) (hs : s.size ≤ maxLen) :
    Calls Try.prog 36 #[.agg #[.int .i64 S.b, .int .i64 S.i, .int .i64 S.n, .int .i64 S.t, .slice a n c, .int .i64 S.al, .int .i64 S.dr], .string s, .int .i64 S.t] w fun r w' => ∃ v', r = .returned (.agg #[.int .i64 S.b, .int .i64 S.i, .int .i64 S.n, .int .i64 S.t, v', .int .i64 S.al, .int .i64 S.dr]) ∧ Own RBk w' B v' (knownL S s S.t) ∧ Below w.heap.size w w' := by
  cases hf : findB S.L s with
  | none => exact known_out h hBw hS hs hf
  | some x => exact known_in h hS hf
set_option maxRecDepth 100000 in
theorem rtotal_c (sl : Value) (w : World) : Calls Try.prog 23 #[.agg #[.int .i64 S.b, .int .i64 S.i, .int .i64 S.n, .int .i64 S.t, sl, .int .i64 S.al, .int .i64 S.dr]] w fun r w' => r = .returned (.tuple #[.int .i64 S.al, .int .i64 S.dr]) ∧ Below w.heap.size w w' := by
  have HB : Hid (Below w.heap.size w (w.alloc (.cells #[.int .i64 S.b, .int .i64 S.i, .int .i64 S.n, .int .i64 S.t, sl, .int .i64 S.al, .int .i64 S.dr] 29))) := Lib.hid ((Below.refl _ _).alloc (Nat.le_refl _) _)
  have HX : Hid (Blk (w.alloc (.cells #[.int .i64 S.b, .int .i64 S.i, .int .i64 S.n, .int .i64 S.t, sl, .int .i64 S.al, .int .i64 S.dr] 29)) w.heap.size 29 #[.int .i64 S.b, .int .i64 S.i, .int .i64 S.n, .int .i64 S.t, sl, .int .i64 S.al, .int .i64 S.dr]) := Lib.hid (Blk.new _ _ _)
  go_enter Try.func23, Try.ntmps23
  go_upto_region 1 with fail
  generalize w.alloc (.cells #[.int .i64 S.b, .int .i64 S.i, .int .i64 S.n, .int .i64 S.t, sl, .int .i64 S.al, .int .i64 S.dr] 29) = W at *
  refine wp_region_kp (by kernel_rfl) (by kernel_rfl) ?_
  repeat (first
    | go_big_quiet_skip
    | (go_big_quiet_want
       first
         | (go_big_quiet_op
            first
              | go_big_quiet_on
              | (apply Exists.intro
                 refine ⟨fun w1 hC => ?_, ?_⟩
                 · first
                     | (obtain ⟨x0, x1, x2, x3, x4, x5, x6⟩ := (HX.out.keep hC).cells7; go_simp; first | exact rfl | exact ⟨rfl, rfl⟩)
                     | exact rfl
                     | (go_simp; exact ⟨rfl, rfl⟩)
                 go_big_quiet_on))))
  refine wpQuiet_nil ?_
  intro W1 hC1
  have HB1 := Lib.hid (HB.out.trans (Below.mono hC1 HB.out.size))
  clear hC1
  go_wp2_with fail
  refine bodyPost_ret (v := .tuple #[.int .i64 S.al, .int .i64 S.dr]) (by simp [results, Try.results23, go_sem]) rfl ⟨rfl, HB1.out⟩
set_option maxRecDepth 100000 in
set_option maxHeartbeats 4000000 in
theorem rdropped_c (s : ByteArray) (h : Rows' RBk w (.slice a n c) S.L) (hS : S.Ok e) :
    Calls Try.prog 26 #[.agg #[.int .i64 S.b, .int .i64 S.i, .int .i64 S.n, .int .i64 S.t, .slice a n c, .int .i64 S.al, .int .i64 S.dr], .string s] w fun r w' => r = .returned (.int .i64 (droppedR S s)) ∧ Below w.heap.size w w' := by
  have hsl : S.L.length ≤ 1024 := by have h1 := hS.len; have h2 := hS.n1; omega
  have HB : Hid (Below w.heap.size w (w.alloc (.cells #[.int .i64 S.b, .int .i64 S.i, .int .i64 S.n, .int .i64 S.t, .slice a n c, .int .i64 S.al, .int .i64 S.dr] 29))) := Lib.hid ((Below.refl _ _).alloc (Nat.le_refl _) _)
  have HX : Hid (Blk (w.alloc (.cells #[.int .i64 S.b, .int .i64 S.i, .int .i64 S.n, .int .i64 S.t, .slice a n c, .int .i64 S.al, .int .i64 S.dr] 29)) w.heap.size 29 #[.int .i64 S.b, .int .i64 S.i, .int .i64 S.n, .int .i64 S.t, .slice a n c, .int .i64 S.al, .int .i64 S.dr]) := Lib.hid (Blk.new _ _ _)
  have HF := Lib.hid (find_c (S := S) s (h.below HB.out) (by omega))
  have HR := Lib.hid h
  clear h hS
  cases hf : findB S.L s with
  | none =>
    rw [idxB_none hf] at HF
    have HD : droppedR S s = 0 := by unfold droppedR; rw [hf]
    rw [HD]
    clear hf HD
    go_enter Try.func26, Try.ntmps26
    go_upto_region 1 with fail
    generalize w.alloc (.cells #[.int .i64 S.b, .int .i64 S.i, .int .i64 S.n, .int .i64 S.t, .slice a n c, .int .i64 S.al, .int .i64 S.dr] 29) = W at *
    obtain ⟨x0, x1, x2, x3, x4, x5, x6⟩ := HX.out.cells7
    go_wp2_with (go_at_call 37; with_reducible refine HF.out.mono ?_; rintro r W2 ⟨rfl, hb⟩; have HB2 := Lib.hid (HB.out.trans (hb.mono HB.out.size)); clear hb)
    go_ret
    exact ⟨rfl, HB2.out⟩
  | some x =>
    obtain ⟨i, hi, hix, hil⟩ := idxB_some hf
    rw [hi] at HF
    have HD : droppedR S s = x.d := by unfold droppedR; rw [hf]
    rw [HD]
    obtain ⟨g, o, rfl, hn, hc, hev⟩ := bk_at HR.out hil
    have hxe : S.L[i] = x := by rw [List.getElem?_eq_getElem hil] at hix; exact Option.some.inj hix
    rw [hxe] at hev
    have HEV := Lib.hid hev
    have hin : (i : Int) < (n : Int) := by rw [hn]; omega
    have hi0 : i ≤ 1024 := by omega
    clear hf HD hi hix hev hxe hn hil
    go_enter Try.func26, Try.ntmps26
    go_upto_region 1 with fail
    generalize w.alloc (.cells #[.int .i64 S.b, .int .i64 S.i, .int .i64 S.n, .int .i64 S.t, .slice (some ⟨g, o, none⟩) n c, .int .i64 S.al, .int .i64 S.dr] 29) = W at *
    obtain ⟨x0, x1, x2, x3, x4, x5, x6⟩ := HX.out.cells7
    go_upto_region 3 with (go_at_call 37; with_reducible refine HF.out.mono ?_; rintro r W2 ⟨rfl, hb⟩; have HB2 := Lib.hid (HB.out.trans (hb.mono HB.out.size)); have HX2 := Lib.hid (HX.out.keep hb); clear hb)
    clear x0 x1 x2 x3 x4 x5 x6
    obtain ⟨x0, x1, x2, x3, x4, x5, x6⟩ := HX2.out.cells7
    obtain ⟨q0, q1, q2, q3⟩ := HEV.out W2 HB2.out
    go_wp2_with fail
    go_ret
    exact ⟨rfl, HB2.out⟩
end
end Go.Proofs.Ytcainohglmgdpaa
