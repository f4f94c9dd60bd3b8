/- The reference's known. -/
import Derived.Test.YtcainohglmgdpaaRvc
namespace Go.Proofs.Ytcainohglmgdpaa
open Go.RowKit Go.Maps Go.WideElems Go.WideMaps Go.WideShapes Go.Sort Go.Shelf
theorem rows_take {w : World} {g o n c i : Nat} {L : List Bk} (h : Rows' RBk w (.slice (some ⟨g, o, none⟩) n c) L) (hi : i ≤ L.length) : Rows' RBk w (.slice (some ⟨g, o, none⟩) i c) (L.take i) := by
  obtain ⟨ao, cap, e, hc, hr⟩ := h.form
  simp only [Value.slice.injEq] at e
  obtain ⟨rfl, rfl, rfl⟩ := e
  have hl : (L.take i).length = i := by rw [List.length_take]; omega
  refine ⟨⟨_, c, by rw [hl], by rw [hl]; omega, fun hne => ?_⟩⟩
  obtain ⟨g', o', e, hg, hR⟩ := hr (fun e => hne (by rw [e]; simp))
  simp only [Option.some.injEq, Addr.mk.injEq] at e
  obtain ⟨rfl, rfl, _⟩ := e
  refine ⟨g, o, rfl, hg, fun j x hx => hR j x ?_⟩
  have hj : j < i := by have := (List.getElem?_eq_some_iff.1 hx).1; omega
  rwa [List.getElem?_take, if_pos hj] at hx
theorem rows_drop {w : World} {g o n c i : Nat} {L : List Bk} (h : Rows' RBk w (.slice (some ⟨g, o, none⟩) n c) L) (hi : i ≤ L.length) : Rows' RBk w (.slice (some ⟨g, o + i * 4, none⟩) (n - i) (c - i)) (L.drop i) := by
  obtain ⟨ao, cap, e, hc, hr⟩ := h.form
  simp only [Value.slice.injEq] at e
  obtain ⟨rfl, rfl, rfl⟩ := e
  refine ⟨⟨_, c - i, by rw [List.length_drop], by rw [List.length_drop]; omega, fun hne => ?_⟩⟩
  obtain ⟨g', o', e, hg, hR⟩ := hr (fun e => hne (by rw [e]; simp))
  simp only [Option.some.injEq, Addr.mk.injEq] at e
  obtain ⟨rfl, rfl, _⟩ := e
  refine ⟨g, o + i * 4, rfl, hg, fun j x hx k u hk => ?_⟩
  rw [List.getElem?_drop] at hx
  have := hR (i + j) x hx k u hk
  rw [show RBk.sz = 4 from rfl] at this ⊢
  rw [show o + i * 4 + j * 4 = o + (i + j) * 4 by omega]
  exact this
theorem rows_dropIf {w : World} {g n c i : Nat} {L : List Bk} (h : Rows' RBk w (.slice (some ⟨g, 0, none⟩) n c) L) (hi : i ≤ L.length) : Rows' RBk w (.slice (if c = i then some ⟨g, 0, none⟩ else some ⟨g, i * 4, none⟩) (n - i) (c - i)) (L.drop i) := by
  by_cases e : c = i
  · rw [if_pos e]
    obtain ⟨ao, cap, e2, hc, hr⟩ := h.form
    simp only [Value.slice.injEq] at e2
    obtain ⟨_, rfl, rfl⟩ := e2
    exact ⟨⟨_, c - i, by rw [List.length_drop], by rw [List.length_drop]; omega, fun hne => absurd (List.drop_eq_nil_of_le (by omega)) hne⟩⟩
  · rw [if_neg e]
    have := rows_drop h hi
    rw [Nat.zero_add] at this
    exact this
theorem agg_st (w : World) : (isAgg 29).run Try.prog w = .ok true w := by go_simp
theorem size_st (w : World) : (sizeOf 29).run Try.prog w = .ok 7 w := by go_simp
theorem apart_row {w : World} (g : Nat) (cs : Array Value) : Apart (fun k => k = g) w (w.setRow g cs) :=
  ⟨rfl, rfl, rfl, by rw [setRow_size]; exact Nat.le_refl _, fun k _ hk => setRow_other w g k cs (fun e => hk e)⟩
section
variable {w w' : World} {g m B : Nat} {S : RS} {a : Option Addr} {n c : Nat} {L : List Bk} {e : Int}
set_option maxRecDepth 100000 in
set_option maxHeartbeats 8000000 in
theorem known_in {s : ByteArray} {x : Bk} (h : Own RBk w B (.slice a n c) S.L) (hS : S.Ok e) (hf : findB S.L s = some x) :
    Calls Try.prog 36 #[.agg #[.int .i64 S.b, .int .i64 S.i, .int .i64 S.n, .int .i64 S.t, .slice a n c, .int .i64 S.al, .int .i64 S.dr], .string s, .int .i64 S.t] w fun r w' => ∃ v', r = .returned (.agg #[.int .i64 S.b, .int .i64 S.i, .int .i64 S.n, .int .i64 S.t, v', .int .i64 S.al, .int .i64 S.dr]) ∧ Own RBk w' B v' (knownL S s S.t) ∧ Below w.heap.size w w' := by
  rw [known_has hf]
  have hsl : S.L.length ≤ 1024 := by have h1 := hS.len; have h2 := hS.n1; omega
  obtain ⟨i, hi, _, _⟩ := idxB_some hf
  have HF := Lib.hid fun w1 (h1 : Rows' RBk w1 (.slice a n c) S.L) => find_c (S := S) s h1 (by omega)
  rw [hi] at HF
  have HO := Lib.hid h
  clear h hS hf hi hsl
  have HB : Hid (Below w.heap.size w ((w.alloc (.cells #[.int .i64 S.b, .int .i64 S.i, .int .i64 S.n, .int .i64 S.t, .slice a n c, .int .i64 S.al, .int .i64 S.dr] 29)).alloc (.cells #[.int .i64 0, .int .i64 0, .int .i64 0, .int .i64 0, .slice none 0 0, .int .i64 0, .int .i64 0] 29))) := Lib.hid (((Below.refl _ _).alloc (Nat.le_refl _) _).alloc (by simp) _)
  have HX : Hid (Blk ((w.alloc (.cells #[.int .i64 S.b, .int .i64 S.i, .int .i64 S.n, .int .i64 S.t, .slice a n c, .int .i64 S.al, .int .i64 S.dr] 29)).alloc (.cells #[.int .i64 0, .int .i64 0, .int .i64 0, .int .i64 0, .slice none 0 0, .int .i64 0, .int .i64 0] 29)) w.heap.size 29 #[.int .i64 S.b, .int .i64 S.i, .int .i64 S.n, .int .i64 S.t, .slice a n c, .int .i64 S.al, .int .i64 S.dr]) := Lib.hid ((Blk.new w _ _).alloc _)
  have HZ : Hid (Blk ((w.alloc (.cells #[.int .i64 S.b, .int .i64 S.i, .int .i64 S.n, .int .i64 S.t, .slice a n c, .int .i64 S.al, .int .i64 S.dr] 29)).alloc (.cells #[.int .i64 0, .int .i64 0, .int .i64 0, .int .i64 0, .slice none 0 0, .int .i64 0, .int .i64 0] 29)) (w.heap.size + 1) 29 #[.int .i64 0, .int .i64 0, .int .i64 0, .int .i64 0, .slice none 0 0, .int .i64 0, .int .i64 0]) := Lib.hid (by
    have := Blk.new (w.alloc (.cells #[.int .i64 S.b, .int .i64 S.i, .int .i64 S.n, .int .i64 S.t, .slice a n c, .int .i64 S.al, .int .i64 S.dr] 29)) 29 #[.int .i64 0, .int .i64 0, .int .i64 0, .int .i64 0, .slice none 0 0, .int .i64 0, .int .i64 0]
    simpa using this)
  go_enter Try.func36, Try.ntmps36
  go_upto_region 1 with fail
  generalize ((w.alloc (.cells #[.int .i64 S.b, .int .i64 S.i, .int .i64 S.n, .int .i64 S.t, .slice a n c, .int .i64 S.al, .int .i64 S.dr] 29)).alloc (.cells #[.int .i64 0, .int .i64 0, .int .i64 0, .int .i64 0, .slice none 0 0, .int .i64 0, .int .i64 0] 29)) = W at *
  obtain ⟨p, hp⟩ : ∃ p, w.heap.size = p := ⟨_, rfl⟩
  have HP := Lib.hid hp
  have HOW := Lib.hid (HO.out.below HB.out)
  rw [hp] at HX HZ HB ⊢
  clear hp
  obtain ⟨x0, x1, x2, x3, x4, x5, x6⟩ := HX.out.cells7
  have HF1 := Lib.hid (HF.out W HOW.out.rows)
  go_upto_region 2 with (go_at_call 37; with_reducible refine HF1.out.mono ?_; rintro r W2 ⟨rfl, hb⟩; have HX2 := Lib.hid (HX.out.keep hb); have HZ2 := Lib.hid (HZ.out.keep hb); have HO3 := Lib.hid (HOW.out.below hb); have HB2 := Lib.hid (HB.out.trans (hb.mono (by have := HX.out.lt; omega))); clear hb)
  clear x0 x1 x2 x3 x4 x5 x6 HX HZ HOW HO HB HF HF1
  obtain ⟨x0, x1, x2, x3, x4, x5, x6⟩ := HX2.out.cells7
  obtain ⟨z0, z1, z2, z3, z4, z5, z6⟩ := HZ2.out.cells7
  obtain ⟨k0, k1, k2, k3, k4, k5, k6⟩ := HZ2.out.frozen7
  have HZ4 := Lib.hid (HZ2.out.set7 (.int .i64 S.b) (.int .i64 S.i) (.int .i64 S.n) (.int .i64 S.t) (.slice a n c) (.int .i64 S.al) (.int .i64 S.dr))
  have HA4 := Lib.hid (apart_set7 (F := fun k => k = p + 1) (g := p + 1) (Apart.refl (w := W2)) (.inl rfl) (.int .i64 S.b) (.int .i64 S.i) (.int .i64 S.n) (.int .i64 S.t) (.slice a n c) (.int .i64 S.al) (.int .i64 S.dr))
  have HO4 := Lib.hid (own_apart HO3.out HA4.out (fun k cs hk e => (hk.ne HZ2.out (by decide)) e))
  have HB4 : Hid (Below p w (((((((W2.setCell ⟨p + 1, 0, none⟩ (.int .i64 S.b)).setCell ⟨p + 1, 1, none⟩ (.int .i64 S.i)).setCell ⟨p + 1, 2, none⟩ (.int .i64 S.n)).setCell ⟨p + 1, 3, none⟩ (.int .i64 S.t)).setCell ⟨p + 1, 4, none⟩ (.slice a n c)).setCell ⟨p + 1, 5, none⟩ (.int .i64 S.al)).setCell ⟨p + 1, 6, none⟩ (.int .i64 S.dr))) := Lib.hid (HB2.out.trans (HA4.out.below (by have := HB2.out.size; have := HP.out; omega) (fun k hk => by subst hk; omega)))
  go_wp2_with fail
  clear x0 x1 x2 x3 x4 x5 x6 z0 z1 z2 z3 z4 z5 z6 k0 k1 k2 k3 k4 k5 k6
  generalize (((((((W2.setCell ⟨p + 1, 0, none⟩ (.int .i64 S.b)).setCell ⟨p + 1, 1, none⟩ (.int .i64 S.i)).setCell ⟨p + 1, 2, none⟩ (.int .i64 S.n)).setCell ⟨p + 1, 3, none⟩ (.int .i64 S.t)).setCell ⟨p + 1, 4, none⟩ (.slice a n c)).setCell ⟨p + 1, 5, none⟩ (.int .i64 S.al)).setCell ⟨p + 1, 6, none⟩ (.int .i64 S.dr)) = W4 at *
  obtain ⟨r0, r1, r2, r3, r4, r5, r6⟩ := HZ4.out.cells7
  refine bodyPost_ret (v := .agg #[.int .i64 S.b, .int .i64 S.i, .int .i64 S.n, .int .i64 S.t, .slice a n c, .int .i64 S.al, .int .i64 S.dr]) (by simp [results, Try.results36, go_sem, r0, r1, r2, r3, r4, r5, r6]) rfl ⟨_, rfl, HO4.out, by rw [HP.out]; exact HB4.out⟩
set_option maxRecDepth 100000 in
set_option maxHeartbeats 16000000 in
theorem known_out {s : ByteArray} (h : Own RBk w B (.slice a n c) S.L) (hBw : B ≤ w.heap.size) (hS : S.Ok e) (hs : s.size ≤ maxLen) (hf : findB S.L s = none) :
    Calls Try.prog 36 #[.agg #[.int .i64 S.b, .int .i64 S.i, .int .i64 S.n, .int .i64 S.t, .slice a n c, .int .i64 S.al, .int .i64 S.dr], .string s, .int .i64 S.t] w fun r w' => ∃ v', r = .returned (.agg #[.int .i64 S.b, .int .i64 S.i, .int .i64 S.n, .int .i64 S.t, v', .int .i64 S.al, .int .i64 S.dr]) ∧ Own RBk w' B v' (knownL S s S.t) ∧ Below w.heap.size w w' := by
  have hsl : S.L.length ≤ 1024 := by have h1 := hS.len; have h2 := hS.n1; omega
  have HF := Lib.hid fun w1 (h1 : Rows' RBk w1 (.slice a n c) S.L) => find_c (S := S) s h1 (by omega)
  have HFG := Lib.hid fun w1 (h1 : Rows' RBk w1 (.slice a n c) S.L) => forget_c (t := S.t) h1 hS (Int.le_refl _) hS.t1
  have hi := idxB_none hf
  rw [hi] at HF
  have HO := Lib.hid h
  obtain rfl := rows_len h.rows
  have HKN : Hid (knownL S s S.t = if S.n ≤ (S.L.length : Int) then (if S.n ≤ ((keepL S S.t).length : Int) then keepL S S.t else putB ⟨s, S.b, S.t, 0⟩ (keepL S S.t)) else putB ⟨s, S.b, S.t, 0⟩ S.L) := Lib.hid (by unfold knownL; rw [hasB_of_none hf]; rfl)
  have HST := Lib.hid hS.st
  have HSTK : Hid (strict (keepL S S.t)) := Lib.hid (hS.st.filter _)
  have HFK : Hid (findB (keepL S S.t) s = none) := Lib.hid (by
    unfold findB keepL
    rw [List.find?_eq_none]
    intro x hx
    have := findB_none hf x (List.mem_filter.1 hx).1
    simpa using this)
  have HFN := Lib.hid hf
  have HN1 : Hid (S.L.length ≤ 1024 ∧ (keepL S S.t).length ≤ 1024) := Lib.hid ⟨hsl, by have := List.length_filter_le (fun x => decide ((fillB S.b S.i x S.t).l < S.b)) S.L; unfold keepL; omega⟩
  have HBW := Lib.hid hBw
  generalize knownL S s S.t = K at *
  generalize keepL S S.t = G at *
  generalize hLG : S.L = L at *
  clear h hS hf hi hsl hs hLG hBw
  have HB : Hid (Below w.heap.size w ((w.alloc (.cells #[.int .i64 S.b, .int .i64 S.i, .int .i64 S.n, .int .i64 S.t, .slice a L.length c, .int .i64 S.al, .int .i64 S.dr] 29)).alloc (.cells #[.int .i64 0, .int .i64 0, .int .i64 0, .int .i64 0, .slice none 0 0, .int .i64 0, .int .i64 0] 29))) := Lib.hid (((Below.refl _ _).alloc (Nat.le_refl _) _).alloc (by simp) _)
  have HX : Hid (Blk ((w.alloc (.cells #[.int .i64 S.b, .int .i64 S.i, .int .i64 S.n, .int .i64 S.t, .slice a L.length c, .int .i64 S.al, .int .i64 S.dr] 29)).alloc (.cells #[.int .i64 0, .int .i64 0, .int .i64 0, .int .i64 0, .slice none 0 0, .int .i64 0, .int .i64 0] 29)) w.heap.size 29 #[.int .i64 S.b, .int .i64 S.i, .int .i64 S.n, .int .i64 S.t, .slice a L.length c, .int .i64 S.al, .int .i64 S.dr]) := Lib.hid ((Blk.new w _ _).alloc _)
  have HZ : Hid (Blk ((w.alloc (.cells #[.int .i64 S.b, .int .i64 S.i, .int .i64 S.n, .int .i64 S.t, .slice a L.length c, .int .i64 S.al, .int .i64 S.dr] 29)).alloc (.cells #[.int .i64 0, .int .i64 0, .int .i64 0, .int .i64 0, .slice none 0 0, .int .i64 0, .int .i64 0] 29)) (w.heap.size + 1) 29 #[.int .i64 0, .int .i64 0, .int .i64 0, .int .i64 0, .slice none 0 0, .int .i64 0, .int .i64 0]) := Lib.hid (by
    have := Blk.new (w.alloc (.cells #[.int .i64 S.b, .int .i64 S.i, .int .i64 S.n, .int .i64 S.t, .slice a L.length c, .int .i64 S.al, .int .i64 S.dr] 29)) 29 #[.int .i64 0, .int .i64 0, .int .i64 0, .int .i64 0, .slice none 0 0, .int .i64 0, .int .i64 0]
    simpa using this)
  go_enter Try.func36, Try.ntmps36
  go_upto_region 1 with fail
  generalize ((w.alloc (.cells #[.int .i64 S.b, .int .i64 S.i, .int .i64 S.n, .int .i64 S.t, .slice a L.length c, .int .i64 S.al, .int .i64 S.dr] 29)).alloc (.cells #[.int .i64 0, .int .i64 0, .int .i64 0, .int .i64 0, .slice none 0 0, .int .i64 0, .int .i64 0] 29)) = W at *
  obtain ⟨p, hp⟩ : ∃ p, w.heap.size = p := ⟨_, rfl⟩
  have HP := Lib.hid hp
  have HOW := Lib.hid (HO.out.below HB.out)
  rw [hp] at HX HZ HB HBW ⊢
  clear hp
  obtain ⟨x0, x1, x2, x3, x4, x5, x6⟩ := HX.out.cells7
  have HF1 := Lib.hid (HF.out W HOW.out.rows)
  go_upto_region 3 with (go_at_call 37; with_reducible refine HF1.out.mono ?_; rintro r W1 ⟨rfl, hb⟩; have HX1 := Lib.hid (HX.out.keep hb); have HZ1 := Lib.hid (HZ.out.keep hb); have HO1 := Lib.hid (HOW.out.below hb); have HB1 := Lib.hid (HB.out.trans (hb.mono (by have := HX.out.lt; omega))); clear hb)
  clear x0 x1 x2 x3 x4 x5 x6 HX HZ HOW HO HB HF HF1
  obtain ⟨x0, x1, x2, x3, x4, x5, x6⟩ := HX1.out.cells7
  by_cases hlen : S.n ≤ (L.length : Int)
  · have HKN2 : Hid (K = if S.n ≤ (G.length : Int) then G else putB ⟨s, S.b, S.t, 0⟩ G) := Lib.hid (by rw [HKN.out, if_pos hlen])
    have HG1 := Lib.hid (HFG.out W1 HO1.out.rows)
    go_upto_region 5 with (go_at_call 39; with_reducible refine HG1.out.mono ?_; rintro r W2 ⟨v2, rfl, ho, hb⟩; obtain ⟨a2, c2, rfl⟩ := ho.isSl; have HX2 := Lib.hid (HX1.out.keep hb); obtain ⟨y0, y1, y2, y3, y4, y5, y6⟩ := HX2.out.cells7; obtain ⟨k0, k1, k2, k3, k4, k5, k6⟩ := HX2.out.frozen7; have HZ2 := Lib.hid (HZ1.out.keep hb); have HO2 := Lib.hid ho; have HB2 := Lib.hid (HB1.out.trans (hb.mono (by have := HX1.out.lt; omega))); have HW12 := Lib.hid hb.size; clear hb ho)
    clear x0 x1 x2 x3 x4 x5 x6 y0 y1 y2 y3 y4 y5 y6 k0 k1 k2 k3 k4 k5 k6
    have HX3 := Lib.hid (HX2.out.set7 (.int .i64 S.b) (.int .i64 S.i) (.int .i64 S.n) (.int .i64 S.t) (.slice a2 G.length c2) (.int .i64 S.al) (.int .i64 S.dr))
    have HA3 := Lib.hid (apart_set7 (F := fun k => k = p) (g := p) (Apart.refl (w := W2)) (.inl rfl) (.int .i64 S.b) (.int .i64 S.i) (.int .i64 S.n) (.int .i64 S.t) (.slice a2 G.length c2) (.int .i64 S.al) (.int .i64 S.dr))
    have HO3 := Lib.hid (own_apart HO2.out HA3.out (fun k cs hk e => (hk.ne HX2.out (by decide)) e))
    have HZ3 := Lib.hid (HA3.out.blk HZ2.out (by omega))
    have HB3 := Lib.hid (HB2.out.trans (HA3.out.below (B := p) (by have := HX2.out.lt; omega) (fun k hk => by subst hk; omega)))
    have HWB : Hid (B ≤ W1.heap.size) := Lib.hid (by have := HX1.out.lt; have := HBW.out; omega)
    clear HX2 HZ2 HO2 HB2 HA3 HW12 HX1 HZ1 HO1 HB1
    generalize ((((((W2.setCell ⟨p, 0, none⟩ (.int .i64 S.b)).setCell ⟨p, 1, none⟩ (.int .i64 S.i)).setCell ⟨p, 2, none⟩ (.int .i64 S.n)).setCell ⟨p, 3, none⟩ (.int .i64 S.t)).setCell ⟨p, 4, none⟩ (.slice a2 G.length c2)).setCell ⟨p, 5, none⟩ (.int .i64 S.al)).setCell ⟨p, 6, none⟩ (.int .i64 S.dr) = W2 at *
    have HX2 := HX3
    have HZ2 := HZ3
    have HO2 := Lib.hid (HO3.out.base HWB.out)
    have HB2 := HB3
    clear HX3 HZ3 HO3 HB3
    obtain ⟨x0, x1, x2, x3, x4, x5, x6⟩ := HX2.out.cells7
    by_cases hlen2 : S.n ≤ (G.length : Int)
    · have HKN3 : Hid (K = G) := Lib.hid (by rw [HKN2.out, if_pos hlen2])
      go_upto_region 6 with fail
      clear x0 x1 x2 x3 x4 x5 x6
      have HO3 := HO2
      obtain ⟨x0, x1, x2, x3, x4, x5, x6⟩ := HX2.out.cells7
      obtain ⟨z0, z1, z2, z3, z4, z5, z6⟩ := HZ2.out.cells7
      obtain ⟨k0, k1, k2, k3, k4, k5, k6⟩ := HZ2.out.frozen7
      have HZ4 := Lib.hid (HZ2.out.set7 (.int .i64 S.b) (.int .i64 S.i) (.int .i64 S.n) (.int .i64 S.t) (.slice a2 G.length c2) (.int .i64 S.al) (.int .i64 S.dr))
      have HA4 := Lib.hid (apart_set7 (F := fun k => k = p + 1) (g := p + 1) (Apart.refl (w := W2)) (.inl rfl) (.int .i64 S.b) (.int .i64 S.i) (.int .i64 S.n) (.int .i64 S.t) (.slice a2 G.length c2) (.int .i64 S.al) (.int .i64 S.dr))
      have HO4 := Lib.hid (own_apart HO3.out HA4.out (fun k cs hk e => (hk.ne HZ2.out (by decide)) e))
      have HB4 : Hid (Below p w (((((((W2.setCell ⟨p + 1, 0, none⟩ (.int .i64 S.b)).setCell ⟨p + 1, 1, none⟩ (.int .i64 S.i)).setCell ⟨p + 1, 2, none⟩ (.int .i64 S.n)).setCell ⟨p + 1, 3, none⟩ (.int .i64 S.t)).setCell ⟨p + 1, 4, none⟩ (.slice a2 G.length c2)).setCell ⟨p + 1, 5, none⟩ (.int .i64 S.al)).setCell ⟨p + 1, 6, none⟩ (.int .i64 S.dr))) := Lib.hid (HB2.out.trans (HA4.out.below (by have := HB2.out.size; have := HP.out; omega) (fun k hk => by subst hk; omega)))
      go_wp2_with fail
      clear x0 x1 x2 x3 x4 x5 x6 z0 z1 z2 z3 z4 z5 z6 k0 k1 k2 k3 k4 k5 k6
      generalize (((((((W2.setCell ⟨p + 1, 0, none⟩ (.int .i64 S.b)).setCell ⟨p + 1, 1, none⟩ (.int .i64 S.i)).setCell ⟨p + 1, 2, none⟩ (.int .i64 S.n)).setCell ⟨p + 1, 3, none⟩ (.int .i64 S.t)).setCell ⟨p + 1, 4, none⟩ (.slice a2 G.length c2)).setCell ⟨p + 1, 5, none⟩ (.int .i64 S.al)).setCell ⟨p + 1, 6, none⟩ (.int .i64 S.dr)) = W4 at *
      obtain ⟨r0, r1, r2, r3, r4, r5, r6⟩ := HZ4.out.cells7
      refine bodyPost_ret (v := .agg #[.int .i64 S.b, .int .i64 S.i, .int .i64 S.n, .int .i64 S.t, .slice a2 G.length c2, .int .i64 S.al, .int .i64 S.dr]) (by simp [results, Try.results36, go_sem, r0, r1, r2, r3, r4, r5, r6]) rfl ⟨_, rfl, by rw [HKN3.out]; exact HO4.out, by rw [HP.out]; exact HB4.out⟩
    · have HKN3 : Hid (K = putB ⟨s, S.b, S.t, 0⟩ G) := Lib.hid (by rw [HKN2.out, if_neg hlen2])
      go_wp2_with fail
      rename World => W2
      obtain ⟨v7, h7⟩ : ∃ v7, v7 = Value.slice none 0 0 := ⟨_, rfl⟩
      rw [← h7]
      have HO7 : Hid (Own RBk W2 W2.heap.size v7 []) := Lib.hid (by rw [h7]; exact Own.nil _ _)
      clear h7
      obtain ⟨a7, c7, rfl⟩ := HO7.out.isSl
      replace HO7 : Hid (Own RBk W2 W2.heap.size (.slice a7 0 c7) []) := HO7
      rw [show ([] : List Bk).length = 0 from rfl]
      go_loopw [8] (fun v8 w2 => ∃ (i : Nat), i ≤ G.length ∧ v8 = .int .i64 i ∧ Hid (∀ j y, j < i → G[j]? = some y → ltK y.k s) ∧ w2 = W2) (fun v8 _ => G.length - (intOf v8).toNat)
      case atStart => exact ⟨0, Nat.zero_le _, rfl, Lib.hid (fun j _ h => absurd h (Nat.not_lt_zero _)), rfl⟩
      case round =>
        obtain ⟨i, hi, rfl, HA, rfl⟩ := hrel
        have hn1 : G.length ≤ 1024 := HN1.out.2
        obtain ⟨q, hq⟩ : ∃ q, lowB G s = q := ⟨_, rfl⟩
        have HQ := Lib.hid hq
        clear hq
        by_cases hlt : i < G.length
        · have hlt' : (i : Int) < (G.length : Int) := by omega
          obtain ⟨ga, oa, hae, -, hc, hev⟩ := bk_at HO2.out.rows hlt
          obtain ⟨q0, -⟩ := hev wr (Below.refl _ _)
          obtain ⟨z, hz⟩ : ∃ z, G[i] = z := ⟨_, rfl⟩
          rw [hz] at q0
          have HZI : Hid (G[i]? = some z) := Lib.hid (by rw [List.getElem?_eq_getElem hlt, hz])
          clear hev hz
          by_cases hlk : ltK z.k s
          · have hls : Op.bytesLess z.k.toList s.toList = true := by rw [bytesLess_eq, Lib.toList_data, Lib.toList_data]; exact decide_eq_true hlk
            have HA2 : Hid (∀ j y, j < i + 1 → G[j]? = some y → ltK y.k s) := Lib.hid fun j y hj hy => by
              rcases Nat.lt_or_ge j i with h1 | h1
              · exact HA.out j y h1 hy
              · obtain rfl : j = i := by omega
                rw [HZI.out] at hy
                obtain rfl := Option.some.inj hy
                exact hlk
            have HAE := Lib.hid hae
            clear HA hlk
            subst hae
            go_wp2_with fail
            go_roundw
            case rel => exact ⟨i + 1, hlt, by go_num, HA2, trivial⟩
            case measure => simp [intOf]; omega
          · have hls : Op.bytesLess z.k.toList s.toList = false := by rw [bytesLess_eq, Lib.toList_data, Lib.toList_data]; exact decide_eq_false hlk
            have HQI : Hid (q = i) := Lib.hid (by rw [← HQ.out]; exact (lowB_step HZI.out (fun j hj y hy => HA.out j y hj hy)).2.2 hlk)
            clear HA hlk
            rcases HO2.out.form with ⟨ef, hN⟩ | ⟨g, cap, cur, ef, -, -, -, -⟩
            · rw [hN] at hlt
              exact absurd hlt (Nat.not_lt_zero _)
            · simp only [Value.slice.injEq] at ef
              obtain ⟨rfl, -, rfl⟩ := ef
              simp only [Option.some.injEq, Addr.mk.injEq] at hae
              obtain ⟨rfl, rfl, -⟩ := hae
              rw [Nat.zero_add] at q0
              go_upto_region 11 with fail
              clear q0
              have HR1 : Hid (∀ w1, Below wr.heap.size wr w1 → Rows' RBk w1 (.slice (some ⟨g, 0, none⟩) i c2) (G.take i)) := Lib.hid (fun w1 hb => rows_take (HO2.out.rows.below hb) hi)
              go_upto_region 12 with (at_builtin; refine wpList_append_row RBk rfl _ _ rfl wr.heap.size (.slice a7 0 c7) [] rfl HO7.out (.slice (some ⟨g, 0, none⟩) i c2) (G.take i) rfl (HR1.out wr (Below.refl _ _)) (.inr ⟨g, 0, c2, by rw [List.length_take, Nat.min_eq_left hi]⟩) (by have h5 := hn1; rw [List.length_take, List.length_nil]; omega) (Nat.le_refl _) ?_; intro v3 w3 h1 h2; have H31 := Lib.hid h1; have HB3 : Hid (Below wr.heap.size wr w3) := Lib.hid ((Below.refl _ _).grown h2 (Nat.le_refl _) (fun k e => (HO7.out.lt k e).1)); clear h1 h2)
              clear x0 x1 x2 x3 x4 x5 x6
              obtain ⟨a3, c3, rfl⟩ := H31.out.isSl
              have HLE : Hid (([] ++ G.take i).length ≤ 1024) := Lib.hid (by have h5 := hn1; rw [List.nil_append, List.length_take]; omega)
              generalize hM1 : [] ++ G.take i = M1 at *
              have HM1 := Lib.hid hM1
              clear hM1
              have HBA : Hid (Below w3.heap.size w3 (w3.alloc (.cells #[.string s, .int .i64 S.b, .int .i64 S.t, .int .i64 0] 71))) := Lib.hid ((Below.refl _ _).alloc (Nat.le_refl _) _)
              have HYA : Hid (Blk (w3.alloc (.cells #[.string s, .int .i64 S.b, .int .i64 S.t, .int .i64 0] 71)) w3.heap.size 71 #[.string s, .int .i64 S.b, .int .i64 S.t, .int .i64 0]) := Lib.hid (Blk.new _ _ _)
              have HOA := Lib.hid (H31.out.below HBA.out)
              have HX3 := Lib.hid (HX2.out.keep HB3.out)
              obtain ⟨x0, x1, x2, x3, x4, x5, x6⟩ := HX3.out.cells7
              go_upto_region 13 with (at_builtin; refine wpList_append_one RBk rfl _ _ rfl wr.heap.size (.slice a3 M1.length c3) M1 M1.length rfl rfl HOA.out w3.heap.size ⟨s, S.b, S.t, 0⟩ rfl HYA.out (by have := HLE.out; first | omega | decide) (by have := HBA.out.size; have := HB3.out.size; omega) ?_; intro g4 c4 w4 h1 h2 h3; have H41 := Lib.hid h1; have HB4 := Lib.hid ((HB3.out.trans (HBA.out.mono HB3.out.size)).grown h2 (by have := HBA.out.size; have := HB3.out.size; omega) (fun k e => (HOA.out.lt k e).1)); clear h1 h2 h3)
              clear x0 x1 x2 x3 x4 x5 x6
              have HX4 := Lib.hid (HX2.out.keep HB4.out)
              have HZ4 := Lib.hid (HZ2.out.keep HB4.out)
              obtain ⟨x0, x1, x2, x3, x4, x5, x6⟩ := HX4.out.cells7
              have hf4 := HX4.out.frozen 4
              have HR2 : Hid (∀ w1, Below wr.heap.size wr w1 → Rows' RBk w1 (.slice (some ⟨g, i * 4, none⟩) (G.length - i) (c2 - i)) (G.drop i)) := Lib.hid (fun w1 hb => by have := rows_drop (HO2.out.rows.below hb) hi; rw [Nat.zero_add] at this; exact this)
              go_upto_region 14 with (at_builtin; refine wpList_append_row RBk rfl _ _ rfl wr.heap.size (.slice (some ⟨g4, 0, none⟩) (M1.length + 1) c4) (M1 ++ [⟨s, S.b, S.t, 0⟩]) rfl H41.out (.slice (some ⟨g, i * 4, none⟩) (G.length - i) (c2 - i)) (G.drop i) rfl (HR2.out w4 HB4.out) (.inr (by rw [List.length_drop]; exact ⟨g, i * 4, c2 - i, rfl⟩)) (by have h5 := hn1; have := HLE.out; rw [List.length_append, List.length_drop, List.length_singleton]; omega) HB4.out.size ?_; intro v5 w5 h1 h2; obtain ⟨KX, hKX⟩ : ∃ KX, KX = (M1 ++ [(⟨s, S.b, S.t, 0⟩ : Bk)]) ++ G.drop i := ⟨_, rfl⟩; rw [← hKX] at h1; have HKX := Lib.hid hKX; clear hKX; obtain ⟨a5, c5, rfl⟩ := h1.isSl; have H51 := Lib.hid h1; have HB5 := Lib.hid (HB4.out.grown h2 HB4.out.size (fun k e => (H41.out.lt k e).1)); have HX5 := Lib.hid (HX2.out.keep HB5.out); obtain ⟨y0, y1, y2, y3, y4, y5, y6⟩ := HX5.out.cells7; have hf5 := HX5.out.frozen 4; clear h1 h2)
              clear x0 x1 x2 x3 x4 x5 x6 hf4 y0 y1 y2 y3 y4 y5 y6 hf5
              have HZ5 := Lib.hid (HZ2.out.keep HB5.out)
              have HKK : Hid (KX = K) := Lib.hid (by
                rw [HKX.out, HKN3.out, putB_low HSTK.out HFK.out]
                show _ = G.take (lowB G s) ++ _ :: G.drop (lowB G s)
                rw [HQ.out, HQI.out, ← HM1.out]
                simp)
              have H52 := H51
              clear H51
              have HX6 : Hid (Blk (w5.setCell ⟨p, 4, none⟩ (.slice a5 KX.length c5)) p 29 #[.int .i64 S.b, .int .i64 S.i, .int .i64 S.n, .int .i64 S.t, .slice a5 KX.length c5, .int .i64 S.al, .int .i64 S.dr]) := Lib.hid (by simpa using HX5.out.set 4 (.slice a5 KX.length c5))
              have HA6 : Hid (Apart (fun k => k = p) w5 (w5.setCell ⟨p, 4, none⟩ (.slice a5 KX.length c5))) := Lib.hid (Apart.setCell (F := fun k => k = p) (p := ⟨p, 4, none⟩) Apart.refl (.inl rfl) _)
              have HZ6 := Lib.hid (HA6.out.blk HZ5.out (by omega))
              have HO6 := Lib.hid (own_apart H52.out HA6.out (fun k cs hk e => (hk.ne HX5.out (by decide)) e))
              have HB6 : Hid (Below p w (w5.setCell ⟨p, 4, none⟩ (.slice a5 KX.length c5))) := Lib.hid ((HB2.out.trans (HB5.out.mono (by have := HX2.out.lt; omega))).setCell (p := ⟨p, 4, none⟩) (Nat.le_refl _) _)
              have HBQ : Hid (B ≤ wr.heap.size) := Lib.hid (by have := HX2.out.lt; have := HBW.out; omega)
              clear HX2 HZ2 HO2 HB2 HX5 HZ5 HA6 H52
              generalize w5.setCell ⟨p, 4, none⟩ (.slice a5 KX.length c5) = W2 at *
              have HX2 := HX6
              have HZ2 := HZ6
              have HO3 := HO6
              have HB2 := HB6
              clear HX6 HZ6 HO6 HB6
              generalize (.agg #[.int .i64 S.b, .int .i64 S.i, .int .i64 S.n, .int .i64 S.t, .slice a L.length c, .int .i64 S.al, .int .i64 S.dr] : Value) = V1
              generalize (.agg #[.int .i64 S.b, .int .i64 S.i, .int .i64 S.n, .int .i64 S.t, .slice (some ⟨g, 0, none⟩) G.length c2, .int .i64 S.al, .int .i64 S.dr] : Value) = V2
              generalize (.agg #[.string s, .int .i64 S.b, .int .i64 S.t, .int .i64 0] : Value) = V3
              have HZ4 : Hid (Blk (W2.setRow (p + 1) ([.int .i64 S.b, .int .i64 S.i, .int .i64 S.n, .int .i64 S.t, .slice a5 KX.length c5, .int .i64 S.al, .int .i64 S.dr] : List Value).toArray) (p + 1) 29 #[.int .i64 S.b, .int .i64 S.i, .int .i64 S.n, .int .i64 S.t, .slice a5 KX.length c5, .int .i64 S.al, .int .i64 S.dr]) := Lib.hid (HZ2.out.row [.int .i64 S.b, .int .i64 S.i, .int .i64 S.n, .int .i64 S.t, .slice a5 KX.length c5, .int .i64 S.al, .int .i64 S.dr])
              have HA4 := Lib.hid (apart_row (w := W2) (p + 1) ([.int .i64 S.b, .int .i64 S.i, .int .i64 S.n, .int .i64 S.t, .slice a5 KX.length c5, .int .i64 S.al, .int .i64 S.dr] : List Value).toArray)
              have HO4 := Lib.hid (own_apart HO3.out HA4.out (fun k cs hk e => (hk.ne HZ2.out (by decide)) e))
              have HB4 : Hid (Below p w (W2.setRow (p + 1) ([.int .i64 S.b, .int .i64 S.i, .int .i64 S.n, .int .i64 S.t, .slice a5 KX.length c5, .int .i64 S.al, .int .i64 S.dr] : List Value).toArray)) := Lib.hid (HB2.out.trans (HA4.out.below (by have := HB2.out.size; have := HP.out; omega) (fun k hk => by subst hk; omega)))
              refine wp_region_lit ?_
              refine wpList_load (by rfl) _ rfl rfl (loadAt_blk [.int .i64 S.b, .int .i64 S.i, .int .i64 S.n, .int .i64 S.t, .slice a5 KX.length c5, .int .i64 S.al, .int .i64 S.dr] (agg_st _) (size_st _) HX2.out) ?_
              refine wpList_store_row (by rfl) _ _ rfl rfl (by rfl) [.int .i64 S.b, .int .i64 S.i, .int .i64 S.n, .int .i64 S.t, .slice a5 KX.length c5, .int .i64 S.al, .int .i64 S.dr] (.agg #[.int .i64 S.b, .int .i64 S.i, .int .i64 S.n, .int .i64 S.t, .slice a5 KX.length c5, .int .i64 S.al, .int .i64 S.dr]) (by rfl) rfl (size_st _) HZ2.out rfl (by intro x hx; simp only [List.mem_cons, List.not_mem_nil, or_false] at hx; rcases hx with rfl | rfl | rfl | rfl | rfl | rfl | rfl <;> rfl) ?_
              generalize W2.setRow (p + 1) ([.int .i64 S.b, .int .i64 S.i, .int .i64 S.n, .int .i64 S.t, .slice a5 KX.length c5, .int .i64 S.al, .int .i64 S.dr] : List Value).toArray = W4 at *
              obtain ⟨r0, r1, r2, r3, r4, r5, r6⟩ := HZ4.out.cells7
              go_wp2_with fail
              refine bodyPost_ret (v := .agg #[.int .i64 S.b, .int .i64 S.i, .int .i64 S.n, .int .i64 S.t, .slice a5 KX.length c5, .int .i64 S.al, .int .i64 S.dr]) (by simp [results, Try.results36, go_sem, r0, r1, r2, r3, r4, r5, r6]) rfl ⟨_, rfl, by rw [← HKK.out]; exact HO4.out.base HBQ.out, by rw [HP.out]; exact HB4.out⟩


        · have HQI : Hid (q = i) := Lib.hid (by rw [← HQ.out, lowB_end (fun j hj y hy => HA.out j y (by omega) hy)]; omega)
          have hlt' : ¬ (i : Int) < (G.length : Int) := by omega
          have hc : G.length ≤ c2 := by
            obtain ⟨ao, cap, e, h, _⟩ := rows_at HO2.out.rows
            simp only [Value.slice.injEq] at e
            omega
          clear HA
          rcases HO2.out.form with ⟨ef, hN⟩ | ⟨g, cap, cur, ef, -, -, -, -⟩
          · simp only [Value.slice.injEq] at ef
            obtain ⟨rfl, h0, rfl⟩ := ef
            have hi0 : i = 0 := by omega
            subst hi0
            subst hN
            clear h0 hlt hlt' hi
            clear x0 x1 x2 x3 x4 x5 x6
            replace HX2 : Hid (Blk wr p 29 #[.int .i64 S.b, .int .i64 S.i, .int .i64 S.n, .int .i64 S.t, .slice none 0 0, .int .i64 S.al, .int .i64 S.dr]) := HX2
            replace HO2 : Hid (Own RBk wr B (.slice none 0 0) []) := HO2
            obtain ⟨x0, x1, x2, x3, x4, x5, x6⟩ := HX2.out.cells7
            simp only [List.length_nil]
            go_upto_region 11 with fail
            have HR1 : Hid (∀ w1, Below wr.heap.size wr w1 → Rows' RBk w1 (.slice none 0 0) (([] : List Bk).take 0)) := Lib.hid (fun w1 _ => ⟨⟨none, 0, rfl, Nat.le_refl _, fun h => absurd rfl h⟩⟩)
            go_upto_region 12 with (at_builtin; refine wpList_append_row RBk rfl _ _ rfl wr.heap.size (.slice a7 0 c7) [] rfl HO7.out (.slice none 0 0) (([] : List Bk).take 0) rfl (HR1.out wr (Below.refl _ _)) (.inl rfl) (by have h5 := hn1; rw [List.length_take, List.length_nil]; omega) (Nat.le_refl _) ?_; intro v3 w3 h1 h2; have H31 := Lib.hid h1; have HB3 : Hid (Below wr.heap.size wr w3) := Lib.hid ((Below.refl _ _).grown h2 (Nat.le_refl _) (fun k e => (HO7.out.lt k e).1)); clear h1 h2)
            clear x0 x1 x2 x3 x4 x5 x6
            obtain ⟨a3, c3, rfl⟩ := H31.out.isSl
            have HLE : Hid (([] ++ ([] : List Bk).take 0).length ≤ 1024) := Lib.hid (by have h5 := hn1; rw [List.nil_append, List.length_take]; omega)
            generalize hM1 : [] ++ ([] : List Bk).take 0 = M1 at *
            have HM1 := Lib.hid hM1
            clear hM1
            have HBA : Hid (Below w3.heap.size w3 (w3.alloc (.cells #[.string s, .int .i64 S.b, .int .i64 S.t, .int .i64 0] 71))) := Lib.hid ((Below.refl _ _).alloc (Nat.le_refl _) _)
            have HYA : Hid (Blk (w3.alloc (.cells #[.string s, .int .i64 S.b, .int .i64 S.t, .int .i64 0] 71)) w3.heap.size 71 #[.string s, .int .i64 S.b, .int .i64 S.t, .int .i64 0]) := Lib.hid (Blk.new _ _ _)
            have HOA := Lib.hid (H31.out.below HBA.out)
            have HX3 := Lib.hid (HX2.out.keep HB3.out)
            obtain ⟨x0, x1, x2, x3, x4, x5, x6⟩ := HX3.out.cells7
            go_upto_region 13 with (at_builtin; refine wpList_append_one RBk rfl _ _ rfl wr.heap.size (.slice a3 M1.length c3) M1 M1.length rfl rfl HOA.out w3.heap.size ⟨s, S.b, S.t, 0⟩ rfl HYA.out (by have := HLE.out; first | omega | decide) (by have := HBA.out.size; have := HB3.out.size; omega) ?_; intro g4 c4 w4 h1 h2 h3; have H41 := Lib.hid h1; have HB4 := Lib.hid ((HB3.out.trans (HBA.out.mono HB3.out.size)).grown h2 (by have := HBA.out.size; have := HB3.out.size; omega) (fun k e => (HOA.out.lt k e).1)); clear h1 h2 h3)
            clear x0 x1 x2 x3 x4 x5 x6
            have HX4 := Lib.hid (HX2.out.keep HB4.out)
            have HZ4 := Lib.hid (HZ2.out.keep HB4.out)
            obtain ⟨x0, x1, x2, x3, x4, x5, x6⟩ := HX4.out.cells7
            have hf4 := HX4.out.frozen 4
            have HR2 : Hid (∀ w1, Below wr.heap.size wr w1 → Rows' RBk w1 (.slice none 0 0) (([] : List Bk).drop 0)) := Lib.hid (fun w1 _ => ⟨⟨none, 0, rfl, Nat.le_refl _, fun h => absurd rfl h⟩⟩)
            go_upto_region 14 with (at_builtin; refine wpList_append_row RBk rfl _ _ rfl wr.heap.size (.slice (some ⟨g4, 0, none⟩) (M1.length + 1) c4) (M1 ++ [⟨s, S.b, S.t, 0⟩]) rfl H41.out (.slice none 0 0) (([] : List Bk).drop 0) rfl (HR2.out w4 HB4.out) (.inl rfl) (by have h5 := hn1; have := HLE.out; rw [List.length_append, List.length_drop, List.length_singleton]; omega) HB4.out.size ?_; intro v5 w5 h1 h2; obtain ⟨KX, hKX⟩ : ∃ KX, KX = (M1 ++ [(⟨s, S.b, S.t, 0⟩ : Bk)]) ++ ([] : List Bk).drop 0 := ⟨_, rfl⟩; rw [← hKX] at h1; have HKX := Lib.hid hKX; clear hKX; obtain ⟨a5, c5, rfl⟩ := h1.isSl; have H51 := Lib.hid h1; have HB5 := Lib.hid (HB4.out.grown h2 HB4.out.size (fun k e => (H41.out.lt k e).1)); have HX5 := Lib.hid (HX2.out.keep HB5.out); obtain ⟨y0, y1, y2, y3, y4, y5, y6⟩ := HX5.out.cells7; have hf5 := HX5.out.frozen 4; clear h1 h2)
            clear x0 x1 x2 x3 x4 x5 x6 hf4 y0 y1 y2 y3 y4 y5 y6 hf5
            have HZ5 := Lib.hid (HZ2.out.keep HB5.out)
            have HKK : Hid (KX = K) := Lib.hid (by
              rw [HKX.out, HKN3.out, putB_low HSTK.out HFK.out]
              show _ = ([] : List Bk).take (lowB ([] : List Bk) s) ++ _ :: ([] : List Bk).drop (lowB ([] : List Bk) s)
              rw [HQ.out, HQI.out, ← HM1.out]
              simp)
            have H52 := H51
            clear H51
            have HX6 : Hid (Blk (w5.setCell ⟨p, 4, none⟩ (.slice a5 KX.length c5)) p 29 #[.int .i64 S.b, .int .i64 S.i, .int .i64 S.n, .int .i64 S.t, .slice a5 KX.length c5, .int .i64 S.al, .int .i64 S.dr]) := Lib.hid (by simpa using HX5.out.set 4 (.slice a5 KX.length c5))
            have HA6 : Hid (Apart (fun k => k = p) w5 (w5.setCell ⟨p, 4, none⟩ (.slice a5 KX.length c5))) := Lib.hid (Apart.setCell (F := fun k => k = p) (p := ⟨p, 4, none⟩) Apart.refl (.inl rfl) _)
            have HZ6 := Lib.hid (HA6.out.blk HZ5.out (by omega))
            have HO6 := Lib.hid (own_apart H52.out HA6.out (fun k cs hk e => (hk.ne HX5.out (by decide)) e))
            have HB6 : Hid (Below p w (w5.setCell ⟨p, 4, none⟩ (.slice a5 KX.length c5))) := Lib.hid ((HB2.out.trans (HB5.out.mono (by have := HX2.out.lt; omega))).setCell (p := ⟨p, 4, none⟩) (Nat.le_refl _) _)
            have HBQ : Hid (B ≤ wr.heap.size) := Lib.hid (by have := HX2.out.lt; have := HBW.out; omega)
            clear HX2 HZ2 HO2 HB2 HX5 HZ5 HA6 H52
            generalize w5.setCell ⟨p, 4, none⟩ (.slice a5 KX.length c5) = W2 at *
            have HX2 := HX6
            have HZ2 := HZ6
            have HO3 := HO6
            have HB2 := HB6
            clear HX6 HZ6 HO6 HB6
            generalize (.agg #[.int .i64 S.b, .int .i64 S.i, .int .i64 S.n, .int .i64 S.t, .slice a L.length c, .int .i64 S.al, .int .i64 S.dr] : Value) = V1
            generalize (.agg #[.int .i64 S.b, .int .i64 S.i, .int .i64 S.n, .int .i64 S.t, .slice none 0 0, .int .i64 S.al, .int .i64 S.dr] : Value) = V2
            generalize (.agg #[.string s, .int .i64 S.b, .int .i64 S.t, .int .i64 0] : Value) = V3
            have HZ4 : Hid (Blk (W2.setRow (p + 1) ([.int .i64 S.b, .int .i64 S.i, .int .i64 S.n, .int .i64 S.t, .slice a5 KX.length c5, .int .i64 S.al, .int .i64 S.dr] : List Value).toArray) (p + 1) 29 #[.int .i64 S.b, .int .i64 S.i, .int .i64 S.n, .int .i64 S.t, .slice a5 KX.length c5, .int .i64 S.al, .int .i64 S.dr]) := Lib.hid (HZ2.out.row [.int .i64 S.b, .int .i64 S.i, .int .i64 S.n, .int .i64 S.t, .slice a5 KX.length c5, .int .i64 S.al, .int .i64 S.dr])
            have HA4 := Lib.hid (apart_row (w := W2) (p + 1) ([.int .i64 S.b, .int .i64 S.i, .int .i64 S.n, .int .i64 S.t, .slice a5 KX.length c5, .int .i64 S.al, .int .i64 S.dr] : List Value).toArray)
            have HO4 := Lib.hid (own_apart HO3.out HA4.out (fun k cs hk e => (hk.ne HZ2.out (by decide)) e))
            have HB4 : Hid (Below p w (W2.setRow (p + 1) ([.int .i64 S.b, .int .i64 S.i, .int .i64 S.n, .int .i64 S.t, .slice a5 KX.length c5, .int .i64 S.al, .int .i64 S.dr] : List Value).toArray)) := Lib.hid (HB2.out.trans (HA4.out.below (by have := HB2.out.size; have := HP.out; omega) (fun k hk => by subst hk; omega)))
            refine wp_region_lit ?_
            refine wpList_load (by rfl) _ rfl rfl (loadAt_blk [.int .i64 S.b, .int .i64 S.i, .int .i64 S.n, .int .i64 S.t, .slice a5 KX.length c5, .int .i64 S.al, .int .i64 S.dr] (agg_st _) (size_st _) HX2.out) ?_
            refine wpList_store_row (by rfl) _ _ rfl rfl (by rfl) [.int .i64 S.b, .int .i64 S.i, .int .i64 S.n, .int .i64 S.t, .slice a5 KX.length c5, .int .i64 S.al, .int .i64 S.dr] (.agg #[.int .i64 S.b, .int .i64 S.i, .int .i64 S.n, .int .i64 S.t, .slice a5 KX.length c5, .int .i64 S.al, .int .i64 S.dr]) (by rfl) rfl (size_st _) HZ2.out rfl (by intro x hx; simp only [List.mem_cons, List.not_mem_nil, or_false] at hx; rcases hx with rfl | rfl | rfl | rfl | rfl | rfl | rfl <;> rfl) ?_
            generalize W2.setRow (p + 1) ([.int .i64 S.b, .int .i64 S.i, .int .i64 S.n, .int .i64 S.t, .slice a5 KX.length c5, .int .i64 S.al, .int .i64 S.dr] : List Value).toArray = W4 at *
            obtain ⟨r0, r1, r2, r3, r4, r5, r6⟩ := HZ4.out.cells7
            go_wp2_with fail
            refine bodyPost_ret (v := .agg #[.int .i64 S.b, .int .i64 S.i, .int .i64 S.n, .int .i64 S.t, .slice a5 KX.length c5, .int .i64 S.al, .int .i64 S.dr]) (by simp [results, Try.results36, go_sem, r0, r1, r2, r3, r4, r5, r6]) rfl ⟨_, rfl, by rw [← HKK.out]; exact HO4.out.base HBQ.out, by rw [HP.out]; exact HB4.out⟩

          · simp only [Value.slice.injEq] at ef
            obtain ⟨rfl, -, rfl⟩ := ef
            by_cases hci : c2 = i
            · subst hci
              go_upto_region 11 with fail
              have HR1 : Hid (∀ w1, Below wr.heap.size wr w1 → Rows' RBk w1 (.slice (some ⟨g, 0, none⟩) c2 c2) (G.take c2)) := Lib.hid (fun w1 hb => rows_take (HO2.out.rows.below hb) hi)
              go_upto_region 12 with (at_builtin; refine wpList_append_row RBk rfl _ _ rfl wr.heap.size (.slice a7 0 c7) [] rfl HO7.out (.slice (some ⟨g, 0, none⟩) c2 c2) (G.take c2) rfl (HR1.out wr (Below.refl _ _)) (.inr ⟨g, 0, c2, by rw [List.length_take, Nat.min_eq_left hi]⟩) (by have h5 := hn1; rw [List.length_take, List.length_nil]; omega) (Nat.le_refl _) ?_; intro v3 w3 h1 h2; have H31 := Lib.hid h1; have HB3 : Hid (Below wr.heap.size wr w3) := Lib.hid ((Below.refl _ _).grown h2 (Nat.le_refl _) (fun k e => (HO7.out.lt k e).1)); clear h1 h2)
              clear x0 x1 x2 x3 x4 x5 x6
              obtain ⟨a3, c3, rfl⟩ := H31.out.isSl
              have HLE : Hid (([] ++ G.take c2).length ≤ 1024) := Lib.hid (by have h5 := hn1; rw [List.nil_append, List.length_take]; omega)
              generalize hM1 : [] ++ G.take c2 = M1 at *
              have HM1 := Lib.hid hM1
              clear hM1
              have HBA : Hid (Below w3.heap.size w3 (w3.alloc (.cells #[.string s, .int .i64 S.b, .int .i64 S.t, .int .i64 0] 71))) := Lib.hid ((Below.refl _ _).alloc (Nat.le_refl _) _)
              have HYA : Hid (Blk (w3.alloc (.cells #[.string s, .int .i64 S.b, .int .i64 S.t, .int .i64 0] 71)) w3.heap.size 71 #[.string s, .int .i64 S.b, .int .i64 S.t, .int .i64 0]) := Lib.hid (Blk.new _ _ _)
              have HOA := Lib.hid (H31.out.below HBA.out)
              have HX3 := Lib.hid (HX2.out.keep HB3.out)
              obtain ⟨x0, x1, x2, x3, x4, x5, x6⟩ := HX3.out.cells7
              go_upto_region 13 with (at_builtin; refine wpList_append_one RBk rfl _ _ rfl wr.heap.size (.slice a3 M1.length c3) M1 M1.length rfl rfl HOA.out w3.heap.size ⟨s, S.b, S.t, 0⟩ rfl HYA.out (by have := HLE.out; first | omega | decide) (by have := HBA.out.size; have := HB3.out.size; omega) ?_; intro g4 c4 w4 h1 h2 h3; have H41 := Lib.hid h1; have HB4 := Lib.hid ((HB3.out.trans (HBA.out.mono HB3.out.size)).grown h2 (by have := HBA.out.size; have := HB3.out.size; omega) (fun k e => (HOA.out.lt k e).1)); clear h1 h2 h3)
              clear x0 x1 x2 x3 x4 x5 x6
              have HX4 := Lib.hid (HX2.out.keep HB4.out)
              have HZ4 := Lib.hid (HZ2.out.keep HB4.out)
              obtain ⟨x0, x1, x2, x3, x4, x5, x6⟩ := HX4.out.cells7
              have hf4 := HX4.out.frozen 4
              have HR2 : Hid (∀ w1, Below wr.heap.size wr w1 → Rows' RBk w1 (.slice (some ⟨g, 0, none⟩) 0 0) (G.drop c2)) := Lib.hid (fun w1 hb => by have := rows_dropIf (HO2.out.rows.below hb) hi; rw [if_pos rfl, Nat.sub_self, show G.length - c2 = 0 by omega] at this; exact this)
              go_upto_region 14 with (at_builtin; refine wpList_append_row RBk rfl _ _ rfl wr.heap.size (.slice (some ⟨g4, 0, none⟩) (M1.length + 1) c4) (M1 ++ [⟨s, S.b, S.t, 0⟩]) rfl H41.out (.slice (some ⟨g, 0, none⟩) 0 0) (G.drop c2) rfl (HR2.out w4 HB4.out) (.inr (by rw [List.length_drop]; exact ⟨g, 0, 0, by rw [show G.length - c2 = 0 by omega]⟩)) (by have h5 := hn1; have := HLE.out; rw [List.length_append, List.length_drop, List.length_singleton]; omega) HB4.out.size ?_; intro v5 w5 h1 h2; obtain ⟨KX, hKX⟩ : ∃ KX, KX = (M1 ++ [(⟨s, S.b, S.t, 0⟩ : Bk)]) ++ G.drop c2 := ⟨_, rfl⟩; rw [← hKX] at h1; have HKX := Lib.hid hKX; clear hKX; obtain ⟨a5, c5, rfl⟩ := h1.isSl; have H51 := Lib.hid h1; have HB5 := Lib.hid (HB4.out.grown h2 HB4.out.size (fun k e => (H41.out.lt k e).1)); have HX5 := Lib.hid (HX2.out.keep HB5.out); obtain ⟨y0, y1, y2, y3, y4, y5, y6⟩ := HX5.out.cells7; have hf5 := HX5.out.frozen 4; clear h1 h2)
              clear x0 x1 x2 x3 x4 x5 x6 hf4 y0 y1 y2 y3 y4 y5 y6 hf5
              have HZ5 := Lib.hid (HZ2.out.keep HB5.out)
              have HKK : Hid (KX = K) := Lib.hid (by
                rw [HKX.out, HKN3.out, putB_low HSTK.out HFK.out]
                show _ = G.take (lowB G s) ++ _ :: G.drop (lowB G s)
                rw [HQ.out, HQI.out, ← HM1.out]
                simp)
              have H52 := H51
              clear H51
              have HX6 : Hid (Blk (w5.setCell ⟨p, 4, none⟩ (.slice a5 KX.length c5)) p 29 #[.int .i64 S.b, .int .i64 S.i, .int .i64 S.n, .int .i64 S.t, .slice a5 KX.length c5, .int .i64 S.al, .int .i64 S.dr]) := Lib.hid (by simpa using HX5.out.set 4 (.slice a5 KX.length c5))
              have HA6 : Hid (Apart (fun k => k = p) w5 (w5.setCell ⟨p, 4, none⟩ (.slice a5 KX.length c5))) := Lib.hid (Apart.setCell (F := fun k => k = p) (p := ⟨p, 4, none⟩) Apart.refl (.inl rfl) _)
              have HZ6 := Lib.hid (HA6.out.blk HZ5.out (by omega))
              have HO6 := Lib.hid (own_apart H52.out HA6.out (fun k cs hk e => (hk.ne HX5.out (by decide)) e))
              have HB6 : Hid (Below p w (w5.setCell ⟨p, 4, none⟩ (.slice a5 KX.length c5))) := Lib.hid ((HB2.out.trans (HB5.out.mono (by have := HX2.out.lt; omega))).setCell (p := ⟨p, 4, none⟩) (Nat.le_refl _) _)
              have HBQ : Hid (B ≤ wr.heap.size) := Lib.hid (by have := HX2.out.lt; have := HBW.out; omega)
              clear HX2 HZ2 HO2 HB2 HX5 HZ5 HA6 H52
              generalize w5.setCell ⟨p, 4, none⟩ (.slice a5 KX.length c5) = W2 at *
              have HX2 := HX6
              have HZ2 := HZ6
              have HO3 := HO6
              have HB2 := HB6
              clear HX6 HZ6 HO6 HB6
              generalize (.agg #[.int .i64 S.b, .int .i64 S.i, .int .i64 S.n, .int .i64 S.t, .slice a L.length c, .int .i64 S.al, .int .i64 S.dr] : Value) = V1
              generalize (.agg #[.int .i64 S.b, .int .i64 S.i, .int .i64 S.n, .int .i64 S.t, .slice (some ⟨g, 0, none⟩) G.length c2, .int .i64 S.al, .int .i64 S.dr] : Value) = V2
              generalize (.agg #[.string s, .int .i64 S.b, .int .i64 S.t, .int .i64 0] : Value) = V3
              have HZ4 : Hid (Blk (W2.setRow (p + 1) ([.int .i64 S.b, .int .i64 S.i, .int .i64 S.n, .int .i64 S.t, .slice a5 KX.length c5, .int .i64 S.al, .int .i64 S.dr] : List Value).toArray) (p + 1) 29 #[.int .i64 S.b, .int .i64 S.i, .int .i64 S.n, .int .i64 S.t, .slice a5 KX.length c5, .int .i64 S.al, .int .i64 S.dr]) := Lib.hid (HZ2.out.row [.int .i64 S.b, .int .i64 S.i, .int .i64 S.n, .int .i64 S.t, .slice a5 KX.length c5, .int .i64 S.al, .int .i64 S.dr])
              have HA4 := Lib.hid (apart_row (w := W2) (p + 1) ([.int .i64 S.b, .int .i64 S.i, .int .i64 S.n, .int .i64 S.t, .slice a5 KX.length c5, .int .i64 S.al, .int .i64 S.dr] : List Value).toArray)
              have HO4 := Lib.hid (own_apart HO3.out HA4.out (fun k cs hk e => (hk.ne HZ2.out (by decide)) e))
              have HB4 : Hid (Below p w (W2.setRow (p + 1) ([.int .i64 S.b, .int .i64 S.i, .int .i64 S.n, .int .i64 S.t, .slice a5 KX.length c5, .int .i64 S.al, .int .i64 S.dr] : List Value).toArray)) := Lib.hid (HB2.out.trans (HA4.out.below (by have := HB2.out.size; have := HP.out; omega) (fun k hk => by subst hk; omega)))
              refine wp_region_lit ?_
              refine wpList_load (by rfl) _ rfl rfl (loadAt_blk [.int .i64 S.b, .int .i64 S.i, .int .i64 S.n, .int .i64 S.t, .slice a5 KX.length c5, .int .i64 S.al, .int .i64 S.dr] (agg_st _) (size_st _) HX2.out) ?_
              refine wpList_store_row (by rfl) _ _ rfl rfl (by rfl) [.int .i64 S.b, .int .i64 S.i, .int .i64 S.n, .int .i64 S.t, .slice a5 KX.length c5, .int .i64 S.al, .int .i64 S.dr] (.agg #[.int .i64 S.b, .int .i64 S.i, .int .i64 S.n, .int .i64 S.t, .slice a5 KX.length c5, .int .i64 S.al, .int .i64 S.dr]) (by rfl) rfl (size_st _) HZ2.out rfl (by intro x hx; simp only [List.mem_cons, List.not_mem_nil, or_false] at hx; rcases hx with rfl | rfl | rfl | rfl | rfl | rfl | rfl <;> rfl) ?_
              generalize W2.setRow (p + 1) ([.int .i64 S.b, .int .i64 S.i, .int .i64 S.n, .int .i64 S.t, .slice a5 KX.length c5, .int .i64 S.al, .int .i64 S.dr] : List Value).toArray = W4 at *
              obtain ⟨r0, r1, r2, r3, r4, r5, r6⟩ := HZ4.out.cells7
              go_wp2_with fail
              refine bodyPost_ret (v := .agg #[.int .i64 S.b, .int .i64 S.i, .int .i64 S.n, .int .i64 S.t, .slice a5 KX.length c5, .int .i64 S.al, .int .i64 S.dr]) (by simp [results, Try.results36, go_sem, r0, r1, r2, r3, r4, r5, r6]) rfl ⟨_, rfl, by rw [← HKK.out]; exact HO4.out.base HBQ.out, by rw [HP.out]; exact HB4.out⟩

            · go_upto_region 11 with fail
              have HR1 : Hid (∀ w1, Below wr.heap.size wr w1 → Rows' RBk w1 (.slice (some ⟨g, 0, none⟩) i c2) (G.take i)) := Lib.hid (fun w1 hb => rows_take (HO2.out.rows.below hb) hi)
              go_upto_region 12 with (at_builtin; refine wpList_append_row RBk rfl _ _ rfl wr.heap.size (.slice a7 0 c7) [] rfl HO7.out (.slice (some ⟨g, 0, none⟩) i c2) (G.take i) rfl (HR1.out wr (Below.refl _ _)) (.inr ⟨g, 0, c2, by rw [List.length_take, Nat.min_eq_left hi]⟩) (by have h5 := hn1; rw [List.length_take, List.length_nil]; omega) (Nat.le_refl _) ?_; intro v3 w3 h1 h2; have H31 := Lib.hid h1; have HB3 : Hid (Below wr.heap.size wr w3) := Lib.hid ((Below.refl _ _).grown h2 (Nat.le_refl _) (fun k e => (HO7.out.lt k e).1)); clear h1 h2)
              clear x0 x1 x2 x3 x4 x5 x6
              obtain ⟨a3, c3, rfl⟩ := H31.out.isSl
              have HLE : Hid (([] ++ G.take i).length ≤ 1024) := Lib.hid (by have h5 := hn1; rw [List.nil_append, List.length_take]; omega)
              generalize hM1 : [] ++ G.take i = M1 at *
              have HM1 := Lib.hid hM1
              clear hM1
              have HBA : Hid (Below w3.heap.size w3 (w3.alloc (.cells #[.string s, .int .i64 S.b, .int .i64 S.t, .int .i64 0] 71))) := Lib.hid ((Below.refl _ _).alloc (Nat.le_refl _) _)
              have HYA : Hid (Blk (w3.alloc (.cells #[.string s, .int .i64 S.b, .int .i64 S.t, .int .i64 0] 71)) w3.heap.size 71 #[.string s, .int .i64 S.b, .int .i64 S.t, .int .i64 0]) := Lib.hid (Blk.new _ _ _)
              have HOA := Lib.hid (H31.out.below HBA.out)
              have HX3 := Lib.hid (HX2.out.keep HB3.out)
              obtain ⟨x0, x1, x2, x3, x4, x5, x6⟩ := HX3.out.cells7
              go_upto_region 13 with (at_builtin; refine wpList_append_one RBk rfl _ _ rfl wr.heap.size (.slice a3 M1.length c3) M1 M1.length rfl rfl HOA.out w3.heap.size ⟨s, S.b, S.t, 0⟩ rfl HYA.out (by have := HLE.out; first | omega | decide) (by have := HBA.out.size; have := HB3.out.size; omega) ?_; intro g4 c4 w4 h1 h2 h3; have H41 := Lib.hid h1; have HB4 := Lib.hid ((HB3.out.trans (HBA.out.mono HB3.out.size)).grown h2 (by have := HBA.out.size; have := HB3.out.size; omega) (fun k e => (HOA.out.lt k e).1)); clear h1 h2 h3)
              clear x0 x1 x2 x3 x4 x5 x6
              have HX4 := Lib.hid (HX2.out.keep HB4.out)
              have HZ4 := Lib.hid (HZ2.out.keep HB4.out)
              obtain ⟨x0, x1, x2, x3, x4, x5, x6⟩ := HX4.out.cells7
              have hf4 := HX4.out.frozen 4
              have HR2 : Hid (∀ w1, Below wr.heap.size wr w1 → Rows' RBk w1 (.slice (some ⟨g, i * 4, none⟩) (G.length - i) (c2 - i)) (G.drop i)) := Lib.hid (fun w1 hb => by have := rows_drop (HO2.out.rows.below hb) hi; rw [Nat.zero_add] at this; exact this)
              go_upto_region 14 with (at_builtin; refine wpList_append_row RBk rfl _ _ rfl wr.heap.size (.slice (some ⟨g4, 0, none⟩) (M1.length + 1) c4) (M1 ++ [⟨s, S.b, S.t, 0⟩]) rfl H41.out (.slice (some ⟨g, i * 4, none⟩) (G.length - i) (c2 - i)) (G.drop i) rfl (HR2.out w4 HB4.out) (.inr (by rw [List.length_drop]; exact ⟨g, i * 4, c2 - i, rfl⟩)) (by have h5 := hn1; have := HLE.out; rw [List.length_append, List.length_drop, List.length_singleton]; omega) HB4.out.size ?_; intro v5 w5 h1 h2; obtain ⟨KX, hKX⟩ : ∃ KX, KX = (M1 ++ [(⟨s, S.b, S.t, 0⟩ : Bk)]) ++ G.drop i := ⟨_, rfl⟩; rw [← hKX] at h1; have HKX := Lib.hid hKX; clear hKX; obtain ⟨a5, c5, rfl⟩ := h1.isSl; have H51 := Lib.hid h1; have HB5 := Lib.hid (HB4.out.grown h2 HB4.out.size (fun k e => (H41.out.lt k e).1)); have HX5 := Lib.hid (HX2.out.keep HB5.out); obtain ⟨y0, y1, y2, y3, y4, y5, y6⟩ := HX5.out.cells7; have hf5 := HX5.out.frozen 4; clear h1 h2)
              clear x0 x1 x2 x3 x4 x5 x6 hf4 y0 y1 y2 y3 y4 y5 y6 hf5
              have HZ5 := Lib.hid (HZ2.out.keep HB5.out)
              have HKK : Hid (KX = K) := Lib.hid (by
                rw [HKX.out, HKN3.out, putB_low HSTK.out HFK.out]
                show _ = G.take (lowB G s) ++ _ :: G.drop (lowB G s)
                rw [HQ.out, HQI.out, ← HM1.out]
                simp)
              have H52 := H51
              clear H51
              have HX6 : Hid (Blk (w5.setCell ⟨p, 4, none⟩ (.slice a5 KX.length c5)) p 29 #[.int .i64 S.b, .int .i64 S.i, .int .i64 S.n, .int .i64 S.t, .slice a5 KX.length c5, .int .i64 S.al, .int .i64 S.dr]) := Lib.hid (by simpa using HX5.out.set 4 (.slice a5 KX.length c5))
              have HA6 : Hid (Apart (fun k => k = p) w5 (w5.setCell ⟨p, 4, none⟩ (.slice a5 KX.length c5))) := Lib.hid (Apart.setCell (F := fun k => k = p) (p := ⟨p, 4, none⟩) Apart.refl (.inl rfl) _)
              have HZ6 := Lib.hid (HA6.out.blk HZ5.out (by omega))
              have HO6 := Lib.hid (own_apart H52.out HA6.out (fun k cs hk e => (hk.ne HX5.out (by decide)) e))
              have HB6 : Hid (Below p w (w5.setCell ⟨p, 4, none⟩ (.slice a5 KX.length c5))) := Lib.hid ((HB2.out.trans (HB5.out.mono (by have := HX2.out.lt; omega))).setCell (p := ⟨p, 4, none⟩) (Nat.le_refl _) _)
              have HBQ : Hid (B ≤ wr.heap.size) := Lib.hid (by have := HX2.out.lt; have := HBW.out; omega)
              clear HX2 HZ2 HO2 HB2 HX5 HZ5 HA6 H52
              generalize w5.setCell ⟨p, 4, none⟩ (.slice a5 KX.length c5) = W2 at *
              have HX2 := HX6
              have HZ2 := HZ6
              have HO3 := HO6
              have HB2 := HB6
              clear HX6 HZ6 HO6 HB6
              generalize (.agg #[.int .i64 S.b, .int .i64 S.i, .int .i64 S.n, .int .i64 S.t, .slice a L.length c, .int .i64 S.al, .int .i64 S.dr] : Value) = V1
              generalize (.agg #[.int .i64 S.b, .int .i64 S.i, .int .i64 S.n, .int .i64 S.t, .slice (some ⟨g, 0, none⟩) G.length c2, .int .i64 S.al, .int .i64 S.dr] : Value) = V2
              generalize (.agg #[.string s, .int .i64 S.b, .int .i64 S.t, .int .i64 0] : Value) = V3
              have HZ4 : Hid (Blk (W2.setRow (p + 1) ([.int .i64 S.b, .int .i64 S.i, .int .i64 S.n, .int .i64 S.t, .slice a5 KX.length c5, .int .i64 S.al, .int .i64 S.dr] : List Value).toArray) (p + 1) 29 #[.int .i64 S.b, .int .i64 S.i, .int .i64 S.n, .int .i64 S.t, .slice a5 KX.length c5, .int .i64 S.al, .int .i64 S.dr]) := Lib.hid (HZ2.out.row [.int .i64 S.b, .int .i64 S.i, .int .i64 S.n, .int .i64 S.t, .slice a5 KX.length c5, .int .i64 S.al, .int .i64 S.dr])
              have HA4 := Lib.hid (apart_row (w := W2) (p + 1) ([.int .i64 S.b, .int .i64 S.i, .int .i64 S.n, .int .i64 S.t, .slice a5 KX.length c5, .int .i64 S.al, .int .i64 S.dr] : List Value).toArray)
              have HO4 := Lib.hid (own_apart HO3.out HA4.out (fun k cs hk e => (hk.ne HZ2.out (by decide)) e))
              have HB4 : Hid (Below p w (W2.setRow (p + 1) ([.int .i64 S.b, .int .i64 S.i, .int .i64 S.n, .int .i64 S.t, .slice a5 KX.length c5, .int .i64 S.al, .int .i64 S.dr] : List Value).toArray)) := Lib.hid (HB2.out.trans (HA4.out.below (by have := HB2.out.size; have := HP.out; omega) (fun k hk => by subst hk; omega)))
              refine wp_region_lit ?_
              refine wpList_load (by rfl) _ rfl rfl (loadAt_blk [.int .i64 S.b, .int .i64 S.i, .int .i64 S.n, .int .i64 S.t, .slice a5 KX.length c5, .int .i64 S.al, .int .i64 S.dr] (agg_st _) (size_st _) HX2.out) ?_
              refine wpList_store_row (by rfl) _ _ rfl rfl (by rfl) [.int .i64 S.b, .int .i64 S.i, .int .i64 S.n, .int .i64 S.t, .slice a5 KX.length c5, .int .i64 S.al, .int .i64 S.dr] (.agg #[.int .i64 S.b, .int .i64 S.i, .int .i64 S.n, .int .i64 S.t, .slice a5 KX.length c5, .int .i64 S.al, .int .i64 S.dr]) (by rfl) rfl (size_st _) HZ2.out rfl (by intro x hx; simp only [List.mem_cons, List.not_mem_nil, or_false] at hx; rcases hx with rfl | rfl | rfl | rfl | rfl | rfl | rfl <;> rfl) ?_
              generalize W2.setRow (p + 1) ([.int .i64 S.b, .int .i64 S.i, .int .i64 S.n, .int .i64 S.t, .slice a5 KX.length c5, .int .i64 S.al, .int .i64 S.dr] : List Value).toArray = W4 at *
              obtain ⟨r0, r1, r2, r3, r4, r5, r6⟩ := HZ4.out.cells7
              go_wp2_with fail
              refine bodyPost_ret (v := .agg #[.int .i64 S.b, .int .i64 S.i, .int .i64 S.n, .int .i64 S.t, .slice a5 KX.length c5, .int .i64 S.al, .int .i64 S.dr]) (by simp [results, Try.results36, go_sem, r0, r1, r2, r3, r4, r5, r6]) rfl ⟨_, rfl, by rw [← HKK.out]; exact HO4.out.base HBQ.out, by rw [HP.out]; exact HB4.out⟩


  · have HKN2 : Hid (K = putB ⟨s, S.b, S.t, 0⟩ L) := Lib.hid (by rw [HKN.out, if_neg hlen])
    go_wp2_with fail
    have HX2 := HX1
    have HZ2 := HZ1
    have HO2 := HO1
    have HB2 := HB1
    have HKN3 := HKN2
    clear HX1 HZ1 HO1 HB1
    rename World => W2
    obtain ⟨v7, h7⟩ : ∃ v7, v7 = Value.slice none 0 0 := ⟨_, rfl⟩
    rw [← h7]
    have HO7 : Hid (Own RBk W2 W2.heap.size v7 []) := Lib.hid (by rw [h7]; exact Own.nil _ _)
    clear h7
    obtain ⟨a7, c7, rfl⟩ := HO7.out.isSl
    replace HO7 : Hid (Own RBk W2 W2.heap.size (.slice a7 0 c7) []) := HO7
    rw [show ([] : List Bk).length = 0 from rfl]
    go_loopw [8] (fun v8 w2 => ∃ (i : Nat), i ≤ L.length ∧ v8 = .int .i64 i ∧ Hid (∀ j y, j < i → L[j]? = some y → ltK y.k s) ∧ w2 = W2) (fun v8 _ => L.length - (intOf v8).toNat)
    case atStart => exact ⟨0, Nat.zero_le _, rfl, Lib.hid (fun j _ h => absurd h (Nat.not_lt_zero _)), rfl⟩
    case round =>
      obtain ⟨i, hi, rfl, HA, rfl⟩ := hrel
      have hn1 : L.length ≤ 1024 := HN1.out.1
      obtain ⟨q, hq⟩ : ∃ q, lowB L s = q := ⟨_, rfl⟩
      have HQ := Lib.hid hq
      clear hq
      by_cases hlt : i < L.length
      · have hlt' : (i : Int) < (L.length : Int) := by omega
        obtain ⟨ga, oa, hae, -, hc, hev⟩ := bk_at HO2.out.rows hlt
        obtain ⟨q0, -⟩ := hev wr (Below.refl _ _)
        obtain ⟨z, hz⟩ : ∃ z, L[i] = z := ⟨_, rfl⟩
        rw [hz] at q0
        have HZI : Hid (L[i]? = some z) := Lib.hid (by rw [List.getElem?_eq_getElem hlt, hz])
        clear hev hz
        by_cases hlk : ltK z.k s
        · have hls : Op.bytesLess z.k.toList s.toList = true := by rw [bytesLess_eq, Lib.toList_data, Lib.toList_data]; exact decide_eq_true hlk
          have HA2 : Hid (∀ j y, j < i + 1 → L[j]? = some y → ltK y.k s) := Lib.hid fun j y hj hy => by
            rcases Nat.lt_or_ge j i with h1 | h1
            · exact HA.out j y h1 hy
            · obtain rfl : j = i := by omega
              rw [HZI.out] at hy
              obtain rfl := Option.some.inj hy
              exact hlk
          have HAE := Lib.hid hae
          clear HA hlk
          subst hae
          go_wp2_with fail
          go_roundw
          case rel => exact ⟨i + 1, hlt, by go_num, HA2, trivial⟩
          case measure => simp [intOf]; omega
        · have hls : Op.bytesLess z.k.toList s.toList = false := by rw [bytesLess_eq, Lib.toList_data, Lib.toList_data]; exact decide_eq_false hlk
          have HQI : Hid (q = i) := Lib.hid (by rw [← HQ.out]; exact (lowB_step HZI.out (fun j hj y hy => HA.out j y hj hy)).2.2 hlk)
          clear HA hlk
          rcases HO2.out.form with ⟨ef, hN⟩ | ⟨g, cap, cur, ef, -, -, -, -⟩
          · rw [hN] at hlt
            exact absurd hlt (Nat.not_lt_zero _)
          · simp only [Value.slice.injEq] at ef
            obtain ⟨rfl, -, rfl⟩ := ef
            simp only [Option.some.injEq, Addr.mk.injEq] at hae
            obtain ⟨rfl, rfl, -⟩ := hae
            rw [Nat.zero_add] at q0
            go_upto_region 11 with fail
            clear q0
            have HR1 : Hid (∀ w1, Below wr.heap.size wr w1 → Rows' RBk w1 (.slice (some ⟨g, 0, none⟩) i c) (L.take i)) := Lib.hid (fun w1 hb => rows_take (HO2.out.rows.below hb) hi)
            go_upto_region 12 with (at_builtin; refine wpList_append_row RBk rfl _ _ rfl wr.heap.size (.slice a7 0 c7) [] rfl HO7.out (.slice (some ⟨g, 0, none⟩) i c) (L.take i) rfl (HR1.out wr (Below.refl _ _)) (.inr ⟨g, 0, c, by rw [List.length_take, Nat.min_eq_left hi]⟩) (by have h5 := hn1; rw [List.length_take, List.length_nil]; omega) (Nat.le_refl _) ?_; intro v3 w3 h1 h2; have H31 := Lib.hid h1; have HB3 : Hid (Below wr.heap.size wr w3) := Lib.hid ((Below.refl _ _).grown h2 (Nat.le_refl _) (fun k e => (HO7.out.lt k e).1)); clear h1 h2)
            clear x0 x1 x2 x3 x4 x5 x6
            obtain ⟨a3, c3, rfl⟩ := H31.out.isSl
            have HLE : Hid (([] ++ L.take i).length ≤ 1024) := Lib.hid (by have h5 := hn1; rw [List.nil_append, List.length_take]; omega)
            generalize hM1 : [] ++ L.take i = M1 at *
            have HM1 := Lib.hid hM1
            clear hM1
            have HBA : Hid (Below w3.heap.size w3 (w3.alloc (.cells #[.string s, .int .i64 S.b, .int .i64 S.t, .int .i64 0] 71))) := Lib.hid ((Below.refl _ _).alloc (Nat.le_refl _) _)
            have HYA : Hid (Blk (w3.alloc (.cells #[.string s, .int .i64 S.b, .int .i64 S.t, .int .i64 0] 71)) w3.heap.size 71 #[.string s, .int .i64 S.b, .int .i64 S.t, .int .i64 0]) := Lib.hid (Blk.new _ _ _)
            have HOA := Lib.hid (H31.out.below HBA.out)
            have HX3 := Lib.hid (HX2.out.keep HB3.out)
            obtain ⟨x0, x1, x2, x3, x4, x5, x6⟩ := HX3.out.cells7
            go_upto_region 13 with (at_builtin; refine wpList_append_one RBk rfl _ _ rfl wr.heap.size (.slice a3 M1.length c3) M1 M1.length rfl rfl HOA.out w3.heap.size ⟨s, S.b, S.t, 0⟩ rfl HYA.out (by have := HLE.out; first | omega | decide) (by have := HBA.out.size; have := HB3.out.size; omega) ?_; intro g4 c4 w4 h1 h2 h3; have H41 := Lib.hid h1; have HB4 := Lib.hid ((HB3.out.trans (HBA.out.mono HB3.out.size)).grown h2 (by have := HBA.out.size; have := HB3.out.size; omega) (fun k e => (HOA.out.lt k e).1)); clear h1 h2 h3)
            clear x0 x1 x2 x3 x4 x5 x6
            have HX4 := Lib.hid (HX2.out.keep HB4.out)
            have HZ4 := Lib.hid (HZ2.out.keep HB4.out)
            obtain ⟨x0, x1, x2, x3, x4, x5, x6⟩ := HX4.out.cells7
            have hf4 := HX4.out.frozen 4
            have HR2 : Hid (∀ w1, Below wr.heap.size wr w1 → Rows' RBk w1 (.slice (some ⟨g, i * 4, none⟩) (L.length - i) (c - i)) (L.drop i)) := Lib.hid (fun w1 hb => by have := rows_drop (HO2.out.rows.below hb) hi; rw [Nat.zero_add] at this; exact this)
            go_upto_region 14 with (at_builtin; refine wpList_append_row RBk rfl _ _ rfl wr.heap.size (.slice (some ⟨g4, 0, none⟩) (M1.length + 1) c4) (M1 ++ [⟨s, S.b, S.t, 0⟩]) rfl H41.out (.slice (some ⟨g, i * 4, none⟩) (L.length - i) (c - i)) (L.drop i) rfl (HR2.out w4 HB4.out) (.inr (by rw [List.length_drop]; exact ⟨g, i * 4, c - i, rfl⟩)) (by have h5 := hn1; have := HLE.out; rw [List.length_append, List.length_drop, List.length_singleton]; omega) HB4.out.size ?_; intro v5 w5 h1 h2; obtain ⟨KX, hKX⟩ : ∃ KX, KX = (M1 ++ [(⟨s, S.b, S.t, 0⟩ : Bk)]) ++ L.drop i := ⟨_, rfl⟩; rw [← hKX] at h1; have HKX := Lib.hid hKX; clear hKX; obtain ⟨a5, c5, rfl⟩ := h1.isSl; have H51 := Lib.hid h1; have HB5 := Lib.hid (HB4.out.grown h2 HB4.out.size (fun k e => (H41.out.lt k e).1)); have HX5 := Lib.hid (HX2.out.keep HB5.out); obtain ⟨y0, y1, y2, y3, y4, y5, y6⟩ := HX5.out.cells7; have hf5 := HX5.out.frozen 4; clear h1 h2)
            clear x0 x1 x2 x3 x4 x5 x6 hf4 y0 y1 y2 y3 y4 y5 y6 hf5
            have HZ5 := Lib.hid (HZ2.out.keep HB5.out)
            have HKK : Hid (KX = K) := Lib.hid (by
              rw [HKX.out, HKN3.out, putB_low HST.out HFN.out]
              show _ = L.take (lowB L s) ++ _ :: L.drop (lowB L s)
              rw [HQ.out, HQI.out, ← HM1.out]
              simp)
            have H52 := H51
            clear H51
            have HX6 : Hid (Blk (w5.setCell ⟨p, 4, none⟩ (.slice a5 KX.length c5)) p 29 #[.int .i64 S.b, .int .i64 S.i, .int .i64 S.n, .int .i64 S.t, .slice a5 KX.length c5, .int .i64 S.al, .int .i64 S.dr]) := Lib.hid (by simpa using HX5.out.set 4 (.slice a5 KX.length c5))
            have HA6 : Hid (Apart (fun k => k = p) w5 (w5.setCell ⟨p, 4, none⟩ (.slice a5 KX.length c5))) := Lib.hid (Apart.setCell (F := fun k => k = p) (p := ⟨p, 4, none⟩) Apart.refl (.inl rfl) _)
            have HZ6 := Lib.hid (HA6.out.blk HZ5.out (by omega))
            have HO6 := Lib.hid (own_apart H52.out HA6.out (fun k cs hk e => (hk.ne HX5.out (by decide)) e))
            have HB6 : Hid (Below p w (w5.setCell ⟨p, 4, none⟩ (.slice a5 KX.length c5))) := Lib.hid ((HB2.out.trans (HB5.out.mono (by have := HX2.out.lt; omega))).setCell (p := ⟨p, 4, none⟩) (Nat.le_refl _) _)
            have HBQ : Hid (B ≤ wr.heap.size) := Lib.hid (by have := HX2.out.lt; have := HBW.out; omega)
            clear HX2 HZ2 HO2 HB2 HX5 HZ5 HA6 H52
            generalize w5.setCell ⟨p, 4, none⟩ (.slice a5 KX.length c5) = W2 at *
            have HX2 := HX6
            have HZ2 := HZ6
            have HO3 := HO6
            have HB2 := HB6
            clear HX6 HZ6 HO6 HB6
            generalize (.agg #[.string s, .int .i64 S.b, .int .i64 S.t, .int .i64 0] : Value) = V3
            have HZ4 : Hid (Blk (W2.setRow (p + 1) ([.int .i64 S.b, .int .i64 S.i, .int .i64 S.n, .int .i64 S.t, .slice a5 KX.length c5, .int .i64 S.al, .int .i64 S.dr] : List Value).toArray) (p + 1) 29 #[.int .i64 S.b, .int .i64 S.i, .int .i64 S.n, .int .i64 S.t, .slice a5 KX.length c5, .int .i64 S.al, .int .i64 S.dr]) := Lib.hid (HZ2.out.row [.int .i64 S.b, .int .i64 S.i, .int .i64 S.n, .int .i64 S.t, .slice a5 KX.length c5, .int .i64 S.al, .int .i64 S.dr])
            have HA4 := Lib.hid (apart_row (w := W2) (p + 1) ([.int .i64 S.b, .int .i64 S.i, .int .i64 S.n, .int .i64 S.t, .slice a5 KX.length c5, .int .i64 S.al, .int .i64 S.dr] : List Value).toArray)
            have HO4 := Lib.hid (own_apart HO3.out HA4.out (fun k cs hk e => (hk.ne HZ2.out (by decide)) e))
            have HB4 : Hid (Below p w (W2.setRow (p + 1) ([.int .i64 S.b, .int .i64 S.i, .int .i64 S.n, .int .i64 S.t, .slice a5 KX.length c5, .int .i64 S.al, .int .i64 S.dr] : List Value).toArray)) := Lib.hid (HB2.out.trans (HA4.out.below (by have := HB2.out.size; have := HP.out; omega) (fun k hk => by subst hk; omega)))
            refine wp_region_lit ?_
            refine wpList_load (by rfl) _ rfl rfl (loadAt_blk [.int .i64 S.b, .int .i64 S.i, .int .i64 S.n, .int .i64 S.t, .slice a5 KX.length c5, .int .i64 S.al, .int .i64 S.dr] (agg_st _) (size_st _) HX2.out) ?_
            refine wpList_store_row (by rfl) _ _ rfl rfl (by rfl) [.int .i64 S.b, .int .i64 S.i, .int .i64 S.n, .int .i64 S.t, .slice a5 KX.length c5, .int .i64 S.al, .int .i64 S.dr] (.agg #[.int .i64 S.b, .int .i64 S.i, .int .i64 S.n, .int .i64 S.t, .slice a5 KX.length c5, .int .i64 S.al, .int .i64 S.dr]) (by rfl) rfl (size_st _) HZ2.out rfl (by intro x hx; simp only [List.mem_cons, List.not_mem_nil, or_false] at hx; rcases hx with rfl | rfl | rfl | rfl | rfl | rfl | rfl <;> rfl) ?_
            generalize W2.setRow (p + 1) ([.int .i64 S.b, .int .i64 S.i, .int .i64 S.n, .int .i64 S.t, .slice a5 KX.length c5, .int .i64 S.al, .int .i64 S.dr] : List Value).toArray = W4 at *
            obtain ⟨r0, r1, r2, r3, r4, r5, r6⟩ := HZ4.out.cells7
            go_wp2_with fail
            refine bodyPost_ret (v := .agg #[.int .i64 S.b, .int .i64 S.i, .int .i64 S.n, .int .i64 S.t, .slice a5 KX.length c5, .int .i64 S.al, .int .i64 S.dr]) (by simp [results, Try.results36, go_sem, r0, r1, r2, r3, r4, r5, r6]) rfl ⟨_, rfl, by rw [← HKK.out]; exact HO4.out.base HBQ.out, by rw [HP.out]; exact HB4.out⟩


      · have HQI : Hid (q = i) := Lib.hid (by rw [← HQ.out, lowB_end (fun j hj y hy => HA.out j y (by omega) hy)]; omega)
        have hlt' : ¬ (i : Int) < (L.length : Int) := by omega
        have hc : L.length ≤ c := by
          obtain ⟨ao, cap, e, h, _⟩ := rows_at HO2.out.rows
          simp only [Value.slice.injEq] at e
          omega
        clear HA
        rcases HO2.out.form with ⟨ef, hN⟩ | ⟨g, cap, cur, ef, -, -, -, -⟩
        · simp only [Value.slice.injEq] at ef
          obtain ⟨rfl, h0, rfl⟩ := ef
          have hi0 : i = 0 := by omega
          subst hi0
          subst hN
          clear h0 hlt hlt' hi
          clear x0 x1 x2 x3 x4 x5 x6
          replace HX2 : Hid (Blk wr p 29 #[.int .i64 S.b, .int .i64 S.i, .int .i64 S.n, .int .i64 S.t, .slice none 0 0, .int .i64 S.al, .int .i64 S.dr]) := HX2
          replace HO2 : Hid (Own RBk wr B (.slice none 0 0) []) := HO2
          obtain ⟨x0, x1, x2, x3, x4, x5, x6⟩ := HX2.out.cells7
          simp only [List.length_nil]
          go_upto_region 11 with fail
          have HR1 : Hid (∀ w1, Below wr.heap.size wr w1 → Rows' RBk w1 (.slice none 0 0) (([] : List Bk).take 0)) := Lib.hid (fun w1 _ => ⟨⟨none, 0, rfl, Nat.le_refl _, fun h => absurd rfl h⟩⟩)
          go_upto_region 12 with (at_builtin; refine wpList_append_row RBk rfl _ _ rfl wr.heap.size (.slice a7 0 c7) [] rfl HO7.out (.slice none 0 0) (([] : List Bk).take 0) rfl (HR1.out wr (Below.refl _ _)) (.inl rfl) (by have h5 := hn1; rw [List.length_take, List.length_nil]; omega) (Nat.le_refl _) ?_; intro v3 w3 h1 h2; have H31 := Lib.hid h1; have HB3 : Hid (Below wr.heap.size wr w3) := Lib.hid ((Below.refl _ _).grown h2 (Nat.le_refl _) (fun k e => (HO7.out.lt k e).1)); clear h1 h2)
          clear x0 x1 x2 x3 x4 x5 x6
          obtain ⟨a3, c3, rfl⟩ := H31.out.isSl
          have HLE : Hid (([] ++ ([] : List Bk).take 0).length ≤ 1024) := Lib.hid (by have h5 := hn1; rw [List.nil_append, List.length_take]; omega)
          generalize hM1 : [] ++ ([] : List Bk).take 0 = M1 at *
          have HM1 := Lib.hid hM1
          clear hM1
          have HBA : Hid (Below w3.heap.size w3 (w3.alloc (.cells #[.string s, .int .i64 S.b, .int .i64 S.t, .int .i64 0] 71))) := Lib.hid ((Below.refl _ _).alloc (Nat.le_refl _) _)
          have HYA : Hid (Blk (w3.alloc (.cells #[.string s, .int .i64 S.b, .int .i64 S.t, .int .i64 0] 71)) w3.heap.size 71 #[.string s, .int .i64 S.b, .int .i64 S.t, .int .i64 0]) := Lib.hid (Blk.new _ _ _)
          have HOA := Lib.hid (H31.out.below HBA.out)
          have HX3 := Lib.hid (HX2.out.keep HB3.out)
          obtain ⟨x0, x1, x2, x3, x4, x5, x6⟩ := HX3.out.cells7
          go_upto_region 13 with (at_builtin; refine wpList_append_one RBk rfl _ _ rfl wr.heap.size (.slice a3 M1.length c3) M1 M1.length rfl rfl HOA.out w3.heap.size ⟨s, S.b, S.t, 0⟩ rfl HYA.out (by have := HLE.out; first | omega | decide) (by have := HBA.out.size; have := HB3.out.size; omega) ?_; intro g4 c4 w4 h1 h2 h3; have H41 := Lib.hid h1; have HB4 := Lib.hid ((HB3.out.trans (HBA.out.mono HB3.out.size)).grown h2 (by have := HBA.out.size; have := HB3.out.size; omega) (fun k e => (HOA.out.lt k e).1)); clear h1 h2 h3)
          clear x0 x1 x2 x3 x4 x5 x6
          have HX4 := Lib.hid (HX2.out.keep HB4.out)
          have HZ4 := Lib.hid (HZ2.out.keep HB4.out)
          obtain ⟨x0, x1, x2, x3, x4, x5, x6⟩ := HX4.out.cells7
          have hf4 := HX4.out.frozen 4
          have HR2 : Hid (∀ w1, Below wr.heap.size wr w1 → Rows' RBk w1 (.slice none 0 0) (([] : List Bk).drop 0)) := Lib.hid (fun w1 _ => ⟨⟨none, 0, rfl, Nat.le_refl _, fun h => absurd rfl h⟩⟩)
          go_upto_region 14 with (at_builtin; refine wpList_append_row RBk rfl _ _ rfl wr.heap.size (.slice (some ⟨g4, 0, none⟩) (M1.length + 1) c4) (M1 ++ [⟨s, S.b, S.t, 0⟩]) rfl H41.out (.slice none 0 0) (([] : List Bk).drop 0) rfl (HR2.out w4 HB4.out) (.inl rfl) (by have h5 := hn1; have := HLE.out; rw [List.length_append, List.length_drop, List.length_singleton]; omega) HB4.out.size ?_; intro v5 w5 h1 h2; obtain ⟨KX, hKX⟩ : ∃ KX, KX = (M1 ++ [(⟨s, S.b, S.t, 0⟩ : Bk)]) ++ ([] : List Bk).drop 0 := ⟨_, rfl⟩; rw [← hKX] at h1; have HKX := Lib.hid hKX; clear hKX; obtain ⟨a5, c5, rfl⟩ := h1.isSl; have H51 := Lib.hid h1; have HB5 := Lib.hid (HB4.out.grown h2 HB4.out.size (fun k e => (H41.out.lt k e).1)); have HX5 := Lib.hid (HX2.out.keep HB5.out); obtain ⟨y0, y1, y2, y3, y4, y5, y6⟩ := HX5.out.cells7; have hf5 := HX5.out.frozen 4; clear h1 h2)
          clear x0 x1 x2 x3 x4 x5 x6 hf4 y0 y1 y2 y3 y4 y5 y6 hf5
          have HZ5 := Lib.hid (HZ2.out.keep HB5.out)
          have HKK : Hid (KX = K) := Lib.hid (by
            rw [HKX.out, HKN3.out, putB_low HST.out HFN.out]
            show _ = ([] : List Bk).take (lowB ([] : List Bk) s) ++ _ :: ([] : List Bk).drop (lowB ([] : List Bk) s)
            rw [HQ.out, HQI.out, ← HM1.out]
            simp)
          have H52 := H51
          clear H51
          have HX6 : Hid (Blk (w5.setCell ⟨p, 4, none⟩ (.slice a5 KX.length c5)) p 29 #[.int .i64 S.b, .int .i64 S.i, .int .i64 S.n, .int .i64 S.t, .slice a5 KX.length c5, .int .i64 S.al, .int .i64 S.dr]) := Lib.hid (by simpa using HX5.out.set 4 (.slice a5 KX.length c5))
          have HA6 : Hid (Apart (fun k => k = p) w5 (w5.setCell ⟨p, 4, none⟩ (.slice a5 KX.length c5))) := Lib.hid (Apart.setCell (F := fun k => k = p) (p := ⟨p, 4, none⟩) Apart.refl (.inl rfl) _)
          have HZ6 := Lib.hid (HA6.out.blk HZ5.out (by omega))
          have HO6 := Lib.hid (own_apart H52.out HA6.out (fun k cs hk e => (hk.ne HX5.out (by decide)) e))
          have HB6 : Hid (Below p w (w5.setCell ⟨p, 4, none⟩ (.slice a5 KX.length c5))) := Lib.hid ((HB2.out.trans (HB5.out.mono (by have := HX2.out.lt; omega))).setCell (p := ⟨p, 4, none⟩) (Nat.le_refl _) _)
          have HBQ : Hid (B ≤ wr.heap.size) := Lib.hid (by have := HX2.out.lt; have := HBW.out; omega)
          clear HX2 HZ2 HO2 HB2 HX5 HZ5 HA6 H52
          generalize w5.setCell ⟨p, 4, none⟩ (.slice a5 KX.length c5) = W2 at *
          have HX2 := HX6
          have HZ2 := HZ6
          have HO3 := HO6
          have HB2 := HB6
          clear HX6 HZ6 HO6 HB6
          generalize (.agg #[.string s, .int .i64 S.b, .int .i64 S.t, .int .i64 0] : Value) = V3
          have HZ4 : Hid (Blk (W2.setRow (p + 1) ([.int .i64 S.b, .int .i64 S.i, .int .i64 S.n, .int .i64 S.t, .slice a5 KX.length c5, .int .i64 S.al, .int .i64 S.dr] : List Value).toArray) (p + 1) 29 #[.int .i64 S.b, .int .i64 S.i, .int .i64 S.n, .int .i64 S.t, .slice a5 KX.length c5, .int .i64 S.al, .int .i64 S.dr]) := Lib.hid (HZ2.out.row [.int .i64 S.b, .int .i64 S.i, .int .i64 S.n, .int .i64 S.t, .slice a5 KX.length c5, .int .i64 S.al, .int .i64 S.dr])
          have HA4 := Lib.hid (apart_row (w := W2) (p + 1) ([.int .i64 S.b, .int .i64 S.i, .int .i64 S.n, .int .i64 S.t, .slice a5 KX.length c5, .int .i64 S.al, .int .i64 S.dr] : List Value).toArray)
          have HO4 := Lib.hid (own_apart HO3.out HA4.out (fun k cs hk e => (hk.ne HZ2.out (by decide)) e))
          have HB4 : Hid (Below p w (W2.setRow (p + 1) ([.int .i64 S.b, .int .i64 S.i, .int .i64 S.n, .int .i64 S.t, .slice a5 KX.length c5, .int .i64 S.al, .int .i64 S.dr] : List Value).toArray)) := Lib.hid (HB2.out.trans (HA4.out.below (by have := HB2.out.size; have := HP.out; omega) (fun k hk => by subst hk; omega)))
          refine wp_region_lit ?_
          refine wpList_load (by rfl) _ rfl rfl (loadAt_blk [.int .i64 S.b, .int .i64 S.i, .int .i64 S.n, .int .i64 S.t, .slice a5 KX.length c5, .int .i64 S.al, .int .i64 S.dr] (agg_st _) (size_st _) HX2.out) ?_
          refine wpList_store_row (by rfl) _ _ rfl rfl (by rfl) [.int .i64 S.b, .int .i64 S.i, .int .i64 S.n, .int .i64 S.t, .slice a5 KX.length c5, .int .i64 S.al, .int .i64 S.dr] (.agg #[.int .i64 S.b, .int .i64 S.i, .int .i64 S.n, .int .i64 S.t, .slice a5 KX.length c5, .int .i64 S.al, .int .i64 S.dr]) (by rfl) rfl (size_st _) HZ2.out rfl (by intro x hx; simp only [List.mem_cons, List.not_mem_nil, or_false] at hx; rcases hx with rfl | rfl | rfl | rfl | rfl | rfl | rfl <;> rfl) ?_
          generalize W2.setRow (p + 1) ([.int .i64 S.b, .int .i64 S.i, .int .i64 S.n, .int .i64 S.t, .slice a5 KX.length c5, .int .i64 S.al, .int .i64 S.dr] : List Value).toArray = W4 at *
          obtain ⟨r0, r1, r2, r3, r4, r5, r6⟩ := HZ4.out.cells7
          go_wp2_with fail
          refine bodyPost_ret (v := .agg #[.int .i64 S.b, .int .i64 S.i, .int .i64 S.n, .int .i64 S.t, .slice a5 KX.length c5, .int .i64 S.al, .int .i64 S.dr]) (by simp [results, Try.results36, go_sem, r0, r1, r2, r3, r4, r5, r6]) rfl ⟨_, rfl, by rw [← HKK.out]; exact HO4.out.base HBQ.out, by rw [HP.out]; exact HB4.out⟩

        · simp only [Value.slice.injEq] at ef
          obtain ⟨rfl, -, rfl⟩ := ef
          by_cases hci : c = i
          · subst hci
            go_upto_region 11 with fail
            have HR1 : Hid (∀ w1, Below wr.heap.size wr w1 → Rows' RBk w1 (.slice (some ⟨g, 0, none⟩) c c) (L.take c)) := Lib.hid (fun w1 hb => rows_take (HO2.out.rows.below hb) hi)
            go_upto_region 12 with (at_builtin; refine wpList_append_row RBk rfl _ _ rfl wr.heap.size (.slice a7 0 c7) [] rfl HO7.out (.slice (some ⟨g, 0, none⟩) c c) (L.take c) rfl (HR1.out wr (Below.refl _ _)) (.inr ⟨g, 0, c, by rw [List.length_take, Nat.min_eq_left hi]⟩) (by have h5 := hn1; rw [List.length_take, List.length_nil]; omega) (Nat.le_refl _) ?_; intro v3 w3 h1 h2; have H31 := Lib.hid h1; have HB3 : Hid (Below wr.heap.size wr w3) := Lib.hid ((Below.refl _ _).grown h2 (Nat.le_refl _) (fun k e => (HO7.out.lt k e).1)); clear h1 h2)
            clear x0 x1 x2 x3 x4 x5 x6
            obtain ⟨a3, c3, rfl⟩ := H31.out.isSl
            have HLE : Hid (([] ++ L.take c).length ≤ 1024) := Lib.hid (by have h5 := hn1; rw [List.nil_append, List.length_take]; omega)
            generalize hM1 : [] ++ L.take c = M1 at *
            have HM1 := Lib.hid hM1
            clear hM1
            have HBA : Hid (Below w3.heap.size w3 (w3.alloc (.cells #[.string s, .int .i64 S.b, .int .i64 S.t, .int .i64 0] 71))) := Lib.hid ((Below.refl _ _).alloc (Nat.le_refl _) _)
            have HYA : Hid (Blk (w3.alloc (.cells #[.string s, .int .i64 S.b, .int .i64 S.t, .int .i64 0] 71)) w3.heap.size 71 #[.string s, .int .i64 S.b, .int .i64 S.t, .int .i64 0]) := Lib.hid (Blk.new _ _ _)
            have HOA := Lib.hid (H31.out.below HBA.out)
            have HX3 := Lib.hid (HX2.out.keep HB3.out)
            obtain ⟨x0, x1, x2, x3, x4, x5, x6⟩ := HX3.out.cells7
            go_upto_region 13 with (at_builtin; refine wpList_append_one RBk rfl _ _ rfl wr.heap.size (.slice a3 M1.length c3) M1 M1.length rfl rfl HOA.out w3.heap.size ⟨s, S.b, S.t, 0⟩ rfl HYA.out (by have := HLE.out; first | omega | decide) (by have := HBA.out.size; have := HB3.out.size; omega) ?_; intro g4 c4 w4 h1 h2 h3; have H41 := Lib.hid h1; have HB4 := Lib.hid ((HB3.out.trans (HBA.out.mono HB3.out.size)).grown h2 (by have := HBA.out.size; have := HB3.out.size; omega) (fun k e => (HOA.out.lt k e).1)); clear h1 h2 h3)
            clear x0 x1 x2 x3 x4 x5 x6
            have HX4 := Lib.hid (HX2.out.keep HB4.out)
            have HZ4 := Lib.hid (HZ2.out.keep HB4.out)
            obtain ⟨x0, x1, x2, x3, x4, x5, x6⟩ := HX4.out.cells7
            have hf4 := HX4.out.frozen 4
            have HR2 : Hid (∀ w1, Below wr.heap.size wr w1 → Rows' RBk w1 (.slice (some ⟨g, 0, none⟩) 0 0) (L.drop c)) := Lib.hid (fun w1 hb => by have := rows_dropIf (HO2.out.rows.below hb) hi; rw [if_pos rfl, Nat.sub_self, show L.length - c = 0 by omega] at this; exact this)
            go_upto_region 14 with (at_builtin; refine wpList_append_row RBk rfl _ _ rfl wr.heap.size (.slice (some ⟨g4, 0, none⟩) (M1.length + 1) c4) (M1 ++ [⟨s, S.b, S.t, 0⟩]) rfl H41.out (.slice (some ⟨g, 0, none⟩) 0 0) (L.drop c) rfl (HR2.out w4 HB4.out) (.inr (by rw [List.length_drop]; exact ⟨g, 0, 0, by rw [show L.length - c = 0 by omega]⟩)) (by have h5 := hn1; have := HLE.out; rw [List.length_append, List.length_drop, List.length_singleton]; omega) HB4.out.size ?_; intro v5 w5 h1 h2; obtain ⟨KX, hKX⟩ : ∃ KX, KX = (M1 ++ [(⟨s, S.b, S.t, 0⟩ : Bk)]) ++ L.drop c := ⟨_, rfl⟩; rw [← hKX] at h1; have HKX := Lib.hid hKX; clear hKX; obtain ⟨a5, c5, rfl⟩ := h1.isSl; have H51 := Lib.hid h1; have HB5 := Lib.hid (HB4.out.grown h2 HB4.out.size (fun k e => (H41.out.lt k e).1)); have HX5 := Lib.hid (HX2.out.keep HB5.out); obtain ⟨y0, y1, y2, y3, y4, y5, y6⟩ := HX5.out.cells7; have hf5 := HX5.out.frozen 4; clear h1 h2)
            clear x0 x1 x2 x3 x4 x5 x6 hf4 y0 y1 y2 y3 y4 y5 y6 hf5
            have HZ5 := Lib.hid (HZ2.out.keep HB5.out)
            have HKK : Hid (KX = K) := Lib.hid (by
              rw [HKX.out, HKN3.out, putB_low HST.out HFN.out]
              show _ = L.take (lowB L s) ++ _ :: L.drop (lowB L s)
              rw [HQ.out, HQI.out, ← HM1.out]
              simp)
            have H52 := H51
            clear H51
            have HX6 : Hid (Blk (w5.setCell ⟨p, 4, none⟩ (.slice a5 KX.length c5)) p 29 #[.int .i64 S.b, .int .i64 S.i, .int .i64 S.n, .int .i64 S.t, .slice a5 KX.length c5, .int .i64 S.al, .int .i64 S.dr]) := Lib.hid (by simpa using HX5.out.set 4 (.slice a5 KX.length c5))
            have HA6 : Hid (Apart (fun k => k = p) w5 (w5.setCell ⟨p, 4, none⟩ (.slice a5 KX.length c5))) := Lib.hid (Apart.setCell (F := fun k => k = p) (p := ⟨p, 4, none⟩) Apart.refl (.inl rfl) _)
            have HZ6 := Lib.hid (HA6.out.blk HZ5.out (by omega))
            have HO6 := Lib.hid (own_apart H52.out HA6.out (fun k cs hk e => (hk.ne HX5.out (by decide)) e))
            have HB6 : Hid (Below p w (w5.setCell ⟨p, 4, none⟩ (.slice a5 KX.length c5))) := Lib.hid ((HB2.out.trans (HB5.out.mono (by have := HX2.out.lt; omega))).setCell (p := ⟨p, 4, none⟩) (Nat.le_refl _) _)
            have HBQ : Hid (B ≤ wr.heap.size) := Lib.hid (by have := HX2.out.lt; have := HBW.out; omega)
            clear HX2 HZ2 HO2 HB2 HX5 HZ5 HA6 H52
            generalize w5.setCell ⟨p, 4, none⟩ (.slice a5 KX.length c5) = W2 at *
            have HX2 := HX6
            have HZ2 := HZ6
            have HO3 := HO6
            have HB2 := HB6
            clear HX6 HZ6 HO6 HB6
            generalize (.agg #[.string s, .int .i64 S.b, .int .i64 S.t, .int .i64 0] : Value) = V3
            have HZ4 : Hid (Blk (W2.setRow (p + 1) ([.int .i64 S.b, .int .i64 S.i, .int .i64 S.n, .int .i64 S.t, .slice a5 KX.length c5, .int .i64 S.al, .int .i64 S.dr] : List Value).toArray) (p + 1) 29 #[.int .i64 S.b, .int .i64 S.i, .int .i64 S.n, .int .i64 S.t, .slice a5 KX.length c5, .int .i64 S.al, .int .i64 S.dr]) := Lib.hid (HZ2.out.row [.int .i64 S.b, .int .i64 S.i, .int .i64 S.n, .int .i64 S.t, .slice a5 KX.length c5, .int .i64 S.al, .int .i64 S.dr])
            have HA4 := Lib.hid (apart_row (w := W2) (p + 1) ([.int .i64 S.b, .int .i64 S.i, .int .i64 S.n, .int .i64 S.t, .slice a5 KX.length c5, .int .i64 S.al, .int .i64 S.dr] : List Value).toArray)
            have HO4 := Lib.hid (own_apart HO3.out HA4.out (fun k cs hk e => (hk.ne HZ2.out (by decide)) e))
            have HB4 : Hid (Below p w (W2.setRow (p + 1) ([.int .i64 S.b, .int .i64 S.i, .int .i64 S.n, .int .i64 S.t, .slice a5 KX.length c5, .int .i64 S.al, .int .i64 S.dr] : List Value).toArray)) := Lib.hid (HB2.out.trans (HA4.out.below (by have := HB2.out.size; have := HP.out; omega) (fun k hk => by subst hk; omega)))
            refine wp_region_lit ?_
            refine wpList_load (by rfl) _ rfl rfl (loadAt_blk [.int .i64 S.b, .int .i64 S.i, .int .i64 S.n, .int .i64 S.t, .slice a5 KX.length c5, .int .i64 S.al, .int .i64 S.dr] (agg_st _) (size_st _) HX2.out) ?_
            refine wpList_store_row (by rfl) _ _ rfl rfl (by rfl) [.int .i64 S.b, .int .i64 S.i, .int .i64 S.n, .int .i64 S.t, .slice a5 KX.length c5, .int .i64 S.al, .int .i64 S.dr] (.agg #[.int .i64 S.b, .int .i64 S.i, .int .i64 S.n, .int .i64 S.t, .slice a5 KX.length c5, .int .i64 S.al, .int .i64 S.dr]) (by rfl) rfl (size_st _) HZ2.out rfl (by intro x hx; simp only [List.mem_cons, List.not_mem_nil, or_false] at hx; rcases hx with rfl | rfl | rfl | rfl | rfl | rfl | rfl <;> rfl) ?_
            generalize W2.setRow (p + 1) ([.int .i64 S.b, .int .i64 S.i, .int .i64 S.n, .int .i64 S.t, .slice a5 KX.length c5, .int .i64 S.al, .int .i64 S.dr] : List Value).toArray = W4 at *
            obtain ⟨r0, r1, r2, r3, r4, r5, r6⟩ := HZ4.out.cells7
            go_wp2_with fail
            refine bodyPost_ret (v := .agg #[.int .i64 S.b, .int .i64 S.i, .int .i64 S.n, .int .i64 S.t, .slice a5 KX.length c5, .int .i64 S.al, .int .i64 S.dr]) (by simp [results, Try.results36, go_sem, r0, r1, r2, r3, r4, r5, r6]) rfl ⟨_, rfl, by rw [← HKK.out]; exact HO4.out.base HBQ.out, by rw [HP.out]; exact HB4.out⟩

          · go_upto_region 11 with fail
            have HR1 : Hid (∀ w1, Below wr.heap.size wr w1 → Rows' RBk w1 (.slice (some ⟨g, 0, none⟩) i c) (L.take i)) := Lib.hid (fun w1 hb => rows_take (HO2.out.rows.below hb) hi)
            go_upto_region 12 with (at_builtin; refine wpList_append_row RBk rfl _ _ rfl wr.heap.size (.slice a7 0 c7) [] rfl HO7.out (.slice (some ⟨g, 0, none⟩) i c) (L.take i) rfl (HR1.out wr (Below.refl _ _)) (.inr ⟨g, 0, c, by rw [List.length_take, Nat.min_eq_left hi]⟩) (by have h5 := hn1; rw [List.length_take, List.length_nil]; omega) (Nat.le_refl _) ?_; intro v3 w3 h1 h2; have H31 := Lib.hid h1; have HB3 : Hid (Below wr.heap.size wr w3) := Lib.hid ((Below.refl _ _).grown h2 (Nat.le_refl _) (fun k e => (HO7.out.lt k e).1)); clear h1 h2)
            clear x0 x1 x2 x3 x4 x5 x6
            obtain ⟨a3, c3, rfl⟩ := H31.out.isSl
            have HLE : Hid (([] ++ L.take i).length ≤ 1024) := Lib.hid (by have h5 := hn1; rw [List.nil_append, List.length_take]; omega)
            generalize hM1 : [] ++ L.take i = M1 at *
            have HM1 := Lib.hid hM1
            clear hM1
            have HBA : Hid (Below w3.heap.size w3 (w3.alloc (.cells #[.string s, .int .i64 S.b, .int .i64 S.t, .int .i64 0] 71))) := Lib.hid ((Below.refl _ _).alloc (Nat.le_refl _) _)
            have HYA : Hid (Blk (w3.alloc (.cells #[.string s, .int .i64 S.b, .int .i64 S.t, .int .i64 0] 71)) w3.heap.size 71 #[.string s, .int .i64 S.b, .int .i64 S.t, .int .i64 0]) := Lib.hid (Blk.new _ _ _)
            have HOA := Lib.hid (H31.out.below HBA.out)
            have HX3 := Lib.hid (HX2.out.keep HB3.out)
            obtain ⟨x0, x1, x2, x3, x4, x5, x6⟩ := HX3.out.cells7
            go_upto_region 13 with (at_builtin; refine wpList_append_one RBk rfl _ _ rfl wr.heap.size (.slice a3 M1.length c3) M1 M1.length rfl rfl HOA.out w3.heap.size ⟨s, S.b, S.t, 0⟩ rfl HYA.out (by have := HLE.out; first | omega | decide) (by have := HBA.out.size; have := HB3.out.size; omega) ?_; intro g4 c4 w4 h1 h2 h3; have H41 := Lib.hid h1; have HB4 := Lib.hid ((HB3.out.trans (HBA.out.mono HB3.out.size)).grown h2 (by have := HBA.out.size; have := HB3.out.size; omega) (fun k e => (HOA.out.lt k e).1)); clear h1 h2 h3)
            clear x0 x1 x2 x3 x4 x5 x6
            have HX4 := Lib.hid (HX2.out.keep HB4.out)
            have HZ4 := Lib.hid (HZ2.out.keep HB4.out)
            obtain ⟨x0, x1, x2, x3, x4, x5, x6⟩ := HX4.out.cells7
            have hf4 := HX4.out.frozen 4
            have HR2 : Hid (∀ w1, Below wr.heap.size wr w1 → Rows' RBk w1 (.slice (some ⟨g, i * 4, none⟩) (L.length - i) (c - i)) (L.drop i)) := Lib.hid (fun w1 hb => by have := rows_drop (HO2.out.rows.below hb) hi; rw [Nat.zero_add] at this; exact this)
            go_upto_region 14 with (at_builtin; refine wpList_append_row RBk rfl _ _ rfl wr.heap.size (.slice (some ⟨g4, 0, none⟩) (M1.length + 1) c4) (M1 ++ [⟨s, S.b, S.t, 0⟩]) rfl H41.out (.slice (some ⟨g, i * 4, none⟩) (L.length - i) (c - i)) (L.drop i) rfl (HR2.out w4 HB4.out) (.inr (by rw [List.length_drop]; exact ⟨g, i * 4, c - i, rfl⟩)) (by have h5 := hn1; have := HLE.out; rw [List.length_append, List.length_drop, List.length_singleton]; omega) HB4.out.size ?_; intro v5 w5 h1 h2; obtain ⟨KX, hKX⟩ : ∃ KX, KX = (M1 ++ [(⟨s, S.b, S.t, 0⟩ : Bk)]) ++ L.drop i := ⟨_, rfl⟩; rw [← hKX] at h1; have HKX := Lib.hid hKX; clear hKX; obtain ⟨a5, c5, rfl⟩ := h1.isSl; have H51 := Lib.hid h1; have HB5 := Lib.hid (HB4.out.grown h2 HB4.out.size (fun k e => (H41.out.lt k e).1)); have HX5 := Lib.hid (HX2.out.keep HB5.out); obtain ⟨y0, y1, y2, y3, y4, y5, y6⟩ := HX5.out.cells7; have hf5 := HX5.out.frozen 4; clear h1 h2)
            clear x0 x1 x2 x3 x4 x5 x6 hf4 y0 y1 y2 y3 y4 y5 y6 hf5
            have HZ5 := Lib.hid (HZ2.out.keep HB5.out)
            have HKK : Hid (KX = K) := Lib.hid (by
              rw [HKX.out, HKN3.out, putB_low HST.out HFN.out]
              show _ = L.take (lowB L s) ++ _ :: L.drop (lowB L s)
              rw [HQ.out, HQI.out, ← HM1.out]
              simp)
            have H52 := H51
            clear H51
            have HX6 : Hid (Blk (w5.setCell ⟨p, 4, none⟩ (.slice a5 KX.length c5)) p 29 #[.int .i64 S.b, .int .i64 S.i, .int .i64 S.n, .int .i64 S.t, .slice a5 KX.length c5, .int .i64 S.al, .int .i64 S.dr]) := Lib.hid (by simpa using HX5.out.set 4 (.slice a5 KX.length c5))
            have HA6 : Hid (Apart (fun k => k = p) w5 (w5.setCell ⟨p, 4, none⟩ (.slice a5 KX.length c5))) := Lib.hid (Apart.setCell (F := fun k => k = p) (p := ⟨p, 4, none⟩) Apart.refl (.inl rfl) _)
            have HZ6 := Lib.hid (HA6.out.blk HZ5.out (by omega))
            have HO6 := Lib.hid (own_apart H52.out HA6.out (fun k cs hk e => (hk.ne HX5.out (by decide)) e))
            have HB6 : Hid (Below p w (w5.setCell ⟨p, 4, none⟩ (.slice a5 KX.length c5))) := Lib.hid ((HB2.out.trans (HB5.out.mono (by have := HX2.out.lt; omega))).setCell (p := ⟨p, 4, none⟩) (Nat.le_refl _) _)
            have HBQ : Hid (B ≤ wr.heap.size) := Lib.hid (by have := HX2.out.lt; have := HBW.out; omega)
            clear HX2 HZ2 HO2 HB2 HX5 HZ5 HA6 H52
            generalize w5.setCell ⟨p, 4, none⟩ (.slice a5 KX.length c5) = W2 at *
            have HX2 := HX6
            have HZ2 := HZ6
            have HO3 := HO6
            have HB2 := HB6
            clear HX6 HZ6 HO6 HB6
            generalize (.agg #[.string s, .int .i64 S.b, .int .i64 S.t, .int .i64 0] : Value) = V3
            have HZ4 : Hid (Blk (W2.setRow (p + 1) ([.int .i64 S.b, .int .i64 S.i, .int .i64 S.n, .int .i64 S.t, .slice a5 KX.length c5, .int .i64 S.al, .int .i64 S.dr] : List Value).toArray) (p + 1) 29 #[.int .i64 S.b, .int .i64 S.i, .int .i64 S.n, .int .i64 S.t, .slice a5 KX.length c5, .int .i64 S.al, .int .i64 S.dr]) := Lib.hid (HZ2.out.row [.int .i64 S.b, .int .i64 S.i, .int .i64 S.n, .int .i64 S.t, .slice a5 KX.length c5, .int .i64 S.al, .int .i64 S.dr])
            have HA4 := Lib.hid (apart_row (w := W2) (p + 1) ([.int .i64 S.b, .int .i64 S.i, .int .i64 S.n, .int .i64 S.t, .slice a5 KX.length c5, .int .i64 S.al, .int .i64 S.dr] : List Value).toArray)
            have HO4 := Lib.hid (own_apart HO3.out HA4.out (fun k cs hk e => (hk.ne HZ2.out (by decide)) e))
            have HB4 : Hid (Below p w (W2.setRow (p + 1) ([.int .i64 S.b, .int .i64 S.i, .int .i64 S.n, .int .i64 S.t, .slice a5 KX.length c5, .int .i64 S.al, .int .i64 S.dr] : List Value).toArray)) := Lib.hid (HB2.out.trans (HA4.out.below (by have := HB2.out.size; have := HP.out; omega) (fun k hk => by subst hk; omega)))
            refine wp_region_lit ?_
            refine wpList_load (by rfl) _ rfl rfl (loadAt_blk [.int .i64 S.b, .int .i64 S.i, .int .i64 S.n, .int .i64 S.t, .slice a5 KX.length c5, .int .i64 S.al, .int .i64 S.dr] (agg_st _) (size_st _) HX2.out) ?_
            refine wpList_store_row (by rfl) _ _ rfl rfl (by rfl) [.int .i64 S.b, .int .i64 S.i, .int .i64 S.n, .int .i64 S.t, .slice a5 KX.length c5, .int .i64 S.al, .int .i64 S.dr] (.agg #[.int .i64 S.b, .int .i64 S.i, .int .i64 S.n, .int .i64 S.t, .slice a5 KX.length c5, .int .i64 S.al, .int .i64 S.dr]) (by rfl) rfl (size_st _) HZ2.out rfl (by intro x hx; simp only [List.mem_cons, List.not_mem_nil, or_false] at hx; rcases hx with rfl | rfl | rfl | rfl | rfl | rfl | rfl <;> rfl) ?_
            generalize W2.setRow (p + 1) ([.int .i64 S.b, .int .i64 S.i, .int .i64 S.n, .int .i64 S.t, .slice a5 KX.length c5, .int .i64 S.al, .int .i64 S.dr] : List Value).toArray = W4 at *
            obtain ⟨r0, r1, r2, r3, r4, r5, r6⟩ := HZ4.out.cells7
            go_wp2_with fail
            refine bodyPost_ret (v := .agg #[.int .i64 S.b, .int .i64 S.i, .int .i64 S.n, .int .i64 S.t, .slice a5 KX.length c5, .int .i64 S.al, .int .i64 S.dr]) (by simp [results, Try.results36, go_sem, r0, r1, r2, r3, r4, r5, r6]) rfl ⟨_, rfl, by rw [← HKK.out]; exact HO4.out.base HBQ.out, by rw [HP.out]; exact HB4.out⟩


end
end Go.Proofs.Ytcainohglmgdpaa
