/- What a set of names means: meaning of the program, called with the function literals of Types and of listed. Condition: at most a million names and symbols. -/
import Derived.Test.YtbkejoheefnmiaaNsg
import Derived.Deep.DeepCutAuto
namespace Go.Proofs.Ytbkejoheefnmiaa
open Go.RowKit
theorem Blk.five {w : World} {g : Nat} {t : TypeId} {a b c d e : Value} (h : Blk w g t #[a, b, c, d, e]) : w.cell? ⟨g, 0, none⟩ = some a ∧ w.cell? ⟨g, 1, none⟩ = some b ∧ w.cell? ⟨g, 2, none⟩ = some c ∧ w.cell? ⟨g, 3, none⟩ = some d ∧ w.cell? ⟨g, 4, none⟩ = some e := ⟨h.cell 0, h.cell 1, h.cell 2, h.cell 3, h.cell 4⟩
/-- what a set of names means over so many symbols, from what its two lists mean -/
def combS (al no : Bool) (cnt : Int) (I O : S4) : S4 := if no then (allS cnt).sub ((if al then I.or (allS cnt) else I).sub O) else (if al then I.or (allS cnt) else I).sub O
theorem lt_help {a b c : Nat} (h : b = a + 2) (h2 : b ≤ c) : a + 1 < c := by omega
def meanB (g : ByteArray → Bool) (N E : List ByteArray) : Bool := unB g N && unB g E
def meanS (al no : Bool) (cnt : Int) (f : ByteArray → S4) (g : ByteArray → Bool) (N E : List ByteArray) : S4 := if unB g N && unB g E then combS al no cnt (unS f g N) (unS f g E) else S4.zero
set_option maxRecDepth 100000 in
set_option maxHeartbeats 8000000 in
theorem meaning_t (ge : Nat) (fS : ByteArray → S4) (fB : ByteArray → Bool) (al no sf : Bool) (vN vE : Value) (N E : List ByteArray) (cnt : Int) (w : World) (hN : Strs w vN N) (hE : Strs w vE E) (hn : N.length ≤ 1000000) (hn2 : E.length ≤ 1000000) (hc0 : 0 ≤ cnt) (hc1 : cnt ≤ 1000000)
    (hF : ∀ n W, Kp w W → Calls Try.prog 38 #[.string n, .pointer (some ⟨ge, 0, none⟩)] W (SetOut (fS n) (fB n) W)) :
    Calls Try.prog 37 #[.agg #[.bool al, .bool no, .bool sf, vN, vE], .int .i64 cnt, .func (.func 38) #[] #[.pointer (some ⟨ge, 0, none⟩)]] w (SetOut (meanS al no cnt fS fB N E) (meanB fB N E) w) := by
  have hW : Kp w ((w.alloc (.cells #[.bool al, .bool no, .bool sf, vN, vE] 29)).alloc (.cells #[.int .u64 0, .int .u64 0, .int .u64 0, .int .u64 0] 35)) := ((Below.refl _ _).alloc (Nat.le_refl _) _).alloc (by simp) _
  have hNS : Blk ((w.alloc (.cells #[.bool al, .bool no, .bool sf, vN, vE] 29)).alloc (.cells #[.int .u64 0, .int .u64 0, .int .u64 0, .int .u64 0] 35)) w.heap.size 29 #[.bool al, .bool no, .bool sf, vN, vE] := (Blk.new w _ _).alloc _
  have hQ6 : Quad ((w.alloc (.cells #[.bool al, .bool no, .bool sf, vN, vE] 29)).alloc (.cells #[.int .u64 0, .int .u64 0, .int .u64 0, .int .u64 0] 35)) (w.heap.size + 1) 0 0 0 0 := by
    have := Quad.new (w.alloc (.cells #[.bool al, .bool no, .bool sf, vN, vE] 29)) 0 0 0 0
    rwa [show (w.alloc (.cells #[.bool al, .bool no, .bool sf, vN, vE] 29)).heap.size = w.heap.size + 1 by simp] at this
  have HU1 := Lib.hid (fun W (h : Kp w W) => union_t ge fS fB vN N W (hN.keep h) hn (fun n W' h' => hF n W' (Kp.step h h')))
  have HU2 := Lib.hid (fun W (h : Kp w W) => union_t ge fS fB vE E W (hE.keep h) hn2 (fun n W' h' => hF n W' (Kp.step h h')))
  clear hF hN hE
  obtain ⟨B1, hB1⟩ : ∃ B, unB fB N = B := ⟨_, rfl⟩
  obtain ⟨B2, hB2⟩ : ∃ B, unB fB E = B := ⟨_, rfl⟩
  obtain ⟨I, hI⟩ : ∃ S, unS fS fB N = S := ⟨_, rfl⟩
  obtain ⟨O, hO⟩ : ∃ S, unS fS fB E = S := ⟨_, rfl⟩
  obtain ⟨A, hA⟩ : ∃ S, allS cnt = S := ⟨_, rfl⟩
  unfold meanS meanB combS
  rw [hB1, hI] at HU1
  rw [hB2, hO] at HU2
  rw [hB1, hB2, hI, hO, hA]
  clear hB1 hB2 hI hO
  have HAC := Lib.hid (fun W => allS_c cnt W (by omega) (by omega))
  rw [hA] at HAC
  clear hA
  obtain ⟨X, hX⟩ : ∃ X, (if al then I.or A else I) = X := ⟨_, rfl⟩
  obtain ⟨M, hM⟩ : ∃ M, X.sub O = M := ⟨_, rfl⟩
  obtain ⟨R, hR⟩ : ∃ R, (if no then A.sub M else M) = R := ⟨_, rfl⟩
  rw [hX, hM, hR]
  have HUN : Hid (al = true → ∀ W, Calls Try.prog 50 #[.agg #[.int .u64 I.a, .int .u64 I.b, .int .u64 I.c, .int .u64 I.d], .agg #[.int .u64 A.a, .int .u64 A.b, .int .u64 A.c, .int .u64 A.d]] W fun e w' => e = .returned (.agg #[.int .u64 X.a, .int .u64 X.b, .int .u64 X.c, .int .u64 X.d]) ∧ Below W.heap.size W w') := Lib.hid fun h W => by
    rw [← hX, if_pos h]; exact union_c I.a I.b I.c I.d A.a A.b A.c A.d W
  have HMN : Hid (∀ W, Calls Try.prog 51 #[.agg #[.int .u64 X.a, .int .u64 X.b, .int .u64 X.c, .int .u64 X.d], .agg #[.int .u64 O.a, .int .u64 O.b, .int .u64 O.c, .int .u64 O.d]] W fun e w' => e = .returned (.agg #[.int .u64 M.a, .int .u64 M.b, .int .u64 M.c, .int .u64 M.d]) ∧ Below W.heap.size W w') := Lib.hid fun W => by
    rw [← hM]; exact minus_c X.a X.b X.c X.d O.a O.b O.c O.d W
  have HMR : Hid (no = true → ∀ W, Calls Try.prog 51 #[.agg #[.int .u64 A.a, .int .u64 A.b, .int .u64 A.c, .int .u64 A.d], .agg #[.int .u64 M.a, .int .u64 M.b, .int .u64 M.c, .int .u64 M.d]] W fun e w' => e = .returned (.agg #[.int .u64 R.a, .int .u64 R.b, .int .u64 R.c, .int .u64 R.d]) ∧ Below W.heap.size W w') := Lib.hid fun h W => by
    rw [← hR, if_pos h]; exact minus_c A.a A.b A.c A.d M.a M.b M.c M.d W
  have HXI : Hid (al = false → I = X) := Lib.hid fun h => by rw [← hX, h]; rfl
  have HRM : Hid (no = false → M = R) := Lib.hid fun h => by rw [← hR, h]; rfl
  clear hX hM hR
  obtain ⟨y0, y1, y2, y3, y4⟩ := hNS.five
  have HNS := Lib.hid hNS
  have HQ6 := Lib.hid hQ6
  have HW := Lib.hid hW
  clear hNS hQ6 hW
  have hsz : ((w.alloc (.cells #[.bool al, .bool no, .bool sf, vN, vE] 29)).alloc (.cells #[.int .u64 0, .int .u64 0, .int .u64 0, .int .u64 0] 35)).heap.size = w.heap.size + 2 := by simp
  have hcase : B1 = false ∨ B1 = true ∧ B2 = false ∨ B1 = true ∧ B2 = true ∧ al = true ∧ no = true ∨ B1 = true ∧ B2 = true ∧ al = true ∧ no = false ∨ B1 = true ∧ B2 = true ∧ al = false ∧ no = true ∨ B1 = true ∧ B2 = true ∧ al = false ∧ no = false := by
    cases B1 <;> cases B2 <;> cases al <;> cases no <;> simp
  have HSZ := Lib.hid hsz
  clear hsz
  rcases hcase with rfl | ⟨rfl, rfl⟩ | ⟨rfl, rfl, rfl, rfl⟩ | ⟨rfl, rfl, rfl, rfl⟩ | ⟨rfl, rfl, rfl, rfl⟩ | ⟨rfl, rfl, rfl, rfl⟩
  · go_enter Try.func37, Try.ntmps37
    go_wp2_with fail
    refine (HU1.out _ HW.out).mono ?_
    rintro e w1 ⟨rfl, hb1⟩
    have HW1 := Lib.hid ((Kp.step HW.out hb1).alloc (.cells #[.int .u64 (I).a, .int .u64 (I).b, .int .u64 (I).c, .int .u64 (I).d] 35))
    replace HNS := Lib.hid (HNS.out.keep hb1 |>.alloc (.cells #[.int .u64 (I).a, .int .u64 (I).b, .int .u64 (I).c, .int .u64 (I).d] 35))
    replace HQ6 := Lib.hid (HQ6.out.keep hb1 |>.alloc (.cells #[.int .u64 (I).a, .int .u64 (I).b, .int .u64 (I).c, .int .u64 (I).d] 35))
    have hl8 : w.heap.size + 1 < w1.heap.size := lt_help HSZ.out hb1.size
    have HQ8 := Lib.hid (Quad.new w1 I.a I.b I.c I.d)
    clear y0 y1 y2 y3 y4 hb1
    obtain ⟨y0, y1, y2, y3, y4⟩ := HNS.out.five
    go_wp2_with fail
    refine (HU2.out _ HW1.out).mono ?_
    rintro e w2 ⟨rfl, hb2⟩
    have HW2 := Lib.hid ((Kp.step HW1.out hb2).alloc (.cells #[.int .u64 (O).a, .int .u64 (O).b, .int .u64 (O).c, .int .u64 (O).d] 35))
    have hl10 : w1.heap.size < w2.heap.size := (HQ8.out.keep hb2).lt
    replace HNS := Lib.hid (HNS.out.keep hb2 |>.alloc (.cells #[.int .u64 (O).a, .int .u64 (O).b, .int .u64 (O).c, .int .u64 (O).d] 35))
    replace HQ6 := Lib.hid (HQ6.out.keep hb2 |>.alloc (.cells #[.int .u64 (O).a, .int .u64 (O).b, .int .u64 (O).c, .int .u64 (O).d] 35))
    replace HQ8 := Lib.hid (HQ8.out.keep hb2 |>.alloc (.cells #[.int .u64 (O).a, .int .u64 (O).b, .int .u64 (O).c, .int .u64 (O).d] 35))
    have HQ10 := Lib.hid (Quad.new w2 O.a O.b O.c O.d)
    clear y0 y1 y2 y3 y4 hb2
    obtain ⟨y0, y1, y2, y3, y4⟩ := HNS.out.five
    obtain ⟨c0, c1, c2, c3, c4, c5, c6, c7⟩ := HQ6.out.facts
    go_wp2_with fail
    obtain ⟨r0, r1, r2, r3⟩ := quad_box (HQ6.out.set4 0 0 0 0)
    exact bodyPost_ret (v := .tuple #[.agg #[.int .u64 0, .int .u64 0, .int .u64 0, .int .u64 0], .bool false]) (by simp [results, Try.results37, go_sem, r0, r1, r2, r3]) rfl ⟨rfl, below_set4 HW2.out (Nat.le_succ _) _ _ _ _⟩
  · go_enter Try.func37, Try.ntmps37
    go_wp2_with fail
    refine (HU1.out _ HW.out).mono ?_
    rintro e w1 ⟨rfl, hb1⟩
    have HW1 := Lib.hid ((Kp.step HW.out hb1).alloc (.cells #[.int .u64 (I).a, .int .u64 (I).b, .int .u64 (I).c, .int .u64 (I).d] 35))
    replace HNS := Lib.hid (HNS.out.keep hb1 |>.alloc (.cells #[.int .u64 (I).a, .int .u64 (I).b, .int .u64 (I).c, .int .u64 (I).d] 35))
    replace HQ6 := Lib.hid (HQ6.out.keep hb1 |>.alloc (.cells #[.int .u64 (I).a, .int .u64 (I).b, .int .u64 (I).c, .int .u64 (I).d] 35))
    have hl8 : w.heap.size + 1 < w1.heap.size := lt_help HSZ.out hb1.size
    have HQ8 := Lib.hid (Quad.new w1 I.a I.b I.c I.d)
    clear y0 y1 y2 y3 y4 hb1
    obtain ⟨y0, y1, y2, y3, y4⟩ := HNS.out.five
    go_wp2_with fail
    refine (HU2.out _ HW1.out).mono ?_
    rintro e w2 ⟨rfl, hb2⟩
    have HW2 := Lib.hid ((Kp.step HW1.out hb2).alloc (.cells #[.int .u64 (O).a, .int .u64 (O).b, .int .u64 (O).c, .int .u64 (O).d] 35))
    have hl10 : w1.heap.size < w2.heap.size := (HQ8.out.keep hb2).lt
    replace HNS := Lib.hid (HNS.out.keep hb2 |>.alloc (.cells #[.int .u64 (O).a, .int .u64 (O).b, .int .u64 (O).c, .int .u64 (O).d] 35))
    replace HQ6 := Lib.hid (HQ6.out.keep hb2 |>.alloc (.cells #[.int .u64 (O).a, .int .u64 (O).b, .int .u64 (O).c, .int .u64 (O).d] 35))
    replace HQ8 := Lib.hid (HQ8.out.keep hb2 |>.alloc (.cells #[.int .u64 (O).a, .int .u64 (O).b, .int .u64 (O).c, .int .u64 (O).d] 35))
    have HQ10 := Lib.hid (Quad.new w2 O.a O.b O.c O.d)
    clear y0 y1 y2 y3 y4 hb2
    obtain ⟨y0, y1, y2, y3, y4⟩ := HNS.out.five
    obtain ⟨c0, c1, c2, c3, c4, c5, c6, c7⟩ := HQ6.out.facts
    go_wp2_with fail
    obtain ⟨r0, r1, r2, r3⟩ := quad_box (HQ6.out.set4 0 0 0 0)
    exact bodyPost_ret (v := .tuple #[.agg #[.int .u64 0, .int .u64 0, .int .u64 0, .int .u64 0], .bool false]) (by simp [results, Try.results37, go_sem, r0, r1, r2, r3]) rfl ⟨rfl, below_set4 HW2.out (Nat.le_succ _) _ _ _ _⟩
  · go_enter Try.func37, Try.ntmps37
    go_wp2_with fail
    refine (HU1.out _ HW.out).mono ?_
    rintro e w1 ⟨rfl, hb1⟩
    have HW1 := Lib.hid ((Kp.step HW.out hb1).alloc (.cells #[.int .u64 (I).a, .int .u64 (I).b, .int .u64 (I).c, .int .u64 (I).d] 35))
    replace HNS := Lib.hid (HNS.out.keep hb1 |>.alloc (.cells #[.int .u64 (I).a, .int .u64 (I).b, .int .u64 (I).c, .int .u64 (I).d] 35))
    replace HQ6 := Lib.hid (HQ6.out.keep hb1 |>.alloc (.cells #[.int .u64 (I).a, .int .u64 (I).b, .int .u64 (I).c, .int .u64 (I).d] 35))
    have hl8 : w.heap.size + 1 < w1.heap.size := lt_help HSZ.out hb1.size
    have HQ8 := Lib.hid (Quad.new w1 I.a I.b I.c I.d)
    clear y0 y1 y2 y3 y4 hb1
    obtain ⟨y0, y1, y2, y3, y4⟩ := HNS.out.five
    go_wp2_with fail
    refine (HU2.out _ HW1.out).mono ?_
    rintro e w2 ⟨rfl, hb2⟩
    have HW2 := Lib.hid ((Kp.step HW1.out hb2).alloc (.cells #[.int .u64 (O).a, .int .u64 (O).b, .int .u64 (O).c, .int .u64 (O).d] 35))
    have hl10 : w1.heap.size < w2.heap.size := (HQ8.out.keep hb2).lt
    replace HNS := Lib.hid (HNS.out.keep hb2 |>.alloc (.cells #[.int .u64 (O).a, .int .u64 (O).b, .int .u64 (O).c, .int .u64 (O).d] 35))
    replace HQ6 := Lib.hid (HQ6.out.keep hb2 |>.alloc (.cells #[.int .u64 (O).a, .int .u64 (O).b, .int .u64 (O).c, .int .u64 (O).d] 35))
    replace HQ8 := Lib.hid (HQ8.out.keep hb2 |>.alloc (.cells #[.int .u64 (O).a, .int .u64 (O).b, .int .u64 (O).c, .int .u64 (O).d] 35))
    have HQ10 := Lib.hid (Quad.new w2 O.a O.b O.c O.d)
    clear y0 y1 y2 y3 y4 hb2
    obtain ⟨y0, y1, y2, y3, y4⟩ := HNS.out.five
    obtain ⟨c0, c1, c2, c3, c4, c5, c6, c7⟩ := HQ6.out.facts
    clear c0 c1 c2 c3 c4 c5 c6 c7
    go_wp2_with fail
    refine (HAC.out _).mono ?_
    rintro e w3 ⟨rfl, hb3⟩
    have HW3 := Lib.hid ((Kp.step HW2.out hb3).alloc (.cells #[.int .u64 (A).a, .int .u64 (A).b, .int .u64 (A).c, .int .u64 (A).d] 35))
    have hl12 : w2.heap.size < w3.heap.size := (HQ10.out.keep hb3).lt
    replace HNS := Lib.hid (HNS.out.keep hb3 |>.alloc (.cells #[.int .u64 (A).a, .int .u64 (A).b, .int .u64 (A).c, .int .u64 (A).d] 35))
    replace HQ6 := Lib.hid (HQ6.out.keep hb3 |>.alloc (.cells #[.int .u64 (A).a, .int .u64 (A).b, .int .u64 (A).c, .int .u64 (A).d] 35))
    replace HQ8 := Lib.hid (HQ8.out.keep hb3 |>.alloc (.cells #[.int .u64 (A).a, .int .u64 (A).b, .int .u64 (A).c, .int .u64 (A).d] 35))
    replace HQ10 := Lib.hid (HQ10.out.keep hb3 |>.alloc (.cells #[.int .u64 (A).a, .int .u64 (A).b, .int .u64 (A).c, .int .u64 (A).d] 35))
    have HQ12 := Lib.hid (Quad.new w3 A.a A.b A.c A.d)
    clear y0 y1 y2 y3 y4 hb3
    obtain ⟨y0, y1, y2, y3, y4⟩ := HNS.out.five
    obtain ⟨c0, c1, c2, c3, c4, c5, c6, c7⟩ := HQ8.out.facts
    obtain ⟨d0, d1, d2, d3, d4, d5, d6, d7⟩ := HQ12.out.facts
    go_wp2_with fail
    refine (HUN.out trivial _).mono ?_
    rintro e w4 ⟨rfl, hb4⟩
    have HW4 := Lib.hid (below_set4 (Kp.step HW3.out hb4) (Nat.le_of_lt (Nat.lt_of_succ_lt hl8)) (.int .u64 X.a) (.int .u64 X.b) (.int .u64 X.c) (.int .u64 X.d))
    replace HNS := Lib.hid (((((HNS.out.keep hb4).far (p := ⟨w1.heap.size, 0, none⟩) (Nat.ne_of_lt (Nat.lt_of_succ_lt hl8)) (.int .u64 X.a)).far (p := ⟨w1.heap.size, 1, none⟩) (Nat.ne_of_lt (Nat.lt_of_succ_lt hl8)) (.int .u64 X.b)).far (p := ⟨w1.heap.size, 2, none⟩) (Nat.ne_of_lt (Nat.lt_of_succ_lt hl8)) (.int .u64 X.c)).far (p := ⟨w1.heap.size, 3, none⟩) (Nat.ne_of_lt (Nat.lt_of_succ_lt hl8)) (.int .u64 X.d))
    replace HQ6 := Lib.hid ((HQ6.out.keep hb4).far4 (g' := w1.heap.size) (a' := X.a) (b' := X.b) (c' := X.c) (d' := X.d) (Nat.ne_of_lt hl8))
    replace HQ10 := Lib.hid ((HQ10.out.keep hb4).far4 (g' := w1.heap.size) (a' := X.a) (b' := X.b) (c' := X.c) (d' := X.d) (Nat.ne_of_gt hl10))
    replace HQ12 := Lib.hid ((HQ12.out.keep hb4).far4 (g' := w1.heap.size) (a' := X.a) (b' := X.b) (c' := X.c) (d' := X.d) (Nat.ne_of_gt (Nat.lt_trans hl10 hl12)))
    have HQ8n := Lib.hid ((HQ8.out.keep hb4).set4 (X).a (X).b (X).c (X).d)
    clear c0 c1 c2 c3 c4 c5 c6 c7 d0 d1 d2 d3 d4 d5 d6 d7 y0 y1 y2 y3 y4
    obtain ⟨c0, c1, c2, c3, c4, c5, c6, c7⟩ := (HQ8.out.keep hb4).facts
    replace HQ8 := HQ8n
    clear hb4
    go_upto_region 8 with (fail)
    clear c0 c1 c2 c3 c4 c5 c6 c7
    generalize (((w4.setCell ⟨w1.heap.size, 0, none⟩ (.int .u64 X.a)).setCell ⟨w1.heap.size, 1, none⟩ (.int .u64 X.b)).setCell ⟨w1.heap.size, 2, none⟩ (.int .u64 X.c)).setCell ⟨w1.heap.size, 3, none⟩ (.int .u64 X.d) = w4x at *
    obtain ⟨e0, e1, e2, e3⟩ := quad_box HQ8.out
    obtain ⟨d0, d1, d2, d3, d4, d5, d6, d7⟩ := HQ10.out.facts
    go_wp2_with fail
    refine (HMN.out _).mono ?_
    rintro e w5 ⟨rfl, hb5⟩
    have HW5 := Lib.hid ((Kp.step HW4.out hb5).alloc (.cells #[.int .u64 (M).a, .int .u64 (M).b, .int .u64 (M).c, .int .u64 (M).d] 35))
    have hl13 : w3.heap.size < w5.heap.size := (HQ12.out.keep hb5).lt
    replace HNS := Lib.hid (HNS.out.keep hb5 |>.alloc (.cells #[.int .u64 (M).a, .int .u64 (M).b, .int .u64 (M).c, .int .u64 (M).d] 35))
    replace HQ6 := Lib.hid (HQ6.out.keep hb5 |>.alloc (.cells #[.int .u64 (M).a, .int .u64 (M).b, .int .u64 (M).c, .int .u64 (M).d] 35))
    replace HQ8 := Lib.hid (HQ8.out.keep hb5 |>.alloc (.cells #[.int .u64 (M).a, .int .u64 (M).b, .int .u64 (M).c, .int .u64 (M).d] 35))
    replace HQ10 := Lib.hid (HQ10.out.keep hb5 |>.alloc (.cells #[.int .u64 (M).a, .int .u64 (M).b, .int .u64 (M).c, .int .u64 (M).d] 35))
    replace HQ12 := Lib.hid (HQ12.out.keep hb5 |>.alloc (.cells #[.int .u64 (M).a, .int .u64 (M).b, .int .u64 (M).c, .int .u64 (M).d] 35))
    have HQ13 := Lib.hid (Quad.new w5 (M).a (M).b (M).c (M).d)
    clear d0 d1 d2 d3 d4 d5 d6 d7 hb5
    try clear c0 c1 c2 c3 c4 c5 c6 c7
    try clear y0 y1 y2 y3 y4
    try clear e0 e1 e2 e3
    obtain ⟨y0, y1, y2, y3, y4⟩ := HNS.out.five
    obtain ⟨d0, d1, d2, d3, d4, d5, d6, d7⟩ := HQ12.out.facts
    go_wp2_with fail
    refine (HMR.out trivial _).mono ?_
    rintro e w6 ⟨rfl, hb6⟩
    have HW6 := Lib.hid (below_set4 (Kp.step HW5.out hb6) (Nat.le_of_lt (Nat.lt_trans (Nat.lt_of_succ_lt hl8) (Nat.lt_trans hl10 (Nat.lt_trans hl12 hl13)))) (.int .u64 R.a) (.int .u64 R.b) (.int .u64 R.c) (.int .u64 R.d))
    replace HQ6 := Lib.hid ((HQ6.out.keep hb6).far4 (g' := w5.heap.size) (a' := R.a) (b' := R.b) (c' := R.c) (d' := R.d) (Nat.ne_of_lt (Nat.lt_trans hl8 (Nat.lt_trans hl10 (Nat.lt_trans hl12 hl13)))))
    clear d0 d1 d2 d3 d4 d5 d6 d7 y0 y1 y2 y3 y4
    obtain ⟨c0, c1, c2, c3, c4, c5, c6, c7⟩ := (HQ13.out.keep hb6).facts
    have HQ14 := Lib.hid ((HQ13.out.keep hb6).set4 (R).a (R).b (R).c (R).d)
    clear hb6
    go_upto_region 11 with (fail)
    clear c0 c1 c2 c3 c4 c5 c6 c7
    generalize (((w6.setCell ⟨w5.heap.size, 0, none⟩ (.int .u64 R.a)).setCell ⟨w5.heap.size, 1, none⟩ (.int .u64 R.b)).setCell ⟨w5.heap.size, 2, none⟩ (.int .u64 R.c)).setCell ⟨w5.heap.size, 3, none⟩ (.int .u64 R.d) = w6x at *
    obtain ⟨e0, e1, e2, e3⟩ := quad_box HQ14.out
    obtain ⟨d0, d1, d2, d3, d4, d5, d6, d7⟩ := HQ6.out.facts
    go_wp2_with fail
    obtain ⟨r0, r1, r2, r3⟩ := quad_box (HQ6.out.set4 (R).a (R).b (R).c (R).d)
    exact bodyPost_ret (v := .tuple #[.agg #[.int .u64 (R).a, .int .u64 (R).b, .int .u64 (R).c, .int .u64 (R).d], .bool true]) (by simp [results, Try.results37, go_sem, r0, r1, r2, r3]) rfl ⟨rfl, below_set4 HW6.out (Nat.le_succ _) _ _ _ _⟩
  · go_enter Try.func37, Try.ntmps37
    go_wp2_with fail
    refine (HU1.out _ HW.out).mono ?_
    rintro e w1 ⟨rfl, hb1⟩
    have HW1 := Lib.hid ((Kp.step HW.out hb1).alloc (.cells #[.int .u64 (I).a, .int .u64 (I).b, .int .u64 (I).c, .int .u64 (I).d] 35))
    replace HNS := Lib.hid (HNS.out.keep hb1 |>.alloc (.cells #[.int .u64 (I).a, .int .u64 (I).b, .int .u64 (I).c, .int .u64 (I).d] 35))
    replace HQ6 := Lib.hid (HQ6.out.keep hb1 |>.alloc (.cells #[.int .u64 (I).a, .int .u64 (I).b, .int .u64 (I).c, .int .u64 (I).d] 35))
    have hl8 : w.heap.size + 1 < w1.heap.size := lt_help HSZ.out hb1.size
    have HQ8 := Lib.hid (Quad.new w1 I.a I.b I.c I.d)
    clear y0 y1 y2 y3 y4 hb1
    obtain ⟨y0, y1, y2, y3, y4⟩ := HNS.out.five
    go_wp2_with fail
    refine (HU2.out _ HW1.out).mono ?_
    rintro e w2 ⟨rfl, hb2⟩
    have HW2 := Lib.hid ((Kp.step HW1.out hb2).alloc (.cells #[.int .u64 (O).a, .int .u64 (O).b, .int .u64 (O).c, .int .u64 (O).d] 35))
    have hl10 : w1.heap.size < w2.heap.size := (HQ8.out.keep hb2).lt
    replace HNS := Lib.hid (HNS.out.keep hb2 |>.alloc (.cells #[.int .u64 (O).a, .int .u64 (O).b, .int .u64 (O).c, .int .u64 (O).d] 35))
    replace HQ6 := Lib.hid (HQ6.out.keep hb2 |>.alloc (.cells #[.int .u64 (O).a, .int .u64 (O).b, .int .u64 (O).c, .int .u64 (O).d] 35))
    replace HQ8 := Lib.hid (HQ8.out.keep hb2 |>.alloc (.cells #[.int .u64 (O).a, .int .u64 (O).b, .int .u64 (O).c, .int .u64 (O).d] 35))
    have HQ10 := Lib.hid (Quad.new w2 O.a O.b O.c O.d)
    clear y0 y1 y2 y3 y4 hb2
    obtain ⟨y0, y1, y2, y3, y4⟩ := HNS.out.five
    obtain ⟨c0, c1, c2, c3, c4, c5, c6, c7⟩ := HQ6.out.facts
    clear c0 c1 c2 c3 c4 c5 c6 c7
    go_wp2_with fail
    refine (HAC.out _).mono ?_
    rintro e w3 ⟨rfl, hb3⟩
    have HW3 := Lib.hid ((Kp.step HW2.out hb3).alloc (.cells #[.int .u64 (A).a, .int .u64 (A).b, .int .u64 (A).c, .int .u64 (A).d] 35))
    have hl12 : w2.heap.size < w3.heap.size := (HQ10.out.keep hb3).lt
    replace HNS := Lib.hid (HNS.out.keep hb3 |>.alloc (.cells #[.int .u64 (A).a, .int .u64 (A).b, .int .u64 (A).c, .int .u64 (A).d] 35))
    replace HQ6 := Lib.hid (HQ6.out.keep hb3 |>.alloc (.cells #[.int .u64 (A).a, .int .u64 (A).b, .int .u64 (A).c, .int .u64 (A).d] 35))
    replace HQ8 := Lib.hid (HQ8.out.keep hb3 |>.alloc (.cells #[.int .u64 (A).a, .int .u64 (A).b, .int .u64 (A).c, .int .u64 (A).d] 35))
    replace HQ10 := Lib.hid (HQ10.out.keep hb3 |>.alloc (.cells #[.int .u64 (A).a, .int .u64 (A).b, .int .u64 (A).c, .int .u64 (A).d] 35))
    have HQ12 := Lib.hid (Quad.new w3 A.a A.b A.c A.d)
    clear y0 y1 y2 y3 y4 hb3
    obtain rfl := HRM.out trivial
    obtain ⟨y0, y1, y2, y3, y4⟩ := HNS.out.five
    obtain ⟨c0, c1, c2, c3, c4, c5, c6, c7⟩ := HQ8.out.facts
    obtain ⟨d0, d1, d2, d3, d4, d5, d6, d7⟩ := HQ12.out.facts
    go_wp2_with fail
    refine (HUN.out trivial _).mono ?_
    rintro e w4 ⟨rfl, hb4⟩
    have HW4 := Lib.hid (below_set4 (Kp.step HW3.out hb4) (Nat.le_of_lt (Nat.lt_of_succ_lt hl8)) (.int .u64 X.a) (.int .u64 X.b) (.int .u64 X.c) (.int .u64 X.d))
    replace HNS := Lib.hid (((((HNS.out.keep hb4).far (p := ⟨w1.heap.size, 0, none⟩) (Nat.ne_of_lt (Nat.lt_of_succ_lt hl8)) (.int .u64 X.a)).far (p := ⟨w1.heap.size, 1, none⟩) (Nat.ne_of_lt (Nat.lt_of_succ_lt hl8)) (.int .u64 X.b)).far (p := ⟨w1.heap.size, 2, none⟩) (Nat.ne_of_lt (Nat.lt_of_succ_lt hl8)) (.int .u64 X.c)).far (p := ⟨w1.heap.size, 3, none⟩) (Nat.ne_of_lt (Nat.lt_of_succ_lt hl8)) (.int .u64 X.d))
    replace HQ6 := Lib.hid ((HQ6.out.keep hb4).far4 (g' := w1.heap.size) (a' := X.a) (b' := X.b) (c' := X.c) (d' := X.d) (Nat.ne_of_lt hl8))
    replace HQ10 := Lib.hid ((HQ10.out.keep hb4).far4 (g' := w1.heap.size) (a' := X.a) (b' := X.b) (c' := X.c) (d' := X.d) (Nat.ne_of_gt hl10))
    replace HQ12 := Lib.hid ((HQ12.out.keep hb4).far4 (g' := w1.heap.size) (a' := X.a) (b' := X.b) (c' := X.c) (d' := X.d) (Nat.ne_of_gt (Nat.lt_trans hl10 hl12)))
    have HQ8n := Lib.hid ((HQ8.out.keep hb4).set4 (X).a (X).b (X).c (X).d)
    clear c0 c1 c2 c3 c4 c5 c6 c7 d0 d1 d2 d3 d4 d5 d6 d7 y0 y1 y2 y3 y4
    obtain ⟨c0, c1, c2, c3, c4, c5, c6, c7⟩ := (HQ8.out.keep hb4).facts
    replace HQ8 := HQ8n
    clear hb4
    go_upto_region 8 with (fail)
    clear c0 c1 c2 c3 c4 c5 c6 c7
    generalize (((w4.setCell ⟨w1.heap.size, 0, none⟩ (.int .u64 X.a)).setCell ⟨w1.heap.size, 1, none⟩ (.int .u64 X.b)).setCell ⟨w1.heap.size, 2, none⟩ (.int .u64 X.c)).setCell ⟨w1.heap.size, 3, none⟩ (.int .u64 X.d) = w4x at *
    obtain ⟨e0, e1, e2, e3⟩ := quad_box HQ8.out
    obtain ⟨d0, d1, d2, d3, d4, d5, d6, d7⟩ := HQ10.out.facts
    go_wp2_with fail
    refine (HMN.out _).mono ?_
    rintro e w5 ⟨rfl, hb5⟩
    have HW5 := Lib.hid ((Kp.step HW4.out hb5).alloc (.cells #[.int .u64 (M).a, .int .u64 (M).b, .int .u64 (M).c, .int .u64 (M).d] 35))
    have hl13 : w3.heap.size < w5.heap.size := (HQ12.out.keep hb5).lt
    replace HNS := Lib.hid (HNS.out.keep hb5 |>.alloc (.cells #[.int .u64 (M).a, .int .u64 (M).b, .int .u64 (M).c, .int .u64 (M).d] 35))
    replace HQ6 := Lib.hid (HQ6.out.keep hb5 |>.alloc (.cells #[.int .u64 (M).a, .int .u64 (M).b, .int .u64 (M).c, .int .u64 (M).d] 35))
    replace HQ8 := Lib.hid (HQ8.out.keep hb5 |>.alloc (.cells #[.int .u64 (M).a, .int .u64 (M).b, .int .u64 (M).c, .int .u64 (M).d] 35))
    replace HQ10 := Lib.hid (HQ10.out.keep hb5 |>.alloc (.cells #[.int .u64 (M).a, .int .u64 (M).b, .int .u64 (M).c, .int .u64 (M).d] 35))
    replace HQ12 := Lib.hid (HQ12.out.keep hb5 |>.alloc (.cells #[.int .u64 (M).a, .int .u64 (M).b, .int .u64 (M).c, .int .u64 (M).d] 35))
    have HQ13 := Lib.hid (Quad.new w5 (M).a (M).b (M).c (M).d)
    clear d0 d1 d2 d3 d4 d5 d6 d7 hb5
    try clear c0 c1 c2 c3 c4 c5 c6 c7
    try clear y0 y1 y2 y3 y4
    try clear e0 e1 e2 e3
    obtain ⟨y0, y1, y2, y3, y4⟩ := HNS.out.five
    obtain ⟨d0, d1, d2, d3, d4, d5, d6, d7⟩ := HQ6.out.facts
    go_wp2_with fail
    obtain ⟨r0, r1, r2, r3⟩ := quad_box (HQ6.out.set4 (M).a (M).b (M).c (M).d)
    exact bodyPost_ret (v := .tuple #[.agg #[.int .u64 (M).a, .int .u64 (M).b, .int .u64 (M).c, .int .u64 (M).d], .bool true]) (by simp [results, Try.results37, go_sem, r0, r1, r2, r3]) rfl ⟨rfl, below_set4 HW5.out (Nat.le_succ _) _ _ _ _⟩
  · go_enter Try.func37, Try.ntmps37
    go_wp2_with fail
    refine (HU1.out _ HW.out).mono ?_
    rintro e w1 ⟨rfl, hb1⟩
    have HW1 := Lib.hid ((Kp.step HW.out hb1).alloc (.cells #[.int .u64 (I).a, .int .u64 (I).b, .int .u64 (I).c, .int .u64 (I).d] 35))
    replace HNS := Lib.hid (HNS.out.keep hb1 |>.alloc (.cells #[.int .u64 (I).a, .int .u64 (I).b, .int .u64 (I).c, .int .u64 (I).d] 35))
    replace HQ6 := Lib.hid (HQ6.out.keep hb1 |>.alloc (.cells #[.int .u64 (I).a, .int .u64 (I).b, .int .u64 (I).c, .int .u64 (I).d] 35))
    have hl8 : w.heap.size + 1 < w1.heap.size := lt_help HSZ.out hb1.size
    have HQ8 := Lib.hid (Quad.new w1 I.a I.b I.c I.d)
    clear y0 y1 y2 y3 y4 hb1
    obtain ⟨y0, y1, y2, y3, y4⟩ := HNS.out.five
    go_wp2_with fail
    refine (HU2.out _ HW1.out).mono ?_
    rintro e w2 ⟨rfl, hb2⟩
    have HW2 := Lib.hid ((Kp.step HW1.out hb2).alloc (.cells #[.int .u64 (O).a, .int .u64 (O).b, .int .u64 (O).c, .int .u64 (O).d] 35))
    have hl10 : w1.heap.size < w2.heap.size := (HQ8.out.keep hb2).lt
    replace HNS := Lib.hid (HNS.out.keep hb2 |>.alloc (.cells #[.int .u64 (O).a, .int .u64 (O).b, .int .u64 (O).c, .int .u64 (O).d] 35))
    replace HQ6 := Lib.hid (HQ6.out.keep hb2 |>.alloc (.cells #[.int .u64 (O).a, .int .u64 (O).b, .int .u64 (O).c, .int .u64 (O).d] 35))
    replace HQ8 := Lib.hid (HQ8.out.keep hb2 |>.alloc (.cells #[.int .u64 (O).a, .int .u64 (O).b, .int .u64 (O).c, .int .u64 (O).d] 35))
    have HQ10 := Lib.hid (Quad.new w2 O.a O.b O.c O.d)
    clear y0 y1 y2 y3 y4 hb2
    obtain ⟨y0, y1, y2, y3, y4⟩ := HNS.out.five
    obtain ⟨c0, c1, c2, c3, c4, c5, c6, c7⟩ := HQ6.out.facts
    clear c0 c1 c2 c3 c4 c5 c6 c7
    go_wp2_with fail
    refine (HAC.out _).mono ?_
    rintro e w3 ⟨rfl, hb3⟩
    have HW3 := Lib.hid ((Kp.step HW2.out hb3).alloc (.cells #[.int .u64 (A).a, .int .u64 (A).b, .int .u64 (A).c, .int .u64 (A).d] 35))
    have hl12 : w2.heap.size < w3.heap.size := (HQ10.out.keep hb3).lt
    replace HNS := Lib.hid (HNS.out.keep hb3 |>.alloc (.cells #[.int .u64 (A).a, .int .u64 (A).b, .int .u64 (A).c, .int .u64 (A).d] 35))
    replace HQ6 := Lib.hid (HQ6.out.keep hb3 |>.alloc (.cells #[.int .u64 (A).a, .int .u64 (A).b, .int .u64 (A).c, .int .u64 (A).d] 35))
    replace HQ8 := Lib.hid (HQ8.out.keep hb3 |>.alloc (.cells #[.int .u64 (A).a, .int .u64 (A).b, .int .u64 (A).c, .int .u64 (A).d] 35))
    replace HQ10 := Lib.hid (HQ10.out.keep hb3 |>.alloc (.cells #[.int .u64 (A).a, .int .u64 (A).b, .int .u64 (A).c, .int .u64 (A).d] 35))
    have HQ12 := Lib.hid (Quad.new w3 A.a A.b A.c A.d)
    clear y0 y1 y2 y3 y4 hb3
    obtain rfl := HXI.out trivial
    obtain ⟨y0, y1, y2, y3, y4⟩ := HNS.out.five
    obtain ⟨c0, c1, c2, c3, c4, c5, c6, c7⟩ := HQ8.out.facts
    obtain ⟨d0, d1, d2, d3, d4, d5, d6, d7⟩ := HQ10.out.facts
    go_wp2_with fail
    refine (HMN.out _).mono ?_
    rintro e w5 ⟨rfl, hb5⟩
    have HW5 := Lib.hid ((Kp.step HW3.out hb5).alloc (.cells #[.int .u64 (M).a, .int .u64 (M).b, .int .u64 (M).c, .int .u64 (M).d] 35))
    have hl13 : w3.heap.size < w5.heap.size := (HQ12.out.keep hb5).lt
    replace HNS := Lib.hid (HNS.out.keep hb5 |>.alloc (.cells #[.int .u64 (M).a, .int .u64 (M).b, .int .u64 (M).c, .int .u64 (M).d] 35))
    replace HQ6 := Lib.hid (HQ6.out.keep hb5 |>.alloc (.cells #[.int .u64 (M).a, .int .u64 (M).b, .int .u64 (M).c, .int .u64 (M).d] 35))
    replace HQ8 := Lib.hid (HQ8.out.keep hb5 |>.alloc (.cells #[.int .u64 (M).a, .int .u64 (M).b, .int .u64 (M).c, .int .u64 (M).d] 35))
    replace HQ10 := Lib.hid (HQ10.out.keep hb5 |>.alloc (.cells #[.int .u64 (M).a, .int .u64 (M).b, .int .u64 (M).c, .int .u64 (M).d] 35))
    replace HQ12 := Lib.hid (HQ12.out.keep hb5 |>.alloc (.cells #[.int .u64 (M).a, .int .u64 (M).b, .int .u64 (M).c, .int .u64 (M).d] 35))
    have HQ13 := Lib.hid (Quad.new w5 (M).a (M).b (M).c (M).d)
    clear d0 d1 d2 d3 d4 d5 d6 d7 hb5
    try clear c0 c1 c2 c3 c4 c5 c6 c7
    try clear y0 y1 y2 y3 y4
    try clear e0 e1 e2 e3
    obtain ⟨y0, y1, y2, y3, y4⟩ := HNS.out.five
    obtain ⟨d0, d1, d2, d3, d4, d5, d6, d7⟩ := HQ12.out.facts
    go_wp2_with fail
    refine (HMR.out trivial _).mono ?_
    rintro e w6 ⟨rfl, hb6⟩
    have HW6 := Lib.hid (below_set4 (Kp.step HW5.out hb6) (Nat.le_of_lt (Nat.lt_trans (Nat.lt_of_succ_lt hl8) (Nat.lt_trans hl10 (Nat.lt_trans hl12 hl13)))) (.int .u64 R.a) (.int .u64 R.b) (.int .u64 R.c) (.int .u64 R.d))
    replace HQ6 := Lib.hid ((HQ6.out.keep hb6).far4 (g' := w5.heap.size) (a' := R.a) (b' := R.b) (c' := R.c) (d' := R.d) (Nat.ne_of_lt (Nat.lt_trans hl8 (Nat.lt_trans hl10 (Nat.lt_trans hl12 hl13)))))
    clear d0 d1 d2 d3 d4 d5 d6 d7 y0 y1 y2 y3 y4
    obtain ⟨c0, c1, c2, c3, c4, c5, c6, c7⟩ := (HQ13.out.keep hb6).facts
    have HQ14 := Lib.hid ((HQ13.out.keep hb6).set4 (R).a (R).b (R).c (R).d)
    clear hb6
    go_upto_region 11 with (fail)
    clear c0 c1 c2 c3 c4 c5 c6 c7
    generalize (((w6.setCell ⟨w5.heap.size, 0, none⟩ (.int .u64 R.a)).setCell ⟨w5.heap.size, 1, none⟩ (.int .u64 R.b)).setCell ⟨w5.heap.size, 2, none⟩ (.int .u64 R.c)).setCell ⟨w5.heap.size, 3, none⟩ (.int .u64 R.d) = w6x at *
    obtain ⟨e0, e1, e2, e3⟩ := quad_box HQ14.out
    obtain ⟨d0, d1, d2, d3, d4, d5, d6, d7⟩ := HQ6.out.facts
    go_wp2_with fail
    obtain ⟨r0, r1, r2, r3⟩ := quad_box (HQ6.out.set4 (R).a (R).b (R).c (R).d)
    exact bodyPost_ret (v := .tuple #[.agg #[.int .u64 (R).a, .int .u64 (R).b, .int .u64 (R).c, .int .u64 (R).d], .bool true]) (by simp [results, Try.results37, go_sem, r0, r1, r2, r3]) rfl ⟨rfl, below_set4 HW6.out (Nat.le_succ _) _ _ _ _⟩
  · go_enter Try.func37, Try.ntmps37
    go_wp2_with fail
    refine (HU1.out _ HW.out).mono ?_
    rintro e w1 ⟨rfl, hb1⟩
    have HW1 := Lib.hid ((Kp.step HW.out hb1).alloc (.cells #[.int .u64 (I).a, .int .u64 (I).b, .int .u64 (I).c, .int .u64 (I).d] 35))
    replace HNS := Lib.hid (HNS.out.keep hb1 |>.alloc (.cells #[.int .u64 (I).a, .int .u64 (I).b, .int .u64 (I).c, .int .u64 (I).d] 35))
    replace HQ6 := Lib.hid (HQ6.out.keep hb1 |>.alloc (.cells #[.int .u64 (I).a, .int .u64 (I).b, .int .u64 (I).c, .int .u64 (I).d] 35))
    have hl8 : w.heap.size + 1 < w1.heap.size := lt_help HSZ.out hb1.size
    have HQ8 := Lib.hid (Quad.new w1 I.a I.b I.c I.d)
    clear y0 y1 y2 y3 y4 hb1
    obtain ⟨y0, y1, y2, y3, y4⟩ := HNS.out.five
    go_wp2_with fail
    refine (HU2.out _ HW1.out).mono ?_
    rintro e w2 ⟨rfl, hb2⟩
    have HW2 := Lib.hid ((Kp.step HW1.out hb2).alloc (.cells #[.int .u64 (O).a, .int .u64 (O).b, .int .u64 (O).c, .int .u64 (O).d] 35))
    have hl10 : w1.heap.size < w2.heap.size := (HQ8.out.keep hb2).lt
    replace HNS := Lib.hid (HNS.out.keep hb2 |>.alloc (.cells #[.int .u64 (O).a, .int .u64 (O).b, .int .u64 (O).c, .int .u64 (O).d] 35))
    replace HQ6 := Lib.hid (HQ6.out.keep hb2 |>.alloc (.cells #[.int .u64 (O).a, .int .u64 (O).b, .int .u64 (O).c, .int .u64 (O).d] 35))
    replace HQ8 := Lib.hid (HQ8.out.keep hb2 |>.alloc (.cells #[.int .u64 (O).a, .int .u64 (O).b, .int .u64 (O).c, .int .u64 (O).d] 35))
    have HQ10 := Lib.hid (Quad.new w2 O.a O.b O.c O.d)
    clear y0 y1 y2 y3 y4 hb2
    obtain ⟨y0, y1, y2, y3, y4⟩ := HNS.out.five
    obtain ⟨c0, c1, c2, c3, c4, c5, c6, c7⟩ := HQ6.out.facts
    clear c0 c1 c2 c3 c4 c5 c6 c7
    go_wp2_with fail
    refine (HAC.out _).mono ?_
    rintro e w3 ⟨rfl, hb3⟩
    have HW3 := Lib.hid ((Kp.step HW2.out hb3).alloc (.cells #[.int .u64 (A).a, .int .u64 (A).b, .int .u64 (A).c, .int .u64 (A).d] 35))
    have hl12 : w2.heap.size < w3.heap.size := (HQ10.out.keep hb3).lt
    replace HNS := Lib.hid (HNS.out.keep hb3 |>.alloc (.cells #[.int .u64 (A).a, .int .u64 (A).b, .int .u64 (A).c, .int .u64 (A).d] 35))
    replace HQ6 := Lib.hid (HQ6.out.keep hb3 |>.alloc (.cells #[.int .u64 (A).a, .int .u64 (A).b, .int .u64 (A).c, .int .u64 (A).d] 35))
    replace HQ8 := Lib.hid (HQ8.out.keep hb3 |>.alloc (.cells #[.int .u64 (A).a, .int .u64 (A).b, .int .u64 (A).c, .int .u64 (A).d] 35))
    replace HQ10 := Lib.hid (HQ10.out.keep hb3 |>.alloc (.cells #[.int .u64 (A).a, .int .u64 (A).b, .int .u64 (A).c, .int .u64 (A).d] 35))
    have HQ12 := Lib.hid (Quad.new w3 A.a A.b A.c A.d)
    clear y0 y1 y2 y3 y4 hb3
    obtain rfl := HXI.out trivial
    obtain rfl := HRM.out trivial
    obtain ⟨y0, y1, y2, y3, y4⟩ := HNS.out.five
    obtain ⟨c0, c1, c2, c3, c4, c5, c6, c7⟩ := HQ8.out.facts
    obtain ⟨d0, d1, d2, d3, d4, d5, d6, d7⟩ := HQ10.out.facts
    go_wp2_with fail
    refine (HMN.out _).mono ?_
    rintro e w5 ⟨rfl, hb5⟩
    have HW5 := Lib.hid ((Kp.step HW3.out hb5).alloc (.cells #[.int .u64 (M).a, .int .u64 (M).b, .int .u64 (M).c, .int .u64 (M).d] 35))
    have hl13 : w3.heap.size < w5.heap.size := (HQ12.out.keep hb5).lt
    replace HNS := Lib.hid (HNS.out.keep hb5 |>.alloc (.cells #[.int .u64 (M).a, .int .u64 (M).b, .int .u64 (M).c, .int .u64 (M).d] 35))
    replace HQ6 := Lib.hid (HQ6.out.keep hb5 |>.alloc (.cells #[.int .u64 (M).a, .int .u64 (M).b, .int .u64 (M).c, .int .u64 (M).d] 35))
    replace HQ8 := Lib.hid (HQ8.out.keep hb5 |>.alloc (.cells #[.int .u64 (M).a, .int .u64 (M).b, .int .u64 (M).c, .int .u64 (M).d] 35))
    replace HQ10 := Lib.hid (HQ10.out.keep hb5 |>.alloc (.cells #[.int .u64 (M).a, .int .u64 (M).b, .int .u64 (M).c, .int .u64 (M).d] 35))
    replace HQ12 := Lib.hid (HQ12.out.keep hb5 |>.alloc (.cells #[.int .u64 (M).a, .int .u64 (M).b, .int .u64 (M).c, .int .u64 (M).d] 35))
    have HQ13 := Lib.hid (Quad.new w5 (M).a (M).b (M).c (M).d)
    clear d0 d1 d2 d3 d4 d5 d6 d7 hb5
    try clear c0 c1 c2 c3 c4 c5 c6 c7
    try clear y0 y1 y2 y3 y4
    try clear e0 e1 e2 e3
    obtain ⟨y0, y1, y2, y3, y4⟩ := HNS.out.five
    obtain ⟨d0, d1, d2, d3, d4, d5, d6, d7⟩ := HQ6.out.facts
    go_wp2_with fail
    obtain ⟨r0, r1, r2, r3⟩ := quad_box (HQ6.out.set4 (M).a (M).b (M).c (M).d)
    exact bodyPost_ret (v := .tuple #[.agg #[.int .u64 (M).a, .int .u64 (M).b, .int .u64 (M).c, .int .u64 (M).d], .bool true]) (by simp [results, Try.results37, go_sem, r0, r1, r2, r3]) rfl ⟨rfl, below_set4 HW5.out (Nat.le_succ _) _ _ _ _⟩
end Go.Proofs.Ytbkejoheefnmiaa
