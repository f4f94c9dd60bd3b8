/- What a set of names means among the types of an environment: Types of the reference. Condition: at most a million names, types, attributes and aliases. -/
import Derived.Test.YtmojliehpcefcaaNsm
import Derived.Test.YtmojliehpcefcaaNsh
namespace Go.Proofs.Ytmojliehpcefcaa
open Go.RowKit
set_option maxRecDepth 100000 in
set_option maxHeartbeats 8000000 in
theorem rTypes_c (al no sf : Bool) (vN vE vT vA : Value) (N E : List ByteArray) (Ts : List TyE) (As : List AtE) (w : World) (hN : Strs w vN N) (hE : Strs w vE E) (hT : Tys w vT Ts) (hA : Ats w vA As) (hn : N.length ≤ 1000000) (hn2 : E.length ≤ 1000000) (hn3 : Ts.length ≤ 1000000) (hn4 : As.length ≤ 1000000) (hal : ∀ k (h : k < Ts.length), Ts[k].2.length ≤ 1000000) :
    Calls Try.prog 15 #[.agg #[.bool al, .bool no, .bool sf, vN, vE], .agg #[vT, vA]] w (ErrOut (meanS al no Ts.length (oneS Ts As) (oneB Ts As) N E) (errI (meanB (oneB Ts As) N E) 11) w) := by
  have hW : Kp w (((w.alloc (.cells #[.bool al, .bool no, .bool sf, vN, vE] 29)).alloc (.cells #[vT, vA] 25)).alloc (.cells #[.int .u64 0, .int .u64 0, .int .u64 0, .int .u64 0] 35)) := (((Below.refl _ _).alloc (Nat.le_refl _) _).alloc (by simp) _).alloc (by simp; omega) _
  have hNS : Blk (((w.alloc (.cells #[.bool al, .bool no, .bool sf, vN, vE] 29)).alloc (.cells #[vT, vA] 25)).alloc (.cells #[.int .u64 0, .int .u64 0, .int .u64 0, .int .u64 0] 35)) w.heap.size 29 #[.bool al, .bool no, .bool sf, vN, vE] := ((Blk.new w _ _).alloc _).alloc _
  have s1 : (w.alloc (.cells #[.bool al, .bool no, .bool sf, vN, vE] 29)).heap.size = w.heap.size + 1 := by simp
  have s2 : ((w.alloc (.cells #[.bool al, .bool no, .bool sf, vN, vE] 29)).alloc (.cells #[vT, vA] 25)).heap.size = w.heap.size + 1 + 1 := by simp
  have hEN : Blk (((w.alloc (.cells #[.bool al, .bool no, .bool sf, vN, vE] 29)).alloc (.cells #[vT, vA] 25)).alloc (.cells #[.int .u64 0, .int .u64 0, .int .u64 0, .int .u64 0] 35)) (w.heap.size + 1) 25 #[vT, vA] := by
    rw [← s1]; exact (Blk.new (w.alloc (.cells #[.bool al, .bool no, .bool sf, vN, vE] 29)) _ _).alloc _
  have hQ4 : Quad (((w.alloc (.cells #[.bool al, .bool no, .bool sf, vN, vE] 29)).alloc (.cells #[vT, vA] 25)).alloc (.cells #[.int .u64 0, .int .u64 0, .int .u64 0, .int .u64 0] 35)) (w.heap.size + 1 + 1) 0 0 0 0 := by
    rw [← s2]; exact Quad.new ((w.alloc (.cells #[.bool al, .bool no, .bool sf, vN, vE] 29)).alloc (.cells #[vT, vA] 25)) 0 0 0 0
  clear s1 s2
  have HU1 := Lib.hid (fun W (h : Kp w W) => rtypes_c vT vA (oneS Ts As) (oneB Ts As) vN N W (hN.keep h) hn (fun n W' h' => rone_c vT vA Ts As n W' (hT.keep (Kp.step h h')) (hA.keep (Kp.step h h')) hn3 hn4 hal))
  have HU2 := Lib.hid (fun W (h : Kp w W) => rtypes_c vT vA (oneS Ts As) (oneB Ts As) vE E W (hE.keep h) hn2 (fun n W' h' => rone_c vT vA Ts As n W' (hT.keep (Kp.step h h')) (hA.keep (Kp.step h h')) hn3 hn4 hal))
  have hUI := unS_U (oneS Ts As) (oneB Ts As) N
  unfold meanS meanB
  obtain ⟨B1, hB1⟩ : ∃ B, unB (oneB Ts As) N = B := ⟨_, rfl⟩
  obtain ⟨B2, hB2⟩ : ∃ B, unB (oneB Ts As) E = B := ⟨_, rfl⟩
  obtain ⟨I, hI⟩ : ∃ S, unS (oneS Ts As) (oneB Ts As) N = S := ⟨_, rfl⟩
  obtain ⟨O, hO⟩ : ∃ S, unS (oneS Ts As) (oneB Ts As) E = S := ⟨_, rfl⟩
  rw [hB1, hI] at HU1
  rw [hB2, hO] at HU2
  rw [hI] at hUI
  rw [hB1, hB2, hI, hO]
  have HCB := Lib.hid (fun W => combine_c al no sf vN vE I O Ts.length W (by omega) (by omega))
  obtain ⟨R, hR⟩ : ∃ R, combR al no Ts.length I O = R := ⟨_, rfl⟩
  rw [← comb_eq al no Ts.length O hUI]
  rw [hR] at HCB
  rw [hR]
  clear hB1 hB2 hI hO hR hUI
  obtain ⟨ao, cap, rfl, -⟩ := hT
  obtain ⟨y0, y1, y2, y3, y4⟩ := hNS.five
  obtain ⟨e0, e1⟩ := hEN.two
  have HEN := Lib.hid hEN
  have HNS := Lib.hid hNS
  have HQ4 := Lib.hid hQ4
  have HW := Lib.hid hW
  clear hQ4 hW hNS hN hE hEN hA hal
  have hcase : B1 = false ∨ B1 = true ∧ B2 = false ∨ B1 = true ∧ B2 = true := by cases B1 <;> cases B2 <;> simp
  rcases hcase with rfl | ⟨rfl, rfl⟩ | ⟨rfl, rfl⟩
  · go_enter Try.func15, Try.ntmps15
    go_wp2_with fail
    refine (HU1.out _ HW.out).mono ?_
    rintro e w1 ⟨rfl, hb1⟩
    have HW1 := Lib.hid ((Kp.step HW.out hb1).alloc (.cells #[.int .u64 (I).a, .int .u64 (I).b, .int .u64 (I).c, .int .u64 (I).d] 35))
    replace HNS := Lib.hid (HNS.out.keep hb1 |>.alloc (.cells #[.int .u64 (I).a, .int .u64 (I).b, .int .u64 (I).c, .int .u64 (I).d] 35))
    replace HQ4 := Lib.hid (HQ4.out.keep hb1 |>.alloc (.cells #[.int .u64 (I).a, .int .u64 (I).b, .int .u64 (I).c, .int .u64 (I).d] 35))
    replace HEN := Lib.hid (HEN.out.keep hb1 |>.alloc (.cells #[.int .u64 (I).a, .int .u64 (I).b, .int .u64 (I).c, .int .u64 (I).d] 35))
    have HQ6 := Lib.hid (Quad.new w1 I.a I.b I.c I.d)
    clear y0 y1 y2 y3 y4 e0 e1 hb1
    obtain ⟨y0, y1, y2, y3, y4⟩ := HNS.out.five
    obtain ⟨e0, e1⟩ := HEN.out.two
    go_wp2_with fail
    refine (HU2.out _ HW1.out).mono ?_
    rintro e w2 ⟨rfl, hb2⟩
    have HW2 := Lib.hid ((Kp.step HW1.out hb2).alloc (.cells #[.int .u64 (O).a, .int .u64 (O).b, .int .u64 (O).c, .int .u64 (O).d] 35))
    replace HNS := Lib.hid (HNS.out.keep hb2 |>.alloc (.cells #[.int .u64 (O).a, .int .u64 (O).b, .int .u64 (O).c, .int .u64 (O).d] 35))
    replace HQ4 := Lib.hid (HQ4.out.keep hb2 |>.alloc (.cells #[.int .u64 (O).a, .int .u64 (O).b, .int .u64 (O).c, .int .u64 (O).d] 35))
    replace HEN := Lib.hid (HEN.out.keep hb2 |>.alloc (.cells #[.int .u64 (O).a, .int .u64 (O).b, .int .u64 (O).c, .int .u64 (O).d] 35))
    replace HQ6 := Lib.hid (HQ6.out.keep hb2 |>.alloc (.cells #[.int .u64 (O).a, .int .u64 (O).b, .int .u64 (O).c, .int .u64 (O).d] 35))
    clear y0 y1 y2 y3 y4 e0 e1 hb2
    obtain ⟨y0, y1, y2, y3, y4⟩ := HNS.out.five
    obtain ⟨e0, e1⟩ := HEN.out.two
    obtain ⟨c0, c1, c2, c3, c4, c5, c6, c7⟩ := HQ4.out.facts
    go_wp2_with fail
    obtain ⟨r0, r1, r2, r3⟩ := quad_box (HQ4.out.set4 0 0 0 0)
    exact bodyPost_ret (v := .tuple #[.agg #[.int .u64 0, .int .u64 0, .int .u64 0, .int .u64 0], .int .i64 11]) (by simp [results, Try.results15, go_sem, r0, r1, r2, r3]) rfl ⟨rfl, below_set4 HW2.out (by omega) _ _ _ _⟩
  · go_enter Try.func15, Try.ntmps15
    go_wp2_with fail
    refine (HU1.out _ HW.out).mono ?_
    rintro e w1 ⟨rfl, hb1⟩
    have HW1 := Lib.hid ((Kp.step HW.out hb1).alloc (.cells #[.int .u64 (I).a, .int .u64 (I).b, .int .u64 (I).c, .int .u64 (I).d] 35))
    replace HNS := Lib.hid (HNS.out.keep hb1 |>.alloc (.cells #[.int .u64 (I).a, .int .u64 (I).b, .int .u64 (I).c, .int .u64 (I).d] 35))
    replace HQ4 := Lib.hid (HQ4.out.keep hb1 |>.alloc (.cells #[.int .u64 (I).a, .int .u64 (I).b, .int .u64 (I).c, .int .u64 (I).d] 35))
    replace HEN := Lib.hid (HEN.out.keep hb1 |>.alloc (.cells #[.int .u64 (I).a, .int .u64 (I).b, .int .u64 (I).c, .int .u64 (I).d] 35))
    have HQ6 := Lib.hid (Quad.new w1 I.a I.b I.c I.d)
    clear y0 y1 y2 y3 y4 e0 e1 hb1
    obtain ⟨y0, y1, y2, y3, y4⟩ := HNS.out.five
    obtain ⟨e0, e1⟩ := HEN.out.two
    go_wp2_with fail
    refine (HU2.out _ HW1.out).mono ?_
    rintro e w2 ⟨rfl, hb2⟩
    have HW2 := Lib.hid ((Kp.step HW1.out hb2).alloc (.cells #[.int .u64 (O).a, .int .u64 (O).b, .int .u64 (O).c, .int .u64 (O).d] 35))
    replace HNS := Lib.hid (HNS.out.keep hb2 |>.alloc (.cells #[.int .u64 (O).a, .int .u64 (O).b, .int .u64 (O).c, .int .u64 (O).d] 35))
    replace HQ4 := Lib.hid (HQ4.out.keep hb2 |>.alloc (.cells #[.int .u64 (O).a, .int .u64 (O).b, .int .u64 (O).c, .int .u64 (O).d] 35))
    replace HEN := Lib.hid (HEN.out.keep hb2 |>.alloc (.cells #[.int .u64 (O).a, .int .u64 (O).b, .int .u64 (O).c, .int .u64 (O).d] 35))
    replace HQ6 := Lib.hid (HQ6.out.keep hb2 |>.alloc (.cells #[.int .u64 (O).a, .int .u64 (O).b, .int .u64 (O).c, .int .u64 (O).d] 35))
    clear y0 y1 y2 y3 y4 e0 e1 hb2
    obtain ⟨y0, y1, y2, y3, y4⟩ := HNS.out.five
    obtain ⟨e0, e1⟩ := HEN.out.two
    obtain ⟨c0, c1, c2, c3, c4, c5, c6, c7⟩ := HQ4.out.facts
    go_wp2_with fail
    obtain ⟨r0, r1, r2, r3⟩ := quad_box (HQ4.out.set4 0 0 0 0)
    exact bodyPost_ret (v := .tuple #[.agg #[.int .u64 0, .int .u64 0, .int .u64 0, .int .u64 0], .int .i64 11]) (by simp [results, Try.results15, go_sem, r0, r1, r2, r3]) rfl ⟨rfl, below_set4 HW2.out (by omega) _ _ _ _⟩
  · go_enter Try.func15, Try.ntmps15
    go_wp2_with fail
    refine (HU1.out _ HW.out).mono ?_
    rintro e w1 ⟨rfl, hb1⟩
    have HW1 := Lib.hid ((Kp.step HW.out hb1).alloc (.cells #[.int .u64 (I).a, .int .u64 (I).b, .int .u64 (I).c, .int .u64 (I).d] 35))
    replace HNS := Lib.hid (HNS.out.keep hb1 |>.alloc (.cells #[.int .u64 (I).a, .int .u64 (I).b, .int .u64 (I).c, .int .u64 (I).d] 35))
    replace HQ4 := Lib.hid (HQ4.out.keep hb1 |>.alloc (.cells #[.int .u64 (I).a, .int .u64 (I).b, .int .u64 (I).c, .int .u64 (I).d] 35))
    replace HEN := Lib.hid (HEN.out.keep hb1 |>.alloc (.cells #[.int .u64 (I).a, .int .u64 (I).b, .int .u64 (I).c, .int .u64 (I).d] 35))
    have HQ6 := Lib.hid (Quad.new w1 I.a I.b I.c I.d)
    clear y0 y1 y2 y3 y4 e0 e1 hb1
    obtain ⟨y0, y1, y2, y3, y4⟩ := HNS.out.five
    obtain ⟨e0, e1⟩ := HEN.out.two
    go_wp2_with fail
    refine (HU2.out _ HW1.out).mono ?_
    rintro e w2 ⟨rfl, hb2⟩
    have HW2 := Lib.hid ((Kp.step HW1.out hb2).alloc (.cells #[.int .u64 (O).a, .int .u64 (O).b, .int .u64 (O).c, .int .u64 (O).d] 35))
    replace HNS := Lib.hid (HNS.out.keep hb2 |>.alloc (.cells #[.int .u64 (O).a, .int .u64 (O).b, .int .u64 (O).c, .int .u64 (O).d] 35))
    replace HQ4 := Lib.hid (HQ4.out.keep hb2 |>.alloc (.cells #[.int .u64 (O).a, .int .u64 (O).b, .int .u64 (O).c, .int .u64 (O).d] 35))
    replace HEN := Lib.hid (HEN.out.keep hb2 |>.alloc (.cells #[.int .u64 (O).a, .int .u64 (O).b, .int .u64 (O).c, .int .u64 (O).d] 35))
    replace HQ6 := Lib.hid (HQ6.out.keep hb2 |>.alloc (.cells #[.int .u64 (O).a, .int .u64 (O).b, .int .u64 (O).c, .int .u64 (O).d] 35))
    clear y0 y1 y2 y3 y4 e0 e1 hb2
    obtain ⟨y0, y1, y2, y3, y4⟩ := HNS.out.five
    obtain ⟨e0, e1⟩ := HEN.out.two
    obtain ⟨c0, c1, c2, c3, c4, c5, c6, c7⟩ := HQ6.out.facts
    go_wp2_with fail
    refine (HCB.out _).mono ?_
    rintro e w3 ⟨rfl, hb3⟩
    have HW3 := Lib.hid (Kp.step HW2.out hb3)
    have HQ5 := Lib.hid (HQ4.out.keep hb3)
    clear y0 y1 y2 y3 y4 e0 e1 c0 c1 c2 c3 c4 c5 c6 c7 hb3
    obtain ⟨c0, c1, c2, c3, c4, c5, c6, c7⟩ := HQ5.out.facts
    go_wp2_with fail
    obtain ⟨r0, r1, r2, r3⟩ := quad_box (HQ5.out.set4 (R).a (R).b (R).c (R).d)
    exact bodyPost_ret (v := .tuple #[.agg #[.int .u64 (R).a, .int .u64 (R).b, .int .u64 (R).c, .int .u64 (R).d], .int .i64 0]) (by simp [results, Try.results15, go_sem, r0, r1, r2, r3]) rfl ⟨rfl, below_set4 HW3.out (by omega) _ _ _ _⟩
end Go.Proofs.Ytmojliehpcefcaa
