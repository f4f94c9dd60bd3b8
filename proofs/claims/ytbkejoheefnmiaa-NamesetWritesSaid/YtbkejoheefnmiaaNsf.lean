/- What a name means as a type or an attribute: the program's function literal in Types and the reference's one. Condition: at most a million types and attributes. -/
import Derived.Test.YtbkejoheefnmiaaNse
namespace Go.Proofs.Ytbkejoheefnmiaa
open Go.RowKit
set_option maxRecDepth 100000 in
set_option maxHeartbeats 4000000 in
theorem find_t (ge : Nat) (vT vA : Value) (Ts : List TyE) (As : List AtE) (n : ByteArray) (w : World) (hE0 : Blk w ge 25 #[vT, vA]) (hT : Tys w vT Ts) (hA : Ats w vA As) (hn : Ts.length ≤ 1000000) (hn2 : As.length ≤ 1000000) (hal : ∀ k (h : k < Ts.length), Ts[k].2.length ≤ 1000000) :
    Calls Try.prog 38 #[.string n, .pointer (some ⟨ge, 0, none⟩)] w (SetOut (oneS Ts As n) (oneB Ts As n) w) := by
  have hW : Below w.heap.size w (w.alloc (.cells #[.int .u64 0, .int .u64 0, .int .u64 0, .int .u64 0] 35)) := (Below.refl _ _).alloc (Nat.le_refl _) _
  have hE : Blk (w.alloc (.cells #[.int .u64 0, .int .u64 0, .int .u64 0, .int .u64 0] 35)) ge 25 #[vT, vA] := hE0.alloc _
  have hQ : Quad (w.alloc (.cells #[.int .u64 0, .int .u64 0, .int .u64 0, .int .u64 0] 35)) w.heap.size 0 0 0 0 := Quad.new w 0 0 0 0
  have HTY := Lib.hid (type_c vT vA Ts n (w.alloc (.cells #[.int .u64 0, .int .u64 0, .int .u64 0, .int .u64 0] 35)) (hT.keep hW) hn hal)
  have HAT := Lib.hid (fun W (hb : Kp w W) => attribute_c vT vA Ts As n W (hT.keep hb) (hA.keep hb) hn hn2)
  have HW := Lib.hid hW
  have HE := Lib.hid hE
  have HQ := Lib.hid hQ
  clear hQ hW
  obtain ⟨y0, y1⟩ := hE.two
  clear hE hT hA hal
  have HONE : Hid (∀ b, oneT Ts n = b → oneB Ts As n = (if b then true else atB As n) ∧ oneS Ts As n = (if b then ofS [tyK Ts n] else atS As Ts.length n)) := Lib.hid fun b h => by
    cases b
    · exact one_no h
    · exact one_yes h
  have hkl := tyK_le Ts n
  unfold oneT at HONE
  obtain ⟨K, hK⟩ : ∃ K, tyK Ts n = K := ⟨_, rfl⟩
  rw [hK] at HTY HONE hkl
  clear hK
  obtain ⟨hk0, hk1⟩ := hkl
  by_cases hc : tyB Ts n = true ∧ K < 256
  · obtain ⟨hB, hlt⟩ := hc
    obtain ⟨o1, o2⟩ := HONE.out true (by rw [hB, decide_eq_true hlt]; rfl)
    rw [hB] at HTY
    rw [o1, o2]
    simp only [if_true]
    clear o1 o2 hB HONE HAT
    have hOf := fun W => of_c (some ⟨(W : World).heap.size, 0, none⟩) [K] 1 (W.alloc (.cells #[.int .i64 K] 3)) (by
      have := Blk.new W 3 #[.int .i64 K]
      intro i hi
      obtain rfl : i = 0 := by simpa using hi
      exact ⟨W.heap.size, 0, rfl, this.cell 0, this.lt⟩) (by unfold maxLen; simp)
    have HOF := Lib.hid hOf
    clear hOf
    go_enter Try.func38, Try.ntmps38
    go_wp2_with fail
    refine HTY.out.mono ?_
    rintro e w2 ⟨rfl, hb2⟩
    go_wp2_with fail
    refine (HOF.out w2).mono ?_
    rintro e w3 ⟨rfl, hb3⟩
    have hb := HW.out.trans (Below.mono (Kp.step ((Below.refl _ _).alloc (Nat.le_refl _) _ |> Kp.step hb2) hb3) HW.out.size)
    have hQ3 := ((HQ.out.keep hb2).keep ((Below.refl _ _).alloc (Nat.le_refl _) (.cells #[.int .i64 K] 3))).keep hb3
    obtain ⟨c0, c1, c2, c3, f0, f1, f2, f3⟩ := hQ3.facts
    obtain ⟨r0, r1, r2, r3⟩ := quad_box (hQ3.set4 (ofI [K] 0) (ofI [K] 1) (ofI [K] 2) (ofI [K] 3))
    have HB := Lib.hid hb
    clear hb hb2 hb3 hQ3 y0 y1
    go_wp2_with fail
    exact bodyPost_ret (v := .tuple #[.agg #[.int .u64 (ofI [K] 0), .int .u64 (ofI [K] 1), .int .u64 (ofI [K] 2), .int .u64 (ofI [K] 3)], .bool true]) (by simp [results, Try.results38, go_sem, r0, r1, r2, r3]) rfl ⟨rfl, below_set4 HB.out (Nat.le_refl _) _ _ _ _⟩
  · obtain ⟨o1, o2⟩ := HONE.out false (by
      cases hB : tyB Ts n
      · rfl
      · rw [Bool.true_and]; exact decide_eq_false fun h => hc ⟨hB, h⟩)
    rw [o1, o2]
    simp only [Bool.false_eq_true, if_false]
    clear o1 o2 HONE
    have hcc : tyB Ts n = false ∨ tyB Ts n = true ∧ ¬ K < 256 := by
      cases hB : tyB Ts n
      · exact .inl rfl
      · exact .inr ⟨rfl, fun h => hc ⟨hB, h⟩⟩
    clear hc
    obtain ⟨S, hS⟩ : ∃ S, atS As Ts.length n = S := ⟨_, rfl⟩
    obtain ⟨B, hB2⟩ : ∃ B, atB As n = B := ⟨_, rfl⟩
    rw [hS, hB2] at HAT ⊢
    clear hS hB2
    rcases hcc with hB | ⟨hB, hge⟩
    all_goals
      rw [hB] at HTY
      clear hB
      go_enter Try.func38, Try.ntmps38
      go_wp2_with fail
      refine HTY.out.mono ?_
      rintro e w2 ⟨rfl, hb2⟩
      obtain ⟨y2, y3⟩ := (HE.out.keep hb2).two
      have hC := HW.out.trans (Below.mono hb2 HW.out.size)
      have HC := Lib.hid hC
      clear hC y0 y1
      have HQ2 := Lib.hid (HQ.out.keep hb2)
      clear hb2
      go_wp2_with fail
      refine (HAT.out w2 HC.out).mono ?_
      rintro e w3 ⟨rfl, hb3⟩
      have hQ3 := HQ2.out.keep hb3
      have HB := Lib.hid (HC.out.trans (Below.mono hb3 HC.out.size))
      obtain ⟨c0, c1, c2, c3, f0, f1, f2, f3⟩ := hQ3.facts
      obtain ⟨r0, r1, r2, r3⟩ := quad_box (hQ3.set4 S.a S.b S.c S.d)
      clear y2 y3 hQ3 hb3
      go_wp2_with fail
      exact bodyPost_ret (v := .tuple #[.agg #[.int .u64 S.a, .int .u64 S.b, .int .u64 S.c, .int .u64 S.d], .bool B]) (by simp [results, Try.results38, go_sem, r0, r1, r2, r3]) rfl ⟨rfl, below_set4 HB.out (Nat.le_refl _) _ _ _ _⟩
set_option maxRecDepth 100000 in
set_option maxHeartbeats 4000000 in
theorem rone_c (vT vA : Value) (Ts : List TyE) (As : List AtE) (n : ByteArray) (w : World) (hT : Tys w vT Ts) (hA : Ats w vA As) (hn : Ts.length ≤ 1000000) (hn2 : As.length ≤ 1000000) (hal : ∀ k (h : k < Ts.length), Ts[k].2.length ≤ 1000000) :
    Calls Try.prog 52 #[.string n, .agg #[vT, vA]] w (SetOut (oneS Ts As n) (oneB Ts As n) w) := by
  have hW : Below w.heap.size w ((w.alloc (.cells #[vT, vA] 25)).alloc (.cells #[.int .u64 0, .int .u64 0, .int .u64 0, .int .u64 0] 35)) := ((Below.refl _ _).alloc (Nat.le_refl _) _).alloc (by simp) _
  have hE : Blk ((w.alloc (.cells #[vT, vA] 25)).alloc (.cells #[.int .u64 0, .int .u64 0, .int .u64 0, .int .u64 0] 35)) w.heap.size 25 #[vT, vA] := (Blk.new w _ _).alloc _
  have hQ := Quad.new (w.alloc (.cells #[vT, vA] 25)) 0 0 0 0
  rw [show (w.alloc (.cells #[vT, vA] 25)).heap.size = w.heap.size + 1 by simp] at hQ
  have HTY := Lib.hid (rtype_c vT vA Ts n ((w.alloc (.cells #[vT, vA] 25)).alloc (.cells #[.int .u64 0, .int .u64 0, .int .u64 0, .int .u64 0] 35)) (hT.keep hW) hn hal)
  have HAT := Lib.hid (fun W (hb : Kp w W) => rattribute_c vT vA Ts As n W (hT.keep hb) (hA.keep hb) hn hn2)
  have HW := Lib.hid hW
  have HE := Lib.hid hE
  have HQ := Lib.hid hQ
  clear hQ hW
  obtain ⟨y0, y1⟩ := hE.two
  clear hE hT hA hal
  have HONE : Hid (∀ b, oneT Ts n = b → oneB Ts As n = (if b then true else atB As n) ∧ oneS Ts As n = (if b then ofS [tyK Ts n] else atS As Ts.length n)) := Lib.hid fun b h => by
    cases b
    · exact one_no h
    · exact one_yes h
  have hkl := tyK_le Ts n
  unfold oneT at HONE
  obtain ⟨K, hK⟩ : ∃ K, tyK Ts n = K := ⟨_, rfl⟩
  rw [hK] at HTY HONE hkl
  clear hK
  obtain ⟨hk0, hk1⟩ := hkl
  by_cases hc : tyB Ts n = true ∧ K < 256
  · obtain ⟨hB, hlt⟩ := hc
    obtain ⟨o1, o2⟩ := HONE.out true (by rw [hB, decide_eq_true hlt]; rfl)
    rw [hB] at HTY
    rw [o1, o2]
    simp only [if_true]
    clear o1 o2 hB HONE HAT
    have hOf := fun W => rof_c (some ⟨(W : World).heap.size, 0, none⟩) [K] 1 (W.alloc (.cells #[.int .i64 K] 3)) (by
      have := Blk.new W 3 #[.int .i64 K]
      intro i hi
      obtain rfl : i = 0 := by simpa using hi
      exact ⟨W.heap.size, 0, rfl, this.cell 0, this.lt⟩) (by unfold maxLen; simp)
    have HOF := Lib.hid hOf
    clear hOf
    go_enter Try.func52, Try.ntmps52
    go_wp2_with fail
    refine HTY.out.mono ?_
    rintro e w2 ⟨rfl, hb2⟩
    go_wp2_with fail
    refine (HOF.out w2).mono ?_
    rintro e w3 ⟨rfl, hb3⟩
    have hb := HW.out.trans (Below.mono (Kp.step ((Below.refl _ _).alloc (Nat.le_refl _) _ |> Kp.step hb2) hb3) HW.out.size)
    have hQ3 := ((HQ.out.keep hb2).keep ((Below.refl _ _).alloc (Nat.le_refl _) (.cells #[.int .i64 K] 3))).keep hb3
    obtain ⟨c0, c1, c2, c3, f0, f1, f2, f3⟩ := hQ3.facts
    obtain ⟨r0, r1, r2, r3⟩ := quad_box (hQ3.set4 (ofI [K] 0) (ofI [K] 1) (ofI [K] 2) (ofI [K] 3))
    have HB := Lib.hid hb
    clear hb hb2 hb3 hQ3 y0 y1
    go_wp2_with fail
    exact bodyPost_ret (v := .tuple #[.agg #[.int .u64 (ofI [K] 0), .int .u64 (ofI [K] 1), .int .u64 (ofI [K] 2), .int .u64 (ofI [K] 3)], .bool true]) (by simp [results, Try.results52, go_sem, r0, r1, r2, r3]) rfl ⟨rfl, below_set4 HB.out (Nat.le_succ _) _ _ _ _⟩
  · obtain ⟨o1, o2⟩ := HONE.out false (by
      cases hB : tyB Ts n
      · rfl
      · rw [Bool.true_and]; exact decide_eq_false fun h => hc ⟨hB, h⟩)
    rw [o1, o2]
    simp only [Bool.false_eq_true, if_false]
    clear o1 o2 HONE
    have hcc : tyB Ts n = false ∨ tyB Ts n = true ∧ ¬ K < 256 := by
      cases hB : tyB Ts n
      · exact .inl rfl
      · exact .inr ⟨rfl, fun h => hc ⟨hB, h⟩⟩
    clear hc
    obtain ⟨S, hS⟩ : ∃ S, atS As Ts.length n = S := ⟨_, rfl⟩
    obtain ⟨B, hB2⟩ : ∃ B, atB As n = B := ⟨_, rfl⟩
    rw [hS, hB2] at HAT ⊢
    clear hS hB2
    rcases hcc with hB | ⟨hB, hge⟩
    all_goals
      rw [hB] at HTY
      clear hB
      go_enter Try.func52, Try.ntmps52
      go_wp2_with fail
      refine HTY.out.mono ?_
      rintro e w2 ⟨rfl, hb2⟩
      obtain ⟨y2, y3⟩ := (HE.out.keep hb2).two
      have hC := HW.out.trans (Below.mono hb2 HW.out.size)
      have HC := Lib.hid hC
      clear hC y0 y1
      have HQ2 := Lib.hid (HQ.out.keep hb2)
      clear hb2
      go_wp2_with fail
      refine (HAT.out w2 HC.out).mono ?_
      rintro e w3 ⟨rfl, hb3⟩
      have hQ3 := HQ2.out.keep hb3
      have HB := Lib.hid (HC.out.trans (Below.mono hb3 HC.out.size))
      obtain ⟨c0, c1, c2, c3, f0, f1, f2, f3⟩ := hQ3.facts
      obtain ⟨r0, r1, r2, r3⟩ := quad_box (hQ3.set4 S.a S.b S.c S.d)
      clear y2 y3 hQ3 hb3
      go_wp2_with fail
      exact bodyPost_ret (v := .tuple #[.agg #[.int .u64 S.a, .int .u64 S.b, .int .u64 S.c, .int .u64 S.d], .bool B]) (by simp [results, Try.results52, go_sem, r0, r1, r2, r3]) rfl ⟨rfl, below_set4 HB.out (Nat.le_succ _) _ _ _ _⟩
end Go.Proofs.Ytbkejoheefnmiaa
