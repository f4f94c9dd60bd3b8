/- Part of the proof: Cyg Phl. No conditions. -/
import Derived.Test.YtbhoofihnmmmfabGreatYat
import Derived.Test.YtbhoofihnmmmfabGreatYab
namespace Go.Proofs.YtbhoofihnmmmfabGreat
open Go.RowKit Go
/-- what a name means -/
def nameS (N : List ByteArray) (sort : Int) (aB : ByteArray → Bool) (aS : ByteArray → S4) (s : ByteArray) : Option S4 :=
 if 0 ≤ idxI N s then some (ofS [idxI N s]) else if sort = 2 ∧ aB s = true then some (aS s) else none
def meanL (f : ByteArray → Option S4) : List ByteArray → S4 → Option S4
 | [], acc => some acc
 | s :: r, acc => match f s with
   | none => none
   | some x => meanL f r (acc.or x)
theorem Blk.far4 {w : World} {g g' : Nat} {t : TypeId} {cs : Array Value} (h : Blk w g t cs) (hne : g ≠ g') (u0 u1 u2 u3 : Value) : Blk ((((w.setCell ⟨g', 0, none⟩ u0).setCell ⟨g', 1, none⟩ u1).setCell ⟨g', 2, none⟩ u2).setCell ⟨g', 3, none⟩ u3) g t cs :=
 (((h.far (p := ⟨g', 0, none⟩) hne _).far (p := ⟨g', 1, none⟩) hne _).far (p := ⟨g', 2, none⟩) hne _).far (p := ⟨g', 3, none⟩) hne _
set_option maxRecDepth 100000 in
set_option maxHeartbeats 32000000 in
theorem meaning_c (vN : Value) (E N : List ByteArray) (gp : Nat) (sort : Int) (aB : ByteArray → Bool) (aS : ByteArray → S4) (w : World) (hE : Strs w vN E) (hel : E.length ≤ maxLen) (hnl : N.length ≤ maxLen)
 (hN : ∀ W, Kp w W → Calls Tryz.prog 125 #[.pointer (some ⟨gp, 0, none⟩), .int .i64 sort] W fun e w' => ∃ v, e = .returned v ∧ OwnS w' W.heap.size v N ∧ Below W.heap.size W w')
 (hAO : ∀ W s, Kp w W → Calls Tryz.prog 128 #[.string s, .pointer (some ⟨gp, 0, none⟩)] W fun e w' => e = .returned (.tuple #[.agg #[.int .u64 (aS s).a, .int .u64 (aS s).b, .int .u64 (aS s).c, .int .u64 (aS s).d], .bool (aB s)]) ∧ Below W.heap.size W w') :
 Calls Tryz.prog 120 #[vN, .pointer (some ⟨gp, 0, none⟩), .int .i64 sort] w fun e w' => e = .returned (.tuple #[.agg #[.int .u64 ((meanL (nameS N sort aB aS) E S4.zero).getD S4.zero).a, .int .u64 ((meanL (nameS N sort aB aS) E S4.zero).getD S4.zero).b, .int .u64 ((meanL (nameS N sort aB aS) E S4.zero).getD S4.zero).c, .int .u64 ((meanL (nameS N sort aB aS) E S4.zero).getD S4.zero).d], .bool (meanL (nameS N sort aB aS) E S4.zero).isSome]) ∧ Below w.heap.size w w' := by
 obtain ⟨R, hR⟩ : ∃ R, meanL (nameS N sort aB aS) E S4.zero = R := ⟨_, rfl⟩
 have HR0 := Lib.hid hR
 rw [hR]
 have HB : Hid (Below w.heap.size w (w.alloc (.cells #[.int .u64 0, .int .u64 0, .int .u64 0, .int .u64 0] 53))) := Lib.hid ((Below.refl _ _).alloc (Nat.le_refl _) _)
 have HZ : Hid (Blk (w.alloc (.cells #[.int .u64 0, .int .u64 0, .int .u64 0, .int .u64 0] 53)) w.heap.size 53 #[.int .u64 0, .int .u64 0, .int .u64 0, .int .u64 0]) := Lib.hid (Blk.new w _ _)
 have HNO := Lib.hid (hN _ HB.out)
 have HAO := Lib.hid hAO
 obtain ⟨aoE, capE, rfl, hrE⟩ := id hE
 have HE := Lib.hid hE
 have hkI : (E.length : Int) ≤ 9223372036854775807 := by unfold maxLen at hel; omega
 have HNL := Lib.hid hnl
 clear hE hel hnl hN hAO hR hrE
 go_enter Tryz.func120, Tryz.ntmps120
 go_upto_region 1 with fail
 generalize w.alloc (.cells #[.int .u64 0, .int .u64 0, .int .u64 0, .int .u64 0] 53) = W at *
 have HLE : Hid (w.heap.size ≤ W.heap.size) := Lib.hid HB.out.size
 have HGZ : Hid (w.heap.size < W.heap.size) := Lib.hid HZ.out.lt
 generalize hg6 : w.heap.size = g6 at *
 go_upto_region 2 with (go_at_call 125; (with_reducible refine HNO.out.mono ?_); rintro e w1 ⟨v1, rfl, hO1, hb1⟩; have HO1 := Lib.hid hO1; have HB1 := Lib.hid (HB.out.trans (hb1.mono HLE.out)); have HL1 := Lib.hid (Nat.lt_of_lt_of_le HGZ.out hb1.size); have HZ1 := Lib.hid (HZ.out.keep hb1); obtain ⟨aoN, capN, rfl⟩ := HO1.out.isSl; clear hb1 hO1)
 obtain ⟨_, _, e1, _, hS1⟩ := HO1.out.strs
 simp only [Value.slice.injEq] at e1
 obtain ⟨rfl, _, rfl⟩ := e1
 have HSN := Lib.hid hS1
 clear hS1 HO1 HNO HB HZ HLE HGZ
 have HBL : Hid (Below w1.heap.size w1 (w1.alloc (.cells #[.int .u64 0, .int .u64 0, .int .u64 0, .int .u64 0] 53))) := Lib.hid ((Below.refl _ _).alloc (Nat.le_refl _) _)
 have HA0 : Hid (Blk (w1.alloc (.cells #[.int .u64 0, .int .u64 0, .int .u64 0, .int .u64 0] 53)) w1.heap.size 53 #[.int .u64 S4.zero.a, .int .u64 S4.zero.b, .int .u64 S4.zero.c, .int .u64 S4.zero.d]) := Lib.hid (Blk.new w1 _ _)
 go_upto_region 3 with fail
 generalize w1.alloc (.cells #[.int .u64 0, .int .u64 0, .int .u64 0, .int .u64 0] 53) = W1 at *
 generalize hg9 : w1.heap.size = g9 at *
 go_wp2_with fail
 go_loopw [11, 12, 13, 14, 20] (fun v11 v12 v13 v14 v20 wr => ∃ (i : Nat) (acc : S4), i ≤ E.length ∧ v20 = .int .i64 i ∧ Hid (meanL (nameS N sort aB aS) (E.drop i) acc = R) ∧ Hid (Below g9 w1 wr) ∧ Hid (Blk wr g9 53 #[.int .u64 acc.a, .int .u64 acc.b, .int .u64 acc.c, .int .u64 acc.d])) (fun _ _ _ _ v20 _ => E.length - (intOf v20).toNat)
 case atStart => exact ⟨0, S4.zero, Nat.zero_le _, rfl, Lib.hid (by rw [List.drop_zero]; exact HR0.out), HBL, HA0⟩
 case round =>
  clear HBL HA0
  obtain ⟨i, acc, hi, rfl, HM, HBW, HAC⟩ := hrel
  have HBK : Hid (Below g6 w wr) := Lib.hid (HB1.out.trans (HBW.out.mono (Nat.le_of_lt (by rw [← hg9] at *; exact HL1.out))))
  have HLR : Hid (g9 < wr.heap.size) := Lib.hid HAC.out.lt
  have HZR : Hid (Blk wr g6 53 #[.int .u64 0, .int .u64 0, .int .u64 0, .int .u64 0]) := Lib.hid (HZ1.out.below HBW.out HL1.out)
  by_cases hlt : i < E.length
  · have hlt' : (i : Int) < (E.length : Int) := by omega
    obtain ⟨s, hsx⟩ : ∃ s, E[i] = s := ⟨_, rfl⟩
    have HD : Hid (E.drop i = s :: E.drop (i + 1)) := Lib.hid (by rw [List.drop_eq_getElem_cons hlt, hsx])
    rw [HD.out] at HM
    have hEr := HE.out.keep (by rw [hg6]; exact HBK.out)
    obtain ⟨_, _, e1, hrE⟩ := hEr
    simp only [Value.slice.injEq] at e1
    obtain ⟨rfl, _, rfl⟩ := e1
    obtain ⟨gE, oE, rfl, hRow⟩ := hrE (by rintro rfl; simp at hlt)
    have c0 := hRow i hlt
    rw [hsx] at c0
    have HIX := Lib.hid (index_c _ N s wr (HSN.out.keep (by rw [hg9]; exact HBW.out)) HNL.out)
    have HAS := Lib.hid (fun W (h : Kp w W) => HAO.out W s h)
    have HF : Hid (nameS N sort aB aS s = if 0 ≤ idxI N s then some (ofS [idxI N s]) else if sort = 2 ∧ aB s = true then some (aS s) else none) := Lib.hid rfl
    have HM2 : Hid ((match nameS N sort aB aS s with | none => none | some x => meanL (nameS N sort aB aS) (E.drop (i + 1)) (acc.or x)) = R) := Lib.hid HM.out
    have HOF := Lib.hid (one_ofP (idxI N s))
    generalize nameS N sort aB aS s = ns at *
    generalize idxI N s = ii at *
    generalize aB s = ab at *
    generalize aS s = sa at *
    generalize ofS [ii] = so at *
    clear HM HD hsx hrE hRow
    by_cases hii : 0 ≤ ii
    · have hd : decide (0 ≤ ii) = true := decide_eq_true hii
      rw [if_pos hii] at HF
      rw [HF.out] at HM2
      clear HF
      go_upto_region 8 with (first
       | (go_at_call 126; (with_reducible refine HIX.out.mono ?_); rintro e w2 ⟨rfl, rfl⟩)
       | (go_at_call 127; (with_reducible refine (HOF.out _).mono ?_); rintro e w3 ⟨rfl, hb3⟩; have HB3 := Lib.hid (HBW.out.trans (hb3.mono (Nat.le_of_lt HLR.out))); have HK3 := Lib.hid (HBK.out.trans (hb3.mono (Nat.le_of_lt (Nat.lt_trans HL1.out HLR.out)))); have HL3 := Lib.hid (Nat.lt_of_lt_of_le HLR.out hb3.size); have HA3 := Lib.hid (HAC.out.keep hb3); have HZ3 := Lib.hid (HZR.out.keep hb3);  clear hb3))
      have HA8 := Lib.hid (HA3.out.alloc (.cells #[.int .u64 so.a, .int .u64 so.b, .int .u64 so.c, .int .u64 so.d] 53))
      have HD8 : Hid (Blk (w3.alloc (.cells #[.int .u64 so.a, .int .u64 so.b, .int .u64 so.c, .int .u64 so.d] 53)) w3.heap.size 53 #[.int .u64 so.a, .int .u64 so.b, .int .u64 so.c, .int .u64 so.d]) := Lib.hid (Blk.new w3 _ _)
      have HB8 : Hid (Below g9 w1 (w3.alloc (.cells #[.int .u64 so.a, .int .u64 so.b, .int .u64 so.c, .int .u64 so.d] 53))) := Lib.hid (HB3.out.alloc (Nat.le_of_lt HL3.out) _)
      have HL8 : Hid (g9 ≤ ((w3.alloc (.cells #[.int .u64 so.a, .int .u64 so.b, .int .u64 so.c, .int .u64 so.d] 53))).heap.size) := Lib.hid (Nat.le_of_lt (Nat.lt_trans HL3.out (by simp)))
      generalize (w3.alloc (.cells #[.int .u64 so.a, .int .u64 so.b, .int .u64 so.c, .int .u64 so.d] 53)) = W3 at *
      generalize w3.heap.size = g13 at *
      have a := HA8.out.cell
      have a0 := a 0
      have a1 := a 1
      have a2 := a 2
      have a3 := a 3
      have af := HA8.out.frozen
      clear a
      have d := HD8.out.cell
      have d0 := d 0
      have d1 := d 1
      have d2 := d 2
      have d3 := d 3
      have df := HD8.out.frozen
      clear d
      go_wp2_with (go_at_call 129; (refine (union_c acc.a acc.b acc.c acc.d so.a so.b so.c so.d _).mono ?_); rintro e w5 ⟨rfl, hb5⟩; have HB5 := Lib.hid (HB8.out.trans (hb5.mono HL8.out)); have HA5 := Lib.hid (HA8.out.keep hb5); have m := HA5.out.cell; have m0 := m 0; have m1 := m 1; have m2 := m 2; have m3 := m 3; have mf := HA5.out.frozen; clear m hb5)
      go_roundw
      case rel => exact ⟨i + 1, acc.or so, by omega, by go_num, HM2, Lib.hid (below_set4 HB5.out (Nat.le_refl _) _ _ _ _), Lib.hid ((((HA5.out.set 0 _).set 1 _).set 2 _).set 3 _)⟩
      case measure => simp [intOf]; omega
    · have hd : decide (0 ≤ ii) = false := decide_eq_false hii
      rw [if_neg hii] at HF
      by_cases h2 : sort = 2
      · have q2 : (sort == 2) = true := by simpa using h2
        cases ab with
        | false =>
          rw [if_neg (by simp)] at HF
          rw [HF.out] at HM2
          obtain rfl : none = R := HM2.out
          clear HF HM2 h2
          go_upto_region 8 with (first
           | (go_at_call 126; (with_reducible refine HIX.out.mono ?_); rintro e w2 ⟨rfl, rfl⟩)
           | (go_at_call 127; (with_reducible refine (HOF.out _).mono ?_); rintro e w3 ⟨rfl, hb3⟩; have HB3 := Lib.hid (HBW.out.trans (hb3.mono (Nat.le_of_lt HLR.out))); have HK3 := Lib.hid (HBK.out.trans (hb3.mono (Nat.le_of_lt (Nat.lt_trans HL1.out HLR.out)))); have HL3 := Lib.hid (Nat.lt_of_lt_of_le HLR.out hb3.size); have HA3 := Lib.hid (HAC.out.keep hb3); have HZ3 := Lib.hid (HZR.out.keep hb3);  clear hb3))
          have HZ8 := Lib.hid (HZ3.out.alloc (.cells #[.int .u64 so.a, .int .u64 so.b, .int .u64 so.c, .int .u64 so.d] 53))
          have HA8 := Lib.hid (HA3.out.alloc (.cells #[.int .u64 so.a, .int .u64 so.b, .int .u64 so.c, .int .u64 so.d] 53))
          have HD8 : Hid (Blk (w3.alloc (.cells #[.int .u64 so.a, .int .u64 so.b, .int .u64 so.c, .int .u64 so.d] 53)) w3.heap.size 53 #[.int .u64 so.a, .int .u64 so.b, .int .u64 so.c, .int .u64 so.d]) := Lib.hid (Blk.new w3 _ _)
          have HK8 : Hid (Below g6 w (w3.alloc (.cells #[.int .u64 so.a, .int .u64 so.b, .int .u64 so.c, .int .u64 so.d] 53))) := Lib.hid (HK3.out.alloc (Nat.le_of_lt (Nat.lt_trans HL1.out HL3.out)) _)
          have HB8 : Hid (Below g9 w1 (w3.alloc (.cells #[.int .u64 so.a, .int .u64 so.b, .int .u64 so.c, .int .u64 so.d] 53))) := Lib.hid (HB3.out.alloc (Nat.le_of_lt HL3.out) _)
          have HN1 : Hid (g6 < w3.heap.size) := Lib.hid (Nat.lt_trans HL1.out HL3.out)
          have HN2 : Hid (g9 < w3.heap.size) := Lib.hid HL3.out
          have HN3 : Hid (w3.heap.size ≤ ((w3.alloc (.cells #[.int .u64 so.a, .int .u64 so.b, .int .u64 so.c, .int .u64 so.d] 53))).heap.size) := Lib.hid (by simp)
          have HAT := Lib.hid (HAS.out (w3.alloc (.cells #[.int .u64 so.a, .int .u64 so.b, .int .u64 so.c, .int .u64 so.d] 53)) (by unfold Kp; rw [hg6]; exact HK8.out))
          generalize (w3.alloc (.cells #[.int .u64 so.a, .int .u64 so.b, .int .u64 so.c, .int .u64 so.d] 53)) = W3 at *
          generalize w3.heap.size = g13 at *
          have hn1 : (g6 = g13) = False := by have := HN1.out; simp; omega
          have hn2 : (g13 = g6) = False := by have := HN1.out; simp; omega
          have hn3 : (g9 = g13) = False := by have := HN2.out; simp; omega
          have hn4 : (g13 = g9) = False := by have := HN2.out; simp; omega
          go_wp2_with (go_at_call 128; (with_reducible refine HAT.out.mono ?_); rintro e w4 ⟨rfl, hb4⟩; have HK4 := Lib.hid (HK8.out.trans (hb4.mono (Nat.le_trans (Nat.le_of_lt HN1.out) HN3.out))); have HB4 := Lib.hid (HB8.out.trans (hb4.mono (Nat.le_trans (Nat.le_of_lt HN2.out) HN3.out))); have HZ4 := Lib.hid (HZ8.out.keep hb4); have HA4 := Lib.hid (HA8.out.keep hb4); have HD4 := Lib.hid (HD8.out.keep hb4); have d := HD4.out.cell; have d0 := d 0; have d1 := d 1; have d2 := d 2; have d3 := d 3; have df := HD4.out.frozen; clear d; have z := HZ4.out.cell; have z0 := z 0; have z1 := z 1; have z2 := z 2; have z3 := z 3; have zf := HZ4.out.frozen; clear z;  clear hb4)
          exact bodyPost_ret (v := .tuple #[.agg #[.int .u64 S4.zero.a, .int .u64 S4.zero.b, .int .u64 S4.zero.c, .int .u64 S4.zero.d], .bool false]) (setbool_ret Tryz.results120 rfl rfl (((((HZ4.out.far4 (by have := HN1.out; omega) _ _ _ _).set 0 _).set 1 _).set 2 _).set 3 _)) rfl ⟨rfl, by first | exact below_set4 (below_set4 HK4.out (Nat.le_of_lt HN1.out) _ _ _ _) (Nat.le_refl _) _ _ _ _ | (rw [hg6]; exact below_set4 (below_set4 HK4.out (Nat.le_of_lt HN1.out) _ _ _ _) (Nat.le_refl _) _ _ _ _)⟩
        | true =>
          rw [if_pos ⟨h2, rfl⟩] at HF
          rw [HF.out] at HM2
          clear HF h2
          go_upto_region 8 with (first
           | (go_at_call 126; (with_reducible refine HIX.out.mono ?_); rintro e w2 ⟨rfl, rfl⟩)
           | (go_at_call 127; (with_reducible refine (HOF.out _).mono ?_); rintro e w3 ⟨rfl, hb3⟩; have HB3 := Lib.hid (HBW.out.trans (hb3.mono (Nat.le_of_lt HLR.out))); have HK3 := Lib.hid (HBK.out.trans (hb3.mono (Nat.le_of_lt (Nat.lt_trans HL1.out HLR.out)))); have HL3 := Lib.hid (Nat.lt_of_lt_of_le HLR.out hb3.size); have HA3 := Lib.hid (HAC.out.keep hb3); have HZ3 := Lib.hid (HZR.out.keep hb3);  clear hb3))
          have HZ8 := Lib.hid (HZ3.out.alloc (.cells #[.int .u64 so.a, .int .u64 so.b, .int .u64 so.c, .int .u64 so.d] 53))
          have HA8 := Lib.hid (HA3.out.alloc (.cells #[.int .u64 so.a, .int .u64 so.b, .int .u64 so.c, .int .u64 so.d] 53))
          have HD8 : Hid (Blk (w3.alloc (.cells #[.int .u64 so.a, .int .u64 so.b, .int .u64 so.c, .int .u64 so.d] 53)) w3.heap.size 53 #[.int .u64 so.a, .int .u64 so.b, .int .u64 so.c, .int .u64 so.d]) := Lib.hid (Blk.new w3 _ _)
          have HK8 : Hid (Below g6 w (w3.alloc (.cells #[.int .u64 so.a, .int .u64 so.b, .int .u64 so.c, .int .u64 so.d] 53))) := Lib.hid (HK3.out.alloc (Nat.le_of_lt (Nat.lt_trans HL1.out HL3.out)) _)
          have HB8 : Hid (Below g9 w1 (w3.alloc (.cells #[.int .u64 so.a, .int .u64 so.b, .int .u64 so.c, .int .u64 so.d] 53))) := Lib.hid (HB3.out.alloc (Nat.le_of_lt HL3.out) _)
          have HN1 : Hid (g6 < w3.heap.size) := Lib.hid (Nat.lt_trans HL1.out HL3.out)
          have HN2 : Hid (g9 < w3.heap.size) := Lib.hid HL3.out
          have HN3 : Hid (w3.heap.size ≤ ((w3.alloc (.cells #[.int .u64 so.a, .int .u64 so.b, .int .u64 so.c, .int .u64 so.d] 53))).heap.size) := Lib.hid (by simp)
          have HAT := Lib.hid (HAS.out (w3.alloc (.cells #[.int .u64 so.a, .int .u64 so.b, .int .u64 so.c, .int .u64 so.d] 53)) (by unfold Kp; rw [hg6]; exact HK8.out))
          generalize (w3.alloc (.cells #[.int .u64 so.a, .int .u64 so.b, .int .u64 so.c, .int .u64 so.d] 53)) = W3 at *
          generalize w3.heap.size = g13 at *
          have hn1 : (g6 = g13) = False := by have := HN1.out; simp; omega
          have hn2 : (g13 = g6) = False := by have := HN1.out; simp; omega
          have hn3 : (g9 = g13) = False := by have := HN2.out; simp; omega
          have hn4 : (g13 = g9) = False := by have := HN2.out; simp; omega
          go_upto_region 10 with (go_at_call 128; (with_reducible refine HAT.out.mono ?_); rintro e w4 ⟨rfl, hb4⟩; have HK4 := Lib.hid (HK8.out.trans (hb4.mono (Nat.le_trans (Nat.le_of_lt HN1.out) HN3.out))); have HB4 := Lib.hid (HB8.out.trans (hb4.mono (Nat.le_trans (Nat.le_of_lt HN2.out) HN3.out))); have HZ4 := Lib.hid (HZ8.out.keep hb4); have HA4 := Lib.hid (HA8.out.keep hb4); have HD4 := Lib.hid (HD8.out.keep hb4); have d := HD4.out.cell; have d0 := d 0; have d1 := d 1; have d2 := d 2; have d3 := d 3; have df := HD4.out.frozen; clear d;  clear hb4)
          have HA9 : Hid (Blk ((((w4.setCell ⟨g13, 0, none⟩ (.int .u64 sa.a)).setCell ⟨g13, 1, none⟩ (.int .u64 sa.b)).setCell ⟨g13, 2, none⟩ (.int .u64 sa.c)).setCell ⟨g13, 3, none⟩ (.int .u64 sa.d)) g9 53 #[.int .u64 acc.a, .int .u64 acc.b, .int .u64 acc.c, .int .u64 acc.d]) := Lib.hid (HA4.out.far4 (by have := HN2.out; omega) _ _ _ _)
          have HD9 : Hid (Blk ((((w4.setCell ⟨g13, 0, none⟩ (.int .u64 sa.a)).setCell ⟨g13, 1, none⟩ (.int .u64 sa.b)).setCell ⟨g13, 2, none⟩ (.int .u64 sa.c)).setCell ⟨g13, 3, none⟩ (.int .u64 sa.d)) g13 53 #[.int .u64 sa.a, .int .u64 sa.b, .int .u64 sa.c, .int .u64 sa.d]) := Lib.hid ((((HD4.out.set 0 _).set 1 _).set 2 _).set 3 _)
          have HB9 : Hid (Below g9 w1 ((((w4.setCell ⟨g13, 0, none⟩ (.int .u64 sa.a)).setCell ⟨g13, 1, none⟩ (.int .u64 sa.b)).setCell ⟨g13, 2, none⟩ (.int .u64 sa.c)).setCell ⟨g13, 3, none⟩ (.int .u64 sa.d))) := Lib.hid (below_set4 HB4.out (Nat.le_of_lt HN2.out) _ _ _ _)
          clear d0 d1 d2 d3 df
          generalize ((((w4.setCell ⟨g13, 0, none⟩ (.int .u64 sa.a)).setCell ⟨g13, 1, none⟩ (.int .u64 sa.b)).setCell ⟨g13, 2, none⟩ (.int .u64 sa.c)).setCell ⟨g13, 3, none⟩ (.int .u64 sa.d)) = W4 at *
          have HL9 : Hid (g9 ≤ W4.heap.size) := Lib.hid (Nat.le_of_lt HA9.out.lt)
          have a := HA9.out.cell
          have a0 := a 0
          have a1 := a 1
          have a2 := a 2
          have a3 := a 3
          have af := HA9.out.frozen
          clear a
          have d := HD9.out.cell
          have d0 := d 0
          have d1 := d 1
          have d2 := d 2
          have d3 := d 3
          have df := HD9.out.frozen
          clear d
          go_wp2_with (go_at_call 129; (refine (union_c acc.a acc.b acc.c acc.d sa.a sa.b sa.c sa.d _).mono ?_); rintro e w5 ⟨rfl, hb5⟩; have HB5 := Lib.hid (HB9.out.trans (hb5.mono HL9.out)); have HA5 := Lib.hid (HA9.out.keep hb5); have m := HA5.out.cell; have m0 := m 0; have m1 := m 1; have m2 := m 2; have m3 := m 3; have mf := HA5.out.frozen; clear m hb5)
          go_roundw
          case rel => exact ⟨i + 1, acc.or sa, by omega, by go_num, HM2, Lib.hid (below_set4 HB5.out (Nat.le_refl _) _ _ _ _), Lib.hid ((((HA5.out.set 0 _).set 1 _).set 2 _).set 3 _)⟩
          case measure => simp [intOf]; omega
      · have q2 : (sort == 2) = false := by simpa using h2
        rw [if_neg (fun h => h2 h.1)] at HF
        rw [HF.out] at HM2
        obtain rfl : none = R := HM2.out
        clear HF HM2 h2
        go_upto_region 8 with (first
         | (go_at_call 126; (with_reducible refine HIX.out.mono ?_); rintro e w2 ⟨rfl, rfl⟩)
         | (go_at_call 127; (with_reducible refine (HOF.out _).mono ?_); rintro e w3 ⟨rfl, hb3⟩; have HB3 := Lib.hid (HBW.out.trans (hb3.mono (Nat.le_of_lt HLR.out))); have HK3 := Lib.hid (HBK.out.trans (hb3.mono (Nat.le_of_lt (Nat.lt_trans HL1.out HLR.out)))); have HL3 := Lib.hid (Nat.lt_of_lt_of_le HLR.out hb3.size); have HA3 := Lib.hid (HAC.out.keep hb3); have HZ3 := Lib.hid (HZR.out.keep hb3);  clear hb3))
        have HZ8 := Lib.hid (HZ3.out.alloc (.cells #[.int .u64 so.a, .int .u64 so.b, .int .u64 so.c, .int .u64 so.d] 53))
        have HB8 : Hid (Below g6 w (w3.alloc (.cells #[.int .u64 so.a, .int .u64 so.b, .int .u64 so.c, .int .u64 so.d] 53))) := Lib.hid (HK3.out.alloc (Nat.le_of_lt (Nat.lt_trans HL1.out HL3.out)) _)
        generalize (w3.alloc (.cells #[.int .u64 so.a, .int .u64 so.b, .int .u64 so.c, .int .u64 so.d] 53)) = W3 at *
        generalize w3.heap.size = g13 at *
        have z := HZ8.out.cell
        have z0 := z 0
        have z1 := z 1
        have z2 := z 2
        have z3 := z 3
        have zf := HZ8.out.frozen
        clear z
        go_wp2_with fail
        exact bodyPost_ret (v := .tuple #[.agg #[.int .u64 S4.zero.a, .int .u64 S4.zero.b, .int .u64 S4.zero.c, .int .u64 S4.zero.d], .bool false]) (setbool_ret Tryz.results120 rfl rfl ((((HZ8.out.set 0 _).set 1 _).set 2 _).set 3 _)) rfl ⟨rfl, by first | exact below_set4 HB8.out (Nat.le_refl _) _ _ _ _ | (rw [hg6]; exact below_set4 HB8.out (Nat.le_refl _) _ _ _ _)⟩
  · have hlt' : ¬ (i : Int) < (E.length : Int) := by omega
    obtain rfl : some acc = R := by
     have := HM.out
     rw [List.drop_of_length_le (by omega)] at this
     exact this
    have a := HAC.out.cell
    have a0 := a 0
    have a1 := a 1
    have a2 := a 2
    have a3 := a 3
    have z := HZR.out.cell
    have z0 := z 0
    have z1 := z 1
    have z2 := z 2
    have z3 := z 3
    have zf := HZR.out.frozen
    clear a z
    go_wp2_with fail
    exact bodyPost_ret (v := .tuple #[.agg #[.int .u64 acc.a, .int .u64 acc.b, .int .u64 acc.c, .int .u64 acc.d], .bool true]) (setbool_ret Tryz.results120 rfl rfl ((((HZR.out.set 0 _).set 1 _).set 2 _).set 3 _)) rfl ⟨rfl, by first | exact below_set4 HBK.out (Nat.le_refl _) _ _ _ _ | (rw [hg6]; exact below_set4 HBK.out (Nat.le_refl _) _ _ _ _)⟩
open Go.RowKit Go
/-- the slot that an operation's property speaks of -/
def dslo (lnk : Nat → Option Tmp) (j : Nat) (o : Oper) : Option Tmp := match o.dst with | some t => some t | none => lnk j
def valO (lnk : Nat → Option Tmp) (j : Nat) (o : Oper) (A : Act) (u : Value) : Value := match o.dst with | some _ => u | none => match lnk j with | some s => A.eval (.tmp s) | none => u
def lnkB (ops : Array Oper) (lnk : Nat → Option Tmp) : Bool := (List.range ops.size).all fun k => match ops[k]? with
 | some o => (match o.dst with | some _ => true | none => match lnk k with | none => true | some s => (match srcOf ops ops.size s with | some j => waitsOn o j | none => false))
 | none => true
theorem lnkB_at {ops : Array Oper} {lnk : Nat → Option Tmp} (h : lnkB ops lnk = true) {k : Nat} {o : Oper} (ho : ops[k]? = some o) (hd : o.dst = none) {s : Tmp} (hs : lnk k = some s) : ∃ j, srcOf ops ops.size s = some j ∧ waitsOn o j = true := by
 have h1 := List.all_eq_true.1 h k (List.mem_range.2 (Array.getElem?_eq_some_iff.1 ho).1)
 rw [ho] at h1
 simp only [hd, hs] at h1
 cases hc : srcOf ops ops.size s with
 | none => rw [hc] at h1; cases h1
 | some j => rw [hc] at h1; exact ⟨j, rfl, h1⟩
section
variable {P : Program} {ops : Array Oper} {C : (Nat → Bool) → World → Prop} {Rel : Nat → World → World → Prop} {a0 : Act} {Φ : Nat → Value → World → Prop} {Q : Exit → Act → World → Prop}
/-- what is to be shown of an operation -/
def obK (P : Program) (ops : Array Oper) (C : (Nat → Bool) → World → Prop) (Rel : Nat → World → World → Prop) (a0 : Act) (Φ : Nat → Value → World → Prop) (lnk : Nat → Option Tmp) (i : Nat) (o : Oper) : Prop :=
 (match o.guard with | none => True | some (j, b) => ∀ v w, Φ j v w → v = .bool b) ∧ ∀ A w d, d i = false → C d w → (∀ t, facG ops Φ a0 i o A w t) → (∀ j, waitsOn o j = true → ∃ v, Φ j v w) → ∀ K Q, (∀ u w', Rel i w w' → Φ i (valO lnk i o A u) w' → K (A.put o.dst u) w') → o.wp P A w K Q
def obKs (P : Program) (ops : Array Oper) (C : (Nat → Bool) → World → Prop) (Rel : Nat → World → World → Prop) (a0 : Act) (Φ : Nat → Value → World → Prop) (lnk : Nat → Option Tmp) : Nat → List Oper → Prop
 | _, [] => True
 | k, o :: r => obK P ops C Rel a0 Φ lnk k o ∧ obKs P ops C Rel a0 Φ lnk (k + 1) r
theorem obKs_at {lnk : Nat → Option Tmp} : ∀ {l : List Oper} {k : Nat}, obKs P ops C Rel a0 Φ lnk k l → ∀ i o, l[i]? = some o → obK P ops C Rel a0 Φ lnk (k + i) o
 | [], _, _, i, o, h => by simp at h
 | x :: l, k, h, 0, o, ho => by
   obtain rfl : x = o := by simpa using ho
   exact h.1
 | x :: l, k, h, i + 1, o, ho => by
   have := obKs_at h.2 i o (by simpa using ho)
   rwa [show k + (i + 1) = k + 1 + i by omega]
structure KInv (ops : Array Oper) (C : (Nat → Bool) → World → Prop) (a0 : Act) (Φ : Nat → Value → World → Prop) (lnk : Nat → Option Tmp) (listed : Array Bool) (a : Act) (w : World) : Prop where
 c : C (fun j => listed.getD j false) w
 size : a.tmps.size = a0.tmps.size
 defers : a.defers = a0.defers
 out : ∀ t, srcOf ops ops.size t = none → a.eval (.tmp t) = a0.eval (.tmp t)
 phi : ∀ j oj, ops[j]? = some oj → listed.getD j false = true → outP (Φ j) a w (dslo lnk j oj)
 old : ∀ j oj t, ops[j]? = some oj → oj.dst = some t → listed.getD j false = false → a.eval (.tmp t) = a0.eval (.tmp t)
theorem lnk_head {lnk : Nat → Option Tmp} (hLk : lnkB ops lnk = true) (hB : phiB ops ops.size a0.tmps.size = true) (hC : ∀ i d w w', d i = false → C d w → Rel i w w' → C (fun j => if j = i then true else d j) w') (ban : List (Nat × Nat)) (hban : (ban.all fun p => afterB ops p.1 p.2) = true) (hst : ∀ i j v w w', i ≠ j → (i, j) ∉ ban → Φ i v w → Rel j w w' → Φ i v w')
 (ob : ∀ i o, ops[i]? = some o → obK P ops C Rel a0 Φ lnk i o)
 (hready : ∀ listed t, ops.size ≤ t → t ∉ Region.ready .any ops listed)
 (leaf : ∀ listed a w, KInv ops C a0 Φ lnk listed a w → HeadInv .any ops ops.size listed → (∀ i, i < ops.size → listed.getD i true = true) → wpAny P .any ops Q 0 listed a w) :
 ∀ (f : Nat) (listed : Array Bool) (a : Act) (w : World), HeadInv .any ops ops.size listed → KInv ops C a0 Φ lnk listed a w → cntU ops.size listed = f → wpAny P .any ops Q f listed a w := by
 intro f
 induction f with
 | zero =>
   intro listed a w hi hv hc
   refine leaf listed a w hv hi fun i hin => ?_
   have := List.countP_eq_zero.1 hc i (List.mem_range.2 hin)
   simpa using this
 | succ f ih =>
   intro listed a w hi hv hc
   have hex : ∃ i, i < ops.size ∧ listed.getD i true = false := by
    have hpos : 0 < cntU ops.size listed := by omega
    obtain ⟨i, him, hib⟩ := List.countP_pos_iff.1 hpos
    exact ⟨i, List.mem_range.1 him, by simpa using hib⟩
   refine ⟨fun h0 => ?_, fun i him => ?_⟩
   · obtain ⟨k, hkn, hk⟩ := hex
     obtain ⟨i, hik, hil, hmin⟩ := least (p := fun i => listed.getD i true = false) k hk
     obtain ⟨o, ho, hlow, _⟩ := phiB_at hB (show i < ops.size by omega)
     have : i ∈ Region.ready .any ops listed := mem_ready.2 ⟨hil, o, ho, fun e he hb => by
      have h1 := hlow e he hb
      have h2 := hmin e.on h1
      have h3 : e.on < listed.size := by
       rw [hi.size]
       have := (Array.getElem?_eq_some_iff.1 ho).1
       omega
      simp only [Array.getD_eq_getD_getElem?, Array.getElem?_eq_getElem h3, Option.getD_some] at h2 ⊢
      simpa using h2⟩
     rw [h0] at this
     cases this
   · have hin : i < ops.size := by
      rcases Nat.lt_or_ge i ops.size with h | h
      · exact h
      · exact absurd him (hready listed i h)
     obtain ⟨hil, oi, hoi, hall⟩ := mem_ready.1 him
     have hil2 : listed.getD i false = false := by
      have h3 : i < listed.size := by rw [hi.size]; exact hin
      simp only [Array.getD_eq_getD_getElem?, Array.getElem?_eq_getElem h3, Option.getD_some] at hil ⊢
      exact hil
     obtain ⟨o', ho', hlow, hdst, hgd⟩ := phiB_at hB hin
     obtain rfl : o' = oi := Option.some.inj (ho'.symm.trans hoi)
     obtain ⟨og, ov⟩ := ob i o' hoi
     have hlist : ∀ j, waitsOn o' j = true → listed.getD j false = true := fun j hj => by
      obtain ⟨e, he, hb, rfl⟩ := waitsOn_spec hj
      exact hall e he hb
     have hfact : ∀ t, facG ops Φ a0 i o' a w t := fun t => by
      unfold facG
      cases hs : srcOf ops ops.size t with
      | none => exact hv.out t hs
      | some j =>
        obtain ⟨hjn, oj, hoj, hdj⟩ := srcOf_some hs
        refine ⟨fun hw => ?_, fun hw => ?_⟩
        · have := hv.phi j oj hoj (hlist j hw)
          unfold dslo at this
          rw [hdj] at this
          exact this
        · refine hv.old j oj t hoj hdj ?_
          unfold afterB at hw
          rw [hoj] at hw
          cases hl : listed.getD j false with
          | false => rfl
          | true =>
            obtain ⟨e, he, hb, rfl⟩ := waitsOn_spec hw
            have := hi.closed j oj hoj hl e he hb
            rw [hil2] at this
            cases this
     have hwaits : ∀ j, waitsOn o' j = true → ∃ v, Φ j v w := fun j hj => by
      obtain ⟨e, he, hb, rfl⟩ := waitsOn_spec hj
      have h1 := hlow e he hb
      obtain ⟨oj, hoj, _⟩ := phiB_at hB (show e.on < ops.size by omega)
      exact (hv.phi e.on oj hoj (hlist e.on hj)).any
     have hwant : Region.wanted o' (yielded ops a.tmps) = true := by
      unfold Region.wanted
      cases hg : o'.guard with
      | none => rfl
      | some jb =>
        obtain ⟨j, b⟩ := jb
        obtain ⟨hjn, hwj, oj, t, hoj, hdj⟩ := hgd j b hg
        rw [hg] at og
        have hp := hv.phi j oj hoj (hlist j hwj)
        unfold dslo at hp
        rw [hdj] at hp
        have hval : a.eval (.tmp t) = .bool b := og _ _ hp
        obtain ⟨_, hoj2, _, hd2, _⟩ := phiB_at hB hjn
        obtain rfl := Option.some.inj (hoj2.symm.trans hoj)
        have ht := (hd2 t hdj).1
        rw [← hv.size] at ht
        have hval2 : a.tmps[t]? = some (.bool b) := by
         simp only [Act.eval, Array.getD_eq_getD_getElem?, Array.getElem?_eq_getElem ht, Option.getD_some] at hval
         rw [Array.getElem?_eq_getElem ht, hval]
        simp [yielded, hoj, hdj, hval2]
     have hother : ∀ (u : Value) j oj t, ops[j]? = some oj → oj.dst = some t → j ≠ i → (a.put o'.dst u).eval (.tmp t) = a.eval (.tmp t) := fun u j oj t hoj hdj hji => by
      rw [Act.eval_put (fun d hd e => ?_)]
      cases e
      obtain ⟨_, hoj2, _, hd2, _⟩ := phiB_at hB (Array.getElem?_eq_some_iff.1 hoj).1
      obtain rfl := Option.some.inj (hoj2.symm.trans hoj)
      have e1 := (hd2 t hdj).2
      rw [(hdst t hd).2] at e1
      exact hji (Option.some.inj e1).symm
     unfold wpOp
     simp only [hoi, hwant, if_true]
     refine .inl (ov a w (fun j => listed.getD j false) hil2 hv.c hfact hwaits _ _ fun u w' hb hu => ?_)
     refine ih _ _ _ (hi.set him hin) ⟨by
      have h1 := hC i (fun j => listed.getD j false) w w' hil2 hv.c hb
      have e : (fun j => (listed.setIfInBounds i true).getD j false) = fun j => if j = i then true else listed.getD j false := funext fun j => by
       by_cases hji : j = i
       · subst hji
         have h3 : j < listed.size := by rw [hi.size]; exact hin
         simp [h3]
       · rw [getD_set_ne false (Ne.symm hji), if_neg hji]
      rw [e]; exact h1, by rw [put_size]; exact hv.size, by rw [put_def]; exact hv.defers, fun t ht => ?_, fun j oj hoj hlj => ?_, fun j oj t hoj hdj hlj => ?_⟩ ?_
     · rw [Act.eval_put (fun d hd e => ?_)]
       · exact hv.out t ht
       · cases e
         rw [(hdst t hd).2] at ht
         cases ht
     · by_cases hji : j = i
       · subst hji
         obtain rfl := Option.some.inj (hoj.symm.trans hoi)
         unfold dslo
         unfold valO at hu
         cases hd : oj.dst with
         | none =>
           rw [hd] at hu
           cases hk : lnk j with
           | none => rw [hk] at hu; exact ⟨u, hu⟩
           | some s =>
             rw [hk] at hu
             exact hu
         | some t =>
           rw [hd] at hu
           show Φ j ((a.put (some t) u).eval (.tmp t)) w'
           rw [eval_same (by rw [hv.size]; exact (hdst t hd).1)]
           exact hu
       · rw [getD_set_ne false (Ne.symm hji)] at hlj
         have h0 := hv.phi j oj hoj hlj
         have hnb : (j, i) ∉ ban := fun hb2 => by
          have h1 := List.all_eq_true.1 hban _ hb2
          unfold afterB at h1
          rw [hoj] at h1
          obtain ⟨e, he, hbe, hei⟩ := waitsOn_spec h1
          have h2 := hi.closed j oj hoj hlj e he hbe
          rw [hei] at h2
          rw [hil2] at h2
          cases h2
         unfold dslo at h0 ⊢
         cases hd : oj.dst with
         | none =>
           rw [hd] at h0
           cases hk : lnk j with
           | none =>
             rw [hk] at h0
             obtain ⟨v, h0⟩ := h0
             exact ⟨v, hst _ _ _ _ _ hji hnb h0 hb⟩
           | some s =>
             rw [hk] at h0
             have h1 := hst _ _ _ _ _ hji hnb h0 hb
             show Φ j ((a.put o'.dst u).eval (.tmp s)) w'
             have he : (a.put o'.dst u).eval (.tmp s) = a.eval (.tmp s) := by
              rw [Act.eval_put (fun d hd2 e => ?_)]
              cases e
              obtain ⟨m, hm, hwm⟩ := lnkB_at hLk hoj hd hk
              rw [(hdst s hd2).2] at hm
              obtain rfl := Option.some.inj hm
              obtain ⟨e, he, hbe, hei⟩ := waitsOn_spec hwm
              have h2 := hi.closed j oj hoj hlj e he hbe
              rw [hei, hil2] at h2
              cases h2
             rw [he]
             exact h1
         | some t =>
           rw [hd] at h0
           have h1 := hst _ _ _ _ _ hji hnb h0 hb
           show Φ j ((a.put o'.dst u).eval (.tmp t)) w'
           rw [hother u j oj t hoj hd hji]
           exact h1
     · by_cases hji : j = i
       · subst hji
         exfalso
         have h3 : j < listed.size := by rw [hi.size]; exact hin
         simp [h3] at hlj
       · rw [getD_set_ne false (Ne.symm hji)] at hlj
         rw [hother u j oj t hoj hdj hji]
         exact hv.old j oj t hoj hdj hlj
     · have := cnt_step (fun j => !listed.getD j true) (fun j => !(listed.setIfInBounds i true).getD j true) i (by rw [hil]; rfl) (by
        have : i < listed.size := by rw [hi.size]; exact (Array.getElem?_eq_some_iff.1 hoi).1
        simp [this]) (fun j hj => by rw [getD_set_ne true (Ne.symm hj)]) ops.size hin
       unfold cntU at hc ⊢
       omega
end
theorem wp_region_lnk {P : Program} {id : Nat} {Q : Exit → Act → World → Prop} {a0 : Act} {W : World} {l : List Oper} (C : (Nat → Bool) → World → Prop) (Rel : Nat → World → World → Prop) (Φ : Nat → Value → World → Prop) (lnk : Nat → Option Tmp) (hLk : lnkB l.toArray lnk = true) (hm : P.follows .mixedOrders = true)
 (hB : phiB l.toArray l.toArray.size a0.tmps.size = true) (hC0 : C (fun _ => false) { W with drawn := W.drawn + 1 }) (hC : ∀ i d w w', d i = false → C d w → Rel i w w' → C (fun j => if j = i then true else d j) w') (ban : List (Nat × Nat)) (hban : (ban.all fun p => afterB l.toArray p.1 p.2) = true) (hst : ∀ i j v w w', i ≠ j → (i, j) ∉ ban → Φ i v w → Rel j w w' → Φ i v w')
 (ob : obKs P l.toArray C Rel a0 Φ lnk 0 l)
 (h : ∀ a w d, (∀ j, j < l.length → d j = true) → C d w → a.tmps.size = a0.tmps.size → a.defers = a0.defers → (∀ t, endG l.toArray Φ a0 a w t) → (∀ j oj, l.toArray[j]? = some oj → outP (Φ j) a w (dslo lnk j oj)) → Q .normal a w) : (Code.region id l.toArray true).wp P Q a0 W := by
 refine wp_region_any hm ?_
 have hno : ∀ listed t, l.toArray.size ≤ t → t ∉ Region.ready .any l.toArray listed := fun listed t ht hr => by
  obtain ⟨_, o, ho, _⟩ := mem_ready.1 hr
  have := (Array.getElem?_eq_some_iff.1 ho).1
  omega
 have := lnk_head (P := P) (Q := Q) (C := C) (Rel := Rel) (Φ := Φ) (a0 := a0) (lnk := lnk) hLk hB hC ban hban hst (fun i o ho => by have := obKs_at ob i o (by simpa using ho); rwa [Nat.zero_add] at this) (fun listed t ht => hno listed t ht) (fun listed a w hv hi hall => by
  have hl : ∀ j, j < l.toArray.size → listed.getD j false = true := fun j hj => by
   have h1 := hall j hj
   have h2 : j < listed.size := by rw [hi.size]; exact hj
   simp only [Array.getD_eq_getD_getElem?, Array.getElem?_eq_getElem h2, Option.getD_some] at h1 ⊢
   exact h1
  refine ⟨?_, h a w _ (fun j hj => hl j (by simpa using hj)) hv.c hv.size hv.defers (fun t => ?_) (fun j oj hoj => hv.phi j oj hoj (hl j (Array.getElem?_eq_some_iff.1 hoj).1))⟩
  · cases hr : Region.ready .any l.toArray listed with
    | nil => rfl
    | cons i r =>
      have him : i ∈ Region.ready .any l.toArray listed := by rw [hr]; simp
      obtain ⟨hil, o, ho, _⟩ := mem_ready.1 him
      have := hall i (Array.getElem?_eq_some_iff.1 ho).1
      rw [hil] at this
      cases this
  · unfold endG
    cases hs : srcOf l.toArray l.toArray.size t with
    | none => exact hv.out t hs
    | some j =>
      obtain ⟨hjn, oj, hoj, hdj⟩ := srcOf_some hs
      have := hv.phi j oj hoj (hl j hjn)
      unfold dslo at this
      rw [hdj] at this
      exact this) l.toArray.size (Array.replicate l.toArray.size false) a0 { W with drawn := W.drawn + 1 }
  ⟨by simp, fun j oj _ hl => (by rw [getD_replicate_false] at hl; cases hl), fun t ht ht' => absurd ht' (by omega)⟩
  ⟨by
    have e : (fun j => (Array.replicate l.toArray.size false).getD j false) = fun _ => false := funext fun j => getD_replicate_false _ _
    rw [e]; exact hC0, rfl, rfl, fun _ _ => rfl, fun j oj _ hl => (by rw [getD_replicate_false] at hl; cases hl), fun _ _ _ _ _ _ => rfl⟩ (by
    unfold cntU
    rw [List.countP_eq_length.2 fun i hi => by
     rw [getD_in (by simpa using List.mem_range.1 hi) (getD_replicate_false _ _)]; rfl]
    simp)
 simpa using this
theorem fl_link {ops : Array Oper} {Φ : Nat → Value → World → Prop} {lnk : Nat → Option Tmp} {a : Act} {w : World} (h : ∀ j oj, ops[j]? = some oj → outP (Φ j) a w (dslo lnk j oj)) {j : Nat} {oj : Oper} (ho : ops[j]? = some oj) (hd : oj.dst = none) {s : Tmp} (hk : lnk j = some s) : Φ j (a.tmps[s]?.getD undef) w := by
 have h1 := h j oj ho
 unfold dslo at h1
 rw [hd, hk] at h1
 have h2 : Φ j (a.eval (.tmp s)) w := h1
 rwa [show a.eval (.tmp s) = a.tmps[s]?.getD undef by simp [Act.eval]] at h2
end Go.Proofs.YtbhoofihnmmmfabGreat
