/- AvtabMerges: the walk. -/
import Derived.Test.YtomoldfgnbjliaaAxb
import Derived.Test.YtomoldfgnbjliaaAxd
import Derived.Test.YtomoldfgnbjliaaAwb
namespace Go.Proofs.Ytomoldfgnbjliaa
open Go.RowKit Go.Sort Go.Shelf
theorem V0_at {vs : List Bool} {L : List E} {x : E} (h : x ∈ V0 vs L) : fin ((V0 vs L).filter (P3 x.s x.t x.c)) = vec x := by
  have h1 := one_at (vs := vs) (L := L) (s := x.s) (t := x.t) (c := x.c)
  have hm : x ∈ (V0 vs L).filter (P3 x.s x.t x.c) := List.mem_filter.2 ⟨h, P3_iff.2 ⟨rfl, rfl, rfl⟩⟩
  match (V0 vs L).filter (P3 x.s x.t x.c), h1, hm with
  | [], _, hm => simp at hm
  | [y], _, hm =>
    obtain rfl : x = y := by simpa using hm
    rfl
  | y :: z :: r, h1, _ => simp at h1
theorem V0_len (vs : List Bool) (L : List E) : (V0 vs L).length ≤ L.length := Nat.le_trans (M_len _) (seenL_len _ _)
theorem strict_at {L : List E} (h : Strict L) {i j : Nat} (hi : i < L.length) (hj : j < L.length) (hij : i < j) : ltP L[i] L[j] := List.pairwise_iff_getElem.1 h i j hi hj hij
theorem emp_or0 {x : E} (h : emp x = false) : (vI (x.a ||| x.b ||| x.e) == 0) = false := by
  rw [beq_eq_false_iff_ne]
  intro e
  have h0 : x.a ||| x.b ||| x.e = 0#32 := vI_inj e
  rw [BitVec.or_eq_zero_iff, BitVec.or_eq_zero_iff] at h0
  have : emp x = true := by unfold emp; simp [h0.1.1, h0.1.2, h0.2]
  rw [h] at this
  cases this
set_option maxRecDepth 100000 in
set_option maxHeartbeats 4000000 in
theorem lmerges_c (v0 : Value) (L : List E) (v1 : Value) (B : List Bool) (W : World) (hL : Ents W v0 L) (hB : Bools W v1 B) :
    Calls Try.prog 6 #[v0, v1] W fun e w' => e = .returned (.bool true) ∧ Below W.heap.size W w' := by
  obtain ⟨a0, c0, rfl⟩ := hL.form
  obtain ⟨a1, c1, rfl⟩ := hB.form
  have HL := Lib.hid hL
  have HV := Lib.hid hB
  clear hL hB
  obtain ⟨r, hr⟩ : ∃ r, decide (300 < L.length ∨ 100 < B.length ∨ 20 < 0) = r := ⟨_, rfl⟩
  have HLA : Hid (∀ w, Calls Try.prog 8 #[.slice a0 L.length c0, .slice a1 B.length c1, .slice none 0 0] w fun e w' => e = .returned (.bool r) ∧ w = w') := Lib.hid fun w => by rw [← hr]; exact large_c a0 a1 none L.length B.length 0 c0 c1 0 w
  have HAl := Lib.hid (@alive_c)
  cases r with
  | true =>
    clear hr HL HV
    go_enter Try.func6, Try.ntmps6
    go_wp2_with (first
      | (go_at_call 8; refine (HLA.out _).mono ?_; rintro e w' ⟨rfl, rfl⟩)
      | (go_at_call 9; refine (HAl.out _).mono ?_; rintro e w2 ⟨rfl, hb⟩; have HB2 := Lib.hid hb; clear hb))
    go_ret
    exact ⟨rfl, HB2.out⟩
  | false =>
    have hsz : L.length ≤ 300 ∧ B.length ≤ 100 := by have := of_decide_eq_false hr; omega
    have hnw := new_c (.slice a0 L.length c0) L (by omega) W HL.out
    have hml : (M L).length ≤ 300 := Nat.le_trans (M_len L) hsz.1
    have hst := M_strict L
    have hne := M_ne L
    generalize M L = ML at *
    have hvl := V0_len B ML
    have HSZ := Lib.hid hsz
    have HNW := Lib.hid hnw
    have HST := Lib.hid hst
    have HNE := Lib.hid hne
    have HML := Lib.hid hml
    have HVL := Lib.hid hvl
    clear hr hsz hnw hst hne hml hvl
    have hbl : B.length ≤ 1000 := by have := HSZ.out; omega
    have hml' : ML.length ≤ 10000 := by have := HML.out; omega
    go_enter Try.func6, Try.ntmps6
    go_wp2_with (first
      | (go_at_call 8; refine (HLA.out _).mono ?_; rintro e w' ⟨rfl, rfl⟩)
      | (go_at_call 10
         refine HNW.out.mono ?_
         rintro e w1 ⟨g, rfl, hT, hg, hb⟩
         have HT1 := Lib.hid hT
         have HG := Lib.hid hg
         have HB1 := Lib.hid hb
         clear hT hg hb)
      | (go_at_call 13
         refine (activate_c HT1.out (HV.out.keep HB1.out) hbl).mono ?_
         rintro e w2 ⟨rfl, hT, hgr⟩
         have HT2 := Lib.hid hT
         have HB2 := Lib.hid (HB1.out.trans (grown_below hgr HB1.out.size HG.out))
         clear hT hgr)
      | (go_at_call 17
         refine (entries_c HT2.out hml').mono ?_
         rintro e w3 ⟨va, rfl, hO, hb⟩
         have HT3 := Lib.hid (HT2.out.keep hb)
         have HO3 := Lib.hid hO.ents
         have HB3 := Lib.hid (HB2.out.trans (hb.mono HB2.out.size))
         obtain ⟨aa, ca, rfl⟩ := hO.ents.form
         clear hO hb)
      | (go_at_call 18
         refine (visible_c HT3.out hml' hbl HST.out HNE.out).mono ?_
         rintro e w4 ⟨vs, rfl, hO, hb⟩
         have HT4 := Lib.hid (HT3.out.keep hb)
         have HO4 := Lib.hid (HO3.out.keep hb)
         have HS4 := Lib.hid hO.ents
         have HB4 := Lib.hid (HB3.out.trans (hb.mono HB3.out.size))
         obtain ⟨ab, cb, rfl⟩ := hO.ents.form
         clear hO hb))
    clear HLA HNW HT1 HT2 HT3 HO3 HB1 HB2 HB3 HG HL HV
    obtain ⟨S, hS⟩ : ∃ S, V0 B ML = S := ⟨_, rfl⟩
    have hnn : NE S := hS ▸ M_ne _
    have hss : Strict S := hS ▸ M_strict _
    have hd0 : ∀ x ∈ S, x.d = 0 := fun x h => V0_d x (hS ▸ h)
    have HFI : Hid (∀ x ∈ S, ∀ w, Below w4.heap.size w4 w → Calls Try.prog 20 #[.pointer (some ⟨g, 0, none⟩), .int .i64 x.s, .int .i64 x.t, .int .i64 x.c] w fun e w' => e = .returned (.tuple #[.int .u32 (vI x.a), .int .u32 (vI x.b), .int .u32 (vI x.e)]) ∧ Below w.heap.size w w') := Lib.hid fun x hx w hb => by
      have := find_c (HT4.out.keep hb) hml' hbl HST.out HNE.out x.s x.t x.c (wf64 x.wf.1) (wf64 x.wf.2.1) (wf64 x.wf.2.2.1)
      rw [V0_at (hS ▸ hx)] at this
      exact this
    have HNN := Lib.hid hnn
    have HSS := Lib.hid hss
    have HD0 := Lib.hid hd0
    rw [hS] at HS4 HVL ⊢
    clear hnn hss hd0 hS
    obtain ⟨n, hN⟩ : ∃ n, ML.length = n := ⟨_, rfl⟩
    obtain ⟨m, hM⟩ : ∃ m, S.length = m := ⟨_, rfl⟩
    have HN := Lib.hid hN
    have HM := Lib.hid hM
    have ho4 := HO4.out
    have hs4 := HS4.out
    have hnl := HML.out
    have hvl := HVL.out
    rw [hN] at ho4 hnl hvl ⊢
    rw [hM] at hs4 hvl ⊢
    have HO := Lib.hid ho4
    have HS := Lib.hid hs4
    clear ho4 hs4 HO4 HS4 hN hM HML HVL
    have hnI : (n : Int) ≤ 10000 := by omega
    have hmI : (m : Int) ≤ 10000 := by omega
    go_loopw [8] (fun vi wr => ∃ i : Nat, (i + 1 ≤ n ∨ i = 0) ∧ vi = .int .i64 ((i : Int) + 1) ∧ Hid (Below w4.heap.size w4 wr)) (fun vi _ => n - (intOf vi).toNat)
    case atStart => exact ⟨0, .inr rfl, rfl, Lib.hid (Below.refl _ _)⟩
    case round =>
      obtain ⟨i, hi, rfl, HW⟩ := hrel
      by_cases hlt : i + 1 < n
      · have h1 : i < ML.length := by have := HN.out; omega
        have h2 : i + 1 < ML.length := by have := HN.out; omega
        obtain ⟨ao', cap', hao, hcp, hr⟩ := HO.out
        obtain ⟨b, o, rfl, hR⟩ := hr (by rintro rfl; simp at h1)
        obtain ⟨rfl, -, rfl⟩ : aa = some ⟨b, o, none⟩ ∧ True ∧ ca = cap' := by
          simp only [Value.slice.injEq] at hao
          exact ⟨hao.1, trivial, hao.2.2⟩
        have hb4 : b < w4.heap.size := hR.lt (by rintro rfl; simp at h1)
        have hA : At7 wr b (o + i * 7) ML[i] := (hR.at h1).keep (HW.out.block b hb4)
        have hA2 : At7 wr b (o + (i + 1) * 7) ML[i + 1] := (hR.at h2).keep (HW.out.block b hb4)
        have hlts := strict_at HST.out h1 h2 (Nat.lt_succ_self i)
        generalize ML[i] = x at *
        generalize ML[i + 1] = y at *
        have HBF : Hid (∀ w1, Calls Try.prog 19 #[.agg #[.int .i64 x.s, .int .i64 x.t, .int .i64 x.c, .int .i64 x.d, .int .u32 (vI x.a), .int .u32 (vI x.b), .int .u32 (vI x.e)], .agg #[.int .i64 y.s, .int .i64 y.t, .int .i64 y.c, .int .i64 y.d, .int .u32 (vI y.a), .int .u32 (vI y.b), .int .u32 (vI y.e)]] w1 fun e w' => e = .returned (.bool true) ∧ Below w1.heap.size w1 w') := Lib.hid (fun w1 => beforeB_c x y w1 true (decide_eq_true hlts))
        have HA := Lib.hid hA
        have HA2 := Lib.hid hA2
        have hbr : b < wr.heap.size := hA.lt
        have i1 : (i : Int) + 1 < (n : Int) := by omega
        have i2 : (i : Int) < (n : Int) := by omega
        have i3 : (0 : Int) ≤ (i : Int) + 1 := by omega
        have i4 : (n : Int) ≤ (ca : Int) := by have := HN.out; omega
        clear hao hcp hr hR hA hA2 hlts
        go_wp2_with fail
        refine wp_region_kp (by kernel_rfl) (by kernel_rfl) ?_
        repeat (first
            | go_big_quiet_skip
            | (go_big_quiet_want
               go_big_quiet_op
               first
                 | go_big_quiet_on
                 | (apply Exists.intro
                    refine ⟨fun w1 hC => ?_, ?_⟩
                    · first
                        | (go_at_call 19; with_reducible exact hC.call (HBF.out _))
                        | (obtain ⟨b0, b1, b2, b3, b4, b5, b6⟩ := HA.out.keep (hC.block b hbr); obtain ⟨d0, d1, d2, d3, d4, d5, d6⟩ := HA2.out.keep (hC.block b hbr); go_simp; exact rfl)
                        | (go_simp; exact ⟨rfl, rfl⟩)
                        | exact rfl
                    go_big_quiet_on)))
        refine wpQuiet_nil ?_
        intro w5 hK5
        go_wp2_with fail
        exact ⟨⟨i + 1, .inl (by omega), by go_num, Lib.hid (HW.out.trans (Below.mono hK5 HW.out.size))⟩, by simp [intOf]; omega⟩
      · have hge : ¬ ((i : Int) + 1 < (n : Int)) := by omega
        have hge2 : decide ((i : Int) + 1 < (n : Int)) = false := decide_eq_false hge
        clear HO hi hlt
        generalize wr = wz at *
        have HOS : Hid (Ents wz (.slice ab m cb) S) := Lib.hid (HS.out.keep HW.out)
        have HF2 : Hid (∀ x ∈ S, ∀ w, Below wz.heap.size wz w → Calls Try.prog 20 #[.pointer (some ⟨g, 0, none⟩), .int .i64 x.s, .int .i64 x.t, .int .i64 x.c] w fun e w' => e = .returned (.tuple #[.int .u32 (vI x.a), .int .u32 (vI x.b), .int .u32 (vI x.e)]) ∧ Below w.heap.size w w') := Lib.hid fun x hx w hb => HFI.out x hx w (HW.out.trans (hb.mono HW.out.size))
        have HTr := Lib.hid (HT4.out.keep HW.out)
        have HBr := Lib.hid (HB4.out.trans (HW.out.mono HB4.out.size))
        clear HS HFI HT4 HB4 HW
        go_wp2_with fail
        go_loopw [9] (fun vi wr => ∃ i : Nat, i ≤ m ∧ vi = .int .i64 i ∧ Hid (Below wz.heap.size wz wr)) (fun vi _ => m - (intOf vi).toNat)
        case atStart => exact ⟨0, Nat.zero_le _, rfl, Lib.hid (Below.refl _ _)⟩
        case round =>
          obtain ⟨i, hi, rfl, HQ⟩ := hrel
          by_cases hlt : i < m
          · have h1 : i < S.length := by have := HM.out; omega
            obtain ⟨ao', cap', hao, hcp, hr⟩ := HOS.out
            obtain ⟨b, o, rfl, hR⟩ := hr (by rintro rfl; simp at h1)
            obtain ⟨rfl, -, rfl⟩ : ab = some ⟨b, o, none⟩ ∧ True ∧ cb = cap' := by
              simp only [Value.slice.injEq] at hao
              exact ⟨hao.1, trivial, hao.2.2⟩
            have hbr : b < wz.heap.size := hR.lt (by rintro rfl; simp at h1)
            have hA : At7 wr b (o + i * 7) S[i] := (hR.at h1).keep (HQ.out.block b hbr)
            have hxm : S[i] ∈ S := List.getElem_mem h1
            have HPR : Hid (∀ j, j + 1 = i → ∃ y, At7 wz b (o + j * 7) y ∧ ltP y S[i]) := Lib.hid fun j hj => ⟨S[j]'(by omega), hR.at (by omega), strict_at HSS.out (by omega) h1 (by omega)⟩
            generalize S[i] = x at *
            have hx0 := HD0.out x hxm
            have hnz := emp_or0 (HNN.out x hxm)
            have HX0 := Lib.hid hx0
            have HFx := Lib.hid (HF2.out x hxm)
            obtain ⟨s0, s1, s2, s3, s4, s5, s6⟩ := hA
            have i1 : (i : Int) < (m : Int) := by omega
            have i4 : (m : Int) ≤ (cb : Int) := by have := HM.out; omega
            have HBx := Lib.hid (Blk.new wr 39 #[.int .i64 x.s, .int .i64 x.t, .int .i64 x.c, .int .i64 x.d, .int .u32 (vI x.a), .int .u32 (vI x.b), .int .u32 (vI x.e)])
            have HWx := Lib.hid (HQ.out.alloc HQ.out.size (.cells #[.int .i64 x.s, .int .i64 x.t, .int .i64 x.c, .int .i64 x.d, .int .u32 (vI x.a), .int .u32 (vI x.b), .int .u32 (vI x.e)] 39))
            clear hao hcp hr hR hxm hx0
            go_upto_region 17 with (fail)
            obtain ⟨c0', c1', c2', c3', c4', c5', c6'⟩ := (show Box _ _ x from HBx.out).cells
            generalize hxb : wr.heap.size = xb at *
            generalize wr.alloc (.cells #[.int .i64 x.s, .int .i64 x.t, .int .i64 x.c, .int .i64 x.d, .int .u32 (vI x.a), .int .u32 (vI x.b), .int .u32 (vI x.e)] 39) = w5' at *
            clear s0 s1 s2 s3 s4 s5 s6
            go_upto_region 18 with (go_at_call 20; refine (HFx.out _ HWx.out).mono ?_; rintro e w5 ⟨rfl, hb⟩; have HB5 : Hid (Box w5 xb x) := Lib.hid (Blk.keep HBx.out hb); have HW5 := Lib.hid (HWx.out.trans (hb.mono HWx.out.size)); clear hb)
            clear c0' c1' c2' c3' c4' c5' c6' HBx HWx HFx
            have ho1 := vI_or x.a x.b
            have ho2 := vI_or (x.a ||| x.b) x.e
            have hb5 : b < w5.heap.size := Nat.lt_of_lt_of_le hbr HW5.out.size
            by_cases h0 : i = 0
            · subst h0
              clear HPR
              refine wp_region_kp (by kernel_rfl) (by kernel_rfl) ?_
              repeat (first
                  | go_big_quiet_skip
                  | (go_big_quiet_want
                     go_big_quiet_op
                     first
                       | go_big_quiet_on
                       | (apply Exists.intro
                          refine ⟨fun w1 hC => ?_, ?_⟩
                          · first
                              | (obtain ⟨b0, b1, b2, b3, b4, b5, b6⟩ := (show Box w1 xb x from hC.blk HB5.out).cells; rw [HX0.out] at b3; go_simp; exact rfl)
                              | (go_simp; exact ⟨rfl, rfl⟩)
                              | exact rfl
                          go_big_quiet_on)))
              refine wpQuiet_nil ?_
              intro w6 hK6
              go_wp2_with fail
              exact ⟨⟨1, by omega, by go_num, Lib.hid (HW5.out.trans (Below.mono hK6 HW5.out.size))⟩, by simp [intOf]; omega⟩
            · obtain ⟨j, hj⟩ : ∃ j, j + 1 = i := ⟨i - 1, by omega⟩
              obtain ⟨y, hA, hlts⟩ := HPR.out j hj
              have HA : Hid (At7 w5 b (o + j * 7) y) := Lib.hid (hA.keep (HW5.out.block b hbr))
              have HBF : Hid (∀ w1, Calls Try.prog 19 #[.agg #[.int .i64 y.s, .int .i64 y.t, .int .i64 y.c, .int .i64 y.d, .int .u32 (vI y.a), .int .u32 (vI y.b), .int .u32 (vI y.e)], .agg #[.int .i64 x.s, .int .i64 x.t, .int .i64 x.c, .int .i64 0, .int .u32 (vI x.a), .int .u32 (vI x.b), .int .u32 (vI x.e)]] w1 fun e w' => e = .returned (.bool true) ∧ Below w1.heap.size w1 w') := Lib.hid (fun w1 => by have h := beforeB_c y x w1 true (decide_eq_true hlts); rw [HX0.out] at h; exact h)
              have hc : (i : Int) = (j : Int) + 1 := by omega
              have j1 : (0 : Int) < (j : Int) + 1 := by omega
              have j2 : (j : Int) < (m : Int) := by omega
              have HJ := Lib.hid hj
              clear HPR hA hlts hj
              rw [hc] at i1 ⊢
              have HC := Lib.hid hc
              clear hc
              refine wp_region_kp (by kernel_rfl) (by kernel_rfl) ?_
              repeat (first
                  | go_big_quiet_skip
                  | (go_big_quiet_want
                     go_big_quiet_op
                     first
                       | go_big_quiet_on
                       | (apply Exists.intro
                          refine ⟨fun w1 hC => ?_, ?_⟩
                          · first
                              | (go_at_call 19; with_reducible exact hC.call (HBF.out _))
                              | (obtain ⟨b0, b1, b2, b3, b4, b5, b6⟩ := (show Box w1 xb x from hC.blk HB5.out).cells; rw [HX0.out] at b3; obtain ⟨d0, d1, d2, d3, d4, d5, d6⟩ := HA.out.keep (hC.block b hb5); go_simp; exact rfl)
                              | (obtain ⟨b0, b1, b2, b3, b4, b5, b6⟩ := (show Box w1 xb x from hC.blk HB5.out).cells; rw [HX0.out] at b3; go_simp; exact ⟨rfl, rfl⟩)
                              | (go_simp; exact ⟨rfl, rfl⟩)
                              | exact rfl
                          go_big_quiet_on)))
              refine wpQuiet_nil ?_
              intro w6 hK6
              go_wp2_with fail
              exact ⟨⟨i + 1, by omega, by have := HC.out; go_num, Lib.hid (HW5.out.trans (Below.mono hK6 HW5.out.size))⟩, by have := HC.out; simp [intOf]; omega⟩
          · obtain rfl : i = m := by omega
            have HTq := Lib.hid (HTr.out.keep HQ.out)
            have HBq := Lib.hid (HBr.out.trans (HQ.out.mono HBr.out.size))
            have HLE : Hid (∀ w', TabS w' g ML B → Calls Try.prog 21 #[.pointer (some ⟨g, 0, none⟩)] w' fun e w'' => e = .returned (.int .i64 n) ∧ w' = w'') := Lib.hid fun w' h => by
              have := len_c h
              rw [HN.out] at this
              exact this
            have k1 : (i : Int) ≤ (n : Int) := by omega
            go_wp2_with (first
              | (go_at_call 21; refine (HLE.out _ HTq.out).mono ?_; rintro e w' ⟨rfl, rfl⟩)
              | (go_at_call 9; refine (HAl.out _).mono ?_; rintro e w7 ⟨rfl, hb⟩; have HB7 := Lib.hid (HBq.out.trans (hb.mono HBq.out.size)); clear hb))
            go_ret
            exact ⟨rfl, HB7.out⟩
end Go.Proofs.Ytomoldfgnbjliaa
