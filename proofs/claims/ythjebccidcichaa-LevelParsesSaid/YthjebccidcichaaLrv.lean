/- The reference's level: a level that is read from a place on. -/
import Derived.Test.YthjebccidcichaaLrl
import Derived.Test.YthjebccidcichaaLvv
namespace Go.Proofs.Ythjebccidcichaa
open Go.RowKit
def RLvOut (S : ByteArray) (i : Nat) (w : World) (e : Ending) (w' : World) : Prop :=
  ∃ (sn : ByteArray) (v : Value) (k : Nat) (ok : Bool) (L0 : List Sp), e = .returned (.tuple #[.agg #[.string sn, v], .int .i64 k, .bool ok]) ∧ k ≤ S.size ∧ Spans w' v L0 ∧ Below w.heap.size w w' ∧
    (ok = false → rfLv (S.data.toList.drop i) = none) ∧ (ok = true → ∃ l, rfLv (S.data.toList.drop i) = some (l, S.data.toList.drop k) ∧ sn = mk l.1 ∧ L0 = l.2.map mkS)
theorem sl_ret {a b : Bool} (h : a = b) : Value.bool a = .bool b := by rw [h]
theorem head_at {S : ByteArray} {k : Nat} (h : k < S.size) : (S.data.toList.drop k).head? = some S.data.toList[k] ∧ (byI S k = ((S.data.toList[k]'(by rw [← Go.Lib.size_eq]; exact h)).toNat : Int)) := by
  have hl : k < S.data.toList.length := by rw [← Go.Lib.size_eq]; exact h
  refine ⟨by rw [List.drop_eq_getElem_cons hl]; rfl, ?_⟩
  unfold byI
  rw [List.getD_eq_getElem?_getD, List.getElem?_eq_getElem hl]
  rfl
/-- the byte at k is c -/
theorem byte_is {S : ByteArray} {k : Nat} (h : k < S.size) (c : UInt8) : (byI S k == (c.toNat : Int)) = decide ((S.data.toList.drop k).head? = some c) := by
  obtain ⟨h1, h2⟩ := head_at h
  rw [h1, h2, Bool.eq_iff_iff]
  simp only [beq_iff_eq, decide_eq_true_eq, Option.some.injEq]
  constructor
  · intro h; exact UInt8.toNat_inj.1 (by omega)
  · intro h; rw [h]
set_option maxRecDepth 100000 in
set_option maxHeartbeats 16000000 in
theorem rlev_c (S : ByteArray) (i : Nat) (w : World) (hs : S.size ≤ 1000000) (hi : i ≤ S.size) :
    Calls Try.prog 62 #[.string S, .int .i64 i] w (RLvOut S i w) := by
  obtain ⟨i0, hinf, hz0, hz1, hz2⟩ := info_parts infoSpan
  have HW := Lib.hid (fun j W hj => rword_c S j W (by omega) hj)
  obtain ⟨e1, e2⟩ := wEnd_le hi
  obtain ⟨k, hk⟩ : ∃ k, wEnd S i = k := ⟨_, rfl⟩
  have hx := ext_word hi
  have hd := drop_word hi
  have hn := word_none hi
  have HW0 := Lib.hid (HW.out i · hi)
  have hLV : rfLv (S.data.toList.drop i) = rfLv (S.data.toList.drop i) := rfl
  conv at hLV => rhs; unfold rfLv
  rw [hk] at e1 e2 hx hd hn HW0
  rw [← hd] at hLV
  obtain ⟨nmx, hnm⟩ : ∃ t, (S.data.toList.drop i).takeWhile wd = t := ⟨_, rfl⟩
  rw [hnm] at hx hn hLV
  have hki : (i : Int) ≤ (k : Int) := by omega
  have hkS : (k : Int) ≤ (S.size : Int) := by omega
  have hB := Blk.new w 50 #[.string ⟨#[]⟩, .slice none 0 0]
  have hW : Kp w (w.alloc (.cells #[.string ⟨#[]⟩, .slice none 0 0] 50)) := Kp.rfl'.alloc _
  have q3 := Blk.new (w.alloc (.cells #[.string ⟨#[]⟩, .slice none 0 0] 50)) 50 #[.string (mk nmx), .slice none 0 0]
  have hz : (w.alloc (.cells #[.string ⟨#[]⟩, .slice none 0 0] 50)).heap.size = w.heap.size + 1 := by simp
  rw [hz] at q3
  have hB' := hB.alloc (.cells #[.string (mk nmx), .slice none 0 0] 50)
  have hW' : Kp w ((w.alloc (.cells #[.string ⟨#[]⟩, .slice none 0 0] 50)).alloc (.cells #[.string (mk nmx), .slice none 0 0] 50)) := hW.alloc _
  obtain ⟨xs, hxs⟩ : ∃ x, S.extract i k = x := ⟨_, rfl⟩
  rw [hxs] at hx
  have HX := Lib.hid hx
  by_cases hk0 : k = i
  · have hN : rfLv (S.data.toList.drop i) = none := by rw [hLV, if_pos (hn.1 hk0)]
    have hb0 : ((k : Int) == (i : Int)) = true := by simp; omega
    have HN := Lib.hid hN
    clear hk hx hd hn hLV hnm hk0 hN hB hW hz q3 hB' hW'
    go_enter Try.func62, Try.ntmps62
    go_wp2_with (go_at_call 69; refine (HW0.out _).mono ?_; rintro e w2 ⟨rfl, rfl⟩)
    obtain ⟨r0, r1⟩ := ((Blk.new w 50 #[.string xs, .slice none 0 0]).alloc (.cells #[.string xs, .slice none 0 0] 50)).box2
    exact bodyPost_ret (v := .tuple #[.agg #[.string xs, .slice none 0 0], .int .i64 k, .bool false]) (by simp [results, Try.results62, go_sem, r0, r1]) rfl ⟨xs, .slice none 0 0, k, false, [], rfl, e2, Spans.nil, (Kp.rfl'.alloc _).alloc _, fun _ => HN.out, fun h => by cases h⟩
  · have hN : rfLv (S.data.toList.drop i) = (rfLs true (S.data.toList.drop k)).map (fun p => ((nmx, p.1), p.2)) := by rw [hLV, if_neg (fun h => hk0 (hn.2 h))]
    have hb0 : ((k : Int) == (i : Int)) = false := by simp; omega
    obtain ⟨RES, hRES⟩ : ∃ r, rfLs true (S.data.toList.drop k) = r := ⟨_, rfl⟩
    rw [hRES] at hN
    have HN := Lib.hid hN
    have HRES := Lib.hid hRES
    clear hk hd hn hLV hnm hk0 hN hRES
    go_enter Try.func62, Try.ntmps62
    go_wp2_with (go_at_call 69; refine (HW0.out _).mono ?_; rintro e w2 ⟨rfl, rfl⟩)
    subst hx
    clear hxs HX
    generalize (w.alloc (.cells #[.string ⟨#[]⟩, .slice none 0 0] 50)).alloc (.cells #[.string (mk nmx), .slice none 0 0] 50) = W2 at *
    clear hB hW hz HW0 hi e1 hb0 hki hkS
    go_loopw [1, 7] (fun v1 v7 wr => ∃ (k : Nat) (acc : List SpB) (cv : Value) (j : Nat), v1 = .int .i64 j ∧ v7 = .int .i64 k ∧ k ≤ S.size ∧ acc.length ≤ k ∧ Hid ((rfLs acc.isEmpty (S.data.toList.drop k)).map (fun p => (acc ++ p.1, p.2)) = RES) ∧ Blk wr w.heap.size 50 #[.string ⟨#[]⟩, .slice none 0 0] ∧ Blk wr (w.heap.size + 1) 50 #[.string (mk nmx), cv] ∧ Own2 wr (w.heap.size + 2) 68 cv ((acc.map mkS).map spC) ∧ Below w.heap.size w wr) (fun _ v7 _ => S.size - (intOf v7).toNat)
    case atStart => exact ⟨k, [], _, i, rfl, rfl, e2, Nat.zero_le _, Lib.hid (by show (rfLs true _).map _ = _; rw [HRES.out]; cases RES <;> simp), hB', q3, Own2.nil, hW'⟩
    case round =>
      clear hB' q3 hW' HRES e2
      obtain ⟨k, acc, cv, j, rfl, rfl, hkS, hak, HI, p2, p8, hown, hb⟩ := hrel
      have hkS' : (k : Int) ≤ (S.size : Int) := by omega
      obtain ⟨aoc, capc, rfl⟩ := hown.isSl
      have hXl : ((acc.map mkS).map spC).length = acc.length := by rw [List.length_map, List.length_map]
      rw [hXl] at p8 hown
      have HO := Lib.hid hown
      have HP2 := Lib.hid p2
      have HP8 := Lib.hid p8
      clear hown p2 p8
      obtain ⟨y0, y1⟩ := HP8.out.box2
      by_cases hm : (S.data.toList.drop k).head? = some (mkOf acc.isEmpty)
      · have hkt : k < S.size := by
          rcases Nat.lt_or_ge k S.size with h | h
          · exact h
          · obtain rfl : k = S.size := by omega
            rw [drop_all] at hm; cases hm
        have hkt' : (k : Int) < (S.size : Int) := by omega
        have hdr : S.data.toList.drop k = mkOf acc.isEmpty :: S.data.toList.drop (k + 1) := by
          obtain ⟨c, h1, _, _⟩ := byI_at hkt
          rw [h1] at hm ⊢
          rw [show c = mkOf acc.isEmpty from Option.some.inj hm]
        have hI := HI.out
        rw [hdr] at hI
        have hby := byI_get hkt
        have hbv : byI S k = ((mkOf acc.isEmpty).toNat : Int) := by have := byte_is hkt (mkOf acc.isEmpty); rw [hm, decide_eq_true rfl] at this; simpa using this
        obtain ⟨f1, f2⟩ := wEnd_le (s := S) (i := k + 1) (by omega)
        obtain ⟨k2, hk2⟩ : ∃ x, wEnd S (k + 1) = x := ⟨_, rfl⟩
        have hx2 := ext_word (S := S) (i := k + 1) (by omega)
        have hd2 := drop_word (S := S) (i := k + 1) (by omega)
        have hn2 := word_none (S := S) (i := k + 1) (by omega)
        have HW1 : Hid (∀ W, Calls Try.prog 69 #[.string S, .int .i64 ((k : Int) + 1)] W fun e w' => e = .returned (.int .i64 k2) ∧ w' = W) := Lib.hid fun W => hk2 ▸ HW.out (k + 1) W (by omega)
        rw [hk2] at f1 f2 hx2 hd2 hn2
        obtain ⟨t1, ht1⟩ : ∃ t, (S.data.toList.drop (k + 1)).takeWhile wd = t := ⟨_, rfl⟩
        rw [ht1] at hx2 hn2
        obtain ⟨x1, hxx1⟩ : ∃ x, S.extract (k + 1) k2 = x := ⟨_, rfl⟩
        rw [hxx1] at hx2
        have HX1 := Lib.hid hx2
        have hsl1 : ((k + 1 : Nat) : Int) ≤ (k2 : Int) := by omega
        have hsl2 : (k2 : Int) ≤ (S.size : Int) := by omega
        have hsl3 : ((k : Int) + 1) ≤ (k2 : Int) := by omega
        have htn : Int.toNat ((k : Int) + 1) = k + 1 := by omega
        have HM : Hid ((acc = [] ∧ byI S k = 58) ∨ (acc ≠ [] ∧ byI S k = 44)) := Lib.hid (by
          cases acc with
          | nil => exact .inl ⟨rfl, hbv⟩
          | cons a b => exact .inr ⟨by simp, hbv⟩)
        have HD2 := Lib.hid hd2
        have HT1 := Lib.hid ht1
        have HN2 := Lib.hid hn2
        have HII := Lib.hid hI
        have hbyv : ((byI S k == 58) = true ∧ ((acc.length : Int) == 0) = true) ∨ (((acc.length : Int) == 0) = false ∧ (0 : Int) < (acc.length : Int) ∧ (byI S k == 44) = true) := by
          rcases HM.out with ⟨h, h2⟩ | ⟨h, h2⟩
          · left; rw [h, h2]; exact ⟨rfl, rfl⟩
          · right
            have : 0 < acc.length := List.length_pos_iff.2 h
            exact ⟨by simp; omega, by omega, by rw [h2]; rfl⟩
        rw [← hby] at hbyv
        clear hby hbv hI hdr hm HI ht1 hd2 hn2 hx2 hk2 HM hsl1
        by_cases hbad : k2 = k + 1
        · have hb0 : ((k2 : Int) == (k : Int) + 1) = true := by simp; omega
          have hE : RES = none := by
            rw [← HII.out, rfLs_bad (rfSp_bad (HT1.out.trans (HN2.out.1 hbad)))]; rfl
          have HE : Hid (rfLv (S.data.toList.drop i) = none) := Lib.hid (by rw [HN.out, hE]; rfl)
          clear hE hbad HII HT1 HN2 HD2 HN
          rcases hbyv with ⟨v1, v2⟩ | ⟨v1, v2, v3⟩
          all_goals
            go_wp2_with fail
            refine (HW1.out _).mono ?_
            rintro e w3 ⟨rfl, rfl⟩
            have q8 := HP8.out.alloc (.cells #[.string x1, .string ⟨#[]⟩] 68)
            have q2 := HP2.out.alloc (.cells #[.string x1, .string ⟨#[]⟩] 68)
            have hbo := Below.alloc hb (Below.size hb) (.cells #[.string x1, .string ⟨#[]⟩] 68)
            have hSp : Spans _ _ _ := (HO.out.alloc (.cells #[.string x1, .string ⟨#[]⟩] 68)).spans
            obtain ⟨z0, z1⟩ := q8.box2
            obtain ⟨d0, d1, d2, d3⟩ := q2.cells2
            have HSP := Lib.hid hSp
            clear hSp y0 y1
            go_wp2_with fail
            obtain ⟨r0, r1⟩ := (q2.set2 (.string (mk nmx)) (.slice aoc acc.length capc)).box2
            exact bodyPost_ret (v := .tuple #[.agg #[.string (mk nmx), .slice aoc acc.length capc], .int .i64 k2, .bool false]) (by simp [results, Try.results62, go_sem, r0, r1]) rfl ⟨mk nmx, .slice aoc acc.length capc, k2, false, _, rfl, f2, HSP.out.set2 q2 _ _, below_set2 hbo (Nat.le_refl _) _ _, fun _ => HE.out, fun h => by cases h⟩
        · have hb0 : ((k2 : Int) == (k : Int) + 1) = false := by simp; omega
          have hne : t1 ≠ [] := fun h => hbad (HN2.out.2 h)
          have hne' : (S.data.toList.drop (k + 1)).takeWhile wd ≠ [] := by rw [HT1.out]; exact hne
          clear hbad
          have HBY := Lib.hid hbyv
          clear hbyv
          by_cases hdot : (S.data.toList.drop k2).head? = some 46
          · have hkt2 : k2 < S.size := by
              rcases Nat.lt_or_ge k2 S.size with h | h
              · exact h
              · obtain rfl : k2 = S.size := by omega
                rw [drop_all] at hdot; cases hdot
            have hkt2' : (k2 : Int) < (S.size : Int) := by omega
            have hdr : (S.data.toList.drop (k + 1)).dropWhile wd = 46 :: S.data.toList.drop (k2 + 1) := by
              rw [← HD2.out]
              obtain ⟨c, h1, _, _⟩ := byI_at hkt2
              rw [h1] at hdot ⊢
              rw [show c = 46 from Option.some.inj hdot]
            have hby2 := byI_get hkt2
            have hbv2 : (byI S k2 == 46) = true := by have := byte_is hkt2 46; rw [hdot, decide_eq_true rfl] at this; exact this
            rw [← hby2] at hbv2
            obtain ⟨f3, f4⟩ := wEnd_le (s := S) (i := k2 + 1) (by omega)
            obtain ⟨k3, hk3⟩ : ∃ x, wEnd S (k2 + 1) = x := ⟨_, rfl⟩
            have hx3 := ext_word (S := S) (i := k2 + 1) (by omega)
            have hd3 := drop_word (S := S) (i := k2 + 1) (by omega)
            have hn3 := word_none (S := S) (i := k2 + 1) (by omega)
            have HW2 : Hid (∀ W, Calls Try.prog 69 #[.string S, .int .i64 ((k2 : Int) + 1)] W fun e w' => e = .returned (.int .i64 k3) ∧ w' = W) := Lib.hid fun W => hk3 ▸ HW.out (k2 + 1) W (by omega)
            rw [hk3] at f3 f4 hx3 hd3 hn3
            obtain ⟨t2, ht2⟩ : ∃ t, (S.data.toList.drop (k2 + 1)).takeWhile wd = t := ⟨_, rfl⟩
            rw [ht2] at hx3 hn3
            obtain ⟨x2, hxx2⟩ : ∃ x, S.extract (k2 + 1) k3 = x := ⟨_, rfl⟩
            rw [hxx2] at hx3
            have HXB := Lib.hid hx3
            have g1 : ((k2 : Int) + 1) ≤ (k3 : Int) := by omega
            have g2 : (k3 : Int) ≤ (S.size : Int) := by omega
            have htn2 : Int.toNat ((k2 : Int) + 1) = k2 + 1 := by omega
            by_cases hbad : k3 = k2 + 1
            · have hb3 : ((k3 : Int) == (k2 : Int) + 1) = true := by simp; omega
              have hE : RES = none := by
                rw [← HII.out, rfLs_bad (rfSp_bad2 hne' hdr (ht2.trans (hn3.1 hbad)))]; rfl
              have HE : Hid (rfLv (S.data.toList.drop i) = none) := Lib.hid (by rw [HN.out, hE]; rfl)
              clear hE hbad HII HT1 HN2 HD2 HN hdr hby2 hk3 hx3 hd3 hn3 ht2 hne hne' hdot
              rcases HBY.out with ⟨v1, v2⟩ | ⟨v1, v2, v3⟩
              all_goals
                go_wp2_with fail
                refine (HW1.out _).mono ?_
                rintro e w3 ⟨rfl, rfl⟩
                have q8 := HP8.out.alloc (.cells #[.string x1, .string x2] 68)
                have q2 := HP2.out.alloc (.cells #[.string x1, .string x2] 68)
                have hbo := Below.alloc hb (Below.size hb) (.cells #[.string x1, .string x2] 68)
                have hSp : Spans _ _ _ := (HO.out.alloc (.cells #[.string x1, .string x2] 68)).spans
                obtain ⟨z0, z1⟩ := q8.box2
                obtain ⟨d0, d1, d2, d3⟩ := q2.cells2
                have HSP := Lib.hid hSp
                clear hSp y0 y1
                go_wp2_with (go_at_call 69; refine (HW2.out _).mono ?_; rintro e w4 ⟨rfl, rfl⟩)
                obtain ⟨r0, r1⟩ := (q2.set2 (.string (mk nmx)) (.slice aoc acc.length capc)).box2
                exact bodyPost_ret (v := .tuple #[.agg #[.string (mk nmx), .slice aoc acc.length capc], .int .i64 k3, .bool false]) (by simp [results, Try.results62, go_sem, r0, r1]) rfl ⟨mk nmx, .slice aoc acc.length capc, k3, false, _, rfl, f4, HSP.out.set2 q2 _ _, below_set2 hbo (Nat.le_refl _) _ _, fun _ => HE.out, fun h => by cases h⟩
            · have hb3 : ((k3 : Int) == (k2 : Int) + 1) = false := by simp; omega
              have hne2 : (S.data.toList.drop (k2 + 1)).takeWhile wd ≠ [] := fun h => hbad (hn3.2 (ht2 ▸ h))
              have HI2 : Hid ((rfLs (acc ++ [(t1, t2)]).isEmpty (S.data.toList.drop k3)).map (fun p => ((acc ++ [(t1, t2)]) ++ p.1, p.2)) = RES) := Lib.hid (by
                rw [← HII.out, rfLs_go (rfSp_two hne' hdr hne2), ← hd3, HT1.out, ht2]
                rw [show (acc ++ [(t1, t2)]).isEmpty = false by cases acc <;> rfl]
                cases rfLs false (S.data.toList.drop k3) <;> simp)
              have hk9 : k3 ≤ S.size := f4
              have hkk : k < k3 := by omega
              clear hbad HII HT1 HN2 HD2 hdr hby2 hk3 hx3 hd3 hn3 ht2 hne hne' hne2 hdot
              rcases HBY.out with ⟨v1, v2⟩ | ⟨v1, v2, v3⟩
              all_goals
                go_wp2_with fail
                refine (HW1.out _).mono ?_
                rintro e w3 ⟨rfl, rfl⟩
                obtain ⟨XS, hXS⟩ : ∃ XS, (acc.map mkS).map spC = XS := ⟨_, rfl⟩
                have hXL : XS.length = acc.length := by rw [← hXS, List.length_map, List.length_map]
                have HL1 : Hid (XS.length + 1 ≤ maxLen) := Lib.hid (by unfold maxLen; omega)
                have HL2 : Hid ((XS.length + 1) * 32 ≤ 140737488355328) := Lib.hid (by omega)
                have HXS := Lib.hid hXS
                have HOX := HO
                rw [hXS] at HOX
                have HSZ : Hid (∀ o1 o2, w.heap.size + 2 ≤ ((w3.alloc o1).alloc o2).heap.size) := Lib.hid (fun o1 o2 => by have := HP8.out.lt; simp; omega)
                have HXA := HX1
                clear hXS hXL
                have t1c : ∀ o, (w3.alloc o).cell? ⟨w.heap.size + 1, 1, none⟩ = some (.slice aoc acc.length capc) := fun o => (HP8.out.alloc o).cell 1
                clear y0 y1
                go_wp2_with (first
                  | (go_at_call 69; refine (HW2.out _).mono ?_; rintro e w4 ⟨rfl, rfl⟩)
                  | (at_builtin; refine wpList_append_own _ rfl _ _ 48 rfl (w.heap.size + 2) 68 i0 (.agg #[.string ⟨#[]⟩, .string ⟨#[]⟩]) 2 32 Try.underlying48 hinf hz0 hz1 hz2 rfl (by decide) (.slice aoc acc.length capc) XS.length (XS.flatMap two) rfl ((HOX.out.alloc _).alloc _) ⟨_, 0, none⟩ 1 1 [.string x1, .string x2] rfl rfl (two_new (size_1 _ _)) (one_str _ _) HL1.out HL2.out (HSZ.out _ _) ?_))
                intro v' w7 hown2 hgrow _
                have hlo := HOX.out.lt
                have R3 : Own2 w7 (w.heap.size + 2) 68 v' (((acc ++ [(t1, t2)]).map mkS).map spC) := by
                  unfold Own2
                  rw [List.map_append, List.map_append, HXS.out]
                  simp only [List.map_cons, List.map_nil, mkS, spC, ← HXA.out, ← HXB.out]
                  simpa [two] using hown2
                have P2 := ((HP2.out.alloc (.cells #[.string x1, .string x2] 68)).alloc (.cells #[.string x1, .string x2] 68)).grown hgrow (fun e => by have := hlo _ e; omega)
                have P8 := ((HP8.out.alloc (.cells #[.string x1, .string x2] 68)).alloc (.cells #[.string x1, .string x2] 68)).grown hgrow (fun e => by have := hlo _ e; omega)
                have B7 : Below w.heap.size w w7 := ((Kp.alloc (Kp.alloc (W := w) hb (.cells #[.string x1, .string x2] 68)) (.cells #[.string x1, .string x2] 68))).grown hgrow (by have := Below.size hb; simp; omega) (fun k e => by have := hlo _ e; omega)
                obtain ⟨d0, d1, d2, d3⟩ := P8.cells2
                obtain ⟨ao5, cap5, rfl⟩ := R3.isSl
                rw [List.length_map, List.length_map] at R3
                rw [List.length_map, List.length_map] at *
                clear hown2 hgrow hlo t1c
                go_wp2_with fail
                go_roundw
                case rel => exact ⟨k3, acc ++ [(t1, t2)], _, _, rfl, rfl, hk9, by simp; omega, HI2, P2.far (p := ⟨w.heap.size + 1, 1, none⟩) (by simp) _, by simpa using P8.set 1 _, R3.set (R3.notBlk P8 (by decide)) 1 _, Below.setCell B7 (p := ⟨w.heap.size + 1, 1, none⟩) (by simp) _⟩
                case measure => simp [intOf]; omega
          · have hcond : k2 = S.size ∨ (k2 < S.size ∧ (byI S k2 == 46) = false) := by
              rcases Nat.lt_or_ge k2 S.size with h | h
              · have := byte_is h 46
                rw [decide_eq_false hdot] at this
                exact .inr ⟨h, this⟩
              · exact .inl (by omega)
            have hd46 : ((S.data.toList.drop (k + 1)).dropWhile wd).head? ≠ some 46 := by rw [← HD2.out]; exact hdot
            have HI2 : Hid ((rfLs (acc ++ [(t1, [])]).isEmpty (S.data.toList.drop k2)).map (fun p => ((acc ++ [(t1, [])]) ++ p.1, p.2)) = RES) := Lib.hid (by
              rw [← HII.out, rfLs_go (rfSp_plain hne' hd46), ← HD2.out, HT1.out]
              rw [show (acc ++ [(t1, ([] : Bs))]).isEmpty = false by cases acc <;> rfl]
              cases rfLs false (S.data.toList.drop k2) <;> simp)
            have hk9 : k2 ≤ S.size := f2
            have hkk : k < k2 := by omega
            have HXB : Hid ((⟨#[]⟩ : ByteArray) = mk []) := Lib.hid rfl
            have HW2 := HW1
            clear HII HT1 HN2 HD2 hne hne' hdot hd46
            rcases hcond with hc1 | ⟨hc1, hc2⟩
            · have hc3 : ((k2 : Int) < (S.size : Int)) = False := by simp; omega
              have hc4 : decide ((k2 : Int) < (S.size : Int)) = false := by simp; omega
              have hc5 : ¬ ((k2 : Int) < (S.size : Int)) := by omega
              clear hc3 hc4 hc1
              rcases HBY.out with ⟨v1, v2⟩ | ⟨v1, v2, v3⟩
              all_goals
                go_wp2_with fail
                refine (HW1.out _).mono ?_
                rintro e w3 ⟨rfl, rfl⟩
                obtain ⟨XS, hXS⟩ : ∃ XS, (acc.map mkS).map spC = XS := ⟨_, rfl⟩
                have hXL : XS.length = acc.length := by rw [← hXS, List.length_map, List.length_map]
                have HL1 : Hid (XS.length + 1 ≤ maxLen) := Lib.hid (by unfold maxLen; omega)
                have HL2 : Hid ((XS.length + 1) * 32 ≤ 140737488355328) := Lib.hid (by omega)
                have HXS := Lib.hid hXS
                have HOX := HO
                rw [hXS] at HOX
                have HSZ : Hid (∀ o1 o2, w.heap.size + 2 ≤ ((w3.alloc o1).alloc o2).heap.size) := Lib.hid (fun o1 o2 => by have := HP8.out.lt; simp; omega)
                have HXA := HX1
                clear hXS hXL
                have t1c : ∀ o, (w3.alloc o).cell? ⟨w.heap.size + 1, 1, none⟩ = some (.slice aoc acc.length capc) := fun o => (HP8.out.alloc o).cell 1
                clear y0 y1
                go_wp2_with (first
                  | (go_at_call 69; refine (HW2.out _).mono ?_; rintro e w4 ⟨rfl, rfl⟩)
                  | (at_builtin; refine wpList_append_own _ rfl _ _ 48 rfl (w.heap.size + 2) 68 i0 (.agg #[.string ⟨#[]⟩, .string ⟨#[]⟩]) 2 32 Try.underlying48 hinf hz0 hz1 hz2 rfl (by decide) (.slice aoc acc.length capc) XS.length (XS.flatMap two) rfl ((HOX.out.alloc _).alloc _) ⟨_, 0, none⟩ 1 1 [.string x1, .string ⟨#[]⟩] rfl rfl (two_new (size_1 _ _)) (one_str _ _) HL1.out HL2.out (HSZ.out _ _) ?_))
                intro v' w7 hown2 hgrow _
                have hlo := HOX.out.lt
                have R3 : Own2 w7 (w.heap.size + 2) 68 v' (((acc ++ [(t1, [])]).map mkS).map spC) := by
                  unfold Own2
                  rw [List.map_append, List.map_append, HXS.out]
                  simp only [List.map_cons, List.map_nil, mkS, spC, ← HXA.out, ← HXB.out]
                  simpa [two] using hown2
                have P2 := ((HP2.out.alloc (.cells #[.string x1, .string ⟨#[]⟩] 68)).alloc (.cells #[.string x1, .string ⟨#[]⟩] 68)).grown hgrow (fun e => by have := hlo _ e; omega)
                have P8 := ((HP8.out.alloc (.cells #[.string x1, .string ⟨#[]⟩] 68)).alloc (.cells #[.string x1, .string ⟨#[]⟩] 68)).grown hgrow (fun e => by have := hlo _ e; omega)
                have B7 : Below w.heap.size w w7 := ((Kp.alloc (Kp.alloc (W := w) hb (.cells #[.string x1, .string ⟨#[]⟩] 68)) (.cells #[.string x1, .string ⟨#[]⟩] 68))).grown hgrow (by have := Below.size hb; simp; omega) (fun k e => by have := hlo _ e; omega)
                obtain ⟨d0, d1, d2, d3⟩ := P8.cells2
                obtain ⟨ao5, cap5, rfl⟩ := R3.isSl
                rw [List.length_map, List.length_map] at R3
                rw [List.length_map, List.length_map] at *
                clear hown2 hgrow hlo t1c
                go_wp2_with fail
                go_roundw
                case rel => exact ⟨k2, acc ++ [(t1, [])], _, _, rfl, rfl, hk9, by simp; omega, HI2, P2.far (p := ⟨w.heap.size + 1, 1, none⟩) (by simp) _, by simpa using P8.set 1 _, R3.set (R3.notBlk P8 (by decide)) 1 _, Below.setCell B7 (p := ⟨w.heap.size + 1, 1, none⟩) (by simp) _⟩
                case measure => simp [intOf]; omega
            · have hc3 : (k2 : Int) < (S.size : Int) := by omega
              rw [← byI_get hc1] at hc2
              rcases HBY.out with ⟨v1, v2⟩ | ⟨v1, v2, v3⟩
              all_goals
                go_wp2_with fail
                refine (HW1.out _).mono ?_
                rintro e w3 ⟨rfl, rfl⟩
                obtain ⟨XS, hXS⟩ : ∃ XS, (acc.map mkS).map spC = XS := ⟨_, rfl⟩
                have hXL : XS.length = acc.length := by rw [← hXS, List.length_map, List.length_map]
                have HL1 : Hid (XS.length + 1 ≤ maxLen) := Lib.hid (by unfold maxLen; omega)
                have HL2 : Hid ((XS.length + 1) * 32 ≤ 140737488355328) := Lib.hid (by omega)
                have HXS := Lib.hid hXS
                have HOX := HO
                rw [hXS] at HOX
                have HSZ : Hid (∀ o1 o2, w.heap.size + 2 ≤ ((w3.alloc o1).alloc o2).heap.size) := Lib.hid (fun o1 o2 => by have := HP8.out.lt; simp; omega)
                have HXA := HX1
                clear hXS hXL
                have t1c : ∀ o, (w3.alloc o).cell? ⟨w.heap.size + 1, 1, none⟩ = some (.slice aoc acc.length capc) := fun o => (HP8.out.alloc o).cell 1
                clear y0 y1
                go_wp2_with (first
                  | (go_at_call 69; refine (HW2.out _).mono ?_; rintro e w4 ⟨rfl, rfl⟩)
                  | (at_builtin; refine wpList_append_own _ rfl _ _ 48 rfl (w.heap.size + 2) 68 i0 (.agg #[.string ⟨#[]⟩, .string ⟨#[]⟩]) 2 32 Try.underlying48 hinf hz0 hz1 hz2 rfl (by decide) (.slice aoc acc.length capc) XS.length (XS.flatMap two) rfl ((HOX.out.alloc _).alloc _) ⟨_, 0, none⟩ 1 1 [.string x1, .string ⟨#[]⟩] rfl rfl (two_new (size_1 _ _)) (one_str _ _) HL1.out HL2.out (HSZ.out _ _) ?_))
                intro v' w7 hown2 hgrow _
                have hlo := HOX.out.lt
                have R3 : Own2 w7 (w.heap.size + 2) 68 v' (((acc ++ [(t1, [])]).map mkS).map spC) := by
                  unfold Own2
                  rw [List.map_append, List.map_append, HXS.out]
                  simp only [List.map_cons, List.map_nil, mkS, spC, ← HXA.out, ← HXB.out]
                  simpa [two] using hown2
                have P2 := ((HP2.out.alloc (.cells #[.string x1, .string ⟨#[]⟩] 68)).alloc (.cells #[.string x1, .string ⟨#[]⟩] 68)).grown hgrow (fun e => by have := hlo _ e; omega)
                have P8 := ((HP8.out.alloc (.cells #[.string x1, .string ⟨#[]⟩] 68)).alloc (.cells #[.string x1, .string ⟨#[]⟩] 68)).grown hgrow (fun e => by have := hlo _ e; omega)
                have B7 : Below w.heap.size w w7 := ((Kp.alloc (Kp.alloc (W := w) hb (.cells #[.string x1, .string ⟨#[]⟩] 68)) (.cells #[.string x1, .string ⟨#[]⟩] 68))).grown hgrow (by have := Below.size hb; simp; omega) (fun k e => by have := hlo _ e; omega)
                obtain ⟨d0, d1, d2, d3⟩ := P8.cells2
                obtain ⟨ao5, cap5, rfl⟩ := R3.isSl
                rw [List.length_map, List.length_map] at R3
                rw [List.length_map, List.length_map] at *
                clear hown2 hgrow hlo t1c
                go_wp2_with fail
                go_roundw
                case rel => exact ⟨k2, acc ++ [(t1, [])], _, _, rfl, rfl, hk9, by simp; omega, HI2, P2.far (p := ⟨w.heap.size + 1, 1, none⟩) (by simp) _, by simpa using P8.set 1 _, R3.set (R3.notBlk P8 (by decide)) 1 _, Below.setCell B7 (p := ⟨w.heap.size + 1, 1, none⟩) (by simp) _⟩
                case measure => simp [intOf]; omega
      · have hE : RES = some (acc, S.data.toList.drop k) := by
          rw [← HI.out, rfLs_end hm]; simp
        have HE : Hid (rfLv (S.data.toList.drop i) = some ((nmx, acc), S.data.toList.drop k)) := Lib.hid (by rw [HN.out, hE]; rfl)
        have hcond : k = S.size ∨ (k < S.size ∧ ((acc = [] ∧ (byI S k == 58) = false) ∨ (acc ≠ [] ∧ (byI S k == 44) = false))) := by
          rcases Nat.lt_or_ge k S.size with h | h
          · refine .inr ⟨h, ?_⟩
            cases acc with
            | nil =>
              have := byte_is h 58
              rw [decide_eq_false (show ¬ (S.data.toList.drop k).head? = some 58 from hm)] at this
              exact .inl ⟨rfl, this⟩
            | cons a b =>
              have := byte_is h 44
              rw [decide_eq_false (show ¬ (S.data.toList.drop k).head? = some 44 from hm)] at this
              exact .inr ⟨by simp, this⟩
          · exact .inl (by omega)
        have HSP := Lib.hid HO.out.spans
        clear hE hm HI HN
        obtain ⟨d0, d1, d2, d3⟩ := HP2.out.cells2
        rcases hcond with hc1 | ⟨hc1, ⟨hc2, hc3⟩ | ⟨hc2, hc3⟩⟩
        · have hc5 : ¬ ((k : Int) < (S.size : Int)) := by omega
          clear hc1
          go_wp2_with fail
          obtain ⟨r0, r1⟩ := (HP2.out.set2 (.string (mk nmx)) (.slice aoc acc.length capc)).box2
          exact bodyPost_ret (v := .tuple #[.agg #[.string (mk nmx), .slice aoc acc.length capc], .int .i64 k, .bool true]) (by simp [results, Try.results62, go_sem, r0, r1]) rfl ⟨mk nmx, .slice aoc acc.length capc, k, true, _, rfl, hkS, HSP.out.set2 HP2.out _ _, below_set2 hb (Nat.le_refl _) _ _, (fun h => by cases h), fun _ => ⟨_, HE.out, rfl, rfl⟩⟩
        · have hc5 : (k : Int) < (S.size : Int) := by omega
          have hl0 : ((acc.length : Int) == 0) = true := by rw [hc2]; rfl
          have hl1 : ¬ ((0 : Int) < (acc.length : Int)) := by rw [hc2]; simp
          have hl2 : ((acc.length : Int) ≤ 0) := by rw [hc2]; simp
          rw [← byI_get hc1] at hc3
          clear hc2
          go_wp2_with fail
          obtain ⟨r0, r1⟩ := (HP2.out.set2 (.string (mk nmx)) (.slice aoc acc.length capc)).box2
          exact bodyPost_ret (v := .tuple #[.agg #[.string (mk nmx), .slice aoc acc.length capc], .int .i64 k, .bool true]) (by simp [results, Try.results62, go_sem, r0, r1]) rfl ⟨mk nmx, .slice aoc acc.length capc, k, true, _, rfl, hkS, HSP.out.set2 HP2.out _ _, below_set2 hb (Nat.le_refl _) _ _, (fun h => by cases h), fun _ => ⟨_, HE.out, rfl, rfl⟩⟩
        · have hc5 : (k : Int) < (S.size : Int) := by omega
          have hlp := List.length_pos_iff.2 hc2
          have hl0 : ((acc.length : Int) == 0) = false := by simp; omega
          have hl1 : (0 : Int) < (acc.length : Int) := by omega
          rw [← byI_get hc1] at hc3
          clear hc2
          go_wp2_with fail
          obtain ⟨r0, r1⟩ := (HP2.out.set2 (.string (mk nmx)) (.slice aoc acc.length capc)).box2
          exact bodyPost_ret (v := .tuple #[.agg #[.string (mk nmx), .slice aoc acc.length capc], .int .i64 k, .bool true]) (by simp [results, Try.results62, go_sem, r0, r1]) rfl ⟨mk nmx, .slice aoc acc.length capc, k, true, _, rfl, hkS, HSP.out.set2 HP2.out _ _, below_set2 hb (Nat.le_refl _) _ _, (fun h => by cases h), fun _ => ⟨_, HE.out, rfl, rfl⟩⟩
end Go.Proofs.Ythjebccidcichaa
