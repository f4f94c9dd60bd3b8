/- The law TokenBlanks, walked. -/
import Derived.Test.YthjfedkginjbeaaTut
namespace Go.Proofs.Ythjfedkginjbeaa
open Go.RowKit
/-- the value is a slice of n bytes -/
def Byts (w : World) (v : Value) (n : Nat) : Prop :=
  ∃ ao cap, v = .slice ao n cap ∧ ∀ i, i < n → ∃ g o, ao = some ⟨g, o, none⟩ ∧ ∃ x : Int, 0 ≤ x ∧ x ≤ 255 ∧ w.cell? ⟨g, o + i, none⟩ = some (.int .u8 x)
theorem Byts.keep {w w' : World} {v : Value} {n : Nat} (h : Byts w v n) (hb : Below w.heap.size w w') : Byts w' v n := by
  obtain ⟨ao, cap, rfl, hr⟩ := h
  refine ⟨ao, cap, rfl, fun i hi => ?_⟩
  obtain ⟨g, o, rfl, x, h0, h1, hc⟩ := hr i hi
  refine ⟨g, o, rfl, x, h0, h1, ?_⟩
  have hlt : g < w.heap.size := by
    rcases Nat.lt_or_ge g w.heap.size with h' | h'
    · exact h'
    · simp [World.cell?, Array.getElem?_eq_none h'] at hc
  rw [World.cell?_of_block (hb.block g hlt)]
  exact hc
theorem Toks.one {w : World} {g o n cap i : Nat} {l : List TI} (hR : Row w g o l) (hi : i < l.length) (hn : n = 1) (hc : 1 ≤ cap) : Toks w (.slice (some ⟨g, o + i * 4, none⟩) n cap) [l[i]] := by
  refine ⟨_, cap, by rw [hn]; rfl, hc, fun _ => ⟨g, o + i * 4, rfl, ?_⟩⟩
  intro j t ht
  match j, ht with
  | 0, ht =>
    simp at ht
    subst ht
    simpa using hR.at hi
  | j + 1, ht => simp at ht
set_option maxRecDepth 100000 in
set_option maxHeartbeats 8000000 in
theorem lblanks_c (v v2 : Value) (l : List TI) (n : Nat) (w : World) (hn : l.length ≤ 9223372036854775807) (hT : Toks w v l) (hB : Byts w v2 n) (hn2 : n ≤ 9223372036854775807) :
    Calls Try.prog 10 #[v, v2] w fun e w' => e = .returned (.bool true) ∧ Below w.heap.size w w' := by
  have hF := few_c v l w hn hT
  have hb := Below.refl w.heap.size w
  obtain ⟨ao, cap, rfl, hcap, hr⟩ := hT
  obtain ⟨ao2, cap2, rfl, hr2⟩ := hB
  by_cases h40 : 40 < l.length
  · have h40' : (40 : Int) < (l.length : Int) := by omega
    clear hF hr hr2
    go_enter Try.func10, Try.ntmps10
    go_wp2_with (go_at_call 13; refine (awake_c _).mono ?_; rintro e w6 ⟨rfl, hq⟩; replace hb := hb.trans (hq.mono hb.size); clear hq)
    go_ret
    exact ⟨rfl, hb⟩
  · have h40' : ¬ (40 : Int) < (l.length : Int) := by omega
    cases h1 : fewB l
    · rw [h1] at hF
      have HF := Lib.hid hF
      clear hF h1 hr hr2
      go_enter Try.func10, Try.ntmps10
      go_wp2_with (first
        | (go_at_call 23; refine HF.out.mono ?_; rintro e w2 ⟨rfl, rfl⟩)
        | (go_at_call 13; refine (awake_c _).mono ?_; rintro e w6 ⟨rfl, hq⟩; replace hb := hb.trans (hq.mono hb.size); clear hq))
      go_ret
      exact ⟨rfl, hb⟩
    · rw [h1] at hF
      have hFX := first_x ao cap l w (by omega) hcap hr
      have hTm : Toks w (.slice ao (firstN l) cap) (l.take (firstN l)) := (show Toks w (.slice ao l.length cap) l from ⟨ao, cap, rfl, hcap, hr⟩).take _ (firstN_le l)
      have hml : (l.take (firstN l)).length = firstN l := by rw [List.length_take]; have := firstN_le l; omega
      have hmk : ∀ i (h : i < (l.take (firstN l)).length), (l.take (firstN l))[i].kind ≠ 0 ∧ (l.take (firstN l))[i].text.size ≤ 300 := fun i h => by
        have hi : i < firstN l := by omega
        have hil : i < l.length := by have := firstN_le l; omega
        rw [List.getElem_take]
        exact ⟨firstN_ne l i hil hi, fewB_all h1 _ (List.getElem_mem hil)⟩
      have hNle : firstN l ≤ 40 := by have := firstN_le l; omega
      obtain ⟨N, hN⟩ : ∃ N, firstN l = N := ⟨_, rfl⟩
      rw [hN] at hFX hTm hml hmk hNle
      obtain ⟨m, hm⟩ : ∃ m, l.take N = m := ⟨_, rfl⟩
      rw [hm] at hTm hml hmk
      have HF := Lib.hid hF
      have HX := Lib.hid hFX
      have HMK := Lib.hid hmk
      have HTm := Lib.hid hTm
      have HB : Hid (Byts w (.slice ao2 n cap2) n) := Lib.hid ⟨ao2, cap2, rfl, hr2⟩
      have HML := Lib.hid hml
      have hN1 : ((N : Nat) : Int) ≤ 40 := by omega
      clear hF hFX hmk hTm hr hr2 hm hN h1 hml
      go_enter Try.func10, Try.ntmps10
      go_wp2_with fail
      refine HF.out.mono ?_
      rintro e w2 ⟨rfl, rfl⟩
      go_wp2_with fail
      refine HX.out.mono ?_
      rintro e w3 ⟨rfl, rfl⟩
      go_wp2_with fail
      go_loopw [5, 6] (fun vs vi wr => ∃ (i : Nat) (S : ByteArray), i ≤ N ∧ vs = .string S ∧ vi = .int .i64 i ∧ S.size ≤ i * 400 ∧ Hid (Pre S ((m.take i).map TI.key)) ∧ Below w3.heap.size w3 wr)
        (fun _ vi _ => N - (intOf vi).toNat)
      case atStart => exact ⟨0, ⟨#[]⟩, Nat.zero_le _, rfl, rfl, Nat.zero_le _, Lib.hid Pre_nil, hb⟩
      case round =>
        obtain ⟨i, S, hi, rfl, rfl, hSz, HP, hbr⟩ := hrel
        have hszr := hbr.size
        by_cases hlt : i < N
        · have hl : (i : Int) < (N : Int) := by omega
          have him : i < m.length := by rw [HML.out]; exact hlt
          obtain ⟨ao', cap', hv', hcap', hrm⟩ := HTm.out
          cases hv'
          obtain ⟨g, o, rfl, hRow⟩ := hrm (by rintro rfl; simp at him)
          have hlg := hRow.lt (by rintro rfl; simp at him)
          have hRr : Row wr g o m := hRow.keep (hbr.block g hlg)
          have hk := HMK.out i him
          have ht1 := textR_one hk.1 hk.2
          have hTx := text_c (.slice (some ⟨g, o + i * 4, none⟩) 1 (cap - i)) [m[i]] wr (by simp) (Toks.one hRr him rfl (by have := HML.out; omega)) (by intro t ht; simp at ht; subst ht; omega)
          rw [ht1] at hTx
          have hcapi : ((i : Int) + 1) ≤ (cap : Int) := by have := HML.out; omega
          cases hck : chkT m[i].kind m[i].text
          · rw [hck] at hTx
            simp only [Bool.false_eq_true, if_false] at hTx
            have HTx := Lib.hid hTx
            clear hTx hck ht1 hRr hRow hrm hk
            go_wp2_with fail
            refine HTx.out.mono ?_
            rintro e w4 ⟨rfl, hb4⟩
            have hb5 := hbr.trans (hb4.mono hszr)
            go_wp2_with (go_at_call 13; refine (awake_c _).mono ?_; rintro e w6 ⟨rfl, hq⟩; replace hb5 := hb5.trans (hq.mono hb5.size); clear hq)
            go_ret
            exact ⟨rfl, hb5⟩
          · rw [hck] at hTx
            simp only [if_true] at hTx
            have hsz2 := spell_size m[i].kind m[i].text
            have hstep : ∀ gg, gg ∈ gapL → Hid (Pre (S ++ gg ++ spell m[i].kind m[i].text) ((m.take (i + 1)).map TI.key)) := fun gg hgg => by
              have := Pre_step hgg hck hk.1 HP.out
              rw [List.take_succ_eq_append_getElem him, List.map_append]
              exact Lib.hid this
            have hk2 := hk.2
            obtain ⟨X, hX⟩ : ∃ X, spell m[i].kind m[i].text = X := ⟨_, rfl⟩
            rw [hX] at hTx hsz2 hstep
            have hXz : X.size ≤ 302 := by omega
            have HTx := Lib.hid hTx
            have HST := Lib.hid hstep
            clear hTx hck ht1 hRr hRow hrm hk hX hsz2 hstep hk2
            go_wp2_with fail
            refine HTx.out.mono ?_
            rintro e w4 ⟨rfl, hb4⟩
            have hb5 := hbr.trans (hb4.mono hszr)
            have hB4 := HB.out.keep hb5
            obtain ⟨ao3, cap3, hv3, hr3⟩ := hB4
            cases hv3
            by_cases hin : i < n
            · obtain ⟨g3, o3, rfl, x, hx0, hx1, hcx⟩ := hr3 i hin
              have hin' : (i : Int) < (n : Int) := by omega
              clear hr3
              go_wp2_with (go_at_call 31; refine (gap_c _ _ (by omega) (by omega)).mono ?_; rintro e w5 ⟨gg, rfl, hgg, rfl⟩
                           have hgz := (gap_facts gg hgg).2.2.2
                           have m1 : ¬ 9223372036854775807 < S.size + gg.size := by omega
                           have m2 : ¬ 9223372036854775807 < S.size + gg.size + X.size := by omega)
              go_roundw
              case rel => exact ⟨i + 1, _, hlt, rfl, by simp, by rw [ByteArray.size_append, ByteArray.size_append]; omega, HST.out gg hgg, hb5⟩
              case measure => simp [intOf]; omega
            · have hin' : ¬ (i : Int) < (n : Int) := by omega
              clear hr3
              go_wp2_with (go_at_call 31; refine (gap_c _ _ (by omega) (by omega)).mono ?_; rintro e w5 ⟨gg, rfl, hgg, rfl⟩
                           have hgz := (gap_facts gg hgg).2.2.2
                           have m1 : ¬ 9223372036854775807 < S.size + gg.size := by omega
                           have m2 : ¬ 9223372036854775807 < S.size + gg.size + X.size := by omega)
              go_roundw
              case rel => exact ⟨i + 1, _, hlt, rfl, by simp, by rw [ByteArray.size_append, ByteArray.size_append]; omega, HST.out gg hgg, hb5⟩
              case measure => simp [intOf]; omega
        · obtain rfl : i = N := by omega
          have hSz2 : S.size ≤ 16000 := by omega
          have hpre := HP.out
          rw [show m.take i = m by rw [← HML.out, List.take_length]] at hpre
          have HPre := Lib.hid hpre
          clear hpre HP
          have hTr := Lib.hid (HTm.out.keep hbr)
          have hnl : ¬ (i : Int) < (i : Int) := by omega
          go_wp2_with (go_at_call 31; refine (gap_c _ _ (by omega) (by omega)).mono ?_; rintro e w5 ⟨gg, rfl, hgg, rfl⟩
                       have hgz := (gap_facts gg hgg).2.2.2
                       have m1 : ¬ 9223372036854775807 < S.size + gg.size := by omega)
          obtain ⟨f1, f2⟩ := sk0_fault (Pre_end hgg HPre.out)
          have hSg : (S ++ gg).size ≤ 65536 := by rw [ByteArray.size_append]; omega
          have hSc := scan_t (S ++ gg) w5 hSg
          rw [f1] at hSc
          simp only [faultV] at hSc
          obtain ⟨M, hM⟩ : ∃ M, (scF (S ++ gg) ((S ++ gg).size + 1) 0 []).2.map Tk.toI = M := ⟨_, rfl⟩
          rw [hM] at hSc f2
          have hMl : M.length = i + 1 := by
            have := congrArg List.length f2
            simp at this
            have e := HML.out
            omega
          have hsame : sameL (M.take i) m = true := by
            have := congrArg (List.take i) f2
            rw [← List.map_take, List.take_append_of_le_length (by simp; have := HML.out; omega)] at this
            unfold sameL
            apply decide_eq_true
            rw [this, List.take_of_length_le (by simp; have := HML.out; omega)]
          have HSc := Lib.hid hSc
          have HSame := Lib.hid hsame
          clear hSc hsame f1 f2 hM hSg
          refine HSc.out.mono ?_
          rintro e w6 ⟨v6, rfl, hT6, hb6⟩
          obtain ⟨ao6, cap6, rfl, hcap6, hr6⟩ := hT6
          rw [hMl]
          have hb7 := hbr.trans (hb6.mono hszr)
          have HT6 : Hid (Toks w6 (.slice ao6 (i + 1) cap6) M) := Lib.hid ⟨ao6, cap6, by rw [hMl], hcap6, hr6⟩
          clear hr6 hTr
          have F0 : Blk (w6.alloc (.cells #[.int .i64 0, .int .i64 0, .int .i64 0, .string { data := #[] }] 28)) w6.heap.size 28 #[.int .i64 0, .int .i64 0, .int .i64 0, .string { data := #[] }] := Blk.new w6 _ _
          have hb8 := hb7.alloc hb7.size (.cells #[.int .i64 0, .int .i64 0, .int .i64 0, .string { data := #[] }] 28)
          have hSa : ∀ w1, Below w6.heap.size w6 w1 → Calls Try.prog 26 #[.slice ao6 i cap6, .slice ao i cap] w1 fun e w' => e = .returned (.bool true) ∧ Below w1.heap.size w1 w' := fun w1 h => by
            have t1 := ((HT6.out.take i (by omega))).keep h
            have t2 := HTm.out.keep (hb7.trans (h.mono hb7.size))
            have e := HML.out
            have := same_c _ _ _ _ w1 (by rw [List.length_take]; omega) (by omega) t1 t2
            rwa [HSame.out] at this
          have HSa := Lib.hid hSa
          have hc6 : (i : Int) ≤ (cap6 : Int) := by omega
          clear hSa
          go_wp2_with (first
            | (go_at_call 26; refine (HSa.out _ ((Below.refl _ _).alloc (Nat.le_refl _) _)).mono ?_; rintro e w8 ⟨rfl, hq⟩; replace hb8 := hb8.trans (hq.mono hb8.size); clear hq)
            | (go_at_call 13; refine (awake_c _).mono ?_; rintro e w9 ⟨rfl, hq⟩; replace hb8 := hb8.trans (hq.mono hb8.size); clear hq))
          go_ret
          exact ⟨rfl, hb8⟩
end Go.Proofs.Ythjfedkginjbeaa
