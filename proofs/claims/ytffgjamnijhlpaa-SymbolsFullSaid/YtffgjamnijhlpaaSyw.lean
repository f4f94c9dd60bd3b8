/- The law Numbers, walked. -/
import Derived.Test.YtffgjamnijhlpaaSyv
namespace Go.Proofs.Ytffgjamnijhlpaa
open Go.RowKit Go.Maps Go.Sort
theorem srt_sorted (M : List ByteArray) : SortedOf (srt M) M := by
  have tr : ∀ a b c : List UInt8, leB a b = true → leB b c = true → leB a c = true := fun a b c h1 h2 => by simp only [leB, decide_eq_true_eq] at *; exact List.le_trans h1 h2
  have tot : ∀ a b : List UInt8, (leB a b || leB b a) = true := fun a b => by simp only [leB, Bool.or_eq_true, decide_eq_true_eq]; exact List.le_total a b
  refine ⟨?_, ?_⟩
  · have h := (List.mergeSort_perm (M.map (fun s => s.data.toList)) leB).map (fun s => (⟨s.toArray⟩ : ByteArray))
    rw [List.map_map] at h
    have e : ((fun s : List UInt8 => (⟨s.toArray⟩ : ByteArray)) ∘ fun s : ByteArray => s.data.toList) = id := by
      funext s
      simp
    rw [e, List.map_id] at h
    exact h
  · unfold ascB srt
    rw [List.pairwise_map]
    refine (List.pairwise_mergeSort tr tot _).imp fun {a b} hab => ?_
    simpa [ordB, leB] using hab
theorem srt_less {M : List ByteArray} (hn : M.Nodup) {j : Nat} (h1 : j < (srt M).length) (h2 : j + 1 < (srt M).length) : Op.bytesLess (srt M)[j].toList (srt M)[j + 1].toList = true := by
  obtain ⟨hp, ha⟩ := srt_sorted M
  have hd : (srt M).Nodup := hp.nodup_iff.2 hn
  have hle : ordB (srt M)[j] (srt M)[j + 1] := List.pairwise_iff_getElem.1 ha j (j + 1) h1 h2 (by omega)
  have hne : (srt M)[j] ≠ (srt M)[j + 1] := List.pairwise_iff_getElem.1 hd j (j + 1) h1 h2 (by omega)
  rw [bytesLess_eq, Lib.toList_data, Lib.toList_data, decide_eq_true_eq]
  rcases Classical.em ((srt M)[j].data.toList < (srt M)[j + 1].data.toList) with h | h
  · exact h
  · exfalso
    have hge := List.not_lt.1 h
    have he := List.le_antisymm hle hge
    exact hne (ByteArray.ext (Array.toList_inj.1 he))
def NumI (w : World) (g : Nat) (wr : World) (names : List ByteArray) (E als : List (ByteArray × Int)) : Prop :=
  ∃ F', TabF wr F' g 40 names E ∧ (∀ k, F' k → w.heap.size ≤ k) ∧ Mate names als E ∧ Small E ∧ names.length ≤ 40 ∧ als.length ≤ 4096 ∧ Below w.heap.size w wr
theorem NumI.add {w wr w6 : World} {g : Nat} {F' : Nat → Prop} {names : List ByteArray} {E als : List (ByteArray × Int)} (s : ByteArray) (hF : ∀ k, F' k → w.heap.size ≤ k) (hM : Mate names als E) (hS : Small E) (hl : names.length ≤ 40) (ha : als.length ≤ 4096) (hb : Below w.heap.size w wr) (hs : s.size ≤ 9223372036854775807)
    (h6 : TabTo wr w6 F' g 40 (addN 40 names E s) (addE 40 names E s)) : NumI w g w6 (addN 40 names E s) (addE 40 names E s) als := by
  obtain ⟨⟨F2, hT, h2⟩, hA⟩ := h6
  have hz := hb.size
  exact ⟨F2, hT, fun k hk => by rcases h2 k hk with h | h; exact hF k h; omega, (mate_add s hM).1, hS.add hs, (mate_add s hM).2.2 hl, ha, hb.trans (hA.below hz hF)⟩
theorem NumI.ali {w wr w6 : World} {g : Nat} {F' : Nat → Prop} {names : List ByteArray} {E als : List (ByteArray × Int)} (s : ByteArray) (n : Int) (hF : ∀ k, F' k → w.heap.size ≤ k) (hM : Mate names als E) (hS : Small E) (hl : names.length ≤ 40) (ha : als.length ≤ 4096) (hb : Below w.heap.size w wr) (hs : s.size ≤ 9223372036854775807)
    (h6 : TabTo wr w6 F' g 40 names (aliE names E E s n)) : NumI w g w6 names (aliE names E E s n) (aliE names E als s n) := by
  obtain ⟨⟨F2, hT, h2⟩, hA⟩ := h6
  have hz := hb.size
  exact ⟨F2, hT, fun k hk => by rcases h2 k hk with h | h; exact hF k h; omega, (mate_ali s n hM).1, hS.ali hs, hl, (mate_ali s n hM).2.2 ha, hb.trans (hA.below hz hF)⟩
theorem TabTo.draw {w w6 : World} {F : Nat → Prop} {g limit : Nat} {names : List ByteArray} {E : List (ByteArray × Int)} (h : TabTo w.drew w6 F g limit names E) : TabTo w w6 F g limit names E := ⟨h.1, ⟨h.2.os, h.2.tape, h.2.output, h.2.size, h.2.block⟩⟩
set_option maxRecDepth 100000 in
set_option maxHeartbeats 8000000 in
theorem numbers_c (l : List Stp) (vl : Value) (w : World) (hP : Stps w.heap.size w vl l) :
    Calls Try.prog 6 #[vl] w fun e w' => e = .returned (.bool true) ∧ Below w.heap.size w w' := by
  obtain ⟨⟨aol, capl, rfl, _⟩, hsl⟩ := id hP
  have hN : 40 ≤ 4096 := by decide
  by_cases hlen : 60 < l.length
  · have hlen' : (60 : Int) < (l.length : Int) := by omega
    go_enter Try.func6, Try.ntmps6
    go_wp2_with (first
      | (go_at_call 9; refine (new_c 40 _ hN).mono ?_; rintro e w1 ⟨g, rfl, hT, hb1⟩)
      | (go_at_call 11; refine (alive_c _).mono ?_; rintro e w9 ⟨rfl, hb9⟩))
    go_ret
    exact ⟨rfl, hb1.trans (hb9.mono hb1.size)⟩
  · have hlen' : ¬ (60 : Int) < (l.length : Int) := by omega
    have HP := Lib.hid hP
    have HSL := Lib.hid hsl
    clear hP hsl
    go_enter Try.func6, Try.ntmps6
    go_wp2_with (go_at_call 9; refine (new_c 40 _ hN).mono ?_; rintro e w1 ⟨g, rfl, hT, hb1⟩)
    have HI0 : Hid (NumI w g w1 [] [] []) := Lib.hid ⟨_, hT.own, fun k hk => hk.1, Mate.start, (fun s h => by cases h), Nat.zero_le _, Nat.zero_le _, hb1⟩
    clear hT hb1
    go_loopw [4, 5] (fun vc vi wr => ∃ (i : Nat) (names : List ByteArray) (E als : List (ByteArray × Int)), i ≤ l.length ∧ vi = .int .i64 i ∧ vc = .int .i64 als.length ∧ Hid (NumI w g wr names E als)) (fun _ vi _ => l.length - (intOf vi).toNat)
    case atStart => exact ⟨0, [], [], [], Nat.zero_le _, rfl, rfl, HI0⟩
    case round =>
      clear HI0
      obtain ⟨i, names, E, als, hi, rfl, rfl, HI⟩ := hrel
      obtain ⟨F', hT, hF, hM, hS, hl, ha, hb⟩ := HI.out
      have HT := Lib.hid hT
      have HF := Lib.hid hF
      have HM := Lib.hid hM
      have HS := Lib.hid hS
      have hElen := hM.len
      have hE : E.length ≤ 1000000 := by omega
      have hE2 : E.length ≤ names.length + 4096 := by omega
      clear hT hF hM hS hElen
      by_cases hlt : i < l.length
      · have hlt' : (i : Int) < (l.length : Int) := by omega
        obtain ⟨⟨aol', capl', hv, hrl⟩, _⟩ := HP.out.keep hb
        cases hv
        obtain ⟨gl, ol, rfl, hgl, hRow⟩ := hrl (by rintro rfl; simp at hlt)
        obtain ⟨x0, x1, x2⟩ := hRow i hlt
        obtain ⟨st, hst⟩ : ∃ st, l[i] = st := ⟨_, rfl⟩
        rw [hst] at x0 x1 x2
        have hss := HSL.out st (hst ▸ List.getElem_mem hlt)
        have hss2 := Lib.hid hss
        have NG : Hid (¬ F' gl) := Lib.hid fun h => by have := HF.out _ h; omega
        clear hst hRow hrl hss
        by_cases hk : st.kind = 0
        · have hkb : (st.kind == 0) = true := by simpa using hk
          have HAdd := Lib.hid (add_c st.name HT.out hss2.out hN hl hE)
          go_wp2_with (go_at_call 19; refine HAdd.out.mono ?_; rintro e w6 ⟨rfl, h6⟩)
          go_roundw
          case rel => exact ⟨i + 1, _, _, als, hlt, by go_num, rfl, Lib.hid (NumI.add st.name HF.out HM.out HS.out hl ha hb hss2.out h6)⟩
          case measure => simp [intOf]; omega
        · have hkb : (st.kind == 0) = false := by simpa using hk
          obtain ⟨c, hc⟩ : ∃ c, aliC names E st.name st.num = c := ⟨_, rfl⟩
          have HAli := Lib.hid (alias_c st.name st.num (HT.out.below (Below.refl _ wr).drew) hss2.out (by omega) hE2)
          rw [hc] at HAli
          have HC := Lib.hid hc
          have hs0 : wr.drew.cell? ⟨gl, ol + i * 3 + 1, none⟩ = some (.string st.name) ∧ wr.drew.cell? ⟨gl, ol + i * 3 + 2, none⟩ = some (.int .i64 st.num) := ⟨x1, x2⟩
          have hgw : gl < wr.heap.size := by have := hb.size; omega
          clear hc
          go_upto_region 12 with (fail)
          clear x0 x1 x2
          go_region_held3 (fun w' => w'.cell? ⟨gl, ol + i * 3 + 1, none⟩ = some (.string st.name) ∧ w'.cell? ⟨gl, ol + i * 3 + 2, none⟩ = some (.int .i64 st.num)) (assumption)
            (first
              | (go_at_call 20; refine HAli.out.mono ?_; rintro e w6 ⟨rfl, h6⟩
                 have hs6 : w6.cell? ⟨gl, ol + i * 3 + 1, none⟩ = some (.string st.name) ∧ w6.cell? ⟨gl, ol + i * 3 + 2, none⟩ = some (.int .i64 st.num) := by
                   have e := h6.2.block gl hgw NG.out
                   exact ⟨(World.cell?_of_block e).trans hs0.1, (World.cell?_of_block e).trans hs0.2⟩
                 have H6 := Lib.hid h6
                 clear h6))
          have HI6 := Lib.hid (NumI.ali st.name st.num HF.out HM.out HS.out hl ha hb hss2.out H6.out.draw)
          clear hs0 hs6 H6
          by_cases hc0 : c = 0
          · have hcb : (c == 0) = true := by simpa using hc0
            have hlen6 : aliE names E als st.name st.num = als ++ [(st.name, st.num)] := by unfold aliE; rw [HC.out, if_pos hc0]
            have HL6 := Lib.hid hlen6
            clear hlen6 hc0
            go_wp2_with fail
            go_roundw
            case rel => exact ⟨i + 1, _, _, _, hlt, by go_num, by rw [HL6.out, List.length_append]; go_num, HI6⟩
            case measure => simp [intOf]; omega
          · have hcb : (c == 0) = false := by simpa using hc0
            have hlen6 : aliE names E als st.name st.num = als := by unfold aliE; rw [HC.out, if_neg hc0]
            have HL6 := Lib.hid hlen6
            clear hlen6 hc0
            go_wp2_with fail
            go_roundw
            case rel => exact ⟨i + 1, _, _, _, hlt, by go_num, by rw [HL6.out], HI6⟩
            case measure => simp [intOf]; omega
      · obtain rfl : i = l.length := by omega
        have HB := Lib.hid hb
        clear hb HI
        go_wp2_with fail
        go_loopw [6] (fun vi w2 => ∃ i : Nat, i ≤ names.length ∧ vi = .int .i64 i ∧ Kp wr w2) (fun vi _ => names.length - (intOf vi).toNat)
        case atStart => exact ⟨0, Nat.zero_le _, rfl, Kp.rfl'⟩
        case round =>
          obtain ⟨i, hi, rfl, hC⟩ := hrel
          by_cases hlt : i < names.length
          · have hlt' : (i : Int) < (names.length : Int) := by omega
            obtain ⟨x, hx⟩ : ∃ x, names[i] = x := ⟨_, rfl⟩
            obtain ⟨f1, f2⟩ := HM.out.found hlt
            obtain ⟨n1, n2⟩ := nameR_in hlt
            rw [hx] at f1 f2 n1
            have hxs := HS.out x ((hasE_keys E x).1 f2)
            have HN := Lib.hid (name_c i (hC.tab HT.out) (by omega))
            rw [n1, n2] at HN
            have HFi := Lib.hid (fun W (hW : Kp _ W) => find_c x (Kp.tab hW HT.out).tab hxs)
            rw [f1, f2] at HFi
            clear hx f1 f2 n1 n2 hxs
            go_wp2_with (first
              | (go_at_call 21; refine (len_c (hC.tab HT.out).tab).mono ?_; rintro e w3 ⟨rfl, rfl⟩)
              | (go_at_call 16; refine HN.out.mono ?_; rintro e w4 ⟨rfl, hb4⟩; have hC4 := hC.step hb4; clear hb4)
              | (go_at_call 14; refine (HFi.out _ hC4).mono ?_; rintro e w5 ⟨rfl, rfl⟩))
            go_roundw
            case rel => exact ⟨i + 1, hlt, by go_num, hC4⟩
            case measure => simp [intOf]; omega
          · obtain rfl : i = names.length := by omega
            go_wp2_with (first
              | (go_at_call 21; refine (len_c (hC.tab HT.out).tab).mono ?_; rintro e w3 ⟨rfl, rfl⟩)
              | (go_at_call 22; refine (sortedP_c (hC.tab HT.out) HM.out hE).mono ?_; rintro e w7 ⟨⟨v7, rfl, hs7⟩, hb7⟩; have hC7 := hC.step hb7; clear hb7))
            obtain ⟨M, hM⟩ : ∃ M, srt (names ++ Keys als) = M := ⟨_, rfl⟩
            have hnd : (names ++ Keys als).Nodup := (mate_keys HM.out).nodup_iff.1 HM.out.2.1
            have hle : ∀ j (h1 : j < M.length) (h2 : j + 1 < M.length), Op.bytesLess M[j].toList M[j + 1].toList = true := by
              subst hM
              exact fun j h1 h2 => srt_less hnd h1 h2
            have hML : M.length = names.length + als.length := by rw [← hM, srt_length]; simp [Keys]
            rw [hM] at hs7
            obtain ⟨a7, cap7, rfl, hs8⟩ := hs7
            have HS8 := Lib.hid hs8
            have HLE := Lib.hid hle
            have HML := Lib.hid hML
            have hMb : M.length ≤ 8192 := by omega
            clear hM hs8 hle hML hnd
            go_wp2_with fail
            go_loopw [12] (fun vi w2 => ∃ i : Nat, 1 ≤ i ∧ (i ≤ M.length ∨ i = 1) ∧ vi = .int .i64 i ∧ Kp w7 w2) (fun vi _ => M.length - (intOf vi).toNat)
            case atStart => exact ⟨1, Nat.le_refl _, .inr rfl, rfl, Kp.rfl'⟩
            case round =>
              obtain ⟨i, hi1, hi2, rfl, hD⟩ := hrel
              have hCD := hC7.step hD
              by_cases hlt : i < M.length
              · obtain ⟨j, rfl⟩ : ∃ j, i = j + 1 := ⟨i - 1, by omega⟩
                have hlt' : ((j + 1 : Nat) : Int) < (M.length : Int) := by omega
                obtain ⟨g7, o7, rfl, hRow⟩ := HS8.out (by rintro rfl; simp at hlt)
                have hgl := hRow.lt (by omega)
                have hRw := hRow.keep (hD.block g7 hgl)
                have y0 := hRw j (by omega)
                have y1 := hRw (j + 1) hlt
                have hless := HLE.out j (by omega) hlt
                obtain ⟨a, ha'⟩ : ∃ a, M[j]'(by omega) = a := ⟨_, rfl⟩
                obtain ⟨b, hb'⟩ : ∃ b, M[j + 1] = b := ⟨_, rfl⟩
                rw [ha'] at y0 hless
                rw [hb'] at y1 hless
                clear hRow hRw ha' hb'
                go_wp2_with fail
                go_quiet (fail)
                go_wp2_with fail
                go_roundw
                case rel => exact ⟨j + 1 + 1, by omega, by omega, by go_num, hD.step (below_drewN _)⟩
                case measure => simp [intOf]; omega
              · have hlt' : ¬ (i : Int) < (M.length : Int) := by omega
                have heq : ((M.length : Int) == (names.length : Int) + (als.length : Int)) = true := by have := HML.out; simp; omega
                go_wp2_with (first
                  | (go_at_call 21; refine (len_c (hCD.tab HT.out).tab).mono ?_; rintro e w3 ⟨rfl, rfl⟩)
                  | (go_at_call 11; refine (alive_c _).mono ?_; rintro e w9 ⟨rfl, hb9⟩))
                go_ret
                have h1 := HB.out.trans (Below.mono hCD HB.out.size)
                exact ⟨rfl, h1.trans (hb9.mono h1.size)⟩
end Go.Proofs.Ytffgjamnijhlpaa
