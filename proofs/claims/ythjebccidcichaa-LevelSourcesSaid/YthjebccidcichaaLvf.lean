/- Proper names. -/
import Derived.Test.YthjebccidcichaaLve
namespace Go.Proofs.Ythjebccidcichaa
open Go.RowKit
/-- the name at i is proper -/
def okN (l : List ByteArray) (i : Nat) (x : ByteArray) : Bool := decide (x.size ≤ 32) && (nameS x && decide (idxS l x = (i : Int)))
def propL (l : List ByteArray) (most : Int) : Bool := decide ((l.length : Int) ≤ most) && l.zipIdx.all (fun p => okN l p.2 p.1)
theorem propL_long {l : List ByteArray} {most : Int} (h : ¬ (l.length : Int) ≤ most) : propL l most = false := by unfold propL; rw [decide_eq_false h]; rfl
theorem propL_no {l : List ByteArray} {most : Int} {i : Nat} (h : i < l.length) (hb : okN l i l[i] = false) : propL l most = false := by
  unfold propL
  have : l.zipIdx.all (fun p => okN l p.2 p.1) = false := by
    rw [List.all_eq_false]
    exact ⟨(l[i], i), by rw [List.mem_iff_getElem]; exact ⟨i, by simpa using h, by simp⟩, by simp [hb]⟩
  rw [this, Bool.and_false]
theorem propL_yes {l : List ByteArray} {most : Int} (h : (l.length : Int) ≤ most) (ha : ∀ i (hi : i < l.length), okN l i l[i] = true) : propL l most = true := by
  unfold propL
  rw [decide_eq_true h, Bool.true_and, List.all_eq_true]
  rintro ⟨x, i⟩ hm
  obtain ⟨_, h2, h3⟩ := List.mem_zipIdx hm
  have hi : i < l.length := by omega
  have := ha i hi
  simp at h3
  rw [h3]
  exact this
theorem idx_le {l : List ByteArray} {i : Nat} (h : i < l.length) : 0 ≤ idxS l l[i] ∧ idxS l l[i] ≤ i := by
  have hf : l.findIdx (fun x => decide (x = l[i])) ≤ i := by
    rcases Nat.lt_or_ge i (l.findIdx (fun x => decide (x = l[i]))) with h' | h'
    · have := List.not_of_lt_findIdx h'
      simp at this
    · exact h'
  unfold idxS
  rw [if_pos (by omega)]
  omega
/-- what a list of names has, that are few and short -/
def Few (l : List ByteArray) : Prop := l.length ≤ 1000000 ∧ ∀ s ∈ l, s.size ≤ 1000000
set_option maxRecDepth 100000 in
set_option maxHeartbeats 4000000 in
theorem properList_c (v : Value) (l : List ByteArray) (most : Int) (w : World) (hV : Strs w v l) (hF : Few l) :
    Calls Try.prog 58 #[v, .int .i64 most] w fun e w' => e = .returned (.bool (propL l most)) ∧ Below w.heap.size w w' := by
  have hl := hF.1
  obtain ⟨ao, cap, rfl, hr⟩ := id hV
  obtain ⟨R, hR⟩ : ∃ R, propL l most = R := ⟨_, rfl⟩
  rw [hR]
  have HR := Lib.hid hR
  have HV := Lib.hid hV
  have HF := Lib.hid hF
  clear hR hV hr hF
  by_cases hm : (l.length : Int) ≤ most
  · have hm' : ¬ most < (l.length : Int) := by omega
    have HMo := Lib.hid hm
    go_enter Try.func58, Try.ntmps58
    go_wp2_with fail
    go_loopw [13] (fun vi wr => ∃ i : Nat, i ≤ l.length ∧ vi = .int .i64 i ∧ Hid (∀ k (_ : k < i) (h : k < l.length), okN l k l[k] = true) ∧ Kp w wr) (fun vi _ => l.length - (intOf vi).toNat)
    case atStart => exact ⟨0, Nat.zero_le _, rfl, Lib.hid (fun k h => absurd h (by omega)), Kp.rfl'⟩
    case round =>
      obtain ⟨i, hi, rfl, HA, hC⟩ := hrel
      by_cases hlt : i < l.length
      · have hlt' : (i : Int) < (l.length : Int) := by omega
        obtain ⟨ao', cap', hv, hr⟩ := HV.out.keep hC
        cases hv
        obtain ⟨g, o, rfl, hRow⟩ := hr (by rintro rfl; simp at hlt)
        have q1 := hRow i hlt
        obtain ⟨x, hx⟩ : ∃ x, l[i] = x := ⟨_, rfl⟩
        rw [hx] at q1
        have hxs : x.size ≤ 1000000 := HF.out.2 x (hx ▸ List.getElem_mem hlt)
        have HIN := Lib.hid (isName_c x wr (by omega))
        have HIX := Lib.hid (fun W (hW : Kp wr W) => index_c _ l x W (HV.out.keep (hC.step hW)) (by omega))
        have HNO := Lib.hid (fun hb : okN l i x = false => propL_no (most := most) hlt (by rw [hx]; exact hb))
        have HST : Hid (okN l i x = true → ∀ k (_ : k < i + 1) (h : k < l.length), okN l k l[k] = true) := Lib.hid fun hb k hk h => by
          rcases Nat.lt_or_ge k i with h' | h'
          · exact HA.out k h' h
          · obtain rfl : k = i := by omega
            rw [hx]; exact hb
        clear hx hRow hr
        by_cases h32 : x.size ≤ 32
        · have h32' : ¬ (32 : Int) < (x.size : Int) := by omega
          cases hn : nameS x
          · have hR0 : R = false := by rw [← HR.out]; exact HNO.out (by unfold okN; rw [hn]; simp)
            subst hR0
            rw [hn] at HIN
            clear hn HR
            go_wp2_with (go_at_call 65; refine HIN.out.mono ?_; rintro e w2 ⟨rfl, hb2⟩)
            go_ret
            exact ⟨rfl, hC.step hb2⟩
          · rw [hn] at HIN
            by_cases hxi : idxS l x = (i : Int)
            · have HA2 := Lib.hid (HST.out (by unfold okN; rw [hn, decide_eq_true h32, decide_eq_true hxi]; rfl))
              rw [hxi] at HIX
              clear hn hxi
              go_wp2_with (first
                | (go_at_call 65; refine HIN.out.mono ?_; rintro e w2 ⟨rfl, hb2⟩)
                | (go_at_call 50; refine (HIX.out _ (Kp.rfl'.step hb2)).mono ?_; rintro e w3 ⟨rfl, rfl⟩))
              go_roundw
              case rel => exact ⟨i + 1, hlt, by go_num, HA2, hC.step hb2⟩
              case measure => simp [intOf]; omega
            · have hR0 : R = false := by rw [← HR.out]; exact HNO.out (by unfold okN; rw [decide_eq_false hxi]; simp)
              subst hR0
              have hxb : (idxS l x == (i : Int)) = false := by simpa using hxi
              have hxc : (idxS l x != (i : Int)) = true := by simpa using hxi
              obtain ⟨z, hz⟩ : ∃ z, idxS l x = z := ⟨_, rfl⟩
              rw [hz] at HIX hxb hxc
              clear hn hxi HR hz
              go_wp2_with (first
                | (go_at_call 65; refine HIN.out.mono ?_; rintro e w2 ⟨rfl, hb2⟩)
                | (go_at_call 50; refine (HIX.out _ (Kp.rfl'.step hb2)).mono ?_; rintro e w3 ⟨rfl, rfl⟩))
              go_ret
              exact ⟨rfl, hC.step hb2⟩
        · have h32' : (32 : Int) < (x.size : Int) := by omega
          have hR0 : R = false := by rw [← HR.out]; exact HNO.out (by unfold okN; rw [decide_eq_false h32]; rfl)
          subst hR0
          clear HR
          go_wp2_with fail
          go_ret
          exact ⟨rfl, hC⟩
      · obtain rfl : i = l.length := by omega
        have hR0 : R = true := by rw [← HR.out]; exact propL_yes HMo.out (fun k h => HA.out k h h)
        subst hR0
        clear HR HA
        go_wp2_with fail
        go_ret
        exact ⟨rfl, hC⟩
  · have hm' : most < (l.length : Int) := by omega
    have hR0 : R = false := by rw [← HR.out]; exact propL_long hm
    subst hR0
    clear HR hm
    go_enter Try.func58, Try.ntmps58
    go_wp2_with fail
    go_ret
    exact ⟨rfl, Below.refl _ _⟩
theorem byI_get {s : ByteArray} {i : Nat} (h : i < s.size) : (s[i].toNat : Int) = byI s i := by
  unfold byI
  rw [List.getD, List.getElem?_eq_getElem (by simpa using h)]
  rfl
set_option maxRecDepth 100000 in
set_option maxHeartbeats 4000000 in
theorem rnames_c (v : Value) (l : List ByteArray) (most : Int) (w : World) (hV : Strs w v l) (hF : Few l) :
    Calls Try.prog 61 #[v, .int .i64 most] w fun e w' => e = .returned (.bool (propL l most)) ∧ w' = w := by
  have hl := hF.1
  have hV0 := hV
  obtain ⟨ao, cap, rfl, hr⟩ := hV
  obtain ⟨R, hR⟩ : ∃ R, propL l most = R := ⟨_, rfl⟩
  rw [hR]
  have HR := Lib.hid hR
  have HV := Lib.hid hV0
  have HV2 := Lib.hid hr
  have HF := Lib.hid hF
  clear hR hV0 hr hF
  by_cases hm : (l.length : Int) ≤ most
  · have hm' : ¬ most < (l.length : Int) := by omega
    have HMo := Lib.hid hm
    go_enter Try.func61, Try.ntmps61
    go_wp2_with fail
    go_loop [5] (fun vi => ∃ i : Nat, i ≤ l.length ∧ vi = .int .i64 i ∧ Hid (∀ k (_ : k < i) (h : k < l.length), okN l k l[k] = true)) (fun vi => l.length - (intOf vi).toNat)
    case atStart => exact ⟨0, Nat.zero_le _, rfl, Lib.hid (fun k h => absurd h (by omega))⟩
    case round =>
      obtain ⟨i, hi, rfl, HA⟩ := hrel
      by_cases hlt : i < l.length
      · have hlt' : (i : Int) < (l.length : Int) := by omega
        obtain ⟨g, o, rfl, hRow⟩ := HV2.out (by rintro rfl; simp at hlt)
        have q1 := hRow i hlt
        obtain ⟨x, hx⟩ : ∃ x, l[i] = x := ⟨_, rfl⟩
        rw [hx] at q1
        have hxs : x.size ≤ 1000000 := HF.out.2 x (hx ▸ List.getElem_mem hlt)
        have HIX := Lib.hid (rindex_c _ l x w HV.out (by omega))
        have hle := idx_le hlt
        rw [hx] at hle
        have HNO := Lib.hid (fun hb : okN l i x = false => propL_no (most := most) hlt (by rw [hx]; exact hb))
        have HST : Hid (okN l i x = true → ∀ k (_ : k < i + 1) (h : k < l.length), okN l k l[k] = true) := Lib.hid fun hb k hk h => by
          rcases Nat.lt_or_ge k i with h' | h'
          · exact HA.out k h' h
          · obtain rfl : k = i := by omega
            rw [hx]; exact hb
        clear hx hRow
        by_cases h1 : x.size < 1
        · have h1' : (x.size : Int) < 1 := by omega
          have hR0 : R = false := by rw [← HR.out]; exact HNO.out (by unfold okN; rw [nameS_nil (by omega)]; simp)
          subst hR0
          clear HR hle
          go_wp2_with fail
          go_ret
          exact ⟨rfl, rfl⟩
        · have h1' : ¬ (x.size : Int) < 1 := by omega
          by_cases h32 : x.size ≤ 32
          · have h32' : ¬ (32 : Int) < (x.size : Int) := by omega
            by_cases hxi : idxS l x = (i : Int)
            · rw [hxi] at HIX
              have HXI := Lib.hid hxi
              clear hxi hle
              go_wp2_with (go_at_call 52; refine HIX.out.mono ?_; rintro e w3 ⟨rfl, rfl⟩)
              go_loop [6] (fun vk => ∃ k : Nat, k ≤ x.size ∧ vk = .int .i64 k ∧ Hid (allW x k)) (fun vk => x.size - (intOf vk).toNat)
              case atStart => exact ⟨0, Nat.zero_le _, rfl, Lib.hid (fun k h => absurd h (by omega))⟩
              case round =>
                obtain ⟨k, hk, rfl, HK⟩ := hrel
                by_cases hkt : k < x.size
                · have hkt' : (k : Int) < (x.size : Int) := by omega
                  obtain ⟨b0, b1⟩ := byI_bd x k
                  have hbg := byI_get hkt
                  have HWd := Lib.hid (fun W => rletter_c (byI x k) W b0 b1)
                  rw [← hbg] at HWd
                  clear b0 b1
                  cases hw : wdB (byI x k)
                  · have hR0 : R = false := by rw [← HR.out]; exact HNO.out (by unfold okN; rw [nameS_no hkt hw]; simp)
                    subst hR0
                    rw [hbg, hw] at HWd
                    have HBG := Lib.hid hbg
                    clear hw HR hbg
                    go_wp2_with (go_at_call 68; rw [HBG.out]; refine (HWd.out _).mono ?_; rintro e w2 ⟨rfl, rfl⟩)
                    go_ret
                    exact ⟨rfl, rfl⟩
                  · rw [hbg, hw] at HWd
                    have HBG := Lib.hid hbg
                    have HK2 : Hid (allW x (k + 1)) := Lib.hid fun j hj => by
                      rcases Nat.lt_or_ge j k with h | h
                      · exact HK.out j h
                      · obtain rfl : j = k := by omega
                        exact hw
                    clear hw hbg
                    go_wp2_with (go_at_call 68; rw [HBG.out]; refine (HWd.out _).mono ?_; rintro e w2 ⟨rfl, rfl⟩)
                    go_round
                    case rel => exact ⟨k + 1, hkt, by go_num, HK2⟩
                    case measure => simp [intOf]; omega
                · obtain rfl : k = x.size := by omega
                  have HA2 := Lib.hid (HST.out (by unfold okN; rw [nameS_yes (by omega) HK.out, decide_eq_true h32, decide_eq_true HXI.out]; rfl))
                  go_wp2_with fail
                  go_round
                  case rel => exact ⟨i + 1, hlt, by go_num, HA2⟩
                  case measure => simp [intOf]; omega
            · have hR0 : R = false := by rw [← HR.out]; exact HNO.out (by unfold okN; rw [decide_eq_false hxi]; simp)
              subst hR0
              have hz : idxS l x < (i : Int) := by omega
              obtain ⟨z, hzz⟩ : ∃ z, idxS l x = z := ⟨_, rfl⟩
              rw [hzz] at HIX hz
              clear hxi HR hzz hle
              go_wp2_with (go_at_call 52; refine HIX.out.mono ?_; rintro e w3 ⟨rfl, rfl⟩)
              go_ret
              exact ⟨rfl, rfl⟩
          · have h32' : (32 : Int) < (x.size : Int) := by omega
            have hR0 : R = false := by rw [← HR.out]; exact HNO.out (by unfold okN; rw [decide_eq_false h32]; rfl)
            subst hR0
            clear HR hle
            go_wp2_with fail
            go_ret
            exact ⟨rfl, rfl⟩
      · obtain rfl : i = l.length := by omega
        have hR0 : R = true := by rw [← HR.out]; exact propL_yes HMo.out (fun k h => HA.out k h h)
        subst hR0
        clear HR HA
        go_wp2_with fail
        go_ret
        exact ⟨rfl, rfl⟩
  · have hm' : most < (l.length : Int) := by omega
    have hR0 : R = false := by rw [← HR.out]; exact propL_long hm
    subst hR0
    clear HR hm
    go_enter Try.func61, Try.ntmps61
    go_wp2_with fail
    go_ret
    exact ⟨rfl, rfl⟩
def proper (sens cats : List ByteArray) : Bool := propL sens 16 && propL cats 64
set_option maxRecDepth 100000 in
set_option maxHeartbeats 4000000 in
theorem proper_c (v u : Value) (l m : List ByteArray) (w : World) (hV : Strs w v l) (hU : Strs w u m) (hF : Few l) (hG : Few m) :
    Calls Try.prog 46 #[v, u] w fun e w' => e = .returned (.bool (proper l m)) ∧ Below w.heap.size w w' := by
  obtain ⟨ao, cap, rfl, _⟩ := id hV
  obtain ⟨ao2, cap2, rfl, _⟩ := id hU
  unfold proper
  have H1 := Lib.hid (properList_c _ l 16 w hV hF)
  have H2 := Lib.hid (fun W (hW : Kp w W) => properList_c _ m 64 W (hU.keep hW) hG)
  obtain ⟨a, ha⟩ : ∃ a, propL l 16 = a := ⟨_, rfl⟩
  obtain ⟨b, hb⟩ : ∃ b, propL m 64 = b := ⟨_, rfl⟩
  rw [ha] at H1 ⊢
  rw [hb] at H2 ⊢
  clear ha hb
  cases a
  · go_enter Try.func46, Try.ntmps46
    go_wp2_with fail
    refine H1.out.mono ?_
    rintro e w2 ⟨rfl, hb2⟩
    go_wp2_with fail
    go_ret
    exact ⟨rfl, hb2⟩
  · go_enter Try.func46, Try.ntmps46
    go_wp2_with fail
    refine H1.out.mono ?_
    rintro e w2 ⟨rfl, hb2⟩
    go_wp2_with fail
    refine (H2.out _ hb2).mono ?_
    rintro e w3 ⟨rfl, hb3⟩
    go_wp2_with fail
    go_ret
    exact ⟨rfl, hb2.trans (hb3.mono hb2.size)⟩
set_option maxRecDepth 100000 in
set_option maxHeartbeats 4000000 in
theorem rproper_c (v u : Value) (l m : List ByteArray) (w : World) (hV : Strs w v l) (hU : Strs w u m) (hF : Few l) (hG : Few m) :
    Calls Try.prog 48 #[v, u] w fun e w' => e = .returned (.bool (proper l m)) ∧ w' = w := by
  obtain ⟨ao, cap, rfl, _⟩ := id hV
  obtain ⟨ao2, cap2, rfl, _⟩ := id hU
  unfold proper
  have H1 := Lib.hid (rnames_c _ l 16 w hV hF)
  have H2 := Lib.hid (rnames_c _ m 64 w hU hG)
  obtain ⟨a, ha⟩ : ∃ a, propL l 16 = a := ⟨_, rfl⟩
  obtain ⟨b, hb⟩ : ∃ b, propL m 64 = b := ⟨_, rfl⟩
  rw [ha] at H1 ⊢
  rw [hb] at H2 ⊢
  clear ha hb
  cases a
  · go_enter Try.func48, Try.ntmps48
    go_wp2_with fail
    refine H1.out.mono ?_
    rintro e w2 ⟨rfl, rfl⟩
    go_wp2_with fail
    go_ret
    exact ⟨rfl, rfl⟩
  · go_enter Try.func48, Try.ntmps48
    go_wp2_with fail
    refine H1.out.mono ?_
    rintro e w2 ⟨rfl, rfl⟩
    go_wp2_with fail
    refine H2.out.mono ?_
    rintro e w3 ⟨rfl, rfl⟩
    go_wp2_with fail
    go_ret
    exact ⟨rfl, rfl⟩
end Go.Proofs.Ythjebccidcichaa
