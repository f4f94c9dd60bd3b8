/- The reference's Text; the law TokenTexts, walked. -/
import Derived.Test.YthjfedkginjbeaaTui
namespace Go.Proofs.Ythjfedkginjbeaa
open Go.RowKit
theorem joinN_take (l : List TI) {n : Nat} : ∀ k, k ≤ n → joinN (l.take n) k = joinN l k
  | 0, _ => rfl
  | k + 1, h => by
    have e : (l.take n)[k]? = l[k]? := by rw [List.getElem?_take, if_pos (by omega)]
    simp only [joinN, e, @joinN_take l n k (by omega)]
theorem firstN_ne : ∀ (l : List TI) (i : Nat) (h : i < l.length), i < firstN l → l[i].kind ≠ 0
  | [], i, h, _ => by simp at h
  | t :: r, i, h, hi => by
    unfold firstN at hi
    split at hi
    · omega
    · rename_i hk
      match i, h, hi with
      | 0, _, _ => simpa using hk
      | j + 1, h, hi => simpa using firstN_ne r j (by simpa using h) (by omega)
theorem firstN_eq : ∀ (l : List TI) (h : firstN l < l.length), l[firstN l].kind = 0
  | [], h => by simp at h
  | t :: r, h => by
    by_cases hk : t.kind = 0
    · have e : firstN (t :: r) = 0 := by simp [firstN, hk]
      simp [e, hk]
    · have e : firstN (t :: r) = firstN r + 1 := by simp [firstN, hk]
      simp only [e, List.getElem_cons_succ]
      exact firstN_eq r (by rw [e] at h; simpa using h)
theorem joinN_bound {l : List TI} (hs : ∀ t ∈ l, t.text.size ≤ 1000000) : ∀ n, n ≤ l.length → (joinN l n).size ≤ n * 1000003
  | 0, _ => Nat.zero_le _
  | n + 1, h => by
    have ih := joinN_bound hs n (by omega)
    have hz := hs l[n] (List.getElem_mem h)
    have hp := spell_size l[n].kind l[n].text
    rw [joinN_succ h, ByteArray.size_append]
    split
    · omega
    · rw [ByteArray.size_append]; have : spc.size = 1 := rfl; omega
theorem textR_of (l : List TI) : textR l = if (l.take (firstN l)).all (fun t => chkT t.kind t.text) then (if (joinN l (firstN l)).size ≤ 65536 then (joinN l (firstN l), 0) else (⟨#[]⟩, 4)) else (⟨#[]⟩, 2) := by
  unfold textR
  rw [joinN_take l _ (Nat.le_refl _)]
theorem take_all_no {l : List TI} {i : Nat} (h : i < l.length) (hi : i < firstN l) (hc : chkT l[i].kind l[i].text = false) : (l.take (firstN l)).all (fun t => chkT t.kind t.text) = false := by
  rw [List.all_eq_false]
  refine ⟨l[i], ?_, by simpa using hc⟩
  rw [List.mem_iff_getElem]
  exact ⟨i, by rw [List.length_take]; omega, by rw [List.getElem_take]⟩
theorem take_all_yes {l : List TI} (ha : ∀ k (_ : k < firstN l) (h : k < l.length), chkT l[k].kind l[k].text = true) : (l.take (firstN l)).all (fun t => chkT t.kind t.text) = true := by
  rw [List.all_eq_true]
  intro t ht
  obtain ⟨k, hk, rfl⟩ := List.getElem_of_mem ht
  rw [List.getElem_take]
  rw [List.length_take] at hk
  exact ha k (by omega) (by omega)
set_option maxRecDepth 100000 in
set_option maxHeartbeats 8000000 in
theorem rText_c (v : Value) (l : List TI) (w : World) (hn : l.length ≤ 1000000) (hT : Toks w v l) (hs : ∀ t ∈ l, t.text.size ≤ 1000000) :
    Calls Try.prog 25 #[v] w fun e w' => e = .returned (.tuple #[.string (textR l).1, .int .i64 (textR l).2]) ∧ Below w.heap.size w w' := by
  obtain ⟨RS, RC, hR⟩ : ∃ RS RC, textR l = (RS, RC) := ⟨_, _, rfl⟩
  rw [hR]
  simp only
  rw [textR_of] at hR
  have HM := Lib.hid hs
  have HR := Lib.hid hR
  have hFle := firstN_le l
  obtain ⟨F, hF⟩ : ∃ F, firstN l = F := ⟨_, rfl⟩
  have HF := Lib.hid hF
  rw [hF] at hFle
  clear hs hR hF
  obtain ⟨ao, cap, rfl, hcap, hT⟩ := hT
  go_enter Try.func25, Try.ntmps25
  go_wp2_with fail
  go_loopw [4, 5] (fun vs vi wr => ∃ i : Nat, i ≤ F ∧ vs = .string (joinN l i) ∧ vi = .int .i64 i ∧ Hid (∀ k (_ : k < i) (h : k < l.length), chkT l[k].kind l[k].text = true) ∧ Below w.heap.size w wr)
    (fun _ vi _ => l.length - (intOf vi).toNat)
  case atStart => exact ⟨0, Nat.zero_le _, rfl, rfl, Lib.hid fun k h => absurd h (by omega), Below.refl _ _⟩
  case round =>
    obtain ⟨i, hi, rfl, rfl, HA, hb⟩ := hrel
    have hsz := hb.size
    have hJb := joinN_bound HM.out i (by omega)
    by_cases hlt : i < F
    · have hil : i < l.length := by omega
      obtain ⟨g, o, rfl, hRow⟩ := hT (by rintro rfl; simp at hil)
      have hlg := hRow.lt (by rintro rfl; simp at hil)
      obtain ⟨r0, r1, r2, r3⟩ := (hRow.keep (hb.block g hlg)).at hil
      have hil' : (i : Int) < (l.length : Int) := by omega
      have hQ : ∀ w1, Below wr.heap.size wr w1 → w1.cell? ⟨g, o + i * 4, none⟩ = some (.int .i64 l[i].kind) ∧ w1.cell? ⟨g, o + i * 4 + 1, none⟩ = some (.string l[i].text) := by
        intro w1 hC
        have e1 := ((hRow.keep (hb.block g hlg)).keep (hC.block g (by omega))).at hil
        exact ⟨e1.1, e1.2.1⟩
      have htz := HM.out l[i] (List.getElem_mem hil)
      have hne := firstN_ne l i hil (by rw [HF.out]; exact hlt)
      have hJ := joinN_succ hil
      have hNo := take_all_no hil (by rw [HF.out]; exact hlt)
      obtain ⟨⟨K, X, L, C⟩, htk⟩ : ∃ t, l[i] = t := ⟨_, rfl⟩
      rw [htk] at r0 r1 r2 r3 htz hne hJ hNo hQ
      simp only at r0 r1 r2 r3 htz hne hJ hNo hQ
      have HQ := Lib.hid hQ
      have hne' : (K != 0) = true := by simpa using hne
      cases hc : chkT K X
      · have hR := HR.out
        rw [hNo hc] at hR
        simp only [Bool.false_eq_true, if_false, Prod.mk.injEq] at hR
        obtain ⟨rfl, rfl⟩ := hR
        have hcr : refB K X = false := by rw [← chk_ref]; exact hc
        have HC := Lib.hid hcr
        clear htk hc hcr hNo hJ HR hne hQ
        go_wp2_with (go_at_call 22; refine (rCheck_c _ _ _ _ _ (by omega)).mono ?_; rintro e w3 ⟨rfl, hb3⟩; rw [HC.out])
        go_ret2
        exact ⟨rfl, hb.trans (hb3.mono hsz)⟩
      · have hcr : refB K X = true := by rw [← chk_ref]; exact hc
        have HC := Lib.hid hcr
        have HA2 : Hid (∀ k (_ : k < i + 1) (h : k < l.length), chkT l[k].kind l[k].text = true) := Lib.hid fun k h h' => by
          rcases Nat.lt_or_ge k i with hk | hk
          · exact HA.out k hk h'
          · obtain rfl : k = i := by omega
            rw [htk]; exact hc
        have HJ := Lib.hid hJ
        obtain ⟨J, hJ0⟩ : ∃ J, joinN l i = J := ⟨_, rfl⟩
        rw [hJ0] at HJ hJb
        rw [hJ0]
        clear htk hc hcr hNo hJ hJ0 HR HA hne hQ
        by_cases hi0 : i = 0
        · subst hi0
          simp only [Nat.zero_mul, Nat.add_zero] at r0 r1 r2 r3
          by_cases h3 : K = 3
          · subst h3
            have n0 : ¬ 9223372036854775807 < J.size + 1 := by omega
            have n1 : ¬ 9223372036854775807 < J.size + 1 + X.size := by omega
            have n2 : ¬ 9223372036854775807 < J.size + 1 + X.size + 1 := by omega
            go_wp2_with (go_at_call 22; refine (rCheck_c _ _ _ _ _ (by omega)).mono ?_; rintro e w3 ⟨rfl, hb3⟩; rw [HC.out]; obtain ⟨s0, s1⟩ := HQ.out _ hb3; simp only [Nat.zero_mul, Nat.add_zero] at s0 s1)
            go_roundw
            case rel => exact ⟨0 + 1, hlt, by rw [HJ.out, if_pos trivial]; simp [spell, q1, ByteArray.append_assoc], by simp, HA2, hb.trans (hb3.mono hsz)⟩
            case measure => simp [intOf]; omega
          · have h3' : (K == 3) = false := by simpa using h3
            have n0 : ¬ 9223372036854775807 < J.size + X.size := by omega
            go_wp2_with (go_at_call 22; refine (rCheck_c _ _ _ _ _ (by omega)).mono ?_; rintro e w3 ⟨rfl, hb3⟩; rw [HC.out]; obtain ⟨s0, s1⟩ := HQ.out _ hb3; simp only [Nat.zero_mul, Nat.add_zero] at s0 s1)
            go_roundw
            case rel => exact ⟨0 + 1, hlt, by rw [HJ.out, if_pos trivial]; simp [spell, h3], by simp, HA2, hb.trans (hb3.mono hsz)⟩
            case measure => simp [intOf]; omega
        · have hip : (0 : Int) < (i : Int) := by omega
          by_cases h3 : K = 3
          · subst h3
            have n0 : ¬ 9223372036854775807 < J.size + 1 := by omega
            have n1 : ¬ 9223372036854775807 < J.size + 1 + 1 := by omega
            have n2 : ¬ 9223372036854775807 < J.size + 1 + 1 + X.size := by omega
            have n3 : ¬ 9223372036854775807 < J.size + 1 + 1 + X.size + 1 := by omega
            go_wp2_with (go_at_call 22; refine (rCheck_c _ _ _ _ _ (by omega)).mono ?_; rintro e w3 ⟨rfl, hb3⟩; rw [HC.out]; obtain ⟨s0, s1⟩ := HQ.out _ hb3)
            go_roundw
            case rel => exact ⟨i + 1, hlt, by rw [HJ.out, if_neg hi0]; simp [spell, q1, spc, ByteArray.append_assoc], by simp, HA2, hb.trans (hb3.mono hsz)⟩
            case measure => simp [intOf]; omega
          · have h3' : (K == 3) = false := by simpa using h3
            have n0 : ¬ 9223372036854775807 < J.size + 1 := by omega
            have n1 : ¬ 9223372036854775807 < J.size + 1 + X.size := by omega
            go_wp2_with (go_at_call 22; refine (rCheck_c _ _ _ _ _ (by omega)).mono ?_; rintro e w3 ⟨rfl, hb3⟩; rw [HC.out]; obtain ⟨s0, s1⟩ := HQ.out _ hb3)
            go_roundw
            case rel => exact ⟨i + 1, hlt, by rw [HJ.out, if_neg hi0]; simp [spell, h3, spc], by simp, HA2, hb.trans (hb3.mono hsz)⟩
            case measure => simp [intOf]; omega
    · obtain rfl : i = F := by omega
      have hR := HR.out
      have hAll := take_all_yes (l := l) (by rw [HF.out]; exact HA.out)
      rw [hAll, HF.out] at hR
      simp only [if_true] at hR
      by_cases hil : i < l.length
      · obtain ⟨g, o, rfl, hRow⟩ := hT (by rintro rfl; simp at hil)
        have hlg := hRow.lt (by rintro rfl; simp at hil)
        have hk0 : l[i].kind = 0 := by
          have hx : ∀ k (hk : k < l.length), k = firstN l → l[k].kind = 0 := fun k hk e => by subst e; exact firstN_eq l hk
          exact hx i hil HF.out.symm
        obtain ⟨r0, r1, r2, r3⟩ := (hRow.keep (hb.block g hlg)).at hil
        rw [hk0] at r0
        have hil' : (i : Int) < (l.length : Int) := by omega
        clear hk0 HF HA
        by_cases hz : (joinN l i).size ≤ 65536
        · rw [if_pos hz] at hR
          simp only [Prod.mk.injEq] at hR
          obtain ⟨rfl, rfl⟩ := hR
          have hz' : ¬ (65536 : Int) < ((joinN l i).size : Int) := by omega
          clear HR
          go_wp2
          go_ret2
          exact ⟨rfl, hb⟩
        · rw [if_neg hz] at hR
          simp only [Prod.mk.injEq] at hR
          obtain ⟨rfl, rfl⟩ := hR
          have hz' : (65536 : Int) < ((joinN l i).size : Int) := by omega
          clear HR
          go_wp2
          go_ret2
          exact ⟨rfl, hb⟩
      · obtain rfl : i = l.length := by omega
        clear HF HA
        by_cases hz : (joinN l l.length).size ≤ 65536
        · rw [if_pos hz] at hR
          simp only [Prod.mk.injEq] at hR
          obtain ⟨rfl, rfl⟩ := hR
          have hz' : ¬ (65536 : Int) < ((joinN l l.length).size : Int) := by omega
          clear HR
          go_wp2
          go_ret2
          exact ⟨rfl, hb⟩
        · rw [if_neg hz] at hR
          simp only [Prod.mk.injEq] at hR
          obtain ⟨rfl, rfl⟩ := hR
          have hz' : (65536 : Int) < ((joinN l l.length).size : Int) := by omega
          clear HR
          go_wp2
          go_ret2
          exact ⟨rfl, hb⟩
set_option maxRecDepth 100000 in
set_option maxHeartbeats 4000000 in
theorem ltexts_c (v : Value) (l : List TI) (w : World) (hn : l.length ≤ 9223372036854775807) (hT : Toks w v l) :
    Calls Try.prog 6 #[v] w fun e w' => e = .returned (.bool true) ∧ Below w.heap.size w w' := by
  have hF := few_c v l w hn hT
  have hb := Below.refl w.heap.size w
  cases h1 : fewB l
  · rw [h1] at hF
    have HF := Lib.hid hF
    clear hT hF h1
    go_enter Try.func6, Try.ntmps6
    go_wp2_with (first
      | (go_at_call 23; refine HF.out.mono ?_; rintro e w2 ⟨rfl, rfl⟩)
      | (go_at_call 13; refine (awake_c _).mono ?_; rintro e w6 ⟨rfl, hq⟩; replace hb := hb.trans (hq.mono hb.size); clear hq))
    go_ret
    exact ⟨rfl, hb⟩
  · rw [h1] at hF
    have l1 := fewB_len h1
    have l2 : ∀ t ∈ l, t.text.size ≤ 1000000 := fun t ht => Nat.le_trans (fewB_all h1 t ht) (by omega)
    have hS : ∀ w', Below w.heap.size w w' → Calls Try.prog 24 #[v] w' fun e w'' => e = .returned (.tuple #[.string (textR l).1, .int .i64 (textR l).2]) ∧ Below w'.heap.size w' w'' := fun w' h => text_c v l w' (by omega) (hT.keep h) l2
    have hS2 : ∀ w', Below w.heap.size w w' → Calls Try.prog 25 #[v] w' fun e w'' => e = .returned (.tuple #[.string (textR l).1, .int .i64 (textR l).2]) ∧ Below w'.heap.size w' w'' := fun w' h => rText_c v l w' (by omega) (hT.keep h) l2
    obtain ⟨A, B, hAB⟩ : ∃ A B, textR l = (A, B) := ⟨_, _, rfl⟩
    rw [hAB] at hS hS2
    simp only at hS hS2
    have HF := Lib.hid hF
    have HS := Lib.hid hS
    have HS2 := Lib.hid hS2
    clear hT hF h1 hS hS2 hAB l2
    go_enter Try.func6, Try.ntmps6
    go_wp2_with fail
    refine HF.out.mono ?_
    rintro e w2 ⟨rfl, rfl⟩
    go_wp2_with fail
    refine (HS.out _ hb).mono ?_
    rintro e w4 ⟨rfl, hb4⟩
    go_wp2_with fail
    refine (HS2.out _ hb4).mono ?_
    rintro e w5 ⟨rfl, hb5⟩
    replace hb4 := hb4.trans (hb5.mono hb4.size)
    go_wp2_with (go_at_call 13; refine (awake_c _).mono ?_; rintro e w7 ⟨rfl, hq⟩; replace hb4 := hb4.trans (hq.mono hb4.size); clear hq)
    go_ret
    exact ⟨rfl, hb4⟩
end Go.Proofs.Ythjfedkginjbeaa
