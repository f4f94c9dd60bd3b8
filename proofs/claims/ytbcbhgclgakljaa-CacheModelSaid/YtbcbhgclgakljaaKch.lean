/- Orders: their keys. -/
import Derived.Test.YtbcbhgclgakljaaKcg
namespace Go.Proofs.Ytbcbhgclgakljaa
open Go.RowKit Go.Maps Go.WideElems Go.WideShapes
def slLen : Value → Nat
  | .slice _ n _ => n
  | _ => 0
theorem chn_at {N V : Nat → Nat} : ∀ {l : List Nat} (i : Nat) (h : i + 1 < l.length), Chn N V l → N l[i] = l[i + 1] ∧ V l[i + 1] = l[i]
  | [], i, h, _ => by simp at h
  | [x], i, h, _ => by simp at h
  | x :: y :: t, 0, h, hc => ⟨hc.1, hc.2.1⟩
  | x :: y :: t, i + 1, h, hc => by
    have := chn_at (l := y :: t) i (by simpa using h) hc.2.2
    simpa using this
/-- the place of the i-th link; the ring's own behind the last one -/
def pl (S : List Lk) (r i : Nat) : Nat := ((S.map Lk.g)[i]?).getD r
section
variable {N V : Nat → Nat} {r : Nat} {S : List Lk}
theorem pl_end : pl S r S.length = r := by unfold pl; rw [List.getElem?_eq_none (by simp)]; rfl
theorem pl_lt {i : Nat} (h : i < S.length) : pl S r i = S[i].g := by unfold pl; simp [h]
theorem pl_eq {i : Nat} (h : i ≤ S.length) : (r :: S.map Lk.g ++ [r])[i + 1]'(by simp; omega) = pl S r i := by
  rcases Nat.lt_or_ge i S.length with h1 | h1
  · rw [pl_lt h1]
    simp only [List.cons_append, List.getElem_cons_succ]
    rw [List.getElem_append_left (by simpa using h1)]
    simp
  · obtain rfl : i = S.length := by omega
    rw [pl_end]
    simp
theorem next_first (hc : Chn N V (r :: S.map Lk.g ++ [r])) : N r = pl S r 0 := by
  have := (chn_at 0 (by simp) hc).1
  rw [pl_eq (Nat.zero_le _)] at this
  simpa using this
theorem next_at (hc : Chn N V (r :: S.map Lk.g ++ [r])) {i : Nat} (h : i < S.length) : N S[i].g = pl S r (i + 1) := by
  have := (chn_at (i + 1) (by simp; omega) hc).1
  rw [pl_eq (by omega), pl_eq (by omega), pl_lt h] at this
  exact this
/-- .. backwards: the place of the one ahead of the i-th; the ring's own ahead of the first -/
def pb (S : List Lk) (r : Nat) : Nat → Nat
  | 0 => r
  | i + 1 => pl S r i
theorem pb_eq {i : Nat} (h : i ≤ S.length) : (r :: S.map Lk.g ++ [r])[i]'(by simp; omega) = pb S r i := by
  cases i with
  | zero => rfl
  | succ i => exact pl_eq (by omega)
theorem prev_at (hc : Chn N V (r :: S.map Lk.g ++ [r])) {i : Nat} (h : i < S.length) : V S[i].g = pb S r i := by
  have := (chn_at i (by simp; omega) hc).2
  rw [pl_eq (by omega), pb_eq (by omega), pl_lt h] at this
  exact this
theorem prev_last (hc : Chn N V (r :: S.map Lk.g ++ [r])) : V r = pb S r S.length := by
  have := (chn_at S.length (by simp) hc).2
  rw [pl_eq (Nat.le_refl _), pb_eq (Nat.le_refl _), pl_end] at this
  exact this
end
theorem take_snoc {α : Type} (L : List α) (i : Nat) (h : i < L.length) : L.take (i + 1) = L.take i ++ [L[i]] := by
  rw [List.take_add_one, List.getElem?_eq_getElem h]; rfl
section
variable {w w' w1 w2 w3 w4 w5 : World} {o r m : Nat} {S S1 S2 T : List Lk} {k : K3} {d : Dc} {x : Lk} {F : Nat → Prop} {D : DataW Value}
set_option maxRecDepth 100000 in
set_option maxHeartbeats 8000000 in
theorem keys_c (h : Ord w o r m S) (hS : S.length ≤ 100000) :
    Calls Try.prog 52 #[.pointer (some ⟨o, 0, none⟩)] w fun e w' => ∃ v, e = .returned v ∧ Own RK w' w.heap.size v (S.map Lk.k) ∧ Below w.heap.size w w' := by
  obtain ⟨N, V, hL, hc⟩ := h.ring
  have HL := Lib.hid hL
  have HK := Lib.hid h.blk
  have HR : Hid (∀ x ∈ S, x.g ≠ r) := Lib.hid fun x hx e => by
    have := (List.nodup_cons.1 h.nd).1
    exact this (e ▸ List.mem_map_of_mem hx)
  have HF : Hid (∀ i (hi : i < S.length), N (S[i]).g = pl S r (i + 1)) := Lib.hid fun i hi => next_at hc hi
  have c1 := HK.out.cell 1
  simp only [List.getElem?_toArray, List.getElem?_cons_succ, List.getElem?_cons_zero] at c1
  have r8 := (hL.cells (x := hd r) (by simp)).2.2.2.2.2.2.2.2.1
  simp only [hd] at r8
  rw [next_first hc] at r8
  clear hL h hc
  obtain ⟨n, hN⟩ : ∃ n, S.length = n := ⟨_, rfl⟩
  have HN := Lib.hid hN
  rw [hN] at hS
  clear hN
  go_enter Try.func52, Try.ntmps52
  go_wp2_with fail
  clear r8
  go_loopw [3, 4] (fun vl va wr => ∃ (i : Nat) (v : Value), i ≤ n ∧ va = .pointer (some ⟨pl S r i, 0, none⟩) ∧ v = vl ∧ Hid (Own RK wr w.heap.size v ((S.take i).map Lk.k)) ∧ Hid (Below w.heap.size w wr)) (fun vl _ _ => n - slLen vl)
  case atStart => exact ⟨0, _, Nat.zero_le _, rfl, rfl, Lib.hid (Own.nil _ _), Lib.hid (Below.refl _ _)⟩
  case round =>
    clear c1
    obtain ⟨i, v, hi, rfl, rfl, HO, HW⟩ := hrel
    have c1 := (HK.out.keep HW.out).cell 1
    simp only [List.getElem?_toArray, List.getElem?_cons_succ, List.getElem?_cons_zero] at c1
    have hL := HL.out.keep HW.out
    have hlenI : ((S.take i).map Lk.k).length = i := by rw [List.length_map, List.length_take]; have := HN.out; omega
    by_cases hlt : i < n
    · have hltL : i < S.length := by rw [HN.out]; exact hlt
      have hpl := pl_lt (r := r) hltL
      have hnx := HF.out i hltL
      have hts := take_snoc S i hltL
      have hxm : S[i] ∈ S := List.getElem_mem hltL
      generalize S[i] = x at hpl hnx hts hxm
      rw [hpl]
      have hq := neqLink_other (hL x (by simp [hxm])) (hL (hd r) (by simp)) (HR.out x hxm)
      simp only [hd] at hq
      obtain ⟨k0, k1, k2, _, _, _, _, _, _, _⟩ := hL.cells (x := x) (by simp [hxm])
      have HTS := Lib.hid hts
      have HNX := Lib.hid hnx
      have HXM := Lib.hid hxm
      have HLW := Lib.hid hL
      have hvo : v.ownBlock = none ∨ v.ownBlock ≠ some wr.heap.size := by
        cases hv : v.ownBlock with
        | none => exact .inl rfl
        | some g => exact .inr (by have := (HO.out.lt g hv).2; simp; omega)
      clear hL hts hnx hxm hpl
      obtain ⟨ao, cap, rfl⟩ : ∃ ao cap, v = .slice ao i cap := by
        have := HO.out.isSl
        rwa [hlenI] at this
      go_wp2_with (first | (at_builtin; refine wpList_append_one RK rfl _ _ rfl w.heap.size (.slice ao i cap) ((S.take i).map Lk.k) i hlenI rfl (HO.out.below ((Below.refl _ _).alloc (Nat.le_refl _) _)) wr.heap.size x.k rfl (Blk.new wr 84 #[.int .i64 x.k.a, .int .i64 x.k.b, .int .i64 x.k.c]) (by omega) (by have := HW.out.size; simp; omega) ?_; intro g' cap' w4 h1 h2 h3; have H1 := Lib.hid h1; have HB4 : Hid (Below w.heap.size w w4) := Lib.hid ((HW.out.alloc HW.out.size _).grown h2 (by have := HW.out.size; simp; omega) (fun k e => (HO.out.lt k e).1)); have c8 := ((HL.out.keep HB4.out).cells (x := x) (by simp [HXM.out])).2.2.2.2.2.2.2.2.1; rw [HNX.out] at c8; clear h1 h2 h3) | fail)
      refine ⟨⟨i + 1, .slice (some ⟨g', 0, none⟩) (i + 1) cap', by omega, rfl, rfl, Lib.hid ?_, HB4⟩, by simp [slLen]; omega⟩
      rw [HTS.out, List.map_append]
      exact H1.out
    · obtain rfl : i = n := by omega
      rw [← HN.out, pl_end]
      have hq := neqLink_same r wr
      clear hL
      go_wp2_with fail
      go_ret
      have h1 := HO.out
      rw [← HN.out, List.take_length] at h1
      exact ⟨v, rfl, h1, HW.out⟩
end
end Go.Proofs.Ytbcbhgclgakljaa
