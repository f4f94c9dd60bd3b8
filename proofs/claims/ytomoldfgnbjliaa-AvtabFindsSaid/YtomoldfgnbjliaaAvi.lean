/- merged: the entries of a table. -/
import Derived.Test.YtomoldfgnbjliaaAvh
namespace Go.Proofs.Ytomoldfgnbjliaa
open Go.RowKit Go.Sort Go.Shelf
theorem values_c (ao : Option Addr) (n cap : Nat) (w : World) : Calls Try.prog 44 #[.slice ao n cap] w fun e w' => e = .returned (.func (.func 51) #[] #[.pointer (some ⟨w.heap.size, 0, none⟩)]) ∧ w.alloc (.cells #[.slice ao n cap] 22) = w' := by
  go_enter Try.func44, Try.ntmps44
  go_wp2
  go_ret
  exact ⟨rfl, rfl⟩
set_option maxRecDepth 100000 in
theorem sortedFunc_c (Bv : Nat) (sv : Value) (L : List E) (hl : L.length ≤ 100000) (w : World) (hBv : w.cell? ⟨Bv, 0, none⟩ = some sv) (hE : Ents w sv L) :
    Calls Try.prog 43 #[.func (.func 51) #[] #[.pointer (some ⟨Bv, 0, none⟩)], .func (.func 45) #[] #[]] w (SortOut w L) := by
  have HC := Lib.hid (collect_c Bv sv L hl w hBv hE)
  clear hBv hE
  go_enter Try.func43, Try.ntmps43
  go_wp2_with (first
    | (go_at_call 49; refine HC.out.mono ?_; rintro e w1 ⟨v, rfl, h1, h2⟩; have H1 := Lib.hid h1; have H2 := Lib.hid h2; clear h1 h2)
    | (go_at_call 50; refine (sort_c hl H1.out).mono ?_; rintro e w2 ⟨rfl, S, h3, h4, h5⟩; have H3 := Lib.hid h3; have H4 := Lib.hid h4; have H5 := Lib.hid h5; clear h3 h4 h5))
  go_ret
  exact ⟨v, S, rfl, H3.out, H4.out, H2.out.grown H5.out H2.out.size (fun k e => (World.ownsRow.lt H1.out k e).1)⟩
/-- the joined ones of the first i that are not empty -/
def mj (S : List E) (i : Nat) : List E := ((S.take i).filter fun x => !emp x).foldl join []
theorem mj_zero (S : List E) : mj S 0 = [] := rfl
theorem mj_yes {S : List E} {i : Nat} (h : i < S.length) (hv : emp S[i] = false) : mj S (i + 1) = join (mj S i) S[i] := by
  unfold mj; rw [take_snoc' S i h, List.filter_append, List.foldl_append]; simp [hv]
theorem mj_no {S : List E} {i : Nat} (h : i < S.length) (hv : emp S[i] = true) : mj S (i + 1) = mj S i := by
  unfold mj; rw [take_snoc' S i h, List.filter_append, List.foldl_append]; simp [hv]
theorem mj_len (S : List E) (i : Nat) : (mj S i).length ≤ i := by
  have h1 := fold_join_len ((S.take i).filter fun x => !emp x) []
  have h2 := List.length_filter_le (fun x => !emp x) (S.take i)
  rw [List.length_take] at h2
  simp only [List.length_nil, Nat.zero_add] at h1
  exact Nat.le_trans h1 (by omega)
theorem mj_all {L S : List E} (h : SortedOf L S) : mj S S.length = M L := by
  unfold mj
  rw [List.take_length]
  refine fold_join_M (h.2.filter _) (fun x hx => by simpa using (List.mem_filter.1 hx).2) fun z => ?_
  rw [con_filter_ne, con_perm z h.1]
theorem emp_or3 (x : E) : (vI (x.a ||| x.b ||| x.e) == 0) = emp x := by
  unfold emp
  rw [Bool.eq_iff_iff, beq_iff_eq]
  constructor
  · intro h
    have h0 : (x.a ||| x.b ||| x.e) = 0#32 := vI_inj h
    rw [BitVec.or_eq_zero_iff, BitVec.or_eq_zero_iff] at h0
    simp [h0.1.1, h0.1.2, h0.2]
  · intro h
    simp only [Bool.and_eq_true, beq_iff_eq] at h
    rw [h.1.1, h.1.2, h.2]
    rfl
set_option maxRecDepth 100000 in
set_option maxHeartbeats 4000000 in
theorem merged_c (v : Value) (L : List E) (hl : L.length ≤ 10000) (w : World) (hE : Ents w v L) :
    Calls Try.prog 25 #[v] w (ListOut w (M L)) := by
  have hE2 := hE.keep ((Below.refl _ w).alloc (Nat.le_refl _) (.cells #[v] 22))
  have HS := Lib.hid (sortedFunc_c w.heap.size v L (by omega) (w.alloc (.cells #[v] 22)) ((Blk.new w _ _).cell 0) hE2)
  obtain ⟨ao, cap, rfl⟩ := hE.form
  clear hE hE2
  go_enter Try.func25, Try.ntmps25
  go_wp2_with (first
    | (go_at_call 44; refine (values_c _ _ _ _).mono ?_; rintro e w1 ⟨rfl, rfl⟩)
    | (go_at_call 43; refine HS.out.mono ?_; rintro e w1 ⟨v1, S, rfl, h1, h2, h3⟩; have HE := Lib.hid h1; have H2 := Lib.hid h2; have H3 := Lib.hid h3; obtain ⟨aS, cS, rfl⟩ := h1.form; clear h1 h2 h3))
  obtain ⟨n, hN⟩ : ∃ n, S.length = n := ⟨_, rfl⟩
  have HN := Lib.hid hN
  have hln : n ≤ 10000 := by rw [← hN, H2.out.1.length_eq]; exact hl
  have hlI : (n : Int) ≤ 10000 := by omega
  have hcI : (n : Int) ≤ (cS : Int) := by
    obtain ⟨ao', cap', e, hc, _⟩ := HE.out
    obtain ⟨-, -, rfl⟩ : aS = ao' ∧ True ∧ cS = cap' := by simpa using e
    omega
  have HB : Hid (Below w.heap.size w w1) := Lib.hid (((Below.refl _ w).alloc (Nat.le_refl _) _).trans (H3.out.mono (by simp)))
  have HMA := Lib.hid (mj_all H2.out)
  rw [hN]
  have hHE := HE.out
  rw [hN] at hHE
  have HE := Lib.hid hHE
  clear hN hHE H2 H3 HS
  go_loopw [10, 3] (fun vi va wr => ∃ (i : Nat) (v : Value), i ≤ n ∧ vi = .int .i64 i ∧ v = va ∧ Hid (OwnE wr w1.heap.size v (mj S i)) ∧ Hid (Below w1.heap.size w1 wr)) (fun vi _ _ => n - (intOf vi).toNat)
  case atStart => exact ⟨0, _, Nat.zero_le _, rfl, rfl, Lib.hid (OwnE.nil _ _), Lib.hid (Below.refl _ _)⟩
  case round =>
    obtain ⟨i, v, hi, rfl, rfl, HO, HW⟩ := hrel
    by_cases hlt : i < n
    · have hltL : i < S.length := by rw [HN.out]; exact hlt
      obtain ⟨ao', cap', hao, -, hr⟩ := HE.out
      obtain ⟨b, o, rfl, hR⟩ := hr (by rintro rfl; simp at hltL)
      obtain ⟨rfl, -, rfl⟩ : aS = some ⟨b, o, none⟩ ∧ True ∧ cS = cap' := by
        simp only [Value.slice.injEq] at hao
        exact ⟨hao.1, trivial, hao.2.2⟩
      have hA : At7 wr b (o + i * 7) S[i] := (hR.at hltL).keep (HW.out.block b (hR.lt (by rintro rfl; simp at hltL)))
      obtain ⟨x, hx⟩ : ∃ x, S[i] = x := ⟨_, rfl⟩
      have HX := Lib.hid hx
      rw [hx] at hA
      obtain ⟨a0, a1, a2, a3, a4, a5, a6⟩ := hA
      have hltI : (i : Int) < (n : Int) := by omega
      have HO2 : Hid (OwnE (wr.alloc (.cells #[.int .i64 x.s, .int .i64 x.t, .int .i64 x.c, .int .i64 x.d, .int .u32 (vI x.a), .int .u32 (vI x.b), .int .u32 (vI x.e)] 39)) w1.heap.size v (mj S i)) := Lib.hid (HO.out.below ((Below.refl _ wr).alloc (Nat.le_refl _) _))
      have ho1 := vI_or x.a x.b
      have ho2 := vI_or (x.a ||| x.b) x.e
      have he := emp_or3 x
      clear hx hao hr hR
      cases hemp : emp x with
      | false =>
        have HEM := Lib.hid hemp
        rw [hemp] at he
        have he2 : (vI (x.a ||| x.b ||| x.e) != 0) = true := by rw [bne, he]; rfl
        clear hemp
        go_wp2_with (go_at_call 46; refine (join_c x (by have := mj_len S i; omega) HO2.out (by have := HW.out.size; simp; omega)).mono ?_; rintro e w2 ⟨v2, rfl, k1, k2, k3⟩)
        refine ⟨⟨i + 1, v2, by omega, by go_num, rfl, Lib.hid ?_, Lib.hid ((HW.out.alloc HW.out.size _).grown k2 (by have := HW.out.size; simp; omega) (fun k e => (World.ownsRow.lt HO2.out k e).1))⟩, by simp [intOf]; omega⟩
        rw [mj_yes hltL (by rw [HX.out]; exact HEM.out), HX.out]
        exact k1
      | true =>
        have HEM := Lib.hid hemp
        rw [hemp] at he
        have he2 : (vI (x.a ||| x.b ||| x.e) != 0) = false := by rw [bne, he]; rfl
        clear hemp
        go_wp2_with fail
        refine ⟨⟨i + 1, v, by omega, by go_num, rfl, Lib.hid ?_, Lib.hid (HW.out.alloc HW.out.size _)⟩, by simp [intOf]; omega⟩
        rw [mj_no hltL (by rw [HX.out]; exact HEM.out)]
        exact HO2.out
    · obtain rfl : i = n := by omega
      go_wp2_with fail
      go_ret
      have h1 := HO.out
      rw [← HN.out, HMA.out] at h1
      exact ⟨v, rfl, h1.base HB.out.size, HB.out.trans (HW.out.mono HB.out.size)⟩
end Go.Proofs.Ytomoldfgnbjliaa
