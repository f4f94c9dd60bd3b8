/- seen: the visible ones of ascending entries. -/
import Derived.Test.YtomoldfgnbjliaaAve
namespace Go.Proofs.Ytomoldfgnbjliaa
open Go.RowKit Go.Sort
theorem seenL_snoc (vs : List Bool) (l : List E) (x : E) : seenL vs (l ++ [x]) = if vis vs x.d then seenL vs l ++ [zero x] else seenL vs l := by
  unfold seenL
  rw [List.filter_append, List.map_append]
  by_cases h : vis vs x.d = true
  · simp [h]
  · simp [h]
theorem take_snoc' (l : List E) (i : Nat) (h : i < l.length) : l.take (i + 1) = l.take i ++ [l[i]] := by
  rw [List.take_succ_eq_append_getElem h]
/-- the joined visible ones of the first i -/
def sj (vs : List Bool) (L : List E) (i : Nat) : List E := (seenL vs (L.take i)).foldl join []
theorem sj_zero (vs : List Bool) (L : List E) : sj vs L 0 = [] := rfl
theorem sj_yes {vs : List Bool} {L : List E} {i : Nat} (h : i < L.length) (hv : vis vs L[i].d = true) : sj vs L (i + 1) = join (sj vs L i) (zero L[i]) := by
  unfold sj; rw [take_snoc' L i h, seenL_snoc, if_pos hv, List.foldl_append]; rfl
theorem sj_no {vs : List Bool} {L : List E} {i : Nat} (h : i < L.length) (hv : vis vs L[i].d = false) : sj vs L (i + 1) = sj vs L i := by
  unfold sj; rw [take_snoc' L i h, seenL_snoc, if_neg (by simp [hv])]
theorem seenL_len (vs : List Bool) (l : List E) : (seenL vs l).length ≤ l.length := by
  unfold seenL; rw [List.length_map]; exact List.length_filter_le _ _
theorem sj_len (vs : List Bool) (L : List E) (i : Nat) : (sj vs L i).length ≤ i := by
  have h1 := fold_join_len (seenL vs (L.take i)) []
  have h2 := seenL_len vs (L.take i)
  rw [List.length_take] at h2
  simp only [List.length_nil, Nat.zero_add] at h1
  exact Nat.le_trans h1 (by omega)
theorem sj_all (vs : List Bool) (L : List E) : sj vs L L.length = (seenL vs L).foldl join [] := by unfold sj; rw [List.take_length]
/-- what seen leaves -/
def ListOut (w : World) (L : List E) (e : Ending) (w' : World) : Prop := ∃ v, e = .returned v ∧ OwnE w' w.heap.size v L ∧ Below w.heap.size w w'
section
variable {w : World} {g m1 m2 m3 : Nat} {ve vv : Value}
set_option maxRecDepth 100000 in
set_option maxHeartbeats 4000000 in
theorem seen_c {vs : List Bool} {L : List E} {v : Value} (h : TabB w g ve vv m1 m2 m3) (hv : Bools w vv vs) (hn : vs.length ≤ 1000) (hL : Ents w v L) (hl : L.length ≤ 10000) :
    Calls Try.prog 40 #[.pointer (some ⟨g, 0, none⟩), v] w (ListOut w ((seenL vs L).foldl join [])) := by
  rw [← sj_all]
  have HT := Lib.hid h
  have HV := Lib.hid hv
  have HE := Lib.hid hL
  obtain ⟨ao, cap, rfl, hcap, -⟩ := hL
  have hl' : (L.length : Int) ≤ 10000 := by omega
  have hcI : (L.length : Int) ≤ (cap : Int) := by omega
  clear h hv
  obtain ⟨n, hN⟩ : ∃ n, L.length = n := ⟨_, rfl⟩
  have HN := Lib.hid hN
  rw [hN] at hl hl' hcI hcap ⊢
  clear hN
  go_enter Try.func40, Try.ntmps40
  go_wp2_with fail
  go_loopw [10, 5] (fun vi va wr => ∃ (i : Nat) (v : Value), i ≤ n ∧ vi = .int .i64 i ∧ v = va ∧ Hid (OwnE wr w.heap.size v (sj vs L i)) ∧ Hid (Below w.heap.size w wr)) (fun vi _ _ => n - (intOf vi).toNat)
  case atStart => exact ⟨0, _, Nat.zero_le _, rfl, rfl, Lib.hid (OwnE.nil _ _), Lib.hid (Below.refl _ _)⟩
  case round =>
    obtain ⟨i, v, hi, rfl, rfl, HO, HW⟩ := hrel
    by_cases hlt : i < n
    · have hltL : i < L.length := by rw [HN.out]; exact hlt
      obtain ⟨ao', cap', hao, -, hr⟩ := HE.out
      obtain ⟨b, o, rfl, hR⟩ := hr (by rintro rfl; simp at hltL)
      obtain ⟨rfl, -, rfl⟩ : ao = some ⟨b, o, none⟩ ∧ True ∧ cap = cap' := by simpa using hao
      have hA : At7 wr b (o + i * 7) L[i] := (hR.at hltL).keep (HW.out.block b (hR.lt (by rintro rfl; simp at hltL)))
      obtain ⟨x, hx⟩ : ∃ x, L[i] = x := ⟨_, rfl⟩
      have HX := Lib.hid hx
      rw [hx] at hA
      obtain ⟨a0, a1, a2, a3, a4, a5, a6⟩ := hA
      have hltI : (i : Int) < (n : Int) := by omega
      have HT1 := Lib.hid (HT.out.keep HW.out)
      have HV1 := Lib.hid (HV.out.keep HW.out)
      have HT2 := Lib.hid (Blk.alloc HT1.out (.cells #[.int .i64 x.s, .int .i64 x.t, .int .i64 x.c, .int .i64 x.d, .int .u32 (vI x.a), .int .u32 (vI x.b), .int .u32 (vI x.e)] 39))
      have HV2 := Lib.hid (HV1.out.keep ((Below.refl _ wr).alloc (Nat.le_refl _) (.cells #[.int .i64 x.s, .int .i64 x.t, .int .i64 x.c, .int .i64 x.d, .int .u32 (vI x.a), .int .u32 (vI x.b), .int .u32 (vI x.e)] 39)))
      have HO2 : Hid (OwnE (wr.alloc (.cells #[.int .i64 x.s, .int .i64 x.t, .int .i64 x.c, .int .i64 0, .int .u32 (vI x.a), .int .u32 (vI x.b), .int .u32 (vI x.e)] 39)) w.heap.size v (sj vs L i)) := Lib.hid (HO.out.below ((Below.refl _ wr).alloc (Nat.le_refl _) _))
      clear hx hao hr hR
      cases hvis : vis vs x.d with
      | true =>
        have HVI := Lib.hid hvis
        clear hvis
        go_wp2_with (first
          | (go_at_call 48; refine (active_c (show TabB _ g _ _ _ _ _ from HT2.out) HV2.out x.d x.wf.2.2.2 hn).mono ?_; rintro e w1 ⟨rfl, rfl⟩; rw [HVI.out])
          | (go_at_call 46; refine (join_c (zero x) (by have := sj_len vs L i; omega) HO2.out (by have := HW.out.size; simp; omega)).mono ?_; rintro e w2 ⟨v2, rfl, k1, k2, k3⟩))
        refine ⟨⟨i + 1, v2, by omega, by go_num, rfl, Lib.hid ?_, Lib.hid ((HW.out.alloc HW.out.size _).grown k2 (by have := HW.out.size; simp; omega) (fun k e => (World.ownsRow.lt HO2.out k e).1))⟩, by simp [intOf]; omega⟩
        rw [sj_yes hltL (by rw [HX.out]; exact HVI.out), HX.out]
        exact k1
      | false =>
        have HVI := Lib.hid hvis
        clear hvis
        go_wp2_with (go_at_call 48; refine (active_c (show TabB _ g _ _ _ _ _ from HT2.out) HV2.out x.d x.wf.2.2.2 hn).mono ?_; rintro e w1 ⟨rfl, rfl⟩; rw [HVI.out])
        refine ⟨⟨i + 1, v, by omega, by go_num, rfl, Lib.hid ?_, Lib.hid (HW.out.alloc HW.out.size _)⟩, by simp [intOf]; omega⟩
        rw [sj_no hltL (by rw [HX.out]; exact HVI.out)]
        exact HO.out.below ((Below.refl _ wr).alloc (Nat.le_refl _) _)
    · obtain rfl : i = n := by omega
      go_wp2_with fail
      go_ret
      exact ⟨v, rfl, HO.out, HW.out⟩
end
end Go.Proofs.Ytomoldfgnbjliaa
