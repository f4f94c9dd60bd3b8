/- Seal and Open, on both sides. -/
import Derived.Test.YtohmlmbolilbbaaOpq
namespace Go.Proofs.Ytohmlmbolilbbaa
open Go.RowKit
def sealL (l : List Int) : List Int := l ++ sumB (sumL l)
theorem sealL_all {l : List Int} (h : AllB l) : AllB (sealL l) := h.app (sumB_all (sumL_bd l).1 (sumL_bd l).2)
theorem sealL_len (l : List Int) : (sealL l).length = l.length + 4 := by simp [sealL, sumB]
def openL (l : List Int) : Int × List Int :=
  if l.length < 4 then (5, []) else if l.drop (l.length - 4) = sumB (sumL (l.take (l.length - 4))) then (0, l.take (l.length - 4)) else (7, [])
theorem open_seal (l : List Int) : openL (sealL l) = (0, l) := by
  unfold openL
  rw [sealL_len]
  have e1 : (sealL l).take (l.length + 4 - 4) = l := by rw [Nat.add_sub_cancel]; unfold sealL; exact List.take_left
  have e2 : (sealL l).drop (l.length + 4 - 4) = sumB (sumL l) := by rw [Nat.add_sub_cancel]; unfold sealL; exact List.drop_left
  rw [if_neg (by omega), e1, e2, if_pos rfl]
set_option maxRecDepth 100000 in
set_option maxHeartbeats 1000000 in
theorem seal_c (v : Value) (l : List Int) (w : World) (hB : Byts w v l) (hlen : l.length ≤ 900000000) :
    Calls Try.prog 31 #[v] w fun e w' => ∃ v', e = .returned v' ∧ OwnB w' w.heap.size v' (sealL l) ∧ Below w.heap.size w w' := by
  have hS := sum_c v l w hB (by omega)
  have hbd := sumL_bd l
  unfold sealL
  generalize sumL l = H at hS hbd ⊢
  have hE := encodeSum_c H w hbd.1 hbd.2
  have hall := sumB_all hbd.1 hbd.2
  go_enter Try.func31, Try.ntmps31
  go_wp2_with (first
    | (go_at_call 32; refine hS.mono ?_; rintro e w1 ⟨rfl, rfl⟩)
    | (go_at_call 45; refine hE.mono ?_; rintro e w2 ⟨v2, rfl, ho2, hb2⟩; obtain ⟨a2, n2, c2, rfl⟩ := ho2.isSliceN))
  have hJ := join_c v (.slice (some ⟨w2.heap.size, 0, none⟩) 1 1) l [sumB H] (w2.alloc (.cells #[.slice a2 n2 c2] 22)) ((hB.keep hb2).alloc _) (pcs1 ((ho2.byts hall).alloc _) (Blk.new _ _ _)) (by simp [sumB]; omega) (by simp)
  clear hE hS
  go_wp2_with (go_at_call 38; refine hJ.mono ?_; rintro e w3 ⟨v3, rfl, hB3, ho3, hb3⟩)
  go_ret
  refine ⟨v3, rfl, ?_, hb2.trans (((Below.refl _ _).alloc hb2.size _).trans (hb3.mono (by simp; have := hb2.size; omega)))⟩
  have := ho3 (by simp [sumB])
  simp only [List.flatten_cons, List.flatten_nil, List.append_nil] at this
  exact this.mono (by simp; have := hb2.size; omega)
theorem byts_of {w : World} {g : Nat} {q : List Int} (ha : AllB q) (hB : Blk w g 5 (q.map (Value.int .u8)).toArray) : Byts w (.slice (some ⟨g, 0, none⟩) q.length q.length) q := by
  refine ⟨ha, _, q.length, rfl, Nat.le_refl _, (fun h => by cases h), fun _ => ⟨g, 0, rfl, fun k hk => ?_⟩⟩
  rw [Nat.zero_add, hB.cell]
  simp [hk]
set_option maxRecDepth 100000 in
set_option maxHeartbeats 1000000 in
theorem rSeal_c (v : Value) (l : List Int) (w : World) (hB : Byts w v l) (hlen : l.length ≤ 300000000) :
    Calls Try.prog 34 #[v] w fun e w' => ∃ v', e = .returned v' ∧ OwnB w' w.heap.size v' (sealL l) ∧ Below w.heap.size w w' := by
  have hS := rSum_c v l w hB (by omega)
  have hbd := sumL_bd l
  unfold sealL
  generalize sumL l = H at hS hbd ⊢
  have hall := sumB_all hbd.1 hbd.2
  go_enter Try.func34, Try.ntmps34
  go_wp2_with (go_at_call 33; refine hS.mono ?_; rintro e w1 ⟨rfl, rfl⟩)
  have hG := glue_c v _ l (sumB H) _ (hB.alloc _) (byts_of hall (Blk.new w1 5 _)) (by omega) (by simp [sumB])
  refine hG.mono ?_
  rintro e w3 ⟨v3, rfl, ho3, hb3⟩
  go_wp2_with fail
  go_ret
  exact ⟨v3, rfl, ho3.mono (by simp), ((Below.refl _ _).alloc (Nat.le_refl _) _).trans (hb3.mono (by simp))⟩
set_option maxRecDepth 100000 in
set_option maxHeartbeats 2000000 in
theorem open_c (v : Value) (l : List Int) (w : World) (hB : Byts w v l) (hlen : l.length ≤ 900000000) :
    Calls Try.prog 29 #[v] w fun e w' => ∃ vr, e = .returned (.tuple #[vr, .int .i64 (openL l).1]) ∧ Byts w' vr (openL l).2 ∧ Below w.heap.size w w' := by
  have HB := Lib.hid hB
  obtain ⟨al, ao, cap, rfl, hcap, _, _⟩ := hB
  obtain ⟨D, hD⟩ : ∃ D, openL l = D := ⟨_, rfl⟩
  rw [hD]
  obtain ⟨E, R⟩ := D
  unfold openL at hD
  by_cases h4 : l.length < 4
  · rw [if_pos h4] at hD
    cases hD
    have h4' : (l.length : Int) - 4 < 0 := by omega
    go_enter Try.func29, Try.ntmps29
    go_wp2_with fail
    exact bodyPost_ret (v := .tuple #[.slice none 0 0, .int .i64 5]) (by simp [results, Try.results29, go_sem]) rfl ⟨_, rfl, Byts.nil, Below.refl _ _⟩
  · rw [if_neg h4] at hD
    obtain ⟨m, hm⟩ : ∃ m, l.length = m + 4 := ⟨l.length - 4, by omega⟩
    rw [show l.length - 4 = m by omega] at hD
    have hS := fun w1 (hb : Below w.heap.size w w1) => sum_c (.slice ao m cap) (l.take m) w1 ((HB.out.take (by omega)).keep hb) (by rw [List.length_take]; omega)
    have hbd := sumL_bd (l.take m)
    generalize sumL (l.take m) = H at hS hbd hD
    have hE := fun w => encodeSum_c H w hbd.1 hbd.2
    have hall := sumB_all hbd.1 hbd.2
    have hcm : ¬ cap = m := by omega
    have HBd : Hid (Byts w (.slice (ao.map (·.add m)) 4 (cap - m)) (l.drop m)) := by
      have h := HB.out.from (a := m) (by omega)
      rw [if_neg hcm, Nat.mul_one, hm, show m + 4 - m = 4 by omega] at h
      exact Lib.hid h
    have HBt : Hid (Byts w (.slice ao m cap) (l.take m)) := Lib.hid (HB.out.take (by omega))
    by_cases hq : l.drop m = sumB H
    · rw [if_pos hq] at hD
      have HQ : Hid (sameI (l.drop m) (sumB H) = true) := Lib.hid (by rw [hq]; exact sameI_self _)
      cases hD
      clear hq
      go_enter Try.func29, Try.ntmps29
      rw [hm]
      go_wp2_with fail
      go_region_with (first
        | (go_at_call 32; refine (hS _ (by first | exact Below.refl _ _ | exact (Below.refl _ _).drew)).mono ?_; rintro e w1 ⟨rfl, rfl⟩)
        | (go_at_call 45; refine (hE _).mono ?_; rintro e w2 ⟨v2, rfl, ho2, hb2⟩; obtain ⟨a2, n2, c2, rfl⟩ := ho2.isSliceN)
        | (go_at_call 44; refine (eqSl_c _ _ (l.drop m) (sumB H) _ ((HBd.out.keep (Below.refl _ _).drew).keep hb2) (ho2.byts hall) (by rw [List.length_drop]; omega) (by simp [sumB])).mono ?_; rintro e w3 ⟨rfl, hb3⟩; rw [HQ.out]))
      all_goals
        have hb4 : Below w.heap.size w w3 := ((Below.refl _ _).drew.trans hb2).trans (hb3.mono hb2.size)
        have hJ := join_c (.slice none 0 0) (.slice (some ⟨w3.heap.size, 0, none⟩) 1 1) [] [l.take m] (w3.alloc (.cells #[.slice ao m cap] 22)) Byts.nil (pcs1 ((HBt.out.keep hb4).alloc _) (Blk.new _ _ _)) (by simp; omega) (by simp)
        go_wp2_with (go_at_call 38; refine hJ.mono ?_; rintro e w5 ⟨v5, rfl, hB5, ho5, hb5⟩)
        simp only [List.nil_append, List.flatten_cons, List.flatten_nil, List.append_nil] at hB5
        exact bodyPost_ret (v := .tuple #[v5, .int .i64 0]) (by simp [results, Try.results29, go_sem]) rfl ⟨_, rfl, hB5, hb4.trans (((Below.refl _ _).alloc hb4.size _).trans (hb5.mono (by simp; have := hb4.size; omega)))⟩
    · rw [if_neg hq] at hD
      have HQ : Hid (sameI (l.drop m) (sumB H) = false) := Lib.hid (decide_eq_false hq)
      cases hD
      clear hq
      go_enter Try.func29, Try.ntmps29
      rw [hm]
      go_wp2_with fail
      go_region_with (first
        | (go_at_call 32; refine (hS _ (by first | exact Below.refl _ _ | exact (Below.refl _ _).drew)).mono ?_; rintro e w1 ⟨rfl, rfl⟩)
        | (go_at_call 45; refine (hE _).mono ?_; rintro e w2 ⟨v2, rfl, ho2, hb2⟩; obtain ⟨a2, n2, c2, rfl⟩ := ho2.isSliceN)
        | (go_at_call 44; refine (eqSl_c _ _ (l.drop m) (sumB H) _ ((HBd.out.keep (Below.refl _ _).drew).keep hb2) (ho2.byts hall) (by rw [List.length_drop]; omega) (by simp [sumB])).mono ?_; rintro e w3 ⟨rfl, hb3⟩; rw [HQ.out]))
      all_goals
        have hb4 : Below w.heap.size w w3 := ((Below.refl _ _).drew.trans hb2).trans (hb3.mono hb2.size)
        go_wp2_with fail
        exact bodyPost_ret (v := .tuple #[.slice none 0 0, .int .i64 7]) (by simp [results, Try.results29, go_sem]) rfl ⟨_, rfl, Byts.nil, hb4⟩
set_option maxRecDepth 100000 in
set_option maxHeartbeats 2000000 in
theorem rOpen_c (v : Value) (l : List Int) (w : World) (hB : Byts w v l) (hlen : l.length ≤ 200000000) :
    Calls Try.prog 30 #[v] w fun e w' => ∃ vr, e = .returned (.tuple #[vr, .int .i64 (openL l).1]) ∧ Byts w' vr (openL l).2 ∧ Below w.heap.size w w' := by
  have HB := Lib.hid hB
  obtain ⟨al, ao, cap, rfl, hcap, _, _⟩ := hB
  obtain ⟨D, hD⟩ : ∃ D, openL l = D := ⟨_, rfl⟩
  rw [hD]
  obtain ⟨E, R⟩ := D
  unfold openL at hD
  by_cases h4 : l.length < 4
  · rw [if_pos h4] at hD
    cases hD
    have h4' : (l.length : Int) < 4 := by omega
    go_enter Try.func30, Try.ntmps30
    go_wp2_with fail
    exact bodyPost_ret (v := .tuple #[.slice none 0 0, .int .i64 5]) (by simp [results, Try.results30, go_sem]) rfl ⟨_, rfl, Byts.nil, Below.refl _ _⟩
  · rw [if_neg h4] at hD
    obtain ⟨m, hm⟩ : ∃ m, l.length = m + 4 := ⟨l.length - 4, by omega⟩
    rw [show l.length - 4 = m by omega] at hD
    have HBt : Hid (Byts w (.slice ao m cap) (l.take m)) := Lib.hid (HB.out.take (by omega))
    have HS := Lib.hid (rSeal_c (.slice ao m cap) (l.take m) w HBt.out (by rw [List.length_take]; omega))
    have HBl : Hid (Byts w (.slice ao (m + 4) cap) l) := by have h := HB.out; rw [hm] at h; exact Lib.hid h
    have hal2 := sealL_all (al.take m)
    have hll : (sealL (l.take m)).length ≤ 1000000000000 := by rw [sealL_len, List.length_take]; omega
    have hiff : sameI (sealL (l.take m)) l = decide (l.drop m = sumB (sumL (l.take m))) := by
      unfold sameI sealL
      congr 1
      apply propext
      constructor
      · intro h
        have := congrArg (List.drop m) h
        rw [List.drop_append_of_le_length (by rw [List.length_take]; omega), List.drop_of_length_le (by rw [List.length_take]; omega), List.nil_append] at this
        exact this.symm
      · intro h
        rw [← h]
        exact List.take_append_drop m l
    have h4' : ¬ (l.length : Int) < 4 := by omega
    by_cases hq : l.drop m = sumB (sumL (l.take m))
    · rw [if_pos hq] at hD
      have HQ : Hid (sameI (sealL (l.take m)) l = true) := Lib.hid (by rw [hiff]; exact decide_eq_true hq)
      cases hD
      clear hq hiff
      go_enter Try.func30, Try.ntmps30
      rw [hm]
      go_wp2_with (first
        | (go_at_call 34; refine HS.out.mono ?_; rintro e w2 ⟨v2, rfl, ho2, hb2⟩; obtain ⟨a2, n2, c2, rfl⟩ := ho2.isSliceN)
        | (go_at_call 16; refine (same_c _ _ (sealL (l.take m)) l _ (ho2.byts hal2) (HBl.out.keep hb2) hll (by omega)).mono ?_; rintro e w3 ⟨rfl, hb3⟩; rw [HQ.out]))
      have hb4 : Below w.heap.size w w3 := hb2.trans (hb3.mono hb2.size)
      exact bodyPost_ret (v := .tuple #[.slice ao m cap, .int .i64 0]) (by simp [results, Try.results30, go_sem]) rfl ⟨_, rfl, HBt.out.keep hb4, hb4⟩
    · rw [if_neg hq] at hD
      have HQ : Hid (sameI (sealL (l.take m)) l = false) := Lib.hid (by rw [hiff]; exact decide_eq_false hq)
      cases hD
      clear hq hiff
      go_enter Try.func30, Try.ntmps30
      rw [hm]
      go_wp2_with (first
        | (go_at_call 34; refine HS.out.mono ?_; rintro e w2 ⟨v2, rfl, ho2, hb2⟩; obtain ⟨a2, n2, c2, rfl⟩ := ho2.isSliceN)
        | (go_at_call 16; refine (same_c _ _ (sealL (l.take m)) l _ (ho2.byts hal2) (HBl.out.keep hb2) hll (by omega)).mono ?_; rintro e w3 ⟨rfl, hb3⟩; rw [HQ.out]))
      have hb4 : Below w.heap.size w w3 := hb2.trans (hb3.mono hb2.size)
      exact bodyPost_ret (v := .tuple #[.slice none 0 0, .int .i64 7]) (by simp [results, Try.results30, go_sem]) rfl ⟨_, rfl, Byts.nil, hb4⟩
end Go.Proofs.Ytohmlmbolilbbaa
