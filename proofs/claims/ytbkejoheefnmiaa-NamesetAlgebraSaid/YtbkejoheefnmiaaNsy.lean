/- The names that a set lists: Names of the program. Condition: at most a million names, types, attributes and aliases. -/
import Derived.Test.YtbkejoheefnmiaaNsx
namespace Go.Proofs.Ytbkejoheefnmiaa
open Go.RowKit
attribute [local go_sem ↓] Go.wp_at_zero Go.wp_at_succ
set_option maxRecDepth 100000 in
set_option maxHeartbeats 8000000 in
theorem Names_c (x : S4) (vT : Value) (Ts : List TyE) (w : World) (hT : Tys w vT Ts) (hn3 : Ts.length ≤ 1000000) (hx : x.U) :
    Calls Try.prog 22 #[.agg #[.int .u64 x.a, .int .u64 x.b, .int .u64 x.c, .int .u64 x.d], vT] w (NamesOut x (Ts.map (·.1)) w) := by
  obtain ⟨i0, hinf, hz0, hz1, hz2⟩ := info_parts infoStr
  obtain ⟨ao, cap, rfl, hr⟩ := hT
  have hW : Kp w (((w.alloc (.cells #[.int .u64 x.a, .int .u64 x.b, .int .u64 x.c, .int .u64 x.d] 35)).alloc (.cells #[.bool false, .bool false, .bool false, .slice none 0 0, .slice none 0 0] 29)).alloc (.cells #[.bool false, .bool false, .bool false, .slice none 0 0, .slice none 0 0] 29)) := (((Below.refl _ _).alloc (Nat.le_refl _) _).alloc (by simp) _).alloc (by simp; omega) _
  have s1 : (w.alloc (.cells #[.int .u64 x.a, .int .u64 x.b, .int .u64 x.c, .int .u64 x.d] 35)).heap.size = w.heap.size + 1 := by simp
  have s2 : ((w.alloc (.cells #[.int .u64 x.a, .int .u64 x.b, .int .u64 x.c, .int .u64 x.d] 35)).alloc (.cells #[.bool false, .bool false, .bool false, .slice none 0 0, .slice none 0 0] 29)).heap.size = w.heap.size + 1 + 1 := by simp
  have hQ : Quad (((w.alloc (.cells #[.int .u64 x.a, .int .u64 x.b, .int .u64 x.c, .int .u64 x.d] 35)).alloc (.cells #[.bool false, .bool false, .bool false, .slice none 0 0, .slice none 0 0] 29)).alloc (.cells #[.bool false, .bool false, .bool false, .slice none 0 0, .slice none 0 0] 29)) w.heap.size x.a x.b x.c x.d := ((Quad.new w x.a x.b x.c x.d).alloc _).alloc _
  have hB4 : Blk (((w.alloc (.cells #[.int .u64 x.a, .int .u64 x.b, .int .u64 x.c, .int .u64 x.d] 35)).alloc (.cells #[.bool false, .bool false, .bool false, .slice none 0 0, .slice none 0 0] 29)).alloc (.cells #[.bool false, .bool false, .bool false, .slice none 0 0, .slice none 0 0] 29)) (w.heap.size + 1) 29 #[.bool false, .bool false, .bool false, .slice none 0 0, .slice none 0 0] := by
    rw [← s1]; exact (Blk.new (w.alloc (.cells #[.int .u64 x.a, .int .u64 x.b, .int .u64 x.c, .int .u64 x.d] 35)) _ _).alloc _
  have hB5 : Blk (((w.alloc (.cells #[.int .u64 x.a, .int .u64 x.b, .int .u64 x.c, .int .u64 x.d] 35)).alloc (.cells #[.bool false, .bool false, .bool false, .slice none 0 0, .slice none 0 0] 29)).alloc (.cells #[.bool false, .bool false, .bool false, .slice none 0 0, .slice none 0 0] 29)) (w.heap.size + 1 + 1) 29 #[.bool false, .bool false, .bool false, .slice none 0 0, .slice none 0 0] := by
    rw [← s2]; exact Blk.new ((w.alloc (.cells #[.int .u64 x.a, .int .u64 x.b, .int .u64 x.c, .int .u64 x.d] 35)).alloc (.cells #[.bool false, .bool false, .bool false, .slice none 0 0, .slice none 0 0] 29)) _ _
  clear s1 s2
  have HQ := Lib.hid hQ
  have HB4 := Lib.hid hB4
  have HB5 := Lib.hid hB5
  have HW := Lib.hid hW
  have hln : (Ts.map (·.1)).length = Ts.length := by simp
  have HLN := Lib.hid hln
  clear hW hQ hB4 hB5 hln
  have hEl : ∀ n ∈ elN x Ts.length, n < Ts.length := fun n h => (elN_lt hx h).1
  have hEm := elN_map hx (Ts.map (·.1))
  rw [show (Ts.map (·.1)).length = Ts.length by simp] at hEm
  have hEn := elN_len x Ts.length
  have hEe := elems_N x Ts.length
  obtain ⟨E, hE⟩ : ∃ E, elN x Ts.length = E := ⟨_, rfl⟩
  rw [hE] at hEl hEm hEn hEe
  obtain ⟨A, hA⟩ : ∃ A, allS Ts.length = A := ⟨_, rfl⟩
  have hAc := fun W => allS_c Ts.length W (by omega) (by omega)
  rw [hA] at hAc hEe
  have HAC := Lib.hid hAc
  have hUM := U_and x A
  obtain ⟨M, hM⟩ : ∃ M, x.and A = M := ⟨_, rfl⟩
  rw [hM] at hUM hEe
  have HMC : Hid (∀ W, Calls Try.prog 35 #[.agg #[.int .u64 (x).a, .int .u64 (x).b, .int .u64 (x).c, .int .u64 (x).d], .agg #[.int .u64 (A).a, .int .u64 (A).b, .int .u64 (A).c, .int .u64 (A).d]] W fun e w' => e = .returned (.agg #[.int .u64 (M).a, .int .u64 (M).b, .int .u64 (M).c, .int .u64 (M).d]) ∧ Below W.heap.size W w') := Lib.hid fun W => by
    rw [← hM]; exact meet_c x.a x.b x.c x.d A.a A.b A.c A.d W
  have HLC : Hid (∀ W, Calls Try.prog 44 #[.agg #[.int .u64 (M).a, .int .u64 (M).b, .int .u64 (M).c, .int .u64 (M).d]] W fun e w' => ∃ A cap, e = .returned (.slice A E.length cap) ∧ (∀ i (h : i < E.length), ∃ b off, A = some ⟨b, off, none⟩ ∧ w'.cell? ⟨b, off + i, none⟩ = some (.int .i64 (E[i] : Nat)) ∧ b < w'.heap.size ∧ W.heap.size ≤ b) ∧ Below W.heap.size W w') := Lib.hid fun W => by
    refine (list_c M.a M.b M.c M.d W hUM.a hUM.b hUM.c hUM.d).mono ?_
    rintro e w' ⟨v, ho, rfl, hb⟩
    rw [hEe] at ho
    have hlo := World.ownsRow.lt ho
    obtain ⟨A, cap, rfl, hi⟩ := Own.ints ho
    refine ⟨A, cap, by rw [List.length_map], fun i h => ?_, hb⟩
    obtain ⟨b, off, rfl, hc, hlt⟩ := hi i (by simpa using h)
    exact ⟨b, off, rfl, by rw [hc]; simp [h], hlt, (hlo b rfl).1⟩
  have HEL := Lib.hid hEl
  have HEM := Lib.hid hEm
  clear hE hA hM hEe hUM hAc hEl hEm
  have hl1 : (Ts.length : Int) ≤ 9223372036854775807 := by omega
  go_enter Try.func22, Try.ntmps22
  go_wp2_with fail
  generalize (((w.alloc (.cells #[.int .u64 x.a, .int .u64 x.b, .int .u64 x.c, .int .u64 x.d] 35)).alloc (.cells #[.bool false, .bool false, .bool false, .slice none 0 0, .slice none 0 0] 29)).alloc (.cells #[.bool false, .bool false, .bool false, .slice none 0 0, .slice none 0 0] 29)) = W at *
  have HSK : Hid (∀ w', Kp W w' → w'.cell? ⟨w.heap.size, 0, none⟩ = some (.int .u64 x.a) ∧ w'.cell? ⟨w.heap.size, 1, none⟩ = some (.int .u64 x.b) ∧ w'.cell? ⟨w.heap.size, 2, none⟩ = some (.int .u64 x.c) ∧ w'.cell? ⟨w.heap.size, 3, none⟩ = some (.int .u64 x.d)) := Lib.hid fun w' h => quad_box (Quad.keep HQ.out h)
  go_region_held3 (fun w' => w'.cell? ⟨w.heap.size, 0, none⟩ = some (.int .u64 x.a) ∧ w'.cell? ⟨w.heap.size, 1, none⟩ = some (.int .u64 x.b) ∧ w'.cell? ⟨w.heap.size, 2, none⟩ = some (.int .u64 x.c) ∧ w'.cell? ⟨w.heap.size, 3, none⟩ = some (.int .u64 x.d))
    ((refine HSK.out _ ?_; repeat (first | exact Kp.rfl' | assumption | refine Kp.drew ?_)))
    (first
      | (go_at_call 36; refine (HAC.out _).mono ?_; rintro e w3 ⟨rfl, hb3⟩; have hC3 : Kp W w3 := Kp.step (by repeat (first | exact Kp.rfl' | assumption | refine Kp.drew ?_)) hb3)
      | (go_at_call 35; refine (HMC.out _).mono ?_; rintro e w4 ⟨rfl, hb4⟩; have hC4 : Kp W w4 := Kp.step (by assumption) hb4)
      | (go_at_call 44; refine (HLC.out _).mono ?_; rintro e w5 ⟨A5, cap5, rfl, hI5, hb5⟩; have HI5 := Lib.hid hI5; clear hI5; have hC5 : Kp W w5 := Kp.step (by assumption) hb5))
  have HI : Hid (∀ i (h : i < E.length), ∃ b off, A5 = some ⟨b, off, none⟩ ∧ w5.cell? ⟨b, off + i, none⟩ = some (.int .i64 (E[i] : Nat)) ∧ b < w5.heap.size ∧ W.heap.size ≤ b) := Lib.hid fun i h => by
    obtain ⟨b, off, e, hc, hlt, hge⟩ := HI5.out i h
    exact ⟨b, off, e, hc, hlt, Nat.le_trans hC4.size hge⟩
  have HC5 := Lib.hid hC5
  have HB4c := Lib.hid (hC5.blk HB4.out)
  have HB5c := Lib.hid (hC5.blk HB5.out)
  have HWc := Lib.hid (Kp.step HW.out hC5)
  have h5W := HB5.out.lt
  have H5W := Lib.hid h5W
  clear HI5 hC3 hC4 hC5 hb3 hb4 hb5 HSK HAC HMC HLC h5W
  go_wp2_with fail
  go_loopw [15] (fun vi wr => ∃ (i : Nat) (v : Value), i ≤ E.length ∧ vi = .int .i64 i ∧ Hid (Kb (w.heap.size + 1 + 1) w5 wr) ∧ Hid (Blk wr (w.heap.size + 1 + 1) 29 #[.bool false, .bool false, .bool false, v, .slice none 0 0]) ∧ Hid (OwnS wr w5.heap.size v ((E.take i).filterMap (fun n => (Ts.map (·.1))[n]?)))) (fun vi _ => E.length - (intOf vi).toNat)
  case atStart => exact ⟨0, _, Nat.zero_le _, rfl, Lib.hid Kb.rfl', HB5c, Lib.hid OwnS.nil⟩
  case round =>
    obtain ⟨i, v, hi, rfl, HK, HB, HO⟩ := hrel
    have HKw : Hid (Kp w wr) := Lib.hid ((But.mono HK.out HWc.out.size |> But.trans (But.of_below HWc.out)).to_below (by omega))
    by_cases hlt0 : i < E.length
    · have hlt0' : (i : Int) < (E.length : Int) := by omega
      obtain ⟨b, off, rfl, hcb, hb5, hbW⟩ := HI.out i hlt0
      have hkb := (HK.out.cell (o := off + i) hb5 (by have := H5W.out; omega)).trans hcb
      have hlt := HEL.out E[i] (List.getElem_mem hlt0)
      have hXE : (E.take (i + 1)).filterMap (fun n => (Ts.map (·.1))[n]?) = (E.take i).filterMap (fun n => (Ts.map (·.1))[n]?) ++ [Ts[E[i]].1] := by
        rw [List.take_succ_eq_append_getElem hlt0, List.filterMap_append]
        congr 1
        simp [hlt]
      obtain ⟨g, o, rfl, hg, hq⟩ := hr (by rintro rfl; simp at hlt)
      obtain ⟨q00, -⟩ := hq E[i] hlt
      have hTl : ((E.take i).filterMap (fun n => (Ts.map (·.1))[n]?)).length ≤ i := by
        have := List.length_filterMap_le (fun n => (Ts.map (·.1))[n]?) (E.take i)
        rw [List.length_take] at this
        omega
      obtain ⟨s, hs⟩ : ∃ s, Ts[E[i]].1 = s := ⟨_, rfl⟩
      rw [hs] at q00 hXE
      obtain ⟨k, hk⟩ : ∃ k, E[i] = k := ⟨_, rfl⟩
      rw [hk] at hkb q00
      have hltk : k < Ts.length := by omega
      have hltk' : (k : Int) < (Ts.length : Int) := by omega
      have hk0 : (0 : Int) ≤ (k : Int) := by omega
      have q0 := (World.cell?_of_block (HKw.out.block g hg)).trans q00
      obtain ⟨T, hT⟩ : ∃ T, (E.take i).filterMap (fun n => (Ts.map (·.1))[n]?) = T := ⟨_, rfl⟩
      rw [hT] at HO hTl hXE
      have hA1 : T.length + 1 ≤ maxLen := by unfold maxLen; omega
      have hA2 : (T.length + 1) * 16 ≤ 140737488355328 := by omega
      have HAA := Lib.hid hA1
      have HX := Lib.hid hXE
      obtain ⟨aoT, capT, rfl⟩ := HO.out.isSl
      obtain ⟨b0, b1, b2, b3, b4⟩ := HB.out.five
      obtain ⟨bb0, bb1, bb2, bb3, bb4⟩ := (HB.out.alloc (.cells #[.string s] 9)).five
      have hA3 : w5.heap.size ≤ ((wr.alloc (.cells #[.string s] 9)).drew).heap.size := by
        have := HK.out.size; show w5.heap.size ≤ (wr.alloc (.cells #[.string s] 9)).heap.size; simp; omega
      have HA3 := Lib.hid hA3
      clear hT hTl hXE hs hq hg hA1 hk hlt q00 hcb hA3 hb5 hbW
      go_wp2_with fail
      have hA3 := HA3.out
      have hA1 := HAA.out
      go_region_law ((refine step_append_lies _ (by rfl) _ _ _ (by rfl) w5.heap.size 9 i0 _ 1 16 Try.underlying27 hinf hz0 hz1 hz2 rfl (by omega) (.slice aoT T.length capT) T.length (T.map Value.string) (by rfl) (World.ownsRow.drew (HO.out.alloc _)) ⟨wr.heap.size, 0, none⟩ 1 1 [.string s] (by rfl) (by rfl) (World.news_of_block (cs := #[.string s]) (t := 9) (fr := (0, 0)) (heap_alloc_new wr _)) (by simp [Value.oneCell']) (by omega) hA1 hA2 hA3 (wr.heap.size + 1) (by simp) ?_; intro gg cap3 w3 hown3 hgrow3 hat3 hlt3; have hB3 := Blk.grown (w := (wr.alloc (.cells #[.string s] 9)).drew) (HB.out.alloc _) hgrow3 (fun e => absurd (HO.out.lt _ e).1 (by have := HB5c.out.lt; omega)); obtain ⟨k0, k1, k2, k3, k4⟩ := hB3.five; have kf := hB3.frozen 3))
      all_goals
        have hlo := HO.out.lt
        have R3 : OwnS w3 w5.heap.size (.slice (some ⟨gg, 0, none⟩) (T.length + 1) cap3) (T ++ [s]) := by
          unfold OwnS
          simpa using hown3
        have hgg := (R3.lt gg rfl).1
        have h5 := HB5c.out.lt
        have B3 : Below w5.heap.size ((wr.alloc (.cells #[.string s] 9)).drew) w3 := (Below.refl _ _).grown hgrow3 hA3 (fun k e => (hlo _ e).1)
        have HK3 : Hid (Kb (w.heap.size + 1 + 1) w5 (w3.setCell ⟨w.heap.size + 1 + 1, 3, none⟩ (.slice (some ⟨gg, 0, none⟩) (T.length + 1) cap3))) := Lib.hid (Kb.set (But.below ((HK.out.alloc (.cells #[.string s] 9)).drew) B3) 3 _)
        have HR := Lib.hid (R3.set (g := w.heap.size + 1 + 1) (by simp [Value.ownBlock]; omega) 3 (.slice (some ⟨gg, 0, none⟩) (T.length + 1) cap3))
        have HB3 : Hid (Blk (w3.setCell ⟨w.heap.size + 1 + 1, 3, none⟩ (.slice (some ⟨gg, 0, none⟩) (T.length + 1) cap3)) (w.heap.size + 1 + 1) 29 #[.bool false, .bool false, .bool false, .slice (some ⟨gg, 0, none⟩) (T.length + 1) cap3, .slice none 0 0]) := Lib.hid (by simpa using hB3.set 3 (.slice (some ⟨gg, 0, none⟩) (T.length + 1) cap3))
        clear hlo hgg h5 B3 R3 hown3 hgrow3 hB3 k0 k1 k2 k3 k4 kf bb0 bb1 bb2 bb3 bb4 b0 b1 b2 b3 b4 q0 hkb hA3 hA1 hA2 hat3 hlt3
        go_wp2_with fail
        go_roundw
        case rel => exact ⟨i + 1, _, by omega, by go_num, HK3, HB3, Lib.hid (by rw [HX.out]; exact HR.out)⟩
        case measure => simp [intOf]; omega
    · obtain rfl : i = E.length := by omega
      have HO' : Hid (OwnS wr w5.heap.size v (nmL x (Ts.map (·.1)) (Ts.map (·.1)).length)) := Lib.hid (by have := HO.out; rw [List.take_length, HEM.out] at this; rwa [HLN.out])
      obtain ⟨b0, b1, b2, b3, b4⟩ := HB.out.five
      have HB4r := Lib.hid (HK.out.blk HB4c.out (by omega))
      obtain ⟨d0, d1, d2, d3, d4⟩ := (show Blk wr (w.heap.size + 1) 29 #[.bool false, .bool false, .bool false, .slice none 0 0, .slice none 0 0] from HB4r.out).five
      have f0 := HB4r.out.frozen 0
      have f1 := HB4r.out.frozen 1
      have f2 := HB4r.out.frozen 2
      have f3 := HB4r.out.frozen 3
      have f4 := HB4r.out.frozen 4
      obtain ⟨aoT, capT, rfl⟩ := HO'.out.isSl
      have HB0 := Lib.hid (below_set5 HKw.out (g := w.heap.size + 1) (by omega) (.bool false) (.bool false) (.bool false) (.slice aoT (nmL x (Ts.map (·.1)) (Ts.map (·.1)).length).length capT) (.slice none 0 0))
      have h5 := HB5c.out.lt
      have HO5 := Lib.hid (OwnS.mono (OwnS.set5 (g := w.heap.size + 1) HO'.out (fun e => absurd (HO'.out.lt _ e).1 (by omega)) (.bool false) (.bool false) (.bool false) (.slice aoT (nmL x (Ts.map (·.1)) (Ts.map (·.1)).length).length capT) (.slice none 0 0)) HWc.out.size)
      have HR5 := Lib.hid (Blk.set5 HB4r.out (.bool false) (.bool false) (.bool false) (.slice aoT (nmL x (Ts.map (·.1)) (Ts.map (·.1)).length).length capT) (.slice none 0 0))
      obtain ⟨n0, hn0⟩ : ∃ T, (nmL x (Ts.map (·.1)) (Ts.map (·.1)).length).length = T := ⟨_, rfl⟩
      rw [hn0] at HB0 HO5 HR5 b3
      clear hn0 h5 HO HI HO' HB
      go_wp2_with fail
      obtain ⟨r0, r1, r2, r3, r4⟩ := HR5.out.five
      exact bodyPost_ret (v := .agg #[.bool false, .bool false, .bool false, .slice aoT n0 capT, .slice none 0 0]) (by simp [results, Try.results22, go_sem, r0, r1, r2, r3, r4]) rfl ⟨_, rfl, HO5.out, HB0.out⟩
end Go.Proofs.Ytbkejoheefnmiaa
