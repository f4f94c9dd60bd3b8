/- Text: a range as a text. -/
import Derived.Test.YthjebccidcichaaLvs
namespace Go.Proofs.Ythjebccidcichaa
open Go.RowKit
def txtX (l m : List ByteArray) (s : Int) (c : Nat) (s2 : Int) (c2 : Nat) : ByteArray :=
  if srcE l m s c s2 c2 = 0 then mk (rngR (lvB (srcLo l m s c s2 c2).1 (srcLo l m s c s2 c2).2, lvB (srcHi l m s c s2 c2).1 (srcHi l m s c s2 c2).2)) else ⟨#[]⟩
theorem nmAt_size {l : List ByteArray} {most : Int} (h : propL l most = true) (i : Nat) : (nmAt l i).size ≤ 32 := by
  rcases Nat.lt_or_ge i l.length with hi | hi
  · rw [nmAt_lt hi]; exact (okN_parts (propL_at h hi)).1
  · unfold nmAt
    rw [List.getD_eq_getElem?_getD, List.getElem?_eq_none hi]
    exact Nat.zero_le _
theorem proper_parts {l m : List ByteArray} (h : proper l m = true) : propL l 16 = true ∧ propL m 64 = true := by
  unfold proper at h
  rw [Bool.and_eq_true] at h
  exact h
theorem spansL_few {m : List ByteArray} {most : Int} (h : propL m most = true) (c : Nat) : FewS (spansL m c) := by
  refine ⟨by unfold spansL; rw [List.length_map]; have := runs_len c; omega, fun p hp => ?_⟩
  obtain ⟨x, _, rfl⟩ := List.mem_map.1 hp
  unfold spL
  refine ⟨by have := nmAt_size h x.1; simp only; omega, ?_⟩
  simp only
  split
  · exact Nat.zero_le _
  · have := nmAt_size h x.2; omega
theorem src_proper {l m : List ByteArray} {s : Int} {c : Nat} {s2 : Int} {c2 : Nat} (h : srcE l m s c s2 c2 = 0) : proper l m = true ∧ rngB s c s2 c2 l.length m.length = true := by
  unfold srcE at h
  cases hp : proper l m
  · rw [if_pos hp] at h; cases h
  · rw [if_neg (by rw [hp]; decide)] at h
    refine ⟨rfl, ?_⟩
    cases hr : rngB s c s2 c2 l.length m.length
    · rw [if_pos hr] at h; cases h
    · rfl
theorem srcL_few {l m : List ByteArray} {s : Int} {c : Nat} {k : Bool} (hp : k = true → proper l m = true) : (srcL l m s c k).1.size ≤ 1000000 ∧ FewS (srcL l m s c k).2 := by
  unfold srcL
  cases k
  · exact ⟨Nat.zero_le _, Nat.zero_le _, by simp⟩
  · obtain ⟨h1, h2⟩ := proper_parts (hp rfl)
    exact ⟨by have := nmAt_size h1 s.toNat; simp only [if_true]; omega, spansL_few h2 c⟩
theorem srcHi_mis {l m : List ByteArray} {s : Int} {c : Nat} {s2 : Int} {c2 : Nat} (h1 : c2 < U64) (hz : (srcHi l m s c s2 c2).1.size = 0) : (srcHi l m s c s2 c2).2 = [] := by
  unfold srcHi srcL at hz ⊢
  by_cases hk : decide (srcE l m s c s2 c2 = 0 ∧ ¬ (s2 = s ∧ c2 = c)) = true
  · rw [if_pos hk] at hz
    exfalso
    obtain ⟨hp, hr⟩ := src_proper (of_decide_eq_true hk).1
    obtain ⟨_, k2, _⟩ := rngB_parts hr
    obtain ⟨b1, b2, _⟩ := chkL_bits h1 k2
    have hi : s2.toNat < l.length := by omega
    simp only at hz
    rw [nmAt_lt hi] at hz
    have := nameS_size (okN_parts (propL_at (proper_parts hp).1 hi)).2.1
    omega
  · rw [if_neg hk]
theorem levR_len {n : ByteArray} {L : List Sp} (hn : n.size ≤ 1000000) (hL : FewS L) : (mk (levR (lvB n L))).size ≤ 1000000 + L.length * 3000000 := by
  have : ∀ i, i ≤ L.length → (levR (lvB n (L.take i))).length ≤ 1000000 + i * 3000000 := by
    intro i
    induction i with
    | zero => intro _; rw [List.take_zero]; unfold lvB; rw [List.map_nil, levR_nil, ← Go.Lib.size_eq]; omega
    | succ i ih =>
      intro hi
      rw [lv_step (by omega), List.length_append, List.length_cons]
      have h1 := spR_len L[i]
      have h2 := hL.2 _ (List.getElem_mem (by omega : i < L.length))
      have h3 := ih (by omega)
      omega
  have h := this L.length (Nat.le_refl _)
  rw [List.take_length] at h
  exact h
set_option maxRecDepth 100000 in
set_option maxHeartbeats 8000000 in
theorem ltext_c (s : Int) (c : Nat) (s2 : Int) (c2 : Nat) (v u : Value) (l m : List ByteArray) (w : World) (h1 : c < U64) (h3 : c2 < U64) (hV : Strs w v l) (hU : Strs w u m) (hF : Few l) (hG : Few m) :
    Calls Try.prog 30 #[.agg #[.int .i64 s, .int .u64 c, .int .i64 s2, .int .u64 c2], v, u] w fun e w' => e = .returned (.tuple #[.string (txtX l m s c s2 c2), .int .i64 (srcE l m s c s2 c2)]) ∧ Below w.heap.size w w' := by
  have hB1 := Blk.new w 26 #[.int .i64 s, .int .u64 c, .int .i64 s2, .int .u64 c2]
  have hW : Kp w (w.alloc (.cells #[.int .i64 s, .int .u64 c, .int .i64 s2, .int .u64 c2] 26)) := Kp.rfl'.alloc _
  have hSO := source_c s c s2 c2 v u l m _ h1 h3 (hV.keep hW) (hU.keep hW) hF hG
  obtain ⟨T, hT⟩ : ∃ T, txtX l m s c s2 c2 = T := ⟨_, rfl⟩
  rw [hT]
  unfold txtX at hT
  obtain ⟨f1, f2⟩ : (srcLo l m s c s2 c2).1.size ≤ 1000000 ∧ FewS (srcLo l m s c s2 c2).2 := srcL_few fun h => (src_proper (of_decide_eq_true h)).1
  obtain ⟨f3, f4⟩ : (srcHi l m s c s2 c2).1.size ≤ 1000000 ∧ FewS (srcHi l m s c s2 c2).2 := srcL_few fun h => (src_proper (of_decide_eq_true h).1).1
  have hmis := srcHi_mis (l := l) (m := m) (s := s) (c := c) (s2 := s2) h3
  unfold SourceOut at hSO
  obtain ⟨E, h⟩ : ∃ E, srcE l m s c s2 c2 = E := ⟨_, rfl⟩
  rw [h] at hT hSO ⊢
  clear h
  obtain ⟨P1, h⟩ : ∃ P, srcLo l m s c s2 c2 = P := ⟨_, rfl⟩
  rw [h] at hT hSO f1 f2
  clear h
  obtain ⟨P2, h⟩ : ∃ P, srcHi l m s c s2 c2 = P := ⟨_, rfl⟩
  rw [h] at hT hSO f3 f4 hmis
  clear h h1 h3 hV hU hF hG
  obtain ⟨x1, L1⟩ := P1
  obtain ⟨x2, L2⟩ := P2
  simp only at hT hSO f1 f2 f3 f4 hmis
  have HT := Lib.hid hT
  have HSO := Lib.hid hSO
  have HMI := Lib.hid hmis
  have F2 := Lib.hid f2
  have F4 := Lib.hid f4
  clear hT hSO hmis f2 f4
  go_enter Try.func30, Try.ntmps30
  go_wp2_with fail
  refine HSO.out.mono ?_
  rintro e w2 ⟨v1, v2, rfl, hS1, hS2, hb2⟩
  have hC2 := Kp.step hW hb2
  obtain ⟨ao1, cap1, rfl, _⟩ := id hS1
  obtain ⟨ao2, cap2, rfl, _⟩ := id hS2
  have q3 := Blk.new w2 52 #[.string x1, .slice ao1 L1.length cap1, .string x2, .slice ao2 L2.length cap2]
  have hbb : Below w2.heap.size w2 (w2.alloc (.cells #[.string x1, .slice ao1 L1.length cap1, .string x2, .slice ao2 L2.length cap2] 52)) := (Below.refl _ _).alloc (Nat.le_refl _) _
  have hC3 := hC2.alloc (.cells #[.string x1, .slice ao1 L1.length cap1, .string x2, .slice ao2 L2.length cap2] 52)
  have hS3 := hS1.keep hbb
  have hS4 := hS2.keep hbb
  clear hB1 hW hb2 hS1 hS2 hC2 hbb HSO
  by_cases hE : E = 0
  · subst hE
    have hT := HT.out
    rw [if_pos rfl] at hT
    have HT2 := Lib.hid hT
    clear hT HT
    by_cases hz : x2.size = 0
    · have hm0 : misS x2 L2.length = true := by unfold misS; rw [HMI.out hz]; exact decide_eq_true ⟨hz, rfl⟩
      have HM := Lib.hid (fun W => missing_c ao2 L2.length cap2 x2 W)
      rw [hm0] at HM
      have HT3 : Hid (mk (levR (lvB x1 L1)) = T) := Lib.hid (by
        rw [← HT2.out]; unfold rngR
        rw [if_pos]
        · rw [List.append_nil]
        · exact List.eq_nil_of_length_eq_zero (by show x2.data.toList.length = 0; rw [← Go.Lib.size_eq]; exact hz))
      have HQ3 := Lib.hid q3
      have HS3 := Lib.hid hS3
      clear hm0 hz HMI HT2 hS3 hS4 q3
      go_wp2_with fail
      refine (HM.out _).mono ?_
      rintro e w4 ⟨rfl, hb4⟩
      have hC4 := Kp.step hC3 hb4
      obtain ⟨y0, y1, y2, y3⟩ := (HQ3.out.keep hb4).box4
      have HLT := Lib.hid (levelText_c x1 _ L1 w4 (HS3.out.keep hb4) f1 F2.out)
      clear hb4
      go_wp2_with fail
      refine HLT.out.mono ?_
      rintro e w5 ⟨rfl, hb5⟩
      go_wp2_with fail
      go_ret2
      exact ⟨by rw [HT3.out]; rfl, Kp.step hC4 hb5⟩
    · have hm0 : misS x2 L2.length = false := by unfold misS; exact decide_eq_false fun h => hz h.1
      have HM := Lib.hid (fun W => missing_c ao2 L2.length cap2 x2 W)
      rw [hm0] at HM
      have HT3 : Hid (mk (levR (lvB x1 L1)) ++ ⟨#[45]⟩ ++ mk (levR (lvB x2 L2)) = T) := Lib.hid (by
        rw [← HT2.out]; unfold rngR
        rw [if_neg (fun h => hz (by rw [Go.Lib.size_eq]; exact congrArg List.length h))]
        show mk _ ++ mk [45] ++ mk _ = _
        rw [mk_app, mk_app]
        simp)
      have HQ3 := Lib.hid q3
      have HS3 := Lib.hid hS3
      have HS4 := Lib.hid hS4
      clear hm0 hz HMI HT2 hS3 hS4 q3
      go_wp2_with fail
      refine (HM.out _).mono ?_
      rintro e w4 ⟨rfl, hb4⟩
      have hC4 := Kp.step hC3 hb4
      have HQ4 := Lib.hid (HQ3.out.keep hb4)
      have HL1 := Lib.hid (fun W (hW : Kp w4 W) => levelText_c x1 _ L1 W ((HS3.out.keep hb4).keep hW) f1 F2.out)
      have HL2 := Lib.hid (fun W (hW : Kp w4 W) => levelText_c x2 _ L2 W ((HS4.out.keep hb4).keep hW) f3 F4.out)
      have hn1 := levR_len f1 F2.out
      have hn2 := levR_len f3 F4.out
      have hl1 := F2.out.1
      have hl2 := F4.out.1
      obtain ⟨TA, hTA⟩ : ∃ T, mk (levR (lvB x1 L1)) = T := ⟨_, rfl⟩
      obtain ⟨TB, hTB⟩ : ∃ T, mk (levR (lvB x2 L2)) = T := ⟨_, rfl⟩
      rw [hTA] at HL1 HT3 hn1
      rw [hTB] at HL2 HT3 hn2
      have hk1 : ¬ 9223372036854775807 < TA.size + 1 := by omega
      have hk2 : ¬ 9223372036854775807 < TA.size + 1 + TB.size := by omega
      clear hb4 hTA hTB hn1 hn2 hl1 hl2
      go_wp2_with fail
      refine wp_region_kp (by kernel_rfl) (by kernel_rfl) ?_
      repeat (first
        | go_big_quiet_skip
        | (go_big_quiet_want
           go_big_quiet_op
           first
             | go_big_quiet_on
             | (apply Exists.intro
                refine ⟨fun w1 hC => ?_, ?_⟩
                · first
                    | (go_at_call 44; with_reducible exact hC.call (HL1.out _ hC))
                    | (go_at_call 44; with_reducible exact hC.call (HL2.out _ hC))
                    | (obtain ⟨p0, p1, p2, p3⟩ := (hC.blk HQ4.out).box4; go_simp; exact rfl)
                    | (simp only [go_sem, hk1, hk2, if_false]; exact rfl)
                    | (go_simp; exact ⟨rfl, rfl⟩)
                go_big_quiet_on)))
      refine wpQuiet_nil ?_
      intro W' hC
      go_wp2_with fail
      go_ret2
      exact ⟨by rw [HT3.out]; rfl, hC4.trans (Below.mono hC hC4.size)⟩
  · have hT := HT.out
    rw [if_neg hE] at hT
    subst hT
    have hEb : (E == 0) = false := by simpa using hE
    clear HT HMI q3 hS3 hS4
    go_wp2_with fail
    go_ret2
    exact ⟨rfl, hC3⟩
end Go.Proofs.Ythjebccidcichaa
