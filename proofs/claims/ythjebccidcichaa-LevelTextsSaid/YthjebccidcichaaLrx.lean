/- The reference's Text. -/
import Derived.Test.YthjebccidcichaaLrr
import Derived.Test.YthjebccidcichaaLro
namespace Go.Proofs.Ythjebccidcichaa
open Go.RowKit
set_option maxRecDepth 100000 in
set_option maxHeartbeats 8000000 in
theorem rtext_c (s : Int) (c : Nat) (s2 : Int) (c2 : Nat) (v u : Value) (l m : List ByteArray) (w : World) (h1 : c < U64) (h3 : c2 < U64) (hV : Strs w v l) (hU : Strs w u m) (hF : Few l) (hG : Few m) :
    Calls Try.prog 31 #[.agg #[.int .i64 s, .int .u64 c, .int .i64 s2, .int .u64 c2], v, u] w fun e w' => e = .returned (.tuple #[.string (txtX l m s c s2 c2), .int .i64 (srcE l m s c s2 c2)]) ∧ Below w.heap.size w w' := by
  have hB1 := Blk.new w 26 #[.int .i64 s, .int .u64 c, .int .i64 s2, .int .u64 c2]
  have hW : Kp w (w.alloc (.cells #[.int .i64 s, .int .u64 c, .int .i64 s2, .int .u64 c2] 26)) := Kp.rfl'.alloc _
  have hSO := rsource_c s c s2 c2 v u l m _ h1 h3 (hV.keep hW) (hU.keep hW) hF hG
  obtain ⟨T, hT⟩ : ∃ T, txtX l m s c s2 c2 = T := ⟨_, rfl⟩
  rw [hT]
  unfold txtX at hT
  obtain ⟨f1, f2⟩ : (srcLo l m s c s2 c2).1.size ≤ 1000000 ∧ FewS (srcLo l m s c s2 c2).2 := srcL_few fun h => (src_proper (of_decide_eq_true h)).1
  obtain ⟨f3, f4⟩ : (srcHi l m s c s2 c2).1.size ≤ 1000000 ∧ FewS (srcHi l m s c s2 c2).2 := srcL_few fun h => (src_proper (of_decide_eq_true h).1).1
  have hmis := srcHi_mis (l := l) (m := m) (s := s) (c := c) (s2 := s2) h3
  unfold SourceOut at hSO
  obtain ⟨E, h⟩ : ∃ E, srcE l m s c s2 c2 = E := ⟨_, rfl⟩
  rw [h] at hT hSO ⊢
  clear h
  obtain ⟨P1, h⟩ : ∃ P, srcLo l m s c s2 c2 = P := ⟨_, rfl⟩
  rw [h] at hT hSO f1 f2
  clear h
  obtain ⟨P2, h⟩ : ∃ P, srcHi l m s c s2 c2 = P := ⟨_, rfl⟩
  rw [h] at hT hSO f3 f4 hmis
  clear h h1 h3 hV hU hF hG
  obtain ⟨x1, L1⟩ := P1
  obtain ⟨x2, L2⟩ := P2
  simp only at hT hSO f1 f2 f3 f4 hmis
  have HT := Lib.hid hT
  have HSO := Lib.hid hSO
  have HMI := Lib.hid hmis
  have F2 := Lib.hid f2
  have F4 := Lib.hid f4
  clear hT hSO hmis f2 f4
  go_enter Try.func31, Try.ntmps31
  go_wp2_with fail
  refine HSO.out.mono ?_
  rintro e w2 ⟨v1, v2, rfl, hS1, hS2, hb2⟩
  have hC2 := Kp.step hW hb2
  obtain ⟨ao1, cap1, rfl, _⟩ := id hS1
  obtain ⟨ao2, cap2, rfl, _⟩ := id hS2
  have q3 := Blk.new w2 52 #[.string x1, .slice ao1 L1.length cap1, .string x2, .slice ao2 L2.length cap2]
  have hbb : Below w2.heap.size w2 (w2.alloc (.cells #[.string x1, .slice ao1 L1.length cap1, .string x2, .slice ao2 L2.length cap2] 52)) := (Below.refl _ _).alloc (Nat.le_refl _) _
  have hC3 := hC2.alloc (.cells #[.string x1, .slice ao1 L1.length cap1, .string x2, .slice ao2 L2.length cap2] 52)
  have hS3 := hS1.keep hbb
  have hS4 := hS2.keep hbb
  clear hB1 hW hb2 hS1 hS2 hC2 hbb HSO
  by_cases hE : E = 0
  · subst hE
    have hT := HT.out
    rw [if_pos rfl] at hT
    have HT2 := Lib.hid hT
    clear hT HT
    have hn1 := levR_len f1 F2.out
    have hn2 := levR_len f3 F4.out
    have hl1 := F2.out.1
    have hl2 := F4.out.1
    have he := empty_beq x2
    have HQ3 := Lib.hid q3
    have HL1 := Lib.hid (rlevelOf_c x1 _ L1 _ hS3 f1 F2.out)
    have HL2 := Lib.hid (fun W (hW : Below (w2.alloc (.cells #[.string x1, .slice ao1 L1.length cap1, .string x2, .slice ao2 L2.length cap2] 52)).heap.size (w2.alloc (.cells #[.string x1, .slice ao1 L1.length cap1, .string x2, .slice ao2 L2.length cap2] 52)) W) => rlevelOf_c x2 _ L2 W (hS4.keep hW) f3 F4.out)
    obtain ⟨TA, hTA⟩ : ∃ T, mk (levR (lvB x1 L1)) = T := ⟨_, rfl⟩
    obtain ⟨TB, hTB⟩ : ∃ T, mk (levR (lvB x2 L2)) = T := ⟨_, rfl⟩
    rw [hTA] at HL1 hn1
    rw [hTB] at HL2 hn2
    have hk1 : ¬ 9223372036854775807 < TA.size + 1 := by omega
    have hk2 : ¬ 9223372036854775807 < TA.size + 1 + TB.size := by omega
    have HT3 : Hid ((x2.size = 0 → TA = T) ∧ (x2.size ≠ 0 → TA ++ ⟨#[45]⟩ ++ TB = T)) := Lib.hid (by
      constructor
      · intro hz
        rw [← HT2.out, ← hTA]; unfold rngR
        rw [if_pos]
        · rw [List.append_nil]
        · exact List.eq_nil_of_length_eq_zero (by show x2.data.toList.length = 0; rw [← Go.Lib.size_eq]; exact hz)
      · intro hz
        rw [← HT2.out, ← hTA, ← hTB]; unfold rngR
        rw [if_neg (fun h => hz (by rw [Go.Lib.size_eq]; exact congrArg List.length h))]
        show mk _ ++ mk [45] ++ mk _ = _
        rw [mk_app, mk_app]
        simp)
    clear HMI HT2 hTA hTB hn1 hn2 hl1 hl2 hS3 hS4 q3
    go_wp2_with fail
    refine HL1.out.mono ?_
    rintro e w4 ⟨rfl, hb4⟩
    have hC4 := Kp.step hC3 hb4
    obtain ⟨y0, y1, y2, y3⟩ := (HQ3.out.keep hb4).box4
    have HL3 := Lib.hid (HL2.out w4 hb4)
    clear hb4 HL1 HL2
    by_cases hz : x2.size = 0
    · rw [decide_eq_true hz] at he
      have HT4 := Lib.hid (HT3.out.1 hz)
      clear hz HT3
      go_wp2_with fail
      go_ret2
      exact ⟨by rw [← HT4.out]; rfl, hC4⟩
    · rw [decide_eq_false hz] at he
      have HT4 := Lib.hid (HT3.out.2 hz)
      clear hz HT3
      go_wp2_with fail
      refine HL3.out.mono ?_
      rintro e w5 ⟨rfl, hb5⟩
      go_wp2_with fail
      go_ret2
      exact ⟨by rw [← HT4.out]; rfl, Kp.step hC4 hb5⟩
  · have hT := HT.out
    rw [if_neg hE] at hT
    subst hT
    have hEb : (E == 0) = false := by simpa using hE
    clear HT HMI q3 hS3 hS4
    go_wp2_with fail
    go_ret2
    exact ⟨rfl, hC3⟩
end Go.Proofs.Ythjebccidcichaa
