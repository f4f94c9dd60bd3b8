/- The law LevelRoundTrip, walked. -/
import Derived.Test.YthjebccidcichaaLvy
import Derived.Test.YthjebccidcichaaLfw
import Derived.Test.YthjebccidcichaaLrt
namespace Go.Proofs.Ythjebccidcichaa
open Go.RowKit
theorem empty_l : (ByteArray.toList ⟨#[]⟩ == ([] : List UInt8)) = true := by rw [ByteArray.toList_eq]; rfl
set_option maxRecDepth 100000 in
set_option maxHeartbeats 16000000 in
theorem lround_c (s : Int) (c : Nat) (s2 : Int) (c2 : Nat) (v u : Value) (l m : List ByteArray) (w : World) (h1 : c < U64) (h3 : c2 < U64) (hV : Strs w v l) (hU : Strs w u m) (hl : l.length ≤ maxLen) (hm : m.length ≤ maxLen) :
    Calls Try.prog 11 #[.agg #[.int .i64 s, .int .u64 (c : Int), .int .i64 s2, .int .u64 (c2 : Int)], .agg #[v, u]] w fun e w' => e = .returned (.bool true) ∧ Below w.heap.size w w' := by
  obtain ⟨ao, cap, rfl, _⟩ := id hV
  obtain ⟨ao2, cap2, rfl, _⟩ := id hU
  obtain ⟨hB1, hB2, hW, hz⟩ := two_box w 26 39 #[.int .i64 s, .int .u64 (c : Int), .int .i64 s2, .int .u64 (c2 : Int)] #[.slice ao l.length cap, .slice ao2 m.length cap2]
  have HF := Lib.hid (fun W (hW : Kp w W) => few_c _ _ l m W (hV.keep hW) (hU.keep hW) hl hm)
  have HA := Lib.hid awake_c
  have HT : Hid (∀ W, Kp w W → FewN l ∧ FewN m → Calls Try.prog 30 #[.agg #[.int .i64 s, .int .u64 (c : Int), .int .i64 s2, .int .u64 (c2 : Int)], .slice ao l.length cap, .slice ao2 m.length cap2] W fun e w' => e = .returned (.tuple #[.string (txtX l m s c s2 c2), .int .i64 (srcE l m s c s2 c2)]) ∧ Below W.heap.size W w') := Lib.hid fun W hW hf => ltext_c s c s2 c2 _ _ l m W h1 h3 (hV.keep hW) (hU.keep hW) hf.1.few hf.2.few
  have HS : Hid (∀ W, Kp w W → FewN l ∧ FewN m → Calls Try.prog 39 #[.agg #[.int .i64 s, .int .u64 (c : Int), .int .i64 s2, .int .u64 (c2 : Int)], .slice ao l.length cap, .slice ao2 m.length cap2] W (SourceOut l m s c s2 c2 W)) := Lib.hid fun W hW hf => source_c s c s2 c2 _ _ l m W h1 h3 (hV.keep hW) (hU.keep hW) hf.1.few hf.2.few
  have HP : Hid (∀ W, Kp w W → FewN l ∧ FewN m → srcE l m s c s2 c2 = 0 → Calls Try.prog 32 #[.string (txtX l m s c s2 c2), .slice ao l.length cap, .slice ao2 m.length cap2] W fun e w' => e = .returned (.tuple #[.agg #[.int .i64 s, .int .u64 (c : Int), .int .i64 s2, .int .u64 (c2 : Int)], .int .i64 0]) ∧ Below W.heap.size W w') := Lib.hid fun W hW hf hE => by
    have := parse_c (rngR (lvB (srcLo l m s c s2 c2).1 (srcLo l m s c s2 c2).2, lvB (srcHi l m s c s2 c2).1 (srcHi l m s c s2 c2).2)) _ _ l m W txt_len (hV.keep hW) (hU.keep hW) hf.1.few hf.2.few
    rw [parse_back h1 h3 hE] at this
    unfold txtX
    rw [if_pos hE]
    exact this
  have HR : Hid (∀ W v1 v2, Kp w W → FewN l ∧ FewN m → srcE l m s c s2 c2 = 0 → Spans W v1 (srcLo l m s c s2 c2).2 → Spans W v2 (srcHi l m s c s2 c2).2 → Calls Try.prog 37 #[.agg #[.string (srcLo l m s c s2 c2).1, v1, .string (srcHi l m s c s2 c2).1, v2], .slice ao l.length cap, .slice ao2 m.length cap2] W fun e w' => e = .returned (.tuple #[.agg #[.int .i64 s, .int .u64 (c : Int), .int .i64 s2, .int .u64 (c2 : Int)], .int .i64 0]) ∧ Below W.heap.size W w') := Lib.hid fun W v1 v2 hW hf hE g1 g2 => by
    obtain ⟨_, a2, _⟩ : (srcLo l m s c s2 c2).1.size ≤ 1000 ∧ (srcLo l m s c s2 c2).2.length ≤ 64 ∧ ∀ p ∈ (srcLo l m s c s2 c2).2, p.1.size ≤ 1000 ∧ p.2.size ≤ 1000 := srcL_small fun h => (src_proper (of_decide_eq_true h)).1
    obtain ⟨_, b2, _⟩ : (srcHi l m s c s2 c2).1.size ≤ 1000 ∧ (srcHi l m s c s2 c2).2.length ≤ 64 ∧ ∀ p ∈ (srcHi l m s c s2 c2).2, p.1.size ≤ 1000 ∧ p.2.size ≤ 1000 := srcL_small fun h => (src_proper (of_decide_eq_true h).1).1
    have := range_c v1 v2 _ _ (srcLo l m s c s2 c2).1 (srcHi l m s c s2 c2).1 (srcLo l m s c s2 c2).2 (srcHi l m s c s2 c2).2 l m W g1 g2 (hV.keep hW) (hU.keep hW) hf.1.few hf.2.few (by omega) (by omega)
    rw [range_back h1 h3 hE] at this
    exact this
  have hz0 := txt_zero (l := l) (m := m) (s := s) (c := c) (s2 := s2) (c2 := c2)
  unfold SourceOut at HS
  generalize txtX l m s c s2 c2 = T at *
  generalize srcE l m s c s2 c2 = E at *
  generalize srcLo l m s c s2 c2 = P1 at *
  generalize srcHi l m s c s2 c2 = P2 at *
  obtain ⟨x1, L1⟩ := P1
  obtain ⟨x2, L2⟩ := P2
  simp only at HS HR
  have HZ := Lib.hid hz0
  clear hV hU hl hm hz hz0
  go_enter Try.func11, Try.ntmps11
  go_wp2_with fail
  refine (HF.out _ hW).mono ?_
  rintro e w1 ⟨b, rfl, hb1, hb⟩
  have hC := Kp.step hW hb
  have HB1 := Lib.hid (hB1.keep hb)
  have HB2 := Lib.hid (hB2.keep hb)
  have HFB := Lib.hid hb1
  clear hB1 hB2 hb hb1 hW HF
  obtain ⟨p0, p1, p2, p3⟩ := HB1.out.box4; obtain ⟨p4, p5⟩ := HB2.out.box2
  cases b
  · go_wp2_with (go_at_call 16; refine (HA.out _).mono ?_; rintro e w2 ⟨rfl, hb⟩)
    go_ret
    exact ⟨rfl, Kp.step hC hb⟩
  · have hf := Lib.hid (HFB.out rfl)
    clear HFB
    go_wp2_with fail
    refine (HT.out _ hC hf.out).mono ?_
    rintro e w2 ⟨rfl, hb⟩
    replace hC := Kp.step hC hb
    have HB1 := Lib.hid (HB1.out.keep hb)
    have HB2 := Lib.hid (HB2.out.keep hb)
    clear p0 p1 p2 p3 p4 p5 hb HT
    obtain ⟨p0, p1, p2, p3⟩ := HB1.out.box4; obtain ⟨p4, p5⟩ := HB2.out.box2
    go_wp2_with fail
    refine (HS.out _ hC hf.out).mono ?_
    rintro e w3 ⟨v1, v2, rfl, g1, g2, hb⟩
    obtain ⟨aox, capx, rfl, _⟩ := id g1
    obtain ⟨aoy, capy, rfl, _⟩ := id g2
    have hbb : Below w3.heap.size w3 (w3.alloc (.cells #[.string x1, .slice aox L1.length capx, .string x2, .slice aoy L2.length capy] 52)) := (Below.refl _ _).alloc (Nat.le_refl _) _
    replace hC := Kp.step (Kp.step hC hb) hbb
    have HB1 := Lib.hid ((HB1.out.keep hb).keep hbb)
    have HB2 := Lib.hid ((HB2.out.keep hb).keep hbb)
    have HQ1 := Lib.hid (Blk.new w3 52 #[.string x1, .slice aox L1.length capx, .string x2, .slice aoy L2.length capy])
    have HG1 := Lib.hid (g1.keep hbb)
    have HG2 := Lib.hid (g2.keep hbb)
    clear p0 p1 p2 p3 p4 p5 hb hbb HS g1 g2
    obtain ⟨p0, p1, p2, p3⟩ := HB1.out.box4; obtain ⟨p4, p5⟩ := HB2.out.box2
    obtain ⟨q0, q1, q2, q3⟩ := HQ1.out.box4
    have hEE : (E == E) = true := by simp
    by_cases hE : E = 0
    · subst hE
      have HPP := Lib.hid (fun W hW => HP.out W hW hf.out rfl)
      clear HP HZ
      go_wp2_with fail
      refine (HPP.out _ hC).mono ?_
      rintro e w4 ⟨rfl, hb⟩
      have hbb : Below w4.heap.size w4 (w4.alloc (.cells #[.int .i64 s, .int .u64 (c : Int), .int .i64 s2, .int .u64 (c2 : Int)] 26)) := (Below.refl _ _).alloc (Nat.le_refl _) _
      replace hC := Kp.step (Kp.step hC hb) hbb
      have HB1 := Lib.hid ((HB1.out.keep hb).keep hbb)
      have HB2 := Lib.hid ((HB2.out.keep hb).keep hbb)
      have HQ1 := Lib.hid ((HQ1.out.keep hb).keep hbb)
      have HG1 := Lib.hid ((HG1.out.keep hb).keep hbb)
      have HG2 := Lib.hid ((HG2.out.keep hb).keep hbb)
      have HQ2 := Lib.hid (Blk.new w4 26 #[.int .i64 s, .int .u64 (c : Int), .int .i64 s2, .int .u64 (c2 : Int)])
      clear p0 p1 p2 p3 p4 p5 q0 q1 q2 q3 hb hbb HPP
      obtain ⟨p0, p1, p2, p3⟩ := HB1.out.box4; obtain ⟨p4, p5⟩ := HB2.out.box2
      obtain ⟨q0, q1, q2, q3⟩ := HQ1.out.box4
      have HRR := Lib.hid (HR.out _ _ _ hC hf.out trivial HG1.out HG2.out)
      clear HR HG1 HG2
      go_wp2_with fail
      refine HRR.out.mono ?_
      rintro e w5 ⟨rfl, hb⟩
      have hbb : Below w5.heap.size w5 (w5.alloc (.cells #[.int .i64 s, .int .u64 (c : Int), .int .i64 s2, .int .u64 (c2 : Int)] 26)) := (Below.refl _ _).alloc (Nat.le_refl _) _
      replace hC := Kp.step (Kp.step hC hb) hbb
      have HB1 := Lib.hid ((HB1.out.keep hb).keep hbb)
      have HQ2 := Lib.hid ((HQ2.out.keep hb).keep hbb)
      have HQ3 := Lib.hid (Blk.new w5 26 #[.int .i64 s, .int .u64 (c : Int), .int .i64 s2, .int .u64 (c2 : Int)])
      clear p0 p1 p2 p3 p4 p5 q0 q1 q2 q3 hb hbb HRR HB2
      obtain ⟨p0, p1, p2, p3⟩ := HB1.out.box4
      obtain ⟨q0, q1, q2, q3⟩ := HQ2.out.box4
      obtain ⟨r0, r1, r2, r3⟩ := HQ3.out.box4
      go_wp2_with (go_at_call 16; refine (HA.out _).mono ?_; rintro e w6 ⟨rfl, hb⟩)
      go_ret
      exact ⟨rfl, Kp.step hC hb⟩
    · obtain rfl : T = ⟨#[]⟩ := HZ.out hE
      have hEb : (E == 0) = false := by simpa using hE
      have hem := empty_l
      clear HP HR HZ
      go_wp2_with (go_at_call 16; refine (HA.out _).mono ?_; rintro e w4 ⟨rfl, hb⟩)
      go_ret
      exact ⟨rfl, Kp.step hC hb⟩
end Go.Proofs.Ythjebccidcichaa
