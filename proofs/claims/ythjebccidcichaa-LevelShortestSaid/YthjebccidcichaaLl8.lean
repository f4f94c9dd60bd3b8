/- The law LevelShortest, walked. -/
import Derived.Test.YthjebccidcichaaLvy
import Derived.Test.YthjebccidcichaaLfw
import Derived.Test.YthjebccidcichaaLrr
import Derived.Test.YthjebccidcichaaLrt
import Derived.Test.YthjebccidcichaaLvm
namespace Go.Proofs.Ythjebccidcichaa
open Go.RowKit
set_option maxRecDepth 100000 in
set_option maxHeartbeats 16000000 in
theorem lshortest_c (s : Int) (c : Nat) (s2 : Int) (c2 : Nat) (v u : Value) (l m : List ByteArray) (w : World) (h1 : c < U64) (h3 : c2 < U64) (hV : Strs w v l) (hU : Strs w u m) (hl : l.length ≤ maxLen) (hm : m.length ≤ maxLen) :
    Calls Try.prog 10 #[.agg #[.int .i64 s, .int .u64 (c : Int), .int .i64 s2, .int .u64 (c2 : Int)], .agg #[v, u]] w fun e w' => e = .returned (.bool true) ∧ Below w.heap.size w w' := by
  obtain ⟨ao, cap, rfl, _⟩ := id hV
  obtain ⟨ao2, cap2, rfl, _⟩ := id hU
  obtain ⟨hB1, hB2, hW, hz⟩ := two_box w 26 39 #[.int .i64 s, .int .u64 (c : Int), .int .i64 s2, .int .u64 (c2 : Int)] #[.slice ao l.length cap, .slice ao2 m.length cap2]
  have HF := Lib.hid (fun W (hW : Kp w W) => few_c _ _ l m W (hV.keep hW) (hU.keep hW) hl hm)
  have HA := Lib.hid awake_c
  have HS : Hid (∀ W, Kp w W → FewN l ∧ FewN m → Calls Try.prog 39 #[.agg #[.int .i64 s, .int .u64 (c : Int), .int .i64 s2, .int .u64 (c2 : Int)], .slice ao l.length cap, .slice ao2 m.length cap2] W (SourceOut l m s c s2 c2 W)) := Lib.hid fun W hW hf => source_c s c s2 c2 _ _ l m W h1 h3 (hV.keep hW) (hU.keep hW) hf.1.few hf.2.few
  have HR : Hid (∀ W, Kp w W → FewN l ∧ FewN m → Calls Try.prog 40 #[.agg #[.int .i64 s, .int .u64 (c : Int), .int .i64 s2, .int .u64 (c2 : Int)], .slice ao l.length cap, .slice ao2 m.length cap2] W (SourceOut l m s c s2 c2 W)) := Lib.hid fun W hW hf => rsource_c s c s2 c2 _ _ l m W h1 h3 (hV.keep hW) (hU.keep hW) hf.1.few hf.2.few
  obtain ⟨_, a2, _⟩ : (srcLo l m s c s2 c2).1.size ≤ 1000 ∧ (srcLo l m s c s2 c2).2.length ≤ 64 ∧ ∀ p ∈ (srcLo l m s c s2 c2).2, p.1.size ≤ 1000 ∧ p.2.size ≤ 1000 := srcL_small fun h => (src_proper (of_decide_eq_true h)).1
  obtain ⟨_, b2, _⟩ : (srcHi l m s c s2 c2).1.size ≤ 1000 ∧ (srcHi l m s c s2 c2).2.length ≤ 64 ∧ ∀ p ∈ (srcHi l m s c s2 c2).2, p.1.size ≤ 1000 ∧ p.2.size ≤ 1000 := srcL_small fun h => (src_proper (of_decide_eq_true h).1).1
  unfold SourceOut at HS HR
  generalize srcE l m s c s2 c2 = E at *
  generalize srcLo l m s c s2 c2 = P1 at *
  generalize srcHi l m s c s2 c2 = P2 at *
  obtain ⟨x1, L1⟩ := P1
  obtain ⟨x2, L2⟩ := P2
  simp only at HS HR a2 b2
  clear hV hU hl hm hz
  go_enter Try.func10, Try.ntmps10
  go_wp2_with fail
  refine (HF.out _ hW).mono ?_
  rintro e w1 ⟨b, rfl, hb1, hb⟩
  have hC := Kp.step hW hb
  have HB1 := Lib.hid (hB1.keep hb)
  have HB2 := Lib.hid (hB2.keep hb)
  have HFB := Lib.hid hb1
  clear hB1 hB2 hb hb1 hW HF
  obtain ⟨p0, p1, p2, p3⟩ := HB1.out.box4; obtain ⟨p4, p5⟩ := HB2.out.box2
  cases b
  · go_wp2_with (go_at_call 16; refine (HA.out _).mono ?_; rintro e w2 ⟨rfl, hb⟩)
    go_ret
    exact ⟨rfl, Kp.step hC hb⟩
  · have hf := Lib.hid (HFB.out rfl)
    clear HFB
    go_wp2_with fail
    refine (HS.out _ hC hf.out).mono ?_
    rintro e w3 ⟨v1, v2, rfl, g1, g2, hb⟩
    obtain ⟨aox, capx, rfl, hd1⟩ := id g1
    obtain ⟨aoy, capy, rfl, hd2⟩ := id g2
    have hbb : Below w3.heap.size w3 (w3.alloc (.cells #[.string x1, .slice aox L1.length capx, .string x2, .slice aoy L2.length capy] 52)) := (Below.refl _ _).alloc (Nat.le_refl _) _
    replace hC := Kp.step (Kp.step hC hb) hbb
    have HB1 := Lib.hid ((HB1.out.keep hb).keep hbb)
    have HB2 := Lib.hid ((HB2.out.keep hb).keep hbb)
    have HQ1 := Lib.hid (Blk.new w3 52 #[.string x1, .slice aox L1.length capx, .string x2, .slice aoy L2.length capy])
    have HG1 := Lib.hid (g1.keep hbb)
    have HG2 := Lib.hid (g2.keep hbb)
    clear p0 p1 p2 p3 p4 p5 hb hbb HS g1 g2 hd1 hd2
    obtain ⟨p0, p1, p2, p3⟩ := HB1.out.box4; obtain ⟨p4, p5⟩ := HB2.out.box2
    go_wp2_with fail
    refine (HR.out _ hC hf.out).mono ?_
    rintro e w4 ⟨v3, v4, rfl, g3, g4, hb⟩
    obtain ⟨aoz, capz, rfl, hd1⟩ := id g3
    obtain ⟨aow, capw, rfl, hd2⟩ := id g4
    have hbb : Below w4.heap.size w4 (w4.alloc (.cells #[.string x1, .slice aoz L1.length capz, .string x2, .slice aow L2.length capw] 52)) := (Below.refl _ _).alloc (Nat.le_refl _) _
    replace hC := Kp.step (Kp.step hC hb) hbb
    have HQ1 := Lib.hid ((HQ1.out.keep hb).keep hbb)
    have HQ2 := Lib.hid (Blk.new w4 52 #[.string x1, .slice aoz L1.length capz, .string x2, .slice aow L2.length capw])
    have HSM := Lib.hid (rsameRange_c _ _ _ _ x1 x2 x1 x2 L1 L2 L1 L2 _ ((HG1.out.keep hb).keep hbb) ((HG2.out.keep hb).keep hbb) (g3.keep hbb) (g4.keep hbb) (by omega) (by omega))
    rw [sameRV_self] at HSM
    clear p0 p1 p2 p3 p4 p5 hb hbb HR g3 g4 hd1 hd2 HG1 HG2 HB1 HB2
    obtain ⟨q0, q1, q2, q3⟩ := HQ1.out.box4
    obtain ⟨r0, r1, r2, r3⟩ := HQ2.out.box4
    have hEE : (E == E) = true := by simp
    go_wp2_with fail
    refine HSM.out.mono ?_
    rintro e w5 ⟨rfl, hb⟩
    replace hC := Kp.step hC hb
    clear hb HSM
    go_wp2_with (go_at_call 16; refine (HA.out _).mono ?_; rintro e w6 ⟨rfl, hb⟩)
    go_ret
    exact ⟨rfl, Kp.step hC hb⟩
end Go.Proofs.Ythjebccidcichaa
