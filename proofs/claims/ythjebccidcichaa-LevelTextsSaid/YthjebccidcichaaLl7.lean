/- The law LevelTexts, walked. -/
import Derived.Test.YthjebccidcichaaLvy
import Derived.Test.YthjebccidcichaaLfw
import Derived.Test.YthjebccidcichaaLrx
namespace Go.Proofs.Ythjebccidcichaa
open Go.RowKit
set_option maxRecDepth 100000 in
set_option maxHeartbeats 16000000 in
theorem ltexts_c (s : Int) (c : Nat) (s2 : Int) (c2 : Nat) (v u : Value) (l m : List ByteArray) (w : World) (h1 : c < U64) (h3 : c2 < U64) (hV : Strs w v l) (hU : Strs w u m) (hl : l.length ≤ maxLen) (hm : m.length ≤ maxLen) :
    Calls Try.prog 7 #[.agg #[.int .i64 s, .int .u64 (c : Int), .int .i64 s2, .int .u64 (c2 : Int)], .agg #[v, u]] w fun e w' => e = .returned (.bool true) ∧ Below w.heap.size w w' := by
  obtain ⟨ao, cap, rfl, _⟩ := id hV
  obtain ⟨ao2, cap2, rfl, _⟩ := id hU
  obtain ⟨hB1, hB2, hW, hz⟩ := two_box w 26 39 #[.int .i64 s, .int .u64 (c : Int), .int .i64 s2, .int .u64 (c2 : Int)] #[.slice ao l.length cap, .slice ao2 m.length cap2]
  have HF := Lib.hid (fun W (hW : Kp w W) => few_c _ _ l m W (hV.keep hW) (hU.keep hW) hl hm)
  have HA := Lib.hid awake_c
  have HT : Hid (∀ W, Kp w W → FewN l ∧ FewN m → Calls Try.prog 30 #[.agg #[.int .i64 s, .int .u64 (c : Int), .int .i64 s2, .int .u64 (c2 : Int)], .slice ao l.length cap, .slice ao2 m.length cap2] W fun e w' => e = .returned (.tuple #[.string (txtX l m s c s2 c2), .int .i64 (srcE l m s c s2 c2)]) ∧ Below W.heap.size W w') := Lib.hid fun W hW hf => ltext_c s c s2 c2 _ _ l m W h1 h3 (hV.keep hW) (hU.keep hW) hf.1.few hf.2.few
  have HR : Hid (∀ W, Kp w W → FewN l ∧ FewN m → Calls Try.prog 31 #[.agg #[.int .i64 s, .int .u64 (c : Int), .int .i64 s2, .int .u64 (c2 : Int)], .slice ao l.length cap, .slice ao2 m.length cap2] W fun e w' => e = .returned (.tuple #[.string (txtX l m s c s2 c2), .int .i64 (srcE l m s c s2 c2)]) ∧ Below W.heap.size W w') := Lib.hid fun W hW hf => rtext_c s c s2 c2 _ _ l m W h1 h3 (hV.keep hW) (hU.keep hW) hf.1.few hf.2.few
  generalize txtX l m s c s2 c2 = T at *
  generalize srcE l m s c s2 c2 = E at *
  clear hV hU hl hm hz
  go_enter Try.func7, Try.ntmps7
  go_wp2_with fail
  refine (HF.out _ hW).mono ?_
  rintro e w1 ⟨b, rfl, hb1, hb⟩
  have hC := Kp.step hW hb
  have HB1 := Lib.hid (hB1.keep hb)
  have HB2 := Lib.hid (hB2.keep hb)
  have HFB := Lib.hid hb1
  clear hB1 hB2 hb hb1 hW HF
  obtain ⟨p0, p1, p2, p3⟩ := HB1.out.box4; obtain ⟨p4, p5⟩ := HB2.out.box2
  cases b
  · go_wp2_with (go_at_call 16; refine (HA.out _).mono ?_; rintro e w2 ⟨rfl, hb⟩)
    go_ret
    exact ⟨rfl, Kp.step hC hb⟩
  · have hf := Lib.hid (HFB.out rfl)
    clear HFB
    go_wp2_with fail
    refine (HT.out _ hC hf.out).mono ?_
    rintro e w2 ⟨rfl, hb⟩
    replace hC := Kp.step hC hb
    have HB1 := Lib.hid (HB1.out.keep hb)
    have HB2 := Lib.hid (HB2.out.keep hb)
    clear p0 p1 p2 p3 p4 p5 hb HT
    obtain ⟨p0, p1, p2, p3⟩ := HB1.out.box4; obtain ⟨p4, p5⟩ := HB2.out.box2
    go_wp2_with fail
    refine (HR.out _ hC hf.out).mono ?_
    rintro e w3 ⟨rfl, hb⟩
    replace hC := Kp.step hC hb
    have hEE : (E == E) = true := by simp
    have hTT : (T.toList == T.toList) = true := by simp
    clear hb HR
    go_wp2_with (go_at_call 16; refine (HA.out _).mono ?_; rintro e w4 ⟨rfl, hb⟩)
    go_ret
    exact ⟨rfl, Kp.step hC hb⟩
end Go.Proofs.Ythjebccidcichaa
