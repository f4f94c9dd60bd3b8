/- The law LevelSources, walked. -/
import Derived.Test.YthjebccidcichaaLvy
import Derived.Test.YthjebccidcichaaLfw
namespace Go.Proofs.Ythjebccidcichaa
open Go.RowKit
set_option maxRecDepth 100000 in
set_option maxHeartbeats 16000000 in
theorem lsources_c (s s2 : ByteArray) (cv dv v u : Value) (L L2 : List Sp) (l m : List ByteArray) (w : World) (hS : Spans w cv L) (hS2 : Spans w dv L2) (hV : Strs w v l) (hU : Strs w u m) (hl : l.length ≤ maxLen) (hm : m.length ≤ maxLen) :
    Calls Try.prog 9 #[.agg #[.string s, cv, .string s2, dv], .agg #[v, u]] w fun e w' => e = .returned (.bool true) ∧ Below w.heap.size w w' := by
  obtain ⟨ao, cap, rfl, _⟩ := id hV
  obtain ⟨ao2, cap2, rfl, _⟩ := id hU
  obtain ⟨aos, caps, rfl, _⟩ := id hS
  obtain ⟨aot, capt, rfl, _⟩ := id hS2
  obtain ⟨hB1, hB2, hW, hz⟩ := two_box w 52 39 #[.string s, .slice aos L.length caps, .string s2, .slice aot L2.length capt] #[.slice ao l.length cap, .slice ao2 m.length cap2]
  have HF := Lib.hid (fun W (hW : Kp w W) => few_c _ _ l m W (hV.keep hW) (hU.keep hW) hl hm)
  have HA := Lib.hid awake_c
  have HS1 := Lib.hid (fun W => short_c s aos L.length caps W)
  have HS2 := Lib.hid (fun W => short_c s2 aot L2.length capt W)
  have HL1 : Hid (∀ W, Kp w W → FewN l ∧ FewN m → L.length ≤ 100 → Calls Try.prog 35 #[.agg #[.string s, .slice aos L.length caps], .slice ao l.length cap, .slice ao2 m.length cap2] W fun e w' => e = .returned (.tuple #[.agg #[.int .i64 (levS l m s L), .int .u64 (levC l m s L)], .int .i64 (levE l m s L)]) ∧ Below W.heap.size W w') := Lib.hid fun W hW hf hL => level_c _ _ _ s L l m W (hS.keep hW) (hV.keep hW) (hU.keep hW) hf.1.few hf.2.few (by omega)
  have HL2 : Hid (∀ W, Kp w W → FewN l ∧ FewN m → L.length ≤ 100 → Calls Try.prog 36 #[.agg #[.string s, .slice aos L.length caps], .slice ao l.length cap, .slice ao2 m.length cap2] W fun e w' => e = .returned (.tuple #[.agg #[.int .i64 (levS l m s L), .int .u64 (levC l m s L)], .int .i64 (levE l m s L)]) ∧ Below W.heap.size W w') := Lib.hid fun W hW hf hL => rlevel_c _ _ _ s L l m W (hS.keep hW) (hV.keep hW) (hU.keep hW) hf.1.few hf.2.few (by omega)
  have HR1 : Hid (∀ W, Kp w W → FewN l ∧ FewN m → L.length ≤ 100 → L2.length ≤ 100 → Calls Try.prog 37 #[.agg #[.string s, .slice aos L.length caps, .string s2, .slice aot L2.length capt], .slice ao l.length cap, .slice ao2 m.length cap2] W fun e w' => e = .returned (.tuple #[rgV (rngX l m s L s2 L2).2, .int .i64 (rngX l m s L s2 L2).1]) ∧ Below W.heap.size W w') := Lib.hid fun W hW hf hL hL2 => range_c _ _ _ _ s s2 L L2 l m W (hS.keep hW) (hS2.keep hW) (hV.keep hW) (hU.keep hW) hf.1.few hf.2.few (by omega) (by omega)
  have HR2 : Hid (∀ W, Kp w W → FewN l ∧ FewN m → L.length ≤ 100 → L2.length ≤ 100 → Calls Try.prog 38 #[.agg #[.string s, .slice aos L.length caps, .string s2, .slice aot L2.length capt], .slice ao l.length cap, .slice ao2 m.length cap2] W fun e w' => e = .returned (.tuple #[rgV (rngX l m s L s2 L2).2, .int .i64 (rngX l m s L s2 L2).1]) ∧ Below W.heap.size W w') := Lib.hid fun W hW hf hL hL2 => rrange_c _ _ _ _ s s2 L L2 l m W (hS.keep hW) (hS2.keep hW) (hV.keep hW) (hU.keep hW) hf.1.few hf.2.few (by omega) (by omega)
  generalize levS l m s L = S1 at *
  generalize levC l m s L = C1 at *
  generalize levE l m s L = E1 at *
  generalize rngX l m s L s2 L2 = X at *
  obtain ⟨E2, ⟨⟨A1, A2⟩, ⟨A3, A4⟩⟩⟩ := X
  unfold rgV at *
  simp only at HR1 HR2
  clear hV hU hS hS2 hl hm hz
  go_enter Try.func9, Try.ntmps9
  go_wp2_with fail
  refine (HF.out _ hW).mono ?_
  rintro e w1 ⟨b, rfl, hb1, hb⟩
  have hC := Kp.step hW hb
  have HB1 := Lib.hid (hB1.keep hb)
  have HB2 := Lib.hid (hB2.keep hb)
  have HFB := Lib.hid hb1
  clear hB1 hB2 hb hb1 hW HF
  obtain ⟨p0, p1, p2, p3⟩ := HB1.out.box4; obtain ⟨p4, p5⟩ := HB2.out.box2
  cases b
  · go_wp2_with (go_at_call 16; refine (HA.out _).mono ?_; rintro e w2 ⟨rfl, hb⟩)
    go_ret
    exact ⟨rfl, Kp.step hC hb⟩
  · by_cases hL : L.length ≤ 100
    · have hd : decide ((L.length : Int) ≤ 100) = true := by simp; omega
      rw [hd] at HS1
      go_wp2_with fail
      refine (HS1.out _).mono ?_
      rintro e w2 ⟨rfl, hb⟩
      replace hC := Kp.step hC hb
      have HB1 := Lib.hid (HB1.out.keep hb)
      have HB2 := Lib.hid (HB2.out.keep hb)
      clear p0 p1 p2 p3 p4 p5 hb hd HS1
      obtain ⟨p0, p1, p2, p3⟩ := HB1.out.box4; obtain ⟨p4, p5⟩ := HB2.out.box2
      by_cases hL2 : L2.length ≤ 100
      · have hd : decide ((L2.length : Int) ≤ 100) = true := by simp; omega
        rw [hd] at HS2
        go_wp2_with fail
        refine (HS2.out _).mono ?_
        rintro e w3 ⟨rfl, hb⟩
        replace hC := Kp.step hC hb
        have HB1 := Lib.hid (HB1.out.keep hb)
        have HB2 := Lib.hid (HB2.out.keep hb)
        have HLa := Lib.hid (fun W hW => HL1.out W hW (HFB.out trivial) hL)
        have HLb := Lib.hid (fun W hW => HL2.out W hW (HFB.out trivial) hL)
        have HRa := Lib.hid (fun W hW => HR1.out W hW (HFB.out trivial) hL hL2)
        have HRb := Lib.hid (fun W hW => HR2.out W hW (HFB.out trivial) hL hL2)
        clear p0 p1 p2 p3 p4 p5 hb hd HS2 HL1 HL2 HR1 HR2 HFB hL hL2
        obtain ⟨p0, p1, p2, p3⟩ := HB1.out.box4; obtain ⟨p4, p5⟩ := HB2.out.box2
        go_wp2_with fail
        refine (HLa.out _ hC).mono ?_
        rintro e w4 ⟨rfl, hb⟩
        have hbb : Below w4.heap.size w4 (w4.alloc (.cells #[.int .i64 S1, .int .u64 (C1 : Int)] 24)) := (Below.refl _ _).alloc (Nat.le_refl _) _
        replace hC := Kp.step (Kp.step hC hb) hbb
        have HB1 := Lib.hid ((HB1.out.keep hb).keep hbb)
        have HB2 := Lib.hid ((HB2.out.keep hb).keep hbb)
        have HQ1 := Lib.hid (Blk.new w4 24 #[.int .i64 S1, .int .u64 (C1 : Int)])
        clear p0 p1 p2 p3 p4 p5 hb hbb HLa
        obtain ⟨p0, p1, p2, p3⟩ := HB1.out.box4; obtain ⟨p4, p5⟩ := HB2.out.box2
        go_wp2_with fail
        refine (HLb.out _ hC).mono ?_
        rintro e w5 ⟨rfl, hb⟩
        have hbb : Below w5.heap.size w5 (w5.alloc (.cells #[.int .i64 S1, .int .u64 (C1 : Int)] 24)) := (Below.refl _ _).alloc (Nat.le_refl _) _
        replace hC := Kp.step (Kp.step hC hb) hbb
        have HB1 := Lib.hid ((HB1.out.keep hb).keep hbb)
        have HB2 := Lib.hid ((HB2.out.keep hb).keep hbb)
        have HQ1 := Lib.hid ((HQ1.out.keep hb).keep hbb)
        have HQ2 := Lib.hid (Blk.new w5 24 #[.int .i64 S1, .int .u64 (C1 : Int)])
        clear p0 p1 p2 p3 p4 p5 hb hbb HLb
        obtain ⟨p0, p1, p2, p3⟩ := HB1.out.box4; obtain ⟨p4, p5⟩ := HB2.out.box2
        go_wp2_with fail
        refine (HRa.out _ hC).mono ?_
        rintro e w6 ⟨rfl, hb⟩
        have hbb : Below w6.heap.size w6 (w6.alloc (.cells #[.int .i64 A1, .int .u64 (A2 : Int), .int .i64 A3, .int .u64 (A4 : Int)] 26)) := (Below.refl _ _).alloc (Nat.le_refl _) _
        replace hC := Kp.step (Kp.step hC hb) hbb
        have HB1 := Lib.hid ((HB1.out.keep hb).keep hbb)
        have HB2 := Lib.hid ((HB2.out.keep hb).keep hbb)
        have HQ1 := Lib.hid ((HQ1.out.keep hb).keep hbb)
        have HQ2 := Lib.hid ((HQ2.out.keep hb).keep hbb)
        have HQ3 := Lib.hid (Blk.new w6 26 #[.int .i64 A1, .int .u64 (A2 : Int), .int .i64 A3, .int .u64 (A4 : Int)])
        clear p0 p1 p2 p3 p4 p5 hb hbb HRa
        obtain ⟨p0, p1, p2, p3⟩ := HB1.out.box4; obtain ⟨p4, p5⟩ := HB2.out.box2
        go_wp2_with fail
        refine (HRb.out _ hC).mono ?_
        rintro e w7 ⟨rfl, hb⟩
        have hbb : Below w7.heap.size w7 (w7.alloc (.cells #[.int .i64 A1, .int .u64 (A2 : Int), .int .i64 A3, .int .u64 (A4 : Int)] 26)) := (Below.refl _ _).alloc (Nat.le_refl _) _
        replace hC := Kp.step (Kp.step hC hb) hbb
        have HB1 := Lib.hid ((HB1.out.keep hb).keep hbb)
        have HB2 := Lib.hid ((HB2.out.keep hb).keep hbb)
        have HQ1 := Lib.hid ((HQ1.out.keep hb).keep hbb)
        have HQ2 := Lib.hid ((HQ2.out.keep hb).keep hbb)
        have HQ3 := Lib.hid ((HQ3.out.keep hb).keep hbb)
        have HQ4 := Lib.hid (Blk.new w7 26 #[.int .i64 A1, .int .u64 (A2 : Int), .int .i64 A3, .int .u64 (A4 : Int)])
        clear p0 p1 p2 p3 p4 p5 hb hbb HRb
        obtain ⟨p0, p1, p2, p3⟩ := HB1.out.box4; obtain ⟨p4, p5⟩ := HB2.out.box2
        obtain ⟨x0, x1⟩ := HQ1.out.box2
        obtain ⟨x2, x3⟩ := HQ2.out.box2
        obtain ⟨x4, x5, x6, x7⟩ := HQ3.out.box4
        obtain ⟨x8, x9, x10, x11⟩ := HQ4.out.box4
        have hE1 : (E1 == E1) = true := by simp
        have hE2 : (E2 == E2) = true := by simp
        go_wp2_with (go_at_call 16; refine (HA.out _).mono ?_; rintro e w8 ⟨rfl, hb⟩)
        go_ret
        exact ⟨rfl, Kp.step hC hb⟩
      · have hd : decide ((L2.length : Int) ≤ 100) = false := by simp; omega
        rw [hd] at HS2
        go_wp2_with fail
        refine (HS2.out _).mono ?_
        rintro e w3 ⟨rfl, hb⟩
        replace hC := Kp.step hC hb
        clear hb
        go_wp2_with (go_at_call 16; refine (HA.out _).mono ?_; rintro e w4 ⟨rfl, hb⟩)
        go_ret
        exact ⟨rfl, Kp.step hC hb⟩
    · have hd : decide ((L.length : Int) ≤ 100) = false := by simp; omega
      rw [hd] at HS1
      go_wp2_with fail
      refine (HS1.out _).mono ?_
      rintro e w2 ⟨rfl, hb⟩
      replace hC := Kp.step hC hb
      clear hb
      go_wp2_with (go_at_call 16; refine (HA.out _).mono ?_; rintro e w4 ⟨rfl, hb⟩)
      go_ret
      exact ⟨rfl, Kp.step hC hb⟩
end Go.Proofs.Ythjebccidcichaa
