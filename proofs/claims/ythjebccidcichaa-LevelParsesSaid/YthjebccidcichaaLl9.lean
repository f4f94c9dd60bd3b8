/- The law LevelParses, walked. -/
import Derived.Test.YthjebccidcichaaLvy
import Derived.Test.YthjebccidcichaaLfw
import Derived.Test.YthjebccidcichaaLry
namespace Go.Proofs.Ythjebccidcichaa
open Go.RowKit
set_option maxRecDepth 100000 in
set_option maxHeartbeats 16000000 in
theorem lparses_c (s : ByteArray) (v u : Value) (l m : List ByteArray) (w : World) (hV : Strs w v l) (hU : Strs w u m) (hl : l.length ≤ maxLen) (hm : m.length ≤ maxLen) (hsz : s.size ≤ maxLen) :
    Calls Try.prog 8 #[.string s, .agg #[v, u]] w fun e w' => e = .returned (.bool true) ∧ Below w.heap.size w w' := by
  unfold maxLen at hsz
  obtain ⟨ao, cap, rfl, _⟩ := id hV
  obtain ⟨ao2, cap2, rfl, _⟩ := id hU
  have hB := Blk.new w 39 #[.slice ao l.length cap, .slice ao2 m.length cap2]
  have hW : Kp w (w.alloc (.cells #[.slice ao l.length cap, .slice ao2 m.length cap2] 39)) := Kp.rfl'.alloc _
  have HF := Lib.hid (fun W (hW : Kp w W) => few_c _ _ l m W (hV.keep hW) (hU.keep hW) hl hm)
  have HA := Lib.hid awake_c
  have hcats := prs_cats (l := l) (m := m) (s := s.data.toList)
  have hval := prs_valid (l := l) (m := m) (s := s.data.toList)
  have HP : Hid (∀ W, Kp w W → FewN l ∧ FewN m → s.size ≤ 1000 → Calls Try.prog 32 #[.string s, .slice ao l.length cap, .slice ao2 m.length cap2] W fun e w' => e = .returned (.tuple #[rgV (prsX l m s.data.toList).2, .int .i64 (prsX l m s.data.toList).1]) ∧ Below W.heap.size W w') := Lib.hid fun W hW hf hs => by
    have := parse_c s.data.toList _ _ l m W (by rw [← Go.Lib.size_eq]; omega) (hV.keep hW) (hU.keep hW) hf.1.few hf.2.few
    rwa [list_mk] at this
  have HR : Hid (∀ W, Kp w W → FewN l ∧ FewN m → s.size ≤ 1000 → Calls Try.prog 33 #[.string s, .slice ao l.length cap, .slice ao2 m.length cap2] W fun e w' => e = .returned (.tuple #[rgV (prsX l m s.data.toList).2, .int .i64 (prsX l m s.data.toList).1]) ∧ Below W.heap.size W w') := Lib.hid fun W hW hf hs => rparse_c s _ _ l m W (by omega) (hV.keep hW) (hU.keep hW) hf.1.few hf.2.few
  generalize prsX l m s.data.toList = X at *
  obtain ⟨E, ⟨⟨a1, c1⟩, ⟨a2, c2⟩⟩⟩ := X
  unfold rgV at HP HR
  simp only at HP HR hcats hval
  have HC := Lib.hid (fun W => checkRange_c a1 c1 a2 c2 l.length m.length W hcats.1 hcats.2)
  have HVL : Hid (E = 0 → (chkL a1 c1 l.length m.length && (chkL a2 c2 l.length m.length && domL a2 c2 a1 c1)) = true) := Lib.hid hval
  clear hV hU hl hm hcats hval
  go_enter Try.func8, Try.ntmps8
  obtain ⟨p4, p5⟩ := hB.box2
  go_wp2_with fail
  refine (HF.out _ hW).mono ?_
  rintro e w1 ⟨b, rfl, hb1, hb⟩
  have hC := Kp.step hW hb
  have HB2 := Lib.hid (hB.keep hb)
  have HFB := Lib.hid hb1
  clear hB hb hb1 hW HF p4 p5
  obtain ⟨p4, p5⟩ := HB2.out.box2
  cases b
  · go_wp2_with (go_at_call 16; refine (HA.out _).mono ?_; rintro e w2 ⟨rfl, hb⟩)
    go_ret
    exact ⟨rfl, Kp.step hC hb⟩
  · have hf := Lib.hid (HFB.out rfl)
    clear HFB
    by_cases hs : s.size ≤ 1000
    · have hs' : (s.size : Int) ≤ 1000 := by omega
      have HPP := Lib.hid (fun W hW => HP.out W hW hf.out hs)
      have HRR := Lib.hid (fun W hW => HR.out W hW hf.out hs)
      clear HP HR
      go_wp2_with fail
      refine (HPP.out _ hC).mono ?_
      rintro e w4 ⟨rfl, hb⟩
      have hbb : Below w4.heap.size w4 (w4.alloc (.cells #[.int .i64 a1, .int .u64 (c1 : Int), .int .i64 a2, .int .u64 (c2 : Int)] 26)) := (Below.refl _ _).alloc (Nat.le_refl _) _
      replace hC := Kp.step (Kp.step hC hb) hbb
      have HB2 := Lib.hid ((HB2.out.keep hb).keep hbb)
      have HQ2 := Lib.hid (Blk.new w4 26 #[.int .i64 a1, .int .u64 (c1 : Int), .int .i64 a2, .int .u64 (c2 : Int)])
      clear p4 p5 hb hbb HPP
      obtain ⟨p4, p5⟩ := HB2.out.box2
      go_wp2_with fail
      refine (HRR.out _ hC).mono ?_
      rintro e w5 ⟨rfl, hb⟩
      have hbb : Below w5.heap.size w5 (w5.alloc (.cells #[.int .i64 a1, .int .u64 (c1 : Int), .int .i64 a2, .int .u64 (c2 : Int)] 26)) := (Below.refl _ _).alloc (Nat.le_refl _) _
      replace hC := Kp.step (Kp.step hC hb) hbb
      have HB2 := Lib.hid ((HB2.out.keep hb).keep hbb)
      have HQ2 := Lib.hid ((HQ2.out.keep hb).keep hbb)
      have HQ3 := Lib.hid (Blk.new w5 26 #[.int .i64 a1, .int .u64 (c1 : Int), .int .i64 a2, .int .u64 (c2 : Int)])
      clear p4 p5 hb hbb HRR
      obtain ⟨p4, p5⟩ := HB2.out.box2
      obtain ⟨q0, q1, q2, q3⟩ := HQ2.out.box4
      obtain ⟨r0, r1, r2, r3⟩ := HQ3.out.box4
      have hEE : (E == E) = true := by simp
      by_cases hE : E = 0
      · have hv := HVL.out hE
        rw [hv] at HC
        have hE0 : (E == 0) = true := by simpa using hE
        have hE1 : (E != 0) = false := by simpa using hE
        clear hv HVL hE
        go_wp2_with (first
          | (go_at_call 14; refine (HC.out _).mono ?_; rintro e w6 ⟨rfl, hb⟩; replace hC := Kp.step hC hb; clear hb)
          | (go_at_call 16; refine (HA.out _).mono ?_; rintro e w7 ⟨rfl, hb⟩; replace hC := Kp.step hC hb; clear hb))
        go_ret
        exact ⟨rfl, hC⟩
      · have hE0 : (E == 0) = false := by simpa using hE
        have hE1 : (E != 0) = true := by simpa using hE
        clear HVL hE
        go_wp2_with (go_at_call 16; refine (HA.out _).mono ?_; rintro e w7 ⟨rfl, hb⟩; replace hC := Kp.step hC hb; clear hb)
        go_ret
        exact ⟨rfl, hC⟩
    · have hs' : (1000 : Int) < (s.size : Int) := by omega
      clear HP HR
      go_wp2_with (go_at_call 16; refine (HA.out _).mono ?_; rintro e w7 ⟨rfl, hb⟩; replace hC := Kp.step hC hb; clear hb)
      go_ret
      exact ⟨rfl, hC⟩
end Go.Proofs.Ythjebccidcichaa
