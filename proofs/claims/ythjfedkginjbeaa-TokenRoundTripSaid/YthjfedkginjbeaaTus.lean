/- The law TokenRoundTrip, walked. -/
import Derived.Test.YthjfedkginjbeaaTur
namespace Go.Proofs.Ythjfedkginjbeaa
open Go.RowKit
set_option maxRecDepth 100000 in
set_option maxHeartbeats 8000000 in
theorem lround_c (v : Value) (l : List TI) (w : World) (hn : l.length ≤ 9223372036854775807) (hT : Toks w v l) :
    Calls Try.prog 7 #[v] w fun e w' => e = .returned (.bool true) ∧ Below w.heap.size w w' := by
  have hF := few_c v l w hn hT
  have hb := Below.refl w.heap.size w
  cases h1 : fewB l
  · rw [h1] at hF
    have HF := Lib.hid hF
    clear hT hF h1
    go_enter Try.func7, Try.ntmps7
    go_wp2_with (first
      | (go_at_call 23; refine HF.out.mono ?_; rintro e w2 ⟨rfl, rfl⟩)
      | (go_at_call 13; refine (awake_c _).mono ?_; rintro e w6 ⟨rfl, hq⟩; replace hb := hb.trans (hq.mono hb.size); clear hq))
    go_ret
    exact ⟨rfl, hb⟩
  · rw [h1] at hF
    have l1 := fewB_len h1
    have l2 : ∀ t ∈ l, t.text.size ≤ 1000000 := fun t ht => Nat.le_trans (fewB_all h1 t ht) (by omega)
    have hS := text_c v l w (by omega) hT l2
    have HF := Lib.hid hF
    clear hF h1 l2
    by_cases hc : (textR l).2 = 0
    · obtain ⟨m, p1, p2, p3, p4, p5, p6, p7, p8⟩ := round_pure hc
      obtain ⟨s, hs⟩ : ∃ s, (textR l).1 = s := ⟨_, rfl⟩
      rw [hs, hc] at hS
      rw [hs] at p1 p2 p7
      have htm : (textR m).1 = s ∧ (textR m).2 = 0 := by rw [p6]; exact ⟨hs, hc⟩
      have hle := firstN_le l
      have hSc : ∀ w, Calls Try.prog 14 #[.string s] w fun e w' => ∃ v, e = .returned (.tuple #[v, .agg #[.int .i64 0, .int .i64 0, .int .i64 0, .string ⟨#[]⟩]]) ∧ Toks w' v m ∧ Below w.heap.size w w' := fun w => (scan_t s w p7).mono (by
        rintro e w' ⟨v, rfl, hT, hb⟩
        rw [p1]
        rw [p2] at hT
        exact ⟨v, rfl, hT, hb⟩)
      obtain ⟨ao, cap, rfl, hcap, hr⟩ := hT
      have HS := Lib.hid hS
      have HC := Lib.hid hSc
      have HT0 : Hid (Toks w (.slice ao l.length cap) l) := Lib.hid ⟨ao, cap, rfl, hcap, hr⟩
      have HR := Lib.hid hr
      have P5 := Lib.hid p5
      have P4 := Lib.hid p4
      have P8 := Lib.hid p8
      have HM := Lib.hid htm
      obtain ⟨N, hN⟩ : ∃ N, firstN l = N := ⟨_, rfl⟩
      have HN := Lib.hid hN
      rw [hN] at p3 hle
      have P3 := Lib.hid p3
      clear hS hSc hr p1 p2 p4 p5 p6 p8 htm hN hs hc
      go_enter Try.func7, Try.ntmps7
      go_wp2_with fail
      refine HF.out.mono ?_
      rintro e w2 ⟨rfl, rfl⟩
      go_wp2_with fail
      refine HS.out.mono ?_
      rintro e w3 ⟨rfl, hb3⟩
      go_wp2_with fail
      refine (HC.out _).mono ?_
      rintro e w4 ⟨v4, rfl, hT4, hb4⟩
      obtain ⟨ao4, cap4, rfl, hcap4, hr4⟩ := hT4
      obtain ⟨g4, o4, rfl, hRow4⟩ := hr4 (by rintro rfl; simp at p3)
      have hlg4 := hRow4.lt (by rintro rfl; simp at p3)
      have hb5 := hb3.trans (hb4.mono hb3.size)
      have hRow4' := Lib.hid hRow4
      rw [p3]
      clear hRow4 hr4
      go_wp2_with fail
      have F0 : Blk (w4.alloc (.cells #[.int .i64 0, .int .i64 0, .int .i64 0, .string { data := #[] }] 28)) w4.heap.size 28 #[.int .i64 0, .int .i64 0, .int .i64 0, .string { data := #[] }] := Blk.new w4 _ _
      have hRW : Row (w4.alloc (.cells #[.int .i64 0, .int .i64 0, .int .i64 0, .string { data := #[] }] 28)) g4 o4 m := hRow4'.out.keep (Below.heap_alloc w4 _ g4 hlg4)
      have hgW : g4 < (w4.alloc (.cells #[.int .i64 0, .int .i64 0, .int .i64 0, .string { data := #[] }] 28)).heap.size := by simp; omega
      have hb6 := hb5.alloc hb5.size (.cells #[.int .i64 0, .int .i64 0, .int .i64 0, .string { data := #[] }] 28)
      obtain ⟨f4, hf4⟩ : ∃ f, w4.heap.size = f := ⟨_, rfl⟩
      rw [hf4] at F0
      rw [hf4]
      generalize w4.alloc (.cells #[.int .i64 0, .int .i64 0, .int .i64 0, .string { data := #[] }] 28) = W at *
      clear hRow4' hlg4 hb5 hb4 hb3 hf4
      have hTm : ∀ w1, Kp W w1 → Toks w1 (.slice (some ⟨g4, o4, none⟩) (N + 1) cap4) m := fun w1 hC => ⟨_, _, by rw [P3.out], hcap4, fun _ => ⟨g4, o4, rfl, hRW.keep (Below.block hC g4 hgW)⟩⟩
      have hTl : ∀ w1, Kp W w1 → Toks w1 (.slice ao l.length cap) l := fun w1 hC => HT0.out.keep (hb6.trans (Below.mono hC hb6.size))
      have hFi : ∀ w1, Kp W w1 → Calls Try.prog 27 #[.slice ao l.length cap] w1 fun e w' => e = .returned (.slice ao N cap) ∧ w' = w1 := fun w1 hC => by
        obtain ⟨ao', cap', hv, hcap', hr'⟩ := hTl w1 hC
        cases hv
        have := first_x ao cap l w1 (by omega) hcap' hr'
        rwa [HN.out] at this
      have hSa : ∀ w1, Kp W w1 → Calls Try.prog 26 #[.slice (some ⟨g4, o4, none⟩) N cap4, .slice ao N cap] w1 fun e w' => e = .returned (.bool true) ∧ Below w1.heap.size w1 w' := fun w1 hC => by
        have t1 := (hTm w1 hC).take N (by rw [P3.out]; omega)
        have t2 := (hTl w1 hC).take N hle
        have := same_c _ _ _ _ w1 (by rw [List.length_take]; omega) (by rw [List.length_take]; omega) t1 t2
        have e := P5.out
        rw [HN.out] at e
        rwa [e] at this
      have hK0 : ∀ w1, Kp W w1 → w1.cell? ⟨g4, o4 + N * 4, none⟩ = some (.int .i64 0) := fun w1 hC => by
        have e := ((hRW.keep (Below.block hC g4 hgW)).at (i := N) (by rw [P3.out]; omega)).1
        have hx : ∀ k (hk : k < m.length), k = firstN l → m[k].kind = 0 := fun k hk ek => by subst ek; exact P4.out hk
        rw [hx N _ HN.out.symm] at e
        exact e
      have HFi := Lib.hid hFi
      have HSa := Lib.hid hSa
      have HK0 := Lib.hid hK0
      have HTm := Lib.hid hTm
      have hN1 : (N : Int) < ((N + 1 : Nat) : Int) := by omega
      have hN2 : ¬ (N : Int) < 0 := by omega
      have hN3 : (N : Int) ≤ (cap4 : Int) := by have := P3.out; omega
      clear hFi hSa hK0 hTm hTl hRW
      refine wp_region_kp (by kernel_rfl) (by kernel_rfl) ?_
      repeat (first
        | go_big_quiet_skip
        | (go_big_quiet_want
           go_big_quiet_op
           first
             | go_big_quiet_on
             | (apply Exists.intro
                refine ⟨fun w1 hC => ?_, ?_⟩
                · first
                    | (go_at_call 27; with_reducible exact hC.call_same (HFi.out _ hC))
                    | (go_at_call 26; with_reducible exact hC.call (HSa.out _ hC))
                    | (obtain ⟨p0, p1, p2, p3, _⟩ := cells4 (hC.blk F0); have p4 := HK0.out _ hC; go_simp; exact rfl)
                go_big_quiet_on)))
      refine wpQuiet_nil ?_
      intro W' hC
      have hTX := text_c _ m W' (by have := P3.out; omega) (HTm.out _ hC) (fun t ht => Nat.le_trans (P8.out t ht) (by omega))
      rw [HM.out.1, HM.out.2] at hTX
      have HTX := Lib.hid hTX
      have hb7 := hb6.trans (Below.mono hC hb6.size)
      clear hTX hC
      go_wp2_with fail
      refine HTX.out.mono ?_
      rintro e w8 ⟨rfl, hb8⟩
      replace hb7 := hb7.trans (hb8.mono hb7.size)
      go_wp2_with (go_at_call 13; refine (awake_c _).mono ?_; rintro e w9 ⟨rfl, hq⟩; replace hb7 := hb7.trans (hq.mono hb7.size); clear hq)
      go_ret
      exact ⟨rfl, hb7⟩
    · have hno := textR_no hc
      obtain ⟨C, hC⟩ : ∃ C, (textR l).2 = C := ⟨_, rfl⟩
      rw [hno, hC] at hS
      rw [hC] at hc
      have q : (C != 0) = true := by simpa using hc
      have HS := Lib.hid hS
      clear hS hno hC hc hT
      go_enter Try.func7, Try.ntmps7
      go_wp2_with fail
      refine HF.out.mono ?_
      rintro e w2 ⟨rfl, rfl⟩
      go_wp2_with fail
      refine HS.out.mono ?_
      rintro e w3 ⟨rfl, hb3⟩
      go_wp2_with (go_at_call 13; refine (awake_c _).mono ?_; rintro e w6 ⟨rfl, hq⟩; replace hb3 := hb3.trans (hq.mono hb3.size); clear hq)
      go_ret
      exact ⟨rfl, hb3⟩
end Go.Proofs.Ythjfedkginjbeaa
