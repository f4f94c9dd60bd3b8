/- The reference's level of a level in a source. -/
import Derived.Test.YthjebccidcichaaLvi
import Derived.Deep.RegionHeld3
namespace Go.Proofs.Ythjebccidcichaa
open Go.RowKit
theorem rproper_b (v u : Value) (l m : List ByteArray) (w : World) (hV : Strs w v l) (hU : Strs w u m) (hF : Few l) (hG : Few m) :
    Calls Try.prog 48 #[v, u] w fun e w' => e = .returned (.bool (proper l m)) ∧ Below w.heap.size w w' :=
  (rproper_c v u l m w hV hU hF hG).mono fun _ _ h => ⟨h.1, h.2 ▸ Below.refl _ _⟩
set_option maxRecDepth 100000 in
set_option maxHeartbeats 4000000 in
theorem rlevel_c (cv v u : Value) (sn : ByteArray) (L : List Sp) (l m : List ByteArray) (w : World) (hS : Spans w cv L) (hV : Strs w v l) (hU : Strs w u m) (hF : Few l) (hG : Few m) (hL : L.length ≤ 1000000000000) :
    Calls Try.prog 36 #[.agg #[.string sn, cv], v, u] w fun e w' => e = .returned (.tuple #[.agg #[.int .i64 (levS l m sn L), .int .u64 (levC l m sn L)], .int .i64 (levE l m sn L)]) ∧ Below w.heap.size w w' := by
  obtain ⟨E, hE⟩ : ∃ E, levE l m sn L = E := ⟨_, rfl⟩
  obtain ⟨S, hSS⟩ : ∃ S, levS l m sn L = S := ⟨_, rfl⟩
  obtain ⟨C, hCC⟩ : ∃ C, levC l m sn L = C := ⟨_, rfl⟩
  have hSS2 := hSS
  have hCC2 := hCC
  unfold levS at hSS2
  unfold levC at hCC2
  rw [hE, hSS, hCC]
  rw [hE] at hSS2 hCC2
  unfold levE at hE
  clear hSS hCC
  have hS0 : E ≠ 0 → S = 0 ∧ C = 0 := fun h => by rw [if_neg h] at hSS2 hCC2; exact ⟨hSS2.symm, hCC2.symm⟩
  obtain ⟨ao, cap, rfl, _⟩ := id hV
  obtain ⟨ao2, cap2, rfl, _⟩ := id hU
  obtain ⟨aos, caps, rfl, _⟩ := id hS
  have hPR := Lib.hid (fun W (hW : Kp w W) => rproper_b _ _ l m W (hV.keep hW) (hU.keep hW) hF hG)
  have hl := hF.1
  have hIX := Lib.hid (fun W (hW : Kp w W) => rindex_c _ l sn W (hV.keep hW) (by omega))
  obtain ⟨p, hp⟩ : ∃ p, proper l m = p := ⟨_, rfl⟩
  rw [hp] at hPR hE
  obtain ⟨F, hFi⟩ : ∃ F, idxS l sn = F := ⟨_, rfl⟩
  rw [hFi] at hIX hE hSS2
  obtain ⟨hB1, hB2, hW0, hfr⟩ := two_box w 50 24 #[.string sn, .slice aos L.length caps] #[.int .i64 0, .int .u64 0]
  clear hfr
  cases p
  · rw [if_pos rfl] at hE
    subst hE
    obtain ⟨rfl, rfl⟩ := hS0 (by decide)
    clear hSS2 hCC2 hS0 hFi hp hIX
    go_enter Try.func36, Try.ntmps36
    go_wp2_with fail
    refine (hPR.out _ hW0).mono ?_
    rintro e w2 ⟨rfl, hb2⟩
    have hC := Kp.step (W := w) hW0 hb2
    have q2 := hB2.keep hb2
    obtain ⟨z0, z1, z2, z3⟩ := q2.cells2
    go_wp2_with fail
    obtain ⟨r0, r1⟩ := (q2.set2 (.int .i64 0) (.int .u64 0)).box2
    exact bodyPost_ret (v := .tuple #[.agg #[.int .i64 0, .int .u64 0], .int .i64 2]) (by simp [results, Try.results36, go_sem, r0, r1]) rfl ⟨rfl, below_set2 hC (Nat.le_succ _) _ _⟩
  · rw [if_neg (by decide)] at hE
    have hm := (proper_len hp).2
    by_cases hF0 : F < 0
    · rw [if_pos hF0] at hE
      subst hE
      obtain ⟨rfl, rfl⟩ := hS0 (by decide)
      clear hSS2 hCC2 hS0 hFi hp
      go_enter Try.func36, Try.ntmps36
      go_wp2_with fail
      refine (hPR.out _ hW0).mono ?_
      rintro e w2 ⟨rfl, hb2⟩
      have hC := Kp.step (W := w) hW0 hb2
      have q1 := hB1.keep hb2
      have q2 := hB2.keep hb2
      obtain ⟨y0, y1, y2, y3⟩ := q1.cells2
      obtain ⟨z0, z1, z2, z3⟩ := q2.cells2
      have qa : ∀ o, (w2.alloc o).cell? ⟨w.heap.size + 1, 0, none⟩ = some (.int .i64 0) := fun o => (q2.alloc o).cell 0
      have qb : ∀ o, (w2.alloc o).cell? ⟨w.heap.size + 1, 1, none⟩ = some (.int .u64 0) := fun o => (q2.alloc o).cell 1
      have qc : ∀ o, (w2.alloc o).frozen? ⟨w.heap.size + 1, 0, none⟩ = false := fun o => (q2.alloc o).frozen 0
      have qd : ∀ o, (w2.alloc o).frozen? ⟨w.heap.size + 1, 1, none⟩ = false := fun o => (q2.alloc o).frozen 1
      go_wp2_with (go_at_call 52; refine (hIX.out _ (by assumption)).mono ?_; rintro e w3 ⟨rfl, rfl⟩)
      obtain ⟨r0, r1⟩ := ((q2.alloc (.cells #[.int .i64 F, .int .u64 0] 24)).set2 (.int .i64 0) (.int .u64 0)).box2
      exact bodyPost_ret (v := .tuple #[.agg #[.int .i64 0, .int .u64 0], .int .i64 11]) (by simp [results, Try.results36, go_sem, r0, r1]) rfl ⟨rfl, below_set2 (hC.alloc _) (Nat.le_succ _) _ _⟩
    · rw [if_neg hF0] at hE
      have hE2 : spsC m L = E := hE
      have hSE : E = 0 → S = F := fun h => by rw [if_pos h] at hSS2; exact hSS2.symm
      have hCE : E = 0 → C = spsB m L := fun h => by rw [if_pos h] at hCC2; exact hCC2.symm
      have HS0 := Lib.hid hS0
      have HSE := Lib.hid hSE
      have HCE := Lib.hid hCE
      have HE := Lib.hid hE2
      have HU := Lib.hid hU
      have HS := Lib.hid hS
      have HB1 := Lib.hid hB1
      have HB2 := Lib.hid hB2
      have HFi := Lib.hid hFi
      clear hSS2 hCC2 hS0 hSE hCE hE hE2 hp hFi hS hU hV
      go_enter Try.func36, Try.ntmps36
      go_wp2_with fail
      refine (hPR.out _ hW0).mono ?_
      rintro e w2 ⟨rfl, hb2⟩
      have hC := Kp.step (W := w) hW0 hb2
      have q1 := HB1.out.keep hb2
      have q2 := HB2.out.keep hb2
      obtain ⟨y0, y1, y2, y3⟩ := q1.cells2
      have ya : ∀ o, (w2.alloc o).cell? ⟨w.heap.size, 1, none⟩ = some (.slice aos L.length caps) := fun o => (q1.alloc o).cell 1
      have HQ1 := Lib.hid q1
      have HQ2 := Lib.hid q2
      clear q1 q2
      go_wp2_with (go_at_call 52; refine (hIX.out _ (by assumption)).mono ?_; rintro e w3 ⟨rfl, rfl⟩)
      have hC' : Kp w (w3.alloc (.cells #[.int .i64 F, .int .u64 0] 24 )) := hC.alloc _
      have q1 := HQ1.out.alloc (.cells #[.int .i64 F, .int .u64 0] 24 )
      have q2 := HQ2.out.alloc (.cells #[.int .i64 F, .int .u64 0] 24 )
      have q3 := Blk.new w3 24 #[.int .i64 F, .int .u64 0]
      generalize w3.alloc (.cells #[.int .i64 F, .int .u64 0] 24 ) = w4 at *
      have hg8 : w.heap.size ≤ w3.heap.size := hC.size
      have hg9 : w.heap.size + 1 < w3.heap.size := HQ2.out.lt
      generalize w3.heap.size = g8 at *
      clear hb2 y0 y1 y2 y3 ya HQ1 HQ2 hC HB1 HB2 hW0
      go_loopw [9] (fun vi wr => ∃ (i A : Nat), i ≤ L.length ∧ vi = .int .i64 i ∧ Hid (∀ k (_ : k < i) (h : k < L.length), spCode m L[k] = 0) ∧ Hid (spsB m (L.take i) = A) ∧ Kp w wr ∧ Blk wr w.heap.size 50 #[.string sn, .slice aos L.length caps] ∧ Blk wr (w.heap.size + 1) 24 #[.int .i64 0, .int .u64 0] ∧ Blk wr g8 24 #[.int .i64 F, .int .u64 A]) (fun vi _ => L.length - (intOf vi).toNat)
      case atStart => exact ⟨0, 0, Nat.zero_le _, rfl, Lib.hid (fun k h => absurd h (by omega)), Lib.hid rfl, hC', q1, q2, q3⟩
      case round =>
        obtain ⟨i, A, hi, rfl, HA, HB, hC, q1, q2, q3⟩ := hrel
        obtain ⟨y0, y1, y2, y3⟩ := q1.cells2
        by_cases hlt : i < L.length
        · have hlt' : (i : Int) < (L.length : Int) := by omega
          obtain ⟨ao', cap', hv, hr⟩ := HS.out.keep hC
          cases hv
          obtain ⟨g, o, rfl, hRow⟩ := hr (by rintro rfl; simp at hlt)
          obtain ⟨s1, s2⟩ := hRow i hlt
          obtain ⟨sp, hsp⟩ : ∃ sp, L[i] = sp := ⟨_, rfl⟩
          rw [hsp] at s1 s2
          obtain ⟨x1, x2⟩ := sp
          obtain ⟨f, hf⟩ : ∃ f, idxS m x1 = f := ⟨_, rfl⟩
          obtain ⟨t, ht⟩ : ∃ t, idxS m x2 = t := ⟨_, rfl⟩
          have fb := idx_bd m x1
          have tb := idx_bd m x2
          have HI1 := Lib.hid (rindex_c _ m x1 wr (HU.out.keep hC) (by omega))
          have HI2 := Lib.hid (rindex_c _ m x2 wr (HU.out.keep hC) (by omega))
          rw [hf] at fb HI1
          rw [ht] at tb HI2
          have HBAD : Hid (∀ c : Int, c ≠ 0 → spCode m (x1, x2) = c → E = c) := Lib.hid fun c h0 h => by
            rw [← HE.out, ← h, ← hsp]
            exact spsC_at hlt HA.out (by rw [hsp, h]; exact h0)
          have HSF : Hid (spF m (x1, x2) = f) := Lib.hid hf
          have he := empty_beq x2
          by_cases hz : x2.size = 0
          · rw [decide_eq_true hz] at he
            have HST : Hid (spT m (x1, x2) = f) := Lib.hid (by unfold spT; rw [if_pos hz]; exact hf)
            have HCO : Hid (spCode m (x1, x2) = if f < 0 ∨ f < 0 then 11 else if f < f then 18 else 0) := Lib.hid (by unfold spCode; rw [HSF.out, HST.out])
            clear hf ht hz HI2
            by_cases hf0 : f < 0
            · skip
              obtain rfl : E = 11 := HBAD.out 11 (by decide) (by rw [HCO.out, if_pos (.inl hf0)])
              obtain ⟨rfl, rfl⟩ := HS0.out (by decide)
              obtain ⟨b1, b2, b3, b4⟩ := q2.cells2
              have HQ2 := Lib.hid q2
              clear q2 q1 q3
              go_wp2_with fail
              refine HI1.out.mono ?_
              rintro e w5 ⟨rfl, rfl⟩
              go_wp2_with fail
              obtain ⟨r0, r1⟩ := (HQ2.out.set2 (.int .i64 0) (.int .u64 0)).box2
              exact bodyPost_ret (v := .tuple #[.agg #[.int .i64 0, .int .u64 0], .int .i64 11]) (by simp [results, Try.results36, go_sem, r0, r1]) rfl ⟨rfl, below_set2 hC (Nat.le_succ _) _ _⟩
            · skip
              obtain ⟨f, rfl⟩ : ∃ x : Nat, f = x := ⟨f.toNat, by omega⟩
              have hc := HCO.out
              rw [if_neg (by omega), if_neg (by omega)] at hc
              have hX : spBits m (x1, x2) = orB 0 f (f + 1 - f) := by unfold spBits; rw [if_pos hc, HSF.out, HST.out]; simp
              have HX2 : Hid (spsB m (L.take (i + 1)) = orB A f (f + 1 - f)) := Lib.hid (by rw [spsB_step hlt, HB.out, hsp, hX, ← orB_or])
              have HA1 : Hid (A < U64) := Lib.hid (HB.out ▸ spsB_lt hm i)
              have HA2 : Hid (∀ k (_ : k < i + 1) (h : k < L.length), spCode m L[k] = 0) := Lib.hid fun k hk h => by
                rcases Nat.lt_or_ge k i with h' | h'
                · exact HA.out k h' h
                · obtain rfl : k = i := by omega
                  rw [hsp]; exact hc
              have hf64 : f < 64 := by omega
              have hft : f ≤ f := by omega
              have HQ1 := Lib.hid q1
              have HQ2 := Lib.hid q2
              have HQ3 := Lib.hid q3
              clear HBAD HCO HSF HST hX hc HB HA hRow hsp q1 q2 q3
              go_wp2_with fail
              refine HI1.out.mono ?_
              rintro e w5 ⟨rfl, rfl⟩
              go_wp2_with fail
              go_loopw [12] (fun vn wq => ∃ (k n B : Nat), k ≤ f + 1 - f ∧ Hid (n = f + k) ∧ Hid (orB A f k = B) ∧ vn = .int .i64 n ∧ Kp w wq ∧ Blk wq w.heap.size 50 #[.string sn, .slice (some ⟨g, o, none⟩) L.length caps] ∧ Blk wq (w.heap.size + 1) 24 #[.int .i64 0, .int .u64 0] ∧ Blk wq g8 24 #[.int .i64 F, .int .u64 B]) (fun vn _ => f + 1 - (intOf vn).toNat)
              case atStart => exact ⟨0, f, A, Nat.zero_le _, Lib.hid rfl, Lib.hid rfl, rfl, hC, HQ1.out, HQ2.out, HQ3.out⟩
              case round =>
                clear hC HQ1 HQ2 HQ3
                obtain ⟨k, n, B, hk, Hn, HBB, rfl, hC, q1, q2, q3⟩ := hrel
                have hn := Hn.out
                obtain ⟨y0, y1, y2, y3⟩ := q3.cells2
                by_cases hnt : n ≤ f
                · have hnt' : (n : Int) ≤ (f : Int) := by omega
                  have hB64 : B < U64 := by rw [← HBB.out]; exact orB_lt HA1.out k (by omega)
                  obtain ⟨P, hP1, hP2⟩ := or_step B n hB64 (by omega)
                  obtain ⟨D, hDD⟩ : ∃ D, B ||| 2 ^ n = D := ⟨_, rfl⟩
                  rw [hDD] at hP2
                  have HD2 : Hid (orB A f (k + 1) = D) := Lib.hid (by simp only [orB]; rw [HBB.out, ← hn, hDD])
                  have HN2 : Hid (n + 1 = f + (k + 1)) := Lib.hid (by omega)
                  have Z1 := q1.far (p := ⟨g8, 1, none⟩) (Nat.ne_of_lt (Nat.lt_trans (Nat.lt_succ_self _) hg9)) (.int .u64 (D : Int))
                  have Z2 := q2.far (p := ⟨g8, 1, none⟩) (Nat.ne_of_lt hg9) (.int .u64 (D : Int))
                  have Z3 := q3.set 1 (.int .u64 (D : Int))
                  have HZ := Lib.hid (And.intro Z1 (And.intro Z2 Z3))
                  have HCq := Lib.hid (hC.setCell (p := ⟨g8, 1, none⟩) hg8 (.int .u64 (D : Int)))
                  clear hn hDD hB64 Z1 Z2 Z3
                  go_wp2_with fail
                  exact ⟨⟨k + 1, n + 1, D, by have := HN2.out; omega, HN2, HD2, by go_num, HCq.out, HZ.out.1, HZ.out.2.1, by simpa using HZ.out.2.2⟩, by simp [intOf]; omega⟩
                · have hnt' : ¬ (n : Int) ≤ (f : Int) := by omega
                  obtain rfl : k = f + 1 - f := by omega
                  have HQ1 := Lib.hid q1
                  have HQ2 := Lib.hid q2
                  have HQ3 := Lib.hid q3
                  clear hn q1 q2 q3
                  go_wp2_with fail
                  exact ⟨⟨i + 1, B, hlt, by go_num, HA2, Lib.hid (HX2.out.trans HBB.out), hC, HQ1.out, HQ2.out, HQ3.out⟩, by simp [intOf]; omega⟩
          · rw [decide_eq_false hz] at he
            have HST : Hid (spT m (x1, x2) = t) := Lib.hid (by unfold spT; rw [if_neg hz]; exact ht)
            have HCO : Hid (spCode m (x1, x2) = if f < 0 ∨ t < 0 then 11 else if t < f then 18 else 0) := Lib.hid (by unfold spCode; rw [HSF.out, HST.out])
            clear hf ht hz
            by_cases hf0 : f < 0
            · skip
              obtain rfl : E = 11 := HBAD.out 11 (by decide) (by rw [HCO.out, if_pos (.inl hf0)])
              obtain ⟨rfl, rfl⟩ := HS0.out (by decide)
              obtain ⟨b1, b2, b3, b4⟩ := q2.cells2
              have HQ2 := Lib.hid q2
              clear q2 q1 q3
              go_wp2_with fail
              refine HI1.out.mono ?_
              rintro e w5 ⟨rfl, rfl⟩
              go_wp2_with fail
              refine HI2.out.mono ?_
              rintro e w6 ⟨rfl, rfl⟩
              go_wp2_with fail
              obtain ⟨r0, r1⟩ := (HQ2.out.set2 (.int .i64 0) (.int .u64 0)).box2
              exact bodyPost_ret (v := .tuple #[.agg #[.int .i64 0, .int .u64 0], .int .i64 11]) (by simp [results, Try.results36, go_sem, r0, r1]) rfl ⟨rfl, below_set2 hC (Nat.le_succ _) _ _⟩
            · by_cases ht0 : t < 0
              · skip
                obtain rfl : E = 11 := HBAD.out 11 (by decide) (by rw [HCO.out, if_pos (.inr ht0)])
                obtain ⟨rfl, rfl⟩ := HS0.out (by decide)
                obtain ⟨b1, b2, b3, b4⟩ := q2.cells2
                have HQ2 := Lib.hid q2
                clear q2 q1 q3
                go_wp2_with fail
                refine HI1.out.mono ?_
                rintro e w5 ⟨rfl, rfl⟩
                go_wp2_with fail
                refine HI2.out.mono ?_
                rintro e w6 ⟨rfl, rfl⟩
                go_wp2_with fail
                obtain ⟨r0, r1⟩ := (HQ2.out.set2 (.int .i64 0) (.int .u64 0)).box2
                exact bodyPost_ret (v := .tuple #[.agg #[.int .i64 0, .int .u64 0], .int .i64 11]) (by simp [results, Try.results36, go_sem, r0, r1]) rfl ⟨rfl, below_set2 hC (Nat.le_succ _) _ _⟩
              · by_cases htf : t < f
                · skip
                  obtain rfl : E = 18 := HBAD.out 18 (by decide) (by rw [HCO.out, if_neg (by omega), if_pos htf])
                  obtain ⟨rfl, rfl⟩ := HS0.out (by decide)
                  obtain ⟨b1, b2, b3, b4⟩ := q2.cells2
                  have HQ2 := Lib.hid q2
                  clear q2 q1 q3
                  go_wp2_with fail
                  refine HI1.out.mono ?_
                  rintro e w5 ⟨rfl, rfl⟩
                  go_wp2_with fail
                  refine HI2.out.mono ?_
                  rintro e w6 ⟨rfl, rfl⟩
                  go_wp2_with fail
                  obtain ⟨r0, r1⟩ := (HQ2.out.set2 (.int .i64 0) (.int .u64 0)).box2
                  exact bodyPost_ret (v := .tuple #[.agg #[.int .i64 0, .int .u64 0], .int .i64 18]) (by simp [results, Try.results36, go_sem, r0, r1]) rfl ⟨rfl, below_set2 hC (Nat.le_succ _) _ _⟩
                · skip
                  obtain ⟨f, rfl⟩ : ∃ x : Nat, f = x := ⟨f.toNat, by omega⟩
                  obtain ⟨t, rfl⟩ : ∃ x : Nat, t = x := ⟨t.toNat, by omega⟩
                  have hc := HCO.out
                  rw [if_neg (by omega), if_neg (by omega)] at hc
                  have hX : spBits m (x1, x2) = orB 0 f (t + 1 - f) := by unfold spBits; rw [if_pos hc, HSF.out, HST.out]; rfl
                  have HX2 : Hid (spsB m (L.take (i + 1)) = orB A f (t + 1 - f)) := Lib.hid (by rw [spsB_step hlt, HB.out, hsp, hX, ← orB_or])
                  have HA1 : Hid (A < U64) := Lib.hid (HB.out ▸ spsB_lt hm i)
                  have HA2 : Hid (∀ k (_ : k < i + 1) (h : k < L.length), spCode m L[k] = 0) := Lib.hid fun k hk h => by
                    rcases Nat.lt_or_ge k i with h' | h'
                    · exact HA.out k h' h
                    · obtain rfl : k = i := by omega
                      rw [hsp]; exact hc
                  have hf64 : t < 64 := by omega
                  have hft : f ≤ t := by omega
                  have HQ1 := Lib.hid q1
                  have HQ2 := Lib.hid q2
                  have HQ3 := Lib.hid q3
                  clear HBAD HCO HSF HST hX hc HB HA hRow hsp q1 q2 q3
                  go_wp2_with fail
                  refine HI1.out.mono ?_
                  rintro e w5 ⟨rfl, rfl⟩
                  go_wp2_with fail
                  refine HI2.out.mono ?_
                  rintro e w6 ⟨rfl, rfl⟩
                  go_wp2_with fail
                  go_loopw [12] (fun vn wq => ∃ (k n B : Nat), k ≤ t + 1 - f ∧ Hid (n = f + k) ∧ Hid (orB A f k = B) ∧ vn = .int .i64 n ∧ Kp w wq ∧ Blk wq w.heap.size 50 #[.string sn, .slice (some ⟨g, o, none⟩) L.length caps] ∧ Blk wq (w.heap.size + 1) 24 #[.int .i64 0, .int .u64 0] ∧ Blk wq g8 24 #[.int .i64 F, .int .u64 B]) (fun vn _ => t + 1 - (intOf vn).toNat)
                  case atStart => exact ⟨0, f, A, Nat.zero_le _, Lib.hid rfl, Lib.hid rfl, rfl, hC, HQ1.out, HQ2.out, HQ3.out⟩
                  case round =>
                    clear hC HQ1 HQ2 HQ3
                    obtain ⟨k, n, B, hk, Hn, HBB, rfl, hC, q1, q2, q3⟩ := hrel
                    have hn := Hn.out
                    obtain ⟨y0, y1, y2, y3⟩ := q3.cells2
                    by_cases hnt : n ≤ t
                    · have hnt' : (n : Int) ≤ (t : Int) := by omega
                      have hB64 : B < U64 := by rw [← HBB.out]; exact orB_lt HA1.out k (by omega)
                      obtain ⟨P, hP1, hP2⟩ := or_step B n hB64 (by omega)
                      obtain ⟨D, hDD⟩ : ∃ D, B ||| 2 ^ n = D := ⟨_, rfl⟩
                      rw [hDD] at hP2
                      have HD2 : Hid (orB A f (k + 1) = D) := Lib.hid (by simp only [orB]; rw [HBB.out, ← hn, hDD])
                      have HN2 : Hid (n + 1 = f + (k + 1)) := Lib.hid (by omega)
                      have Z1 := q1.far (p := ⟨g8, 1, none⟩) (Nat.ne_of_lt (Nat.lt_trans (Nat.lt_succ_self _) hg9)) (.int .u64 (D : Int))
                      have Z2 := q2.far (p := ⟨g8, 1, none⟩) (Nat.ne_of_lt hg9) (.int .u64 (D : Int))
                      have Z3 := q3.set 1 (.int .u64 (D : Int))
                      have HZ := Lib.hid (And.intro Z1 (And.intro Z2 Z3))
                      have HCq := Lib.hid (hC.setCell (p := ⟨g8, 1, none⟩) hg8 (.int .u64 (D : Int)))
                      clear hn hDD hB64 Z1 Z2 Z3
                      go_wp2_with fail
                      exact ⟨⟨k + 1, n + 1, D, by have := HN2.out; omega, HN2, HD2, by go_num, HCq.out, HZ.out.1, HZ.out.2.1, by simpa using HZ.out.2.2⟩, by simp [intOf]; omega⟩
                    · have hnt' : ¬ (n : Int) ≤ (t : Int) := by omega
                      obtain rfl : k = t + 1 - f := by omega
                      have HQ1 := Lib.hid q1
                      have HQ2 := Lib.hid q2
                      have HQ3 := Lib.hid q3
                      clear hn q1 q2 q3
                      go_wp2_with fail
                      exact ⟨⟨i + 1, B, hlt, by go_num, HA2, Lib.hid (HX2.out.trans HBB.out), hC, HQ1.out, HQ2.out, HQ3.out⟩, by simp [intOf]; omega⟩
        · obtain rfl : i = L.length := by omega
          have hE0 : E = 0 := by rw [← HE.out]; exact spsC_all fun k h => HA.out k h h
          have hSF := HSE.out hE0
          have hCF := HCE.out hE0
          subst hE0
          have hBA : C = A := by rw [hCF, ← HB.out, List.take_length]
          subst hSF
          subst hBA
          have HQ2 := Lib.hid q2
          obtain ⟨a1, a2, a3, a4⟩ := q3.cells2
          obtain ⟨b1, b2, b3, b4⟩ := q2.cells2
          clear HA HB HE HSE HCE HS0 q2 q3 hCF
          go_wp2_with fail
          obtain ⟨r0, r1⟩ := (HQ2.out.set2 (.int .i64 S) (.int .u64 C)).box2
          exact bodyPost_ret (v := .tuple #[.agg #[.int .i64 S, .int .u64 C], .int .i64 0]) (by simp [results, Try.results36, go_sem, r0, r1]) rfl ⟨rfl, below_set2 hC (Nat.le_succ _) _ _⟩
end Go.Proofs.Ythjebccidcichaa
