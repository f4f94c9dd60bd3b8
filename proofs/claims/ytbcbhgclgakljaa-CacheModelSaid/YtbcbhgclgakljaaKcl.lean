/- Insert of a cache of New's. -/
import Derived.Test.YtbcbhgclgakljaaKck
namespace Go.Proofs.Ytbcbhgclgakljaa
open Go.RowKit Go.Maps Go.WideElems Go.WideShapes
section
variable {w w' : World} {F G : Nat → Prop} {c o r m : Nat} {s : CS} {S : List Lk}
set_option maxRecDepth 100000 in
set_option maxHeartbeats 8000000 in
theorem insert_stale (k : K3) (d : Dc) (h : CF w F c s) (hd : d.sq < s.seq) : Calls Try.prog 27 #[.pointer (some ⟨c, 0, none⟩), .int .i64 k.a, .int .i64 k.b, .int .i64 k.c, .agg #[.int .u32 d.al, .int .u32 d.aa, .int .u32 d.ad, .bool d.pm, .int .i64 d.sq]] w fun e w' => e = .returned (.int .i64 24) ∧ Below w.heap.size w w' := by
  have HB : Hid (Below w.heap.size w (w.alloc (.cells #[.int .u32 d.al, .int .u32 d.aa, .int .u32 d.ad, .bool d.pm, .int .i64 d.sq] 39))) := Lib.hid ((Below.refl _ _).alloc (Nat.le_refl _) _)
  have HV : Hid (Blk (w.alloc (.cells #[.int .u32 d.al, .int .u32 d.aa, .int .u32 d.ad, .bool d.pm, .int .i64 d.sq] 39)) w.heap.size 39 #[.int .u32 d.al, .int .u32 d.aa, .int .u32 d.ad, .bool d.pm, .int .i64 d.sq]) := Lib.hid (Blk.new _ _ _)
  have HM := Lib.hid (made_c (h.keep HB.out))
  obtain ⟨o, r, m, S, h1, _⟩ := h
  have HC := Lib.hid (h1.keep HB.out)
  have HLE : Hid (w.heap.size ≤ (w.alloc (.cells #[.int .u32 d.al, .int .u32 d.aa, .int .u32 d.ad, .bool d.pm, .int .i64 d.sq] 39)).heap.size) := Lib.hid HB.out.size
  clear h1
  go_enter Try.func27, Try.ntmps27
  go_upto_region 3 with (go_at_call 46; refine HM.out.mono ?_; rintro e w1 ⟨rfl, rfl⟩)
  generalize w.alloc (.cells #[.int .u32 d.al, .int .u32 d.aa, .int .u32 d.ad, .bool d.pm, .int .i64 d.sq] 39) = W at *
  generalize hgx : w.heap.size = gx at *
  refine wp_region_kp (by kernel_rfl) (by kernel_rfl) ?_
  repeat (first
    | go_big_quiet_skip
    | (go_big_quiet_want
       first
         | (go_big_quiet_op
            first
              | go_big_quiet_on
              | (apply Exists.intro
                 refine ⟨fun w1 hC => ?_, ?_⟩
                 · first
                     | (obtain ⟨c0, c1, c2, c3, c4, c5, c6, c7⟩ := (HC.out.keep hC).cells8; obtain ⟨d0, d1, d2, d3, d4, _⟩ := (HV.out.keep hC).cells5; go_simp; exact ⟨rfl, rfl⟩)
                     | (obtain ⟨c0, c1, c2, c3, c4, c5, c6, c7⟩ := (HC.out.keep hC).cells8; obtain ⟨d0, d1, d2, d3, d4, _⟩ := (HV.out.keep hC).cells5; go_simp; exact rfl)
                     | exact rfl
                     | (go_simp; exact ⟨rfl, rfl⟩)
                 go_big_quiet_on))))
  refine wpQuiet_nil ?_
  intro W1 hC1
  have HB1 : Hid (Below gx w W1) := Lib.hid (HB.out.trans (Below.mono hC1 HLE.out))
  clear hC1
  go_wp2_with fail
  go_ret
  exact ⟨rfl, by first | exact HB1.out | (rw [hgx]; exact HB1.out)⟩
set_option maxRecDepth 100000 in
set_option maxHeartbeats 8000000 in
theorem insert_a (k : K3) (d : Dc) (h : CF w F c s) (hd : ¬ d.sq < s.seq) (wk : WK k) (hl : s.L.length ≤ 100000) (hf : fullC s k = false) : Calls Try.prog 27 #[.pointer (some ⟨c, 0, none⟩), .int .i64 k.a, .int .i64 k.b, .int .i64 k.c, .agg #[.int .u32 d.al, .int .u32 d.aa, .int .u32 d.ad, .bool d.pm, .int .i64 d.sq]] w fun e w' => e = .returned (.int .i64 0) ∧ CTo w w' F c { s with L := (k, d) :: delK s.L k } := by
  have HB : Hid (Below w.heap.size w (w.alloc (.cells #[.int .u32 d.al, .int .u32 d.aa, .int .u32 d.ad, .bool d.pm, .int .i64 d.sq] 39))) := Lib.hid ((Below.refl _ _).alloc (Nat.le_refl _) _)
  have HV : Hid (Blk (w.alloc (.cells #[.int .u32 d.al, .int .u32 d.aa, .int .u32 d.ad, .bool d.pm, .int .i64 d.sq] 39)) w.heap.size 39 #[.int .u32 d.al, .int .u32 d.aa, .int .u32 d.ad, .bool d.pm, .int .i64 d.sq]) := Lib.hid (Blk.new _ _ _)
  have HM := Lib.hid (made_c (h.keep HB.out))
  obtain ⟨o, r, m, S, h1, h2, h3, h4, h5, h6⟩ := h
  have HC := Lib.hid (h1.keep HB.out)
  have HO := Lib.hid (h2.keep HB.out)
  have HS := Lib.hid h3
  have HFC := Lib.hid h4
  have HOF := Lib.hid h5
  have HLT := Lib.hid h6
  have HWK := Lib.hid wk
  have HCN := Lib.hid (c_ne h1 h2)
  have HSL : Hid (S.length ≤ 100000) := Lib.hid (by rw [← h3, List.length_map] at hl; exact hl)
  obtain ⟨b, hb, hq⟩ : ∃ b, hasK (S.map Lk.en) k = b ∧ (b = false → ((S.length : Int) == s.size) = false) := ⟨_, rfl, fun e => by
    unfold fullC at hf
    rw [← h3, e, List.length_map] at hf
    simpa using hf⟩
  have HHK : Hid (hasK (S.map Lk.en) k = b) := Lib.hid hb
  have HLE : Hid (w.heap.size ≤ (w.alloc (.cells #[.int .u32 d.al, .int .u32 d.aa, .int .u32 d.ad, .bool d.pm, .int .i64 d.sq] 39)).heap.size) := Lib.hid HB.out.size
  clear h1 h2 h3 h4 h5 h6 wk hl hf hb
  go_enter Try.func27, Try.ntmps27
  go_upto_region 3 with (go_at_call 46; refine HM.out.mono ?_; rintro e w1 ⟨rfl, rfl⟩)
  generalize w.alloc (.cells #[.int .u32 d.al, .int .u32 d.aa, .int .u32 d.ad, .bool d.pm, .int .i64 d.sq] 39) = W at *
  generalize hgx : w.heap.size = gx at *
  refine wp_region_kp (by kernel_rfl) (by kernel_rfl) ?_
  repeat (first
    | go_big_quiet_skip
    | (go_big_quiet_want
       first
         | (go_big_quiet_op
            first
              | go_big_quiet_on
              | (apply Exists.intro
                 refine ⟨fun w1 hC => ?_, ?_⟩
                 · first
                     | (obtain ⟨c0, c1, c2, c3, c4, c5, c6, c7⟩ := (HC.out.keep hC).cells8; obtain ⟨d0, d1, d2, d3, d4, _⟩ := (HV.out.keep hC).cells5; go_simp; exact ⟨rfl, rfl⟩)
                     | (obtain ⟨c0, c1, c2, c3, c4, c5, c6, c7⟩ := (HC.out.keep hC).cells8; obtain ⟨d0, d1, d2, d3, d4, _⟩ := (HV.out.keep hC).cells5; go_simp; exact rfl)
                     | exact rfl
                     | (go_simp; exact ⟨rfl, rfl⟩)
                 go_big_quiet_on))))
  refine wpQuiet_nil ?_
  intro W1 hC1
  have HB2 : Hid (Below W.heap.size W (W1.alloc (.cells #[.int .i64 k.a, .int .i64 k.b, .int .i64 k.c] 84))) := Lib.hid (Below.alloc hC1 hC1.size _)
  have HK2 : Hid (Blk (W1.alloc (.cells #[.int .i64 k.a, .int .i64 k.b, .int .i64 k.c] 84)) W1.heap.size 84 #[.int .i64 k.a, .int .i64 k.b, .int .i64 k.c]) := Lib.hid (Blk.new _ _ _)
  clear hC1
  go_upto_region 6 with fail
  have HC2 := Lib.hid (HC.out.keep HB2.out)
  have HV2 := Lib.hid (HV.out.keep HB2.out)
  have HO2 := Lib.hid (HO.out.keep HB2.out)
  generalize W1.alloc (.cells #[.int .i64 k.a, .int .i64 k.b, .int .i64 k.c] 84) = W2 at *
  generalize W1.heap.size = gk at *
  have HHAS : Hid (∀ u, Kp W2 u → Calls Try.prog 47 #[.pointer (some ⟨o, 0, none⟩), .agg #[.int .i64 k.a, .int .i64 k.b, .int .i64 k.c]] u fun e w' => e = .returned (.bool b) ∧ Below u.heap.size u w') := Lib.hid (fun u hu => by
    have := has_c k (HO2.out.keep hu) HWK.out
    rwa [HHK.out] at this)
  have HLEN : Hid (∀ u, Kp W2 u → Calls Try.prog 48 #[.pointer (some ⟨o, 0, none⟩)] u fun e w' => e = .returned (.int .i64 S.length) ∧ w' = u) := Lib.hid (fun u hu => len_c (HO2.out.keep hu))
  cases b
  all_goals
    (try have hq2 := hq rfl)
    refine wp_region_kp (by kernel_rfl) (by kernel_rfl) ?_
    repeat (first
      | go_big_quiet_skip
      | (go_big_quiet_want
         first
           | (go_big_quiet_op
              first
                | go_big_quiet_on
                | (apply Exists.intro
                   refine ⟨fun w1 hC => ?_, ?_⟩
                   · first
                       | (go_at_call 47; with_reducible exact hC.call (HHAS.out _ hC))
                       | (go_at_call 48; with_reducible exact hC.call_same (HLEN.out _ hC))
                       | (obtain ⟨c0, c1, c2, c3, c4, c5, c6, c7⟩ := (HC2.out.keep hC).cells8; have k0 := (HK2.out.keep hC).cell 0; have k1 := (HK2.out.keep hC).cell 1; have k2 := (HK2.out.keep hC).cell 2; go_simp; exact ⟨rfl, rfl⟩)
                       | (obtain ⟨c0, c1, c2, c3, c4, c5, c6, c7⟩ := (HC2.out.keep hC).cells8; have k0 := (HK2.out.keep hC).cell 0; have k1 := (HK2.out.keep hC).cell 1; have k2 := (HK2.out.keep hC).cell 2; go_simp; exact rfl)
                       | exact rfl
                       | (go_simp; exact ⟨rfl, rfl⟩)
                   go_big_quiet_on))))
    refine wpQuiet_nil ?_
    intro W3 hC3
    have HC3 := Lib.hid (HC2.out.keep hC3)
    have HV3 := Lib.hid (HV2.out.keep hC3)
    have HO3 := Lib.hid (HO2.out.keep hC3)
    have HK3 := Lib.hid (HK2.out.keep hC3)
    have HB3 : Hid (Below w.heap.size w W3) := Lib.hid (by rw [hgx]; exact HB.out.trans ((HB2.out.trans (Below.mono hC3 HB2.out.size)).mono HLE.out))
    clear hC3 HC2 HV2 HO2 HK2 HHAS HLEN
    go_upto_region 9 with fail
    refine wp_region_kt 6 (by kernel_rfl) (by kernel_rfl) ?_
    simp only [List.take_succ_cons, List.take_zero, List.drop_succ_cons, List.drop_zero]
    repeat (first
      | go_big_quiet_skip
      | (go_big_quiet_want
         first
           | (go_big_quiet_op
              first
                | go_big_quiet_on
                | (apply Exists.intro
                   refine ⟨fun w1 hC => ?_, ?_⟩
                   · first
                       | (obtain ⟨c0, c1, c2, c3, c4, c5, c6, c7⟩ := (HC3.out.keep hC).cells8; have k0 := (HK3.out.keep hC).cell 0; have k1 := (HK3.out.keep hC).cell 1; have k2 := (HK3.out.keep hC).cell 2; obtain ⟨d0, d1, d2, d3, d4, _⟩ := (HV3.out.keep hC).cells5; go_simp; exact ⟨rfl, rfl⟩)
                       | (obtain ⟨c0, c1, c2, c3, c4, c5, c6, c7⟩ := (HC3.out.keep hC).cells8; have k0 := (HK3.out.keep hC).cell 0; have k1 := (HK3.out.keep hC).cell 1; have k2 := (HK3.out.keep hC).cell 2; obtain ⟨d0, d1, d2, d3, d4, _⟩ := (HV3.out.keep hC).cells5; go_simp; exact rfl)
                       | exact rfl
                       | (go_simp; exact ⟨rfl, rfl⟩)
                   go_big_quiet_on))))
    refine wpQuiet_nil ?_
    intro W4 hC4
    have HP := Lib.hid (put_c k d (HO3.out.keep hC4) HWK.out HSL.out)
    have HC4 := Lib.hid (HC3.out.keep hC4)
    have HB4 : Hid (Below w.heap.size w W4) := Lib.hid (HB3.out.trans (Below.mono hC4 HB3.out.size))
    clear hC4 HC3 HV3 HO3 HK3
    go_wp2_with (first | (go_at_call 50; refine HP.out.mono ?_; rintro e w5 ⟨rfl, T, ho5, ht5, hf5, ha5⟩; have HO5 := Lib.hid ho5; have HT5 := Lib.hid ht5; have HF5 := Lib.hid hf5; have HA5 := Lib.hid ha5; clear ho5 ht5 hf5 ha5) | fail)
    go_ret
    refine ⟨rfl, CTo.mk HFC.out (HA5.out.blk HC4.out (fun e => HCN.out _ e rfl)) HO5.out (by rw [HT5.out, HS.out]) (fun j hj => ?_) ((Apart.of HB4.out).trans HA5.out (fun k hk => .inl (HOF.out k hk)))⟩
    rcases HF5.out j hj with h | h
    · exact .inl (HOF.out j h)
    · exact .inr (by have := HB4.out.size; omega)
set_option maxRecDepth 100000 in
set_option maxHeartbeats 8000000 in
theorem insert_b (k : K3) (d : Dc) (h : CF w F c s) (hd : ¬ d.sq < s.seq) (wk : WK k) (hl : s.L.length ≤ 100000) (hs1 : 1 ≤ s.size) (he : 0 ≤ s.evicted) (he2 : s.evicted ≤ 1000000) (hf : fullC s k = true) : Calls Try.prog 27 #[.pointer (some ⟨c, 0, none⟩), .int .i64 k.a, .int .i64 k.b, .int .i64 k.c, .agg #[.int .u32 d.al, .int .u32 d.aa, .int .u32 d.ad, .bool d.pm, .int .i64 d.sq]] w fun e w' => e = .returned (.int .i64 0) ∧ CTo w w' F c { s with evicted := s.evicted + 1, L := (k, d) :: delK s.L.dropLast k } := by
  have HB : Hid (Below w.heap.size w (w.alloc (.cells #[.int .u32 d.al, .int .u32 d.aa, .int .u32 d.ad, .bool d.pm, .int .i64 d.sq] 39))) := Lib.hid ((Below.refl _ _).alloc (Nat.le_refl _) _)
  have HV : Hid (Blk (w.alloc (.cells #[.int .u32 d.al, .int .u32 d.aa, .int .u32 d.ad, .bool d.pm, .int .i64 d.sq] 39)) w.heap.size 39 #[.int .u32 d.al, .int .u32 d.aa, .int .u32 d.ad, .bool d.pm, .int .i64 d.sq]) := Lib.hid (Blk.new _ _ _)
  have HM := Lib.hid (made_c (h.keep HB.out))
  obtain ⟨o, r, m, S, h1, h2, h3, h4, h5, h6⟩ := h
  unfold fullC at hf
  simp only [Bool.and_eq_true, Bool.not_eq_true', decide_eq_true_eq] at hf
  obtain ⟨hno, hlen⟩ := hf
  have hne : S ≠ [] := by
    rintro rfl
    rw [← h3] at hlen
    simp at hlen
    omega
  obtain ⟨S1, x, rfl⟩ : ∃ S1 x, S = S1 ++ [x] := ⟨S.dropLast, S.getLast hne, (List.dropLast_concat_getLast hne).symm⟩
  have HC := Lib.hid (h1.keep HB.out)
  have HO := Lib.hid (h2.keep HB.out)
  have HS : Hid (S1.map Lk.en = s.L.dropLast) := Lib.hid (by rw [← h3, List.map_append, List.map_cons, List.map_nil, List.dropLast_concat])
  have HFC := Lib.hid h4
  have HOF := Lib.hid h5
  have HLT := Lib.hid h6
  have HWK := Lib.hid wk
  have HCN := Lib.hid (c_ne h1 h2)
  have HSL : Hid (S1.length ≤ 100000) := Lib.hid (by rw [← h3, List.length_map, List.length_append] at hl; omega)
  have hq2 : (((S1 ++ [x]).length : Int) == s.size) = true := by rw [← h3, List.length_map] at hlen; simpa using hlen
  have HHK : Hid (hasK ((S1 ++ [x]).map Lk.en) k = false) := Lib.hid (by rw [h3]; exact hno)
  obtain ⟨n, hn⟩ : ∃ n : Nat, (S1 ++ [x]).length = n := ⟨_, rfl⟩
  rw [hn] at hq2
  have HN := Lib.hid hn
  have HLE : Hid (w.heap.size ≤ (w.alloc (.cells #[.int .u32 d.al, .int .u32 d.aa, .int .u32 d.ad, .bool d.pm, .int .i64 d.sq] 39)).heap.size) := Lib.hid HB.out.size
  clear h1 h2 h3 h4 h5 h6 wk hl hno hlen hne hn
  go_enter Try.func27, Try.ntmps27
  go_upto_region 3 with (go_at_call 46; refine HM.out.mono ?_; rintro e w1 ⟨rfl, rfl⟩)
  generalize w.alloc (.cells #[.int .u32 d.al, .int .u32 d.aa, .int .u32 d.ad, .bool d.pm, .int .i64 d.sq] 39) = W at *
  generalize hgx : w.heap.size = gx at *
  have hgxl : gx < W.heap.size := HV.out.lt
  refine wp_region_kp (by kernel_rfl) (by kernel_rfl) ?_
  repeat (first
    | go_big_quiet_skip
    | (go_big_quiet_want
       first
         | (go_big_quiet_op
            first
              | go_big_quiet_on
              | (apply Exists.intro
                 refine ⟨fun w1 hC => ?_, ?_⟩
                 · first
                     | (obtain ⟨c0, c1, c2, c3, c4, c5, c6, c7⟩ := (HC.out.keep hC).cells8; obtain ⟨d0, d1, d2, d3, d4, _⟩ := (HV.out.keep hC).cells5; go_simp; exact ⟨rfl, rfl⟩)
                     | (obtain ⟨c0, c1, c2, c3, c4, c5, c6, c7⟩ := (HC.out.keep hC).cells8; obtain ⟨d0, d1, d2, d3, d4, _⟩ := (HV.out.keep hC).cells5; go_simp; exact rfl)
                     | exact rfl
                     | (go_simp; exact ⟨rfl, rfl⟩)
                 go_big_quiet_on))))
  refine wpQuiet_nil ?_
  intro W1 hC1
  have HB2 : Hid (Below W.heap.size W (W1.alloc (.cells #[.int .i64 k.a, .int .i64 k.b, .int .i64 k.c] 84))) := Lib.hid (Below.alloc hC1 hC1.size _)
  have HK2 : Hid (Blk (W1.alloc (.cells #[.int .i64 k.a, .int .i64 k.b, .int .i64 k.c] 84)) W1.heap.size 84 #[.int .i64 k.a, .int .i64 k.b, .int .i64 k.c]) := Lib.hid (Blk.new _ _ _)
  have hgk : W.heap.size ≤ W1.heap.size := hC1.size
  clear hC1
  go_upto_region 6 with fail
  have HC2 := Lib.hid (HC.out.keep HB2.out)
  have HV2 := Lib.hid (HV.out.keep HB2.out)
  have HO2 := Lib.hid (HO.out.keep HB2.out)
  generalize W1.alloc (.cells #[.int .i64 k.a, .int .i64 k.b, .int .i64 k.c] 84) = W2 at *
  generalize W1.heap.size = gk at *
  have HHAS : Hid (∀ u, Kp W2 u → Calls Try.prog 47 #[.pointer (some ⟨o, 0, none⟩), .agg #[.int .i64 k.a, .int .i64 k.b, .int .i64 k.c]] u fun e w' => e = .returned (.bool false) ∧ Below u.heap.size u w') := Lib.hid (fun u hu => by
    have := has_c k (HO2.out.keep hu) HWK.out
    rwa [HHK.out] at this)
  have HLEN : Hid (∀ u, Kp W2 u → Calls Try.prog 48 #[.pointer (some ⟨o, 0, none⟩)] u fun e w' => e = .returned (.int .i64 n) ∧ w' = u) := Lib.hid (fun u hu => by
    have := len_c (HO2.out.keep hu)
    rwa [HN.out] at this)
  refine wp_region_kp (by kernel_rfl) (by kernel_rfl) ?_
  repeat (first
    | go_big_quiet_skip
    | (go_big_quiet_want
       first
         | (go_big_quiet_op
            first
              | go_big_quiet_on
              | (apply Exists.intro
                 refine ⟨fun w1 hC => ?_, ?_⟩
                 · first
                     | (go_at_call 47; with_reducible exact hC.call (HHAS.out _ hC))
                     | (go_at_call 48; with_reducible exact hC.call_same (HLEN.out _ hC))
                     | (obtain ⟨c0, c1, c2, c3, c4, c5, c6, c7⟩ := (HC2.out.keep hC).cells8; have k0 := (HK2.out.keep hC).cell 0; have k1 := (HK2.out.keep hC).cell 1; have k2 := (HK2.out.keep hC).cell 2; go_simp; exact ⟨rfl, rfl⟩)
                     | (obtain ⟨c0, c1, c2, c3, c4, c5, c6, c7⟩ := (HC2.out.keep hC).cells8; have k0 := (HK2.out.keep hC).cell 0; have k1 := (HK2.out.keep hC).cell 1; have k2 := (HK2.out.keep hC).cell 2; go_simp; exact rfl)
                     | exact rfl
                     | (go_simp; exact ⟨rfl, rfl⟩)
                 go_big_quiet_on))))
  refine wpQuiet_nil ?_
  intro W3 hC3
  have HC3 := Lib.hid (HC2.out.keep hC3)
  have HV3 := Lib.hid (HV2.out.keep hC3)
  have HK3 := Lib.hid (HK2.out.keep hC3)
  have HRM := Lib.hid (removeLast_c (HO2.out.keep hC3))
  have HB3 : Hid (Below w.heap.size w W3) := Lib.hid (by rw [hgx]; exact HB.out.trans ((HB2.out.trans (Below.mono hC3 HB2.out.size)).mono HLE.out))
  clear hC3 HC2 HV2 HO2 HK2 HHAS HLEN
  obtain ⟨c0, c1, c2, c3, c4, c5, c6, c7⟩ := HC3.out.cells8
  go_upto_region 8 with (go_at_call 49; refine HRM.out.mono ?_; rintro e w5 ⟨rfl, ho5, ha5⟩; have HO5 := Lib.hid ho5; have HA5 := Lib.hid ha5; clear ho5 ha5)
  clear c0 c1 c2 c3 c4 c5 c6 c7
  have HC5 := Lib.hid (HA5.out.blk HC3.out (fun e => HCN.out _ e rfl))
  have HV5 := Lib.hid (HA5.out.blk HV3.out (fun e => by have := HLT.out _ (HOF.out _ e); omega))
  have HK5 := Lib.hid (HA5.out.blk HK3.out (fun e => by have := HLT.out _ (HOF.out _ e); omega))
  obtain ⟨c0, c1, c2, c3, c4, c5, c6, c7⟩ := HC5.out.cells8
  have f6 := HC5.out.frozen 6
  have hcl : c < gx := by have := HLT.out c HFC.out; omega
  have HC6 : Hid (Blk (w5.setCell ⟨c, 6, none⟩ (.int .i64 (s.evicted + 1))) c 89 #[.pointer (some ⟨c, 0, none⟩), .int .i64 s.size, .int .i64 s.seq, .pointer (some ⟨o, 0, none⟩), .int .i64 s.hits, .int .i64 s.misses, .int .i64 (s.evicted + 1), .int .i64 s.resets]) := Lib.hid (by simpa using HC5.out.set 6 (.int .i64 (s.evicted + 1)))
  have HV6 := Lib.hid (HV5.out.far (p := ⟨c, 6, none⟩) (by simp; omega) (.int .i64 (s.evicted + 1)))
  have HK6 := Lib.hid (HK5.out.far (p := ⟨c, 6, none⟩) (by simp; omega) (.int .i64 (s.evicted + 1)))
  have hA6 : Apart (fun k => k = c) w5 (w5.setCell ⟨c, 6, none⟩ (.int .i64 (s.evicted + 1))) := Apart.setCell (F := fun k => k = c) (p := ⟨c, 6, none⟩) Apart.refl (.inl rfl) _
  have HO6 := Lib.hid (HO5.out.apart hA6 (c_ne HC5.out HO5.out))
  have HA6 : Hid (Apart F w (w5.setCell ⟨c, 6, none⟩ (.int .i64 (s.evicted + 1)))) := Lib.hid ((((Apart.of HB3.out)).trans HA5.out (fun k hk => .inl (HOF.out k hk))).trans hA6 (fun k hk => .inl (by subst hk; exact HFC.out)))
  clear hA6 HV5 HK5 HC5 HO5 HC3 HV3 HK3
  go_upto_region 9 with fail
  clear c0 c1 c2 c3 c4 c5 c6 c7 f6
  generalize w5.setCell ⟨c, 6, none⟩ (.int .i64 (s.evicted + 1)) = W6 at *
  refine wp_region_kt 6 (by kernel_rfl) (by kernel_rfl) ?_
  simp only [List.take_succ_cons, List.take_zero, List.drop_succ_cons, List.drop_zero]
  repeat (first
    | go_big_quiet_skip
    | (go_big_quiet_want
       first
         | (go_big_quiet_op
            first
              | go_big_quiet_on
              | (apply Exists.intro
                 refine ⟨fun w1 hC => ?_, ?_⟩
                 · first
                     | (obtain ⟨c0, c1, c2, c3, c4, c5, c6, c7⟩ := (HC6.out.keep hC).cells8; have k0 := (HK6.out.keep hC).cell 0; have k1 := (HK6.out.keep hC).cell 1; have k2 := (HK6.out.keep hC).cell 2; obtain ⟨d0, d1, d2, d3, d4, _⟩ := (HV6.out.keep hC).cells5; go_simp; exact ⟨rfl, rfl⟩)
                     | (obtain ⟨c0, c1, c2, c3, c4, c5, c6, c7⟩ := (HC6.out.keep hC).cells8; have k0 := (HK6.out.keep hC).cell 0; have k1 := (HK6.out.keep hC).cell 1; have k2 := (HK6.out.keep hC).cell 2; obtain ⟨d0, d1, d2, d3, d4, _⟩ := (HV6.out.keep hC).cells5; go_simp; exact rfl)
                     | exact rfl
                     | (go_simp; exact ⟨rfl, rfl⟩)
                 go_big_quiet_on))))
  refine wpQuiet_nil ?_
  intro W4 hC4
  have HP := Lib.hid (put_c k d (HO6.out.keep hC4) HWK.out HSL.out)
  have HC4 := Lib.hid (HC6.out.keep hC4)
  have HCN4 := Lib.hid (c_ne HC6.out HO6.out)
  have HA4 := Lib.hid (HA6.out.then hC4)
  clear hC4 HC6 HV6 HO6 HK6 HA6
  go_wp2_with (first | (go_at_call 50; refine HP.out.mono ?_; rintro e w7 ⟨rfl, T, ho7, ht7, hf7, ha7⟩; have HO7 := Lib.hid ho7; have HT7 := Lib.hid ht7; have HF7 := Lib.hid hf7; have HA7 := Lib.hid ha7; clear ho7 ht7 hf7 ha7) | fail)
  go_ret
  have hOf : ∀ k, Of o r m S1 k → Of o r m (S1 ++ [x]) k := by
    rintro k (h | h | h | ⟨y, hy, rfl⟩)
    · exact .inl h
    · exact .inr (.inl h)
    · exact .inr (.inr (.inl h))
    · exact .inr (.inr (.inr ⟨y, by simp [hy], rfl⟩))
  refine ⟨rfl, CTo.mk HFC.out (HA7.out.blk HC4.out (fun e => HCN4.out _ e rfl)) HO7.out (by rw [HT7.out, HS.out]) (fun j hj => ?_) (HA4.out.trans HA7.out (fun k hk => .inl (HOF.out k (hOf k hk))))⟩
  rcases HF7.out j hj with h | h
  · exact .inl (HOF.out j (hOf j h))
  · exact .inr (by have := HA4.out.size; omega)
/-- Insert -/
theorem insert_c {n : Nat} (k : K3) (d : Dc) (h : CF w F c s) (hs : Sm n s) (hn : n ≤ 1000000) (hok : OkC s) (wk : WK k) (hl : s.L.length ≤ 100000) :
    Calls Try.prog 27 #[.pointer (some ⟨c, 0, none⟩), .int .i64 k.a, .int .i64 k.b, .int .i64 k.c, .agg #[.int .u32 d.al, .int .u32 d.aa, .int .u32 d.ad, .bool d.pm, .int .i64 d.sq]] w fun e w' => e = .returned (.int .i64 (staleE d.sq s.seq)) ∧ CTo w w' F c (insC s k d) := by
  by_cases hd : d.sq < s.seq
  · refine (insert_stale k d h hd).mono ?_
    rintro e w' ⟨rfl, hb⟩
    unfold insC staleE
    rw [if_pos hd, if_pos hd]
    exact ⟨rfl, CTo.same h hb⟩
  · unfold insC putC staleE
    rw [if_neg hd, if_neg hd]
    cases hf : fullC s k
    · exact insert_a k d h hd wk hl hf
    · exact insert_b k d h hd wk hl hok.pos hs.e.1 (by have := hs.e.2; omega) hf
end
end Go.Proofs.Ytbcbhgclgakljaa
