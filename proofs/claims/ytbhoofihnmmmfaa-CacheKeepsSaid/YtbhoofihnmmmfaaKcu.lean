/- Two caches beside each other; the law CacheCopies walked. -/
import Derived.Test.YtbhoofihnmmmfaaKct
namespace Go.Proofs.Ytbhoofihnmmmfaa
open Go.RowKit Go.Maps Go.WideElems Go.WideShapes
structure Tw (w0 w : World) (a na : Nat) (s : CS) (b nb : Nat) (t : CS) : Prop where
  cf : ∃ F G, CF w F a s ∧ CF w G b t ∧ (∀ k, F k → ¬ G k) ∧ (∀ k, F k → w0.heap.size ≤ k) ∧ ∀ k, G k → w0.heap.size ≤ k
  be : Below w0.heap.size w0 w
  oks : OkC s
  okt : OkC t
  sms : Sm na s
  smt : Sm nb t
  szs : s.size ≤ 1024
  szt : t.size ≤ 1024
def runC (s : CS) (l : List Opr) : CS := l.foldl doC s
theorem run_step (s : CS) (l : List Opr) {i : Nat} {x : Opr} (h : l[i]? = some x) : runC s (l.take (i + 1)) = doC (runC s (l.take i)) x := by
  unfold runC
  rw [List.take_add_one, h, List.foldl_append]
  rfl
section
variable {w0 w w' : World} {a na b nb : Nat} {s t : CS}
theorem Tw.swap (h : Tw w0 w a na s b nb t) : Tw w0 w b nb t a na s := by
  obtain ⟨F, G, h1, h2, h3, h4, h5⟩ := h.cf
  exact ⟨⟨G, F, h2, h1, fun k hg hf => h3 k hf hg, h5, h4⟩, h.be, h.okt, h.oks, h.smt, h.sms, h.szt, h.szs⟩
theorem Tw.left (h : Tw w0 w a na s b nb t) : At w0 w (fun _ => False) a na s := by
  obtain ⟨F, G, h1, h2, h3, h4, h5⟩ := h.cf
  exact ⟨⟨F, h1, h4, fun _ h => h.elim⟩, fun _ h => h.elim, h.be, h.oks, h.sms, h.szs⟩
theorem Tw.right (h : Tw w0 w a na s b nb t) : At w0 w (fun _ => False) b nb t := h.swap.left
theorem Tw.keep (h : Tw w0 w a na s b nb t) (hb : Below w.heap.size w w') : Tw w0 w' a na s b nb t := by
  obtain ⟨F, G, h1, h2, h3, h4, h5⟩ := h.cf
  exact ⟨⟨F, G, h1.keep hb, h2.keep hb, h3, h4, h5⟩, h.be.trans (hb.mono h.be.size), h.oks, h.okt, h.sms, h.smt, h.szs, h.szt⟩
theorem play_tw (x : Opr) (h : Tw w0 w a na s b nb t) (hn : na ≤ 1000000) (wx : WO x) :
    Calls Try.prog 15 #[.pointer (some ⟨a, 0, none⟩), .agg #[.int .u8 x.kind, .int .i64 x.k.a, .int .i64 x.k.b, .int .i64 x.k.c, .int .u32 x.al, .int .i64 x.sq]] w fun e w' => e = .returned (.tuple #[]) ∧ Tw w0 w' a (na + 1) (doC s x) b nb t := by
  obtain ⟨F, G, h1, h2, h3, h4, h5⟩ := h.cf
  have hl : s.L.length ≤ 100000 := by have := h.oks.sz; have := h.szs; omega
  refine (play_c x h1 h.sms hn h.oks wx hl).mono ?_
  rintro e w' ⟨rfl, ⟨F', k1, k2⟩, ha⟩
  have hb := h.be.size
  refine ⟨rfl, ⟨F', G, k1, h2.apart ha (fun k hg hf => h3 k hf hg), fun k hf hg => ?_, fun k hf => ?_, h5⟩, h.be.trans (ha.below hb h4), h.oks.op x, h.okt, h.sms.op x, h.smt, by rw [doC_size]; exact h.szs, h.szt⟩
  · rcases k2 k hf with h | h
    · exact h3 k h hg
    · have := h2.lt k hg; omega
  · rcases k2 k hf with h | h
    · exact h4 k h
    · omega
/-- two caches, the second one made behind the first -/
theorem Tw.two {G : Nat → Prop} (h : At w0 w G a na s) (h2 : At w w' (fun _ => False) b nb t) : Tw w0 w' a na s b nb t := by
  obtain ⟨F, k1, k2, _⟩ := h.cf
  obtain ⟨F2, j1, j2, _⟩ := h2.cf
  have hb := h.b.size
  exact ⟨⟨F, F2, k1.keep h2.b, j1, fun k hf hg => by have := k1.lt k hf; have := j2 k hg; omega, k2, fun k hg => by have := j2 k hg; omega⟩, h.b.trans (h2.b.mono hb), h.ok, h2.ok, h.sm, h2.sm, h.sz, h2.sz⟩
end
set_option maxRecDepth 100000 in
set_option maxHeartbeats 16000000 in
theorem copies_out (size : Int) (l more : List Opr) (vl vm : Value) (w : World) (hP : Rows' RO w vl l) (hQ : Rows' RO w vm more) (hl : l.length ≤ maxLen) (hm : more.length ≤ maxLen) (hout : size < 1 ∨ 20 < size ∨ 60 < l.length ∨ 60 < more.length) :
    Calls Try.prog 8 #[.int .i64 size, vl, vm] w fun e w' => e = .returned (.bool true) ∧ Below w.heap.size w w' := by
  obtain ⟨aol, capl, rfl, hcl, _⟩ := id hP.form
  obtain ⟨aom, capm, rfl, hcm, _⟩ := id hQ.form
  unfold maxLen at hl hm
  by_cases h1 : size < 1
  · go_enter Try.func8, Try.ntmps8
    go_wp2_with (go_at_call 10; refine (awake_c _).mono ?_; rintro e w8 ⟨rfl, hb8⟩)
    go_ret
    exact ⟨rfl, hb8⟩
  · by_cases h2 : 20 < size
    · go_enter Try.func8, Try.ntmps8
      go_wp2_with (go_at_call 10; refine (awake_c _).mono ?_; rintro e w8 ⟨rfl, hb8⟩)
      go_ret
      exact ⟨rfl, hb8⟩
    · by_cases h3 : (60 : Int) < (l.length : Int)
      · go_enter Try.func8, Try.ntmps8
        go_wp2_with (go_at_call 10; refine (awake_c _).mono ?_; rintro e w8 ⟨rfl, hb8⟩)
        go_ret
        exact ⟨rfl, hb8⟩
      · have h4 : (60 : Int) < (more.length : Int) := by omega
        go_enter Try.func8, Try.ntmps8
        go_wp2_with (go_at_call 10; refine (awake_c _).mono ?_; rintro e w8 ⟨rfl, hb8⟩)
        go_ret
        exact ⟨rfl, hb8⟩
set_option maxRecDepth 100000 in
set_option maxHeartbeats 16000000 in
theorem copies_c (size : Int) (l : List Opr) (vl : Value) (more : List Opr) (vm : Value) (w : World) (hP : Rows' RO w vl l) (hW : ∀ x ∈ l, WO x) (hl : l.length ≤ maxLen) (hQ : Rows' RO w vm more) (hV : ∀ x ∈ more, WO x) (hm : more.length ≤ maxLen) :
    Calls Try.prog 8 #[.int .i64 size, vl, vm] w fun e w' => e = .returned (.bool true) ∧ Below w.heap.size w w' := by
  by_cases hout : size < 1 ∨ 20 < size ∨ 60 < l.length ∨ 60 < more.length
  · exact copies_out size l more vl vm w hP hQ hl hm hout
  · obtain ⟨aol, capl, rfl, hcl, _⟩ := id hP.form
    obtain ⟨aom, capm, rfl, hcm, _⟩ := id hQ.form
    have h1 : ¬ size < 1 := by omega
    have h2 : ¬ 20 < size := by omega
    have h3 : ¬ (60 : Int) < (l.length : Int) := by omega
    have h4 : ¬ (60 : Int) < (more.length : Int) := by omega
    have hl60 : l.length ≤ 60 := by omega
    have hm60 : more.length ≤ 60 := by omega
    have HP := Lib.hid hP
    have HWO := Lib.hid hW
    have HQ := Lib.hid hQ
    have HVO := Lib.hid hV
    obtain ⟨n, hn⟩ : ∃ n, l.length = n := ⟨_, rfl⟩
    obtain ⟨m, hmm⟩ : ∃ m, more.length = m := ⟨_, rfl⟩
    have HN := Lib.hid hn
    have HM := Lib.hid hmm
    have hq := fun (c : Nat) (u : World) => eqPN c u
    rw [hn] at hl60 h3 hcl ⊢
    rw [hmm] at hm60 h4 hcm ⊢
    clear hP hW hl hout hn hQ hV hm hmm
    go_enter Try.func8, Try.ntmps8
    go_upto_region 4 with (first | (go_at_call 11; refine (new_at size _ (by omega) (by omega)).mono ?_; rintro e w1 ⟨c, rfl, h1⟩; have H1 := Lib.hid h1; clear h1) | fail)
    go_upto_region 5 with (first | (go_at_call 11; refine (new_at size _ (by omega) (by omega)).mono ?_; rintro e w2 ⟨d, rfl, h2⟩; have H2 : Hid (Tw w w2 c 0 (newC size) d 0 (newC size)) := Lib.hid (Tw.two H1.out h2); clear h2) | fail)
    have hq2 := hq c
    have hq3 := hq d
    clear hq H1
    go_upto_region 7 with fail
    clear hq2 hq3
    go_wp2_with fail
    go_loopw [9] (fun vi wr => ∃ (i : Nat) (s : CS), i ≤ n ∧ vi = .int .i64 i ∧ Hid (Tw w wr c i s d i s)) (fun vi _ => n - (intOf vi).toNat)
    case atStart => exact ⟨0, newC size, Nat.zero_le _, rfl, H2⟩
    case round =>
      clear H2
      obtain ⟨i, s, hi, rfl, HA⟩ := hrel
      by_cases hlt : i < n
      · have hL : l[i]? = some (l[i]'(by rw [HN.out]; exact hlt)) := List.getElem?_eq_getElem _
        have hxm : l[i]'(by rw [HN.out]; exact hlt) ∈ l := List.getElem_mem _
        generalize l[i]'(by rw [HN.out]; exact hlt) = x at hL hxm
        have hwx := HWO.out x hxm
        obtain ⟨g, o, cap', e1, _⟩ := HP.out.some6 (by rintro rfl; simp at hL)
        simp only [Value.slice.injEq] at e1
        obtain ⟨rfl, -, rfl⟩ := e1
        have hltI : (i : Int) < (n : Int) := by omega
        have HL := Lib.hid hL
        obtain ⟨hgw, x0, x1, x2, x3, x4, x5⟩ := (HP.out.below HA.out.be).at6 rfl hL
        have HPL := Lib.hid (play_tw x HA.out (by omega) hwx)
        have HWX := Lib.hid hwx
        clear hL hxm hwx
        go_upto_region 11 with (first | (go_at_call 15; refine HPL.out.mono ?_; rintro e w3 ⟨rfl, h3⟩; have HB := Lib.hid h3; clear h3) | fail)
        clear x0 x1 x2 x3 x4 x5
        obtain ⟨hgw2, x0, x1, x2, x3, x4, x5⟩ := (HP.out.below HB.out.be).at6 rfl HL.out
        have HPM := Lib.hid (play_tw x HB.out.swap (by omega) HWX.out)
        clear HPL
        go_wp2_with (first | (go_at_call 15; refine HPM.out.mono ?_; rintro e w4 ⟨rfl, h4⟩; have HC := Lib.hid h4.swap; clear h4) | fail)
        exact ⟨⟨i + 1, doC s x, by omega, by go_num, HC⟩, by simp [intOf]; omega⟩
      · obtain rfl : i = n := by omega
        go_upto_region 13 with (first | (go_at_call 16; refine (copy_at HA.out.left).mono ?_; rintro e w5 ⟨k, rfl, h5, hb5⟩; have H5 := Lib.hid h5; have HA5 := Lib.hid (HA.out.keep hb5); have HT5 := Lib.hid (Tw.two HA.out.left h5); clear h5 hb5; have hq2 := eqPN k) | fail)
        go_wp2_with fail
        generalize wr = wA at *
        clear hq2 HT5
        go_loopw [11] (fun vi wr => ∃ j : Nat, j ≤ m ∧ vi = .int .i64 j ∧ Hid (At wA wr (fun _ => False) k (i + j) (runC s (more.take j)))) (fun vi _ => m - (intOf vi).toNat)
        case atStart => exact ⟨0, Nat.zero_le _, rfl, Lib.hid (by simpa [runC] using H5.out)⟩
        case round =>
          clear H5
          obtain ⟨j, hj, rfl, HK⟩ := hrel
          by_cases hlj : j < m
          · have hL : more[j]? = some (more[j]'(by rw [HM.out]; exact hlj)) := List.getElem?_eq_getElem _
            have hxm : more[j]'(by rw [HM.out]; exact hlj) ∈ more := List.getElem_mem _
            generalize more[j]'(by rw [HM.out]; exact hlj) = x at hL hxm
            have hwx := HVO.out x hxm
            obtain ⟨g, o, cap', e1, _⟩ := HQ.out.some6 (by rintro rfl; simp at hL)
            simp only [Value.slice.injEq] at e1
            obtain ⟨rfl, -, rfl⟩ := e1
            have hljI : (j : Int) < (m : Int) := by omega
            have HR := Lib.hid (run_step s more hL)
            obtain ⟨hgw, x0, x1, x2, x3, x4, x5⟩ := (HQ.out.below (HA.out.be.trans (HK.out.b.mono HA.out.be.size))).at6 rfl hL
            have HPL := Lib.hid (play_at x HK.out (by omega) hwx)
            clear hL hxm hwx
            go_wp2_with (first | (go_at_call 15; refine HPL.out.mono ?_; rintro e w6 ⟨rfl, h6, _⟩; have HB := Lib.hid h6; clear h6) | fail)
            exact ⟨⟨j + 1, by omega, by go_num, Lib.hid (by rw [HR.out]; exact HB.out)⟩, by simp [intOf]; omega⟩
          · obtain rfl : j = m := by omega
            have HK2 : Hid (At wA wr (fun _ => False) k (i + j) (runC s more)) := Lib.hid (by
              have := HK.out
              rwa [← HM.out, List.take_length, HM.out] at this)
            have HA6 := Lib.hid (HA.out.keep HK2.out.b)
            clear HK
            generalize wr = w6 at *
            go_wp2_with (first | (go_at_call 22; with_reducible refine (keys_at HA6.out.left).mono ?_; rintro e w7 ⟨v7, rfl, hk7, hb7⟩; have HK7 := Lib.hid hk7; have HB7 := Lib.hid hb7; have HA7 := Lib.hid (HA6.out.keep hb7); clear hk7 hb7) | fail)
            go_at_call 22
            refine (keys_at HA7.out.right).mono ?_
            rintro e w8 ⟨v8, rfl, hk8, hb8⟩
            have HS8 := Lib.hid (sameKeys_c v7 v8 _ _ (HK7.out.below hb8).rows hk8.rows (by have := HA7.out.left.len; unfold keysK; rw [List.length_map]; omega))
            rw [decide_eq_true rfl] at HS8
            have HB8 := Lib.hid (HB7.out.trans (hb8.mono HB7.out.size))
            have HA8 := Lib.hid (HA7.out.keep hb8)
            clear hk8 hb8 HK7 HB7 HA7
            go_wp2_with (first | (go_at_call 25; refine HS8.out.mono ?_; rintro e w9 ⟨rfl, hb9⟩; have HA9 := Lib.hid (HA8.out.keep hb9); have HB9 := Lib.hid (HB8.out.trans (hb9.mono HB8.out.size)); clear hb9) | fail)
            go_at_call 17
            refine (seq_at HA9.out.left).mono ?_
            rintro e w10 ⟨rfl, hw⟩
            rw [hw]
            clear hw
            go_wp2_with fail
            go_at_call 17
            refine (seq_at HA9.out.right).mono ?_
            rintro e w11 ⟨rfl, hw⟩
            rw [hw]
            clear hw
            go_wp2_with fail
            have HTW : Hid (Tw w w9 c i s k (i + j) (runC s more)) := Lib.hid ((Tw.two HA.out.left HK2.out).keep HB9.out)
            clear HA9 HB9 HA8 HB8 HA6 HS8
            go_loopw [12] (fun vi wr => ∃ q : Nat, q ≤ j ∧ vi = .int .i64 q ∧ Hid (Tw w wr c (i + q) (runC s (more.take q)) k (i + j) (runC s more))) (fun vi _ => j - (intOf vi).toNat)
            case atStart => exact ⟨0, Nat.zero_le _, rfl, Lib.hid (by simpa [runC] using HTW.out)⟩
            case round =>
              clear HTW
              obtain ⟨q, hqj, rfl, HT⟩ := hrel
              by_cases hlq : q < j
              · have hL : more[q]? = some (more[q]'(by rw [HM.out]; exact hlq)) := List.getElem?_eq_getElem _
                have hxm : more[q]'(by rw [HM.out]; exact hlq) ∈ more := List.getElem_mem _
                generalize more[q]'(by rw [HM.out]; exact hlq) = x at hL hxm
                have hwx := HVO.out x hxm
                obtain ⟨g, o, cap', e1, _⟩ := HQ.out.some6 (by rintro rfl; simp at hL)
                simp only [Value.slice.injEq] at e1
                obtain ⟨rfl, -, rfl⟩ := e1
                have hlqI : (q : Int) < (j : Int) := by omega
                have HR := Lib.hid (run_step s more hL)
                obtain ⟨hgw, x0, x1, x2, x3, x4, x5⟩ := (HQ.out.below HT.out.be).at6 rfl hL
                have HPL := Lib.hid (play_tw x HT.out (by omega) hwx)
                clear hL hxm hwx
                go_wp2_with (first | (go_at_call 15; refine HPL.out.mono ?_; rintro e w10 ⟨rfl, h10⟩; have HB := Lib.hid h10; clear h10) | fail)
                exact ⟨⟨q + 1, by omega, by go_num, Lib.hid (by rw [HR.out]; exact HB.out)⟩, by simp [intOf]; omega⟩
              · obtain rfl : q = j := by omega
                have HT2 : Hid (Tw w wr c (i + q) (runC s more) k (i + q) (runC s more)) := Lib.hid (by
                  have := HT.out
                  rwa [← HM.out, List.take_length, HM.out] at this)
                clear HT HK2 HA
                generalize runC s more = t at *
                generalize wr = wB at *
                go_upto_region 26 with (first | (go_at_call 24; refine (stats_at HT2.out.left).mono ?_; rintro e w11 ⟨rfl, hb11⟩; have HT3 := Lib.hid (HT2.out.keep hb11); clear hb11) | fail)
                go_upto_region 27 with (first | (go_at_call 24; refine (stats_at HT3.out.right).mono ?_; rintro e w12 ⟨rfl, hb12⟩; have HT4 := Lib.hid (HT3.out.keep hb12); clear hb12) | fail)
                clear HT2 HT3
                go_wp2_with (first | (go_at_call 22; with_reducible refine (keys_at HT4.out.left).mono ?_; rintro e w13 ⟨v13, rfl, hk13, hb13⟩; have HK13 := Lib.hid hk13; have HT5 := Lib.hid (HT4.out.keep hb13); clear hk13 hb13) | fail)
                go_at_call 22
                refine (keys_at HT5.out.right).mono ?_
                rintro e w14 ⟨v14, rfl, hk14, hb14⟩
                have HS14 := Lib.hid (sameKeys_c v13 v14 _ _ (HK13.out.below hb14).rows hk14.rows (by have := HT5.out.left.len; unfold keysK; rw [List.length_map]; omega))
                rw [decide_eq_true rfl] at HS14
                have HT6 := Lib.hid (HT5.out.keep hb14)
                clear hk14 hb14 HK13 HT4 HT5
                go_wp2_with (first | (go_at_call 25; refine HS14.out.mono ?_; rintro e w15 ⟨rfl, hb15⟩; have HT7 := Lib.hid (HT6.out.keep hb15); clear hb15) | fail)
                go_at_call 17
                refine (seq_at HT7.out.left).mono ?_
                rintro e w16 ⟨rfl, hw⟩
                rw [hw]
                clear hw
                go_wp2_with fail
                go_at_call 17
                refine (seq_at HT7.out.right).mono ?_
                rintro e w17 ⟨rfl, hw⟩
                rw [hw]
                clear hw
                go_wp2_with (go_at_call 10; refine (awake_c _).mono ?_; rintro e w18 ⟨rfl, hb18⟩)
                go_ret
                exact ⟨rfl, HT7.out.be.trans (hb18.mono HT7.out.be.size)⟩
end Go.Proofs.Ytbhoofihnmmmfaa
