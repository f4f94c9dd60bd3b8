/- The law CacheBound walked. -/
import Derived.Test.YtbhoofihnmmmfaaKcs
namespace Go.Proofs.Ytbhoofihnmmmfaa
open Go.RowKit Go.Maps Go.WideElems Go.WideShapes
theorem Rows'.at6 {w : World} {v : Value} {L : List Opr} (h : Rows' RO w v L) {g o cap n : Nat} (hv : v = .slice (some ⟨g, o, none⟩) n cap) {i : Nat} {x : Opr} (hx : L[i]? = some x) :
    g < w.heap.size ∧ w.cell? ⟨g, o + i * 6, none⟩ = some (.int .u8 x.kind) ∧ w.cell? ⟨g, o + i * 6 + 1, none⟩ = some (.int .i64 x.k.a) ∧ w.cell? ⟨g, o + i * 6 + 2, none⟩ = some (.int .i64 x.k.b) ∧ w.cell? ⟨g, o + i * 6 + 3, none⟩ = some (.int .i64 x.k.c) ∧ w.cell? ⟨g, o + i * 6 + 4, none⟩ = some (.int .u32 x.al) ∧ w.cell? ⟨g, o + i * 6 + 5, none⟩ = some (.int .i64 x.sq) := by
  obtain ⟨ao, cap', e, _, hr⟩ := h.form
  obtain ⟨g', o', e2, hg, hR⟩ := hr (by rintro rfl; simp at hx)
  subst hv
  simp only [Value.slice.injEq] at e
  obtain ⟨e1, _, _⟩ := e
  rw [e2] at e1
  simp only [Option.some.injEq, Addr.mk.injEq] at e1
  obtain ⟨rfl, rfl, _⟩ := e1
  have := hR i x hx
  exact ⟨hg, this 0 _ rfl, this 1 _ rfl, this 2 _ rfl, this 3 _ rfl, this 4 _ rfl, this 5 _ rfl⟩
theorem Rows'.some6 {w : World} {v : Value} {L : List Opr} (h : Rows' RO w v L) (hn : L ≠ []) : ∃ g o cap, v = .slice (some ⟨g, o, none⟩) L.length cap ∧ L.length ≤ cap := by
  obtain ⟨ao, cap, rfl, hc, hr⟩ := h.form
  obtain ⟨g, o, rfl, _⟩ := hr hn
  exact ⟨g, o, cap, rfl, hc⟩
theorem sum_find (s : CS) (x : Opr) (h : x.kind % 3 = 0) : (doC s x).hits + (doC s x).misses = s.hits + s.misses + 1 := by
  unfold doC
  rw [if_pos h]
  unfold findC
  split
  · simp only; omega
  · simp only; omega
theorem sum_else (s : CS) (x : Opr) (h : ¬ x.kind % 3 = 0) : (doC s x).hits + (doC s x).misses = s.hits + s.misses := by
  unfold doC
  rw [if_neg h]
  unfold insC putC resC
  repeat' split
  all_goals rfl
theorem nodup_ne {l : List K3} (h : l.Nodup) {a b : Nat} (hab : b < a) (ha : a < l.length) {x y : K3} (hx : l[a]? = some x) (hy : l[b]? = some y) : sameK x y = false := by
  have hb : b < l.length := by omega
  rw [List.getElem?_eq_getElem ha] at hx
  rw [List.getElem?_eq_getElem hb] at hy
  have : l[b] ≠ l[a] := List.pairwise_iff_getElem.1 h b a hb ha hab
  simp only [Option.some.injEq] at hx hy
  rw [hx, hy] at this
  simp only [sameK, decide_eq_false_iff_not]
  exact fun e => this e.symm
theorem eqlK (x y : K3) (w : World) : (binOp .eql 51 (.agg #[.int .i64 x.a, .int .i64 x.b, .int .i64 x.c]) (.agg #[.int .i64 y.a, .int .i64 y.b, .int .i64 y.c])).run Try.prog w = .ok (.bool (sameK x y)) w := by
  have h := eqK x.a x.b x.c y.a y.b y.c w
  simp only [binOp]
  simp [Op.equal, Op.maxDepth, h]
set_option maxRecDepth 100000 in
set_option maxHeartbeats 16000000 in
theorem bound_c (size : Int) (l : List Opr) (vl : Value) (w : World) (hP : Rows' RO w vl l) (hW : ∀ x ∈ l, WO x) (hl : l.length ≤ maxLen) :
    Calls Try.prog 6 #[.int .i64 size, vl] w fun e w' => e = .returned (.bool true) ∧ Below w.heap.size w w' := by
  obtain ⟨aol, capl, rfl, hcl, _⟩ := id hP.form
  unfold maxLen at hl
  by_cases hout : size < 1 ∨ 20 < size ∨ 60 < l.length
  · by_cases h1 : size < 1
    · go_enter Try.func6, Try.ntmps6
      go_wp2_with (go_at_call 10; refine (awake_c _).mono ?_; rintro e w8 ⟨rfl, hb8⟩)
      go_ret
      exact ⟨rfl, hb8⟩
    · by_cases h2 : 20 < size
      · go_enter Try.func6, Try.ntmps6
        go_wp2_with (go_at_call 10; refine (awake_c _).mono ?_; rintro e w8 ⟨rfl, hb8⟩)
        go_ret
        exact ⟨rfl, hb8⟩
      · have h3 : (60 : Int) < (l.length : Int) := by omega
        go_enter Try.func6, Try.ntmps6
        go_wp2_with (go_at_call 10; refine (awake_c _).mono ?_; rintro e w8 ⟨rfl, hb8⟩)
        go_ret
        exact ⟨rfl, hb8⟩
  · have h1 : ¬ size < 1 := by omega
    have h2 : ¬ 20 < size := by omega
    have h3 : ¬ (60 : Int) < (l.length : Int) := by omega
    have hl60 : l.length ≤ 60 := by omega
    have HP := Lib.hid hP
    have HWO := Lib.hid hW
    obtain ⟨n, hn⟩ : ∃ n, l.length = n := ⟨_, rfl⟩
    have HN := Lib.hid hn
    have hq := fun (c : Nat) (u : World) => eqPN c u
    rw [hn] at hl60 h3 hcl ⊢
    clear hP hW hl hout hn
    go_enter Try.func6, Try.ntmps6
    go_upto_region 6 with (first | (go_at_call 11; refine (new_at size _ (by omega) (by omega)).mono ?_; rintro e w1 ⟨c, rfl, h1⟩; have H1 := Lib.hid h1; clear h1; have hq2 := hq c; clear hq) | fail)
    go_wp2_with fail
    clear hq2
    go_loopw [6, 7] (fun vf vi wr => ∃ (i : Nat) (s : CS), i ≤ n ∧ vf = .int .i64 (s.hits + s.misses) ∧ vi = .int .i64 i ∧ s.size = size ∧ Hid (At w wr (fun _ => False) c i s)) (fun _ vi _ => n - (intOf vi).toNat)
    case atStart => exact ⟨0, newC size, Nat.zero_le _, rfl, rfl, rfl, H1⟩
    case round =>
      obtain ⟨i, s, hi, rfl, rfl, hsz, HA⟩ := hrel
      by_cases hlt : i < n
      · have hL : l[i]? = some (l[i]'(by rw [HN.out]; exact hlt)) := List.getElem?_eq_getElem _
        have hxm : l[i]'(by rw [HN.out]; exact hlt) ∈ l := List.getElem_mem _
        generalize l[i]'(by rw [HN.out]; exact hlt) = x at hL hxm
        have hwx := HWO.out x hxm
        obtain ⟨g, o, cap', e1, _⟩ := HP.out.some6 (by rintro rfl; simp at hL)
        simp only [Value.slice.injEq] at e1
        obtain ⟨rfl, -, rfl⟩ := e1
        have hltI : (i : Int) < (n : Int) := by omega
        obtain ⟨hgw, x0, x1, x2, x3, x4, x5⟩ := (HP.out.below HA.out.b).at6 rfl hL
        have HPL := Lib.hid (play_at x HA.out (by omega) hwx)
        have hk0 := hwx.kind.1
        have ht : x.kind.tmod 3 = x.kind % 3 := Int.tmod_eq_emod_of_nonneg hk0
        have hm0 : 0 ≤ x.kind % 3 := by omega
        have hm1 : x.kind % 3 < 3 := by omega
        have HWX := Lib.hid hwx
        have hsm := HA.out.sm
        have hb1 := hsm.h.1
        have hb2 := hsm.h.2
        have hb3 := hsm.m.1
        have hb4 := hsm.m.2
        clear hL hxm hwx hsm
        obtain ⟨f, hf⟩ : ∃ f, s.hits + s.misses = f := ⟨_, rfl⟩
        have hfb : 0 ≤ f ∧ f ≤ 200 := by omega
        rw [hf]
        have HSZ : Hid ((doC s x).size = size) := Lib.hid (by rw [doC_size]; exact hsz)
        obtain ⟨kb, hkb, HE⟩ : ∃ kb, (x.kind % 3 == 0) = kb ∧ Hid ((doC s x).hits + (doC s x).misses = if kb then f + 1 else f) := by
          by_cases hk : x.kind % 3 = 0
          · exact ⟨true, by simpa using hk, Lib.hid (by rw [sum_find s x hk, hf]; rfl)⟩
          · exact ⟨false, by simpa using hk, Lib.hid (by rw [sum_else s x hk, hf]; rfl)⟩
        clear hb1 hb2 hb3 hb4 hf hm0 hm1 hsz
        generalize doC s x = s2 at *
        obtain ⟨N2, hN2⟩ : ∃ N2, s2.L.length = N2 := ⟨_, rfl⟩
        have HLM := Lib.hid hN2
        have HLN : Hid ((keysK s2.L).length = N2) := Lib.hid (by unfold keysK; rw [List.length_map]; exact hN2)
        clear hN2
        generalize x.kind % 3 = j at *
        cases kb
        all_goals
          go_upto_region 13 with (first | (go_at_call 15; refine HPL.out.mono ?_; rintro e w2 ⟨rfl, h2, _⟩; have HB := Lib.hid h2; clear h2) | fail)
          have HN2 : Hid ((N2 : Int) ≤ size) := Lib.hid (by have h1 := HB.out.ok.sz; have h2 := HSZ.out; have h3 := HLM.out; rw [h3, h2] at h1; exact h1)
          have HCL : Hid (∀ u, Below w2.heap.size w2 u → Calls Try.prog 23 #[.pointer (some ⟨c, 0, none⟩)] u fun e w' => e = .returned (.int .i64 N2) ∧ w' = u) := Lib.hid (fun u hu => by
            have := len_at (HB.out.keep hu)
            rwa [HLM.out] at this)
          have hn2 := HN2.out
          have hn2' : ¬ size < (N2 : Int) := by omega
          clear x0 x1 x2 x3 x4 x5 ht hkb
          go_upto_region 16 with (first
            | (go_at_call 22; refine (keys_at HB.out).mono ?_; rintro e w3 ⟨vk, rfl, hk3, hb3⟩; have HK3 := Lib.hid hk3.rows; have HB3 := Lib.hid hb3; obtain ⟨ao, cap, rfl⟩ := hk3.isSl; clear hk3 hb3; rw [HLN.out] at HK3 ⊢)
            | (go_at_call 23; refine (HCL.out _ HB3.out).mono ?_; rintro e w4 ⟨rfl, rfl⟩)
            | fail)
          generalize wr = wA at *
          have hn60 : (N2 : Int) ≤ 20 := by omega
          have hcap : (N2 : Int) ≤ (cap : Int) := by
            obtain ⟨ao', cap'', e, hc, _⟩ := HK3.out.form
            simp only [Value.slice.injEq] at e
            rw [e.2.2]
            have := HLN.out
            omega
          have HND : Hid (keysK s2.L).Nodup := Lib.hid HB.out.ok.nd
          have HLN2 := HLN.out
          generalize keysK s2.L = M at *
          go_wp2_with fail
          go_loopw [9] (fun va wy => ∃ a : Nat, a ≤ N2 ∧ va = .int .i64 a ∧ Hid (Below w4.heap.size w4 wy)) (fun va _ => N2 - (intOf va).toNat)
          case atStart => exact ⟨0, Nat.zero_le _, rfl, Lib.hid (Below.refl _ _)⟩
          case round =>
            obtain ⟨a, ha, rfl, HWa⟩ := hrel
            by_cases hla : a < N2
            · have hlaI : (a : Int) < (N2 : Int) := by omega
              generalize wr = wB at *
              go_wp2_with fail
              go_loopw [10] (fun vb wz => ∃ b : Nat, b ≤ a ∧ vb = .int .i64 b ∧ Hid (Below w4.heap.size w4 wz)) (fun vb _ => a - (intOf vb).toNat)
              case atStart => exact ⟨0, Nat.zero_le _, rfl, HWa⟩
              case round =>
                obtain ⟨b, hb, rfl, HWb⟩ := hrel
                by_cases hlb : b < a
                · have hlbI : (b : Int) < (a : Int) := by omega
                  have hlbN : (b : Int) < (N2 : Int) := by omega
                  have hx : M[a]? = some (M[a]'(by omega)) := List.getElem?_eq_getElem _
                  have hy : M[b]? = some (M[b]'(by omega)) := List.getElem?_eq_getElem _
                  generalize M[a]'(by omega) = xa at hx
                  generalize M[b]'(by omega) = xb at hy
                  have hne := nodup_ne HND.out hlb (by omega) hx hy
                  obtain ⟨g2, o2, cap2, e2, _⟩ := HK3.out.some3 (by rintro rfl; simp at hx)
                  simp only [Value.slice.injEq] at e2
                  obtain ⟨rfl, -, rfl⟩ := e2
                  have HX : Hid (∀ u, Kp wr u → (u.cell? ⟨g2, o2 + a * 3, none⟩ = some (.int .i64 xa.a) ∧ u.cell? ⟨g2, o2 + a * 3 + 1, none⟩ = some (.int .i64 xa.b) ∧ u.cell? ⟨g2, o2 + a * 3 + 2, none⟩ = some (.int .i64 xa.c)) ∧ u.cell? ⟨g2, o2 + b * 3, none⟩ = some (.int .i64 xb.a) ∧ u.cell? ⟨g2, o2 + b * 3 + 1, none⟩ = some (.int .i64 xb.b) ∧ u.cell? ⟨g2, o2 + b * 3 + 2, none⟩ = some (.int .i64 xb.c)) := Lib.hid (fun u hu => by
                    have hbu := HWb.out.trans (Below.mono hu HWb.out.size)
                    exact ⟨(HK3.out.below hbu).at3 rfl hx, (HK3.out.below hbu).at3 rfl hy⟩)
                  have hs : sameK ⟨xa.a, xa.b, xa.c⟩ ⟨xb.a, xb.b, xb.c⟩ = false := hne
                  clear hx hy hne HLN2
                  go_upto_region 22 with fail
                  refine wp_region_kp (by kernel_rfl) (by kernel_rfl) ?_
                  repeat (first
                    | go_big_quiet_skip
                    | (go_big_quiet_want
                       first
                         | (go_big_quiet_op
                            first
                              | go_big_quiet_on
                              | (apply Exists.intro
                                 refine ⟨fun w1 hC => ?_, ?_⟩
                                 · first
                                     | (obtain ⟨⟨a0, a1, a2⟩, b0, b1, b2⟩ := HX.out w1 hC; go_simp; exact ⟨rfl, rfl⟩)
                                     | (obtain ⟨⟨a0, a1, a2⟩, b0, b1, b2⟩ := HX.out w1 hC; go_simp; exact rfl)
                                     | exact rfl
                                     | (go_simp; exact ⟨rfl, rfl⟩)
                                 go_big_quiet_on))))
                  refine wpQuiet_nil ?_
                  intro W1 hC1
                  have HW1 : Hid (Below w4.heap.size w4 W1) := Lib.hid (HWb.out.trans (Below.mono hC1 HWb.out.size))
                  clear hC1
                  go_wp2_with fail
                  exact ⟨⟨b + 1, by omega, by go_num, HW1⟩, by simp [intOf]; omega⟩
                · obtain rfl : b = a := by omega
                  go_wp2_with fail
                  exact ⟨⟨b + 1, by omega, by go_num, HWb⟩, by simp [intOf]; omega⟩
            · obtain rfl : a = N2 := by omega
              go_wp2_with fail
              refine ⟨⟨i + 1, s2, by omega, ?_, by go_num, HSZ.out, Lib.hid ((HB.out.keep HB3.out).keep HWa.out)⟩, by simp [intOf]; omega⟩
              rw [HE.out]
              rfl
      · obtain rfl : i = n := by omega
        go_upto_region 25 with (first
          | (go_at_call 24; refine (stats_at HA.out).mono ?_; rintro e w3 ⟨rfl, hb3⟩; have HB := Lib.hid (HA.out.keep hb3); clear hb3)
          | fail)
        have hsm := HB.out.sm
        have hb1 := hsm.h.1
        have hb2 := hsm.h.2
        have hb3 := hsm.m.1
        have hb4 := hsm.m.2
        clear hsm
        go_wp2_with (go_at_call 10; refine (awake_c _).mono ?_; rintro e w8 ⟨rfl, hb8⟩)
        go_ret
        exact ⟨rfl, HB.out.b.trans (hb8.mono HB.out.b.size)⟩
end Go.Proofs.Ytbhoofihnmmmfaa
