/- Set (decoding), octet's. -/
import Derived.Test.YtohmlmbolilbbaaOpn
namespace Go.Proofs.Ytohmlmbolilbbaa
open Go.RowKit
def pad (ys : List Int) : List Int := ys ++ List.replicate (4 - ys.length) 0
def aggU (ys : List Int) : Value := .agg (ys.map (Value.int .u64)).toArray
theorem pad_zero : pad [] = [0, 0, 0, 0] := rfl
theorem pad_set {ys : List Int} {i : Nat} {z0 z1 z2 z3 : Int} (n : Int) (h : pad ys = [z0, z1, z2, z3]) (hl : ys.length = i) (hi : i < 4) :
    ∃ y0 y1 y2 y3 : Int, pad (ys ++ [n]) = [y0, y1, y2, y3] ∧ (#[.int .u64 z0, .int .u64 z1, .int .u64 z2, .int .u64 z3] : Array Value).setIfInBounds i (.int .u64 n) = #[.int .u64 y0, .int .u64 y1, .int .u64 y2, .int .u64 y3] := by
  rcases (show i = 0 ∨ i = 1 ∨ i = 2 ∨ i = 3 by omega) with rfl | rfl | rfl | rfl
  · obtain rfl : ys = [] := List.eq_nil_of_length_eq_zero hl
    simp [pad] at h
    obtain ⟨rfl, rfl, rfl, rfl⟩ := h
    exact ⟨n, 0, 0, 0, rfl, rfl⟩
  · obtain ⟨a, rfl⟩ : ∃ a, ys = [a] := List.length_eq_one_iff.1 hl
    simp [pad] at h
    obtain ⟨rfl, rfl, rfl, rfl⟩ := h
    exact ⟨a, n, 0, 0, rfl, rfl⟩
  · match ys, hl with
    | [a, b], _ =>
      simp [pad] at h
      obtain ⟨rfl, rfl, rfl, rfl⟩ := h
      exact ⟨a, b, n, 0, rfl, rfl⟩
  · match ys, hl with
    | [a, b, c], _ =>
      simp [pad] at h
      obtain ⟨rfl, rfl, rfl, rfl⟩ := h
      exact ⟨a, b, c, n, rfl, rfl⟩
theorem elemN_pad {ys : List Int} {k : Nat} (hl : ys.length = k) (hk : k ≤ 4) : (¬ (0 < k ∧ ys.getD (k - 1) 0 = 0) → elemN (pad ys) = k) ∧ ((0 < k ∧ ys.getD (k - 1) 0 = 0) → elemN (pad ys) ≠ k) := by
  refine ⟨fun h => elemN_spec (fun j hj => ?_) (fun h0 hc => h ⟨h0, ?_⟩), fun ⟨h0, h1⟩ he => ?_⟩
  · unfold pad
    rw [List.getD, List.getElem?_append_right (by omega), List.getElem?_replicate]
    split <;> rfl
  · unfold pad at hc
    rw [List.getD, List.getElem?_append_left (by omega)] at hc
    exact hc
  · have h2 := elemN_last (pad ys) (by omega)
    rw [he] at h2
    apply h2
    unfold pad
    rw [List.getD, List.getElem?_append_left (by omega)]
    exact h1
theorem box8 {w : World} {g : Nat} {t : TypeId} {a b c d : Value} (h : Blk w g t #[a, b, c, d]) :
    (w.cell? ⟨g, 0, none⟩ = some a ∧ w.cell? ⟨g, 1, none⟩ = some b ∧ w.cell? ⟨g, 2, none⟩ = some c ∧ w.cell? ⟨g, 3, none⟩ = some d) ∧ (w.frozen? ⟨g, 0, none⟩ = false ∧ w.frozen? ⟨g, 1, none⟩ = false ∧ w.frozen? ⟨g, 2, none⟩ = false ∧ w.frozen? ⟨g, 3, none⟩ = false) :=
  ⟨mem4 h, h.frozen 0, h.frozen 1, h.frozen 2, h.frozen 3⟩
theorem decP_step {i : Nat} {l : List Int} {ys r : List Int} (h : decP i l = (0, ys, r)) :
    ((dec r).1 ≠ 0 → decP (i + 1) l = ((dec r).1, [], [])) ∧ ((dec r).1 = 0 → decP (i + 1) l = (0, ys ++ [((dec r).2.1 : Int)], decR r)) := by
  refine ⟨fun hE => ?_, fun hE => ?_⟩
  · rw [decP, h, if_neg (by simp), if_pos hE]
  · rw [decP, h, if_neg (by simp), if_neg (by simp [hE])]
    unfold decR
    rw [if_pos hE]
theorem Byts.far {w : World} {v : Value} {l : List Int} {g : Nat} {t : TypeId} {cs : Array Value} (h : Byts w v l) (hB : Blk w g t cs) (hc : ∀ (j : Nat) (x : Int), cs[j]? ≠ some (.int .u8 x)) (i : Nat) (u : Value) : Byts (w.setCell ⟨g, i, none⟩ u) v l := by
  obtain ⟨ha, ao, cap, rfl, hcap, hn, hr⟩ := h
  refine ⟨ha, ao, cap, rfl, hcap, hn, fun hl => ?_⟩
  obtain ⟨g', o, rfl, hR⟩ := hr hl
  have hl0 := List.length_pos_iff.2 hl
  have hne : g' ≠ g := by
    rintro rfl
    have h1 := hR 0 hl0
    rw [hB.cell] at h1
    exact hc _ _ h1
  exact ⟨g', o, rfl, hR.keep (Below.heap_setCell w ⟨g, i, none⟩ u g' hne)⟩
theorem no_u8 (a b c d : Int) : ∀ (j : Nat) (x : Int), (#[.int .u64 a, .int .u64 b, .int .u64 c, .int .u64 d] : Array Value)[j]? ≠ some (.int .u8 x) := by
  intro j x h
  obtain ⟨hj, h⟩ := Array.getElem?_eq_some_iff.1 h
  simp at hj
  rcases (show j = 0 ∨ j = 1 ∨ j = 2 ∨ j = 3 by omega) with rfl | rfl | rfl | rfl <;> simp at h
theorem below_set4 {B g : Nat} {a w : World} (h : Below B a w) (hg : B ≤ g) (u0 u1 u2 u3 : Value) : Below B a ((((w.setCell ⟨g, 0, none⟩ u0).setCell ⟨g, 1, none⟩ u1).setCell ⟨g, 2, none⟩ u2).setCell ⟨g, 3, none⟩ u3) :=
  (((h.setCell (p := ⟨g, 0, none⟩) hg u0).setCell (p := ⟨g, 1, none⟩) hg u1).setCell (p := ⟨g, 2, none⟩) hg u2).setCell (p := ⟨g, 3, none⟩) hg u3
theorem Byts.far4 {w : World} {v : Value} {l : List Int} {g : Nat} {t : TypeId} {a b c d : Int} (h : Byts w v l) (hB : Blk w g t #[.int .u64 a, .int .u64 b, .int .u64 c, .int .u64 d]) (a' b' c' d' : Int) :
    Byts ((((w.setCell ⟨g, 0, none⟩ (.int .u64 a')).setCell ⟨g, 1, none⟩ (.int .u64 b')).setCell ⟨g, 2, none⟩ (.int .u64 c')).setCell ⟨g, 3, none⟩ (.int .u64 d')) v l := by
  have B1 : Blk _ g t #[.int .u64 a', .int .u64 b, .int .u64 c, .int .u64 d] := hB.set 0 (.int .u64 a')
  have B2 : Blk _ g t #[.int .u64 a', .int .u64 b', .int .u64 c, .int .u64 d] := B1.set 1 (.int .u64 b')
  have B3 : Blk _ g t #[.int .u64 a', .int .u64 b', .int .u64 c', .int .u64 d] := B2.set 2 (.int .u64 c')
  exact (((h.far hB (no_u8 _ _ _ _) 0 _).far B1 (no_u8 _ _ _ _) 1 _).far B2 (no_u8 _ _ _ _) 2 _).far B3 (no_u8 _ _ _ _) 3 _
theorem setR_form {N : Nat} {ys rs : List Int} (h : 0 < N ∧ ys.getD (N - 1) 0 = 0) : setR N (0, ys, rs) = (6, [0, 0, 0, 0], []) := by
  unfold setR
  rw [if_neg (by simp), if_pos h]
theorem setR_ok {N : Nat} {ys rs : List Int} (hl : ys.length = N) (h : ¬ (0 < N ∧ ys.getD (N - 1) 0 = 0)) : setR N (0, ys, rs) = (0, pad ys, rs) := by
  unfold setR pad
  rw [if_neg (by simp), if_neg h, hl]
set_option maxRecDepth 100000 in
set_option maxHeartbeats 4000000 in
theorem set_c (v : Value) (l : List Int) (w : World) (hV : Byts w v l) (hn : l.length ≤ 1000000000000) :
    Calls Try.prog 25 #[v] w fun e w' => ∃ vr, e = .returned (.tuple #[aggU (decS l).2.1, vr, .int .i64 (decS l).1]) ∧ Byts w' vr (decS l).2.2 ∧ Below w.heap.size w w' := by
  have hN := fun w hV => number_c v l w hV hn
  have HV := Lib.hid hV
  obtain ⟨D, hD⟩ : ∃ D, decS l = D := ⟨_, rfl⟩
  rw [hD]
  obtain ⟨DE, DX, DR⟩ := D
  unfold decS at hD
  have HD := Lib.hid hD
  have HN := Lib.hid hN
  clear hD hN hV
  simp only
  go_enter Try.func25, Try.ntmps25
  go_wp2_with fail
  have R0 : Blk ((w.alloc (.cells #[.int .u64 0, .int .u64 0, .int .u64 0, .int .u64 0] 40)).alloc (.cells #[.int .u64 0, .int .u64 0, .int .u64 0, .int .u64 0] 40)) w.heap.size _ _ := (Blk.new w 40 #[.int .u64 0, .int .u64 0, .int .u64 0, .int .u64 0]).alloc (.cells #[.int .u64 0, .int .u64 0, .int .u64 0, .int .u64 0] 40)
  have S0 : Blk ((w.alloc (.cells #[.int .u64 0, .int .u64 0, .int .u64 0, .int .u64 0] 40)).alloc (.cells #[.int .u64 0, .int .u64 0, .int .u64 0, .int .u64 0] 40)) (w.heap.size + 1) 40 #[.int .u64 0, .int .u64 0, .int .u64 0, .int .u64 0] := Blk.here (by simp)
  have hb0 : Below w.heap.size w ((w.alloc (.cells #[.int .u64 0, .int .u64 0, .int .u64 0, .int .u64 0] 40)).alloc (.cells #[.int .u64 0, .int .u64 0, .int .u64 0, .int .u64 0] 40)) := ((Below.refl _ _).alloc (Nat.le_refl _) _).alloc (by simp) _
  generalize ((w.alloc (.cells #[.int .u64 0, .int .u64 0, .int .u64 0, .int .u64 0] 40)).alloc (.cells #[.int .u64 0, .int .u64 0, .int .u64 0, .int .u64 0] 40)) = W at *
  refine (HN.out W (HV.out.keep hb0)).mono ?_
  rintro e w2 ⟨vr, rfl, hB2, hb2⟩
  have R := R0.keep hb2
  have S := S0.keep hb2
  have hb3 := hb0.trans (hb2.mono hb0.size)
  have hRlen : (decR l).length ≤ 1000000000000 := by unfold decR; split <;> simp <;> omega
  clear R0 S0 hb0 hb2 HN W
  obtain ⟨D, hDl⟩ : ∃ D, dec l = D := ⟨_, rfl⟩
  obtain ⟨E, N, k⟩ := D
  obtain ⟨rl, hrl⟩ : ∃ rl, decR l = rl := ⟨_, rfl⟩
  have hdr : E = 0 → l.drop k = rl := fun h => by rw [← hrl]; unfold decR; rw [hDl]; simp [h]
  have hD := HD.out
  rw [hrl] at hB2 hRlen
  rw [hDl] at hD ⊢
  simp only at hD ⊢
  clear HD
  by_cases hE : E ≠ 0
  · rw [if_pos hE] at hD
    cases hD
    have hE' : (DE != 0) = true := by simpa using hE
    obtain ⟨⟨r0, r1, r2, r3⟩, f0, f1, f2, f3⟩ := box8 R
    clear hE hdr hrl hDl
    go_wp2_with fail
    exact bodyPost_ret (v := .tuple #[.agg #[.int .u64 0, .int .u64 0, .int .u64 0, .int .u64 0], .slice none 0 0, .int .i64 DE]) (by simp [results, Try.results25, go_sem, r0, r1, r2, r3]) rfl ⟨_, rfl, Byts.nil, below_set4 hb3 (Nat.le_refl _) _ _ _ _⟩
  · rw [if_neg hE] at hD
    obtain rfl : E = 0 := by omega
    rw [hdr rfl] at hD
    by_cases h4 : 4 < N
    · rw [if_pos h4] at hD
      cases hD
      have h4' : (4 : Int) < (N : Int) := by omega
      obtain ⟨⟨r0, r1, r2, r3⟩, f0, f1, f2, f3⟩ := box8 R
      clear hE hdr hrl hDl
      go_wp2_with fail
      exact bodyPost_ret (v := .tuple #[.agg #[.int .u64 0, .int .u64 0, .int .u64 0, .int .u64 0], .slice none 0 0, .int .i64 6]) (by simp [results, Try.results25, go_sem, r0, r1, r2, r3]) rfl ⟨_, rfl, Byts.nil, below_set4 hb3 (Nat.le_refl _) _ _ _ _⟩
    · rw [if_neg h4] at hD
      have h4' : ¬ (4 : Int) < (N : Int) := by omega
      have HD := Lib.hid hD
      have hw : wrap64 (N : Int) = N := by unfold wrap64; omega
      clear hE hdr hrl hDl hD
      go_wp2_with fail
      go_loopw [7, 8, 9, 25] (fun v7 v8 _ v25 wr => ∃ (i : Nat) (ys rs : List Int) (z0 z1 z2 z3 : Int), i ≤ N ∧ v25 = .int .i64 i ∧ v8 = .int .i64 0 ∧ Hid (decP i rl = (0, ys, rs)) ∧ Hid (ys.length = i) ∧ Hid (pad ys = [z0, z1, z2, z3]) ∧ Hid (rs.length ≤ 1000000000000) ∧ Byts wr v7 rs ∧ Blk wr w.heap.size 40 #[.int .u64 0, .int .u64 0, .int .u64 0, .int .u64 0] ∧ Blk wr (w.heap.size + 1) 40 #[.int .u64 z0, .int .u64 z1, .int .u64 z2, .int .u64 z3] ∧ Below w.heap.size w wr) (fun _ _ _ v25 _ => N - (intOf v25).toNat)
      case atStart => exact ⟨0, [], rl, 0, 0, 0, 0, Nat.zero_le _, rfl, rfl, Lib.hid rfl, Lib.hid rfl, Lib.hid rfl, Lib.hid hRlen, hB2, R, S, hb3⟩
      case round =>
        clear R S hb3 hB2 hRlen
        obtain ⟨i, ys, rs, z0, z1, z2, z3, hiN, rfl, rfl, HP, HY, HZ, HL, hB2, R, S, hb3⟩ := hrel
        have hg := S.lt
        by_cases hlt : i < N
        · have hlt' : (i : Int) < (N : Int) := by omega
          have hstep := decP_step HP.out
          have hNum := number_c u7 rs wr hB2 HL.out
          have hRl2 : (decR rs).length ≤ 1000000000000 := by have := HL.out; unfold decR; split <;> simp <;> omega
          obtain ⟨D2, hD2⟩ : ∃ D, dec rs = D := ⟨_, rfl⟩
          obtain ⟨E2, N2, k2⟩ := D2
          rw [hD2] at hstep hNum
          simp only at hstep hNum
          have HNum := Lib.hid hNum
          clear hNum hD2
          by_cases hE2 : E2 ≠ 0
          · have hp := hstep.1 hE2
            have hq : decP N rl = (E2, [], []) := by
              have h := decP_more (i := i + 1) (l := rl) (by rw [hp]; exact hE2) (N - (i + 1))
              rw [show i + 1 + (N - (i + 1)) = N by omega, hp] at h
              exact h
            have hD := HD.out
            rw [hq] at hD
            unfold setR at hD
            rw [if_pos hE2] at hD
            simp only [Prod.mk.injEq] at hD
            obtain ⟨h1, h2, h3⟩ := hD
            subst h2 h3
            have h1' := h1.symm
            subst h1'
            have hE' : (DE != 0) = true := by simpa using hE2
            clear hE2 hq hp hstep
            go_wp2_with (go_at_call 12; refine HNum.out.mono ?_; rintro e w3 ⟨v3, rfl, hB3, hb4⟩; have R3 := R.keep hb4; have S3 := S.keep hb4; have hsc := box_cell S3 (i := i) (by omega); have hsf := S3.frozen i; obtain ⟨⟨r0, r1, r2, r3⟩, f0, f1, f2, f3⟩ := box8 (R3.far (p := ⟨w.heap.size + 1, i, none⟩) (by simp) (.int .u64 N2)))
            exact bodyPost_ret (v := .tuple #[.agg #[.int .u64 0, .int .u64 0, .int .u64 0, .int .u64 0], .slice none 0 0, .int .i64 DE]) (by simp [results, Try.results25, go_sem, r0, r1, r2, r3]) rfl ⟨_, rfl, Byts.nil, below_set4 ((hb3.trans (hb4.mono hb3.size)).setCell (by simp) _) (Nat.le_refl _) _ _ _ _⟩
          · obtain rfl : E2 = 0 := by omega
            have HP2 := Lib.hid (hstep.2 rfl)
            obtain ⟨y0, y1, y2, y3, hy, hset⟩ := pad_set (N2 : Int) HZ.out HY.out (by omega)
            have HY2 : Hid ((ys ++ [(N2 : Int)]).length = i + 1) := Lib.hid (by rw [List.length_append, HY.out]; rfl)
            have HZ2 := Lib.hid hy
            have HS := Lib.hid hset
            have HL2 := Lib.hid hRl2
            clear hstep hE2 hy hset hRl2
            go_wp2_with (go_at_call 12; refine HNum.out.mono ?_; rintro e w3 ⟨v3, rfl, hB3, hb4⟩; have R3 := R.keep hb4; have S3 := S.keep hb4; have hsc := box_cell S3 (i := i) (by omega); have hsf := S3.frozen i)
            have R4 := R3.far (p := ⟨w.heap.size + 1, i, none⟩) (by simp) (.int .u64 N2)
            have S4 := S3.set i (.int .u64 N2)
            rw [HS.out] at S4
            have hb5 : Below w.heap.size w (w3.setCell ⟨w.heap.size + 1, i, none⟩ (.int .u64 N2)) := (hb3.trans (hb4.mono hb3.size)).setCell (by simp) _
            have hB5 := hB3.far S3 (no_u8 _ _ _ _) i (.int .u64 N2)
            go_roundw
            case rel => exact ⟨i + 1, ys ++ [(N2 : Int)], decR rs, y0, y1, y2, y3, hlt, by go_num, rfl, HP2, HY2, HZ2, HL2, hB5, R4, S4, hb5⟩
            case measure => simp [intOf]; omega
        · obtain rfl : i = N := by omega
          have hD := HD.out
          rw [HP.out] at hD
          have hpad := elemN_pad HY.out (by omega)
          rw [HZ.out] at hpad
          have hel := elements_c z0 z1 z2 z3 wr
          by_cases hF : 0 < i ∧ ys.getD (i - 1) 0 = 0
          · rw [setR_form hF] at hD
            simp only [Prod.mk.injEq] at hD
            obtain ⟨h1, h2, h3⟩ := hD
            subst h1 h2 h3
            have hne := hpad.2 hF
            obtain ⟨K, hK⟩ : ∃ K, elemN [z0, z1, z2, z3] = K := ⟨_, rfl⟩
            rw [hK] at hne hel
            have hne' : ((K : Int) != (i : Int)) = true := by simp; omega
            have HE := Lib.hid hel
            obtain ⟨s0, s1, s2, s3⟩ := mem4 S
            clear hne hK hpad hF hel
            go_wp2_with (go_at_call 43; refine HE.out.mono ?_; rintro e w3 ⟨rfl, hb4⟩; have R3 := R.keep hb4; obtain ⟨⟨r0, r1, r2, r3⟩, f0, f1, f2, f3⟩ := box8 R3)
            exact bodyPost_ret (v := .tuple #[.agg #[.int .u64 0, .int .u64 0, .int .u64 0, .int .u64 0], .slice none 0 0, .int .i64 6]) (by simp [results, Try.results25, go_sem, r0, r1, r2, r3]) rfl ⟨_, rfl, Byts.nil, below_set4 (hb3.trans (hb4.mono hb3.size)) (Nat.le_refl _) _ _ _ _⟩
          · rw [setR_ok HY.out hF, HZ.out] at hD
            simp only [Prod.mk.injEq] at hD
            obtain ⟨h1, h2, h3⟩ := hD
            subst h1 h2 h3
            rw [hpad.1 hF] at hel
            have HE := Lib.hid hel
            obtain ⟨s0, s1, s2, s3⟩ := mem4 S
            clear hpad hF hel
            go_wp2_with (go_at_call 43; refine HE.out.mono ?_; rintro e w3 ⟨rfl, hb4⟩; have R3 := R.keep hb4; have S3 := S.keep hb4; obtain ⟨t0, t1, t2, t3⟩ := mem4 S3; obtain ⟨⟨r0, r1, r2, r3⟩, f0, f1, f2, f3⟩ := box8 R3)
            exact bodyPost_ret (v := .tuple #[.agg #[.int .u64 z0, .int .u64 z1, .int .u64 z2, .int .u64 z3], u7, .int .i64 0]) (by simp [results, Try.results25, go_sem, r0, r1, r2, r3]) rfl ⟨_, rfl, (hB2.keep hb4).far4 R3 z0 z1 z2 z3, below_set4 (hb3.trans (hb4.mono hb3.size)) (Nat.le_refl _) _ _ _ _⟩
end Go.Proofs.Ytohmlmbolilbbaa
