/- Find, Targets, Sources, Copy. -/
import Derived.Test.YtomoldfgnbjliaaAvp
namespace Go.Proofs.Ytomoldfgnbjliaa
open Go.RowKit Go.Sort Go.Shelf Go.Maps Go.WideMaps Go.ChangeShapes
def lastV (l : List E) : V := match l.getLast? with | none => zV | some x => vec x
theorem lastV_snoc (l : List E) (x : E) : lastV (l ++ [x]) = vec x := by unfold lastV; simp
def fin (l : List E) : V := match l with | [] => zV | x :: _ => vec x
theorem last_fin {l : List E} (h : l.length ≤ 1) : lastV l = fin l := by
  cases l with
  | nil => rfl
  | cons x r =>
    cases r with
    | nil => simp [lastV, fin]
    | cons y q => simp at h
/-- the entry of a case -/
def P3 (s t c : Int) (x : E) : Bool := kf3 x == [s, t, c]
def PT (s c : Int) (x : E) : Bool := kfT x == [s, c]
def PS (t c : Int) (x : E) : Bool := kfS x == [t, c]
theorem P3_iff {s t c : Int} {x : E} : P3 s t c x = true ↔ x.s = s ∧ x.t = t ∧ x.c = c := by unfold P3 kf3; simp
theorem PT_iff {s c : Int} {x : E} : PT s c x = true ↔ x.s = s ∧ x.c = c := by unfold PT kfT; simp
theorem PS_iff {t c : Int} {x : E} : PS t c x = true ↔ x.t = t ∧ x.c = c := by unfold PS kfS; simp
theorem P3_eq (s t c : Int) : ∀ x y, eqP x y → P3 s t c x = P3 s t c y := fun x y h => by
  rw [Bool.eq_iff_iff, P3_iff, P3_iff]; unfold eqP at h; omega
theorem PT_eq (s c : Int) : ∀ x y, eqP x y → PT s c x = PT s c y := fun x y h => by
  rw [Bool.eq_iff_iff, PT_iff, PT_iff]; unfold eqP at h; omega
theorem PS_eq (t c : Int) : ∀ x y, eqP x y → PS t c x = PS t c y := fun x y h => by
  rw [Bool.eq_iff_iff, PS_iff, PS_iff]; unfold eqP at h; omega
theorem one_at {vs : List Bool} {L : List E} {s t c : Int} : ((V0 vs L).filter (P3 s t c)).length ≤ 1 := by
  have hs : Strict ((V0 vs L).filter (P3 s t c)) := (M_strict _).filter _
  have hm : ∀ x ∈ (V0 vs L).filter (P3 s t c), P3 s t c x = true ∧ x.d = 0 := fun x hx => ⟨(List.mem_filter.1 hx).2, V0_d x (List.mem_filter.1 hx).1⟩
  match h : (V0 vs L).filter (P3 s t c) with
  | [] => simp
  | [x] => simp
  | x :: y :: r =>
    rw [h] at hs hm
    have h1 := (List.pairwise_cons.1 hs).1 y (by simp)
    have h2 := hm x (by simp)
    have h3 := hm y (by simp)
    rw [P3_iff] at h2 h3
    unfold ltP at h1
    omega
theorem filt_strict {L : List E} (h : Strict L) (p : E → Bool) : Strict (L.filter p) := List.Pairwise.filter _ h
theorem filt_ne {L : List E} (h : NE L) (p : E → Bool) : NE (L.filter p) := fun x hx => h x (List.mem_filter.1 hx).1
section
variable {w : World} {g : Nat} {L : List E} {vs : List Bool}
set_option maxRecDepth 100000 in
set_option maxHeartbeats 4000000 in
theorem find_c (h : TabS w g L vs) (hl : L.length ≤ 10000) (hn : vs.length ≤ 1000) (hs : Strict L) (hne : NE L) (s t c : Int) (ws : (Lit.int .i64 s).wf = true) (wt : (Lit.int .i64 t).wf = true) (wc : (Lit.int .i64 c).wf = true) :
    Calls Try.prog 20 #[.pointer (some ⟨g, 0, none⟩), .int .i64 s, .int .i64 t, .int .i64 c] w fun e w' =>
      e = .returned (.tuple #[.int .u32 (vI (fin ((V0 vs L).filter (P3 s t c))).p), .int .u32 (vI (fin ((V0 vs L).filter (P3 s t c))).q), .int .u32 (vI (fin ((V0 vs L).filter (P3 s t c))).r)]) ∧ Below w.heap.size w w' := by
  obtain ⟨ve, vv, m1, m2, m3, h1, h2, h3, h4, -⟩ := h
  have HMd := Lib.hid (made_yes h1)
  have HFi := Lib.hid (find3_c ve L m1 s t c ws wt wc hl w h2 h4)
  have hSe : ∀ w1 v1, Below w.heap.size w w1 → Ents w1 v1 (L.filter (P3 s t c)) → Calls Try.prog 40 #[.pointer (some ⟨g, 0, none⟩), v1] w1 (ListOut w1 ((V0 vs L).filter (P3 s t c))) := fun w1 v1 hb he => by
    have := seen_c (Blk.keep h1 hb) (h3.keep hb) hn he (Nat.le_trans (List.length_filter_le _ _) hl)
    rw [seen_fold (filt_strict hs _) (filt_ne hne _), V0_filter _ (P3_eq s t c) (fun x => rfl)] at this
    exact this
  have HSe := Lib.hid hSe
  have h1l : ((V0 vs L).filter (P3 s t c)).length ≤ 1 := one_at
  rw [← last_fin h1l]
  generalize (V0 vs L).filter (P3 s t c) = S at *
  obtain ⟨-, -, -, y3, y4, -⟩ := TabB.cells h1
  clear h1 h2 h3 h4 hSe ws wt wc
  go_enter Try.func20, Try.ntmps20
  go_wp2_with (first
    | (go_at_call 37; refine HMd.out.mono ?_; rintro e w' ⟨rfl, rfl⟩)
    | (go_at_call 41; refine HFi.out.mono ?_; rintro e w1 ⟨v1, rfl, k1, k2⟩; have K1 := Lib.hid k1.ents; have K2 := Lib.hid k2; clear k1 k2)
    | (go_at_call 40; refine (HSe.out _ _ K2.out K1.out).mono ?_; rintro e w2 ⟨v2, rfl, k1, k2⟩; have K3 := Lib.hid k1.ents; have K4 := Lib.hid (K2.out.trans (k2.mono K2.out.size)); obtain ⟨a2, c2, rfl⟩ := k1.isSl; clear k1 k2))
  clear HMd HFi HSe y3 y4 K1 K2
  obtain ⟨n, hN⟩ : ∃ n, S.length = n := ⟨_, rfl⟩
  have HN := Lib.hid hN
  have hk := K3.out
  rw [hN] at h1l hk ⊢
  have HE := Lib.hid hk
  have hcI : (n : Int) ≤ (c2 : Int) := by
    obtain ⟨ao', cap', e, hc, _⟩ := hk
    obtain ⟨-, -, rfl⟩ : a2 = ao' ∧ True ∧ c2 = cap' := by
      simp only [Value.slice.injEq] at e
      exact ⟨e.1, trivial, e.2.2⟩
    omega
  have hlI : (n : Int) ≤ 1 := by omega
  clear hN hk K3
  go_loopw [28, 8, 9, 10] (fun vi va vb vc wr => ∃ (i : Nat) (V1 : V), i ≤ n ∧ vi = .int .i64 i ∧ va = .int .u32 (vI V1.p) ∧ vb = .int .u32 (vI V1.q) ∧ vc = .int .u32 (vI V1.r) ∧ Hid (V1 = lastV (S.take i)) ∧ Hid (Below w2.heap.size w2 wr)) (fun vi _ _ _ _ => n - (intOf vi).toNat)
  case atStart => exact ⟨0, zV, Nat.zero_le _, rfl, rfl, rfl, rfl, Lib.hid rfl, Lib.hid (Below.refl _ _)⟩
  case round =>
    obtain ⟨i, V1, hi, rfl, rfl, rfl, rfl, HV, HW⟩ := hrel
    by_cases hlt : i < n
    · have hltL : i < S.length := by rw [HN.out]; exact hlt
      obtain ⟨ao', cap', hao, -, hr⟩ := HE.out
      obtain ⟨b, o, rfl, hR⟩ := hr (by rintro rfl; simp at hltL)
      obtain ⟨rfl, -, rfl⟩ : a2 = some ⟨b, o, none⟩ ∧ True ∧ c2 = cap' := by
        simp only [Value.slice.injEq] at hao
        exact ⟨hao.1, trivial, hao.2.2⟩
      have hA : At7 wr b (o + i * 7) S[i] := (hR.at hltL).keep (HW.out.block b (hR.lt (by rintro rfl; simp at hltL)))
      have hts := take_snoc' S i hltL
      obtain ⟨x, hx⟩ : ∃ x, S[i] = x := ⟨_, rfl⟩
      rw [hx] at hA hts
      have HTS := Lib.hid hts
      obtain ⟨a0, a1, a2, a3, a4, a5, a6⟩ := hA
      have hltI : (i : Int) < (n : Int) := by omega
      have HB := Lib.hid (Blk.new wr 39 #[.int .i64 x.s, .int .i64 x.t, .int .i64 x.c, .int .i64 x.d, .int .u32 (vI x.a), .int .u32 (vI x.b), .int .u32 (vI x.e)])
      have HWx := Lib.hid (HW.out.alloc HW.out.size (.cells #[.int .i64 x.s, .int .i64 x.t, .int .i64 x.c, .int .i64 x.d, .int .u32 (vI x.a), .int .u32 (vI x.b), .int .u32 (vI x.e)] 39))
      clear hx hao hr hR hts
      go_wp2_with fail
      clear a0 a1 a2 a3 a4 a5 a6
      obtain ⟨b0, b1, b2, b3, b4, b5, b6⟩ := (show Box _ _ x from HB.out).cells
      generalize wr.alloc (.cells #[.int .i64 x.s, .int .i64 x.t, .int .i64 x.c, .int .i64 x.d, .int .u32 (vI x.a), .int .u32 (vI x.b), .int .u32 (vI x.e)] 39) = w3 at *
      refine wp_region_d (by kernel_rfl) (by kernel_rfl) ?_
      repeat (first
          | go_big_quiet_skip
          | (go_big_quiet_want
             go_big_quiet_op
             first
               | go_big_quiet_on
               | (apply Exists.intro
                  refine ⟨fun w1 hC => ?_, ?_⟩
                  · first
                      | (obtain ⟨nn, rfl⟩ := hC; go_simp; exact rfl)
                      | (go_simp; exact ⟨rfl, rfl⟩)
                  go_big_quiet_on)))
      refine wpQuiet_nil ?_
      intro W' hC'
      obtain ⟨nd, rfl⟩ := hC'
      go_wp2_with fail
      exact ⟨⟨i + 1, vec x, by omega, by go_num, rfl, rfl, rfl, Lib.hid (by rw [HTS.out, lastV_snoc]), Lib.hid (HWx.out.trans ⟨rfl, rfl, rfl, Nat.le_refl _, fun _ _ => rfl⟩)⟩, by simp [intOf]; omega⟩
    · obtain rfl : i = n := by omega
      go_wp2_with fail
      go_ret3
      have hv := HV.out
      rw [← HN.out, List.take_length] at hv
      subst hv
      exact ⟨rfl, K4.out.trans (HW.out.mono K4.out.size)⟩
end
end Go.Proofs.Ytomoldfgnbjliaa
