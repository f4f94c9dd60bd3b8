/- ints of the law; Permissive. -/
import Derived.Test.YtbcbhgclgakljaaMdi
namespace Go.Proofs.Ytbcbhgclgakljaa
open Go.RowKit Go.Maps
theorem Rows'.at1 {w : World} {v : Value} {L : List Int} (h : Rows' RIn w v L) {g o cap n : Nat} (hv : v = .slice (some ⟨g, o, none⟩) n cap) {i : Nat} {x : Int} (hx : L[i]? = some x) :
    w.cell? ⟨g, o + i, none⟩ = some (.int .i64 x) := by
  obtain ⟨ao, cap', e, _, hr⟩ := h.form
  obtain ⟨g', o', e2, _, hR⟩ := hr (by rintro rfl; simp at hx)
  subst hv
  simp only [Value.slice.injEq] at e
  obtain ⟨e1, _, _⟩ := e
  rw [e2] at e1
  simp only [Option.some.injEq, Addr.mk.injEq] at e1
  obtain ⟨rfl, rfl, _⟩ := e1
  have h1 : RIn.sz = 1 := rfl
  have := hR i x hx 0 (.int .i64 x) rfl
  rw [h1, Nat.mul_one] at this
  exact this
theorem Rows'.atT {w : World} {v : Value} {L : List Ty} (h : Rows' RTy w v L) {g o cap n : Nat} (hv : v = .slice (some ⟨g, o, none⟩) n cap) {i : Nat} {x : Ty} (hx : L[i]? = some x) :
    w.cell? ⟨g, o + i * 3, none⟩ = some (.string x.n) ∧ w.cell? ⟨g, o + i * 3 + 1, none⟩ = some (.slice none 0 0) ∧ w.cell? ⟨g, o + i * 3 + 2, none⟩ = some (.bool x.pm) := by
  obtain ⟨ao, cap', e, _, hr⟩ := h.form
  obtain ⟨g', o', e2, _, hR⟩ := hr (by rintro rfl; simp at hx)
  subst hv
  simp only [Value.slice.injEq] at e
  obtain ⟨e1, _, _⟩ := e
  rw [e2] at e1
  simp only [Option.some.injEq, Addr.mk.injEq] at e1
  obtain ⟨rfl, rfl, _⟩ := e1
  have := hR i x hx
  exact ⟨this 0 _ rfl, this 1 _ rfl, this 2 _ rfl⟩
theorem Rows'.some {α : Type} {R : RowT α} {w : World} {v : Value} {L : List α} (h : Rows' R w v L) (hn : L ≠ []) : ∃ g o cap, v = .slice (some ⟨g, o, none⟩) L.length cap ∧ L.length ≤ cap := by
  obtain ⟨ao, cap, rfl, hc, hr⟩ := h.form
  obtain ⟨g, o, rfl, _⟩ := hr hn
  exact ⟨g, o, cap, rfl, hc⟩
theorem take_step {L M : List Int} {i : Nat} {x y : Int} (h : L.take i = M.take i) (hx : L[i]? = some x) (hy : M[i]? = some y) (e : x = y) : L.take (i + 1) = M.take (i + 1) := by
  rw [List.take_add_one, List.take_add_one, h, hx, hy, e]
set_option maxRecDepth 100000 in
set_option maxHeartbeats 8000000 in
theorem ints_c {w : World} (v1 v2 : Value) (L M : List Int) (h1 : Rows' RIn w v1 L) (h2 : Rows' RIn w v2 M) (hl : L.length ≤ 100000) :
    Calls Try.prog 22 #[v1, v2] w fun e w' => e = .returned (.bool (decide (L = M))) ∧ Below w.heap.size w w' := by
  obtain ⟨ao, cap, rfl, hc1, _⟩ := id h1.form
  obtain ⟨bo, cbp, rfl, hc2, _⟩ := id h2.form
  by_cases hlen : L.length = M.length
  · obtain ⟨n, hn⟩ : ∃ n, L.length = n := ⟨_, rfl⟩
    have hm : M.length = n := by omega
    rw [hn] at hl hc1
    rw [hm] at hc2
    have HN := Lib.hid hn
    have HM := Lib.hid hm
    have H1 := Lib.hid h1
    have H2 := Lib.hid h2
    have hlI : (n : Int) ≤ 100000 := by omega
    have hcI : (n : Int) ≤ (cap : Int) := by omega
    have hdI : (n : Int) ≤ (cbp : Int) := by omega
    rw [hn] at h1 ⊢
    rw [hm] at h2 ⊢
    clear h1 h2 hn hm hlen
    go_enter Try.func22, Try.ntmps22
    go_wp2_with fail
    go_loopw [13] (fun vi wr => ∃ i : Nat, i ≤ n ∧ vi = .int .i64 i ∧ Hid (L.take i = M.take i) ∧ Hid (Below w.heap.size w wr)) (fun vi _ => n - (intOf vi).toNat)
    case atStart => exact ⟨0, Nat.zero_le _, rfl, Lib.hid rfl, Lib.hid (Below.refl _ _)⟩
    case round =>
      obtain ⟨i, hi, rfl, HT, HW⟩ := hrel
      by_cases hlt : i < n
      · have hL : L[i]? = some (L[i]'(by rw [HN.out]; exact hlt)) := List.getElem?_eq_getElem _
        have hM : M[i]? = some (M[i]'(by rw [HM.out]; exact hlt)) := List.getElem?_eq_getElem _
        generalize L[i]'(by rw [HN.out]; exact hlt) = x at hL
        generalize M[i]'(by rw [HM.out]; exact hlt) = y at hM
        obtain ⟨g, o, cap', e1, _⟩ := H1.out.some (by rintro rfl; simp at hL)
        obtain ⟨g2, o2, cap2, e2, _⟩ := H2.out.some (by rintro rfl; simp at hM)
        simp only [Value.slice.injEq] at e1 e2
        obtain ⟨rfl, _, rfl⟩ := e1
        obtain ⟨rfl, _, rfl⟩ := e2
        have hltI : (i : Int) < (n : Int) := by omega
        have HX : Hid (∀ u, Kp wr u → u.cell? ⟨g, o + i, none⟩ = some (.int .i64 x) ∧ u.cell? ⟨g2, o2 + i, none⟩ = some (.int .i64 y)) := Lib.hid (fun u hu => by
          have hb := HW.out.trans (Below.mono hu HW.out.size)
          exact ⟨(H1.out.below hb).at1 rfl hL, (H2.out.below hb).at1 rfl hM⟩)
        have HL := Lib.hid hL
        have HMM := Lib.hid hM
        clear hL hM
        go_upto_region 6 with fail
        refine wp_region_kp (by kernel_rfl) (by kernel_rfl) ?_
        repeat (first
          | go_big_quiet_skip
          | (go_big_quiet_want
             first
               | (go_big_quiet_op
                  first
                    | go_big_quiet_on
                    | (apply Exists.intro
                       refine ⟨fun w1 hC => ?_, ?_⟩
                       · first
                           | (obtain ⟨a0, b0⟩ := HX.out w1 hC; go_simp; exact ⟨rfl, rfl⟩)
                           | (obtain ⟨a0, b0⟩ := HX.out w1 hC; go_simp; exact rfl)
                           | exact rfl
                           | (go_simp; exact ⟨rfl, rfl⟩)
                       go_big_quiet_on))))
        refine wpQuiet_nil ?_
        intro W1 hC1
        have HW1 : Hid (Below w.heap.size w W1) := Lib.hid (HW.out.trans (Below.mono hC1 HW.out.size))
        clear hC1
        cases hxy : (x != y)
        · go_wp2_with fail
          exact ⟨⟨i + 1, by omega, by go_num, Lib.hid (take_step HT.out HL.out HMM.out (by simpa using hxy)), HW1⟩, by simp [intOf]; omega⟩
        · go_wp2_with fail
          go_ret
          refine ⟨?_, HW1.out⟩
          have : L ≠ M := by
            intro e
            have e1 := HL.out
            rw [e, HMM.out] at e1
            simp only [Option.some.injEq] at e1
            rw [e1] at hxy
            simp at hxy
          simp [this]
      · obtain rfl : i = n := by omega
        go_wp2_with fail
        go_ret
        refine ⟨?_, HW.out⟩
        have e := HT.out
        rw [List.take_of_length_le (by rw [HN.out]; exact Nat.le_refl _), List.take_of_length_le (by rw [HM.out]; exact Nat.le_refl _)] at e
        simp [e]
  · have hne : ((L.length : Int) != (M.length : Int)) = true := by simp; omega
    have hLM : L ≠ M := fun e => hlen (by rw [e])
    clear h1 h2
    go_enter Try.func22, Try.ntmps22
    go_wp2_with fail
    go_ret
    exact ⟨by simp [hLM], Below.refl _ _⟩
set_option maxRecDepth 100000 in
set_option maxHeartbeats 8000000 in
theorem perm_c {w : World} (T : List Ty) (g o n c : Nat) (h : Rows' RTy w (.slice (some ⟨g, o, none⟩) n c) T) (hn : n = T.length) (hl : n ≤ 1000) :
    Calls Try.prog 21 #[.agg #[.slice none 0 0, (.slice (some ⟨g, o, none⟩) n c), .slice none 0 0, .slice none 0 0, .slice none 0 0, .slice none 0 0, .slice none 0 0, .slice none 0 0, .slice none 0 0, .slice none 0 0, .slice none 0 0, .slice none 0 0, .slice none 0 0, .slice none 0 0, .slice none 0 0, .slice none 0 0, .slice none 0 0]] w fun e w' => ∃ v', e = .returned v' ∧ Own RIn w' w.heap.size v' (prm T n) ∧ Below w.heap.size w w' := by
  have HB : Hid (Below w.heap.size w (w.alloc (.cells #[.slice none 0 0, (.slice (some ⟨g, o, none⟩) n c), .slice none 0 0, .slice none 0 0, .slice none 0 0, .slice none 0 0, .slice none 0 0, .slice none 0 0, .slice none 0 0, .slice none 0 0, .slice none 0 0, .slice none 0 0, .slice none 0 0, .slice none 0 0, .slice none 0 0, .slice none 0 0, .slice none 0 0] 62))) := Lib.hid ((Below.refl _ _).alloc (Nat.le_refl _) _)
  have HP : Hid (Blk (w.alloc (.cells #[.slice none 0 0, (.slice (some ⟨g, o, none⟩) n c), .slice none 0 0, .slice none 0 0, .slice none 0 0, .slice none 0 0, .slice none 0 0, .slice none 0 0, .slice none 0 0, .slice none 0 0, .slice none 0 0, .slice none 0 0, .slice none 0 0, .slice none 0 0, .slice none 0 0, .slice none 0 0, .slice none 0 0] 62)) w.heap.size 62 #[.slice none 0 0, (.slice (some ⟨g, o, none⟩) n c), .slice none 0 0, .slice none 0 0, .slice none 0 0, .slice none 0 0, .slice none 0 0, .slice none 0 0, .slice none 0 0, .slice none 0 0, .slice none 0 0, .slice none 0 0, .slice none 0 0, .slice none 0 0, .slice none 0 0, .slice none 0 0, .slice none 0 0]) := Lib.hid (Blk.here rfl)
  have HR := Lib.hid (h.below HB.out)
  have HN := Lib.hid hn
  have hcI : (n : Int) ≤ (c : Int) := by
    obtain ⟨_, _, e, hc, _⟩ := h.form
    simp only [Value.slice.injEq] at e
    rw [hn, e.2.2]; omega
  clear h hn
  go_enter Try.func21, Try.ntmps21
  go_upto_region 1 with fail
  generalize w.alloc (.cells #[.slice none 0 0, (.slice (some ⟨g, o, none⟩) n c), .slice none 0 0, .slice none 0 0, .slice none 0 0, .slice none 0 0, .slice none 0 0, .slice none 0 0, .slice none 0 0, .slice none 0 0, .slice none 0 0, .slice none 0 0, .slice none 0 0, .slice none 0 0, .slice none 0 0, .slice none 0 0, .slice none 0 0] 62) = w0 at *
  generalize hgx : w.heap.size = g1 at *
  have c1 := HP.out.cell 1
  simp only [List.getElem?_toArray, List.getElem?_cons_zero, List.getElem?_cons_succ] at c1
  go_wp2_with fail
  clear c1
  go_loopw [9, 3] (fun vi vl wr => ∃ (i : Nat) (al : Option Addr) (ln cl : Nat), i ≤ n ∧ vi = .int .i64 i ∧ vl = .slice al ln cl ∧ Hid (Own RIn wr w0.heap.size (.slice al ln cl) (prm T i)) ∧ Hid (Below w0.heap.size w0 wr)) (fun vi _ _ => n - (intOf vi).toNat)
  case atStart => exact ⟨0, none, 0, 0, Nat.zero_le _, rfl, rfl, Lib.hid (Own.nil _ _), Lib.hid (Below.refl _ _)⟩
  case round =>
    obtain ⟨i, al, ln, cl, hi, rfl, rfl, HO, HW⟩ := hrel
    by_cases hlt : i < n
    · have hltI : (i : Int) < (n : Int) := by omega
      have hx : T[i]? = some (T[i]'(by rw [← HN.out]; exact hlt)) := List.getElem?_eq_getElem _
      generalize T[i]'(by rw [← HN.out]; exact hlt) = x at hx
      obtain ⟨y0, y1, y2⟩ := (HR.out.below HW.out).atT rfl hx
      have HST := Lib.hid (prm_step hx)
      have hlen : ln = (prm T i).length := by obtain ⟨_, _, e⟩ := HO.out.isSl; simp only [Value.slice.injEq] at e; exact e.2.1
      have HLN := Lib.hid hlen
      have HPL := Lib.hid (prm_len T i)
      clear hx hlen
      go_upto_region 5 with fail
      clear y0 y1 y2
      have hba : Below wr.heap.size wr (wr.alloc (.cells #[.string x.n, .slice none 0 0, .bool x.pm] 99)) := (Below.refl _ _).alloc (Nat.le_refl _) _
      have HX := Lib.hid (Blk.new wr 99 #[.string x.n, .slice none 0 0, .bool x.pm])
      have HO2 := Lib.hid (HO.out.below hba)
      have HW2 : Hid (Below w0.heap.size w0 (wr.alloc (.cells #[.string x.n, .slice none 0 0, .bool x.pm] 99))) := Lib.hid (HW.out.trans (hba.mono HW.out.size))
      clear hba
      generalize wr.alloc (.cells #[.string x.n, .slice none 0 0, .bool x.pm] 99) = w2 at *
      generalize wr.heap.size = g5 at *
      have y2 := HX.out.cell 2
      simp only [List.getElem?_toArray, List.getElem?_cons_zero, List.getElem?_cons_succ] at y2
      cases hp : x.pm
      · rw [hp] at y2 HST
        go_wp2_with fail
        refine ⟨⟨i + 1, al, ln, cl, by omega, by go_num, rfl, Lib.hid ?_, HW2⟩, by simp [intOf]; omega⟩
        rw [HST.out]
        exact HO2.out
      · rw [hp] at y2 HST
        have HBS : Hid (Below w2.heap.size w2 (w2.alloc (.cells #[.int .i64 i] 3))) := Lib.hid ((Below.refl _ _).alloc (Nat.le_refl _) _)
        have HO3 := Lib.hid (HO2.out.below HBS.out)
        have HY : Hid ((w2.alloc (.cells #[.int .i64 i] 3)).heap[w2.heap.size]? = some (.cells (RIn.c (i : Int)).toArray RIn.te (0, 0))) := Lib.hid (Blk.new w2 3 #[.int .i64 i])
        have HG1 : Hid (w0.heap.size ≤ w2.heap.size) := Lib.hid HW2.out.size
        have HLL : Hid (ln ≤ 1000000) := Lib.hid (by rw [HLN.out]; have := HPL.out; omega)
        go_wp2_with (at_builtin; refine wpList_append_one RIn rfl _ _ rfl w0.heap.size (.slice al ln cl) (prm T i) ln HLN.out.symm rfl HO3.out w2.heap.size (i : Int) rfl HY.out HLL.out (Nat.le_trans HG1.out HBS.out.size) ?_; intro ga ca w3 h1 h2 h3; have H1 := Lib.hid h1; have H2 := Lib.hid h2; clear h1 h2 h3)
        refine ⟨⟨i + 1, some ⟨ga, 0, none⟩, ln + 1, ca, by omega, by go_num, rfl, Lib.hid ?_, Lib.hid ?_⟩, by simp [intOf]; omega⟩
        · rw [HST.out]
          exact H1.out
        · exact (HW2.out.trans (HBS.out.mono HW2.out.size)).grown H2.out (Nat.le_trans HG1.out HBS.out.size) (fun k hk => (HO3.out.lt k hk).1)
    · obtain rfl : i = n := by omega
      go_wp2_with fail
      go_ret
      refine ⟨_, rfl, HO.out.base (by rw [hgx]; exact Nat.le_of_lt HP.out.lt), by rw [hgx]; exact HB.out.trans (HW.out.mono (Nat.le_of_lt HP.out.lt))⟩
end Go.Proofs.Ytbcbhgclgakljaa
