/- Keys compared; SameKeys of the reference; decision, play, same. -/
import Derived.Test.YtbcbhgclgakljaaKcm
namespace Go.Proofs.Ytbcbhgclgakljaa
open Go.RowKit Go.Maps Go.WideElems Go.WideShapes
def sameK (x y : K3) : Bool := decide (x = y)
@[go_sem] theorem sameK_self (x : K3) : sameK x x = true := by simp [sameK]
@[go_sem] theorem eqK (a b c a' b' c' : Int) (w : World) :
    (Op.equalIn 10000 84 (.agg #[.int .i64 a, .int .i64 b, .int .i64 c]) (.agg #[.int .i64 a', .int .i64 b', .int .i64 c'])).run Try.prog w = .ok (sameK ⟨a, b, c⟩ ⟨a', b', c'⟩) w := by
  have u3 := Try.underlying3
  have a3 := Try.isAgg3
  have z3 := Try.sizeOf3
  rw [show (10000 : Nat) = 9999 + 1 from rfl, Op.equalIn]
  simp only [Sem.run_bind, run_underlying Try.underlying84, Result.andThen_ok]
  simp only [Std.Legacy.Range.forIn_eq_forIn_range', Std.Legacy.Range.size, Nat.sub_zero, Nat.add_sub_cancel, Nat.div_one, List.range'_succ, List.range'_zero, List.forIn_cons, List.forIn_nil]
  go_simp
  by_cases h1 : a = a' <;> by_cases h2 : b = b' <;> by_cases h3 : c = c' <;> simp [h1, h2, h3, sameK]
theorem neqK (x y : K3) (w : World) : (binOp .neq 84 (.agg #[.int .i64 x.a, .int .i64 x.b, .int .i64 x.c]) (.agg #[.int .i64 y.a, .int .i64 y.b, .int .i64 y.c])).run Try.prog w = .ok (.bool (!sameK x y)) w := by
  have h := eqK x.a x.b x.c y.a y.b y.c w
  simp only [binOp]
  simp [Op.equal, Op.maxDepth, h]
theorem Rows'.at3 {w : World} {v : Value} {L : List K3} (h : Rows' RK w v L) {g o cap n : Nat} (hv : v = .slice (some ⟨g, o, none⟩) n cap) {i : Nat} {x : K3} (hx : L[i]? = some x) :
    w.cell? ⟨g, o + i * 3, none⟩ = some (.int .i64 x.a) ∧ w.cell? ⟨g, o + i * 3 + 1, none⟩ = some (.int .i64 x.b) ∧ w.cell? ⟨g, o + i * 3 + 2, none⟩ = some (.int .i64 x.c) := by
  obtain ⟨ao, cap', e, _, hr⟩ := h.form
  obtain ⟨g', o', e2, _, hR⟩ := hr (by rintro rfl; simp at hx)
  subst hv
  simp only [Value.slice.injEq] at e
  obtain ⟨e1, _, _⟩ := e
  rw [e2] at e1
  simp only [Option.some.injEq, Addr.mk.injEq] at e1
  obtain ⟨rfl, rfl, _⟩ := e1
  have := hR i x hx
  exact ⟨this 0 _ rfl, this 1 _ rfl, this 2 _ rfl⟩
theorem Rows'.some3 {w : World} {v : Value} {L : List K3} (h : Rows' RK w v L) (hn : L ≠ []) : ∃ g o cap, v = .slice (some ⟨g, o, none⟩) L.length cap ∧ L.length ≤ cap := by
  obtain ⟨ao, cap, rfl, hc, hr⟩ := h.form
  obtain ⟨g, o, rfl, _⟩ := hr hn
  exact ⟨g, o, cap, rfl, hc⟩
theorem take_eq_step {L M : List K3} {i : Nat} {x y : K3} (h : L.take i = M.take i) (hx : L[i]? = some x) (hy : M[i]? = some y) (e : x = y) : L.take (i + 1) = M.take (i + 1) := by
  rw [List.take_add_one, List.take_add_one, h, hx, hy, e]
section
variable {w : World}
set_option maxRecDepth 100000 in
set_option maxHeartbeats 8000000 in
theorem sameKeys_c (v1 v2 : Value) (L M : List K3) (h1 : Rows' RK w v1 L) (h2 : Rows' RK w v2 M) (hl : L.length ≤ 100000) :
    Calls Try.prog 32 #[v1, v2] w fun e w' => e = .returned (.bool (decide (L = M))) ∧ Below w.heap.size w w' := by
  obtain ⟨ao, cap, rfl, hc1, _⟩ := id h1.form
  obtain ⟨bo, cbp, rfl, hc2, _⟩ := id h2.form
  by_cases hlen : L.length = M.length
  · obtain ⟨n, hn⟩ : ∃ n, L.length = n := ⟨_, rfl⟩
    have hm : M.length = n := by omega
    rw [hn] at hl hc1
    rw [hm] at hc2
    have HN := Lib.hid hn
    have HM := Lib.hid hm
    have H1 := Lib.hid h1
    have H2 := Lib.hid h2
    have hlI : (n : Int) ≤ 100000 := by omega
    have hcI : (n : Int) ≤ (cap : Int) := by omega
    have hdI : (n : Int) ≤ (cbp : Int) := by omega
    rw [hn] at h1 ⊢
    rw [hm] at h2 ⊢
    clear h1 h2 hn hm hlen
    go_enter Try.func32, Try.ntmps32
    go_wp2_with fail
    go_loopw [5] (fun vi wr => ∃ i : Nat, i ≤ n ∧ vi = .int .i64 i ∧ Hid (L.take i = M.take i) ∧ Hid (Below w.heap.size w wr)) (fun vi _ => n - (intOf vi).toNat)
    case atStart => exact ⟨0, Nat.zero_le _, rfl, Lib.hid rfl, Lib.hid (Below.refl _ _)⟩
    case round =>
      obtain ⟨i, hi, rfl, HT, HW⟩ := hrel
      by_cases hlt : i < n
      · have hL : L[i]? = some (L[i]'(by rw [HN.out]; exact hlt)) := List.getElem?_eq_getElem _
        have hM : M[i]? = some (M[i]'(by rw [HM.out]; exact hlt)) := List.getElem?_eq_getElem _
        generalize L[i]'(by rw [HN.out]; exact hlt) = x at hL
        generalize M[i]'(by rw [HM.out]; exact hlt) = y at hM
        obtain ⟨g, o, cap', e1, _⟩ := H1.out.some3 (by rintro rfl; simp at hL)
        obtain ⟨g2, o2, cap2, e2, _⟩ := H2.out.some3 (by rintro rfl; simp at hM)
        simp only [Value.slice.injEq] at e1 e2
        obtain ⟨rfl, _, rfl⟩ := e1
        obtain ⟨rfl, _, rfl⟩ := e2
        have hltI : (i : Int) < (n : Int) := by omega
        have HX : Hid (∀ u, Kp wr u → (u.cell? ⟨g, o + i * 3, none⟩ = some (.int .i64 x.a) ∧ u.cell? ⟨g, o + i * 3 + 1, none⟩ = some (.int .i64 x.b) ∧ u.cell? ⟨g, o + i * 3 + 2, none⟩ = some (.int .i64 x.c)) ∧ u.cell? ⟨g2, o2 + i * 3, none⟩ = some (.int .i64 y.a) ∧ u.cell? ⟨g2, o2 + i * 3 + 1, none⟩ = some (.int .i64 y.b) ∧ u.cell? ⟨g2, o2 + i * 3 + 2, none⟩ = some (.int .i64 y.c)) := Lib.hid (fun u hu => by
          have hb := HW.out.trans (Below.mono hu HW.out.size)
          exact ⟨(H1.out.below hb).at3 rfl hL, (H2.out.below hb).at3 rfl hM⟩)
        have HQ : Hid (∀ u, (binOp .neq 84 (.agg #[.int .i64 x.a, .int .i64 x.b, .int .i64 x.c]) (.agg #[.int .i64 y.a, .int .i64 y.b, .int .i64 y.c])).run Try.prog u = .ok (.bool (!sameK x y)) u) := Lib.hid (neqK x y)
        have HL := Lib.hid hL
        have HMM := Lib.hid hM
        clear hL hM
        go_upto_region 6 with fail
        refine wp_region_kp (by kernel_rfl) (by kernel_rfl) ?_
        repeat (first
          | go_big_quiet_skip
          | (go_big_quiet_want
             first
               | (go_big_quiet_op
                  first
                    | go_big_quiet_on
                    | (apply Exists.intro
                       refine ⟨fun w1 hC => ?_, ?_⟩
                       · first
                           | (obtain ⟨⟨a0, a1, a2⟩, b0, b1, b2⟩ := HX.out w1 hC; go_simp; exact ⟨rfl, rfl⟩)
                           | (obtain ⟨⟨a0, a1, a2⟩, b0, b1, b2⟩ := HX.out w1 hC; go_simp; exact rfl)
                           | (have hq := HQ.out w1; go_simp; exact ⟨rfl, rfl⟩)
                           | exact rfl
                           | (go_simp; exact ⟨rfl, rfl⟩)
                       go_big_quiet_on))))
        refine wpQuiet_nil ?_
        intro W1 hC1
        have HW1 : Hid (Below w.heap.size w W1) := Lib.hid (HW.out.trans (Below.mono hC1 HW.out.size))
        clear hC1
        cases hxy : sameK x y
        · go_wp2_with fail
          go_ret
          refine ⟨?_, HW1.out⟩
          have : L ≠ M := by
            intro e
            have e1 := HL.out
            rw [e, HMM.out] at e1
            simp only [Option.some.injEq] at e1
            rw [e1] at hxy
            simp [sameK] at hxy
          simp [this]
        · go_wp2_with fail
          exact ⟨⟨i + 1, by omega, by go_num, Lib.hid (take_eq_step HT.out HL.out HMM.out (by simpa [sameK] using hxy)), HW1⟩, by simp [intOf]; omega⟩
      · obtain rfl : i = n := by omega
        go_wp2_with fail
        go_ret
        refine ⟨?_, HW.out⟩
        have e := HT.out
        rw [List.take_of_length_le (by rw [HN.out]; exact Nat.le_refl _), List.take_of_length_le (by rw [HM.out]; exact Nat.le_refl _)] at e
        simp [e]
  · have hne : ((L.length : Int) != (M.length : Int)) = true := by simp; omega
    have hLM : L ≠ M := fun e => hlen (by rw [e])
    clear h1 h2
    go_enter Try.func32, Try.ntmps32
    go_wp2_with fail
    go_ret
    exact ⟨by simp [hLM], Below.refl _ _⟩
end
end Go.Proofs.Ytbcbhgclgakljaa
