/- What the laws RatelimitLeft and RatelimitBound say, as plain mathematics. -/
import Derived.Test.YtcainohglmgdpaaRaf
namespace Go.Proofs.Ytcainohglmgdpaa
section
variable {b i t e : Int} {x : Bk}
/-- a bucket that was filled is not filled once more at that time -/
theorem fill_again {t0 : Int} (hx : x.Ok b t0 e) (hi : 1 ≤ i) (ht : t0 ≤ t) : (t - (fillB b i x t).c).tdiv i = 0 ∧ (fillB b i x t).c ≤ t := by
  have hc := hx.c1
  unfold fillB
  split
  · show (t - t).tdiv i = 0 ∧ t ≤ t
    rw [Int.sub_self]; exact ⟨Int.zero_tdiv _, Int.le_refl _⟩
  · show (t - (x.c + (t - x.c).tdiv i * i)).tdiv i = 0 ∧ x.c + (t - x.c).tdiv i * i ≤ t
    have h1 := Int.mul_tdiv_add_tmod (t - x.c) i
    have h2 := Int.tmod_nonneg i (show 0 ≤ t - x.c by omega)
    have h3 := Int.tmod_lt_of_pos (t - x.c) (show 0 < i by omega)
    rw [Int.mul_comm] at h1
    refine ⟨?_, by omega⟩
    have e1 : t - (x.c + (t - x.c).tdiv i * i) = (t - x.c).tmod i := by omega
    rw [e1]
    exact Int.tdiv_eq_zero_of_lt h2 h3
theorem fill_less {y : Bk} (h0 : (t - y.c).tdiv i = 0) (hl : y.l < b) : fillB b i y t = y := by
  unfold fillB
  rw [h0, if_neg (by omega)]
  cases y
  simp
end
section
variable {S : RS} {e now t : Int} {s : ByteArray}
theorem left_nonneg (h : S.Ok e) (ht : S.t ≤ t) : 0 ≤ leftR S s t := by
  unfold leftR
  have hb := h.b0
  cases hf : findB S.L s with
  | some x => exact (fill_ok (h.bk x (findB_mem hf).1) h.b0 h.i0 ht).l0
  | none =>
    simp only
    split <;> omega
theorem left_le (h : S.Ok e) (ht : S.t ≤ t) : leftR S s t ≤ 1000000 := by
  unfold leftR
  have hb := h.b0
  have hb1 := h.b1
  cases hf : findB S.L s with
  | some x => exact Int.le_trans (fill_ok (h.bk x (findB_mem hf).1) h.b0 h.i0 ht).l1 h.b1
  | none =>
    simp only
    split <;> omega
theorem left_at : leftR (atR S t) s = leftR S s := rfl
theorem timeR_self {S' : RS} (h : S'.t = timeR S now) : timeR S' now = timeR S now := by
  have h1 : timeR S' now = max (timeR S now) (min now 1125899906842624) := by unfold timeR; rw [h]; rfl
  rw [h1]
  exact Int.max_eq_left (by unfold timeR; exact Int.le_max_right _ _)
/-- what is permitted takes one away -/
theorem take_left {x : Bk} (h : S.Ok e) (hx : x.Ok S.b S.t e) : leftR (takeR S x) x.k S.t = (fillB S.b S.i x S.t).l - 1 ∧ (takeR S x).t = S.t ∧ (takeR S x).al = S.al + 1 ∧ (takeR S x).dr = S.dr ∧ (takeR S x).b = S.b ∧ (takeR S x).i = S.i ∧ (takeR S x).n = S.n := by
  have F := fill_ok hx h.b0 h.i0 (Int.le_refl _)
  refine ⟨?_, rfl, rfl, rfl, rfl, rfl, rfl⟩
  unfold leftR
  have h1 : findB (takeR S x).L x.k = some { fillB S.b S.i x S.t with l := (fillB S.b S.i x S.t).l - 1, d := 0 } := by
    have := findB_put_same (x := { fillB S.b S.i x S.t with l := (fillB S.b S.i x S.t).l - 1, d := 0 }) h.st
    rw [show ({ fillB S.b S.i x S.t with l := (fillB S.b S.i x S.t).l - 1, d := 0 } : Bk).k = x.k from fill_k] at this
    exact this
  rw [h1]
  show (fillB S.b S.i { fillB S.b S.i x S.t with l := (fillB S.b S.i x S.t).l - 1, d := 0 } S.t).l = _
  rw [fill_less (y := { fillB S.b S.i x S.t with l := (fillB S.b S.i x S.t).l - 1, d := 0 }) (fill_again hx h.i0 (Int.le_refl _)).1 (by have := F.l1; show (fillB S.b S.i x S.t).l - 1 < S.b; omega)]
theorem permit_left (h : S.Ok e) (hl : leftR S s S.t ≠ 0) : leftR (permitR S s) s S.t = leftR S s S.t - 1 ∧ (permitR S s).t = S.t ∧ (permitR S s).al = S.al + 1 ∧ (permitR S s).dr = S.dr ∧ (permitR S s).b = S.b ∧ (permitR S s).i = S.i ∧ (permitR S s).n = S.n := by
  unfold permitR
  cases hf : findB S.L s with
  | some x =>
    have hx := findB_mem hf
    have := take_left h (h.bk x hx.1)
    rw [hx.2] at this
    refine ⟨?_, this.2⟩
    rw [this.1]
    unfold leftR
    rw [hf]
  | none =>
    have hm := makeR_ok h
    have hb := h.b0
    have hx : (⟨s, S.b, 0, 0⟩ : Bk).Ok (makeR S).b (makeR S).t e := ⟨by show 0 ≤ S.b; omega, by rw [makeR_b]; exact Int.le_refl _, Int.le_refl _, hm.t0, Int.le_refl _, Int.le_trans hm.a0 hm.a1⟩
    have := take_left hm hx
    rw [makeR_t, makeR_al, makeR_dr, makeR_b, makeR_i, makeR_n] at this
    refine ⟨?_, this.2⟩
    show leftR (takeR (makeR S) ⟨s, S.b, 0, 0⟩) (⟨s, S.b, 0, 0⟩ : Bk).k S.t = _
    rw [this.1, fill_new h]
    show S.b - 1 = _
    unfold leftR at hl ⊢
    rw [hf] at hl ⊢
    simp only at hl ⊢
    cases hr : roomR S S.t
    · rw [hr] at hl; exact absurd rfl hl
    · rfl
theorem drop_same : (dropR S s).t = S.t ∧ (dropR S s).al = S.al ∧ (dropR S s).dr = S.dr + 1 ∧ (dropR S s).b = S.b ∧ (dropR S s).i = S.i ∧ (dropR S s).n = S.n := by
  unfold dropR
  cases findB S.L s <;> exact ⟨rfl, rfl, rfl, rfl, rfl, rfl⟩
/-- an event that is permitted -/
theorem allow_yes (h : S.Ok e) (hl : leftR S s (timeR S now) ≠ 0) : (allowR S s now).2 = true ∧ (allowR S s now).1 = permitR (atR S (timeR S now)) s ∧ leftR (allowR S s now).1 s (timeR (allowR S s now).1 now) = leftR S s (timeR S now) - 1 ∧ (allowR S s now).1.al = S.al + 1 ∧ (allowR S s now).1.dr = S.dr ∧ (allowR S s now).1.t = timeR S now := by
  have ht := timeR_ok h now
  have hA := atR_ok h ht.1 ht.2
  have hl2 : leftR (atR S (timeR S now)) s (timeR S now) ≠ 0 := hl
  have e1 : allowR S s now = (permitR (atR S (timeR S now)) s, true) := by unfold allowR; rw [if_neg hl2]
  rw [e1]
  have hp := permit_left hA hl2
  refine ⟨rfl, rfl, ?_, hp.2.2.1, hp.2.2.2.1, hp.2.1⟩
  show leftR (permitR _ s) s (timeR (permitR _ s) now) = _
  rw [timeR_self (S := S) hp.2.1]
  exact hp.1
theorem allow_no (hl : leftR S s (timeR S now) = 0) : (allowR S s now).2 = false ∧ (allowR S s now).1 = dropR (atR S (timeR S now)) s ∧ (allowR S s now).1.al = S.al ∧ (allowR S s now).1.dr = S.dr + 1 ∧ (allowR S s now).1.t = timeR S now := by
  have hl2 : leftR (atR S (timeR S now)) s (timeR S now) = 0 := hl
  have e1 : allowR S s now = (dropR (atR S (timeR S now)) s, false) := by unfold allowR; rw [if_pos hl2]
  rw [e1]
  have hp := drop_same (S := atR S (timeR S now)) (s := s)
  exact ⟨rfl, rfl, hp.2.1, hp.2.2.1, hp.1⟩
end
end Go.Proofs.Ytcainohglmgdpaa
