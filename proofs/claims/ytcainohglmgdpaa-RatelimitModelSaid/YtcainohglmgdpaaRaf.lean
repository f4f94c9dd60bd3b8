/- The reference's limiter, as plain mathematics: it is the same one. -/
import Derived.Test.YtcainohglmgdpaaRaa
namespace Go.Proofs.Ytcainohglmgdpaa
section
variable {L : List Bk} {x y z : Bk} {s : ByteArray}
theorem putB_putB (h : x.k = y.k) (hs : strict L) : putB x (putB y L) = putB x L := by
  induction L with
  | nil => simp [putB, h, ltK_irrefl]
  | cons a L ih =>
    have e1 : putB y (a :: L) = if ltK x.k a.k then y :: a :: L else if x.k = a.k then y :: L else a :: putB y L := by rw [h]; rfl
    have e2 : putB x (a :: L) = if ltK x.k a.k then x :: a :: L else if x.k = a.k then x :: L else a :: putB x L := rfl
    have e3 : ∀ M, putB x (y :: M) = x :: M := fun M => by
      show (if ltK x.k y.k then _ else if x.k = y.k then _ else _) = _
      rw [← h, if_neg (ltK_irrefl _), if_pos rfl]
    rw [e1, e2]
    by_cases h1 : ltK x.k a.k
    · rw [if_pos h1, if_pos h1, e3]
    · rw [if_neg h1, if_neg h1]
      by_cases h2 : x.k = a.k
      · rw [if_pos h2, if_pos h2, e3]
      · rw [if_neg h2, if_neg h2]
        show (if ltK x.k a.k then _ else if x.k = a.k then _ else a :: putB x (putB y L)) = _
        rw [if_neg h1, if_neg h2, ih hs.cons.1]
/-- where a key is -/
def idxB (L : List Bk) (s : ByteArray) : Int := match L.findIdx? fun x => decide (x.k = s) with | some i => i | none => -1
theorem idxB_nil : idxB [] s = -1 := rfl
theorem idxB_some (h : findB L s = some x) : ∃ i : Nat, idxB L s = i ∧ L[i]? = some x ∧ i < L.length := by
  unfold findB at h
  unfold idxB
  have h1 : ∃ i, L.findIdx? (fun x => decide (x.k = s)) = some i := by
    cases e : L.findIdx? (fun x => decide (x.k = s)) with
    | some i => exact ⟨i, rfl⟩
    | none =>
      rw [List.findIdx?_eq_none_iff] at e
      have := e x (List.mem_of_find?_eq_some h)
      have h2 := List.find?_some h
      rw [h2] at this; cases this
  obtain ⟨i, hi⟩ := h1
  rw [hi]
  rw [List.findIdx?_eq_some_iff_getElem] at hi
  obtain ⟨hl, hp, hn⟩ := hi
  refine ⟨i, rfl, ?_, hl⟩
  rw [List.getElem?_eq_getElem hl]
  congr 1
  rw [List.find?_eq_some_iff_getElem] at h
  obtain ⟨hx, j, hj, e, hb⟩ := h
  rcases Nat.lt_trichotomy i j with h1 | h1 | h1
  · have := hb i h1
    rw [hp] at this; cases this
  · subst h1; exact e
  · have := hn j h1
    rw [e, hx] at this
    exact absurd rfl this
theorem idxB_none (h : findB L s = none) : idxB L s = -1 := by
  unfold findB at h
  rw [List.find?_eq_none] at h
  unfold idxB
  rw [List.findIdx?_eq_none_iff.2 fun x hx => by simpa using h x hx]
theorem set_putB (hs : strict L) {i : Nat} (hi : L[i]? = some x) (hk : y.k = x.k) : L.set i y = putB y L := by
  induction L generalizing i with
  | nil => simp at hi
  | cons a L ih =>
    cases i with
    | zero =>
      obtain rfl : a = x := by simpa using hi
      unfold putB
      rw [hk, if_neg (ltK_irrefl _), if_pos rfl]; rfl
    | succ i =>
      have hi' : L[i]? = some x := by simpa using hi
      have hlt := hs.cons.2 x (List.mem_of_getElem? hi')
      unfold putB
      rw [hk, if_neg (ltK_not hlt), if_neg (ltK_ne hlt).symm, List.set_cons_succ, ih hs.cons.1 hi']
/-- how many keys come before one -/
def lowB (L : List Bk) (s : ByteArray) : Nat := (L.takeWhile fun x => decide (ltK x.k s)).length
theorem putB_low (hs : strict L) (hn : findB L x.k = none) : putB x L = L.take (lowB L x.k) ++ x :: L.drop (lowB L x.k) := by
  induction L with
  | nil => rfl
  | cons a L ih =>
    have hn' := findB_none hn
    have hn2 : findB L x.k = none := by
      unfold findB at hn ⊢
      rw [List.find?_eq_none] at hn ⊢
      exact fun y hy => hn y (List.mem_cons_of_mem _ hy)
    unfold putB lowB
    by_cases h1 : ltK a.k x.k
    · rw [if_neg (ltK_not h1), if_neg (fun e => hn' a (by simp) e.symm), List.takeWhile_cons_of_pos (by simp [h1]), List.length_cons]
      show a :: putB x L = a :: (L.take _ ++ x :: L.drop _)
      rw [ih hs.cons.1 hn2]; rfl
    · rw [List.takeWhile_cons_of_neg (by simp [h1])]
      have : ltK x.k a.k := by
        rcases ltK_tri x.k a.k with h | h | h
        · exact h
        · exact absurd h.symm (hn' a (by simp))
        · exact absurd h h1
      rw [if_pos this]; rfl
theorem lowB_le : lowB L s ≤ L.length := by
  unfold lowB
  exact (List.takeWhile_prefix _).length_le
theorem lowB_step {k : Nat} (hk : L[k]? = some x) (h : ∀ j, j < k → ∀ y, L[j]? = some y → ltK y.k s) : k ≤ lowB L s ∧ (ltK x.k s → k < lowB L s) ∧ (¬ ltK x.k s → lowB L s = k) := by
  induction L generalizing k with
  | nil => simp at hk
  | cons a L ih =>
    unfold lowB
    cases k with
    | zero =>
      obtain rfl : a = x := by simpa using hk
      refine ⟨Nat.zero_le _, fun h1 => ?_, fun h1 => ?_⟩
      · rw [List.takeWhile_cons_of_pos (by simp [h1])]; simp
      · rw [List.takeWhile_cons_of_neg (by simp [h1])]; rfl
    | succ k =>
      have h0 : ltK a.k s := h 0 (Nat.succ_pos _) a rfl
      have := ih (k := k) (by simpa using hk) (fun j hj y hy => h (j + 1) (Nat.succ_lt_succ hj) y (by simpa using hy))
      rw [List.takeWhile_cons_of_pos (by simp [h0]), List.length_cons]
      unfold lowB at this
      exact ⟨by omega, fun h1 => by have := this.2.1 h1; omega, fun h1 => by have := this.2.2 h1; omega⟩
theorem lowB_end (h : ∀ j, j < L.length → ∀ y, L[j]? = some y → ltK y.k s) : lowB L s = L.length := by
  have key : ∀ M : List Bk, (∀ y ∈ M, ltK y.k s) → (M.takeWhile fun x => decide (ltK x.k s)).length = M.length := by
    intro M
    induction M with
    | nil => intro _; rfl
    | cons a M ih =>
      intro hM
      rw [List.takeWhile_cons_of_pos (by simpa using hM a (by simp)), List.length_cons, List.length_cons, ih fun y hy => hM y (List.mem_cons_of_mem _ hy)]
  refine key L fun y hy => ?_
  obtain ⟨j, hj, e⟩ := List.mem_iff_getElem.1 hy
  exact h j hj y (by rw [List.getElem?_eq_getElem hj, e])
end
/-- the keys that are not forgotten -/
def keepL (S : RS) (t : Int) : List Bk := S.L.filter fun x => decide ((fillB S.b S.i x t).l < S.b)
theorem fill_lt {b i t : Int} {x : Bk} : decide ((fillB b i x t).l < b) = !fullB b i x t := by
  unfold fullB fillB
  split
  · simp
  · rename_i h
    have h1 : x.l + (t - x.c).tdiv i < b := by omega
    rw [decide_eq_true (show (⟨x.k, x.l + (t - x.c).tdiv i, x.c + (t - x.c).tdiv i * i, x.d⟩ : Bk).l < b from h1)]
    rw [decide_eq_false (show ¬ (⟨x.k, x.l + (t - x.c).tdiv i, x.c + (t - x.c).tdiv i * i, x.d⟩ : Bk).l = b from by show ¬ x.l + _ = b; omega)]
    rfl
theorem keepL_eq (S : RS) (t : Int) : keepL S t = S.L.filter fun x => !fullB S.b S.i x t := by
  unfold keepL
  congr 1
  funext x
  exact fill_lt
def knownL (S : RS) (s : ByteArray) (t : Int) : List Bk :=
  if hasB S.L s then S.L else
  if (S.n ≤ (S.L.length : Int)) then (if S.n ≤ ((keepL S t).length : Int) then keepL S t else putB ⟨s, S.b, t, 0⟩ (keepL S t)) else putB ⟨s, S.b, t, 0⟩ S.L
section
variable {S : RS} {e t : Int} {s : ByteArray}
theorem keepL_no (hr : roomR S t = false) : keepL S t = S.L := by
  rw [keepL_eq, List.filter_eq_self]
  unfold roomR at hr
  rw [Bool.or_eq_false_iff, List.any_eq_false] at hr
  intro x hx
  have := hr.2 x hx
  simpa using this
theorem room_len (h : S.Ok e) : roomR S t = (decide ((S.L.length : Int) < S.n) || decide (((keepL S t).length : Int) < S.n)) := by
  by_cases h1 : (S.L.length : Int) < S.n
  · simp [roomR, h1]
  · cases hr : roomR S t
    · rw [keepL_no hr]; simp [h1]
    · unfold roomR at hr
      rw [decide_eq_false h1, Bool.false_or] at hr
      have := filter_lt (p := fun x => !fullB S.b S.i x t) (l := S.L) (by simpa using hr)
      have hl := h.len
      rw [keepL_eq, decide_eq_false h1, Bool.false_or, decide_eq_true]
      omega
/-- what the reference's Left says -/
theorem rleft_eq (h : S.Ok e) (s : ByteArray) (t : Int) : leftR S s t = match findB S.L s with
    | some x => (fillB S.b S.i x t).l
    | none => if S.n ≤ (S.L.length : Int) ∧ S.n ≤ ((keepL S t).length : Int) then 0 else S.b := by
  unfold leftR
  cases findB S.L s with
  | some x => rfl
  | none =>
    simp only
    rw [room_len h]
    by_cases h1 : S.n ≤ (S.L.length : Int)
    · by_cases h2 : S.n ≤ ((keepL S t).length : Int)
      · have h3 : S.n ≤ (S.L.length : Int) ∧ S.n ≤ ((keepL S t).length : Int) := ⟨h1, h2⟩
        rw [if_pos h3, decide_eq_false (by omega : ¬ (S.L.length : Int) < S.n), decide_eq_false (by omega : ¬ ((keepL S t).length : Int) < S.n)]; rfl
      · have h3 : ¬ (S.n ≤ (S.L.length : Int) ∧ S.n ≤ ((keepL S t).length : Int)) := fun h => h2 h.2
        rw [if_neg h3, decide_eq_true (show ((keepL S t).length : Int) < S.n by omega), Bool.or_true, if_pos rfl]
    · have h3 : ¬ (S.n ≤ (S.L.length : Int) ∧ S.n ≤ ((keepL S t).length : Int)) := fun h => h1 h.1
      rw [if_neg h3, decide_eq_true (show (S.L.length : Int) < S.n by omega), Bool.true_or, if_pos rfl]
theorem known_has {x : Bk} (hf : findB S.L s = some x) : knownL S s t = S.L := by unfold knownL; rw [if_pos (hasB_of_find hf)]
theorem known_no (hf : findB S.L s = none) (hr : roomR S t = false) : knownL S s t = S.L ∧ findB (knownL S s t) s = none := by
  have hk := keepL_no hr
  have h1 : S.n ≤ (S.L.length : Int) := by
    unfold roomR at hr
    rw [Bool.or_eq_false_iff] at hr
    have := hr.1
    simp at this; exact this
  have : knownL S s t = S.L := by
    unfold knownL
    rw [hasB_of_none hf, if_neg (by simp), if_pos h1, hk, if_pos h1]
  exact ⟨this, by rw [this]; exact hf⟩
theorem known_new (h : S.Ok e) (hf : findB S.L s = none) (hr : roomR S S.t = true) : knownL S s S.t = putB ⟨s, S.b, S.t, 0⟩ (makeR S).L := by
  rw [room_len h] at hr
  unfold knownL makeR
  rw [hasB_of_none hf, if_neg (by simp)]
  by_cases h1 : (S.L.length : Int) < S.n
  · rw [if_neg (by omega), if_pos h1]
  · rw [decide_eq_false h1, Bool.false_or, decide_eq_true_eq] at hr
    rw [if_pos (by omega), if_neg (by omega), if_neg h1, keepL_eq]
theorem known_ok (h : S.Ok e) (s : ByteArray) : ({ S with L := knownL S s S.t } : RS).Ok e := by
  cases hf : findB S.L s with
  | some x => rw [known_has hf]; exact h
  | none =>
    cases hr : roomR S S.t
    · rw [(known_no hf hr).1]; exact h
    · rw [known_new h hf hr]
      have hm := makeR_ok h
      have he : 0 ≤ e := Int.le_trans h.a0 h.a1
      refine { h with st := hm.st.put _, len := ?_, bk := fun z hz => ?_ }
      · show ((putB _ _).length : Int) ≤ S.n
        rw [putB_len_new (hasB_of_none (makeR_none hf))]
        have := makeR_room h hr
        omega
      · rcases (mem_putB hm.st).1 hz with rfl | hz
        · have := h.b0
          exact ⟨by show 0 ≤ S.b; omega, Int.le_refl _, h.t0, Int.le_refl _, Int.le_refl _, he⟩
        · have := hm.bk z hz.1
          rw [makeR_b, makeR_t] at this
          exact this
/-- what the reference's Allow says of a state whose time is the call's -/
def rallow (S : RS) (s : ByteArray) : RS × Bool :=
  match findB (knownL S s S.t) s with
  | none => ({ S with L := knownL S s S.t, dr := S.dr + 1 }, false)
  | some x =>
    if (fillB S.b S.i x S.t).l = 0 then ({ S with L := putB { fillB S.b S.i x S.t with d := (fillB S.b S.i x S.t).d + 1 } (knownL S s S.t), dr := S.dr + 1 }, false)
    else ({ S with L := putB { fillB S.b S.i x S.t with l := (fillB S.b S.i x S.t).l - 1, d := 0 } (knownL S s S.t), al := S.al + 1 }, true)
theorem fill_zero {x : Bk} (hx : x.Ok S.b S.t e) (hb : 1 ≤ S.b) (hi : 1 ≤ S.i) (h : (fillB S.b S.i x S.t).l = 0) : fillB S.b S.i x S.t = x := by
  have hc := hx.c1
  have hl := hx.l0
  obtain ⟨d0, _, _, _⟩ := div_facts (a := S.t - x.c) (i := S.i) (by omega) hi
  unfold fillB at h ⊢
  split at h
  · have h : S.b = 0 := h
    omega
  · rename_i hn
    have h : x.l + (S.t - x.c).tdiv S.i = 0 := h
    rw [if_neg hn]
    have h0 : (S.t - x.c).tdiv S.i = 0 := by omega
    rw [h0]
    cases x
    simp
theorem rallow_eq (h : S.Ok e) (s : ByteArray) : rallow S s = if leftR S s S.t = 0 then (dropR S s, false) else (permitR S s, true) := by
  unfold rallow leftR dropR permitR
  cases hf : findB S.L s with
  | some x =>
    have hx := findB_mem hf
    rw [known_has hf, hf]
    simp only
    split
    · rename_i h0
      rw [fill_zero (h.bk x hx.1) h.b0 h.i0 h0]
    · rfl
  | none =>
    cases hr : roomR S S.t
    · rw [(known_no hf hr).2, (known_no hf hr).1]
      simp
    · have hm := makeR_ok h
      have hb := h.b0
      rw [known_new h hf hr]
      have h1 : findB (putB ⟨s, S.b, S.t, 0⟩ (makeR S).L) s = some ⟨s, S.b, S.t, 0⟩ := findB_put_same hm.st
      rw [h1]
      have h2 : fillB S.b S.i ⟨s, S.b, S.t, 0⟩ S.t = ⟨s, S.b, S.t, 0⟩ := by
        unfold fillB
        have : (S.t - S.t).tdiv S.i = 0 := by simp
        rw [if_pos (by show S.b ≤ S.b + (S.t - S.t).tdiv S.i; omega)]
      simp only [h2, if_true]
      rw [if_neg (by omega), if_neg (by omega)]
      unfold takeR
      have h3 : fillB (makeR S).b (makeR S).i ⟨s, S.b, 0, 0⟩ (makeR S).t = ⟨s, S.b, S.t, 0⟩ := by
        have := fill_new hm s
        rw [makeR_b, makeR_t] at this
        rw [makeR_b, makeR_t]; exact this
      rw [h3, putB_putB (by rfl) hm.st]
      unfold makeR
      split <;> rfl
end
end Go.Proofs.Ytcainohglmgdpaa
