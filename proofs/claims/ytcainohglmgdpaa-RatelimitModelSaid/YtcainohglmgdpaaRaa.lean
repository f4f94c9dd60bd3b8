/- A limiter, as plain mathematics: keys in the order of their bytes, buckets, what the events do. -/
import Derived.Test.YtcainohglmgdpaaMm
namespace Go.Proofs.Ytcainohglmgdpaa
/-- the order of keys -/
def ltK (a b : ByteArray) : Prop := a.data.toList < b.data.toList
instance (a b : ByteArray) : Decidable (ltK a b) := by unfold ltK; infer_instance
theorem ltK_irrefl (a : ByteArray) : ¬ ltK a a := List.lt_irrefl _
theorem ltK_trans {a b c : ByteArray} (h : ltK a b) (k : ltK b c) : ltK a c := List.lt_trans h k
theorem ba_ext {a b : ByteArray} (h : a.data.toList = b.data.toList) : a = b := by
  cases a; cases b
  simp only [ByteArray.mk.injEq] at *
  exact Array.toList_inj.1 h
theorem ltK_tri (a b : ByteArray) : ltK a b ∨ a = b ∨ ltK b a := by
  by_cases h1 : ltK a b
  · exact .inl h1
  · by_cases h2 : ltK b a
    · exact .inr (.inr h2)
    · refine .inr (.inl (ba_ext ?_))
      unfold ltK at h1 h2
      exact List.le_antisymm (List.not_lt.1 h2) (List.not_lt.1 h1)
theorem ltK_ne {a b : ByteArray} (h : ltK a b) : a ≠ b := fun e => ltK_irrefl b (e ▸ h)
theorem ltK_not {a b : ByteArray} (h : ltK a b) : ¬ ltK b a := fun k => ltK_irrefl _ (ltK_trans h k)
/-- what is known of a key -/
structure Bk where
  k : ByteArray
  l : Int
  c : Int
  d : Int
deriving DecidableEq
def strict (L : List Bk) : Prop := L.Pairwise fun a b => ltK a.k b.k
/-- in the order of keys, x for what was at its key -/
def putB (x : Bk) : List Bk → List Bk
  | [] => [x]
  | y :: L => if ltK x.k y.k then x :: y :: L else if x.k = y.k then x :: L else y :: putB x L
def findB (L : List Bk) (s : ByteArray) : Option Bk := L.find? fun x => decide (x.k = s)
def hasB (L : List Bk) (s : ByteArray) : Bool := L.any fun x => decide (x.k = s)
def fillB (b i : Int) (x : Bk) (t : Int) : Bk := if b ≤ x.l + (t - x.c).tdiv i then ⟨x.k, b, t, x.d⟩ else ⟨x.k, x.l + (t - x.c).tdiv i, x.c + (t - x.c).tdiv i * i, x.d⟩
def fullB (b i : Int) (x : Bk) (t : Int) : Bool := decide ((fillB b i x t).l = b)
/-- a limiter -/
structure RS where
  b : Int
  i : Int
  n : Int
  t : Int
  L : List Bk
  al : Int
  dr : Int
def timeR (S : RS) (now : Int) : Int := max S.t (min now 1125899906842624)
def roomR (S : RS) (t : Int) : Bool := decide ((S.L.length : Int) < S.n) || S.L.any fun x => fullB S.b S.i x t
def leftR (S : RS) (s : ByteArray) (t : Int) : Int :=
  match findB S.L s with
  | some x => (fillB S.b S.i x t).l
  | none => if roomR S t then S.b else 0
def dropR (S : RS) (s : ByteArray) : RS :=
  match findB S.L s with
  | some x => { S with L := putB { x with d := x.d + 1 } S.L, dr := S.dr + 1 }
  | none => { S with dr := S.dr + 1 }
def makeR (S : RS) : RS := if (S.L.length : Int) < S.n then S else { S with L := S.L.filter fun x => !fullB S.b S.i x S.t }
def takeR (S : RS) (x : Bk) : RS := { S with L := putB { fillB S.b S.i x S.t with l := (fillB S.b S.i x S.t).l - 1, d := 0 } S.L, al := S.al + 1 }
def permitR (S : RS) (s : ByteArray) : RS :=
  match findB S.L s with
  | some x => takeR S x
  | none => takeR (makeR S) ⟨s, S.b, 0, 0⟩
def atR (S : RS) (t : Int) : RS := { S with t := t }
def allowR (S : RS) (s : ByteArray) (now : Int) : RS × Bool :=
  if leftR (atR S (timeR S now)) s (timeR S now) = 0 then (dropR (atR S (timeR S now)) s, false) else (permitR (atR S (timeR S now)) s, true)
def droppedR (S : RS) (s : ByteArray) : Int := match findB S.L s with | some x => x.d | none => 0
def firstR (b i n : Int) : RS := ⟨b, i, n, 0, [], 0, 0⟩
def okR (b i n : Int) : Bool := decide (1 ≤ b) && decide (b ≤ 1000000) && (decide (1 ≤ i) && decide (i ≤ 1000000)) && (decide (1 ≤ n) && decide (n ≤ 1024))
/-! lists in order -/
section
variable {L : List Bk} {x y : Bk} {s : ByteArray}
theorem hasB_find : hasB L s = (findB L s).isSome := by
  unfold hasB findB
  rw [Bool.eq_iff_iff, List.any_eq_true, List.find?_isSome]
theorem findB_mem (h : findB L s = some x) : x ∈ L ∧ x.k = s := ⟨List.mem_of_find?_eq_some h, by have := List.find?_some h; simpa using this⟩
theorem findB_none (h : findB L s = none) : ∀ x ∈ L, x.k ≠ s := by
  unfold findB at h
  rw [List.find?_eq_none] at h
  intro x hx e
  exact h x hx (by simp [e])
theorem strict.cons (h : strict (y :: L)) : strict L ∧ ∀ z ∈ L, ltK y.k z.k := ⟨(List.pairwise_cons.1 h).2, (List.pairwise_cons.1 h).1⟩
theorem strict.nodup (h : strict L) : (L.map Bk.k).Nodup := List.pairwise_map.2 (List.Pairwise.imp (fun h => ltK_ne h) h)
theorem strict.filter (h : strict L) (p : Bk → Bool) : strict (L.filter p) := List.Pairwise.sublist List.filter_sublist h
theorem findB_of_mem (h : strict L) (hx : x ∈ L) : findB L x.k = some x := by
  induction L with
  | nil => cases hx
  | cons y L ih =>
    unfold findB
    rw [List.find?_cons]
    rcases List.mem_cons.1 hx with rfl | hx
    · simp
    · have := ltK_ne (h.cons.2 x hx)
      rw [show decide (y.k = x.k) = false by simp [this]]
      exact ih h.cons.1 hx
theorem mem_putB {z : Bk} (h : strict L) : z ∈ putB x L ↔ z = x ∨ (z ∈ L ∧ z.k ≠ x.k) := by
  induction L with
  | nil => simp [putB]
  | cons y L ih =>
    unfold putB
    split
    · rename_i hlt
      rw [List.mem_cons]
      refine or_congr_right ⟨fun hz => ⟨hz, ?_⟩, fun hz => hz.1⟩
      rcases List.mem_cons.1 hz with rfl | hz'
      · exact (ltK_ne hlt).symm
      · exact (ltK_ne (ltK_trans hlt (h.cons.2 z hz'))).symm
    · split
      · rename_i he
        rw [List.mem_cons, List.mem_cons]
        refine or_congr_right ⟨fun hz => ⟨.inr hz, ?_⟩, fun hz => ?_⟩
        · rw [he]; exact (ltK_ne (h.cons.2 z hz)).symm
        · rcases hz.1 with rfl | hz'
          · exact absurd he.symm hz.2
          · exact hz'
      · rename_i hne
        rw [List.mem_cons, List.mem_cons, ih h.cons.1]
        constructor
        · rintro (rfl | rfl | ⟨h1, h2⟩)
          · exact .inr ⟨.inl rfl, fun e => hne e.symm⟩
          · exact .inl rfl
          · exact .inr ⟨.inr h1, h2⟩
        · rintro (rfl | ⟨rfl | h1, h2⟩)
          · exact .inr (.inl rfl)
          · exact .inl rfl
          · exact .inr (.inr ⟨h1, h2⟩)
theorem strict.put (h : strict L) (x : Bk) : strict (putB x L) := by
  induction L with
  | nil => exact List.pairwise_singleton _ _
  | cons y L ih =>
    unfold putB
    split
    · rename_i hlt
      refine List.pairwise_cons.2 ⟨fun z hz => ?_, h⟩
      rcases List.mem_cons.1 hz with rfl | hz
      · exact hlt
      · exact ltK_trans hlt (h.cons.2 z hz)
    · split
      · rename_i he
        exact List.pairwise_cons.2 ⟨fun z hz => by rw [he]; exact h.cons.2 z hz, h.cons.1⟩
      · rename_i hn he
        refine List.pairwise_cons.2 ⟨fun z hz => ?_, ih h.cons.1⟩
        rcases (mem_putB h.cons.1).1 hz with rfl | hz
        · rcases ltK_tri z.k y.k with h1 | h1 | h1
          · exact absurd h1 hn
          · exact absurd h1 he
          · exact h1
        · exact h.cons.2 z hz.1
theorem putB_len_has (hh : hasB L x.k = true) (h : strict L) : (putB x L).length = L.length := by
  induction L with
  | nil => cases hh
  | cons y L ih =>
    unfold putB
    split
    · rename_i hlt
      exfalso
      unfold hasB at hh
      rw [List.any_eq_true] at hh
      obtain ⟨z, hz, e⟩ := hh
      have e : z.k = x.k := by simpa using e
      rcases List.mem_cons.1 hz with rfl | hz
      · exact ltK_ne hlt e.symm
      · exact ltK_ne (ltK_trans hlt (h.cons.2 z hz)) e.symm
    · split
      · rfl
      · rename_i he
        rw [List.length_cons, List.length_cons, ih ?_ h.cons.1]
        unfold hasB at hh ⊢
        rw [List.any_cons] at hh
        rcases Bool.or_eq_true _ _ ▸ hh with h1 | h1
        · exact absurd (by simpa using h1 : y.k = x.k).symm he
        · exact h1
theorem putB_len_new (hh : hasB L x.k = false) : (putB x L).length = L.length + 1 := by
  induction L with
  | nil => rfl
  | cons y L ih =>
    have hh' : y.k ≠ x.k ∧ hasB L x.k = false := by
      unfold hasB at hh ⊢
      rw [List.any_cons, Bool.or_eq_false_iff] at hh
      exact ⟨by simpa using hh.1, hh.2⟩
    unfold putB
    split
    · rfl
    · rw [if_neg (fun e => hh'.1 e.symm), List.length_cons, List.length_cons, ih hh'.2]
theorem findB_put_same (h : strict L) : findB (putB x L) x.k = some x := findB_of_mem (h.put x) ((mem_putB h).2 (.inl rfl))
theorem hasB_iff : hasB L s = true ↔ ∃ x ∈ L, x.k = s := by
  unfold hasB; rw [List.any_eq_true]; simp
theorem hasB_put (h : strict L) : hasB (putB x L) s = (hasB L s || decide (x.k = s)) := by
  rw [Bool.eq_iff_iff, Bool.or_eq_true, hasB_iff, hasB_iff, decide_eq_true_eq]
  constructor
  · rintro ⟨z, hz, rfl⟩
    rcases (mem_putB h).1 hz with rfl | hz
    · exact .inr rfl
    · exact .inl ⟨z, hz.1, rfl⟩
  · rintro (⟨z, hz, rfl⟩ | rfl)
    · by_cases e : z.k = x.k
      · exact ⟨x, (mem_putB h).2 (.inl rfl), e.symm⟩
      · exact ⟨z, (mem_putB h).2 (.inr ⟨hz, e⟩), rfl⟩
    · exact ⟨x, (mem_putB h).2 (.inl rfl), rfl⟩
end
/-! the bounds -/
structure Bk.Ok (b t e : Int) (x : Bk) : Prop where
  l0 : 0 ≤ x.l
  l1 : x.l ≤ b
  c0 : 0 ≤ x.c
  c1 : x.c ≤ t
  d0 : 0 ≤ x.d
  d1 : x.d ≤ e
/-- a limiter that may be: e bounds how many events there were -/
structure RS.Ok (S : RS) (e : Int) : Prop where
  b0 : 1 ≤ S.b
  b1 : S.b ≤ 1000000
  i0 : 1 ≤ S.i
  i1 : S.i ≤ 1000000
  n0 : 1 ≤ S.n
  n1 : S.n ≤ 1024
  t0 : 0 ≤ S.t
  t1 : S.t ≤ 1125899906842624
  st : strict S.L
  len : (S.L.length : Int) ≤ S.n
  bk : ∀ x ∈ S.L, x.Ok S.b S.t e
  a0 : 0 ≤ S.al
  a1 : S.al ≤ e
  r0 : 0 ≤ S.dr
  r1 : S.dr ≤ e
section
variable {b i t e : Int} {x : Bk}
theorem div_facts {a i : Int} (ha : 0 ≤ a) (hi : 1 ≤ i) : 0 ≤ a.tdiv i ∧ a.tdiv i ≤ a ∧ 0 ≤ a.tdiv i * i ∧ a.tdiv i * i ≤ a := by
  have h0 : 0 ≤ a.tdiv i := Int.tdiv_nonneg ha (by omega)
  have h1 : a.tdiv i * i ≤ a := by
    have := Int.mul_tdiv_add_tmod a i
    have h2 := Int.tmod_nonneg i ha
    rw [Int.mul_comm] at this
    omega
  have h2 : a.tdiv i ≤ a.tdiv i * i := by
    have := Int.mul_le_mul_of_nonneg_left hi h0
    omega
  exact ⟨h0, by omega, by omega, h1⟩
theorem fill_ok {t0 : Int} (h : x.Ok b t0 e) (hb : 1 ≤ b) (hi : 1 ≤ i) (ht : t0 ≤ t) : (fillB b i x t).Ok b t e := by
  have hc := h.c1
  obtain ⟨d0, d1, d2, d3⟩ := div_facts (a := t - x.c) (i := i) (by omega) hi
  have hc0 := h.c0
  unfold fillB
  split
  · exact ⟨by show 0 ≤ b; omega, Int.le_refl _, by show 0 ≤ t; omega, Int.le_refl _, h.d0, h.d1⟩
  · rename_i hl
    have := h.l0
    exact ⟨by show 0 ≤ x.l + _; omega, by show x.l + _ ≤ b; omega, by show 0 ≤ x.c + _; omega, by show x.c + _ ≤ t; omega, h.d0, h.d1⟩
theorem fill_k : (fillB b i x t).k = x.k := by unfold fillB; split <;> rfl
theorem fill_d : (fillB b i x t).d = x.d := by unfold fillB; split <;> rfl
theorem Bk.Ok.mono {t' e' : Int} (h : x.Ok b t e) (ht : t ≤ t') (he : e ≤ e') : x.Ok b t' e' := ⟨h.l0, h.l1, h.c0, Int.le_trans h.c1 ht, h.d0, Int.le_trans h.d1 he⟩
end
section
variable {S : RS} {e e' now t : Int} {s : ByteArray}
theorem RS.Ok.mono (h : S.Ok e) (he : e ≤ e') : S.Ok e' := { h with bk := fun x hx => (h.bk x hx).mono (Int.le_refl _) he, a1 := Int.le_trans h.a1 he, r1 := Int.le_trans h.r1 he }
theorem timeR_ok (h : S.Ok e) (now : Int) : S.t ≤ timeR S now ∧ timeR S now ≤ 1125899906842624 := by
  have h1 := h.t1
  have hm : min now 1125899906842624 ≤ 1125899906842624 := Int.min_le_right _ _
  unfold timeR
  exact ⟨Int.le_max_left _ _, Int.max_le.2 ⟨h1, hm⟩⟩
theorem atR_ok (h : S.Ok e) (h0 : S.t ≤ t) (h1 : t ≤ 1125899906842624) : (atR S t).Ok e := { h with t0 := Int.le_trans h.t0 h0, t1 := h1, bk := fun x hx => (h.bk x hx).mono h0 (Int.le_refl _) }
theorem hasB_of_find {L : List Bk} {x : Bk} (h : findB L s = some x) : hasB L s = true := by rw [hasB_find, h]; rfl
theorem hasB_of_none {L : List Bk} (h : findB L s = none) : hasB L s = false := by rw [hasB_find, h]; rfl
theorem dropR_ok (h : S.Ok e) (s : ByteArray) : (dropR S s).Ok (e + 1) := by
  have hr := h.r1
  have hr0 := h.r0
  have h' := h.mono (e' := e + 1) (by omega)
  unfold dropR
  cases hf : findB S.L s with
  | none => exact { h' with r0 := by show 0 ≤ S.dr + 1; omega, r1 := by show S.dr + 1 ≤ e + 1; omega }
  | some x =>
    have hx := findB_mem hf
    refine { h' with st := h.st.put _, len := ?_, bk := fun z hz => ?_, r0 := by show 0 ≤ S.dr + 1; omega, r1 := by show S.dr + 1 ≤ e + 1; omega }
    · show ((putB _ S.L).length : Int) ≤ S.n
      rw [putB_len_has (x := { x with d := x.d + 1 }) (by rw [show ({ x with d := x.d + 1 } : Bk).k = s from hx.2]; exact hasB_of_find hf) h.st]
      exact h.len
    · rcases (mem_putB h.st).1 hz with rfl | hz
      · have := h.bk x hx.1
        exact ⟨this.l0, this.l1, this.c0, this.c1, by have := this.d0; show 0 ≤ x.d + 1; omega, by have := this.d1; show x.d + 1 ≤ e + 1; omega⟩
      · exact h'.bk z hz.1
theorem makeR_ok (h : S.Ok e) : (makeR S).Ok e := by
  unfold makeR
  split
  · exact h
  · refine { h with st := h.st.filter _, len := ?_, bk := fun x hx => h.bk x (List.mem_filter.1 hx).1 }
    have := List.length_filter_le (fun x => !fullB S.b S.i x S.t) S.L
    have hl := h.len
    show ((S.L.filter _).length : Int) ≤ S.n
    omega
theorem makeR_b : (makeR S).b = S.b := by unfold makeR; split <;> rfl
theorem makeR_i : (makeR S).i = S.i := by unfold makeR; split <;> rfl
theorem makeR_n : (makeR S).n = S.n := by unfold makeR; split <;> rfl
theorem makeR_t : (makeR S).t = S.t := by unfold makeR; split <;> rfl
theorem makeR_al : (makeR S).al = S.al := by unfold makeR; split <;> rfl
theorem makeR_dr : (makeR S).dr = S.dr := by unfold makeR; split <;> rfl
theorem filter_lt {α : Type} {p : α → Bool} {l : List α} (h : l.any fun x => !p x) : (l.filter p).length < l.length := by
  induction l with
  | nil => cases h
  | cons a l ih =>
    rw [List.any_cons] at h
    rw [List.filter_cons]
    cases hp : p a
    · have := List.length_filter_le p l
      simp; omega
    · rw [hp] at h
      have := ih (by simpa using h)
      rw [if_pos rfl, List.length_cons, List.length_cons]; omega
theorem makeR_room (h : S.Ok e) (hr : roomR S S.t = true) : ((makeR S).L.length : Int) < S.n := by
  unfold makeR
  split
  · assumption
  · rename_i hn
    unfold roomR at hr
    rw [Bool.or_eq_true] at hr
    rcases hr with hr | hr
    · exact absurd (by simpa using hr) hn
    · have := filter_lt (p := fun x => !fullB S.b S.i x S.t) (l := S.L) (by simpa using hr)
      have hl := h.len
      show ((S.L.filter _).length : Int) < S.n
      omega
theorem makeR_none (hf : findB S.L s = none) : findB (makeR S).L s = none := by
  unfold makeR
  split
  · exact hf
  · unfold findB
    rw [List.find?_eq_none]
    intro x hx
    have := findB_none hf x (List.mem_filter.1 hx).1
    simpa using this
theorem takeR_ok {x : Bk} {n0 : Nat} (h : S.Ok e) (hx : x.Ok S.b S.t e) (hl : (fillB S.b S.i x S.t).l ≠ 0) (hn : (putB { fillB S.b S.i x S.t with l := (fillB S.b S.i x S.t).l - 1, d := 0 } S.L).length = n0) (hn2 : (n0 : Int) ≤ S.n) : (takeR S x).Ok (e + 1) := by
  have ha := h.a1
  have ha0 := h.a0
  have h' := h.mono (e' := e + 1) (by omega)
  have F := fill_ok hx h.b0 h.i0 (Int.le_refl _)
  refine { h' with st := h.st.put _, len := by subst hn; exact hn2, bk := fun z hz => ?_, a0 := by show 0 ≤ S.al + 1; omega, a1 := by show S.al + 1 ≤ e + 1; omega }
  rcases (mem_putB h.st).1 hz with rfl | hz
  · have f0 := F.l0
    have f1 := F.l1
    exact ⟨by show 0 ≤ (fillB S.b S.i x S.t).l - 1; omega, by show (fillB S.b S.i x S.t).l - 1 ≤ S.b; omega, F.c0, F.c1, Int.le_refl _, by show 0 ≤ e + 1; omega⟩
  · exact h'.bk z hz.1
theorem fill_new (h : S.Ok e) (s : ByteArray) : fillB S.b S.i ⟨s, S.b, 0, 0⟩ S.t = ⟨s, S.b, S.t, 0⟩ := by
  have := (div_facts (a := S.t - 0) (i := S.i) (by have := h.t0; omega) h.i0).1
  unfold fillB
  rw [if_pos (by show S.b ≤ S.b + (S.t - 0).tdiv S.i; omega)]
theorem permitR_ok (h : S.Ok e) (hl : leftR S s S.t ≠ 0) : (permitR S s).Ok (e + 1) := by
  unfold leftR at hl
  unfold permitR
  cases hf : findB S.L s with
  | some x =>
    rw [hf] at hl
    have hx := findB_mem hf
    refine takeR_ok h (h.bk x hx.1) hl (putB_len_has ?_ h.st) h.len
    show hasB S.L (fillB S.b S.i x S.t).k = true
    rw [fill_k, hx.2]
    exact hasB_of_find hf
  | none =>
    rw [hf] at hl
    have hroom : roomR S S.t = true := by
      cases hr : roomR S S.t
      · rw [hr] at hl; exact absurd rfl hl
      · rfl
    have hm := makeR_ok h
    have he : 0 ≤ e := by have h1 := h.a0; have h2 := h.a1; omega
    refine takeR_ok hm ⟨?_, ?_, Int.le_refl _, hm.t0, Int.le_refl _, he⟩ ?_ (putB_len_new ?_) ?_
    · show 0 ≤ S.b
      have := h.b0; omega
    · show S.b ≤ (makeR S).b
      rw [makeR_b]; exact Int.le_refl _
    · rw [show (⟨s, S.b, 0, 0⟩ : Bk) = ⟨s, (makeR S).b, 0, 0⟩ by rw [makeR_b], fill_new hm]
      show (makeR S).b ≠ 0
      have := hm.b0; omega
    · show hasB (makeR S).L (fillB (makeR S).b (makeR S).i ⟨s, S.b, 0, 0⟩ (makeR S).t).k = false
      rw [fill_k]
      exact hasB_of_none (makeR_none hf)
    · rw [makeR_n]
      have := makeR_room h hroom
      omega
theorem allowR_ok (h : S.Ok e) (s : ByteArray) (now : Int) : (allowR S s now).1.Ok (e + 1) := by
  have ht := timeR_ok h now
  have hA := atR_ok h ht.1 ht.2
  unfold allowR
  split
  · exact dropR_ok hA s
  · rename_i hl
    exact permitR_ok hA hl
theorem firstR_ok {b i n : Int} (h : okR b i n = true) : (firstR b i n).Ok 0 := by
  unfold okR at h
  simp only [Bool.and_eq_true, decide_eq_true_eq] at h
  obtain ⟨⟨⟨h1, h2⟩, h3, h4⟩, h5, h6⟩ := h
  exact ⟨h1, h2, h3, h4, h5, h6, Int.le_refl _, by show (0 : Int) ≤ _; decide, List.Pairwise.nil, by show ((0 : Nat) : Int) ≤ n; omega, (fun x hx => by cases hx), Int.le_refl _, Int.le_refl _, Int.le_refl _, Int.le_refl _⟩
end
end Go.Proofs.Ytcainohglmgdpaa
