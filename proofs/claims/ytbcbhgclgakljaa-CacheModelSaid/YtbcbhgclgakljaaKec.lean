/- Rows appended to rows of a call's own. -/
import Derived.Test.YtbcbhgclgakljaaKeb
namespace Go.Proofs.Ytbcbhgclgakljaa
open Go.RowKit Go.Maps Go.WideElems Go.WideShapes
section
variable {α : Type} {R : RowT α}
theorem fmR_at (M : List α) {j : Nat} {u : Value} (h : (M.flatMap R.c)[j]? = some u) : ∃ x, M[j / R.sz]? = some x ∧ (R.c x)[j % R.sz]? = some u := by
  have hj : j < M.length * R.sz := by rw [← fmR_len R M]; exact (List.getElem?_eq_some_iff.1 h).1
  have hi : j / R.sz < M.length := (Nat.div_lt_iff_lt_mul R.pos).2 hj
  refine ⟨_, List.getElem?_eq_getElem hi, ?_⟩
  rw [← fmR_get R M (j / R.sz) (j % R.sz) _ (List.getElem?_eq_getElem hi) (Nat.mod_lt _ R.pos), Nat.div_add_mod' j R.sz]
  exact h
/-- appending a row -/
theorem wpList_append_row (R : RowT α) {w : World} {ops : Array Oper} {rest : List Oper} {o : Oper} {a : Act} {Q : Exit → Act → World → Prop} (hgd : o.guard = none) (s x : Operand)
    (ho : o.op = .call { callee := .builtin .append, args := #[s, x], argTypes := #[R.ts, R.ts] }) (B : Nat) (v : Value) (L : List α) (hs : a.eval s = v) (hown : Own R w B v L)
    (u : Value) (M : List α) (hx : a.eval x = u) (hM : Rows' R w u M) (hf : u = .slice none 0 0 ∨ ∃ g o c, u = .slice (some ⟨g, o, none⟩) M.length c) (hl : L.length + M.length ≤ 100000) (hb : B ≤ w.heap.size)
    (h : ∀ v' w', Own R w' B v' (L ++ M) → w.grownBy w' v.ownBlock → wpList Try.prog ops Q rest (a.put o.dst v') w') :
    wpList Try.prog ops Q (o :: rest) a w := by
  obtain ⟨i0, hinf, hz0, hz1, hz2⟩ := info_parts R.info
  have hby := R.small
  rcases hf with rfl | ⟨g, off, c, rfl⟩
  · have e : M = [] := by
      obtain ⟨_, _, e, _⟩ := hM.form
      simp only [Value.slice.injEq] at e
      exact List.eq_nil_of_length_eq_zero e.2.1.symm
    subst e
    refine wpList_append_own_none hgd s x R.ts ho B R.te i0 R.sz R.und hinf v L.length (L.flatMap R.c) hs hown hx (h v w ?_ ?_)
    · simpa using hown
    · exact ⟨rfl, rfl, rfl, Nat.le_refl _, fun k _ _ => rfl⟩
  · refine wpList_append_own w hgd s x R.ts ho B R.te i0 R.z R.sz R.by' R.und hinf hz0 hz1 hz2 R.zc R.pos v L.length (L.flatMap R.c) hs hown ⟨g, off, none⟩ M.length c (M.flatMap R.c) hx (fmR_len R M) ?_ ?_ (by unfold maxLen; omega) (by
      have : (L.length + M.length) * R.by' ≤ (L.length + M.length) * 64 := Nat.mul_le_mul_left _ hby
      omega) hb (fun v' w' h1 h2 _ => h v' w' ?_ h2)
    · intro j u hu
      obtain ⟨y, hy, hk⟩ := fmR_at M hu
      obtain ⟨_, _, e, _, hr⟩ := hM.form
      obtain ⟨g', o', e2, _, hR⟩ := hr (by rintro rfl; simp at hy)
      simp only [Value.slice.injEq] at e
      rw [e2] at e
      simp only [Option.some.injEq, Addr.mk.injEq] at e
      obtain ⟨⟨rfl, rfl, _⟩, _⟩ := e
      have := hR _ y hy _ u hk
      rw [Nat.add_assoc, Nat.div_add_mod' j R.sz] at this
      by_cases h0 : j = 0
      · subst h0; simpa [Addr.add] using this
      · simp only [Addr.add, h0, if_false]; exact this
    · intro u hu
      obtain ⟨y, _, hk⟩ := List.mem_flatMap.1 hu
      exact R.one y u hk
    · unfold Own
      rw [List.length_append, List.flatMap_append]
      exact h1
end
end Go.Proofs.Ytbcbhgclgakljaa
