/- Appending the texts of any slice to a list of texts that a call owns, at a step of a statement whose order is left open. No Go text walked. -/
import Derived.Test.YtbkejoheefnmiaaNsx
namespace Go.Proofs.Ytbkejoheefnmiaa
open Go.RowKit
theorem OwnS.empty (w : World) {base : Nat} (hb : base ≤ w.heap.size) : OwnS (w.alloc (.cells #[] 9)) base (.slice (some ⟨w.heap.size, 0, none⟩) 0 0) [] :=
  ⟨rfl, .inr ⟨w.heap.size, 0, #[], rfl, hb, heap_alloc_new w _, Nat.le_refl _, by unfold maxLen; decide, rfl, rfl⟩⟩
theorem run_append_strs {w : World} (ty : TypeId) (base : Nat) (v : Value) (T : List ByteArray) (hown : OwnS w base v T) (aX : Option Addr) (cX : Nat) (X : List ByteArray) (hX : Strs w (.slice aX X.length cX) X)
    (hl : T.length + X.length ≤ 4000000) (hbase : base ≤ w.heap.size) :
    ∃ ao cap w', (Builtin.append_ #[27, 27] ty #[v, .slice aX X.length cX]).run Try.prog w = .ok (.slice ao (T.length + X.length) cap) w' ∧ OwnS w' base (.slice ao (T.length + X.length) cap) (T ++ X) ∧ w.grownBy w' v.ownBlock := by
  obtain ⟨i0, hinf, hz0, hz1, hz2⟩ := info_parts infoStr
  obtain ⟨aX', cX', e, hr⟩ := hX
  obtain ⟨rfl, -, rfl⟩ : aX = aX' ∧ X.length = X.length ∧ cX = cX' := by simpa using e
  cases aX with
  | none =>
    have hX0 : X = [] := by
      cases X with
      | nil => rfl
      | cons y ys => obtain ⟨g, o, e, _⟩ := hr (by simp); cases e
    subst hX0
    obtain ⟨aT, cT, rfl⟩ := hown.isSl
    refine ⟨aT, cT, w, ?_, by simpa using hown, ⟨rfl, rfl, rfl, Nat.le_refl _, fun _ _ _ => rfl⟩⟩
    rcases hown.2 with ⟨e2, e3⟩ | ⟨g, cap, cur, e2, _, _, hnc, _⟩
    · have hT0 : T = [] := List.eq_nil_of_length_eq_zero e3
      subst hT0
      obtain ⟨rfl, -, rfl⟩ : aT = none ∧ 0 = 0 ∧ cT = 0 := by simpa using e2
      simp [Builtin.append_, run_underlying Try.underlying27, sizeOf, typeInfo, hinf, Builtin.lenOf, Builtin.firstCells]
    · obtain ⟨rfl, rfl⟩ : aT = some ⟨g, 0, none⟩ ∧ cT = cap := by simpa using e2
      simp [Builtin.append_, run_underlying Try.underlying27, sizeOf, typeInfo, hinf, Builtin.lenOf, Builtin.firstCells, hnc, storeCells]
  | some ad =>
    have hn : ∀ j u, (X.map Value.string)[j]? = some u → w.cell? (ad.add j) = some u := fun j u hj => by
      rw [List.getElem?_map] at hj
      cases hxj : X[j]? with
      | none => rw [hxj] at hj; cases hj
      | some y =>
        rw [hxj] at hj
        cases hj
        obtain ⟨hjl, rfl⟩ := List.getElem?_eq_some_iff.1 hxj
        obtain ⟨g, o, e, hR⟩ := hr (by rintro rfl; simp at hjl)
        cases e
        have := hR j hjl
        rwa [show (⟨g, o, none⟩ : Addr).add j = ⟨g, o + j, none⟩ by unfold Addr.add; split <;> simp_all]
    obtain ⟨v', w', hrun, h2, h3, _, _⟩ := run_append_own_at (P := Try.prog) w base 27 ty 9 i0 (.string ⟨#[]⟩) 1 16 Try.underlying27 hinf hz0 hz1 hz2 rfl (by decide) v T.length (T.map Value.string) hown ad X.length cX (X.map Value.string) (by simp) hn (fun u hu => by
      obtain ⟨y, _, rfl⟩ := List.mem_map.1 hu; rfl) (by unfold maxLen; omega) (by omega) hbase
    have h2' : OwnS w' base v' (T ++ X) := by
      unfold OwnS
      simpa using h2
    obtain ⟨ao, cap, rfl⟩ := h2'.isSl
    rw [List.length_append] at h2' hrun
    exact ⟨ao, cap, w', hrun, h2', by rw [List.length_append] at *; exact h3⟩
theorem OwnS.kb {U w : World} {base sb : Nat} {v : Value} {l : List ByteArray} (h : OwnS U base v l) (hk : Kb sb U w) (hb : sb < base) : OwnS w base v l := by
  refine ⟨h.1, ?_⟩
  rcases h.2 with h2 | ⟨g, cap, cur, e, hg, hh, r⟩
  · exact .inl h2
  · have hlt : g < U.heap.size := by
      rcases Nat.lt_or_ge g U.heap.size with x | x
      · exact x
      · rw [Array.getElem?_eq_none x] at hh; cases hh
    exact .inr ⟨g, cap, cur, e, hg, (hk.block g hlt (by omega)).trans hh, r⟩
/-- onto an empty list of its own -/
theorem step_append_zero {w : World} {ops : Array Oper} {o : Oper} {a : Act} {K : Act → World → Prop} {Q : Exit → Act → World → Prop} {E : Prop} (hgd : o.guard = none) (s x : Operand)
    (ho : o.op = .call { callee := .builtin .append, args := #[s, x], argTypes := #[27, 27] }) (base : Nat)
    (v : Value) (hs : a.eval s = v) (hown : OwnS w base v []) (aX : Option Addr) (cX : Nat) (X : List ByteArray) (hx : a.eval x = .slice aX X.length cX) (hX : Strs w (.slice aX X.length cX) X)
    (hl : X.length ≤ 4000000) (hbase : base ≤ w.heap.size)
    (h : ∀ ao cap w', OwnS w' base (.slice ao X.length cap) X → w.grownBy w' v.ownBlock → K (a.put o.dst (.slice ao X.length cap)) w') :
    if Region.wanted o (yielded ops a.tmps) = true then Oper.wp Try.prog o a w K Q else E := by
  have hw : Region.wanted o (yielded ops a.tmps) = true := by simp [Region.wanted, hgd]
  rw [if_pos hw]
  obtain ⟨ao, cap, w', hr, h2, h3⟩ := run_append_strs o.type base v [] hown aX cX X hX (by simpa using hl) hbase
  simp only [List.length_nil, Nat.zero_add, List.nil_append] at hr h2
  unfold Oper.wp execOp
  simp only [ho, resolve, invoke, builtin, Sem.run_bind, Sem.run_pure, Result.andThen_ok, List.map_toArray, List.map_cons, List.map_nil, hs, hx, hr]
  exact h ao cap w' h2 h3
theorem step_append_strs {w : World} {ops : Array Oper} {o : Oper} {a : Act} {K : Act → World → Prop} {Q : Exit → Act → World → Prop} {E : Prop} (hgd : o.guard = none) (s x : Operand)
    (ho : o.op = .call { callee := .builtin .append, args := #[s, x], argTypes := #[27, 27] }) (base : Nat)
    (v : Value) (T : List ByteArray) (hs : a.eval s = v) (hown : OwnS w base v T) (aX : Option Addr) (cX : Nat) (X : List ByteArray) (hx : a.eval x = .slice aX X.length cX) (hX : Strs w (.slice aX X.length cX) X)
    (hl : T.length + X.length ≤ 4000000) (hbase : base ≤ w.heap.size)
    (h : ∀ ao cap w', OwnS w' base (.slice ao (T.length + X.length) cap) (T ++ X) → w.grownBy w' v.ownBlock → K (a.put o.dst (.slice ao (T.length + X.length) cap)) w') :
    if Region.wanted o (yielded ops a.tmps) = true then Oper.wp Try.prog o a w K Q else E := by
  have hw : Region.wanted o (yielded ops a.tmps) = true := by simp [Region.wanted, hgd]
  rw [if_pos hw]
  obtain ⟨ao, cap, w', hr, h2, h3⟩ := run_append_strs o.type base v T hown aX cX X hX hl hbase
  unfold Oper.wp execOp
  simp only [ho, resolve, invoke, builtin, Sem.run_bind, Sem.run_pure, Result.andThen_ok, List.map_toArray, List.map_cons, List.map_nil, hs, hx, hr]
  exact h ao cap w' h2 h3
theorem wpList_append_strs {w : World} {ops : Array Oper} {rest : List Oper} {o : Oper} {a : Act} {Q : Exit → Act → World → Prop} (hgd : o.guard = none) (s x : Operand)
    (ho : o.op = .call { callee := .builtin .append, args := #[s, x], argTypes := #[27, 27] }) (base : Nat)
    (v : Value) (T : List ByteArray) (hs : a.eval s = v) (hown : OwnS w base v T) (aX : Option Addr) (cX : Nat) (X : List ByteArray) (hx : a.eval x = .slice aX X.length cX) (hX : Strs w (.slice aX X.length cX) X)
    (hl : T.length + X.length ≤ 4000000) (hbase : base ≤ w.heap.size)
    (h : ∀ ao cap w', OwnS w' base (.slice ao (T.length + X.length) cap) (T ++ X) → w.grownBy w' v.ownBlock → wpList Try.prog ops Q rest (a.put o.dst (.slice ao (T.length + X.length) cap)) w') : wpList Try.prog ops Q (o :: rest) a w :=
  wpList_plain hgd fun _ hK => by
    obtain ⟨ao, cap, w', hr, h2, h3⟩ := run_append_strs o.type base v T hown aX cX X hX hl hbase
    unfold Oper.wp execOp
    simp only [ho, resolve, invoke, builtin, Sem.run_bind, Sem.run_pure, Result.andThen_ok, List.map_toArray, List.map_cons, List.map_nil, hs, hx, hr]
    exact hK _ _ (h ao cap w' h2 h3)
end Go.Proofs.Ytbkejoheefnmiaa
