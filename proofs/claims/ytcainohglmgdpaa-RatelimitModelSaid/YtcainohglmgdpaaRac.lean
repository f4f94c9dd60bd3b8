/- Rows of values of several cells; values of many cells loaded and stored whole. -/
import Derived.Test.YtcainohglmgdpaaRab
import Derived.Deep.AppendLies
import Derived.Laws.AppendOwnNone
import Derived.OwnWalk
import Derived.Laws.Tables
import Derived.Lib.SliceRun
namespace Go.Proofs.Ytcainohglmgdpaa
open Go.RowKit Go.Maps Go.WideElems
structure RowT (α : Type) where
  te : TypeId
  ts : TypeId
  c : α → List Value
  sz : Nat
  by' : Nat
  z : Value
  len : ∀ x, (c x).length = sz
  pos : 0 < sz
  one : ∀ x, ∀ u ∈ c x, u.oneCell' = true
  und : Try.prog.underlying ts = some (.slice te)
  info : (Try.prog.info? te).map (fun i => (i.zero, i.size, i.bytes)) = some (some z, sz, by')
  zc : z.cells.size = sz
  small : by' ≤ 64
section
variable {α : Type} (R : RowT α)
def Own (w : World) (B : Nat) (v : Value) (L : List α) : Prop := w.ownsRow B R.te R.sz v L.length (L.flatMap R.c)
structure Rows' (w : World) (v : Value) (L : List α) : Prop where
  form : ∃ ao cap, v = .slice ao L.length cap ∧ L.length ≤ cap ∧ (L ≠ [] → ∃ g o, ao = some ⟨g, o, none⟩ ∧ g < w.heap.size ∧ ∀ i x, L[i]? = some x → ∀ k u, (R.c x)[k]? = some u → w.cell? ⟨g, o + i * R.sz + k, none⟩ = some u)
theorem fmR_len (L : List α) : (L.flatMap R.c).length = L.length * R.sz := by
  induction L with
  | nil => simp
  | cons x r ih => rw [List.flatMap_cons, List.length_append, ih, R.len, List.length_cons, Nat.add_mul]; omega
theorem fmR_get : ∀ (L : List α) (i k : Nat) (x : α), L[i]? = some x → k < R.sz → (L.flatMap R.c)[i * R.sz + k]? = (R.c x)[k]?
  | [], i, k, x, h, _ => by simp at h
  | y :: r, 0, k, x, h, hk => by
    obtain rfl : y = x := by simpa using h
    rw [List.flatMap_cons, List.getElem?_append_left (by rw [R.len]; omega)]
    congr 1; omega
  | y :: r, i + 1, k, x, h, hk => by
    have h' : r[i]? = some x := by simpa using h
    have e : (i + 1) * R.sz + k - R.sz = i * R.sz + k := by rw [Nat.add_mul]; omega
    have e2 : R.sz ≤ (i + 1) * R.sz + k := by rw [Nat.add_mul]; omega
    rw [List.flatMap_cons, List.getElem?_append_right (by rw [R.len]; exact e2), R.len, e]
    exact fmR_get r i k x h' hk
end
section
variable {α : Type} {R : RowT α} {w w' : World} {B : Nat} {v : Value} {L : List α}
theorem Own.nil (w : World) (B : Nat) : Own R w B (.slice none 0 0) [] := World.ownsRow_nil _ _ _ _
theorem Own.form (h : Own R w B v L) :
    (v = .slice none 0 0 ∧ L = []) ∨ ∃ g cap cur, v = .slice (some ⟨g, 0, none⟩) L.length cap ∧ B ≤ g ∧ w.heap[g]? = some (.cells cur R.te (0, 0)) ∧ L.length ≤ cap ∧ cap ≤ maxLen ∧ cur.size = cap * R.sz ∧ ∀ i x, L[i]? = some x → ∀ k, k < R.sz → cur[i * R.sz + k]? = (R.c x)[k]? := by
  rcases h.2 with ⟨h1, h2⟩ | ⟨g, cap, cur, h1, h2, h3, h4, h5, h6, h7⟩
  · exact .inl ⟨h1, List.eq_nil_of_length_eq_zero h2⟩
  · refine .inr ⟨g, cap, cur, h1, h2, h3, h4, h5, h6, fun i x hx k hk => ?_⟩
    rw [← fmR_get R L i k x hx hk, ← h7, List.getElem?_take]
    have hi : i < L.length := (List.getElem?_eq_some_iff.1 hx).1
    have : i * R.sz + k < L.length * R.sz := by
      have h1 : (i + 1) * R.sz ≤ L.length * R.sz := Nat.mul_le_mul_right _ hi
      rw [Nat.add_mul] at h1
      omega
    rw [if_pos this]
    simp
theorem Own.isSl (h : Own R w B v L) : ∃ ao cap, v = .slice ao L.length cap := by
  rcases h.form with ⟨rfl, rfl⟩ | ⟨g, cap, cur, rfl, _⟩
  · exact ⟨_, _, rfl⟩
  · exact ⟨_, _, rfl⟩
theorem Own.rows (h : Own R w B v L) : Rows' R w v L := by
  rcases h.form with ⟨rfl, rfl⟩ | ⟨g, cap, cur, rfl, _, hg, h4, _, _, h7⟩
  · exact ⟨⟨none, 0, rfl, Nat.le_refl _, fun h => absurd rfl h⟩⟩
  · refine ⟨⟨_, cap, rfl, h4, fun _ => ⟨g, 0, rfl, Blk.lt (show Blk w g _ cur from hg), fun i x hx k u hu => ?_⟩⟩⟩
    rw [cell_of_row w g _ cur _ (0, 0) hg, Nat.zero_add]
    have hk : k < R.sz := by rw [← R.len x]; exact (List.getElem?_eq_some_iff.1 hu).1
    rw [h7 i x hx k hk, hu]
theorem Own.kept {row : Option Nat} (h : Own R w B v L) (hg : w.grownBy w' row) (hne : v.ownBlock = none ∨ v.ownBlock ≠ row) : Own R w' B v L := World.ownsRow.kept h hg hne
theorem Own.below (h : Own R w B v L) (hb : Below w.heap.size w w') : Own R w' B v L :=
  World.ownsRow.kept (row := none) h ⟨hb.os, hb.tape, hb.output, hb.size, fun k hk _ => hb.block k hk⟩ (by cases v.ownBlock <;> simp)
theorem Own.base {B' : Nat} (h : Own R w B v L) (hb : B' ≤ B) : Own R w B' v L := by
  refine ⟨h.1, ?_⟩
  rcases h.2 with hn | ⟨g, cap, cur, hv, hbg, rest⟩
  · exact .inl hn
  · exact .inr ⟨g, cap, cur, hv, Nat.le_trans hb hbg, rest⟩
theorem Own.lt (h : Own R w B v L) : ∀ g, v.ownBlock = some g → B ≤ g ∧ g < w.heap.size := fun g hg => World.ownsRow.lt h g hg
theorem Rows'.below (h : Rows' R w v L) (hb : Below w.heap.size w w') : Rows' R w' v L := by
  obtain ⟨ao, cap, rfl, hc, hr⟩ := h.form
  refine ⟨⟨ao, cap, rfl, hc, fun hne => ?_⟩⟩
  obtain ⟨g, o, rfl, hg, hR⟩ := hr hne
  exact ⟨g, o, rfl, Nat.lt_of_lt_of_le hg hb.size, fun i x hx k u hu => (World.cell?_of_block (hb.block g hg)).trans (hR i x hx k u hu)⟩
/-- appending one -/
theorem wpList_append_one (R : RowT α) {w : World} {ops : Array Oper} {rest : List Oper} {o : Oper} {a : Act} {Q : Exit → Act → World → Prop} (hgd : o.guard = none) (s x : Operand)
    (ho : o.op = .call { callee := .builtin .append, args := #[s, x], argTypes := #[R.ts, R.ts] }) (B : Nat) (v : Value) (L : List α) (N : Nat) (hN : L.length = N) (hs : a.eval s = v) (hown : Own R w B v L)
    (g : Nat) (y : α) (hx : a.eval x = .slice (some ⟨g, 0, none⟩) 1 1) (hy : w.heap[g]? = some (.cells (R.c y).toArray R.te (0, 0))) (hl : N ≤ 1000000) (hb : B ≤ w.heap.size)
    (h : ∀ g' cap w', Own R w' B (.slice (some ⟨g', 0, none⟩) (N + 1) cap) (L ++ [y]) → w.grownBy w' v.ownBlock → (v.ownBlock = some g' ∨ g' = w.heap.size) → wpList Try.prog ops Q rest (a.put o.dst (.slice (some ⟨g', 0, none⟩) (N + 1) cap)) w') :
    wpList Try.prog ops Q (o :: rest) a w := by
  subst hN
  obtain ⟨i0, hinf, hz0, hz1, hz2⟩ := info_parts R.info
  have hby := R.small
  refine wpList_append_lies w hgd s x R.ts ho B R.te i0 R.z R.sz R.by' R.und hinf hz0 hz1 hz2 R.zc R.pos v L.length (L.flatMap R.c) hs hown ⟨g, 0, none⟩ 1 1 (R.c y) hx (by rw [R.len, Nat.one_mul])
    (fun j u hu => by have := World.news_of_block (cs := (R.c y).toArray) hy j u; exact this (by simpa using hu)) (R.one y) (by decide) (by unfold maxLen; omega) (by
      have : (L.length + 1) * R.by' ≤ (L.length + 1) * 64 := Nat.mul_le_mul_left _ hby
      omega) hb _ rfl ?_
  intro g' cap w' h1 h2 h3 _
  refine h g' cap w' ?_ h2 h3
  unfold Own
  rw [List.length_append, List.flatMap_append]
  simpa using h1
end
section
variable {α : Type} {R : RowT α}
theorem fmR_at (M : List α) {j : Nat} {u : Value} (h : (M.flatMap R.c)[j]? = some u) : ∃ x, M[j / R.sz]? = some x ∧ (R.c x)[j % R.sz]? = some u := by
  have hj : j < M.length * R.sz := by rw [← fmR_len R M]; exact (List.getElem?_eq_some_iff.1 h).1
  have hi : j / R.sz < M.length := (Nat.div_lt_iff_lt_mul R.pos).2 hj
  refine ⟨_, List.getElem?_eq_getElem hi, ?_⟩
  rw [← fmR_get R M (j / R.sz) (j % R.sz) _ (List.getElem?_eq_getElem hi) (Nat.mod_lt _ R.pos), Nat.div_add_mod' j R.sz]
  exact h
/-- appending a row -/
theorem wpList_append_row (R : RowT α) {w : World} {ops : Array Oper} {rest : List Oper} {o : Oper} {a : Act} {Q : Exit → Act → World → Prop} (hgd : o.guard = none) (s x : Operand)
    (ho : o.op = .call { callee := .builtin .append, args := #[s, x], argTypes := #[R.ts, R.ts] }) (B : Nat) (v : Value) (L : List α) (hs : a.eval s = v) (hown : Own R w B v L)
    (u : Value) (M : List α) (hx : a.eval x = u) (hM : Rows' R w u M) (hf : u = .slice none 0 0 ∨ ∃ g o c, u = .slice (some ⟨g, o, none⟩) M.length c) (hl : L.length + M.length ≤ 100000) (hb : B ≤ w.heap.size)
    (h : ∀ v' w', Own R w' B v' (L ++ M) → w.grownBy w' v.ownBlock → wpList Try.prog ops Q rest (a.put o.dst v') w') :
    wpList Try.prog ops Q (o :: rest) a w := by
  obtain ⟨i0, hinf, hz0, hz1, hz2⟩ := info_parts R.info
  have hby := R.small
  rcases hf with rfl | ⟨g, off, c, rfl⟩
  · have e : M = [] := by
      obtain ⟨_, _, e, _⟩ := hM.form
      simp only [Value.slice.injEq] at e
      exact List.eq_nil_of_length_eq_zero e.2.1.symm
    subst e
    refine wpList_append_own_none hgd s x R.ts ho B R.te i0 R.sz R.und hinf v L.length (L.flatMap R.c) hs hown hx (h v w ?_ ?_)
    · simpa using hown
    · exact ⟨rfl, rfl, rfl, Nat.le_refl _, fun k _ _ => rfl⟩
  · refine wpList_append_own w hgd s x R.ts ho B R.te i0 R.z R.sz R.by' R.und hinf hz0 hz1 hz2 R.zc R.pos v L.length (L.flatMap R.c) hs hown ⟨g, off, none⟩ M.length c (M.flatMap R.c) hx (fmR_len R M) ?_ ?_ (by unfold maxLen; omega) (by
      have : (L.length + M.length) * R.by' ≤ (L.length + M.length) * 64 := Nat.mul_le_mul_left _ hby
      omega) hb (fun v' w' h1 h2 _ => h v' w' ?_ h2)
    · intro j u hu
      obtain ⟨y, hy, hk⟩ := fmR_at M hu
      obtain ⟨_, _, e, _, hr⟩ := hM.form
      obtain ⟨g', o', e2, _, hR⟩ := hr (by rintro rfl; simp at hy)
      simp only [Value.slice.injEq] at e
      rw [e2] at e
      simp only [Option.some.injEq, Addr.mk.injEq] at e
      obtain ⟨⟨rfl, rfl, _⟩, _⟩ := e
      have := hR _ y hy _ u hk
      rw [Nat.add_assoc, Nat.div_add_mod' j R.sz] at this
      by_cases h0 : j = 0
      · subst h0; simpa [Addr.add] using this
      · simp only [Addr.add, h0, if_false]; exact this
    · intro u hu
      obtain ⟨y, _, hk⟩ := List.mem_flatMap.1 hu
      exact R.one y u hk
    · unfold Own
      rw [List.length_append, List.flatMap_append]
      exact h1
end
section
theorem storeAt_row {t ty : TypeId} {w : World} {g : Nat} {cs : Array Value} (vs : List Value) (v : Value) (hv : v.cells = vs.toArray) (hsz : (sizeOf t).run Try.prog w = .ok vs.length w) (h : Blk w g ty cs) (hl : vs.length = cs.size) (h1 : ∀ x ∈ vs, x.oneCell' = true) :
    (Instr.storeAt t (.pointer (some ⟨g, 0, none⟩)) v).run Try.prog w = .ok () (w.setRow g vs.toArray) := by
  have hst := run_storeCells_from (P := Try.prog) g ty vs 0 cs w h (by omega) h1
  simp only [List.take_zero, List.nil_append] at hst
  have hv2 : v.cells.size = vs.length := by rw [hv]; simp
  have hv3 : v.cells.toList = vs := by rw [hv]
  unfold Instr.storeAt storeVar
  rw [hv3]
  generalize v.cells.size = n at *
  subst hv2
  go_simp
theorem wpList_store_row {t ty : TypeId} {g : Nat} {w : World} {ops : Array Oper} {rest : List Oper} {o : Oper} {a : Act} {Q : Exit → Act → World → Prop} {cs : Array Value} (hw : Region.wanted o (yielded ops a.tmps) = true) (p x : Operand) (ho : o.op = .store t p x) (hd : o.dst = none)
    (hp : a.eval p = .pointer (some ⟨g, 0, none⟩)) (vs : List Value) (v : Value) (hx : a.eval x = v) (hv : v.cells = vs.toArray) (hsz : (sizeOf t).run Try.prog w = .ok vs.length w) (h : Blk w g ty cs) (hl : vs.length = cs.size) (h1 : ∀ x ∈ vs, x.oneCell' = true)
    (hK : wpList Try.prog ops Q rest a (w.setRow g vs.toArray)) : wpList Try.prog ops Q (o :: rest) a w := by
  unfold wpList
  rw [if_pos hw]
  refine .inl ?_
  have hst := storeAt_row vs v hv hsz h hl h1
  unfold Oper.wp execOp
  simp only [ho, hp, hx, Sem.run_bind, hst, Result.andThen_ok]
  go_simp
theorem Blk.row {t : TypeId} {w : World} {g : Nat} {cs : Array Value} (h : Blk w g t cs) (vs : List Value) : Blk (w.setRow g vs.toArray) g t vs.toArray := setRow_heap w g cs vs.toArray t (0, 0) h
theorem below_row {B : Nat} {w w' : World} {g : Nat} (h : Below B w w') (hg : B ≤ g) (cs : Array Value) : Below B w (w'.setRow g cs) :=
  ⟨h.os, h.tape, h.output, by rw [setRow_size]; exact h.size, fun j hj => (setRow_other w' g j cs (by omega)).trans (h.block j hj)⟩
end
section
variable {P : Program} {t : TypeId} {w : World}
theorem loadAt_agg {g o : Nat} (cs : List Value) (hagg : (isAgg t).run P w = .ok true w) (hsz : (sizeOf t).run P w = .ok cs.length w) (h : ∀ j v, cs[j]? = some v → w.cell? ⟨g, o + j, none⟩ = some v) : (Instr.loadAt t (.pointer (some ⟨g, o, none⟩))).run P w = .ok (.agg cs.toArray) w := by
  have hl := run_loadCells_list (P := P) w ⟨g, o, none⟩ cs (fun j v hj => by
    have := h j v hj
    by_cases e : j = 0
    · subst e; simpa [Addr.add] using this
    · simpa [Addr.add, e] using this)
  unfold Instr.loadAt Instr.sureAddr loadVar
  simp only [Sem.run_bind, Sem.run_pure, Result.andThen_ok, hagg, if_true, hsz, hl]
theorem loadAt_blk {g : Nat} {ty : TypeId} (cs : List Value) (hagg : (isAgg t).run P w = .ok true w) (hsz : (sizeOf t).run P w = .ok cs.length w) (h : Blk w g ty cs.toArray) : (Instr.loadAt t (.pointer (some ⟨g, 0, none⟩))).run P w = .ok (.agg cs.toArray) w :=
  loadAt_agg cs hagg hsz (fun j v hj => by rw [Nat.zero_add, h.cell j]; simpa using hj)
end
section
variable {P : Program} {t : TypeId} {g : Addr} {v : Value} {w : World} {a : Act} {o : Oper}
theorem run_load (x : Operand) (ho : o.op = .load t x) (hx : a.eval x = .pointer (some g)) (h : (Instr.loadAt t (.pointer (some g))).run P w = .ok v w) : (execOp a.eval o).run P w = .ok (.value v) w := by
  unfold execOp
  simp only [ho, hx, Sem.run_bind, h, Result.andThen_ok]
  rfl
/-- in a quiet walk: an operation that loads a whole value -/
theorem quiet_load {C : World → Prop} {K : Act → Prop} (x : Operand) (ho : o.op = .load t x) (hx : a.eval x = .pointer (some g)) (h : ∀ w, C w → (Instr.loadAt t (.pointer (some g))).run P w = .ok v w) (hk : K (a.put o.dst v)) : o.quiet P a C K :=
  ⟨_, fun w hw => by unfold Oper.quietAt; rw [run_load x ho hx (h w hw)]; exact ⟨rfl, rfl⟩, hk⟩
theorem wpList_load {ops : Array Oper} {rest : List Oper} {Q : Exit → Act → World → Prop} (hw : Region.wanted o (yielded ops a.tmps) = true) (x : Operand) (ho : o.op = .load t x) (hx : a.eval x = .pointer (some g)) (h : (Instr.loadAt t (.pointer (some g))).run P w = .ok v w) (hK : wpList P ops Q rest (a.put o.dst v) w) : wpList P ops Q (o :: rest) a w := by
  unfold wpList
  rw [if_pos hw]
  refine .inl ?_
  unfold Oper.wp
  rw [run_load x ho hx h]
  exact hK
end
/-- a store of what lies there already leaves all as it was -/
theorem same_cell {w : World} {g j : Nat} {t : TypeId} {cs : Array Value} {v : Value} (h : Blk w g t cs) (hv : cs[j]? = some v) : Below w.heap.size w (w.setCell ⟨g, j, none⟩ v) := by
  have h1 : Blk (w.setCell ⟨g, j, none⟩ v) g t cs := by
    have h2 := h.set j v
    have e : cs.setIfInBounds j v = cs := by
      apply Array.ext_getElem?
      intro k
      rw [Array.getElem?_setIfInBounds]
      by_cases e : j = k
      · subst e
        have h3 := (Array.getElem?_eq_some_iff.1 hv).1
        rw [if_pos rfl, if_pos h3, hv]
      · rw [if_neg e]
    rwa [e] at h2
  refine ⟨rfl, rfl, rfl, ((Below.refl g w).setCell (p := ⟨g, j, none⟩) (Nat.le_refl _) v).size, fun k hk => ?_⟩
  by_cases e : k = g
  · subst e; exact h1.trans h.symm
  · exact Below.heap_setCell w _ v k (by simpa using e)
theorem blk_ret {P : Program} {ty : TypeId} {fn : Func} {tmps : Array Value} {t : Tmp} {w : World} {g : Nat} (cs : List Value) (h : fn.results = #[.cell t ty]) (ht : tmps.getD t undef = .pointer (some ⟨g, 0, none⟩)) (hagg : (isAgg ty).run P w = .ok true w) (hsz : (sizeOf ty).run P w = .ok cs.length w) (q : Blk w g ty cs.toArray) :
    (results fn tmps).run P w = .ok (.agg cs.toArray) w := by
  have hl := run_loadCells_list (P := P) w ⟨g, 0, none⟩ cs (fun j v hj => by
    have h0 : w.cell? ⟨g, j, none⟩ = some v := by rw [q.cell j]; simpa using hj
    by_cases e : j = 0
    · subst e; simpa [Addr.add] using h0
    · simpa [Addr.add, e] using h0)
  have ht2 : tmps[t]?.getD undef = .pointer (some ⟨g, 0, none⟩) := by simpa using ht
  unfold results loadVar
  simp only [h]
  simp [ht2, asAddr, hagg, hsz, hl]
end Go.Proofs.Ytcainohglmgdpaa
