/- Rows of types changed at a place; the numbers of permissive types; lists of numbers compared. -/
import Derived.Test.YtbcbhgclgakljaaMdh
namespace Go.Proofs.Ytbcbhgclgakljaa
open Go.RowKit Go.Maps
section
variable {α : Type} {R : RowT α}
theorem fm_set {x y : α} {k : Nat} {u : Value} (hk : k < R.sz) (hy : R.c y = (R.c x).set k u) : ∀ (L : List α) (i : Nat), L[i]? = some x → (L.set i y).flatMap R.c = (L.flatMap R.c).set (i * R.sz + k) u
  | [], i, h => by simp at h
  | a :: r, 0, h => by
    obtain rfl : a = x := by simpa using h
    rw [List.set_cons_zero, List.flatMap_cons, List.flatMap_cons, hy, Nat.zero_mul, Nat.zero_add, List.set_append_left _ _ (by rw [R.len]; exact hk)]
  | a :: r, i + 1, h => by
    rw [List.set_cons_succ, List.flatMap_cons, List.flatMap_cons, fm_set hk hy r i (by simpa using h)]
    have e : (i + 1) * R.sz + k = (R.c a).length + (i * R.sz + k) := by rw [R.len, Nat.add_mul]; omega
    rw [e, List.set_append_right _ _ (Nat.le_add_right _ _), Nat.add_sub_cancel_left]
theorem Own.setAt {w : World} {B g n cap i k : Nat} {x y : α} {u : Value} {L : List α} (h : Own R w B (.slice (some ⟨g, 0, none⟩) n cap) L) (hx : L[i]? = some x) (hk : k < R.sz) (hy : R.c y = (R.c x).set k u) :
    Own R (w.setCell ⟨g, i * R.sz + k, none⟩ u) B (.slice (some ⟨g, 0, none⟩) n cap) (L.set i y) := by
  have hl : (L.set i y).length = L.length := List.length_set
  unfold Own
  rw [hl, fm_set hk hy L i hx]
  refine ⟨by have := h.1; simpa using this, ?_⟩
  rcases h.2 with ⟨h1, _⟩ | ⟨g', cap', cur, h1, h2, h3, h4, h5, h6, h7⟩
  · cases h1
  · have e := h1
    simp only [Value.slice.injEq, Option.some.injEq, Addr.mk.injEq, and_true] at e
    obtain ⟨rfl, _, rfl⟩ := e
    refine .inr ⟨g, cap, cur.setIfInBounds (i * R.sz + k) u, h1, h2, (show Blk w g R.te cur from h3).set _ _, h4, h5, by simpa using h6, ?_⟩
    rw [← h7]
    simp [List.take_set]
end
theorem Own.at {w : World} {B g n c i : Nat} {T : List Ty} {x : Ty} (h : Own RTy w B (.slice (some ⟨g, 0, none⟩) n c) T) (hx : T[i]? = some x) : ∃ cur, Blk w g 99 cur ∧ cur[i * 3]? = some (.string x.n) ∧ cur[i * 3 + 1]? = some (.slice none 0 0) ∧ cur[i * 3 + 2]? = some (.bool x.pm) := by
  rcases h.form with ⟨e, _⟩ | ⟨g', cap, cur, e, _, hb, _, _, _, hr⟩
  · cases e
  · simp only [Value.slice.injEq, Option.some.injEq, Addr.mk.injEq, and_true] at e
    obtain ⟨rfl, _, _⟩ := e
    have := hr i x hx
    exact ⟨cur, hb, this 0 (by decide), this 1 (by decide), this 2 (by decide)⟩
/-- the types T with other marks -/
def PT (f : Nat → Ty → Bool) (T Tc : List Ty) : Prop := ∀ j, Tc[j]? = (T[j]?).map (fun x => (⟨x.n, f j x⟩ : Ty))
theorem PT.len {f : Nat → Ty → Bool} {T Tc : List Ty} (h : PT f T Tc) : Tc.length = T.length := by
  apply Nat.le_antisymm
  · apply Nat.le_of_not_lt
    intro hlt
    have h1 := h T.length
    rw [List.getElem?_eq_getElem hlt, List.getElem?_eq_none (Nat.le_refl _)] at h1
    cases h1
  · apply Nat.le_of_not_lt
    intro hlt
    have h1 := h Tc.length
    rw [List.getElem?_eq_getElem hlt, List.getElem?_eq_none (Nat.le_refl _)] at h1
    cases h1
theorem PT.start (T : List Ty) : PT (fun _ x => x.pm) T T := fun j => by cases T[j]? <;> rfl
theorem PT.set {f g : Nat → Ty → Bool} {T Tc : List Ty} {i : Nat} {x : Ty} {b : Bool} (h : PT f T Tc) (hx : T[i]? = some x) (hg : ∀ j y, g j y = if j = i then b else f j y) : PT g T (Tc.set i ⟨x.n, b⟩) := by
  intro j
  rw [List.getElem?_set]
  by_cases e : i = j
  · subst e
    have h1 := h i
    rw [hx] at h1
    have hlt : i < Tc.length := (List.getElem?_eq_some_iff.1 h1).1
    rw [if_pos rfl, if_pos hlt, hx]
    simp [hg]
  · rw [if_neg e, h j]
    cases T[j]? with
    | none => rfl
    | some y => simp [hg, Ne.symm e]
theorem PT.eq {f g : Nat → Ty → Bool} {T Tc : List Ty} (h : PT f T Tc) (he : ∀ j y, T[j]? = some y → f j y = g j y) : PT g T Tc := by
  intro j
  rw [h j]
  cases hj : T[j]? with
  | none => rfl
  | some y => simp [he j y hj]
/-- the numbers of permissive types among the first i -/
def prm (T : List Ty) (i : Nat) : List Int := ((List.range i).filter (fun j => match T[j]? with | some x => x.pm | none => false)).map Int.ofNat
theorem prm_step {T : List Ty} {i : Nat} {x : Ty} (hx : T[i]? = some x) : prm T (i + 1) = if x.pm then prm T i ++ [(i : Int)] else prm T i := by
  unfold prm
  rw [List.range_succ, List.filter_append, List.map_append]
  cases hp : x.pm <;> simp [hx, hp]
theorem prm_len (T : List Ty) (i : Nat) : (prm T i).length ≤ i := by
  unfold prm
  rw [List.length_map]
  exact Nat.le_trans (List.length_filter_le _ _) (by simp)
end Go.Proofs.Ytbcbhgclgakljaa
