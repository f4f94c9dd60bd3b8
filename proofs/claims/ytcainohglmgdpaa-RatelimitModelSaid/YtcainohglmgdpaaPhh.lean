/- What the walks of drawn regions are written with. -/
import Derived.Test.YtcainohglmgdpaaPhg
namespace Go.Proofs.Ytcainohglmgdpaa
open Go.RowKit Go
theorem giv_val {P : Program} {rel : World → World → Prop} {w w' : World} {φ : Value → World → Prop} {u : Value} (h1 : rel w w') (h2 : φ u w') : GivR P rel w φ (.ok (.value u) w') := ⟨h1, h2⟩
theorem giv_skip {P : Program} {rel : World → World → Prop} {w w' : World} {φ : Value → World → Prop} (h1 : rel w w') (h2 : φ undef w') : GivR P rel w φ (.ok .skip w') := ⟨h1, h2⟩
theorem giv_enter {P : Program} {rel : World → World → Prop} {w : World} {φ : Value → World → Prop} {f : FuncId} {args : Array Value} (h : Calls P f args w fun e w'' => ∃ v, e = .returned v ∧ rel w w'' ∧ φ v w'') : GivR P rel w φ (.ok (.enter f args) w) := ⟨rfl, h⟩
section
variable {ops : Array Oper} {Φ : Nat → Value → World → Prop} {a0 A : Act} {i t j : Nat} {o : Oper} {w : World}
theorem fg_none (h : facG ops Φ a0 i o A w t) (hs : srcOf ops ops.size t = none) : A.tmps[t]?.getD undef = a0.eval (.tmp t) := by
  unfold facG at h; rw [hs] at h; simpa [Act.eval] using h
theorem fg_old (h : facG ops Φ a0 i o A w t) (hs : srcOf ops ops.size t = some j) (hw : afterB ops j i = true) : A.tmps[t]?.getD undef = a0.eval (.tmp t) := by
  unfold facG at h; rw [hs] at h; have h2 := h.2 hw; simpa [Act.eval] using h2
theorem fg_some (h : facG ops Φ a0 i o A w t) (hs : srcOf ops ops.size t = some j) (hw : waitsOn o j = true) : Φ j (A.tmps[t]?.getD undef) w := by
  unfold facG at h; rw [hs] at h; have h2 := h.1 hw; rwa [show A.eval (.tmp t) = A.tmps[t]?.getD undef by simp [Act.eval]] at h2
theorem fe_some (h : endG ops Φ a0 A w t) (hs : srcOf ops ops.size t = some j) : Φ j (A.tmps[t]?.getD undef) w := by
  unfold endG at h; rw [hs] at h; rwa [show A.eval (.tmp t) = A.tmps[t]?.getD undef by simp [Act.eval]] at h
end
/-- the frame written out: the slots of the mask are read off the frame, the others stand as they were -/
def cutM (a : Act) : List Bool → Nat → List Value → List Value
  | [], _, l => l
  | _ :: _, _, [] => []
  | b :: m, t, v :: l => (bif b then a.tmps[t]?.getD undef else v) :: cutM a m (t + 1) l
theorem cutM_nil (a : Act) (t : Nat) (l : List Value) : cutM a [] t l = l := by cases l <;> rfl
theorem cutM_yes (a : Act) (m : List Bool) (t : Nat) (v : Value) (l : List Value) : cutM a (true :: m) t (v :: l) = a.tmps[t]?.getD undef :: cutM a m (t + 1) l := rfl
theorem cutM_no (a : Act) (m : List Bool) (t : Nat) (v : Value) (l : List Value) : cutM a (false :: m) t (v :: l) = v :: cutM a m (t + 1) l := rfl
theorem cutM_done (a : Act) (m : List Bool) (t : Nat) : cutM a m t [] = [] := by cases m <;> rfl
theorem cutM_eq (a : Act) : ∀ (m : List Bool) (l : List Value) (t : Nat) (r : List Value), r.length = l.length → (∀ k (h : k < r.length), a.tmps[t + k]? = some r[k]) → (∀ k (h : k < l.length) (h' : k < r.length), m[k]?.getD false = false → r[k] = l[k]) → r = cutM a m t l
  | [], l, t, r, hl, _, hs => by
    rw [cutM_nil]
    exact List.ext_getElem hl fun k h1 h2 => hs k h2 h1 rfl
  | b :: m, [], t, r, hl, _, _ => by
    rw [cutM_done]
    exact List.eq_nil_of_length_eq_zero hl
  | b :: m, v :: l, t, [], hl, _, _ => by simp at hl
  | b :: m, v :: l, t, x :: r, hl, hg, hs => by
    have h0 := hg 0 (by simp)
    have ih := cutM_eq a m l (t + 1) r (by simpa using hl) (fun k h => by
      have := hg (k + 1) (by simpa using h)
      rwa [show t + (k + 1) = t + 1 + k by omega] at this) (fun k h h' hb => by
      have := hs (k + 1) (by simpa using h) (by simpa using h') (by simpa using hb)
      simpa using this)
    cases b with
    | true =>
      rw [cutM_yes, ← ih]
      have h0' : a.tmps[t]? = some x := h0
      rw [h0']; rfl
    | false =>
      rw [cutM_no, ← ih]
      congr 1
      exact hs 0 (by simp) (by simp) rfl
theorem end_gen {ops : Array Oper} {Φ : Nat → Value → World → Prop} {a0 a : Act} {w : World} (m : List Bool) (hs : a.tmps.size = a0.tmps.size) (hd : a.defers = a0.defers) (hF : ∀ t, endG ops Φ a0 a w t)
    (hB : ((List.range a0.tmps.size).all fun t => m[t]?.getD false || (srcOf ops ops.size t).isNone) = true) : a = { tmps := (cutM a m 0 a0.tmps.toList).toArray, defers := a0.defers } := by
  have e2 : a.tmps.toList = cutM a m 0 a0.tmps.toList := by
    refine cutM_eq a m _ 0 _ (by simpa using hs) (fun k h => ?_) (fun k h h' hb => ?_)
    · have h2 : k < a.tmps.size := by simpa using h
      rw [Nat.zero_add, Array.getElem?_eq_getElem h2]
      simp
    · have h1 : k < a0.tmps.size := by simpa using h
      have h2 : k < a.tmps.size := by simpa using h'
      have := List.all_eq_true.1 hB k (List.mem_range.2 h1)
      rw [hb, Bool.false_or] at this
      have hn : srcOf ops ops.size k = none := by
        cases hc : srcOf ops ops.size k with
        | none => rfl
        | some j => rw [hc] at this; cases this
      have hk := hF k
      unfold endG at hk
      rw [hn] at hk
      have hk2 : a.tmps[k]?.getD undef = a0.tmps[k]?.getD undef := by simpa [Act.eval] using hk
      rw [Array.getElem?_eq_getElem h1, Array.getElem?_eq_getElem h2] at hk2
      simpa using hk2
  exact act_ext (by rw [← e2]) hd
end Go.Proofs.Ytcainohglmgdpaa
