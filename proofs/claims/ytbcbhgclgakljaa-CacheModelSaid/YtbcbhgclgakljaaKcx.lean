/- Drawn regions that find a decision and lay it into a box: what they leave of a cache. -/
import Derived.Test.YtbcbhgclgakljaaKct
import Derived.Test.YtbcbhgclgakljaaPhl
namespace Go.Proofs.Ytbcbhgclgakljaa
open Go.RowKit Go.Maps Go.WideElems Go.WideShapes
def Oth (t : TypeId) : Prop := t ≠ 89 ∧ t ≠ 110 ∧ t ≠ 107
/-- blocks of other types than a cache's stay -/
structure StT (w w' : World) : Prop where
  sz : w.heap.size ≤ w'.heap.size
  k : ∀ g t cs, Oth t → Blk w g t cs → Blk w' g t cs
theorem oth_dec : Oth 39 := ⟨by decide, by decide, by decide⟩
theorem oth_bool : Oth 4 := ⟨by decide, by decide, by decide⟩
section
variable {w0 w w' : World} {F G : Nat → Prop} {c n n' : Nat} {s s' : CS}
theorem StT.refl : StT w w := ⟨Nat.le_refl _, fun _ _ _ _ h => h⟩
theorem StT.of (h : Below w.heap.size w w') : StT w w' := ⟨h.size, fun _ _ _ _ hb => hb.keep h⟩
theorem CF.exact (h : CF w F c s) : ∃ E, CF w E c s ∧ (∀ j, E j → F j) ∧ ∀ g t cs, Oth t → Blk w g t cs → ¬ E g := by
  obtain ⟨o, r, m, S, h1, h2, h3, h4, h5, h6⟩ := h
  refine ⟨fun j => j = c ∨ Of o r m S j, ⟨o, r, m, S, h1, h2, h3, .inl rfl, fun j hj => .inr hj, ?_⟩, ?_, ?_⟩
  · rintro j (rfl | hj)
    · exact h6 _ h4
    · exact h6 _ (h5 j hj)
  · rintro j (rfl | hj)
    · exact h4
    · exact h5 j hj
  · intro g t cs ht hb
    obtain ⟨N, V, hL, _⟩ := h2.ring
    obtain ⟨D, hm, _⟩ := h2.mp
    rintro (rfl | rfl | rfl | rfl | ⟨x, hx, rfl⟩)
    · exact h1.ne hb (fun e => ht.1 e.symm) rfl
    · exact h2.blk.ne hb (fun e => ht.2.1 e.symm) rfl
    · exact (hL (hd _) (by simp)).ne hb (fun e => ht.2.2 e.symm) rfl
    · exact hb.ne_map hm rfl
    · exact (hL x (by simp [hx])).ne hb (fun e => ht.2.2 e.symm) rfl
/-- a call on a cache leaves blocks of other types -/
theorem At.callT {P : Program} {f : FuncId} {args : Array Value} {v : Value} (h : At w0 w G c n s) (hop : ∀ F, CF w F c s → Calls P f args w fun e w' => e = .returned v ∧ CTo w w' F c s') (ok : OkC s') (sm : Sm n' s') (sz : s'.size ≤ 1024) :
    Calls P f args w fun e w' => e = .returned v ∧ At w0 w' (fun _ => False) c n' s' ∧ StT w w' := by
  obtain ⟨F, h1, h2, h3⟩ := h.cf
  obtain ⟨E, k1, k2, k3⟩ := h1.exact
  refine (hop E k1).mono ?_
  rintro e w' ⟨rfl, ht⟩
  exact ⟨rfl, ((h.drop (G' := fun _ => False) (fun _ h => h.elim)).to (fun k hk => h2 k (k2 k hk)) (fun _ h => h.elim) ht ok sm sz).1, ⟨ht.2.size, fun g t cs ho hb => ht.2.blk hb (k3 g t cs ho hb)⟩⟩
theorem find_st (k : K3) (h : At w0 w G c n s) (hn : n ≤ 1000000) (wk : WK k) :
    Calls Try.prog 28 #[.pointer (some ⟨c, 0, none⟩), .int .i64 k.a, .int .i64 k.b, .int .i64 k.c] w fun e w' => e = .returned (.tuple #[valD (gotC s k), .bool (isC s k)]) ∧ At w0 w' (fun _ => False) c (n + 1) (findC s k) ∧ StT w w' :=
  h.callT (fun F hF => find_c k hF h.sm hn wk) (h.ok.find k) (by have := h.sm.op ⟨0, k, 0, 0⟩; exact this) (by have := doC_size (s := s) ⟨0, k, 0, 0⟩; have e : doC s ⟨0, k, 0, 0⟩ = findC s k := rfl; rw [e] at this; rw [this]; exact h.sz)
theorem insert_st (k : K3) (d : Dc) (h : At w0 w G c n s) (hn : n ≤ 1000000) (wk : WK k) :
    Calls Try.prog 27 #[.pointer (some ⟨c, 0, none⟩), .int .i64 k.a, .int .i64 k.b, .int .i64 k.c, .agg #[.int .u32 d.al, .int .u32 d.aa, .int .u32 d.ad, .bool d.pm, .int .i64 d.sq]] w fun e w' => e = .returned (.int .i64 (staleE d.sq s.seq)) ∧ At w0 w' (fun _ => False) c (n + 1) (insC s k d) ∧ StT w w' :=
  h.callT (fun F hF => insert_c k d hF h.sm hn h.ok wk (by have := h.len; omega)) (h.ok.ins k d) (h.sm.ins k d) (by rw [insC_size]; exact h.sz)
/-- a store into a block of another type leaves a cache -/
theorem At.far {g : Nat} {t : TypeId} {cs : Array Value} (h : At w0 w G c n s) (ht : Oth t) (hb : Blk w g t cs) (hg : w0.heap.size ≤ g) (ha : Apart (fun k => k = g) w w') : At w0 w' (fun _ => False) c n s := by
  obtain ⟨F, h1, h2, h3⟩ := h.cf
  obtain ⟨E, k1, k2, k3⟩ := h1.exact
  refine ⟨⟨E, k1.apart ha (fun k hk e => k3 g t cs ht hb (e ▸ hk)), fun k hk => h2 k (k2 k hk), fun _ h => h.elim⟩, fun _ h => h.elim, h.b.trans (ha.below h.b.size (fun k e => e ▸ hg)), h.ok, h.sm, h.sz⟩
end
/-! a region that finds in cache k (operation ic), makes a box (ia), stores into it (is) -/
def set5 (w : World) (g : Nat) (d : Dc) : World := ((((w.setCell ⟨g, 0, none⟩ (.int .u32 d.al)).setCell ⟨g, 1, none⟩ (.int .u32 d.aa)).setCell ⟨g, 2, none⟩ (.int .u32 d.ad)).setCell ⟨g, 3, none⟩ (.bool d.pm)).setCell ⟨g, 4, none⟩ (.int .i64 d.sq)
def decC (d : Dc) : Array Value := #[.int .u32 d.al, .int .u32 d.aa, .int .u32 d.ad, .bool d.pm, .int .i64 d.sq]
def fC (w0 w1 : World) (k m : Nat) (s s2 : CS) (ic : Nat) (d : Nat → Bool) (w : World) : Prop := w1.heap.size ≤ w.heap.size ∧ if d ic = true then At w0 w (fun _ => False) k (m + 1) s2 else At w0 w (fun _ => False) k m s
def fR (w0 w1 : World) (k m : Nat) (s2 : CS) (v : Dc) (ic ia is i : Nat) (w w' : World) : Prop :=
  if i = ic then At w0 w' (fun _ => False) k (m + 1) s2 ∧ StT w w'
  else if i = ia then w' = w.alloc (.cells (decC Dc.z) 39)
  else if i = is then ∃ g x, w1.heap.size ≤ g ∧ Blk w g 39 (decC x) ∧ w' = set5 w g v
  else w' = w
section
variable {w0 w1 w w' : World} {k m ic ia is i j : Nat} {s s2 : CS} {v : Dc} {d : Nat → Bool} {u : Value}
theorem set5_blk {g : Nat} {x : Dc} (h : Blk w g 39 (decC x)) (v : Dc) : Blk (set5 w g v) g 39 (decC v) := h.set5 _ _ _ _ _
theorem set5_apart (g : Nat) (v : Dc) : Apart (fun k => k = g) w (set5 w g v) := apart_set5 (G := fun k => k = g) (g := g) Apart.refl (.inl rfl) _ _ _ _ _
theorem fC_step (h0 : w0.heap.size ≤ w1.heap.size) (ha : ia ≠ ic) (hs : is ≠ ic) (i : Nat) (d : Nat → Bool) (w w' : World) (_ : d i = false) (hC : fC w0 w1 k m s s2 ic d w) (hr : fR w0 w1 k m s2 v ic ia is i w w') : fC w0 w1 k m s s2 ic (fun j => if j = i then true else d j) w' := by
  unfold fR at hr
  unfold fC at hC ⊢
  split at hr
  · rename_i e
    subst e
    refine ⟨Nat.le_trans hC.1 hr.2.sz, ?_⟩
    rw [if_pos (show (fun j => if j = i then true else d j) i = true from if_pos rfl)]
    exact hr.1
  · rename_i e
    have e' : ¬ ic = i := fun h => e h.symm
    have hde : (fun j => if j = i then true else d j) ic = d ic := if_neg e'
    rw [hde]
    split at hr
    · subst hr
      refine ⟨by simp; omega, ?_⟩
      have hb : Below w.heap.size w (w.alloc (.cells (decC Dc.z) 39)) := (Below.refl _ _).alloc (Nat.le_refl _) _
      have := hC.2
      split at this
      · rename_i hd; rw [if_pos hd]; exact this.keep hb
      · rename_i hd; rw [if_neg hd]; exact this.keep hb
    · split at hr
      · obtain ⟨g, x, hg, hb, rfl⟩ := hr
        have ha := set5_apart (w := w) g v
        refine ⟨Nat.le_trans hC.1 ha.size, ?_⟩
        have := hC.2
        split at this
        · rename_i hd; rw [if_pos hd]; exact this.far oth_dec hb (by omega) ha
        · rename_i hd; rw [if_neg hd]; exact this.far oth_dec hb (by omega) ha
      · subst hr
        exact hC
/-- what the operations leave: values, a box, the box filled -/
def fP (w1 : World) (val : Nat → Option Value) (v : Dc) (ia is i : Nat) (u : Value) (w : World) : Prop :=
  if i = ia then ∃ g x, u = .pointer (some ⟨g, 0, none⟩) ∧ w1.heap.size ≤ g ∧ Blk w g 39 (decC x)
  else if i = is then ∃ g, u = .pointer (some ⟨g, 0, none⟩) ∧ w1.heap.size ≤ g ∧ Blk w g 39 (decC v)
  else ∀ y, val i = some y → u = y
theorem fP_keep {val : Nat → Option Value} (hij : i ≠ j) (h : fP w1 val v ia is i u w) (hr : fR w0 w1 k m s2 v ic ia is j w w') : fP w1 val v ia is i u w' := by
  -- a box stays a box, a filled box stays as it is but for the store
  have hbox : ∀ g x, Blk w g 39 (decC x) → (∃ x', Blk w' g 39 (decC x')) ∧ (j ≠ is → Blk w' g 39 (decC x)) := by
    intro g x hb
    unfold fR at hr
    split at hr
    · exact ⟨⟨x, hr.2.k g 39 _ oth_dec hb⟩, fun _ => hr.2.k g 39 _ oth_dec hb⟩
    · split at hr
      · subst hr; exact ⟨⟨x, hb.alloc _⟩, fun _ => hb.alloc _⟩
      · split at hr
        · rename_i e
          obtain ⟨g', x', hg, hb', rfl⟩ := hr
          refine ⟨?_, fun h => absurd e h⟩
          by_cases e2 : g = g'
          · subst e2; exact ⟨v, set5_blk hb v⟩
          · exact ⟨x, (set5_apart g' v).blk hb e2⟩
        · subst hr; exact ⟨⟨x, hb⟩, fun _ => hb⟩
  unfold fP at h ⊢
  split
  · rename_i e
    rw [if_pos e] at h
    obtain ⟨g, x, h1, h2, h3⟩ := h
    obtain ⟨x', h4⟩ := (hbox g x h3).1
    exact ⟨g, x', h1, h2, h4⟩
  · rename_i e
    rw [if_neg e] at h
    split
    · rename_i e2
      rw [if_pos e2] at h
      obtain ⟨g, h1, h2, h3⟩ := h
      exact ⟨g, h1, h2, (hbox g v h3).2 (fun e3 => hij (e2.trans e3.symm))⟩
    · rename_i e2
      rw [if_neg e2] at h
      exact h
theorem fP_val {val : Nat → Option Value} {y : Value} (h : fP w1 val v ia is i u w) (h1 : i ≠ ia) (h2 : i ≠ is) (hy : val i = some y) : u = y := by
  unfold fP at h
  rw [if_neg h1, if_neg h2] at h
  exact h y hy
theorem fP_mk {val : Nat → Option Value} (h1 : i ≠ ia) (h2 : i ≠ is) (hy : val i = some u) : fP w1 val v ia is i u w := by
  unfold fP
  rw [if_neg h1, if_neg h2]
  intro y hz
  rw [hy] at hz
  simpa using hz
theorem fP_box {val : Nat → Option Value} (h : fP w1 val v ia is ia u w) : ∃ g x, u = .pointer (some ⟨g, 0, none⟩) ∧ w1.heap.size ≤ g ∧ Blk w g 39 (decC x) := by
  unfold fP at h
  rwa [if_pos rfl] at h
theorem fP_full {val : Nat → Option Value} (h1 : is ≠ ia) (h : fP w1 val v ia is is u w) : ∃ g, u = .pointer (some ⟨g, 0, none⟩) ∧ w1.heap.size ≤ g ∧ Blk w g 39 (decC v) := by
  unfold fP at h
  rwa [if_neg h1, if_pos rfl] at h
theorem fR_rfl (h1 : i ≠ ic) (h2 : i ≠ ia) (h3 : i ≠ is) : fR w0 w1 k m s2 v ic ia is i w w := by
  unfold fR
  rw [if_neg h1, if_neg h2, if_neg h3]
theorem fR_call (h : At w0 w' (fun _ => False) k (m + 1) s2) (h2 : StT w w') : fR w0 w1 k m s2 v ic ia is ic w w' := by
  unfold fR
  rw [if_pos rfl]
  exact ⟨h, h2⟩
theorem fR_box (h1 : ia ≠ ic) : fR w0 w1 k m s2 v ic ia is ia w (w.alloc (.cells (decC Dc.z) 39)) := by
  unfold fR
  rw [if_neg h1, if_pos rfl]
theorem fR_fill {g : Nat} {x : Dc} (h1 : is ≠ ic) (h2 : is ≠ ia) (hg : w1.heap.size ≤ g) (hb : Blk w g 39 (decC x)) : fR w0 w1 k m s2 v ic ia is is w (set5 w g v) := by
  unfold fR
  rw [if_neg h1, if_neg h2, if_pos rfl]
  exact ⟨g, x, hg, hb, rfl⟩
theorem fC_pre (h : fC w0 w1 k m s s2 ic d w) (hd : d ic = false) : At w0 w (fun _ => False) k m s := by
  have := h.2
  rw [hd] at this
  simpa using this
theorem fC_post (h : fC w0 w1 k m s s2 ic d w) (hd : d ic = true) : At w0 w (fun _ => False) k (m + 1) s2 := by
  have := h.2
  rw [hd] at this
  simpa using this
end
end Go.Proofs.Ytbcbhgclgakljaa
