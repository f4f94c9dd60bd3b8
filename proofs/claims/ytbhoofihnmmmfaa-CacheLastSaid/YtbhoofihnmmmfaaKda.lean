/- A drawn region that copies a cache, finds in the copy, lays what is found into a box: what it leaves. -/
import Derived.Test.YtbhoofihnmmmfaaKcz
namespace Go.Proofs.Ytbhoofihnmmmfaa
open Go.RowKit Go.Maps Go.WideElems Go.WideShapes
def isDec (w : World) (g : Nat) : Prop := ∃ x, Blk w g 42 (decC x)
/-- the copy's place: the first or the second that the region makes -/
def PK (w1 w : World) (k : Nat) : Prop := (k = w1.heap.size ∨ k = w1.heap.size + 1 ∧ isDec w w1.heap.size) ∧ ∃ cs, Blk w k 59 cs
structure gC (w1 : World) (m : Nat) (s2 s3 : CS) (d : Nat → Bool) (w : World) : Prop where
  b : Below w1.heap.size w1 w
  ord : d 17 = true → d 1 = true
  post : d 17 = true → ∃ k, PK w1 w k ∧ At w1 w (fun _ => False) k (m + 1) s3
  mid : d 17 = false → d 1 = true → ∃ k, PK w1 w k ∧ At w1 w (fun _ => False) k m s2
  pre : d 17 = false → d 1 = false → (d 21 = false → w.heap.size = w1.heap.size) ∧ (d 21 = true → w.heap.size = w1.heap.size + 1 ∧ isDec w w1.heap.size)
def gR (w1 : World) (m : Nat) (s2 s3 : CS) (v : Dc) (i : Nat) (w w' : World) : Prop :=
  if i = 1 then At w w' (fun _ => False) w.heap.size m s2
  else if i = 17 then StT w w' ∧ (∃ k, PK w1 w' k ∧ At w1 w' (fun _ => False) k (m + 1) s3) ∧ (∀ k, PK w1 w k → PK w1 w' k) ∧ ∃ k, PK w1 w k
  else if i = 21 then w' = w.alloc (.cells (decC Dc.z) 42)
  else if i = 22 then ∃ g x, w1.heap.size ≤ g ∧ Blk w g 42 (decC x) ∧ w' = set5 w g v
  else w' = w
def gP (w1 : World) (val : Nat → Option Value) (v : Dc) (i : Nat) (u : Value) (w : World) : Prop :=
  if i = 1 then ∃ k, u = .pointer (some ⟨k, 0, none⟩) ∧ PK w1 w k
  else if i = 21 then ∃ g x, u = .pointer (some ⟨g, 0, none⟩) ∧ w1.heap.size ≤ g ∧ Blk w g 42 (decC x)
  else if i = 22 then ∃ g, u = .pointer (some ⟨g, 0, none⟩) ∧ w1.heap.size ≤ g ∧ Blk w g 42 (decC v)
  else ∀ y, val i = some y → u = y
section
variable {w0 w1 w w' : World} {G : Nat → Prop} {c k m n i j : Nat} {s s2 s3 : CS} {v : Dc} {d : Nat → Bool} {u : Value}
theorem At.blk (h : At w0 w G c n s) : w0.heap.size ≤ c ∧ ∃ cs, Blk w c 59 cs := by
  obtain ⟨F, h1, h2, _⟩ := h.cf
  obtain ⟨o, r, mm, S, k1, _, _, k4, _⟩ := h1
  exact ⟨h2 _ k4, _, k1⟩
theorem At.base (h : At w w' G c n s) (hb : Below w0.heap.size w0 w) : At w0 w' G c n s := by
  obtain ⟨F, h1, h2, h3⟩ := h.cf
  have := hb.size
  exact ⟨⟨F, h1, fun k hk => by have := h2 k hk; omega, h3⟩, h.g, hb.trans (h.b.mono hb.size), h.ok, h.sm, h.sz⟩
theorem cache_ne_dec : (59 : TypeId) ≠ 42 := by decide
theorem PK.uniq {k' : Nat} (h : PK w1 w k) (h' : PK w1 w k') : k = k' := by
  obtain ⟨h1, cs, hb⟩ := h
  obtain ⟨h1', cs', hb'⟩ := h'
  rcases h1 with rfl | ⟨rfl, x, hx⟩ <;> rcases h1' with rfl | ⟨rfl, y, hy⟩
  · rfl
  · exact absurd rfl (hb.ne hy cache_ne_dec)
  · exact absurd rfl (hb'.ne hx cache_ne_dec)
  · rfl
theorem PK.keep (h : PK w1 w k) (hb : Below w.heap.size w w') : PK w1 w' k := by
  obtain ⟨h1, cs, h2⟩ := h
  refine ⟨?_, cs, h2.keep hb⟩
  rcases h1 with h1 | ⟨h1, x, hx⟩
  · exact .inl h1
  · exact .inr ⟨h1, x, hx.keep hb⟩
theorem PK.set {g : Nat} {x : Dc} (h : PK w1 w k) (hb : Blk w g 42 (decC x)) (v : Dc) : PK w1 (set5 w g v) k := by
  obtain ⟨h1, cs, h2⟩ := h
  refine ⟨?_, cs, (set5_apart g v).blk h2 (h2.ne hb cache_ne_dec)⟩
  rcases h1 with h1 | ⟨h1, y, hy⟩
  · exact .inl h1
  · by_cases e : w1.heap.size = g
    · exact .inr ⟨h1, v, by rw [e]; exact set5_blk hb v⟩
    · exact .inr ⟨h1, y, (set5_apart g v).blk hy e⟩
theorem gC.made (h : gC w1 m s2 s3 d w) (hd : d 17 = false) (hk : PK w1 w k) : d 1 = true := by
  cases h1 : d 1 with
  | true => rfl
  | false =>
    exfalso
    obtain ⟨ha, hb⟩ := h.pre hd h1
    obtain ⟨hk, cs, h2⟩ := hk
    have hlt := h2.lt
    cases h3 : d 21 with
    | true =>
      obtain ⟨h4, x, h5⟩ := hb h3
      rcases hk with rfl | ⟨rfl, _⟩
      · exact h2.ne h5 cache_ne_dec rfl
      · omega
    | false =>
      have := ha h3
      rcases hk with rfl | ⟨rfl, _⟩ <;> omega
/-- what is found in the copy is found in it wherever it lies -/
theorem gC.at (h : gC w1 m s2 s3 d w) (hd : d 17 = false) (hk : PK w1 w k) : At w1 w (fun _ => False) k m s2 := by
  obtain ⟨k', h2, h3⟩ := h.mid hd (h.made hd hk)
  rw [hk.uniq h2]
  exact h3
theorem gC_step (i : Nat) (d : Nat → Bool) (w w' : World) (hd : d i = false) (hC : gC w1 m s2 s3 d w) (hr : gR w1 m s2 s3 v i w w') : gC w1 m s2 s3 (fun j => if j = i then true else d j) w' := by
  have hs := hC.b.size
  unfold gR at hr
  split at hr
  · rename_i e
    subst e
    have hb := hr.b
    refine ⟨hC.b.trans (hb.mono hs), fun _ => by simp, fun h => ?_, fun h _ => ?_, fun _ h => by simp at h⟩
    · obtain ⟨k, h1, h2⟩ := hC.post h
      exact ⟨k, h1.keep hb, h2.keep hb⟩
    · obtain ⟨ha, hb2⟩ := hC.pre h hd
      refine ⟨w.heap.size, ⟨?_, hr.blk.2⟩, hr.base hC.b⟩
      cases h3 : d 21 with
      | true => exact .inr ⟨(hb2 h3).1, by obtain ⟨x, hx⟩ := (hb2 h3).2; exact ⟨x, hx.keep hb⟩⟩
      | false => exact .inl (ha h3)
  · rename_i e1
    split at hr
    · rename_i e
      subst e
      obtain ⟨h1, ⟨k, h2, h3⟩, h4, k', h5⟩ := hr
      exact ⟨h3.b, fun _ => by simpa using hC.made hd h5, fun _ => ⟨k, h2, h3⟩, fun h => by simp at h, fun h => by simp at h⟩
    · rename_i e2
      have n1 : ¬ (1 : Nat) = i := fun h => e1 h.symm
      have n17 : ¬ (17 : Nat) = i := fun h => e2 h.symm
      split at hr
      · rename_i e
        subst e
        subst hr
        have hb : Below w.heap.size w (w.alloc (.cells (decC Dc.z) 42)) := (Below.refl _ _).alloc (Nat.le_refl _) _
        refine ⟨hC.b.trans (hb.mono hs), fun h => hC.ord h, fun h => ?_, fun h h' => ?_, fun h h' => ⟨fun h2 => by simp at h2, fun _ => ?_⟩⟩
        · obtain ⟨k, h1, h2⟩ := hC.post h
          exact ⟨k, h1.keep hb, h2.keep hb⟩
        · obtain ⟨k, h1, h2⟩ := hC.mid h h'
          exact ⟨k, h1.keep hb, h2.keep hb⟩
        · have h3 := (hC.pre h h').1 hd
          exact ⟨by simp [h3], Dc.z, by rw [← h3]; exact Blk.new _ _ _⟩
      · rename_i e3
        have n21 : ¬ (21 : Nat) = i := fun h => e3 h.symm
        split at hr
        · obtain ⟨g, x, hg, hb, rfl⟩ := hr
          have ha := set5_apart (w := w) g v
          refine ⟨hC.b.trans (ha.below hs (fun k e => e ▸ hg)), fun h => by simp only [n17, n1, if_false] at h ⊢; exact hC.ord h, fun h => ?_, fun h h' => ?_, fun h h' => ?_⟩
          · simp only [n17, if_false] at h
            obtain ⟨k, h1, h2⟩ := hC.post h
            exact ⟨k, h1.set hb v, h2.far oth_dec hb hg ha⟩
          · simp only [n17, n1, if_false] at h h'
            obtain ⟨k, h1, h2⟩ := hC.mid h h'
            exact ⟨k, h1.set hb v, h2.far oth_dec hb hg ha⟩
          · simp only [n17, n1, n21, if_false] at h h' ⊢
            obtain ⟨h1, h2⟩ := hC.pre h h'
            have hz : (set5 w g v).heap.size = w.heap.size := by simp [set5, World.setCell]
            rw [hz]
            refine ⟨h1, fun h3 => ⟨(h2 h3).1, ?_⟩⟩
            by_cases e : w1.heap.size = g
            · exact ⟨v, by rw [e]; exact set5_blk hb v⟩
            · obtain ⟨y, hy⟩ := (h2 h3).2
              exact ⟨y, ha.blk hy e⟩
        · subst hr
          refine ⟨hC.b, fun h => by simp only [n17, n1, if_false] at h ⊢; exact hC.ord h, fun h => ?_, fun h h' => ?_, fun h h' => ?_⟩
          · simp only [n17, if_false] at h
            exact hC.post h
          · simp only [n17, n1, if_false] at h h'
            exact hC.mid h h'
          · simp only [n17, n1, n21, if_false] at h h' ⊢
            exact hC.pre h h'
theorem gP_keep {val : Nat → Option Value} (hij : i ≠ j) (h : gP w1 val v i u w) (hr : gR w1 m s2 s3 v j w w') : gP w1 val v i u w' := by
  have hbox : ∀ g x, Blk w g 42 (decC x) → (∃ x', Blk w' g 42 (decC x')) ∧ (j ≠ 22 → Blk w' g 42 (decC x)) := by
    intro g x hb
    unfold gR at hr
    split at hr
    · exact ⟨⟨x, hb.keep hr.b⟩, fun _ => hb.keep hr.b⟩
    · split at hr
      · exact ⟨⟨x, hr.1.k g 42 _ oth_dec hb⟩, fun _ => hr.1.k g 42 _ oth_dec hb⟩
      · split at hr
        · subst hr; exact ⟨⟨x, hb.alloc _⟩, fun _ => hb.alloc _⟩
        · split at hr
          · rename_i e
            obtain ⟨g', x', hg, hb', rfl⟩ := hr
            refine ⟨?_, fun h => absurd e h⟩
            by_cases e2 : g = g'
            · subst e2; exact ⟨v, set5_blk hb v⟩
            · exact ⟨x, (set5_apart g' v).blk hb e2⟩
          · subst hr; exact ⟨⟨x, hb⟩, fun _ => hb⟩
  unfold gP at h ⊢
  split
  · rename_i e
    rw [if_pos e] at h
    obtain ⟨k, h1, h2⟩ := h
    refine ⟨k, h1, ?_⟩
    unfold gR at hr
    split at hr
    · exact h2.keep hr.b
    · split at hr
      · exact hr.2.2.1 k h2
      · split at hr
        · subst hr; exact h2.keep ((Below.refl _ _).alloc (Nat.le_refl _) _)
        · split at hr
          · obtain ⟨g', x', hg, hb', rfl⟩ := hr
            exact h2.set hb' v
          · subst hr; exact h2
  · rename_i e
    rw [if_neg e] at h
    split
    · rename_i e
      rw [if_pos e] at h
      obtain ⟨g, x, h1, h2, h3⟩ := h
      obtain ⟨x', h4⟩ := (hbox g x h3).1
      exact ⟨g, x', h1, h2, h4⟩
    · rename_i e
      rw [if_neg e] at h
      split
      · rename_i e2
        rw [if_pos e2] at h
        obtain ⟨g, h1, h2, h3⟩ := h
        exact ⟨g, h1, h2, (hbox g v h3).2 (fun e3 => hij (e2.trans e3.symm))⟩
      · rename_i e2
        rw [if_neg e2] at h
        exact h
theorem gP_val {val : Nat → Option Value} {y : Value} (h : gP w1 val v i u w) (h1 : i ≠ 1) (h2 : i ≠ 21) (h3 : i ≠ 22) (hy : val i = some y) : u = y := by
  unfold gP at h
  rw [if_neg h1, if_neg h2, if_neg h3] at h
  exact h y hy
theorem gP_mk {val : Nat → Option Value} (h1 : i ≠ 1) (h2 : i ≠ 21) (h3 : i ≠ 22) (hy : val i = some u) : gP w1 val v i u w := by
  unfold gP
  rw [if_neg h1, if_neg h2, if_neg h3]
  intro y hz
  rw [hy] at hz
  simpa using hz
theorem gP_copy {val : Nat → Option Value} (h : gP w1 val v 1 u w) : ∃ k, u = .pointer (some ⟨k, 0, none⟩) ∧ PK w1 w k := by
  unfold gP at h
  rwa [if_pos rfl] at h
theorem gP_box {val : Nat → Option Value} (h : gP w1 val v 21 u w) : ∃ g x, u = .pointer (some ⟨g, 0, none⟩) ∧ w1.heap.size ≤ g ∧ Blk w g 42 (decC x) := by
  unfold gP at h
  rwa [if_neg (by decide), if_pos rfl] at h
theorem gP_full {val : Nat → Option Value} (h : gP w1 val v 22 u w) : ∃ g, u = .pointer (some ⟨g, 0, none⟩) ∧ w1.heap.size ≤ g ∧ Blk w g 42 (decC v) := by
  unfold gP at h
  rwa [if_neg (by decide), if_neg (by decide), if_pos rfl] at h
theorem gR_rfl (h1 : i ≠ 1) (h2 : i ≠ 17) (h3 : i ≠ 21) (h4 : i ≠ 22) : gR w1 m s2 s3 v i w w := by
  unfold gR
  rw [if_neg h1, if_neg h2, if_neg h3, if_neg h4]
theorem gR_copy (h : At w w' (fun _ => False) w.heap.size m s2) : gR w1 m s2 s3 v 1 w w' := by
  unfold gR
  rwa [if_pos rfl]
theorem gP_copied {val : Nat → Option Value} {d : Nat → Bool} (hC : gC w1 m s2 s3 d w) (h0 : d 1 = false) (h : At w w' (fun _ => False) w.heap.size m s2) : gP w1 val v 1 (.pointer (some ⟨w.heap.size, 0, none⟩)) w' := by
  unfold gP
  rw [if_pos rfl]
  refine ⟨_, rfl, ?_, h.blk.2⟩
  have hn : d 17 = false := by
    cases hn : d 17 with
    | false => rfl
    | true => have := hC.ord hn; rw [h0] at this; cases this
  obtain ⟨ha, hb⟩ := hC.pre hn h0
  cases h3 : d 21 with
  | true => exact .inr ⟨(hb h3).1, by obtain ⟨x, hx⟩ := (hb h3).2; exact ⟨x, hx.keep h.b⟩⟩
  | false => exact .inl (ha h3)
theorem gR_find (hk : PK w1 w k) (h : At w1 w' (fun _ => False) k (m + 1) s3) (h2 : StT w w') : gR w1 m s2 s3 v 17 w w' := by
  have hp : PK w1 w' k := by
    refine ⟨?_, h.blk.2⟩
    rcases hk.1 with h1 | ⟨h1, x, hx⟩
    · exact .inl h1
    · exact .inr ⟨h1, x, h2.k _ _ _ oth_dec hx⟩
  unfold gR
  rw [if_neg (by decide), if_pos rfl]
  exact ⟨h2, ⟨k, hp, h⟩, fun k' h' => by rw [h'.uniq hk]; exact hp, k, hk⟩
theorem gR_box : gR w1 m s2 s3 v 21 w (w.alloc (.cells (decC Dc.z) 42)) := by
  unfold gR
  rw [if_neg (by decide), if_neg (by decide), if_pos rfl]
theorem gR_fill {g : Nat} {x : Dc} (hg : w1.heap.size ≤ g) (hb : Blk w g 42 (decC x)) : gR w1 m s2 s3 v 22 w (set5 w g v) := by
  unfold gR
  rw [if_neg (by decide), if_neg (by decide), if_neg (by decide), if_pos rfl]
  exact ⟨g, x, hg, hb, rfl⟩
theorem gC_start (hb : Below w1.heap.size w1 w) (h : w.heap.size = w1.heap.size) : gC w1 m s2 s3 (fun _ => false) w :=
  ⟨hb, fun h => by simp at h, fun h => by simp at h, fun _ h => by simp at h, fun _ _ => ⟨fun _ => h, fun h => by simp at h⟩⟩
end
end Go.Proofs.Ytbhoofihnmmmfaa
