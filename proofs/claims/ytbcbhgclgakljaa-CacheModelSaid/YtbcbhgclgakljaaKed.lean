/- The reference of a cache: a state with a decision in front. -/
import Derived.Test.YtbcbhgclgakljaaKec
namespace Go.Proofs.Ytbcbhgclgakljaa
open Go.RowKit Go.Maps Go.WideElems Go.WideShapes
def stA (s : CS) (vk vd : Value) : Array Value := #[.int .i64 s.size, .int .i64 s.seq, vk, vd, .int .i64 s.hits, .int .i64 s.misses, .int .i64 s.evicted, .int .i64 s.resets]
theorem Own.blocks {α : Type} {R : RowT α} {w w' : World} {B : Nat} {v : Value} {L : List α} (h : Own R w B v L) (hw : ∀ g, B ≤ g → g < w.heap.size → w'.heap[g]? = w.heap[g]?) : Own R w' B v L := by
  refine ⟨h.1, ?_⟩
  rcases h.2 with hn | ⟨g, cap, cur, hv, hbg, hg, rest⟩
  · exact .inl hn
  · exact .inr ⟨g, cap, cur, hv, hbg, by rw [hw g hbg (Blk.lt (show Blk _ g _ cur from hg))]; exact hg, rest⟩
theorem own_one {α : Type} (R : RowT α) (w : World) (x : α) : Own R (w.alloc (.cells (R.c x).toArray R.te)) w.heap.size (.slice (some ⟨w.heap.size, 0, none⟩) 1 1) [x] := by
  refine ⟨?_, .inr ⟨w.heap.size, 1, (R.c x).toArray, rfl, Nat.le_refl _, Blk.new _ _ _, Nat.le_refl _, by decide, by simp [R.len], ?_⟩⟩
  · simp [R.len]
  · simp only [List.length_cons, List.length_nil, Nat.zero_add, Nat.one_mul, List.flatMap_cons, List.flatMap_nil, List.append_nil]
    exact List.take_of_length_le (by rw [R.len]; exact Nat.le_refl _)
structure uC (w1 : World) (gy : Nat) (s : CS) (k : K3) (dc : Dc) (vd : Value) (d : Nat → Bool) (w : World) : Prop where
  b : Apart (fun j => j = gy) w1 w
  y : d 7 = false → ∃ v, (d 5 = true → Own RK w w1.heap.size v [k]) ∧ Blk w gy 29 (stA s v vd)
  y2 : d 7 = true → ∃ v u, (d 5 = true → Own RK w w1.heap.size v [k]) ∧ Own RD w w1.heap.size u [dc] ∧ Blk w gy 29 (stA s v u)
def uR (w1 : World) (gy : Nat) (k : K3) (dc : Dc) (i : Nat) (w w' : World) : Prop :=
  if i = 1 then w' = w.alloc (.cells (cellsK k).toArray 84)
  else if i = 3 then w' = w.alloc (.cells (cellsD dc).toArray 39)
  else if i = 5 then ∃ v, Own RK w w1.heap.size v [k] ∧ w' = w.setCell ⟨gy, 2, none⟩ v
  else if i = 7 then ∃ v, Own RD w w1.heap.size v [dc] ∧ w' = w.setCell ⟨gy, 3, none⟩ v
  else w' = w
def uP (w1 : World) (k : K3) (dc : Dc) (val : Nat → Option Value) (i : Nat) (u : Value) (w : World) : Prop :=
  if i = 1 then (∃ g, u = .slice (some ⟨g, 0, none⟩) 1 1) ∧ Own RK w w1.heap.size u [k]
  else if i = 3 then (∃ g, u = .slice (some ⟨g, 0, none⟩) 1 1) ∧ Own RD w w1.heap.size u [dc]
  else ∀ y, val i = some y → u = y
section
variable {w0 w1 w w' : World} {gy i j : Nat} {s : CS} {k : K3} {dc : Dc} {vk vd u : Value} {d : Nat → Bool}
theorem uR_blocks (hg : gy < w1.heap.size) (hr : uR w1 gy k dc i w w') : ∀ g, w1.heap.size ≤ g → g < w.heap.size → w'.heap[g]? = w.heap[g]? := by
  intro g h1 h2
  unfold uR at hr
  split at hr
  · subst hr; exact Below.heap_alloc w _ g h2
  · split at hr
    · subst hr; exact Below.heap_alloc w _ g h2
    · split at hr
      · obtain ⟨v, _, rfl⟩ := hr; exact Below.heap_setCell w _ v g (by simp; omega)
      · split at hr
        · obtain ⟨v, _, rfl⟩ := hr; exact Below.heap_setCell w _ v g (by simp; omega)
        · subst hr; rfl
theorem uP_keep {val : Nat → Option Value} (hg : gy < w1.heap.size) (h : uP w1 k dc val i u w) (hr : uR w1 gy k dc j w w') : uP w1 k dc val i u w' := by
  have hb := uR_blocks hg hr
  unfold uP at h ⊢
  split
  · rename_i e; rw [if_pos e] at h; exact ⟨h.1, h.2.blocks hb⟩
  · rename_i e
    rw [if_neg e] at h
    split
    · rename_i e; rw [if_pos e] at h; exact ⟨h.1, h.2.blocks hb⟩
    · rename_i e; rw [if_neg e] at h; exact h
theorem uC_step (hg : gy < w1.heap.size) (i : Nat) (d : Nat → Bool) (w w' : World) (_ : d i = false) (hC : uC w1 gy s k dc vd d w) (hr : uR w1 gy k dc i w w') : uC w1 gy s k dc vd (fun j => if j = i then true else d j) w' := by
  have hb := uR_blocks hg hr
  unfold uR at hr
  split at hr
  · rename_i e; subst e; subst hr
    exact ⟨hC.b.trans (Apart.of ((Below.refl _ _).alloc (Nat.le_refl _) _)) (fun _ h => .inl h), fun h => by obtain ⟨v, h1, h2⟩ := hC.y h; exact ⟨v, fun h5 => (h1 h5).blocks hb, h2.alloc _⟩, fun h => by obtain ⟨v, u, h1, h2, h3⟩ := hC.y2 h; exact ⟨v, u, fun h5 => (h1 h5).blocks hb, h2.blocks hb, h3.alloc _⟩⟩
  · split at hr
    · rename_i e; subst e; subst hr
      exact ⟨hC.b.trans (Apart.of ((Below.refl _ _).alloc (Nat.le_refl _) _)) (fun _ h => .inl h), fun h => by obtain ⟨v, h1, h2⟩ := hC.y h; exact ⟨v, fun h5 => (h1 h5).blocks hb, h2.alloc _⟩, fun h => by obtain ⟨v, u, h1, h2, h3⟩ := hC.y2 h; exact ⟨v, u, fun h5 => (h1 h5).blocks hb, h2.blocks hb, h3.alloc _⟩⟩
    · split at hr
      · rename_i e; subst e
        obtain ⟨v, hv, rfl⟩ := hr
        refine ⟨hC.b.setCell (F := fun j => j = gy) (p := ⟨gy, 2, none⟩) (.inl rfl) v, fun h => ?_, fun h => ?_⟩
        · obtain ⟨v', h1, h2⟩ := hC.y h
          exact ⟨v, fun _ => hv.blocks hb, by simpa [stA] using h2.set 2 v⟩
        · obtain ⟨v', u, h1, h2, h3⟩ := hC.y2 h
          exact ⟨v, u, fun _ => hv.blocks hb, h2.blocks hb, by simpa [stA] using h3.set 2 v⟩
      · split at hr
        · rename_i e; subst e
          obtain ⟨v, hv, rfl⟩ := hr
          refine ⟨hC.b.setCell (F := fun j => j = gy) (p := ⟨gy, 3, none⟩) (.inl rfl) v, fun h => by simp at h, fun _ => ?_⟩
          cases h7 : d 7 with
          | false =>
            obtain ⟨v', h1, h2⟩ := hC.y h7
            exact ⟨v', v, fun h5 => (h1 h5).blocks hb, hv.blocks hb, by simpa [stA] using h2.set 3 v⟩
          | true =>
            obtain ⟨v', u, h1, h2, h3⟩ := hC.y2 h7
            exact ⟨v', v, fun h5 => (h1 h5).blocks hb, hv.blocks hb, by simpa [stA] using h3.set 3 v⟩
        · rename_i n1 n3 n5 n7
          have m5 : ¬ (5 : Nat) = i := fun h => n5 h.symm
          have m7 : ¬ (7 : Nat) = i := fun h => n7 h.symm
          subst hr
          exact ⟨hC.b, fun h => by simp only [m5, m7, if_false] at h ⊢; exact hC.y h, fun h => by simp only [m5, m7, if_false] at h ⊢; exact hC.y2 h⟩
theorem uP_mk {val : Nat → Option Value} (h1 : i ≠ 1) (h3 : i ≠ 3) (hy : val i = some u) : uP w1 k dc val i u w := by
  unfold uP
  rw [if_neg h1, if_neg h3]
  intro y hz
  rw [hy] at hz
  simpa using hz
theorem uP_val {val : Nat → Option Value} {y : Value} (h : uP w1 k dc val i u w) (h1 : i ≠ 1) (h3 : i ≠ 3) (hy : val i = some y) : u = y := by
  unfold uP at h
  rw [if_neg h1, if_neg h3] at h
  exact h y hy
end
end Go.Proofs.Ytbcbhgclgakljaa
