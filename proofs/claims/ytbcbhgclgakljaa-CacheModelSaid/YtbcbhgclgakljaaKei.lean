/- A drawn region that takes a decision out of a state, puts it in front, lays both results into boxes. -/
import Derived.Test.YtbcbhgclgakljaaKeh
namespace Go.Proofs.Ytbcbhgclgakljaa
open Go.RowKit Go.Maps Go.WideElems Go.WideShapes
theorem Own.sr {w : World} {B B' : Nat} {s : CS} {vk vd : Value} (h1 : Own RK w B vk (keysK s.L)) (h2 : Own RD w B' vd (s.L.map (·.2))) : SR w s vk vd := by
  refine ⟨h1.rows, h2.rows, ?_, ?_⟩
  · obtain ⟨a, c, rfl⟩ := h1.isSl
    exact own_first h1 (by unfold keysK; rw [List.length_map])
  · obtain ⟨a, c, rfl⟩ := h2.isSl
    exact own_first h2 (by rw [List.length_map])
/-- a state in rows of the region's own -/
def OwnS (w : World) (B : Nat) (s : CS) (u : Value) : Prop := ∃ a n c b m e, u = .agg (stA s (.slice a n c) (.slice b m e)) ∧ Own RK w B (.slice a n c) (keysK s.L) ∧ Own RD w B (.slice b m e) (s.L.map (·.2))
theorem OwnS.blocks {w w' : World} {B : Nat} {s : CS} {u : Value} (h : OwnS w B s u) (hw : ∀ g, B ≤ g → g < w.heap.size → w'.heap[g]? = w.heap[g]?) : OwnS w' B s u := by
  obtain ⟨a, n, c, b, m, e, h1, h2, h3⟩ := h
  exact ⟨a, n, c, b, m, e, h1, h2.blocks hw, h3.blocks hw⟩
theorem OwnS.of {w : World} {B B' : Nat} {s : CS} {vk vd : Value} (h1 : Own RK w B' vk (keysK s.L)) (h2 : Own RD w B' vd (s.L.map (·.2))) (hb : B ≤ B') : OwnS w B s (.agg (stA s vk vd)) := by
  obtain ⟨a, c, rfl⟩ := h1.isSl
  obtain ⟨b, e, rfl⟩ := h2.isSl
  exact ⟨_, _, _, _, _, _, rfl, h1.base hb, h2.base hb⟩
def st8 (w : World) (g : Nat) (s : CS) (vk vd : Value) : World := set8 w g (.int .i64 s.size) (.int .i64 s.seq) vk vd (.int .i64 s.hits) (.int .i64 s.misses) (.int .i64 s.evicted) (.int .i64 s.resets)
structure vC (w1 : World) (g8 g9 i7 i8 : Nat) (s2 : CS) (dc : Dc) (d : Nat → Bool) (w : World) : Prop where
  a : Apart (fun j => j = g8 ∨ j = g9) w1 w
  z : d i7 = false → ∃ a0 a1 a2 a3 a4 a5 a6 a7, Blk w g8 29 #[a0, a1, a2, a3, a4, a5, a6, a7]
  y : d i7 = true → ∃ vk vd, Blk w g8 29 (stA s2 vk vd) ∧ OwnS w w1.heap.size s2 (.agg (stA s2 vk vd))
  e0 : d i8 = false → ∃ x, Blk w g9 39 (decC x)
  e1 : d i8 = true → Blk w g9 39 (decC dc)
def vR (w1 : World) (g8 g9 i7 i8 : Nat) (s2 : CS) (dc : Dc) (i : Nat) (w w' : World) : Prop :=
  if i = i7 then ∃ vk vd, OwnS w w1.heap.size s2 (.agg (stA s2 vk vd)) ∧ w' = st8 w g8 s2 vk vd
  else if i = i8 then w' = set5 w g9 dc
  else Below w.heap.size w w'
def vP (w1 : World) (i2 i5 : Nat) (s1 s2 : CS) (val : Nat → Option Value) (i : Nat) (u : Value) (w : World) : Prop :=
  if i = i2 then OwnS w w1.heap.size s1 u else if i = i5 then OwnS w w1.heap.size s2 u else ∀ y, val i = some y → u = y
section
variable {w1 w w' : World} {g8 g9 i7 i8 i2 i5 i j : Nat} {s1 s2 : CS} {dc : Dc} {u : Value} {d : Nat → Bool}
theorem vR_blocks (h8 : g8 < w1.heap.size) (h9 : g9 < w1.heap.size) (hr : vR w1 g8 g9 i7 i8 s2 dc i w w') : ∀ g, w1.heap.size ≤ g → g < w.heap.size → w'.heap[g]? = w.heap[g]? := by
  intro g h1 h2
  unfold vR at hr
  split at hr
  · obtain ⟨vk, vd, _, rfl⟩ := hr; exact (apart_set8 w g8 _ _ _ _ _ _ _ _).block g h2 (fun e => by have : g = g8 := e; omega)
  · split at hr
    · subst hr; exact (set5_apart g9 dc).block g h2 (fun e => by have : g = g9 := e; omega)
    · exact hr.block g h2
theorem vP_keep {val : Nat → Option Value} (h8 : g8 < w1.heap.size) (h9 : g9 < w1.heap.size) (h : vP w1 i2 i5 s1 s2 val i u w) (hr : vR w1 g8 g9 i7 i8 s2 dc j w w') : vP w1 i2 i5 s1 s2 val i u w' := by
  have hb := vR_blocks h8 h9 hr
  unfold vP at h ⊢
  split
  · rename_i e; rw [if_pos e] at h; exact h.blocks hb
  · rename_i e
    rw [if_neg e] at h
    split
    · rename_i e; rw [if_pos e] at h; exact h.blocks hb
    · rename_i e; rw [if_neg e] at h; exact h
theorem vC_step (h8 : g8 < w1.heap.size) (h9 : g9 < w1.heap.size) (h89 : g8 ≠ g9) (hii : i7 ≠ i8) (i : Nat) (d : Nat → Bool) (w w' : World) (_ : d i = false) (hC : vC w1 g8 g9 i7 i8 s2 dc d w) (hr : vR w1 g8 g9 i7 i8 s2 dc i w w') : vC w1 g8 g9 i7 i8 s2 dc (fun j => if j = i then true else d j) w' := by
  have hb := vR_blocks h8 h9 hr
  unfold vR at hr
  split at hr
  · rename_i e
    subst e
    obtain ⟨vk, vd, ho, rfl⟩ := hr
    have n8 : ¬ i8 = i := fun e => hii e.symm
    have ha : Apart (fun j => j = g8) w (st8 w g8 s2 vk vd) := apart_set8 w g8 _ _ _ _ _ _ _ _
    refine ⟨hC.a.trans ha (fun k hk => .inl (.inl hk)), fun h => by simp at h, fun _ => ⟨vk, vd, ?_, ho.blocks hb⟩, fun h => ?_, fun h => ?_⟩
    · cases h7 : d i with
      | false => obtain ⟨_, _, _, _, _, _, _, _, hcs⟩ := hC.z h7; exact hcs.set8 _ _ _ _ _ _ _ _
      | true => obtain ⟨_, _, hcs, _⟩ := hC.y h7; exact Blk.set8 hcs _ _ _ _ _ _ _ _
    · simp only [n8, if_false] at h
      obtain ⟨x, hx⟩ := hC.e0 h
      exact ⟨x, ha.blk hx (fun e => h89 e.symm)⟩
    · simp only [n8, if_false] at h
      exact ha.blk (hC.e1 h) (fun e => h89 e.symm)
  · rename_i n7
    have n7' : ¬ i7 = i := fun e => n7 e.symm
    split at hr
    · rename_i e
      subst e
      subst hr
      have ha := set5_apart (w := w) g9 dc
      refine ⟨hC.a.trans ha (fun k hk => .inl (.inr hk)), fun h => ?_, fun h => ?_, fun h => by simp at h, fun _ => ?_⟩
      · simp only [n7', if_false] at h
        obtain ⟨_, _, _, _, _, _, _, _, hcs⟩ := hC.z h
        exact ⟨_, _, _, _, _, _, _, _, ha.blk hcs h89⟩
      · simp only [n7', if_false] at h
        obtain ⟨vk, vd, h1, h2⟩ := hC.y h
        exact ⟨vk, vd, ha.blk h1 h89, h2.blocks hb⟩
      · cases h8' : d i with
        | false => obtain ⟨x, hx⟩ := hC.e0 h8'; exact set5_blk hx dc
        | true => exact set5_blk (hC.e1 h8') dc
    · rename_i n8
      have n8' : ¬ i8 = i := fun e => n8 e.symm
      refine ⟨hC.a.trans (Apart.of hr) (fun _ h => .inl h), fun h => ?_, fun h => ?_, fun h => ?_, fun h => ?_⟩
      · simp only [n7', if_false] at h
        obtain ⟨_, _, _, _, _, _, _, _, hcs⟩ := hC.z h
        exact ⟨_, _, _, _, _, _, _, _, hcs.keep hr⟩
      · simp only [n7', if_false] at h
        obtain ⟨vk, vd, h1, h2⟩ := hC.y h
        exact ⟨vk, vd, h1.keep hr, h2.blocks hb⟩
      · simp only [n8', if_false] at h
        obtain ⟨x, hx⟩ := hC.e0 h
        exact ⟨x, hx.keep hr⟩
      · simp only [n8', if_false] at h
        exact (hC.e1 h).keep hr
theorem vP_mk {val : Nat → Option Value} (h2 : i ≠ i2) (h5 : i ≠ i5) (hy : val i = some u) : vP w1 i2 i5 s1 s2 val i u w := by
  unfold vP
  rw [if_neg h2, if_neg h5]
  intro y hz
  rw [hy] at hz
  simpa using hz
theorem vP_val {val : Nat → Option Value} {y : Value} (h : vP w1 i2 i5 s1 s2 val i u w) (h2 : i ≠ i2) (h5 : i ≠ i5) (hy : val i = some y) : u = y := by
  unfold vP at h
  rw [if_neg h2, if_neg h5] at h
  exact h y hy
theorem vP_two {val : Nat → Option Value} (h : vP w1 i2 i5 s1 s2 val i2 u w) : OwnS w w1.heap.size s1 u := by
  unfold vP at h
  rwa [if_pos rfl] at h
theorem vP_five {val : Nat → Option Value} (hn : i5 ≠ i2) (h : vP w1 i2 i5 s1 s2 val i5 u w) : OwnS w w1.heap.size s2 u := by
  unfold vP at h
  rwa [if_neg hn, if_pos rfl] at h
end
end Go.Proofs.Ytbcbhgclgakljaa
