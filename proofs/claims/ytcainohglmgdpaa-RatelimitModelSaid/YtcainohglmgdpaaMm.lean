/- Memory, over any program: a block that is known whole; a class of worlds for regions that draw their order; all but one block as it was. -/
import Derived.Test.YtcainohglmgdpaaRows
import Derived.WalkKit
import Derived.WalkSpells
import Derived.WalkLawsBesides
import Derived.Deep.QuietTactic
import Derived.BigQuiet
import Derived.Deep.RegionWith
import Derived.Deep.RegionHeld3
import Derived.Lib.Hide
import Derived.WalkSmall
namespace Go.Proofs.Ytcainohglmgdpaa
open Go.RowKit
/-- block g is just the cells cs of type t -/
def Blk (w : World) (g : Nat) (t : TypeId) (cs : Array Value) : Prop := w.heap[g]? = some (.cells cs t (0, 0))
section
variable {w w' : World} {g : Nat} {t : TypeId} {cs : Array Value}
theorem Blk.cell (h : Blk w g t cs) (i : Nat) : w.cell? ⟨g, i, none⟩ = cs[i]? := cell_of_row w g i cs t (0, 0) h
theorem Blk.frozen (h : Blk w g t cs) (i : Nat) : w.frozen? ⟨g, i, none⟩ = false := by
  unfold Blk at h
  simp [World.frozen?, h]
theorem Blk.lt (h : Blk w g t cs) : g < w.heap.size := by
  rcases Nat.lt_or_ge g w.heap.size with hlt | hge
  · exact hlt
  · unfold Blk at h; rw [Array.getElem?_eq_none hge] at h; cases h
theorem Blk.new (w : World) (t : TypeId) (cs : Array Value) : Blk (w.alloc (.cells cs t)) w.heap.size t cs := heap_alloc_new w _
theorem Blk.here (hg : g = w.heap.size) : Blk (w.alloc (.cells cs t)) g t cs := hg ▸ Blk.new w t cs
theorem Blk.alloc (h : Blk w g t cs) (o : Obj) : Blk (w.alloc o) g t cs := (Below.heap_alloc w o g h.lt).trans h
theorem Blk.drew (h : Blk w g t cs) : Blk w.drew g t cs := h
theorem Blk.drewN (h : Blk w g t cs) (n : Nat) : Blk (w.drewN n) g t cs := h
theorem Blk.below {B : Nat} (h : Blk w g t cs) (hb : Below B w w') (hg : g < B) : Blk w' g t cs := (hb.block g hg).trans h
theorem Blk.keep (h : Blk w g t cs) (hb : Below w.heap.size w w') : Blk w' g t cs := h.below hb h.lt
theorem Blk.set (h : Blk w g t cs) (i : Nat) (u : Value) : Blk (w.setCell ⟨g, i, none⟩ u) g t (cs.setIfInBounds i u) := by
  unfold Blk at h ⊢
  simp [World.setCell, Array.getElem?_modify, h]
theorem Blk.far (h : Blk w g t cs) {p : Addr} (hp : g ≠ p.block) (u : Value) : Blk (w.setCell p u) g t cs := (Below.heap_setCell w p u g hp).trans h
end
/-- the class: all that was there in W is as it was -/
def Kp (W w : World) : Prop := Below W.heap.size W w
section
variable {W w w' : World}
theorem Kp.rfl' : Kp W W := Below.refl _ _
theorem Kp.drew (h : Kp W w) : Kp W w.drew := Below.drew h
theorem Kp.alloc (h : Kp W w) (o : Obj) : Kp W (w.alloc o) := Below.alloc h (Below.size h) o
theorem Kp.step (h : Kp W w) (hb : Below w.heap.size w w') : Kp W w' := Below.trans h (hb.mono (Below.size h))
theorem Kp.size (h : Kp W w) : W.heap.size ≤ w.heap.size := Below.size h
theorem Kp.blk (hC : Kp W w) {g : Nat} {t : TypeId} {cs : Array Value} (h : Blk W g t cs) : Blk w g t cs := h.below hC h.lt
theorem Kp.onto {B : Nat} {w0 : World} (h0 : Below B w0 W) (h : Kp W w) (hB : B ≤ W.heap.size) : Below B w0 w := h0.trans (Below.mono h hB)
theorem wp_region_kp {P : Program} {id : Nat} {Q : Exit → Act → World → Prop} {a : Act} {w : World} {l : List Oper} (hm : P.follows .mixedOrders = true) (hB : Region.lexB .any l.toArray = true)
    (h : wpQuiet P l.toArray (Kp w) (fun a' => ∀ w', Kp w w' → Q .normal a' w') l a) : (Code.region id l.toArray true).wp P Q a w :=
  wp_region_quiet (C := Kp w) hm hB (Below.refl _ _).drew (by simpa using h)
theorem Kp.call {P : Program} {f : FuncId} {args : Array Value} {w0 w : World} {v : Value} (hC : Kp w0 w)
    (h : Calls P f args w fun e w' => e = .returned v ∧ Below w.heap.size w w') : Calls P f args w fun e w'' => e = .returned v ∧ Kp w0 w'' :=
  h.mono fun _ _ ⟨he, hb⟩ => ⟨he, hC.step hb⟩
theorem Kp.call_same {P : Program} {f : FuncId} {args : Array Value} {w0 w : World} {v : Value} (hC : Kp w0 w)
    (h : Calls P f args w fun e w' => e = .returned v ∧ w' = w) : Calls P f args w fun e w'' => e = .returned v ∧ Kp w0 w'' :=
  h.mono fun _ _ ⟨he, hb⟩ => ⟨he, hb ▸ hC⟩
end
/-- below block B, all but block sb is as it was -/
structure But (B sb : Nat) (w w' : World) : Prop where
  os : w'.os = w.os
  tape : w'.tape = w.tape
  output : w'.output = w.output
  size : w.heap.size ≤ w'.heap.size
  block : ∀ k, k < B → k ≠ sb → w'.heap[k]? = w.heap[k]?
section
variable {B sb : Nat} {a w w' : World}
theorem But.refl : But B sb w w := ⟨rfl, rfl, rfl, Nat.le_refl _, fun _ _ _ => rfl⟩
theorem But.trans (h : But B sb a w) (k : But B sb w w') : But B sb a w' :=
  ⟨k.os.trans h.os, k.tape.trans h.tape, k.output.trans h.output, Nat.le_trans h.size k.size, fun i hi hn => (k.block i hi hn).trans (h.block i hi hn)⟩
theorem But.mono {B' : Nat} (h : But B sb w w') (hB : B' ≤ B) : But B' sb w w' := ⟨h.os, h.tape, h.output, h.size, fun i hi hn => h.block i (Nat.lt_of_lt_of_le hi hB) hn⟩
theorem But.of_below (h : Below B w w') : But B sb w w' := ⟨h.os, h.tape, h.output, h.size, fun i hi _ => h.block i hi⟩
theorem But.below (h : But B sb a w) (k : Below B w w') : But B sb a w' := h.trans (But.of_below k)
theorem But.alloc (h : But B sb a w) (hB : B ≤ w.heap.size) (o : Obj) : But B sb a (w.alloc o) := h.below ((Below.refl _ _).alloc hB o)
theorem But.drew (h : But B sb a w) : But B sb a w.drew := h.below (Below.refl _ _).drew
theorem But.setCell (h : But B sb a w) {p : Addr} (hp : p.block = sb ∨ B ≤ p.block) (u : Value) : But B sb a (w.setCell p u) := by
  refine h.trans ⟨rfl, rfl, rfl, by simp [World.setCell], fun i hi hn => Below.heap_setCell w p u i ?_⟩
  rintro rfl
  rcases hp with hp | hp
  · exact hn hp
  · omega
theorem But.to_below (h : But B sb w w') (hs : B ≤ sb) : Below B w w' := ⟨h.os, h.tape, h.output, h.size, fun i hi => h.block i hi (by omega)⟩
theorem But.blk {g : Nat} {t : TypeId} {cs : Array Value} (h : But B sb w w') (hb : Blk w g t cs) (hg : g < B) (hn : g ≠ sb) : Blk w' g t cs := (h.block g hg hn).trans hb
theorem But.cell (h : But B sb w w') {p : Addr} (hp : p.block < B) (hn : p.block ≠ sb) : w'.cell? p = w.cell? p := World.cell?_of_block (h.block _ hp hn)
end
end Go.Proofs.Ytcainohglmgdpaa
