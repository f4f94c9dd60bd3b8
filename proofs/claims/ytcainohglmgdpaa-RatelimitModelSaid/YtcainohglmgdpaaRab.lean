/- Maps from texts to buckets: the datum, the list of buckets that it is; a limiter in memory. -/
import Derived.Test.YtcainohglmgdpaaRaa
import Derived.Maps.OwnSet
import Derived.Maps.OwnOps
import Derived.Maps.Range
import Derived.Maps.RangeWalk
import Derived.Sort.KeysCollected
import Derived.ProofKit
namespace Go.Proofs.Ytcainohglmgdpaa
open Go.RowKit Go.Maps Go.WideElems Go.WideMaps Go.Sort
theorem size_data (s : ByteArray) : s.data.toList.length = s.size := by cases s; rfl
def keyS (s : ByteArray) : Lit := .string s.data.toList
theorem keyS_inj {a b : ByteArray} (h : keyS a = keyS b) : a = b := by
  unfold keyS at h
  injection h with h
  exact ba_ext h
theorem keyS_key (s : ByteArray) : WideAt.IsKeyLit (keyS s) := by unfold keyS; first | trivial | exact ⟨_, rfl⟩ | simp [WideAt.IsKeyLit]
theorem keyS_same (a b : ByteArray) : (keyS a).sameKey (keyS b) = decide (a = b) := by
  by_cases e : a = b
  · subst e; rw [WideAt.sameKey_self (keyS_key a), decide_eq_true rfl]
  · rw [decide_eq_false e]
    exact Maps.sameKey_ne fun h => e (keyS_inj h)
/-- a value reads as itself -/
def Rid (v : Value) : Option (DataW Value × List MemPlace) := some (.held v, [])
def bV (x : Bk) : Value := .agg #[.int .i64 x.l, .int .i64 x.c, .int .i64 x.d]
/-- the datum is the buckets of L -/
structure MB (D : DataW Value) (L : List Bk) : Prop where
  t : Tidy D
  h : ∀ s, has D (keyS s) = hasB L s
  a : ∀ x ∈ L, ∀ z, D.atKey (keyS x.k) z = .held (bV x)
  n : Maps.size D = L.length
section
variable {D : DataW Value} {L : List Bk}
theorem MB.nil : MB (.map []) [] := ⟨tidy_empty, (fun _ => rfl), (fun x h => by cases h), rfl⟩
theorem MB.put (h : MB D L) (hs : strict L) (x : Bk) : MB (D.put (keyS x.k) (.held (bV x))) (putB x L) := by
  refine ⟨h.t.put (keyS_key _) _, fun s => ?_, fun y hy z => ?_, ?_⟩
  · rw [hasB_put hs]
    by_cases e : x.k = s
    · subst e
      rw [has_put_same h.t.isMap (keyS_key _)]; simp
    · rw [has_put_other (fun e2 => e (keyS_inj e2).symm), h.h, decide_eq_false e, Bool.or_false]
  · rcases (mem_putB hs).1 hy with rfl | hy
    · exact atKey_put_same h.t.isMap (keyS_key _) _ _
    · rw [atKey_put_other (fun e => hy.2 (keyS_inj e))]
      exact h.a y hy.1 z
  · rw [size_put h.t, h.h, h.n]
    cases hh : hasB L x.k
    · rw [putB_len_new hh]; rfl
    · rw [putB_len_has hh hs]; rfl
theorem MB.at (h : MB D L) (s : ByteArray) (z : Value) : D.atKey (keyS s) (.held z) = .held (match findB L s with | some x => bV x | none => z) := by
  cases hf : findB L s with
  | some x =>
    have hx := findB_mem hf
    rw [← hx.2]
    exact h.a x hx.1 _
  | none => exact atKey_of_not_has (by rw [h.h]; exact hasB_of_none hf) _
def zB : Bk := ⟨ByteArray.empty, 0, 0, 0⟩
def getB (o : Option Bk) : Bk := o.getD zB
theorem MB.get (h : MB D L) (s : ByteArray) : D.atKey (keyS s) (.held (bV zB)) = .held (bV (getB (findB L s))) := by
  rw [h.at]
  cases findB L s <;> rfl
theorem MB.del (h : MB D L) (hs : strict L) {x : Bk} (hx : x ∈ L) : MB (D.del (keyS x.k)) (L.filter fun y => !decide (y.k = x.k)) := by
  have hh : has D (keyS x.k) = true := by rw [h.h]; exact hasB_iff.2 ⟨x, hx, rfl⟩
  refine ⟨h.t.del _, fun s => ?_, fun y hy z => ?_, ?_⟩
  · by_cases e : s = x.k
    · subst e
      rw [has_del_same]
      symm
      rw [Bool.eq_false_iff]
      intro h2
      obtain ⟨y, hy, e⟩ := hasB_iff.1 h2
      have := (List.mem_filter.1 hy).2
      simp [e] at this
    · rw [has_del_other (fun e2 => e (keyS_inj e2)), h.h, Bool.eq_iff_iff, hasB_iff, hasB_iff]
      constructor
      · rintro ⟨y, hy, rfl⟩
        exact ⟨y, List.mem_filter.2 ⟨hy, by simp [e]⟩, rfl⟩
      · rintro ⟨y, hy, rfl⟩
        exact ⟨y, (List.mem_filter.1 hy).1, rfl⟩
  · have hy2 := List.mem_filter.1 hy
    rw [atKey_del_other (fun e => by have := keyS_inj e; simp [this] at hy2)]
    exact h.a y hy2.1 z
  · have h1 := size_del h.t (k := keyS x.k)
    rw [hh, h.n] at h1
    have h2 : ∀ L : List Bk, strict L → x ∈ L → (L.filter fun y => !decide (y.k = x.k)).length + 1 = L.length := by
      intro L
      induction L with
      | nil => intro _ hm; cases hm
      | cons y L ih =>
        intro hst hm
        rw [List.filter_cons]
        rcases List.mem_cons.1 hm with rfl | hm
        · rw [if_neg (by simp), List.length_cons]
          congr 1
          rw [List.filter_eq_self.2]
          intro z hz
          have := (ltK_ne (hst.cons.2 z hz)).symm
          simp [this]
        · have := ltK_ne (hst.cons.2 x hm)
          rw [if_pos (by simp [this]), List.length_cons, List.length_cons, ih hst.cons.1 hm]
    have := h2 L hs hx
    simp at h1
    omega
end
theorem tight {P : Program} {k : TypeId} {w : World} {b n : Nat} {D : DataW Value} (h : w.ownsMap P k Rid b n D) : w.ownsMap P k Rid b (Maps.size D) D := by
  obtain ⟨es, clock, hb, F, _, rfl⟩ := h
  refine ⟨es, clock, hb, F, ?_, rfl⟩
  simp [Maps.size, length_sorted]
/-- all that was there is as it was, but the blocks of F -/
structure Apart (F : Nat → Prop) (w w' : World) : Prop where
  os : w'.os = w.os
  tape : w'.tape = w.tape
  output : w'.output = w.output
  size : w.heap.size ≤ w'.heap.size
  block : ∀ k, k < w.heap.size → ¬ F k → w'.heap[k]? = w.heap[k]?
section
variable {F G : Nat → Prop} {a w w' : World}
theorem Apart.refl : Apart F w w := ⟨rfl, rfl, rfl, Nat.le_refl _, fun _ _ _ => rfl⟩
theorem Apart.trans (h : Apart F a w) (k : Apart G w w') (hG : ∀ i, G i → F i ∨ a.heap.size ≤ i) : Apart F a w' :=
  ⟨k.os.trans h.os, k.tape.trans h.tape, k.output.trans h.output, Nat.le_trans h.size k.size, fun i hi hn => (k.block i (Nat.lt_of_lt_of_le hi h.size) (fun hg => by rcases hG i hg with h' | h'; exact hn h'; omega)).trans (h.block i hi hn)⟩
theorem Apart.of (h : Below w.heap.size w w') : Apart F w w' := ⟨h.os, h.tape, h.output, h.size, fun i hi _ => h.block i hi⟩
theorem Apart.then (h : Apart F a w) (k : Below w.heap.size w w') : Apart F a w' := h.trans (G := fun _ => False) (Apart.of k) (fun _ h => h.elim)
theorem Apart.alloc (h : Apart F a w) (o : Obj) : Apart F a (w.alloc o) := h.then ((Below.refl _ _).alloc (Nat.le_refl _) o)
theorem Apart.drew (h : Apart F a w) : Apart F a w.drew := h.then (Below.refl _ _).drew
theorem Apart.grown (h : Apart F a w) {row : Option Nat} (hg : w.grownBy w' row) (hr : ∀ k, row = some k → F k ∨ a.heap.size ≤ k) : Apart F a w' :=
  h.trans (G := fun k => row = some k) ⟨hg.os, hg.tape, hg.output, hg.size, fun i hi hn => hg.block i hi (fun e => hn e.symm)⟩ hr
theorem Apart.setCell (h : Apart F a w) {p : Addr} (hp : F p.block ∨ a.heap.size ≤ p.block) (u : Value) : Apart F a (w.setCell p u) :=
  h.trans (G := fun k => k = p.block) ⟨rfl, rfl, rfl, by simp [World.setCell], fun i _ hn => Below.heap_setCell w p u i hn⟩ (fun i e => e ▸ hp)
theorem Apart.below {B : Nat} (h : Apart F w w') (hB : B ≤ w.heap.size) (hF : ∀ k, F k → B ≤ k) : Below B w w' := ⟨h.os, h.tape, h.output, h.size, fun i hi => h.block i (by omega) (fun hf => by have := hF i hf; omega)⟩
theorem Apart.more (h : Apart F w w') (hG : ∀ k, F k → G k) : Apart G w w' := ⟨h.os, h.tape, h.output, h.size, fun i hi hn => h.block i hi (fun hf => hn (hG i hf))⟩
theorem Apart.blk {g : Nat} {t : TypeId} {cs : Array Value} (h : Apart F w w') (hb : Blk w g t cs) (hn : ¬ F g) : Blk w' g t cs := (h.block g hb.lt hn).trans hb
theorem map_heap {P : Program} {k : TypeId} {R : Value → Option (DataW Value × List MemPlace)} {b n : Nat} {D : DataW Value} (h : w.ownsMap P k R b n D) (hb : w'.heap[b]? = w.heap[b]?) : w'.ownsMap P k R b n D := by
  obtain ⟨es, clock, he, rest⟩ := h
  exact ⟨es, clock, hb.trans he, rest⟩
theorem Apart.map {P : Program} {k : TypeId} {R : Value → Option (DataW Value × List MemPlace)} {b n : Nat} {D : DataW Value} (h : Apart F w w') (hm : w.ownsMap P k R b n D) (hn : ¬ F b) : w'.ownsMap P k R b n D := map_heap hm (h.block b hm.lt hn)
end
end Go.Proofs.Ytcainohglmgdpaa
