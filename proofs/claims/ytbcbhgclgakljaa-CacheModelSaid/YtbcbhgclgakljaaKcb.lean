/- The cache in memory: keys as keys of maps, links, rings, orders. -/
import Derived.Test.YtbcbhgclgakljaaKca
import Derived.Maps.OwnSet
import Derived.Maps.OwnOps
import Derived.Maps.Ext
import Derived.WideKeyPair
import Derived.WideKeyArr2
import Derived.WideKeyEntry
import Derived.ProofKit
namespace Go.Proofs.Ytbcbhgclgakljaa
open Go.RowKit Go.Maps Go.WideElems Go.WideMaps Go.ChangeShapes
theorem Try.own : ownKnob Try.prog.godebug = none := by kernel_rfl
theorem Try.laidOut : laidOutB Try.prog = true := by kernel_rfl
def W64 (z : Int) : Prop := -9223372036854775808 ≤ z ∧ z ≤ 9223372036854775807
theorem wf64 {z : Int} (h : W64 z) : (Lit.int .i64 z).wf = true := by
  show (decide (-9223372036854775808 ≤ z) && decide (z ≤ 9223372036854775807)) = true
  simp [h.1, h.2]
structure WK (k : K3) : Prop where
  a : W64 k.a
  b : W64 k.b
  c : W64 k.c
theorem WK.z : WK K3.z := ⟨⟨by decide, by decide⟩, ⟨by decide, by decide⟩, ⟨by decide, by decide⟩⟩
theorem sizes : ∃ m, Try.prog.types.size = m + 1 := ⟨Try.prog.types.size - 1, by
  have : 0 < Try.prog.types.size := of_decide_eq_true (by kernel_rfl)
  omega⟩
theorem arr3 : ArrKey Try.prog 84 3 3 := ⟨Try.underlying84, by kernel_rfl, by kernel_rfl, by kernel_rfl⟩
theorem law3 : WideMaps.KeyLaw Try.prog 84 := arr3.law
theorem keyed3 : Keyed Try.prog 84 := Keyed.of_law arr3.law
def keyV (k : K3) : Value := .agg #[.int .i64 k.a, .int .i64 k.b, .int .i64 k.c]
def klk (k : K3) : Lit := .string (keyBytes [.int .i64 k.a, .int .i64 k.b, .int .i64 k.c])
theorem keyOf3 {k : K3} (h : WK k) : keyOf Try.prog 84 (.agg #[.int .i64 k.a, .int .i64 k.b, .int .i64 k.c]) = some (klk k) := by
  have A := arr3
  have he := Try.underlying3
  have hkt := A.keyType sizes
  obtain ⟨m, hm⟩ := sizes
  unfold keyOf
  simp only [A.hu]
  rw [if_pos (by simp [hkt, Value.formed, A.hu, A.size]), hm]
  unfold Program.keyLits
  simp only [A.hu, Value.cells]
  rw [if_pos (by rw [A.size]; rfl), show List.range 3 = [0, 1, 2] from rfl, List.mapM_cons, List.mapM_cons, List.mapM_cons, List.mapM_nil]
  simp [A.one, Program.keyLits, he, wf64 h.a, wf64 h.b, wf64 h.c, klk]
theorem klk_inj {a b : K3} (ha : WK a) (hb : WK b) (h : klk a = klk b) : a = b := by
  have := keyed3.inj (keyOf3 ha) (h ▸ keyOf3 hb)
  cases a; cases b
  simpa using this
/-- a value reads as itself -/
def Rid (v : Value) : Option (DataW Value × List MemPlace) := some (.held v, [])
/-- the datum is the map from the keys of S to its links -/
structure MW (D : DataW Value) (S : List Lk) : Prop where
  t : Tidy D
  h : ∀ k, WK k → has D (klk k) = hasK (S.map Lk.en) k
  a : ∀ x ∈ S, ∀ z, D.atKey (klk x.k) z = .held (.pointer (some ⟨x.g, 0, none⟩))
  n : Maps.size D = S.length
section
variable {D : DataW Value} {S : List Lk}
theorem MW.nil : MW (.map []) [] := ⟨tidy_empty, (fun _ _ => rfl), (fun x h => by cases h), rfl⟩
theorem klk_key {k : K3} (h : WK k) : WideAt.IsKeyLit (klk k) := keyed3.key (keyOf3 h)
theorem keysK_map (S : List Lk) : keysK (S.map Lk.en) = S.map Lk.k := by unfold keysK; rw [List.map_map]; rfl
theorem MW.put (h : MW D S) {x : Lk} (hx : hasK (S.map Lk.en) x.k = false) (wx : WK x.k) (wk : ∀ y ∈ S, WK y.k) : MW (D.put (klk x.k) (.held (.pointer (some ⟨x.g, 0, none⟩)))) (x :: S) := by
  refine ⟨h.t.put (klk_key wx) _, fun k hk => ?_, fun y hy z => ?_, ?_⟩
  · by_cases e : k = x.k
    · subst e
      rw [has_put_same h.t.isMap (klk_key wx)]
      unfold hasK; simp [Lk.en]
    · rw [has_put_other (fun e2 => e (klk_inj hk wx e2)), h.h k hk]
      have : ¬ x.k = k := fun e2 => e e2.symm
      unfold hasK; simp [Lk.en, this]
  · rcases List.mem_cons.1 hy with rfl | hy
    · exact atKey_put_same h.t.isMap (klk_key wx) _ _
    · have hne : klk y.k ≠ klk x.k := by
        intro e
        have e2 := klk_inj (wk y hy) wx e
        have : x.k ∈ keysK (S.map Lk.en) := by rw [keysK_map, ← e2]; exact List.mem_map_of_mem hy
        rw [hasK_iff.2 this] at hx
        cases hx
      rw [atKey_put_other hne]
      exact h.a y hy z
  · rw [size_put h.t, h.h _ wx, hx, h.n]; simp
theorem MW.del {x : Lk} {S1 S2 : List Lk} (h : MW D (S1 ++ x :: S2)) (hn : (keysK ((S1 ++ x :: S2).map Lk.en)).Nodup) (wk : ∀ y ∈ S1 ++ x :: S2, WK y.k) : MW (D.del (klk x.k)) (S1 ++ S2) := by
  have wx := wk x (by simp)
  rw [keysK_map, List.map_append, List.map_cons] at hn
  have hn0 := List.nodup_append.1 hn
  have hn1 : x.k ∉ S1.map Lk.k := fun hm => hn0.2.2 _ hm x.k (by simp) rfl
  have hn2 : x.k ∉ S2.map Lk.k := (List.nodup_cons.1 hn0.2.1).1
  have hno : x.k ∉ keysK ((S1 ++ S2).map Lk.en) := by
    rw [keysK_map, List.map_append, List.mem_append]
    exact fun e => e.elim hn1 hn2
  refine ⟨h.t.del _, fun k hk => ?_, fun y hy z => ?_, ?_⟩
  · by_cases e : k = x.k
    · subst e
      rw [has_del_same]
      cases e : hasK ((S1 ++ S2).map Lk.en) x.k
      · rfl
      · exact absurd (hasK_iff.1 e) hno
    · rw [has_del_other (fun e2 => e (klk_inj hk wx e2)), h.h k hk]
      have : ¬ x.k = k := fun e2 => e e2.symm
      unfold hasK; simp [Lk.en, this]
  · have hym : y ∈ S1 ++ x :: S2 := by
      rcases List.mem_append.1 hy with hy | hy
      · exact List.mem_append_left _ hy
      · exact List.mem_append_right _ (List.mem_cons_of_mem _ hy)
    rw [atKey_del_other, h.a y hym z]
    intro e
    have e2 := klk_inj (wk y hym) wx e
    refine hno ?_
    rw [keysK_map, ← e2]
    exact List.mem_map_of_mem hy
  · have := size_del h.t (k := klk x.k)
    have hh : hasK ((S1 ++ x :: S2).map Lk.en) x.k = true := by unfold hasK; simp [Lk.en]
    rw [h.h _ wx, hh, h.n] at this
    simp at this ⊢
    omega
end
/-! links -/
def cellsL (x : Lk) (N V : Nat → Nat) : Array Value := #[.int .i64 x.k.a, .int .i64 x.k.b, .int .i64 x.k.c, .int .u32 x.d.al, .int .u32 x.d.aa, .int .u32 x.d.ad, .bool x.d.pm, .int .i64 x.d.sq, .pointer (some ⟨N x.g, 0, none⟩), .pointer (some ⟨V x.g, 0, none⟩)]
def LB (w : World) (S : List Lk) (N V : Nat → Nat) : Prop := ∀ x ∈ S, Blk w x.g 107 (cellsL x N V)
/-- all that was there is as it was, but the blocks of F -/
structure Apart (F : Nat → Prop) (w w' : World) : Prop where
  os : w'.os = w.os
  tape : w'.tape = w.tape
  output : w'.output = w.output
  size : w.heap.size ≤ w'.heap.size
  block : ∀ k, k < w.heap.size → ¬ F k → w'.heap[k]? = w.heap[k]?
section
variable {F G : Nat → Prop} {a w w' : World}
theorem Apart.refl : Apart F w w := ⟨rfl, rfl, rfl, Nat.le_refl _, fun _ _ _ => rfl⟩
theorem Apart.trans (h : Apart F a w) (k : Apart G w w') (hG : ∀ i, G i → F i ∨ a.heap.size ≤ i) : Apart F a w' :=
  ⟨k.os.trans h.os, k.tape.trans h.tape, k.output.trans h.output, Nat.le_trans h.size k.size, fun i hi hn => (k.block i (Nat.lt_of_lt_of_le hi h.size) (fun hg => by rcases hG i hg with h' | h'; exact hn h'; omega)).trans (h.block i hi hn)⟩
theorem Apart.of (h : Below w.heap.size w w') : Apart F w w' := ⟨h.os, h.tape, h.output, h.size, fun i hi _ => h.block i hi⟩
theorem Apart.then (h : Apart F a w) (k : Below w.heap.size w w') : Apart F a w' := h.trans (G := fun _ => False) (Apart.of k) (fun _ h => h.elim)
theorem Apart.alloc (h : Apart F a w) (o : Obj) : Apart F a (w.alloc o) := h.then ((Below.refl _ _).alloc (Nat.le_refl _) o)
theorem Apart.drew (h : Apart F a w) : Apart F a w.drew := h.then (Below.refl _ _).drew
theorem Apart.grown (h : Apart F a w) {row : Option Nat} (hg : w.grownBy w' row) (hr : ∀ k, row = some k → F k ∨ a.heap.size ≤ k) : Apart F a w' :=
  h.trans (G := fun k => row = some k) ⟨hg.os, hg.tape, hg.output, hg.size, fun i hi hn => hg.block i hi (fun e => hn e.symm)⟩ hr
theorem Apart.setCell (h : Apart F a w) {p : Addr} (hp : F p.block ∨ a.heap.size ≤ p.block) (u : Value) : Apart F a (w.setCell p u) :=
  h.trans (G := fun k => k = p.block) ⟨rfl, rfl, rfl, by simp [World.setCell], fun i _ hn => Below.heap_setCell w p u i hn⟩ (fun i e => e ▸ hp)
theorem Apart.below {B : Nat} (h : Apart F w w') (hB : B ≤ w.heap.size) (hF : ∀ k, F k → B ≤ k) : Below B w w' := ⟨h.os, h.tape, h.output, h.size, fun i hi => h.block i (by omega) (fun hf => by have := hF i hf; omega)⟩
theorem Apart.more (h : Apart F w w') (hG : ∀ k, F k → G k) : Apart G w w' := ⟨h.os, h.tape, h.output, h.size, fun i hi hn => h.block i hi (fun hf => hn (hG i hf))⟩
theorem Apart.blk {g : Nat} {t : TypeId} {cs : Array Value} (h : Apart F w w') (hb : Blk w g t cs) (hn : ¬ F g) : Blk w' g t cs := (h.block g hb.lt hn).trans hb
theorem map_heap {k : TypeId} {R : Value → Option (DataW Value × List MemPlace)} {b n : Nat} {D : DataW Value} (h : w.ownsMap Try.prog k R b n D) (hb : w'.heap[b]? = w.heap[b]?) : w'.ownsMap Try.prog k R b n D := by
  obtain ⟨es, clock, he, rest⟩ := h
  exact ⟨es, clock, hb.trans he, rest⟩
theorem Apart.map {k : TypeId} {R : Value → Option (DataW Value × List MemPlace)} {b n : Nat} {D : DataW Value} (h : Apart F w w') (hm : w.ownsMap Try.prog k R b n D) (hn : ¬ F b) : w'.ownsMap Try.prog k R b n D := map_heap hm (h.block b hm.lt hn)
end
section
variable {w w' : World} {S S' : List Lk} {N V : Nat → Nat} {F : Nat → Prop}
theorem LB.sub (h : LB w S N V) (hs : ∀ x ∈ S', x ∈ S) : LB w S' N V := fun x hx => h x (hs x hx)
theorem LB.apart (h : LB w S N V) (hb : Apart F w w') (hn : ∀ x ∈ S, ¬ F x.g) : LB w' S N V := fun x hx => hb.blk (h x hx) (hn x hx)
theorem LB.keep (h : LB w S N V) (hb : Below w.heap.size w w') : LB w' S N V := fun x hx => (h x hx).keep hb
theorem LB.drew (h : LB w S N V) : LB w.drew S N V := h
/-- a store of a next -/
theorem LB.setN (h : LB w S N V) (p n : Nat) : LB (w.setCell ⟨p, 8, none⟩ (.pointer (some ⟨n, 0, none⟩))) S (updN N p n) V := by
  intro x hx
  by_cases e : x.g = p
  · have := (h x hx).set 8 (.pointer (some ⟨n, 0, none⟩))
    rw [← e]
    have e2 : (cellsL x N V).setIfInBounds 8 (.pointer (some ⟨n, 0, none⟩)) = cellsL x (updN N x.g n) V := by unfold cellsL; rw [updN_same]; rfl
    rwa [e2] at this
  · have := (h x hx).far (p := ⟨p, 8, none⟩) e (.pointer (some ⟨n, 0, none⟩))
    have e2 : cellsL x N V = cellsL x (updN N p n) V := by unfold cellsL; rw [updN_ne e]
    rwa [e2] at this
theorem LB.setV (h : LB w S N V) (p n : Nat) : LB (w.setCell ⟨p, 9, none⟩ (.pointer (some ⟨n, 0, none⟩))) S N (updN V p n) := by
  intro x hx
  by_cases e : x.g = p
  · have := (h x hx).set 9 (.pointer (some ⟨n, 0, none⟩))
    rw [← e]
    have e2 : (cellsL x N V).setIfInBounds 9 (.pointer (some ⟨n, 0, none⟩)) = cellsL x N (updN V x.g n) := by unfold cellsL; rw [updN_same]; rfl
    rwa [e2] at this
  · have := (h x hx).far (p := ⟨p, 9, none⟩) e (.pointer (some ⟨n, 0, none⟩))
    have e2 : cellsL x N V = cellsL x N (updN V p n) := by unfold cellsL; rw [updN_ne e]
    rwa [e2] at this
theorem LB.cells (h : LB w S N V) {x : Lk} (hx : x ∈ S) :
    w.cell? ⟨x.g, 0, none⟩ = some (.int .i64 x.k.a) ∧ w.cell? ⟨x.g, 1, none⟩ = some (.int .i64 x.k.b) ∧ w.cell? ⟨x.g, 2, none⟩ = some (.int .i64 x.k.c) ∧
    w.cell? ⟨x.g, 3, none⟩ = some (.int .u32 x.d.al) ∧ w.cell? ⟨x.g, 4, none⟩ = some (.int .u32 x.d.aa) ∧ w.cell? ⟨x.g, 5, none⟩ = some (.int .u32 x.d.ad) ∧ w.cell? ⟨x.g, 6, none⟩ = some (.bool x.d.pm) ∧ w.cell? ⟨x.g, 7, none⟩ = some (.int .i64 x.d.sq) ∧
    w.cell? ⟨x.g, 8, none⟩ = some (.pointer (some ⟨N x.g, 0, none⟩)) ∧ w.cell? ⟨x.g, 9, none⟩ = some (.pointer (some ⟨V x.g, 0, none⟩)) :=
  ⟨(h x hx).cell 0, (h x hx).cell 1, (h x hx).cell 2, (h x hx).cell 3, (h x hx).cell 4, (h x hx).cell 5, (h x hx).cell 6, (h x hx).cell 7, (h x hx).cell 8, (h x hx).cell 9⟩
theorem LB.frozen (h : LB w S N V) {x : Lk} (hx : x ∈ S) (i : Nat) : w.frozen? ⟨x.g, i, none⟩ = false := (h x hx).frozen i
end
/-- the ring's own link -/
def hd (r : Nat) : Lk := ⟨r, K3.z, Dc.z⟩
/-- an order in memory -/
structure Ord (w : World) (o r m : Nat) (S : List Lk) : Prop where
  blk : Blk w o 110 #[.map (some m), .pointer (some ⟨r, 0, none⟩)]
  ring : ∃ N V, LB w (hd r :: S) N V ∧ Chn N V (r :: S.map Lk.g ++ [r])
  nd : (r :: S.map Lk.g).Nodup
  kd : (keysK (S.map Lk.en)).Nodup
  wk : ∀ x ∈ S, WK x.k
  mp : ∃ D, w.ownsMap Try.prog 84 Rid m S.length D ∧ MW D S
/-- the blocks of an order -/
def Of (o r m : Nat) (S : List Lk) (k : Nat) : Prop := k = o ∨ k = r ∨ k = m ∨ ∃ x ∈ S, x.g = k
section
variable {w w' : World} {o r m : Nat} {S : List Lk} {F : Nat → Prop}
theorem Ord.lt (h : Ord w o r m S) : ∀ k, Of o r m S k → k < w.heap.size := by
  obtain ⟨N, V, hL, _⟩ := h.ring
  obtain ⟨D, hm, _⟩ := h.mp
  rintro k (rfl | rfl | rfl | ⟨x, hx, rfl⟩)
  · exact h.blk.lt
  · exact (hL (hd k) (by simp)).lt
  · exact hm.lt
  · exact (hL x (by simp [hx])).lt
theorem Ord.apart (h : Ord w o r m S) (hb : Apart F w w') (hF : ∀ k, Of o r m S k → ¬ F k) : Ord w' o r m S := by
  obtain ⟨N, V, hL, hc⟩ := h.ring
  obtain ⟨D, hm, hD⟩ := h.mp
  refine ⟨hb.blk h.blk (hF o (.inl rfl)), ⟨N, V, hL.apart hb fun x hx => hF _ ?_, hc⟩, h.nd, h.kd, h.wk, D, hb.map hm (hF m (.inr (.inr (.inl rfl)))), hD⟩
  rcases List.mem_cons.1 hx with rfl | hx
  · exact .inr (.inl rfl)
  · exact .inr (.inr (.inr ⟨x, hx, rfl⟩))
theorem Ord.keep (h : Ord w o r m S) (hb : Below w.heap.size w w') : Ord w' o r m S := h.apart (F := fun _ => False) (Apart.of hb) (fun _ _ h => h)
/-- blocks of different types are different -/
theorem Blk.ne {g g' : Nat} {t t' : TypeId} {cs cs' : Array Value} (h : Blk w g t cs) (h' : Blk w g' t' cs') (ht : t ≠ t') : g ≠ g' := by
  rintro rfl
  unfold Blk at h h'
  rw [h] at h'
  simp at h'
  exact ht h'.2
theorem Blk.ne_map {g b n : Nat} {t : TypeId} {cs : Array Value} {k : TypeId} {R : Value → Option (DataW Value × List MemPlace)} {D : DataW Value} (h : Blk w g t cs) (h' : w.ownsMap Try.prog k R b n D) : g ≠ b := by
  rintro rfl
  obtain ⟨es, clock, he, _⟩ := h'
  unfold Blk at h
  rw [h] at he
  simp at he
end
end Go.Proofs.Ytbcbhgclgakljaa
