/- Mm Ph Qt Ava Avb Avc Avd Awa Bsa Bsb Bse Bsf -/
import Derived.Test.YtjikbffnhfoikaaRows
import Derived.WalkKit
import Derived.WalkSpells
import Derived.WalkLawsBesides
import Derived.Deep.QuietTactic
import Derived.BigQuiet
import Derived.Deep.RegionWith
import Derived.Deep.RegionHeld3
import Derived.Lib.Hide
import Derived.WalkSmall
import Derived.StillTail
import Derived.Deep.Quiet
import Derived.LoopTactic
import Derived.Sort.Grow
import Derived.Deep.LoopGhost
import Derived.Deep.AppendLies
import Derived.Maps.AppendAt
import Derived.Laws.CopyOwn
import Derived.Laws.BitsAllLaws
/- Memory, over any program: a block that is known whole; a class of worlds for regions that draw their order; all but one block as it was. -/
namespace Go.Proofs.Ytjikbffnhfoikaa
open Go.RowKit
/-- block g is just the cells cs of type t -/
def Blk (w : World) (g : Nat) (t : TypeId) (cs : Array Value) : Prop := w.heap[g]? = some (.cells cs t (0, 0))
section
variable {w w' : World} {g : Nat} {t : TypeId} {cs : Array Value}
theorem Blk.cell (h : Blk w g t cs) (i : Nat) : w.cell? ⟨g, i, none⟩ = cs[i]? := cell_of_row w g i cs t (0, 0) h
theorem Blk.frozen (h : Blk w g t cs) (i : Nat) : w.frozen? ⟨g, i, none⟩ = false := by
  unfold Blk at h
  simp [World.frozen?, h]
theorem Blk.lt (h : Blk w g t cs) : g < w.heap.size := by
  rcases Nat.lt_or_ge g w.heap.size with hlt | hge
  · exact hlt
  · unfold Blk at h; rw [Array.getElem?_eq_none hge] at h; cases h
theorem Blk.new (w : World) (t : TypeId) (cs : Array Value) : Blk (w.alloc (.cells cs t)) w.heap.size t cs := heap_alloc_new w _
theorem Blk.here (hg : g = w.heap.size) : Blk (w.alloc (.cells cs t)) g t cs := hg ▸ Blk.new w t cs
theorem Blk.alloc (h : Blk w g t cs) (o : Obj) : Blk (w.alloc o) g t cs := (Below.heap_alloc w o g h.lt).trans h
theorem Blk.drew (h : Blk w g t cs) : Blk w.drew g t cs := h
theorem Blk.drewN (h : Blk w g t cs) (n : Nat) : Blk (w.drewN n) g t cs := h
theorem Blk.below {B : Nat} (h : Blk w g t cs) (hb : Below B w w') (hg : g < B) : Blk w' g t cs := (hb.block g hg).trans h
theorem Blk.keep (h : Blk w g t cs) (hb : Below w.heap.size w w') : Blk w' g t cs := h.below hb h.lt
theorem Blk.set (h : Blk w g t cs) (i : Nat) (u : Value) : Blk (w.setCell ⟨g, i, none⟩ u) g t (cs.setIfInBounds i u) := by
  unfold Blk at h ⊢
  simp [World.setCell, Array.getElem?_modify, h]
theorem Blk.far (h : Blk w g t cs) {p : Addr} (hp : g ≠ p.block) (u : Value) : Blk (w.setCell p u) g t cs := (Below.heap_setCell w p u g hp).trans h
end
/-- the class: all that was there in W is as it was -/
def Kp (W w : World) : Prop := Below W.heap.size W w
section
variable {W w w' : World}
theorem Kp.rfl' : Kp W W := Below.refl _ _
theorem Kp.drew (h : Kp W w) : Kp W w.drew := Below.drew h
theorem Kp.alloc (h : Kp W w) (o : Obj) : Kp W (w.alloc o) := Below.alloc h (Below.size h) o
theorem Kp.step (h : Kp W w) (hb : Below w.heap.size w w') : Kp W w' := Below.trans h (hb.mono (Below.size h))
theorem Kp.size (h : Kp W w) : W.heap.size ≤ w.heap.size := Below.size h
theorem Kp.blk (hC : Kp W w) {g : Nat} {t : TypeId} {cs : Array Value} (h : Blk W g t cs) : Blk w g t cs := h.below hC h.lt
theorem Kp.onto {B : Nat} {w0 : World} (h0 : Below B w0 W) (h : Kp W w) (hB : B ≤ W.heap.size) : Below B w0 w := h0.trans (Below.mono h hB)
theorem wp_region_kp {P : Program} {id : Nat} {Q : Exit → Act → World → Prop} {a : Act} {w : World} {l : List Oper} (hm : P.follows .mixedOrders = true) (hB : Region.lexB .any l.toArray = true)
    (h : wpQuiet P l.toArray (Kp w) (fun a' => ∀ w', Kp w w' → Q .normal a' w') l a) : (Code.region id l.toArray true).wp P Q a w :=
  wp_region_quiet (C := Kp w) hm hB (Below.refl _ _).drew (by simpa using h)
theorem Kp.call {P : Program} {f : FuncId} {args : Array Value} {w0 w : World} {v : Value} (hC : Kp w0 w)
    (h : Calls P f args w fun e w' => e = .returned v ∧ Below w.heap.size w w') : Calls P f args w fun e w'' => e = .returned v ∧ Kp w0 w'' :=
  h.mono fun _ _ ⟨he, hb⟩ => ⟨he, hC.step hb⟩
theorem Kp.call_same {P : Program} {f : FuncId} {args : Array Value} {w0 w : World} {v : Value} (hC : Kp w0 w)
    (h : Calls P f args w fun e w' => e = .returned v ∧ w' = w) : Calls P f args w fun e w'' => e = .returned v ∧ Kp w0 w'' :=
  h.mono fun _ _ ⟨he, hb⟩ => ⟨he, hb ▸ hC⟩
end
/-- below block B, all but block sb is as it was -/
structure But (B sb : Nat) (w w' : World) : Prop where
  os : w'.os = w.os
  tape : w'.tape = w.tape
  output : w'.output = w.output
  size : w.heap.size ≤ w'.heap.size
  block : ∀ k, k < B → k ≠ sb → w'.heap[k]? = w.heap[k]?
section
variable {B sb : Nat} {a w w' : World}
theorem But.refl : But B sb w w := ⟨rfl, rfl, rfl, Nat.le_refl _, fun _ _ _ => rfl⟩
theorem But.trans (h : But B sb a w) (k : But B sb w w') : But B sb a w' :=
  ⟨k.os.trans h.os, k.tape.trans h.tape, k.output.trans h.output, Nat.le_trans h.size k.size, fun i hi hn => (k.block i hi hn).trans (h.block i hi hn)⟩
theorem But.mono {B' : Nat} (h : But B sb w w') (hB : B' ≤ B) : But B' sb w w' := ⟨h.os, h.tape, h.output, h.size, fun i hi hn => h.block i (Nat.lt_of_lt_of_le hi hB) hn⟩
theorem But.of_below (h : Below B w w') : But B sb w w' := ⟨h.os, h.tape, h.output, h.size, fun i hi _ => h.block i hi⟩
theorem But.below (h : But B sb a w) (k : Below B w w') : But B sb a w' := h.trans (But.of_below k)
theorem But.alloc (h : But B sb a w) (hB : B ≤ w.heap.size) (o : Obj) : But B sb a (w.alloc o) := h.below ((Below.refl _ _).alloc hB o)
theorem But.drew (h : But B sb a w) : But B sb a w.drew := h.below (Below.refl _ _).drew
theorem But.setCell (h : But B sb a w) {p : Addr} (hp : p.block = sb ∨ B ≤ p.block) (u : Value) : But B sb a (w.setCell p u) := by
  refine h.trans ⟨rfl, rfl, rfl, by simp [World.setCell], fun i hi hn => Below.heap_setCell w p u i ?_⟩
  rintro rfl
  rcases hp with hp | hp
  · exact hn hp
  · omega
theorem But.to_below (h : But B sb w w') (hs : B ≤ sb) : Below B w w' := ⟨h.os, h.tape, h.output, h.size, fun i hi => h.block i hi (by omega)⟩
theorem But.blk {g : Nat} {t : TypeId} {cs : Array Value} (h : But B sb w w') (hb : Blk w g t cs) (hg : g < B) (hn : g ≠ sb) : Blk w' g t cs := (h.block g hg hn).trans hb
theorem But.cell (h : But B sb w w') {p : Addr} (hp : p.block < B) (hn : p.block ≠ sb) : w'.cell? p = w.cell? p := World.cell?_of_block (h.block _ hp hn)
end
end Go.Proofs.Ytjikbffnhfoikaa
/- A region that draws its order, whose operations may make memory: what each operation yields is told by a property that stands while memory grows; each operation is run once, from the properties of those that it waits for; behind the region all properties hold, whatever the order was. -/
namespace Go.Proofs.Ytjikbffnhfoikaa
open Go.RowKit Go
section
variable {P : Program} {ops : Array Oper} {n : Nat} {W : World} {a0 : Act} {Φ : Nat → Value → World → Prop} {Q : Exit → Act → World → Prop}
/-- what an operation's run leaves: a value with the property, and all that was there as it was -/
def GivesR (P : Program) (w : World) (φ : Value → World → Prop) : Result Next → Prop
  | .ok (.value u) w' => Below w.heap.size w w' ∧ φ u w'
  | .ok .skip w' => Below w.heap.size w w' ∧ φ undef w'
  | .ok (.enter f args) w' => w' = w ∧ Calls P f args w fun e w'' => ∃ v, e = .returned v ∧ Below w.heap.size w w'' ∧ φ v w''
  | _ => False
def Gives (P : Program) (o : Oper) (A : Act) (w : World) (φ : Value → World → Prop) : Prop := GivesR P w φ ((execOp A.eval o).run P w)
theorem Gives.wp {o : Oper} {a : Act} {w : World} {φ : Value → World → Prop} {K : Act → World → Prop} (h : Gives P o a w φ) (hk : ∀ u w', Below w.heap.size w w' → φ u w' → K (a.put o.dst u) w') : o.wp P a w K Q := by
  unfold Gives at h
  unfold Oper.wp
  generalize (execOp a.eval o).run P w = r at *
  cases r with
  | ok nx w' =>
    cases nx <;> simp only [GivesR] at h <;> simp only [Oper.upon]
    case value u => exact hk _ _ h.1 h.2
    case skip => exact hk _ _ h.1 h.2
    case enter f args =>
      obtain ⟨e1, hc⟩ := h
      rw [e1]
      exact hc.mono fun e w'' ⟨v, he, hb, hv⟩ => by subst he; exact hk _ _ hb hv
  | halt x w' => simp only [GivesR] at h
/-- which operation of the head writes a slot -/
def srcOf (ops : Array Oper) (n : Nat) (t : Nat) : Option Nat := (List.range n).find? fun j => match ops[j]? with | some o => o.dst == some t | none => false
def waitsOn (o : Oper) (j : Nat) : Bool := o.after.any fun e => Region.binds .any e && e.on == j
/-- what is known of a slot when an operation runs -/
def factAt (ops : Array Oper) (n : Nat) (Φ : Nat → Value → World → Prop) (a0 : Act) (o : Oper) (A : Act) (w : World) (t : Nat) : Prop :=
  match srcOf ops n t with
  | none => A.eval (.tmp t) = a0.eval (.tmp t)
  | some j => waitsOn o j = true → Φ j (A.eval (.tmp t)) w
/-- what is known of a slot behind the head -/
def factEnd (ops : Array Oper) (n : Nat) (Φ : Nat → Value → World → Prop) (a0 : Act) (A : Act) (w : World) (t : Nat) : Prop :=
  match srcOf ops n t with
  | none => A.eval (.tmp t) = a0.eval (.tmp t)
  | some j => Φ j (A.eval (.tmp t)) w
def phiB (ops : Array Oper) (n N : Nat) : Bool :=
  (List.range n).all fun i => match ops[i]? with
  | some o => (o.after.all fun e => !Region.binds .any e || decide (e.on < i)) && (match o.dst with | some t => decide (t < N) && (srcOf ops n t == some i) | none => true) &&
      (match o.guard with | none => true | some (j, _) => decide (j < n) && waitsOn o j && (match ops[j]? with | some oj => oj.dst.isSome | none => false))
  | none => false
/-- what is to be shown of an operation -/
def obOf (P : Program) (ops : Array Oper) (n : Nat) (W : World) (a0 : Act) (Φ : Nat → Value → World → Prop) (i : Nat) (o : Oper) : Prop :=
  (match o.guard with | none => True | some (j, b) => ∀ v w, Φ j v w → v = .bool b) ∧ ∀ A w, Kp W w → (∀ t, factAt ops n Φ a0 o A w t) → Gives P o A w (Φ i)
structure PhInv (ops : Array Oper) (n : Nat) (W : World) (a0 : Act) (Φ : Nat → Value → World → Prop) (listed : Array Bool) (a : Act) (w : World) : Prop where
  kp : Kp W w
  size : a.tmps.size = a0.tmps.size
  defers : a.defers = a0.defers
  out : ∀ t, srcOf ops n t = none → a.eval (.tmp t) = a0.eval (.tmp t)
  phi : ∀ j oj t, j < n → ops[j]? = some oj → oj.dst = some t → listed.getD j false = true → Φ j (a.eval (.tmp t)) w
def cntU (n : Nat) (listed : Array Bool) : Nat := (List.range n).countP fun i => !listed.getD i true
theorem cnt_step (p q : Nat → Bool) (i : Nat) (hp : p i = true) (hq : q i = false) (h : ∀ j, j ≠ i → q j = p j) : ∀ N, i < N → (List.range N).countP q + 1 = (List.range N).countP p
  | 0, hi => absurd hi (by omega)
  | N + 1, hi => by
    rw [List.range_succ, List.countP_append, List.countP_append, List.countP_singleton, List.countP_singleton]
    by_cases e : i = N
    · subst e
      rw [hp, hq]
      have : (List.range i).countP q = (List.range i).countP p := List.countP_congr fun j hj => by
        rw [h j (by have := List.mem_range.1 hj; omega)]
      simp [this]
    · have ih := cnt_step p q i hp hq h N (by omega)
      rw [h N (fun e' => e e'.symm)]
      omega
theorem least {p : Nat → Prop} : ∀ (k : Nat), p k → ∃ i, i ≤ k ∧ p i ∧ ∀ j, j < i → ¬ p j := fun k => by
  induction k using Nat.strongRecOn with
  | _ k ih =>
    intro hk
    by_cases h : ∃ j, j < k ∧ p j
    · obtain ⟨j, hj, hpj⟩ := h
      obtain ⟨i, hi, hpi, hm⟩ := ih j hj hpj
      exact ⟨i, by omega, hpi, hm⟩
    · exact ⟨k, Nat.le_refl _, hk, fun j hj hpj => h ⟨j, hj, hpj⟩⟩
theorem phiB_at {N i : Nat} (h : phiB ops n N = true) (hi : i < n) : ∃ o, ops[i]? = some o ∧ (∀ e ∈ o.after, Region.binds .any e = true → e.on < i) ∧ (∀ t, o.dst = some t → t < N ∧ srcOf ops n t = some i) ∧ (∀ j b, o.guard = some (j, b) → j < n ∧ waitsOn o j = true ∧ ∃ oj t, ops[j]? = some oj ∧ oj.dst = some t) := by
  have h1 := List.all_eq_true.1 h i (List.mem_range.2 hi)
  cases ho : ops[i]? with
  | none => rw [ho] at h1; cases h1
  | some o =>
    rw [ho] at h1
    simp only [Bool.and_eq_true] at h1
    obtain ⟨⟨h2, h3⟩, h4⟩ := h1
    refine ⟨o, rfl, fun e he hb => ?_, fun t ht => ?_, fun j b hg => ?_⟩
    · have := Array.all_eq_true'.1 h2 e he
      simpa [hb] using this
    · rw [ht] at h3
      simpa using h3
    · rw [hg] at h4
      simp only [Bool.and_eq_true, decide_eq_true_eq] at h4
      obtain ⟨⟨h5, h6⟩, h7⟩ := h4
      refine ⟨h5, h6, ?_⟩
      cases hj : ops[j]? with
      | none => rw [hj] at h7; cases h7
      | some oj =>
        rw [hj] at h7
        exact ⟨oj, oj.dst.get h7, rfl, by simp⟩
theorem waitsOn_spec {o : Oper} {j : Nat} (h : waitsOn o j = true) : ∃ e ∈ o.after, Region.binds .any e = true ∧ e.on = j := by
  obtain ⟨e, he, hb⟩ := Array.any_eq_true'.1 h
  simp only [Bool.and_eq_true, beq_iff_eq] at hb
  exact ⟨e, he, hb.1, hb.2⟩
theorem srcOf_some {t j : Nat} (h : srcOf ops n t = some j) : j < n ∧ ∃ o, ops[j]? = some o ∧ o.dst = some t := by
  unfold srcOf at h
  have h1 := List.mem_of_find?_eq_some h
  have h2 := List.find?_some h
  refine ⟨List.mem_range.1 h1, ?_⟩
  cases ho : ops[j]? with
  | none => rw [ho] at h2; cases h2
  | some o => rw [ho] at h2; exact ⟨o, rfl, by simpa using h2⟩
theorem eval_same {a : Act} {t : Nat} {v : Value} (h : t < a.tmps.size) : (a.put (some t) v).eval (.tmp t) = v := by
  simp [Act.eval, Act.put, h]
theorem put_size (a : Act) (d : Option Tmp) (v : Value) : (a.put d v).tmps.size = a.tmps.size := by
  cases d <;> simp [Act.put]
theorem put_def (a : Act) (d : Option Tmp) (v : Value) : (a.put d v).defers = a.defers := by
  cases d <;> rfl
theorem phi_head {g : Nat} (hB : phiB ops n a0.tmps.size = true) (hst : ∀ i v w w', Φ i v w → Below w.heap.size w w' → Φ i v w')
    (ob : ∀ i o, i < n → ops[i]? = some o → obOf P ops n W a0 Φ i o)
    (hready : ∀ listed, HeadInv .any ops n listed → (∃ i, i < n ∧ listed.getD i true = false) → ∀ t, n ≤ t → t ∉ Region.ready .any ops listed)
    (leaf : ∀ listed a w, PhInv ops n W a0 Φ listed a w → HeadInv .any ops n listed → (∀ i, i < n → listed.getD i true = true) → wpAny P .any ops Q g listed a w) :
    ∀ (f : Nat) (listed : Array Bool) (a : Act) (w : World), HeadInv .any ops n listed → PhInv ops n W a0 Φ listed a w → cntU n listed = f → wpAny P .any ops Q (f + g) listed a w := by
  intro f
  induction f with
  | zero =>
    intro listed a w hi hv hc
    rw [Nat.zero_add]
    refine leaf listed a w hv hi fun i hin => ?_
    have := List.countP_eq_zero.1 hc i (List.mem_range.2 hin)
    simpa using this
  | succ f ih =>
    intro listed a w hi hv hc
    have hex : ∃ i, i < n ∧ listed.getD i true = false := by
      have hpos : 0 < cntU n listed := by omega
      obtain ⟨i, him, hib⟩ := List.countP_pos_iff.1 hpos
      exact ⟨i, List.mem_range.1 him, by simpa using hib⟩
    have hr := hready listed hi hex
    rw [show f + 1 + g = (f + g) + 1 by omega]
    refine ⟨fun h0 => ?_, fun i him => ?_⟩
    · obtain ⟨k, hkn, hk⟩ := hex
      obtain ⟨i, hik, hil, hmin⟩ := least (p := fun i => listed.getD i true = false) k hk
      obtain ⟨o, ho, hlow, _⟩ := phiB_at hB (show i < n by omega)
      have : i ∈ Region.ready .any ops listed := mem_ready.2 ⟨hil, o, ho, fun e he hb => by
        have h1 := hlow e he hb
        have h2 := hmin e.on h1
        have h3 : e.on < listed.size := by
          rw [hi.size]
          have := (Array.getElem?_eq_some_iff.1 ho).1
          omega
        simp only [Array.getD_eq_getD_getElem?, Array.getElem?_eq_getElem h3, Option.getD_some] at h2 ⊢
        simpa using h2⟩
      rw [h0] at this
      cases this
    · have hin : i < n := by
        rcases Nat.lt_or_ge i n with h | h
        · exact h
        · exact absurd him (hr i h)
      obtain ⟨hil, oi, hoi, hall⟩ := mem_ready.1 him
      obtain ⟨o', ho', hlow, hdst, hgd⟩ := phiB_at hB hin
      obtain rfl : o' = oi := Option.some.inj (ho'.symm.trans hoi)
      obtain ⟨og, ov⟩ := ob i o' hin hoi
      have hlist : ∀ j, waitsOn o' j = true → listed.getD j false = true := fun j hj => by
        obtain ⟨e, he, hb, rfl⟩ := waitsOn_spec hj
        exact hall e he hb
      have hfact : ∀ t, factAt ops n Φ a0 o' a w t := fun t => by
        unfold factAt
        cases hs : srcOf ops n t with
        | none => exact hv.out t hs
        | some j =>
          intro hw
          obtain ⟨hjn, oj, hoj, hdj⟩ := srcOf_some hs
          exact hv.phi j oj t hjn hoj hdj (hlist j hw)
      have hwant : Region.wanted o' (yielded ops a.tmps) = true := by
        unfold Region.wanted
        cases hg : o'.guard with
        | none => rfl
        | some jb =>
          obtain ⟨j, b⟩ := jb
          obtain ⟨hjn, hwj, oj, t, hoj, hdj⟩ := hgd j b hg
          rw [hg] at og
          have hval := og _ _ (hv.phi j oj t hjn hoj hdj (hlist j hwj))
          obtain ⟨_, hoj2, _, hd2, _⟩ := phiB_at hB hjn
          obtain rfl := Option.some.inj (hoj2.symm.trans hoj)
          have ht := (hd2 t hdj).1
          rw [← hv.size] at ht
          have hval2 : a.tmps[t]? = some (.bool b) := by
            simp only [Act.eval, Array.getD_eq_getD_getElem?, Array.getElem?_eq_getElem ht, Option.getD_some] at hval
            rw [Array.getElem?_eq_getElem ht, hval]
          simp [yielded, hoj, hdj, hval2]
      unfold wpOp
      simp only [hoi, hwant, if_true]
      refine .inl ((ov a w hv.kp hfact).wp fun u w' hb hu => ?_)
      refine ih _ _ _ (hi.set him hin) ⟨hv.kp.step hb, by rw [put_size]; exact hv.size, by rw [put_def]; exact hv.defers, fun t ht => ?_, fun j oj t hjn hoj hdj hlj => ?_⟩ ?_
      · rw [Act.eval_put (fun d hd e => ?_)]
        · exact hv.out t ht
        · cases e
          rw [(hdst t hd).2] at ht
          cases ht
      · by_cases hji : j = i
        · subst hji
          obtain rfl := Option.some.inj (hoj.symm.trans hoi)
          rw [hdj, eval_same (by rw [hv.size]; exact (hdst t hdj).1)]
          exact hu
        · rw [getD_set_ne false (Ne.symm hji)] at hlj
          rw [Act.eval_put (fun d hd e => ?_)]
          · exact hst _ _ _ _ (hv.phi j oj t hjn hoj hdj hlj) hb
          · cases e
            obtain ⟨_, hoj2, _, hd2, _⟩ := phiB_at hB hjn
            obtain rfl := Option.some.inj (hoj2.symm.trans hoj)
            have e1 := (hd2 t hdj).2
            rw [(hdst t hd).2] at e1
            exact hji (Option.some.inj e1).symm
      · have := cnt_step (fun j => !listed.getD j true) (fun j => !(listed.setIfInBounds i true).getD j true) i (by rw [hil]; rfl) (by
            have : i < listed.size := by rw [hi.size]; exact (Array.getElem?_eq_some_iff.1 hoi).1
            simp [this]) (fun j hj => by rw [getD_set_ne true (Ne.symm hj)]) n hin
        unfold cntU at hc ⊢
        omega
end
/-- the whole region: no tail -/
theorem wp_region_phi {P : Program} {id : Nat} {Q : Exit → Act → World → Prop} {a0 : Act} {W : World} {l : List Oper} (Φ : Nat → Value → World → Prop) (hm : P.follows .mixedOrders = true)
    (hB : phiB l.toArray l.toArray.size a0.tmps.size = true) (hst : ∀ i v w w', Φ i v w → Below w.heap.size w w' → Φ i v w')
    (ob : ∀ i o, i < l.toArray.size → l.toArray[i]? = some o → obOf P l.toArray l.toArray.size W a0 Φ i o)
    (h : ∀ a w, Kp W w → a.tmps.size = a0.tmps.size → a.defers = a0.defers → (∀ t, factEnd l.toArray l.toArray.size Φ a0 a w t) → Q .normal a w) : (Code.region id l.toArray true).wp P Q a0 W := by
  refine wp_region_any hm ?_
  have hno : ∀ listed t, l.toArray.size ≤ t → t ∉ Region.ready .any l.toArray listed := fun listed t ht hr => by
    obtain ⟨_, o, ho, _⟩ := mem_ready.1 hr
    have := (Array.getElem?_eq_some_iff.1 ho).1
    omega
  have := phi_head (P := P) (Q := Q) (g := 0) (W := W) (a0 := a0) hB hst ob (fun listed _ _ t ht => hno listed t ht) (fun listed a w hv hi hall => by
    refine ⟨?_, h a w hv.kp hv.size hv.defers fun t => ?_⟩
    · cases hr : Region.ready .any l.toArray listed with
      | nil => rfl
      | cons i r =>
        have him : i ∈ Region.ready .any l.toArray listed := by rw [hr]; simp
        obtain ⟨hil, o, ho, _⟩ := mem_ready.1 him
        have := hall i (Array.getElem?_eq_some_iff.1 ho).1
        rw [hil] at this
        cases this
    · unfold factEnd
      cases hs : srcOf l.toArray l.toArray.size t with
      | none => exact hv.out t hs
      | some j =>
        obtain ⟨hjn, oj, hoj, hdj⟩ := srcOf_some hs
        refine hv.phi j oj t hjn hoj hdj ?_
        have h1 := hall j hjn
        have h2 : j < listed.size := by rw [hi.size]; exact hjn
        simp only [Array.getD_eq_getD_getElem?, Array.getElem?_eq_getElem h2, Option.getD_some] at h1 ⊢
        exact h1) l.toArray.size (Array.replicate l.toArray.size false) a0 { W with drawn := W.drawn + 1 }
    ⟨by simp, fun j oj _ hl => (by rw [getD_replicate_false] at hl; cases hl), fun t ht ht' => absurd ht' (by omega)⟩
    ⟨(Below.refl _ _).drew, rfl, rfl, fun _ _ => rfl, fun j oj t _ _ _ hl => (by rw [getD_replicate_false] at hl; cases hl)⟩ (by
      unfold cntU
      rw [List.countP_eq_length.2 fun i hi => by
        rw [getD_in (by simpa using List.mem_range.1 hi) (getD_replicate_false _ _)]; rfl]
      simp)
  simpa using this
end Go.Proofs.Ytjikbffnhfoikaa
/- A region that draws its order: a head whose operations are quiet in a class of worlds, in any order, and a tail that waits for all of the head and goes in the order of the text. One walk of the text's order serves every order. -/
namespace Go.Proofs.Ytjikbffnhfoikaa
open Go.RowKit Go
section
variable {P : Program} {ops : Array Oper} {md : Region.Mode} {C : World → Prop}
/-- whatever order is picked for the head; what is left then -/
def headQ (P : Program) (md : Region.Mode) (ops : Array Oper) (C : World → Prop) (n : Nat) (L : Array Bool → Act → Prop) : Nat → Array Bool → Act → Prop
  | 0, listed, a => L listed a
  | f + 1, listed, a => Region.ready md ops listed ≠ [] ∧ ∀ i ∈ Region.ready md ops listed, i < n ∧ qOp P ops C i (headQ P md ops C n L f (listed.setIfInBounds i true)) a
theorem any_of_headQ {n g : Nat} {L : Array Bool → Act → Prop} {Q' : Exit → Act → World → Prop} (hL : ∀ listed a w, C w → L listed a → wpAny P md ops Q' g listed a w) :
    ∀ (f : Nat) (listed : Array Bool) (a : Act) (w : World), C w → headQ P md ops C n L f listed a → wpAny P md ops Q' (f + g) listed a w
  | 0, _, _, _, hw, h => by rw [Nat.zero_add]; exact hL _ _ _ hw h
  | f + 1, listed, a, w, hw, h => by
    rw [show f + 1 + g = (f + g) + 1 by omega]
    exact ⟨fun h0 => absurd h0 h.1, fun i hi => wpOp_of_qOp hw (fun a' w' hw' h' => any_of_headQ hL f _ a' w' hw' h') (h.2 i hi).2⟩
theorem headQ_first {n i : Nat} {oi : Oper} {v : Value} {L : Array Bool → Act → Prop} (hi : ops[i]? = some oi) (hsel : ∀ (j : Nat) (o : Oper) cs b, ops[j]? = some o → o.op ≠ .select cs b)
    (hs : Region.sinkB md ops n = true) (hc : Region.chainB md ops n = true) (hn : n < ops.size) (hin : i < n)
    (hdone : ∀ listed a, L listed a → ∀ j ∈ Region.ready md ops listed, n ≤ j) :
    ∀ (f : Nat) (listed : Array Bool) (a : Act), HeadInv md ops n listed →
      (∀ j oj, ops[j]? = some oj → j ≠ i → listed.getD j true = false → (∀ e ∈ oj.after, Region.binds md e = true → e.on ≠ i) → oi.apart ops oj = true) →
      i ∈ Region.ready md ops listed → YieldsIn P ops C oi v a →
      headQ P md ops C n L f (listed.setIfInBounds i true) (a.put oi.dst v) → headQ P md ops C n L (f + 1) listed a := by
  intro f
  induction f with
  | zero =>
    intro listed a inv _ hr hy H
    have hun := (mem_ready.1 hr).1
    refine ⟨fun h => (by rw [h] at hr; cases hr), fun j hj => ?_⟩
    have hjn : j < n := by
      rcases Nat.lt_or_ge j n with h | h
      · exact h
      · exact absurd hj (tail_waits hs hc hn inv _ i rfl hin hun j h)
    refine ⟨hjn, ?_⟩
    by_cases hji : j = i
    · subst hji; exact hy.qOp hi H
    · have := hdone _ _ H j (ready_mono hj hji)
      omega
  | succ f ih =>
    intro listed a inv hfree hr hy H
    have hun := (mem_ready.1 hr).1
    refine ⟨fun h => (by rw [h] at hr; cases hr), fun j hj => ?_⟩
    have hjn : j < n := by
      rcases Nat.lt_or_ge j n with h | h
      · exact h
      · exact absurd hj (tail_waits hs hc hn inv _ i rfl hin hun j h)
    refine ⟨hjn, ?_⟩
    by_cases hji : j = i
    · subst hji; exact hy.qOp hi H
    · have h1 := (H.2 j (ready_mono hj hji)).2
      obtain ⟨hjun, oj, hoj, hall⟩ := mem_ready.1 hj
      have hnot : ∀ e ∈ oj.after, Region.binds md e = true → e.on ≠ i := fun e he hb heq => by
        have h1 := hall e he hb
        rw [heq, getD_both hun] at h1
        cases h1
      have h2 := qOp_put hoj (hfree j oj hoj hji hjun hnot) (fun cs b => hsel i oi cs b hi) (fun cs b => hsel j oj cs b hoj) hy h1
      have hfree' : ∀ k ok, ops[k]? = some ok → k ≠ i → (listed.setIfInBounds j true).getD k true = false →
          (∀ e ∈ ok.after, Region.binds md e = true → e.on ≠ i) → oi.apart ops ok = true := fun k ok hk hki hun hno => by
        refine hfree k ok hk hki ?_ hno
        by_cases hjk : j = k
        · subst hjk; exact hjun
        · rw [getD_set_ne true hjk] at hun; exact hun
      refine qOp_mono (fun a' h3 => ih (listed.setIfInBounds j true) a' (inv.set hj hjn) hfree' (ready_mono hr (Ne.symm hji)) h3.1 ?_) h2
      rw [Array.setIfInBounds_comm _ _ hji]
      exact h3.2
theorem headQ_lex {n g : Nat} {Lq : Act → Prop} (hsel : Region.noSelect ops = true) (hs : Region.sinkB md ops n = true) (hc : Region.chainB md ops n = true) (hn : n < ops.size) :
    ∀ (l : List Oper) (k : Nat) (listed : Array Bool) (a : Act), (∀ j, j < l.length → l[j]? = ops[k + j]?) → k + l.length = n → HeadInv md ops n listed →
    Region.lexHead md ops g l.length k listed = true → wpQuiet P ops C Lq l a →
    headQ P md ops C n (fun listed' a' => Region.seqB md ops g n listed' = true ∧ Lq a') l.length listed a
  | [], k, listed, a, _, hk, _, hB, h => by
    have : k = n := by simpa using hk
    subst this
    exact ⟨by simpa [Region.lexHead] using hB, h⟩
  | o :: l, k, listed, a, hl, hk, inv, hB, h => by
    have h0 : ops[k]? = some o := by simpa using (hl 0 (by simp)).symm
    simp only [List.length_cons, Region.lexHead, Bool.and_eq_true] at hB
    obtain ⟨⟨hr, hf⟩, hB'⟩ := hB
    have hkn : k < n := by simp only [List.length_cons] at hk; omega
    have hr' : k ∈ Region.ready md ops listed := by simpa using hr
    have hst : qOp P ops C k (wpQuiet P ops C Lq l) a := by unfold qOp; simp only [h0]; exact h
    obtain ⟨v, hy, hK⟩ := yieldsIn_of_qOp h0 hst
    exact headQ_first h0 (Region.noSelect_spec hsel) hs hc hn hkn (fun listed' a' hL => seqB_ready hL.1) l.length listed a inv (Region.free_spec h0 hf) hr' hy
      (headQ_lex hsel hs hc hn l (k + 1) _ _ (fun j hj => by have := hl (j + 1) (by simp; omega); simpa [Nat.add_assoc, Nat.add_comm 1 j] using this) (by simp only [List.length_cons] at hk; omega) (inv.set hr' hkn) hB' hK)
theorem wp_region_quiet_tail {id : Nat} {Q : Exit → Act → World → Prop} {a : Act} {w : World} {l : List Oper} (n : Nat) (hm : P.follows .mixedOrders = true) (hB : Region.lexTailB .any l.toArray n = true) (hC : C { w with drawn := w.drawn + 1 })
    (h : wpQuiet P l.toArray C (fun a' => ∀ w', C w' → wpList P l.toArray Q (l.drop n) a' w') (l.take n) a) : (Code.region id l.toArray true).wp P Q a w := by
  simp only [Region.lexTailB, Bool.and_eq_true, decide_eq_true_eq] at hB
  obtain ⟨⟨⟨⟨hsel, hn⟩, hs⟩, hc⟩, hlex⟩ := hB
  have hn' : n < l.length := by simpa using hn
  have htl : (l.take n).length = n := by simp; omega
  have hdl : (l.drop n).length = l.toArray.size - n := by simp
  have inv0 : HeadInv .any l.toArray n (Array.replicate l.toArray.size false) :=
    ⟨by simp, fun j oj _ hl => (by rw [getD_replicate_false] at hl; cases hl), fun t _ ht => getD_in (by simpa using ht) (getD_replicate_false _ _)⟩
  have H := headQ_lex (md := .any) (g := l.toArray.size - n) hsel hs hc hn (l.take n) 0 _ a (fun j hj => by
    have hj' : j < n := by rw [htl] at hj; exact hj
    simp [hj']) (by simpa using htl) inv0 (by rw [htl]; exact hlex) h
  refine wp_region_any hm ?_
  have := any_of_headQ (Q' := Q) (g := l.toArray.size - n) (fun listed a' w' hw' hL => by
    have := wpAny_of_seq (md := .any) (Q' := Q) (l.drop n) n listed a' w' (fun j => by simp [List.getElem?_drop]) (by rw [hdl]; exact hL.1) (hL.2 w' hw')
    rwa [hdl] at this) _ _ _ _ hC H
  rw [htl, show n + (l.toArray.size - n) = l.toArray.size by omega] at this
  exact this
end
/-- the head in the class of worlds that keep all that was there -/
theorem wp_region_kt {P : Program} {id : Nat} {Q : Exit → Act → World → Prop} {a : Act} {w : World} {l : List Oper} (n : Nat) (hm : P.follows .mixedOrders = true) (hB : Region.lexTailB .any l.toArray n = true)
    (h : wpQuiet P l.toArray (Kp w) (fun a' => ∀ w', Kp w w' → wpList P l.toArray Q (l.drop n) a' w') (l.take n) a) : (Code.region id l.toArray true).wp P Q a w :=
  wp_region_quiet_tail (C := Kp w) n hm hB ((Below.refl _ _).drew) h
end Go.Proofs.Ytjikbffnhfoikaa
/- The plain part of layer 16: entries, their order, merging. -/
namespace Go.Proofs.Ytjikbffnhfoikaa
structure E where
  s : Int
  t : Int
  c : Int
  d : Int
  a : BitVec 32
  b : BitVec 32
  e : BitVec 32
  wf : (-9223372036854775808 ≤ s ∧ s ≤ 9223372036854775807) ∧ (-9223372036854775808 ≤ t ∧ t ≤ 9223372036854775807) ∧ (-9223372036854775808 ≤ c ∧ c ≤ 9223372036854775807) ∧ (-9223372036854775808 ≤ d ∧ d ≤ 9223372036854775807)
deriving DecidableEq

def ltP (x y : E) : Prop := x.s < y.s ∨ (x.s = y.s ∧ (x.t < y.t ∨ (x.t = y.t ∧ (x.c < y.c ∨ (x.c = y.c ∧ x.d < y.d)))))
def eqP (x y : E) : Prop := x.s = y.s ∧ x.t = y.t ∧ x.c = y.c ∧ x.d = y.d
instance (x y : E) : Decidable (ltP x y) := by unfold ltP; infer_instance
instance (x y : E) : Decidable (eqP x y) := by unfold eqP; infer_instance
theorem ltP_trans {x y z : E} (h : ltP x y) (k : ltP y z) : ltP x z := by unfold ltP at *; omega
theorem ltP_irrefl (x : E) : ¬ ltP x x := by unfold ltP; omega
theorem tri (x y : E) : ltP x y ∨ eqP x y ∨ ltP y x := by unfold ltP eqP; omega
theorem ltP_not_eq {x y : E} (h : ltP x y) : ¬ eqP x y := by unfold ltP eqP at *; omega
theorem ltP_asymm {x y : E} (h : ltP x y) : ¬ ltP y x := by unfold ltP at *; omega
theorem eqP_symm {x y : E} (h : eqP x y) : eqP y x := by unfold eqP at *; omega
theorem eqP_trans {x y z : E} (h : eqP x y) (k : eqP y z) : eqP x z := by unfold eqP at *; omega
theorem ltP_eq {x y z : E} (h : ltP x y) (k : eqP y z) : ltP x z := by unfold ltP eqP at *; omega
theorem eq_ltP {x y z : E} (h : eqP x y) (k : ltP y z) : ltP x z := by unfold ltP eqP at *; omega

/-- the vectors of x with those of y besides -/
def orE (x y : E) : E := { x with a := x.a ||| y.a, b := x.b ||| y.b, e := x.e ||| y.e }
def orEr (x y : E) : E := orE y x
def emp (x : E) : Bool := x.a == 0#32 && x.b == 0#32 && x.e == 0#32
structure V where
  p : BitVec 32
  q : BitVec 32
  r : BitVec 32
def vec (x : E) : V := ⟨x.a, x.b, x.e⟩
def orV (u v : V) : V := ⟨u.p ||| v.p, u.q ||| v.q, u.r ||| v.r⟩
def zV : V := ⟨0#32, 0#32, 0#32⟩
theorem orV_comm (u v : V) : orV u v = orV v u := by unfold orV; rw [BitVec.or_comm u.p, BitVec.or_comm u.q, BitVec.or_comm u.r]
theorem orV_assoc (u v w : V) : orV (orV u v) w = orV u (orV v w) := by unfold orV; simp only [BitVec.or_assoc]
theorem orV_left (u v w : V) : orV u (orV v w) = orV v (orV u w) := by rw [← orV_assoc, orV_comm u v, orV_assoc]
theorem orV_z (u : V) : orV u zV = u := by obtain ⟨a, b, c⟩ := u; simp [orV, zV]
theorem z_orV (u : V) : orV zV u = u := by rw [orV_comm, orV_z]
theorem vec_orE (x y : E) : vec (orE x y) = orV (vec x) (vec y) := rfl
theorem emp_iff {x : E} : emp x = true ↔ vec x = zV := by
  unfold emp vec zV
  simp [and_assoc]
theorem orV_zero {u v : V} (h : orV u v = zV) : u = zV ∧ v = zV := by
  obtain ⟨a, b, c⟩ := u; obtain ⟨a', b', c'⟩ := v
  simp only [orV, zV, V.mk.injEq, BitVec.or_eq_zero_iff] at h ⊢
  exact ⟨⟨h.1.1, h.2.1.1, h.2.2.1⟩, h.1.2, h.2.1.2, h.2.2.2⟩

/-- what entries say at the key of z -/
def con (z : E) : List E → V
  | [] => zV
  | x :: r => if eqP x z then orV (vec x) (con z r) else con z r
theorem con_append (z : E) : ∀ l m : List E, con z (l ++ m) = orV (con z l) (con z m)
  | [], m => (z_orV _).symm
  | x :: r, m => by
    have := con_append z r m
    simp only [List.cons_append, con]
    split
    · rw [this, orV_assoc]
    · exact this
theorem con_perm (z : E) {l m : List E} (h : l.Perm m) : con z l = con z m := by
  induction h with
  | nil => rfl
  | cons x _ ih => simp only [con, ih]
  | swap x y l =>
    simp only [con]
    split <;> split <;> first | rfl | exact orV_left _ _ _
  | trans _ _ ih1 ih2 => exact ih1.trans ih2
theorem con_none (z : E) : ∀ {l : List E}, (∀ x ∈ l, ¬ eqP x z) → con z l = zV
  | [], _ => rfl
  | x :: r, h => by
    simp only [con, if_neg (h x (by simp))]
    exact con_none z fun y hy => h y (by simp [hy])
theorem con_filter_ne (z : E) : ∀ l : List E, con z (l.filter fun x => !emp x) = con z l
  | [] => rfl
  | x :: r => by
    have ih := con_filter_ne z r
    rw [List.filter_cons]
    split
    · simp only [con, ih]
    · rename_i h
      have h' : emp x = true := by simpa using h
      rw [emp_iff] at h'
      simp only [con, ih, h', z_orV, ite_self]

def Strict (l : List E) : Prop := l.Pairwise ltP
def NE (l : List E) : Prop := ∀ x ∈ l, emp x = false
theorem con_head {x z : E} {r : List E} (hs : Strict (x :: r)) (hz : eqP x z) : con z (x :: r) = vec x := by
  have h := (List.pairwise_cons.1 hs).1
  rw [con, if_pos hz, con_none z fun y hy e => absurd (eqP_trans e (eqP_symm hz)) (fun e => ltP_not_eq (h y hy) (eqP_symm e)), orV_z]
theorem con_less {z : E} {l : List E} (h : ∀ x ∈ l, ltP z x) : con z l = zV := con_none z fun x hx e => ltP_not_eq (h x hx) (eqP_symm e)
theorem eq_of {x y : E} (h : eqP x y) (hv : vec x = vec y) : x = y := by
  obtain ⟨h1, h2, h3, h4⟩ := h
  cases x; cases y
  simp only [vec, V.mk.injEq] at hv h1 h2 h3 h4
  obtain ⟨h5, h6, h7⟩ := hv
  subst h1 h2 h3 h4
  subst h5 h6 h7
  rfl
theorem uniq : ∀ {l m : List E}, Strict l → Strict m → NE l → NE m → (∀ z, con z l = con z m) → l = m
  | [], [], _, _, _, _, _ => rfl
  | [], y :: r, _, hs, _, hn, h => by
    have := h y
    rw [con_head hs ⟨rfl, rfl, rfl, rfl⟩] at this
    have := hn y (by simp)
    simp [Bool.eq_false_iff, emp_iff, ← ‹_ = vec y›, con] at this
  | x :: r, [], hs, _, hn, _, h => by
    have := h x
    rw [con_head hs ⟨rfl, rfl, rfl, rfl⟩] at this
    have := hn x (by simp)
    simp [Bool.eq_false_iff, emp_iff, ‹vec x = _›, con] at this
  | x :: r, y :: q, hs, ht, hn, hm, h => by
    have hx := hn x (by simp)
    have hy := hm y (by simp)
    rw [Bool.eq_false_iff, ne_eq, emp_iff] at hx hy
    obtain ⟨s1, s2⟩ := List.pairwise_cons.1 hs
    obtain ⟨t1, t2⟩ := List.pairwise_cons.1 ht
    rcases tri x y with e | e | e
    · have := h x
      rw [con_head hs ⟨rfl, rfl, rfl, rfl⟩, con_less] at this
      · exact absurd this hx
      · intro z hz
        rcases List.mem_cons.1 hz with rfl | hz
        · exact e
        · exact ltP_trans e (t1 z hz)
    · have h0 := h x
      rw [con_head hs ⟨rfl, rfl, rfl, rfl⟩, con_head ht (eqP_symm e)] at h0
      obtain rfl := eq_of e h0
      rw [uniq s2 t2 (fun z hz => hn z (by simp [hz])) (fun z hz => hm z (by simp [hz])) fun z => ?_]
      by_cases hz : eqP x z
      · rw [con_none z fun u hu k => ltP_not_eq (s1 u hu) (eqP_symm (eqP_trans k (eqP_symm hz))), con_none z fun u hu k => ltP_not_eq (t1 u hu) (eqP_symm (eqP_trans k (eqP_symm hz)))]
      · have := h z
        simpa only [con, if_neg hz] using this
    · have := h y
      rw [con_head ht ⟨rfl, rfl, rfl, rfl⟩, con_less] at this
      · exact absurd this.symm hy
      · intro z hz
        rcases List.mem_cons.1 hz with rfl | hz
        · exact e
        · exact ltP_trans e (s1 z hz)

/-! the reference's merging: an entry at its place -/
def ins : List E → E → List E
  | [], x => [x]
  | y :: r, x => if ltP y x then y :: ins r x else if ltP x y then x :: y :: r else orE y x :: r
def insN (l : List E) (x : E) : List E := if emp x then l else ins l x
def M (l : List E) : List E := l.foldl insN []
theorem emp_or {x y : E} (h : emp x = false) : emp (orE x y) = false := by
  rw [Bool.eq_false_iff, ne_eq, emp_iff] at *
  intro e
  rw [vec_orE] at e
  exact h (orV_zero e).1
theorem ins_mem {z x : E} : ∀ {l : List E}, z ∈ ins l x → (∃ y ∈ l, eqP z y) ∨ eqP z x
  | [], h => by simp [ins] at h; subst h; exact .inr ⟨rfl, rfl, rfl, rfl⟩
  | y :: r, h => by
    unfold ins at h
    split at h
    · rcases List.mem_cons.1 h with rfl | h
      · exact .inl ⟨z, by simp, rfl, rfl, rfl, rfl⟩
      · rcases ins_mem h with ⟨u, hu, e⟩ | e
        · exact .inl ⟨u, by simp [hu], e⟩
        · exact .inr e
    · split at h
      · rcases List.mem_cons.1 h with rfl | h
        · exact .inr ⟨rfl, rfl, rfl, rfl⟩
        · exact .inl ⟨z, h, rfl, rfl, rfl, rfl⟩
      · rcases List.mem_cons.1 h with rfl | h
        · exact .inl ⟨y, by simp, rfl, rfl, rfl, rfl⟩
        · exact .inl ⟨z, by simp [h], rfl, rfl, rfl, rfl⟩
theorem ins_strict {x : E} : ∀ {l : List E}, Strict l → Strict (ins l x)
  | [], _ => by simp [ins, Strict]
  | y :: r, h => by
    obtain ⟨h1, h2⟩ := List.pairwise_cons.1 h
    unfold ins
    split
    · rename_i hy
      refine List.pairwise_cons.2 ⟨fun z hz => ?_, ins_strict h2⟩
      rcases ins_mem hz with ⟨u, hu, e⟩ | e
      · exact ltP_eq (h1 u hu) (eqP_symm e)
      · exact ltP_eq hy (eqP_symm e)
    · split
      · rename_i hx
        refine List.pairwise_cons.2 ⟨fun z hz => ?_, h⟩
        rcases List.mem_cons.1 hz with rfl | hz
        · exact hx
        · exact ltP_trans hx (h1 z hz)
      · exact List.pairwise_cons.2 ⟨fun z hz => h1 z hz, h2⟩
theorem ins_ne {x : E} (hx : emp x = false) : ∀ {l : List E}, NE l → NE (ins l x)
  | [], _ => by intro z hz; simp [ins] at hz; subst hz; exact hx
  | y :: r, h => by
    have hr : NE r := fun z hz => h z (by simp [hz])
    unfold ins
    split
    · intro z hz
      rcases List.mem_cons.1 hz with rfl | hz
      · exact h z (by simp)
      · exact ins_ne hx hr z hz
    · split
      · intro z hz
        rcases List.mem_cons.1 hz with rfl | hz
        · exact hx
        · exact h z hz
      · intro z hz
        rcases List.mem_cons.1 hz with rfl | hz
        · exact emp_or (h y (by simp))
        · exact hr z hz
theorem ins_con (z : E) {x : E} : ∀ l : List E, con z (ins l x) = orV (con z l) (if eqP x z then vec x else zV)
  | [] => by
    simp only [ins, con, z_orV]
    split
    · rw [orV_z]
    · rfl
  | y :: r => by
    have ih := ins_con z (x := x) r
    unfold ins
    split
    · simp only [con]
      split
      · rw [ih, orV_assoc]
      · exact ih
    · split
      · simp only [con]
        split <;> split <;> first | (rw [orV_z]; done) | rw [orV_comm]
      · have e : eqP y x := by
          rcases tri y x with h | h | h
          · exact absurd h ‹_›
          · exact h
          · exact absurd h ‹_›
        simp only [con]
        by_cases hz : eqP x z
        · have hy : eqP y z := eqP_trans e hz
          have ho : eqP (orE y x) z := hy
          rw [if_pos ho, if_pos hy, if_pos hz, vec_orE, orV_assoc, orV_assoc, orV_comm (vec x)]
        · have hy : ¬ eqP y z := fun k => hz (eqP_trans (eqP_symm e) k)
          have ho : ¬ eqP (orE y x) z := hy
          rw [if_neg ho, if_neg hy, if_neg hz, orV_z]
theorem insN_con (z : E) (x : E) (l : List E) : con z (insN l x) = orV (con z l) (con z [x]) := by
  unfold insN
  split
  · rename_i h
    rw [emp_iff] at h
    simp only [con, h, orV_z, ite_self]
  · rw [ins_con]
    simp only [con, orV_z]
theorem foldM (z : E) : ∀ (l acc : List E), con z (l.foldl insN acc) = orV (con z acc) (con z l)
  | [], acc => (orV_z _).symm
  | x :: r, acc => by
    rw [List.foldl_cons, foldM z r, insN_con, orV_assoc, ← con_append]
    rfl
theorem fold_strict : ∀ (l acc : List E), Strict acc → NE acc → Strict (l.foldl insN acc) ∧ NE (l.foldl insN acc)
  | [], _, h, k => ⟨h, k⟩
  | x :: r, acc, h, k => by
    rw [List.foldl_cons]
    refine fold_strict r _ ?_ ?_
    · unfold insN; split
      · exact h
      · exact ins_strict h
    · unfold insN; split
      · exact k
      · rename_i hx
        exact ins_ne (by simpa using hx) k
theorem M_con (z : E) (l : List E) : con z (M l) = con z l := by
  unfold M; rw [foldM]; exact z_orV _
theorem M_strict (l : List E) : Strict (M l) := (fold_strict l [] List.Pairwise.nil (by intro x h; cases h)).1
theorem M_ne (l : List E) : NE (M l) := (fold_strict l [] List.Pairwise.nil (by intro x h; cases h)).2
theorem M_uniq {l m : List E} (hs : Strict m) (hn : NE m) (h : ∀ z, con z m = con z l) : m = M l :=
  uniq hs (M_strict l) hn (M_ne l) fun z => (h z).trans (M_con z l).symm
theorem M_of {l m : List E} (h : ∀ z, con z m = con z l) : M m = M l := M_uniq (M_strict m) (M_ne m) fun z => (M_con z m).trans (h z)
theorem M_M (l : List E) : M (M l) = M l := M_of fun z => M_con z l
theorem M_len_ins (x : E) : ∀ l : List E, (ins l x).length ≤ l.length + 1
  | [] => Nat.le_refl _
  | y :: r => by
    have := M_len_ins x r
    unfold ins; split
    · simp; omega
    · split <;> simp
theorem M_len_fold : ∀ (l acc : List E), (l.foldl insN acc).length ≤ acc.length + l.length
  | [], acc => Nat.le_refl _
  | x :: r, acc => by
    rw [List.foldl_cons]
    have h := M_len_fold r (insN acc x)
    have h2 : (insN acc x).length ≤ acc.length + 1 := by unfold insN; split; omega; exact M_len_ins x acc
    simp; omega
theorem M_len (l : List E) : (M l).length ≤ l.length := by have := M_len_fold l []; simp at this; exact this
theorem M_snoc (l : List E) (x : E) : M (l ++ [x]) = insN (M l) x := by unfold M; rw [List.foldl_append]; rfl

/-! the program's merging: ascending entries, joined at the end -/
def join (l : List E) (x : E) : List E :=
  match l.getLast? with
  | none => [x]
  | some y => if eqP y x then l.dropLast ++ [orE y x] else l ++ [x]
theorem join_nil (x : E) : join [] x = [x] := rfl
theorem join_snoc (l : List E) (y x : E) : join (l ++ [y]) x = if eqP y x then l ++ [orE y x] else l ++ [y, x] := by
  unfold join
  simp
theorem snoc_of (l : List E) : l = [] ∨ ∃ m y, l = m ++ [y] := by
  rcases List.eq_nil_or_concat l with h | ⟨m, y, h⟩
  · exact .inl h
  · exact .inr ⟨m, y, by rw [h, List.concat_eq_append]⟩
/-- x comes not before what is there -/
theorem join_spec {l : List E} {x : E} (hs : Strict l) (hn : NE l) (hx : emp x = false) (hl : ∀ y ∈ l, ¬ ltP x y) :
    Strict (join l x) ∧ NE (join l x) ∧ (∀ z, con z (join l x) = con z (l ++ [x])) ∧ (∀ u ∈ join l x, (∃ y ∈ l, eqP u y) ∨ eqP u x) := by
  rcases snoc_of l with rfl | ⟨m, y, rfl⟩
  · rw [join_nil]
    exact ⟨by simp [Strict], by intro u hu; simp at hu; subst hu; exact hx, fun _ => rfl, fun u hu => by simp at hu; subst hu; exact .inr ⟨rfl, rfl, rfl, rfl⟩⟩
  · rw [join_snoc]
    have hp := List.pairwise_append.1 hs
    by_cases e : eqP y x
    · rw [if_pos e]
      refine ⟨List.pairwise_append.2 ⟨hp.1, by simp, fun u hu v hv => ?_⟩, ?_, fun z => ?_, fun u hu => ?_⟩
      · simp at hv; subst hv
        exact hp.2.2 u hu y (by simp)
      · intro u hu
        rcases List.mem_append.1 hu with hu | hu
        · exact hn u (by simp [hu])
        · simp at hu; subst hu; exact emp_or (hn y (by simp))
      · rw [con_append, con_append, con_append, orV_assoc]
        congr 1
        by_cases hz : eqP x z
        · have hy : eqP y z := eqP_trans e hz
          have ho : eqP (orE y x) z := hy
          simp only [con, if_pos ho, if_pos hy, if_pos hz, vec_orE, orV_z]
        · have hy : ¬ eqP y z := fun k => hz (eqP_trans (eqP_symm e) k)
          have ho : ¬ eqP (orE y x) z := hy
          simp only [con, if_neg ho, if_neg hy, if_neg hz, orV_z]
      · rcases List.mem_append.1 hu with hu | hu
        · exact .inl ⟨u, by simp [hu], rfl, rfl, rfl, rfl⟩
        · simp at hu; subst hu; exact .inl ⟨y, by simp, rfl, rfl, rfl, rfl⟩
    · rw [if_neg e]
      have hyx : ltP y x := by
        rcases tri y x with h | h | h
        · exact h
        · exact absurd h e
        · exact absurd h (hl y (by simp))
      refine ⟨List.pairwise_append.2 ⟨hp.1, by simp [hyx], fun u hu v hv => ?_⟩, ?_, fun z => ?_, fun u hu => ?_⟩
      · simp at hv
        have huy := hp.2.2 u hu y (by simp)
        rcases hv with rfl | rfl
        · exact huy
        · exact ltP_trans huy hyx
      · intro u hu
        simp at hu
        rcases hu with hu | rfl | rfl
        · exact hn u (by simp [hu])
        · exact hn u (by simp)
        · exact hx
      · rw [List.append_assoc]; rfl
      · simp at hu
        rcases hu with hu | rfl | rfl
        · exact .inl ⟨u, by simp [hu], rfl, rfl, rfl, rfl⟩
        · exact .inl ⟨u, by simp, rfl, rfl, rfl, rfl⟩
        · exact .inr ⟨rfl, rfl, rfl, rfl⟩
/-- ascending, equals allowed -/
def Asc (l : List E) : Prop := l.Pairwise fun x y => ¬ ltP y x
theorem fold_join : ∀ (r acc : List E), Asc r → NE r → Strict acc → NE acc → (∀ y ∈ acc, ∀ x ∈ r, ¬ ltP x y) →
    Strict (r.foldl join acc) ∧ NE (r.foldl join acc) ∧ ∀ z, con z (r.foldl join acc) = con z (acc ++ r)
  | [], acc, _, _, h, k, _ => ⟨h, k, fun z => by rw [List.append_nil]; rfl⟩
  | x :: r, acc, ha, hn, h, k, hl => by
    obtain ⟨a1, a2⟩ := List.pairwise_cons.1 ha
    obtain ⟨j1, j2, j3, j4⟩ := join_spec h k (hn x (by simp)) (fun y hy => hl y hy x (by simp))
    obtain ⟨f1, f2, f3⟩ := fold_join r (join acc x) a2 (fun z hz => hn z (by simp [hz])) j1 j2 (fun y hy u hu => by
      rcases j4 y hy with ⟨v, hv, e⟩ | e
      · exact fun k => hl v hv u (by simp [hu]) (ltP_eq k e)
      · exact fun k => a1 u hu (ltP_eq k e))
    refine ⟨f1, f2, fun z => ?_⟩
    rw [List.foldl_cons, f3, con_append, j3, ← con_append, List.append_assoc]
    rfl
theorem fold_join_M {l r : List E} (ha : Asc r) (hn : NE r) (h : ∀ z, con z r = con z l) : r.foldl join [] = M l := by
  obtain ⟨f1, f2, f3⟩ := fold_join r [] ha hn List.Pairwise.nil (by intro x h; cases h) (by intro x h; cases h)
  exact M_uniq f1 f2 fun z => (f3 z).trans (h z)
theorem join_len (l : List E) (x : E) : (join l x).length ≤ l.length + 1 := by
  rcases snoc_of l with rfl | ⟨m, y, rfl⟩
  · exact Nat.le_refl _
  · rw [join_snoc]; split <;> simp
theorem fold_join_len : ∀ (r acc : List E), (r.foldl join acc).length ≤ acc.length + r.length
  | [], acc => Nat.le_refl _
  | x :: r, acc => by
    rw [List.foldl_cons]
    have h := fold_join_len r (join acc x)
    have := join_len acc x
    simp; omega
theorem asc_of_strict {l : List E} (h : Strict l) : Asc l := h.imp fun h => ltP_asymm h

/-! what is visible -/
def valB (vs : List Bool) (n : Int) : Bool := decide (n < vs.length) && (0 ≤ n && vs.getD n.toNat false)
def vis (vs : List Bool) (d : Int) : Bool := if 0 < d then vs.getD (d - 1).toNat false else if d < 0 then !(vs.getD (-(d + 1)).toNat false) else true
def zero (x : E) : E := { x with d := 0, wf := ⟨x.wf.1, x.wf.2.1, x.wf.2.2.1, by decide⟩ }
def seenL (vs : List Bool) (l : List E) : List E := (l.filter fun x => vis vs x.d).map zero
def V0 (vs : List Bool) (l : List E) : List E := M (seenL vs l)
theorem seen_ne {vs : List Bool} {l : List E} (h : NE l) : NE (seenL vs l) := by
  intro x hx
  obtain ⟨y, hy, rfl⟩ := List.mem_map.1 hx
  exact h y (List.mem_filter.1 hy).1
theorem seen_asc {vs : List Bool} {l : List E} (h : Strict l) : Asc (seenL vs l) := by
  unfold seenL Asc
  rw [List.pairwise_map]
  refine (h.filter _).imp fun {x y} h => ?_
  unfold ltP zero at *
  simp only
  omega
theorem seen_fold {vs : List Bool} {l : List E} (h : Strict l) (hn : NE l) : (seenL vs l).foldl join [] = V0 vs l := fold_join_M (seen_asc h) (seen_ne hn) fun _ => rfl
theorem V0_d {vs : List Bool} {l : List E} : ∀ x ∈ V0 vs l, x.d = 0 := by
  intro x hx
  have h1 : con x (V0 vs l) ≠ zV := by
    have hne := M_ne _ x hx
    rw [Bool.eq_false_iff, ne_eq, emp_iff] at hne
    intro h
    obtain ⟨p, q, e⟩ := List.append_of_mem hx
    have : con x (V0 vs l) = orV (con x p) (orV (vec x) (con x q)) := by
      show con x (M _) = _
      unfold V0 at e
      rw [e, con_append]
      congr 1
      simp only [con, if_pos (show eqP x x from ⟨rfl, rfl, rfl, rfl⟩)]
    rw [this] at h
    exact hne (orV_zero (orV_zero h).2).1
  unfold V0 at h1
  rw [M_con] at h1
  rcases Classical.em (∀ y ∈ seenL vs l, ¬ eqP y x) with h | h
  · exact absurd (con_none x h) h1
  · obtain ⟨y, h⟩ := Classical.not_forall.1 h
    obtain ⟨hy, h⟩ := Classical.not_imp.1 h
    have e := Classical.not_not.1 h
    obtain ⟨u, _, rfl⟩ := List.mem_map.1 hy
    exact e.2.2.2.symm

/-- a choice that depends on the key alone commutes with merging -/
theorem con_filter (p : E → Bool) (hp : ∀ x y, eqP x y → p x = p y) (z : E) : ∀ l : List E, con z (l.filter p) = if p z then con z l else zV
  | [] => by simp [con]
  | x :: r => by
    have ih := con_filter p hp z r
    rw [List.filter_cons]
    by_cases hx : p x = true
    · rw [if_pos hx]
      simp only [con]
      split
      · rename_i e
        have : p z = true := by rw [← hp x z e]; exact hx
        rw [ih, if_pos this, if_pos this]
      · exact ih
    · rw [if_neg hx, ih]
      by_cases hz : p z = true
      · rw [if_pos hz, if_pos hz]
        simp only [con]
        rw [if_neg]
        intro e
        exact hx (by rw [hp x z e]; exact hz)
      · rw [if_neg hz, if_neg hz]
theorem M_filter (p : E → Bool) (hp : ∀ x y, eqP x y → p x = p y) (l : List E) : M (l.filter p) = (M l).filter p := by
  refine (M_uniq ((M_strict l).filter p) (fun x hx => M_ne l x (List.mem_filter.1 hx).1) fun z => ?_).symm
  rw [con_filter p hp, con_filter p hp, M_con]
theorem seen_filter (p : E → Bool) (hz : ∀ x, p (zero x) = p x) (vs : List Bool) (l : List E) : seenL vs (l.filter p) = (seenL vs l).filter p := by
  unfold seenL
  rw [List.filter_map, List.filter_filter, List.filter_filter]
  congr 1
  apply List.filter_congr
  intro x _
  simp only [Function.comp, hz, Bool.and_comm]
theorem V0_filter (p : E → Bool) (hp : ∀ x y, eqP x y → p x = p y) (hz : ∀ x, p (zero x) = p x) (vs : List Bool) (l : List E) : V0 vs (l.filter p) = (V0 vs l).filter p := by
  unfold V0
  rw [seen_filter p hz, M_filter p hp]
end Go.Proofs.Ytjikbffnhfoikaa
/- Entries in memory; the comparison of entries. -/
namespace Go.Proofs.Ytjikbffnhfoikaa
open Go.RowKit Go.Sort
/-- a vector as a number -/
def vI (x : BitVec 32) : Int := (x.toNat : Int)
theorem vI_lo (x : BitVec 32) : 0 ≤ vI x := Int.natCast_nonneg _
theorem vI_hi (x : BitVec 32) : vI x < 4294967296 := by have := x.isLt; unfold vI; omega
theorem vI_inj {x y : BitVec 32} (h : vI x = vI y) : x = y := by
  unfold vI at h
  exact BitVec.eq_of_toNat_eq (by omega)
theorem vI_zero : vI 0#32 = 0 := rfl
theorem wrap_nat32 (n : Nat) (h : n < 4294967296) : IntKind.u32.wrap (n : Int) = n := by
  have w : IntKind.u32.wrap (n : Int) = (n : Int) % 4294967296 := by simp [IntKind.wrap, IntKind.bits, IntKind.signed]
  rw [w]; omega
theorem vI_or (x y : BitVec 32) : bits .or .u32 (vI x) (vI y) = vI (x ||| y) := by
  show IntKind.u32.wrap ((BitVec.ofInt 32 (vI x) ||| BitVec.ofInt 32 (vI y)).toNat : Int) = _
  have e : ∀ z : BitVec 32, BitVec.ofInt 32 (vI z) = z := fun z => by
    apply BitVec.eq_of_toNat_eq
    unfold vI
    rw [BitVec.toNat_ofInt]
    have := z.isLt
    omega
  rw [e, e, wrap_nat32 _ (BitVec.isLt _)]
  rfl
theorem vI_and (x y : BitVec 32) : bits .and .u32 (vI x) (vI y) = vI (x &&& y) := by
  show IntKind.u32.wrap ((BitVec.ofInt 32 (vI x) &&& BitVec.ofInt 32 (vI y)).toNat : Int) = _
  have e : ∀ z : BitVec 32, BitVec.ofInt 32 (vI z) = z := fun z => by
    apply BitVec.eq_of_toNat_eq
    unfold vI
    rw [BitVec.toNat_ofInt]
    have := z.isLt
    omega
  rw [e, e, wrap_nat32 _ (BitVec.isLt _)]
  rfl
theorem vI_wf (x : BitVec 32) : (Lit.int .u32 (vI x)).wf = true := by
  have h1 := vI_lo x; have h2 := vI_hi x
  show (decide (0 ≤ vI x) && decide (vI x ≤ 4294967295)) = true
  simp only [Bool.and_eq_true, decide_eq_true_eq]; omega
def cellsE (x : E) : List Value := [.int .i64 x.s, .int .i64 x.t, .int .i64 x.c, .int .i64 x.d, .int .u32 (vI x.a), .int .u32 (vI x.b), .int .u32 (vI x.e)]
theorem cellsE_len (x : E) : (cellsE x).length = 7 := rfl
theorem cellsE_one (x : E) : ∀ v ∈ cellsE x, v.oneCell' = true := by
  intro v hv
  simp only [cellsE, List.mem_cons, List.not_mem_nil, or_false] at hv
  rcases hv with rfl | rfl | rfl | rfl | rfl | rfl | rfl <;> rfl
/-- the seven cells of an entry from o on -/
def At7 (w : World) (g o : Nat) (x : E) : Prop :=
  w.cell? ⟨g, o, none⟩ = some (.int .i64 x.s) ∧ w.cell? ⟨g, o + 1, none⟩ = some (.int .i64 x.t) ∧ w.cell? ⟨g, o + 2, none⟩ = some (.int .i64 x.c) ∧ w.cell? ⟨g, o + 3, none⟩ = some (.int .i64 x.d) ∧
  w.cell? ⟨g, o + 4, none⟩ = some (.int .u32 (vI x.a)) ∧ w.cell? ⟨g, o + 5, none⟩ = some (.int .u32 (vI x.b)) ∧ w.cell? ⟨g, o + 6, none⟩ = some (.int .u32 (vI x.e))
def RowE (w : World) (g o : Nat) (L : List E) : Prop := ∀ i x, L[i]? = some x → At7 w g (o + i * 7) x
/-- the value is a slice of the entries L -/
def Ents (w : World) (v : Value) (L : List E) : Prop :=
  ∃ ao cap, v = .slice ao L.length cap ∧ L.length ≤ cap ∧ (L ≠ [] → ∃ g o, ao = some ⟨g, o, none⟩ ∧ RowE w g o L)
theorem At7.lt {w : World} {g o : Nat} {x : E} (h : At7 w g o x) : g < w.heap.size := by
  have := h.1
  rcases Nat.lt_or_ge g w.heap.size with h' | h'
  · exact h'
  · simp [World.cell?, Array.getElem?_eq_none h'] at this
theorem At7.keep {w w' : World} {g o : Nat} {x : E} (h : At7 w g o x) (hb : w'.heap[g]? = w.heap[g]?) : At7 w' g o x := by
  have e : ∀ k, w'.cell? ⟨g, k, none⟩ = w.cell? ⟨g, k, none⟩ := fun k => World.cell?_of_block hb
  unfold At7
  rw [e, e, e, e, e, e, e]
  exact h
theorem RowE.lt {w : World} {g o : Nat} {L : List E} (h : RowE w g o L) (hl : L ≠ []) : g < w.heap.size := by
  obtain ⟨t, r, rfl⟩ := List.exists_cons_of_ne_nil hl
  exact (h 0 t rfl).lt
theorem RowE.keep {w w' : World} {g o : Nat} {L : List E} (h : RowE w g o L) (hb : w'.heap[g]? = w.heap[g]?) : RowE w' g o L := fun i x hx => (h i x hx).keep hb
theorem Ents.keep {w w' : World} {v : Value} {L : List E} (h : Ents w v L) (hb : Below w.heap.size w w') : Ents w' v L := by
  obtain ⟨ao, cap, rfl, hc, hr⟩ := h
  refine ⟨ao, cap, rfl, hc, fun hl => ?_⟩
  obtain ⟨g, o, rfl, hR⟩ := hr hl
  exact ⟨g, o, rfl, hR.keep (hb.block g (hR.lt hl))⟩
theorem Ents.nil {w : World} : Ents w (.slice none 0 0) [] := ⟨none, 0, rfl, Nat.le_refl _, fun h => absurd rfl h⟩
theorem Ents.form {w : World} {v : Value} {L : List E} (h : Ents w v L) : ∃ ao cap, v = .slice ao L.length cap := by
  obtain ⟨ao, cap, rfl, _⟩ := h
  exact ⟨ao, cap, rfl⟩
theorem RowE.at {w : World} {g o : Nat} {L : List E} (h : RowE w g o L) {i : Nat} (hi : i < L.length) : At7 w g (o + i * 7) L[i] := h i L[i] (List.getElem?_eq_getElem hi)
/-- an entry in a block of its own -/
def Box (w : World) (g : Nat) (x : E) : Prop := Blk w g 61 #[.int .i64 x.s, .int .i64 x.t, .int .i64 x.c, .int .i64 x.d, .int .u32 (vI x.a), .int .u32 (vI x.b), .int .u32 (vI x.e)]
theorem Box.at7 {w : World} {g : Nat} {x : E} (h : Box w g x) : At7 w g 0 x := by
  have := h.cell
  exact ⟨this 0, this 1, this 2, this 3, this 4, this 5, this 6⟩
theorem Box.cells {w : World} {g : Nat} {x : E} (h : Box w g x) : w.cell? ⟨g, 0, none⟩ = some (.int .i64 x.s) ∧ w.cell? ⟨g, 1, none⟩ = some (.int .i64 x.t) ∧ w.cell? ⟨g, 2, none⟩ = some (.int .i64 x.c) ∧ w.cell? ⟨g, 3, none⟩ = some (.int .i64 x.d) ∧
  w.cell? ⟨g, 4, none⟩ = some (.int .u32 (vI x.a)) ∧ w.cell? ⟨g, 5, none⟩ = some (.int .u32 (vI x.b)) ∧ w.cell? ⟨g, 6, none⟩ = some (.int .u32 (vI x.e)) := by
  have := h.cell
  exact ⟨this 0, this 1, this 2, this 3, this 4, this 5, this 6⟩

def cmpI (x y : Int) : Int := if x < y then -1 else if y < x then 1 else 0
theorem cmpI_lt {x y : Int} (h : x < y) : cmpI x y = -1 := if_pos h
theorem cmpI_gt {x y : Int} (h : y < x) : cmpI x y = 1 := by unfold cmpI; rw [if_neg (by omega), if_pos h]
theorem cmpI_eq {x y : Int} (h : x = y) : cmpI x y = 0 := by unfold cmpI; rw [if_neg (by omega), if_neg (by omega)]
theorem isNaN_c (x : Int) (w : World) : Calls Try.prog 88 #[.int .i64 x] w fun e w' => e = .returned (.bool false) ∧ w = w' := by
  go_enter Try.func88, Try.ntmps88
  go_wp2
  go_ret
  exact ⟨by simp, rfl⟩
theorem compareI_c (x y : Int) (w : World) : Calls Try.prog 65 #[.int .i64 x, .int .i64 y] w fun e w' => e = .returned (.int .i64 (cmpI x y)) ∧ w = w' := by
  obtain ⟨R, hR⟩ : ∃ R, cmpI x y = R := ⟨_, rfl⟩
  rw [hR]
  have HR := Lib.hid hR
  clear hR
  by_cases h1 : x < y
  · go_enter Try.func65, Try.ntmps65
    go_wp2_with (go_at_call 88; refine (isNaN_c _ _).mono ?_; rintro e w' ⟨rfl, rfl⟩)
    go_ret
    exact ⟨by rw [← HR.out, cmpI_lt h1]; rfl, rfl⟩
  · by_cases h2 : y < x
    · go_enter Try.func65, Try.ntmps65
      go_wp2_with (go_at_call 88; refine (isNaN_c _ _).mono ?_; rintro e w' ⟨rfl, rfl⟩)
      go_ret
      exact ⟨by rw [← HR.out, cmpI_gt h2]; rfl, rfl⟩
    · go_enter Try.func65, Try.ntmps65
      go_wp2_with (go_at_call 88; refine (isNaN_c _ _).mono ?_; rintro e w' ⟨rfl, rfl⟩)
      go_ret
      exact ⟨by rw [← HR.out, cmpI_eq (by omega)]; rfl, rfl⟩
/-- the first that is not 0 -/
def orL : List Int → Int
  | [] => 0
  | x :: r => if x = 0 then orL r else x
theorem orL_spec : ∀ (l : List Int) (i : Nat) (hi : i < l.length), (∀ k (h : k < i), l[k] = 0) → l[i] ≠ 0 → orL l = l[i]
  | [], i, hi, _, _ => by simp at hi
  | x :: r, 0, _, _, h => by simp at h; simp [orL, h]
  | x :: r, i + 1, hi, hk, h => by
    have h0 := hk 0 (by omega)
    simp at h0
    have := orL_spec r i (by simpa using hi) (fun k hk' => by have := hk (k + 1) (by omega); simpa using this) (by simpa using h)
    simp [orL, h0, this]
theorem orL_zero : ∀ (l : List Int), (∀ k (h : k < l.length), l[k] = 0) → orL l = 0
  | [], _ => rfl
  | x :: r, h => by
    have h0 := h 0 (by simp)
    simp at h0
    simp [orL, h0, orL_zero r (fun k hk => by have := h (k + 1) (by simp; omega); simpa using this)]
set_option maxRecDepth 100000 in
theorem or_c (g : Nat) (zs : List Int) (w : World) (hn : zs.length ≤ 1000) (hc : ∀ i (h : i < zs.length), w.cell? ⟨g, i, none⟩ = some (.int .i64 zs[i])) :
    Calls Try.prog 64 #[.slice (some ⟨g, 0, none⟩) zs.length zs.length] w fun e w' => e = .returned (.int .i64 (orL zs)) ∧ w = w' := by
  obtain ⟨R, hR⟩ : ∃ R, orL zs = R := ⟨_, rfl⟩
  rw [hR]
  have HC := Lib.hid hc
  have HR := Lib.hid hR
  clear hc hR
  have hn' : (zs.length : Int) ≤ 1000 := by omega
  go_enter Try.func64, Try.ntmps64
  go_wp2_with fail
  go_loop [8] (fun vi => ∃ i : Nat, i ≤ zs.length ∧ vi = .int .i64 i ∧ Hid (∀ k (h : k < i) (h' : k < zs.length), zs[k] = 0)) (fun vi => zs.length - (intOf vi).toNat)
  case atStart => exact ⟨0, Nat.zero_le _, rfl, Lib.hid (fun k h => absurd h (by omega))⟩
  case round =>
    obtain ⟨i, hi, rfl, HA⟩ := hrel
    by_cases hlt : i < zs.length
    · have hcell := HC.out i hlt
      have hlt' : (i : Int) < (zs.length : Int) := by omega
      by_cases hz : zs[i] = 0
      · rw [hz] at hcell
        have HZ := Lib.hid hz
        clear hz
        go_wp2_with fail
        refine ⟨⟨i + 1, hlt, by simp, Lib.hid (fun k h h' => ?_)⟩, by simp [intOf]; omega⟩
        rcases Nat.lt_or_ge k i with hk | hk
        · exact HA.out k hk h'
        · obtain rfl : k = i := by omega
          exact HZ.out
      · have hR0 : zs[i] = R := by rw [← HR.out, orL_spec zs i hlt (fun k hk => HA.out k hk (by omega)) hz]
        have HR0 := Lib.hid hR0
        have hz1 : (zs[i] == (0 : Int)) = false := by simpa using hz
        have hz2 : (zs[i] != (0 : Int)) = true := by simpa using hz
        clear hR0
        go_wp2_with fail
        go_ret
        exact ⟨by rw [← HR0.out]; rfl, rfl⟩
    · obtain rfl : i = zs.length := by omega
      go_wp2_with fail
      go_ret
      exact ⟨by rw [← HR.out, orL_zero zs (fun k h => HA.out k h h)]; rfl, rfl⟩
/-- the class: some draws on -/
def Dr (W w : World) : Prop := ∃ n, w = W.drewN n
theorem Dr.call {P : Program} {f : FuncId} {args : Array Value} {W w : World} {v : Value} (hC : Dr W w)
    (h : Calls P f args w fun e w' => e = .returned v ∧ w = w') : Calls P f args w fun e w'' => e = .returned v ∧ Dr W w'' :=
  h.mono fun _ _ ⟨he, hb⟩ => ⟨he, hb ▸ hC⟩
theorem wp_region_dt {P : Program} {id : Nat} {Q : Exit → Act → World → Prop} {a : Act} {w : World} {l : List Oper} (n : Nat) (hm : P.follows .mixedOrders = true) (hB : Region.lexTailB .any l.toArray n = true)
    (h : wpQuiet P l.toArray (Dr w) (fun a' => ∀ w', Dr w w' → wpList P l.toArray Q (l.drop n) a' w') (l.take n) a) : (Code.region id l.toArray true).wp P Q a w :=
  wp_region_quiet_tail (C := Dr w) n hm hB ⟨1, rfl⟩ h
theorem wp_region_d {P : Program} {id : Nat} {Q : Exit → Act → World → Prop} {a : Act} {w : World} {l : List Oper} (hm : P.follows .mixedOrders = true) (hB : Region.lexB .any l.toArray = true)
    (h : wpQuiet P l.toArray (Dr w) (fun a' => ∀ w', Dr w w' → Q .normal a' w') l a) : (Code.region id l.toArray true).wp P Q a w :=
  wp_region_quiet (C := Dr w) hm hB ⟨1, rfl⟩ (by simpa using h)
def cmpE (x y : E) : Int := orL [cmpI x.s y.s, cmpI x.t y.t, cmpI x.c y.c, cmpI x.d y.d]
/-- what a call that only makes memory leaves: draws, and blocks behind -/
def Gr (w w' : World) : Prop := ∃ q os, w' = grow (w.drewN q) os
theorem Gr.refl (w : World) : Gr w w := ⟨0, #[], by rw [grow_empty]; rfl⟩
theorem Gr.alloc {w w' : World} (h : Gr w w') (o : Obj) : Gr w (w'.alloc o) := by
  obtain ⟨q, os, rfl⟩ := h
  exact ⟨q, os ++ #[o], by rw [alloc_eq_grow, grow_grow]⟩
theorem Gr.drewN {w w' : World} (h : Gr w w') (n : Nat) : Gr w (w'.drewN n) := by
  obtain ⟨q, os, rfl⟩ := h
  exact ⟨q + n, os, by show grow ((w.drewN q).drewN n) os = _; rw [World.drewN_drewN]⟩
theorem Gr.below {w w' : World} (h : Gr w w') : Below w.heap.size w w' := by
  obtain ⟨q, os, rfl⟩ := h
  exact ⟨rfl, rfl, rfl, by simp [grow], fun i hi => by
    show ((w.drewN q).heap ++ os)[i]? = _
    rw [Array.getElem?_append_left (by exact hi)]
    rfl⟩
end Go.Proofs.Ytjikbffnhfoikaa
/- The program's small functions: made, value, active, the keys; the reference's value, visible, Before. -/
namespace Go.Proofs.Ytjikbffnhfoikaa
open Go.RowKit Go.Sort
/-- the value is a slice of the bools vs -/
def Bools (w : World) (v : Value) (vs : List Bool) : Prop :=
  ∃ ao cap, v = .slice ao vs.length cap ∧ vs.length ≤ cap ∧ (vs ≠ [] → ∃ g o, ao = some ⟨g, o, none⟩ ∧ ∀ i b, vs[i]? = some b → w.cell? ⟨g, o + i, none⟩ = some (.bool b))
theorem Bools.nil {w : World} : Bools w (.slice none 0 0) [] := ⟨none, 0, rfl, Nat.le_refl _, fun h => absurd rfl h⟩
theorem Bools.keepB {w w' : World} {v : Value} {vs : List Bool} (h : Bools w v vs) (hb : ∀ g, g < w.heap.size → (∃ o b, w.cell? ⟨g, o, none⟩ = some (.bool b)) → w'.heap[g]? = w.heap[g]?) : Bools w' v vs := by
  obtain ⟨ao, cap, rfl, hc, hr⟩ := h
  refine ⟨ao, cap, rfl, hc, fun hl => ?_⟩
  obtain ⟨g, o, rfl, hR⟩ := hr hl
  obtain ⟨b0, r, rfl⟩ := List.exists_cons_of_ne_nil hl
  have h0 := hR 0 b0 rfl
  have hlt : g < w.heap.size := World.block_lt_of_cell? w ⟨g, o + 0, none⟩ h0
  refine ⟨g, o, rfl, fun i b hi => ?_⟩
  rw [World.cell?_of_block (hb g hlt ⟨_, _, h0⟩)]
  exact hR i b hi
theorem Bools.keep {w w' : World} {v : Value} {vs : List Bool} (h : Bools w v vs) (hb : Below w.heap.size w w') : Bools w' v vs := h.keepB fun g hg _ => hb.block g hg
/-- the cells of a table that New returned -/
def tabC (g : Nat) (ve vv : Value) (m1 m2 m3 : Nat) : Array Value := #[.pointer (some ⟨g, 0, none⟩), ve, vv, ve, .map (some m1), ve, .map (some m2), ve, .map (some m3)]
theorem below_a2 {w : World} {o p : Obj} : Below w.heap.size w ((w.alloc o).alloc p) := ((Below.refl _ _).alloc (Nat.le_refl _) _).alloc (by simp) _
end Go.Proofs.Ytjikbffnhfoikaa
/- Entries in a row that a call owns: appending, joining. -/
namespace Go.Proofs.Ytjikbffnhfoikaa
open Go.RowKit Go.Sort
def OwnE (w : World) (B : Nat) (v : Value) (L : List E) : Prop := w.ownsRow B 61 7 v L.length (L.flatMap cellsE)
theorem fm_len (L : List E) : (L.flatMap cellsE).length = L.length * 7 := by
  induction L with
  | nil => rfl
  | cons x r ih => rw [List.flatMap_cons, List.length_append, ih, cellsE_len, List.length_cons]; omega
theorem fm_get : ∀ (L : List E) (i k : Nat) (x : E), L[i]? = some x → k < 7 → (L.flatMap cellsE)[i * 7 + k]? = (cellsE x)[k]?
  | [], i, k, x, h, _ => by simp at h
  | y :: r, 0, k, x, h, hk => by
    obtain rfl : y = x := by simpa using h
    rw [List.flatMap_cons, List.getElem?_append_left (by rw [cellsE_len]; omega)]
    congr 1; omega
  | y :: r, i + 1, k, x, h, hk => by
    have h' : r[i]? = some x := by simpa using h
    rw [List.flatMap_cons, List.getElem?_append_right (by rw [cellsE_len]; omega), cellsE_len, show (i + 1) * 7 + k - 7 = i * 7 + k by omega]
    exact fm_get r i k x h' hk
theorem fm_of (L : List E) (j : Nat) (u : Value) (h : (L.flatMap cellsE)[j]? = some u) : ∃ x, L[j / 7]? = some x ∧ (cellsE x)[j % 7]? = some u := by
  have hj : j < L.length * 7 := by
    rw [← fm_len]
    exact (List.getElem?_eq_some_iff.1 h).1
  have hi : j / 7 < L.length := by omega
  refine ⟨L[j / 7], List.getElem?_eq_getElem hi, ?_⟩
  rw [← fm_get L (j / 7) (j % 7) _ (List.getElem?_eq_getElem hi) (by omega), show j / 7 * 7 + j % 7 = j by omega]
  exact h
theorem OwnE.nil (w : World) (B : Nat) : OwnE w B (.slice none 0 0) [] := World.ownsRow_nil _ _ _ _
/-- what a row of its own looks like -/
theorem OwnE.form {w : World} {B : Nat} {v : Value} {L : List E} (h : OwnE w B v L) :
    (v = .slice none 0 0 ∧ L = []) ∨ ∃ g cap cur, v = .slice (some ⟨g, 0, none⟩) L.length cap ∧ B ≤ g ∧ w.heap[g]? = some (.cells cur 61 (0, 0)) ∧ L.length ≤ cap ∧ cap ≤ maxLen ∧ cur.size = cap * 7 ∧ ∀ i x, L[i]? = some x → ∀ k, k < 7 → cur[i * 7 + k]? = (cellsE x)[k]? := by
  rcases h.2 with ⟨h1, h2⟩ | ⟨g, cap, cur, h1, h2, h3, h4, h5, h6, h7⟩
  · exact .inl ⟨h1, List.eq_nil_of_length_eq_zero h2⟩
  · refine .inr ⟨g, cap, cur, h1, h2, h3, h4, h5, h6, fun i x hx k hk => ?_⟩
    rw [← fm_get L i k x hx hk, ← h7, List.getElem?_take]
    have : i < L.length := (List.getElem?_eq_some_iff.1 hx).1
    rw [if_pos (by omega)]
    simp
theorem OwnE.mk {w : World} {B g cap : Nat} {cur : Array Value} {L : List E} (hB : B ≤ g) (hg : w.heap[g]? = some (.cells cur 61 (0, 0))) (h4 : L.length ≤ cap) (h5 : cap ≤ maxLen) (h6 : cur.size = cap * 7)
    (h : ∀ i x, L[i]? = some x → ∀ k, k < 7 → cur[i * 7 + k]? = (cellsE x)[k]?) : OwnE w B (.slice (some ⟨g, 0, none⟩) L.length cap) L := by
  refine ⟨fm_len L, .inr ⟨g, cap, cur, rfl, hB, hg, h4, h5, h6, ?_⟩⟩
  apply List.ext_getElem?
  intro j
  rw [List.getElem?_take]
  split
  · rename_i hj
    have hi : j / 7 < L.length := by omega
    have h1 := h (j / 7) L[j / 7] (List.getElem?_eq_getElem hi) (j % 7) (by omega)
    have h2 := fm_get L (j / 7) (j % 7) L[j / 7] (List.getElem?_eq_getElem hi) (by omega)
    rw [show j / 7 * 7 + j % 7 = j by omega] at h1 h2
    rw [h2, ← h1]
    simp
  · rename_i hj
    rw [List.getElem?_eq_none (by rw [fm_len]; omega)]
theorem cells_get {x : E} : (cellsE x)[0]? = some (.int .i64 x.s) ∧ (cellsE x)[1]? = some (.int .i64 x.t) ∧ (cellsE x)[2]? = some (.int .i64 x.c) ∧ (cellsE x)[3]? = some (.int .i64 x.d) ∧
    (cellsE x)[4]? = some (.int .u32 (vI x.a)) ∧ (cellsE x)[5]? = some (.int .u32 (vI x.b)) ∧ (cellsE x)[6]? = some (.int .u32 (vI x.e)) := ⟨rfl, rfl, rfl, rfl, rfl, rfl, rfl⟩
theorem at7_of {w : World} {g o : Nat} {x : E} (h : ∀ k, k < 7 → w.cell? ⟨g, o + k, none⟩ = (cellsE x)[k]?) : At7 w g o x :=
  ⟨h 0 (by decide), h 1 (by decide), h 2 (by decide), h 3 (by decide), h 4 (by decide), h 5 (by decide), h 6 (by decide)⟩
theorem OwnE.ents {w : World} {B : Nat} {v : Value} {L : List E} (h : OwnE w B v L) : Ents w v L := by
  rcases h.form with ⟨rfl, rfl⟩ | ⟨g, cap, cur, rfl, _, hg, h4, _, _, h7⟩
  · exact Ents.nil
  · refine ⟨_, cap, rfl, h4, fun _ => ⟨g, 0, rfl, fun i x hx => at7_of fun k hk => ?_⟩⟩
    rw [cell_of_row w g _ cur _ (0, 0) hg, Nat.zero_add]
    exact h7 i x hx k hk
theorem OwnE.isSl {w : World} {B : Nat} {v : Value} {L : List E} (h : OwnE w B v L) : ∃ ao cap, v = .slice ao L.length cap := by
  rcases h.form with ⟨rfl, rfl⟩ | ⟨g, cap, cur, rfl, _⟩
  · exact ⟨_, _, rfl⟩
  · exact ⟨_, _, rfl⟩
theorem OwnE.kept {w w' : World} {B : Nat} {v : Value} {L : List E} {row : Option Nat} (h : OwnE w B v L) (hg : w.grownBy w' row) (hne : v.ownBlock = none ∨ v.ownBlock ≠ row) : OwnE w' B v L := World.ownsRow.kept h hg hne
theorem OwnE.below {w w' : World} {B : Nat} {v : Value} {L : List E} (h : OwnE w B v L) (hb : Below w.heap.size w w') : OwnE w' B v L :=
  World.ownsRow.kept (row := none) h ⟨hb.os, hb.tape, hb.output, hb.size, fun k hk _ => hb.block k hk⟩ (by cases v.ownBlock <;> simp)
theorem OwnE.base {w : World} {B B' : Nat} {v : Value} {L : List E} (h : OwnE w B v L) (hb : B' ≤ B) : OwnE w B' v L := by
  refine ⟨h.1, ?_⟩
  rcases h.2 with hn | ⟨g, cap, cur, hv, hbg, rest⟩
  · exact .inl hn
  · exact .inr ⟨g, cap, cur, hv, Nat.le_trans hb hbg, rest⟩
theorem infoE : (Try.prog.info? 61).map (fun i => (i.zero, i.size, i.bytes)) = some (some (.agg #[.int .i64 0, .int .i64 0, .int .i64 0, .int .i64 0, .int .u32 0, .int .u32 0, .int .u32 0]), 7, 48) := by kernel_rfl
/-- appending an entry -/
theorem wpList_append_E {w : World} {ops : Array Oper} {rest : List Oper} {o : Oper} {a : Act} {Q : Exit → Act → World → Prop} (hgd : o.guard = none) (s x : Operand)
    (ho : o.op = .call { callee := .builtin .append, args := #[s, x], argTypes := #[52, 52] }) (B : Nat) (v : Value) (L : List E) (N : Nat) (hN : L.length = N) (hs : a.eval s = v) (hown : OwnE w B v L)
    (g : Nat) (y : E) (hx : a.eval x = .slice (some ⟨g, 0, none⟩) 1 1) (hy : Box w g y) (hl : N ≤ 1000000) (hb : B ≤ w.heap.size)
    (h : ∀ g' cap w', OwnE w' B (.slice (some ⟨g', 0, none⟩) (N + 1) cap) (L ++ [y]) → w.grownBy w' v.ownBlock → (v.ownBlock = some g' ∨ g' = w.heap.size) → wpList Try.prog ops Q rest (a.put o.dst (.slice (some ⟨g', 0, none⟩) (N + 1) cap)) w') :
    wpList Try.prog ops Q (o :: rest) a w := by
  subst hN
  obtain ⟨i0, hinf, hz0, hz1, hz2⟩ := info_parts infoE
  refine wpList_append_lies w hgd s x 52 ho B 61 i0 _ 7 48 Try.underlying52 hinf hz0 hz1 hz2 rfl (by decide) v L.length (L.flatMap cellsE) hs hown ⟨g, 0, none⟩ 1 1 (cellsE y) hx rfl
    (World.news_of_block hy) (cellsE_one y) (by decide) (by unfold maxLen; omega) (by omega) hb _ rfl ?_
  intro g' cap w' h1 h2 h3 _
  refine h g' cap w' ?_ h2 h3
  unfold OwnE
  rw [List.length_append, List.flatMap_append]
  simpa using h1
/-- a cell of the last entry is written -/
theorem OwnE.set1 {w : World} {B g n cap : Nat} {m : List E} {y z : E} (k : Nat) (u : Value) (hk : k < 7) (hz : ∀ j, j < 7 → (cellsE z)[j]? = if j = k then some u else (cellsE y)[j]?) (hm : m.length = n) (h : OwnE w B (.slice (some ⟨g, 0, none⟩) (n + 1) cap) (m ++ [y])) :
    OwnE (w.setCell ⟨g, n * 7 + k, none⟩ u) B (.slice (some ⟨g, 0, none⟩) (n + 1) cap) (m ++ [z]) := by
  rcases h.form with ⟨h1, _⟩ | ⟨g', cap', cur, h1, hB, hg, h4, h5, h6, h7⟩
  · simp at h1
  · obtain ⟨rfl, -, rfl⟩ : g = g' ∧ n + 1 = (m ++ [y]).length ∧ cap = cap' := by simpa using h1
    have hl : (m ++ [z]).length = n + 1 := by simp [hm]
    have hl' : (m ++ [y]).length = n + 1 := by simp [hm]
    have hb := Blk.set (show Blk w g _ cur from hg) (n * 7 + k) u
    rw [hl'] at h4
    rw [← hl]
    refine OwnE.mk hB hb (by rw [hl]; exact h4) h5 (by simp [h6]) fun i x hx j hj => ?_
    have hi : i < n + 1 := by rw [← hl]; exact (List.getElem?_eq_some_iff.1 hx).1
    rcases Nat.lt_or_ge i n with hin | hin
    · rw [List.getElem?_append_left (by omega)] at hx
      have := h7 i x (by rw [List.getElem?_append_left (by omega)]; exact hx) j hj
      rw [Array.getElem?_setIfInBounds_ne (by omega)]
      exact this
    · obtain rfl : i = n := by omega
      have e : z = x := by
        rw [List.getElem?_append_right (by omega)] at hx
        simpa [hm] using hx
      subst e
      have h0 := h7 i y (by rw [List.getElem?_append_right (by omega)]; simp [hm]) j hj
      rw [hz j hj]
      split
      · rename_i e
        subst e
        rw [Array.getElem?_setIfInBounds_self_of_lt (by omega)]
      · rw [Array.getElem?_setIfInBounds_ne (by omega)]
        exact h0
theorem OwnE.last {w : World} {B g n cap : Nat} {m : List E} {y : E} (hm : m.length = n) (h : OwnE w B (.slice (some ⟨g, 0, none⟩) (n + 1) cap) (m ++ [y])) :
    At7 w g (n * 7) y ∧ (∀ k, w.frozen? ⟨g, k, none⟩ = false) ∧ g < w.heap.size ∧ n + 1 ≤ cap ∧ B ≤ g ∧ cap ≤ maxLen := by
  rcases h.form with ⟨h1, _⟩ | ⟨g', cap', cur, h1, hB, hg, h4, h5, h6, h7⟩
  · simp at h1
  · obtain ⟨rfl, -, rfl⟩ : g = g' ∧ n + 1 = (m ++ [y]).length ∧ cap = cap' := by simpa using h1
    refine ⟨at7_of fun k hk => ?_, fun k => Blk.frozen (show Blk w g _ cur from hg) k, Blk.lt (show Blk w g _ cur from hg), by simp [hm] at h4; omega, hB, h5⟩
    rw [cell_of_row w g _ cur _ (0, 0) hg]
    exact h7 n y (by rw [List.getElem?_append_right (by omega)]; simp [hm]) k hk
theorem cmpE_eq {x y : E} : cmpE x y = 0 ↔ eqP x y := by
  unfold cmpE eqP
  have h : ∀ a b : Int, cmpI a b = 0 ↔ a = b := fun a b => by
    unfold cmpI; split
    · omega
    · split <;> omega
  rw [← h x.s y.s, ← h x.t y.t, ← h x.c y.c, ← h x.d y.d]
  simp only [orL]
  by_cases h1 : cmpI x.s y.s = 0 <;> by_cases h2 : cmpI x.t y.t = 0 <;> by_cases h3 : cmpI x.c y.c = 0 <;> by_cases h4 : cmpI x.d y.d = 0 <;> simp [h1, h2, h3, h4]
theorem cmpE_lt {x y : E} : cmpE x y < 0 ↔ ltP x y := by
  unfold cmpE ltP
  have h : ∀ a b : Int, cmpI a b = 0 ↔ a = b := fun a b => by
    unfold cmpI; split
    · omega
    · split <;> omega
  have k : ∀ a b : Int, cmpI a b < 0 ↔ a < b := fun a b => by
    unfold cmpI; split
    · omega
    · split <;> omega
  rw [← h x.s y.s, ← h x.t y.t, ← h x.c y.c, ← k x.s y.s, ← k x.t y.t, ← k x.c y.c, ← k x.d y.d]
  simp only [orL]
  by_cases h1 : cmpI x.s y.s = 0 <;> by_cases h2 : cmpI x.t y.t = 0 <;> by_cases h3 : cmpI x.c y.c = 0 <;> by_cases h4 : cmpI x.d y.d = 0 <;> simp [h1, h2, h3, h4]
end Go.Proofs.Ytjikbffnhfoikaa
/- What the reference's Merge needs: an entry at its place; writing into a row of entries; copy. -/
namespace Go.Proofs.Ytjikbffnhfoikaa
open Go.RowKit Go.Sort
theorem ins_mid : ∀ {O : List E} {x : E} {k : Nat} (hk : k < O.length), (∀ j (h : j < k), ltP (O[j]'(Nat.lt_trans h hk)) x) → ¬ ltP O[k] x → ¬ ltP x O[k] → ins O x = O.set k (orE O[k] x)
  | [], x, k, hk, _, _, _ => by simp at hk
  | y :: r, x, 0, _, _, h1, h2 => by
    simp only [List.getElem_cons_zero] at h1 h2
    simp [ins, h1, h2]
  | y :: r, x, k + 1, hk, hl, h1, h2 => by
    have h0 := hl 0 (by omega)
    simp only [List.getElem_cons_zero] at h0
    have ih := ins_mid (O := r) (x := x) (k := k) (by simpa using hk) (fun j h => by have := hl (j + 1) (by omega); simpa using this) (by simpa using h1) (by simpa using h2)
    simp [ins, h0, ih]
theorem ins_new : ∀ {O : List E} {x : E} {k : Nat} (hk : k ≤ O.length), (∀ j (h : j < k), ltP (O[j]'(Nat.lt_of_lt_of_le h hk)) x) → (∀ h : k < O.length, ¬ ltP O[k] x ∧ ltP x O[k]) → ins O x = O.take k ++ (x :: O.drop k)
  | [], x, k, hk, _, _ => by simp at hk; subst hk; rfl
  | y :: r, x, 0, _, _, h => by
    have h1 := h (by simp)
    simp only [List.getElem_cons_zero] at h1
    simp [ins, h1.1, h1.2]
  | y :: r, x, k + 1, hk, hl, h => by
    have h0 := hl 0 (by omega)
    simp only [List.getElem_cons_zero] at h0
    have ih := ins_new (O := r) (x := x) (k := k) (by simpa using hk) (fun j h => by have := hl (j + 1) (by omega); simpa using this) (fun h' => by have := h (by simpa using h'); simpa using this)
    simp [ins, h0, ih]
/-- a cell of an entry in a row of its own is written -/
theorem OwnE.setAt {w : World} {B g n cap i : Nat} {L : List E} {y z : E} (k : Nat) (u : Value) (hk : k < 7) (hy : L[i]? = some y) (hz : ∀ j, j < 7 → (cellsE z)[j]? = if j = k then some u else (cellsE y)[j]?) (hn : L.length = n) (h : OwnE w B (.slice (some ⟨g, 0, none⟩) n cap) L) :
    OwnE (w.setCell ⟨g, i * 7 + k, none⟩ u) B (.slice (some ⟨g, 0, none⟩) n cap) (L.set i z) := by
  rcases h.form with ⟨h1, _⟩ | ⟨g', cap', cur, h1, hB, hg, h4, h5, h6, h7⟩
  · simp at h1
  · obtain ⟨rfl, -, rfl⟩ : g = g' ∧ n = L.length ∧ cap = cap' := by simpa using h1
    have hl : (L.set i z).length = n := by simp [hn]
    have hb := Blk.set (show Blk w g _ cur from hg) (i * 7 + k) u
    rw [← hl]
    refine OwnE.mk hB hb (by rw [hl, ← hn]; exact h4) h5 (by simp [h6]) fun q x hx j hj => ?_
    rw [List.getElem?_set] at hx
    have hil : i < L.length := (List.getElem?_eq_some_iff.1 hy).1
    by_cases e : i = q
    · subst e
      rw [if_pos rfl, if_pos hil] at hx
      cases hx
      have h0 := h7 i y hy j hj
      rw [hz j hj]
      split
      · rename_i e
        subst e
        rw [Array.getElem?_setIfInBounds_self_of_lt (by omega)]
      · rw [Array.getElem?_setIfInBounds_ne (by omega)]
        exact h0
    · rw [if_neg e] at hx
      have h0 := h7 q x hx j hj
      rw [Array.getElem?_setIfInBounds_ne (by omega)]
      exact h0
/-- a whole entry in a row of its own is written -/
theorem OwnE.facts {w : World} {B g n cap : Nat} {L : List E} (hn : L.length = n) (h : OwnE w B (.slice (some ⟨g, 0, none⟩) n cap) L) :
    (∀ i x, L[i]? = some x → At7 w g (i * 7) x) ∧ (∀ k, w.frozen? ⟨g, k, none⟩ = false) ∧ (0 < n → g < w.heap.size) ∧ n ≤ cap ∧ B ≤ g ∧ cap ≤ maxLen := by
  rcases h.form with ⟨h1, _⟩ | ⟨g', cap', cur, h1, hB, hg, h4, h5, h6, h7⟩
  · simp at h1
  · obtain ⟨rfl, -, rfl⟩ : g = g' ∧ n = L.length ∧ cap = cap' := by simpa using h1
    refine ⟨fun i x hx => at7_of fun k hk => ?_, fun k => Blk.frozen (show Blk w g _ cur from hg) k, fun _ => Blk.lt (show Blk w g _ cur from hg), by omega, hB, h5⟩
    rw [cell_of_row w g _ cur _ (0, 0) hg]
    exact h7 i x hx k hk
theorem run_copy_rowE {w : World} (ty : TypeId) (g o dLen dCap : Nat) (a : Addr) (sLen sCap m : Nat) (cur : Array Value) (t : TypeId) (cs : List Value)
    (hg : w.heap[g]? = some (.cells cur t (0, 0))) (hm : Nat.min sLen dLen = m) (hn : cs.length = m * 7)
    (hsrc : ∀ j v, cs[j]? = some v → w.cell? (a.add j) = some v) (hfit : o + cs.length ≤ cur.size) (h1 : ∀ v ∈ cs, v.oneCell' = true) :
    (Builtin.copy_ #[52, 52] ty #[.slice (some ⟨g, o, none⟩) dLen dCap, .slice (some a) sLen sCap]).run Try.prog w =
      .ok (goInt m) (w.setRow g (cur.toList.take o ++ cs ++ cur.toList.drop (o + cs.length)).toArray) := by
  obtain ⟨i0, hinf, hz0, hz1, hz2⟩ := info_parts infoE
  have hl := run_loadCells_list (P := Try.prog) w a cs hsrc
  have hst := run_storeCells_at Try.prog g o t cs 0 cur w hg (by simpa using hfit) h1
  rw [hn] at hl
  simp [Builtin.copy_, run_underlying Try.underlying52, Builtin.lenOf, Builtin.firstCells, sizeOf, typeInfo, hinf, hz1, hm, hl, hst]
theorem run_copy_noneE {w : World} (ty : TypeId) (d a : Option Addr) (dLen dCap sLen sCap : Nat) (hm : Nat.min sLen dLen = 0) :
    (Builtin.copy_ #[52, 52] ty #[.slice d dLen dCap, .slice a sLen sCap]).run Try.prog w = .ok (goInt 0) w := by
  obtain ⟨i0, hinf, hz0, hz1, hz2⟩ := info_parts infoE
  have hl : ∀ (x : Addr), (loadCells x 0).run Try.prog w = .ok #[] w := fun x => by simpa using run_loadCells_list (P := Try.prog) w x [] (by simp)
  cases d <;> cases a <;> simp [Builtin.copy_, run_underlying Try.underlying52, Builtin.lenOf, Builtin.firstCells, sizeOf, typeInfo, hinf, hm, storeCells, hl]
/-- the entries from k on, one place further -/
theorem copyE {w : World} (ty : TypeId) {B g n k cap : Nat} {L : List E} (hn : L.length = n + 1) (hk : k ≤ n) (h : OwnE w B (.slice (some ⟨g, 0, none⟩) (n + 1) cap) L) (dp sp : Option Addr) (dc sc : Nat)
    (hp : k < n → dp = some ⟨g, (k + 1) * 7, none⟩ ∧ sp = some ⟨g, k * 7, none⟩) :
    ∃ w', (Builtin.copy_ #[52, 52] ty #[.slice dp (n - k) dc, .slice sp (n + 1 - k) sc]).run Try.prog w = .ok (goInt ((n - k : Nat) : Int)) w' ∧
      OwnE w' B (.slice (some ⟨g, 0, none⟩) (n + 1) cap) (L.take (k + 1) ++ (L.drop k).take (n - k)) ∧ w.grownBy w' (some g) := by
  have hmin : Nat.min (n + 1 - k) (n - k) = n - k := Nat.min_eq_right (by omega)
  rcases Nat.lt_or_ge k n with hlt | hge
  · obtain ⟨rfl, rfl⟩ := hp hlt
    rcases h.form with ⟨h1, _⟩ | ⟨g', cap', cur, h1, hB, hg, h4, h5, h6, h7⟩
    · simp at h1
    · obtain ⟨rfl, -, rfl⟩ : g = g' ∧ n + 1 = L.length ∧ cap = cap' := by simpa using h1
      have hcl : (((L.drop k).take (n - k)).flatMap cellsE).length = (n - k) * 7 := by rw [fm_len, List.length_take, List.length_drop]; congr 1; omega
      have hr := run_copy_rowE (w := w) ty g ((k + 1) * 7) (n - k) dc ⟨g, k * 7, none⟩ (n + 1 - k) sc (n - k) cur 61 (((L.drop k).take (n - k)).flatMap cellsE) hg hmin hcl (fun j v hj => by
        obtain ⟨x, hx, hv⟩ := fm_of _ j v hj
        rw [List.getElem?_take] at hx
        split at hx
        · rw [List.getElem?_drop] at hx
          have := h7 _ x hx (j % 7) (by omega)
          rw [show (⟨g, k * 7, none⟩ : Addr).add j = ⟨g, (k + j / 7) * 7 + j % 7, none⟩ by
            have e : (k + j / 7) * 7 + j % 7 = k * 7 + j := by omega
            rw [e]; unfold Addr.add; split <;> simp_all]
          rw [cell_of_row w g _ cur _ (0, 0) hg, this, hv]
        · cases hx) (by rw [hcl]; omega) (by intro u hu; obtain ⟨x, _, hx⟩ := List.mem_flatMap.1 hu; exact cellsE_one x u hx)
      refine ⟨_, hr, ?_, ⟨rfl, rfl, rfl, by simp [World.setRow], fun q hq hne => setRow_other w g q _ (by rintro rfl; exact hne rfl)⟩⟩
      have hl : (L.take (k + 1) ++ (L.drop k).take (n - k)).length = n + 1 := by simp [hn]; omega
      have hb := setRow_heap w g cur (cur.toList.take ((k + 1) * 7) ++ ((L.drop k).take (n - k)).flatMap cellsE ++ cur.toList.drop ((k + 1) * 7 + (((L.drop k).take (n - k)).flatMap cellsE).length)).toArray 61 (0, 0) hg
      rw [← hl]
      refine OwnE.mk hB hb (by rw [hl, ← hn]; exact h4) h5 (by simp [hcl, h6]; omega) fun i x hx j hj => ?_
      have htl : ((k + 1) * 7) ≤ cur.toList.length := by simp [h6]; omega
      simp only [List.getElem?_toArray]
      rcases Nat.lt_or_ge i (k + 1) with hik | hik
      · rw [List.getElem?_append_left (by simp [hn]; omega), List.getElem?_take, if_pos hik] at hx
        rw [List.append_assoc, List.getElem?_append_left (by rw [List.length_take]; omega), List.getElem?_take, if_pos (by omega)]
        have := h7 i x hx j hj
        simpa using this
      · have hil : i < n + 1 := by rw [← hl]; exact (List.getElem?_eq_some_iff.1 hx).1
        rw [List.getElem?_append_right (by simp [hn]; omega)] at hx
        have e1 : i - (L.take (k + 1)).length = i - (k + 1) := by simp [hn]; omega
        rw [e1] at hx
        rw [List.append_assoc, List.getElem?_append_right (by rw [List.length_take]; omega), List.getElem?_append_left (by rw [List.length_take, hcl]; omega)]
        have e2 : i * 7 + j - (cur.toList.take ((k + 1) * 7)).length = (i - (k + 1)) * 7 + j := by rw [List.length_take]; omega
        rw [e2]
        exact fm_get _ _ _ x hx hj
  · obtain rfl : k = n := by omega
    refine ⟨w, ?_, ?_, ⟨rfl, rfl, rfl, Nat.le_refl _, fun _ _ _ => rfl⟩⟩
    · have := run_copy_noneE (w := w) ty dp sp (k - k) dc (k + 1 - k) sc (by rw [hmin]; omega)
      simpa using this
    · have e : L.take (k + 1) ++ (L.drop k).take (k - k) = L := by simp [← hn]
      rw [e]; exact h
end Go.Proofs.Ytjikbffnhfoikaa
/- Contracts of package bitset and of its reference, one number at a time: inRange, bit, Has, With, Without. No conditions. -/
namespace Go.Proofs.Ytjikbffnhfoikaa
open Go.RowKit
/-- the bit of a number, as the walk leaves it -/
def bitI (n : Int) : Int := IntKind.u64.wrap (2 ^ (n % 64).toNat)
/-- the word that a number's bit is in -/
def wordI (x0 x1 x2 x3 n : Int) : Int := if n < 64 then x0 else if n < 128 then x1 else if n < 192 then x2 else x3
def hasB (x0 x1 x2 x3 n : Int) : Bool := decide (0 ≤ n) && (decide (n < 256) && (bits .and .u64 (wordI x0 x1 x2 x3 n) (bitI n) != 0))
/-- what With makes of word q, and what Without makes of it -/
def withI (n q x : Int) : Int := if 64 * q ≤ n ∧ n < 64 * q + 64 then bits .or .u64 x (bitI n) else x
def lessI (n q x : Int) : Int := if 64 * q ≤ n ∧ n < 64 * q + 64 then bits .andNot .u64 x (bitI n) else x
theorem withI_in {n q x : Int} (h : 64 * q ≤ n) (h' : n < 64 * q + 64) : withI n q x = bits .or .u64 x (bitI n) := if_pos ⟨h, h'⟩
theorem withI_out {n q x : Int} (h : n < 64 * q ∨ 64 * q + 64 ≤ n) : withI n q x = x := if_neg (by omega)
theorem lessI_in {n q x : Int} (h : 64 * q ≤ n) (h' : n < 64 * q + 64) : lessI n q x = bits .andNot .u64 x (bitI n) := if_pos ⟨h, h'⟩
theorem lessI_out {n q x : Int} (h : n < 64 * q ∨ 64 * q + 64 ≤ n) : lessI n q x = x := if_neg (by omega)
theorem word0 {x0 x1 x2 x3 n : Int} (h : n < 64) : wordI x0 x1 x2 x3 n = x0 := if_pos h
theorem word1 {x0 x1 x2 x3 n : Int} (h : 64 ≤ n) (h' : n < 128) : wordI x0 x1 x2 x3 n = x1 := by unfold wordI; rw [if_neg (by omega), if_pos h']
theorem word2 {x0 x1 x2 x3 n : Int} (h : 128 ≤ n) (h' : n < 192) : wordI x0 x1 x2 x3 n = x2 := by unfold wordI; rw [if_neg (by omega), if_neg (by omega), if_pos h']
theorem word3 {x0 x1 x2 x3 n : Int} (h : 192 ≤ n) : wordI x0 x1 x2 x3 n = x3 := by unfold wordI; rw [if_neg (by omega), if_neg (by omega), if_neg (by omega)]
theorem split4 (x0 x1 x2 x3 n : Int) (h0 : 0 ≤ n) (h1 : n < 256) :
    (0 ≤ n ∧ n < 64 ∧ IntKind.i64.wrap (n.tdiv 64) = 0 ∧ wordI x0 x1 x2 x3 n = x0) ∨ (64 ≤ n ∧ n < 128 ∧ IntKind.i64.wrap (n.tdiv 64) = 1 ∧ wordI x0 x1 x2 x3 n = x1) ∨
      (128 ≤ n ∧ n < 192 ∧ IntKind.i64.wrap (n.tdiv 64) = 2 ∧ wordI x0 x1 x2 x3 n = x2) ∨ (192 ≤ n ∧ n < 256 ∧ IntKind.i64.wrap (n.tdiv 64) = 3 ∧ wordI x0 x1 x2 x3 n = x3) := by
  have hn : (0 ≤ n ∧ n < 64) ∨ (64 ≤ n ∧ n < 128) ∨ (128 ≤ n ∧ n < 192) ∨ (192 ≤ n ∧ n < 256) := by omega
  rw [Int.tdiv_eq_ediv_of_nonneg h0, IntWalk.i64_in _ (by omega)]
  rcases hn with ⟨l, u⟩ | ⟨l, u⟩ | ⟨l, u⟩ | ⟨l, u⟩
  · exact .inl ⟨l, u, by omega, word0 u⟩
  · exact .inr (.inl ⟨l, u, by omega, word1 l u⟩)
  · exact .inr (.inr (.inl ⟨l, u, by omega, word2 l u⟩))
  · exact .inr (.inr (.inr ⟨l, u, by omega, word3 l⟩))
theorem ret_bool {a b : Bool} (h : a = b) : Ending.returned (.bool a) = .returned (.bool b) := by rw [h]

theorem inr_yes (n : Int) (w : World) (h0 : 0 ≤ n) (h1 : n < 256) :
    Calls Try.prog 68 #[.int .i64 n] w fun e w' => e = .returned (.bool true) ∧ w' = w := by
  go_enter Try.func68, Try.ntmps68
  go_wp2
  go_ret
  exact ⟨rfl, rfl⟩
theorem inr_no (n : Int) (w : World) (h : n < 0 ∨ 256 ≤ n) :
    Calls Try.prog 68 #[.int .i64 n] w fun e w' => e = .returned (.bool false) ∧ w' = w := by
  rcases h with h | h
  · go_enter Try.func68, Try.ntmps68
    go_wp2
    go_ret
    exact ⟨rfl, rfl⟩
  · have h2 : 0 ≤ n := by omega
    have h3 : decide (n < 256) = false := by simp; omega
    go_enter Try.func68, Try.ntmps68
    go_wp2
    go_ret
    exact ⟨rfl, rfl⟩
theorem bit_c (n : Int) (w : World) (h0 : 0 ≤ n) (_h1 : n < 256) :
    Calls Try.prog 69 #[.int .i64 n] w fun e w' => e = .returned (.int .u64 (bitI n)) ∧ w' = w := by
  go_enter Try.func69, Try.ntmps69
  go_wp2
  go_ret
  exact ⟨rfl, rfl⟩
theorem rbit_c (n : Int) (w : World) (h0 : 0 ≤ n) (_h1 : n < 256) :
    Calls Try.prog 56 #[.int .i64 n] w fun e w' => e = .returned (.int .u64 (bitI n)) ∧ w' = w := by
  go_enter Try.func56, Try.ntmps56
  go_wp2
  go_ret
  exact ⟨rfl, rfl⟩

theorem hasB_in {x0 x1 x2 x3 n : Int} (h0 : 0 ≤ n) (h1 : n < 256) : hasB x0 x1 x2 x3 n = (bits .and .u64 (wordI x0 x1 x2 x3 n) (bitI n) != 0) := by
  unfold hasB
  rw [decide_eq_true h0, decide_eq_true h1]
  rfl
theorem hasB_out {x0 x1 x2 x3 n : Int} (h : n < 0 ∨ 256 ≤ n) : hasB x0 x1 x2 x3 n = false := by
  unfold hasB
  rcases h with h | h
  · rw [decide_eq_false (by omega)]; rfl
  · rw [decide_eq_false (p := n < 256) (by omega)]; simp
set_option maxHeartbeats 1000000 in
theorem has_c (x0 x1 x2 x3 n : Int) (w : World) :
    Calls Try.prog 55 #[.agg #[.int .u64 x0, .int .u64 x1, .int .u64 x2, .int .u64 x3], .int .i64 n] w fun e w' => e = .returned (.bool (hasB x0 x1 x2 x3 n)) ∧ Below w.heap.size w w' := by
  by_cases h : n < 0 ∨ 256 ≤ n
  · rw [hasB_out h]
    go_enter Try.func55, Try.ntmps55
    go_wp2_with fail
    go_quiet ((go_at_call 68; exact Calls.quiet_of_same (inr_no _ _ h)))
    go_wp2
    go_ret
    exact ⟨rfl, below_drewN ((Below.refl _ _).alloc (Nat.le_refl _) _) _⟩
  · have h0 : 0 ≤ n := by omega
    have h1 : n < 256 := by omega
    clear h
    rw [hasB_in h0 h1]
    rcases split4 x0 x1 x2 x3 n h0 h1 with ⟨l, u, hq, hx⟩ | ⟨l, u, hq, hx⟩ | ⟨l, u, hq, hx⟩ | ⟨l, u, hq, hx⟩ <;> rw [hx] <;> clear hx
    all_goals
      go_enter Try.func55, Try.ntmps55
      go_wp2_with fail
      go_quiet ((first | (go_at_call 68; exact Calls.quiet_of_same (inr_yes _ _ h0 h1)) | (go_at_call 69; exact Calls.quiet_of_same (bit_c _ _ h0 h1))))
      go_wp2
      go_ret
      exact ⟨rfl, below_drewN ((Below.refl _ _).alloc (Nat.le_refl _) _) _⟩
set_option maxHeartbeats 1000000 in
theorem rhas_c (x0 x1 x2 x3 n : Int) (w : World) :
    Calls Try.prog 28 #[.agg #[.int .u64 x0, .int .u64 x1, .int .u64 x2, .int .u64 x3], .int .i64 n] w fun e w' => e = .returned (.bool (hasB x0 x1 x2 x3 n)) ∧ Below w.heap.size w w' := by
  by_cases h : n < 0 ∨ 256 ≤ n
  · rw [hasB_out h]
    have h' : decide (0 ≤ n) = false ∨ (0 ≤ n ∧ decide (n < 256) = false) := by
      rcases h with h | h
      · exact .inl (decide_eq_false (by omega))
      · exact .inr ⟨by omega, decide_eq_false (by omega)⟩
    clear h
    rcases h' with d0 | ⟨d1, d0⟩
    all_goals
      go_enter Try.func28, Try.ntmps28
      go_wp2_with fail
      go_quiet (fail)
      go_wp2
      go_ret
      exact ⟨rfl, below_drewN ((Below.refl _ _).alloc (Nat.le_refl _) _) _⟩
  · have h0 : 0 ≤ n := by omega
    have h1 : n < 256 := by omega
    clear h
    rw [hasB_in h0 h1]
    rcases split4 x0 x1 x2 x3 n h0 h1 with ⟨l, u, hq, hx⟩ | ⟨l, u, hq, hx⟩ | ⟨l, u, hq, hx⟩ | ⟨l, u, hq, hx⟩ <;> rw [hx] <;> clear hx
    all_goals
      go_enter Try.func28, Try.ntmps28
      go_wp2_with fail
      go_quiet ((go_at_call 56; exact Calls.quiet_of_same (rbit_c _ _ h0 h1)))
      go_wp2
      go_ret
      exact ⟨rfl, below_drewN ((Below.refl _ _).alloc (Nat.le_refl _) _) _⟩
end Go.Proofs.Ytjikbffnhfoikaa
/- Contracts of With and Without of package bitset and of its reference. No conditions. -/
namespace Go.Proofs.Ytjikbffnhfoikaa
open Go.RowKit

set_option maxHeartbeats 2000000 in
theorem with_c (x0 x1 x2 x3 n : Int) (w : World) :
    Calls Try.prog 45 #[.agg #[.int .u64 x0, .int .u64 x1, .int .u64 x2, .int .u64 x3], .int .i64 n] w fun e w' => e = .returned (.agg #[.int .u64 (withI n 0 x0), .int .u64 (withI n 1 x1), .int .u64 (withI n 2 x2), .int .u64 (withI n 3 x3)]) ∧ Below w.heap.size w w' := by
  by_cases h : n < 0 ∨ 256 ≤ n
  · rw [withI_out (q := 0) (by omega), withI_out (q := 1) (by omega), withI_out (q := 2) (by omega), withI_out (q := 3) (by omega)]
    go_enter Try.func45, Try.ntmps45
    go_wp2_with (go_at_call 68; refine (inr_no _ _ h).mono ?_; rintro e w' ⟨rfl, rfl⟩)
    exact bodyPost_ret (v := .agg #[.int .u64 x0, .int .u64 x1, .int .u64 x2, .int .u64 x3]) (by simp [results, Try.results45, go_sem]) rfl ⟨rfl, ((Below.refl _ _).alloc (Nat.le_refl _) _).alloc (by simp) _⟩
  · have h0 : 0 ≤ n := by omega
    have h1 : n < 256 := by omega
    clear h
    rcases split4 x0 x1 x2 x3 n h0 h1 with ⟨l, u, hq, _⟩ | ⟨l, u, hq, _⟩ | ⟨l, u, hq, _⟩ | ⟨l, u, hq, _⟩
    · rw [withI_in (q := 0) (by omega) (by omega), withI_out (q := 1) (by omega), withI_out (q := 2) (by omega), withI_out (q := 3) (by omega)]
      go_enter Try.func45, Try.ntmps45
      go_wp2_with (go_at_call 68; refine (inr_yes _ _ h0 h1).mono ?_; rintro e w' ⟨rfl, rfl⟩)
      go_region_with (go_at_call 69; refine (bit_c _ _ h0 h1).mono ?_; rintro e w' ⟨rfl, rfl⟩)
      all_goals
        go_wp2
        exact bodyPost_ret (v := .agg #[.int .u64 (bits .or .u64 x0 (bitI n)), .int .u64 x1, .int .u64 x2, .int .u64 x3]) (by simp [results, Try.results45, go_sem]) rfl ⟨rfl, (((Below.refl _ _).alloc (Nat.le_refl _) _).alloc (by simp) _).drew⟩
    · rw [withI_out (q := 0) (by omega), withI_in (q := 1) (by omega) (by omega), withI_out (q := 2) (by omega), withI_out (q := 3) (by omega)]
      go_enter Try.func45, Try.ntmps45
      go_wp2_with (go_at_call 68; refine (inr_yes _ _ h0 h1).mono ?_; rintro e w' ⟨rfl, rfl⟩)
      go_region_with (go_at_call 69; refine (bit_c _ _ h0 h1).mono ?_; rintro e w' ⟨rfl, rfl⟩)
      all_goals
        go_wp2
        exact bodyPost_ret (v := .agg #[.int .u64 x0, .int .u64 (bits .or .u64 x1 (bitI n)), .int .u64 x2, .int .u64 x3]) (by simp [results, Try.results45, go_sem]) rfl ⟨rfl, (((Below.refl _ _).alloc (Nat.le_refl _) _).alloc (by simp) _).drew⟩
    · rw [withI_out (q := 0) (by omega), withI_out (q := 1) (by omega), withI_in (q := 2) (by omega) (by omega), withI_out (q := 3) (by omega)]
      go_enter Try.func45, Try.ntmps45
      go_wp2_with (go_at_call 68; refine (inr_yes _ _ h0 h1).mono ?_; rintro e w' ⟨rfl, rfl⟩)
      go_region_with (go_at_call 69; refine (bit_c _ _ h0 h1).mono ?_; rintro e w' ⟨rfl, rfl⟩)
      all_goals
        go_wp2
        exact bodyPost_ret (v := .agg #[.int .u64 x0, .int .u64 x1, .int .u64 (bits .or .u64 x2 (bitI n)), .int .u64 x3]) (by simp [results, Try.results45, go_sem]) rfl ⟨rfl, (((Below.refl _ _).alloc (Nat.le_refl _) _).alloc (by simp) _).drew⟩
    · rw [withI_out (q := 0) (by omega), withI_out (q := 1) (by omega), withI_out (q := 2) (by omega), withI_in (q := 3) (by omega) (by omega)]
      go_enter Try.func45, Try.ntmps45
      go_wp2_with (go_at_call 68; refine (inr_yes _ _ h0 h1).mono ?_; rintro e w' ⟨rfl, rfl⟩)
      go_region_with (go_at_call 69; refine (bit_c _ _ h0 h1).mono ?_; rintro e w' ⟨rfl, rfl⟩)
      all_goals
        go_wp2
        exact bodyPost_ret (v := .agg #[.int .u64 x0, .int .u64 x1, .int .u64 x2, .int .u64 (bits .or .u64 x3 (bitI n))]) (by simp [results, Try.results45, go_sem]) rfl ⟨rfl, (((Below.refl _ _).alloc (Nat.le_refl _) _).alloc (by simp) _).drew⟩

set_option maxHeartbeats 2000000 in
theorem rwith_c (x0 x1 x2 x3 n : Int) (w : World) :
    Calls Try.prog 52 #[.agg #[.int .u64 x0, .int .u64 x1, .int .u64 x2, .int .u64 x3], .int .i64 n] w fun e w' => e = .returned (.agg #[.int .u64 (withI n 0 x0), .int .u64 (withI n 1 x1), .int .u64 (withI n 2 x2), .int .u64 (withI n 3 x3)]) ∧ Below w.heap.size w w' := by
  by_cases h : n < 0 ∨ 256 ≤ n
  · rw [withI_out (q := 0) (by omega), withI_out (q := 1) (by omega), withI_out (q := 2) (by omega), withI_out (q := 3) (by omega)]
    have h' : decide (0 ≤ n) = false ∨ (0 ≤ n ∧ decide (n < 256) = false) := by
      rcases h with h | h
      · exact .inl (decide_eq_false (by omega))
      · exact .inr ⟨by omega, decide_eq_false (by omega)⟩
    clear h
    rcases h' with d0 | ⟨d1, d0⟩
    all_goals
      go_enter Try.func52, Try.ntmps52
      go_wp2
      exact bodyPost_ret (v := .agg #[.int .u64 x0, .int .u64 x1, .int .u64 x2, .int .u64 x3]) (by simp [results, Try.results52, go_sem]) rfl ⟨rfl, ((Below.refl _ _).alloc (Nat.le_refl _) _).alloc (by simp) _⟩
  · have h0 : 0 ≤ n := by omega
    have h1 : n < 256 := by omega
    clear h
    rcases split4 x0 x1 x2 x3 n h0 h1 with ⟨l, u, hq, _⟩ | ⟨l, u, hq, _⟩ | ⟨l, u, hq, _⟩ | ⟨l, u, hq, _⟩
    · rw [withI_in (q := 0) (by omega) (by omega), withI_out (q := 1) (by omega), withI_out (q := 2) (by omega), withI_out (q := 3) (by omega)]
      go_enter Try.func52, Try.ntmps52
      go_wp2_with fail
      go_region_with (go_at_call 56; refine (rbit_c _ _ h0 h1).mono ?_; rintro e w' ⟨rfl, rfl⟩)
      all_goals
        go_wp2
        exact bodyPost_ret (v := .agg #[.int .u64 (bits .or .u64 x0 (bitI n)), .int .u64 x1, .int .u64 x2, .int .u64 x3]) (by simp [results, Try.results52, go_sem]) rfl ⟨rfl, (((Below.refl _ _).alloc (Nat.le_refl _) _).alloc (by simp) _).drew⟩
    · rw [withI_out (q := 0) (by omega), withI_in (q := 1) (by omega) (by omega), withI_out (q := 2) (by omega), withI_out (q := 3) (by omega)]
      go_enter Try.func52, Try.ntmps52
      go_wp2_with fail
      go_region_with (go_at_call 56; refine (rbit_c _ _ h0 h1).mono ?_; rintro e w' ⟨rfl, rfl⟩)
      all_goals
        go_wp2
        exact bodyPost_ret (v := .agg #[.int .u64 x0, .int .u64 (bits .or .u64 x1 (bitI n)), .int .u64 x2, .int .u64 x3]) (by simp [results, Try.results52, go_sem]) rfl ⟨rfl, (((Below.refl _ _).alloc (Nat.le_refl _) _).alloc (by simp) _).drew⟩
    · rw [withI_out (q := 0) (by omega), withI_out (q := 1) (by omega), withI_in (q := 2) (by omega) (by omega), withI_out (q := 3) (by omega)]
      go_enter Try.func52, Try.ntmps52
      go_wp2_with fail
      go_region_with (go_at_call 56; refine (rbit_c _ _ h0 h1).mono ?_; rintro e w' ⟨rfl, rfl⟩)
      all_goals
        go_wp2
        exact bodyPost_ret (v := .agg #[.int .u64 x0, .int .u64 x1, .int .u64 (bits .or .u64 x2 (bitI n)), .int .u64 x3]) (by simp [results, Try.results52, go_sem]) rfl ⟨rfl, (((Below.refl _ _).alloc (Nat.le_refl _) _).alloc (by simp) _).drew⟩
    · rw [withI_out (q := 0) (by omega), withI_out (q := 1) (by omega), withI_out (q := 2) (by omega), withI_in (q := 3) (by omega) (by omega)]
      go_enter Try.func52, Try.ntmps52
      go_wp2_with fail
      go_region_with (go_at_call 56; refine (rbit_c _ _ h0 h1).mono ?_; rintro e w' ⟨rfl, rfl⟩)
      all_goals
        go_wp2
        exact bodyPost_ret (v := .agg #[.int .u64 x0, .int .u64 x1, .int .u64 x2, .int .u64 (bits .or .u64 x3 (bitI n))]) (by simp [results, Try.results52, go_sem]) rfl ⟨rfl, (((Below.refl _ _).alloc (Nat.le_refl _) _).alloc (by simp) _).drew⟩

end Go.Proofs.Ytjikbffnhfoikaa
/- Contracts of Of of package bitset and of its reference: any list of numbers. Condition: none but that the list lies in memory. -/
namespace Go.Proofs.Ytjikbffnhfoikaa
open Go.RowKit
/-- a block that is known whole -/
def At (w : World) (g : Nat) (t : TypeId) (cs : Array Value) : Prop := w.heap[g]? = some (.cells cs t (0, 0))
theorem At.cell {w : World} {g : Nat} {t : TypeId} {cs : Array Value} (h : At w g t cs) (i : Nat) : w.cell? ⟨g, i, none⟩ = cs[i]? := cell_of_row w g i cs t (0, 0) h
theorem At.frozen {w : World} {g : Nat} {t : TypeId} {cs : Array Value} (h : At w g t cs) (i : Nat) : w.frozen? ⟨g, i, none⟩ = false := by
  unfold At at h
  simp [World.frozen?, h]
theorem At.lt {w : World} {g : Nat} {t : TypeId} {cs : Array Value} (h : At w g t cs) : g < w.heap.size := by
  rcases Nat.lt_or_ge g w.heap.size with hlt | hge
  · exact hlt
  · unfold At at h; rw [Array.getElem?_eq_none hge] at h; cases h
theorem At.new (w : World) (t : TypeId) (cs : Array Value) : At (w.alloc (.cells cs t)) w.heap.size t cs := heap_alloc_new w _
theorem At.alloc {w : World} {g : Nat} {t : TypeId} {cs : Array Value} (h : At w g t cs) (o : Obj) : At (w.alloc o) g t cs := (Below.heap_alloc w o g h.lt).trans h
theorem At.below {B : Nat} {w w' : World} {g : Nat} {t : TypeId} {cs : Array Value} (h : At w g t cs) (hb : Below B w w') (hg : g < B) : At w' g t cs := (hb.block g hg).trans h

theorem At.set {w : World} {g : Nat} {t : TypeId} {cs : Array Value} (h : At w g t cs) (i : Nat) (u : Value) : At (w.setCell ⟨g, i, none⟩ u) g t (cs.setIfInBounds i u) := by
  unfold At at h ⊢
  simp [World.setCell, Array.getElem?_modify, h]
theorem At.far {w : World} {g : Nat} {t : TypeId} {cs : Array Value} (h : At w g t cs) {p : Addr} (hp : g ≠ p.block) (u : Value) : At (w.setCell p u) g t cs := (Below.heap_setCell w p u g hp).trans h
/-- a variable that holds a set -/
def Quad (w : World) (g : Nat) (a b c d : Int) : Prop := At w g 24 #[.int .u64 a, .int .u64 b, .int .u64 c, .int .u64 d]
theorem Quad.facts {w : World} {g : Nat} {a b c d : Int} (h : Quad w g a b c d) :
    w.cell? ⟨g, 0, none⟩ = some (.int .u64 a) ∧ w.cell? ⟨g, 1, none⟩ = some (.int .u64 b) ∧ w.cell? ⟨g, 2, none⟩ = some (.int .u64 c) ∧ w.cell? ⟨g, 3, none⟩ = some (.int .u64 d) ∧
    w.frozen? ⟨g, 0, none⟩ = false ∧ w.frozen? ⟨g, 1, none⟩ = false ∧ w.frozen? ⟨g, 2, none⟩ = false ∧ w.frozen? ⟨g, 3, none⟩ = false :=
  ⟨At.cell h 0, At.cell h 1, At.cell h 2, At.cell h 3, At.frozen h 0, At.frozen h 1, At.frozen h 2, At.frozen h 3⟩
theorem Quad.set4 {w : World} {g : Nat} {a b c d : Int} (h : Quad w g a b c d) (a' b' c' d' : Int) :
    Quad ((((w.setCell ⟨g, 0, none⟩ (.int .u64 a')).setCell ⟨g, 1, none⟩ (.int .u64 b')).setCell ⟨g, 2, none⟩ (.int .u64 c')).setCell ⟨g, 3, none⟩ (.int .u64 d')) g a' b' c' d' := by
  have k := (((At.set h 0 (.int .u64 a')).set 1 (.int .u64 b')).set 2 (.int .u64 c')).set 3 (.int .u64 d')
  simpa [Quad] using k
theorem Quad.lt {w : World} {g : Nat} {a b c d : Int} (h : Quad w g a b c d) : g < w.heap.size := At.lt h
theorem Quad.new (w : World) (a b c d : Int) : Quad (w.alloc (.cells #[.int .u64 a, .int .u64 b, .int .u64 c, .int .u64 d] 24)) w.heap.size a b c d := At.new _ _ _
theorem Quad.alloc {w : World} {g : Nat} {a b c d : Int} (h : Quad w g a b c d) (o : Obj) : Quad (w.alloc o) g a b c d := At.alloc h o
theorem Quad.below {B : Nat} {w w' : World} {g : Nat} {a b c d : Int} (h : Quad w g a b c d) (hb : Below B w w') (hg : g < B) : Quad w' g a b c d := At.below h hb hg
theorem Quad.far4 {w : World} {g g' : Nat} {a b c d a' b' c' d' : Int} (h : Quad w g a b c d) (hne : g ≠ g') :
    Quad ((((w.setCell ⟨g', 0, none⟩ (.int .u64 a')).setCell ⟨g', 1, none⟩ (.int .u64 b')).setCell ⟨g', 2, none⟩ (.int .u64 c')).setCell ⟨g', 3, none⟩ (.int .u64 d')) g a b c d :=
  At.far (At.far (At.far (At.far h hne _) hne _) hne _) hne _
theorem below_set4 {B : Nat} {a w : World} (h : Below B a w) {g : Nat} (hg : B ≤ g) (x0 x1 x2 x3 : Value) :
    Below B a ((((w.setCell ⟨g, 0, none⟩ x0).setCell ⟨g, 1, none⟩ x1).setCell ⟨g, 2, none⟩ x2).setCell ⟨g, 3, none⟩ x3) :=
  (((h.setCell (p := ⟨g, 0, none⟩) hg _).setCell (p := ⟨g, 1, none⟩) hg _).setCell (p := ⟨g, 2, none⟩) hg _).setCell (p := ⟨g, 3, none⟩) hg _

def ofI (l : List Int) (q : Int) : Int := l.foldl (fun x n => withI n q x) 0
theorem ofI_snoc (l : List Int) (n q : Int) : ofI (l ++ [n]) q = withI n q (ofI l q) := by unfold ofI; rw [List.foldl_append]; rfl
/-- a slice of ints that lies in memory -/
def Ints (w : World) (A : Option Addr) (l : List Int) : Prop := ∀ i, i < l.length → ∃ b off, A = some ⟨b, off, none⟩ ∧ w.cell? ⟨b, off + i, none⟩ = some (.int .i64 (l.getD i 0)) ∧ b < w.heap.size
theorem Ints.below {w w' : World} {A : Option Addr} {l : List Int} (h : Ints w A l) (hb : Below w.heap.size w w') : Ints w' A l := fun i hi => by
  obtain ⟨b, off, e, hc, hlt⟩ := h i hi
  exact ⟨b, off, e, (hb.cell (p := ⟨b, off + i, none⟩) hlt).trans hc, Nat.lt_of_lt_of_le hlt hb.size⟩
theorem ofI_take (l : List Int) (k : Nat) (h : k < l.length) (q : Int) : ofI (l.take (k + 1)) q = withI l[k] q (ofI (l.take k) q) := by
  rw [List.take_succ_eq_append_getElem h, ofI_snoc]
theorem set_ret {fn : Func} {tmps : Array Value} {t : Tmp} {w : World} {g : Nat} {a b c d : Int} (h : fn.results = #[.cell t 24]) (ht : tmps.getD t undef = .pointer (some ⟨g, 0, none⟩)) (q : Quad w g a b c d) :
    (results fn tmps).run Try.prog w = .ok (.agg #[.int .u64 a, .int .u64 b, .int .u64 c, .int .u64 d]) w := by
  obtain ⟨c0, c1, c2, c3, _⟩ := q.facts
  have ht' : tmps[t]?.getD undef = .pointer (some ⟨g, 0, none⟩) := by simpa using ht
  simp [results, h, ht', go_sem, c0, c1, c2, c3]
theorem quad_second (w : World) : Quad ((w.alloc (.cells #[.int .u64 0, .int .u64 0, .int .u64 0, .int .u64 0] 24)).alloc (.cells #[.int .u64 0, .int .u64 0, .int .u64 0, .int .u64 0] 24)) (w.heap.size + 1) 0 0 0 0 := by
  have h := Quad.new (w.alloc (.cells #[.int .u64 0, .int .u64 0, .int .u64 0, .int .u64 0] 24)) 0 0 0 0
  simpa using h
/-- the numbers below k, and those of All -/
def below (k : Nat) : List Int := (List.range k).map fun (i : Nat) => (i : Int)
def allN (n : Int) : Nat := (min n 256).toNat
def allL (n : Int) : List Int := below (allN n)
theorem allN_le (n : Int) : allN n ≤ 256 := by unfold allN; omega
theorem allN_lt {n : Int} {k : Nat} (h : k < allN n) : (k : Int) < n ∧ (k : Int) < 256 := by unfold allN at h; omega
theorem allN_end (n : Int) : n ≤ (allN n : Int) ∨ 256 ≤ (allN n : Int) := by unfold allN; omega
theorem ofI_below (k : Nat) (q : Int) : ofI (below (k + 1)) q = withI k q (ofI (below k) q) := by
  unfold below
  rw [List.range_succ, List.map_append]
  exact ofI_snoc _ _ _
set_option maxHeartbeats 1000000 in
theorem rof_c (A : Option Addr) (l : List Int) (cap : Nat) (w : World) (hl : Ints w A l) (hm : l.length ≤ maxLen) :
    Calls Try.prog 29 #[.slice A l.length cap] w fun e w' => e = .returned (.agg #[.int .u64 (ofI l 0), .int .u64 (ofI l 1), .int .u64 (ofI l 2), .int .u64 (ofI l 3)]) ∧ Below w.heap.size w w' := by
  unfold maxLen at hm
  go_enter Try.func29, Try.ntmps29
  go_wp2
  go_loopw [4] (fun i wr => ∃ k : Nat, k ≤ l.length ∧ i = .int .i64 k ∧ Quad wr w.heap.size 0 0 0 0 ∧
      Quad wr (w.heap.size + 1) (ofI (l.take k) 0) (ofI (l.take k) 1) (ofI (l.take k) 2) (ofI (l.take k) 3) ∧ Below w.heap.size w wr)
    (fun i _ => l.length - (intOf i).toNat)
  case atStart => exact ⟨0, Nat.zero_le _, rfl, (Quad.new _ _ _ _ _).alloc _, quad_second w, ((Below.refl _ _).alloc (Nat.le_refl _) _).alloc (by simp) _⟩
  case round =>
    obtain ⟨k, hk, rfl, hz, hs, hb⟩ := hrel
    obtain ⟨c0, c1, c2, c3, _⟩ := hs.facts
    have hsz := hs.lt
    by_cases hlt : k < l.length
    · obtain ⟨b, off, hA, hc, hbl⟩ := hl k hlt
      subst hA
      have hcr := (hb.cell (p := ⟨b, off + k, none⟩) hbl).trans hc
      have E : ∀ q, Hid (ofI (l.take (k + 1)) q = withI l[k] q (ofI (l.take k) q)) := fun q => ofI_take l k hlt q
      clear hc
      go_wp2
      go_region_with (go_at_call 52; refine (rwith_c _ _ _ _ _ _).mono ?_; rintro e w' ⟨rfl, hb'⟩; obtain ⟨d0, d1, d2, d3, f0, f1, f2, f3⟩ := (Quad.below (w := wr.drew) hs hb' hsz).facts)
      all_goals
        go_wp2
        go_roundw
        case rel =>
          refine ⟨k + 1, by omega, by go_num, (Quad.below (w := wr.drew) hz hb' hz.lt).far4 (by omega), ?_, below_set4 (hb.drew.trans (hb'.mono hb.size)) (by omega) _ _ _ _⟩
          rw [(E 0).out, (E 1).out, (E 2).out, (E 3).out]
          exact (Quad.below (w := wr.drew) hs hb' hsz).set4 _ _ _ _
        case measure => simp [intOf]; omega
    · obtain ⟨d0, d1, d2, d3, f0, f1, f2, f3⟩ := hz.facts
      obtain rfl : k = l.length := by omega
      rw [List.take_length] at c0 c1 c2 c3
      go_wp2
      exact bodyPost_ret (v := (.agg #[.int .u64 (ofI l 0), .int .u64 (ofI l 1), .int .u64 (ofI l 2), .int .u64 (ofI l 3)])) (set_ret Try.results29 rfl (hz.set4 _ _ _ _)) rfl ⟨rfl, below_set4 hb (Nat.le_refl _) _ _ _ _⟩
end Go.Proofs.Ytjikbffnhfoikaa
/- Contracts of All of package bitset and of its reference: any int. -/
namespace Go.Proofs.Ytjikbffnhfoikaa
open Go.RowKit
end Go.Proofs.Ytjikbffnhfoikaa
