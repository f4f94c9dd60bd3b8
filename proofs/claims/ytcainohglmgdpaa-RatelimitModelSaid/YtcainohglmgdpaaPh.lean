/- A region that draws its order, whose operations may make memory: what each operation yields is told by a property that stands while memory grows; each operation is run once, from the properties of those that it waits for; behind the region all properties hold, whatever the order was. -/
import Derived.Test.YtcainohglmgdpaaMm
import Derived.StillTail
namespace Go.Proofs.Ytcainohglmgdpaa
open Go.RowKit Go
section
variable {P : Program} {ops : Array Oper} {n : Nat} {W : World} {a0 : Act} {Φ : Nat → Value → World → Prop} {Q : Exit → Act → World → Prop}
/-- what an operation's run leaves: a value with the property, and all that was there as it was -/
def GivesR (P : Program) (w : World) (φ : Value → World → Prop) : Result Next → Prop
  | .ok (.value u) w' => Below w.heap.size w w' ∧ φ u w'
  | .ok .skip w' => Below w.heap.size w w' ∧ φ undef w'
  | .ok (.enter f args) w' => w' = w ∧ Calls P f args w fun e w'' => ∃ v, e = .returned v ∧ Below w.heap.size w w'' ∧ φ v w''
  | _ => False
def Gives (P : Program) (o : Oper) (A : Act) (w : World) (φ : Value → World → Prop) : Prop := GivesR P w φ ((execOp A.eval o).run P w)
theorem Gives.wp {o : Oper} {a : Act} {w : World} {φ : Value → World → Prop} {K : Act → World → Prop} (h : Gives P o a w φ) (hk : ∀ u w', Below w.heap.size w w' → φ u w' → K (a.put o.dst u) w') : o.wp P a w K Q := by
  unfold Gives at h
  unfold Oper.wp
  generalize (execOp a.eval o).run P w = r at *
  cases r with
  | ok nx w' =>
    cases nx <;> simp only [GivesR] at h <;> simp only [Oper.upon]
    case value u => exact hk _ _ h.1 h.2
    case skip => exact hk _ _ h.1 h.2
    case enter f args =>
      obtain ⟨e1, hc⟩ := h
      rw [e1]
      exact hc.mono fun e w'' ⟨v, he, hb, hv⟩ => by subst he; exact hk _ _ hb hv
  | halt x w' => simp only [GivesR] at h
/-- which operation of the head writes a slot -/
def srcOf (ops : Array Oper) (n : Nat) (t : Nat) : Option Nat := (List.range n).find? fun j => match ops[j]? with | some o => o.dst == some t | none => false
def waitsOn (o : Oper) (j : Nat) : Bool := o.after.any fun e => Region.binds .any e && e.on == j
/-- what is known of a slot when an operation runs -/
def factAt (ops : Array Oper) (n : Nat) (Φ : Nat → Value → World → Prop) (a0 : Act) (o : Oper) (A : Act) (w : World) (t : Nat) : Prop :=
  match srcOf ops n t with
  | none => A.eval (.tmp t) = a0.eval (.tmp t)
  | some j => waitsOn o j = true → Φ j (A.eval (.tmp t)) w
/-- what is known of a slot behind the head -/
def factEnd (ops : Array Oper) (n : Nat) (Φ : Nat → Value → World → Prop) (a0 : Act) (A : Act) (w : World) (t : Nat) : Prop :=
  match srcOf ops n t with
  | none => A.eval (.tmp t) = a0.eval (.tmp t)
  | some j => Φ j (A.eval (.tmp t)) w
def phiB (ops : Array Oper) (n N : Nat) : Bool :=
  (List.range n).all fun i => match ops[i]? with
  | some o => (o.after.all fun e => !Region.binds .any e || decide (e.on < i)) && (match o.dst with | some t => decide (t < N) && (srcOf ops n t == some i) | none => true) &&
      (match o.guard with | none => true | some (j, _) => decide (j < n) && waitsOn o j && (match ops[j]? with | some oj => oj.dst.isSome | none => false))
  | none => false
/-- what is to be shown of an operation -/
def obOf (P : Program) (ops : Array Oper) (n : Nat) (W : World) (a0 : Act) (Φ : Nat → Value → World → Prop) (i : Nat) (o : Oper) : Prop :=
  (match o.guard with | none => True | some (j, b) => ∀ v w, Φ j v w → v = .bool b) ∧ ∀ A w, Kp W w → (∀ t, factAt ops n Φ a0 o A w t) → Gives P o A w (Φ i)
structure PhInv (ops : Array Oper) (n : Nat) (W : World) (a0 : Act) (Φ : Nat → Value → World → Prop) (listed : Array Bool) (a : Act) (w : World) : Prop where
  kp : Kp W w
  size : a.tmps.size = a0.tmps.size
  defers : a.defers = a0.defers
  out : ∀ t, srcOf ops n t = none → a.eval (.tmp t) = a0.eval (.tmp t)
  phi : ∀ j oj t, j < n → ops[j]? = some oj → oj.dst = some t → listed.getD j false = true → Φ j (a.eval (.tmp t)) w
def cntU (n : Nat) (listed : Array Bool) : Nat := (List.range n).countP fun i => !listed.getD i true
theorem cnt_step (p q : Nat → Bool) (i : Nat) (hp : p i = true) (hq : q i = false) (h : ∀ j, j ≠ i → q j = p j) : ∀ N, i < N → (List.range N).countP q + 1 = (List.range N).countP p
  | 0, hi => absurd hi (by omega)
  | N + 1, hi => by
    rw [List.range_succ, List.countP_append, List.countP_append, List.countP_singleton, List.countP_singleton]
    by_cases e : i = N
    · subst e
      rw [hp, hq]
      have : (List.range i).countP q = (List.range i).countP p := List.countP_congr fun j hj => by
        rw [h j (by have := List.mem_range.1 hj; omega)]
      simp [this]
    · have ih := cnt_step p q i hp hq h N (by omega)
      rw [h N (fun e' => e e'.symm)]
      omega
theorem least {p : Nat → Prop} : ∀ (k : Nat), p k → ∃ i, i ≤ k ∧ p i ∧ ∀ j, j < i → ¬ p j := fun k => by
  induction k using Nat.strongRecOn with
  | _ k ih =>
    intro hk
    by_cases h : ∃ j, j < k ∧ p j
    · obtain ⟨j, hj, hpj⟩ := h
      obtain ⟨i, hi, hpi, hm⟩ := ih j hj hpj
      exact ⟨i, by omega, hpi, hm⟩
    · exact ⟨k, Nat.le_refl _, hk, fun j hj hpj => h ⟨j, hj, hpj⟩⟩
theorem phiB_at {N i : Nat} (h : phiB ops n N = true) (hi : i < n) : ∃ o, ops[i]? = some o ∧ (∀ e ∈ o.after, Region.binds .any e = true → e.on < i) ∧ (∀ t, o.dst = some t → t < N ∧ srcOf ops n t = some i) ∧ (∀ j b, o.guard = some (j, b) → j < n ∧ waitsOn o j = true ∧ ∃ oj t, ops[j]? = some oj ∧ oj.dst = some t) := by
  have h1 := List.all_eq_true.1 h i (List.mem_range.2 hi)
  cases ho : ops[i]? with
  | none => rw [ho] at h1; cases h1
  | some o =>
    rw [ho] at h1
    simp only [Bool.and_eq_true] at h1
    obtain ⟨⟨h2, h3⟩, h4⟩ := h1
    refine ⟨o, rfl, fun e he hb => ?_, fun t ht => ?_, fun j b hg => ?_⟩
    · have := Array.all_eq_true'.1 h2 e he
      simpa [hb] using this
    · rw [ht] at h3
      simpa using h3
    · rw [hg] at h4
      simp only [Bool.and_eq_true, decide_eq_true_eq] at h4
      obtain ⟨⟨h5, h6⟩, h7⟩ := h4
      refine ⟨h5, h6, ?_⟩
      cases hj : ops[j]? with
      | none => rw [hj] at h7; cases h7
      | some oj =>
        rw [hj] at h7
        exact ⟨oj, oj.dst.get h7, rfl, by simp⟩
theorem waitsOn_spec {o : Oper} {j : Nat} (h : waitsOn o j = true) : ∃ e ∈ o.after, Region.binds .any e = true ∧ e.on = j := by
  obtain ⟨e, he, hb⟩ := Array.any_eq_true'.1 h
  simp only [Bool.and_eq_true, beq_iff_eq] at hb
  exact ⟨e, he, hb.1, hb.2⟩
theorem srcOf_some {t j : Nat} (h : srcOf ops n t = some j) : j < n ∧ ∃ o, ops[j]? = some o ∧ o.dst = some t := by
  unfold srcOf at h
  have h1 := List.mem_of_find?_eq_some h
  have h2 := List.find?_some h
  refine ⟨List.mem_range.1 h1, ?_⟩
  cases ho : ops[j]? with
  | none => rw [ho] at h2; cases h2
  | some o => rw [ho] at h2; exact ⟨o, rfl, by simpa using h2⟩
theorem eval_same {a : Act} {t : Nat} {v : Value} (h : t < a.tmps.size) : (a.put (some t) v).eval (.tmp t) = v := by
  simp [Act.eval, Act.put, h]
theorem put_size (a : Act) (d : Option Tmp) (v : Value) : (a.put d v).tmps.size = a.tmps.size := by
  cases d <;> simp [Act.put]
theorem put_def (a : Act) (d : Option Tmp) (v : Value) : (a.put d v).defers = a.defers := by
  cases d <;> rfl
theorem phi_head {g : Nat} (hB : phiB ops n a0.tmps.size = true) (hst : ∀ i v w w', Φ i v w → Below w.heap.size w w' → Φ i v w')
    (ob : ∀ i o, i < n → ops[i]? = some o → obOf P ops n W a0 Φ i o)
    (hready : ∀ listed, HeadInv .any ops n listed → (∃ i, i < n ∧ listed.getD i true = false) → ∀ t, n ≤ t → t ∉ Region.ready .any ops listed)
    (leaf : ∀ listed a w, PhInv ops n W a0 Φ listed a w → HeadInv .any ops n listed → (∀ i, i < n → listed.getD i true = true) → wpAny P .any ops Q g listed a w) :
    ∀ (f : Nat) (listed : Array Bool) (a : Act) (w : World), HeadInv .any ops n listed → PhInv ops n W a0 Φ listed a w → cntU n listed = f → wpAny P .any ops Q (f + g) listed a w := by
  intro f
  induction f with
  | zero =>
    intro listed a w hi hv hc
    rw [Nat.zero_add]
    refine leaf listed a w hv hi fun i hin => ?_
    have := List.countP_eq_zero.1 hc i (List.mem_range.2 hin)
    simpa using this
  | succ f ih =>
    intro listed a w hi hv hc
    have hex : ∃ i, i < n ∧ listed.getD i true = false := by
      have hpos : 0 < cntU n listed := by omega
      obtain ⟨i, him, hib⟩ := List.countP_pos_iff.1 hpos
      exact ⟨i, List.mem_range.1 him, by simpa using hib⟩
    have hr := hready listed hi hex
    rw [show f + 1 + g = (f + g) + 1 by omega]
    refine ⟨fun h0 => ?_, fun i him => ?_⟩
    · obtain ⟨k, hkn, hk⟩ := hex
      obtain ⟨i, hik, hil, hmin⟩ := least (p := fun i => listed.getD i true = false) k hk
      obtain ⟨o, ho, hlow, _⟩ := phiB_at hB (show i < n by omega)
      have : i ∈ Region.ready .any ops listed := mem_ready.2 ⟨hil, o, ho, fun e he hb => by
        have h1 := hlow e he hb
        have h2 := hmin e.on h1
        have h3 : e.on < listed.size := by
          rw [hi.size]
          have := (Array.getElem?_eq_some_iff.1 ho).1
          omega
        simp only [Array.getD_eq_getD_getElem?, Array.getElem?_eq_getElem h3, Option.getD_some] at h2 ⊢
        simpa using h2⟩
      rw [h0] at this
      cases this
    · have hin : i < n := by
        rcases Nat.lt_or_ge i n with h | h
        · exact h
        · exact absurd him (hr i h)
      obtain ⟨hil, oi, hoi, hall⟩ := mem_ready.1 him
      obtain ⟨o', ho', hlow, hdst, hgd⟩ := phiB_at hB hin
      obtain rfl : o' = oi := Option.some.inj (ho'.symm.trans hoi)
      obtain ⟨og, ov⟩ := ob i o' hin hoi
      have hlist : ∀ j, waitsOn o' j = true → listed.getD j false = true := fun j hj => by
        obtain ⟨e, he, hb, rfl⟩ := waitsOn_spec hj
        exact hall e he hb
      have hfact : ∀ t, factAt ops n Φ a0 o' a w t := fun t => by
        unfold factAt
        cases hs : srcOf ops n t with
        | none => exact hv.out t hs
        | some j =>
          intro hw
          obtain ⟨hjn, oj, hoj, hdj⟩ := srcOf_some hs
          exact hv.phi j oj t hjn hoj hdj (hlist j hw)
      have hwant : Region.wanted o' (yielded ops a.tmps) = true := by
        unfold Region.wanted
        cases hg : o'.guard with
        | none => rfl
        | some jb =>
          obtain ⟨j, b⟩ := jb
          obtain ⟨hjn, hwj, oj, t, hoj, hdj⟩ := hgd j b hg
          rw [hg] at og
          have hval := og _ _ (hv.phi j oj t hjn hoj hdj (hlist j hwj))
          obtain ⟨_, hoj2, _, hd2, _⟩ := phiB_at hB hjn
          obtain rfl := Option.some.inj (hoj2.symm.trans hoj)
          have ht := (hd2 t hdj).1
          rw [← hv.size] at ht
          have hval2 : a.tmps[t]? = some (.bool b) := by
            simp only [Act.eval, Array.getD_eq_getD_getElem?, Array.getElem?_eq_getElem ht, Option.getD_some] at hval
            rw [Array.getElem?_eq_getElem ht, hval]
          simp [yielded, hoj, hdj, hval2]
      unfold wpOp
      simp only [hoi, hwant, if_true]
      refine .inl ((ov a w hv.kp hfact).wp fun u w' hb hu => ?_)
      refine ih _ _ _ (hi.set him hin) ⟨hv.kp.step hb, by rw [put_size]; exact hv.size, by rw [put_def]; exact hv.defers, fun t ht => ?_, fun j oj t hjn hoj hdj hlj => ?_⟩ ?_
      · rw [Act.eval_put (fun d hd e => ?_)]
        · exact hv.out t ht
        · cases e
          rw [(hdst t hd).2] at ht
          cases ht
      · by_cases hji : j = i
        · subst hji
          obtain rfl := Option.some.inj (hoj.symm.trans hoi)
          rw [hdj, eval_same (by rw [hv.size]; exact (hdst t hdj).1)]
          exact hu
        · rw [getD_set_ne false (Ne.symm hji)] at hlj
          rw [Act.eval_put (fun d hd e => ?_)]
          · exact hst _ _ _ _ (hv.phi j oj t hjn hoj hdj hlj) hb
          · cases e
            obtain ⟨_, hoj2, _, hd2, _⟩ := phiB_at hB hjn
            obtain rfl := Option.some.inj (hoj2.symm.trans hoj)
            have e1 := (hd2 t hdj).2
            rw [(hdst t hd).2] at e1
            exact hji (Option.some.inj e1).symm
      · have := cnt_step (fun j => !listed.getD j true) (fun j => !(listed.setIfInBounds i true).getD j true) i (by rw [hil]; rfl) (by
            have : i < listed.size := by rw [hi.size]; exact (Array.getElem?_eq_some_iff.1 hoi).1
            simp [this]) (fun j hj => by rw [getD_set_ne true (Ne.symm hj)]) n hin
        unfold cntU at hc ⊢
        omega
end
/-- the whole region: no tail -/
theorem wp_region_phi {P : Program} {id : Nat} {Q : Exit → Act → World → Prop} {a0 : Act} {W : World} {l : List Oper} (Φ : Nat → Value → World → Prop) (hm : P.follows .mixedOrders = true)
    (hB : phiB l.toArray l.toArray.size a0.tmps.size = true) (hst : ∀ i v w w', Φ i v w → Below w.heap.size w w' → Φ i v w')
    (ob : ∀ i o, i < l.toArray.size → l.toArray[i]? = some o → obOf P l.toArray l.toArray.size W a0 Φ i o)
    (h : ∀ a w, Kp W w → a.tmps.size = a0.tmps.size → a.defers = a0.defers → (∀ t, factEnd l.toArray l.toArray.size Φ a0 a w t) → Q .normal a w) : (Code.region id l.toArray true).wp P Q a0 W := by
  refine wp_region_any hm ?_
  have hno : ∀ listed t, l.toArray.size ≤ t → t ∉ Region.ready .any l.toArray listed := fun listed t ht hr => by
    obtain ⟨_, o, ho, _⟩ := mem_ready.1 hr
    have := (Array.getElem?_eq_some_iff.1 ho).1
    omega
  have := phi_head (P := P) (Q := Q) (g := 0) (W := W) (a0 := a0) hB hst ob (fun listed _ _ t ht => hno listed t ht) (fun listed a w hv hi hall => by
    refine ⟨?_, h a w hv.kp hv.size hv.defers fun t => ?_⟩
    · cases hr : Region.ready .any l.toArray listed with
      | nil => rfl
      | cons i r =>
        have him : i ∈ Region.ready .any l.toArray listed := by rw [hr]; simp
        obtain ⟨hil, o, ho, _⟩ := mem_ready.1 him
        have := hall i (Array.getElem?_eq_some_iff.1 ho).1
        rw [hil] at this
        cases this
    · unfold factEnd
      cases hs : srcOf l.toArray l.toArray.size t with
      | none => exact hv.out t hs
      | some j =>
        obtain ⟨hjn, oj, hoj, hdj⟩ := srcOf_some hs
        refine hv.phi j oj t hjn hoj hdj ?_
        have h1 := hall j hjn
        have h2 : j < listed.size := by rw [hi.size]; exact hjn
        simp only [Array.getD_eq_getD_getElem?, Array.getElem?_eq_getElem h2, Option.getD_some] at h1 ⊢
        exact h1) l.toArray.size (Array.replicate l.toArray.size false) a0 { W with drawn := W.drawn + 1 }
    ⟨by simp, fun j oj _ hl => (by rw [getD_replicate_false] at hl; cases hl), fun t ht ht' => absurd ht' (by omega)⟩
    ⟨(Below.refl _ _).drew, rfl, rfl, fun _ _ => rfl, fun j oj t _ _ _ hl => (by rw [getD_replicate_false] at hl; cases hl)⟩ (by
      unfold cntU
      rw [List.countP_eq_length.2 fun i hi => by
        rw [getD_in (by simpa using List.mem_range.1 hi) (getD_replicate_false _ _)]; rfl]
      simp)
  simpa using this
end Go.Proofs.Ytcainohglmgdpaa
