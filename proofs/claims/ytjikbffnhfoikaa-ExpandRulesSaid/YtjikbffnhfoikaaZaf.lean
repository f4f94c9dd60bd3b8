/- Phg Phh Ezh Ezi Ezj Ezk -/
import Derived.Test.YtjikbffnhfoikaaZae
import Derived.BigRegion
import Derived.Deep.DeepCutAuto
/- A region that draws its order, whose operations may make memory, append to a row, store, assign to a variable that an operation ahead of them reads: each operation has a relation of worlds (what it may change) and a property of what it leaves, which the other operations' relations keep; each operation is run once; behind the region all properties hold, whatever the order was. -/
namespace Go.Proofs.Ytjikbffnhfoikaa
open Go.RowKit Go
section
variable {P : Program} {ops : Array Oper} {C : (Nat → Bool) → World → Prop} {Rel : Nat → World → World → Prop} {a0 : Act} {Φ : Nat → Value → World → Prop} {Q : Exit → Act → World → Prop}
/-- the property of what an operation has left: of its slot, or of some value where it writes none -/
def outP (φ : Value → World → Prop) (a : Act) (w : World) : Option Tmp → Prop
  | some t => φ (a.eval (.tmp t)) w
  | none => ∃ v, φ v w
theorem outP.any {φ : Value → World → Prop} {a : Act} {w : World} : ∀ {d : Option Tmp}, outP φ a w d → ∃ v, φ v w
  | some _, h => ⟨_, h⟩
  | none, h => h
/-- what an operation's run leaves -/
def GivR (P : Program) (rel : World → World → Prop) (w : World) (φ : Value → World → Prop) : Result Next → Prop
  | .ok (.value u) w' => rel w w' ∧ φ u w'
  | .ok .skip w' => rel w w' ∧ φ undef w'
  | .ok (.enter f args) w' => w' = w ∧ Calls P f args w fun e w'' => ∃ v, e = .returned v ∧ rel w w'' ∧ φ v w''
  | _ => False
def Giv (P : Program) (o : Oper) (A : Act) (rel : World → World → Prop) (w : World) (φ : Value → World → Prop) : Prop := GivR P rel w φ ((execOp A.eval o).run P w)
theorem Giv.wp {o : Oper} {a : Act} {rel : World → World → Prop} {w : World} {φ : Value → World → Prop} {K : Act → World → Prop} (h : Giv P o a rel w φ) (hk : ∀ u w', rel w w' → φ u w' → K (a.put o.dst u) w') : o.wp P a w K Q := by
  unfold Giv at h
  unfold Oper.wp
  generalize (execOp a.eval o).run P w = r at *
  cases r with
  | ok nx w' =>
    cases nx <;> simp only [GivR] at h <;> simp only [Oper.upon]
    case value u => exact hk _ _ h.1 h.2
    case skip => exact hk _ _ h.1 h.2
    case enter f args =>
      obtain ⟨e1, hc⟩ := h
      rw [e1]
      exact hc.mono fun e w'' ⟨v, he, hb, hv⟩ => by subst he; exact hk _ _ hb hv
  | halt x w' => simp only [GivR] at h
def afterB (ops : Array Oper) (j i : Nat) : Bool := match ops[j]? with
  | some oj => waitsOn oj i
  | none => false
/-- what is known of a slot when an operation runs: the property of what wrote it, or, where what writes it waits for this operation, what stood there ahead of the region -/
def facG (ops : Array Oper) (Φ : Nat → Value → World → Prop) (a0 : Act) (i : Nat) (o : Oper) (A : Act) (w : World) (t : Nat) : Prop :=
  match srcOf ops ops.size t with
  | none => A.eval (.tmp t) = a0.eval (.tmp t)
  | some j => (waitsOn o j = true → Φ j (A.eval (.tmp t)) w) ∧ (afterB ops j i = true → A.eval (.tmp t) = a0.eval (.tmp t))
def endG (ops : Array Oper) (Φ : Nat → Value → World → Prop) (a0 : Act) (A : Act) (w : World) (t : Nat) : Prop :=
  match srcOf ops ops.size t with
  | none => A.eval (.tmp t) = a0.eval (.tmp t)
  | some j => Φ j (A.eval (.tmp t)) w
/-- what is to be shown of an operation -/
def obG (P : Program) (ops : Array Oper) (C : (Nat → Bool) → World → Prop) (Rel : Nat → World → World → Prop) (a0 : Act) (Φ : Nat → Value → World → Prop) (i : Nat) (o : Oper) : Prop :=
  (match o.guard with | none => True | some (j, b) => ∀ v w, Φ j v w → v = .bool b) ∧ ∀ A w d, d i = false → C d w → (∀ t, facG ops Φ a0 i o A w t) → (∀ j, waitsOn o j = true → ∃ v, Φ j v w) → ∀ K Q, (∀ u w', Rel i w w' → Φ i u w' → K (A.put o.dst u) w') → o.wp P A w K Q
def obGs (P : Program) (ops : Array Oper) (C : (Nat → Bool) → World → Prop) (Rel : Nat → World → World → Prop) (a0 : Act) (Φ : Nat → Value → World → Prop) : Nat → List Oper → Prop
  | _, [] => True
  | k, o :: r => obG P ops C Rel a0 Φ k o ∧ obGs P ops C Rel a0 Φ (k + 1) r
theorem obGs_at : ∀ {l : List Oper} {k : Nat}, obGs P ops C Rel a0 Φ k l → ∀ i o, l[i]? = some o → obG P ops C Rel a0 Φ (k + i) o
  | [], _, _, i, o, h => by simp at h
  | x :: l, k, h, 0, o, ho => by
    obtain rfl : x = o := by simpa using ho
    exact h.1
  | x :: l, k, h, i + 1, o, ho => by
    have := obGs_at h.2 i o (by simpa using ho)
    rwa [show k + (i + 1) = k + 1 + i by omega]
structure GInv (ops : Array Oper) (C : (Nat → Bool) → World → Prop) (a0 : Act) (Φ : Nat → Value → World → Prop) (listed : Array Bool) (a : Act) (w : World) : Prop where
  c : C (fun j => listed.getD j false) w
  size : a.tmps.size = a0.tmps.size
  defers : a.defers = a0.defers
  out : ∀ t, srcOf ops ops.size t = none → a.eval (.tmp t) = a0.eval (.tmp t)
  phi : ∀ j oj, ops[j]? = some oj → listed.getD j false = true → outP (Φ j) a w oj.dst
  old : ∀ j oj t, ops[j]? = some oj → oj.dst = some t → listed.getD j false = false → a.eval (.tmp t) = a0.eval (.tmp t)
theorem gen_head (hB : phiB ops ops.size a0.tmps.size = true) (hC : ∀ i d w w', d i = false → C d w → Rel i w w' → C (fun j => if j = i then true else d j) w') (ban : List (Nat × Nat)) (hban : (ban.all fun p => afterB ops p.1 p.2) = true) (hst : ∀ i j v w w', i ≠ j → (i, j) ∉ ban → Φ i v w → Rel j w w' → Φ i v w')
    (ob : ∀ i o, ops[i]? = some o → obG P ops C Rel a0 Φ i o)
    (hready : ∀ listed t, ops.size ≤ t → t ∉ Region.ready .any ops listed)
    (leaf : ∀ listed a w, GInv ops C a0 Φ listed a w → HeadInv .any ops ops.size listed → (∀ i, i < ops.size → listed.getD i true = true) → wpAny P .any ops Q 0 listed a w) :
    ∀ (f : Nat) (listed : Array Bool) (a : Act) (w : World), HeadInv .any ops ops.size listed → GInv ops C a0 Φ listed a w → cntU ops.size listed = f → wpAny P .any ops Q f listed a w := by
  intro f
  induction f with
  | zero =>
    intro listed a w hi hv hc
    refine leaf listed a w hv hi fun i hin => ?_
    have := List.countP_eq_zero.1 hc i (List.mem_range.2 hin)
    simpa using this
  | succ f ih =>
    intro listed a w hi hv hc
    have hex : ∃ i, i < ops.size ∧ listed.getD i true = false := by
      have hpos : 0 < cntU ops.size listed := by omega
      obtain ⟨i, him, hib⟩ := List.countP_pos_iff.1 hpos
      exact ⟨i, List.mem_range.1 him, by simpa using hib⟩
    refine ⟨fun h0 => ?_, fun i him => ?_⟩
    · obtain ⟨k, hkn, hk⟩ := hex
      obtain ⟨i, hik, hil, hmin⟩ := least (p := fun i => listed.getD i true = false) k hk
      obtain ⟨o, ho, hlow, _⟩ := phiB_at hB (show i < ops.size by omega)
      have : i ∈ Region.ready .any ops listed := mem_ready.2 ⟨hil, o, ho, fun e he hb => by
        have h1 := hlow e he hb
        have h2 := hmin e.on h1
        have h3 : e.on < listed.size := by
          rw [hi.size]
          have := (Array.getElem?_eq_some_iff.1 ho).1
          omega
        simp only [Array.getD_eq_getD_getElem?, Array.getElem?_eq_getElem h3, Option.getD_some] at h2 ⊢
        simpa using h2⟩
      rw [h0] at this
      cases this
    · have hin : i < ops.size := by
        rcases Nat.lt_or_ge i ops.size with h | h
        · exact h
        · exact absurd him (hready listed i h)
      obtain ⟨hil, oi, hoi, hall⟩ := mem_ready.1 him
      have hil2 : listed.getD i false = false := by
        have h3 : i < listed.size := by rw [hi.size]; exact hin
        simp only [Array.getD_eq_getD_getElem?, Array.getElem?_eq_getElem h3, Option.getD_some] at hil ⊢
        exact hil
      obtain ⟨o', ho', hlow, hdst, hgd⟩ := phiB_at hB hin
      obtain rfl : o' = oi := Option.some.inj (ho'.symm.trans hoi)
      obtain ⟨og, ov⟩ := ob i o' hoi
      have hlist : ∀ j, waitsOn o' j = true → listed.getD j false = true := fun j hj => by
        obtain ⟨e, he, hb, rfl⟩ := waitsOn_spec hj
        exact hall e he hb
      have hfact : ∀ t, facG ops Φ a0 i o' a w t := fun t => by
        unfold facG
        cases hs : srcOf ops ops.size t with
        | none => exact hv.out t hs
        | some j =>
          obtain ⟨hjn, oj, hoj, hdj⟩ := srcOf_some hs
          refine ⟨fun hw => ?_, fun hw => ?_⟩
          · have := hv.phi j oj hoj (hlist j hw)
            rw [hdj] at this
            exact this
          · refine hv.old j oj t hoj hdj ?_
            unfold afterB at hw
            rw [hoj] at hw
            cases hl : listed.getD j false with
            | false => rfl
            | true =>
              obtain ⟨e, he, hb, rfl⟩ := waitsOn_spec hw
              have := hi.closed j oj hoj hl e he hb
              rw [hil2] at this
              cases this
      have hwaits : ∀ j, waitsOn o' j = true → ∃ v, Φ j v w := fun j hj => by
        obtain ⟨e, he, hb, rfl⟩ := waitsOn_spec hj
        have h1 := hlow e he hb
        obtain ⟨oj, hoj, _⟩ := phiB_at hB (show e.on < ops.size by omega)
        exact (hv.phi e.on oj hoj (hlist e.on hj)).any
      have hwant : Region.wanted o' (yielded ops a.tmps) = true := by
        unfold Region.wanted
        cases hg : o'.guard with
        | none => rfl
        | some jb =>
          obtain ⟨j, b⟩ := jb
          obtain ⟨hjn, hwj, oj, t, hoj, hdj⟩ := hgd j b hg
          rw [hg] at og
          have hp := hv.phi j oj hoj (hlist j hwj)
          rw [hdj] at hp
          have hval : a.eval (.tmp t) = .bool b := og _ _ hp
          obtain ⟨_, hoj2, _, hd2, _⟩ := phiB_at hB hjn
          obtain rfl := Option.some.inj (hoj2.symm.trans hoj)
          have ht := (hd2 t hdj).1
          rw [← hv.size] at ht
          have hval2 : a.tmps[t]? = some (.bool b) := by
            simp only [Act.eval, Array.getD_eq_getD_getElem?, Array.getElem?_eq_getElem ht, Option.getD_some] at hval
            rw [Array.getElem?_eq_getElem ht, hval]
          simp [yielded, hoj, hdj, hval2]
      have hother : ∀ (u : Value) j oj t, ops[j]? = some oj → oj.dst = some t → j ≠ i → (a.put o'.dst u).eval (.tmp t) = a.eval (.tmp t) := fun u j oj t hoj hdj hji => by
        rw [Act.eval_put (fun d hd e => ?_)]
        cases e
        obtain ⟨_, hoj2, _, hd2, _⟩ := phiB_at hB (Array.getElem?_eq_some_iff.1 hoj).1
        obtain rfl := Option.some.inj (hoj2.symm.trans hoj)
        have e1 := (hd2 t hdj).2
        rw [(hdst t hd).2] at e1
        exact hji (Option.some.inj e1).symm
      unfold wpOp
      simp only [hoi, hwant, if_true]
      refine .inl (ov a w (fun j => listed.getD j false) hil2 hv.c hfact hwaits _ _ fun u w' hb hu => ?_)
      refine ih _ _ _ (hi.set him hin) ⟨by
        have h1 := hC i (fun j => listed.getD j false) w w' hil2 hv.c hb
        have e : (fun j => (listed.setIfInBounds i true).getD j false) = fun j => if j = i then true else listed.getD j false := funext fun j => by
          by_cases hji : j = i
          · subst hji
            have h3 : j < listed.size := by rw [hi.size]; exact hin
            simp [h3]
          · rw [getD_set_ne false (Ne.symm hji), if_neg hji]
        rw [e]; exact h1, by rw [put_size]; exact hv.size, by rw [put_def]; exact hv.defers, fun t ht => ?_, fun j oj hoj hlj => ?_, fun j oj t hoj hdj hlj => ?_⟩ ?_
      · rw [Act.eval_put (fun d hd e => ?_)]
        · exact hv.out t ht
        · cases e
          rw [(hdst t hd).2] at ht
          cases ht
      · by_cases hji : j = i
        · subst hji
          obtain rfl := Option.some.inj (hoj.symm.trans hoi)
          cases hd : oj.dst with
          | none => exact ⟨u, hu⟩
          | some t =>
            show Φ j ((a.put (some t) u).eval (.tmp t)) w'
            rw [eval_same (by rw [hv.size]; exact (hdst t hd).1)]
            exact hu
        · rw [getD_set_ne false (Ne.symm hji)] at hlj
          have h0 := hv.phi j oj hoj hlj
          have hnb : (j, i) ∉ ban := fun hb2 => by
            have h1 := List.all_eq_true.1 hban _ hb2
            unfold afterB at h1
            rw [hoj] at h1
            obtain ⟨e, he, hbe, hei⟩ := waitsOn_spec h1
            have h2 := hi.closed j oj hoj hlj e he hbe
            rw [hei] at h2
            rw [hil2] at h2
            cases h2
          cases hd : oj.dst with
          | none =>
            rw [hd] at h0
            obtain ⟨v, h0⟩ := h0
            exact ⟨v, hst _ _ _ _ _ hji hnb h0 hb⟩
          | some t =>
            rw [hd] at h0
            have h1 := hst _ _ _ _ _ hji hnb h0 hb
            show Φ j ((a.put o'.dst u).eval (.tmp t)) w'
            rw [hother u j oj t hoj hd hji]
            exact h1
      · by_cases hji : j = i
        · subst hji
          exfalso
          have h3 : j < listed.size := by rw [hi.size]; exact hin
          simp [h3] at hlj
        · rw [getD_set_ne false (Ne.symm hji)] at hlj
          rw [hother u j oj t hoj hdj hji]
          exact hv.old j oj t hoj hdj hlj
      · have := cnt_step (fun j => !listed.getD j true) (fun j => !(listed.setIfInBounds i true).getD j true) i (by rw [hil]; rfl) (by
            have : i < listed.size := by rw [hi.size]; exact (Array.getElem?_eq_some_iff.1 hoi).1
            simp [this]) (fun j hj => by rw [getD_set_ne true (Ne.symm hj)]) ops.size hin
        unfold cntU at hc ⊢
        omega
end
theorem wp_region_gen {P : Program} {id : Nat} {Q : Exit → Act → World → Prop} {a0 : Act} {W : World} {l : List Oper} (C : (Nat → Bool) → World → Prop) (Rel : Nat → World → World → Prop) (Φ : Nat → Value → World → Prop) (hm : P.follows .mixedOrders = true)
    (hB : phiB l.toArray l.toArray.size a0.tmps.size = true) (hC0 : C (fun _ => false) { W with drawn := W.drawn + 1 }) (hC : ∀ i d w w', d i = false → C d w → Rel i w w' → C (fun j => if j = i then true else d j) w') (ban : List (Nat × Nat)) (hban : (ban.all fun p => afterB l.toArray p.1 p.2) = true) (hst : ∀ i j v w w', i ≠ j → (i, j) ∉ ban → Φ i v w → Rel j w w' → Φ i v w')
    (ob : obGs P l.toArray C Rel a0 Φ 0 l)
    (h : ∀ a w d, (∀ j, j < l.length → d j = true) → C d w → a.tmps.size = a0.tmps.size → a.defers = a0.defers → (∀ t, endG l.toArray Φ a0 a w t) → (∀ j, j < l.length → ∃ v, Φ j v w) → Q .normal a w) : (Code.region id l.toArray true).wp P Q a0 W := by
  refine wp_region_any hm ?_
  have hno : ∀ listed t, l.toArray.size ≤ t → t ∉ Region.ready .any l.toArray listed := fun listed t ht hr => by
    obtain ⟨_, o, ho, _⟩ := mem_ready.1 hr
    have := (Array.getElem?_eq_some_iff.1 ho).1
    omega
  have := gen_head (P := P) (Q := Q) (C := C) (Rel := Rel) (Φ := Φ) (a0 := a0) hB hC ban hban hst (fun i o ho => by have := obGs_at ob i o (by simpa using ho); rwa [Nat.zero_add] at this) (fun listed t ht => hno listed t ht) (fun listed a w hv hi hall => by
    have hl : ∀ j, j < l.toArray.size → listed.getD j false = true := fun j hj => by
      have h1 := hall j hj
      have h2 : j < listed.size := by rw [hi.size]; exact hj
      simp only [Array.getD_eq_getD_getElem?, Array.getElem?_eq_getElem h2, Option.getD_some] at h1 ⊢
      exact h1
    refine ⟨?_, h a w _ (fun j hj => hl j (by simpa using hj)) hv.c hv.size hv.defers (fun t => ?_) (fun j hj => ?_)⟩
    · cases hr : Region.ready .any l.toArray listed with
      | nil => rfl
      | cons i r =>
        have him : i ∈ Region.ready .any l.toArray listed := by rw [hr]; simp
        obtain ⟨hil, o, ho, _⟩ := mem_ready.1 him
        have := hall i (Array.getElem?_eq_some_iff.1 ho).1
        rw [hil] at this
        cases this
    · unfold endG
      cases hs : srcOf l.toArray l.toArray.size t with
      | none => exact hv.out t hs
      | some j =>
        obtain ⟨hjn, oj, hoj, hdj⟩ := srcOf_some hs
        have := hv.phi j oj hoj (hl j hjn)
        rw [hdj] at this
        exact this
    · have hj' : j < l.toArray.size := by simpa using hj
      exact (hv.phi j _ (Array.getElem?_eq_getElem hj') (hl j hj')).any) l.toArray.size (Array.replicate l.toArray.size false) a0 { W with drawn := W.drawn + 1 }
    ⟨by simp, fun j oj _ hl => (by rw [getD_replicate_false] at hl; cases hl), fun t ht ht' => absurd ht' (by omega)⟩
    ⟨by
      have e : (fun j => (Array.replicate l.toArray.size false).getD j false) = fun _ => false := funext fun j => getD_replicate_false _ _
      rw [e]; exact hC0, rfl, rfl, fun _ _ => rfl, fun j oj _ hl => (by rw [getD_replicate_false] at hl; cases hl), fun _ _ _ _ _ _ => rfl⟩ (by
      unfold cntU
      rw [List.countP_eq_length.2 fun i hi => by
        rw [getD_in (by simpa using List.mem_range.1 hi) (getD_replicate_false _ _)]; rfl]
      simp)
  simpa using this
end Go.Proofs.Ytjikbffnhfoikaa
/- What the walks of drawn regions are written with. -/
namespace Go.Proofs.Ytjikbffnhfoikaa
open Go.RowKit Go
theorem giv_val {P : Program} {rel : World → World → Prop} {w w' : World} {φ : Value → World → Prop} {u : Value} (h1 : rel w w') (h2 : φ u w') : GivR P rel w φ (.ok (.value u) w') := ⟨h1, h2⟩
theorem giv_skip {P : Program} {rel : World → World → Prop} {w w' : World} {φ : Value → World → Prop} (h1 : rel w w') (h2 : φ undef w') : GivR P rel w φ (.ok .skip w') := ⟨h1, h2⟩
theorem giv_enter {P : Program} {rel : World → World → Prop} {w : World} {φ : Value → World → Prop} {f : FuncId} {args : Array Value} (h : Calls P f args w fun e w'' => ∃ v, e = .returned v ∧ rel w w'' ∧ φ v w'') : GivR P rel w φ (.ok (.enter f args) w) := ⟨rfl, h⟩
section
variable {ops : Array Oper} {Φ : Nat → Value → World → Prop} {a0 A : Act} {i t j : Nat} {o : Oper} {w : World}
theorem fg_none (h : facG ops Φ a0 i o A w t) (hs : srcOf ops ops.size t = none) : A.tmps[t]?.getD undef = a0.eval (.tmp t) := by
  unfold facG at h; rw [hs] at h; simpa [Act.eval] using h
theorem fg_old (h : facG ops Φ a0 i o A w t) (hs : srcOf ops ops.size t = some j) (hw : afterB ops j i = true) : A.tmps[t]?.getD undef = a0.eval (.tmp t) := by
  unfold facG at h; rw [hs] at h; have h2 := h.2 hw; simpa [Act.eval] using h2
theorem fg_some (h : facG ops Φ a0 i o A w t) (hs : srcOf ops ops.size t = some j) (hw : waitsOn o j = true) : Φ j (A.tmps[t]?.getD undef) w := by
  unfold facG at h; rw [hs] at h; have h2 := h.1 hw; rwa [show A.eval (.tmp t) = A.tmps[t]?.getD undef by simp [Act.eval]] at h2
theorem fe_some (h : endG ops Φ a0 A w t) (hs : srcOf ops ops.size t = some j) : Φ j (A.tmps[t]?.getD undef) w := by
  unfold endG at h; rw [hs] at h; rwa [show A.eval (.tmp t) = A.tmps[t]?.getD undef by simp [Act.eval]] at h
end
/-- the frame written out: the slots of the mask are read off the frame, the others stand as they were -/
def cutM (a : Act) : List Bool → Nat → List Value → List Value
  | [], _, l => l
  | _ :: _, _, [] => []
  | b :: m, t, v :: l => (bif b then a.tmps[t]?.getD undef else v) :: cutM a m (t + 1) l
theorem cutM_nil (a : Act) (t : Nat) (l : List Value) : cutM a [] t l = l := by cases l <;> rfl
theorem cutM_yes (a : Act) (m : List Bool) (t : Nat) (v : Value) (l : List Value) : cutM a (true :: m) t (v :: l) = a.tmps[t]?.getD undef :: cutM a m (t + 1) l := rfl
theorem cutM_no (a : Act) (m : List Bool) (t : Nat) (v : Value) (l : List Value) : cutM a (false :: m) t (v :: l) = v :: cutM a m (t + 1) l := rfl
theorem cutM_done (a : Act) (m : List Bool) (t : Nat) : cutM a m t [] = [] := by cases m <;> rfl
theorem cutM_eq (a : Act) : ∀ (m : List Bool) (l : List Value) (t : Nat) (r : List Value), r.length = l.length → (∀ k (h : k < r.length), a.tmps[t + k]? = some r[k]) → (∀ k (h : k < l.length) (h' : k < r.length), m[k]?.getD false = false → r[k] = l[k]) → r = cutM a m t l
  | [], l, t, r, hl, _, hs => by
    rw [cutM_nil]
    exact List.ext_getElem hl fun k h1 h2 => hs k h2 h1 rfl
  | b :: m, [], t, r, hl, _, _ => by
    rw [cutM_done]
    exact List.eq_nil_of_length_eq_zero hl
  | b :: m, v :: l, t, [], hl, _, _ => by simp at hl
  | b :: m, v :: l, t, x :: r, hl, hg, hs => by
    have h0 := hg 0 (by simp)
    have ih := cutM_eq a m l (t + 1) r (by simpa using hl) (fun k h => by
      have := hg (k + 1) (by simpa using h)
      rwa [show t + (k + 1) = t + 1 + k by omega] at this) (fun k h h' hb => by
      have := hs (k + 1) (by simpa using h) (by simpa using h') (by simpa using hb)
      simpa using this)
    cases b with
    | true =>
      rw [cutM_yes, ← ih]
      have h0' : a.tmps[t]? = some x := h0
      rw [h0']; rfl
    | false =>
      rw [cutM_no, ← ih]
      congr 1
      exact hs 0 (by simp) (by simp) rfl
theorem end_gen {ops : Array Oper} {Φ : Nat → Value → World → Prop} {a0 a : Act} {w : World} (m : List Bool) (hs : a.tmps.size = a0.tmps.size) (hd : a.defers = a0.defers) (hF : ∀ t, endG ops Φ a0 a w t)
    (hB : ((List.range a0.tmps.size).all fun t => m[t]?.getD false || (srcOf ops ops.size t).isNone) = true) : a = { tmps := (cutM a m 0 a0.tmps.toList).toArray, defers := a0.defers } := by
  have e2 : a.tmps.toList = cutM a m 0 a0.tmps.toList := by
    refine cutM_eq a m _ 0 _ (by simpa using hs) (fun k h => ?_) (fun k h h' hb => ?_)
    · have h2 : k < a.tmps.size := by simpa using h
      rw [Nat.zero_add, Array.getElem?_eq_getElem h2]
      simp
    · have h1 : k < a0.tmps.size := by simpa using h
      have h2 : k < a.tmps.size := by simpa using h'
      have := List.all_eq_true.1 hB k (List.mem_range.2 h1)
      rw [hb, Bool.false_or] at this
      have hn : srcOf ops ops.size k = none := by
        cases hc : srcOf ops ops.size k with
        | none => rfl
        | some j => rw [hc] at this; cases this
      have hk := hF k
      unfold endG at hk
      rw [hn] at hk
      have hk2 : a.tmps[k]?.getD undef = a0.tmps[k]?.getD undef := by simpa [Act.eval] using hk
      rw [Array.getElem?_eq_getElem h1, Array.getElem?_eq_getElem h2] at hk2
      simpa using hk2
  exact act_ext (by rw [← e2]) hd
end Go.Proofs.Ytjikbffnhfoikaa
/- Entries in blocks below a bound; appending an entry as an operation of a drawn region. -/
namespace Go.Proofs.Ytjikbffnhfoikaa
open Go.RowKit Go.Sort Go.Maps
/-- the value is a slice of the entries L, in a block below b -/
def EntB (w : World) (b : Nat) (v : Value) (L : List E) : Prop := ∃ ao cap, v = .slice ao L.length cap ∧ L.length ≤ cap ∧ (L ≠ [] → ∃ g o, ao = some ⟨g, o, none⟩ ∧ g < b ∧ RowE w g o L)
theorem Ents.at {w : World} {v : Value} {L : List E} (h : Ents w v L) : EntB w w.heap.size v L := by
  obtain ⟨ao, cap, e, hc, hr⟩ := h
  refine ⟨ao, cap, e, hc, fun hl => ?_⟩
  obtain ⟨g, o, e2, hR⟩ := hr hl
  exact ⟨g, o, e2, hR.lt hl, hR⟩
theorem EntB.ents {w : World} {b : Nat} {v : Value} {L : List E} (h : EntB w b v L) : Ents w v L := by
  obtain ⟨ao, cap, e, hc, hr⟩ := h
  refine ⟨ao, cap, e, hc, fun hl => ?_⟩
  obtain ⟨g, o, e2, _, hR⟩ := hr hl
  exact ⟨g, o, e2, hR⟩
theorem EntB.keep {w w' : World} {b : Nat} {v : Value} {L : List E} (h : EntB w b v L) (hb : Below b w w') : EntB w' b v L := by
  obtain ⟨ao, cap, e, hc, hr⟩ := h
  refine ⟨ao, cap, e, hc, fun hl => ?_⟩
  obtain ⟨g, o, e2, hg, hR⟩ := hr hl
  exact ⟨g, o, e2, hg, hR.keep (hb.block g hg)⟩
theorem EntB.up {w : World} {b c : Nat} {v : Value} {L : List E} (h : EntB w b v L) (hb : b ≤ c) : EntB w c v L := by
  obtain ⟨ao, cap, e, hc, hr⟩ := h
  refine ⟨ao, cap, e, hc, fun hl => ?_⟩
  obtain ⟨g, o, e2, hg, hR⟩ := hr hl
  exact ⟨g, o, e2, by omega, hR⟩
theorem EntB.nilv {w : World} {b : Nat} {v : Value} (h : EntB w b v []) : ∃ ao cap, v = .slice ao 0 cap := by
  obtain ⟨ao, cap, e, _⟩ := h
  exact ⟨ao, cap, e⟩
theorem EntB.cons {w : World} {b : Nat} {v : Value} {x : E} {R : List E} (h : EntB w b v (x :: R)) :
    ∃ g o c, v = .slice (some ⟨g, o, none⟩) (R.length + 1) c ∧ R.length + 1 ≤ c ∧ g < b ∧ At7 w g o x ∧ EntB w b (.slice (some ⟨g, o + 7, none⟩) R.length (c - 1)) R ∧ (R = [] → ∀ q k, EntB w b (.slice q 0 k) R) := by
  obtain ⟨ao, cap, e, hc, hr⟩ := h
  obtain ⟨g, o, rfl, hg, hR⟩ := hr (by simp)
  refine ⟨g, o, cap, e, hc, hg, by simpa using hR 0 x rfl, ⟨_, _, rfl, by simp at hc; omega, fun _ => ⟨g, o + 7, rfl, hg, fun i y hy => ?_⟩⟩, fun e q k => ?_⟩
  · have := hR (i + 1) y (by simpa using hy)
    rw [show o + (i + 1) * 7 = o + 7 + i * 7 by omega] at this
    exact this
  · subst e; exact ⟨q, k, rfl, Nat.zero_le _, fun h => absurd rfl h⟩
theorem EntB.part {w : World} {b : Nat} {g o n c : Nat} {L : List E} (h : EntB w b (.slice (some ⟨g, o, none⟩) n c) L) (k : Nat) (hk : k < L.length) : n = L.length ∧ L.length ≤ c ∧ EntB w b (.slice (some ⟨g, o, none⟩) k c) (L.take k) ∧ EntB w b (.slice (some ⟨g, o + k * 7, none⟩) (L.length - k) (c - k)) (L.drop k) := by
  obtain ⟨ao, cap, e, hc, hr⟩ := h
  obtain ⟨g', o', hao, hg, hR⟩ := hr (by rintro rfl; simp at hk)
  subst hao
  simp only [Value.slice.injEq, Option.some.injEq, Addr.mk.injEq, and_true] at e
  obtain ⟨⟨rfl, rfl⟩, rfl, rfl⟩ := e
  refine ⟨rfl, hc, ⟨_, _, by rw [List.length_take, Nat.min_eq_left (by omega)], by rw [List.length_take]; omega, fun _ => ⟨g, o, rfl, hg, fun i x hx => ?_⟩⟩, ⟨_, _, by rw [List.length_drop], by rw [List.length_drop]; omega, fun _ => ⟨g, o + k * 7, rfl, hg, fun i x hx => ?_⟩⟩⟩
  · rw [List.getElem?_take] at hx
    split at hx
    · exact hR i x hx
    · cases hx
  · rw [List.getElem?_drop] at hx
    have := hR (k + i) x hx
    rw [show o + (k + i) * 7 = o + k * 7 + i * 7 by omega] at this
    exact this
/-- appending an entry, as an operation -/
theorem wp_append_E {w : World} {o : Oper} {a : Act} {K : Act → World → Prop} {Q : Exit → Act → World → Prop} (s x : Operand)
    (ho : o.op = .call { callee := .builtin .append, args := #[s, x], argTypes := #[52, 52] }) (B : Nat) (v : Value) (L : List E) (N : Nat) (hN : L.length = N) (hs : a.eval s = v) (hown : OwnE w B v L)
    (g : Nat) (y : E) (hx : a.eval x = .slice (some ⟨g, 0, none⟩) 1 1) (hy : Box w g y) (hl : N ≤ 1000000) (hb : B ≤ w.heap.size)
    (h : ∀ g' cap w', OwnE w' B (.slice (some ⟨g', 0, none⟩) (N + 1) cap) (L ++ [y]) → w.grownBy w' v.ownBlock → (v.ownBlock = some g' ∨ g' = w.heap.size) → K (a.put o.dst (.slice (some ⟨g', 0, none⟩) (N + 1) cap)) w') : o.wp Try.prog a w K Q := by
  subst hN
  obtain ⟨i0, hinf, hz0, hz1, hz2⟩ := info_parts infoE
  refine wp_append_lies w s x 52 ho B 61 i0 _ 7 48 Try.underlying52 hinf hz0 hz1 hz2 rfl (by decide) v L.length (L.flatMap cellsE) hs hown ⟨g, 0, none⟩ 1 1 (cellsE y) hx rfl
    (World.news_of_block hy) (cellsE_one y) (by decide) (by unfold maxLen; omega) (by omega) hb _ rfl ?_
  intro g' cap w' h1 h2 h3 _
  refine h g' cap w' ?_ h2 h3
  unfold OwnE
  rw [List.length_append, List.flatMap_append]
  simpa using h1
theorem OwnE.made {w : World} {B g n : Nat} (h : w.ownsRow B 61 7 (.slice (some ⟨g, 0, none⟩) 0 n) 0 []) : OwnE w B (.slice (some ⟨g, 0, none⟩) 0 n) [] := h
theorem below_grownB {a w w' : World} {B : Nat} {v : Value} {L : List E} (h : Below B a w) (ho : OwnE w B v L) (hg : w.grownBy w' v.ownBlock) (hs : B ≤ w.heap.size) : Below B a w' :=
  h.grown hg hs fun k e => (World.ownsRow.lt ho k e).1
end Go.Proofs.Ytjikbffnhfoikaa
/- The reference's ordered. -/
namespace Go.Proofs.Ytjikbffnhfoikaa
open Go.RowKit Go.Sort Go.Maps
/-- the length of a slice -/
def lenS (v : Value) : Nat := match v with
  | .slice _ n _ => n
  | _ => 0
theorem below_step {B : Nat} {a w w' : World} (h : Below B a w) (hb : Below w.heap.size w w') (hs : B ≤ w.heap.size) : Below B a w' := h.trans (hb.mono hs)
/-- in a region that appends to vo: the blocks below B are as they were; vo stands until the append is run -/
def oC (B : Nat) (O : List E) (vo : Value) (W : World) (d : Nat → Bool) (w : World) : Prop := Below B W w ∧ W.heap.size ≤ w.heap.size ∧ (d 5 = false → OwnE w B vo O)
def oRel (vo : Value) (j : Nat) (w w' : World) : Prop := match j with
  | 5 => w.grownBy w' vo.ownBlock
  | _ => Below w.heap.size w w'
theorem oRel_other {vo : Value} {j : Nat} {w w' : World} (h : j ≠ 5) : oRel vo j w w' = Below w.heap.size w w' := by
  unfold oRel
  split
  · exact absurd rfl h
  · rfl
theorem oC_step {B : Nat} {O : List E} {vo : Value} {W : World} (hB : B ≤ W.heap.size) : ∀ (i : Nat) (d : Nat → Bool) (w w' : World), d i = false → oC B O vo W d w → oRel vo i w w' → oC B O vo W (fun j => if j = i then true else d j) w' := by
  rintro i d w w' hd ⟨h1, h2, h3⟩ hr
  by_cases hi : i = 5
  · subst hi
    have hr' : w.grownBy w' vo.ownBlock := hr
    exact ⟨below_grownB h1 (h3 hd) hr' (by omega), Nat.le_trans h2 hr'.size, fun h => by simp at h⟩
  · rw [oRel_other hi] at hr
    exact ⟨below_step h1 hr (by omega), Nat.le_trans h2 hr.size, fun h => by
      have h : (if 5 = i then true else d 5) = false := h
      rw [if_neg (Ne.symm hi)] at h
      exact (h3 h).below hr⟩
def oaPhi (B N : Nat) (O : List E) (x : E) (va vo vt : Value) (ga oa : Nat) (q : Nat) (v : Value) (w : World) : Prop := match q with
  | 0 => v = vo
  | 1 => v = va
  | 2 => v = .pointer (some ⟨ga, oa, none⟩)
  | 3 => v = .agg #[.int .i64 x.s, .int .i64 x.t, .int .i64 x.c, .int .i64 x.d, .int .u32 (vI x.a), .int .u32 (vI x.b), .int .u32 (vI x.e)]
  | 4 => ∃ g, v = .slice (some ⟨g, 0, none⟩) 1 1 ∧ vo.ownBlock ≠ some g ∧ Box w g x
  | 5 => ∃ g c, v = .slice (some ⟨g, 0, none⟩) (N + 1) c ∧ OwnE w B (.slice (some ⟨g, 0, none⟩) (N + 1) c) (O ++ [x])
  | 6 => v = va
  | 7 => v = vt
  | 8 => ∃ g c, v = .slice (some ⟨g, 0, none⟩) (N + 1) c ∧ OwnE w B (.slice (some ⟨g, 0, none⟩) (N + 1) c) (O ++ [x])
  | 9 => v = vt
  | _ => True
theorem oaPhi_keep {B N : Nat} {O : List E} {x : E} {va vo vt : Value} {ga oa : Nat} : ∀ (i j : Nat) (v : Value) (w w' : World), i ≠ j → (i, j) ∉ [(8, 5)] → oaPhi B N O x va vo vt ga oa i v w → oRel vo j w w' → oaPhi B N O x va vo vt ga oa i v w'
  | 0, _, _, _, _, _, _, h, _ => h
  | 1, _, _, _, _, _, _, h, _ => h
  | 2, _, _, _, _, _, _, h, _ => h
  | 3, _, _, _, _, _, _, h, _ => h
  | 4, j, v, w, w', _, _, ⟨g, h1, h2, h3⟩, hr => ⟨g, h1, h2, by
      by_cases hj : j = 5
      · subst hj
        exact (World.grownBy.block hr g h3.lt (fun e => h2 e.symm)).trans h3
      · rw [oRel_other hj] at hr
        exact Blk.keep h3 hr⟩
  | 5, j, v, w, w', hij, _, ⟨g, c, h1, h2⟩, hr => ⟨g, c, h1, by rw [oRel_other (Ne.symm hij)] at hr; exact h2.below hr⟩
  | 6, _, _, _, _, _, _, h, _ => h
  | 7, _, _, _, _, _, _, h, _ => h
  | 8, j, v, w, w', _, hb, ⟨g, c, h1, h2⟩, hr => ⟨g, c, h1, by
      by_cases hj : j = 5
      · subst hj; exact absurd (by simp) hb
      · rw [oRel_other hj] at hr; exact h2.below hr⟩
  | 9, _, _, _, _, _, _, h, _ => h
  | (_ + 10), _, _, _, _, _, _, _, _ => trivial
def obPhi (B N : Nat) (O : List E) (x : E) (va vo vt : Value) (ga oa : Nat) (q : Nat) (v : Value) (w : World) : Prop := match q with
  | 0 => v = vo
  | 1 => v = va
  | 2 => v = .pointer (some ⟨ga, oa, none⟩)
  | 3 => v = .agg #[.int .i64 x.s, .int .i64 x.t, .int .i64 x.c, .int .i64 x.d, .int .u32 (vI x.a), .int .u32 (vI x.b), .int .u32 (vI x.e)]
  | 4 => ∃ g, v = .slice (some ⟨g, 0, none⟩) 1 1 ∧ vo.ownBlock ≠ some g ∧ Box w g x
  | 5 => ∃ g c, v = .slice (some ⟨g, 0, none⟩) (N + 1) c ∧ OwnE w B (.slice (some ⟨g, 0, none⟩) (N + 1) c) (O ++ [x])
  | 6 => v = va
  | 7 => v = vt
  | 8 => ∃ g c, v = .slice (some ⟨g, 0, none⟩) (N + 1) c ∧ OwnE w B (.slice (some ⟨g, 0, none⟩) (N + 1) c) (O ++ [x])
  | 9 => v = vt
  | _ => True
theorem obPhi_keep {B N : Nat} {O : List E} {x : E} {va vo vt : Value} {ga oa : Nat} : ∀ (i j : Nat) (v : Value) (w w' : World), i ≠ j → (i, j) ∉ [(8, 5)] → obPhi B N O x va vo vt ga oa i v w → oRel vo j w w' → obPhi B N O x va vo vt ga oa i v w'
  | 0, _, _, _, _, _, _, h, _ => h
  | 1, _, _, _, _, _, _, h, _ => h
  | 2, _, _, _, _, _, _, h, _ => h
  | 3, _, _, _, _, _, _, h, _ => h
  | 4, j, v, w, w', _, _, ⟨g, h1, h2, h3⟩, hr => ⟨g, h1, h2, by
      by_cases hj : j = 5
      · subst hj
        exact (World.grownBy.block hr g h3.lt (fun e => h2 e.symm)).trans h3
      · rw [oRel_other hj] at hr
        exact Blk.keep h3 hr⟩
  | 5, j, v, w, w', hij, _, ⟨g, c, h1, h2⟩, hr => ⟨g, c, h1, by rw [oRel_other (Ne.symm hij)] at hr; exact h2.below hr⟩
  | 6, _, _, _, _, _, _, h, _ => h
  | 7, _, _, _, _, _, _, h, _ => h
  | 8, j, v, w, w', _, hb, ⟨g, c, h1, h2⟩, hr => ⟨g, c, h1, by
      by_cases hj : j = 5
      · subst hj; exact absurd (by simp) hb
      · rw [oRel_other hj] at hr; exact h2.below hr⟩
  | 9, _, _, _, _, _, _, h, _ => h
  | (_ + 10), _, _, _, _, _, _, _, _ => trivial
/-- the two halves, ordered -/
def rPhi (L : List E) (m ga oa cap : Nat) (q : Nat) (v : Value) (w : World) : Prop := match q with
  | 0 => v = .slice (some ⟨ga, oa, none⟩) L.length cap
  | 1 => v = .int .i64 m
  | 2 => v = .slice (some ⟨ga, oa, none⟩) m cap
  | 3 => ∃ S, Ents w v S ∧ OrdOf (L.take m) S
  | 4 => v = .slice (some ⟨ga, oa, none⟩) L.length cap
  | 5 => v = .int .i64 m
  | 6 => v = .slice (some ⟨ga, oa + m * 7, none⟩) (L.length - m) (cap - m)
  | 7 => ∃ S, Ents w v S ∧ OrdOf (L.drop m) S
  | 8 => ∃ S, Ents w v S ∧ OrdOf (L.take m) S
  | 9 => ∃ S, Ents w v S ∧ OrdOf (L.drop m) S
  | _ => True
theorem rPhi_keep {L : List E} {m ga oa cap : Nat} : ∀ (i j : Nat) (v : Value) (w w' : World), i ≠ j → (i, j) ∉ ([] : List (Nat × Nat)) → rPhi L m ga oa cap i v w → Below w.heap.size w w' → rPhi L m ga oa cap i v w'
  | 0, _, _, _, _, _, _, h, _ => h
  | 1, _, _, _, _, _, _, h, _ => h
  | 2, _, _, _, _, _, _, h, _ => h
  | 3, _, _, _, _, _, _, ⟨S, h, k⟩, hb => ⟨S, h.keep hb, k⟩
  | 4, _, _, _, _, _, _, h, _ => h
  | 5, _, _, _, _, _, _, h, _ => h
  | 6, _, _, _, _, _, _, h, _ => h
  | 7, _, _, _, _, _, _, ⟨S, h, k⟩, hb => ⟨S, h.keep hb, k⟩
  | 8, _, _, _, _, _, _, ⟨S, h, k⟩, hb => ⟨S, h.keep hb, k⟩
  | 9, _, _, _, _, _, _, ⟨S, h, k⟩, hb => ⟨S, h.keep hb, k⟩
  | (_ + 10), _, _, _, _, _, _, _, _ => trivial
set_option maxRecDepth 100000 in
set_option maxHeartbeats 16000000 in
theorem ordered_c : ∀ (n : Nat) (v : Value) (L : List E), L.length ≤ n → L.length ≤ 100000 → App L → ∀ w, Ents w v L →
    Calls Try.prog 58 #[v] w fun e w' => ∃ v' S, e = .returned v' ∧ Ents w' v' S ∧ OrdOf L S ∧ Below w.heap.size w w' := by
  intro n
  induction n using Nat.strongRecOn with
  | _ n ih =>
  intro v L hn hl hap w hE
  have hE0 := hE.at
  obtain ⟨ao, cap, rfl, hcap, hr⟩ := hE0
  have HIH := Lib.hid ih
  have HAP := Lib.hid hap
  have hlI : (L.length : Int) ≤ 100000 := by omega
  have hcI : (L.length : Int) ≤ (cap : Int) := by omega
  clear ih hap
  by_cases h2 : L.length < 2
  · have h2I : (L.length : Int) < 2 := by omega
    have HE := Lib.hid hE
    clear hE hr
    go_enter Try.func58, Try.ntmps58
    go_wp2_with fail
    go_ret
    exact ⟨_, L, rfl, HE.out, OrdOf.small h2, Below.refl _ _⟩
  · have h2I : ¬ (L.length : Int) < 2 := by omega
    obtain ⟨ga, oa, rfl, hga, hR⟩ := hr (by rintro rfl; simp at h2)
    have hEB := hE.at
    obtain ⟨-, -, hp1, hp2⟩ := hEB.part (L.length / 2) (by omega)
    obtain ⟨m, hm⟩ : ∃ m, L.length / 2 = m := ⟨_, rfl⟩
    rw [hm] at hp1 hp2
    have hml : m < L.length := by omega
    have hm1 : 1 ≤ m := by omega
    have hq : Int.tdiv (L.length : Int) 2 = (m : Int) := by rw [Int.tdiv_eq_ediv_of_nonneg (by omega)]; omega
    have H1 := Lib.hid hp1
    have H2 := Lib.hid hp2
    have HE := Lib.hid hE
    have HM := Lib.hid hm
    clear hE hR hEB hp1 hp2 hm
    go_enter Try.func58, Try.ntmps58
    go_upto_region 4 with fail
    refine wp_region_gen (fun _ u => Below w.heap.size w u) (fun _ u u2 => Below u.heap.size u u2) (rPhi L m ga oa cap) (by kernel_rfl) (by kernel_rfl) (Below.refl _ _).drew (fun _ _ _ _ _ h hr => h.trans (hr.mono h.size)) [] (by kernel_rfl) rPhi_keep ?_ ?_
    · refine ⟨⟨trivial, fun A v d hd hC hF hW K Q hk => ?_⟩, ⟨trivial, fun A v d hd hC hF hW K Q hk => ?_⟩, ⟨trivial, fun A v d hd hC hF hW K Q hk => ?_⟩, ⟨trivial, fun A v d hd hC hF hW K Q hk => ?_⟩, ⟨trivial, fun A v d hd hC hF hW K Q hk => ?_⟩, ⟨trivial, fun A v d hd hC hF hW K Q hk => ?_⟩, ⟨trivial, fun A v d hd hC hF hW K Q hk => ?_⟩, ⟨trivial, fun A v d hd hC hF hW K Q hk => ?_⟩, ⟨trivial, fun A v d hd hC hF hW K Q hk => ?_⟩, ⟨trivial, fun A v d hd hC hF hW K Q hk => ?_⟩, trivial⟩
      · have f0 : A.tmps[0]?.getD undef = .slice (some ⟨ga, oa, none⟩) L.length cap := fg_none (hF 0) (by kernel_rfl)
        refine Giv.wp ?_ hk
        unfold Giv
        go_simp
        exact giv_val (Below.refl _ _) rfl
      · have f3 : A.tmps[3]?.getD undef = .int .i64 m := fg_none (hF 3) (by kernel_rfl)
        refine Giv.wp ?_ hk
        unfold Giv
        go_simp
        exact giv_val (Below.refl _ _) rfl
      · have f14 : A.tmps[14]?.getD undef = .slice (some ⟨ga, oa, none⟩) L.length cap := fg_some (hF 14) (j := 0) (by kernel_rfl) (by kernel_rfl)
        have f15 : A.tmps[15]?.getD undef = .int .i64 m := fg_some (hF 15) (j := 1) (by kernel_rfl) (by kernel_rfl)
        have hmc : m ≤ cap := by omega
        refine Giv.wp ?_ hk
        unfold Giv
        go_simp
        exact giv_val (Below.refl _ _) rfl
      · have f16 : A.tmps[16]?.getD undef = .slice (some ⟨ga, oa, none⟩) m cap := fg_some (hF 16) (j := 2) (by kernel_rfl) (by kernel_rfl)
        refine Giv.wp ?_ hk
        unfold Giv
        go_simp
        exact giv_enter ((HIH.out m (by omega) _ (L.take m) (by rw [List.length_take]; omega) (by rw [List.length_take]; omega) (HAP.out.take m) _ (H1.out.keep hC).ents).mono fun e w2 ⟨v2, S, he, h1, h2, h3⟩ => ⟨v2, he, h3, S, h1, h2⟩)
      · have f0 : A.tmps[0]?.getD undef = .slice (some ⟨ga, oa, none⟩) L.length cap := fg_none (hF 0) (by kernel_rfl)
        refine Giv.wp ?_ hk
        unfold Giv
        go_simp
        exact giv_val (Below.refl _ _) rfl
      · have f3 : A.tmps[3]?.getD undef = .int .i64 m := fg_none (hF 3) (by kernel_rfl)
        refine Giv.wp ?_ hk
        unfold Giv
        go_simp
        exact giv_val (Below.refl _ _) rfl
      · have f18 : A.tmps[18]?.getD undef = .slice (some ⟨ga, oa, none⟩) L.length cap := fg_some (hF 18) (j := 4) (by kernel_rfl) (by kernel_rfl)
        have f19 : A.tmps[19]?.getD undef = .int .i64 m := fg_some (hF 19) (j := 5) (by kernel_rfl) (by kernel_rfl)
        have hmc : m ≤ L.length := by omega
        have hne : ¬ cap = m := by omega
        refine Giv.wp ?_ hk
        unfold Giv
        go_simp
        exact giv_val (Below.refl _ _) rfl
      · have f20 : A.tmps[20]?.getD undef = .slice (some ⟨ga, oa + m * 7, none⟩) (L.length - m) (cap - m) := fg_some (hF 20) (j := 6) (by kernel_rfl) (by kernel_rfl)
        refine Giv.wp ?_ hk
        unfold Giv
        go_simp
        exact giv_enter ((HIH.out (L.length - m) (by omega) _ (L.drop m) (by rw [List.length_drop]; omega) (by rw [List.length_drop]; omega) (HAP.out.drop m) _ (H2.out.keep hC).ents).mono fun e w2 ⟨v2, S, he, h1, h2, h3⟩ => ⟨v2, he, h3, S, h1, h2⟩)
      · obtain ⟨S, hS, hO⟩ := (fg_some (hF 17) (j := 3) (by kernel_rfl) (by kernel_rfl) : ∃ S, Ents v (A.tmps[17]?.getD undef) S ∧ OrdOf (L.take m) S)
        refine Giv.wp ?_ hk
        unfold Giv
        go_simp
        exact giv_val (Below.refl _ _) ⟨S, hS, hO⟩
      · obtain ⟨S, hS, hO⟩ := (fg_some (hF 21) (j := 7) (by kernel_rfl) (by kernel_rfl) : ∃ S, Ents v (A.tmps[21]?.getD undef) S ∧ OrdOf (L.drop m) S)
        refine Giv.wp ?_ hk
        unfold Giv
        go_simp
        exact giv_val (Below.refl _ _) ⟨S, hS, hO⟩
    intro a W1 d hd hC hsz hdf hF hW
    have ha := end_gen [false, false, false, false, true, true, false, false, false, false, false, false, false, false, true, true, true, true, true, true, true, true, false, false, false, false, false, false, false, false, false, false, false, false, false, false, false, false, false, false, false, false, false, false, false, false, false, false, false, false, false, false, false, false, false, false, false, false, false, false, false, false, false, false, false] hsz hdf hF (by kernel_rfl)
    obtain ⟨SA, h4, hOA⟩ : ∃ S, Ents W1 (a.tmps[4]?.getD undef) S ∧ OrdOf (L.take m) S := fe_some (hF 4) (j := 8) (by kernel_rfl)
    obtain ⟨SB, h5, hOB⟩ : ∃ S, Ents W1 (a.tmps[5]?.getD undef) S ∧ OrdOf (L.drop m) S := fe_some (hF 5) (j := 9) (by kernel_rfl)
    rw [ha]
    clear ha hF hW
    simp only [cutM_yes, cutM_no, cutM_nil, Nat.reduceAdd]
    generalize a.tmps[4]?.getD undef = v4 at *
    generalize a.tmps[5]?.getD undef = v5 at *
    have HO := Lib.hid (OrdOf.join HAP.out hOA hOB)
    have H4 := Lib.hid h4.at
    have H5 := Lib.hid h5.at
    have HB1 : Hid (Below w.heap.size w W1) := Lib.hid hC
    clear hC h4 h5 H1 H2 hsz hdf hd hOA hOB
    obtain ⟨i0, hi, hz0, hz1, hz2⟩ := info_parts infoE
    have hib : i0.bytes * L.length ≤ 281474976710656 := by rw [hz2]; omega
    go_wp2_with (at_make; refine wpList_make_own _ rfl _ _ 52 rfl W1.heap.size 61 i0 _ 7 Try.underlying52 hi hz0 hz1 .i64 .i64 L.length L.length rfl rfl rfl hib (by unfold maxLen; omega) (Nat.le_refl _) ?_; intro W2 ho2 hg2; have HO2 := Lib.hid (OwnE.made ho2); have HG2 := Lib.hid hg2; clear ho2 hg2)
    have HBS2 : Hid (W1.heap.size ≤ W2.heap.size) := Lib.hid HG2.out.size
    have HW2 : Hid (Below W1.heap.size W1 W2) := Lib.hid ((Below.refl _ _).grown HG2.out (Nat.le_refl _) (fun k e => by cases e))
    have HWS1 : Hid (w.heap.size ≤ W1.heap.size) := Lib.hid HB1.out.size
    generalize W1.heap.size = B at *
    have HLN : Hid (SA.length + SB.length ≤ 100000) := Lib.hid (by
      have h1 := HO.out.1.length_eq
      have h2 := (mrg_perm SA SB).length_eq
      rw [List.length_append] at h2
      omega)
    clear hib hi hz0 hz1 hz2 HG2 hlI hcI h2I h2 hn hl hcap hga HIH HAP hq hml hm1 HM
    go_loopw [4, 5, 6] (fun u4 u5 u6 wr => ∃ (A D O : List E) (va vb vo : Value), va = u4 ∧ vb = u5 ∧ vo = u6 ∧ Hid (EntB wr B va A) ∧ Hid (EntB wr B vb D) ∧ Hid (OwnE wr B vo O) ∧ Hid (O ++ mrg A D = mrg SA SB) ∧ Hid (O.length + A.length + D.length ≤ 100000) ∧ Hid (Below B W1 wr) ∧ Hid (B ≤ wr.heap.size)) (fun u4 u5 _ _ => lenS u4 + lenS u5)
    case atStart => exact ⟨SA, SB, [], _, _, _, rfl, rfl, rfl, Lib.hid (H4.out.keep HW2.out), Lib.hid (H5.out.keep HW2.out), HO2, Lib.hid rfl, Lib.hid (by simpa using HLN.out), HW2, HBS2⟩
    case round =>
      obtain ⟨A, D, O, va, vb, vo, rfl, rfl, rfl, HA, HD, HO9, HE9, HL9, HW9, HB9⟩ := hrel
      cases A with
      | nil =>
        cases D with
        | nil =>
          obtain ⟨qa, ka, rfl⟩ := HA.out.nilv
          obtain ⟨qb, kb, rfl⟩ := HD.out.nilv
          have HEE : Hid (O = mrg SA SB) := Lib.hid (by have := HE9.out; rwa [mrg_nil_l, List.append_nil] at this)
          go_wp2_with fail
          go_ret
          exact ⟨_, O, rfl, HO9.out.ents, by rw [HEE.out]; exact HO.out, HB1.out.trans (HW9.out.mono HWS1.out)⟩
        | cons x R =>
          obtain ⟨ga, oa, ca, rfl, hca, hga, hAT, hEt, hEn⟩ := HD.out.cons
          obtain ⟨qa, ka, rfl⟩ := HA.out.nilv
          have hRI : (R.length : Int) ≤ 100000 := by have := HL9.out; simp only [List.length_cons] at this; omega
          have hRz : ((R.length : Int) + 1 == 0) = false := by simp; omega
          have hRp : (0 : Int) < (R.length : Int) + 1 := by omega
          go_upto_region 7 with fail
          refine wp_region_kp (by kernel_rfl) (by kernel_rfl) ?_
          repeat (first
              | go_big_quiet_skip
              | (go_big_quiet_want
                 go_big_quiet_op
                 first
                   | go_big_quiet_on
                   | (apply Exists.intro
                      refine ⟨fun w1 hC => ?_, ?_⟩
                      · first
                          | (go_simp; exact rfl)
                          | (go_simp; exact ⟨rfl, rfl⟩)
                      go_big_quiet_on)))
          refine wpQuiet_nil ?_
          intro W hC
          have HO : Hid (OwnE W B vo O) := Lib.hid (HO9.out.below hC)
          have HAT : Hid (At7 W ga oa x) := Lib.hid (hAT.keep (hC.block ga (hAT.lt)))
          have HGA : Hid (ga < B) := Lib.hid hga
          have HBS : Hid (B ≤ W.heap.size) := Lib.hid (Nat.le_trans HB9.out hC.size)
          have HW : Hid (Below B W1 W) := Lib.hid (HW9.out.trans (hC.mono HB9.out))
          have HET : Hid (EntB W B (.slice (if ca = 1 then some ⟨ga, oa, none⟩ else some ⟨ga, oa + 7, none⟩) R.length (ca - 1)) R) := Lib.hid (by
            by_cases h : ca = 1
            · have hR : R = [] := List.eq_nil_of_length_eq_zero (by omega)
              subst hR
              exact (hEn rfl _ _).keep (hC.mono HB9.out)
            · rw [if_neg h]; exact hEt.keep (hC.mono HB9.out))
          have HOT : Hid (EntB W B (.slice qa 0 ka) []) := Lib.hid (HA.out.keep (hC.mono HB9.out))
          have HOW : Hid (∀ k, vo.ownBlock = some k → k < W.heap.size) := Lib.hid fun k e => (World.ownsRow.lt HO.out k e).2
          obtain ⟨N, hN⟩ : ∃ N, O.length = N := ⟨_, rfl⟩
          have HN := Lib.hid hN
          have hNl : N ≤ 300000 := by have := HL9.out; simp only [List.length_cons] at this; omega
          clear hC hAT hga hEt hEn HA HD HO9 HB9 HW9 hN
          generalize hvt : (Value.slice (if ca = 1 then some (⟨ga, oa, none⟩ : Addr) else some ⟨ga, oa + 7, none⟩) R.length (ca - 1)) = vt at *
          have HVT := Lib.hid hvt
          clear hvt
          go_upto_region 9 with fail
          refine wp_region_gen (oC B O vo W) (oRel vo) (obPhi B N O x (.slice (some ⟨ga, oa, none⟩) (R.length + 1) ca) vo vt ga oa) (by kernel_rfl) (by kernel_rfl) ⟨(Below.refl _ _).drew, Nat.le_refl _, fun _ => HO.out.below (Below.refl _ _).drew⟩ (oC_step HBS.out) [(8, 5)] (by kernel_rfl) obPhi_keep ?_ ?_
          · refine ⟨⟨trivial, fun A v d hd hC hF hW K Q hk => ?_⟩, ⟨trivial, fun A v d hd hC hF hW K Q hk => ?_⟩, ⟨trivial, fun A v d hd hC hF hW K Q hk => ?_⟩, ⟨trivial, fun A v d hd hC hF hW K Q hk => ?_⟩, ⟨trivial, fun A v d hd hC hF hW K Q hk => ?_⟩, ⟨trivial, fun A v d hd hC hF hW K Q hk => ?_⟩, ⟨trivial, fun A v d hd hC hF hW K Q hk => ?_⟩, ⟨trivial, fun A v d hd hC hF hW K Q hk => ?_⟩, ⟨trivial, fun A v d hd hC hF hW K Q hk => ?_⟩, ⟨trivial, fun A v d hd hC hF hW K Q hk => ?_⟩, trivial⟩
            · have f6 : A.tmps[6]?.getD undef = vo := fg_old (hF 6) (j := 8) (by kernel_rfl) (by kernel_rfl)
              refine Giv.wp ?_ hk
              unfold Giv
              go_simp
              exact giv_val (Below.refl _ _) rfl
            · have f5 : A.tmps[5]?.getD undef = (.slice (some ⟨ga, oa, none⟩) (R.length + 1) ca) := fg_old (hF 5) (j := 9) (by kernel_rfl) (by kernel_rfl)
              refine Giv.wp ?_ hk
              unfold Giv
              go_simp
              exact giv_val (Below.refl _ _) rfl
            · have f57 : A.tmps[57]?.getD undef = (.slice (some ⟨ga, oa, none⟩) (R.length + 1) ca) := fg_some (hF 57) (j := 1) (by kernel_rfl) (by kernel_rfl)
              refine Giv.wp ?_ hk
              unfold Giv
              go_simp
              exact giv_val (Below.refl _ _) rfl
            · have f58 : A.tmps[58]?.getD undef = .pointer (some ⟨ga, oa, none⟩) := fg_some (hF 58) (j := 2) (by kernel_rfl) (by kernel_rfl)
              obtain ⟨d0, d1, d2, d3, d4, d5, d6⟩ := HAT.out.keep (hC.1.block ga HGA.out)
              refine Giv.wp ?_ hk
              unfold Giv
              go_simp
              exact giv_val (Below.refl _ _) rfl
            · have f59 : A.tmps[59]?.getD undef = .agg #[.int .i64 x.s, .int .i64 x.t, .int .i64 x.c, .int .i64 x.d, .int .u32 (vI x.a), .int .u32 (vI x.b), .int .u32 (vI x.e)] := fg_some (hF 59) (j := 3) (by kernel_rfl) (by kernel_rfl)
              refine Giv.wp ?_ hk
              unfold Giv
              go_simp
              exact giv_val ((Below.refl _ _).alloc (Nat.le_refl _) _) ⟨_, rfl, fun e => by have := HOW.out _ e; have := hC.2.1; omega, Blk.new _ _ _⟩
            · have f56 : A.tmps[56]?.getD undef = vo := fg_some (hF 56) (j := 0) (by kernel_rfl) (by kernel_rfl)
              obtain ⟨gb, f60, hgb, hbb⟩ := (fg_some (hF 60) (j := 4) (by kernel_rfl) (by kernel_rfl) : ∃ g, (A.tmps[60]?.getD undef) = .slice (some ⟨g, 0, none⟩) 1 1 ∧ vo.ownBlock ≠ some g ∧ Box v g x)
              exact wp_append_E _ _ rfl B vo O N HN.out (by simpa [Act.eval] using f56) (hC.2.2 hd) gb x (by simpa [Act.eval] using f60) hbb (by omega) (by have := hC.2.1; have := HBS.out; omega) fun g c w2 h1 h2 h3 => hk _ _ h2 ⟨g, c, rfl, h1⟩
            · have f5 : A.tmps[5]?.getD undef = (.slice (some ⟨ga, oa, none⟩) (R.length + 1) ca) := fg_old (hF 5) (j := 9) (by kernel_rfl) (by kernel_rfl)
              refine Giv.wp ?_ hk
              unfold Giv
              go_simp
              exact giv_val (Below.refl _ _) rfl
            · have f62 : A.tmps[62]?.getD undef = (.slice (some ⟨ga, oa, none⟩) (R.length + 1) ca) := fg_some (hF 62) (j := 6) (by kernel_rfl) (by kernel_rfl)
              have h1R : (1 : Int) ≤ (R.length : Int) + 1 := by omega
              refine Giv.wp ?_ hk
              unfold Giv
              go_simp
              exact giv_val (Below.refl _ _) HVT.out
            · obtain ⟨g5, c5, f61, h5⟩ := (fg_some (hF 61) (j := 5) (by kernel_rfl) (by kernel_rfl) : ∃ g c, (A.tmps[61]?.getD undef) = .slice (some ⟨g, 0, none⟩) (N + 1) c ∧ OwnE v B (.slice (some ⟨g, 0, none⟩) (N + 1) c) (O ++ [x]))
              refine Giv.wp ?_ hk
              unfold Giv
              go_simp
              exact giv_val (Below.refl _ _) ⟨g5, c5, rfl, h5⟩
            · have f63 : A.tmps[63]?.getD undef = vt := fg_some (hF 63) (j := 7) (by kernel_rfl) (by kernel_rfl)
              refine Giv.wp ?_ hk
              unfold Giv
              go_simp
              exact giv_val (Below.refl _ _) rfl
          intro a W8 d hd hC hsz hdf hF hW
          have ha := end_gen [false, false, false, false, false, true, true, false, false, false, false, false, false, false, false, false, false, false, false, false, false, false, false, false, false, false, false, false, false, false, false, false, false, false, false, false, false, false, false, false, false, false, false, false, false, false, false, false, false, false, false, false, false, false, false, false, true, true, true, true, true, true, true, true, false] hsz hdf hF (by kernel_rfl)
          obtain ⟨g8, c8, f6, h8⟩ := (fe_some (hF 6) (j := 8) (by kernel_rfl) : ∃ g c, (a.tmps[6]?.getD undef) = .slice (some ⟨g, 0, none⟩) (N + 1) c ∧ OwnE W8 B (.slice (some ⟨g, 0, none⟩) (N + 1) c) (O ++ [x]))
          have f5 : a.tmps[5]?.getD undef = vt := fe_some (hF 5) (j := 9) (by kernel_rfl)
          rw [ha]
          clear ha hF hW
          simp only [cutM_yes, cutM_no, cutM_nil, Nat.reduceAdd]
          rw [f6, f5]
          have H8 := Lib.hid h8
          have HW8 : Hid (Below B W1 W8) := Lib.hid (HW.out.trans hC.1)
          have HB8 : Hid (B ≤ W8.heap.size) := Lib.hid (Nat.le_trans HBS.out hC.2.1)
          have HE8 : Hid (EntB W8 B vt R) := Lib.hid (HET.out.keep hC.1)
          have HD8 : Hid (EntB W8 B (.slice qa 0 ka) []) := Lib.hid (HOT.out.keep hC.1)
          clear hC hsz hdf hd h8 f6 f5
          go_wp2_with fail
          go_roundw
          case rel => exact ⟨[], R, O ++ [x], _, _, _, rfl, rfl, rfl, HD8, HE8, H8, Lib.hid (by rw [← HE9.out, mrg_nil_l, mrg_nil_l]; simp), Lib.hid (by have := HL9.out; simp only [List.length_append, List.length_cons, List.length_nil] at this ⊢; omega), HW8, HB8⟩
          case measure => rw [← HVT.out]; simp [lenS]
      | cons x R =>
        cases D with
        | nil =>
          obtain ⟨ga, oa, ca, rfl, hca, hga, hAT, hEt, hEn⟩ := HA.out.cons
          obtain ⟨qb, kb, rfl⟩ := HD.out.nilv
          have hRI : (R.length : Int) ≤ 100000 := by have := HL9.out; simp only [List.length_cons] at this; omega
          have hRz : ((R.length : Int) + 1 == 0) = false := by simp; omega
          have hRp : (0 : Int) < (R.length : Int) + 1 := by omega
          go_upto_region 7 with fail
          refine wp_region_kp (by kernel_rfl) (by kernel_rfl) ?_
          repeat (first
              | go_big_quiet_skip
              | (go_big_quiet_want
                 go_big_quiet_op
                 first
                   | go_big_quiet_on
                   | (apply Exists.intro
                      refine ⟨fun w1 hC => ?_, ?_⟩
                      · first
                          | (go_simp; exact rfl)
                          | (go_simp; exact ⟨rfl, rfl⟩)
                      go_big_quiet_on)))
          refine wpQuiet_nil ?_
          intro W hC
          have HO : Hid (OwnE W B vo O) := Lib.hid (HO9.out.below hC)
          have HAT : Hid (At7 W ga oa x) := Lib.hid (hAT.keep (hC.block ga (hAT.lt)))
          have HGA : Hid (ga < B) := Lib.hid hga
          have HBS : Hid (B ≤ W.heap.size) := Lib.hid (Nat.le_trans HB9.out hC.size)
          have HW : Hid (Below B W1 W) := Lib.hid (HW9.out.trans (hC.mono HB9.out))
          have HET : Hid (EntB W B (.slice (if ca = 1 then some ⟨ga, oa, none⟩ else some ⟨ga, oa + 7, none⟩) R.length (ca - 1)) R) := Lib.hid (by
            by_cases h : ca = 1
            · have hR : R = [] := List.eq_nil_of_length_eq_zero (by omega)
              subst hR
              exact (hEn rfl _ _).keep (hC.mono HB9.out)
            · rw [if_neg h]; exact hEt.keep (hC.mono HB9.out))
          have HOT : Hid (EntB W B (.slice qb 0 kb) []) := Lib.hid (HD.out.keep (hC.mono HB9.out))
          have HOW : Hid (∀ k, vo.ownBlock = some k → k < W.heap.size) := Lib.hid fun k e => (World.ownsRow.lt HO.out k e).2
          obtain ⟨N, hN⟩ : ∃ N, O.length = N := ⟨_, rfl⟩
          have HN := Lib.hid hN
          have hNl : N ≤ 300000 := by have := HL9.out; simp only [List.length_cons] at this; omega
          clear hC hAT hga hEt hEn HA HD HO9 HB9 HW9 hN
          generalize hvt : (Value.slice (if ca = 1 then some (⟨ga, oa, none⟩ : Addr) else some ⟨ga, oa + 7, none⟩) R.length (ca - 1)) = vt at *
          have HVT := Lib.hid hvt
          clear hvt
          go_upto_region 8 with fail
          refine wp_region_gen (oC B O vo W) (oRel vo) (oaPhi B N O x (.slice (some ⟨ga, oa, none⟩) (R.length + 1) ca) vo vt ga oa) (by kernel_rfl) (by kernel_rfl) ⟨(Below.refl _ _).drew, Nat.le_refl _, fun _ => HO.out.below (Below.refl _ _).drew⟩ (oC_step HBS.out) [(8, 5)] (by kernel_rfl) oaPhi_keep ?_ ?_
          · refine ⟨⟨trivial, fun A v d hd hC hF hW K Q hk => ?_⟩, ⟨trivial, fun A v d hd hC hF hW K Q hk => ?_⟩, ⟨trivial, fun A v d hd hC hF hW K Q hk => ?_⟩, ⟨trivial, fun A v d hd hC hF hW K Q hk => ?_⟩, ⟨trivial, fun A v d hd hC hF hW K Q hk => ?_⟩, ⟨trivial, fun A v d hd hC hF hW K Q hk => ?_⟩, ⟨trivial, fun A v d hd hC hF hW K Q hk => ?_⟩, ⟨trivial, fun A v d hd hC hF hW K Q hk => ?_⟩, ⟨trivial, fun A v d hd hC hF hW K Q hk => ?_⟩, ⟨trivial, fun A v d hd hC hF hW K Q hk => ?_⟩, trivial⟩
            · have f6 : A.tmps[6]?.getD undef = vo := fg_old (hF 6) (j := 8) (by kernel_rfl) (by kernel_rfl)
              refine Giv.wp ?_ hk
              unfold Giv
              go_simp
              exact giv_val (Below.refl _ _) rfl
            · have f4 : A.tmps[4]?.getD undef = (.slice (some ⟨ga, oa, none⟩) (R.length + 1) ca) := fg_old (hF 4) (j := 9) (by kernel_rfl) (by kernel_rfl)
              refine Giv.wp ?_ hk
              unfold Giv
              go_simp
              exact giv_val (Below.refl _ _) rfl
            · have f49 : A.tmps[49]?.getD undef = (.slice (some ⟨ga, oa, none⟩) (R.length + 1) ca) := fg_some (hF 49) (j := 1) (by kernel_rfl) (by kernel_rfl)
              refine Giv.wp ?_ hk
              unfold Giv
              go_simp
              exact giv_val (Below.refl _ _) rfl
            · have f50 : A.tmps[50]?.getD undef = .pointer (some ⟨ga, oa, none⟩) := fg_some (hF 50) (j := 2) (by kernel_rfl) (by kernel_rfl)
              obtain ⟨d0, d1, d2, d3, d4, d5, d6⟩ := HAT.out.keep (hC.1.block ga HGA.out)
              refine Giv.wp ?_ hk
              unfold Giv
              go_simp
              exact giv_val (Below.refl _ _) rfl
            · have f51 : A.tmps[51]?.getD undef = .agg #[.int .i64 x.s, .int .i64 x.t, .int .i64 x.c, .int .i64 x.d, .int .u32 (vI x.a), .int .u32 (vI x.b), .int .u32 (vI x.e)] := fg_some (hF 51) (j := 3) (by kernel_rfl) (by kernel_rfl)
              refine Giv.wp ?_ hk
              unfold Giv
              go_simp
              exact giv_val ((Below.refl _ _).alloc (Nat.le_refl _) _) ⟨_, rfl, fun e => by have := HOW.out _ e; have := hC.2.1; omega, Blk.new _ _ _⟩
            · have f48 : A.tmps[48]?.getD undef = vo := fg_some (hF 48) (j := 0) (by kernel_rfl) (by kernel_rfl)
              obtain ⟨gb, f52, hgb, hbb⟩ := (fg_some (hF 52) (j := 4) (by kernel_rfl) (by kernel_rfl) : ∃ g, (A.tmps[52]?.getD undef) = .slice (some ⟨g, 0, none⟩) 1 1 ∧ vo.ownBlock ≠ some g ∧ Box v g x)
              exact wp_append_E _ _ rfl B vo O N HN.out (by simpa [Act.eval] using f48) (hC.2.2 hd) gb x (by simpa [Act.eval] using f52) hbb (by omega) (by have := hC.2.1; have := HBS.out; omega) fun g c w2 h1 h2 h3 => hk _ _ h2 ⟨g, c, rfl, h1⟩
            · have f4 : A.tmps[4]?.getD undef = (.slice (some ⟨ga, oa, none⟩) (R.length + 1) ca) := fg_old (hF 4) (j := 9) (by kernel_rfl) (by kernel_rfl)
              refine Giv.wp ?_ hk
              unfold Giv
              go_simp
              exact giv_val (Below.refl _ _) rfl
            · have f54 : A.tmps[54]?.getD undef = (.slice (some ⟨ga, oa, none⟩) (R.length + 1) ca) := fg_some (hF 54) (j := 6) (by kernel_rfl) (by kernel_rfl)
              have h1R : (1 : Int) ≤ (R.length : Int) + 1 := by omega
              refine Giv.wp ?_ hk
              unfold Giv
              go_simp
              exact giv_val (Below.refl _ _) HVT.out
            · obtain ⟨g5, c5, f53, h5⟩ := (fg_some (hF 53) (j := 5) (by kernel_rfl) (by kernel_rfl) : ∃ g c, (A.tmps[53]?.getD undef) = .slice (some ⟨g, 0, none⟩) (N + 1) c ∧ OwnE v B (.slice (some ⟨g, 0, none⟩) (N + 1) c) (O ++ [x]))
              refine Giv.wp ?_ hk
              unfold Giv
              go_simp
              exact giv_val (Below.refl _ _) ⟨g5, c5, rfl, h5⟩
            · have f55 : A.tmps[55]?.getD undef = vt := fg_some (hF 55) (j := 7) (by kernel_rfl) (by kernel_rfl)
              refine Giv.wp ?_ hk
              unfold Giv
              go_simp
              exact giv_val (Below.refl _ _) rfl
          intro a W8 d hd hC hsz hdf hF hW
          have ha := end_gen [false, false, false, false, true, false, true, false, false, false, false, false, false, false, false, false, false, false, false, false, false, false, false, false, false, false, false, false, false, false, false, false, false, false, false, false, false, false, false, false, false, false, false, false, false, false, false, false, true, true, true, true, true, true, true, true, false, false, false, false, false, false, false, false, false] hsz hdf hF (by kernel_rfl)
          obtain ⟨g8, c8, f6, h8⟩ := (fe_some (hF 6) (j := 8) (by kernel_rfl) : ∃ g c, (a.tmps[6]?.getD undef) = .slice (some ⟨g, 0, none⟩) (N + 1) c ∧ OwnE W8 B (.slice (some ⟨g, 0, none⟩) (N + 1) c) (O ++ [x]))
          have f4 : a.tmps[4]?.getD undef = vt := fe_some (hF 4) (j := 9) (by kernel_rfl)
          rw [ha]
          clear ha hF hW
          simp only [cutM_yes, cutM_no, cutM_nil, Nat.reduceAdd]
          rw [f6, f4]
          have H8 := Lib.hid h8
          have HW8 : Hid (Below B W1 W8) := Lib.hid (HW.out.trans hC.1)
          have HB8 : Hid (B ≤ W8.heap.size) := Lib.hid (Nat.le_trans HBS.out hC.2.1)
          have HE8 : Hid (EntB W8 B vt R) := Lib.hid (HET.out.keep hC.1)
          have HD8 : Hid (EntB W8 B (.slice qb 0 kb) []) := Lib.hid (HOT.out.keep hC.1)
          clear hC hsz hdf hd h8 f6 f4
          go_wp2_with fail
          go_roundw
          case rel => exact ⟨R, [], O ++ [x], _, _, _, rfl, rfl, rfl, HE8, HD8, H8, Lib.hid (by rw [← HE9.out, mrg_nil_r, mrg_nil_r]; simp), Lib.hid (by have := HL9.out; simp only [List.length_append, List.length_cons, List.length_nil] at this ⊢; omega), HW8, HB8⟩
          case measure => rw [← HVT.out]; simp [lenS]
        | cons y T =>
          by_cases e : ltP x y
          · skip
            obtain ⟨gd, od, cd, rfl, hcd, hgd, hATd, -, -⟩ := id HD.out.cons
            obtain ⟨ga, oa, ca, rfl, hca, hga, hAT, hEt, hEn⟩ := id HA.out.cons
            have HBF : Hid (∀ w1, Calls Try.prog 73 #[.agg #[.int .i64 x.s, .int .i64 x.t, .int .i64 x.c, .int .i64 x.d, .int .u32 (vI x.a), .int .u32 (vI x.b), .int .u32 (vI x.e)], .agg #[.int .i64 y.s, .int .i64 y.t, .int .i64 y.c, .int .i64 y.d, .int .u32 (vI y.a), .int .u32 (vI y.b), .int .u32 (vI y.e)]] w1 fun e w' => e = .returned (.bool true) ∧ Below w1.heap.size w1 w') := Lib.hid fun w1 => by
              have h := before_c x y w1
              rw [show decide (ltP x y) = true from by simpa using e] at h
              exact h
            have hgl := hAT.lt
            have hgdl := hATd.lt
            have hRI : (R.length : Int) ≤ 100000 := by have := HL9.out; simp only [List.length_cons] at this; omega
            have hRz : ((R.length : Int) + 1 == 0) = false := by simp; omega
            have hRp : (0 : Int) < (R.length : Int) + 1 := by omega
            have hTI : (T.length : Int) ≤ 100000 := by have := HL9.out; simp only [List.length_cons] at this; omega
            have hTz : ((T.length : Int) + 1 == 0) = false := by simp; omega
            have hTp : (0 : Int) < (T.length : Int) + 1 := by omega
            go_upto_region 7 with fail
            refine wp_region_kp (by kernel_rfl) (by kernel_rfl) ?_
            repeat (first
                | go_big_quiet_skip
                | (go_big_quiet_want
                   go_big_quiet_op
                   first
                     | go_big_quiet_on
                     | (apply Exists.intro
                        refine ⟨fun w1 hC => ?_, ?_⟩
                        · first
                            | (go_at_call 73; with_reducible exact hC.call (HBF.out _))
                            | (obtain ⟨b0, b1, b2, b3, b4, b5, b6⟩ := hAT.keep (hC.block ga hgl); go_simp; exact rfl)
                            | (obtain ⟨d0, d1, d2, d3, d4, d5, d6⟩ := hATd.keep (hC.block gd hgdl); go_simp; exact rfl)
                            | (go_simp; exact ⟨rfl, rfl⟩)
                        go_big_quiet_on)))
            refine wpQuiet_nil ?_
            intro W hC
            clear hcd hgd hATd HBF hgl hgdl
            have HO : Hid (OwnE W B vo O) := Lib.hid (HO9.out.below hC)
            have HAT : Hid (At7 W ga oa x) := Lib.hid (hAT.keep (hC.block ga (hAT.lt)))
            have HGA : Hid (ga < B) := Lib.hid hga
            have HBS : Hid (B ≤ W.heap.size) := Lib.hid (Nat.le_trans HB9.out hC.size)
            have HW : Hid (Below B W1 W) := Lib.hid (HW9.out.trans (hC.mono HB9.out))
            have HET : Hid (EntB W B (.slice (if ca = 1 then some ⟨ga, oa, none⟩ else some ⟨ga, oa + 7, none⟩) R.length (ca - 1)) R) := Lib.hid (by
              by_cases h : ca = 1
              · have hR : R = [] := List.eq_nil_of_length_eq_zero (by omega)
                subst hR
                exact (hEn rfl _ _).keep (hC.mono HB9.out)
              · rw [if_neg h]; exact hEt.keep (hC.mono HB9.out))
            have HOT : Hid (EntB W B (.slice (some ⟨gd, od, none⟩) (T.length + 1) cd) (y :: T)) := Lib.hid (HD.out.keep (hC.mono HB9.out))
            have HOW : Hid (∀ k, vo.ownBlock = some k → k < W.heap.size) := Lib.hid fun k e => (World.ownsRow.lt HO.out k e).2
            obtain ⟨N, hN⟩ : ∃ N, O.length = N := ⟨_, rfl⟩
            have HN := Lib.hid hN
            have hNl : N ≤ 300000 := by have := HL9.out; simp only [List.length_cons] at this; omega
            clear hC hAT hga hEt hEn HA HD HO9 HB9 HW9 hN
            generalize hvt : (Value.slice (if ca = 1 then some (⟨ga, oa, none⟩ : Addr) else some ⟨ga, oa + 7, none⟩) R.length (ca - 1)) = vt at *
            have HVT := Lib.hid hvt
            clear hvt
            go_upto_region 8 with fail
            refine wp_region_gen (oC B O vo W) (oRel vo) (oaPhi B N O x (.slice (some ⟨ga, oa, none⟩) (R.length + 1) ca) vo vt ga oa) (by kernel_rfl) (by kernel_rfl) ⟨(Below.refl _ _).drew, Nat.le_refl _, fun _ => HO.out.below (Below.refl _ _).drew⟩ (oC_step HBS.out) [(8, 5)] (by kernel_rfl) oaPhi_keep ?_ ?_
            · refine ⟨⟨trivial, fun A v d hd hC hF hW K Q hk => ?_⟩, ⟨trivial, fun A v d hd hC hF hW K Q hk => ?_⟩, ⟨trivial, fun A v d hd hC hF hW K Q hk => ?_⟩, ⟨trivial, fun A v d hd hC hF hW K Q hk => ?_⟩, ⟨trivial, fun A v d hd hC hF hW K Q hk => ?_⟩, ⟨trivial, fun A v d hd hC hF hW K Q hk => ?_⟩, ⟨trivial, fun A v d hd hC hF hW K Q hk => ?_⟩, ⟨trivial, fun A v d hd hC hF hW K Q hk => ?_⟩, ⟨trivial, fun A v d hd hC hF hW K Q hk => ?_⟩, ⟨trivial, fun A v d hd hC hF hW K Q hk => ?_⟩, trivial⟩
              · have f6 : A.tmps[6]?.getD undef = vo := fg_old (hF 6) (j := 8) (by kernel_rfl) (by kernel_rfl)
                refine Giv.wp ?_ hk
                unfold Giv
                go_simp
                exact giv_val (Below.refl _ _) rfl
              · have f4 : A.tmps[4]?.getD undef = (.slice (some ⟨ga, oa, none⟩) (R.length + 1) ca) := fg_old (hF 4) (j := 9) (by kernel_rfl) (by kernel_rfl)
                refine Giv.wp ?_ hk
                unfold Giv
                go_simp
                exact giv_val (Below.refl _ _) rfl
              · have f49 : A.tmps[49]?.getD undef = (.slice (some ⟨ga, oa, none⟩) (R.length + 1) ca) := fg_some (hF 49) (j := 1) (by kernel_rfl) (by kernel_rfl)
                refine Giv.wp ?_ hk
                unfold Giv
                go_simp
                exact giv_val (Below.refl _ _) rfl
              · have f50 : A.tmps[50]?.getD undef = .pointer (some ⟨ga, oa, none⟩) := fg_some (hF 50) (j := 2) (by kernel_rfl) (by kernel_rfl)
                obtain ⟨d0, d1, d2, d3, d4, d5, d6⟩ := HAT.out.keep (hC.1.block ga HGA.out)
                refine Giv.wp ?_ hk
                unfold Giv
                go_simp
                exact giv_val (Below.refl _ _) rfl
              · have f51 : A.tmps[51]?.getD undef = .agg #[.int .i64 x.s, .int .i64 x.t, .int .i64 x.c, .int .i64 x.d, .int .u32 (vI x.a), .int .u32 (vI x.b), .int .u32 (vI x.e)] := fg_some (hF 51) (j := 3) (by kernel_rfl) (by kernel_rfl)
                refine Giv.wp ?_ hk
                unfold Giv
                go_simp
                exact giv_val ((Below.refl _ _).alloc (Nat.le_refl _) _) ⟨_, rfl, fun e => by have := HOW.out _ e; have := hC.2.1; omega, Blk.new _ _ _⟩
              · have f48 : A.tmps[48]?.getD undef = vo := fg_some (hF 48) (j := 0) (by kernel_rfl) (by kernel_rfl)
                obtain ⟨gb, f52, hgb, hbb⟩ := (fg_some (hF 52) (j := 4) (by kernel_rfl) (by kernel_rfl) : ∃ g, (A.tmps[52]?.getD undef) = .slice (some ⟨g, 0, none⟩) 1 1 ∧ vo.ownBlock ≠ some g ∧ Box v g x)
                exact wp_append_E _ _ rfl B vo O N HN.out (by simpa [Act.eval] using f48) (hC.2.2 hd) gb x (by simpa [Act.eval] using f52) hbb (by omega) (by have := hC.2.1; have := HBS.out; omega) fun g c w2 h1 h2 h3 => hk _ _ h2 ⟨g, c, rfl, h1⟩
              · have f4 : A.tmps[4]?.getD undef = (.slice (some ⟨ga, oa, none⟩) (R.length + 1) ca) := fg_old (hF 4) (j := 9) (by kernel_rfl) (by kernel_rfl)
                refine Giv.wp ?_ hk
                unfold Giv
                go_simp
                exact giv_val (Below.refl _ _) rfl
              · have f54 : A.tmps[54]?.getD undef = (.slice (some ⟨ga, oa, none⟩) (R.length + 1) ca) := fg_some (hF 54) (j := 6) (by kernel_rfl) (by kernel_rfl)
                have h1R : (1 : Int) ≤ (R.length : Int) + 1 := by omega
                refine Giv.wp ?_ hk
                unfold Giv
                go_simp
                exact giv_val (Below.refl _ _) HVT.out
              · obtain ⟨g5, c5, f53, h5⟩ := (fg_some (hF 53) (j := 5) (by kernel_rfl) (by kernel_rfl) : ∃ g c, (A.tmps[53]?.getD undef) = .slice (some ⟨g, 0, none⟩) (N + 1) c ∧ OwnE v B (.slice (some ⟨g, 0, none⟩) (N + 1) c) (O ++ [x]))
                refine Giv.wp ?_ hk
                unfold Giv
                go_simp
                exact giv_val (Below.refl _ _) ⟨g5, c5, rfl, h5⟩
              · have f55 : A.tmps[55]?.getD undef = vt := fg_some (hF 55) (j := 7) (by kernel_rfl) (by kernel_rfl)
                refine Giv.wp ?_ hk
                unfold Giv
                go_simp
                exact giv_val (Below.refl _ _) rfl
            intro a W8 d hd hC hsz hdf hF hW
            have ha := end_gen [false, false, false, false, true, false, true, false, false, false, false, false, false, false, false, false, false, false, false, false, false, false, false, false, false, false, false, false, false, false, false, false, false, false, false, false, false, false, false, false, false, false, false, false, false, false, false, false, true, true, true, true, true, true, true, true, false, false, false, false, false, false, false, false, false] hsz hdf hF (by kernel_rfl)
            obtain ⟨g8, c8, f6, h8⟩ := (fe_some (hF 6) (j := 8) (by kernel_rfl) : ∃ g c, (a.tmps[6]?.getD undef) = .slice (some ⟨g, 0, none⟩) (N + 1) c ∧ OwnE W8 B (.slice (some ⟨g, 0, none⟩) (N + 1) c) (O ++ [x]))
            have f4 : a.tmps[4]?.getD undef = vt := fe_some (hF 4) (j := 9) (by kernel_rfl)
            rw [ha]
            clear ha hF hW
            simp only [cutM_yes, cutM_no, cutM_nil, Nat.reduceAdd]
            rw [f6, f4]
            have H8 := Lib.hid h8
            have HW8 : Hid (Below B W1 W8) := Lib.hid (HW.out.trans hC.1)
            have HB8 : Hid (B ≤ W8.heap.size) := Lib.hid (Nat.le_trans HBS.out hC.2.1)
            have HE8 : Hid (EntB W8 B vt R) := Lib.hid (HET.out.keep hC.1)
            have HD8 : Hid (EntB W8 B (.slice (some ⟨gd, od, none⟩) (T.length + 1) cd) (y :: T)) := Lib.hid (HOT.out.keep hC.1)
            clear hC hsz hdf hd h8 f6 f4
            go_wp2_with fail
            go_roundw
            case rel => exact ⟨R, y :: T, O ++ [x], _, _, _, rfl, rfl, rfl, HE8, HD8, H8, Lib.hid (by rw [← HE9.out, mrg_a e]; simp), Lib.hid (by have := HL9.out; simp only [List.length_append, List.length_cons, List.length_nil] at this ⊢; omega), HW8, HB8⟩
            case measure => rw [← HVT.out]; simp [lenS]
          · generalize x = z at *
            generalize R = Z at *
            generalize y = x at *
            generalize T = R at *
            generalize z = y at *
            generalize Z = T at *
            obtain ⟨gd, od, cd, rfl, hcd, hgd, hATd, -, -⟩ := id HA.out.cons
            obtain ⟨ga, oa, ca, rfl, hca, hga, hAT, hEt, hEn⟩ := id HD.out.cons
            have HBF : Hid (∀ w1, Calls Try.prog 73 #[.agg #[.int .i64 y.s, .int .i64 y.t, .int .i64 y.c, .int .i64 y.d, .int .u32 (vI y.a), .int .u32 (vI y.b), .int .u32 (vI y.e)], .agg #[.int .i64 x.s, .int .i64 x.t, .int .i64 x.c, .int .i64 x.d, .int .u32 (vI x.a), .int .u32 (vI x.b), .int .u32 (vI x.e)]] w1 fun e w' => e = .returned (.bool false) ∧ Below w1.heap.size w1 w') := Lib.hid fun w1 => by
              have h := before_c y x w1
              rw [show decide (ltP y x) = false from by simpa using e] at h
              exact h
            have hgl := hAT.lt
            have hgdl := hATd.lt
            have hRI : (R.length : Int) ≤ 100000 := by have := HL9.out; simp only [List.length_cons] at this; omega
            have hRz : ((R.length : Int) + 1 == 0) = false := by simp; omega
            have hRp : (0 : Int) < (R.length : Int) + 1 := by omega
            have hTI : (T.length : Int) ≤ 100000 := by have := HL9.out; simp only [List.length_cons] at this; omega
            have hTz : ((T.length : Int) + 1 == 0) = false := by simp; omega
            have hTp : (0 : Int) < (T.length : Int) + 1 := by omega
            go_upto_region 7 with fail
            refine wp_region_kp (by kernel_rfl) (by kernel_rfl) ?_
            repeat (first
                | go_big_quiet_skip
                | (go_big_quiet_want
                   go_big_quiet_op
                   first
                     | go_big_quiet_on
                     | (apply Exists.intro
                        refine ⟨fun w1 hC => ?_, ?_⟩
                        · first
                            | (go_at_call 73; with_reducible exact hC.call (HBF.out _))
                            | (obtain ⟨b0, b1, b2, b3, b4, b5, b6⟩ := hAT.keep (hC.block ga hgl); go_simp; exact rfl)
                            | (obtain ⟨d0, d1, d2, d3, d4, d5, d6⟩ := hATd.keep (hC.block gd hgdl); go_simp; exact rfl)
                            | (go_simp; exact ⟨rfl, rfl⟩)
                        go_big_quiet_on)))
            refine wpQuiet_nil ?_
            intro W hC
            clear hcd hgd hATd HBF hgl hgdl
            have HO : Hid (OwnE W B vo O) := Lib.hid (HO9.out.below hC)
            have HAT : Hid (At7 W ga oa x) := Lib.hid (hAT.keep (hC.block ga (hAT.lt)))
            have HGA : Hid (ga < B) := Lib.hid hga
            have HBS : Hid (B ≤ W.heap.size) := Lib.hid (Nat.le_trans HB9.out hC.size)
            have HW : Hid (Below B W1 W) := Lib.hid (HW9.out.trans (hC.mono HB9.out))
            have HET : Hid (EntB W B (.slice (if ca = 1 then some ⟨ga, oa, none⟩ else some ⟨ga, oa + 7, none⟩) R.length (ca - 1)) R) := Lib.hid (by
              by_cases h : ca = 1
              · have hR : R = [] := List.eq_nil_of_length_eq_zero (by omega)
                subst hR
                exact (hEn rfl _ _).keep (hC.mono HB9.out)
              · rw [if_neg h]; exact hEt.keep (hC.mono HB9.out))
            have HOT : Hid (EntB W B (.slice (some ⟨gd, od, none⟩) (T.length + 1) cd) (y :: T)) := Lib.hid (HA.out.keep (hC.mono HB9.out))
            have HOW : Hid (∀ k, vo.ownBlock = some k → k < W.heap.size) := Lib.hid fun k e => (World.ownsRow.lt HO.out k e).2
            obtain ⟨N, hN⟩ : ∃ N, O.length = N := ⟨_, rfl⟩
            have HN := Lib.hid hN
            have hNl : N ≤ 300000 := by have := HL9.out; simp only [List.length_cons] at this; omega
            clear hC hAT hga hEt hEn HA HD HO9 HB9 HW9 hN
            generalize hvt : (Value.slice (if ca = 1 then some (⟨ga, oa, none⟩ : Addr) else some ⟨ga, oa + 7, none⟩) R.length (ca - 1)) = vt at *
            have HVT := Lib.hid hvt
            clear hvt
            go_upto_region 9 with fail
            refine wp_region_gen (oC B O vo W) (oRel vo) (obPhi B N O x (.slice (some ⟨ga, oa, none⟩) (R.length + 1) ca) vo vt ga oa) (by kernel_rfl) (by kernel_rfl) ⟨(Below.refl _ _).drew, Nat.le_refl _, fun _ => HO.out.below (Below.refl _ _).drew⟩ (oC_step HBS.out) [(8, 5)] (by kernel_rfl) obPhi_keep ?_ ?_
            · refine ⟨⟨trivial, fun A v d hd hC hF hW K Q hk => ?_⟩, ⟨trivial, fun A v d hd hC hF hW K Q hk => ?_⟩, ⟨trivial, fun A v d hd hC hF hW K Q hk => ?_⟩, ⟨trivial, fun A v d hd hC hF hW K Q hk => ?_⟩, ⟨trivial, fun A v d hd hC hF hW K Q hk => ?_⟩, ⟨trivial, fun A v d hd hC hF hW K Q hk => ?_⟩, ⟨trivial, fun A v d hd hC hF hW K Q hk => ?_⟩, ⟨trivial, fun A v d hd hC hF hW K Q hk => ?_⟩, ⟨trivial, fun A v d hd hC hF hW K Q hk => ?_⟩, ⟨trivial, fun A v d hd hC hF hW K Q hk => ?_⟩, trivial⟩
              · have f6 : A.tmps[6]?.getD undef = vo := fg_old (hF 6) (j := 8) (by kernel_rfl) (by kernel_rfl)
                refine Giv.wp ?_ hk
                unfold Giv
                go_simp
                exact giv_val (Below.refl _ _) rfl
              · have f5 : A.tmps[5]?.getD undef = (.slice (some ⟨ga, oa, none⟩) (R.length + 1) ca) := fg_old (hF 5) (j := 9) (by kernel_rfl) (by kernel_rfl)
                refine Giv.wp ?_ hk
                unfold Giv
                go_simp
                exact giv_val (Below.refl _ _) rfl
              · have f57 : A.tmps[57]?.getD undef = (.slice (some ⟨ga, oa, none⟩) (R.length + 1) ca) := fg_some (hF 57) (j := 1) (by kernel_rfl) (by kernel_rfl)
                refine Giv.wp ?_ hk
                unfold Giv
                go_simp
                exact giv_val (Below.refl _ _) rfl
              · have f58 : A.tmps[58]?.getD undef = .pointer (some ⟨ga, oa, none⟩) := fg_some (hF 58) (j := 2) (by kernel_rfl) (by kernel_rfl)
                obtain ⟨d0, d1, d2, d3, d4, d5, d6⟩ := HAT.out.keep (hC.1.block ga HGA.out)
                refine Giv.wp ?_ hk
                unfold Giv
                go_simp
                exact giv_val (Below.refl _ _) rfl
              · have f59 : A.tmps[59]?.getD undef = .agg #[.int .i64 x.s, .int .i64 x.t, .int .i64 x.c, .int .i64 x.d, .int .u32 (vI x.a), .int .u32 (vI x.b), .int .u32 (vI x.e)] := fg_some (hF 59) (j := 3) (by kernel_rfl) (by kernel_rfl)
                refine Giv.wp ?_ hk
                unfold Giv
                go_simp
                exact giv_val ((Below.refl _ _).alloc (Nat.le_refl _) _) ⟨_, rfl, fun e => by have := HOW.out _ e; have := hC.2.1; omega, Blk.new _ _ _⟩
              · have f56 : A.tmps[56]?.getD undef = vo := fg_some (hF 56) (j := 0) (by kernel_rfl) (by kernel_rfl)
                obtain ⟨gb, f60, hgb, hbb⟩ := (fg_some (hF 60) (j := 4) (by kernel_rfl) (by kernel_rfl) : ∃ g, (A.tmps[60]?.getD undef) = .slice (some ⟨g, 0, none⟩) 1 1 ∧ vo.ownBlock ≠ some g ∧ Box v g x)
                exact wp_append_E _ _ rfl B vo O N HN.out (by simpa [Act.eval] using f56) (hC.2.2 hd) gb x (by simpa [Act.eval] using f60) hbb (by omega) (by have := hC.2.1; have := HBS.out; omega) fun g c w2 h1 h2 h3 => hk _ _ h2 ⟨g, c, rfl, h1⟩
              · have f5 : A.tmps[5]?.getD undef = (.slice (some ⟨ga, oa, none⟩) (R.length + 1) ca) := fg_old (hF 5) (j := 9) (by kernel_rfl) (by kernel_rfl)
                refine Giv.wp ?_ hk
                unfold Giv
                go_simp
                exact giv_val (Below.refl _ _) rfl
              · have f62 : A.tmps[62]?.getD undef = (.slice (some ⟨ga, oa, none⟩) (R.length + 1) ca) := fg_some (hF 62) (j := 6) (by kernel_rfl) (by kernel_rfl)
                have h1R : (1 : Int) ≤ (R.length : Int) + 1 := by omega
                refine Giv.wp ?_ hk
                unfold Giv
                go_simp
                exact giv_val (Below.refl _ _) HVT.out
              · obtain ⟨g5, c5, f61, h5⟩ := (fg_some (hF 61) (j := 5) (by kernel_rfl) (by kernel_rfl) : ∃ g c, (A.tmps[61]?.getD undef) = .slice (some ⟨g, 0, none⟩) (N + 1) c ∧ OwnE v B (.slice (some ⟨g, 0, none⟩) (N + 1) c) (O ++ [x]))
                refine Giv.wp ?_ hk
                unfold Giv
                go_simp
                exact giv_val (Below.refl _ _) ⟨g5, c5, rfl, h5⟩
              · have f63 : A.tmps[63]?.getD undef = vt := fg_some (hF 63) (j := 7) (by kernel_rfl) (by kernel_rfl)
                refine Giv.wp ?_ hk
                unfold Giv
                go_simp
                exact giv_val (Below.refl _ _) rfl
            intro a W8 d hd hC hsz hdf hF hW
            have ha := end_gen [false, false, false, false, false, true, true, false, false, false, false, false, false, false, false, false, false, false, false, false, false, false, false, false, false, false, false, false, false, false, false, false, false, false, false, false, false, false, false, false, false, false, false, false, false, false, false, false, false, false, false, false, false, false, false, false, true, true, true, true, true, true, true, true, false] hsz hdf hF (by kernel_rfl)
            obtain ⟨g8, c8, f6, h8⟩ := (fe_some (hF 6) (j := 8) (by kernel_rfl) : ∃ g c, (a.tmps[6]?.getD undef) = .slice (some ⟨g, 0, none⟩) (N + 1) c ∧ OwnE W8 B (.slice (some ⟨g, 0, none⟩) (N + 1) c) (O ++ [x]))
            have f5 : a.tmps[5]?.getD undef = vt := fe_some (hF 5) (j := 9) (by kernel_rfl)
            rw [ha]
            clear ha hF hW
            simp only [cutM_yes, cutM_no, cutM_nil, Nat.reduceAdd]
            rw [f6, f5]
            have H8 := Lib.hid h8
            have HW8 : Hid (Below B W1 W8) := Lib.hid (HW.out.trans hC.1)
            have HB8 : Hid (B ≤ W8.heap.size) := Lib.hid (Nat.le_trans HBS.out hC.2.1)
            have HE8 : Hid (EntB W8 B vt R) := Lib.hid (HET.out.keep hC.1)
            have HD8 : Hid (EntB W8 B (.slice (some ⟨gd, od, none⟩) (T.length + 1) cd) (y :: T)) := Lib.hid (HOT.out.keep hC.1)
            clear hC hsz hdf hd h8 f6 f5
            go_wp2_with fail
            go_roundw
            case rel => exact ⟨y :: T, R, O ++ [x], _, _, _, rfl, rfl, rfl, HD8, HE8, H8, Lib.hid (by rw [← HE9.out, mrg_b e]; simp), Lib.hid (by have := HL9.out; simp only [List.length_append, List.length_cons, List.length_nil] at this ⊢; omega), HW8, HB8⟩
            case measure => rw [← HVT.out]; simp [lenS]

end Go.Proofs.Ytjikbffnhfoikaa
/- Entries as keys of maps; where an entry with a key is in a list. -/
namespace Go.Proofs.Ytjikbffnhfoikaa
open Go.RowKit Go.Sort Go.Maps
theorem MapR.lookOk {P : Program} {k t e : TypeId} {w : World} {b n : Nat} {f : Lit → Option Value} (h : MapR P k w b n f) (K : Keyed P k) (ht : P.underlying t = some (.map k e)) {z : Value} (hz : (zeroValue e).run P w = .ok z w) {key : Value} {kl : Lit} (hkey : keyOf P k key = some kl) :
    (Instr.lookup t (.map (some b)) key true).run P w = .ok (.tuple #[(f kl).getD z, .bool (f kl).isSome]) w := by
  have h2 := h.lookup K ht hz hkey
  obtain ⟨D, h, hd⟩ := h
  obtain ⟨v, ps, hrun, hv⟩ := h.look_ok K ht hz (zd := .held z) (zp := []) rfl hkey
  simp only [Rid, Option.some.injEq, Prod.mk.injEq] at hv
  rw [hrun, hd.h]
  congr 2
  congr 1
  have : v = (f kl).getD z := by
    cases hf : f kl with
    | some u =>
      rw [hd.a _ _ hf] at hv
      simpa using hv.1
    | none =>
      have : has D kl = false := by rw [hd.h, hf]; rfl
      rw [atKey_of_not_has this] at hv
      simpa using hv.1
  rw [this]
theorem law_ent : WideMaps.KeyLaw Try.prog 61 := deep_law_gate Try.laidOut (of_decide_eq_true (by kernel_rfl)) (of_decide_eq_true (by kernel_rfl)) (by kernel_rfl) (by rw [Try.underlying61])
theorem keyed_ent : Keyed Try.prog 61 := Keyed.of_law law_ent
def keyU (x : E) : Value := .agg #[.int .i64 x.s, .int .i64 x.t, .int .i64 x.c, .int .i64 x.d, .int .u32 0, .int .u32 0, .int .u32 0]
def klU (x : E) : Lit := .string (keyBytes [.int .i64 x.s, .int .i64 x.t, .int .i64 x.c, .int .i64 x.d, .int .u32 0, .int .u32 0, .int .u32 0])
theorem keyOf_U (x : E) : keyOf Try.prog 61 (keyU x) = some (klU x) := by
  have hu := Try.underlying61
  have he := Try.underlying3
  have h32 := Try.underlying25
  have hk : Try.prog.keyType 61 = true := by kernel_rfl
  have hc : Try.prog.cellsOf 61 = 7 := by kernel_rfl
  have h1 : Try.prog.cellsOf 3 = 1 := by kernel_rfl
  have h2 : Try.prog.cellsOf 25 = 1 := by kernel_rfl
  have hz : (Lit.int .u32 0).wf = true := rfl
  obtain ⟨m, hm⟩ := sizes
  unfold keyOf keyU klU
  simp only [hu]
  rw [if_pos (by simp [hk, Value.formed, hu, hc]), hm]
  unfold Program.keyLits
  simp only [hu, Value.cells]
  rw [if_pos ⟨by rw [hc]; rfl, by kernel_rfl⟩, List.mapM_cons, List.mapM_cons, List.mapM_cons, List.mapM_cons, List.mapM_cons, List.mapM_cons, List.mapM_cons, List.mapM_nil]
  simp [h1, h2, Program.keyLits, he, h32, wf64 x.wf.1, wf64 x.wf.2.1, wf64 x.wf.2.2.1, wf64 x.wf.2.2.2, hz]
theorem klU_iff {x z : E} : klU x = klU z ↔ eqP x z := by
  constructor
  · intro h
    have := keyed_ent.inj (keyOf_U x) (h ▸ keyOf_U z)
    simp only [keyU, Value.agg.injEq, Array.mk.injEq, List.cons.injEq, Value.int.injEq, true_and, and_true] at this
    exact this
  · rintro ⟨h1, h2, h3, h4⟩
    unfold klU
    rw [h1, h2, h3, h4]
theorem klU_same {x z : E} : (klU z).sameKey (klU x) = decide (eqP x z) := by
  by_cases h : eqP x z
  · rw [klU_iff.2 h, WideAt.sameKey_self (keyed_ent.key (keyOf_U z)), decide_eq_true h]
  · rw [sameKey_ne (fun e => h (klU_iff.1 e.symm)), decide_eq_false h]
/-- where the entry with the key of z is -/
def idx (O : List E) (z : E) : Option Nat := O.findIdx? fun y => decide (eqP y z)
def iV (o : Option Nat) : Option Value := o.map fun i => Value.int .i64 (i : Int)
def IM (O : List E) (f : Lit → Option Value) : Prop := ∀ z, f (klU z) = iV (idx O z)
theorem IM.nil : IM [] fun _ => none := fun _ => rfl
theorem idx_snoc (O : List E) (x z : E) : idx (O ++ [x]) z = (idx O z).or (if eqP x z then some O.length else none) := by
  unfold idx
  rw [List.findIdx?_append]
  congr 1
  by_cases h : eqP x z
  · simp [List.findIdx?_cons, h]
  · simp [List.findIdx?_cons, h]
theorem idx_key {O : List E} {x z : E} (h : eqP x z) : idx O x = idx O z := by
  unfold idx
  congr 1
  funext y
  exact decide_eq_decide.2 ⟨fun k => eqP_trans k h, fun k => eqP_trans k (eqP_symm h)⟩
theorem IM.step {O : List E} {f : Lit → Option Value} (h : IM O f) {x : E} (hx : idx O x = none) {n : Nat} (hn : O.length = n) : IM (O ++ [x]) (upd f (klU x) (.int .i64 n)) := fun z => by
  unfold upd
  rw [klU_same, idx_snoc]
  by_cases e : eqP x z
  · rw [if_pos (decide_eq_true e), if_pos e, ← idx_key e, hx, hn]; rfl
  · rw [if_neg (by simpa using e), if_neg e, h z]
    cases idx O z <;> rfl
theorem idx_none {O : List E} {x : E} (h : idx O x = none) : ∀ y ∈ O, ¬ eqP y x := fun y hy e => by
  have := List.findIdx?_eq_none_iff.1 h y hy
  rw [decide_eq_true e] at this
  cases this
theorem idx_some {O : List E} {x : E} {k : Nat} (h : idx O x = some k) : ∃ hk : k < O.length, eqP O[k] x := by
  obtain ⟨hk, h1, _⟩ := List.findIdx?_eq_some_iff_getElem.1 h
  exact ⟨hk, of_decide_eq_true h1⟩
theorem idx_set {O : List E} {k : Nat} {y : E} (hk : k < O.length) (h : eqP O[k] y) (z : E) : idx (O.set k y) z = idx O z := by
  induction O generalizing k with
  | nil => simp at hk
  | cons x r ih =>
    unfold idx at ih ⊢
    cases k with
    | zero =>
      simp only [List.getElem_cons_zero] at h
      rw [List.set_cons_zero, List.findIdx?_cons, List.findIdx?_cons]
      have e : decide (eqP y z) = decide (eqP x z) := decide_eq_decide.2 ⟨fun k => eqP_trans h k, fun k => eqP_trans (eqP_symm h) k⟩
      rw [e]
    | succ k =>
      simp only [List.getElem_cons_succ] at h
      rw [List.set_cons_succ, List.findIdx?_cons, List.findIdx?_cons, ih (by simpa using hk) h]
theorem IM.set {O : List E} {f : Lit → Option Value} (h : IM O f) {k : Nat} {y : E} (hk : k < O.length) (e : eqP O[k] y) : IM (O.set k y) f := fun z => by rw [idx_set hk e]; exact h z
/-! what union has collected -/
theorem con_set {z : E} : ∀ {O : List E} {k : Nat} {y : E} (hk : k < O.length), eqP O[k] y → App O → con z (O.set k y) = if eqP y z then vec y else con z O
  | [], k, y, hk, _, _ => by simp at hk
  | x :: r, 0, y, _, h, hA => by
    simp only [List.getElem_cons_zero] at h
    obtain ⟨h1, h2⟩ := List.pairwise_cons.1 hA
    rw [List.set_cons_zero]
    by_cases e : eqP y z
    · rw [if_pos e]
      simp only [con, if_pos e]
      rw [con_none z fun u hu k => h1 u hu (eqP_trans h (eqP_trans e (eqP_symm k))), orV_z]
    · rw [if_neg e]
      simp only [con, if_neg e, if_neg (fun k => e (eqP_trans (eqP_symm h) k) : ¬ eqP x z)]
  | x :: r, k + 1, y, hk, h, hA => by
    simp only [List.getElem_cons_succ] at h
    obtain ⟨h1, h2⟩ := List.pairwise_cons.1 hA
    have hk' : k < r.length := by simpa using hk
    rw [List.set_cons_succ]
    have ih := con_set (z := z) hk' h h2
    by_cases e : eqP y z
    · have hx : ¬ eqP x z := fun k' => h1 r[k] (List.getElem_mem hk') (eqP_trans k' (eqP_trans (eqP_symm e) (eqP_symm h)))
      simp only [con, if_neg hx, ih]
    · simp only [con, ih, if_neg e]
theorem app_set {O : List E} {k : Nat} {y : E} (hk : k < O.length) (h : eqP O[k] y) (hA : App O) : App (O.set k y) := by
  unfold App at hA ⊢
  rw [List.pairwise_iff_getElem] at hA ⊢
  intro i j hi hj hij
  rw [List.length_set] at hi hj
  rw [List.getElem_set, List.getElem_set]
  by_cases h1 : k = i
  · subst h1
    rw [if_pos rfl, if_neg (by omega)]
    exact fun e => hA k j hk hj hij (eqP_trans h e)
  · rw [if_neg h1]
    by_cases h2 : k = j
    · subst h2
      rw [if_pos rfl]
      exact fun e => hA i k hi hk hij (eqP_trans e (eqP_symm h))
    · rw [if_neg h2]
      exact hA i j hi hj hij
/-- what union holds for the entries so far -/
def Un (O l : List E) : Prop := Acc O fun z => con z l
theorem Un.nil : Un [] [] := ⟨fun x hx => by simp at hx, List.Pairwise.nil, fun _ => rfl⟩
theorem Un.skip {O l : List E} (h : Un O l) {x : E} (hx : emp x = true) : Un O (l ++ [x]) := h.same fun z => by
  rw [con_append]
  show con z l = orV (con z l) (con z [x])
  have : con z [x] = zV := by
    simp only [con]
    split
    · rw [emp_iff.1 hx]; exact orV_z zV
    · rfl
  rw [this, orV_z]
theorem Un.new {O l : List E} (h : Un O l) {x : E} (hx : emp x = false) (hn : idx O x = none) : Un (O ++ [x]) (l ++ [x]) := by
  refine ⟨fun y hy => ?_, List.pairwise_append.2 ⟨h.ap, List.pairwise_singleton _ _, fun y hy u hu => ?_⟩, fun z => ?_⟩
  · rcases List.mem_append.1 hy with hy | hy
    · exact h.ne y hy
    · simp at hy; subst hy; exact hx
  · simp at hu; subst hu; exact idx_none hn y hy
  · rw [con_append]
    show _ = con z (l ++ [x])
    rw [con_append, h.co]
theorem Un.old {O l : List E} (h : Un O l) {x : E} {k : Nat} (hk : k < O.length) (e : eqP O[k] x) : Un (O.set k (orE O[k] x)) (l ++ [x]) := by
  have hk2 : eqP O[k] (orE O[k] x) := ⟨rfl, rfl, rfl, rfl⟩
  refine ⟨fun y hy => ?_, app_set hk hk2 h.ap, fun z => ?_⟩
  · rcases List.mem_or_eq_of_mem_set hy with hy | hy
    · exact h.ne y hy
    · subst hy; exact emp_or (h.ne _ (List.getElem_mem hk))
  · rw [con_set hk hk2 h.ap]
    show _ = con z (l ++ [x])
    rw [con_append, ← h.co]
    have hc : con O[k] O = vec O[k] := by
      have hset : O.set k O[k] = O := List.set_getElem_self hk
      have := con_set (z := O[k]) (y := O[k]) hk ⟨rfl, rfl, rfl, rfl⟩ h.ap
      rw [hset, if_pos ⟨rfl, rfl, rfl, rfl⟩] at this
      exact this
    by_cases ez : eqP (orE O[k] x) z
    · rw [if_pos ez]
      have e1 : eqP O[k] z := eqP_trans hk2 ez
      have e2 : eqP x z := eqP_trans (eqP_symm e) e1
      rw [← con_key e1 O, hc]
      simp only [con, if_pos e2, orV_z]
      rfl
    · rw [if_neg ez]
      have e2 : ¬ eqP x z := fun k' => ez (eqP_trans (eqP_symm hk2) (eqP_trans e k'))
      simp only [con, if_neg e2, orV_z]
theorem Un.len {O l : List E} (h : Un O l) : O.length ≤ l.length := by
  rw [h.length (l := l) fun _ => rfl]
  exact M_len l
theorem Un.done {O l S : List E} (h : Un O l) (ho : OrdOf O S) : S = M l := h.sorted (fun _ => rfl) ho.1 ho.2.asc
end Go.Proofs.Ytjikbffnhfoikaa
/- The reference's union, Merge. -/
namespace Go.Proofs.Ytjikbffnhfoikaa
open Go.RowKit Go.Sort Go.Maps
theorem vI_emp (b : BitVec 32) : (vI b == 0) = (b == 0#32) := by
  rw [Bool.eq_iff_iff, beq_iff_eq, beq_iff_eq]
  exact ⟨fun h => vI_inj h, fun h => by rw [h]; rfl⟩
theorem below_butU {a w w' : World} {b : Nat} (h : Below a.heap.size a w) (hg : w.grownBy w' (some b)) (hb : a.heap.size ≤ b) : Below a.heap.size a w' :=
  h.grown hg h.size (fun k e => by cases e; exact hb)
theorem grownSet (w : World) (a : Addr) (u : Value) : w.grownBy (w.setCell a u) (some a.block) := ⟨rfl, rfl, rfl, by simp [World.setCell], fun i _ hn => Below.heap_setCell w a u i (fun e => hn (by rw [e]))⟩
theorem M_one {L : List E} {i : Nat} (h : i < L.length) {x : E} (hx : L[i] = x) : L.take (i + 1) = L.take i ++ [x] := by rw [List.take_succ_eq_append_getElem h, hx]
set_option maxRecDepth 100000 in
set_option maxHeartbeats 16000000 in
theorem runion_c (v : Value) (L : List E) (hl : L.length ≤ 100000) (w : World) (hE : Ents w v L) :
    Calls Try.prog 32 #[v] w fun e w' => ∃ v', e = .returned v' ∧ Ents w' v' (M L) ∧ Below w.heap.size w w' := by
  obtain ⟨ao, cap, rfl, hcap, hr⟩ := hE
  have hlen : (L.length : Int) ≤ 100000 := by omega
  have hmm := @run_makeMap Try.prog
  go_enter Try.func32, Try.ntmps32
  go_wp2_with fail
  go_loopw [3, 5] (fun v3 vi wr => ∃ (i n : Nat) (f : Lit → Option Value) (O : List E) (vo : Value), vo = v3 ∧ i ≤ L.length ∧ n ≤ i ∧ vi = .int .i64 i ∧ Hid (Below w.heap.size w wr) ∧ Hid (MapR Try.prog 61 wr w.heap.size n f) ∧ Hid (IM O f) ∧ Hid (Un O (L.take i)) ∧ Hid (OwnE wr (w.heap.size + 1) vo O)) (fun _ vi _ => L.length - (intOf vi).toNat)
  case atStart =>
    exact ⟨0, 0, _, [], _, rfl, Nat.zero_le _, Nat.le_refl _, rfl, Lib.hid ((Below.refl _ w).alloc (Nat.le_refl _) _), Lib.hid (MapR.made w), Lib.hid IM.nil, Lib.hid (by rw [List.take_zero]; exact Un.nil), Lib.hid (OwnE.nil _ _)⟩
  case round =>
    obtain ⟨i, n, f, O, vo, rfl, hi, hni, rfl, HB, HM, HF, HU, HO⟩ := hrel
    by_cases hlt : i < L.length
    · have hlt' : (i : Int) < (L.length : Int) := by omega
      obtain ⟨g, o, rfl, hR⟩ := hr (by rintro rfl; simp at hlt)
      obtain ⟨x, hx⟩ : ∃ x, L[i] = x := ⟨_, rfl⟩
      have hcell := (hR.keep (HB.out.block g (hR.lt (by rintro rfl; simp at hlt)))).at hlt
      rw [hx] at hcell
      obtain ⟨q0, q1, q2, q3, q4, q5, q6⟩ := hcell
      have HX := Lib.hid (M_one hlt hx)
      clear hx hR
      have hb1 := (Below.refl wr.heap.size wr).alloc (Nat.le_refl _) (.cells #[.int .i64 x.s, .int .i64 x.t, .int .i64 x.c, .int .i64 x.d, .int .u32 (vI x.a), .int .u32 (vI x.b), .int .u32 (vI x.e)] 61)
      have HB0 := Lib.hid (HB.out.trans (hb1.mono HB.out.size))
      have HM0 := Lib.hid (HM.out.below hb1)
      have HO0 := Lib.hid (HO.out.below hb1)
      have HX0 := Lib.hid (Blk.new wr 61 #[.int .i64 x.s, .int .i64 x.t, .int .i64 x.c, .int .i64 x.d, .int .u32 (vI x.a), .int .u32 (vI x.b), .int .u32 (vI x.e)])
      have HOL := Lib.hid HU.out.len
      have HMW : Hid (w.heap.size < wr.heap.size) := Lib.hid HM.out.lt
      have HOX : Hid (∀ q, vo.ownBlock = some q → q < wr.heap.size) := Lib.hid fun q e => (World.ownsRow.lt HO.out q e).2
      clear HB HM HO hb1
      go_upto_region 7 with fail
      generalize wr.alloc (.cells #[.int .i64 x.s, .int .i64 x.t, .int .i64 x.c, .int .i64 x.d, .int .u32 (vI x.a), .int .u32 (vI x.b), .int .u32 (vI x.e)] 61) = W at *
      generalize wr.heap.size = gx at *
      obtain ⟨b0, b1, b2, b3, b4, b5, b6⟩ := (show Box _ gx x from HX0.out).cells
      clear q0 q1 q2 q3 q4 q5 q6
      obtain ⟨em, hem⟩ : ∃ em, emp x = em := ⟨_, rfl⟩
      have HEM := Lib.hid hem
      clear hem
      go_cut [33] (fun v w' => v = .bool em ∧ W = w')
      case first =>
        have h1 := HEM.out
        unfold emp at h1
        have e1 := vI_emp x.a
        have e2 := vI_emp x.b
        have e3 := vI_emp x.e
        cases ha : (x.a == 0#32) <;> cases hb : (x.b == 0#32) <;> cases he : (x.e == 0#32) <;> rw [ha, hb, he] at h1 <;> rw [ha] at e1 <;> rw [hb] at e2 <;> rw [he] at e3 <;> subst h1 <;> clear ha hb he
        all_goals
          go_wp2_with fail
          go_meet
          exact ⟨rfl, rfl⟩
      case rest =>
      obtain ⟨rfl, rfl⟩ := hcut
      cases em with
      | true =>
        go_wp2_with fail
        refine ⟨⟨i + 1, n, f, O, vo, rfl, hlt, by omega, by go_num, HB0, HM0, HF, Lib.hid ?_, HO0⟩, by simp [intOf]; omega⟩
        rw [HX.out]
        exact HU.out.skip HEM.out
      | false =>
        go_upto_region 9 with fail
        have HB2 := Lib.hid (HB0.out.alloc HB0.out.size (.cells #[.int .i64 x.s, .int .i64 x.t, .int .i64 x.c, .int .i64 x.d, .int .u32 0, .int .u32 0, .int .u32 0] 61))
        have HM2 := Lib.hid (HM0.out.alloc (.cells #[.int .i64 x.s, .int .i64 x.t, .int .i64 x.c, .int .i64 x.d, .int .u32 0, .int .u32 0, .int .u32 0] 61))
        have HO2 := Lib.hid (HO0.out.below ((Below.refl _ W).alloc (Nat.le_refl _) (.cells #[.int .i64 x.s, .int .i64 x.t, .int .i64 x.c, .int .i64 x.d, .int .u32 0, .int .u32 0, .int .u32 0] 61)))
        have HX2 := Lib.hid (HX0.out.alloc (.cells #[.int .i64 x.s, .int .i64 x.t, .int .i64 x.c, .int .i64 x.d, .int .u32 0, .int .u32 0, .int .u32 0] 61))
        have HK2 := Lib.hid (Blk.new W 61 #[.int .i64 x.s, .int .i64 x.t, .int .i64 x.c, .int .i64 x.d, .int .u32 0, .int .u32 0, .int .u32 0])
        clear HB0 HM0 HO0 HX0 b0 b1 b2 b3 b4 b5 b6
        generalize W.alloc (.cells #[.int .i64 x.s, .int .i64 x.t, .int .i64 x.c, .int .i64 x.d, .int .u32 0, .int .u32 0, .int .u32 0] 61) = W2 at *
        generalize W.heap.size = gk at *
        have hk := HK2.out.cell
        have k0 := hk 0
        have k1 := hk 1
        have k2 := hk 2
        have k3 := hk 3
        have k4 := hk 4
        have k5 := hk 5
        have k6 := hk 6
        clear hk
        have hlk := HM2.out.lookOk keyed_ent Try.underlying106 (z := .int .i64 0) (Try.zeroValue3 _) (keyOf_U x)
        rw [HF.out x] at hlk
        cases hid : idx O x with
        | none =>
          rw [hid] at hlk
          replace hlk : (Instr.lookup 106 (.map (some w.heap.size)) (.agg #[.int .i64 x.s, .int .i64 x.t, .int .i64 x.c, .int .i64 x.d, .int .u32 0, .int .u32 0, .int .u32 0]) true).run Try.prog W2 = .ok (.tuple #[.int .i64 0, .bool false]) W2 := hlk
          obtain ⟨av, cv, rfl⟩ := HO2.out.isSl
          have HOW := Lib.hid (fun q e => (World.ownsRow.lt HO2.out q e))
          have HXL : Hid (gx < W2.heap.size) := Lib.hid (Blk.lt HX2.out)
          have HID := Lib.hid hid
          clear hid
          go_wp2_with (first
            | (at_mapUpdate; refine wpList_update_R rfl _ _ _ 106 rfl 61 3 keyed_ent Try.underlying106 w.heap.size n f rfl HM2.out (by unfold maxLen; omega) (keyU x) (.int .i64 O.length) (klU x) rfl rfl (keyOf_U x) ?_; intro W4 hM4 hg4; have HM4 := Lib.hid hM4; have HB4 := Lib.hid (below_butU HB2.out hg4 (Nat.le_refl _)); have HO4 := Lib.hid (HO2.out.kept hg4 (by cases hv : (Value.slice av O.length cv).ownBlock with | none => exact .inl rfl | some q => exact .inr (fun e => by have := (HOW.out q hv).1; cases e; omega))); have HX4 : Hid (Box W4 gx x) := Lib.hid ((hg4.block gx HXL.out (fun e => by have := HMW.out; cases e; omega)).trans HX2.out); have HG4 := Lib.hid hg4.size; obtain ⟨b0, b1, b2, b3, b4, b5, b6⟩ := HX4.out.cells; clear hM4 hg4)
            | (at_builtin; refine wpList_append_E (by rfl) _ _ (by rfl) (w.heap.size + 1) (.slice av O.length cv) O O.length rfl (by rfl) (HO4.out.below ((Below.refl _ _).alloc (Nat.le_refl _) _)) W4.heap.size x (by rfl) (Blk.new _ _ _) (by have := HOL.out; rw [List.length_take] at this; omega) (by have := HMW.out; have := HXL.out; have := HG4.out; simp; omega) ?_; intro g' cap' w6 h1 h2 h3; have H1 := Lib.hid h1; have H2 := Lib.hid h2; clear h1 h2 h3))
          have hb6 := (HB4.out.alloc HB4.out.size (.cells #[.int .i64 x.s, .int .i64 x.t, .int .i64 x.c, .int .i64 x.d, .int .u32 (vI x.a), .int .u32 (vI x.b), .int .u32 (vI x.e)] 61)).grown H2.out (by have := HB4.out.size; simp; omega) (fun q e => by have := (HOW.out q e).1; omega)
          have HB6 := Lib.hid hb6
          have HM6 := Lib.hid ((HM4.out.alloc (.cells #[.int .i64 x.s, .int .i64 x.t, .int .i64 x.c, .int .i64 x.d, .int .u32 (vI x.a), .int .u32 (vI x.b), .int .u32 (vI x.e)] 61)).kept H2.out (fun e => by have := (HOW.out _ e.symm).1; omega))
          clear hb6
          go_wp2_with fail
          go_roundw
          case rel => exact ⟨i + 1, n + 1, _, O ++ [x], _, rfl, hlt, by omega, by go_num, HB6, HM6, Lib.hid (HF.out.step HID.out rfl), Lib.hid (by rw [HX.out]; exact HU.out.new HEM.out HID.out), Lib.hid (by simpa using H1.out)⟩
          case measure => simp [intOf]; omega
        | some k =>
          rw [hid] at hlk
          replace hlk : (Instr.lookup 106 (.map (some w.heap.size)) (.agg #[.int .i64 x.s, .int .i64 x.t, .int .i64 x.c, .int .i64 x.d, .int .u32 0, .int .u32 0, .int .u32 0]) true).run Try.prog W2 = .ok (.tuple #[.int .i64 k, .bool true]) W2 := hlk
          obtain ⟨hkO, hke⟩ := idx_some hid
          obtain ⟨y, hy⟩ : ∃ y, O[k] = y := ⟨_, rfl⟩
          obtain ⟨N, hN⟩ : ∃ N, O.length = N := ⟨_, rfl⟩
          have hUn := HU.out.old hkO hke
          have hIm := HF.out.set hkO (y := orE O[k] x) ⟨rfl, rfl, rfl, rfl⟩
          rw [hy] at hUn hIm
          have HUN := Lib.hid hUn
          have HIM := Lib.hid hIm
          obtain ⟨gr, cv, hvo⟩ : ∃ gr cv, vo = .slice (some ⟨gr, 0, none⟩) N cv := by
            rcases HO2.out.form with ⟨_, h2⟩ | ⟨gr, cv, _, h2, _⟩
            · rw [h2] at hkO; simp at hkO
            · exact ⟨gr, cv, by rw [h2, hN]⟩
          subst hvo
          have hf := HO2.out.facts hN
          have HYk : Hid (O[k]? = some y) := Lib.hid (by rw [List.getElem?_eq_getElem hkO, hy])
          have HA : Hid (At7 W2 gr (k * 7) y) := Lib.hid (hf.1 k y HYk.out)
          have HGL : Hid (gr < W2.heap.size) := Lib.hid (hf.2.2.1 (by omega))
          have HGB : Hid (w.heap.size + 1 ≤ gr) := Lib.hid hf.2.2.2.2.1
          have hcv : (N : Int) ≤ (cv : Int) := by have := hf.2.2.2.1; omega
          have hkN : (k : Int) < (N : Int) := by omega
          have HN := Lib.hid hN
          have HKO := Lib.hid hkO
          have ho1 := vI_or y.a x.a
          have ho2 := vI_or y.b x.b
          have ho3 := vI_or y.e x.e
          have hgx : gr ≠ gx := fun e => by have := HOX.out gr rfl; omega
          clear hUn hIm hf hy hN hkO hke hid HU HF HK2
          go_upto_region 13 with fail
          clear hlk k0 k1 k2 k3 k4 k5 k6
          have HYk0 := HYk
          have HN0 : Hid (O.length = N) := HN
          refine wp_region_kt 10 (by kernel_rfl) (by kernel_rfl) ?_
          simp only [List.take_succ_cons, List.take_zero, List.drop_succ_cons, List.drop_zero]
          repeat (first
              | go_big_quiet_skip
              | (go_big_quiet_want
                 go_big_quiet_op
                 first
                   | go_big_quiet_on
                   | (apply Exists.intro
                      refine ⟨fun w1 hC => ?_, ?_⟩
                      · first
                          | (obtain ⟨b0, b1, b2, b3, b4, b5, b6⟩ := (show Box _ gx x from hC.blk HX2.out).cells; go_simp; exact rfl)
                          | (obtain ⟨d0, d1, d2, d3, d4, d5, d6⟩ := HA.out.keep (hC.block gr HGL.out); go_simp; exact rfl)
                          | (go_simp; exact rfl)
                          | (go_simp; exact ⟨rfl, rfl⟩)
                      go_big_quiet_on)))
          refine wpQuiet_nil ?_
          intro V0 hC
          have HOa0 := Lib.hid (HO2.out.below hC)
          have HMa0 := Lib.hid (HM2.out.below hC)
          have HXa0 : Hid (Box V0 gx x) := Lib.hid (hC.blk HX2.out)
          have HBa0 : Hid (Below w.heap.size w V0) := Lib.hid (HB2.out.trans (hC.mono HB2.out.size))
          clear HO2 HM2 HX2 HB2 HA HGL hC
          have hf0 := HOa0.out.facts HN0.out
          obtain ⟨d0, d1, d2, d3, d4, d5, d6⟩ := hf0.1 k _ HYk0.out
          have fz0 := hf0.2.1 (k * 7 + 4)
          have hgl0 := hf0.2.2.1 (by omega)
          clear hf0
          go_upto_region 14 with fail
          have HOb0 := Lib.hid (OwnE.setAt (i := k) (y := y) (z := { y with a := y.a ||| x.a }) 4 (.int .u32 (vI (y.a ||| x.a))) (by decide) HYk0.out (fun j hj => by match j, hj with | 0, _ => rfl | 1, _ => rfl | 2, _ => rfl | 3, _ => rfl | 4, _ => rfl | 5, _ => rfl | 6, _ => rfl) HN0.out HOa0.out)
          have HMb0 := Lib.hid (HMa0.out.kept (grownSet V0 ⟨gr, k * 7 + 4, none⟩ (.int .u32 (vI (y.a ||| x.a)))) (fun e => by have h1 := HGB.out; have h2 : w.heap.size = gr := Option.some.inj e; omega))
          have HXb0 : Hid (Box (V0.setCell ⟨gr, k * 7 + 4, none⟩ (.int .u32 (vI (y.a ||| x.a)))) gx x) := Lib.hid (Blk.far HXa0.out (p := ⟨gr, k * 7 + 4, none⟩) (fun e => hgx e.symm) _)
          have HBb0 := Lib.hid (HBa0.out.setCell (p := ⟨gr, k * 7 + 4, none⟩) (by have := HGB.out; show w.heap.size ≤ gr; omega) (.int .u32 (vI (y.a ||| x.a))))
          have HN1 : Hid (((O).set k ({ y with a := y.a ||| x.a })).length = N) := Lib.hid (by rw [List.length_set]; exact HN0.out)
          have HYk1 : Hid (((O).set k ({ y with a := y.a ||| x.a }))[k]? = some ({ y with a := y.a ||| x.a })) := Lib.hid (by rw [List.getElem?_set, if_pos rfl, if_pos (by have := HN0.out; omega)])
          clear d0 d1 d2 d3 d4 d5 d6 fz0 hgl0 HOa0 HMa0 HXa0 HBa0
          generalize V0.setCell ⟨gr, k * 7 + 4, none⟩ (.int .u32 (vI (y.a ||| x.a))) = U0 at *
          have HAb0 := Lib.hid ((HOb0.out.facts HN1.out).1 k _ HYk1.out)
          have HGb0 := Lib.hid ((HOb0.out.facts HN1.out).2.2.1 (by omega))
          go_upto_region 14 with fail
          refine wp_region_kt 10 (by kernel_rfl) (by kernel_rfl) ?_
          simp only [List.take_succ_cons, List.take_zero, List.drop_succ_cons, List.drop_zero]
          repeat (first
              | go_big_quiet_skip
              | (go_big_quiet_want
                 go_big_quiet_op
                 first
                   | go_big_quiet_on
                   | (apply Exists.intro
                      refine ⟨fun w1 hC => ?_, ?_⟩
                      · first
                          | (obtain ⟨b0, b1, b2, b3, b4, b5, b6⟩ := (show Box _ gx x from hC.blk HXb0.out).cells; go_simp; exact rfl)
                          | (obtain ⟨d0, d1, d2, d3, d4, d5, d6⟩ := HAb0.out.keep (hC.block gr HGb0.out); go_simp; exact rfl)
                          | (go_simp; exact rfl)
                          | (go_simp; exact ⟨rfl, rfl⟩)
                      go_big_quiet_on)))
          refine wpQuiet_nil ?_
          intro V1 hC
          have HOa1 := Lib.hid (HOb0.out.below hC)
          have HMa1 := Lib.hid (HMb0.out.below hC)
          have HXa1 : Hid (Box V1 gx x) := Lib.hid (hC.blk HXb0.out)
          have HBa1 : Hid (Below w.heap.size w V1) := Lib.hid (HBb0.out.trans (hC.mono HBb0.out.size))
          clear HOb0 HMb0 HXb0 HBb0 HAb0 HGb0 hC
          have hf1 := HOa1.out.facts HN1.out
          obtain ⟨d0, d1, d2, d3, d4, d5, d6⟩ := hf1.1 k _ HYk1.out
          have fz1 := hf1.2.1 (k * 7 + 5)
          have hgl1 := hf1.2.2.1 (by omega)
          clear hf1
          go_upto_region 15 with fail
          have HOb1 := Lib.hid (OwnE.setAt (i := k) (y := { y with a := y.a ||| x.a }) (z := { y with a := y.a ||| x.a, b := y.b ||| x.b }) 5 (.int .u32 (vI (y.b ||| x.b))) (by decide) HYk1.out (fun j hj => by match j, hj with | 0, _ => rfl | 1, _ => rfl | 2, _ => rfl | 3, _ => rfl | 4, _ => rfl | 5, _ => rfl | 6, _ => rfl) HN1.out HOa1.out)
          have HMb1 := Lib.hid (HMa1.out.kept (grownSet V1 ⟨gr, k * 7 + 5, none⟩ (.int .u32 (vI (y.b ||| x.b)))) (fun e => by have h1 := HGB.out; have h2 : w.heap.size = gr := Option.some.inj e; omega))
          have HXb1 : Hid (Box (V1.setCell ⟨gr, k * 7 + 5, none⟩ (.int .u32 (vI (y.b ||| x.b)))) gx x) := Lib.hid (Blk.far HXa1.out (p := ⟨gr, k * 7 + 5, none⟩) (fun e => hgx e.symm) _)
          have HBb1 := Lib.hid (HBa1.out.setCell (p := ⟨gr, k * 7 + 5, none⟩) (by have := HGB.out; show w.heap.size ≤ gr; omega) (.int .u32 (vI (y.b ||| x.b))))
          have HN2 : Hid ((((O).set k ({ y with a := y.a ||| x.a })).set k ({ y with a := y.a ||| x.a, b := y.b ||| x.b })).length = N) := Lib.hid (by rw [List.length_set]; exact HN1.out)
          have HYk2 : Hid ((((O).set k ({ y with a := y.a ||| x.a })).set k ({ y with a := y.a ||| x.a, b := y.b ||| x.b }))[k]? = some ({ y with a := y.a ||| x.a, b := y.b ||| x.b })) := Lib.hid (by rw [List.getElem?_set, if_pos rfl, if_pos (by have := HN1.out; omega)])
          clear d0 d1 d2 d3 d4 d5 d6 fz1 hgl1 HOa1 HMa1 HXa1 HBa1
          generalize V1.setCell ⟨gr, k * 7 + 5, none⟩ (.int .u32 (vI (y.b ||| x.b))) = U1 at *
          have HAb1 := Lib.hid ((HOb1.out.facts HN2.out).1 k _ HYk2.out)
          have HGb1 := Lib.hid ((HOb1.out.facts HN2.out).2.2.1 (by omega))
          go_upto_region 15 with fail
          refine wp_region_kt 10 (by kernel_rfl) (by kernel_rfl) ?_
          simp only [List.take_succ_cons, List.take_zero, List.drop_succ_cons, List.drop_zero]
          repeat (first
              | go_big_quiet_skip
              | (go_big_quiet_want
                 go_big_quiet_op
                 first
                   | go_big_quiet_on
                   | (apply Exists.intro
                      refine ⟨fun w1 hC => ?_, ?_⟩
                      · first
                          | (obtain ⟨b0, b1, b2, b3, b4, b5, b6⟩ := (show Box _ gx x from hC.blk HXb1.out).cells; go_simp; exact rfl)
                          | (obtain ⟨d0, d1, d2, d3, d4, d5, d6⟩ := HAb1.out.keep (hC.block gr HGb1.out); go_simp; exact rfl)
                          | (go_simp; exact rfl)
                          | (go_simp; exact ⟨rfl, rfl⟩)
                      go_big_quiet_on)))
          refine wpQuiet_nil ?_
          intro V2 hC
          have HOa2 := Lib.hid (HOb1.out.below hC)
          have HMa2 := Lib.hid (HMb1.out.below hC)
          have HXa2 : Hid (Box V2 gx x) := Lib.hid (hC.blk HXb1.out)
          have HBa2 : Hid (Below w.heap.size w V2) := Lib.hid (HBb1.out.trans (hC.mono HBb1.out.size))
          clear HOb1 HMb1 HXb1 HBb1 HAb1 HGb1 hC
          have hf2 := HOa2.out.facts HN2.out
          obtain ⟨d0, d1, d2, d3, d4, d5, d6⟩ := hf2.1 k _ HYk2.out
          have fz2 := hf2.2.1 (k * 7 + 6)
          have hgl2 := hf2.2.2.1 (by omega)
          clear hf2
          go_wp2_with fail
          have HOb2 := Lib.hid (OwnE.setAt (i := k) (y := { y with a := y.a ||| x.a, b := y.b ||| x.b }) (z := orE y x) 6 (.int .u32 (vI (y.e ||| x.e))) (by decide) HYk2.out (fun j hj => by match j, hj with | 0, _ => rfl | 1, _ => rfl | 2, _ => rfl | 3, _ => rfl | 4, _ => rfl | 5, _ => rfl | 6, _ => rfl) HN2.out HOa2.out)
          have HMb2 := Lib.hid (HMa2.out.kept (grownSet V2 ⟨gr, k * 7 + 6, none⟩ (.int .u32 (vI (y.e ||| x.e)))) (fun e => by have h1 := HGB.out; have h2 : w.heap.size = gr := Option.some.inj e; omega))
          have HXb2 : Hid (Box (V2.setCell ⟨gr, k * 7 + 6, none⟩ (.int .u32 (vI (y.e ||| x.e)))) gx x) := Lib.hid (Blk.far HXa2.out (p := ⟨gr, k * 7 + 6, none⟩) (fun e => hgx e.symm) _)
          have HBb2 := Lib.hid (HBa2.out.setCell (p := ⟨gr, k * 7 + 6, none⟩) (by have := HGB.out; show w.heap.size ≤ gr; omega) (.int .u32 (vI (y.e ||| x.e))))
          have HN3 : Hid (((((O).set k ({ y with a := y.a ||| x.a })).set k ({ y with a := y.a ||| x.a, b := y.b ||| x.b })).set k (orE y x)).length = N) := Lib.hid (by rw [List.length_set]; exact HN2.out)
          have HYk3 : Hid (((((O).set k ({ y with a := y.a ||| x.a })).set k ({ y with a := y.a ||| x.a, b := y.b ||| x.b })).set k (orE y x))[k]? = some (orE y x)) := Lib.hid (by rw [List.getElem?_set, if_pos rfl, if_pos (by have := HN2.out; omega)])
          clear d0 d1 d2 d3 d4 d5 d6 fz2 hgl2 HOa2 HMa2 HXa2 HBa2
          go_roundw
          case rel =>
            refine ⟨i + 1, n, f, O.set k (orE y x), _, rfl, hlt, by omega, by go_num, HBb2, HMb2, HIM, Lib.hid ?_, Lib.hid ?_⟩
            · rw [HX.out]; exact HUN.out
            · have h := HOb2.out
              rw [List.set_set, List.set_set] at h
              exact h
          case measure => simp [intOf]; omega
    · obtain rfl : i = L.length := by omega
      have hlt' : ¬ ((L.length : Nat) : Int) < (L.length : Int) := by omega
      have HU2 : Hid (Un O L) := Lib.hid (by have := HU.out; rwa [List.take_length] at this)
      have HOL := Lib.hid HU2.out.len
      clear hr
      go_wp2_with (go_at_call 58; refine (ordered_c O.length vo O (Nat.le_refl _) (by have := HOL.out; omega) HU2.out.ap _ HO.out.ents).mono ?_; rintro e w4 ⟨v4, S, rfl, hS, hso, hb4⟩; have HS := Lib.hid hS; have HB4 := Lib.hid hb4)
      go_ret
      obtain rfl := HU2.out.done hso
      exact ⟨_, rfl, HS.out, HB.out.trans (HB4.out.mono HB.out.size)⟩
end Go.Proofs.Ytjikbffnhfoikaa
