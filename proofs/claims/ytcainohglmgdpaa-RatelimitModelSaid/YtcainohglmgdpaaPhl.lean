/- As Phg; what an operation without a slot of its own leaves (a store) may be told of a slot that it waits for: its box. -/
import Derived.Test.YtcainohglmgdpaaPhh
namespace Go.Proofs.Ytcainohglmgdpaa
open Go.RowKit Go
/-- the slot that an operation's property speaks of -/
def dslo (lnk : Nat → Option Tmp) (j : Nat) (o : Oper) : Option Tmp := match o.dst with | some t => some t | none => lnk j
def valLk (lnk : Nat → Option Tmp) (j : Nat) (o : Oper) (A : Act) (u : Value) : Value := match o.dst with | some _ => u | none => match lnk j with | some s => A.eval (.tmp s) | none => u
def lnkB (ops : Array Oper) (lnk : Nat → Option Tmp) : Bool := (List.range ops.size).all fun k => match ops[k]? with
  | some o => (match o.dst with | some _ => true | none => match lnk k with | none => true | some s => (match srcOf ops ops.size s with | some j => waitsOn o j | none => false))
  | none => true
theorem lnkB_at {ops : Array Oper} {lnk : Nat → Option Tmp} (h : lnkB ops lnk = true) {k : Nat} {o : Oper} (ho : ops[k]? = some o) (hd : o.dst = none) {s : Tmp} (hs : lnk k = some s) : ∃ j, srcOf ops ops.size s = some j ∧ waitsOn o j = true := by
  have h1 := List.all_eq_true.1 h k (List.mem_range.2 (Array.getElem?_eq_some_iff.1 ho).1)
  rw [ho] at h1
  simp only [hd, hs] at h1
  cases hc : srcOf ops ops.size s with
  | none => rw [hc] at h1; cases h1
  | some j => rw [hc] at h1; exact ⟨j, rfl, h1⟩
theorem put_none (a : Act) (u : Value) : a.put none u = a := rfl
section
variable {P : Program} {ops : Array Oper} {C : (Nat → Bool) → World → Prop} {Rel : Nat → World → World → Prop} {a0 : Act} {Φ : Nat → Value → World → Prop} {Q : Exit → Act → World → Prop}
/-- what is to be shown of an operation -/
def obK (P : Program) (ops : Array Oper) (C : (Nat → Bool) → World → Prop) (Rel : Nat → World → World → Prop) (a0 : Act) (Φ : Nat → Value → World → Prop) (lnk : Nat → Option Tmp) (i : Nat) (o : Oper) : Prop :=
  (match o.guard with | none => True | some (j, b) => ∀ v w, Φ j v w → v = .bool b) ∧ ∀ A w d, d i = false → C d w → (∀ t, facG ops Φ a0 i o A w t) → (∀ j, waitsOn o j = true → ∃ v, Φ j v w) → ∀ K Q, (∀ u w', Rel i w w' → Φ i (valLk lnk i o A u) w' → K (A.put o.dst u) w') → o.wp P A w K Q
def obKs (P : Program) (ops : Array Oper) (C : (Nat → Bool) → World → Prop) (Rel : Nat → World → World → Prop) (a0 : Act) (Φ : Nat → Value → World → Prop) (lnk : Nat → Option Tmp) : Nat → List Oper → Prop
  | _, [] => True
  | k, o :: r => obK P ops C Rel a0 Φ lnk k o ∧ obKs P ops C Rel a0 Φ lnk (k + 1) r
theorem obKs_at {lnk : Nat → Option Tmp} : ∀ {l : List Oper} {k : Nat}, obKs P ops C Rel a0 Φ lnk k l → ∀ i o, l[i]? = some o → obK P ops C Rel a0 Φ lnk (k + i) o
  | [], _, _, i, o, h => by simp at h
  | x :: l, k, h, 0, o, ho => by
    obtain rfl : x = o := by simpa using ho
    exact h.1
  | x :: l, k, h, i + 1, o, ho => by
    have := obKs_at h.2 i o (by simpa using ho)
    rwa [show k + (i + 1) = k + 1 + i by omega]
structure KInv (ops : Array Oper) (C : (Nat → Bool) → World → Prop) (a0 : Act) (Φ : Nat → Value → World → Prop) (lnk : Nat → Option Tmp) (listed : Array Bool) (a : Act) (w : World) : Prop where
  c : C (fun j => listed.getD j false) w
  size : a.tmps.size = a0.tmps.size
  defers : a.defers = a0.defers
  out : ∀ t, srcOf ops ops.size t = none → a.eval (.tmp t) = a0.eval (.tmp t)
  phi : ∀ j oj, ops[j]? = some oj → listed.getD j false = true → outP (Φ j) a w (dslo lnk j oj)
  old : ∀ j oj t, ops[j]? = some oj → oj.dst = some t → listed.getD j false = false → a.eval (.tmp t) = a0.eval (.tmp t)
theorem lnk_head {lnk : Nat → Option Tmp} (hLk : lnkB ops lnk = true) (hB : phiB ops ops.size a0.tmps.size = true) (hC : ∀ i d w w', (∀ o, ops[i]? = some o → ∀ j, waitsOn o j = true → d j = true) → d i = false → C d w → Rel i w w' → C (fun j => if j = i then true else d j) w') (ban : List (Nat × Nat)) (hban : (ban.all fun p => afterB ops p.1 p.2) = true) (hst : ∀ i j v w w', i ≠ j → (i, j) ∉ ban → Φ i v w → Rel j w w' → Φ i v w')
    (ob : ∀ i o, ops[i]? = some o → obK P ops C Rel a0 Φ lnk i o)
    (hready : ∀ listed t, ops.size ≤ t → t ∉ Region.ready .any ops listed)
    (leaf : ∀ listed a w, KInv ops C a0 Φ lnk listed a w → HeadInv .any ops ops.size listed → (∀ i, i < ops.size → listed.getD i true = true) → wpAny P .any ops Q 0 listed a w) :
    ∀ (f : Nat) (listed : Array Bool) (a : Act) (w : World), HeadInv .any ops ops.size listed → KInv ops C a0 Φ lnk listed a w → cntU ops.size listed = f → wpAny P .any ops Q f listed a w := by
  intro f
  induction f with
  | zero =>
    intro listed a w hi hv hc
    refine leaf listed a w hv hi fun i hin => ?_
    have := List.countP_eq_zero.1 hc i (List.mem_range.2 hin)
    simpa using this
  | succ f ih =>
    intro listed a w hi hv hc
    have hex : ∃ i, i < ops.size ∧ listed.getD i true = false := by
      have hpos : 0 < cntU ops.size listed := by omega
      obtain ⟨i, him, hib⟩ := List.countP_pos_iff.1 hpos
      exact ⟨i, List.mem_range.1 him, by simpa using hib⟩
    refine ⟨fun h0 => ?_, fun i him => ?_⟩
    · obtain ⟨k, hkn, hk⟩ := hex
      obtain ⟨i, hik, hil, hmin⟩ := least (p := fun i => listed.getD i true = false) k hk
      obtain ⟨o, ho, hlow, _⟩ := phiB_at hB (show i < ops.size by omega)
      have : i ∈ Region.ready .any ops listed := mem_ready.2 ⟨hil, o, ho, fun e he hb => by
        have h1 := hlow e he hb
        have h2 := hmin e.on h1
        have h3 : e.on < listed.size := by
          rw [hi.size]
          have := (Array.getElem?_eq_some_iff.1 ho).1
          omega
        simp only [Array.getD_eq_getD_getElem?, Array.getElem?_eq_getElem h3, Option.getD_some] at h2 ⊢
        simpa using h2⟩
      rw [h0] at this
      cases this
    · have hin : i < ops.size := by
        rcases Nat.lt_or_ge i ops.size with h | h
        · exact h
        · exact absurd him (hready listed i h)
      obtain ⟨hil, oi, hoi, hall⟩ := mem_ready.1 him
      have hil2 : listed.getD i false = false := by
        have h3 : i < listed.size := by rw [hi.size]; exact hin
        simp only [Array.getD_eq_getD_getElem?, Array.getElem?_eq_getElem h3, Option.getD_some] at hil ⊢
        exact hil
      obtain ⟨o', ho', hlow, hdst, hgd⟩ := phiB_at hB hin
      obtain rfl : o' = oi := Option.some.inj (ho'.symm.trans hoi)
      obtain ⟨og, ov⟩ := ob i o' hoi
      have hlist : ∀ j, waitsOn o' j = true → listed.getD j false = true := fun j hj => by
        obtain ⟨e, he, hb, rfl⟩ := waitsOn_spec hj
        exact hall e he hb
      have hfact : ∀ t, facG ops Φ a0 i o' a w t := fun t => by
        unfold facG
        cases hs : srcOf ops ops.size t with
        | none => exact hv.out t hs
        | some j =>
          obtain ⟨hjn, oj, hoj, hdj⟩ := srcOf_some hs
          refine ⟨fun hw => ?_, fun hw => ?_⟩
          · have := hv.phi j oj hoj (hlist j hw)
            unfold dslo at this
            rw [hdj] at this
            exact this
          · refine hv.old j oj t hoj hdj ?_
            unfold afterB at hw
            rw [hoj] at hw
            cases hl : listed.getD j false with
            | false => rfl
            | true =>
              obtain ⟨e, he, hb, rfl⟩ := waitsOn_spec hw
              have := hi.closed j oj hoj hl e he hb
              rw [hil2] at this
              cases this
      have hwaits : ∀ j, waitsOn o' j = true → ∃ v, Φ j v w := fun j hj => by
        obtain ⟨e, he, hb, rfl⟩ := waitsOn_spec hj
        have h1 := hlow e he hb
        obtain ⟨oj, hoj, _⟩ := phiB_at hB (show e.on < ops.size by omega)
        exact (hv.phi e.on oj hoj (hlist e.on hj)).any
      have hwant : Region.wanted o' (yielded ops a.tmps) = true := by
        unfold Region.wanted
        cases hg : o'.guard with
        | none => rfl
        | some jb =>
          obtain ⟨j, b⟩ := jb
          obtain ⟨hjn, hwj, oj, t, hoj, hdj⟩ := hgd j b hg
          rw [hg] at og
          have hp := hv.phi j oj hoj (hlist j hwj)
          unfold dslo at hp
          rw [hdj] at hp
          have hval : a.eval (.tmp t) = .bool b := og _ _ hp
          obtain ⟨_, hoj2, _, hd2, _⟩ := phiB_at hB hjn
          obtain rfl := Option.some.inj (hoj2.symm.trans hoj)
          have ht := (hd2 t hdj).1
          rw [← hv.size] at ht
          have hval2 : a.tmps[t]? = some (.bool b) := by
            simp only [Act.eval, Array.getD_eq_getD_getElem?, Array.getElem?_eq_getElem ht, Option.getD_some] at hval
            rw [Array.getElem?_eq_getElem ht, hval]
          simp [yielded, hoj, hdj, hval2]
      have hother : ∀ (u : Value) j oj t, ops[j]? = some oj → oj.dst = some t → j ≠ i → (a.put o'.dst u).eval (.tmp t) = a.eval (.tmp t) := fun u j oj t hoj hdj hji => by
        rw [Act.eval_put (fun d hd e => ?_)]
        cases e
        obtain ⟨_, hoj2, _, hd2, _⟩ := phiB_at hB (Array.getElem?_eq_some_iff.1 hoj).1
        obtain rfl := Option.some.inj (hoj2.symm.trans hoj)
        have e1 := (hd2 t hdj).2
        rw [(hdst t hd).2] at e1
        exact hji (Option.some.inj e1).symm
      unfold wpOp
      simp only [hoi, hwant, if_true]
      refine .inl (ov a w (fun j => listed.getD j false) hil2 hv.c hfact hwaits _ _ fun u w' hb hu => ?_)
      refine ih _ _ _ (hi.set him hin) ⟨by
        have h1 := hC i (fun j => listed.getD j false) w w' (fun o ho j hj => hlist j (by rwa [show o' = o from Option.some.inj (hoi.symm.trans ho)])) hil2 hv.c hb
        have e : (fun j => (listed.setIfInBounds i true).getD j false) = fun j => if j = i then true else listed.getD j false := funext fun j => by
          by_cases hji : j = i
          · subst hji
            have h3 : j < listed.size := by rw [hi.size]; exact hin
            simp [h3]
          · rw [getD_set_ne false (Ne.symm hji), if_neg hji]
        rw [e]; exact h1, by rw [put_size]; exact hv.size, by rw [put_def]; exact hv.defers, fun t ht => ?_, fun j oj hoj hlj => ?_, fun j oj t hoj hdj hlj => ?_⟩ ?_
      · rw [Act.eval_put (fun d hd e => ?_)]
        · exact hv.out t ht
        · cases e
          rw [(hdst t hd).2] at ht
          cases ht
      · by_cases hji : j = i
        · subst hji
          obtain rfl := Option.some.inj (hoj.symm.trans hoi)
          unfold dslo
          unfold valLk at hu
          cases hd : oj.dst with
          | none =>
            rw [hd] at hu
            cases hk : lnk j with
            | none => rw [hk] at hu; exact ⟨u, hu⟩
            | some s =>
              rw [hk] at hu
              exact hu
          | some t =>
            rw [hd] at hu
            show Φ j ((a.put (some t) u).eval (.tmp t)) w'
            rw [eval_same (by rw [hv.size]; exact (hdst t hd).1)]
            exact hu
        · rw [getD_set_ne false (Ne.symm hji)] at hlj
          have h0 := hv.phi j oj hoj hlj
          have hnb : (j, i) ∉ ban := fun hb2 => by
            have h1 := List.all_eq_true.1 hban _ hb2
            unfold afterB at h1
            rw [hoj] at h1
            obtain ⟨e, he, hbe, hei⟩ := waitsOn_spec h1
            have h2 := hi.closed j oj hoj hlj e he hbe
            rw [hei] at h2
            rw [hil2] at h2
            cases h2
          unfold dslo at h0 ⊢
          cases hd : oj.dst with
          | none =>
            rw [hd] at h0
            cases hk : lnk j with
            | none =>
              rw [hk] at h0
              obtain ⟨v, h0⟩ := h0
              exact ⟨v, hst _ _ _ _ _ hji hnb h0 hb⟩
            | some s =>
              rw [hk] at h0
              have h1 := hst _ _ _ _ _ hji hnb h0 hb
              show Φ j ((a.put o'.dst u).eval (.tmp s)) w'
              have he : (a.put o'.dst u).eval (.tmp s) = a.eval (.tmp s) := by
                rw [Act.eval_put (fun d hd2 e => ?_)]
                cases e
                obtain ⟨m, hm, hwm⟩ := lnkB_at hLk hoj hd hk
                rw [(hdst s hd2).2] at hm
                obtain rfl := Option.some.inj hm
                obtain ⟨e, he, hbe, hei⟩ := waitsOn_spec hwm
                have h2 := hi.closed j oj hoj hlj e he hbe
                rw [hei, hil2] at h2
                cases h2
              rw [he]
              exact h1
          | some t =>
            rw [hd] at h0
            have h1 := hst _ _ _ _ _ hji hnb h0 hb
            show Φ j ((a.put o'.dst u).eval (.tmp t)) w'
            rw [hother u j oj t hoj hd hji]
            exact h1
      · by_cases hji : j = i
        · subst hji
          exfalso
          have h3 : j < listed.size := by rw [hi.size]; exact hin
          simp [h3] at hlj
        · rw [getD_set_ne false (Ne.symm hji)] at hlj
          rw [hother u j oj t hoj hdj hji]
          exact hv.old j oj t hoj hdj hlj
      · have := cnt_step (fun j => !listed.getD j true) (fun j => !(listed.setIfInBounds i true).getD j true) i (by rw [hil]; rfl) (by
            have : i < listed.size := by rw [hi.size]; exact (Array.getElem?_eq_some_iff.1 hoi).1
            simp [this]) (fun j hj => by rw [getD_set_ne true (Ne.symm hj)]) ops.size hin
        unfold cntU at hc ⊢
        omega
end
theorem wp_region_lnk {P : Program} {id : Nat} {Q : Exit → Act → World → Prop} {a0 : Act} {W : World} {l : List Oper} (C : (Nat → Bool) → World → Prop) (Rel : Nat → World → World → Prop) (Φ : Nat → Value → World → Prop) (lnk : Nat → Option Tmp) (hLk : lnkB l.toArray lnk = true) (hm : P.follows .mixedOrders = true)
    (hB : phiB l.toArray l.toArray.size a0.tmps.size = true) (hC0 : C (fun _ => false) { W with drawn := W.drawn + 1 }) (hC : ∀ i d w w', d i = false → C d w → Rel i w w' → C (fun j => if j = i then true else d j) w') (ban : List (Nat × Nat)) (hban : (ban.all fun p => afterB l.toArray p.1 p.2) = true) (hst : ∀ i j v w w', i ≠ j → (i, j) ∉ ban → Φ i v w → Rel j w w' → Φ i v w')
    (ob : obKs P l.toArray C Rel a0 Φ lnk 0 l)
    (h : ∀ a w d, (∀ j, j < l.length → d j = true) → C d w → a.tmps.size = a0.tmps.size → a.defers = a0.defers → (∀ t, endG l.toArray Φ a0 a w t) → (∀ j oj, l.toArray[j]? = some oj → outP (Φ j) a w (dslo lnk j oj)) → Q .normal a w) : (Code.region id l.toArray true).wp P Q a0 W := by
  refine wp_region_any hm ?_
  have hno : ∀ listed t, l.toArray.size ≤ t → t ∉ Region.ready .any l.toArray listed := fun listed t ht hr => by
    obtain ⟨_, o, ho, _⟩ := mem_ready.1 hr
    have := (Array.getElem?_eq_some_iff.1 ho).1
    omega
  have := lnk_head (P := P) (Q := Q) (C := C) (Rel := Rel) (Φ := Φ) (a0 := a0) (lnk := lnk) hLk hB (fun i d w w' _ => hC i d w w') ban hban hst (fun i o ho => by have := obKs_at ob i o (by simpa using ho); rwa [Nat.zero_add] at this) (fun listed t ht => hno listed t ht) (fun listed a w hv hi hall => by
    have hl : ∀ j, j < l.toArray.size → listed.getD j false = true := fun j hj => by
      have h1 := hall j hj
      have h2 : j < listed.size := by rw [hi.size]; exact hj
      simp only [Array.getD_eq_getD_getElem?, Array.getElem?_eq_getElem h2, Option.getD_some] at h1 ⊢
      exact h1
    refine ⟨?_, h a w _ (fun j hj => hl j (by simpa using hj)) hv.c hv.size hv.defers (fun t => ?_) (fun j oj hoj => hv.phi j oj hoj (hl j (Array.getElem?_eq_some_iff.1 hoj).1))⟩
    · cases hr : Region.ready .any l.toArray listed with
      | nil => rfl
      | cons i r =>
        have him : i ∈ Region.ready .any l.toArray listed := by rw [hr]; simp
        obtain ⟨hil, o, ho, _⟩ := mem_ready.1 him
        have := hall i (Array.getElem?_eq_some_iff.1 ho).1
        rw [hil] at this
        cases this
    · unfold endG
      cases hs : srcOf l.toArray l.toArray.size t with
      | none => exact hv.out t hs
      | some j =>
        obtain ⟨hjn, oj, hoj, hdj⟩ := srcOf_some hs
        have := hv.phi j oj hoj (hl j hjn)
        unfold dslo at this
        rw [hdj] at this
        exact this) l.toArray.size (Array.replicate l.toArray.size false) a0 { W with drawn := W.drawn + 1 }
    ⟨by simp, fun j oj _ hl => (by rw [getD_replicate_false] at hl; cases hl), fun t ht ht' => absurd ht' (by omega)⟩
    ⟨by
      have e : (fun j => (Array.replicate l.toArray.size false).getD j false) = fun _ => false := funext fun j => getD_replicate_false _ _
      rw [e]; exact hC0, rfl, rfl, fun _ _ => rfl, fun j oj _ hl => (by rw [getD_replicate_false] at hl; cases hl), fun _ _ _ _ _ _ => rfl⟩ (by
      unfold cntU
      rw [List.countP_eq_length.2 fun i hi => by
        rw [getD_in (by simpa using List.mem_range.1 hi) (getD_replicate_false _ _)]; rfl]
      simp)
  simpa using this
/-- what has run: with an operation all that it waits for -/
def clD (ops : Array Oper) (d : Nat → Bool) : Prop := ∀ k o, ops[k]? = some o → d k = true → ∀ j, waitsOn o j = true → d j = true
theorem clD.step {ops : Array Oper} {d : Nat → Bool} {i : Nat} (h : clD ops d) (hw : ∀ o, ops[i]? = some o → ∀ j, waitsOn o j = true → d j = true) : clD ops (fun j => if j = i then true else d j) := by
  intro k o ho hk j hj
  by_cases e : j = i
  · simp [e]
  · simp only [e, if_false]
    by_cases e2 : k = i
    · subst e2; exact hw o ho j hj
    · exact h k o ho (by simpa [e2] using hk) j hj
theorem clD.not {ops : Array Oper} {d : Nat → Bool} {i k : Nat} {o : Oper} (h : clD ops d) (hd : d i = false) (ho : ops[k]? = some o) (hj : waitsOn o i = true) : d k = false := by
  cases hk : d k with
  | false => rfl
  | true => rw [h k o ho hk i hj] at hd; cases hd
/-- as wp_region_lnk; of what has run it is known that all has run that it waits for -/
theorem wp_region_lnw {P : Program} {id : Nat} {Q : Exit → Act → World → Prop} {a0 : Act} {W : World} {l : List Oper} (C : (Nat → Bool) → World → Prop) (Rel : Nat → World → World → Prop) (Φ : Nat → Value → World → Prop) (lnk : Nat → Option Tmp) (hLk : lnkB l.toArray lnk = true) (hm : P.follows .mixedOrders = true)
    (hB : phiB l.toArray l.toArray.size a0.tmps.size = true) (hC0 : C (fun _ => false) { W with drawn := W.drawn + 1 }) (hC : ∀ i d w w', d i = false → C d w → Rel i w w' → C (fun j => if j = i then true else d j) w') (ban : List (Nat × Nat)) (hban : (ban.all fun p => afterB l.toArray p.1 p.2) = true) (hst : ∀ i j v w w', i ≠ j → (i, j) ∉ ban → Φ i v w → Rel j w w' → Φ i v w')
    (ob : obKs P l.toArray (fun d w => C d w ∧ clD l.toArray d) Rel a0 Φ lnk 0 l)
    (h : ∀ a w d, (∀ j, j < l.length → d j = true) → C d w → a.tmps.size = a0.tmps.size → a.defers = a0.defers → (∀ t, endG l.toArray Φ a0 a w t) → (∀ j oj, l.toArray[j]? = some oj → outP (Φ j) a w (dslo lnk j oj)) → Q .normal a w) : (Code.region id l.toArray true).wp P Q a0 W := by
  refine wp_region_any hm ?_
  have hno : ∀ listed t, l.toArray.size ≤ t → t ∉ Region.ready .any l.toArray listed := fun listed t ht hr => by
    obtain ⟨_, o, ho, _⟩ := mem_ready.1 hr
    have := (Array.getElem?_eq_some_iff.1 ho).1
    omega
  have := lnk_head (P := P) (Q := Q) (C := fun d w => C d w ∧ clD l.toArray d) (Rel := Rel) (Φ := Φ) (a0 := a0) (lnk := lnk) hLk hB (fun i d w w' hw hd hc hr => ⟨hC i d w w' hd hc.1 hr, hc.2.step hw⟩) ban hban hst (fun i o ho => by have := obKs_at ob i o (by simpa using ho); rwa [Nat.zero_add] at this) (fun listed t ht => hno listed t ht) (fun listed a w hv hi hall => by
    have hl : ∀ j, j < l.toArray.size → listed.getD j false = true := fun j hj => by
      have h1 := hall j hj
      have h2 : j < listed.size := by rw [hi.size]; exact hj
      simp only [Array.getD_eq_getD_getElem?, Array.getElem?_eq_getElem h2, Option.getD_some] at h1 ⊢
      exact h1
    refine ⟨?_, h a w _ (fun j hj => hl j (by simpa using hj)) hv.c.1 hv.size hv.defers (fun t => ?_) (fun j oj hoj => hv.phi j oj hoj (hl j (Array.getElem?_eq_some_iff.1 hoj).1))⟩
    · cases hr : Region.ready .any l.toArray listed with
      | nil => rfl
      | cons i r =>
        have him : i ∈ Region.ready .any l.toArray listed := by rw [hr]; simp
        obtain ⟨hil, o, ho, _⟩ := mem_ready.1 him
        have := hall i (Array.getElem?_eq_some_iff.1 ho).1
        rw [hil] at this
        cases this
    · unfold endG
      cases hs : srcOf l.toArray l.toArray.size t with
      | none => exact hv.out t hs
      | some j =>
        obtain ⟨hjn, oj, hoj, hdj⟩ := srcOf_some hs
        have := hv.phi j oj hoj (hl j hjn)
        unfold dslo at this
        rw [hdj] at this
        exact this) l.toArray.size (Array.replicate l.toArray.size false) a0 { W with drawn := W.drawn + 1 }
    ⟨by simp, fun j oj _ hl => (by rw [getD_replicate_false] at hl; cases hl), fun t ht ht' => absurd ht' (by omega)⟩
    ⟨by
      have e : (fun j => (Array.replicate l.toArray.size false).getD j false) = fun _ => false := funext fun j => getD_replicate_false _ _
      rw [e]; exact ⟨hC0, fun _ _ _ h => by cases h⟩, rfl, rfl, fun _ _ => rfl, fun j oj _ hl => (by rw [getD_replicate_false] at hl; cases hl), fun _ _ _ _ _ _ => rfl⟩ (by
      unfold cntU
      rw [List.countP_eq_length.2 fun i hi => by
        rw [getD_in (by simpa using List.mem_range.1 hi) (getD_replicate_false _ _)]; rfl]
      simp)
  simpa using this
theorem fl_link {ops : Array Oper} {Φ : Nat → Value → World → Prop} {lnk : Nat → Option Tmp} {a : Act} {w : World} (h : ∀ j oj, ops[j]? = some oj → outP (Φ j) a w (dslo lnk j oj)) {j : Nat} {oj : Oper} (ho : ops[j]? = some oj) (hd : oj.dst = none) {s : Tmp} (hk : lnk j = some s) : Φ j (a.tmps[s]?.getD undef) w := by
  have h1 := h j oj ho
  unfold dslo at h1
  rw [hd, hk] at h1
  have h2 : Φ j (a.eval (.tmp s)) w := h1
  rwa [show a.eval (.tmp s) = a.tmps[s]?.getD undef by simp [Act.eval]] at h2
end Go.Proofs.Ytcainohglmgdpaa
