/- Phs Cxt Cxu Cu0 Cu1 Cu2 Cu3 Cxv -/
import Derived.Test.YtamcfmfkmekkfaaZac
/- A region that draws its order, with a head whose slots have properties and a chained tail: the boxes that its allocs make are told apart. -/
namespace Go.Proofs.Ytamcfmfkmekkfaa
open Go.RowKit Go
section
variable {P : Program} {ops : Array Oper} {n : Nat} {W : World} {a0 : Act} {Φ : Nat → Value → World → Prop} {Q : Exit → Act → World → Prop} {al : Nat → Bool}
def obSf (P : Program) (ops : Array Oper) (n : Nat) (W : World) (a0 : Act) (Φ : Nat → Value → World → Prop) (al : Nat → Bool) (i : Nat) (o : Oper) : Prop :=
  (match o.guard with | none => True | some (j, b) => ∀ v w, Φ j v w → v = .bool b) ∧ ∀ A w, Kp W w → (∀ t, factAt ops n Φ a0 o A w t) → Gives P o A w (fun u w' => Φ i u w' ∧ (al i = true → u = .pointer (some ⟨w.heap.size, 0, none⟩) ∧ w.heap.size < w'.heap.size))
structure PsInv (ops : Array Oper) (n : Nat) (W : World) (a0 : Act) (Φ : Nat → Value → World → Prop) (al : Nat → Bool) (listed : Array Bool) (a : Act) (w : World) : Prop where
  ph : PhInv ops n W a0 Φ listed a w
  lt : ∀ j oj t, j < n → al j = true → ops[j]? = some oj → oj.dst = some t → listed.getD j false = true → ∃ g, a.eval (.tmp t) = .pointer (some ⟨g, 0, none⟩) ∧ g < w.heap.size
  ne : ∀ j oj t k ok s, j < n → k < n → j ≠ k → al j = true → al k = true → ops[j]? = some oj → ops[k]? = some ok → oj.dst = some t → ok.dst = some s → listed.getD j false = true → listed.getD k false = true → a.eval (.tmp t) ≠ a.eval (.tmp s)
theorem phs_head {g : Nat} (hB : phiB ops n a0.tmps.size = true) (hst : ∀ i v w w', Φ i v w → Below w.heap.size w w' → Φ i v w')
    (ob : ∀ i o, i < n → ops[i]? = some o → obSf P ops n W a0 Φ al i o)
    (hready : ∀ listed, HeadInv .any ops n listed → (∃ i, i < n ∧ listed.getD i true = false) → ∀ t, n ≤ t → t ∉ Region.ready .any ops listed)
    (leaf : ∀ listed a w, PsInv ops n W a0 Φ al listed a w → HeadInv .any ops n listed → (∀ i, i < n → listed.getD i true = true) → wpAny P .any ops Q g listed a w) :
    ∀ (f : Nat) (listed : Array Bool) (a : Act) (w : World), HeadInv .any ops n listed → PsInv ops n W a0 Φ al listed a w → cntU n listed = f → wpAny P .any ops Q (f + g) listed a w := by
  intro f
  induction f with
  | zero =>
    intro listed a w hi hv hc
    rw [Nat.zero_add]
    refine leaf listed a w hv hi fun i hin => ?_
    have := List.countP_eq_zero.1 hc i (List.mem_range.2 hin)
    simpa using this
  | succ f ih =>
    intro listed a w hi hv hc
    have hex : ∃ i, i < n ∧ listed.getD i true = false := by
      have hpos : 0 < cntU n listed := by omega
      obtain ⟨i, him, hib⟩ := List.countP_pos_iff.1 hpos
      exact ⟨i, List.mem_range.1 him, by simpa using hib⟩
    have hr := hready listed hi hex
    rw [show f + 1 + g = (f + g) + 1 by omega]
    refine ⟨fun h0 => ?_, fun i him => ?_⟩
    · obtain ⟨k, hkn, hk⟩ := hex
      obtain ⟨i, hik, hil, hmin⟩ := least (p := fun i => listed.getD i true = false) k hk
      obtain ⟨o, ho, hlow, _⟩ := phiB_at hB (show i < n by omega)
      have : i ∈ Region.ready .any ops listed := mem_ready.2 ⟨hil, o, ho, fun e he hb => by
        have h1 := hlow e he hb
        have h2 := hmin e.on h1
        have h3 : e.on < listed.size := by
          rw [hi.size]
          have := (Array.getElem?_eq_some_iff.1 ho).1
          omega
        simp only [Array.getD_eq_getD_getElem?, Array.getElem?_eq_getElem h3, Option.getD_some] at h2 ⊢
        simpa using h2⟩
      rw [h0] at this
      cases this
    · have hin : i < n := by
        rcases Nat.lt_or_ge i n with h | h
        · exact h
        · exact absurd him (hr i h)
      obtain ⟨hil, oi, hoi, hall⟩ := mem_ready.1 him
      obtain ⟨o', ho', hlow, hdst, hgd⟩ := phiB_at hB hin
      obtain rfl : o' = oi := Option.some.inj (ho'.symm.trans hoi)
      obtain ⟨og, ov⟩ := ob i o' hin hoi
      have hlist : ∀ j, waitsOn o' j = true → listed.getD j false = true := fun j hj => by
        obtain ⟨e, he, hb, rfl⟩ := waitsOn_spec hj
        exact hall e he hb
      have hfact : ∀ t, factAt ops n Φ a0 o' a w t := fun t => by
        unfold factAt
        cases hs : srcOf ops n t with
        | none => exact hv.ph.out t hs
        | some j =>
          intro hw
          obtain ⟨hjn, oj, hoj, hdj⟩ := srcOf_some hs
          exact hv.ph.phi j oj t hjn hoj hdj (hlist j hw)
      have hwant : Region.wanted o' (yielded ops a.tmps) = true := by
        unfold Region.wanted
        cases hg : o'.guard with
        | none => rfl
        | some jb =>
          obtain ⟨j, b⟩ := jb
          obtain ⟨hjn, hwj, oj, t, hoj, hdj⟩ := hgd j b hg
          rw [hg] at og
          have hval := og _ _ (hv.ph.phi j oj t hjn hoj hdj (hlist j hwj))
          obtain ⟨_, hoj2, _, hd2, _⟩ := phiB_at hB hjn
          obtain rfl := Option.some.inj (hoj2.symm.trans hoj)
          have ht := (hd2 t hdj).1
          rw [← hv.ph.size] at ht
          have hval2 : a.tmps[t]? = some (.bool b) := by
            simp only [Act.eval, Array.getD_eq_getD_getElem?, Array.getElem?_eq_getElem ht, Option.getD_some] at hval
            rw [Array.getElem?_eq_getElem ht, hval]
          simp [yielded, hoj, hdj, hval2]
      unfold wpOp
      simp only [hoi, hwant, if_true]
      refine .inl ((ov a w hv.ph.kp hfact).wp fun u w' hb hu => ?_)
      have hsame : ∀ j oj t, j < n → ops[j]? = some oj → oj.dst = some t → j ≠ i → (a.put o'.dst u).eval (.tmp t) = a.eval (.tmp t) := fun j oj t hjn hoj hdj hji => by
        refine Act.eval_put (fun d hd e => ?_)
        cases e
        obtain ⟨_, hoj2, _, hd2, _⟩ := phiB_at hB hjn
        obtain rfl := Option.some.inj (hoj2.symm.trans hoj)
        have e1 := (hd2 t hdj).2
        rw [(hdst t hd).2] at e1
        exact hji (Option.some.inj e1).symm
      have hnew : ∀ t, o'.dst = some t → (a.put o'.dst u).eval (.tmp t) = u := fun t hd => by
        rw [hd]
        exact eval_same (by rw [hv.ph.size]; exact (hdst t hd).1)
      refine ih _ _ _ (hi.set him hin) ⟨⟨hv.ph.kp.step hb, by rw [put_size]; exact hv.ph.size, by rw [put_def]; exact hv.ph.defers, fun t ht => ?_, fun j oj t hjn hoj hdj hlj => ?_⟩, fun j oj t hjn haj hoj hdj hlj => ?_, fun j oj t k ok s hjn hkn hjk haj hak hoj hok hdj hdk hlj hlk => ?_⟩ ?_
      · rw [Act.eval_put (fun d hd e => ?_)]
        · exact hv.ph.out t ht
        · cases e
          rw [(hdst t hd).2] at ht
          cases ht
      · by_cases hji : j = i
        · subst hji
          obtain rfl := Option.some.inj (hoj.symm.trans hoi)
          rw [hnew t hdj]
          exact hu.1
        · rw [getD_set_ne false (Ne.symm hji)] at hlj
          rw [hsame j oj t hjn hoj hdj hji]
          exact hst _ _ _ _ (hv.ph.phi j oj t hjn hoj hdj hlj) hb
      · by_cases hji : j = i
        · subst hji
          obtain rfl := Option.some.inj (hoj.symm.trans hoi)
          rw [hnew t hdj]
          obtain ⟨e, hl⟩ := hu.2 haj
          exact ⟨_, e, hl⟩
        · rw [getD_set_ne false (Ne.symm hji)] at hlj
          rw [hsame j oj t hjn hoj hdj hji]
          obtain ⟨g, e, hl⟩ := hv.lt j oj t hjn haj hoj hdj hlj
          exact ⟨g, e, Nat.lt_of_lt_of_le hl hb.size⟩
      · by_cases hji : j = i
        · subst hji
          obtain rfl := Option.some.inj (hoj.symm.trans hoi)
          have hkj : k ≠ j := fun e => hjk e.symm
          rw [getD_set_ne false (Ne.symm hkj)] at hlk
          rw [hnew t hdj, hsame k ok s hkn hok hdk hkj, (hu.2 haj).1]
          obtain ⟨g, e, hl⟩ := hv.lt k ok s hkn hak hok hdk hlk
          rw [e]
          intro he
          simp only [Value.pointer.injEq, Option.some.injEq, Addr.mk.injEq] at he
          omega
        · rw [getD_set_ne false (Ne.symm hji)] at hlj
          rw [hsame j oj t hjn hoj hdj hji]
          by_cases hki : k = i
          · subst hki
            obtain rfl := Option.some.inj (hok.symm.trans hoi)
            rw [hnew s hdk, (hu.2 hak).1]
            obtain ⟨g, e, hl⟩ := hv.lt j oj t hjn haj hoj hdj hlj
            rw [e]
            intro he
            simp only [Value.pointer.injEq, Option.some.injEq, Addr.mk.injEq] at he
            omega
          · rw [getD_set_ne false (Ne.symm hki)] at hlk
            rw [hsame k ok s hkn hok hdk hki]
            exact hv.ne j oj t k ok s hjn hkn hjk haj hak hoj hok hdj hdk hlj hlk
      · have := cnt_step (fun j => !listed.getD j true) (fun j => !(listed.setIfInBounds i true).getD j true) i (by rw [hil]; rfl) (by
            have : i < listed.size := by rw [hi.size]; exact (Array.getElem?_eq_some_iff.1 hoi).1
            simp [this]) (fun j hj => by rw [getD_set_ne true (Ne.symm hj)]) n hin
        unfold cntU at hc ⊢
        omega
end
def obsS (P : Program) (ops : Array Oper) (n : Nat) (W : World) (a0 : Act) (Φ : Nat → Value → World → Prop) (al : Nat → Bool) : Nat → List Oper → Prop
  | _, [] => True
  | k, o :: r => obSf P ops n W a0 Φ al k o ∧ obsS P ops n W a0 Φ al (k + 1) r
theorem obsS_at {P : Program} {ops : Array Oper} {n : Nat} {W : World} {a0 : Act} {Φ : Nat → Value → World → Prop} {al : Nat → Bool} : ∀ {l : List Oper} {k : Nat}, obsS P ops n W a0 Φ al k l → ∀ i o, l[i]? = some o → obSf P ops n W a0 Φ al (k + i) o
  | [], _, _, i, o, h => by simp at h
  | x :: l, k, h, 0, o, ho => by
    obtain rfl : x = o := by simpa using ho
    exact h.1
  | x :: l, k, h, i + 1, o, ho => by
    have := obsS_at h.2 i o (by simpa using ho)
    rwa [show k + (i + 1) = k + 1 + i by omega]
theorem wp_region_phis {P : Program} {id : Nat} {Q : Exit → Act → World → Prop} {a0 : Act} {W : World} {l : List Oper} (n : Nat) (Φ : Nat → Value → World → Prop) (al : Nat → Bool) (hm : P.follows .mixedOrders = true) (hn : n ≤ l.length)
    (hB : phiB l.toArray n a0.tmps.size = true) (hs : sinkT l.toArray n = true) (hseq : Region.seqB .any l.toArray (l.length - n) n (doneA n (l.length - n)) = true)
    (hst : ∀ i v w w', Φ i v w → Below w.heap.size w w' → Φ i v w') (ob : obsS P l.toArray n W a0 Φ al 0 (l.take n))
    (h : ∀ a w, Kp W w → a.tmps.size = a0.tmps.size → a.defers = a0.defers → (∀ t, factEnd l.toArray n Φ a0 a w t) → (∀ i j t s, i ≠ j → al i = true → al j = true → srcOf l.toArray n t = some i → srcOf l.toArray n s = some j → a.tmps[t]?.getD undef ≠ a.tmps[s]?.getD undef) → wpList P l.toArray Q (l.drop n) a w) : (Code.region id l.toArray true).wp P Q a0 W := by
  refine wp_region_any hm ?_
  have hsz : l.toArray.size = n + (l.length - n) := by simp; omega
  have hready : ∀ listed, HeadInv .any l.toArray n listed → (∃ i, i < n ∧ listed.getD i true = false) → ∀ t, n ≤ t → t ∉ Region.ready .any l.toArray listed := fun listed inv ⟨i, hi, hun⟩ t ht hr => by
    obtain ⟨_, ot, hot, hall⟩ := mem_ready.1 hr
    have htlt : t < l.toArray.size := (Array.getElem?_eq_some_iff.1 hot).1
    have h1 := List.all_eq_true.1 hs t (List.mem_range.2 htlt)
    simp only [Bool.or_eq_true, decide_eq_true_eq] at h1
    rcases h1 with h1 | h1
    · omega
    · have h2 := List.all_eq_true.1 h1 i (List.mem_range.2 hi)
      have h3 := reach_listed inv.closed l.toArray.size t (fun o ho e he hb => by
        obtain rfl : o = ot := Option.some.inj (ho.symm.trans hot)
        exact hall e he hb) h2
      rw [getD_both hun] at h3
      cases h3
  have := phs_head (al := al) (P := P) (Q := Q) (g := l.length - n) (W := W) (a0 := a0) hB hst (fun i o hi ho => by
      have h1 : (l.take n)[i]? = some o := by rw [List.getElem?_take_of_lt hi]; simpa using ho
      have := obsS_at ob i o h1
      rwa [Nat.zero_add] at this) hready (fun listed a w hv hi hall => by
    have hl : listed = doneA n (l.length - n) := by
      refine Array.ext (by rw [hi.size, hsz]; simp [doneA]) fun k hk hk2 => ?_
      rcases Nat.lt_or_ge k n with hkn | hkn
      · have h1 := hall k hkn
        simp only [Array.getD_eq_getD_getElem?, Array.getElem?_eq_getElem hk, Option.getD_some] at h1
        rw [h1]
        simp [doneA, hkn]
      · have h1 := hi.tail k hkn (by rw [← hi.size]; exact hk)
        simp only [Array.getD_eq_getD_getElem?, Array.getElem?_eq_getElem hk, Option.getD_some] at h1
        rw [h1]
        simp [doneA, List.getElem_append, Nat.not_lt.2 hkn]
    subst hl
    have hdone : ∀ j, j < n → (doneA n (l.length - n)).getD j false = true := fun j hjn => by
      have h1 := hall j hjn
      have h2 : j < (doneA n (l.length - n)).size := by simp [doneA]; omega
      simp only [Array.getD_eq_getD_getElem?, Array.getElem?_eq_getElem h2, Option.getD_some] at h1 ⊢
      exact h1
    have hw := h a w hv.ph.kp hv.ph.size hv.ph.defers (fun t => by
      unfold factEnd
      cases hs : srcOf l.toArray n t with
      | none => exact hv.ph.out t hs
      | some j =>
        obtain ⟨hjn, oj, hoj, hdj⟩ := srcOf_some hs
        refine hv.ph.phi j oj t hjn hoj hdj ?_
        have h1 := hall j hjn
        have h2 : j < (doneA n (l.length - n)).size := by simp [doneA]; omega
        simp only [Array.getD_eq_getD_getElem?, Array.getElem?_eq_getElem h2, Option.getD_some] at h1 ⊢
        exact h1) (fun i j t s hij hai haj hs1 hs2 => by
        obtain ⟨hin, oi, hoi, hdi⟩ := srcOf_some hs1
        obtain ⟨hjn, oj, hoj, hdj⟩ := srcOf_some hs2
        have := hv.ne i oi t j oj s hin hjn hij hai haj hoi hoj hdi hdj (hdone i hin) (hdone j hjn)
        simpa [Act.eval] using this)
    have hd : (l.drop n).length = l.length - n := by simp
    have := wpAny_of_seq (md := .any) (Q' := Q) (l.drop n) n (doneA n (l.length - n)) a w (fun j => by simp [List.getElem?_drop]) (by rw [hd]; exact hseq) hw
    rwa [hd] at this) n (Array.replicate l.toArray.size false) a0 { W with drawn := W.drawn + 1 }
    ⟨by simp, fun j oj _ hl => (by rw [getD_replicate_false] at hl; cases hl), fun t ht ht' => getD_in (by simpa using ht') (getD_replicate_false _ _)⟩
    ⟨⟨(Below.refl _ _).drew, rfl, rfl, fun _ _ => rfl, fun j oj t _ _ _ hl => (by rw [getD_replicate_false] at hl; cases hl)⟩, fun j oj t _ _ _ _ hl => (by rw [getD_replicate_false] at hl; cases hl), fun j oj t k ok s _ _ _ _ _ _ _ _ _ hl => (by rw [getD_replicate_false] at hl; cases hl)⟩ (by
      unfold cntU
      rw [List.countP_eq_length.2 fun i hi => by
        rw [getD_in (by have := List.mem_range.1 hi; simp; omega) (getD_replicate_false _ _)]; rfl]
      simp)
  rw [hsz]
  rw [hsz] at this
  exact this
theorem gives_box {P : Program} {w : World} {φ : Value → World → Prop} {al : Bool} {o : Obj} (h : φ (.pointer (some ⟨w.heap.size, 0, none⟩)) (w.alloc o)) : GivesR P w (fun u w' => φ u w' ∧ (al = true → u = .pointer (some ⟨w.heap.size, 0, none⟩) ∧ w.heap.size < w'.heap.size)) (.ok (.value (.pointer (some ⟨w.heap.size, 0, none⟩))) (w.alloc o)) :=
  ⟨(Below.refl _ _).alloc (Nat.le_refl _) _, h, fun _ => ⟨rfl, by simp⟩⟩
theorem Gives.no {P : Program} {o : Oper} {A : Act} {w : World} {φ : Value → World → Prop} {al : Bool} (h : Gives P o A w φ) (hal : al = false) : Gives P o A w (fun u w' => φ u w' ∧ (al = true → u = .pointer (some ⟨w.heap.size, 0, none⟩) ∧ w.heap.size < w'.heap.size)) := by
  subst hal
  unfold Gives at h ⊢
  generalize (execOp A.eval o).run P w = r at *
  cases r with
  | ok nx w' =>
    cases nx <;> simp only [GivesR] at h ⊢
    case value u => exact ⟨h.1, h.2, fun e => by cases e⟩
    case skip => exact ⟨h.1, h.2, fun e => by cases e⟩
    case enter f args => exact ⟨h.1, h.2.mono fun e w'' ⟨v, he, hb, hv⟩ => ⟨v, he, hb, hv, fun e => by cases e⟩⟩
  | halt x w' => simp only [GivesR] at h
end Go.Proofs.Ytamcfmfkmekkfaa
/- The reference's compare. -/
namespace Go.Proofs.Ytamcfmfkmekkfaa
open Go.RowKit Go
theorem tmod_cases (n : Nat) : (n : Int).tmod 5 = 0 ∨ (n : Int).tmod 5 = 1 ∨ (n : Int).tmod 5 = 2 ∨ (n : Int).tmod 5 = 3 ∨ (n : Int).tmod 5 = 4 := by
  rw [Int.tmod_eq_emod_of_nonneg (by omega)]; omega
theorem rd_name (c : Ca) (n : Nat) (h : sortA n ≠ 3) : rdX c n = num (nmX c n) := by
  unfold rdX nmX atX
  rcases tmod_cases n with e | e | e | e | e <;> simp [sortA, e] at h ⊢
theorem rd_level (c : Ca) (n : Nat) (h : sortA n = 3) : rdX c n = lvX c n := by
  unfold rdX lvX atX
  rcases tmod_cases n with e | e | e | e | e <;> simp [sortA, e] at h ⊢
theorem num_eq (p q : Int) : num p = num q ↔ p = q := ⟨fun h => by have := congrArg Lv.s h; exact this, fun h => by rw [h]⟩
theorem rel_name (p q r : Int) (h : r = 0 ∨ r = 1) : relX (num p) r (num q) = ((p == q) == (r == 0)) := by
  unfold relX
  rcases h with rfl | rfl
  · rw [if_pos rfl]
    by_cases e : p = q
    · subst e; simp
    · have e2 : ¬ num p = num q := fun h => e ((num_eq p q).1 h)
      simp [e, e2]
  · rw [if_neg (by decide), if_pos rfl]
    by_cases e : p = q
    · subst e; simp
    · have e2 : ¬ num p = num q := fun h => e ((num_eq p q).1 h)
      simp [e, e2]
theorem rel_inc (a b : Lv) : decide (relN a b = 4) = (!domX a b && !domX b a) := by
  have hr : domX a a = true := by
    unfold domX domL
    rw [(subL_iff (a := a.c) (b := a.c) (by have := a.wf; unfold U64n; exact this)).2 fun n _ h => h]; simp
  unfold relN relL
  by_cases e : a.s = b.s ∧ a.c = b.c
  · obtain rfl : a = b := lv_eq e.1 e.2
    rw [if_pos e, hr]; simp
  · rw [if_neg e]
    unfold domX
    cases domL a.s a.c b.s b.c <;> cases domL b.s b.c a.s a.c <;> simp
set_option maxRecDepth 100000 in
set_option maxHeartbeats 8000000 in
theorem rcompare_n (op r : Int) (st : S4) (ao ak : Option Addr) (n1 n2 cap ck na nb : Nat) (c : Ca) (ha : na < 15) (hb : nb < 15) (hs : sortA na ≠ 3) (hs2 : sortA na = sortA nb) (hr : r = 0 ∨ r = 1) (w : World) :
    Calls Try.prog 39 #[.agg #[.int .i64 op, .int .i64 na, .int .i64 r, .int .i64 nb, .slice ao n1 cap, .int .u64 st.a, .int .u64 st.b, .int .u64 st.c, .int .u64 st.d, .slice ak n2 ck], .agg #[.int .i64 c.c1.u, .int .i64 c.c1.ro, .int .i64 c.c1.ty, .int .i64 c.c1.lo.s, .int .u64 c.c1.lo.c, .int .i64 c.c1.hi.s, .int .u64 c.c1.hi.c, .int .i64 c.c2.u, .int .i64 c.c2.ro, .int .i64 c.c2.ty, .int .i64 c.c2.lo.s, .int .u64 c.c2.lo.c, .int .i64 c.c2.hi.s, .int .u64 c.c2.hi.c, .int .i64 c.c3.u, .int .i64 c.c3.ro, .int .i64 c.c3.ty, .int .i64 c.c3.lo.s, .int .u64 c.c3.lo.c, .int .i64 c.c3.hi.s, .int .u64 c.c3.hi.c]] w fun e w' => e = .returned (.bool (relX (rdX c na) r (rdX c nb))) ∧ Below w.heap.size w w' := by
  rw [rd_name c na hs, rd_name c nb (by rw [← hs2]; exact hs), rel_name _ _ _ hr]
  have HSO := Lib.hid (rsort_c na)
  have p3 : (sortA na != 3) = true := by simpa using hs
  have HNA := Lib.hid (fun W => rname_c c na ha W)
  have HNB := Lib.hid (fun W => rname_c c nb hb W)
  generalize sortA na = sa at *
  generalize nmX c na = pa at *
  generalize nmX c nb = pb at *
  have HXC : Hid (XC ((w.alloc (.cells #[.int .i64 op, .int .i64 na, .int .i64 r, .int .i64 nb, .slice ao n1 cap, .int .u64 st.a, .int .u64 st.b, .int .u64 st.c, .int .u64 st.d, .slice ak n2 ck] 28)).alloc (.cells #[.int .i64 c.c1.u, .int .i64 c.c1.ro, .int .i64 c.c1.ty, .int .i64 c.c1.lo.s, .int .u64 c.c1.lo.c, .int .i64 c.c1.hi.s, .int .u64 c.c1.hi.c, .int .i64 c.c2.u, .int .i64 c.c2.ro, .int .i64 c.c2.ty, .int .i64 c.c2.lo.s, .int .u64 c.c2.lo.c, .int .i64 c.c2.hi.s, .int .u64 c.c2.hi.c, .int .i64 c.c3.u, .int .i64 c.c3.ro, .int .i64 c.c3.ty, .int .i64 c.c3.lo.s, .int .u64 c.c3.lo.c, .int .i64 c.c3.hi.s, .int .u64 c.c3.hi.c] 36)) w.heap.size 0 op na r nb ao n1 cap st ak n2 ck) := Lib.hid (XC.of_blk ((Blk.new w _ _).alloc _))
  have HC : Hid (Blk ((w.alloc (.cells #[.int .i64 op, .int .i64 na, .int .i64 r, .int .i64 nb, .slice ao n1 cap, .int .u64 st.a, .int .u64 st.b, .int .u64 st.c, .int .u64 st.d, .slice ak n2 ck] 28)).alloc (.cells #[.int .i64 c.c1.u, .int .i64 c.c1.ro, .int .i64 c.c1.ty, .int .i64 c.c1.lo.s, .int .u64 c.c1.lo.c, .int .i64 c.c1.hi.s, .int .u64 c.c1.hi.c, .int .i64 c.c2.u, .int .i64 c.c2.ro, .int .i64 c.c2.ty, .int .i64 c.c2.lo.s, .int .u64 c.c2.lo.c, .int .i64 c.c2.hi.s, .int .u64 c.c2.hi.c, .int .i64 c.c3.u, .int .i64 c.c3.ro, .int .i64 c.c3.ty, .int .i64 c.c3.lo.s, .int .u64 c.c3.lo.c, .int .i64 c.c3.hi.s, .int .u64 c.c3.hi.c] 36)) (w.heap.size + 1) 36 #[.int .i64 c.c1.u, .int .i64 c.c1.ro, .int .i64 c.c1.ty, .int .i64 c.c1.lo.s, .int .u64 c.c1.lo.c, .int .i64 c.c1.hi.s, .int .u64 c.c1.hi.c, .int .i64 c.c2.u, .int .i64 c.c2.ro, .int .i64 c.c2.ty, .int .i64 c.c2.lo.s, .int .u64 c.c2.lo.c, .int .i64 c.c2.hi.s, .int .u64 c.c2.hi.c, .int .i64 c.c3.u, .int .i64 c.c3.ro, .int .i64 c.c3.ty, .int .i64 c.c3.lo.s, .int .u64 c.c3.lo.c, .int .i64 c.c3.hi.s, .int .u64 c.c3.hi.c]) := Lib.hid (two_new' _ _ _ _)
  have HB : Hid (Below w.heap.size w ((w.alloc (.cells #[.int .i64 op, .int .i64 na, .int .i64 r, .int .i64 nb, .slice ao n1 cap, .int .u64 st.a, .int .u64 st.b, .int .u64 st.c, .int .u64 st.d, .slice ak n2 ck] 28)).alloc (.cells #[.int .i64 c.c1.u, .int .i64 c.c1.ro, .int .i64 c.c1.ty, .int .i64 c.c1.lo.s, .int .u64 c.c1.lo.c, .int .i64 c.c1.hi.s, .int .u64 c.c1.hi.c, .int .i64 c.c2.u, .int .i64 c.c2.ro, .int .i64 c.c2.ty, .int .i64 c.c2.lo.s, .int .u64 c.c2.lo.c, .int .i64 c.c2.hi.s, .int .u64 c.c2.hi.c, .int .i64 c.c3.u, .int .i64 c.c3.ro, .int .i64 c.c3.ty, .int .i64 c.c3.lo.s, .int .u64 c.c3.lo.c, .int .i64 c.c3.hi.s, .int .u64 c.c3.hi.c] 36))) := Lib.hid (((Below.refl _ _).alloc (Nat.le_refl _) _).alloc (by simp) _)
  have HG : Hid (w.heap.size < ((w.alloc (.cells #[.int .i64 op, .int .i64 na, .int .i64 r, .int .i64 nb, .slice ao n1 cap, .int .u64 st.a, .int .u64 st.b, .int .u64 st.c, .int .u64 st.d, .slice ak n2 ck] 28)).alloc (.cells #[.int .i64 c.c1.u, .int .i64 c.c1.ro, .int .i64 c.c1.ty, .int .i64 c.c1.lo.s, .int .u64 c.c1.lo.c, .int .i64 c.c1.hi.s, .int .u64 c.c1.hi.c, .int .i64 c.c2.u, .int .i64 c.c2.ro, .int .i64 c.c2.ty, .int .i64 c.c2.lo.s, .int .u64 c.c2.lo.c, .int .i64 c.c2.hi.s, .int .u64 c.c2.hi.c, .int .i64 c.c3.u, .int .i64 c.c3.ro, .int .i64 c.c3.ty, .int .i64 c.c3.lo.s, .int .u64 c.c3.lo.c, .int .i64 c.c3.hi.s, .int .u64 c.c3.hi.c] 36)).heap.size) := Lib.hid (by simp; omega)
  clear ha hb hs hs2 hr
  go_enter Try.func39, Try.ntmps39
  go_upto_region 1 with fail
  generalize (w.alloc (.cells #[.int .i64 op, .int .i64 na, .int .i64 r, .int .i64 nb, .slice ao n1 cap, .int .u64 st.a, .int .u64 st.b, .int .u64 st.c, .int .u64 st.d, .slice ak n2 ck] 28)).alloc (.cells #[.int .i64 c.c1.u, .int .i64 c.c1.ro, .int .i64 c.c1.ty, .int .i64 c.c1.lo.s, .int .u64 c.c1.lo.c, .int .i64 c.c1.hi.s, .int .u64 c.c1.hi.c, .int .i64 c.c2.u, .int .i64 c.c2.ro, .int .i64 c.c2.ty, .int .i64 c.c2.lo.s, .int .u64 c.c2.lo.c, .int .i64 c.c2.hi.s, .int .u64 c.c2.hi.c, .int .i64 c.c3.u, .int .i64 c.c3.ro, .int .i64 c.c3.ty, .int .i64 c.c3.lo.s, .int .u64 c.c3.lo.c, .int .i64 c.c3.hi.s, .int .u64 c.c3.hi.c] 36) = W at *
  have HLE : Hid (w.heap.size ≤ W.heap.size) := Lib.hid HB.out.size
  generalize w.heap.size + 1 = gc at *
  generalize hge : w.heap.size = ge at *
  obtain ⟨y0, y1, y2, y3, y4, y5, y6, y7, y8, y9⟩ := HXC.out.cells
  go_upto_region 2 with (go_at_call 43; (with_reducible refine (HSO.out _).mono ?_); rintro e w1 ⟨rfl, hb1⟩; have HB1 := Lib.hid (HB.out.trans (hb1.mono HLE.out)); have HX1 := Lib.hid (HXC.out.keep (hb1.block ge HG.out)); have HG1 := Lib.hid (Nat.lt_of_lt_of_le HG.out hb1.size); have HC1 := Lib.hid (HC.out.keep hb1); clear hb1)
  clear HXC HC HB HG HLE y0 y1 y2 y3 y4 y5 y6 y7 y8 y9
  have HC := HC1
  refine wp_region_kp (by kernel_rfl) (by kernel_rfl) ?_
  repeat (first
      | go_big_quiet_skip
      | (go_big_quiet_want
         first
           | (refine quiet_load _ rfl rfl (fun w1 hC => loadAt_case (Blk.keep HC.out hC)) ?_; simp only [Act.put, List.setIfInBounds_toArray, List.set_cons_succ, List.set_cons_zero]; go_big_quiet_on)
           | (go_big_quiet_op
              first
                | go_big_quiet_on
                | (apply Exists.intro
                   refine ⟨fun w1 hC => ?_, ?_⟩
                   · first
                       | (go_at_call 38; with_reducible first | exact hC.call (HNA.out _) | exact hC.call (HNB.out _))
                       | (go_simp; exact ⟨rfl, rfl⟩)
                       | (obtain ⟨y0, y1, y2, y3, y4, y5, y6, y7, y8, y9⟩ := (HX1.out.keep (Below.block hC ge HG1.out)).cells; go_simp; exact rfl)
                   go_big_quiet_on))))
  refine wpQuiet_nil ?_
  intro W1 hC
  have HCC := Lib.hid (HB1.out.trans (hC.mono (Nat.le_of_lt HG1.out)))
  clear hC
  go_wp2_with fail
  go_ret
  exact ⟨rfl, by first | exact HCC.out | (rw [hge]; exact HCC.out)⟩
end Go.Proofs.Ytamcfmfkmekkfaa
/- The reference's compare: levels. -/
namespace Go.Proofs.Ytamcfmfkmekkfaa
open Go.RowKit Go
def cpPhi (c : Ca) (ge na nb : Nat) (la lb : Lv) (W0 : World) (k : Nat) (v : Value) (u : World) : Prop := match k with
  | 0 => v = .agg #[.int .i64 c.c1.u, .int .i64 c.c1.ro, .int .i64 c.c1.ty, .int .i64 c.c1.lo.s, .int .u64 c.c1.lo.c, .int .i64 c.c1.hi.s, .int .u64 c.c1.hi.c, .int .i64 c.c2.u, .int .i64 c.c2.ro, .int .i64 c.c2.ty, .int .i64 c.c2.lo.s, .int .u64 c.c2.lo.c, .int .i64 c.c2.hi.s, .int .u64 c.c2.hi.c, .int .i64 c.c3.u, .int .i64 c.c3.ro, .int .i64 c.c3.ty, .int .i64 c.c3.lo.s, .int .u64 c.c3.lo.c, .int .i64 c.c3.hi.s, .int .u64 c.c3.hi.c]
  | 1 => v = .pointer (some ⟨ge, 1, none⟩)
  | 2 => v = .int .i64 na
  | 3 => v = .agg #[.int .i64 la.s, .int .u64 la.c]
  | 4 => v = .agg #[.int .i64 c.c1.u, .int .i64 c.c1.ro, .int .i64 c.c1.ty, .int .i64 c.c1.lo.s, .int .u64 c.c1.lo.c, .int .i64 c.c1.hi.s, .int .u64 c.c1.hi.c, .int .i64 c.c2.u, .int .i64 c.c2.ro, .int .i64 c.c2.ty, .int .i64 c.c2.lo.s, .int .u64 c.c2.lo.c, .int .i64 c.c2.hi.s, .int .u64 c.c2.hi.c, .int .i64 c.c3.u, .int .i64 c.c3.ro, .int .i64 c.c3.ty, .int .i64 c.c3.lo.s, .int .u64 c.c3.lo.c, .int .i64 c.c3.hi.s, .int .u64 c.c3.hi.c]
  | 5 => v = .pointer (some ⟨ge, 3, none⟩)
  | 6 => v = .int .i64 nb
  | 7 => v = .agg #[.int .i64 lb.s, .int .u64 lb.c]
  | 8 => ∃ g, v = .pointer (some ⟨g, 0, none⟩) ∧ W0.heap.size ≤ g ∧ Blk u g 30 #[.int .i64 0, .int .u64 0]
  | 9 => ∃ g, v = .pointer (some ⟨g, 0, none⟩) ∧ W0.heap.size ≤ g ∧ Blk u g 30 #[.int .i64 0, .int .u64 0]
  | _ => True
theorem cpPhi_keep {c : Ca} {ge na nb : Nat} {la lb : Lv} {W0 : World} {k : Nat} {v : Value} {u u' : World} (h : cpPhi c ge na nb la lb W0 k v u) (hb : Below u.heap.size u u') : cpPhi c ge na nb la lb W0 k v u' := by
  unfold cpPhi at h ⊢
  split at h
  iterate 8 exact h
  · obtain ⟨g, h1, h2, h3⟩ := h
    exact ⟨g, h1, h2, h3.keep hb⟩
  · obtain ⟨g, h1, h2, h3⟩ := h
    exact ⟨g, h1, h2, h3.keep hb⟩
  · trivial
theorem gives_box2 {P : Program} {w : World} {φ : Value → World → Prop} {o : Obj} (h : φ (.pointer (some ⟨w.heap.size, 0, none⟩)) (w.alloc o)) : GivesR P w (fun u w' => φ u w' ∧ u = .pointer (some ⟨w.heap.size, 0, none⟩) ∧ w.heap.size < w'.heap.size) (.ok (.value (.pointer (some ⟨w.heap.size, 0, none⟩))) (w.alloc o)) :=
  ⟨(Below.refl _ _).alloc (Nat.le_refl _) _, h, rfl, by simp⟩
theorem size_lv (w : World) : (sizeOf 30).run Try.prog w = .ok 2 w := by go_simp
theorem Blk.other {w : World} {g g2 : Nat} {t : TypeId} {cs : Array Value} (h : Blk w g t cs) (hne : g ≠ g2) (cs2 : Array Value) : Blk (w.setRow g2 cs2) g t cs := (setRow_other w g2 g cs2 hne).trans h
end Go.Proofs.Ytamcfmfkmekkfaa
/- The reference's compare: levels (0). -/
namespace Go.Proofs.Ytamcfmfkmekkfaa
open Go.RowKit Go
set_option maxRecDepth 100000 in
set_option maxHeartbeats 16000000 in
theorem rcl_0s (op r : Int) (st : S4) (ao ak : Option Addr) (n1 n2 cap ck na nb : Nat) (c : Ca) (la : Lv) (hs : sortA na = 3) (hr : r = 0) (HLA : ∀ W, Calls Try.prog 61 #[.agg #[.int .i64 c.c1.u, .int .i64 c.c1.ro, .int .i64 c.c1.ty, .int .i64 c.c1.lo.s, .int .u64 c.c1.lo.c, .int .i64 c.c1.hi.s, .int .u64 c.c1.hi.c, .int .i64 c.c2.u, .int .i64 c.c2.ro, .int .i64 c.c2.ty, .int .i64 c.c2.lo.s, .int .u64 c.c2.lo.c, .int .i64 c.c2.hi.s, .int .u64 c.c2.hi.c, .int .i64 c.c3.u, .int .i64 c.c3.ro, .int .i64 c.c3.ty, .int .i64 c.c3.lo.s, .int .u64 c.c3.lo.c, .int .i64 c.c3.hi.s, .int .u64 c.c3.hi.c], .int .i64 na] W fun e w' => e = .returned (.agg #[.int .i64 la.s, .int .u64 la.c]) ∧ Below W.heap.size W w') (HLB : ∀ W, Calls Try.prog 61 #[.agg #[.int .i64 c.c1.u, .int .i64 c.c1.ro, .int .i64 c.c1.ty, .int .i64 c.c1.lo.s, .int .u64 c.c1.lo.c, .int .i64 c.c1.hi.s, .int .u64 c.c1.hi.c, .int .i64 c.c2.u, .int .i64 c.c2.ro, .int .i64 c.c2.ty, .int .i64 c.c2.lo.s, .int .u64 c.c2.lo.c, .int .i64 c.c2.hi.s, .int .u64 c.c2.hi.c, .int .i64 c.c3.u, .int .i64 c.c3.ro, .int .i64 c.c3.ty, .int .i64 c.c3.lo.s, .int .u64 c.c3.lo.c, .int .i64 c.c3.hi.s, .int .u64 c.c3.hi.c], .int .i64 nb] W fun e w' => e = .returned (.agg #[.int .i64 la.s, .int .u64 la.c]) ∧ Below W.heap.size W w') (w : World) :
    Calls Try.prog 39 #[.agg #[.int .i64 op, .int .i64 na, .int .i64 r, .int .i64 nb, .slice ao n1 cap, .int .u64 st.a, .int .u64 st.b, .int .u64 st.c, .int .u64 st.d, .slice ak n2 ck], .agg #[.int .i64 c.c1.u, .int .i64 c.c1.ro, .int .i64 c.c1.ty, .int .i64 c.c1.lo.s, .int .u64 c.c1.lo.c, .int .i64 c.c1.hi.s, .int .u64 c.c1.hi.c, .int .i64 c.c2.u, .int .i64 c.c2.ro, .int .i64 c.c2.ty, .int .i64 c.c2.lo.s, .int .u64 c.c2.lo.c, .int .i64 c.c2.hi.s, .int .u64 c.c2.hi.c, .int .i64 c.c3.u, .int .i64 c.c3.ro, .int .i64 c.c3.ty, .int .i64 c.c3.lo.s, .int .u64 c.c3.lo.c, .int .i64 c.c3.hi.s, .int .u64 c.c3.hi.c]] w fun e w' => e = .returned (.bool (true)) ∧ Below w.heap.size w w' := by
  have q0 : (r == 0) = true := by simp; omega
  have q1 : (r == 1) = false := by simp; omega
  have q2 : (r == 2) = false := by simp; omega
  have q3 : (r == 3) = false := by simp; omega
  clear hr
  have HSO := Lib.hid (rsort_c na)
  have p3' : (sortA na != 3) = false := by simpa using hs
  have HNA := Lib.hid HLA
  have HNB := Lib.hid HLB
  generalize sortA na = sa at *
  have HXC : Hid (XC ((w.alloc (.cells #[.int .i64 op, .int .i64 na, .int .i64 r, .int .i64 nb, .slice ao n1 cap, .int .u64 st.a, .int .u64 st.b, .int .u64 st.c, .int .u64 st.d, .slice ak n2 ck] 28)).alloc (.cells #[.int .i64 c.c1.u, .int .i64 c.c1.ro, .int .i64 c.c1.ty, .int .i64 c.c1.lo.s, .int .u64 c.c1.lo.c, .int .i64 c.c1.hi.s, .int .u64 c.c1.hi.c, .int .i64 c.c2.u, .int .i64 c.c2.ro, .int .i64 c.c2.ty, .int .i64 c.c2.lo.s, .int .u64 c.c2.lo.c, .int .i64 c.c2.hi.s, .int .u64 c.c2.hi.c, .int .i64 c.c3.u, .int .i64 c.c3.ro, .int .i64 c.c3.ty, .int .i64 c.c3.lo.s, .int .u64 c.c3.lo.c, .int .i64 c.c3.hi.s, .int .u64 c.c3.hi.c] 36)) w.heap.size 0 op na r nb ao n1 cap st ak n2 ck) := Lib.hid (XC.of_blk ((Blk.new w _ _).alloc _))
  have HC0 : Hid (Blk ((w.alloc (.cells #[.int .i64 op, .int .i64 na, .int .i64 r, .int .i64 nb, .slice ao n1 cap, .int .u64 st.a, .int .u64 st.b, .int .u64 st.c, .int .u64 st.d, .slice ak n2 ck] 28)).alloc (.cells #[.int .i64 c.c1.u, .int .i64 c.c1.ro, .int .i64 c.c1.ty, .int .i64 c.c1.lo.s, .int .u64 c.c1.lo.c, .int .i64 c.c1.hi.s, .int .u64 c.c1.hi.c, .int .i64 c.c2.u, .int .i64 c.c2.ro, .int .i64 c.c2.ty, .int .i64 c.c2.lo.s, .int .u64 c.c2.lo.c, .int .i64 c.c2.hi.s, .int .u64 c.c2.hi.c, .int .i64 c.c3.u, .int .i64 c.c3.ro, .int .i64 c.c3.ty, .int .i64 c.c3.lo.s, .int .u64 c.c3.lo.c, .int .i64 c.c3.hi.s, .int .u64 c.c3.hi.c] 36)) (w.heap.size + 1) 36 #[.int .i64 c.c1.u, .int .i64 c.c1.ro, .int .i64 c.c1.ty, .int .i64 c.c1.lo.s, .int .u64 c.c1.lo.c, .int .i64 c.c1.hi.s, .int .u64 c.c1.hi.c, .int .i64 c.c2.u, .int .i64 c.c2.ro, .int .i64 c.c2.ty, .int .i64 c.c2.lo.s, .int .u64 c.c2.lo.c, .int .i64 c.c2.hi.s, .int .u64 c.c2.hi.c, .int .i64 c.c3.u, .int .i64 c.c3.ro, .int .i64 c.c3.ty, .int .i64 c.c3.lo.s, .int .u64 c.c3.lo.c, .int .i64 c.c3.hi.s, .int .u64 c.c3.hi.c]) := Lib.hid (two_new' _ _ _ _)
  have HB : Hid (Below w.heap.size w ((w.alloc (.cells #[.int .i64 op, .int .i64 na, .int .i64 r, .int .i64 nb, .slice ao n1 cap, .int .u64 st.a, .int .u64 st.b, .int .u64 st.c, .int .u64 st.d, .slice ak n2 ck] 28)).alloc (.cells #[.int .i64 c.c1.u, .int .i64 c.c1.ro, .int .i64 c.c1.ty, .int .i64 c.c1.lo.s, .int .u64 c.c1.lo.c, .int .i64 c.c1.hi.s, .int .u64 c.c1.hi.c, .int .i64 c.c2.u, .int .i64 c.c2.ro, .int .i64 c.c2.ty, .int .i64 c.c2.lo.s, .int .u64 c.c2.lo.c, .int .i64 c.c2.hi.s, .int .u64 c.c2.hi.c, .int .i64 c.c3.u, .int .i64 c.c3.ro, .int .i64 c.c3.ty, .int .i64 c.c3.lo.s, .int .u64 c.c3.lo.c, .int .i64 c.c3.hi.s, .int .u64 c.c3.hi.c] 36))) := Lib.hid (((Below.refl _ _).alloc (Nat.le_refl _) _).alloc (by simp) _)
  have HG : Hid (w.heap.size < ((w.alloc (.cells #[.int .i64 op, .int .i64 na, .int .i64 r, .int .i64 nb, .slice ao n1 cap, .int .u64 st.a, .int .u64 st.b, .int .u64 st.c, .int .u64 st.d, .slice ak n2 ck] 28)).alloc (.cells #[.int .i64 c.c1.u, .int .i64 c.c1.ro, .int .i64 c.c1.ty, .int .i64 c.c1.lo.s, .int .u64 c.c1.lo.c, .int .i64 c.c1.hi.s, .int .u64 c.c1.hi.c, .int .i64 c.c2.u, .int .i64 c.c2.ro, .int .i64 c.c2.ty, .int .i64 c.c2.lo.s, .int .u64 c.c2.lo.c, .int .i64 c.c2.hi.s, .int .u64 c.c2.hi.c, .int .i64 c.c3.u, .int .i64 c.c3.ro, .int .i64 c.c3.ty, .int .i64 c.c3.lo.s, .int .u64 c.c3.lo.c, .int .i64 c.c3.hi.s, .int .u64 c.c3.hi.c] 36)).heap.size) := Lib.hid (by simp; omega)
  clear hs HLA HLB
  go_enter Try.func39, Try.ntmps39
  go_upto_region 1 with fail
  generalize (w.alloc (.cells #[.int .i64 op, .int .i64 na, .int .i64 r, .int .i64 nb, .slice ao n1 cap, .int .u64 st.a, .int .u64 st.b, .int .u64 st.c, .int .u64 st.d, .slice ak n2 ck] 28)).alloc (.cells #[.int .i64 c.c1.u, .int .i64 c.c1.ro, .int .i64 c.c1.ty, .int .i64 c.c1.lo.s, .int .u64 c.c1.lo.c, .int .i64 c.c1.hi.s, .int .u64 c.c1.hi.c, .int .i64 c.c2.u, .int .i64 c.c2.ro, .int .i64 c.c2.ty, .int .i64 c.c2.lo.s, .int .u64 c.c2.lo.c, .int .i64 c.c2.hi.s, .int .u64 c.c2.hi.c, .int .i64 c.c3.u, .int .i64 c.c3.ro, .int .i64 c.c3.ty, .int .i64 c.c3.lo.s, .int .u64 c.c3.lo.c, .int .i64 c.c3.hi.s, .int .u64 c.c3.hi.c] 36) = W at *
  have HLE : Hid (w.heap.size ≤ W.heap.size) := Lib.hid HB.out.size
  generalize w.heap.size + 1 = gc at *
  generalize hge : w.heap.size = ge at *
  obtain ⟨y0, y1, y2, y3, y4, y5, y6, y7, y8, y9⟩ := HXC.out.cells
  go_upto_region 3 with (go_at_call 43; (with_reducible refine (HSO.out _).mono ?_); rintro e w1 ⟨rfl, hb1⟩; have HB1 := Lib.hid (HB.out.trans (hb1.mono HLE.out)); have HX1 := Lib.hid (HXC.out.keep (hb1.block ge HG.out)); have HG1 := Lib.hid (Nat.lt_of_lt_of_le HG.out hb1.size); have HC := Lib.hid (HC0.out.keep hb1); clear hb1)
  clear HXC HC0 HB HG HLE y0 y1 y2 y3 y4 y5 y6 y7 y8 y9
  refine wp_region_phis 10 (cpPhi c ge na nb la la w1) (fun i => i == 8 || i == 9) (by kernel_rfl) (by decide) (by kernel_rfl) (by kernel_rfl) (by kernel_rfl) (fun k v u u2 h hb => cpPhi_keep h hb) ?_ ?_
  · refine ⟨⟨trivial, fun A u hK hF => ?_⟩, ⟨trivial, fun A u hK hF => ?_⟩, ⟨trivial, fun A u hK hF => ?_⟩, ⟨trivial, fun A u hK hF => ?_⟩, ⟨trivial, fun A u hK hF => ?_⟩, ⟨trivial, fun A u hK hF => ?_⟩, ⟨trivial, fun A u hK hF => ?_⟩, ⟨trivial, fun A u hK hF => ?_⟩, ⟨trivial, fun A u hK hF => ?_⟩, ⟨trivial, fun A u hK hF => ?_⟩, trivial⟩
    · have f3 : A.tmps[3]?.getD undef = .pointer (some ⟨gc, 0, none⟩) := fact_none (hF 3) (by kernel_rfl)
      refine Gives.no ?_ rfl
      unfold Gives
      rw [run_load (.tmp 3) rfl (by rw [← f3]; simp [Act.eval]) (loadAt_case (Blk.keep HC.out hK))]
      exact gives_val (Below.refl _ _) rfl
    · have f2 : A.tmps[2]?.getD undef = .pointer (some ⟨ge, 0, none⟩) := fact_none (hF 2) (by kernel_rfl)
      refine Gives.no ?_ rfl
      unfold Gives
      go_simp
      exact gives_val (Below.refl _ _) rfl
    · have f27 : A.tmps[27]?.getD undef = .pointer (some ⟨ge, 1, none⟩) := fact_some (hF 27) (j := 1) (by kernel_rfl) (by kernel_rfl)
      obtain ⟨y0, y1, y2, y3, y4, y5, y6, y7, y8, y9⟩ := (HX1.out.keep (Below.block hK ge HG1.out)).cells
      refine Gives.no ?_ rfl
      unfold Gives
      go_simp
      exact gives_val (Below.refl _ _) rfl
    · have f26 : A.tmps[26]?.getD undef = .agg #[.int .i64 c.c1.u, .int .i64 c.c1.ro, .int .i64 c.c1.ty, .int .i64 c.c1.lo.s, .int .u64 c.c1.lo.c, .int .i64 c.c1.hi.s, .int .u64 c.c1.hi.c, .int .i64 c.c2.u, .int .i64 c.c2.ro, .int .i64 c.c2.ty, .int .i64 c.c2.lo.s, .int .u64 c.c2.lo.c, .int .i64 c.c2.hi.s, .int .u64 c.c2.hi.c, .int .i64 c.c3.u, .int .i64 c.c3.ro, .int .i64 c.c3.ty, .int .i64 c.c3.lo.s, .int .u64 c.c3.lo.c, .int .i64 c.c3.hi.s, .int .u64 c.c3.hi.c] := fact_some (hF 26) (j := 0) (by kernel_rfl) (by kernel_rfl)
      have f28 : A.tmps[28]?.getD undef = .int .i64 na := fact_some (hF 28) (j := 2) (by kernel_rfl) (by kernel_rfl)
      refine Gives.no ?_ rfl
      unfold Gives
      go_simp
      exact gives_enter (((HNA).out u).mono fun e w2 ⟨he, hb⟩ => ⟨_, he, hb, rfl⟩)
    · have f3 : A.tmps[3]?.getD undef = .pointer (some ⟨gc, 0, none⟩) := fact_none (hF 3) (by kernel_rfl)
      refine Gives.no ?_ rfl
      unfold Gives
      rw [run_load (.tmp 3) rfl (by rw [← f3]; simp [Act.eval]) (loadAt_case (Blk.keep HC.out hK))]
      exact gives_val (Below.refl _ _) rfl
    · have f2 : A.tmps[2]?.getD undef = .pointer (some ⟨ge, 0, none⟩) := fact_none (hF 2) (by kernel_rfl)
      refine Gives.no ?_ rfl
      unfold Gives
      go_simp
      exact gives_val (Below.refl _ _) rfl
    · have f31 : A.tmps[31]?.getD undef = .pointer (some ⟨ge, 3, none⟩) := fact_some (hF 31) (j := 5) (by kernel_rfl) (by kernel_rfl)
      obtain ⟨y0, y1, y2, y3, y4, y5, y6, y7, y8, y9⟩ := (HX1.out.keep (Below.block hK ge HG1.out)).cells
      refine Gives.no ?_ rfl
      unfold Gives
      go_simp
      exact gives_val (Below.refl _ _) rfl
    · have f30 : A.tmps[30]?.getD undef = .agg #[.int .i64 c.c1.u, .int .i64 c.c1.ro, .int .i64 c.c1.ty, .int .i64 c.c1.lo.s, .int .u64 c.c1.lo.c, .int .i64 c.c1.hi.s, .int .u64 c.c1.hi.c, .int .i64 c.c2.u, .int .i64 c.c2.ro, .int .i64 c.c2.ty, .int .i64 c.c2.lo.s, .int .u64 c.c2.lo.c, .int .i64 c.c2.hi.s, .int .u64 c.c2.hi.c, .int .i64 c.c3.u, .int .i64 c.c3.ro, .int .i64 c.c3.ty, .int .i64 c.c3.lo.s, .int .u64 c.c3.lo.c, .int .i64 c.c3.hi.s, .int .u64 c.c3.hi.c] := fact_some (hF 30) (j := 4) (by kernel_rfl) (by kernel_rfl)
      have f32 : A.tmps[32]?.getD undef = .int .i64 nb := fact_some (hF 32) (j := 6) (by kernel_rfl) (by kernel_rfl)
      refine Gives.no ?_ rfl
      unfold Gives
      go_simp
      exact gives_enter (((HNB).out u).mono fun e w2 ⟨he, hb⟩ => ⟨_, he, hb, rfl⟩)
    · unfold Gives
      go_simp
      refine gives_box2 (φ := cpPhi c ge na nb la la w1 8) ?_
      exact ⟨_, rfl, hK.size, Blk.new _ _ _⟩
    · unfold Gives
      go_simp
      refine gives_box2 (φ := cpPhi c ge na nb la la w1 9) ?_
      exact ⟨_, rfl, hK.size, Blk.new _ _ _⟩
  intro a0 W2 hC hsz hdf hF hN
  have ha := end_mask [false, false, false, false, false, true, true, false, false, false, false, false, false, false, false, false, false, false, false, false, false, false, false, false, false, false, true, true, true, true, true, true, true, true, false, false, false, false, false, false, false, false, false, false, false, false, false, false, false, false, false, false, false, false, false, false, false, false, false, false, false, false, false, false] hsz hdf hF (by kernel_rfl)
  have f29 : a0.tmps[29]?.getD undef = .agg #[.int .i64 la.s, .int .u64 la.c] := fact_end (hF 29) (j := 3) (by kernel_rfl)
  have f33 : a0.tmps[33]?.getD undef = .agg #[.int .i64 la.s, .int .u64 la.c] := fact_end (hF 33) (j := 7) (by kernel_rfl)
  obtain ⟨g5, f5, hg5, hb5⟩ : ∃ g, a0.tmps[5]?.getD undef = .pointer (some ⟨g, 0, none⟩) ∧ w1.heap.size ≤ g ∧ Blk W2 g 30 #[.int .i64 0, .int .u64 0] := fact_end (hF 5) (j := 8) (by kernel_rfl)
  obtain ⟨g6, f6, hg6, hb6⟩ : ∃ g, a0.tmps[6]?.getD undef = .pointer (some ⟨g, 0, none⟩) ∧ w1.heap.size ≤ g ∧ Blk W2 g 30 #[.int .i64 0, .int .u64 0] := fact_end (hF 6) (j := 9) (by kernel_rfl)
  have hne : g6 ≠ g5 := fun e => hN 8 9 5 6 (by decide) rfl rfl (by kernel_rfl) (by kernel_rfl) (by rw [f5, f6, e])
  rw [ha]
  clear ha hF hN
  simp only [cutM_yes, cutM_no, cutM_nil, Nat.reduceAdd]
  rw [f29, f33, f5, f6]
  clear f29 f33 f5 f6
  generalize a0.tmps[26]?.getD undef = s26
  generalize a0.tmps[27]?.getD undef = s27
  generalize a0.tmps[28]?.getD undef = s28
  generalize a0.tmps[30]?.getD undef = s30
  generalize a0.tmps[31]?.getD undef = s31
  generalize a0.tmps[32]?.getD undef = s32
  clear hsz hdf
  refine wpList_store_row (by rfl) _ _ rfl rfl (by rfl) [.int .i64 la.s, .int .u64 la.c] (.agg #[.int .i64 la.s, .int .u64 la.c]) (by rfl) rfl (size_lv _) hb5 rfl (by intro x hx; simp only [List.mem_cons, List.not_mem_nil, or_false] at hx; rcases hx with rfl | rfl <;> rfl) ?_
  refine wpList_store_row (by rfl) _ _ rfl rfl (by rfl) [.int .i64 la.s, .int .u64 la.c] (.agg #[.int .i64 la.s, .int .u64 la.c]) (by rfl) rfl (size_lv _) (hb6.other hne _) rfl (by intro x hx; simp only [List.mem_cons, List.not_mem_nil, or_false] at hx; rcases hx with rfl | rfl <;> rfl) ?_
  have HL5 : Hid (Blk ((W2.setRow g5 [.int .i64 la.s, .int .u64 la.c].toArray).setRow g6 [.int .i64 la.s, .int .u64 la.c].toArray) g5 30 #[.int .i64 la.s, .int .u64 la.c]) := Lib.hid ((hb5.row _).other (Ne.symm hne) _)
  have HL6 : Hid (Blk ((W2.setRow g5 [.int .i64 la.s, .int .u64 la.c].toArray).setRow g6 [.int .i64 la.s, .int .u64 la.c].toArray) g6 30 #[.int .i64 la.s, .int .u64 la.c]) := Lib.hid ((hb6.other hne _).row _)
  have HBW : Hid (Below w1.heap.size w1 ((W2.setRow g5 [.int .i64 la.s, .int .u64 la.c].toArray).setRow g6 [.int .i64 la.s, .int .u64 la.c].toArray)) := Lib.hid (below_row (below_row hC hg5 _) hg6 _)
  generalize (W2.setRow g5 [.int .i64 la.s, .int .u64 la.c].toArray).setRow g6 [.int .i64 la.s, .int .u64 la.c].toArray = W3 at *
  clear hC hb5 hb6 hg5 hg6 hne
  have HX3 := Lib.hid (HX1.out.keep (HBW.out.block ge HG1.out))
  have HG3 := Lib.hid (Nat.lt_of_lt_of_le HG1.out HBW.out.size)
  have HB3 := Lib.hid (HB1.out.trans (HBW.out.mono (Nat.le_of_lt HG1.out)))
  clear HX1 HG1 HB1 HBW HC
  have HD1 := Lib.hid (rdomX_c la la)
  have HD2 := Lib.hid (rdomX_c la la)
  go_upto_region 4 with fail
  refine wp_region_kp (by kernel_rfl) (by kernel_rfl) ?_
  repeat (first
      | go_big_quiet_skip
      | (go_big_quiet_want
         go_big_quiet_op
         first
           | go_big_quiet_on
           | (apply Exists.intro
              refine ⟨fun w1 hC => ?_, ?_⟩
              · first
                  | (go_at_call 62; with_reducible first | exact hC.call (HD1.out _) | exact hC.call (HD2.out _))
                  | (have m5 := (hC.blk HL5.out).cell; have a0 := m5 0; have a1 := m5 1; have m6 := (hC.blk HL6.out).cell; have b0 := m6 0; have b1 := m6 1; clear m5 m6; go_simp; exact rfl)
                  | (go_simp; exact ⟨rfl, rfl⟩)
              go_big_quiet_on)))
  refine wpQuiet_nil ?_
  intro W4 hC
  have HCC := Lib.hid (HB3.out.trans (hC.mono (Nat.le_of_lt HG3.out)))
  have HX4 := Lib.hid (HX3.out.keep (Below.block hC ge HG3.out))
  have HL54 := Lib.hid (hC.blk HL5.out)
  have HL64 := Lib.hid (hC.blk HL6.out)
  clear hC HX3 HG3 HB3 HL5 HL6 HD1 HD2
  go_upto_region 5 with fail
  obtain ⟨y0, y1, y2, y3, y4, y5, y6, y7, y8, y9⟩ := HX4.out.cells
  clear y0 y1 y3 y4 y5 y6 y7 y8 y9
  have a0 := HL54.out.cell 0
  have a1 := HL54.out.cell 1
  have b0 := HL64.out.cell 0
  have b1 := HL64.out.cell 1
  go_wp2_with fail
  go_ret
  exact ⟨rfl, by first | exact HCC.out | (rw [hge]; exact HCC.out)⟩
set_option maxRecDepth 100000 in
set_option maxHeartbeats 16000000 in
theorem rcl_0d (op r : Int) (st : S4) (ao ak : Option Addr) (n1 n2 cap ck na nb : Nat) (c : Ca) (la lb : Lv) (hs : sortA na = 3) (hr : r = 0) (hss : (la.s == lb.s) = false) (HLA : ∀ W, Calls Try.prog 61 #[.agg #[.int .i64 c.c1.u, .int .i64 c.c1.ro, .int .i64 c.c1.ty, .int .i64 c.c1.lo.s, .int .u64 c.c1.lo.c, .int .i64 c.c1.hi.s, .int .u64 c.c1.hi.c, .int .i64 c.c2.u, .int .i64 c.c2.ro, .int .i64 c.c2.ty, .int .i64 c.c2.lo.s, .int .u64 c.c2.lo.c, .int .i64 c.c2.hi.s, .int .u64 c.c2.hi.c, .int .i64 c.c3.u, .int .i64 c.c3.ro, .int .i64 c.c3.ty, .int .i64 c.c3.lo.s, .int .u64 c.c3.lo.c, .int .i64 c.c3.hi.s, .int .u64 c.c3.hi.c], .int .i64 na] W fun e w' => e = .returned (.agg #[.int .i64 la.s, .int .u64 la.c]) ∧ Below W.heap.size W w') (HLB : ∀ W, Calls Try.prog 61 #[.agg #[.int .i64 c.c1.u, .int .i64 c.c1.ro, .int .i64 c.c1.ty, .int .i64 c.c1.lo.s, .int .u64 c.c1.lo.c, .int .i64 c.c1.hi.s, .int .u64 c.c1.hi.c, .int .i64 c.c2.u, .int .i64 c.c2.ro, .int .i64 c.c2.ty, .int .i64 c.c2.lo.s, .int .u64 c.c2.lo.c, .int .i64 c.c2.hi.s, .int .u64 c.c2.hi.c, .int .i64 c.c3.u, .int .i64 c.c3.ro, .int .i64 c.c3.ty, .int .i64 c.c3.lo.s, .int .u64 c.c3.lo.c, .int .i64 c.c3.hi.s, .int .u64 c.c3.hi.c], .int .i64 nb] W fun e w' => e = .returned (.agg #[.int .i64 lb.s, .int .u64 lb.c]) ∧ Below W.heap.size W w') (w : World) :
    Calls Try.prog 39 #[.agg #[.int .i64 op, .int .i64 na, .int .i64 r, .int .i64 nb, .slice ao n1 cap, .int .u64 st.a, .int .u64 st.b, .int .u64 st.c, .int .u64 st.d, .slice ak n2 ck], .agg #[.int .i64 c.c1.u, .int .i64 c.c1.ro, .int .i64 c.c1.ty, .int .i64 c.c1.lo.s, .int .u64 c.c1.lo.c, .int .i64 c.c1.hi.s, .int .u64 c.c1.hi.c, .int .i64 c.c2.u, .int .i64 c.c2.ro, .int .i64 c.c2.ty, .int .i64 c.c2.lo.s, .int .u64 c.c2.lo.c, .int .i64 c.c2.hi.s, .int .u64 c.c2.hi.c, .int .i64 c.c3.u, .int .i64 c.c3.ro, .int .i64 c.c3.ty, .int .i64 c.c3.lo.s, .int .u64 c.c3.lo.c, .int .i64 c.c3.hi.s, .int .u64 c.c3.hi.c]] w fun e w' => e = .returned (.bool (false)) ∧ Below w.heap.size w w' := by
  have q0 : (r == 0) = true := by simp; omega
  have q1 : (r == 1) = false := by simp; omega
  have q2 : (r == 2) = false := by simp; omega
  have q3 : (r == 3) = false := by simp; omega
  clear hr
  have HSO := Lib.hid (rsort_c na)
  have p3' : (sortA na != 3) = false := by simpa using hs
  have HNA := Lib.hid HLA
  have HNB := Lib.hid HLB
  generalize sortA na = sa at *
  have HXC : Hid (XC ((w.alloc (.cells #[.int .i64 op, .int .i64 na, .int .i64 r, .int .i64 nb, .slice ao n1 cap, .int .u64 st.a, .int .u64 st.b, .int .u64 st.c, .int .u64 st.d, .slice ak n2 ck] 28)).alloc (.cells #[.int .i64 c.c1.u, .int .i64 c.c1.ro, .int .i64 c.c1.ty, .int .i64 c.c1.lo.s, .int .u64 c.c1.lo.c, .int .i64 c.c1.hi.s, .int .u64 c.c1.hi.c, .int .i64 c.c2.u, .int .i64 c.c2.ro, .int .i64 c.c2.ty, .int .i64 c.c2.lo.s, .int .u64 c.c2.lo.c, .int .i64 c.c2.hi.s, .int .u64 c.c2.hi.c, .int .i64 c.c3.u, .int .i64 c.c3.ro, .int .i64 c.c3.ty, .int .i64 c.c3.lo.s, .int .u64 c.c3.lo.c, .int .i64 c.c3.hi.s, .int .u64 c.c3.hi.c] 36)) w.heap.size 0 op na r nb ao n1 cap st ak n2 ck) := Lib.hid (XC.of_blk ((Blk.new w _ _).alloc _))
  have HC0 : Hid (Blk ((w.alloc (.cells #[.int .i64 op, .int .i64 na, .int .i64 r, .int .i64 nb, .slice ao n1 cap, .int .u64 st.a, .int .u64 st.b, .int .u64 st.c, .int .u64 st.d, .slice ak n2 ck] 28)).alloc (.cells #[.int .i64 c.c1.u, .int .i64 c.c1.ro, .int .i64 c.c1.ty, .int .i64 c.c1.lo.s, .int .u64 c.c1.lo.c, .int .i64 c.c1.hi.s, .int .u64 c.c1.hi.c, .int .i64 c.c2.u, .int .i64 c.c2.ro, .int .i64 c.c2.ty, .int .i64 c.c2.lo.s, .int .u64 c.c2.lo.c, .int .i64 c.c2.hi.s, .int .u64 c.c2.hi.c, .int .i64 c.c3.u, .int .i64 c.c3.ro, .int .i64 c.c3.ty, .int .i64 c.c3.lo.s, .int .u64 c.c3.lo.c, .int .i64 c.c3.hi.s, .int .u64 c.c3.hi.c] 36)) (w.heap.size + 1) 36 #[.int .i64 c.c1.u, .int .i64 c.c1.ro, .int .i64 c.c1.ty, .int .i64 c.c1.lo.s, .int .u64 c.c1.lo.c, .int .i64 c.c1.hi.s, .int .u64 c.c1.hi.c, .int .i64 c.c2.u, .int .i64 c.c2.ro, .int .i64 c.c2.ty, .int .i64 c.c2.lo.s, .int .u64 c.c2.lo.c, .int .i64 c.c2.hi.s, .int .u64 c.c2.hi.c, .int .i64 c.c3.u, .int .i64 c.c3.ro, .int .i64 c.c3.ty, .int .i64 c.c3.lo.s, .int .u64 c.c3.lo.c, .int .i64 c.c3.hi.s, .int .u64 c.c3.hi.c]) := Lib.hid (two_new' _ _ _ _)
  have HB : Hid (Below w.heap.size w ((w.alloc (.cells #[.int .i64 op, .int .i64 na, .int .i64 r, .int .i64 nb, .slice ao n1 cap, .int .u64 st.a, .int .u64 st.b, .int .u64 st.c, .int .u64 st.d, .slice ak n2 ck] 28)).alloc (.cells #[.int .i64 c.c1.u, .int .i64 c.c1.ro, .int .i64 c.c1.ty, .int .i64 c.c1.lo.s, .int .u64 c.c1.lo.c, .int .i64 c.c1.hi.s, .int .u64 c.c1.hi.c, .int .i64 c.c2.u, .int .i64 c.c2.ro, .int .i64 c.c2.ty, .int .i64 c.c2.lo.s, .int .u64 c.c2.lo.c, .int .i64 c.c2.hi.s, .int .u64 c.c2.hi.c, .int .i64 c.c3.u, .int .i64 c.c3.ro, .int .i64 c.c3.ty, .int .i64 c.c3.lo.s, .int .u64 c.c3.lo.c, .int .i64 c.c3.hi.s, .int .u64 c.c3.hi.c] 36))) := Lib.hid (((Below.refl _ _).alloc (Nat.le_refl _) _).alloc (by simp) _)
  have HG : Hid (w.heap.size < ((w.alloc (.cells #[.int .i64 op, .int .i64 na, .int .i64 r, .int .i64 nb, .slice ao n1 cap, .int .u64 st.a, .int .u64 st.b, .int .u64 st.c, .int .u64 st.d, .slice ak n2 ck] 28)).alloc (.cells #[.int .i64 c.c1.u, .int .i64 c.c1.ro, .int .i64 c.c1.ty, .int .i64 c.c1.lo.s, .int .u64 c.c1.lo.c, .int .i64 c.c1.hi.s, .int .u64 c.c1.hi.c, .int .i64 c.c2.u, .int .i64 c.c2.ro, .int .i64 c.c2.ty, .int .i64 c.c2.lo.s, .int .u64 c.c2.lo.c, .int .i64 c.c2.hi.s, .int .u64 c.c2.hi.c, .int .i64 c.c3.u, .int .i64 c.c3.ro, .int .i64 c.c3.ty, .int .i64 c.c3.lo.s, .int .u64 c.c3.lo.c, .int .i64 c.c3.hi.s, .int .u64 c.c3.hi.c] 36)).heap.size) := Lib.hid (by simp; omega)
  clear hs HLA HLB
  go_enter Try.func39, Try.ntmps39
  go_upto_region 1 with fail
  generalize (w.alloc (.cells #[.int .i64 op, .int .i64 na, .int .i64 r, .int .i64 nb, .slice ao n1 cap, .int .u64 st.a, .int .u64 st.b, .int .u64 st.c, .int .u64 st.d, .slice ak n2 ck] 28)).alloc (.cells #[.int .i64 c.c1.u, .int .i64 c.c1.ro, .int .i64 c.c1.ty, .int .i64 c.c1.lo.s, .int .u64 c.c1.lo.c, .int .i64 c.c1.hi.s, .int .u64 c.c1.hi.c, .int .i64 c.c2.u, .int .i64 c.c2.ro, .int .i64 c.c2.ty, .int .i64 c.c2.lo.s, .int .u64 c.c2.lo.c, .int .i64 c.c2.hi.s, .int .u64 c.c2.hi.c, .int .i64 c.c3.u, .int .i64 c.c3.ro, .int .i64 c.c3.ty, .int .i64 c.c3.lo.s, .int .u64 c.c3.lo.c, .int .i64 c.c3.hi.s, .int .u64 c.c3.hi.c] 36) = W at *
  have HLE : Hid (w.heap.size ≤ W.heap.size) := Lib.hid HB.out.size
  generalize w.heap.size + 1 = gc at *
  generalize hge : w.heap.size = ge at *
  obtain ⟨y0, y1, y2, y3, y4, y5, y6, y7, y8, y9⟩ := HXC.out.cells
  go_upto_region 3 with (go_at_call 43; (with_reducible refine (HSO.out _).mono ?_); rintro e w1 ⟨rfl, hb1⟩; have HB1 := Lib.hid (HB.out.trans (hb1.mono HLE.out)); have HX1 := Lib.hid (HXC.out.keep (hb1.block ge HG.out)); have HG1 := Lib.hid (Nat.lt_of_lt_of_le HG.out hb1.size); have HC := Lib.hid (HC0.out.keep hb1); clear hb1)
  clear HXC HC0 HB HG HLE y0 y1 y2 y3 y4 y5 y6 y7 y8 y9
  refine wp_region_phis 10 (cpPhi c ge na nb la lb w1) (fun i => i == 8 || i == 9) (by kernel_rfl) (by decide) (by kernel_rfl) (by kernel_rfl) (by kernel_rfl) (fun k v u u2 h hb => cpPhi_keep h hb) ?_ ?_
  · refine ⟨⟨trivial, fun A u hK hF => ?_⟩, ⟨trivial, fun A u hK hF => ?_⟩, ⟨trivial, fun A u hK hF => ?_⟩, ⟨trivial, fun A u hK hF => ?_⟩, ⟨trivial, fun A u hK hF => ?_⟩, ⟨trivial, fun A u hK hF => ?_⟩, ⟨trivial, fun A u hK hF => ?_⟩, ⟨trivial, fun A u hK hF => ?_⟩, ⟨trivial, fun A u hK hF => ?_⟩, ⟨trivial, fun A u hK hF => ?_⟩, trivial⟩
    · have f3 : A.tmps[3]?.getD undef = .pointer (some ⟨gc, 0, none⟩) := fact_none (hF 3) (by kernel_rfl)
      refine Gives.no ?_ rfl
      unfold Gives
      rw [run_load (.tmp 3) rfl (by rw [← f3]; simp [Act.eval]) (loadAt_case (Blk.keep HC.out hK))]
      exact gives_val (Below.refl _ _) rfl
    · have f2 : A.tmps[2]?.getD undef = .pointer (some ⟨ge, 0, none⟩) := fact_none (hF 2) (by kernel_rfl)
      refine Gives.no ?_ rfl
      unfold Gives
      go_simp
      exact gives_val (Below.refl _ _) rfl
    · have f27 : A.tmps[27]?.getD undef = .pointer (some ⟨ge, 1, none⟩) := fact_some (hF 27) (j := 1) (by kernel_rfl) (by kernel_rfl)
      obtain ⟨y0, y1, y2, y3, y4, y5, y6, y7, y8, y9⟩ := (HX1.out.keep (Below.block hK ge HG1.out)).cells
      refine Gives.no ?_ rfl
      unfold Gives
      go_simp
      exact gives_val (Below.refl _ _) rfl
    · have f26 : A.tmps[26]?.getD undef = .agg #[.int .i64 c.c1.u, .int .i64 c.c1.ro, .int .i64 c.c1.ty, .int .i64 c.c1.lo.s, .int .u64 c.c1.lo.c, .int .i64 c.c1.hi.s, .int .u64 c.c1.hi.c, .int .i64 c.c2.u, .int .i64 c.c2.ro, .int .i64 c.c2.ty, .int .i64 c.c2.lo.s, .int .u64 c.c2.lo.c, .int .i64 c.c2.hi.s, .int .u64 c.c2.hi.c, .int .i64 c.c3.u, .int .i64 c.c3.ro, .int .i64 c.c3.ty, .int .i64 c.c3.lo.s, .int .u64 c.c3.lo.c, .int .i64 c.c3.hi.s, .int .u64 c.c3.hi.c] := fact_some (hF 26) (j := 0) (by kernel_rfl) (by kernel_rfl)
      have f28 : A.tmps[28]?.getD undef = .int .i64 na := fact_some (hF 28) (j := 2) (by kernel_rfl) (by kernel_rfl)
      refine Gives.no ?_ rfl
      unfold Gives
      go_simp
      exact gives_enter (((HNA).out u).mono fun e w2 ⟨he, hb⟩ => ⟨_, he, hb, rfl⟩)
    · have f3 : A.tmps[3]?.getD undef = .pointer (some ⟨gc, 0, none⟩) := fact_none (hF 3) (by kernel_rfl)
      refine Gives.no ?_ rfl
      unfold Gives
      rw [run_load (.tmp 3) rfl (by rw [← f3]; simp [Act.eval]) (loadAt_case (Blk.keep HC.out hK))]
      exact gives_val (Below.refl _ _) rfl
    · have f2 : A.tmps[2]?.getD undef = .pointer (some ⟨ge, 0, none⟩) := fact_none (hF 2) (by kernel_rfl)
      refine Gives.no ?_ rfl
      unfold Gives
      go_simp
      exact gives_val (Below.refl _ _) rfl
    · have f31 : A.tmps[31]?.getD undef = .pointer (some ⟨ge, 3, none⟩) := fact_some (hF 31) (j := 5) (by kernel_rfl) (by kernel_rfl)
      obtain ⟨y0, y1, y2, y3, y4, y5, y6, y7, y8, y9⟩ := (HX1.out.keep (Below.block hK ge HG1.out)).cells
      refine Gives.no ?_ rfl
      unfold Gives
      go_simp
      exact gives_val (Below.refl _ _) rfl
    · have f30 : A.tmps[30]?.getD undef = .agg #[.int .i64 c.c1.u, .int .i64 c.c1.ro, .int .i64 c.c1.ty, .int .i64 c.c1.lo.s, .int .u64 c.c1.lo.c, .int .i64 c.c1.hi.s, .int .u64 c.c1.hi.c, .int .i64 c.c2.u, .int .i64 c.c2.ro, .int .i64 c.c2.ty, .int .i64 c.c2.lo.s, .int .u64 c.c2.lo.c, .int .i64 c.c2.hi.s, .int .u64 c.c2.hi.c, .int .i64 c.c3.u, .int .i64 c.c3.ro, .int .i64 c.c3.ty, .int .i64 c.c3.lo.s, .int .u64 c.c3.lo.c, .int .i64 c.c3.hi.s, .int .u64 c.c3.hi.c] := fact_some (hF 30) (j := 4) (by kernel_rfl) (by kernel_rfl)
      have f32 : A.tmps[32]?.getD undef = .int .i64 nb := fact_some (hF 32) (j := 6) (by kernel_rfl) (by kernel_rfl)
      refine Gives.no ?_ rfl
      unfold Gives
      go_simp
      exact gives_enter (((HNB).out u).mono fun e w2 ⟨he, hb⟩ => ⟨_, he, hb, rfl⟩)
    · unfold Gives
      go_simp
      refine gives_box2 (φ := cpPhi c ge na nb la lb w1 8) ?_
      exact ⟨_, rfl, hK.size, Blk.new _ _ _⟩
    · unfold Gives
      go_simp
      refine gives_box2 (φ := cpPhi c ge na nb la lb w1 9) ?_
      exact ⟨_, rfl, hK.size, Blk.new _ _ _⟩
  intro a0 W2 hC hsz hdf hF hN
  have ha := end_mask [false, false, false, false, false, true, true, false, false, false, false, false, false, false, false, false, false, false, false, false, false, false, false, false, false, false, true, true, true, true, true, true, true, true, false, false, false, false, false, false, false, false, false, false, false, false, false, false, false, false, false, false, false, false, false, false, false, false, false, false, false, false, false, false] hsz hdf hF (by kernel_rfl)
  have f29 : a0.tmps[29]?.getD undef = .agg #[.int .i64 la.s, .int .u64 la.c] := fact_end (hF 29) (j := 3) (by kernel_rfl)
  have f33 : a0.tmps[33]?.getD undef = .agg #[.int .i64 lb.s, .int .u64 lb.c] := fact_end (hF 33) (j := 7) (by kernel_rfl)
  obtain ⟨g5, f5, hg5, hb5⟩ : ∃ g, a0.tmps[5]?.getD undef = .pointer (some ⟨g, 0, none⟩) ∧ w1.heap.size ≤ g ∧ Blk W2 g 30 #[.int .i64 0, .int .u64 0] := fact_end (hF 5) (j := 8) (by kernel_rfl)
  obtain ⟨g6, f6, hg6, hb6⟩ : ∃ g, a0.tmps[6]?.getD undef = .pointer (some ⟨g, 0, none⟩) ∧ w1.heap.size ≤ g ∧ Blk W2 g 30 #[.int .i64 0, .int .u64 0] := fact_end (hF 6) (j := 9) (by kernel_rfl)
  have hne : g6 ≠ g5 := fun e => hN 8 9 5 6 (by decide) rfl rfl (by kernel_rfl) (by kernel_rfl) (by rw [f5, f6, e])
  rw [ha]
  clear ha hF hN
  simp only [cutM_yes, cutM_no, cutM_nil, Nat.reduceAdd]
  rw [f29, f33, f5, f6]
  clear f29 f33 f5 f6
  generalize a0.tmps[26]?.getD undef = s26
  generalize a0.tmps[27]?.getD undef = s27
  generalize a0.tmps[28]?.getD undef = s28
  generalize a0.tmps[30]?.getD undef = s30
  generalize a0.tmps[31]?.getD undef = s31
  generalize a0.tmps[32]?.getD undef = s32
  clear hsz hdf
  refine wpList_store_row (by rfl) _ _ rfl rfl (by rfl) [.int .i64 la.s, .int .u64 la.c] (.agg #[.int .i64 la.s, .int .u64 la.c]) (by rfl) rfl (size_lv _) hb5 rfl (by intro x hx; simp only [List.mem_cons, List.not_mem_nil, or_false] at hx; rcases hx with rfl | rfl <;> rfl) ?_
  refine wpList_store_row (by rfl) _ _ rfl rfl (by rfl) [.int .i64 lb.s, .int .u64 lb.c] (.agg #[.int .i64 lb.s, .int .u64 lb.c]) (by rfl) rfl (size_lv _) (hb6.other hne _) rfl (by intro x hx; simp only [List.mem_cons, List.not_mem_nil, or_false] at hx; rcases hx with rfl | rfl <;> rfl) ?_
  have HL5 : Hid (Blk ((W2.setRow g5 [.int .i64 la.s, .int .u64 la.c].toArray).setRow g6 [.int .i64 lb.s, .int .u64 lb.c].toArray) g5 30 #[.int .i64 la.s, .int .u64 la.c]) := Lib.hid ((hb5.row _).other (Ne.symm hne) _)
  have HL6 : Hid (Blk ((W2.setRow g5 [.int .i64 la.s, .int .u64 la.c].toArray).setRow g6 [.int .i64 lb.s, .int .u64 lb.c].toArray) g6 30 #[.int .i64 lb.s, .int .u64 lb.c]) := Lib.hid ((hb6.other hne _).row _)
  have HBW : Hid (Below w1.heap.size w1 ((W2.setRow g5 [.int .i64 la.s, .int .u64 la.c].toArray).setRow g6 [.int .i64 lb.s, .int .u64 lb.c].toArray)) := Lib.hid (below_row (below_row hC hg5 _) hg6 _)
  generalize (W2.setRow g5 [.int .i64 la.s, .int .u64 la.c].toArray).setRow g6 [.int .i64 lb.s, .int .u64 lb.c].toArray = W3 at *
  clear hC hb5 hb6 hg5 hg6 hne
  have HX3 := Lib.hid (HX1.out.keep (HBW.out.block ge HG1.out))
  have HG3 := Lib.hid (Nat.lt_of_lt_of_le HG1.out HBW.out.size)
  have HB3 := Lib.hid (HB1.out.trans (HBW.out.mono (Nat.le_of_lt HG1.out)))
  clear HX1 HG1 HB1 HBW HC
  have HD1 := Lib.hid (rdomX_c la lb)
  have HD2 := Lib.hid (rdomX_c lb la)
  go_upto_region 4 with fail
  refine wp_region_kp (by kernel_rfl) (by kernel_rfl) ?_
  repeat (first
      | go_big_quiet_skip
      | (go_big_quiet_want
         go_big_quiet_op
         first
           | go_big_quiet_on
           | (apply Exists.intro
              refine ⟨fun w1 hC => ?_, ?_⟩
              · first
                  | (go_at_call 62; with_reducible first | exact hC.call (HD1.out _) | exact hC.call (HD2.out _))
                  | (have m5 := (hC.blk HL5.out).cell; have a0 := m5 0; have a1 := m5 1; have m6 := (hC.blk HL6.out).cell; have b0 := m6 0; have b1 := m6 1; clear m5 m6; go_simp; exact rfl)
                  | (go_simp; exact ⟨rfl, rfl⟩)
              go_big_quiet_on)))
  refine wpQuiet_nil ?_
  intro W4 hC
  have HCC := Lib.hid (HB3.out.trans (hC.mono (Nat.le_of_lt HG3.out)))
  have HX4 := Lib.hid (HX3.out.keep (Below.block hC ge HG3.out))
  have HL54 := Lib.hid (hC.blk HL5.out)
  have HL64 := Lib.hid (hC.blk HL6.out)
  clear hC HX3 HG3 HB3 HL5 HL6 HD1 HD2
  go_upto_region 5 with fail
  obtain ⟨y0, y1, y2, y3, y4, y5, y6, y7, y8, y9⟩ := HX4.out.cells
  clear y0 y1 y3 y4 y5 y6 y7 y8 y9
  have a0 := HL54.out.cell 0
  have a1 := HL54.out.cell 1
  have b0 := HL64.out.cell 0
  have b1 := HL64.out.cell 1
  go_wp2_with fail
  go_ret
  exact ⟨rfl, by first | exact HCC.out | (rw [hge]; exact HCC.out)⟩
set_option maxRecDepth 100000 in
set_option maxHeartbeats 16000000 in
theorem rcl_0c (op r : Int) (st : S4) (ao ak : Option Addr) (n1 n2 cap ck na nb : Nat) (c : Ca) (la lb : Lv) (hs : sortA na = 3) (hr : r = 0) (hss : (la.s == lb.s) = true) (hcc : ((la.c : Int) == (lb.c : Int)) = false) (HLA : ∀ W, Calls Try.prog 61 #[.agg #[.int .i64 c.c1.u, .int .i64 c.c1.ro, .int .i64 c.c1.ty, .int .i64 c.c1.lo.s, .int .u64 c.c1.lo.c, .int .i64 c.c1.hi.s, .int .u64 c.c1.hi.c, .int .i64 c.c2.u, .int .i64 c.c2.ro, .int .i64 c.c2.ty, .int .i64 c.c2.lo.s, .int .u64 c.c2.lo.c, .int .i64 c.c2.hi.s, .int .u64 c.c2.hi.c, .int .i64 c.c3.u, .int .i64 c.c3.ro, .int .i64 c.c3.ty, .int .i64 c.c3.lo.s, .int .u64 c.c3.lo.c, .int .i64 c.c3.hi.s, .int .u64 c.c3.hi.c], .int .i64 na] W fun e w' => e = .returned (.agg #[.int .i64 la.s, .int .u64 la.c]) ∧ Below W.heap.size W w') (HLB : ∀ W, Calls Try.prog 61 #[.agg #[.int .i64 c.c1.u, .int .i64 c.c1.ro, .int .i64 c.c1.ty, .int .i64 c.c1.lo.s, .int .u64 c.c1.lo.c, .int .i64 c.c1.hi.s, .int .u64 c.c1.hi.c, .int .i64 c.c2.u, .int .i64 c.c2.ro, .int .i64 c.c2.ty, .int .i64 c.c2.lo.s, .int .u64 c.c2.lo.c, .int .i64 c.c2.hi.s, .int .u64 c.c2.hi.c, .int .i64 c.c3.u, .int .i64 c.c3.ro, .int .i64 c.c3.ty, .int .i64 c.c3.lo.s, .int .u64 c.c3.lo.c, .int .i64 c.c3.hi.s, .int .u64 c.c3.hi.c], .int .i64 nb] W fun e w' => e = .returned (.agg #[.int .i64 lb.s, .int .u64 lb.c]) ∧ Below W.heap.size W w') (w : World) :
    Calls Try.prog 39 #[.agg #[.int .i64 op, .int .i64 na, .int .i64 r, .int .i64 nb, .slice ao n1 cap, .int .u64 st.a, .int .u64 st.b, .int .u64 st.c, .int .u64 st.d, .slice ak n2 ck], .agg #[.int .i64 c.c1.u, .int .i64 c.c1.ro, .int .i64 c.c1.ty, .int .i64 c.c1.lo.s, .int .u64 c.c1.lo.c, .int .i64 c.c1.hi.s, .int .u64 c.c1.hi.c, .int .i64 c.c2.u, .int .i64 c.c2.ro, .int .i64 c.c2.ty, .int .i64 c.c2.lo.s, .int .u64 c.c2.lo.c, .int .i64 c.c2.hi.s, .int .u64 c.c2.hi.c, .int .i64 c.c3.u, .int .i64 c.c3.ro, .int .i64 c.c3.ty, .int .i64 c.c3.lo.s, .int .u64 c.c3.lo.c, .int .i64 c.c3.hi.s, .int .u64 c.c3.hi.c]] w fun e w' => e = .returned (.bool (false)) ∧ Below w.heap.size w w' := by
  have q0 : (r == 0) = true := by simp; omega
  have q1 : (r == 1) = false := by simp; omega
  have q2 : (r == 2) = false := by simp; omega
  have q3 : (r == 3) = false := by simp; omega
  clear hr
  have HSO := Lib.hid (rsort_c na)
  have p3' : (sortA na != 3) = false := by simpa using hs
  have HNA := Lib.hid HLA
  have HNB := Lib.hid HLB
  generalize sortA na = sa at *
  have HXC : Hid (XC ((w.alloc (.cells #[.int .i64 op, .int .i64 na, .int .i64 r, .int .i64 nb, .slice ao n1 cap, .int .u64 st.a, .int .u64 st.b, .int .u64 st.c, .int .u64 st.d, .slice ak n2 ck] 28)).alloc (.cells #[.int .i64 c.c1.u, .int .i64 c.c1.ro, .int .i64 c.c1.ty, .int .i64 c.c1.lo.s, .int .u64 c.c1.lo.c, .int .i64 c.c1.hi.s, .int .u64 c.c1.hi.c, .int .i64 c.c2.u, .int .i64 c.c2.ro, .int .i64 c.c2.ty, .int .i64 c.c2.lo.s, .int .u64 c.c2.lo.c, .int .i64 c.c2.hi.s, .int .u64 c.c2.hi.c, .int .i64 c.c3.u, .int .i64 c.c3.ro, .int .i64 c.c3.ty, .int .i64 c.c3.lo.s, .int .u64 c.c3.lo.c, .int .i64 c.c3.hi.s, .int .u64 c.c3.hi.c] 36)) w.heap.size 0 op na r nb ao n1 cap st ak n2 ck) := Lib.hid (XC.of_blk ((Blk.new w _ _).alloc _))
  have HC0 : Hid (Blk ((w.alloc (.cells #[.int .i64 op, .int .i64 na, .int .i64 r, .int .i64 nb, .slice ao n1 cap, .int .u64 st.a, .int .u64 st.b, .int .u64 st.c, .int .u64 st.d, .slice ak n2 ck] 28)).alloc (.cells #[.int .i64 c.c1.u, .int .i64 c.c1.ro, .int .i64 c.c1.ty, .int .i64 c.c1.lo.s, .int .u64 c.c1.lo.c, .int .i64 c.c1.hi.s, .int .u64 c.c1.hi.c, .int .i64 c.c2.u, .int .i64 c.c2.ro, .int .i64 c.c2.ty, .int .i64 c.c2.lo.s, .int .u64 c.c2.lo.c, .int .i64 c.c2.hi.s, .int .u64 c.c2.hi.c, .int .i64 c.c3.u, .int .i64 c.c3.ro, .int .i64 c.c3.ty, .int .i64 c.c3.lo.s, .int .u64 c.c3.lo.c, .int .i64 c.c3.hi.s, .int .u64 c.c3.hi.c] 36)) (w.heap.size + 1) 36 #[.int .i64 c.c1.u, .int .i64 c.c1.ro, .int .i64 c.c1.ty, .int .i64 c.c1.lo.s, .int .u64 c.c1.lo.c, .int .i64 c.c1.hi.s, .int .u64 c.c1.hi.c, .int .i64 c.c2.u, .int .i64 c.c2.ro, .int .i64 c.c2.ty, .int .i64 c.c2.lo.s, .int .u64 c.c2.lo.c, .int .i64 c.c2.hi.s, .int .u64 c.c2.hi.c, .int .i64 c.c3.u, .int .i64 c.c3.ro, .int .i64 c.c3.ty, .int .i64 c.c3.lo.s, .int .u64 c.c3.lo.c, .int .i64 c.c3.hi.s, .int .u64 c.c3.hi.c]) := Lib.hid (two_new' _ _ _ _)
  have HB : Hid (Below w.heap.size w ((w.alloc (.cells #[.int .i64 op, .int .i64 na, .int .i64 r, .int .i64 nb, .slice ao n1 cap, .int .u64 st.a, .int .u64 st.b, .int .u64 st.c, .int .u64 st.d, .slice ak n2 ck] 28)).alloc (.cells #[.int .i64 c.c1.u, .int .i64 c.c1.ro, .int .i64 c.c1.ty, .int .i64 c.c1.lo.s, .int .u64 c.c1.lo.c, .int .i64 c.c1.hi.s, .int .u64 c.c1.hi.c, .int .i64 c.c2.u, .int .i64 c.c2.ro, .int .i64 c.c2.ty, .int .i64 c.c2.lo.s, .int .u64 c.c2.lo.c, .int .i64 c.c2.hi.s, .int .u64 c.c2.hi.c, .int .i64 c.c3.u, .int .i64 c.c3.ro, .int .i64 c.c3.ty, .int .i64 c.c3.lo.s, .int .u64 c.c3.lo.c, .int .i64 c.c3.hi.s, .int .u64 c.c3.hi.c] 36))) := Lib.hid (((Below.refl _ _).alloc (Nat.le_refl _) _).alloc (by simp) _)
  have HG : Hid (w.heap.size < ((w.alloc (.cells #[.int .i64 op, .int .i64 na, .int .i64 r, .int .i64 nb, .slice ao n1 cap, .int .u64 st.a, .int .u64 st.b, .int .u64 st.c, .int .u64 st.d, .slice ak n2 ck] 28)).alloc (.cells #[.int .i64 c.c1.u, .int .i64 c.c1.ro, .int .i64 c.c1.ty, .int .i64 c.c1.lo.s, .int .u64 c.c1.lo.c, .int .i64 c.c1.hi.s, .int .u64 c.c1.hi.c, .int .i64 c.c2.u, .int .i64 c.c2.ro, .int .i64 c.c2.ty, .int .i64 c.c2.lo.s, .int .u64 c.c2.lo.c, .int .i64 c.c2.hi.s, .int .u64 c.c2.hi.c, .int .i64 c.c3.u, .int .i64 c.c3.ro, .int .i64 c.c3.ty, .int .i64 c.c3.lo.s, .int .u64 c.c3.lo.c, .int .i64 c.c3.hi.s, .int .u64 c.c3.hi.c] 36)).heap.size) := Lib.hid (by simp; omega)
  clear hs HLA HLB
  go_enter Try.func39, Try.ntmps39
  go_upto_region 1 with fail
  generalize (w.alloc (.cells #[.int .i64 op, .int .i64 na, .int .i64 r, .int .i64 nb, .slice ao n1 cap, .int .u64 st.a, .int .u64 st.b, .int .u64 st.c, .int .u64 st.d, .slice ak n2 ck] 28)).alloc (.cells #[.int .i64 c.c1.u, .int .i64 c.c1.ro, .int .i64 c.c1.ty, .int .i64 c.c1.lo.s, .int .u64 c.c1.lo.c, .int .i64 c.c1.hi.s, .int .u64 c.c1.hi.c, .int .i64 c.c2.u, .int .i64 c.c2.ro, .int .i64 c.c2.ty, .int .i64 c.c2.lo.s, .int .u64 c.c2.lo.c, .int .i64 c.c2.hi.s, .int .u64 c.c2.hi.c, .int .i64 c.c3.u, .int .i64 c.c3.ro, .int .i64 c.c3.ty, .int .i64 c.c3.lo.s, .int .u64 c.c3.lo.c, .int .i64 c.c3.hi.s, .int .u64 c.c3.hi.c] 36) = W at *
  have HLE : Hid (w.heap.size ≤ W.heap.size) := Lib.hid HB.out.size
  generalize w.heap.size + 1 = gc at *
  generalize hge : w.heap.size = ge at *
  obtain ⟨y0, y1, y2, y3, y4, y5, y6, y7, y8, y9⟩ := HXC.out.cells
  go_upto_region 3 with (go_at_call 43; (with_reducible refine (HSO.out _).mono ?_); rintro e w1 ⟨rfl, hb1⟩; have HB1 := Lib.hid (HB.out.trans (hb1.mono HLE.out)); have HX1 := Lib.hid (HXC.out.keep (hb1.block ge HG.out)); have HG1 := Lib.hid (Nat.lt_of_lt_of_le HG.out hb1.size); have HC := Lib.hid (HC0.out.keep hb1); clear hb1)
  clear HXC HC0 HB HG HLE y0 y1 y2 y3 y4 y5 y6 y7 y8 y9
  refine wp_region_phis 10 (cpPhi c ge na nb la lb w1) (fun i => i == 8 || i == 9) (by kernel_rfl) (by decide) (by kernel_rfl) (by kernel_rfl) (by kernel_rfl) (fun k v u u2 h hb => cpPhi_keep h hb) ?_ ?_
  · refine ⟨⟨trivial, fun A u hK hF => ?_⟩, ⟨trivial, fun A u hK hF => ?_⟩, ⟨trivial, fun A u hK hF => ?_⟩, ⟨trivial, fun A u hK hF => ?_⟩, ⟨trivial, fun A u hK hF => ?_⟩, ⟨trivial, fun A u hK hF => ?_⟩, ⟨trivial, fun A u hK hF => ?_⟩, ⟨trivial, fun A u hK hF => ?_⟩, ⟨trivial, fun A u hK hF => ?_⟩, ⟨trivial, fun A u hK hF => ?_⟩, trivial⟩
    · have f3 : A.tmps[3]?.getD undef = .pointer (some ⟨gc, 0, none⟩) := fact_none (hF 3) (by kernel_rfl)
      refine Gives.no ?_ rfl
      unfold Gives
      rw [run_load (.tmp 3) rfl (by rw [← f3]; simp [Act.eval]) (loadAt_case (Blk.keep HC.out hK))]
      exact gives_val (Below.refl _ _) rfl
    · have f2 : A.tmps[2]?.getD undef = .pointer (some ⟨ge, 0, none⟩) := fact_none (hF 2) (by kernel_rfl)
      refine Gives.no ?_ rfl
      unfold Gives
      go_simp
      exact gives_val (Below.refl _ _) rfl
    · have f27 : A.tmps[27]?.getD undef = .pointer (some ⟨ge, 1, none⟩) := fact_some (hF 27) (j := 1) (by kernel_rfl) (by kernel_rfl)
      obtain ⟨y0, y1, y2, y3, y4, y5, y6, y7, y8, y9⟩ := (HX1.out.keep (Below.block hK ge HG1.out)).cells
      refine Gives.no ?_ rfl
      unfold Gives
      go_simp
      exact gives_val (Below.refl _ _) rfl
    · have f26 : A.tmps[26]?.getD undef = .agg #[.int .i64 c.c1.u, .int .i64 c.c1.ro, .int .i64 c.c1.ty, .int .i64 c.c1.lo.s, .int .u64 c.c1.lo.c, .int .i64 c.c1.hi.s, .int .u64 c.c1.hi.c, .int .i64 c.c2.u, .int .i64 c.c2.ro, .int .i64 c.c2.ty, .int .i64 c.c2.lo.s, .int .u64 c.c2.lo.c, .int .i64 c.c2.hi.s, .int .u64 c.c2.hi.c, .int .i64 c.c3.u, .int .i64 c.c3.ro, .int .i64 c.c3.ty, .int .i64 c.c3.lo.s, .int .u64 c.c3.lo.c, .int .i64 c.c3.hi.s, .int .u64 c.c3.hi.c] := fact_some (hF 26) (j := 0) (by kernel_rfl) (by kernel_rfl)
      have f28 : A.tmps[28]?.getD undef = .int .i64 na := fact_some (hF 28) (j := 2) (by kernel_rfl) (by kernel_rfl)
      refine Gives.no ?_ rfl
      unfold Gives
      go_simp
      exact gives_enter (((HNA).out u).mono fun e w2 ⟨he, hb⟩ => ⟨_, he, hb, rfl⟩)
    · have f3 : A.tmps[3]?.getD undef = .pointer (some ⟨gc, 0, none⟩) := fact_none (hF 3) (by kernel_rfl)
      refine Gives.no ?_ rfl
      unfold Gives
      rw [run_load (.tmp 3) rfl (by rw [← f3]; simp [Act.eval]) (loadAt_case (Blk.keep HC.out hK))]
      exact gives_val (Below.refl _ _) rfl
    · have f2 : A.tmps[2]?.getD undef = .pointer (some ⟨ge, 0, none⟩) := fact_none (hF 2) (by kernel_rfl)
      refine Gives.no ?_ rfl
      unfold Gives
      go_simp
      exact gives_val (Below.refl _ _) rfl
    · have f31 : A.tmps[31]?.getD undef = .pointer (some ⟨ge, 3, none⟩) := fact_some (hF 31) (j := 5) (by kernel_rfl) (by kernel_rfl)
      obtain ⟨y0, y1, y2, y3, y4, y5, y6, y7, y8, y9⟩ := (HX1.out.keep (Below.block hK ge HG1.out)).cells
      refine Gives.no ?_ rfl
      unfold Gives
      go_simp
      exact gives_val (Below.refl _ _) rfl
    · have f30 : A.tmps[30]?.getD undef = .agg #[.int .i64 c.c1.u, .int .i64 c.c1.ro, .int .i64 c.c1.ty, .int .i64 c.c1.lo.s, .int .u64 c.c1.lo.c, .int .i64 c.c1.hi.s, .int .u64 c.c1.hi.c, .int .i64 c.c2.u, .int .i64 c.c2.ro, .int .i64 c.c2.ty, .int .i64 c.c2.lo.s, .int .u64 c.c2.lo.c, .int .i64 c.c2.hi.s, .int .u64 c.c2.hi.c, .int .i64 c.c3.u, .int .i64 c.c3.ro, .int .i64 c.c3.ty, .int .i64 c.c3.lo.s, .int .u64 c.c3.lo.c, .int .i64 c.c3.hi.s, .int .u64 c.c3.hi.c] := fact_some (hF 30) (j := 4) (by kernel_rfl) (by kernel_rfl)
      have f32 : A.tmps[32]?.getD undef = .int .i64 nb := fact_some (hF 32) (j := 6) (by kernel_rfl) (by kernel_rfl)
      refine Gives.no ?_ rfl
      unfold Gives
      go_simp
      exact gives_enter (((HNB).out u).mono fun e w2 ⟨he, hb⟩ => ⟨_, he, hb, rfl⟩)
    · unfold Gives
      go_simp
      refine gives_box2 (φ := cpPhi c ge na nb la lb w1 8) ?_
      exact ⟨_, rfl, hK.size, Blk.new _ _ _⟩
    · unfold Gives
      go_simp
      refine gives_box2 (φ := cpPhi c ge na nb la lb w1 9) ?_
      exact ⟨_, rfl, hK.size, Blk.new _ _ _⟩
  intro a0 W2 hC hsz hdf hF hN
  have ha := end_mask [false, false, false, false, false, true, true, false, false, false, false, false, false, false, false, false, false, false, false, false, false, false, false, false, false, false, true, true, true, true, true, true, true, true, false, false, false, false, false, false, false, false, false, false, false, false, false, false, false, false, false, false, false, false, false, false, false, false, false, false, false, false, false, false] hsz hdf hF (by kernel_rfl)
  have f29 : a0.tmps[29]?.getD undef = .agg #[.int .i64 la.s, .int .u64 la.c] := fact_end (hF 29) (j := 3) (by kernel_rfl)
  have f33 : a0.tmps[33]?.getD undef = .agg #[.int .i64 lb.s, .int .u64 lb.c] := fact_end (hF 33) (j := 7) (by kernel_rfl)
  obtain ⟨g5, f5, hg5, hb5⟩ : ∃ g, a0.tmps[5]?.getD undef = .pointer (some ⟨g, 0, none⟩) ∧ w1.heap.size ≤ g ∧ Blk W2 g 30 #[.int .i64 0, .int .u64 0] := fact_end (hF 5) (j := 8) (by kernel_rfl)
  obtain ⟨g6, f6, hg6, hb6⟩ : ∃ g, a0.tmps[6]?.getD undef = .pointer (some ⟨g, 0, none⟩) ∧ w1.heap.size ≤ g ∧ Blk W2 g 30 #[.int .i64 0, .int .u64 0] := fact_end (hF 6) (j := 9) (by kernel_rfl)
  have hne : g6 ≠ g5 := fun e => hN 8 9 5 6 (by decide) rfl rfl (by kernel_rfl) (by kernel_rfl) (by rw [f5, f6, e])
  rw [ha]
  clear ha hF hN
  simp only [cutM_yes, cutM_no, cutM_nil, Nat.reduceAdd]
  rw [f29, f33, f5, f6]
  clear f29 f33 f5 f6
  generalize a0.tmps[26]?.getD undef = s26
  generalize a0.tmps[27]?.getD undef = s27
  generalize a0.tmps[28]?.getD undef = s28
  generalize a0.tmps[30]?.getD undef = s30
  generalize a0.tmps[31]?.getD undef = s31
  generalize a0.tmps[32]?.getD undef = s32
  clear hsz hdf
  refine wpList_store_row (by rfl) _ _ rfl rfl (by rfl) [.int .i64 la.s, .int .u64 la.c] (.agg #[.int .i64 la.s, .int .u64 la.c]) (by rfl) rfl (size_lv _) hb5 rfl (by intro x hx; simp only [List.mem_cons, List.not_mem_nil, or_false] at hx; rcases hx with rfl | rfl <;> rfl) ?_
  refine wpList_store_row (by rfl) _ _ rfl rfl (by rfl) [.int .i64 lb.s, .int .u64 lb.c] (.agg #[.int .i64 lb.s, .int .u64 lb.c]) (by rfl) rfl (size_lv _) (hb6.other hne _) rfl (by intro x hx; simp only [List.mem_cons, List.not_mem_nil, or_false] at hx; rcases hx with rfl | rfl <;> rfl) ?_
  have HL5 : Hid (Blk ((W2.setRow g5 [.int .i64 la.s, .int .u64 la.c].toArray).setRow g6 [.int .i64 lb.s, .int .u64 lb.c].toArray) g5 30 #[.int .i64 la.s, .int .u64 la.c]) := Lib.hid ((hb5.row _).other (Ne.symm hne) _)
  have HL6 : Hid (Blk ((W2.setRow g5 [.int .i64 la.s, .int .u64 la.c].toArray).setRow g6 [.int .i64 lb.s, .int .u64 lb.c].toArray) g6 30 #[.int .i64 lb.s, .int .u64 lb.c]) := Lib.hid ((hb6.other hne _).row _)
  have HBW : Hid (Below w1.heap.size w1 ((W2.setRow g5 [.int .i64 la.s, .int .u64 la.c].toArray).setRow g6 [.int .i64 lb.s, .int .u64 lb.c].toArray)) := Lib.hid (below_row (below_row hC hg5 _) hg6 _)
  generalize (W2.setRow g5 [.int .i64 la.s, .int .u64 la.c].toArray).setRow g6 [.int .i64 lb.s, .int .u64 lb.c].toArray = W3 at *
  clear hC hb5 hb6 hg5 hg6 hne
  have HX3 := Lib.hid (HX1.out.keep (HBW.out.block ge HG1.out))
  have HG3 := Lib.hid (Nat.lt_of_lt_of_le HG1.out HBW.out.size)
  have HB3 := Lib.hid (HB1.out.trans (HBW.out.mono (Nat.le_of_lt HG1.out)))
  clear HX1 HG1 HB1 HBW HC
  have HD1 := Lib.hid (rdomX_c la lb)
  have HD2 := Lib.hid (rdomX_c lb la)
  go_upto_region 4 with fail
  refine wp_region_kp (by kernel_rfl) (by kernel_rfl) ?_
  repeat (first
      | go_big_quiet_skip
      | (go_big_quiet_want
         go_big_quiet_op
         first
           | go_big_quiet_on
           | (apply Exists.intro
              refine ⟨fun w1 hC => ?_, ?_⟩
              · first
                  | (go_at_call 62; with_reducible first | exact hC.call (HD1.out _) | exact hC.call (HD2.out _))
                  | (have m5 := (hC.blk HL5.out).cell; have a0 := m5 0; have a1 := m5 1; have m6 := (hC.blk HL6.out).cell; have b0 := m6 0; have b1 := m6 1; clear m5 m6; go_simp; exact rfl)
                  | (go_simp; exact ⟨rfl, rfl⟩)
              go_big_quiet_on)))
  refine wpQuiet_nil ?_
  intro W4 hC
  have HCC := Lib.hid (HB3.out.trans (hC.mono (Nat.le_of_lt HG3.out)))
  have HX4 := Lib.hid (HX3.out.keep (Below.block hC ge HG3.out))
  have HL54 := Lib.hid (hC.blk HL5.out)
  have HL64 := Lib.hid (hC.blk HL6.out)
  clear hC HX3 HG3 HB3 HL5 HL6 HD1 HD2
  go_upto_region 5 with fail
  obtain ⟨y0, y1, y2, y3, y4, y5, y6, y7, y8, y9⟩ := HX4.out.cells
  clear y0 y1 y3 y4 y5 y6 y7 y8 y9
  have a0 := HL54.out.cell 0
  have a1 := HL54.out.cell 1
  have b0 := HL64.out.cell 0
  have b1 := HL64.out.cell 1
  go_wp2_with fail
  go_ret
  exact ⟨rfl, by first | exact HCC.out | (rw [hge]; exact HCC.out)⟩
end Go.Proofs.Ytamcfmfkmekkfaa
/- The reference's compare: levels (1). -/
namespace Go.Proofs.Ytamcfmfkmekkfaa
open Go.RowKit Go
set_option maxRecDepth 100000 in
set_option maxHeartbeats 16000000 in
theorem rcl_1s (op r : Int) (st : S4) (ao ak : Option Addr) (n1 n2 cap ck na nb : Nat) (c : Ca) (la : Lv) (hs : sortA na = 3) (hr : r = 1) (HLA : ∀ W, Calls Try.prog 61 #[.agg #[.int .i64 c.c1.u, .int .i64 c.c1.ro, .int .i64 c.c1.ty, .int .i64 c.c1.lo.s, .int .u64 c.c1.lo.c, .int .i64 c.c1.hi.s, .int .u64 c.c1.hi.c, .int .i64 c.c2.u, .int .i64 c.c2.ro, .int .i64 c.c2.ty, .int .i64 c.c2.lo.s, .int .u64 c.c2.lo.c, .int .i64 c.c2.hi.s, .int .u64 c.c2.hi.c, .int .i64 c.c3.u, .int .i64 c.c3.ro, .int .i64 c.c3.ty, .int .i64 c.c3.lo.s, .int .u64 c.c3.lo.c, .int .i64 c.c3.hi.s, .int .u64 c.c3.hi.c], .int .i64 na] W fun e w' => e = .returned (.agg #[.int .i64 la.s, .int .u64 la.c]) ∧ Below W.heap.size W w') (HLB : ∀ W, Calls Try.prog 61 #[.agg #[.int .i64 c.c1.u, .int .i64 c.c1.ro, .int .i64 c.c1.ty, .int .i64 c.c1.lo.s, .int .u64 c.c1.lo.c, .int .i64 c.c1.hi.s, .int .u64 c.c1.hi.c, .int .i64 c.c2.u, .int .i64 c.c2.ro, .int .i64 c.c2.ty, .int .i64 c.c2.lo.s, .int .u64 c.c2.lo.c, .int .i64 c.c2.hi.s, .int .u64 c.c2.hi.c, .int .i64 c.c3.u, .int .i64 c.c3.ro, .int .i64 c.c3.ty, .int .i64 c.c3.lo.s, .int .u64 c.c3.lo.c, .int .i64 c.c3.hi.s, .int .u64 c.c3.hi.c], .int .i64 nb] W fun e w' => e = .returned (.agg #[.int .i64 la.s, .int .u64 la.c]) ∧ Below W.heap.size W w') (w : World) :
    Calls Try.prog 39 #[.agg #[.int .i64 op, .int .i64 na, .int .i64 r, .int .i64 nb, .slice ao n1 cap, .int .u64 st.a, .int .u64 st.b, .int .u64 st.c, .int .u64 st.d, .slice ak n2 ck], .agg #[.int .i64 c.c1.u, .int .i64 c.c1.ro, .int .i64 c.c1.ty, .int .i64 c.c1.lo.s, .int .u64 c.c1.lo.c, .int .i64 c.c1.hi.s, .int .u64 c.c1.hi.c, .int .i64 c.c2.u, .int .i64 c.c2.ro, .int .i64 c.c2.ty, .int .i64 c.c2.lo.s, .int .u64 c.c2.lo.c, .int .i64 c.c2.hi.s, .int .u64 c.c2.hi.c, .int .i64 c.c3.u, .int .i64 c.c3.ro, .int .i64 c.c3.ty, .int .i64 c.c3.lo.s, .int .u64 c.c3.lo.c, .int .i64 c.c3.hi.s, .int .u64 c.c3.hi.c]] w fun e w' => e = .returned (.bool (false)) ∧ Below w.heap.size w w' := by
  have q0 : (r == 0) = false := by simp; omega
  have q1 : (r == 1) = true := by simp; omega
  have q2 : (r == 2) = false := by simp; omega
  have q3 : (r == 3) = false := by simp; omega
  clear hr
  have HSO := Lib.hid (rsort_c na)
  have p3' : (sortA na != 3) = false := by simpa using hs
  have HNA := Lib.hid HLA
  have HNB := Lib.hid HLB
  generalize sortA na = sa at *
  have HXC : Hid (XC ((w.alloc (.cells #[.int .i64 op, .int .i64 na, .int .i64 r, .int .i64 nb, .slice ao n1 cap, .int .u64 st.a, .int .u64 st.b, .int .u64 st.c, .int .u64 st.d, .slice ak n2 ck] 28)).alloc (.cells #[.int .i64 c.c1.u, .int .i64 c.c1.ro, .int .i64 c.c1.ty, .int .i64 c.c1.lo.s, .int .u64 c.c1.lo.c, .int .i64 c.c1.hi.s, .int .u64 c.c1.hi.c, .int .i64 c.c2.u, .int .i64 c.c2.ro, .int .i64 c.c2.ty, .int .i64 c.c2.lo.s, .int .u64 c.c2.lo.c, .int .i64 c.c2.hi.s, .int .u64 c.c2.hi.c, .int .i64 c.c3.u, .int .i64 c.c3.ro, .int .i64 c.c3.ty, .int .i64 c.c3.lo.s, .int .u64 c.c3.lo.c, .int .i64 c.c3.hi.s, .int .u64 c.c3.hi.c] 36)) w.heap.size 0 op na r nb ao n1 cap st ak n2 ck) := Lib.hid (XC.of_blk ((Blk.new w _ _).alloc _))
  have HC0 : Hid (Blk ((w.alloc (.cells #[.int .i64 op, .int .i64 na, .int .i64 r, .int .i64 nb, .slice ao n1 cap, .int .u64 st.a, .int .u64 st.b, .int .u64 st.c, .int .u64 st.d, .slice ak n2 ck] 28)).alloc (.cells #[.int .i64 c.c1.u, .int .i64 c.c1.ro, .int .i64 c.c1.ty, .int .i64 c.c1.lo.s, .int .u64 c.c1.lo.c, .int .i64 c.c1.hi.s, .int .u64 c.c1.hi.c, .int .i64 c.c2.u, .int .i64 c.c2.ro, .int .i64 c.c2.ty, .int .i64 c.c2.lo.s, .int .u64 c.c2.lo.c, .int .i64 c.c2.hi.s, .int .u64 c.c2.hi.c, .int .i64 c.c3.u, .int .i64 c.c3.ro, .int .i64 c.c3.ty, .int .i64 c.c3.lo.s, .int .u64 c.c3.lo.c, .int .i64 c.c3.hi.s, .int .u64 c.c3.hi.c] 36)) (w.heap.size + 1) 36 #[.int .i64 c.c1.u, .int .i64 c.c1.ro, .int .i64 c.c1.ty, .int .i64 c.c1.lo.s, .int .u64 c.c1.lo.c, .int .i64 c.c1.hi.s, .int .u64 c.c1.hi.c, .int .i64 c.c2.u, .int .i64 c.c2.ro, .int .i64 c.c2.ty, .int .i64 c.c2.lo.s, .int .u64 c.c2.lo.c, .int .i64 c.c2.hi.s, .int .u64 c.c2.hi.c, .int .i64 c.c3.u, .int .i64 c.c3.ro, .int .i64 c.c3.ty, .int .i64 c.c3.lo.s, .int .u64 c.c3.lo.c, .int .i64 c.c3.hi.s, .int .u64 c.c3.hi.c]) := Lib.hid (two_new' _ _ _ _)
  have HB : Hid (Below w.heap.size w ((w.alloc (.cells #[.int .i64 op, .int .i64 na, .int .i64 r, .int .i64 nb, .slice ao n1 cap, .int .u64 st.a, .int .u64 st.b, .int .u64 st.c, .int .u64 st.d, .slice ak n2 ck] 28)).alloc (.cells #[.int .i64 c.c1.u, .int .i64 c.c1.ro, .int .i64 c.c1.ty, .int .i64 c.c1.lo.s, .int .u64 c.c1.lo.c, .int .i64 c.c1.hi.s, .int .u64 c.c1.hi.c, .int .i64 c.c2.u, .int .i64 c.c2.ro, .int .i64 c.c2.ty, .int .i64 c.c2.lo.s, .int .u64 c.c2.lo.c, .int .i64 c.c2.hi.s, .int .u64 c.c2.hi.c, .int .i64 c.c3.u, .int .i64 c.c3.ro, .int .i64 c.c3.ty, .int .i64 c.c3.lo.s, .int .u64 c.c3.lo.c, .int .i64 c.c3.hi.s, .int .u64 c.c3.hi.c] 36))) := Lib.hid (((Below.refl _ _).alloc (Nat.le_refl _) _).alloc (by simp) _)
  have HG : Hid (w.heap.size < ((w.alloc (.cells #[.int .i64 op, .int .i64 na, .int .i64 r, .int .i64 nb, .slice ao n1 cap, .int .u64 st.a, .int .u64 st.b, .int .u64 st.c, .int .u64 st.d, .slice ak n2 ck] 28)).alloc (.cells #[.int .i64 c.c1.u, .int .i64 c.c1.ro, .int .i64 c.c1.ty, .int .i64 c.c1.lo.s, .int .u64 c.c1.lo.c, .int .i64 c.c1.hi.s, .int .u64 c.c1.hi.c, .int .i64 c.c2.u, .int .i64 c.c2.ro, .int .i64 c.c2.ty, .int .i64 c.c2.lo.s, .int .u64 c.c2.lo.c, .int .i64 c.c2.hi.s, .int .u64 c.c2.hi.c, .int .i64 c.c3.u, .int .i64 c.c3.ro, .int .i64 c.c3.ty, .int .i64 c.c3.lo.s, .int .u64 c.c3.lo.c, .int .i64 c.c3.hi.s, .int .u64 c.c3.hi.c] 36)).heap.size) := Lib.hid (by simp; omega)
  clear hs HLA HLB
  go_enter Try.func39, Try.ntmps39
  go_upto_region 1 with fail
  generalize (w.alloc (.cells #[.int .i64 op, .int .i64 na, .int .i64 r, .int .i64 nb, .slice ao n1 cap, .int .u64 st.a, .int .u64 st.b, .int .u64 st.c, .int .u64 st.d, .slice ak n2 ck] 28)).alloc (.cells #[.int .i64 c.c1.u, .int .i64 c.c1.ro, .int .i64 c.c1.ty, .int .i64 c.c1.lo.s, .int .u64 c.c1.lo.c, .int .i64 c.c1.hi.s, .int .u64 c.c1.hi.c, .int .i64 c.c2.u, .int .i64 c.c2.ro, .int .i64 c.c2.ty, .int .i64 c.c2.lo.s, .int .u64 c.c2.lo.c, .int .i64 c.c2.hi.s, .int .u64 c.c2.hi.c, .int .i64 c.c3.u, .int .i64 c.c3.ro, .int .i64 c.c3.ty, .int .i64 c.c3.lo.s, .int .u64 c.c3.lo.c, .int .i64 c.c3.hi.s, .int .u64 c.c3.hi.c] 36) = W at *
  have HLE : Hid (w.heap.size ≤ W.heap.size) := Lib.hid HB.out.size
  generalize w.heap.size + 1 = gc at *
  generalize hge : w.heap.size = ge at *
  obtain ⟨y0, y1, y2, y3, y4, y5, y6, y7, y8, y9⟩ := HXC.out.cells
  go_upto_region 3 with (go_at_call 43; (with_reducible refine (HSO.out _).mono ?_); rintro e w1 ⟨rfl, hb1⟩; have HB1 := Lib.hid (HB.out.trans (hb1.mono HLE.out)); have HX1 := Lib.hid (HXC.out.keep (hb1.block ge HG.out)); have HG1 := Lib.hid (Nat.lt_of_lt_of_le HG.out hb1.size); have HC := Lib.hid (HC0.out.keep hb1); clear hb1)
  clear HXC HC0 HB HG HLE y0 y1 y2 y3 y4 y5 y6 y7 y8 y9
  refine wp_region_phis 10 (cpPhi c ge na nb la la w1) (fun i => i == 8 || i == 9) (by kernel_rfl) (by decide) (by kernel_rfl) (by kernel_rfl) (by kernel_rfl) (fun k v u u2 h hb => cpPhi_keep h hb) ?_ ?_
  · refine ⟨⟨trivial, fun A u hK hF => ?_⟩, ⟨trivial, fun A u hK hF => ?_⟩, ⟨trivial, fun A u hK hF => ?_⟩, ⟨trivial, fun A u hK hF => ?_⟩, ⟨trivial, fun A u hK hF => ?_⟩, ⟨trivial, fun A u hK hF => ?_⟩, ⟨trivial, fun A u hK hF => ?_⟩, ⟨trivial, fun A u hK hF => ?_⟩, ⟨trivial, fun A u hK hF => ?_⟩, ⟨trivial, fun A u hK hF => ?_⟩, trivial⟩
    · have f3 : A.tmps[3]?.getD undef = .pointer (some ⟨gc, 0, none⟩) := fact_none (hF 3) (by kernel_rfl)
      refine Gives.no ?_ rfl
      unfold Gives
      rw [run_load (.tmp 3) rfl (by rw [← f3]; simp [Act.eval]) (loadAt_case (Blk.keep HC.out hK))]
      exact gives_val (Below.refl _ _) rfl
    · have f2 : A.tmps[2]?.getD undef = .pointer (some ⟨ge, 0, none⟩) := fact_none (hF 2) (by kernel_rfl)
      refine Gives.no ?_ rfl
      unfold Gives
      go_simp
      exact gives_val (Below.refl _ _) rfl
    · have f27 : A.tmps[27]?.getD undef = .pointer (some ⟨ge, 1, none⟩) := fact_some (hF 27) (j := 1) (by kernel_rfl) (by kernel_rfl)
      obtain ⟨y0, y1, y2, y3, y4, y5, y6, y7, y8, y9⟩ := (HX1.out.keep (Below.block hK ge HG1.out)).cells
      refine Gives.no ?_ rfl
      unfold Gives
      go_simp
      exact gives_val (Below.refl _ _) rfl
    · have f26 : A.tmps[26]?.getD undef = .agg #[.int .i64 c.c1.u, .int .i64 c.c1.ro, .int .i64 c.c1.ty, .int .i64 c.c1.lo.s, .int .u64 c.c1.lo.c, .int .i64 c.c1.hi.s, .int .u64 c.c1.hi.c, .int .i64 c.c2.u, .int .i64 c.c2.ro, .int .i64 c.c2.ty, .int .i64 c.c2.lo.s, .int .u64 c.c2.lo.c, .int .i64 c.c2.hi.s, .int .u64 c.c2.hi.c, .int .i64 c.c3.u, .int .i64 c.c3.ro, .int .i64 c.c3.ty, .int .i64 c.c3.lo.s, .int .u64 c.c3.lo.c, .int .i64 c.c3.hi.s, .int .u64 c.c3.hi.c] := fact_some (hF 26) (j := 0) (by kernel_rfl) (by kernel_rfl)
      have f28 : A.tmps[28]?.getD undef = .int .i64 na := fact_some (hF 28) (j := 2) (by kernel_rfl) (by kernel_rfl)
      refine Gives.no ?_ rfl
      unfold Gives
      go_simp
      exact gives_enter (((HNA).out u).mono fun e w2 ⟨he, hb⟩ => ⟨_, he, hb, rfl⟩)
    · have f3 : A.tmps[3]?.getD undef = .pointer (some ⟨gc, 0, none⟩) := fact_none (hF 3) (by kernel_rfl)
      refine Gives.no ?_ rfl
      unfold Gives
      rw [run_load (.tmp 3) rfl (by rw [← f3]; simp [Act.eval]) (loadAt_case (Blk.keep HC.out hK))]
      exact gives_val (Below.refl _ _) rfl
    · have f2 : A.tmps[2]?.getD undef = .pointer (some ⟨ge, 0, none⟩) := fact_none (hF 2) (by kernel_rfl)
      refine Gives.no ?_ rfl
      unfold Gives
      go_simp
      exact gives_val (Below.refl _ _) rfl
    · have f31 : A.tmps[31]?.getD undef = .pointer (some ⟨ge, 3, none⟩) := fact_some (hF 31) (j := 5) (by kernel_rfl) (by kernel_rfl)
      obtain ⟨y0, y1, y2, y3, y4, y5, y6, y7, y8, y9⟩ := (HX1.out.keep (Below.block hK ge HG1.out)).cells
      refine Gives.no ?_ rfl
      unfold Gives
      go_simp
      exact gives_val (Below.refl _ _) rfl
    · have f30 : A.tmps[30]?.getD undef = .agg #[.int .i64 c.c1.u, .int .i64 c.c1.ro, .int .i64 c.c1.ty, .int .i64 c.c1.lo.s, .int .u64 c.c1.lo.c, .int .i64 c.c1.hi.s, .int .u64 c.c1.hi.c, .int .i64 c.c2.u, .int .i64 c.c2.ro, .int .i64 c.c2.ty, .int .i64 c.c2.lo.s, .int .u64 c.c2.lo.c, .int .i64 c.c2.hi.s, .int .u64 c.c2.hi.c, .int .i64 c.c3.u, .int .i64 c.c3.ro, .int .i64 c.c3.ty, .int .i64 c.c3.lo.s, .int .u64 c.c3.lo.c, .int .i64 c.c3.hi.s, .int .u64 c.c3.hi.c] := fact_some (hF 30) (j := 4) (by kernel_rfl) (by kernel_rfl)
      have f32 : A.tmps[32]?.getD undef = .int .i64 nb := fact_some (hF 32) (j := 6) (by kernel_rfl) (by kernel_rfl)
      refine Gives.no ?_ rfl
      unfold Gives
      go_simp
      exact gives_enter (((HNB).out u).mono fun e w2 ⟨he, hb⟩ => ⟨_, he, hb, rfl⟩)
    · unfold Gives
      go_simp
      refine gives_box2 (φ := cpPhi c ge na nb la la w1 8) ?_
      exact ⟨_, rfl, hK.size, Blk.new _ _ _⟩
    · unfold Gives
      go_simp
      refine gives_box2 (φ := cpPhi c ge na nb la la w1 9) ?_
      exact ⟨_, rfl, hK.size, Blk.new _ _ _⟩
  intro a0 W2 hC hsz hdf hF hN
  have ha := end_mask [false, false, false, false, false, true, true, false, false, false, false, false, false, false, false, false, false, false, false, false, false, false, false, false, false, false, true, true, true, true, true, true, true, true, false, false, false, false, false, false, false, false, false, false, false, false, false, false, false, false, false, false, false, false, false, false, false, false, false, false, false, false, false, false] hsz hdf hF (by kernel_rfl)
  have f29 : a0.tmps[29]?.getD undef = .agg #[.int .i64 la.s, .int .u64 la.c] := fact_end (hF 29) (j := 3) (by kernel_rfl)
  have f33 : a0.tmps[33]?.getD undef = .agg #[.int .i64 la.s, .int .u64 la.c] := fact_end (hF 33) (j := 7) (by kernel_rfl)
  obtain ⟨g5, f5, hg5, hb5⟩ : ∃ g, a0.tmps[5]?.getD undef = .pointer (some ⟨g, 0, none⟩) ∧ w1.heap.size ≤ g ∧ Blk W2 g 30 #[.int .i64 0, .int .u64 0] := fact_end (hF 5) (j := 8) (by kernel_rfl)
  obtain ⟨g6, f6, hg6, hb6⟩ : ∃ g, a0.tmps[6]?.getD undef = .pointer (some ⟨g, 0, none⟩) ∧ w1.heap.size ≤ g ∧ Blk W2 g 30 #[.int .i64 0, .int .u64 0] := fact_end (hF 6) (j := 9) (by kernel_rfl)
  have hne : g6 ≠ g5 := fun e => hN 8 9 5 6 (by decide) rfl rfl (by kernel_rfl) (by kernel_rfl) (by rw [f5, f6, e])
  rw [ha]
  clear ha hF hN
  simp only [cutM_yes, cutM_no, cutM_nil, Nat.reduceAdd]
  rw [f29, f33, f5, f6]
  clear f29 f33 f5 f6
  generalize a0.tmps[26]?.getD undef = s26
  generalize a0.tmps[27]?.getD undef = s27
  generalize a0.tmps[28]?.getD undef = s28
  generalize a0.tmps[30]?.getD undef = s30
  generalize a0.tmps[31]?.getD undef = s31
  generalize a0.tmps[32]?.getD undef = s32
  clear hsz hdf
  refine wpList_store_row (by rfl) _ _ rfl rfl (by rfl) [.int .i64 la.s, .int .u64 la.c] (.agg #[.int .i64 la.s, .int .u64 la.c]) (by rfl) rfl (size_lv _) hb5 rfl (by intro x hx; simp only [List.mem_cons, List.not_mem_nil, or_false] at hx; rcases hx with rfl | rfl <;> rfl) ?_
  refine wpList_store_row (by rfl) _ _ rfl rfl (by rfl) [.int .i64 la.s, .int .u64 la.c] (.agg #[.int .i64 la.s, .int .u64 la.c]) (by rfl) rfl (size_lv _) (hb6.other hne _) rfl (by intro x hx; simp only [List.mem_cons, List.not_mem_nil, or_false] at hx; rcases hx with rfl | rfl <;> rfl) ?_
  have HL5 : Hid (Blk ((W2.setRow g5 [.int .i64 la.s, .int .u64 la.c].toArray).setRow g6 [.int .i64 la.s, .int .u64 la.c].toArray) g5 30 #[.int .i64 la.s, .int .u64 la.c]) := Lib.hid ((hb5.row _).other (Ne.symm hne) _)
  have HL6 : Hid (Blk ((W2.setRow g5 [.int .i64 la.s, .int .u64 la.c].toArray).setRow g6 [.int .i64 la.s, .int .u64 la.c].toArray) g6 30 #[.int .i64 la.s, .int .u64 la.c]) := Lib.hid ((hb6.other hne _).row _)
  have HBW : Hid (Below w1.heap.size w1 ((W2.setRow g5 [.int .i64 la.s, .int .u64 la.c].toArray).setRow g6 [.int .i64 la.s, .int .u64 la.c].toArray)) := Lib.hid (below_row (below_row hC hg5 _) hg6 _)
  generalize (W2.setRow g5 [.int .i64 la.s, .int .u64 la.c].toArray).setRow g6 [.int .i64 la.s, .int .u64 la.c].toArray = W3 at *
  clear hC hb5 hb6 hg5 hg6 hne
  have HX3 := Lib.hid (HX1.out.keep (HBW.out.block ge HG1.out))
  have HG3 := Lib.hid (Nat.lt_of_lt_of_le HG1.out HBW.out.size)
  have HB3 := Lib.hid (HB1.out.trans (HBW.out.mono (Nat.le_of_lt HG1.out)))
  clear HX1 HG1 HB1 HBW HC
  have HD1 := Lib.hid (rdomX_c la la)
  have HD2 := Lib.hid (rdomX_c la la)
  go_upto_region 4 with fail
  refine wp_region_kp (by kernel_rfl) (by kernel_rfl) ?_
  repeat (first
      | go_big_quiet_skip
      | (go_big_quiet_want
         go_big_quiet_op
         first
           | go_big_quiet_on
           | (apply Exists.intro
              refine ⟨fun w1 hC => ?_, ?_⟩
              · first
                  | (go_at_call 62; with_reducible first | exact hC.call (HD1.out _) | exact hC.call (HD2.out _))
                  | (have m5 := (hC.blk HL5.out).cell; have a0 := m5 0; have a1 := m5 1; have m6 := (hC.blk HL6.out).cell; have b0 := m6 0; have b1 := m6 1; clear m5 m6; go_simp; exact rfl)
                  | (go_simp; exact ⟨rfl, rfl⟩)
              go_big_quiet_on)))
  refine wpQuiet_nil ?_
  intro W4 hC
  have HCC := Lib.hid (HB3.out.trans (hC.mono (Nat.le_of_lt HG3.out)))
  have HX4 := Lib.hid (HX3.out.keep (Below.block hC ge HG3.out))
  have HL54 := Lib.hid (hC.blk HL5.out)
  have HL64 := Lib.hid (hC.blk HL6.out)
  clear hC HX3 HG3 HB3 HL5 HL6 HD1 HD2
  go_upto_region 5 with fail
  obtain ⟨y0, y1, y2, y3, y4, y5, y6, y7, y8, y9⟩ := HX4.out.cells
  clear y0 y1 y3 y4 y5 y6 y7 y8 y9
  have a0 := HL54.out.cell 0
  have a1 := HL54.out.cell 1
  have b0 := HL64.out.cell 0
  have b1 := HL64.out.cell 1
  go_wp2_with fail
  go_ret
  exact ⟨rfl, by first | exact HCC.out | (rw [hge]; exact HCC.out)⟩
set_option maxRecDepth 100000 in
set_option maxHeartbeats 16000000 in
theorem rcl_1d (op r : Int) (st : S4) (ao ak : Option Addr) (n1 n2 cap ck na nb : Nat) (c : Ca) (la lb : Lv) (hs : sortA na = 3) (hr : r = 1) (hss : (la.s == lb.s) = false) (HLA : ∀ W, Calls Try.prog 61 #[.agg #[.int .i64 c.c1.u, .int .i64 c.c1.ro, .int .i64 c.c1.ty, .int .i64 c.c1.lo.s, .int .u64 c.c1.lo.c, .int .i64 c.c1.hi.s, .int .u64 c.c1.hi.c, .int .i64 c.c2.u, .int .i64 c.c2.ro, .int .i64 c.c2.ty, .int .i64 c.c2.lo.s, .int .u64 c.c2.lo.c, .int .i64 c.c2.hi.s, .int .u64 c.c2.hi.c, .int .i64 c.c3.u, .int .i64 c.c3.ro, .int .i64 c.c3.ty, .int .i64 c.c3.lo.s, .int .u64 c.c3.lo.c, .int .i64 c.c3.hi.s, .int .u64 c.c3.hi.c], .int .i64 na] W fun e w' => e = .returned (.agg #[.int .i64 la.s, .int .u64 la.c]) ∧ Below W.heap.size W w') (HLB : ∀ W, Calls Try.prog 61 #[.agg #[.int .i64 c.c1.u, .int .i64 c.c1.ro, .int .i64 c.c1.ty, .int .i64 c.c1.lo.s, .int .u64 c.c1.lo.c, .int .i64 c.c1.hi.s, .int .u64 c.c1.hi.c, .int .i64 c.c2.u, .int .i64 c.c2.ro, .int .i64 c.c2.ty, .int .i64 c.c2.lo.s, .int .u64 c.c2.lo.c, .int .i64 c.c2.hi.s, .int .u64 c.c2.hi.c, .int .i64 c.c3.u, .int .i64 c.c3.ro, .int .i64 c.c3.ty, .int .i64 c.c3.lo.s, .int .u64 c.c3.lo.c, .int .i64 c.c3.hi.s, .int .u64 c.c3.hi.c], .int .i64 nb] W fun e w' => e = .returned (.agg #[.int .i64 lb.s, .int .u64 lb.c]) ∧ Below W.heap.size W w') (w : World) :
    Calls Try.prog 39 #[.agg #[.int .i64 op, .int .i64 na, .int .i64 r, .int .i64 nb, .slice ao n1 cap, .int .u64 st.a, .int .u64 st.b, .int .u64 st.c, .int .u64 st.d, .slice ak n2 ck], .agg #[.int .i64 c.c1.u, .int .i64 c.c1.ro, .int .i64 c.c1.ty, .int .i64 c.c1.lo.s, .int .u64 c.c1.lo.c, .int .i64 c.c1.hi.s, .int .u64 c.c1.hi.c, .int .i64 c.c2.u, .int .i64 c.c2.ro, .int .i64 c.c2.ty, .int .i64 c.c2.lo.s, .int .u64 c.c2.lo.c, .int .i64 c.c2.hi.s, .int .u64 c.c2.hi.c, .int .i64 c.c3.u, .int .i64 c.c3.ro, .int .i64 c.c3.ty, .int .i64 c.c3.lo.s, .int .u64 c.c3.lo.c, .int .i64 c.c3.hi.s, .int .u64 c.c3.hi.c]] w fun e w' => e = .returned (.bool (true)) ∧ Below w.heap.size w w' := by
  have q0 : (r == 0) = false := by simp; omega
  have q1 : (r == 1) = true := by simp; omega
  have q2 : (r == 2) = false := by simp; omega
  have q3 : (r == 3) = false := by simp; omega
  clear hr
  have HSO := Lib.hid (rsort_c na)
  have p3' : (sortA na != 3) = false := by simpa using hs
  have HNA := Lib.hid HLA
  have HNB := Lib.hid HLB
  generalize sortA na = sa at *
  have HXC : Hid (XC ((w.alloc (.cells #[.int .i64 op, .int .i64 na, .int .i64 r, .int .i64 nb, .slice ao n1 cap, .int .u64 st.a, .int .u64 st.b, .int .u64 st.c, .int .u64 st.d, .slice ak n2 ck] 28)).alloc (.cells #[.int .i64 c.c1.u, .int .i64 c.c1.ro, .int .i64 c.c1.ty, .int .i64 c.c1.lo.s, .int .u64 c.c1.lo.c, .int .i64 c.c1.hi.s, .int .u64 c.c1.hi.c, .int .i64 c.c2.u, .int .i64 c.c2.ro, .int .i64 c.c2.ty, .int .i64 c.c2.lo.s, .int .u64 c.c2.lo.c, .int .i64 c.c2.hi.s, .int .u64 c.c2.hi.c, .int .i64 c.c3.u, .int .i64 c.c3.ro, .int .i64 c.c3.ty, .int .i64 c.c3.lo.s, .int .u64 c.c3.lo.c, .int .i64 c.c3.hi.s, .int .u64 c.c3.hi.c] 36)) w.heap.size 0 op na r nb ao n1 cap st ak n2 ck) := Lib.hid (XC.of_blk ((Blk.new w _ _).alloc _))
  have HC0 : Hid (Blk ((w.alloc (.cells #[.int .i64 op, .int .i64 na, .int .i64 r, .int .i64 nb, .slice ao n1 cap, .int .u64 st.a, .int .u64 st.b, .int .u64 st.c, .int .u64 st.d, .slice ak n2 ck] 28)).alloc (.cells #[.int .i64 c.c1.u, .int .i64 c.c1.ro, .int .i64 c.c1.ty, .int .i64 c.c1.lo.s, .int .u64 c.c1.lo.c, .int .i64 c.c1.hi.s, .int .u64 c.c1.hi.c, .int .i64 c.c2.u, .int .i64 c.c2.ro, .int .i64 c.c2.ty, .int .i64 c.c2.lo.s, .int .u64 c.c2.lo.c, .int .i64 c.c2.hi.s, .int .u64 c.c2.hi.c, .int .i64 c.c3.u, .int .i64 c.c3.ro, .int .i64 c.c3.ty, .int .i64 c.c3.lo.s, .int .u64 c.c3.lo.c, .int .i64 c.c3.hi.s, .int .u64 c.c3.hi.c] 36)) (w.heap.size + 1) 36 #[.int .i64 c.c1.u, .int .i64 c.c1.ro, .int .i64 c.c1.ty, .int .i64 c.c1.lo.s, .int .u64 c.c1.lo.c, .int .i64 c.c1.hi.s, .int .u64 c.c1.hi.c, .int .i64 c.c2.u, .int .i64 c.c2.ro, .int .i64 c.c2.ty, .int .i64 c.c2.lo.s, .int .u64 c.c2.lo.c, .int .i64 c.c2.hi.s, .int .u64 c.c2.hi.c, .int .i64 c.c3.u, .int .i64 c.c3.ro, .int .i64 c.c3.ty, .int .i64 c.c3.lo.s, .int .u64 c.c3.lo.c, .int .i64 c.c3.hi.s, .int .u64 c.c3.hi.c]) := Lib.hid (two_new' _ _ _ _)
  have HB : Hid (Below w.heap.size w ((w.alloc (.cells #[.int .i64 op, .int .i64 na, .int .i64 r, .int .i64 nb, .slice ao n1 cap, .int .u64 st.a, .int .u64 st.b, .int .u64 st.c, .int .u64 st.d, .slice ak n2 ck] 28)).alloc (.cells #[.int .i64 c.c1.u, .int .i64 c.c1.ro, .int .i64 c.c1.ty, .int .i64 c.c1.lo.s, .int .u64 c.c1.lo.c, .int .i64 c.c1.hi.s, .int .u64 c.c1.hi.c, .int .i64 c.c2.u, .int .i64 c.c2.ro, .int .i64 c.c2.ty, .int .i64 c.c2.lo.s, .int .u64 c.c2.lo.c, .int .i64 c.c2.hi.s, .int .u64 c.c2.hi.c, .int .i64 c.c3.u, .int .i64 c.c3.ro, .int .i64 c.c3.ty, .int .i64 c.c3.lo.s, .int .u64 c.c3.lo.c, .int .i64 c.c3.hi.s, .int .u64 c.c3.hi.c] 36))) := Lib.hid (((Below.refl _ _).alloc (Nat.le_refl _) _).alloc (by simp) _)
  have HG : Hid (w.heap.size < ((w.alloc (.cells #[.int .i64 op, .int .i64 na, .int .i64 r, .int .i64 nb, .slice ao n1 cap, .int .u64 st.a, .int .u64 st.b, .int .u64 st.c, .int .u64 st.d, .slice ak n2 ck] 28)).alloc (.cells #[.int .i64 c.c1.u, .int .i64 c.c1.ro, .int .i64 c.c1.ty, .int .i64 c.c1.lo.s, .int .u64 c.c1.lo.c, .int .i64 c.c1.hi.s, .int .u64 c.c1.hi.c, .int .i64 c.c2.u, .int .i64 c.c2.ro, .int .i64 c.c2.ty, .int .i64 c.c2.lo.s, .int .u64 c.c2.lo.c, .int .i64 c.c2.hi.s, .int .u64 c.c2.hi.c, .int .i64 c.c3.u, .int .i64 c.c3.ro, .int .i64 c.c3.ty, .int .i64 c.c3.lo.s, .int .u64 c.c3.lo.c, .int .i64 c.c3.hi.s, .int .u64 c.c3.hi.c] 36)).heap.size) := Lib.hid (by simp; omega)
  clear hs HLA HLB
  go_enter Try.func39, Try.ntmps39
  go_upto_region 1 with fail
  generalize (w.alloc (.cells #[.int .i64 op, .int .i64 na, .int .i64 r, .int .i64 nb, .slice ao n1 cap, .int .u64 st.a, .int .u64 st.b, .int .u64 st.c, .int .u64 st.d, .slice ak n2 ck] 28)).alloc (.cells #[.int .i64 c.c1.u, .int .i64 c.c1.ro, .int .i64 c.c1.ty, .int .i64 c.c1.lo.s, .int .u64 c.c1.lo.c, .int .i64 c.c1.hi.s, .int .u64 c.c1.hi.c, .int .i64 c.c2.u, .int .i64 c.c2.ro, .int .i64 c.c2.ty, .int .i64 c.c2.lo.s, .int .u64 c.c2.lo.c, .int .i64 c.c2.hi.s, .int .u64 c.c2.hi.c, .int .i64 c.c3.u, .int .i64 c.c3.ro, .int .i64 c.c3.ty, .int .i64 c.c3.lo.s, .int .u64 c.c3.lo.c, .int .i64 c.c3.hi.s, .int .u64 c.c3.hi.c] 36) = W at *
  have HLE : Hid (w.heap.size ≤ W.heap.size) := Lib.hid HB.out.size
  generalize w.heap.size + 1 = gc at *
  generalize hge : w.heap.size = ge at *
  obtain ⟨y0, y1, y2, y3, y4, y5, y6, y7, y8, y9⟩ := HXC.out.cells
  go_upto_region 3 with (go_at_call 43; (with_reducible refine (HSO.out _).mono ?_); rintro e w1 ⟨rfl, hb1⟩; have HB1 := Lib.hid (HB.out.trans (hb1.mono HLE.out)); have HX1 := Lib.hid (HXC.out.keep (hb1.block ge HG.out)); have HG1 := Lib.hid (Nat.lt_of_lt_of_le HG.out hb1.size); have HC := Lib.hid (HC0.out.keep hb1); clear hb1)
  clear HXC HC0 HB HG HLE y0 y1 y2 y3 y4 y5 y6 y7 y8 y9
  refine wp_region_phis 10 (cpPhi c ge na nb la lb w1) (fun i => i == 8 || i == 9) (by kernel_rfl) (by decide) (by kernel_rfl) (by kernel_rfl) (by kernel_rfl) (fun k v u u2 h hb => cpPhi_keep h hb) ?_ ?_
  · refine ⟨⟨trivial, fun A u hK hF => ?_⟩, ⟨trivial, fun A u hK hF => ?_⟩, ⟨trivial, fun A u hK hF => ?_⟩, ⟨trivial, fun A u hK hF => ?_⟩, ⟨trivial, fun A u hK hF => ?_⟩, ⟨trivial, fun A u hK hF => ?_⟩, ⟨trivial, fun A u hK hF => ?_⟩, ⟨trivial, fun A u hK hF => ?_⟩, ⟨trivial, fun A u hK hF => ?_⟩, ⟨trivial, fun A u hK hF => ?_⟩, trivial⟩
    · have f3 : A.tmps[3]?.getD undef = .pointer (some ⟨gc, 0, none⟩) := fact_none (hF 3) (by kernel_rfl)
      refine Gives.no ?_ rfl
      unfold Gives
      rw [run_load (.tmp 3) rfl (by rw [← f3]; simp [Act.eval]) (loadAt_case (Blk.keep HC.out hK))]
      exact gives_val (Below.refl _ _) rfl
    · have f2 : A.tmps[2]?.getD undef = .pointer (some ⟨ge, 0, none⟩) := fact_none (hF 2) (by kernel_rfl)
      refine Gives.no ?_ rfl
      unfold Gives
      go_simp
      exact gives_val (Below.refl _ _) rfl
    · have f27 : A.tmps[27]?.getD undef = .pointer (some ⟨ge, 1, none⟩) := fact_some (hF 27) (j := 1) (by kernel_rfl) (by kernel_rfl)
      obtain ⟨y0, y1, y2, y3, y4, y5, y6, y7, y8, y9⟩ := (HX1.out.keep (Below.block hK ge HG1.out)).cells
      refine Gives.no ?_ rfl
      unfold Gives
      go_simp
      exact gives_val (Below.refl _ _) rfl
    · have f26 : A.tmps[26]?.getD undef = .agg #[.int .i64 c.c1.u, .int .i64 c.c1.ro, .int .i64 c.c1.ty, .int .i64 c.c1.lo.s, .int .u64 c.c1.lo.c, .int .i64 c.c1.hi.s, .int .u64 c.c1.hi.c, .int .i64 c.c2.u, .int .i64 c.c2.ro, .int .i64 c.c2.ty, .int .i64 c.c2.lo.s, .int .u64 c.c2.lo.c, .int .i64 c.c2.hi.s, .int .u64 c.c2.hi.c, .int .i64 c.c3.u, .int .i64 c.c3.ro, .int .i64 c.c3.ty, .int .i64 c.c3.lo.s, .int .u64 c.c3.lo.c, .int .i64 c.c3.hi.s, .int .u64 c.c3.hi.c] := fact_some (hF 26) (j := 0) (by kernel_rfl) (by kernel_rfl)
      have f28 : A.tmps[28]?.getD undef = .int .i64 na := fact_some (hF 28) (j := 2) (by kernel_rfl) (by kernel_rfl)
      refine Gives.no ?_ rfl
      unfold Gives
      go_simp
      exact gives_enter (((HNA).out u).mono fun e w2 ⟨he, hb⟩ => ⟨_, he, hb, rfl⟩)
    · have f3 : A.tmps[3]?.getD undef = .pointer (some ⟨gc, 0, none⟩) := fact_none (hF 3) (by kernel_rfl)
      refine Gives.no ?_ rfl
      unfold Gives
      rw [run_load (.tmp 3) rfl (by rw [← f3]; simp [Act.eval]) (loadAt_case (Blk.keep HC.out hK))]
      exact gives_val (Below.refl _ _) rfl
    · have f2 : A.tmps[2]?.getD undef = .pointer (some ⟨ge, 0, none⟩) := fact_none (hF 2) (by kernel_rfl)
      refine Gives.no ?_ rfl
      unfold Gives
      go_simp
      exact gives_val (Below.refl _ _) rfl
    · have f31 : A.tmps[31]?.getD undef = .pointer (some ⟨ge, 3, none⟩) := fact_some (hF 31) (j := 5) (by kernel_rfl) (by kernel_rfl)
      obtain ⟨y0, y1, y2, y3, y4, y5, y6, y7, y8, y9⟩ := (HX1.out.keep (Below.block hK ge HG1.out)).cells
      refine Gives.no ?_ rfl
      unfold Gives
      go_simp
      exact gives_val (Below.refl _ _) rfl
    · have f30 : A.tmps[30]?.getD undef = .agg #[.int .i64 c.c1.u, .int .i64 c.c1.ro, .int .i64 c.c1.ty, .int .i64 c.c1.lo.s, .int .u64 c.c1.lo.c, .int .i64 c.c1.hi.s, .int .u64 c.c1.hi.c, .int .i64 c.c2.u, .int .i64 c.c2.ro, .int .i64 c.c2.ty, .int .i64 c.c2.lo.s, .int .u64 c.c2.lo.c, .int .i64 c.c2.hi.s, .int .u64 c.c2.hi.c, .int .i64 c.c3.u, .int .i64 c.c3.ro, .int .i64 c.c3.ty, .int .i64 c.c3.lo.s, .int .u64 c.c3.lo.c, .int .i64 c.c3.hi.s, .int .u64 c.c3.hi.c] := fact_some (hF 30) (j := 4) (by kernel_rfl) (by kernel_rfl)
      have f32 : A.tmps[32]?.getD undef = .int .i64 nb := fact_some (hF 32) (j := 6) (by kernel_rfl) (by kernel_rfl)
      refine Gives.no ?_ rfl
      unfold Gives
      go_simp
      exact gives_enter (((HNB).out u).mono fun e w2 ⟨he, hb⟩ => ⟨_, he, hb, rfl⟩)
    · unfold Gives
      go_simp
      refine gives_box2 (φ := cpPhi c ge na nb la lb w1 8) ?_
      exact ⟨_, rfl, hK.size, Blk.new _ _ _⟩
    · unfold Gives
      go_simp
      refine gives_box2 (φ := cpPhi c ge na nb la lb w1 9) ?_
      exact ⟨_, rfl, hK.size, Blk.new _ _ _⟩
  intro a0 W2 hC hsz hdf hF hN
  have ha := end_mask [false, false, false, false, false, true, true, false, false, false, false, false, false, false, false, false, false, false, false, false, false, false, false, false, false, false, true, true, true, true, true, true, true, true, false, false, false, false, false, false, false, false, false, false, false, false, false, false, false, false, false, false, false, false, false, false, false, false, false, false, false, false, false, false] hsz hdf hF (by kernel_rfl)
  have f29 : a0.tmps[29]?.getD undef = .agg #[.int .i64 la.s, .int .u64 la.c] := fact_end (hF 29) (j := 3) (by kernel_rfl)
  have f33 : a0.tmps[33]?.getD undef = .agg #[.int .i64 lb.s, .int .u64 lb.c] := fact_end (hF 33) (j := 7) (by kernel_rfl)
  obtain ⟨g5, f5, hg5, hb5⟩ : ∃ g, a0.tmps[5]?.getD undef = .pointer (some ⟨g, 0, none⟩) ∧ w1.heap.size ≤ g ∧ Blk W2 g 30 #[.int .i64 0, .int .u64 0] := fact_end (hF 5) (j := 8) (by kernel_rfl)
  obtain ⟨g6, f6, hg6, hb6⟩ : ∃ g, a0.tmps[6]?.getD undef = .pointer (some ⟨g, 0, none⟩) ∧ w1.heap.size ≤ g ∧ Blk W2 g 30 #[.int .i64 0, .int .u64 0] := fact_end (hF 6) (j := 9) (by kernel_rfl)
  have hne : g6 ≠ g5 := fun e => hN 8 9 5 6 (by decide) rfl rfl (by kernel_rfl) (by kernel_rfl) (by rw [f5, f6, e])
  rw [ha]
  clear ha hF hN
  simp only [cutM_yes, cutM_no, cutM_nil, Nat.reduceAdd]
  rw [f29, f33, f5, f6]
  clear f29 f33 f5 f6
  generalize a0.tmps[26]?.getD undef = s26
  generalize a0.tmps[27]?.getD undef = s27
  generalize a0.tmps[28]?.getD undef = s28
  generalize a0.tmps[30]?.getD undef = s30
  generalize a0.tmps[31]?.getD undef = s31
  generalize a0.tmps[32]?.getD undef = s32
  clear hsz hdf
  refine wpList_store_row (by rfl) _ _ rfl rfl (by rfl) [.int .i64 la.s, .int .u64 la.c] (.agg #[.int .i64 la.s, .int .u64 la.c]) (by rfl) rfl (size_lv _) hb5 rfl (by intro x hx; simp only [List.mem_cons, List.not_mem_nil, or_false] at hx; rcases hx with rfl | rfl <;> rfl) ?_
  refine wpList_store_row (by rfl) _ _ rfl rfl (by rfl) [.int .i64 lb.s, .int .u64 lb.c] (.agg #[.int .i64 lb.s, .int .u64 lb.c]) (by rfl) rfl (size_lv _) (hb6.other hne _) rfl (by intro x hx; simp only [List.mem_cons, List.not_mem_nil, or_false] at hx; rcases hx with rfl | rfl <;> rfl) ?_
  have HL5 : Hid (Blk ((W2.setRow g5 [.int .i64 la.s, .int .u64 la.c].toArray).setRow g6 [.int .i64 lb.s, .int .u64 lb.c].toArray) g5 30 #[.int .i64 la.s, .int .u64 la.c]) := Lib.hid ((hb5.row _).other (Ne.symm hne) _)
  have HL6 : Hid (Blk ((W2.setRow g5 [.int .i64 la.s, .int .u64 la.c].toArray).setRow g6 [.int .i64 lb.s, .int .u64 lb.c].toArray) g6 30 #[.int .i64 lb.s, .int .u64 lb.c]) := Lib.hid ((hb6.other hne _).row _)
  have HBW : Hid (Below w1.heap.size w1 ((W2.setRow g5 [.int .i64 la.s, .int .u64 la.c].toArray).setRow g6 [.int .i64 lb.s, .int .u64 lb.c].toArray)) := Lib.hid (below_row (below_row hC hg5 _) hg6 _)
  generalize (W2.setRow g5 [.int .i64 la.s, .int .u64 la.c].toArray).setRow g6 [.int .i64 lb.s, .int .u64 lb.c].toArray = W3 at *
  clear hC hb5 hb6 hg5 hg6 hne
  have HX3 := Lib.hid (HX1.out.keep (HBW.out.block ge HG1.out))
  have HG3 := Lib.hid (Nat.lt_of_lt_of_le HG1.out HBW.out.size)
  have HB3 := Lib.hid (HB1.out.trans (HBW.out.mono (Nat.le_of_lt HG1.out)))
  clear HX1 HG1 HB1 HBW HC
  have HD1 := Lib.hid (rdomX_c la lb)
  have HD2 := Lib.hid (rdomX_c lb la)
  go_upto_region 4 with fail
  refine wp_region_kp (by kernel_rfl) (by kernel_rfl) ?_
  repeat (first
      | go_big_quiet_skip
      | (go_big_quiet_want
         go_big_quiet_op
         first
           | go_big_quiet_on
           | (apply Exists.intro
              refine ⟨fun w1 hC => ?_, ?_⟩
              · first
                  | (go_at_call 62; with_reducible first | exact hC.call (HD1.out _) | exact hC.call (HD2.out _))
                  | (have m5 := (hC.blk HL5.out).cell; have a0 := m5 0; have a1 := m5 1; have m6 := (hC.blk HL6.out).cell; have b0 := m6 0; have b1 := m6 1; clear m5 m6; go_simp; exact rfl)
                  | (go_simp; exact ⟨rfl, rfl⟩)
              go_big_quiet_on)))
  refine wpQuiet_nil ?_
  intro W4 hC
  have HCC := Lib.hid (HB3.out.trans (hC.mono (Nat.le_of_lt HG3.out)))
  have HX4 := Lib.hid (HX3.out.keep (Below.block hC ge HG3.out))
  have HL54 := Lib.hid (hC.blk HL5.out)
  have HL64 := Lib.hid (hC.blk HL6.out)
  clear hC HX3 HG3 HB3 HL5 HL6 HD1 HD2
  go_upto_region 5 with fail
  obtain ⟨y0, y1, y2, y3, y4, y5, y6, y7, y8, y9⟩ := HX4.out.cells
  clear y0 y1 y3 y4 y5 y6 y7 y8 y9
  have a0 := HL54.out.cell 0
  have a1 := HL54.out.cell 1
  have b0 := HL64.out.cell 0
  have b1 := HL64.out.cell 1
  go_wp2_with fail
  go_ret
  exact ⟨rfl, by first | exact HCC.out | (rw [hge]; exact HCC.out)⟩
set_option maxRecDepth 100000 in
set_option maxHeartbeats 16000000 in
theorem rcl_1c (op r : Int) (st : S4) (ao ak : Option Addr) (n1 n2 cap ck na nb : Nat) (c : Ca) (la lb : Lv) (hs : sortA na = 3) (hr : r = 1) (hss : (la.s == lb.s) = true) (hcc : ((la.c : Int) == (lb.c : Int)) = false) (HLA : ∀ W, Calls Try.prog 61 #[.agg #[.int .i64 c.c1.u, .int .i64 c.c1.ro, .int .i64 c.c1.ty, .int .i64 c.c1.lo.s, .int .u64 c.c1.lo.c, .int .i64 c.c1.hi.s, .int .u64 c.c1.hi.c, .int .i64 c.c2.u, .int .i64 c.c2.ro, .int .i64 c.c2.ty, .int .i64 c.c2.lo.s, .int .u64 c.c2.lo.c, .int .i64 c.c2.hi.s, .int .u64 c.c2.hi.c, .int .i64 c.c3.u, .int .i64 c.c3.ro, .int .i64 c.c3.ty, .int .i64 c.c3.lo.s, .int .u64 c.c3.lo.c, .int .i64 c.c3.hi.s, .int .u64 c.c3.hi.c], .int .i64 na] W fun e w' => e = .returned (.agg #[.int .i64 la.s, .int .u64 la.c]) ∧ Below W.heap.size W w') (HLB : ∀ W, Calls Try.prog 61 #[.agg #[.int .i64 c.c1.u, .int .i64 c.c1.ro, .int .i64 c.c1.ty, .int .i64 c.c1.lo.s, .int .u64 c.c1.lo.c, .int .i64 c.c1.hi.s, .int .u64 c.c1.hi.c, .int .i64 c.c2.u, .int .i64 c.c2.ro, .int .i64 c.c2.ty, .int .i64 c.c2.lo.s, .int .u64 c.c2.lo.c, .int .i64 c.c2.hi.s, .int .u64 c.c2.hi.c, .int .i64 c.c3.u, .int .i64 c.c3.ro, .int .i64 c.c3.ty, .int .i64 c.c3.lo.s, .int .u64 c.c3.lo.c, .int .i64 c.c3.hi.s, .int .u64 c.c3.hi.c], .int .i64 nb] W fun e w' => e = .returned (.agg #[.int .i64 lb.s, .int .u64 lb.c]) ∧ Below W.heap.size W w') (w : World) :
    Calls Try.prog 39 #[.agg #[.int .i64 op, .int .i64 na, .int .i64 r, .int .i64 nb, .slice ao n1 cap, .int .u64 st.a, .int .u64 st.b, .int .u64 st.c, .int .u64 st.d, .slice ak n2 ck], .agg #[.int .i64 c.c1.u, .int .i64 c.c1.ro, .int .i64 c.c1.ty, .int .i64 c.c1.lo.s, .int .u64 c.c1.lo.c, .int .i64 c.c1.hi.s, .int .u64 c.c1.hi.c, .int .i64 c.c2.u, .int .i64 c.c2.ro, .int .i64 c.c2.ty, .int .i64 c.c2.lo.s, .int .u64 c.c2.lo.c, .int .i64 c.c2.hi.s, .int .u64 c.c2.hi.c, .int .i64 c.c3.u, .int .i64 c.c3.ro, .int .i64 c.c3.ty, .int .i64 c.c3.lo.s, .int .u64 c.c3.lo.c, .int .i64 c.c3.hi.s, .int .u64 c.c3.hi.c]] w fun e w' => e = .returned (.bool (true)) ∧ Below w.heap.size w w' := by
  have q0 : (r == 0) = false := by simp; omega
  have q1 : (r == 1) = true := by simp; omega
  have q2 : (r == 2) = false := by simp; omega
  have q3 : (r == 3) = false := by simp; omega
  clear hr
  have HSO := Lib.hid (rsort_c na)
  have p3' : (sortA na != 3) = false := by simpa using hs
  have HNA := Lib.hid HLA
  have HNB := Lib.hid HLB
  generalize sortA na = sa at *
  have HXC : Hid (XC ((w.alloc (.cells #[.int .i64 op, .int .i64 na, .int .i64 r, .int .i64 nb, .slice ao n1 cap, .int .u64 st.a, .int .u64 st.b, .int .u64 st.c, .int .u64 st.d, .slice ak n2 ck] 28)).alloc (.cells #[.int .i64 c.c1.u, .int .i64 c.c1.ro, .int .i64 c.c1.ty, .int .i64 c.c1.lo.s, .int .u64 c.c1.lo.c, .int .i64 c.c1.hi.s, .int .u64 c.c1.hi.c, .int .i64 c.c2.u, .int .i64 c.c2.ro, .int .i64 c.c2.ty, .int .i64 c.c2.lo.s, .int .u64 c.c2.lo.c, .int .i64 c.c2.hi.s, .int .u64 c.c2.hi.c, .int .i64 c.c3.u, .int .i64 c.c3.ro, .int .i64 c.c3.ty, .int .i64 c.c3.lo.s, .int .u64 c.c3.lo.c, .int .i64 c.c3.hi.s, .int .u64 c.c3.hi.c] 36)) w.heap.size 0 op na r nb ao n1 cap st ak n2 ck) := Lib.hid (XC.of_blk ((Blk.new w _ _).alloc _))
  have HC0 : Hid (Blk ((w.alloc (.cells #[.int .i64 op, .int .i64 na, .int .i64 r, .int .i64 nb, .slice ao n1 cap, .int .u64 st.a, .int .u64 st.b, .int .u64 st.c, .int .u64 st.d, .slice ak n2 ck] 28)).alloc (.cells #[.int .i64 c.c1.u, .int .i64 c.c1.ro, .int .i64 c.c1.ty, .int .i64 c.c1.lo.s, .int .u64 c.c1.lo.c, .int .i64 c.c1.hi.s, .int .u64 c.c1.hi.c, .int .i64 c.c2.u, .int .i64 c.c2.ro, .int .i64 c.c2.ty, .int .i64 c.c2.lo.s, .int .u64 c.c2.lo.c, .int .i64 c.c2.hi.s, .int .u64 c.c2.hi.c, .int .i64 c.c3.u, .int .i64 c.c3.ro, .int .i64 c.c3.ty, .int .i64 c.c3.lo.s, .int .u64 c.c3.lo.c, .int .i64 c.c3.hi.s, .int .u64 c.c3.hi.c] 36)) (w.heap.size + 1) 36 #[.int .i64 c.c1.u, .int .i64 c.c1.ro, .int .i64 c.c1.ty, .int .i64 c.c1.lo.s, .int .u64 c.c1.lo.c, .int .i64 c.c1.hi.s, .int .u64 c.c1.hi.c, .int .i64 c.c2.u, .int .i64 c.c2.ro, .int .i64 c.c2.ty, .int .i64 c.c2.lo.s, .int .u64 c.c2.lo.c, .int .i64 c.c2.hi.s, .int .u64 c.c2.hi.c, .int .i64 c.c3.u, .int .i64 c.c3.ro, .int .i64 c.c3.ty, .int .i64 c.c3.lo.s, .int .u64 c.c3.lo.c, .int .i64 c.c3.hi.s, .int .u64 c.c3.hi.c]) := Lib.hid (two_new' _ _ _ _)
  have HB : Hid (Below w.heap.size w ((w.alloc (.cells #[.int .i64 op, .int .i64 na, .int .i64 r, .int .i64 nb, .slice ao n1 cap, .int .u64 st.a, .int .u64 st.b, .int .u64 st.c, .int .u64 st.d, .slice ak n2 ck] 28)).alloc (.cells #[.int .i64 c.c1.u, .int .i64 c.c1.ro, .int .i64 c.c1.ty, .int .i64 c.c1.lo.s, .int .u64 c.c1.lo.c, .int .i64 c.c1.hi.s, .int .u64 c.c1.hi.c, .int .i64 c.c2.u, .int .i64 c.c2.ro, .int .i64 c.c2.ty, .int .i64 c.c2.lo.s, .int .u64 c.c2.lo.c, .int .i64 c.c2.hi.s, .int .u64 c.c2.hi.c, .int .i64 c.c3.u, .int .i64 c.c3.ro, .int .i64 c.c3.ty, .int .i64 c.c3.lo.s, .int .u64 c.c3.lo.c, .int .i64 c.c3.hi.s, .int .u64 c.c3.hi.c] 36))) := Lib.hid (((Below.refl _ _).alloc (Nat.le_refl _) _).alloc (by simp) _)
  have HG : Hid (w.heap.size < ((w.alloc (.cells #[.int .i64 op, .int .i64 na, .int .i64 r, .int .i64 nb, .slice ao n1 cap, .int .u64 st.a, .int .u64 st.b, .int .u64 st.c, .int .u64 st.d, .slice ak n2 ck] 28)).alloc (.cells #[.int .i64 c.c1.u, .int .i64 c.c1.ro, .int .i64 c.c1.ty, .int .i64 c.c1.lo.s, .int .u64 c.c1.lo.c, .int .i64 c.c1.hi.s, .int .u64 c.c1.hi.c, .int .i64 c.c2.u, .int .i64 c.c2.ro, .int .i64 c.c2.ty, .int .i64 c.c2.lo.s, .int .u64 c.c2.lo.c, .int .i64 c.c2.hi.s, .int .u64 c.c2.hi.c, .int .i64 c.c3.u, .int .i64 c.c3.ro, .int .i64 c.c3.ty, .int .i64 c.c3.lo.s, .int .u64 c.c3.lo.c, .int .i64 c.c3.hi.s, .int .u64 c.c3.hi.c] 36)).heap.size) := Lib.hid (by simp; omega)
  clear hs HLA HLB
  go_enter Try.func39, Try.ntmps39
  go_upto_region 1 with fail
  generalize (w.alloc (.cells #[.int .i64 op, .int .i64 na, .int .i64 r, .int .i64 nb, .slice ao n1 cap, .int .u64 st.a, .int .u64 st.b, .int .u64 st.c, .int .u64 st.d, .slice ak n2 ck] 28)).alloc (.cells #[.int .i64 c.c1.u, .int .i64 c.c1.ro, .int .i64 c.c1.ty, .int .i64 c.c1.lo.s, .int .u64 c.c1.lo.c, .int .i64 c.c1.hi.s, .int .u64 c.c1.hi.c, .int .i64 c.c2.u, .int .i64 c.c2.ro, .int .i64 c.c2.ty, .int .i64 c.c2.lo.s, .int .u64 c.c2.lo.c, .int .i64 c.c2.hi.s, .int .u64 c.c2.hi.c, .int .i64 c.c3.u, .int .i64 c.c3.ro, .int .i64 c.c3.ty, .int .i64 c.c3.lo.s, .int .u64 c.c3.lo.c, .int .i64 c.c3.hi.s, .int .u64 c.c3.hi.c] 36) = W at *
  have HLE : Hid (w.heap.size ≤ W.heap.size) := Lib.hid HB.out.size
  generalize w.heap.size + 1 = gc at *
  generalize hge : w.heap.size = ge at *
  obtain ⟨y0, y1, y2, y3, y4, y5, y6, y7, y8, y9⟩ := HXC.out.cells
  go_upto_region 3 with (go_at_call 43; (with_reducible refine (HSO.out _).mono ?_); rintro e w1 ⟨rfl, hb1⟩; have HB1 := Lib.hid (HB.out.trans (hb1.mono HLE.out)); have HX1 := Lib.hid (HXC.out.keep (hb1.block ge HG.out)); have HG1 := Lib.hid (Nat.lt_of_lt_of_le HG.out hb1.size); have HC := Lib.hid (HC0.out.keep hb1); clear hb1)
  clear HXC HC0 HB HG HLE y0 y1 y2 y3 y4 y5 y6 y7 y8 y9
  refine wp_region_phis 10 (cpPhi c ge na nb la lb w1) (fun i => i == 8 || i == 9) (by kernel_rfl) (by decide) (by kernel_rfl) (by kernel_rfl) (by kernel_rfl) (fun k v u u2 h hb => cpPhi_keep h hb) ?_ ?_
  · refine ⟨⟨trivial, fun A u hK hF => ?_⟩, ⟨trivial, fun A u hK hF => ?_⟩, ⟨trivial, fun A u hK hF => ?_⟩, ⟨trivial, fun A u hK hF => ?_⟩, ⟨trivial, fun A u hK hF => ?_⟩, ⟨trivial, fun A u hK hF => ?_⟩, ⟨trivial, fun A u hK hF => ?_⟩, ⟨trivial, fun A u hK hF => ?_⟩, ⟨trivial, fun A u hK hF => ?_⟩, ⟨trivial, fun A u hK hF => ?_⟩, trivial⟩
    · have f3 : A.tmps[3]?.getD undef = .pointer (some ⟨gc, 0, none⟩) := fact_none (hF 3) (by kernel_rfl)
      refine Gives.no ?_ rfl
      unfold Gives
      rw [run_load (.tmp 3) rfl (by rw [← f3]; simp [Act.eval]) (loadAt_case (Blk.keep HC.out hK))]
      exact gives_val (Below.refl _ _) rfl
    · have f2 : A.tmps[2]?.getD undef = .pointer (some ⟨ge, 0, none⟩) := fact_none (hF 2) (by kernel_rfl)
      refine Gives.no ?_ rfl
      unfold Gives
      go_simp
      exact gives_val (Below.refl _ _) rfl
    · have f27 : A.tmps[27]?.getD undef = .pointer (some ⟨ge, 1, none⟩) := fact_some (hF 27) (j := 1) (by kernel_rfl) (by kernel_rfl)
      obtain ⟨y0, y1, y2, y3, y4, y5, y6, y7, y8, y9⟩ := (HX1.out.keep (Below.block hK ge HG1.out)).cells
      refine Gives.no ?_ rfl
      unfold Gives
      go_simp
      exact gives_val (Below.refl _ _) rfl
    · have f26 : A.tmps[26]?.getD undef = .agg #[.int .i64 c.c1.u, .int .i64 c.c1.ro, .int .i64 c.c1.ty, .int .i64 c.c1.lo.s, .int .u64 c.c1.lo.c, .int .i64 c.c1.hi.s, .int .u64 c.c1.hi.c, .int .i64 c.c2.u, .int .i64 c.c2.ro, .int .i64 c.c2.ty, .int .i64 c.c2.lo.s, .int .u64 c.c2.lo.c, .int .i64 c.c2.hi.s, .int .u64 c.c2.hi.c, .int .i64 c.c3.u, .int .i64 c.c3.ro, .int .i64 c.c3.ty, .int .i64 c.c3.lo.s, .int .u64 c.c3.lo.c, .int .i64 c.c3.hi.s, .int .u64 c.c3.hi.c] := fact_some (hF 26) (j := 0) (by kernel_rfl) (by kernel_rfl)
      have f28 : A.tmps[28]?.getD undef = .int .i64 na := fact_some (hF 28) (j := 2) (by kernel_rfl) (by kernel_rfl)
      refine Gives.no ?_ rfl
      unfold Gives
      go_simp
      exact gives_enter (((HNA).out u).mono fun e w2 ⟨he, hb⟩ => ⟨_, he, hb, rfl⟩)
    · have f3 : A.tmps[3]?.getD undef = .pointer (some ⟨gc, 0, none⟩) := fact_none (hF 3) (by kernel_rfl)
      refine Gives.no ?_ rfl
      unfold Gives
      rw [run_load (.tmp 3) rfl (by rw [← f3]; simp [Act.eval]) (loadAt_case (Blk.keep HC.out hK))]
      exact gives_val (Below.refl _ _) rfl
    · have f2 : A.tmps[2]?.getD undef = .pointer (some ⟨ge, 0, none⟩) := fact_none (hF 2) (by kernel_rfl)
      refine Gives.no ?_ rfl
      unfold Gives
      go_simp
      exact gives_val (Below.refl _ _) rfl
    · have f31 : A.tmps[31]?.getD undef = .pointer (some ⟨ge, 3, none⟩) := fact_some (hF 31) (j := 5) (by kernel_rfl) (by kernel_rfl)
      obtain ⟨y0, y1, y2, y3, y4, y5, y6, y7, y8, y9⟩ := (HX1.out.keep (Below.block hK ge HG1.out)).cells
      refine Gives.no ?_ rfl
      unfold Gives
      go_simp
      exact gives_val (Below.refl _ _) rfl
    · have f30 : A.tmps[30]?.getD undef = .agg #[.int .i64 c.c1.u, .int .i64 c.c1.ro, .int .i64 c.c1.ty, .int .i64 c.c1.lo.s, .int .u64 c.c1.lo.c, .int .i64 c.c1.hi.s, .int .u64 c.c1.hi.c, .int .i64 c.c2.u, .int .i64 c.c2.ro, .int .i64 c.c2.ty, .int .i64 c.c2.lo.s, .int .u64 c.c2.lo.c, .int .i64 c.c2.hi.s, .int .u64 c.c2.hi.c, .int .i64 c.c3.u, .int .i64 c.c3.ro, .int .i64 c.c3.ty, .int .i64 c.c3.lo.s, .int .u64 c.c3.lo.c, .int .i64 c.c3.hi.s, .int .u64 c.c3.hi.c] := fact_some (hF 30) (j := 4) (by kernel_rfl) (by kernel_rfl)
      have f32 : A.tmps[32]?.getD undef = .int .i64 nb := fact_some (hF 32) (j := 6) (by kernel_rfl) (by kernel_rfl)
      refine Gives.no ?_ rfl
      unfold Gives
      go_simp
      exact gives_enter (((HNB).out u).mono fun e w2 ⟨he, hb⟩ => ⟨_, he, hb, rfl⟩)
    · unfold Gives
      go_simp
      refine gives_box2 (φ := cpPhi c ge na nb la lb w1 8) ?_
      exact ⟨_, rfl, hK.size, Blk.new _ _ _⟩
    · unfold Gives
      go_simp
      refine gives_box2 (φ := cpPhi c ge na nb la lb w1 9) ?_
      exact ⟨_, rfl, hK.size, Blk.new _ _ _⟩
  intro a0 W2 hC hsz hdf hF hN
  have ha := end_mask [false, false, false, false, false, true, true, false, false, false, false, false, false, false, false, false, false, false, false, false, false, false, false, false, false, false, true, true, true, true, true, true, true, true, false, false, false, false, false, false, false, false, false, false, false, false, false, false, false, false, false, false, false, false, false, false, false, false, false, false, false, false, false, false] hsz hdf hF (by kernel_rfl)
  have f29 : a0.tmps[29]?.getD undef = .agg #[.int .i64 la.s, .int .u64 la.c] := fact_end (hF 29) (j := 3) (by kernel_rfl)
  have f33 : a0.tmps[33]?.getD undef = .agg #[.int .i64 lb.s, .int .u64 lb.c] := fact_end (hF 33) (j := 7) (by kernel_rfl)
  obtain ⟨g5, f5, hg5, hb5⟩ : ∃ g, a0.tmps[5]?.getD undef = .pointer (some ⟨g, 0, none⟩) ∧ w1.heap.size ≤ g ∧ Blk W2 g 30 #[.int .i64 0, .int .u64 0] := fact_end (hF 5) (j := 8) (by kernel_rfl)
  obtain ⟨g6, f6, hg6, hb6⟩ : ∃ g, a0.tmps[6]?.getD undef = .pointer (some ⟨g, 0, none⟩) ∧ w1.heap.size ≤ g ∧ Blk W2 g 30 #[.int .i64 0, .int .u64 0] := fact_end (hF 6) (j := 9) (by kernel_rfl)
  have hne : g6 ≠ g5 := fun e => hN 8 9 5 6 (by decide) rfl rfl (by kernel_rfl) (by kernel_rfl) (by rw [f5, f6, e])
  rw [ha]
  clear ha hF hN
  simp only [cutM_yes, cutM_no, cutM_nil, Nat.reduceAdd]
  rw [f29, f33, f5, f6]
  clear f29 f33 f5 f6
  generalize a0.tmps[26]?.getD undef = s26
  generalize a0.tmps[27]?.getD undef = s27
  generalize a0.tmps[28]?.getD undef = s28
  generalize a0.tmps[30]?.getD undef = s30
  generalize a0.tmps[31]?.getD undef = s31
  generalize a0.tmps[32]?.getD undef = s32
  clear hsz hdf
  refine wpList_store_row (by rfl) _ _ rfl rfl (by rfl) [.int .i64 la.s, .int .u64 la.c] (.agg #[.int .i64 la.s, .int .u64 la.c]) (by rfl) rfl (size_lv _) hb5 rfl (by intro x hx; simp only [List.mem_cons, List.not_mem_nil, or_false] at hx; rcases hx with rfl | rfl <;> rfl) ?_
  refine wpList_store_row (by rfl) _ _ rfl rfl (by rfl) [.int .i64 lb.s, .int .u64 lb.c] (.agg #[.int .i64 lb.s, .int .u64 lb.c]) (by rfl) rfl (size_lv _) (hb6.other hne _) rfl (by intro x hx; simp only [List.mem_cons, List.not_mem_nil, or_false] at hx; rcases hx with rfl | rfl <;> rfl) ?_
  have HL5 : Hid (Blk ((W2.setRow g5 [.int .i64 la.s, .int .u64 la.c].toArray).setRow g6 [.int .i64 lb.s, .int .u64 lb.c].toArray) g5 30 #[.int .i64 la.s, .int .u64 la.c]) := Lib.hid ((hb5.row _).other (Ne.symm hne) _)
  have HL6 : Hid (Blk ((W2.setRow g5 [.int .i64 la.s, .int .u64 la.c].toArray).setRow g6 [.int .i64 lb.s, .int .u64 lb.c].toArray) g6 30 #[.int .i64 lb.s, .int .u64 lb.c]) := Lib.hid ((hb6.other hne _).row _)
  have HBW : Hid (Below w1.heap.size w1 ((W2.setRow g5 [.int .i64 la.s, .int .u64 la.c].toArray).setRow g6 [.int .i64 lb.s, .int .u64 lb.c].toArray)) := Lib.hid (below_row (below_row hC hg5 _) hg6 _)
  generalize (W2.setRow g5 [.int .i64 la.s, .int .u64 la.c].toArray).setRow g6 [.int .i64 lb.s, .int .u64 lb.c].toArray = W3 at *
  clear hC hb5 hb6 hg5 hg6 hne
  have HX3 := Lib.hid (HX1.out.keep (HBW.out.block ge HG1.out))
  have HG3 := Lib.hid (Nat.lt_of_lt_of_le HG1.out HBW.out.size)
  have HB3 := Lib.hid (HB1.out.trans (HBW.out.mono (Nat.le_of_lt HG1.out)))
  clear HX1 HG1 HB1 HBW HC
  have HD1 := Lib.hid (rdomX_c la lb)
  have HD2 := Lib.hid (rdomX_c lb la)
  go_upto_region 4 with fail
  refine wp_region_kp (by kernel_rfl) (by kernel_rfl) ?_
  repeat (first
      | go_big_quiet_skip
      | (go_big_quiet_want
         go_big_quiet_op
         first
           | go_big_quiet_on
           | (apply Exists.intro
              refine ⟨fun w1 hC => ?_, ?_⟩
              · first
                  | (go_at_call 62; with_reducible first | exact hC.call (HD1.out _) | exact hC.call (HD2.out _))
                  | (have m5 := (hC.blk HL5.out).cell; have a0 := m5 0; have a1 := m5 1; have m6 := (hC.blk HL6.out).cell; have b0 := m6 0; have b1 := m6 1; clear m5 m6; go_simp; exact rfl)
                  | (go_simp; exact ⟨rfl, rfl⟩)
              go_big_quiet_on)))
  refine wpQuiet_nil ?_
  intro W4 hC
  have HCC := Lib.hid (HB3.out.trans (hC.mono (Nat.le_of_lt HG3.out)))
  have HX4 := Lib.hid (HX3.out.keep (Below.block hC ge HG3.out))
  have HL54 := Lib.hid (hC.blk HL5.out)
  have HL64 := Lib.hid (hC.blk HL6.out)
  clear hC HX3 HG3 HB3 HL5 HL6 HD1 HD2
  go_upto_region 5 with fail
  obtain ⟨y0, y1, y2, y3, y4, y5, y6, y7, y8, y9⟩ := HX4.out.cells
  clear y0 y1 y3 y4 y5 y6 y7 y8 y9
  have a0 := HL54.out.cell 0
  have a1 := HL54.out.cell 1
  have b0 := HL64.out.cell 0
  have b1 := HL64.out.cell 1
  go_wp2_with fail
  go_ret
  exact ⟨rfl, by first | exact HCC.out | (rw [hge]; exact HCC.out)⟩
end Go.Proofs.Ytamcfmfkmekkfaa
/- The reference's compare: levels (2). -/
namespace Go.Proofs.Ytamcfmfkmekkfaa
open Go.RowKit Go
set_option maxRecDepth 100000 in
set_option maxHeartbeats 16000000 in
theorem rcl_2 (op r : Int) (st : S4) (ao ak : Option Addr) (n1 n2 cap ck na nb : Nat) (c : Ca) (la lb : Lv) (hs : sortA na = 3) (hr : r = 2) (HLA : ∀ W, Calls Try.prog 61 #[.agg #[.int .i64 c.c1.u, .int .i64 c.c1.ro, .int .i64 c.c1.ty, .int .i64 c.c1.lo.s, .int .u64 c.c1.lo.c, .int .i64 c.c1.hi.s, .int .u64 c.c1.hi.c, .int .i64 c.c2.u, .int .i64 c.c2.ro, .int .i64 c.c2.ty, .int .i64 c.c2.lo.s, .int .u64 c.c2.lo.c, .int .i64 c.c2.hi.s, .int .u64 c.c2.hi.c, .int .i64 c.c3.u, .int .i64 c.c3.ro, .int .i64 c.c3.ty, .int .i64 c.c3.lo.s, .int .u64 c.c3.lo.c, .int .i64 c.c3.hi.s, .int .u64 c.c3.hi.c], .int .i64 na] W fun e w' => e = .returned (.agg #[.int .i64 la.s, .int .u64 la.c]) ∧ Below W.heap.size W w') (HLB : ∀ W, Calls Try.prog 61 #[.agg #[.int .i64 c.c1.u, .int .i64 c.c1.ro, .int .i64 c.c1.ty, .int .i64 c.c1.lo.s, .int .u64 c.c1.lo.c, .int .i64 c.c1.hi.s, .int .u64 c.c1.hi.c, .int .i64 c.c2.u, .int .i64 c.c2.ro, .int .i64 c.c2.ty, .int .i64 c.c2.lo.s, .int .u64 c.c2.lo.c, .int .i64 c.c2.hi.s, .int .u64 c.c2.hi.c, .int .i64 c.c3.u, .int .i64 c.c3.ro, .int .i64 c.c3.ty, .int .i64 c.c3.lo.s, .int .u64 c.c3.lo.c, .int .i64 c.c3.hi.s, .int .u64 c.c3.hi.c], .int .i64 nb] W fun e w' => e = .returned (.agg #[.int .i64 lb.s, .int .u64 lb.c]) ∧ Below W.heap.size W w') (w : World) :
    Calls Try.prog 39 #[.agg #[.int .i64 op, .int .i64 na, .int .i64 r, .int .i64 nb, .slice ao n1 cap, .int .u64 st.a, .int .u64 st.b, .int .u64 st.c, .int .u64 st.d, .slice ak n2 ck], .agg #[.int .i64 c.c1.u, .int .i64 c.c1.ro, .int .i64 c.c1.ty, .int .i64 c.c1.lo.s, .int .u64 c.c1.lo.c, .int .i64 c.c1.hi.s, .int .u64 c.c1.hi.c, .int .i64 c.c2.u, .int .i64 c.c2.ro, .int .i64 c.c2.ty, .int .i64 c.c2.lo.s, .int .u64 c.c2.lo.c, .int .i64 c.c2.hi.s, .int .u64 c.c2.hi.c, .int .i64 c.c3.u, .int .i64 c.c3.ro, .int .i64 c.c3.ty, .int .i64 c.c3.lo.s, .int .u64 c.c3.lo.c, .int .i64 c.c3.hi.s, .int .u64 c.c3.hi.c]] w fun e w' => e = .returned (.bool (domX la lb)) ∧ Below w.heap.size w w' := by
  have q0 : (r == 0) = false := by simp; omega
  have q1 : (r == 1) = false := by simp; omega
  have q2 : (r == 2) = true := by simp; omega
  have q3 : (r == 3) = false := by simp; omega
  clear hr
  have HSO := Lib.hid (rsort_c na)
  have p3' : (sortA na != 3) = false := by simpa using hs
  have HNA := Lib.hid HLA
  have HNB := Lib.hid HLB
  generalize sortA na = sa at *
  have HXC : Hid (XC ((w.alloc (.cells #[.int .i64 op, .int .i64 na, .int .i64 r, .int .i64 nb, .slice ao n1 cap, .int .u64 st.a, .int .u64 st.b, .int .u64 st.c, .int .u64 st.d, .slice ak n2 ck] 28)).alloc (.cells #[.int .i64 c.c1.u, .int .i64 c.c1.ro, .int .i64 c.c1.ty, .int .i64 c.c1.lo.s, .int .u64 c.c1.lo.c, .int .i64 c.c1.hi.s, .int .u64 c.c1.hi.c, .int .i64 c.c2.u, .int .i64 c.c2.ro, .int .i64 c.c2.ty, .int .i64 c.c2.lo.s, .int .u64 c.c2.lo.c, .int .i64 c.c2.hi.s, .int .u64 c.c2.hi.c, .int .i64 c.c3.u, .int .i64 c.c3.ro, .int .i64 c.c3.ty, .int .i64 c.c3.lo.s, .int .u64 c.c3.lo.c, .int .i64 c.c3.hi.s, .int .u64 c.c3.hi.c] 36)) w.heap.size 0 op na r nb ao n1 cap st ak n2 ck) := Lib.hid (XC.of_blk ((Blk.new w _ _).alloc _))
  have HC0 : Hid (Blk ((w.alloc (.cells #[.int .i64 op, .int .i64 na, .int .i64 r, .int .i64 nb, .slice ao n1 cap, .int .u64 st.a, .int .u64 st.b, .int .u64 st.c, .int .u64 st.d, .slice ak n2 ck] 28)).alloc (.cells #[.int .i64 c.c1.u, .int .i64 c.c1.ro, .int .i64 c.c1.ty, .int .i64 c.c1.lo.s, .int .u64 c.c1.lo.c, .int .i64 c.c1.hi.s, .int .u64 c.c1.hi.c, .int .i64 c.c2.u, .int .i64 c.c2.ro, .int .i64 c.c2.ty, .int .i64 c.c2.lo.s, .int .u64 c.c2.lo.c, .int .i64 c.c2.hi.s, .int .u64 c.c2.hi.c, .int .i64 c.c3.u, .int .i64 c.c3.ro, .int .i64 c.c3.ty, .int .i64 c.c3.lo.s, .int .u64 c.c3.lo.c, .int .i64 c.c3.hi.s, .int .u64 c.c3.hi.c] 36)) (w.heap.size + 1) 36 #[.int .i64 c.c1.u, .int .i64 c.c1.ro, .int .i64 c.c1.ty, .int .i64 c.c1.lo.s, .int .u64 c.c1.lo.c, .int .i64 c.c1.hi.s, .int .u64 c.c1.hi.c, .int .i64 c.c2.u, .int .i64 c.c2.ro, .int .i64 c.c2.ty, .int .i64 c.c2.lo.s, .int .u64 c.c2.lo.c, .int .i64 c.c2.hi.s, .int .u64 c.c2.hi.c, .int .i64 c.c3.u, .int .i64 c.c3.ro, .int .i64 c.c3.ty, .int .i64 c.c3.lo.s, .int .u64 c.c3.lo.c, .int .i64 c.c3.hi.s, .int .u64 c.c3.hi.c]) := Lib.hid (two_new' _ _ _ _)
  have HB : Hid (Below w.heap.size w ((w.alloc (.cells #[.int .i64 op, .int .i64 na, .int .i64 r, .int .i64 nb, .slice ao n1 cap, .int .u64 st.a, .int .u64 st.b, .int .u64 st.c, .int .u64 st.d, .slice ak n2 ck] 28)).alloc (.cells #[.int .i64 c.c1.u, .int .i64 c.c1.ro, .int .i64 c.c1.ty, .int .i64 c.c1.lo.s, .int .u64 c.c1.lo.c, .int .i64 c.c1.hi.s, .int .u64 c.c1.hi.c, .int .i64 c.c2.u, .int .i64 c.c2.ro, .int .i64 c.c2.ty, .int .i64 c.c2.lo.s, .int .u64 c.c2.lo.c, .int .i64 c.c2.hi.s, .int .u64 c.c2.hi.c, .int .i64 c.c3.u, .int .i64 c.c3.ro, .int .i64 c.c3.ty, .int .i64 c.c3.lo.s, .int .u64 c.c3.lo.c, .int .i64 c.c3.hi.s, .int .u64 c.c3.hi.c] 36))) := Lib.hid (((Below.refl _ _).alloc (Nat.le_refl _) _).alloc (by simp) _)
  have HG : Hid (w.heap.size < ((w.alloc (.cells #[.int .i64 op, .int .i64 na, .int .i64 r, .int .i64 nb, .slice ao n1 cap, .int .u64 st.a, .int .u64 st.b, .int .u64 st.c, .int .u64 st.d, .slice ak n2 ck] 28)).alloc (.cells #[.int .i64 c.c1.u, .int .i64 c.c1.ro, .int .i64 c.c1.ty, .int .i64 c.c1.lo.s, .int .u64 c.c1.lo.c, .int .i64 c.c1.hi.s, .int .u64 c.c1.hi.c, .int .i64 c.c2.u, .int .i64 c.c2.ro, .int .i64 c.c2.ty, .int .i64 c.c2.lo.s, .int .u64 c.c2.lo.c, .int .i64 c.c2.hi.s, .int .u64 c.c2.hi.c, .int .i64 c.c3.u, .int .i64 c.c3.ro, .int .i64 c.c3.ty, .int .i64 c.c3.lo.s, .int .u64 c.c3.lo.c, .int .i64 c.c3.hi.s, .int .u64 c.c3.hi.c] 36)).heap.size) := Lib.hid (by simp; omega)
  clear hs HLA HLB
  go_enter Try.func39, Try.ntmps39
  go_upto_region 1 with fail
  generalize (w.alloc (.cells #[.int .i64 op, .int .i64 na, .int .i64 r, .int .i64 nb, .slice ao n1 cap, .int .u64 st.a, .int .u64 st.b, .int .u64 st.c, .int .u64 st.d, .slice ak n2 ck] 28)).alloc (.cells #[.int .i64 c.c1.u, .int .i64 c.c1.ro, .int .i64 c.c1.ty, .int .i64 c.c1.lo.s, .int .u64 c.c1.lo.c, .int .i64 c.c1.hi.s, .int .u64 c.c1.hi.c, .int .i64 c.c2.u, .int .i64 c.c2.ro, .int .i64 c.c2.ty, .int .i64 c.c2.lo.s, .int .u64 c.c2.lo.c, .int .i64 c.c2.hi.s, .int .u64 c.c2.hi.c, .int .i64 c.c3.u, .int .i64 c.c3.ro, .int .i64 c.c3.ty, .int .i64 c.c3.lo.s, .int .u64 c.c3.lo.c, .int .i64 c.c3.hi.s, .int .u64 c.c3.hi.c] 36) = W at *
  have HLE : Hid (w.heap.size ≤ W.heap.size) := Lib.hid HB.out.size
  generalize w.heap.size + 1 = gc at *
  generalize hge : w.heap.size = ge at *
  obtain ⟨y0, y1, y2, y3, y4, y5, y6, y7, y8, y9⟩ := HXC.out.cells
  go_upto_region 3 with (go_at_call 43; (with_reducible refine (HSO.out _).mono ?_); rintro e w1 ⟨rfl, hb1⟩; have HB1 := Lib.hid (HB.out.trans (hb1.mono HLE.out)); have HX1 := Lib.hid (HXC.out.keep (hb1.block ge HG.out)); have HG1 := Lib.hid (Nat.lt_of_lt_of_le HG.out hb1.size); have HC := Lib.hid (HC0.out.keep hb1); clear hb1)
  clear HXC HC0 HB HG HLE y0 y1 y2 y3 y4 y5 y6 y7 y8 y9
  refine wp_region_phis 10 (cpPhi c ge na nb la lb w1) (fun i => i == 8 || i == 9) (by kernel_rfl) (by decide) (by kernel_rfl) (by kernel_rfl) (by kernel_rfl) (fun k v u u2 h hb => cpPhi_keep h hb) ?_ ?_
  · refine ⟨⟨trivial, fun A u hK hF => ?_⟩, ⟨trivial, fun A u hK hF => ?_⟩, ⟨trivial, fun A u hK hF => ?_⟩, ⟨trivial, fun A u hK hF => ?_⟩, ⟨trivial, fun A u hK hF => ?_⟩, ⟨trivial, fun A u hK hF => ?_⟩, ⟨trivial, fun A u hK hF => ?_⟩, ⟨trivial, fun A u hK hF => ?_⟩, ⟨trivial, fun A u hK hF => ?_⟩, ⟨trivial, fun A u hK hF => ?_⟩, trivial⟩
    · have f3 : A.tmps[3]?.getD undef = .pointer (some ⟨gc, 0, none⟩) := fact_none (hF 3) (by kernel_rfl)
      refine Gives.no ?_ rfl
      unfold Gives
      rw [run_load (.tmp 3) rfl (by rw [← f3]; simp [Act.eval]) (loadAt_case (Blk.keep HC.out hK))]
      exact gives_val (Below.refl _ _) rfl
    · have f2 : A.tmps[2]?.getD undef = .pointer (some ⟨ge, 0, none⟩) := fact_none (hF 2) (by kernel_rfl)
      refine Gives.no ?_ rfl
      unfold Gives
      go_simp
      exact gives_val (Below.refl _ _) rfl
    · have f27 : A.tmps[27]?.getD undef = .pointer (some ⟨ge, 1, none⟩) := fact_some (hF 27) (j := 1) (by kernel_rfl) (by kernel_rfl)
      obtain ⟨y0, y1, y2, y3, y4, y5, y6, y7, y8, y9⟩ := (HX1.out.keep (Below.block hK ge HG1.out)).cells
      refine Gives.no ?_ rfl
      unfold Gives
      go_simp
      exact gives_val (Below.refl _ _) rfl
    · have f26 : A.tmps[26]?.getD undef = .agg #[.int .i64 c.c1.u, .int .i64 c.c1.ro, .int .i64 c.c1.ty, .int .i64 c.c1.lo.s, .int .u64 c.c1.lo.c, .int .i64 c.c1.hi.s, .int .u64 c.c1.hi.c, .int .i64 c.c2.u, .int .i64 c.c2.ro, .int .i64 c.c2.ty, .int .i64 c.c2.lo.s, .int .u64 c.c2.lo.c, .int .i64 c.c2.hi.s, .int .u64 c.c2.hi.c, .int .i64 c.c3.u, .int .i64 c.c3.ro, .int .i64 c.c3.ty, .int .i64 c.c3.lo.s, .int .u64 c.c3.lo.c, .int .i64 c.c3.hi.s, .int .u64 c.c3.hi.c] := fact_some (hF 26) (j := 0) (by kernel_rfl) (by kernel_rfl)
      have f28 : A.tmps[28]?.getD undef = .int .i64 na := fact_some (hF 28) (j := 2) (by kernel_rfl) (by kernel_rfl)
      refine Gives.no ?_ rfl
      unfold Gives
      go_simp
      exact gives_enter (((HNA).out u).mono fun e w2 ⟨he, hb⟩ => ⟨_, he, hb, rfl⟩)
    · have f3 : A.tmps[3]?.getD undef = .pointer (some ⟨gc, 0, none⟩) := fact_none (hF 3) (by kernel_rfl)
      refine Gives.no ?_ rfl
      unfold Gives
      rw [run_load (.tmp 3) rfl (by rw [← f3]; simp [Act.eval]) (loadAt_case (Blk.keep HC.out hK))]
      exact gives_val (Below.refl _ _) rfl
    · have f2 : A.tmps[2]?.getD undef = .pointer (some ⟨ge, 0, none⟩) := fact_none (hF 2) (by kernel_rfl)
      refine Gives.no ?_ rfl
      unfold Gives
      go_simp
      exact gives_val (Below.refl _ _) rfl
    · have f31 : A.tmps[31]?.getD undef = .pointer (some ⟨ge, 3, none⟩) := fact_some (hF 31) (j := 5) (by kernel_rfl) (by kernel_rfl)
      obtain ⟨y0, y1, y2, y3, y4, y5, y6, y7, y8, y9⟩ := (HX1.out.keep (Below.block hK ge HG1.out)).cells
      refine Gives.no ?_ rfl
      unfold Gives
      go_simp
      exact gives_val (Below.refl _ _) rfl
    · have f30 : A.tmps[30]?.getD undef = .agg #[.int .i64 c.c1.u, .int .i64 c.c1.ro, .int .i64 c.c1.ty, .int .i64 c.c1.lo.s, .int .u64 c.c1.lo.c, .int .i64 c.c1.hi.s, .int .u64 c.c1.hi.c, .int .i64 c.c2.u, .int .i64 c.c2.ro, .int .i64 c.c2.ty, .int .i64 c.c2.lo.s, .int .u64 c.c2.lo.c, .int .i64 c.c2.hi.s, .int .u64 c.c2.hi.c, .int .i64 c.c3.u, .int .i64 c.c3.ro, .int .i64 c.c3.ty, .int .i64 c.c3.lo.s, .int .u64 c.c3.lo.c, .int .i64 c.c3.hi.s, .int .u64 c.c3.hi.c] := fact_some (hF 30) (j := 4) (by kernel_rfl) (by kernel_rfl)
      have f32 : A.tmps[32]?.getD undef = .int .i64 nb := fact_some (hF 32) (j := 6) (by kernel_rfl) (by kernel_rfl)
      refine Gives.no ?_ rfl
      unfold Gives
      go_simp
      exact gives_enter (((HNB).out u).mono fun e w2 ⟨he, hb⟩ => ⟨_, he, hb, rfl⟩)
    · unfold Gives
      go_simp
      refine gives_box2 (φ := cpPhi c ge na nb la lb w1 8) ?_
      exact ⟨_, rfl, hK.size, Blk.new _ _ _⟩
    · unfold Gives
      go_simp
      refine gives_box2 (φ := cpPhi c ge na nb la lb w1 9) ?_
      exact ⟨_, rfl, hK.size, Blk.new _ _ _⟩
  intro a0 W2 hC hsz hdf hF hN
  have ha := end_mask [false, false, false, false, false, true, true, false, false, false, false, false, false, false, false, false, false, false, false, false, false, false, false, false, false, false, true, true, true, true, true, true, true, true, false, false, false, false, false, false, false, false, false, false, false, false, false, false, false, false, false, false, false, false, false, false, false, false, false, false, false, false, false, false] hsz hdf hF (by kernel_rfl)
  have f29 : a0.tmps[29]?.getD undef = .agg #[.int .i64 la.s, .int .u64 la.c] := fact_end (hF 29) (j := 3) (by kernel_rfl)
  have f33 : a0.tmps[33]?.getD undef = .agg #[.int .i64 lb.s, .int .u64 lb.c] := fact_end (hF 33) (j := 7) (by kernel_rfl)
  obtain ⟨g5, f5, hg5, hb5⟩ : ∃ g, a0.tmps[5]?.getD undef = .pointer (some ⟨g, 0, none⟩) ∧ w1.heap.size ≤ g ∧ Blk W2 g 30 #[.int .i64 0, .int .u64 0] := fact_end (hF 5) (j := 8) (by kernel_rfl)
  obtain ⟨g6, f6, hg6, hb6⟩ : ∃ g, a0.tmps[6]?.getD undef = .pointer (some ⟨g, 0, none⟩) ∧ w1.heap.size ≤ g ∧ Blk W2 g 30 #[.int .i64 0, .int .u64 0] := fact_end (hF 6) (j := 9) (by kernel_rfl)
  have hne : g6 ≠ g5 := fun e => hN 8 9 5 6 (by decide) rfl rfl (by kernel_rfl) (by kernel_rfl) (by rw [f5, f6, e])
  rw [ha]
  clear ha hF hN
  simp only [cutM_yes, cutM_no, cutM_nil, Nat.reduceAdd]
  rw [f29, f33, f5, f6]
  clear f29 f33 f5 f6
  generalize a0.tmps[26]?.getD undef = s26
  generalize a0.tmps[27]?.getD undef = s27
  generalize a0.tmps[28]?.getD undef = s28
  generalize a0.tmps[30]?.getD undef = s30
  generalize a0.tmps[31]?.getD undef = s31
  generalize a0.tmps[32]?.getD undef = s32
  clear hsz hdf
  refine wpList_store_row (by rfl) _ _ rfl rfl (by rfl) [.int .i64 la.s, .int .u64 la.c] (.agg #[.int .i64 la.s, .int .u64 la.c]) (by rfl) rfl (size_lv _) hb5 rfl (by intro x hx; simp only [List.mem_cons, List.not_mem_nil, or_false] at hx; rcases hx with rfl | rfl <;> rfl) ?_
  refine wpList_store_row (by rfl) _ _ rfl rfl (by rfl) [.int .i64 lb.s, .int .u64 lb.c] (.agg #[.int .i64 lb.s, .int .u64 lb.c]) (by rfl) rfl (size_lv _) (hb6.other hne _) rfl (by intro x hx; simp only [List.mem_cons, List.not_mem_nil, or_false] at hx; rcases hx with rfl | rfl <;> rfl) ?_
  have HL5 : Hid (Blk ((W2.setRow g5 [.int .i64 la.s, .int .u64 la.c].toArray).setRow g6 [.int .i64 lb.s, .int .u64 lb.c].toArray) g5 30 #[.int .i64 la.s, .int .u64 la.c]) := Lib.hid ((hb5.row _).other (Ne.symm hne) _)
  have HL6 : Hid (Blk ((W2.setRow g5 [.int .i64 la.s, .int .u64 la.c].toArray).setRow g6 [.int .i64 lb.s, .int .u64 lb.c].toArray) g6 30 #[.int .i64 lb.s, .int .u64 lb.c]) := Lib.hid ((hb6.other hne _).row _)
  have HBW : Hid (Below w1.heap.size w1 ((W2.setRow g5 [.int .i64 la.s, .int .u64 la.c].toArray).setRow g6 [.int .i64 lb.s, .int .u64 lb.c].toArray)) := Lib.hid (below_row (below_row hC hg5 _) hg6 _)
  generalize (W2.setRow g5 [.int .i64 la.s, .int .u64 la.c].toArray).setRow g6 [.int .i64 lb.s, .int .u64 lb.c].toArray = W3 at *
  clear hC hb5 hb6 hg5 hg6 hne
  have HX3 := Lib.hid (HX1.out.keep (HBW.out.block ge HG1.out))
  have HG3 := Lib.hid (Nat.lt_of_lt_of_le HG1.out HBW.out.size)
  have HB3 := Lib.hid (HB1.out.trans (HBW.out.mono (Nat.le_of_lt HG1.out)))
  clear HX1 HG1 HB1 HBW HC
  have HD1 := Lib.hid (rdomX_c la lb)
  have HD2 := Lib.hid (rdomX_c lb la)
  go_upto_region 4 with fail
  refine wp_region_kp (by kernel_rfl) (by kernel_rfl) ?_
  repeat (first
      | go_big_quiet_skip
      | (go_big_quiet_want
         go_big_quiet_op
         first
           | go_big_quiet_on
           | (apply Exists.intro
              refine ⟨fun w1 hC => ?_, ?_⟩
              · first
                  | (go_at_call 62; with_reducible first | exact hC.call (HD1.out _) | exact hC.call (HD2.out _))
                  | (have m5 := (hC.blk HL5.out).cell; have a0 := m5 0; have a1 := m5 1; have m6 := (hC.blk HL6.out).cell; have b0 := m6 0; have b1 := m6 1; clear m5 m6; go_simp; exact rfl)
                  | (go_simp; exact ⟨rfl, rfl⟩)
              go_big_quiet_on)))
  refine wpQuiet_nil ?_
  intro W4 hC
  have HCC := Lib.hid (HB3.out.trans (hC.mono (Nat.le_of_lt HG3.out)))
  have HX4 := Lib.hid (HX3.out.keep (Below.block hC ge HG3.out))
  have HL54 := Lib.hid (hC.blk HL5.out)
  have HL64 := Lib.hid (hC.blk HL6.out)
  clear hC HX3 HG3 HB3 HL5 HL6 HD1 HD2
  go_upto_region 5 with fail
  obtain ⟨y0, y1, y2, y3, y4, y5, y6, y7, y8, y9⟩ := HX4.out.cells
  clear y0 y1 y3 y4 y5 y6 y7 y8 y9
  go_wp2_with fail
  go_ret
  exact ⟨rfl, by first | exact HCC.out | (rw [hge]; exact HCC.out)⟩
set_option maxRecDepth 100000 in
set_option maxHeartbeats 16000000 in
theorem rcl_3 (op r : Int) (st : S4) (ao ak : Option Addr) (n1 n2 cap ck na nb : Nat) (c : Ca) (la lb : Lv) (hs : sortA na = 3) (hr : r = 3) (HLA : ∀ W, Calls Try.prog 61 #[.agg #[.int .i64 c.c1.u, .int .i64 c.c1.ro, .int .i64 c.c1.ty, .int .i64 c.c1.lo.s, .int .u64 c.c1.lo.c, .int .i64 c.c1.hi.s, .int .u64 c.c1.hi.c, .int .i64 c.c2.u, .int .i64 c.c2.ro, .int .i64 c.c2.ty, .int .i64 c.c2.lo.s, .int .u64 c.c2.lo.c, .int .i64 c.c2.hi.s, .int .u64 c.c2.hi.c, .int .i64 c.c3.u, .int .i64 c.c3.ro, .int .i64 c.c3.ty, .int .i64 c.c3.lo.s, .int .u64 c.c3.lo.c, .int .i64 c.c3.hi.s, .int .u64 c.c3.hi.c], .int .i64 na] W fun e w' => e = .returned (.agg #[.int .i64 la.s, .int .u64 la.c]) ∧ Below W.heap.size W w') (HLB : ∀ W, Calls Try.prog 61 #[.agg #[.int .i64 c.c1.u, .int .i64 c.c1.ro, .int .i64 c.c1.ty, .int .i64 c.c1.lo.s, .int .u64 c.c1.lo.c, .int .i64 c.c1.hi.s, .int .u64 c.c1.hi.c, .int .i64 c.c2.u, .int .i64 c.c2.ro, .int .i64 c.c2.ty, .int .i64 c.c2.lo.s, .int .u64 c.c2.lo.c, .int .i64 c.c2.hi.s, .int .u64 c.c2.hi.c, .int .i64 c.c3.u, .int .i64 c.c3.ro, .int .i64 c.c3.ty, .int .i64 c.c3.lo.s, .int .u64 c.c3.lo.c, .int .i64 c.c3.hi.s, .int .u64 c.c3.hi.c], .int .i64 nb] W fun e w' => e = .returned (.agg #[.int .i64 lb.s, .int .u64 lb.c]) ∧ Below W.heap.size W w') (w : World) :
    Calls Try.prog 39 #[.agg #[.int .i64 op, .int .i64 na, .int .i64 r, .int .i64 nb, .slice ao n1 cap, .int .u64 st.a, .int .u64 st.b, .int .u64 st.c, .int .u64 st.d, .slice ak n2 ck], .agg #[.int .i64 c.c1.u, .int .i64 c.c1.ro, .int .i64 c.c1.ty, .int .i64 c.c1.lo.s, .int .u64 c.c1.lo.c, .int .i64 c.c1.hi.s, .int .u64 c.c1.hi.c, .int .i64 c.c2.u, .int .i64 c.c2.ro, .int .i64 c.c2.ty, .int .i64 c.c2.lo.s, .int .u64 c.c2.lo.c, .int .i64 c.c2.hi.s, .int .u64 c.c2.hi.c, .int .i64 c.c3.u, .int .i64 c.c3.ro, .int .i64 c.c3.ty, .int .i64 c.c3.lo.s, .int .u64 c.c3.lo.c, .int .i64 c.c3.hi.s, .int .u64 c.c3.hi.c]] w fun e w' => e = .returned (.bool (domX lb la)) ∧ Below w.heap.size w w' := by
  have q0 : (r == 0) = false := by simp; omega
  have q1 : (r == 1) = false := by simp; omega
  have q2 : (r == 2) = false := by simp; omega
  have q3 : (r == 3) = true := by simp; omega
  clear hr
  have HSO := Lib.hid (rsort_c na)
  have p3' : (sortA na != 3) = false := by simpa using hs
  have HNA := Lib.hid HLA
  have HNB := Lib.hid HLB
  generalize sortA na = sa at *
  have HXC : Hid (XC ((w.alloc (.cells #[.int .i64 op, .int .i64 na, .int .i64 r, .int .i64 nb, .slice ao n1 cap, .int .u64 st.a, .int .u64 st.b, .int .u64 st.c, .int .u64 st.d, .slice ak n2 ck] 28)).alloc (.cells #[.int .i64 c.c1.u, .int .i64 c.c1.ro, .int .i64 c.c1.ty, .int .i64 c.c1.lo.s, .int .u64 c.c1.lo.c, .int .i64 c.c1.hi.s, .int .u64 c.c1.hi.c, .int .i64 c.c2.u, .int .i64 c.c2.ro, .int .i64 c.c2.ty, .int .i64 c.c2.lo.s, .int .u64 c.c2.lo.c, .int .i64 c.c2.hi.s, .int .u64 c.c2.hi.c, .int .i64 c.c3.u, .int .i64 c.c3.ro, .int .i64 c.c3.ty, .int .i64 c.c3.lo.s, .int .u64 c.c3.lo.c, .int .i64 c.c3.hi.s, .int .u64 c.c3.hi.c] 36)) w.heap.size 0 op na r nb ao n1 cap st ak n2 ck) := Lib.hid (XC.of_blk ((Blk.new w _ _).alloc _))
  have HC0 : Hid (Blk ((w.alloc (.cells #[.int .i64 op, .int .i64 na, .int .i64 r, .int .i64 nb, .slice ao n1 cap, .int .u64 st.a, .int .u64 st.b, .int .u64 st.c, .int .u64 st.d, .slice ak n2 ck] 28)).alloc (.cells #[.int .i64 c.c1.u, .int .i64 c.c1.ro, .int .i64 c.c1.ty, .int .i64 c.c1.lo.s, .int .u64 c.c1.lo.c, .int .i64 c.c1.hi.s, .int .u64 c.c1.hi.c, .int .i64 c.c2.u, .int .i64 c.c2.ro, .int .i64 c.c2.ty, .int .i64 c.c2.lo.s, .int .u64 c.c2.lo.c, .int .i64 c.c2.hi.s, .int .u64 c.c2.hi.c, .int .i64 c.c3.u, .int .i64 c.c3.ro, .int .i64 c.c3.ty, .int .i64 c.c3.lo.s, .int .u64 c.c3.lo.c, .int .i64 c.c3.hi.s, .int .u64 c.c3.hi.c] 36)) (w.heap.size + 1) 36 #[.int .i64 c.c1.u, .int .i64 c.c1.ro, .int .i64 c.c1.ty, .int .i64 c.c1.lo.s, .int .u64 c.c1.lo.c, .int .i64 c.c1.hi.s, .int .u64 c.c1.hi.c, .int .i64 c.c2.u, .int .i64 c.c2.ro, .int .i64 c.c2.ty, .int .i64 c.c2.lo.s, .int .u64 c.c2.lo.c, .int .i64 c.c2.hi.s, .int .u64 c.c2.hi.c, .int .i64 c.c3.u, .int .i64 c.c3.ro, .int .i64 c.c3.ty, .int .i64 c.c3.lo.s, .int .u64 c.c3.lo.c, .int .i64 c.c3.hi.s, .int .u64 c.c3.hi.c]) := Lib.hid (two_new' _ _ _ _)
  have HB : Hid (Below w.heap.size w ((w.alloc (.cells #[.int .i64 op, .int .i64 na, .int .i64 r, .int .i64 nb, .slice ao n1 cap, .int .u64 st.a, .int .u64 st.b, .int .u64 st.c, .int .u64 st.d, .slice ak n2 ck] 28)).alloc (.cells #[.int .i64 c.c1.u, .int .i64 c.c1.ro, .int .i64 c.c1.ty, .int .i64 c.c1.lo.s, .int .u64 c.c1.lo.c, .int .i64 c.c1.hi.s, .int .u64 c.c1.hi.c, .int .i64 c.c2.u, .int .i64 c.c2.ro, .int .i64 c.c2.ty, .int .i64 c.c2.lo.s, .int .u64 c.c2.lo.c, .int .i64 c.c2.hi.s, .int .u64 c.c2.hi.c, .int .i64 c.c3.u, .int .i64 c.c3.ro, .int .i64 c.c3.ty, .int .i64 c.c3.lo.s, .int .u64 c.c3.lo.c, .int .i64 c.c3.hi.s, .int .u64 c.c3.hi.c] 36))) := Lib.hid (((Below.refl _ _).alloc (Nat.le_refl _) _).alloc (by simp) _)
  have HG : Hid (w.heap.size < ((w.alloc (.cells #[.int .i64 op, .int .i64 na, .int .i64 r, .int .i64 nb, .slice ao n1 cap, .int .u64 st.a, .int .u64 st.b, .int .u64 st.c, .int .u64 st.d, .slice ak n2 ck] 28)).alloc (.cells #[.int .i64 c.c1.u, .int .i64 c.c1.ro, .int .i64 c.c1.ty, .int .i64 c.c1.lo.s, .int .u64 c.c1.lo.c, .int .i64 c.c1.hi.s, .int .u64 c.c1.hi.c, .int .i64 c.c2.u, .int .i64 c.c2.ro, .int .i64 c.c2.ty, .int .i64 c.c2.lo.s, .int .u64 c.c2.lo.c, .int .i64 c.c2.hi.s, .int .u64 c.c2.hi.c, .int .i64 c.c3.u, .int .i64 c.c3.ro, .int .i64 c.c3.ty, .int .i64 c.c3.lo.s, .int .u64 c.c3.lo.c, .int .i64 c.c3.hi.s, .int .u64 c.c3.hi.c] 36)).heap.size) := Lib.hid (by simp; omega)
  clear hs HLA HLB
  go_enter Try.func39, Try.ntmps39
  go_upto_region 1 with fail
  generalize (w.alloc (.cells #[.int .i64 op, .int .i64 na, .int .i64 r, .int .i64 nb, .slice ao n1 cap, .int .u64 st.a, .int .u64 st.b, .int .u64 st.c, .int .u64 st.d, .slice ak n2 ck] 28)).alloc (.cells #[.int .i64 c.c1.u, .int .i64 c.c1.ro, .int .i64 c.c1.ty, .int .i64 c.c1.lo.s, .int .u64 c.c1.lo.c, .int .i64 c.c1.hi.s, .int .u64 c.c1.hi.c, .int .i64 c.c2.u, .int .i64 c.c2.ro, .int .i64 c.c2.ty, .int .i64 c.c2.lo.s, .int .u64 c.c2.lo.c, .int .i64 c.c2.hi.s, .int .u64 c.c2.hi.c, .int .i64 c.c3.u, .int .i64 c.c3.ro, .int .i64 c.c3.ty, .int .i64 c.c3.lo.s, .int .u64 c.c3.lo.c, .int .i64 c.c3.hi.s, .int .u64 c.c3.hi.c] 36) = W at *
  have HLE : Hid (w.heap.size ≤ W.heap.size) := Lib.hid HB.out.size
  generalize w.heap.size + 1 = gc at *
  generalize hge : w.heap.size = ge at *
  obtain ⟨y0, y1, y2, y3, y4, y5, y6, y7, y8, y9⟩ := HXC.out.cells
  go_upto_region 3 with (go_at_call 43; (with_reducible refine (HSO.out _).mono ?_); rintro e w1 ⟨rfl, hb1⟩; have HB1 := Lib.hid (HB.out.trans (hb1.mono HLE.out)); have HX1 := Lib.hid (HXC.out.keep (hb1.block ge HG.out)); have HG1 := Lib.hid (Nat.lt_of_lt_of_le HG.out hb1.size); have HC := Lib.hid (HC0.out.keep hb1); clear hb1)
  clear HXC HC0 HB HG HLE y0 y1 y2 y3 y4 y5 y6 y7 y8 y9
  refine wp_region_phis 10 (cpPhi c ge na nb la lb w1) (fun i => i == 8 || i == 9) (by kernel_rfl) (by decide) (by kernel_rfl) (by kernel_rfl) (by kernel_rfl) (fun k v u u2 h hb => cpPhi_keep h hb) ?_ ?_
  · refine ⟨⟨trivial, fun A u hK hF => ?_⟩, ⟨trivial, fun A u hK hF => ?_⟩, ⟨trivial, fun A u hK hF => ?_⟩, ⟨trivial, fun A u hK hF => ?_⟩, ⟨trivial, fun A u hK hF => ?_⟩, ⟨trivial, fun A u hK hF => ?_⟩, ⟨trivial, fun A u hK hF => ?_⟩, ⟨trivial, fun A u hK hF => ?_⟩, ⟨trivial, fun A u hK hF => ?_⟩, ⟨trivial, fun A u hK hF => ?_⟩, trivial⟩
    · have f3 : A.tmps[3]?.getD undef = .pointer (some ⟨gc, 0, none⟩) := fact_none (hF 3) (by kernel_rfl)
      refine Gives.no ?_ rfl
      unfold Gives
      rw [run_load (.tmp 3) rfl (by rw [← f3]; simp [Act.eval]) (loadAt_case (Blk.keep HC.out hK))]
      exact gives_val (Below.refl _ _) rfl
    · have f2 : A.tmps[2]?.getD undef = .pointer (some ⟨ge, 0, none⟩) := fact_none (hF 2) (by kernel_rfl)
      refine Gives.no ?_ rfl
      unfold Gives
      go_simp
      exact gives_val (Below.refl _ _) rfl
    · have f27 : A.tmps[27]?.getD undef = .pointer (some ⟨ge, 1, none⟩) := fact_some (hF 27) (j := 1) (by kernel_rfl) (by kernel_rfl)
      obtain ⟨y0, y1, y2, y3, y4, y5, y6, y7, y8, y9⟩ := (HX1.out.keep (Below.block hK ge HG1.out)).cells
      refine Gives.no ?_ rfl
      unfold Gives
      go_simp
      exact gives_val (Below.refl _ _) rfl
    · have f26 : A.tmps[26]?.getD undef = .agg #[.int .i64 c.c1.u, .int .i64 c.c1.ro, .int .i64 c.c1.ty, .int .i64 c.c1.lo.s, .int .u64 c.c1.lo.c, .int .i64 c.c1.hi.s, .int .u64 c.c1.hi.c, .int .i64 c.c2.u, .int .i64 c.c2.ro, .int .i64 c.c2.ty, .int .i64 c.c2.lo.s, .int .u64 c.c2.lo.c, .int .i64 c.c2.hi.s, .int .u64 c.c2.hi.c, .int .i64 c.c3.u, .int .i64 c.c3.ro, .int .i64 c.c3.ty, .int .i64 c.c3.lo.s, .int .u64 c.c3.lo.c, .int .i64 c.c3.hi.s, .int .u64 c.c3.hi.c] := fact_some (hF 26) (j := 0) (by kernel_rfl) (by kernel_rfl)
      have f28 : A.tmps[28]?.getD undef = .int .i64 na := fact_some (hF 28) (j := 2) (by kernel_rfl) (by kernel_rfl)
      refine Gives.no ?_ rfl
      unfold Gives
      go_simp
      exact gives_enter (((HNA).out u).mono fun e w2 ⟨he, hb⟩ => ⟨_, he, hb, rfl⟩)
    · have f3 : A.tmps[3]?.getD undef = .pointer (some ⟨gc, 0, none⟩) := fact_none (hF 3) (by kernel_rfl)
      refine Gives.no ?_ rfl
      unfold Gives
      rw [run_load (.tmp 3) rfl (by rw [← f3]; simp [Act.eval]) (loadAt_case (Blk.keep HC.out hK))]
      exact gives_val (Below.refl _ _) rfl
    · have f2 : A.tmps[2]?.getD undef = .pointer (some ⟨ge, 0, none⟩) := fact_none (hF 2) (by kernel_rfl)
      refine Gives.no ?_ rfl
      unfold Gives
      go_simp
      exact gives_val (Below.refl _ _) rfl
    · have f31 : A.tmps[31]?.getD undef = .pointer (some ⟨ge, 3, none⟩) := fact_some (hF 31) (j := 5) (by kernel_rfl) (by kernel_rfl)
      obtain ⟨y0, y1, y2, y3, y4, y5, y6, y7, y8, y9⟩ := (HX1.out.keep (Below.block hK ge HG1.out)).cells
      refine Gives.no ?_ rfl
      unfold Gives
      go_simp
      exact gives_val (Below.refl _ _) rfl
    · have f30 : A.tmps[30]?.getD undef = .agg #[.int .i64 c.c1.u, .int .i64 c.c1.ro, .int .i64 c.c1.ty, .int .i64 c.c1.lo.s, .int .u64 c.c1.lo.c, .int .i64 c.c1.hi.s, .int .u64 c.c1.hi.c, .int .i64 c.c2.u, .int .i64 c.c2.ro, .int .i64 c.c2.ty, .int .i64 c.c2.lo.s, .int .u64 c.c2.lo.c, .int .i64 c.c2.hi.s, .int .u64 c.c2.hi.c, .int .i64 c.c3.u, .int .i64 c.c3.ro, .int .i64 c.c3.ty, .int .i64 c.c3.lo.s, .int .u64 c.c3.lo.c, .int .i64 c.c3.hi.s, .int .u64 c.c3.hi.c] := fact_some (hF 30) (j := 4) (by kernel_rfl) (by kernel_rfl)
      have f32 : A.tmps[32]?.getD undef = .int .i64 nb := fact_some (hF 32) (j := 6) (by kernel_rfl) (by kernel_rfl)
      refine Gives.no ?_ rfl
      unfold Gives
      go_simp
      exact gives_enter (((HNB).out u).mono fun e w2 ⟨he, hb⟩ => ⟨_, he, hb, rfl⟩)
    · unfold Gives
      go_simp
      refine gives_box2 (φ := cpPhi c ge na nb la lb w1 8) ?_
      exact ⟨_, rfl, hK.size, Blk.new _ _ _⟩
    · unfold Gives
      go_simp
      refine gives_box2 (φ := cpPhi c ge na nb la lb w1 9) ?_
      exact ⟨_, rfl, hK.size, Blk.new _ _ _⟩
  intro a0 W2 hC hsz hdf hF hN
  have ha := end_mask [false, false, false, false, false, true, true, false, false, false, false, false, false, false, false, false, false, false, false, false, false, false, false, false, false, false, true, true, true, true, true, true, true, true, false, false, false, false, false, false, false, false, false, false, false, false, false, false, false, false, false, false, false, false, false, false, false, false, false, false, false, false, false, false] hsz hdf hF (by kernel_rfl)
  have f29 : a0.tmps[29]?.getD undef = .agg #[.int .i64 la.s, .int .u64 la.c] := fact_end (hF 29) (j := 3) (by kernel_rfl)
  have f33 : a0.tmps[33]?.getD undef = .agg #[.int .i64 lb.s, .int .u64 lb.c] := fact_end (hF 33) (j := 7) (by kernel_rfl)
  obtain ⟨g5, f5, hg5, hb5⟩ : ∃ g, a0.tmps[5]?.getD undef = .pointer (some ⟨g, 0, none⟩) ∧ w1.heap.size ≤ g ∧ Blk W2 g 30 #[.int .i64 0, .int .u64 0] := fact_end (hF 5) (j := 8) (by kernel_rfl)
  obtain ⟨g6, f6, hg6, hb6⟩ : ∃ g, a0.tmps[6]?.getD undef = .pointer (some ⟨g, 0, none⟩) ∧ w1.heap.size ≤ g ∧ Blk W2 g 30 #[.int .i64 0, .int .u64 0] := fact_end (hF 6) (j := 9) (by kernel_rfl)
  have hne : g6 ≠ g5 := fun e => hN 8 9 5 6 (by decide) rfl rfl (by kernel_rfl) (by kernel_rfl) (by rw [f5, f6, e])
  rw [ha]
  clear ha hF hN
  simp only [cutM_yes, cutM_no, cutM_nil, Nat.reduceAdd]
  rw [f29, f33, f5, f6]
  clear f29 f33 f5 f6
  generalize a0.tmps[26]?.getD undef = s26
  generalize a0.tmps[27]?.getD undef = s27
  generalize a0.tmps[28]?.getD undef = s28
  generalize a0.tmps[30]?.getD undef = s30
  generalize a0.tmps[31]?.getD undef = s31
  generalize a0.tmps[32]?.getD undef = s32
  clear hsz hdf
  refine wpList_store_row (by rfl) _ _ rfl rfl (by rfl) [.int .i64 la.s, .int .u64 la.c] (.agg #[.int .i64 la.s, .int .u64 la.c]) (by rfl) rfl (size_lv _) hb5 rfl (by intro x hx; simp only [List.mem_cons, List.not_mem_nil, or_false] at hx; rcases hx with rfl | rfl <;> rfl) ?_
  refine wpList_store_row (by rfl) _ _ rfl rfl (by rfl) [.int .i64 lb.s, .int .u64 lb.c] (.agg #[.int .i64 lb.s, .int .u64 lb.c]) (by rfl) rfl (size_lv _) (hb6.other hne _) rfl (by intro x hx; simp only [List.mem_cons, List.not_mem_nil, or_false] at hx; rcases hx with rfl | rfl <;> rfl) ?_
  have HL5 : Hid (Blk ((W2.setRow g5 [.int .i64 la.s, .int .u64 la.c].toArray).setRow g6 [.int .i64 lb.s, .int .u64 lb.c].toArray) g5 30 #[.int .i64 la.s, .int .u64 la.c]) := Lib.hid ((hb5.row _).other (Ne.symm hne) _)
  have HL6 : Hid (Blk ((W2.setRow g5 [.int .i64 la.s, .int .u64 la.c].toArray).setRow g6 [.int .i64 lb.s, .int .u64 lb.c].toArray) g6 30 #[.int .i64 lb.s, .int .u64 lb.c]) := Lib.hid ((hb6.other hne _).row _)
  have HBW : Hid (Below w1.heap.size w1 ((W2.setRow g5 [.int .i64 la.s, .int .u64 la.c].toArray).setRow g6 [.int .i64 lb.s, .int .u64 lb.c].toArray)) := Lib.hid (below_row (below_row hC hg5 _) hg6 _)
  generalize (W2.setRow g5 [.int .i64 la.s, .int .u64 la.c].toArray).setRow g6 [.int .i64 lb.s, .int .u64 lb.c].toArray = W3 at *
  clear hC hb5 hb6 hg5 hg6 hne
  have HX3 := Lib.hid (HX1.out.keep (HBW.out.block ge HG1.out))
  have HG3 := Lib.hid (Nat.lt_of_lt_of_le HG1.out HBW.out.size)
  have HB3 := Lib.hid (HB1.out.trans (HBW.out.mono (Nat.le_of_lt HG1.out)))
  clear HX1 HG1 HB1 HBW HC
  have HD1 := Lib.hid (rdomX_c la lb)
  have HD2 := Lib.hid (rdomX_c lb la)
  go_upto_region 4 with fail
  refine wp_region_kp (by kernel_rfl) (by kernel_rfl) ?_
  repeat (first
      | go_big_quiet_skip
      | (go_big_quiet_want
         go_big_quiet_op
         first
           | go_big_quiet_on
           | (apply Exists.intro
              refine ⟨fun w1 hC => ?_, ?_⟩
              · first
                  | (go_at_call 62; with_reducible first | exact hC.call (HD1.out _) | exact hC.call (HD2.out _))
                  | (have m5 := (hC.blk HL5.out).cell; have a0 := m5 0; have a1 := m5 1; have m6 := (hC.blk HL6.out).cell; have b0 := m6 0; have b1 := m6 1; clear m5 m6; go_simp; exact rfl)
                  | (go_simp; exact ⟨rfl, rfl⟩)
              go_big_quiet_on)))
  refine wpQuiet_nil ?_
  intro W4 hC
  have HCC := Lib.hid (HB3.out.trans (hC.mono (Nat.le_of_lt HG3.out)))
  have HX4 := Lib.hid (HX3.out.keep (Below.block hC ge HG3.out))
  have HL54 := Lib.hid (hC.blk HL5.out)
  have HL64 := Lib.hid (hC.blk HL6.out)
  clear hC HX3 HG3 HB3 HL5 HL6 HD1 HD2
  go_upto_region 5 with fail
  obtain ⟨y0, y1, y2, y3, y4, y5, y6, y7, y8, y9⟩ := HX4.out.cells
  clear y0 y1 y3 y4 y5 y6 y7 y8 y9
  go_wp2_with fail
  go_ret
  exact ⟨rfl, by first | exact HCC.out | (rw [hge]; exact HCC.out)⟩
end Go.Proofs.Ytamcfmfkmekkfaa
/- The reference's compare: levels (3). -/
namespace Go.Proofs.Ytamcfmfkmekkfaa
open Go.RowKit Go
set_option maxRecDepth 100000 in
set_option maxHeartbeats 16000000 in
theorem rcl_4t (op r : Int) (st : S4) (ao ak : Option Addr) (n1 n2 cap ck na nb : Nat) (c : Ca) (la lb : Lv) (hs : sortA na = 3) (hr : r = 4) (hd : domX la lb = true) (HLA : ∀ W, Calls Try.prog 61 #[.agg #[.int .i64 c.c1.u, .int .i64 c.c1.ro, .int .i64 c.c1.ty, .int .i64 c.c1.lo.s, .int .u64 c.c1.lo.c, .int .i64 c.c1.hi.s, .int .u64 c.c1.hi.c, .int .i64 c.c2.u, .int .i64 c.c2.ro, .int .i64 c.c2.ty, .int .i64 c.c2.lo.s, .int .u64 c.c2.lo.c, .int .i64 c.c2.hi.s, .int .u64 c.c2.hi.c, .int .i64 c.c3.u, .int .i64 c.c3.ro, .int .i64 c.c3.ty, .int .i64 c.c3.lo.s, .int .u64 c.c3.lo.c, .int .i64 c.c3.hi.s, .int .u64 c.c3.hi.c], .int .i64 na] W fun e w' => e = .returned (.agg #[.int .i64 la.s, .int .u64 la.c]) ∧ Below W.heap.size W w') (HLB : ∀ W, Calls Try.prog 61 #[.agg #[.int .i64 c.c1.u, .int .i64 c.c1.ro, .int .i64 c.c1.ty, .int .i64 c.c1.lo.s, .int .u64 c.c1.lo.c, .int .i64 c.c1.hi.s, .int .u64 c.c1.hi.c, .int .i64 c.c2.u, .int .i64 c.c2.ro, .int .i64 c.c2.ty, .int .i64 c.c2.lo.s, .int .u64 c.c2.lo.c, .int .i64 c.c2.hi.s, .int .u64 c.c2.hi.c, .int .i64 c.c3.u, .int .i64 c.c3.ro, .int .i64 c.c3.ty, .int .i64 c.c3.lo.s, .int .u64 c.c3.lo.c, .int .i64 c.c3.hi.s, .int .u64 c.c3.hi.c], .int .i64 nb] W fun e w' => e = .returned (.agg #[.int .i64 lb.s, .int .u64 lb.c]) ∧ Below W.heap.size W w') (w : World) :
    Calls Try.prog 39 #[.agg #[.int .i64 op, .int .i64 na, .int .i64 r, .int .i64 nb, .slice ao n1 cap, .int .u64 st.a, .int .u64 st.b, .int .u64 st.c, .int .u64 st.d, .slice ak n2 ck], .agg #[.int .i64 c.c1.u, .int .i64 c.c1.ro, .int .i64 c.c1.ty, .int .i64 c.c1.lo.s, .int .u64 c.c1.lo.c, .int .i64 c.c1.hi.s, .int .u64 c.c1.hi.c, .int .i64 c.c2.u, .int .i64 c.c2.ro, .int .i64 c.c2.ty, .int .i64 c.c2.lo.s, .int .u64 c.c2.lo.c, .int .i64 c.c2.hi.s, .int .u64 c.c2.hi.c, .int .i64 c.c3.u, .int .i64 c.c3.ro, .int .i64 c.c3.ty, .int .i64 c.c3.lo.s, .int .u64 c.c3.lo.c, .int .i64 c.c3.hi.s, .int .u64 c.c3.hi.c]] w fun e w' => e = .returned (.bool (false)) ∧ Below w.heap.size w w' := by
  have q0 : (r == 0) = false := by simp; omega
  have q1 : (r == 1) = false := by simp; omega
  have q2 : (r == 2) = false := by simp; omega
  have q3 : (r == 3) = false := by simp; omega
  clear hr
  have HSO := Lib.hid (rsort_c na)
  have p3' : (sortA na != 3) = false := by simpa using hs
  have HNA := Lib.hid HLA
  have HNB := Lib.hid HLB
  generalize sortA na = sa at *
  have HXC : Hid (XC ((w.alloc (.cells #[.int .i64 op, .int .i64 na, .int .i64 r, .int .i64 nb, .slice ao n1 cap, .int .u64 st.a, .int .u64 st.b, .int .u64 st.c, .int .u64 st.d, .slice ak n2 ck] 28)).alloc (.cells #[.int .i64 c.c1.u, .int .i64 c.c1.ro, .int .i64 c.c1.ty, .int .i64 c.c1.lo.s, .int .u64 c.c1.lo.c, .int .i64 c.c1.hi.s, .int .u64 c.c1.hi.c, .int .i64 c.c2.u, .int .i64 c.c2.ro, .int .i64 c.c2.ty, .int .i64 c.c2.lo.s, .int .u64 c.c2.lo.c, .int .i64 c.c2.hi.s, .int .u64 c.c2.hi.c, .int .i64 c.c3.u, .int .i64 c.c3.ro, .int .i64 c.c3.ty, .int .i64 c.c3.lo.s, .int .u64 c.c3.lo.c, .int .i64 c.c3.hi.s, .int .u64 c.c3.hi.c] 36)) w.heap.size 0 op na r nb ao n1 cap st ak n2 ck) := Lib.hid (XC.of_blk ((Blk.new w _ _).alloc _))
  have HC0 : Hid (Blk ((w.alloc (.cells #[.int .i64 op, .int .i64 na, .int .i64 r, .int .i64 nb, .slice ao n1 cap, .int .u64 st.a, .int .u64 st.b, .int .u64 st.c, .int .u64 st.d, .slice ak n2 ck] 28)).alloc (.cells #[.int .i64 c.c1.u, .int .i64 c.c1.ro, .int .i64 c.c1.ty, .int .i64 c.c1.lo.s, .int .u64 c.c1.lo.c, .int .i64 c.c1.hi.s, .int .u64 c.c1.hi.c, .int .i64 c.c2.u, .int .i64 c.c2.ro, .int .i64 c.c2.ty, .int .i64 c.c2.lo.s, .int .u64 c.c2.lo.c, .int .i64 c.c2.hi.s, .int .u64 c.c2.hi.c, .int .i64 c.c3.u, .int .i64 c.c3.ro, .int .i64 c.c3.ty, .int .i64 c.c3.lo.s, .int .u64 c.c3.lo.c, .int .i64 c.c3.hi.s, .int .u64 c.c3.hi.c] 36)) (w.heap.size + 1) 36 #[.int .i64 c.c1.u, .int .i64 c.c1.ro, .int .i64 c.c1.ty, .int .i64 c.c1.lo.s, .int .u64 c.c1.lo.c, .int .i64 c.c1.hi.s, .int .u64 c.c1.hi.c, .int .i64 c.c2.u, .int .i64 c.c2.ro, .int .i64 c.c2.ty, .int .i64 c.c2.lo.s, .int .u64 c.c2.lo.c, .int .i64 c.c2.hi.s, .int .u64 c.c2.hi.c, .int .i64 c.c3.u, .int .i64 c.c3.ro, .int .i64 c.c3.ty, .int .i64 c.c3.lo.s, .int .u64 c.c3.lo.c, .int .i64 c.c3.hi.s, .int .u64 c.c3.hi.c]) := Lib.hid (two_new' _ _ _ _)
  have HB : Hid (Below w.heap.size w ((w.alloc (.cells #[.int .i64 op, .int .i64 na, .int .i64 r, .int .i64 nb, .slice ao n1 cap, .int .u64 st.a, .int .u64 st.b, .int .u64 st.c, .int .u64 st.d, .slice ak n2 ck] 28)).alloc (.cells #[.int .i64 c.c1.u, .int .i64 c.c1.ro, .int .i64 c.c1.ty, .int .i64 c.c1.lo.s, .int .u64 c.c1.lo.c, .int .i64 c.c1.hi.s, .int .u64 c.c1.hi.c, .int .i64 c.c2.u, .int .i64 c.c2.ro, .int .i64 c.c2.ty, .int .i64 c.c2.lo.s, .int .u64 c.c2.lo.c, .int .i64 c.c2.hi.s, .int .u64 c.c2.hi.c, .int .i64 c.c3.u, .int .i64 c.c3.ro, .int .i64 c.c3.ty, .int .i64 c.c3.lo.s, .int .u64 c.c3.lo.c, .int .i64 c.c3.hi.s, .int .u64 c.c3.hi.c] 36))) := Lib.hid (((Below.refl _ _).alloc (Nat.le_refl _) _).alloc (by simp) _)
  have HG : Hid (w.heap.size < ((w.alloc (.cells #[.int .i64 op, .int .i64 na, .int .i64 r, .int .i64 nb, .slice ao n1 cap, .int .u64 st.a, .int .u64 st.b, .int .u64 st.c, .int .u64 st.d, .slice ak n2 ck] 28)).alloc (.cells #[.int .i64 c.c1.u, .int .i64 c.c1.ro, .int .i64 c.c1.ty, .int .i64 c.c1.lo.s, .int .u64 c.c1.lo.c, .int .i64 c.c1.hi.s, .int .u64 c.c1.hi.c, .int .i64 c.c2.u, .int .i64 c.c2.ro, .int .i64 c.c2.ty, .int .i64 c.c2.lo.s, .int .u64 c.c2.lo.c, .int .i64 c.c2.hi.s, .int .u64 c.c2.hi.c, .int .i64 c.c3.u, .int .i64 c.c3.ro, .int .i64 c.c3.ty, .int .i64 c.c3.lo.s, .int .u64 c.c3.lo.c, .int .i64 c.c3.hi.s, .int .u64 c.c3.hi.c] 36)).heap.size) := Lib.hid (by simp; omega)
  clear hs HLA HLB
  go_enter Try.func39, Try.ntmps39
  go_upto_region 1 with fail
  generalize (w.alloc (.cells #[.int .i64 op, .int .i64 na, .int .i64 r, .int .i64 nb, .slice ao n1 cap, .int .u64 st.a, .int .u64 st.b, .int .u64 st.c, .int .u64 st.d, .slice ak n2 ck] 28)).alloc (.cells #[.int .i64 c.c1.u, .int .i64 c.c1.ro, .int .i64 c.c1.ty, .int .i64 c.c1.lo.s, .int .u64 c.c1.lo.c, .int .i64 c.c1.hi.s, .int .u64 c.c1.hi.c, .int .i64 c.c2.u, .int .i64 c.c2.ro, .int .i64 c.c2.ty, .int .i64 c.c2.lo.s, .int .u64 c.c2.lo.c, .int .i64 c.c2.hi.s, .int .u64 c.c2.hi.c, .int .i64 c.c3.u, .int .i64 c.c3.ro, .int .i64 c.c3.ty, .int .i64 c.c3.lo.s, .int .u64 c.c3.lo.c, .int .i64 c.c3.hi.s, .int .u64 c.c3.hi.c] 36) = W at *
  have HLE : Hid (w.heap.size ≤ W.heap.size) := Lib.hid HB.out.size
  generalize w.heap.size + 1 = gc at *
  generalize hge : w.heap.size = ge at *
  obtain ⟨y0, y1, y2, y3, y4, y5, y6, y7, y8, y9⟩ := HXC.out.cells
  go_upto_region 3 with (go_at_call 43; (with_reducible refine (HSO.out _).mono ?_); rintro e w1 ⟨rfl, hb1⟩; have HB1 := Lib.hid (HB.out.trans (hb1.mono HLE.out)); have HX1 := Lib.hid (HXC.out.keep (hb1.block ge HG.out)); have HG1 := Lib.hid (Nat.lt_of_lt_of_le HG.out hb1.size); have HC := Lib.hid (HC0.out.keep hb1); clear hb1)
  clear HXC HC0 HB HG HLE y0 y1 y2 y3 y4 y5 y6 y7 y8 y9
  refine wp_region_phis 10 (cpPhi c ge na nb la lb w1) (fun i => i == 8 || i == 9) (by kernel_rfl) (by decide) (by kernel_rfl) (by kernel_rfl) (by kernel_rfl) (fun k v u u2 h hb => cpPhi_keep h hb) ?_ ?_
  · refine ⟨⟨trivial, fun A u hK hF => ?_⟩, ⟨trivial, fun A u hK hF => ?_⟩, ⟨trivial, fun A u hK hF => ?_⟩, ⟨trivial, fun A u hK hF => ?_⟩, ⟨trivial, fun A u hK hF => ?_⟩, ⟨trivial, fun A u hK hF => ?_⟩, ⟨trivial, fun A u hK hF => ?_⟩, ⟨trivial, fun A u hK hF => ?_⟩, ⟨trivial, fun A u hK hF => ?_⟩, ⟨trivial, fun A u hK hF => ?_⟩, trivial⟩
    · have f3 : A.tmps[3]?.getD undef = .pointer (some ⟨gc, 0, none⟩) := fact_none (hF 3) (by kernel_rfl)
      refine Gives.no ?_ rfl
      unfold Gives
      rw [run_load (.tmp 3) rfl (by rw [← f3]; simp [Act.eval]) (loadAt_case (Blk.keep HC.out hK))]
      exact gives_val (Below.refl _ _) rfl
    · have f2 : A.tmps[2]?.getD undef = .pointer (some ⟨ge, 0, none⟩) := fact_none (hF 2) (by kernel_rfl)
      refine Gives.no ?_ rfl
      unfold Gives
      go_simp
      exact gives_val (Below.refl _ _) rfl
    · have f27 : A.tmps[27]?.getD undef = .pointer (some ⟨ge, 1, none⟩) := fact_some (hF 27) (j := 1) (by kernel_rfl) (by kernel_rfl)
      obtain ⟨y0, y1, y2, y3, y4, y5, y6, y7, y8, y9⟩ := (HX1.out.keep (Below.block hK ge HG1.out)).cells
      refine Gives.no ?_ rfl
      unfold Gives
      go_simp
      exact gives_val (Below.refl _ _) rfl
    · have f26 : A.tmps[26]?.getD undef = .agg #[.int .i64 c.c1.u, .int .i64 c.c1.ro, .int .i64 c.c1.ty, .int .i64 c.c1.lo.s, .int .u64 c.c1.lo.c, .int .i64 c.c1.hi.s, .int .u64 c.c1.hi.c, .int .i64 c.c2.u, .int .i64 c.c2.ro, .int .i64 c.c2.ty, .int .i64 c.c2.lo.s, .int .u64 c.c2.lo.c, .int .i64 c.c2.hi.s, .int .u64 c.c2.hi.c, .int .i64 c.c3.u, .int .i64 c.c3.ro, .int .i64 c.c3.ty, .int .i64 c.c3.lo.s, .int .u64 c.c3.lo.c, .int .i64 c.c3.hi.s, .int .u64 c.c3.hi.c] := fact_some (hF 26) (j := 0) (by kernel_rfl) (by kernel_rfl)
      have f28 : A.tmps[28]?.getD undef = .int .i64 na := fact_some (hF 28) (j := 2) (by kernel_rfl) (by kernel_rfl)
      refine Gives.no ?_ rfl
      unfold Gives
      go_simp
      exact gives_enter (((HNA).out u).mono fun e w2 ⟨he, hb⟩ => ⟨_, he, hb, rfl⟩)
    · have f3 : A.tmps[3]?.getD undef = .pointer (some ⟨gc, 0, none⟩) := fact_none (hF 3) (by kernel_rfl)
      refine Gives.no ?_ rfl
      unfold Gives
      rw [run_load (.tmp 3) rfl (by rw [← f3]; simp [Act.eval]) (loadAt_case (Blk.keep HC.out hK))]
      exact gives_val (Below.refl _ _) rfl
    · have f2 : A.tmps[2]?.getD undef = .pointer (some ⟨ge, 0, none⟩) := fact_none (hF 2) (by kernel_rfl)
      refine Gives.no ?_ rfl
      unfold Gives
      go_simp
      exact gives_val (Below.refl _ _) rfl
    · have f31 : A.tmps[31]?.getD undef = .pointer (some ⟨ge, 3, none⟩) := fact_some (hF 31) (j := 5) (by kernel_rfl) (by kernel_rfl)
      obtain ⟨y0, y1, y2, y3, y4, y5, y6, y7, y8, y9⟩ := (HX1.out.keep (Below.block hK ge HG1.out)).cells
      refine Gives.no ?_ rfl
      unfold Gives
      go_simp
      exact gives_val (Below.refl _ _) rfl
    · have f30 : A.tmps[30]?.getD undef = .agg #[.int .i64 c.c1.u, .int .i64 c.c1.ro, .int .i64 c.c1.ty, .int .i64 c.c1.lo.s, .int .u64 c.c1.lo.c, .int .i64 c.c1.hi.s, .int .u64 c.c1.hi.c, .int .i64 c.c2.u, .int .i64 c.c2.ro, .int .i64 c.c2.ty, .int .i64 c.c2.lo.s, .int .u64 c.c2.lo.c, .int .i64 c.c2.hi.s, .int .u64 c.c2.hi.c, .int .i64 c.c3.u, .int .i64 c.c3.ro, .int .i64 c.c3.ty, .int .i64 c.c3.lo.s, .int .u64 c.c3.lo.c, .int .i64 c.c3.hi.s, .int .u64 c.c3.hi.c] := fact_some (hF 30) (j := 4) (by kernel_rfl) (by kernel_rfl)
      have f32 : A.tmps[32]?.getD undef = .int .i64 nb := fact_some (hF 32) (j := 6) (by kernel_rfl) (by kernel_rfl)
      refine Gives.no ?_ rfl
      unfold Gives
      go_simp
      exact gives_enter (((HNB).out u).mono fun e w2 ⟨he, hb⟩ => ⟨_, he, hb, rfl⟩)
    · unfold Gives
      go_simp
      refine gives_box2 (φ := cpPhi c ge na nb la lb w1 8) ?_
      exact ⟨_, rfl, hK.size, Blk.new _ _ _⟩
    · unfold Gives
      go_simp
      refine gives_box2 (φ := cpPhi c ge na nb la lb w1 9) ?_
      exact ⟨_, rfl, hK.size, Blk.new _ _ _⟩
  intro a0 W2 hC hsz hdf hF hN
  have ha := end_mask [false, false, false, false, false, true, true, false, false, false, false, false, false, false, false, false, false, false, false, false, false, false, false, false, false, false, true, true, true, true, true, true, true, true, false, false, false, false, false, false, false, false, false, false, false, false, false, false, false, false, false, false, false, false, false, false, false, false, false, false, false, false, false, false] hsz hdf hF (by kernel_rfl)
  have f29 : a0.tmps[29]?.getD undef = .agg #[.int .i64 la.s, .int .u64 la.c] := fact_end (hF 29) (j := 3) (by kernel_rfl)
  have f33 : a0.tmps[33]?.getD undef = .agg #[.int .i64 lb.s, .int .u64 lb.c] := fact_end (hF 33) (j := 7) (by kernel_rfl)
  obtain ⟨g5, f5, hg5, hb5⟩ : ∃ g, a0.tmps[5]?.getD undef = .pointer (some ⟨g, 0, none⟩) ∧ w1.heap.size ≤ g ∧ Blk W2 g 30 #[.int .i64 0, .int .u64 0] := fact_end (hF 5) (j := 8) (by kernel_rfl)
  obtain ⟨g6, f6, hg6, hb6⟩ : ∃ g, a0.tmps[6]?.getD undef = .pointer (some ⟨g, 0, none⟩) ∧ w1.heap.size ≤ g ∧ Blk W2 g 30 #[.int .i64 0, .int .u64 0] := fact_end (hF 6) (j := 9) (by kernel_rfl)
  have hne : g6 ≠ g5 := fun e => hN 8 9 5 6 (by decide) rfl rfl (by kernel_rfl) (by kernel_rfl) (by rw [f5, f6, e])
  rw [ha]
  clear ha hF hN
  simp only [cutM_yes, cutM_no, cutM_nil, Nat.reduceAdd]
  rw [f29, f33, f5, f6]
  clear f29 f33 f5 f6
  generalize a0.tmps[26]?.getD undef = s26
  generalize a0.tmps[27]?.getD undef = s27
  generalize a0.tmps[28]?.getD undef = s28
  generalize a0.tmps[30]?.getD undef = s30
  generalize a0.tmps[31]?.getD undef = s31
  generalize a0.tmps[32]?.getD undef = s32
  clear hsz hdf
  refine wpList_store_row (by rfl) _ _ rfl rfl (by rfl) [.int .i64 la.s, .int .u64 la.c] (.agg #[.int .i64 la.s, .int .u64 la.c]) (by rfl) rfl (size_lv _) hb5 rfl (by intro x hx; simp only [List.mem_cons, List.not_mem_nil, or_false] at hx; rcases hx with rfl | rfl <;> rfl) ?_
  refine wpList_store_row (by rfl) _ _ rfl rfl (by rfl) [.int .i64 lb.s, .int .u64 lb.c] (.agg #[.int .i64 lb.s, .int .u64 lb.c]) (by rfl) rfl (size_lv _) (hb6.other hne _) rfl (by intro x hx; simp only [List.mem_cons, List.not_mem_nil, or_false] at hx; rcases hx with rfl | rfl <;> rfl) ?_
  have HL5 : Hid (Blk ((W2.setRow g5 [.int .i64 la.s, .int .u64 la.c].toArray).setRow g6 [.int .i64 lb.s, .int .u64 lb.c].toArray) g5 30 #[.int .i64 la.s, .int .u64 la.c]) := Lib.hid ((hb5.row _).other (Ne.symm hne) _)
  have HL6 : Hid (Blk ((W2.setRow g5 [.int .i64 la.s, .int .u64 la.c].toArray).setRow g6 [.int .i64 lb.s, .int .u64 lb.c].toArray) g6 30 #[.int .i64 lb.s, .int .u64 lb.c]) := Lib.hid ((hb6.other hne _).row _)
  have HBW : Hid (Below w1.heap.size w1 ((W2.setRow g5 [.int .i64 la.s, .int .u64 la.c].toArray).setRow g6 [.int .i64 lb.s, .int .u64 lb.c].toArray)) := Lib.hid (below_row (below_row hC hg5 _) hg6 _)
  generalize (W2.setRow g5 [.int .i64 la.s, .int .u64 la.c].toArray).setRow g6 [.int .i64 lb.s, .int .u64 lb.c].toArray = W3 at *
  clear hC hb5 hb6 hg5 hg6 hne
  have HX3 := Lib.hid (HX1.out.keep (HBW.out.block ge HG1.out))
  have HG3 := Lib.hid (Nat.lt_of_lt_of_le HG1.out HBW.out.size)
  have HB3 := Lib.hid (HB1.out.trans (HBW.out.mono (Nat.le_of_lt HG1.out)))
  clear HX1 HG1 HB1 HBW HC
  have HD1 := Lib.hid (rdomX_c la lb)
  have HD2 := Lib.hid (rdomX_c lb la)
  go_upto_region 4 with fail
  refine wp_region_kp (by kernel_rfl) (by kernel_rfl) ?_
  repeat (first
      | go_big_quiet_skip
      | (go_big_quiet_want
         go_big_quiet_op
         first
           | go_big_quiet_on
           | (apply Exists.intro
              refine ⟨fun w1 hC => ?_, ?_⟩
              · first
                  | (go_at_call 62; with_reducible first | exact hC.call (HD1.out _) | exact hC.call (HD2.out _))
                  | (have m5 := (hC.blk HL5.out).cell; have a0 := m5 0; have a1 := m5 1; have m6 := (hC.blk HL6.out).cell; have b0 := m6 0; have b1 := m6 1; clear m5 m6; go_simp; exact rfl)
                  | (go_simp; exact ⟨rfl, rfl⟩)
              go_big_quiet_on)))
  refine wpQuiet_nil ?_
  intro W4 hC
  have HCC := Lib.hid (HB3.out.trans (hC.mono (Nat.le_of_lt HG3.out)))
  have HX4 := Lib.hid (HX3.out.keep (Below.block hC ge HG3.out))
  have HL54 := Lib.hid (hC.blk HL5.out)
  have HL64 := Lib.hid (hC.blk HL6.out)
  clear hC HX3 HG3 HB3 HL5 HL6 HD1 HD2
  go_upto_region 5 with fail
  obtain ⟨y0, y1, y2, y3, y4, y5, y6, y7, y8, y9⟩ := HX4.out.cells
  clear y0 y1 y3 y4 y5 y6 y7 y8 y9
  go_wp2_with fail
  go_ret
  exact ⟨rfl, by first | exact HCC.out | (rw [hge]; exact HCC.out)⟩
set_option maxRecDepth 100000 in
set_option maxHeartbeats 16000000 in
theorem rcl_4f (op r : Int) (st : S4) (ao ak : Option Addr) (n1 n2 cap ck na nb : Nat) (c : Ca) (la lb : Lv) (hs : sortA na = 3) (hr : r = 4) (hd : domX la lb = false) (HLA : ∀ W, Calls Try.prog 61 #[.agg #[.int .i64 c.c1.u, .int .i64 c.c1.ro, .int .i64 c.c1.ty, .int .i64 c.c1.lo.s, .int .u64 c.c1.lo.c, .int .i64 c.c1.hi.s, .int .u64 c.c1.hi.c, .int .i64 c.c2.u, .int .i64 c.c2.ro, .int .i64 c.c2.ty, .int .i64 c.c2.lo.s, .int .u64 c.c2.lo.c, .int .i64 c.c2.hi.s, .int .u64 c.c2.hi.c, .int .i64 c.c3.u, .int .i64 c.c3.ro, .int .i64 c.c3.ty, .int .i64 c.c3.lo.s, .int .u64 c.c3.lo.c, .int .i64 c.c3.hi.s, .int .u64 c.c3.hi.c], .int .i64 na] W fun e w' => e = .returned (.agg #[.int .i64 la.s, .int .u64 la.c]) ∧ Below W.heap.size W w') (HLB : ∀ W, Calls Try.prog 61 #[.agg #[.int .i64 c.c1.u, .int .i64 c.c1.ro, .int .i64 c.c1.ty, .int .i64 c.c1.lo.s, .int .u64 c.c1.lo.c, .int .i64 c.c1.hi.s, .int .u64 c.c1.hi.c, .int .i64 c.c2.u, .int .i64 c.c2.ro, .int .i64 c.c2.ty, .int .i64 c.c2.lo.s, .int .u64 c.c2.lo.c, .int .i64 c.c2.hi.s, .int .u64 c.c2.hi.c, .int .i64 c.c3.u, .int .i64 c.c3.ro, .int .i64 c.c3.ty, .int .i64 c.c3.lo.s, .int .u64 c.c3.lo.c, .int .i64 c.c3.hi.s, .int .u64 c.c3.hi.c], .int .i64 nb] W fun e w' => e = .returned (.agg #[.int .i64 lb.s, .int .u64 lb.c]) ∧ Below W.heap.size W w') (w : World) :
    Calls Try.prog 39 #[.agg #[.int .i64 op, .int .i64 na, .int .i64 r, .int .i64 nb, .slice ao n1 cap, .int .u64 st.a, .int .u64 st.b, .int .u64 st.c, .int .u64 st.d, .slice ak n2 ck], .agg #[.int .i64 c.c1.u, .int .i64 c.c1.ro, .int .i64 c.c1.ty, .int .i64 c.c1.lo.s, .int .u64 c.c1.lo.c, .int .i64 c.c1.hi.s, .int .u64 c.c1.hi.c, .int .i64 c.c2.u, .int .i64 c.c2.ro, .int .i64 c.c2.ty, .int .i64 c.c2.lo.s, .int .u64 c.c2.lo.c, .int .i64 c.c2.hi.s, .int .u64 c.c2.hi.c, .int .i64 c.c3.u, .int .i64 c.c3.ro, .int .i64 c.c3.ty, .int .i64 c.c3.lo.s, .int .u64 c.c3.lo.c, .int .i64 c.c3.hi.s, .int .u64 c.c3.hi.c]] w fun e w' => e = .returned (.bool (!domX lb la)) ∧ Below w.heap.size w w' := by
  have q0 : (r == 0) = false := by simp; omega
  have q1 : (r == 1) = false := by simp; omega
  have q2 : (r == 2) = false := by simp; omega
  have q3 : (r == 3) = false := by simp; omega
  clear hr
  have HSO := Lib.hid (rsort_c na)
  have p3' : (sortA na != 3) = false := by simpa using hs
  have HNA := Lib.hid HLA
  have HNB := Lib.hid HLB
  generalize sortA na = sa at *
  have HXC : Hid (XC ((w.alloc (.cells #[.int .i64 op, .int .i64 na, .int .i64 r, .int .i64 nb, .slice ao n1 cap, .int .u64 st.a, .int .u64 st.b, .int .u64 st.c, .int .u64 st.d, .slice ak n2 ck] 28)).alloc (.cells #[.int .i64 c.c1.u, .int .i64 c.c1.ro, .int .i64 c.c1.ty, .int .i64 c.c1.lo.s, .int .u64 c.c1.lo.c, .int .i64 c.c1.hi.s, .int .u64 c.c1.hi.c, .int .i64 c.c2.u, .int .i64 c.c2.ro, .int .i64 c.c2.ty, .int .i64 c.c2.lo.s, .int .u64 c.c2.lo.c, .int .i64 c.c2.hi.s, .int .u64 c.c2.hi.c, .int .i64 c.c3.u, .int .i64 c.c3.ro, .int .i64 c.c3.ty, .int .i64 c.c3.lo.s, .int .u64 c.c3.lo.c, .int .i64 c.c3.hi.s, .int .u64 c.c3.hi.c] 36)) w.heap.size 0 op na r nb ao n1 cap st ak n2 ck) := Lib.hid (XC.of_blk ((Blk.new w _ _).alloc _))
  have HC0 : Hid (Blk ((w.alloc (.cells #[.int .i64 op, .int .i64 na, .int .i64 r, .int .i64 nb, .slice ao n1 cap, .int .u64 st.a, .int .u64 st.b, .int .u64 st.c, .int .u64 st.d, .slice ak n2 ck] 28)).alloc (.cells #[.int .i64 c.c1.u, .int .i64 c.c1.ro, .int .i64 c.c1.ty, .int .i64 c.c1.lo.s, .int .u64 c.c1.lo.c, .int .i64 c.c1.hi.s, .int .u64 c.c1.hi.c, .int .i64 c.c2.u, .int .i64 c.c2.ro, .int .i64 c.c2.ty, .int .i64 c.c2.lo.s, .int .u64 c.c2.lo.c, .int .i64 c.c2.hi.s, .int .u64 c.c2.hi.c, .int .i64 c.c3.u, .int .i64 c.c3.ro, .int .i64 c.c3.ty, .int .i64 c.c3.lo.s, .int .u64 c.c3.lo.c, .int .i64 c.c3.hi.s, .int .u64 c.c3.hi.c] 36)) (w.heap.size + 1) 36 #[.int .i64 c.c1.u, .int .i64 c.c1.ro, .int .i64 c.c1.ty, .int .i64 c.c1.lo.s, .int .u64 c.c1.lo.c, .int .i64 c.c1.hi.s, .int .u64 c.c1.hi.c, .int .i64 c.c2.u, .int .i64 c.c2.ro, .int .i64 c.c2.ty, .int .i64 c.c2.lo.s, .int .u64 c.c2.lo.c, .int .i64 c.c2.hi.s, .int .u64 c.c2.hi.c, .int .i64 c.c3.u, .int .i64 c.c3.ro, .int .i64 c.c3.ty, .int .i64 c.c3.lo.s, .int .u64 c.c3.lo.c, .int .i64 c.c3.hi.s, .int .u64 c.c3.hi.c]) := Lib.hid (two_new' _ _ _ _)
  have HB : Hid (Below w.heap.size w ((w.alloc (.cells #[.int .i64 op, .int .i64 na, .int .i64 r, .int .i64 nb, .slice ao n1 cap, .int .u64 st.a, .int .u64 st.b, .int .u64 st.c, .int .u64 st.d, .slice ak n2 ck] 28)).alloc (.cells #[.int .i64 c.c1.u, .int .i64 c.c1.ro, .int .i64 c.c1.ty, .int .i64 c.c1.lo.s, .int .u64 c.c1.lo.c, .int .i64 c.c1.hi.s, .int .u64 c.c1.hi.c, .int .i64 c.c2.u, .int .i64 c.c2.ro, .int .i64 c.c2.ty, .int .i64 c.c2.lo.s, .int .u64 c.c2.lo.c, .int .i64 c.c2.hi.s, .int .u64 c.c2.hi.c, .int .i64 c.c3.u, .int .i64 c.c3.ro, .int .i64 c.c3.ty, .int .i64 c.c3.lo.s, .int .u64 c.c3.lo.c, .int .i64 c.c3.hi.s, .int .u64 c.c3.hi.c] 36))) := Lib.hid (((Below.refl _ _).alloc (Nat.le_refl _) _).alloc (by simp) _)
  have HG : Hid (w.heap.size < ((w.alloc (.cells #[.int .i64 op, .int .i64 na, .int .i64 r, .int .i64 nb, .slice ao n1 cap, .int .u64 st.a, .int .u64 st.b, .int .u64 st.c, .int .u64 st.d, .slice ak n2 ck] 28)).alloc (.cells #[.int .i64 c.c1.u, .int .i64 c.c1.ro, .int .i64 c.c1.ty, .int .i64 c.c1.lo.s, .int .u64 c.c1.lo.c, .int .i64 c.c1.hi.s, .int .u64 c.c1.hi.c, .int .i64 c.c2.u, .int .i64 c.c2.ro, .int .i64 c.c2.ty, .int .i64 c.c2.lo.s, .int .u64 c.c2.lo.c, .int .i64 c.c2.hi.s, .int .u64 c.c2.hi.c, .int .i64 c.c3.u, .int .i64 c.c3.ro, .int .i64 c.c3.ty, .int .i64 c.c3.lo.s, .int .u64 c.c3.lo.c, .int .i64 c.c3.hi.s, .int .u64 c.c3.hi.c] 36)).heap.size) := Lib.hid (by simp; omega)
  clear hs HLA HLB
  go_enter Try.func39, Try.ntmps39
  go_upto_region 1 with fail
  generalize (w.alloc (.cells #[.int .i64 op, .int .i64 na, .int .i64 r, .int .i64 nb, .slice ao n1 cap, .int .u64 st.a, .int .u64 st.b, .int .u64 st.c, .int .u64 st.d, .slice ak n2 ck] 28)).alloc (.cells #[.int .i64 c.c1.u, .int .i64 c.c1.ro, .int .i64 c.c1.ty, .int .i64 c.c1.lo.s, .int .u64 c.c1.lo.c, .int .i64 c.c1.hi.s, .int .u64 c.c1.hi.c, .int .i64 c.c2.u, .int .i64 c.c2.ro, .int .i64 c.c2.ty, .int .i64 c.c2.lo.s, .int .u64 c.c2.lo.c, .int .i64 c.c2.hi.s, .int .u64 c.c2.hi.c, .int .i64 c.c3.u, .int .i64 c.c3.ro, .int .i64 c.c3.ty, .int .i64 c.c3.lo.s, .int .u64 c.c3.lo.c, .int .i64 c.c3.hi.s, .int .u64 c.c3.hi.c] 36) = W at *
  have HLE : Hid (w.heap.size ≤ W.heap.size) := Lib.hid HB.out.size
  generalize w.heap.size + 1 = gc at *
  generalize hge : w.heap.size = ge at *
  obtain ⟨y0, y1, y2, y3, y4, y5, y6, y7, y8, y9⟩ := HXC.out.cells
  go_upto_region 3 with (go_at_call 43; (with_reducible refine (HSO.out _).mono ?_); rintro e w1 ⟨rfl, hb1⟩; have HB1 := Lib.hid (HB.out.trans (hb1.mono HLE.out)); have HX1 := Lib.hid (HXC.out.keep (hb1.block ge HG.out)); have HG1 := Lib.hid (Nat.lt_of_lt_of_le HG.out hb1.size); have HC := Lib.hid (HC0.out.keep hb1); clear hb1)
  clear HXC HC0 HB HG HLE y0 y1 y2 y3 y4 y5 y6 y7 y8 y9
  refine wp_region_phis 10 (cpPhi c ge na nb la lb w1) (fun i => i == 8 || i == 9) (by kernel_rfl) (by decide) (by kernel_rfl) (by kernel_rfl) (by kernel_rfl) (fun k v u u2 h hb => cpPhi_keep h hb) ?_ ?_
  · refine ⟨⟨trivial, fun A u hK hF => ?_⟩, ⟨trivial, fun A u hK hF => ?_⟩, ⟨trivial, fun A u hK hF => ?_⟩, ⟨trivial, fun A u hK hF => ?_⟩, ⟨trivial, fun A u hK hF => ?_⟩, ⟨trivial, fun A u hK hF => ?_⟩, ⟨trivial, fun A u hK hF => ?_⟩, ⟨trivial, fun A u hK hF => ?_⟩, ⟨trivial, fun A u hK hF => ?_⟩, ⟨trivial, fun A u hK hF => ?_⟩, trivial⟩
    · have f3 : A.tmps[3]?.getD undef = .pointer (some ⟨gc, 0, none⟩) := fact_none (hF 3) (by kernel_rfl)
      refine Gives.no ?_ rfl
      unfold Gives
      rw [run_load (.tmp 3) rfl (by rw [← f3]; simp [Act.eval]) (loadAt_case (Blk.keep HC.out hK))]
      exact gives_val (Below.refl _ _) rfl
    · have f2 : A.tmps[2]?.getD undef = .pointer (some ⟨ge, 0, none⟩) := fact_none (hF 2) (by kernel_rfl)
      refine Gives.no ?_ rfl
      unfold Gives
      go_simp
      exact gives_val (Below.refl _ _) rfl
    · have f27 : A.tmps[27]?.getD undef = .pointer (some ⟨ge, 1, none⟩) := fact_some (hF 27) (j := 1) (by kernel_rfl) (by kernel_rfl)
      obtain ⟨y0, y1, y2, y3, y4, y5, y6, y7, y8, y9⟩ := (HX1.out.keep (Below.block hK ge HG1.out)).cells
      refine Gives.no ?_ rfl
      unfold Gives
      go_simp
      exact gives_val (Below.refl _ _) rfl
    · have f26 : A.tmps[26]?.getD undef = .agg #[.int .i64 c.c1.u, .int .i64 c.c1.ro, .int .i64 c.c1.ty, .int .i64 c.c1.lo.s, .int .u64 c.c1.lo.c, .int .i64 c.c1.hi.s, .int .u64 c.c1.hi.c, .int .i64 c.c2.u, .int .i64 c.c2.ro, .int .i64 c.c2.ty, .int .i64 c.c2.lo.s, .int .u64 c.c2.lo.c, .int .i64 c.c2.hi.s, .int .u64 c.c2.hi.c, .int .i64 c.c3.u, .int .i64 c.c3.ro, .int .i64 c.c3.ty, .int .i64 c.c3.lo.s, .int .u64 c.c3.lo.c, .int .i64 c.c3.hi.s, .int .u64 c.c3.hi.c] := fact_some (hF 26) (j := 0) (by kernel_rfl) (by kernel_rfl)
      have f28 : A.tmps[28]?.getD undef = .int .i64 na := fact_some (hF 28) (j := 2) (by kernel_rfl) (by kernel_rfl)
      refine Gives.no ?_ rfl
      unfold Gives
      go_simp
      exact gives_enter (((HNA).out u).mono fun e w2 ⟨he, hb⟩ => ⟨_, he, hb, rfl⟩)
    · have f3 : A.tmps[3]?.getD undef = .pointer (some ⟨gc, 0, none⟩) := fact_none (hF 3) (by kernel_rfl)
      refine Gives.no ?_ rfl
      unfold Gives
      rw [run_load (.tmp 3) rfl (by rw [← f3]; simp [Act.eval]) (loadAt_case (Blk.keep HC.out hK))]
      exact gives_val (Below.refl _ _) rfl
    · have f2 : A.tmps[2]?.getD undef = .pointer (some ⟨ge, 0, none⟩) := fact_none (hF 2) (by kernel_rfl)
      refine Gives.no ?_ rfl
      unfold Gives
      go_simp
      exact gives_val (Below.refl _ _) rfl
    · have f31 : A.tmps[31]?.getD undef = .pointer (some ⟨ge, 3, none⟩) := fact_some (hF 31) (j := 5) (by kernel_rfl) (by kernel_rfl)
      obtain ⟨y0, y1, y2, y3, y4, y5, y6, y7, y8, y9⟩ := (HX1.out.keep (Below.block hK ge HG1.out)).cells
      refine Gives.no ?_ rfl
      unfold Gives
      go_simp
      exact gives_val (Below.refl _ _) rfl
    · have f30 : A.tmps[30]?.getD undef = .agg #[.int .i64 c.c1.u, .int .i64 c.c1.ro, .int .i64 c.c1.ty, .int .i64 c.c1.lo.s, .int .u64 c.c1.lo.c, .int .i64 c.c1.hi.s, .int .u64 c.c1.hi.c, .int .i64 c.c2.u, .int .i64 c.c2.ro, .int .i64 c.c2.ty, .int .i64 c.c2.lo.s, .int .u64 c.c2.lo.c, .int .i64 c.c2.hi.s, .int .u64 c.c2.hi.c, .int .i64 c.c3.u, .int .i64 c.c3.ro, .int .i64 c.c3.ty, .int .i64 c.c3.lo.s, .int .u64 c.c3.lo.c, .int .i64 c.c3.hi.s, .int .u64 c.c3.hi.c] := fact_some (hF 30) (j := 4) (by kernel_rfl) (by kernel_rfl)
      have f32 : A.tmps[32]?.getD undef = .int .i64 nb := fact_some (hF 32) (j := 6) (by kernel_rfl) (by kernel_rfl)
      refine Gives.no ?_ rfl
      unfold Gives
      go_simp
      exact gives_enter (((HNB).out u).mono fun e w2 ⟨he, hb⟩ => ⟨_, he, hb, rfl⟩)
    · unfold Gives
      go_simp
      refine gives_box2 (φ := cpPhi c ge na nb la lb w1 8) ?_
      exact ⟨_, rfl, hK.size, Blk.new _ _ _⟩
    · unfold Gives
      go_simp
      refine gives_box2 (φ := cpPhi c ge na nb la lb w1 9) ?_
      exact ⟨_, rfl, hK.size, Blk.new _ _ _⟩
  intro a0 W2 hC hsz hdf hF hN
  have ha := end_mask [false, false, false, false, false, true, true, false, false, false, false, false, false, false, false, false, false, false, false, false, false, false, false, false, false, false, true, true, true, true, true, true, true, true, false, false, false, false, false, false, false, false, false, false, false, false, false, false, false, false, false, false, false, false, false, false, false, false, false, false, false, false, false, false] hsz hdf hF (by kernel_rfl)
  have f29 : a0.tmps[29]?.getD undef = .agg #[.int .i64 la.s, .int .u64 la.c] := fact_end (hF 29) (j := 3) (by kernel_rfl)
  have f33 : a0.tmps[33]?.getD undef = .agg #[.int .i64 lb.s, .int .u64 lb.c] := fact_end (hF 33) (j := 7) (by kernel_rfl)
  obtain ⟨g5, f5, hg5, hb5⟩ : ∃ g, a0.tmps[5]?.getD undef = .pointer (some ⟨g, 0, none⟩) ∧ w1.heap.size ≤ g ∧ Blk W2 g 30 #[.int .i64 0, .int .u64 0] := fact_end (hF 5) (j := 8) (by kernel_rfl)
  obtain ⟨g6, f6, hg6, hb6⟩ : ∃ g, a0.tmps[6]?.getD undef = .pointer (some ⟨g, 0, none⟩) ∧ w1.heap.size ≤ g ∧ Blk W2 g 30 #[.int .i64 0, .int .u64 0] := fact_end (hF 6) (j := 9) (by kernel_rfl)
  have hne : g6 ≠ g5 := fun e => hN 8 9 5 6 (by decide) rfl rfl (by kernel_rfl) (by kernel_rfl) (by rw [f5, f6, e])
  rw [ha]
  clear ha hF hN
  simp only [cutM_yes, cutM_no, cutM_nil, Nat.reduceAdd]
  rw [f29, f33, f5, f6]
  clear f29 f33 f5 f6
  generalize a0.tmps[26]?.getD undef = s26
  generalize a0.tmps[27]?.getD undef = s27
  generalize a0.tmps[28]?.getD undef = s28
  generalize a0.tmps[30]?.getD undef = s30
  generalize a0.tmps[31]?.getD undef = s31
  generalize a0.tmps[32]?.getD undef = s32
  clear hsz hdf
  refine wpList_store_row (by rfl) _ _ rfl rfl (by rfl) [.int .i64 la.s, .int .u64 la.c] (.agg #[.int .i64 la.s, .int .u64 la.c]) (by rfl) rfl (size_lv _) hb5 rfl (by intro x hx; simp only [List.mem_cons, List.not_mem_nil, or_false] at hx; rcases hx with rfl | rfl <;> rfl) ?_
  refine wpList_store_row (by rfl) _ _ rfl rfl (by rfl) [.int .i64 lb.s, .int .u64 lb.c] (.agg #[.int .i64 lb.s, .int .u64 lb.c]) (by rfl) rfl (size_lv _) (hb6.other hne _) rfl (by intro x hx; simp only [List.mem_cons, List.not_mem_nil, or_false] at hx; rcases hx with rfl | rfl <;> rfl) ?_
  have HL5 : Hid (Blk ((W2.setRow g5 [.int .i64 la.s, .int .u64 la.c].toArray).setRow g6 [.int .i64 lb.s, .int .u64 lb.c].toArray) g5 30 #[.int .i64 la.s, .int .u64 la.c]) := Lib.hid ((hb5.row _).other (Ne.symm hne) _)
  have HL6 : Hid (Blk ((W2.setRow g5 [.int .i64 la.s, .int .u64 la.c].toArray).setRow g6 [.int .i64 lb.s, .int .u64 lb.c].toArray) g6 30 #[.int .i64 lb.s, .int .u64 lb.c]) := Lib.hid ((hb6.other hne _).row _)
  have HBW : Hid (Below w1.heap.size w1 ((W2.setRow g5 [.int .i64 la.s, .int .u64 la.c].toArray).setRow g6 [.int .i64 lb.s, .int .u64 lb.c].toArray)) := Lib.hid (below_row (below_row hC hg5 _) hg6 _)
  generalize (W2.setRow g5 [.int .i64 la.s, .int .u64 la.c].toArray).setRow g6 [.int .i64 lb.s, .int .u64 lb.c].toArray = W3 at *
  clear hC hb5 hb6 hg5 hg6 hne
  have HX3 := Lib.hid (HX1.out.keep (HBW.out.block ge HG1.out))
  have HG3 := Lib.hid (Nat.lt_of_lt_of_le HG1.out HBW.out.size)
  have HB3 := Lib.hid (HB1.out.trans (HBW.out.mono (Nat.le_of_lt HG1.out)))
  clear HX1 HG1 HB1 HBW HC
  have HD1 := Lib.hid (rdomX_c la lb)
  have HD2 := Lib.hid (rdomX_c lb la)
  go_upto_region 4 with fail
  refine wp_region_kp (by kernel_rfl) (by kernel_rfl) ?_
  repeat (first
      | go_big_quiet_skip
      | (go_big_quiet_want
         go_big_quiet_op
         first
           | go_big_quiet_on
           | (apply Exists.intro
              refine ⟨fun w1 hC => ?_, ?_⟩
              · first
                  | (go_at_call 62; with_reducible first | exact hC.call (HD1.out _) | exact hC.call (HD2.out _))
                  | (have m5 := (hC.blk HL5.out).cell; have a0 := m5 0; have a1 := m5 1; have m6 := (hC.blk HL6.out).cell; have b0 := m6 0; have b1 := m6 1; clear m5 m6; go_simp; exact rfl)
                  | (go_simp; exact ⟨rfl, rfl⟩)
              go_big_quiet_on)))
  refine wpQuiet_nil ?_
  intro W4 hC
  have HCC := Lib.hid (HB3.out.trans (hC.mono (Nat.le_of_lt HG3.out)))
  have HX4 := Lib.hid (HX3.out.keep (Below.block hC ge HG3.out))
  have HL54 := Lib.hid (hC.blk HL5.out)
  have HL64 := Lib.hid (hC.blk HL6.out)
  clear hC HX3 HG3 HB3 HL5 HL6 HD1 HD2
  go_upto_region 5 with fail
  obtain ⟨y0, y1, y2, y3, y4, y5, y6, y7, y8, y9⟩ := HX4.out.cells
  clear y0 y1 y3 y4 y5 y6 y7 y8 y9
  go_wp2_with fail
  go_ret
  exact ⟨rfl, by first | exact HCC.out | (rw [hge]; exact HCC.out)⟩
end Go.Proofs.Ytamcfmfkmekkfaa
/- The reference's value, Eval. -/
namespace Go.Proofs.Ytamcfmfkmekkfaa
open Go.RowKit Go
set_option maxRecDepth 100000 in
theorem rcompare_c (op r : Int) (st : S4) (ao ak : Option Addr) (n1 n2 cap ck na nb : Nat) (c : Ca) (ha : na < 15) (hb : nb < 15) (hs2 : sortA na = sortA nb) (hs : sortA na ≠ 3 → r ≤ 1) (h0 : 0 ≤ r) (h4 : r ≤ 4) (w : World) :
    Calls Try.prog 39 #[.agg #[.int .i64 op, .int .i64 na, .int .i64 r, .int .i64 nb, .slice ao n1 cap, .int .u64 st.a, .int .u64 st.b, .int .u64 st.c, .int .u64 st.d, .slice ak n2 ck], .agg #[.int .i64 c.c1.u, .int .i64 c.c1.ro, .int .i64 c.c1.ty, .int .i64 c.c1.lo.s, .int .u64 c.c1.lo.c, .int .i64 c.c1.hi.s, .int .u64 c.c1.hi.c, .int .i64 c.c2.u, .int .i64 c.c2.ro, .int .i64 c.c2.ty, .int .i64 c.c2.lo.s, .int .u64 c.c2.lo.c, .int .i64 c.c2.hi.s, .int .u64 c.c2.hi.c, .int .i64 c.c3.u, .int .i64 c.c3.ro, .int .i64 c.c3.ty, .int .i64 c.c3.lo.s, .int .u64 c.c3.lo.c, .int .i64 c.c3.hi.s, .int .u64 c.c3.hi.c]] w fun e w' => e = .returned (.bool (relX (rdX c na) r (rdX c nb))) ∧ Below w.heap.size w w' := by
  by_cases h3 : sortA na = 3
  · rw [rd_level c na h3, rd_level c nb (hs2 ▸ h3)]
    have HA := fun W => rlevel_c c na ha W
    have HB := fun W => rlevel_c c nb hb W
    generalize lvX c na = la at *
    generalize lvX c nb = lb at *
    unfold relX
    by_cases e0 : r = 0
    · rw [if_pos e0]
      by_cases e : la = lb
      · subst e
        rw [decide_eq_true rfl]
        exact rcl_0s op r st ao ak n1 n2 cap ck na nb c la h3 e0 HA HB w
      · rw [decide_eq_false e]
        by_cases es : la.s = lb.s
        · exact rcl_0c op r st ao ak n1 n2 cap ck na nb c la lb h3 e0 (by simpa using es) (by have h5 : ¬ la.c = lb.c := (fun h => e (lv_eq es h)); simp; omega) HA HB w
        · exact rcl_0d op r st ao ak n1 n2 cap ck na nb c la lb h3 e0 (by simpa using es) HA HB w
    · rw [if_neg e0]
      by_cases e1 : r = 1
      · rw [if_pos e1]
        by_cases e : la = lb
        · subst e
          rw [decide_eq_true rfl]
          exact rcl_1s op r st ao ak n1 n2 cap ck na nb c la h3 e1 HA HB w
        · rw [decide_eq_false e]
          by_cases es : la.s = lb.s
          · exact rcl_1c op r st ao ak n1 n2 cap ck na nb c la lb h3 e1 (by simpa using es) (by have h5 : ¬ la.c = lb.c := (fun h => e (lv_eq es h)); simp; omega) HA HB w
          · exact rcl_1d op r st ao ak n1 n2 cap ck na nb c la lb h3 e1 (by simpa using es) HA HB w
      · rw [if_neg e1]
        by_cases e2 : r = 2
        · rw [if_pos e2]
          exact rcl_2 op r st ao ak n1 n2 cap ck na nb c la lb h3 e2 HA HB w
        · rw [if_neg e2]
          by_cases e3 : r = 3
          · rw [if_pos e3]
            exact rcl_3 op r st ao ak n1 n2 cap ck na nb c la lb h3 e3 HA HB w
          · rw [if_neg e3, rel_inc]
            have e4 : r = 4 := by omega
            cases hd : domX la lb with
            | true => exact rcl_4t op r st ao ak n1 n2 cap ck na nb c la lb h3 e4 hd HA HB w
            | false =>
              rw [Bool.not_false, Bool.true_and]
              exact rcl_4f op r st ao ak n1 n2 cap ck na nb c la lb h3 e4 hd HA HB w
  · exact rcompare_n op r st ao ak n1 n2 cap ck na nb c ha hb h3 hs2 (by have := hs h3; omega) w
theorem rd_name' (c : Ca) (n : Nat) (h : sortA n ≠ 3) : (rdX c n).s = nmX c n := by rw [rd_name c n h]; rfl
theorem kpb {w W w1 : World} {B : Nat} (h : Below B w W) (hl : B ≤ W.heap.size) (hC : Kp W w1) : Below B w w1 := h.trans (hC.mono hl)
def okW : Nat → X → Prop
  | 0, _ => False
  | n + 1, x => okN x ∧ (x.op = 8 → sortA x.a = sortA x.b ∧ (sortA x.a ≠ 3 → x.r ≤ 1) ∧ 0 ≤ x.r ∧ x.r ≤ 4) ∧ (x.op = 9 → sortA x.a ≠ 3) ∧ ∀ k ∈ x.ks, okW n k
end Go.Proofs.Ytamcfmfkmekkfaa
