/- As wp_region_phit; the places that operations of a set make differ. -/
import Derived.Test.YtbcbhgclgakljaaPht
namespace Go.Proofs.Ytbcbhgclgakljaa
open Go.RowKit Go
section
variable {P : Program} {ops : Array Oper} {n : Nat} {W : World} {a0 : Act} {Φ : Nat → Value → World → Prop} {Q : Exit → Act → World → Prop}
def obOfP (P : Program) (ops : Array Oper) (n : Nat) (W : World) (a0 : Act) (Φ : Nat → Value → World → Prop) (S : Nat → Bool) (i : Nat) (o : Oper) : Prop :=
  (match o.guard with | none => True | some (j, b) => ∀ v w, Φ j v w → v = .bool b) ∧ ∀ A w, Kp W w → (∀ t, factAt ops n Φ a0 o A w t) → Gives P o A w (fun u w' => Φ i u w' ∧ (S i = true → ∃ b, u = .pointer (some ⟨b, 0, none⟩) ∧ w.heap.size ≤ b))
def obsP (P : Program) (ops : Array Oper) (n : Nat) (W : World) (a0 : Act) (Φ : Nat → Value → World → Prop) (S : Nat → Bool) : Nat → List Oper → Prop
  | _, [] => True
  | k, o :: r => obOfP P ops n W a0 Φ S k o ∧ obsP P ops n W a0 Φ S (k + 1) r
theorem obsP_at {S : Nat → Bool} : ∀ {l : List Oper} {k : Nat}, obsP P ops n W a0 Φ S k l → ∀ i o, l[i]? = some o → obOfP P ops n W a0 Φ S (k + i) o
  | [], _, _, i, o, h => by simp at h
  | x :: l, k, h, 0, o, ho => by
    obtain rfl : x = o := by simpa using ho
    exact h.1
  | x :: l, k, h, i + 1, o, ho => by
    have := obsP_at h.2 i o (by simpa using ho)
    rwa [show k + (i + 1) = k + 1 + i by omega]
structure PhInvP (ops : Array Oper) (n : Nat) (W : World) (a0 : Act) (Φ : Nat → Value → World → Prop) (S : Nat → Bool) (listed : Array Bool) (a : Act) (w : World) : Prop extends PhInv ops n W a0 Φ listed a w where
  pr : ∀ i j oi oj ti tj, i ≠ j → i < n → j < n → ops[i]? = some oi → ops[j]? = some oj → oi.dst = some ti → oj.dst = some tj → S i = true → S j = true → listed.getD i false = true → listed.getD j false = true → a.eval (.tmp ti) ≠ a.eval (.tmp tj)
theorem phi_headP {g : Nat} (S : Nat → Bool) (hlow2 : ∀ j v w, S j = true → Φ j v w → ∃ b, v = .pointer (some ⟨b, 0, none⟩) ∧ b < w.heap.size) (hB : phiB ops n a0.tmps.size = true) (hst : ∀ i v w w', Φ i v w → Below w.heap.size w w' → Φ i v w')
    (ob : ∀ i o, i < n → ops[i]? = some o → obOfP P ops n W a0 Φ S i o)
    (hready : ∀ listed, HeadInv .any ops n listed → (∃ i, i < n ∧ listed.getD i true = false) → ∀ t, n ≤ t → t ∉ Region.ready .any ops listed)
    (leaf : ∀ listed a w, PhInvP ops n W a0 Φ S listed a w → HeadInv .any ops n listed → (∀ i, i < n → listed.getD i true = true) → wpAny P .any ops Q g listed a w) :
    ∀ (f : Nat) (listed : Array Bool) (a : Act) (w : World), HeadInv .any ops n listed → PhInvP ops n W a0 Φ S listed a w → cntU n listed = f → wpAny P .any ops Q (f + g) listed a w := by
  intro f
  induction f with
  | zero =>
    intro listed a w hi hv hc
    rw [Nat.zero_add]
    refine leaf listed a w hv hi fun i hin => ?_
    have := List.countP_eq_zero.1 hc i (List.mem_range.2 hin)
    simpa using this
  | succ f ih =>
    intro listed a w hi hv hc
    have hex : ∃ i, i < n ∧ listed.getD i true = false := by
      have hpos : 0 < cntU n listed := by omega
      obtain ⟨i, him, hib⟩ := List.countP_pos_iff.1 hpos
      exact ⟨i, List.mem_range.1 him, by simpa using hib⟩
    have hr := hready listed hi hex
    rw [show f + 1 + g = (f + g) + 1 by omega]
    refine ⟨fun h0 => ?_, fun i him => ?_⟩
    · obtain ⟨k, hkn, hk⟩ := hex
      obtain ⟨i, hik, hil, hmin⟩ := least (p := fun i => listed.getD i true = false) k hk
      obtain ⟨o, ho, hlow, _⟩ := phiB_at hB (show i < n by omega)
      have : i ∈ Region.ready .any ops listed := mem_ready.2 ⟨hil, o, ho, fun e he hb => by
        have h1 := hlow e he hb
        have h2 := hmin e.on h1
        have h3 : e.on < listed.size := by
          rw [hi.size]
          have := (Array.getElem?_eq_some_iff.1 ho).1
          omega
        simp only [Array.getD_eq_getD_getElem?, Array.getElem?_eq_getElem h3, Option.getD_some] at h2 ⊢
        simpa using h2⟩
      rw [h0] at this
      cases this
    · have hin : i < n := by
        rcases Nat.lt_or_ge i n with h | h
        · exact h
        · exact absurd him (hr i h)
      obtain ⟨hil, oi, hoi, hall⟩ := mem_ready.1 him
      obtain ⟨o', ho', hlow, hdst, hgd⟩ := phiB_at hB hin
      obtain rfl : o' = oi := Option.some.inj (ho'.symm.trans hoi)
      obtain ⟨og, ov⟩ := ob i o' hin hoi
      have hlist : ∀ j, waitsOn o' j = true → listed.getD j false = true := fun j hj => by
        obtain ⟨e, he, hb, rfl⟩ := waitsOn_spec hj
        exact hall e he hb
      have hfact : ∀ t, factAt ops n Φ a0 o' a w t := fun t => by
        unfold factAt
        cases hs : srcOf ops n t with
        | none => exact hv.out t hs
        | some j =>
          intro hw
          obtain ⟨hjn, oj, hoj, hdj⟩ := srcOf_some hs
          exact hv.phi j oj t hjn hoj hdj (hlist j hw)
      have hwant : Region.wanted o' (yielded ops a.tmps) = true := by
        unfold Region.wanted
        cases hg : o'.guard with
        | none => rfl
        | some jb =>
          obtain ⟨j, b⟩ := jb
          obtain ⟨hjn, hwj, oj, t, hoj, hdj⟩ := hgd j b hg
          rw [hg] at og
          have hval := og _ _ (hv.phi j oj t hjn hoj hdj (hlist j hwj))
          obtain ⟨_, hoj2, _, hd2, _⟩ := phiB_at hB hjn
          obtain rfl := Option.some.inj (hoj2.symm.trans hoj)
          have ht := (hd2 t hdj).1
          rw [← hv.size] at ht
          have hval2 : a.tmps[t]? = some (.bool b) := by
            simp only [Act.eval, Array.getD_eq_getD_getElem?, Array.getElem?_eq_getElem ht, Option.getD_some] at hval
            rw [Array.getElem?_eq_getElem ht, hval]
          simp [yielded, hoj, hdj, hval2]
      unfold wpOp
      simp only [hoi, hwant, if_true]
      refine .inl ((ov a w hv.kp hfact).wp fun u w' hb hu => ?_)
      obtain ⟨hu, hfr⟩ := hu
      have hoth : ∀ j oj t, j < n → ops[j]? = some oj → oj.dst = some t → j ≠ i → (a.put o'.dst u).eval (.tmp t) = a.eval (.tmp t) := fun j oj t hjn hoj hdj hji => by
        rw [Act.eval_put (fun d hd e => ?_)]
        cases e
        obtain ⟨_, hoj2, _, hd2, _⟩ := phiB_at hB hjn
        obtain rfl := Option.some.inj (hoj2.symm.trans hoj)
        have e1 := (hd2 t hdj).2
        rw [(hdst t hd).2] at e1
        exact hji (Option.some.inj e1).symm
      have hsame : ∀ oj t, ops[i]? = some oj → oj.dst = some t → (a.put o'.dst u).eval (.tmp t) = u := fun oj t hoj hdj => by
        obtain rfl := Option.some.inj (hoj.symm.trans hoi)
        rw [hdj, eval_same (by rw [hv.size]; exact (hdst t hdj).1)]
      have hdiff : ∀ j oj t, j ≠ i → j < n → ops[j]? = some oj → oj.dst = some t → S i = true → S j = true → listed.getD j false = true → u ≠ a.eval (.tmp t) := fun j oj t hji hjn hoj hdj hsi hsj hlj e => by
        obtain ⟨b, e1, h1⟩ := hlow2 _ _ _ hsj (hv.phi j oj t hjn hoj hdj hlj)
        obtain ⟨b2, e2, h2⟩ := hfr hsi
        rw [← e, e2] at e1
        simp only [Value.pointer.injEq, Option.some.injEq, Addr.mk.injEq, and_true] at e1
        omega
      refine ih _ _ _ (hi.set him hin) ⟨⟨hv.kp.step hb, by rw [put_size]; exact hv.size, by rw [put_def]; exact hv.defers, fun t ht => ?_, fun j oj t hjn hoj hdj hlj => ?_⟩, fun k j ok oj tk tj hkj hkn hjn hok hoj hdk hdj hsk hsj hlk hlj => ?_⟩ ?_
      · rw [Act.eval_put (fun d hd e => ?_)]
        · exact hv.out t ht
        · cases e
          rw [(hdst t hd).2] at ht
          cases ht
      · by_cases hji : j = i
        · subst hji
          obtain rfl := Option.some.inj (hoj.symm.trans hoi)
          rw [hdj, eval_same (by rw [hv.size]; exact (hdst t hdj).1)]
          exact hu
        · rw [getD_set_ne false (Ne.symm hji)] at hlj
          rw [Act.eval_put (fun d hd e => ?_)]
          · exact hst _ _ _ _ (hv.phi j oj t hjn hoj hdj hlj) hb
          · cases e
            obtain ⟨_, hoj2, _, hd2, _⟩ := phiB_at hB hjn
            obtain rfl := Option.some.inj (hoj2.symm.trans hoj)
            have e1 := (hd2 t hdj).2
            rw [(hdst t hd).2] at e1
            exact hji (Option.some.inj e1).symm
      · by_cases hki : k = i
        · subst hki
          rw [getD_set_ne false hkj] at hlj
          rw [hsame ok tk hok hdk, hoth j oj tj hjn hoj hdj (Ne.symm hkj)]
          exact hdiff j oj tj (Ne.symm hkj) hjn hoj hdj hsk hsj hlj
        · rw [getD_set_ne false (Ne.symm hki)] at hlk
          rw [hoth k ok tk hkn hok hdk hki]
          by_cases hji : j = i
          · subst hji
            rw [hsame oj tj hoj hdj]
            exact (hdiff k ok tk hki hkn hok hdk hsj hsk hlk).symm
          · rw [getD_set_ne false (Ne.symm hji)] at hlj
            rw [hoth j oj tj hjn hoj hdj hji]
            exact hv.pr k j ok oj tk tj hkj hkn hjn hok hoj hdk hdj hsk hsj hlk hlj
      · have := cnt_step (fun j => !listed.getD j true) (fun j => !(listed.setIfInBounds i true).getD j true) i (by rw [hil]; rfl) (by
            have : i < listed.size := by rw [hi.size]; exact (Array.getElem?_eq_some_iff.1 hoi).1
            simp [this]) (fun j hj => by rw [getD_set_ne true (Ne.symm hj)]) n hin
        unfold cntU at hc ⊢
        omega
end
theorem wp_region_phip {P : Program} {id : Nat} {Q : Exit → Act → World → Prop} {a0 : Act} {W : World} {l : List Oper} (n : Nat) (S : Nat → Bool) (Φ : Nat → Value → World → Prop) (hm : P.follows .mixedOrders = true) (hn : n ≤ l.length)
    (hB : phiB l.toArray n a0.tmps.size = true) (hs : sinkT l.toArray n = true) (hseq : Region.seqB .any l.toArray (l.length - n) n (doneA n (l.length - n)) = true)
    (hst : ∀ i v w w', Φ i v w → Below w.heap.size w w' → Φ i v w') (hlow : ∀ j v w, S j = true → Φ j v w → ∃ b, v = .pointer (some ⟨b, 0, none⟩) ∧ b < w.heap.size) (ob : obsP P l.toArray n W a0 Φ S 0 (l.take n))
    (h : ∀ a w, Kp W w → a.tmps.size = a0.tmps.size → a.defers = a0.defers → (∀ t, factEnd l.toArray n Φ a0 a w t) → (∀ i j oi oj ti tj, i ≠ j → i < n → j < n → l.toArray[i]? = some oi → l.toArray[j]? = some oj → oi.dst = some ti → oj.dst = some tj → S i = true → S j = true → a.eval (.tmp ti) ≠ a.eval (.tmp tj)) → wpList P l.toArray Q (l.drop n) a w) : (Code.region id l.toArray true).wp P Q a0 W := by
  refine wp_region_any hm ?_
  have hsz : l.toArray.size = n + (l.length - n) := by simp; omega
  have hready : ∀ listed, HeadInv .any l.toArray n listed → (∃ i, i < n ∧ listed.getD i true = false) → ∀ t, n ≤ t → t ∉ Region.ready .any l.toArray listed := fun listed inv ⟨i, hi, hun⟩ t ht hr => by
    obtain ⟨_, ot, hot, hall⟩ := mem_ready.1 hr
    have htlt : t < l.toArray.size := (Array.getElem?_eq_some_iff.1 hot).1
    have h1 := List.all_eq_true.1 hs t (List.mem_range.2 htlt)
    simp only [Bool.or_eq_true, decide_eq_true_eq] at h1
    rcases h1 with h1 | h1
    · omega
    · have h2 := List.all_eq_true.1 h1 i (List.mem_range.2 hi)
      have h3 := reach_listed inv.closed l.toArray.size t (fun o ho e he hb => by
        obtain rfl : o = ot := Option.some.inj (ho.symm.trans hot)
        exact hall e he hb) h2
      rw [getD_both hun] at h3
      cases h3
  have := phi_headP (P := P) (Q := Q) (g := l.length - n) (W := W) (a0 := a0) S hlow hB hst (fun i o hi ho => by
      have h1 : (l.take n)[i]? = some o := by rw [List.getElem?_take_of_lt hi]; simpa using ho
      have := obsP_at ob i o h1
      rwa [Nat.zero_add] at this) hready (fun listed a w hv hi hall => by
    have hl : listed = doneA n (l.length - n) := by
      refine Array.ext (by rw [hi.size, hsz]; simp [doneA]) fun k hk hk2 => ?_
      rcases Nat.lt_or_ge k n with hkn | hkn
      · have h1 := hall k hkn
        simp only [Array.getD_eq_getD_getElem?, Array.getElem?_eq_getElem hk, Option.getD_some] at h1
        rw [h1]
        simp [doneA, hkn]
      · have h1 := hi.tail k hkn (by rw [← hi.size]; exact hk)
        simp only [Array.getD_eq_getD_getElem?, Array.getElem?_eq_getElem hk, Option.getD_some] at h1
        rw [h1]
        simp [doneA, List.getElem_append, Nat.not_lt.2 hkn]
    subst hl
    have hall2 : ∀ i, i < n → (doneA n (l.length - n)).getD i false = true := fun i hin => by
      have h1 := hall i hin
      have h2 : i < (doneA n (l.length - n)).size := by simp [doneA]; omega
      simp only [Array.getD_eq_getD_getElem?, Array.getElem?_eq_getElem h2, Option.getD_some] at h1 ⊢
      exact h1
    have hw := h a w hv.kp hv.size hv.defers (fun t => by
      unfold factEnd
      cases hs : srcOf l.toArray n t with
      | none => exact hv.out t hs
      | some j =>
        obtain ⟨hjn, oj, hoj, hdj⟩ := srcOf_some hs
        refine hv.phi j oj t hjn hoj hdj ?_
        have h1 := hall j hjn
        have h2 : j < (doneA n (l.length - n)).size := by simp [doneA]; omega
        simp only [Array.getD_eq_getD_getElem?, Array.getElem?_eq_getElem h2, Option.getD_some] at h1 ⊢
        exact h1) (fun i j oi oj ti tj hij hin hjn hoi hoj hdi hdj hsi hsj => hv.pr i j oi oj ti tj hij hin hjn hoi hoj hdi hdj hsi hsj (hall2 i hin) (hall2 j hjn)) 
    have hd : (l.drop n).length = l.length - n := by simp
    have := wpAny_of_seq (md := .any) (Q' := Q) (l.drop n) n (doneA n (l.length - n)) a w (fun j => by simp [List.getElem?_drop]) (by rw [hd]; exact hseq) hw
    rwa [hd] at this) n (Array.replicate l.toArray.size false) a0 { W with drawn := W.drawn + 1 }
    ⟨by simp, fun j oj _ hl => (by rw [getD_replicate_false] at hl; cases hl), fun t ht ht' => getD_in (by simpa using ht') (getD_replicate_false _ _)⟩
    ⟨⟨(Below.refl _ _).drew, rfl, rfl, fun _ _ => rfl, fun j oj t _ _ _ hl => (by rw [getD_replicate_false] at hl; cases hl)⟩, fun k j ok oj tk tj _ _ _ _ _ _ _ _ _ hl => (by rw [getD_replicate_false] at hl; cases hl)⟩ (by
      unfold cntU
      rw [List.countP_eq_length.2 fun i hi => by
        rw [getD_in (by have := List.mem_range.1 hi; simp; omega) (getD_replicate_false _ _)]; rfl]
      simp)
  rw [hsz]
  rw [hsz] at this
  exact this
end Go.Proofs.Ytbcbhgclgakljaa
