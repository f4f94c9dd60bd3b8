/- Regions that draw their order: a head whose slots have properties, and a chained tail. -/
import Derived.Test.YtcainohglmgdpaaPh
import Derived.Deep.DeepCutAuto
namespace Go.Proofs.Ytcainohglmgdpaa
open Go.RowKit
theorem fact_none {ops : Array Oper} {n t : Nat} {Φ : Nat → Value → World → Prop} {a0 A : Act} {o : Oper} {w : World} (h : factAt ops n Φ a0 o A w t) (hs : srcOf ops n t = none) : A.tmps[t]?.getD undef = a0.eval (.tmp t) := by
  unfold factAt at h; rw [hs] at h; simpa [Act.eval] using h
theorem fact_some {ops : Array Oper} {n t j : Nat} {Φ : Nat → Value → World → Prop} {a0 A : Act} {o : Oper} {w : World} (h : factAt ops n Φ a0 o A w t) (hs : srcOf ops n t = some j) (hw : waitsOn o j = true) : Φ j (A.tmps[t]?.getD undef) w := by
  unfold factAt at h; rw [hs] at h; have h2 := h hw; rwa [show A.eval (.tmp t) = A.tmps[t]?.getD undef by simp [Act.eval]] at h2
def obsL (P : Program) (ops : Array Oper) (n : Nat) (W : World) (a0 : Act) (Φ : Nat → Value → World → Prop) : Nat → List Oper → Prop
  | _, [] => True
  | k, o :: r => obOf P ops n W a0 Φ k o ∧ obsL P ops n W a0 Φ (k + 1) r
theorem obs_at {P : Program} {ops : Array Oper} {n : Nat} {W : World} {a0 : Act} {Φ : Nat → Value → World → Prop} : ∀ {l : List Oper} {k : Nat}, obsL P ops n W a0 Φ k l → ∀ i o, l[i]? = some o → obOf P ops n W a0 Φ (k + i) o
  | [], _, _, i, o, h => by simp at h
  | x :: l, k, h, 0, o, ho => by
    obtain rfl : x = o := by simpa using ho
    exact h.1
  | x :: l, k, h, i + 1, o, ho => by
    have := obs_at h.2 i o (by simpa using ho)
    rwa [show k + (i + 1) = k + 1 + i by omega]
theorem wp_region_obs {P : Program} {id : Nat} {Q : Exit → Act → World → Prop} {a0 : Act} {W : World} {l : List Oper} (Φ : Nat → Value → World → Prop) (hm : P.follows .mixedOrders = true)
    (hB : phiB l.toArray l.toArray.size a0.tmps.size = true) (hst : ∀ i v w w', Φ i v w → Below w.heap.size w w' → Φ i v w')
    (ob : obsL P l.toArray l.toArray.size W a0 Φ 0 l)
    (h : ∀ a w, Kp W w → a.tmps.size = a0.tmps.size → a.defers = a0.defers → (∀ t, factEnd l.toArray l.toArray.size Φ a0 a w t) → Q .normal a w) : (Code.region id l.toArray true).wp P Q a0 W :=
  wp_region_phi Φ hm hB hst (fun i o _ ho => by have := obs_at ob i o (by simpa using ho); rwa [Nat.zero_add] at this) h
def cutL (a : Act) (lo hi : Nat) : Nat → List Value → List Value
  | _, [] => []
  | t, v :: l => (bif Nat.ble lo t && Nat.ble t hi then a.tmps[t]?.getD undef else v) :: cutL a lo hi (t + 1) l
theorem cutL_eq (a : Act) (lo hi : Nat) : ∀ (l : List Value) (t : Nat) (m : List Value), m.length = l.length → (∀ k (h : k < m.length), a.tmps[t + k]? = some m[k]) → (∀ k (h : k < l.length) (h' : k < m.length), (Nat.ble lo (t + k) && Nat.ble (t + k) hi) = false → m[k] = l[k]) → m = cutL a lo hi t l
  | [], _, m, hm, _, _ => List.eq_nil_of_length_eq_zero hm
  | v :: l, t, [], hm, _, _ => by simp at hm
  | v :: l, t, x :: m, hm, hg, hs => by
    have h0 := hg 0 (by simp)
    unfold cutL
    congr 1
    · cases hb : (Nat.ble lo t && Nat.ble t hi)
      · exact hs 0 (by simp) (by simp) hb
      · simp only [cond_true]
        have h0' : a.tmps[t]? = some x := h0
        rw [h0']; rfl
    · refine cutL_eq a lo hi l (t + 1) m (by simpa using hm) (fun k h => ?_) (fun k h h' hb => ?_)
      · have := hg (k + 1) (by simpa using h)
        rwa [show t + (k + 1) = t + 1 + k by omega] at this
      · have := hs (k + 1) (by simpa using h) (by simpa using h') (by rwa [show t + (k + 1) = t + 1 + k by omega])
        simpa using this
theorem act_ext {a : Act} {t : Array Value} {d : List Deferred} (h1 : a.tmps = t) (h2 : a.defers = d) : a = { tmps := t, defers := d } := by subst h1 h2; rfl
theorem end_cut {ops : Array Oper} {n : Nat} {Φ : Nat → Value → World → Prop} {a0 a : Act} {w : World} (lo hi : Nat) (hs : a.tmps.size = a0.tmps.size) (hd : a.defers = a0.defers) (hF : ∀ t, factEnd ops n Φ a0 a w t)
    (hB : ((List.range a0.tmps.size).all fun t => (Nat.ble lo t && Nat.ble t hi) || (srcOf ops n t).isNone) = true) : a = { tmps := (cutL a lo hi 0 a0.tmps.toList).toArray, defers := a0.defers } := by
  have e : a.tmps = (cutL a lo hi 0 a0.tmps.toList).toArray := by
    have e2 : a.tmps.toList = cutL a lo hi 0 a0.tmps.toList := by
      refine cutL_eq a lo hi _ 0 _ (by simpa using hs) (fun k h => ?_) (fun k h h' hb => ?_)
      · have h2 : k < a.tmps.size := by simpa using h
        rw [Nat.zero_add, Array.getElem?_eq_getElem h2]
        simp
      · rw [Nat.zero_add] at hb
        have h1 : k < a0.tmps.size := by simpa using h
        have h2 : k < a.tmps.size := by simpa using h'
        have := List.all_eq_true.1 hB k (List.mem_range.2 h1)
        rw [hb, Bool.false_or] at this
        have hn : srcOf ops n k = none := by
          cases hc : srcOf ops n k with
          | none => rfl
          | some j => rw [hc] at this; cases this
        have hk := hF k
        unfold factEnd at hk
        rw [hn] at hk
        have hk2 : a.tmps[k]?.getD undef = a0.tmps[k]?.getD undef := by simpa [Act.eval] using hk
        rw [Array.getElem?_eq_getElem h1, Array.getElem?_eq_getElem h2] at hk2
        simpa using hk2
    rw [← e2]
  exact act_ext e hd
/-- whether an operation waits for another one, directly or over others -/
def reachB (md : Region.Mode) (ops : Array Oper) (i : Nat) : Nat → Nat → Bool
  | 0, _ => false
  | f + 1, t => match ops[t]? with
    | some o => o.after.any fun e => Region.binds md e && (e.on == i || reachB md ops i f e.on)
    | none => false
theorem reach_listed {md : Region.Mode} {ops : Array Oper} {i : Nat} {listed : Array Bool} (inv : ∀ j oj, ops[j]? = some oj → listed.getD j false = true → ∀ e ∈ oj.after, Region.binds md e = true → listed.getD e.on false = true) : ∀ (f t : Nat), (∀ o, ops[t]? = some o → ∀ e ∈ o.after, Region.binds md e = true → listed.getD e.on false = true) → reachB md ops i f t = true → listed.getD i false = true
  | 0, _, _, h => by cases h
  | f + 1, t, ht, h => by
    unfold reachB at h
    split at h
    · rename_i o ho
      obtain ⟨e, he, hb⟩ := Array.any_eq_true'.1 h
      simp only [Bool.and_eq_true, Bool.or_eq_true, beq_iff_eq] at hb
      have h1 := ht o ho e he hb.1
      rcases hb.2 with h2 | h2
      · rw [← h2]; exact h1
      · exact reach_listed inv f e.on (fun o' ho' e' he' hb' => inv e.on o' ho' h1 e' he' hb') h2
    · cases h
def sinkT (ops : Array Oper) (n : Nat) : Bool :=
  (List.range ops.size).all fun t => decide (t < n) || (List.range n).all fun i => reachB .any ops i ops.size t
def doneA (n m : Nat) : Array Bool := ((List.replicate n true) ++ (List.replicate m false)).toArray
theorem wp_region_phit {P : Program} {id : Nat} {Q : Exit → Act → World → Prop} {a0 : Act} {W : World} {l : List Oper} (n : Nat) (Φ : Nat → Value → World → Prop) (hm : P.follows .mixedOrders = true) (hn : n ≤ l.length)
    (hB : phiB l.toArray n a0.tmps.size = true) (hs : sinkT l.toArray n = true) (hseq : Region.seqB .any l.toArray (l.length - n) n (doneA n (l.length - n)) = true)
    (hst : ∀ i v w w', Φ i v w → Below w.heap.size w w' → Φ i v w') (ob : obsL P l.toArray n W a0 Φ 0 (l.take n))
    (h : ∀ a w, Kp W w → a.tmps.size = a0.tmps.size → a.defers = a0.defers → (∀ t, factEnd l.toArray n Φ a0 a w t) → wpList P l.toArray Q (l.drop n) a w) : (Code.region id l.toArray true).wp P Q a0 W := by
  refine wp_region_any hm ?_
  have hsz : l.toArray.size = n + (l.length - n) := by simp; omega
  have hready : ∀ listed, HeadInv .any l.toArray n listed → (∃ i, i < n ∧ listed.getD i true = false) → ∀ t, n ≤ t → t ∉ Region.ready .any l.toArray listed := fun listed inv ⟨i, hi, hun⟩ t ht hr => by
    obtain ⟨_, ot, hot, hall⟩ := mem_ready.1 hr
    have htlt : t < l.toArray.size := (Array.getElem?_eq_some_iff.1 hot).1
    have h1 := List.all_eq_true.1 hs t (List.mem_range.2 htlt)
    simp only [Bool.or_eq_true, decide_eq_true_eq] at h1
    rcases h1 with h1 | h1
    · omega
    · have h2 := List.all_eq_true.1 h1 i (List.mem_range.2 hi)
      have h3 := reach_listed inv.closed l.toArray.size t (fun o ho e he hb => by
        obtain rfl : o = ot := Option.some.inj (ho.symm.trans hot)
        exact hall e he hb) h2
      rw [getD_both hun] at h3
      cases h3
  have := phi_head (P := P) (Q := Q) (g := l.length - n) (W := W) (a0 := a0) hB hst (fun i o hi ho => by
      have h1 : (l.take n)[i]? = some o := by rw [List.getElem?_take_of_lt hi]; simpa using ho
      have := obs_at ob i o h1
      rwa [Nat.zero_add] at this) hready (fun listed a w hv hi hall => by
    have hl : listed = doneA n (l.length - n) := by
      refine Array.ext (by rw [hi.size, hsz]; simp [doneA]) fun k hk hk2 => ?_
      rcases Nat.lt_or_ge k n with hkn | hkn
      · have h1 := hall k hkn
        simp only [Array.getD_eq_getD_getElem?, Array.getElem?_eq_getElem hk, Option.getD_some] at h1
        rw [h1]
        simp [doneA, hkn]
      · have h1 := hi.tail k hkn (by rw [← hi.size]; exact hk)
        simp only [Array.getD_eq_getD_getElem?, Array.getElem?_eq_getElem hk, Option.getD_some] at h1
        rw [h1]
        simp [doneA, List.getElem_append, Nat.not_lt.2 hkn]
    subst hl
    have hw := h a w hv.kp hv.size hv.defers fun t => by
      unfold factEnd
      cases hs : srcOf l.toArray n t with
      | none => exact hv.out t hs
      | some j =>
        obtain ⟨hjn, oj, hoj, hdj⟩ := srcOf_some hs
        refine hv.phi j oj t hjn hoj hdj ?_
        have h1 := hall j hjn
        have h2 : j < (doneA n (l.length - n)).size := by simp [doneA]; omega
        simp only [Array.getD_eq_getD_getElem?, Array.getElem?_eq_getElem h2, Option.getD_some] at h1 ⊢
        exact h1
    have hd : (l.drop n).length = l.length - n := by simp
    have := wpAny_of_seq (md := .any) (Q' := Q) (l.drop n) n (doneA n (l.length - n)) a w (fun j => by simp [List.getElem?_drop]) (by rw [hd]; exact hseq) hw
    rwa [hd] at this) n (Array.replicate l.toArray.size false) a0 { W with drawn := W.drawn + 1 }
    ⟨by simp, fun j oj _ hl => (by rw [getD_replicate_false] at hl; cases hl), fun t ht ht' => getD_in (by simpa using ht') (getD_replicate_false _ _)⟩
    ⟨(Below.refl _ _).drew, rfl, rfl, fun _ _ => rfl, fun j oj t _ _ _ hl => (by rw [getD_replicate_false] at hl; cases hl)⟩ (by
      unfold cntU
      rw [List.countP_eq_length.2 fun i hi => by
        rw [getD_in (by have := List.mem_range.1 hi; simp; omega) (getD_replicate_false _ _)]; rfl]
      simp)
  rw [hsz]
  rw [hsz] at this
  exact this
theorem cutL_nil (a : Act) (lo hi t : Nat) : cutL a lo hi t [] = [] := rfl
theorem cutL_cons (a : Act) (lo hi t : Nat) (v : Value) (l : List Value) : cutL a lo hi t (v :: l) = (if lo ≤ t ∧ t ≤ hi then a.tmps[t]?.getD undef else v) :: cutL a lo hi (t + 1) l := by
  have e : (bif Nat.ble lo t && Nat.ble t hi then a.tmps[t]?.getD undef else v) = (if lo ≤ t ∧ t ≤ hi then a.tmps[t]?.getD undef else v) := by
    by_cases h : lo ≤ t ∧ t ≤ hi
    · rw [if_pos h, Nat.ble_eq_true_of_le h.1, Nat.ble_eq_true_of_le h.2]; rfl
    · rw [if_neg h]
      cases hb : (Nat.ble lo t && Nat.ble t hi)
      · rfl
      · rw [Bool.and_eq_true] at hb
        exact absurd ⟨Nat.le_of_ble_eq_true hb.1, Nat.le_of_ble_eq_true hb.2⟩ h
  show (bif Nat.ble lo t && Nat.ble t hi then a.tmps[t]?.getD undef else v) :: cutL a lo hi (t + 1) l = _
  rw [e]
theorem fact_end {ops : Array Oper} {n t j : Nat} {Φ : Nat → Value → World → Prop} {a0 a : Act} {w : World} (h : factEnd ops n Φ a0 a w t) (hs : srcOf ops n t = some j) : Φ j (a.tmps[t]?.getD undef) w := by
  unfold factEnd at h; rw [hs] at h; rwa [show a.eval (.tmp t) = a.tmps[t]?.getD undef by simp [Act.eval]] at h
theorem gives_val {P : Program} {w w' : World} {u : Value} {φ : Value → World → Prop} (hb : Below w.heap.size w w') (h : φ u w') : GivesR P w φ (.ok (.value u) w') := ⟨hb, h⟩
theorem gives_enter {P : Program} {w : World} {f : FuncId} {args : Array Value} {φ : Value → World → Prop} (h : Calls P f args w fun e w'' => ∃ v, e = .returned v ∧ Below w.heap.size w w'' ∧ φ v w'') : GivesR P w φ (.ok (.enter f args) w) := ⟨rfl, h⟩
end Go.Proofs.Ytcainohglmgdpaa
