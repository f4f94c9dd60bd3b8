/- Part of the proof: Sqt. No conditions. -/
import Derived.Test.YtbhoofihnmmmfabGreatYab
namespace Go.Proofs.YtbhoofihnmmmfabGreat
open Go.RowKit Go
structure SqInv (ops : Array Oper) (n : Nat) (W : World) (a0 : Act) (Φ : Nat → Value → World → Prop) (k : Nat) (a : Act) (w : World) : Prop where
 kp : Kp W w
 size : a.tmps.size = a0.tmps.size
 defers : a.defers = a0.defers
 out : ∀ t, srcOf ops n t = none → a.eval (.tmp t) = a0.eval (.tmp t)
 phi : ∀ j oj t, j < k → j < n → ops[j]? = some oj → oj.dst = some t → Φ j (a.eval (.tmp t)) w
theorem sq_head {P : Program} {l : List Oper} {n : Nat} {W : World} {a0 : Act} {Φ : Nat → Value → World → Prop} {Q : Exit → Act → World → Prop} (hn : n ≤ l.length) (hB : phiB l.toArray n a0.tmps.size = true) (hst : ∀ i v w w', Φ i v w → Below w.heap.size w w' → Φ i v w')
 (ob : ∀ i o, i < n → l.toArray[i]? = some o → obOf P l.toArray n W a0 Φ i o)
 (leaf : ∀ a w, SqInv l.toArray n W a0 Φ n a w → wpList P l.toArray Q (l.drop n) a w) :
 ∀ (m k : Nat), m + k = n → ∀ a w, SqInv l.toArray n W a0 Φ k a w → wpList P l.toArray Q (l.drop k) a w := by
 intro m
 induction m with
 | zero =>
   intro k hk a w hv
   obtain rfl : k = n := by omega
   exact leaf a w hv
 | succ m ih =>
   intro k hk a w hv
   have hkn : k < n := by omega
   have hkl : k < l.length := by omega
   have hoi : l.toArray[k]? = some l[k] := by simp [hkl]
   rw [List.drop_eq_getElem_cons hkl]
   generalize l[k] = o' at *
   obtain ⟨o2, ho2, hlow, hdst, hgd⟩ := phiB_at hB hkn
   obtain rfl : o2 = o' := Option.some.inj (ho2.symm.trans hoi)
   obtain ⟨og, ov⟩ := ob k o2 hkn hoi
   have hlist : ∀ j, waitsOn o2 j = true → j < k := fun j hj => by
    obtain ⟨e, he, hb, rfl⟩ := waitsOn_spec hj
    exact hlow e he hb
   have hfact : ∀ t, factAt l.toArray n Φ a0 o2 a w t := fun t => by
    unfold factAt
    cases hs : srcOf l.toArray n t with
    | none => exact hv.out t hs
    | some j =>
      intro hw
      obtain ⟨hjn, oj, hoj, hdj⟩ := srcOf_some hs
      exact hv.phi j oj t (hlist j hw) hjn hoj hdj
   have hwant : Region.wanted o2 (yielded l.toArray a.tmps) = true := by
    unfold Region.wanted
    cases hg : o2.guard with
    | none => rfl
    | some jb =>
      obtain ⟨j, b⟩ := jb
      obtain ⟨hjn, hwj, oj, t, hoj, hdj⟩ := hgd j b hg
      rw [hg] at og
      have hval := og _ _ (hv.phi j oj t (hlist j hwj) hjn hoj hdj)
      obtain ⟨_, hoj2, _, hd2, _⟩ := phiB_at hB hjn
      obtain rfl := Option.some.inj (hoj2.symm.trans hoj)
      have ht := (hd2 t hdj).1
      rw [← hv.size] at ht
      have hval2 : a.tmps[t]? = some (.bool b) := by
       simp only [Act.eval, Array.getD_eq_getD_getElem?, Array.getElem?_eq_getElem ht, Option.getD_some] at hval
       rw [Array.getElem?_eq_getElem ht, hval]
      simp [yielded, hoj, hdj, hval2]
   unfold wpList
   rw [if_pos hwant]
   refine .inl ((ov a w hv.kp hfact).wp fun u w' hb hu => ?_)
   refine ih (k + 1) (by omega) _ _ ⟨hv.kp.step hb, by rw [put_size]; exact hv.size, by rw [put_def]; exact hv.defers, fun t ht => ?_, fun j oj t hjk hjn hoj hdj => ?_⟩
   · rw [Act.eval_put (fun d hd e => ?_)]
     · exact hv.out t ht
     · cases e
       rw [(hdst t hd).2] at ht
       cases ht
   · by_cases hji : j = k
     · subst hji
       obtain rfl := Option.some.inj (hoj.symm.trans hoi)
       rw [hdj, eval_same (by rw [hv.size]; exact (hdst t hdj).1)]
       exact hu
     · rw [Act.eval_put (fun d hd e => ?_)]
       · exact hst _ _ _ _ (hv.phi j oj t (by omega) hjn hoj hdj) hb
       · cases e
         obtain ⟨_, hoj2, _, hd2, _⟩ := phiB_at hB hjn
         obtain rfl := Option.some.inj (hoj2.symm.trans hoj)
         have e1 := (hd2 t hdj).2
         rw [(hdst t hd).2] at e1
         exact hji (Option.some.inj e1).symm
theorem wp_region_sqt {P : Program} {id : Nat} {Q : Exit → Act → World → Prop} {a0 : Act} {W : World} {l : List Oper} (n : Nat) (Φ : Nat → Value → World → Prop) (hn : n ≤ l.length)
 (hB : phiB l.toArray n a0.tmps.size = true) (hst : ∀ i v w w', Φ i v w → Below w.heap.size w w' → Φ i v w') (ob : obsL P l.toArray n W a0 Φ 0 (l.take n))
 (h : ∀ a w, Kp W w → a.tmps.size = a0.tmps.size → a.defers = a0.defers → (∀ t, factEnd l.toArray n Φ a0 a w t) → wpList P l.toArray Q (l.drop n) a w) : (Code.region id l.toArray false).wp P Q a0 W := by
 refine wp_region_lit ?_
 have := sq_head (P := P) (Q := Q) (W := W) (a0 := a0) hn hB hst (fun i o hi ho => by
  have h1 : (l.take n)[i]? = some o := by rw [List.getElem?_take_of_lt hi]; simpa using ho
  have := obs_at ob i o h1
  rwa [Nat.zero_add] at this) (fun a w hv => h a w hv.kp hv.size hv.defers fun t => by
  unfold factEnd
  cases hs : srcOf l.toArray n t with
  | none => exact hv.out t hs
  | some j =>
    obtain ⟨hjn, oj, hoj, hdj⟩ := srcOf_some hs
    exact hv.phi j oj t hjn hjn hoj hdj) n 0 (by omega) a0 W ⟨Below.refl _ _, rfl, rfl, fun _ _ => rfl, fun j _ _ hj => absurd hj (by omega)⟩
 rwa [List.drop_zero] at this
end Go.Proofs.YtbhoofihnmmmfabGreat
