/- P15.7: the order of rules and entries has no effect: the law ExpandOrder returns true for every policy, list of entries and number, and its arguments read afterwards as before. Conditions: none. -/
import Derived.Test.YtjikbffnhfoikaaZah
namespace Go.Proofs.Ytjikbffnhfoikaa
open Go.RowKit Go.Sort Go.Maps
/-- the set of what f yields where q holds -/
def collS (q : Tr → Bool) (f : Tr → Int) (P : List Tr) (S : S4) : S4 := P.foldl (fun S z => if q z = true then withS (f z) S else S) S
theorem collS_U (q : Tr → Bool) (f : Tr → Int) : ∀ (P : List Tr) {S : S4}, S.U → (collS q f P S).U
  | [], _, h => h
  | z :: P, S, h => by
    show (collS q f P (if q z = true then withS (f z) S else S)).U
    refine collS_U q f P ?_
    split
    · exact withS_U _ h
    · exact h
theorem has_coll (q : Tr → Bool) (f : Tr → Int) : ∀ (P : List Tr) {S : S4}, S.U → (∀ z ∈ P, 0 ≤ f z ∧ f z < 256) → ∀ n : Int, hasS (collS q f P S) n = true ↔ hasS S n = true ∨ ∃ z ∈ P, q z = true ∧ f z = n
  | [], S, _, _, n => by
    show hasS S n = true ↔ _
    simp
  | z :: P, S, h, hr, n => by
    show hasS (collS q f P (if q z = true then withS (f z) S else S)) n = true ↔ _
    have hU : (if q z = true then withS (f z) S else S).U := by
      split
      · exact withS_U _ h
      · exact h
    rw [has_coll q f P hU (fun y hy => hr y (by simp [hy])) n]
    by_cases hq : q z = true
    · rw [if_pos hq, has_withI (hr z (by simp)) h, Bool.or_eq_true, decide_eq_true_eq]
      constructor
      · rintro ((h1 | h1) | ⟨y, hy, h2⟩)
        · exact .inl h1
        · exact .inr ⟨z, by simp, hq, h1.symm⟩
        · exact .inr ⟨y, by simp [hy], h2⟩
      · rintro (h1 | ⟨y, hy, h2⟩)
        · exact .inl (.inl h1)
        · rcases List.mem_cons.1 hy with rfl | hy
          · exact .inl (.inr h2.2.symm)
          · exact .inr ⟨y, hy, h2⟩
    · rw [if_neg hq]
      constructor
      · rintro (h1 | ⟨y, hy, h2⟩)
        · exact .inl h1
        · exact .inr ⟨y, by simp [hy], h2⟩
      · rintro (h1 | ⟨y, hy, h2⟩)
        · exact .inl h1
        · rcases List.mem_cons.1 hy with rfl | hy
          · exact absurd h2.1 hq
          · exact .inr ⟨y, hy, h2⟩
theorem zero_has (n : Int) : ¬ hasS S4.zero n = true := fun h => by
  obtain ⟨h1, h2⟩ := hasS_in h
  have := has_zero (n := n.toNat) (by omega)
  rw [show ((n.toNat : Nat) : Int) = n by omega, h] at this
  cases this
theorem tgS_coll (P : List Tr) (z : Tr) : tgS P z = collS (fun x => decide (eqT x z)) (fun x => x.t) P S4.zero := by
  unfold tgS collS
  congr 1
  funext S x
  simp only [decide_eq_true_eq]
theorem has_tgS {P : List Tr} (hP : ∀ z ∈ P, 0 ≤ z.t ∧ z.t < 256) (z : Tr) (n : Int) : hasS (tgS P z) n = true ↔ ∃ x ∈ P, eqT x z ∧ x.t = n := by
  rw [tgS_coll, has_coll _ _ P U_zero hP]
  constructor
  · rintro (h | ⟨x, hx, h1, h2⟩)
    · exact absurd h (zero_has n)
    · exact ⟨x, hx, of_decide_eq_true h1, h2⟩
  · rintro ⟨x, hx, h1, h2⟩
    exact .inr ⟨x, hx, decide_eq_true h1, h2⟩
/-- the rule of what z says -/
def ruOf (P : List Tr) (z : Tr) : Ru := ⟨z.m.k, collS (fun x => decide (x.m = z.m) && decide (tgS P x = tgS P z)) (fun x => x.s) P S4.zero, tgS P z, false, z.m.c, z.m.p, z.m.d, ⟨z.wf.1, z.wf.2.1, z.wf.2.2.1, collS_U _ _ P U_zero, tgS_U P z⟩⟩
theorem ruOf_for {P : List Tr} (hS : ∀ z ∈ P, 0 ≤ z.s ∧ z.s < 256) (z : Tr) : ruleFor P (bkOf P z) (ruOf P z) := by
  refine ⟨rfl, rfl, rfl, rfl, rfl, rfl, fun n => ?_⟩
  show hasS (collS _ _ P S4.zero) n = true ↔ _
  rw [has_coll _ _ P U_zero hS]
  constructor
  · rintro (h | ⟨x, hx, h1, h2⟩)
    · exact absurd h (zero_has n)
    · simp only [Bool.and_eq_true, decide_eq_true_eq] at h1
      exact ⟨x, hx, rfl, h1.1, h1.2, h2⟩
  · rintro ⟨x, hx, _, h1, h2, h3⟩
    exact .inr ⟨x, hx, by simp only [Bool.and_eq_true, decide_eq_true_eq]; exact ⟨h1, h2⟩, h3⟩
theorem CompOf.mem_iff {P : List Tr} {S : List Ru} (h : CompOf P S) (hS : ∀ z ∈ P, 0 ≤ z.s ∧ z.s < 256) (r : Ru) : r ∈ S ↔ ∃ z ∈ P, r = ruOf P z := by
  constructor
  · intro hr
    obtain ⟨hs, b, ⟨n, z, hz, _, h1, h2, h3⟩, hb⟩ := (h.2 r).1 hr
    refine ⟨z, hz, ?_⟩
    have e : eqB b (bkOf P z) := ⟨h1.symm, h2.symm⟩
    exact Ru.same (ruleFor_eq e ⟨hs, hb⟩) (ruOf_for hS z)
  · rintro ⟨z, hz, rfl⟩
    have := ruOf_for hS z
    exact (h.2 _).2 ⟨this.1, bkOf P z, ⟨z.s, z, hz, rfl, rfl, rfl, rfl⟩, this.2⟩
theorem len_sub {α : Type} [DecidableEq α] : ∀ {S T : List α}, S.Nodup → (∀ x ∈ S, x ∈ T) → S.length ≤ T.length
  | [], _, _, _ => Nat.zero_le _
  | x :: S, T, h, k => by
    obtain ⟨h1, h2⟩ := List.nodup_cons.1 h
    have hx := k x (by simp)
    have := len_sub (S := S) (T := T.erase x) h2 fun y hy => (List.mem_erase_of_ne (show y ≠ x from fun e => h1 (by rw [← e]; exact hy))).2 (k y (by simp [hy]))
    rw [List.length_erase_of_mem hx] at this
    have : 0 < T.length := List.length_pos_of_mem hx
    simp only [List.length_cons]
    omega
theorem CompOf.len {P : List Tr} {S : List Ru} (h : CompOf P S) (hS : ∀ z ∈ P, 0 ≤ z.s ∧ z.s < 256) : S.length ≤ P.length := by
  have := len_sub (S := S) (T := P.map (ruOf P)) (show S.Nodup from h.1.imp fun {a b} (k : ltR a b) (e : a = b) => ltR_irr a (by rw [← e] at k; exact k)) fun r hr => by
    obtain ⟨z, hz, rfl⟩ := (h.mem_iff hS r).1 hr
    exact List.mem_map.2 ⟨z, hz, rfl⟩
  simpa using this
/-! what the rules say -/
theorem mem_mgE {x : E} {m : Me} : m ∈ mgE x ↔ m.c = x.c ∧ m.d = x.d ∧ m.p ≠ 0#32 ∧ ((m.k = 1 ∧ m.p = x.a) ∨ (m.k = 2 ∧ m.p = x.b) ∨ (m.k = 3 ∧ m.p = x.e)) := by
  unfold mgE mgN
  rw [List.mem_map]
  constructor
  · rintro ⟨y, hy, rfl⟩
    rw [List.mem_filter] at hy
    obtain ⟨h1, h2⟩ := hy
    have h2 : y.p ≠ 0#32 := by simpa using h2
    have h1 : y ∈ mg0 x := List.mem_of_mem_take h1
    simp only [mg0, List.mem_cons, List.not_mem_nil, or_false] at h1
    rcases h1 with rfl | rfl | rfl
    · exact ⟨rfl, rfl, h2, .inl ⟨rfl, rfl⟩⟩
    · exact ⟨rfl, rfl, h2, .inr (.inl ⟨rfl, rfl⟩)⟩
    · exact ⟨rfl, rfl, h2, .inr (.inr ⟨rfl, rfl⟩)⟩
  · rintro ⟨hc, hd, hp, h⟩
    have ht : (mg0 x).take 3 = mg0 x := rfl
    rw [ht]
    refine ⟨⟨m.k, 0, 0, m.p⟩, List.mem_filter.2 ⟨?_, by simpa using hp⟩, Me.same rfl hc.symm hd.symm rfl⟩
    simp only [mg0, List.mem_cons, List.not_mem_nil, or_false]
    rcases h with ⟨h1, h2⟩ | ⟨h1, h2⟩ | ⟨h1, h2⟩
    · exact .inl (Me.same h1 rfl rfl h2)
    · exact .inr (.inl (Me.same h1 rfl rfl h2))
    · exact .inr (.inr (Me.same h1 rfl rfl h2))
theorem mem_trL {L : List E} {z : Tr} : z ∈ trL L ↔ ∃ x ∈ L, isT x.s = true ∧ isT x.t = true ∧ z.m ∈ mgE x ∧ z.s = x.s ∧ z.t = x.t := by
  unfold trL
  rw [List.mem_flatMap]
  constructor
  · rintro ⟨x, hx, h⟩
    unfold trE at h
    split at h
    · rename_i ht
      rw [Bool.and_eq_true] at ht
      obtain ⟨m, hm, rfl⟩ := List.mem_map.1 h
      obtain ⟨a1, a2, a3⟩ := Me.tr_of hm
      exact ⟨x, hx, ht.1, ht.2, by rw [a1]; exact hm, a2, a3⟩
    · simp at h
  · rintro ⟨x, hx, h1, h2, hm, h3, h4⟩
    refine ⟨x, hx, ?_⟩
    unfold trE
    rw [if_pos (by rw [h1, h2]; rfl)]
    refine List.mem_map.2 ⟨z.m, hm, ?_⟩
    obtain ⟨a1, a2, a3⟩ := Me.tr_of hm
    obtain ⟨zm, zs, zt, zw⟩ := z
    dsimp only at h3 h4 a1 a2 a3
    generalize Me.tr zm x = y at *
    obtain ⟨ym, ys, yt, yw⟩ := y
    dsimp only at a1 a2 a3
    subst a1 a2 a3 h3 h4
    rfl
theorem isT_iff {n : Int} : isT n = true ↔ 0 ≤ n ∧ n < 256 := by
  unfold isT
  simp
theorem trL_in {L : List E} {z : Tr} (h : z ∈ trL L) : (0 ≤ z.s ∧ z.s < 256) ∧ (0 ≤ z.t ∧ z.t < 256) := by
  obtain ⟨x, _, h1, h2, _, h3, h4⟩ := mem_trL.1 h
  rw [h3, h4]
  exact ⟨isT_iff.1 h1, isT_iff.1 h2⟩
theorem con_eqV {L : List E} (hs : Strict L) {x z : E} (hx : x ∈ L) (e : eqP x z) : con z L = vec x := con_mem hs hx e
theorem conR_one (g : V → BitVec 32) (hg : ∀ u v, g (orV u v) = g u ||| g v) (hz : g zV = 0#32) (A : BitVec 32) (z : E) : ∀ S : List Ru, (∀ r ∈ S, mB r z = true → g (vR r) = 0#32 ∨ g (vR r) = A) → (A = 0#32 ∨ ∃ r ∈ S, mB r z = true ∧ g (vR r) = A) → g (conR z S) = A
  | [], _, h => by
    rcases h with h | ⟨r, hr, _⟩
    · rw [h]; exact hz
    · simp at hr
  | r :: S, h1, h2 => by
    have e : conR z (r :: S) = orV (if mB r z = true then vR r else zV) (conR z S) := rfl
    rw [e, hg]
    have hrest : g (conR z S) = 0#32 ∨ g (conR z S) = A := by
      have : ∀ T : List Ru, (∀ r ∈ T, mB r z = true → g (vR r) = 0#32 ∨ g (vR r) = A) → g (conR z T) = 0#32 ∨ g (conR z T) = A := by
        intro T
        induction T with
        | nil => intro _; exact .inl hz
        | cons y T ih =>
          intro hT
          have e : conR z (y :: T) = orV (if mB y z = true then vR y else zV) (conR z T) := rfl
          rw [e, hg]
          have i2 := ih fun q hq => hT q (by simp [hq])
          by_cases hm : mB y z = true
          · rw [if_pos hm]
            rcases hT y (by simp) hm with k1 | k1 <;> rcases i2 with k2 | k2 <;> rw [k1, k2] <;> simp
          · rw [if_neg hm, hz]
            rcases i2 with k2 | k2 <;> rw [k2] <;> simp
      exact this S fun q hq => h1 q (by simp [hq])
    by_cases hm : mB r z = true
    · rw [if_pos hm]
      rcases h1 r (by simp) hm with k1 | k1
      · rw [k1, BitVec.zero_or]
        refine conR_one g hg hz A z S (fun q hq => h1 q (by simp [hq])) ?_
        rcases h2 with h | ⟨q, hq, hmq, hA⟩
        · exact .inl h
        · rcases List.mem_cons.1 hq with rfl | hq
          · exact .inl (by rw [← hA, k1])
          · exact .inr ⟨q, hq, hmq, hA⟩
      · rw [k1]
        rcases hrest with k2 | k2 <;> rw [k2] <;> simp
    · rw [if_neg hm, hz, BitVec.zero_or]
      refine conR_one g hg hz A z S (fun q hq => h1 q (by simp [hq])) ?_
      rcases h2 with h | ⟨q, hq, hmq, hA⟩
      · exact .inl h
      · rcases List.mem_cons.1 hq with rfl | hq
        · exact absurd hmq hm
        · exact .inr ⟨q, hq, hmq, hA⟩
end Go.Proofs.Ytjikbffnhfoikaa
namespace Go.Proofs.Ytjikbffnhfoikaa
open Go.RowKit Go.Sort Go.Maps
theorem trL_s {L : List E} : ∀ z ∈ trL L, 0 ≤ z.s ∧ z.s < 256 := fun _ h => (trL_in h).1
theorem trL_t {L : List E} : ∀ z ∈ trL L, 0 ≤ z.t ∧ z.t < 256 := fun _ h => (trL_in h).2
theorem has_src {P : List Tr} (hS : ∀ z ∈ P, 0 ≤ z.s ∧ z.s < 256) (t : Tr) (n : Int) : hasS (ruOf P t).src n = true ↔ ∃ y ∈ P, y.m = t.m ∧ tgS P y = tgS P t ∧ y.s = n := by
  have h := (ruOf_for hS t).2.2.2.2.2.2 n
  rw [h]
  constructor
  · rintro ⟨y, hy, _, h1, h2, h3⟩; exact ⟨y, hy, h1, h2, h3⟩
  · rintro ⟨y, hy, h1, h2, h3⟩; exact ⟨y, hy, rfl, h1, h2, h3⟩
/-- a rule that says something at z stands for an entry with the key of z -/
theorem comp_key1 {L : List E} {t : Tr} {z : E} (hm : mB (ruOf (trL L) t) z = true) : ∃ x ∈ L, eqP x z ∧ t.m ∈ mgE x := by
  unfold mB at hm
  simp only [Bool.and_eq_true, decide_eq_true_eq] at hm
  obtain ⟨hc, hd, hs, hp⟩ := hm
  obtain ⟨y, hy, h1, h2, h3⟩ := (has_src trL_s t z.s).1 hs
  have hp' : hasS (tgS (trL L) t) z.t = true := by
    have hp : (hasS (tgS (trL L) t) z.t || (false && decide (z.s = z.t))) = true := hp
    simpa using hp
  rw [← h2] at hp'
  obtain ⟨u, hu, ⟨e1, e2⟩, e3⟩ := (has_tgS trL_t y z.t).1 hp'
  obtain ⟨x, hx, _, _, hmx, hxs, hxt⟩ := mem_trL.1 hu
  have hum : u.m = t.m := e1.trans h1
  rw [hum] at hmx
  obtain ⟨k1, k2, _⟩ := mem_mgE.1 hmx
  have hc : t.m.c = z.c := hc
  have hd : t.m.d = z.d := hd
  exact ⟨x, hx, ⟨by rw [← hxs, e2, h3], by rw [← hxt, e3], by rw [← k1, hc], by rw [← k2, hd]⟩, hmx⟩
/-- each vector of an entry has a rule that says it -/
theorem comp_key2 {L : List E} {x z : E} (hx : x ∈ L) (hT : isT x.s = true ∧ isT x.t = true) (e : eqP x z) {m : Me} (hm : m ∈ mgE x) : ∃ t ∈ trL L, t.m = m ∧ mB (ruOf (trL L) t) z = true := by
  obtain ⟨a1, a2, a3⟩ := Me.tr_of hm
  have ht : m.tr x ∈ trL L := mem_trL.2 ⟨x, hx, hT.1, hT.2, by rw [a1]; exact hm, a2, a3⟩
  refine ⟨_, ht, a1, ?_⟩
  obtain ⟨k1, k2, _⟩ := mem_mgE.1 hm
  obtain ⟨e1, e2, e3, e4⟩ := e
  unfold mB
  simp only [Bool.and_eq_true, decide_eq_true_eq]
  refine ⟨by show (m.tr x).m.c = z.c; rw [a1, k1, e3], by show (m.tr x).m.d = z.d; rw [a1, k2, e4], (has_src trL_s _ _).2 ⟨_, ht, rfl, rfl, by rw [a2, e1]⟩, ?_⟩
  show (hasS (tgS (trL L) (m.tr x)) z.t || (false && decide (z.s = z.t))) = true
  rw [(has_tgS trL_t _ _).2 ⟨_, ht, ⟨rfl, rfl⟩, by rw [a3, e2]⟩]
  rfl
theorem vR_ru {P : List Tr} (t : Tr) : vR (ruOf P t) = if t.m.k = 1 then ⟨t.m.p, 0#32, 0#32⟩ else if t.m.k = 2 then ⟨0#32, t.m.p, 0#32⟩ else if t.m.k = 3 then ⟨0#32, 0#32, t.m.p⟩ else zV := rfl
theorem comp_con {L : List E} {S : List Ru} (hL : Strict L) (hT : ∀ x ∈ L, isT x.s = true ∧ isT x.t = true) (h : CompOf (trL L) S) (z : E) : conR z S = con z L := by
  have hmem := h.mem_iff trL_s
  have h0 : ∀ (g : V → BitVec 32) (A : BitVec 32), (∀ u v, g (orV u v) = g u ||| g v) → g zV = 0#32 → (∀ x ∈ L, eqP x z → ∀ m ∈ mgE x, ∀ t : Tr, t.m = m → g (vR (ruOf (trL L) t)) = 0#32 ∨ g (vR (ruOf (trL L) t)) = A) →
      (A = 0#32 ∨ ∃ x ∈ L, eqP x z ∧ ∃ m ∈ mgE x, ∀ t : Tr, t.m = m → g (vR (ruOf (trL L) t)) = A) → g (conR z S) = A := by
    intro g A hg hz h1 h2
    refine conR_one g hg hz A z S (fun r hr hm => ?_) ?_
    · obtain ⟨t, _, rfl⟩ := (hmem r).1 hr
      obtain ⟨x, hx, e, hmx⟩ := comp_key1 hm
      exact h1 x hx e _ hmx t rfl
    · rcases h2 with h2 | ⟨x, hx, e, m, hm, h2⟩
      · exact .inl h2
      · obtain ⟨t, ht, htm, hB⟩ := comp_key2 hx (hT x hx) e hm
        exact .inr ⟨_, (hmem _).2 ⟨t, ht, rfl⟩, hB, h2 t htm⟩
  have hv : ∀ u v : V, u.p = v.p → u.q = v.q → u.r = v.r → u = v := fun u v a b c => by
    cases u; cases v
    dsimp only at a b c
    rw [a, b, c]
  have hval : ∀ (x : E), x ∈ L → eqP x z → ∀ m ∈ mgE x, ∀ t : Tr, t.m = m → (vR (ruOf (trL L) t)).p = (if m.k = 1 then x.a else 0#32) ∧ (vR (ruOf (trL L) t)).q = (if m.k = 2 then x.b else 0#32) ∧ (vR (ruOf (trL L) t)).r = (if m.k = 3 then x.e else 0#32) := by
    intro x hx e m hm t ht
    obtain ⟨_, _, _, h3⟩ := mem_mgE.1 hm
    rw [vR_ru, ht]
    rcases h3 with ⟨k, p⟩ | ⟨k, p⟩ | ⟨k, p⟩ <;> rw [k, p] <;> simp
  by_cases hex : ∃ x ∈ L, eqP x z
  · obtain ⟨x, hx, e⟩ := hex
    have hc : con z L = vec x := con_mem hL hx e
    have huniq : ∀ y ∈ L, eqP y z → vec y = vec x := fun y hy ey => by rw [← con_mem hL hy ey, hc]
    rw [hc]
    refine hv _ _ ?_ ?_ ?_
    · refine h0 (fun v => v.p) x.a (fun _ _ => rfl) rfl (fun y hy ey m hm t ht => ?_) ?_
      · show (vR _).p = _ ∨ (vR _).p = _
        rw [(hval y hy ey m hm t ht).1]
        have : y.a = x.a := congrArg V.p (huniq y hy ey)
        by_cases k : m.k = 1
        · rw [if_pos k, this]; exact .inr rfl
        · rw [if_neg k]; exact .inl rfl
      · by_cases k : x.a = 0#32
        · exact .inl k
        · exact .inr ⟨x, hx, e, ⟨1, x.c, x.d, x.a⟩, mem_mgE.2 ⟨rfl, rfl, k, .inl ⟨rfl, rfl⟩⟩, fun t ht => by show (vR _).p = _; rw [(hval x hx e _ (mem_mgE.2 ⟨rfl, rfl, k, .inl ⟨rfl, rfl⟩⟩) t ht).1, if_pos rfl]⟩
    · refine h0 (fun v => v.q) x.b (fun _ _ => rfl) rfl (fun y hy ey m hm t ht => ?_) ?_
      · show (vR _).q = _ ∨ (vR _).q = _
        rw [(hval y hy ey m hm t ht).2.1]
        have : y.b = x.b := congrArg V.q (huniq y hy ey)
        by_cases k : m.k = 2
        · rw [if_pos k, this]; exact .inr rfl
        · rw [if_neg k]; exact .inl rfl
      · by_cases k : x.b = 0#32
        · exact .inl k
        · exact .inr ⟨x, hx, e, ⟨2, x.c, x.d, x.b⟩, mem_mgE.2 ⟨rfl, rfl, k, .inr (.inl ⟨rfl, rfl⟩)⟩, fun t ht => by show (vR _).q = _; rw [(hval x hx e _ (mem_mgE.2 ⟨rfl, rfl, k, .inr (.inl ⟨rfl, rfl⟩)⟩) t ht).2.1, if_pos rfl]⟩
    · refine h0 (fun v => v.r) x.e (fun _ _ => rfl) rfl (fun y hy ey m hm t ht => ?_) ?_
      · show (vR _).r = _ ∨ (vR _).r = _
        rw [(hval y hy ey m hm t ht).2.2]
        have : y.e = x.e := congrArg V.r (huniq y hy ey)
        by_cases k : m.k = 3
        · rw [if_pos k, this]; exact .inr rfl
        · rw [if_neg k]; exact .inl rfl
      · by_cases k : x.e = 0#32
        · exact .inl k
        · exact .inr ⟨x, hx, e, ⟨3, x.c, x.d, x.e⟩, mem_mgE.2 ⟨rfl, rfl, k, .inr (.inr ⟨rfl, rfl⟩)⟩, fun t ht => by show (vR _).r = _; rw [(hval x hx e _ (mem_mgE.2 ⟨rfl, rfl, k, .inr (.inr ⟨rfl, rfl⟩)⟩) t ht).2.2, if_pos rfl]⟩
  · have hc : con z L = zV := con_none z fun x hx e => hex ⟨x, hx, e⟩
    rw [hc]
    refine hv _ _ ?_ ?_ ?_
    · exact h0 (fun v => v.p) 0#32 (fun _ _ => rfl) rfl (fun y hy ey => absurd ⟨y, hy, ey⟩ hex) (.inl rfl)
    · exact h0 (fun v => v.q) 0#32 (fun _ _ => rfl) rfl (fun y hy ey => absurd ⟨y, hy, ey⟩ hex) (.inl rfl)
    · exact h0 (fun v => v.r) 0#32 (fun _ _ => rfl) rfl (fun y hy ey => absurd ⟨y, hy, ey⟩ hex) (.inl rfl)
theorem M_types {L : List E} (hT : ∀ x ∈ L, isT x.s = true ∧ isT x.t = true) : ∀ x ∈ M L, isT x.s = true ∧ isT x.t = true := by
  intro x hx
  have h1 := con_self (M_ne L x hx) hx
  rw [M_con] at h1
  have : ∃ y ∈ L, eqP y x := Classical.byContradiction fun h => h1 (con_none x fun y hy e => h ⟨y, hy, e⟩)
  obtain ⟨y, hy, e⟩ := this
  rw [← e.1, ← e.2.1]
  exact hT y hy
/-- the entries of the rules of Compress -/
theorem comp_entries {L : List E} {S : List Ru} (hT : ∀ x ∈ L, isT x.s = true ∧ isT x.t = true) (h : CompOf (trL (M L)) S) : M (allE S) = M L :=
  M_of fun z => by rw [con_all, comp_con (M_strict L) (M_types hT) h z, M_con]
theorem comp_len {L : List E} {S : List Ru} (h : CompOf (trL (M L)) S) : S.length ≤ 3 * L.length := by
  have h1 := h.len trL_s
  have h2 := trL_len (M L)
  have h3 := M_len L
  omega
end Go.Proofs.Ytjikbffnhfoikaa
namespace Go.Proofs.Ytjikbffnhfoikaa
open Go.RowKit Go.Sort Go.Maps
def rotK {α : Type} [Inhabited α] (L : List α) (k i : Nat) : List α := (List.range i).map fun j => L[(j + k) % L.length]!
theorem rotK_zero {α : Type} [Inhabited α] (L : List α) (k : Nat) : rotK L k 0 = [] := rfl
theorem rotK_succ {α : Type} [Inhabited α] (L : List α) (k i : Nat) : rotK L k (i + 1) = rotK L k i ++ [L[(i + k) % L.length]!] := by
  unfold rotK
  rw [List.range_succ, List.map_append]
  rfl
theorem rotK_len {α : Type} [Inhabited α] (L : List α) (k i : Nat) : (rotK L k i).length = i := by simp [rotK]
theorem rotK_all {α : Type} [Inhabited α] (L : List α) (k : Nat) : (rotK L k L.length).Perm L := by
  rcases Nat.eq_zero_or_pos L.length with h | h
  · obtain rfl := List.eq_nil_of_length_eq_zero h
    exact List.Perm.refl _
  · have e : rotK L k L.length = L.drop (k % L.length) ++ L.take (k % L.length) := by
      have hm : k % L.length < L.length := Nat.mod_lt _ h
      refine List.ext_getElem (by simp [rotK_len]; omega) fun i h1 h2 => ?_
      rw [rotK_len] at h1
      have e1 : (rotK L k L.length)[i]'(by rw [rotK_len]; exact h1) = L[(i + k) % L.length]! := by simp [rotK]
      have hlt : (i + k) % L.length < L.length := Nat.mod_lt _ h
      rw [e1, getElem!_pos L _ hlt]
      have hk : (i + k) % L.length = (i + k % L.length) % L.length := by rw [Nat.add_mod_mod]
      rcases Nat.lt_or_ge i (L.drop (k % L.length)).length with hi | hi
      · rw [List.getElem_append_left hi, List.getElem_drop]
        rw [List.length_drop] at hi
        congr 1
        rw [hk, Nat.mod_eq_of_lt (by omega)]
        omega
      · rw [List.getElem_append_right hi, List.getElem_take]
        rw [List.length_drop] at hi
        congr 1
        rw [hk, List.length_drop]
        rw [Nat.mod_eq_sub_mod (by omega), Nat.mod_eq_of_lt (by omega)]
        omega
    rw [e]
    exact List.perm_append_comm.trans (by rw [List.take_append_drop])
theorem M_perm {l m : List E} (h : l.Perm m) : M l = M m := (M_of fun z => (con_perm z h).symm).symm
theorem allE_perm {l m : List Ru} (h : l.Perm m) : (allE l).Perm (allE m) := by
  unfold allE
  exact List.Perm.flatMap_right _ h
end Go.Proofs.Ytjikbffnhfoikaa
namespace Go.Proofs.Ytjikbffnhfoikaa
open Go.RowKit Go.Sort Go.Maps
theorem wp_append_Ru {w : World} {o : Oper} {a : Act} {K : Act → World → Prop} {Q : Exit → Act → World → Prop} (s x : Operand)
    (ho : o.op = .call { callee := .builtin .append, args := #[s, x], argTypes := #[41, 41] }) (B : Nat) (v : Value) (L : List Ru) (N : Nat) (hN : L.length = N) (hs : a.eval s = v) (hown : OwnR w B v L)
    (g : Nat) (y : Ru) (hx : a.eval x = .slice (some ⟨g, 0, none⟩) 1 1) (hy : BoxR w g y) (hl : N ≤ 1000000) (hb : B ≤ w.heap.size)
    (h : ∀ g' cap w', OwnR w' B (.slice (some ⟨g', 0, none⟩) (N + 1) cap) (L ++ [y]) → w.grownBy w' v.ownBlock → (v.ownBlock = some g' ∨ g' = w.heap.size) → K (a.put o.dst (.slice (some ⟨g', 0, none⟩) (N + 1) cap)) w') : o.wp Try.prog a w K Q := by
  subst hN
  obtain ⟨i0, hinf, hz0, hz1, hz2⟩ := info_parts infoR
  refine wp_append_lies w s x 41 ho B 27 i0 _ 13 104 Try.underlying41 hinf hz0 hz1 hz2 rfl (by decide) v L.length (L.flatMap cellsR) hs hown ⟨g, 0, none⟩ 1 1 (cellsR y) hx rfl
    (World.news_of_block hy) (cellsR_one y) (by decide) (by unfold maxLen; omega) (by omega) hb _ rfl ?_
  intro g' cap w' h1 h2 h3 _
  refine h g' cap w' ?_ h2 h3
  unfold OwnR
  rw [List.length_append, List.flatMap_append]
  simpa using h1
end Go.Proofs.Ytjikbffnhfoikaa
namespace Go.Proofs.Ytjikbffnhfoikaa
open Go.RowKit Go.Sort Go.Maps

instance ordInhRu : Inhabited Ru := ⟨⟨0, S4.zero, S4.zero, false, 0, 0#32, 0, by decide, by decide, by decide, U_zero, U_zero⟩⟩
/-- two rules that no comparison tells apart are one -/
theorem ru_tell {P : List Tr} (hS : ∀ z ∈ P, 0 ≤ z.s ∧ z.s < 256) {x y : Tr} (hx : x ∈ P) (hy : y ∈ P) (h1 : ¬ ltR (ruOf P x) (ruOf P y)) (h2 : ¬ ltR (ruOf P y) (ruOf P x)) : ruOf P x = ruOf P y := by
  have e : (ruOf P x).k = (ruOf P y).k ∧ (ruOf P x).cl = (ruOf P y).cl ∧ (ruOf P x).cd = (ruOf P y).cd ∧ vI (ruOf P x).pm = vI (ruOf P y).pm ∧ leastS (ruOf P x).src = leastS (ruOf P y).src := by
    unfold ltR at h1 h2
    omega
  obtain ⟨e1, e2, e3, e4, e5⟩ := e
  have hm : x.m = y.m := Me.same e1 e2 e3 (vI_inj e4)
  have l1 : hasS (ruOf P x).src (leastS (ruOf P x).src) = true := leastS_hit ⟨x.s, (has_src hS x x.s).2 ⟨x, hx, rfl, rfl, rfl⟩⟩
  have l2 : hasS (ruOf P y).src (leastS (ruOf P y).src) = true := leastS_hit ⟨y.s, (has_src hS y y.s).2 ⟨y, hy, rfl, rfl, rfl⟩⟩
  rw [e5] at l1
  obtain ⟨u, _, u1, u2, u3⟩ := (has_src hS x _).1 l1
  obtain ⟨v, _, v1, v2, v3⟩ := (has_src hS y _).1 l2
  have ht : tgS P x = tgS P y := by rw [← u2, ← v2]; exact tgS_key ⟨by rw [u1, v1, hm], by rw [u3, v3]⟩
  have k1 := ruOf_for hS x
  have k2 := ruOf_for hS y
  exact Ru.same (ruleFor_eq (show eqB (bkOf P x) (bkOf P y) from ⟨hm, ht⟩) k1) k2
/-- there is a list of the rules -/
theorem comp_ex {P : List Tr} (hS : ∀ z ∈ P, 0 ≤ z.s ∧ z.s < 256) : ∃ S, CompOf P S := by
  have main : ∀ (l acc : List Ru), acc.Pairwise ltR → (∀ r ∈ acc, ∃ z ∈ P, r = ruOf P z) → (∀ r ∈ l, ∃ z ∈ P, r = ruOf P z) → (l.foldl insR acc).Pairwise ltR ∧ ∀ r, r ∈ l.foldl insR acc ↔ r ∈ acc ∨ r ∈ l := by
    intro l
    induction l with
    | nil => intro acc h _ _; exact ⟨h, fun r => by simp⟩
    | cons x l ih =>
      intro acc h ha hl
      obtain ⟨zx, hzx, ex⟩ := hl x (by simp)
      obtain ⟨k1, k2⟩ := ih (insR acc x) (insR_strict h fun y hy hn => by
        obtain ⟨zy, hzy, ey⟩ := ha y hy
        subst ex ey
        by_cases c1 : ltR (ruOf P zx) (ruOf P zy)
        · exact .inl c1
        · by_cases c2 : ltR (ruOf P zy) (ruOf P zx)
          · exact .inr c2
          · exact absurd (ru_tell hS hzx hzy c1 c2).symm hn) (fun r hr => by
        rcases mem_insR.1 hr with rfl | hr
        · exact ⟨zx, hzx, ex⟩
        · exact ha r hr) (fun r hr => hl r (by simp [hr]))
      refine ⟨k1, fun r => (k2 r).trans ?_⟩
      rw [mem_insR, List.mem_cons]
      constructor
      · rintro ((h | h) | h)
        · exact .inr (.inl h)
        · exact .inl h
        · exact .inr (.inr h)
      · rintro (h | h | h)
        · exact .inl (.inr h)
        · exact .inl (.inl h)
        · exact .inr h
  obtain ⟨k1, k2⟩ := main (P.map (ruOf P)) [] List.Pairwise.nil (by simp) (fun r hr => by
    obtain ⟨z, hz, rfl⟩ := List.mem_map.1 hr
    exact ⟨z, hz, rfl⟩)
  refine ⟨_, k1, fun r => ?_⟩
  rw [k2]
  constructor
  · rintro (h | h)
    · simp at h
    · obtain ⟨z, hz, rfl⟩ := List.mem_map.1 h
      have := ruOf_for hS z
      exact ⟨this.1, bkOf P z, ⟨z.s, z, hz, rfl, rfl, rfl, rfl⟩, this.2⟩
  · rintro ⟨hs, b, ⟨n, z, hz, _, h1, h2, h3⟩, hb⟩
    refine .inr (List.mem_map.2 ⟨z, hz, ?_⟩)
    exact Ru.same (ruOf_for hS z) (ruleFor_eq (show eqB b (bkOf P z) from ⟨h1.symm, h2.symm⟩) ⟨hs, hb⟩)
theorem ownR_ne {u : World} {B g : Nat} {vq : Value} {O : List Ru} (h : OwnR u B vq O) (hg : g < B) : some g ≠ vq.ownBlock := fun e => by
  have := (h.own g e.symm).1
  omega
theorem ownR_off {u u' : World} {B g : Nat} {vq : Value} {O : List Ru} (h : OwnR u B vq O) (hg : g < B) (hr : u.grownBy u' (some g)) : OwnR u' B vq O := h.kept hr (by
  cases e : vq.ownBlock with
  | none => exact .inl rfl
  | some q => exact .inr fun k => ownR_ne h hg (by rw [e, k]))
def pPhi (i k j n gp gq g o cap len : Nat) (x : Ru) (vq : Value) (W0 : World) (q : Nat) (v : Value) (u : World) : Prop := match q with
  | 0 => v = .pointer (some ⟨gq, 9, none⟩)
  | 1 => v = vq
  | 2 => v = .pointer (some ⟨gp, 9, none⟩)
  | 3 => v = .slice (some ⟨g, o, none⟩) len cap
  | 4 => v = .int .i64 i
  | 5 => v = .int .u8 k
  | 6 => v = .int .i64 k
  | 7 => v = .int .i64 n
  | 8 => v = .pointer (some ⟨gp, 9, none⟩)
  | 9 => v = .slice (some ⟨g, o, none⟩) len cap
  | 10 => v = .int .i64 len
  | 11 => v = .int .i64 j
  | 12 => v = .pointer (some ⟨g, o + j * 13, none⟩)
  | 13 => v = .agg #[.int .i64 x.k, .int .u64 x.src.a, .int .u64 x.src.b, .int .u64 x.src.c, .int .u64 x.src.d, .int .u64 x.tgt.a, .int .u64 x.tgt.b, .int .u64 x.tgt.c, .int .u64 x.tgt.d, .bool x.self, .int .i64 x.cl, .int .u32 (vI x.pm), .int .i64 x.cd]
  | 14 => ∃ g, v = .slice (some ⟨g, 0, none⟩) 1 1 ∧ W0.heap.size ≤ g ∧ BoxR u g x
  | _ => True
theorem pPhi_keep {i k j n gp gq g o cap len : Nat} {x : Ru} {vq : Value} {W0 : World} {q : Nat} {v : Value} {u u' : World} (h : pPhi i k j n gp gq g o cap len x vq W0 q v u) (hb : Below u.heap.size u u') : pPhi i k j n gp gq g o cap len x vq W0 q v u' := by
  unfold pPhi at h ⊢
  split at h
  iterate 14 exact h
  · obtain ⟨g, h1, h2, h3⟩ := h
    exact ⟨g, h1, h2, Blk.keep h3 hb⟩
  · trivial
set_option maxRecDepth 100000 in
set_option maxHeartbeats 32000000 in
theorem lawOrder_c (pu0 pu1 pu2 pu3 pu4 pu5 pu6 pu7 pu8 pv pu10 pu11 pu12 pu13 pu14 pu15 pu16 : Value) (L : List Ru) (v1 : Value) (L1 : List E) (n2 : Int) (w : World) (hE : Rus w pv L) (hL : L.length ≤ maxLen) (hE1 : Ents w v1 L1) (hL1 : L1.length ≤ maxLen) (hn2 : (Lit.int .u8 n2).wf = true) :
    Calls Try.prog 9 #[.agg #[pu0, pu1, pu2, pu3, pu4, pu5, pu6, pu7, pu8, pv, pu10, pu11, pu12, pu13, pu14, pu15, pu16], v1, .int .u8 n2] w fun e w' => e = .returned (.bool true) ∧ Below w.heap.size w w' := by
  have hb0 : Below w.heap.size w (w.alloc (.cells #[pu0, pu1, pu2, pu3, pu4, pu5, pu6, pu7, pu8, pv, pu10, pu11, pu12, pu13, pu14, pu15, pu16] 50)) := (Below.refl _ _).alloc (Nat.le_refl _) _
  have HP0 : Hid (Blk (w.alloc (.cells #[pu0, pu1, pu2, pu3, pu4, pu5, pu6, pu7, pu8, pv, pu10, pu11, pu12, pu13, pu14, pu15, pu16] 50)) w.heap.size 50 #[pu0, pu1, pu2, pu3, pu4, pu5, pu6, pu7, pu8, pv, pu10, pu11, pu12, pu13, pu14, pu15, pu16]) := Lib.hid (Blk.new w _ _)
  have HB0 := Lib.hid hb0
  have HE0 := Lib.hid (hE.keep hb0)
  have HN0 := Lib.hid (hE1.keep hb0)
  have HGX : Hid (w.heap.size < (w.alloc (.cells #[pu0, pu1, pu2, pu3, pu4, pu5, pu6, pu7, pu8, pv, pu10, pu11, pu12, pu13, pu14, pu15, pu16] 50)).heap.size) := Lib.hid (by simp)
  have HGL : Hid (∀ g, g < w.heap.size → True) := Lib.hid fun _ _ => trivial
  obtain ⟨k, rfl, hk⟩ : ∃ k : Nat, n2 = (k : Int) ∧ k < 256 := by
    have h1 : IntKind.u8.min = 0 := by decide
    have h2 : IntKind.u8.max = 255 := by decide
    simp only [Lit.wf, Bool.and_eq_true, decide_eq_true_eq, h1, h2] at hn2
    exact ⟨n2.toNat, by omega, by omega⟩
  have HRW : Hid (L ≠ [] → ∃ ao cap g o, pv = .slice ao L.length cap ∧ ao = some ⟨g, o, none⟩ ∧ g < w.heap.size ∧ RowR (w.alloc (.cells #[pu0, pu1, pu2, pu3, pu4, pu5, pu6, pu7, pu8, pv, pu10, pu11, pu12, pu13, pu14, pu15, pu16] 50)) g o L) := Lib.hid fun h => by
    obtain ⟨ao, cap, e, _, hr⟩ := hE
    obtain ⟨g, o, e2, hR⟩ := hr h
    exact ⟨ao, cap, g, o, e, e2, hR.lt h, hR.keep (hb0.block g (hR.lt h))⟩
  have HRE : Hid (L1 ≠ [] → ∃ ao cap g o, v1 = .slice ao L1.length cap ∧ ao = some ⟨g, o, none⟩ ∧ g < w.heap.size ∧ RowE (w.alloc (.cells #[pu0, pu1, pu2, pu3, pu4, pu5, pu6, pu7, pu8, pv, pu10, pu11, pu12, pu13, pu14, pu15, pu16] 50)) g o L1) := Lib.hid fun h => by
    obtain ⟨ao, cap, e, _, hr⟩ := hE1
    obtain ⟨g, o, e2, hR⟩ := hr h
    exact ⟨ao, cap, g, o, e, e2, hR.lt h, hR.keep (hb0.block g (hR.lt h))⟩
  have HKK := Lib.hid hk
  have HPS : Hid (∃ ao cap, pv = .slice ao L.length cap) := Lib.hid (by obtain ⟨ao, cap, e, _⟩ := hE; exact ⟨ao, cap, e⟩)
  have HVS : Hid (∃ ao cap, v1 = .slice ao L1.length cap) := Lib.hid (by obtain ⟨ao, cap, e, _⟩ := hE1; exact ⟨ao, cap, e⟩)
  have HEW := Lib.hid hE
  have HNW1 := Lib.hid hE1
  clear hb0 hE hE1 hn2 hk
  go_enter Try.func9, Try.ntmps9
  go_upto_region 1 with fail
  generalize w.alloc (.cells #[pu0, pu1, pu2, pu3, pu4, pu5, pu6, pu7, pu8, pv, pu10, pu11, pu12, pu13, pu14, pu15, pu16] 50) = W at *
  generalize hgx : w.heap.size = gx at *
  cases hf : fewB L with
  | false =>
    have HF := Lib.hid hf
    clear hf
    go_wp2_with (first
      | (go_at_call 14; refine (few_c _ _ _ _ _ _ _ _ _ _ _ _ _ _ _ _ _ L _ HE0.out hL).mono ?_; rintro e w1 ⟨rfl, hb1⟩; have HB1 := Lib.hid (HB0.out.trans (hb1.mono (by have := HB0.out.size; omega))); have hfb := HF.out; clear hb1)
      | (go_at_call 13; refine (awake_c _).mono ?_; rintro e w2 ⟨rfl, hb2⟩; have HB2 := Lib.hid (HB1.out.trans (hb2.mono (by have := HB1.out.size; omega))); clear hb2)
      | (with_reducible refine wpList_load_pol (by first | rfl | simp [Region.wanted, yielded]) _ rfl rfl HP0.out ?_))
    go_ret
    exact ⟨rfl, by first | exact HB2.out | (rw [hgx]; exact HB2.out)⟩
  | true =>
    have HF := Lib.hid hf
    obtain ⟨hl40, hl400⟩ := fewB_le hf
    have HL4 := Lib.hid hl40
    have HA4 := Lib.hid hl400
    clear hf hl40 hl400
    obtain ⟨ao1, cap1, hv1⟩ := HVS.out
    subst hv1
    have hl1I : (L1.length : Int) ≤ 9223372036854775807 := by unfold maxLen at hL1; omega
    by_cases h120 : 120 < L1.length
    · have h120I : (120 : Int) < (L1.length : Int) := by omega
      go_wp2_with (first
        | (go_at_call 14; refine (few_c _ _ _ _ _ _ _ _ _ _ _ _ _ _ _ _ _ L _ HE0.out hL).mono ?_; rintro e w1 ⟨rfl, hb1⟩; have HB1 := Lib.hid (HB0.out.trans (hb1.mono (by have := HB0.out.size; omega))); have hfb := HF.out; clear hb1)
        | (go_at_call 13; refine (awake_c _).mono ?_; rintro e w2 ⟨rfl, hb2⟩; have HB2 := Lib.hid (HB1.out.trans (hb2.mono (by have := HB1.out.size; omega))); clear hb2)
        | (with_reducible refine wpList_load_pol (by first | rfl | simp [Region.wanted, yielded]) _ rfl rfl HP0.out ?_))
      go_ret
      exact ⟨rfl, by first | exact HB2.out | (rw [hgx]; exact HB2.out)⟩
    · have h120I : ¬ (120 : Int) < (L1.length : Int) := by omega
      have H120 : Hid (L1.length ≤ 120) := Lib.hid (by omega)
      clear h120
      obtain ⟨ao, cap, hpv⟩ := HPS.out
      subst hpv
      go_upto_region 4 with (first | (with_reducible refine wpList_load_pol (by first | rfl | simp [Region.wanted, yielded]) _ rfl rfl HP0.out ?_) | (go_at_call 14; refine (few_c _ _ _ _ _ _ _ _ _ _ _ _ _ _ _ _ _ L _ HE0.out hL).mono ?_; rintro e w1 ⟨rfl, hb1⟩; have HP1 := Lib.hid (Blk.keep HP0.out hb1); have HBW := Lib.hid hb1; have HB1 := Lib.hid (HB0.out.trans (hb1.mono (by have := HB0.out.size; omega))); have hfb := HF.out; clear hb1))
      have HQ2 : Hid (Blk (w1.alloc (.cells #[.slice none 0 0, .slice none 0 0, .slice none 0 0, .slice none 0 0, .slice none 0 0, .slice none 0 0, .slice none 0 0, .slice none 0 0, .slice none 0 0, .slice none 0 0, .slice none 0 0, .slice none 0 0, .slice none 0 0, .slice none 0 0, .slice none 0 0, .slice none 0 0, .slice none 0 0] 50)) w1.heap.size 50 #[.slice none 0 0, .slice none 0 0, .slice none 0 0, .slice none 0 0, .slice none 0 0, .slice none 0 0, .slice none 0 0, .slice none 0 0, .slice none 0 0, .slice none 0 0, .slice none 0 0, .slice none 0 0, .slice none 0 0, .slice none 0 0, .slice none 0 0, .slice none 0 0, .slice none 0 0]) := Lib.hid (Blk.new w1 _ _)
      have HP2 := Lib.hid (Blk.alloc HP1.out (.cells #[.slice none 0 0, .slice none 0 0, .slice none 0 0, .slice none 0 0, .slice none 0 0, .slice none 0 0, .slice none 0 0, .slice none 0 0, .slice none 0 0, .slice none 0 0, .slice none 0 0, .slice none 0 0, .slice none 0 0, .slice none 0 0, .slice none 0 0, .slice none 0 0, .slice none 0 0] 50))
      have HB2 := Lib.hid (HB1.out.alloc (by have := HB1.out.size; omega) (.cells #[.slice none 0 0, .slice none 0 0, .slice none 0 0, .slice none 0 0, .slice none 0 0, .slice none 0 0, .slice none 0 0, .slice none 0 0, .slice none 0 0, .slice none 0 0, .slice none 0 0, .slice none 0 0, .slice none 0 0, .slice none 0 0, .slice none 0 0, .slice none 0 0, .slice none 0 0] 50))
      have HW2 : Hid (Below w1.heap.size w1 (w1.alloc (.cells #[.slice none 0 0, .slice none 0 0, .slice none 0 0, .slice none 0 0, .slice none 0 0, .slice none 0 0, .slice none 0 0, .slice none 0 0, .slice none 0 0, .slice none 0 0, .slice none 0 0, .slice none 0 0, .slice none 0 0, .slice none 0 0, .slice none 0 0, .slice none 0 0, .slice none 0 0] 50))) := Lib.hid ((Below.refl _ _).alloc (Nat.le_refl _) _)
      have HS2 : Hid ((w1.alloc (.cells #[.slice none 0 0, .slice none 0 0, .slice none 0 0, .slice none 0 0, .slice none 0 0, .slice none 0 0, .slice none 0 0, .slice none 0 0, .slice none 0 0, .slice none 0 0, .slice none 0 0, .slice none 0 0, .slice none 0 0, .slice none 0 0, .slice none 0 0, .slice none 0 0, .slice none 0 0] 50)).heap.size = w1.heap.size + 1) := Lib.hid (by simp)
      have HG1 : Hid (gx < w1.heap.size) := Lib.hid HP1.out.lt
      generalize (w1.alloc (.cells #[.slice none 0 0, .slice none 0 0, .slice none 0 0, .slice none 0 0, .slice none 0 0, .slice none 0 0, .slice none 0 0, .slice none 0 0, .slice none 0 0, .slice none 0 0, .slice none 0 0, .slice none 0 0, .slice none 0 0, .slice none 0 0, .slice none 0 0, .slice none 0 0, .slice none 0 0] 50)) = W2 at *
      generalize hgq : w1.heap.size = gq at *
      have HG : Hid (gx ≤ gx ∧ gx < gq ∧ gq < gq + 1) := Lib.hid ⟨Nat.le_refl _, HG1.out, Nat.lt_succ_self _⟩
      have HGB : Hid (gq < gq + 1) := Lib.hid (Nat.lt_succ_self _)
      obtain ⟨B, hB⟩ : ∃ B, gq + 1 = B := ⟨_, rfl⟩
      rw [hB] at HG HGB HS2
      have hp9 := HP2.out.cell 9
      have hlI : (L.length : Int) ≤ 40 := by have := HL4.out; omega
      go_wp2_with fail
      generalize (Value.agg #[pu0, pu1, pu2, pu3, pu4, pu5, pu6, pu7, pu8, .slice ao L.length cap, pu10, pu11, pu12, pu13, pu14, pu15, pu16]) = P0
      go_loopw [8, 23] (fun v8 v23 wr => ∃ (i : Nat) (vq : Value), i ≤ L.length ∧ v23 = .int .i64 i ∧ Hid (Blk wr gx 50 #[pu0, pu1, pu2, pu3, pu4, pu5, pu6, pu7, pu8, .slice ao L.length cap, pu10, pu11, pu12, pu13, pu14, pu15, pu16]) ∧ Hid (Blk wr gq 50 #[.slice none 0 0, .slice none 0 0, .slice none 0 0, .slice none 0 0, .slice none 0 0, .slice none 0 0, .slice none 0 0, .slice none 0 0, .slice none 0 0, vq, .slice none 0 0, .slice none 0 0, .slice none 0 0, .slice none 0 0, .slice none 0 0, .slice none 0 0, .slice none 0 0]) ∧ Hid (OwnR wr B vq (rotK L k i)) ∧ Hid (Below gx w wr) ∧ Hid (B ≤ wr.heap.size)) (fun _ v23 _ => L.length - (intOf v23).toNat)
      case atStart => exact ⟨0, .slice none 0 0, Nat.zero_le _, rfl, HP2, HQ2, Lib.hid (OwnR.nil _ _), HB2, Lib.hid (by rw [HS2.out]; exact Nat.le_refl _)⟩
      case round =>
        obtain ⟨i, vq, hi, rfl, HP, HQ, HO, HB, HS⟩ := hrel
        by_cases hlt : i < L.length
        · have hlt' : (i : Int) < (L.length : Int) := by omega
          obtain ⟨n, hn⟩ : ∃ n : Nat, i + k = n := ⟨_, rfl⟩
          obtain ⟨j, hj⟩ : ∃ j : Nat, n % L.length = j := ⟨_, rfl⟩
          have hjl : j < L.length := by rw [← hj]; exact Nat.mod_lt _ (by omega)
          obtain ⟨x, hx⟩ : ∃ x, L[j] = x := ⟨_, rfl⟩
          obtain ⟨ao', cap', g, o, e1, e2, hg, hR⟩ := HRW.out (by rintro rfl; simp at hlt)
          simp only [Value.slice.injEq] at e1
          obtain ⟨rfl, -, rfl⟩ := e1
          subst e2
          have hA := hR.at hjl
          rw [hx] at hA
          have HAR : Hid (AtR wr g (o + j * 13) x) := Lib.hid (hA.keep ((HB.out.block g hg).trans (HB0.out.block g hg).symm))
          have HROT : Hid (rotK L k (i + 1) = rotK L k i ++ [x]) := Lib.hid (by rw [rotK_succ, hn, hj, getElem!_pos L j hjl, hx])
          have HGR : Hid (g < gx) := Lib.hid hg
          have HRL : Hid ((rotK L k i).length = i) := Lib.hid (rotK_len L k i)
          have HNN : Hid ((i : Int) + (k : Int) = (n : Int)) := Lib.hid (by omega)
          have HNW : Hid (IntKind.i64.wrap ((i : Int) + (k : Int)) = (n : Int)) := Lib.hid (by rw [IntWalk.i64_in _ (by have := HL4.out; have := HKK.out; omega)]; omega)
          have HKW : Hid (IntKind.i64.wrap (k : Int) = (k : Int)) := Lib.hid (IntWalk.i64_in _ (by have := HKK.out; omega))
          have HJM : Hid (Int.tmod (n : Int) (L.length : Int) = (j : Int)) := Lib.hid (by rw [← hj]; exact Int.ofNat_tmod n L.length |>.symm)
          have HJW : Hid (IntKind.i64.wrap (j : Int) = (j : Int)) := Lib.hid (IntWalk.i64_in _ (by have := HL4.out; omega))
          have HLE : Hid (¬ L = []) := Lib.hid (by rintro rfl; simp at hlt)
          have HLZ : Hid (¬ (L.length : Int) = 0) := Lib.hid (by omega)
          have HJL : Hid (j < L.length) := Lib.hid hjl
          have HN4 : Hid (i ≤ 40) := Lib.hid (by have := HL4.out; omega)
          have HOW : Hid (∀ q, vq.ownBlock = some q → B ≤ q ∧ q < wr.heap.size) := Lib.hid (fun q e => HO.out.own q e)
          clear hA hR hx hj hn hg hjl
          go_upto_region 7 with fail
          refine wp_region_phit 15 (pPhi i k j n gx gq g o cap L.length x vq wr) (by kernel_rfl) (by decide) (by kernel_rfl) (by kernel_rfl) (by kernel_rfl) (fun q v u u2 h hb => pPhi_keep h hb) ?_ ?_
          · refine ⟨⟨trivial, fun A u hK hF => ?_⟩, ⟨trivial, fun A u hK hF => ?_⟩, ⟨trivial, fun A u hK hF => ?_⟩, ⟨trivial, fun A u hK hF => ?_⟩, ⟨trivial, fun A u hK hF => ?_⟩, ⟨trivial, fun A u hK hF => ?_⟩, ⟨trivial, fun A u hK hF => ?_⟩, ⟨trivial, fun A u hK hF => ?_⟩, ⟨trivial, fun A u hK hF => ?_⟩, ⟨trivial, fun A u hK hF => ?_⟩, ⟨trivial, fun A u hK hF => ?_⟩, ⟨trivial, fun A u hK hF => ?_⟩, ⟨trivial, fun A u hK hF => ?_⟩, ⟨trivial, fun A u hK hF => ?_⟩, ⟨trivial, fun A u hK hF => ?_⟩, trivial⟩
            · have f7 : A.tmps[7]?.getD undef = .pointer (some ⟨gq, 0, none⟩) := fact_none (hF 7) (by kernel_rfl)
              unfold Gives
              go_simp
              exact gives_val (Below.refl _ _) rfl
            · have f26 : A.tmps[26]?.getD undef = .pointer (some ⟨gq, 9, none⟩) := fact_some (hF 26) (j := 0) (by kernel_rfl) (by kernel_rfl)
              have hq9 := (Blk.keep HQ.out hK).cell 9
              unfold Gives
              go_simp
              exact gives_val (Below.refl _ _) rfl
            · have f3 : A.tmps[3]?.getD undef = .pointer (some ⟨gx, 0, none⟩) := fact_none (hF 3) (by kernel_rfl)
              unfold Gives
              go_simp
              exact gives_val (Below.refl _ _) rfl
            · have f28 : A.tmps[28]?.getD undef = .pointer (some ⟨gx, 9, none⟩) := fact_some (hF 28) (j := 2) (by kernel_rfl) (by kernel_rfl)
              have hp9 := (Blk.keep HP.out hK).cell 9
              unfold Gives
              go_simp
              exact gives_val (Below.refl _ _) rfl
            · have f8 : A.tmps[8]?.getD undef = .int .i64 i := fact_none (hF 8) (by kernel_rfl)
              unfold Gives
              go_simp
              exact gives_val (Below.refl _ _) rfl
            · have f2 : A.tmps[2]?.getD undef = .int .u8 k := fact_none (hF 2) (by kernel_rfl)
              unfold Gives
              go_simp
              exact gives_val (Below.refl _ _) rfl
            · have f31 : A.tmps[31]?.getD undef = .int .u8 k := fact_some (hF 31) (j := 5) (by kernel_rfl) (by kernel_rfl)
              have hkw := HKW.out
              unfold Gives
              go_simp
              exact gives_val (Below.refl _ _) rfl
            · have f30 : A.tmps[30]?.getD undef = .int .i64 i := fact_some (hF 30) (j := 4) (by kernel_rfl) (by kernel_rfl)
              have f32 : A.tmps[32]?.getD undef = .int .i64 k := fact_some (hF 32) (j := 6) (by kernel_rfl) (by kernel_rfl)
              have hnw := HNW.out
              unfold Gives
              go_simp
              exact gives_val (Below.refl _ _) rfl
            · have f3 : A.tmps[3]?.getD undef = .pointer (some ⟨gx, 0, none⟩) := fact_none (hF 3) (by kernel_rfl)
              unfold Gives
              go_simp
              exact gives_val (Below.refl _ _) rfl
            · have f34 : A.tmps[34]?.getD undef = .pointer (some ⟨gx, 9, none⟩) := fact_some (hF 34) (j := 8) (by kernel_rfl) (by kernel_rfl)
              have hp9 := (Blk.keep HP.out hK).cell 9
              unfold Gives
              go_simp
              exact gives_val (Below.refl _ _) rfl
            · have f35 : A.tmps[35]?.getD undef = .slice (some ⟨g, o, none⟩) L.length cap := fact_some (hF 35) (j := 9) (by kernel_rfl) (by kernel_rfl)
              unfold Gives
              go_simp
              exact gives_val (Below.refl _ _) rfl
            · have f33 : A.tmps[33]?.getD undef = .int .i64 n := fact_some (hF 33) (j := 7) (by kernel_rfl) (by kernel_rfl)
              have f36 : A.tmps[36]?.getD undef = .int .i64 L.length := fact_some (hF 36) (j := 10) (by kernel_rfl) (by kernel_rfl)
              have hjm := HJM.out
              have hlz := HLZ.out
              have hjw := HJW.out
              have hle : ¬ L = [] := HLE.out
              unfold Gives
              go_simp
              exact gives_val (Below.refl _ _) rfl
            · have f29 : A.tmps[29]?.getD undef = .slice (some ⟨g, o, none⟩) L.length cap := fact_some (hF 29) (j := 3) (by kernel_rfl) (by kernel_rfl)
              have f37 : A.tmps[37]?.getD undef = .int .i64 j := fact_some (hF 37) (j := 11) (by kernel_rfl) (by kernel_rfl)
              have hjI : (j : Int) < (L.length : Int) := Int.ofNat_lt.2 HJL.out
              unfold Gives
              go_simp
              exact gives_val (Below.refl _ _) rfl
            · have f38 : A.tmps[38]?.getD undef = .pointer (some ⟨g, o + j * 13, none⟩) := fact_some (hF 38) (j := 12) (by kernel_rfl) (by kernel_rfl)
              obtain ⟨x0, x1, x2, x3, x4, x5, x6, x7, x8, x9, x10, x11, x12⟩ := (HAR.out.keep (hK.block g HAR.out.lt)).facts
              unfold Gives
              go_simp
              exact gives_val (Below.refl _ _) rfl
            · have f39 : A.tmps[39]?.getD undef = .agg #[.int .i64 x.k, .int .u64 x.src.a, .int .u64 x.src.b, .int .u64 x.src.c, .int .u64 x.src.d, .int .u64 x.tgt.a, .int .u64 x.tgt.b, .int .u64 x.tgt.c, .int .u64 x.tgt.d, .bool x.self, .int .i64 x.cl, .int .u32 (vI x.pm), .int .i64 x.cd] := fact_some (hF 39) (j := 13) (by kernel_rfl) (by kernel_rfl)
              unfold Gives
              go_simp
              exact gives_val ((Below.refl _ _).alloc (Nat.le_refl _) _) ⟨_, rfl, hK.size, Blk.new _ _ _⟩
          intro a W5 hC hsz hdf hF
          have ha := end_cut 26 40 hsz hdf hF (by kernel_rfl)
          have f27 : a.tmps[27]?.getD undef = vq := fact_end (hF 27) (j := 1) (by kernel_rfl)
          obtain ⟨gb, f40, hgb, hbb⟩ : ∃ g, a.tmps[40]?.getD undef = .slice (some ⟨g, 0, none⟩) 1 1 ∧ wr.heap.size ≤ g ∧ BoxR W5 g x := fact_end (hF 40) (j := 14) (by kernel_rfl)
          rw [ha]
          clear ha hF
          simp only [cutL_cons, cutL_nil, Nat.reduceAdd, Nat.reduceLeDiff, and_true, and_false, if_true, if_false, and_self]
          rw [f27, f40]
          clear f27 f40
          have HP5 := Lib.hid (Blk.keep HP.out hC)
          have HQ5 := Lib.hid (Blk.keep HQ.out hC)
          have HO5 := Lib.hid (HO.out.below hC)
          have HB5 := Lib.hid (HB.out.trans (hC.mono (by have := HP.out.lt; omega)))
          have HS5 : Hid (B ≤ W5.heap.size) := Lib.hid (Nat.le_trans HS.out hC.size)
          have HBX := Lib.hid hbb
          have HO5W := Lib.hid (fun q e => HO5.out.own q e)
          clear hC hbb HP HQ HO HB HS
          refine wpList_append_Ru (by rfl) _ _ (by rfl) B vq (rotK L k i) i HRL.out (by rfl) HO5.out gb x (by rfl) HBX.out (by have := HN4.out; omega) HS5.out ?_
          intro g6 cap6 w6 h1 h2 h3
          have HO6 := Lib.hid h1
          have HG6 := Lib.hid h2
          have HQ6 : Hid (Blk w6 gq 50 #[.slice none 0 0, .slice none 0 0, .slice none 0 0, .slice none 0 0, .slice none 0 0, .slice none 0 0, .slice none 0 0, .slice none 0 0, .slice none 0 0, vq, .slice none 0 0, .slice none 0 0, .slice none 0 0, .slice none 0 0, .slice none 0 0, .slice none 0 0, .slice none 0 0]) := Lib.hid ((World.grownBy.block h2 gq HQ5.out.lt (ownR_ne HO5.out HGB.out)).trans HQ5.out)
          have hq9 := HQ6.out.cell 9
          have fq9 := HQ6.out.frozen 9
          clear h1 h2 h3
          have HP6 : Hid (Blk w6 gx 50 #[pu0, pu1, pu2, pu3, pu4, pu5, pu6, pu7, pu8, .slice (some ⟨g, o, none⟩) L.length cap, pu10, pu11, pu12, pu13, pu14, pu15, pu16]) := Lib.hid ((World.grownBy.block HG6.out gx HP5.out.lt (ownR_ne HO5.out (by have := HG.out; omega))).trans HP5.out)
          have HB6 := Lib.hid (HB5.out.grown HG6.out (by have := HP5.out.lt; omega) (fun q e => by have := (HO5W.out q e).1; have := HG.out; omega))
          have HS6 : Hid (B ≤ w6.heap.size) := Lib.hid (Nat.le_trans HS5.out HG6.out.size)
          go_wp2_with fail
          go_roundw
          case rel => exact ⟨i + 1, _, hlt, by go_num, Lib.hid (HP6.out.far (p := ⟨gq, 9, none⟩) (by have := HG.out; simp; omega) _), Lib.hid (HQ6.out.set 9 _), Lib.hid (by rw [HROT.out]; exact ownR_off HO6.out HGB.out (grownBy_set _ ⟨gq, 9, none⟩ _)), Lib.hid (HB6.out.grown (grownBy_set _ ⟨gq, 9, none⟩ _) (by have := HP6.out.lt; omega) (fun q e => by injection e with e; have := HG.out; simp at e; omega)), Lib.hid (by have := HS6.out; simpa [World.setCell] using this)⟩
          case measure => simp [intOf]; omega
        · have hiL : i = L.length := by omega
          have hlt' : ¬ (i : Int) < (L.length : Int) := by omega
          have HRT : Hid (Rus wr vq (rotK L k L.length)) := Lib.hid (by rw [hiL] at HO; exact HO.out.rus)
          clear HO
          obtain ⟨B2, hB2⟩ : ∃ B2, wr.heap.size = B2 := ⟨_, rfl⟩
          have HBB := Lib.hid hB2
          have hl1J : (L1.length : Int) ≤ 120 := by have := H120.out; omega
          clear hB2
          generalize wr = w5 at *
          go_wp2_with fail
          go_loopw [9, 10, 46] (fun v9 v10 v46 wq => ∃ (a : Nat) (vm : Value), vm = v9 ∧ a ≤ L1.length ∧ v46 = .int .i64 a ∧ Hid (OwnE wq B2 vm (rotK L1 k a)) ∧ Hid (Below B2 w5 wq) ∧ Hid (B2 ≤ wq.heap.size)) (fun _ _ v46 _ => L1.length - (intOf v46).toNat)
          case atStart => exact ⟨0, _, rfl, Nat.zero_le _, rfl, Lib.hid (OwnE.nil _ _), Lib.hid (Below.refl _ _), Lib.hid (by rw [HBB.out]; exact Nat.le_refl _)⟩
          case round =>
            obtain ⟨a, vm, rfl, ha, rfl, HO, HW, HS2⟩ := hrel
            by_cases hat : a < L1.length
            · have hat' : (a : Int) < (L1.length : Int) := by omega
              obtain ⟨n, hn⟩ : ∃ n : Nat, a + k = n := ⟨_, rfl⟩
              obtain ⟨j, hj⟩ : ∃ j : Nat, n % L1.length = j := ⟨_, rfl⟩
              have hjl : j < L1.length := by rw [← hj]; exact Nat.mod_lt _ (by omega)
              obtain ⟨x, hx⟩ : ∃ x, L1[j] = x := ⟨_, rfl⟩
              obtain ⟨ao', cap', g, o, e1, e2, hg, hR⟩ := HRE.out (by rintro rfl; simp at hat)
              simp only [Value.slice.injEq] at e1
              obtain ⟨rfl, -, rfl⟩ := e1
              subst e2
              have hA := hR.at hjl
              rw [hx] at hA
              obtain ⟨d0, d1, d2, d3, d4, d5, d6⟩ := hA.keep ((HW.out.block g (by have := HBB.out; have := HB.out.size; have := HG1.out; have := HS.out; omega)).trans ((HB.out.block g hg).trans (HB0.out.block g hg).symm))
              have HROT : Hid (rotK L1 k (a + 1) = rotK L1 k a ++ [x]) := Lib.hid (by rw [rotK_succ, hn, hj, getElem!_pos L1 j hjl, hx])
              have HRL : Hid ((rotK L1 k a).length = a) := Lib.hid (rotK_len L1 k a)
              have hnn : (a : Int) + (k : Int) = (n : Int) := by omega
              have hnw : IntKind.i64.wrap ((a : Int) + (k : Int)) = (n : Int) := by rw [IntWalk.i64_in _ (by have := H120.out; have := HKK.out; omega)]; omega
              have hn64 : wrap64 (n : Int) = (n : Int) := IntWalk.wrap64_in _ (by have := H120.out; have := HKK.out; omega)
              have hle : ¬ L1 = [] := by rintro rfl; simp at hat
              have hkw : IntKind.i64.wrap (k : Int) = (k : Int) := IntWalk.i64_in _ (by have := HKK.out; omega)
              have hjw : IntKind.i64.wrap (j : Int) = (j : Int) := IntWalk.i64_in _ (by have := H120.out; omega)
              have hlz : ¬ (L1.length : Int) = 0 := fun e => Nat.ne_of_gt (Nat.lt_of_le_of_lt (Nat.zero_le a) hat) (Int.ofNat.inj e)
              have hjI : (j : Int) < (L1.length : Int) := Int.ofNat_lt.2 hjl
              have HJM2 := Lib.hid (show Int.tmod (n : Int) (L1.length : Int) = (j : Int) by rw [← hj]; exact Int.ofNat_tmod n L1.length |>.symm)
              have HOW := Lib.hid (fun q e => (World.ownsRow.lt HO.out q e))
              clear hA hR hx hj hn hg hjl hnn
              have hjm := HJM2.out
              go_wp2_with (at_builtin; go_loud (refine wpList_append_E (by rfl) _ _ (by rfl) B2 vm (rotK L1 k a) a HRL.out (by rfl) (HO.out.below ((Below.refl _ _).alloc (Nat.le_refl _) _)) wr.heap.size x (by rfl) (Blk.new _ _ _) (by have := H120.out; omega) (by have := HS2.out; simp; omega) ?_; intro g6 cap6 w6 h1 h2 h3; have HO6 := Lib.hid h1; have HG6 := Lib.hid h2; clear h1 h2 h3))
              go_roundw
              case rel => exact ⟨a + 1, _, rfl, hat, by go_num, Lib.hid (by rw [HROT.out]; exact HO6.out), Lib.hid ((HW.out.alloc (by have := HS2.out; omega) _).grown HG6.out (by have := HS2.out; simp; omega) (fun q e => (HOW.out q e).1)), Lib.hid (by have h1 := HG6.out.size; have h2 := HS2.out; simp at h1; omega)⟩
              case measure => simp [intOf]; omega
            · have haL : a = L1.length := by omega
              have hat' : ¬ (a : Int) < (L1.length : Int) := by omega
              have HMT : Hid (Ents wr vm (rotK L1 k L1.length)) := Lib.hid (by rw [haL] at HO; exact HO.out.ents)
              have HSE : Hid (M (allE (rotK L k L.length)) = M (allE L)) := Lib.hid (M_perm (allE_perm (rotK_all L k)))
              have HME : Hid (M (rotK L1 k L1.length) = M L1) := Lib.hid (M_perm (rotK_all L1 k))
              obtain ⟨S0, hS0⟩ := comp_ex (P := trL (M L1)) trL_s
              have HS0 := Lib.hid hS0
              have HSL := Lib.hid (comp_len hS0)
              have HW' : Hid (Below w5.heap.size w5 wr) := Lib.hid (by rw [HBB.out]; exact HW.out)
              have HPr : Hid (Blk wr gx 50 #[pu0, pu1, pu2, pu3, pu4, pu5, pu6, pu7, pu8, .slice ao L.length cap, pu10, pu11, pu12, pu13, pu14, pu15, pu16]) := Lib.hid (HP.out.keep HW'.out)
              have HQr : Hid (Blk wr gq 50 #[.slice none 0 0, .slice none 0 0, .slice none 0 0, .slice none 0 0, .slice none 0 0, .slice none 0 0, .slice none 0 0, .slice none 0 0, .slice none 0 0, vq, .slice none 0 0, .slice none 0 0, .slice none 0 0, .slice none 0 0, .slice none 0 0, .slice none 0 0, .slice none 0 0]) := Lib.hid (HQ.out.keep HW'.out)
              have HSr : Hid (Rus wr vq (rotK L k L.length)) := Lib.hid (HRT.out.keep HW'.out)
              have HBr : Hid (Below gx w wr) := Lib.hid (HB.out.trans (HW'.out.mono (by have := HB.out.size; have := HS.out; have := HG1.out; omega)))
              have HEr : Hid (Rus wr (.slice ao L.length cap) L) := Lib.hid (HEW.out.keep (by rw [hgx]; exact HBr.out))
              have HNr : Hid (Ents wr (.slice ao1 L1.length cap1) L1) := Lib.hid (HNW1.out.keep (by rw [hgx]; exact HBr.out))
              have HGS : Hid (gx ≤ wr.heap.size) := Lib.hid (by have := HPr.out.lt; omega)
              have HM4 : Hid ((M (allE L)).length ≤ 400) := Lib.hid (Nat.le_trans (M_len _) HA4.out)
              have HM1 : Hid ((M L1).length ≤ 120) := Lib.hid (Nat.le_trans (M_len _) H120.out)
              clear HO HW HS2 hS0 HP HQ HRT HB HS HW' HBB
              go_upto_region 15 with fail
              refine wp_region_gen (fun _ u => Below wr.heap.size wr u) (fun _ u u2 => Below u.heap.size u u2) (fun q v u => ((([.val (.agg #[pu0, pu1, pu2, pu3, pu4, pu5, pu6, pu7, pu8, .slice ao L.length cap, pu10, pu11, pu12, pu13, pu14, pu15, pu16]), .ents ((M (allE L))), .val (.agg #[.slice none 0 0, .slice none 0 0, .slice none 0 0, .slice none 0 0, .slice none 0 0, .slice none 0 0, .slice none 0 0, .slice none 0 0, .slice none 0 0, vq, .slice none 0 0, .slice none 0 0, .slice none 0 0, .slice none 0 0, .slice none 0 0, .slice none 0 0, .slice none 0 0]), .ents ((M (allE L))), .val (.bool true), .val (.bool true), .val (.slice ao1 L1.length cap1), .ents ((M L1)), .val (vm), .ents ((M L1)), .val (.bool true), .val (.bool true), .val (.bool true), .val (.slice ao1 L1.length cap1), .rus (S0), .val (vm), .rus (S0), .val (.bool true), .val (.bool true), .val (.bool true), .val (.bool true), .val (.bool true), .val (.bool true)] : List SpA)).getD q .tt).ok v u) (by kernel_rfl) (by kernel_rfl) (Below.refl _ _).drew (fun _ _ _ _ _ h hr => h.trans (hr.mono h.size)) [] (by kernel_rfl) (fun i j v u u2 _ _ h hr => SpA.keep h hr) ?_ ?_
              · refine ⟨⟨trivial, fun A v2 d hd hC hF hW K Q hk => ?_⟩, ⟨trivial, fun A v2 d hd hC hF hW K Q hk => ?_⟩, ⟨trivial, fun A v2 d hd hC hF hW K Q hk => ?_⟩, ⟨trivial, fun A v2 d hd hC hF hW K Q hk => ?_⟩, ⟨trivial, fun A v2 d hd hC hF hW K Q hk => ?_⟩, ⟨trivial, fun A v2 d hd hC hF hW K Q hk => ?_⟩, ⟨fun _ _ h => h, fun A v2 d hd hC hF hW K Q hk => ?_⟩, ⟨fun _ _ h => h, fun A v2 d hd hC hF hW K Q hk => ?_⟩, ⟨fun _ _ h => h, fun A v2 d hd hC hF hW K Q hk => ?_⟩, ⟨fun _ _ h => h, fun A v2 d hd hC hF hW K Q hk => ?_⟩, ⟨fun _ _ h => h, fun A v2 d hd hC hF hW K Q hk => ?_⟩, ⟨trivial, fun A v2 d hd hC hF hW K Q hk => ?_⟩, ⟨trivial, fun A v2 d hd hC hF hW K Q hk => ?_⟩, ⟨fun _ _ h => h, fun A v2 d hd hC hF hW K Q hk => ?_⟩, ⟨fun _ _ h => h, fun A v2 d hd hC hF hW K Q hk => ?_⟩, ⟨fun _ _ h => h, fun A v2 d hd hC hF hW K Q hk => ?_⟩, ⟨fun _ _ h => h, fun A v2 d hd hC hF hW K Q hk => ?_⟩, ⟨fun _ _ h => h, fun A v2 d hd hC hF hW K Q hk => ?_⟩, ⟨trivial, fun A v2 d hd hC hF hW K Q hk => ?_⟩, ⟨trivial, fun A v2 d hd hC hF hW K Q hk => ?_⟩, ⟨fun _ _ h => h, fun A v2 d hd hC hF hW K Q hk => ?_⟩, ⟨trivial, fun A v2 d hd hC hF hW K Q hk => ?_⟩, ⟨trivial, fun A v2 d hd hC hF hW K Q hk => ?_⟩, trivial⟩
                · have f3 : A.tmps[3]?.getD undef = .pointer (some ⟨gx, 0, none⟩) := fg_none (hF 3) (by kernel_rfl)
                  refine Giv.wp ?_ hk
                  unfold Giv
                  rw [load_op (Blk.keep HPr.out hC) A 3 f3 _ rfl]
                  exact giv_val (Below.refl _ _) rfl
                · have f63 : A.tmps[63]?.getD undef = .agg #[pu0, pu1, pu2, pu3, pu4, pu5, pu6, pu7, pu8, .slice ao L.length cap, pu10, pu11, pu12, pu13, pu14, pu15, pu16] := fg_some (hF 63) (j := 0) (by kernel_rfl) (by kernel_rfl)
                  refine Giv.wp ?_ hk
                  unfold Giv
                  go_simp
                  exact giv_enter ((entries_c _ _ _ _ _ _ _ _ _ _ _ _ _ _ _ _ _ L (by have := HL4.out; omega) (by have := HM4.out; omega) v2 (HEr.out.keep hC)).mono fun e w2 ⟨v3, he, hp, hb⟩ => ⟨v3, he, hb, hp⟩)
                · have f7 : A.tmps[7]?.getD undef = .pointer (some ⟨gq, 0, none⟩) := fg_none (hF 7) (by kernel_rfl)
                  refine Giv.wp ?_ hk
                  unfold Giv
                  rw [load_op (Blk.keep HQr.out hC) A 7 f7 _ rfl]
                  exact giv_val (Below.refl _ _) rfl
                · have f65 : A.tmps[65]?.getD undef = .agg #[.slice none 0 0, .slice none 0 0, .slice none 0 0, .slice none 0 0, .slice none 0 0, .slice none 0 0, .slice none 0 0, .slice none 0 0, .slice none 0 0, vq, .slice none 0 0, .slice none 0 0, .slice none 0 0, .slice none 0 0, .slice none 0 0, .slice none 0 0, .slice none 0 0] := fg_some (hF 65) (j := 2) (by kernel_rfl) (by kernel_rfl)
                  refine Giv.wp ?_ hk
                  unfold Giv
                  go_simp
                  exact giv_enter ((entries_c _ _ _ _ _ _ _ _ _ _ _ _ _ _ _ _ _ (rotK L k L.length) (by rw [rotK_len]; have := HL4.out; omega) (by rw [HSE.out]; have := HM4.out; omega) v2 (HSr.out.keep hC)).mono fun e w2 ⟨v3, he, hp, hb⟩ => ⟨v3, he, hb, HSE.out ▸ hp⟩)
                · have s64 : Ents v2 (A.tmps[64]?.getD undef) (M (allE L)) := fg_some (hF 64) (j := 1) (by kernel_rfl) (by kernel_rfl)
                  have s66 : Ents v2 (A.tmps[66]?.getD undef) (M (allE L)) := fg_some (hF 66) (j := 3) (by kernel_rfl) (by kernel_rfl)
                  refine Giv.wp ?_ hk
                  unfold Giv
                  go_simp
                  exact giv_enter ((rsame_c _ _ _ _ v2 s64 s66 (by have := HM4.out; omega)).mono fun e w2 ⟨he, hb⟩ => ⟨_, he, hb, congrArg Value.bool (decide_eq_true rfl)⟩)
                · have f67 : A.tmps[67]?.getD undef = .bool true := fg_some (hF 67) (j := 4) (by kernel_rfl) (by kernel_rfl)
                  refine Giv.wp ?_ hk
                  unfold Giv
                  go_simp
                  exact giv_val (Below.refl _ _) rfl
                · have f1 : A.tmps[1]?.getD undef = .slice ao1 L1.length cap1 := fg_none (hF 1) (by kernel_rfl)
                  refine Giv.wp ?_ hk
                  unfold Giv
                  go_simp
                  exact giv_val (Below.refl _ _) rfl
                · have f69 : A.tmps[69]?.getD undef = .slice ao1 L1.length cap1 := fg_some (hF 69) (j := 6) (by kernel_rfl) (by kernel_rfl)
                  refine Giv.wp ?_ hk
                  unfold Giv
                  go_simp
                  exact giv_enter ((merge_c _ L1 (by have := H120.out; omega) v2 (HNr.out.keep hC)).mono fun e w2 ⟨v3, he, hp, hb⟩ => ⟨v3, he, hb, hp⟩)
                · have f9 : A.tmps[9]?.getD undef = vm := fg_none (hF 9) (by kernel_rfl)
                  refine Giv.wp ?_ hk
                  unfold Giv
                  go_simp
                  exact giv_val (Below.refl _ _) rfl
                · have f71 : A.tmps[71]?.getD undef = vm := fg_some (hF 71) (j := 8) (by kernel_rfl) (by kernel_rfl)
                  refine Giv.wp ?_ hk
                  unfold Giv
                  go_simp
                  exact giv_enter ((merge_c _ (rotK L1 k L1.length) (by rw [rotK_len]; have := H120.out; omega) v2 (HMT.out.keep hC)).mono fun e w2 ⟨v3, he, hp, hb⟩ => ⟨v3, he, hb, HME.out ▸ hp⟩)
                · have s70 : Ents v2 (A.tmps[70]?.getD undef) (M L1) := fg_some (hF 70) (j := 7) (by kernel_rfl) (by kernel_rfl)
                  have s72 : Ents v2 (A.tmps[72]?.getD undef) (M L1) := fg_some (hF 72) (j := 9) (by kernel_rfl) (by kernel_rfl)
                  refine Giv.wp ?_ hk
                  unfold Giv
                  go_simp
                  exact giv_enter ((rsame_c _ _ _ _ v2 s70 s72 (by have := HM1.out; omega)).mono fun e w2 ⟨he, hb⟩ => ⟨_, he, hb, congrArg Value.bool (decide_eq_true rfl)⟩)
                · have f68 : A.tmps[68]?.getD undef = .bool true := fg_some (hF 68) (j := 5) (by kernel_rfl) (by kernel_rfl)
                  have f73 : A.tmps[73]?.getD undef = .bool true := fg_some (hF 73) (j := 10) (by kernel_rfl) (by kernel_rfl)
                  refine Giv.wp ?_ hk
                  unfold Giv
                  go_simp
                  exact giv_val (Below.refl _ _) rfl
                · have f74 : A.tmps[74]?.getD undef = .bool true := fg_some (hF 74) (j := 11) (by kernel_rfl) (by kernel_rfl)
                  refine Giv.wp ?_ hk
                  unfold Giv
                  go_simp
                  exact giv_val (Below.refl _ _) rfl
                · have f1 : A.tmps[1]?.getD undef = .slice ao1 L1.length cap1 := fg_none (hF 1) (by kernel_rfl)
                  refine Giv.wp ?_ hk
                  unfold Giv
                  go_simp
                  exact giv_val (Below.refl _ _) rfl
                · have f76 : A.tmps[76]?.getD undef = .slice ao1 L1.length cap1 := fg_some (hF 76) (j := 13) (by kernel_rfl) (by kernel_rfl)
                  refine Giv.wp ?_ hk
                  unfold Giv
                  go_simp
                  exact giv_enter ((compress_c _ L1 (by have := H120.out; omega) v2 (HNr.out.keep hC)).mono fun e w2 ⟨v3, S, he, hs, hc, hb⟩ => ⟨v3, he, hb, (hc.eq HS0.out) ▸ hs⟩)
                · have f9 : A.tmps[9]?.getD undef = vm := fg_none (hF 9) (by kernel_rfl)
                  refine Giv.wp ?_ hk
                  unfold Giv
                  go_simp
                  exact giv_val (Below.refl _ _) rfl
                · have f78 : A.tmps[78]?.getD undef = vm := fg_some (hF 78) (j := 15) (by kernel_rfl) (by kernel_rfl)
                  refine Giv.wp ?_ hk
                  unfold Giv
                  go_simp
                  exact giv_enter ((compress_c _ (rotK L1 k L1.length) (by rw [rotK_len]; have := H120.out; omega) v2 (HMT.out.keep hC)).mono fun e w2 ⟨v3, S, he, hs, hc, hb⟩ => ⟨v3, he, hb, ((HME.out ▸ hc : CompOf (trL (M L1)) S).eq HS0.out) ▸ hs⟩)
                · have s77 : Rus v2 (A.tmps[77]?.getD undef) S0 := fg_some (hF 77) (j := 14) (by kernel_rfl) (by kernel_rfl)
                  have s79 : Rus v2 (A.tmps[79]?.getD undef) S0 := fg_some (hF 79) (j := 16) (by kernel_rfl) (by kernel_rfl)
                  refine Giv.wp ?_ hk
                  unfold Giv
                  go_simp
                  exact giv_enter ((lrules_c _ _ _ _ v2 s77 s79 (by have := HSL.out; have := H120.out; omega)).mono fun e w2 ⟨he, hb⟩ => ⟨_, he, hb, congrArg Value.bool (decide_eq_true rfl)⟩)
                · have f75 : A.tmps[75]?.getD undef = .bool true := fg_some (hF 75) (j := 12) (by kernel_rfl) (by kernel_rfl)
                  have f80 : A.tmps[80]?.getD undef = .bool true := fg_some (hF 80) (j := 17) (by kernel_rfl) (by kernel_rfl)
                  refine Giv.wp ?_ hk
                  unfold Giv
                  go_simp
                  exact giv_val (Below.refl _ _) rfl
                · have f81 : A.tmps[81]?.getD undef = .bool true := fg_some (hF 81) (j := 18) (by kernel_rfl) (by kernel_rfl)
                  refine Giv.wp ?_ hk
                  unfold Giv
                  go_simp
                  exact giv_val (Below.refl _ _) rfl
                · refine Giv.wp ?_ hk
                  unfold Giv
                  go_simp
                  exact giv_enter ((awake_c v2).mono fun e w2 ⟨he, hb⟩ => ⟨_, he, hb, rfl⟩)
                · have f82 : A.tmps[82]?.getD undef = .bool true := fg_some (hF 82) (j := 19) (by kernel_rfl) (by kernel_rfl)
                  have f83 : A.tmps[83]?.getD undef = .bool true := fg_some (hF 83) (j := 20) (by kernel_rfl) (by kernel_rfl)
                  refine Giv.wp ?_ hk
                  unfold Giv
                  go_simp
                  exact giv_val (Below.refl _ _) rfl
                · have f84 : A.tmps[84]?.getD undef = .bool true := fg_some (hF 84) (j := 21) (by kernel_rfl) (by kernel_rfl)
                  refine Giv.wp ?_ hk
                  unfold Giv
                  go_simp
                  exact giv_val (Below.refl _ _) rfl
              intro a0 W5 d hd hC hsz hdf hF hW
              have ha := end_gen [false, false, false, false, false, false, true, false, false, false, false, false, false, false, false, false, false, false, false, false, false, false, false, false, false, false, false, false, false, false, false, false, false, false, false, false, false, false, false, false, false, false, false, false, false, false, false, false, false, false, false, false, false, false, false, false, false, false, false, false, false, false, false, true, true, true, true, true, true, true, true, true, true, true, true, true, true, true, true, true, true, true, true, true, true] hsz hdf hF (by kernel_rfl)
              have f6 : a0.tmps[6]?.getD undef = .bool true := fe_some (hF 6) (j := 22) (by kernel_rfl)
              rw [ha]
              clear ha hF hW
              simp only [cutM_yes, cutM_no, cutM_nil, Nat.reduceAdd]
              rw [f6]
              have HBE := Lib.hid (HBr.out.trans (hC.mono HGS.out))
              clear hC
              go_wp2_with fail
              go_ret
              exact ⟨rfl, by first | exact HBE.out | (rw [hgx]; exact HBE.out)⟩

end Go.Proofs.Ytjikbffnhfoikaa
namespace Go.Proofs.Ytjikbffnhfoikaa.expandOrder
open Go.ChangeShapes Go.WideShapes Go.ChangeAt Go.RowKit
set_option maxRecDepth 100000 in
set_option maxHeartbeats 1000000 in
theorem lifted (os : Os) (started : os.Started) (H : Type) (enc : TypeId × Value → H) :
    ReturnsInHanded {} Try.checked os 9 .any (Rows.expandOrderSpec.pre6 enc Try.prog Try.f9 Rows.expandOrderRow.domain false) (Rows.expandOrderSpec.post enc Try.prog Try.f9 false true false false) := by
  refine returnsInHanded_of_change (C := Try.checked) Try.own started (by kernel_rfl) Try.func9
    (ChangeSpec.witness6 (enc := enc) (C := Try.checked) false ⟨#[], #[.agg #[.slice none 0 0, .slice none 0 0, .slice none 0 0, .slice none 0 0, .slice none 0 0, .slice none 0 0, .slice none 0 0, .slice none 0 0, .slice none 0 0, .slice none 0 0, .slice none 0 0, .slice none 0 0, .slice none 0 0, .slice none 0 0, .slice none 0 0, .slice none 0 0, .slice none 0 0], .slice none 0 0, .int .u8 0], []⟩ 8 (by kernel_rfl) (by kernel_rfl) (by kernel_rfl) (by kernel_rfl)) ?_
  intro W base args ds gs before hval0 hW hcnd _
  have hval : ∀ (j : Nat) t v, Try.f9.params[j]? = some t → args[j]? = some v → Value.okWide Try.prog W .any base t v := hval0
  have hW' := hW
  obtain ⟨p, q, hA0, hV, rfl, hfz, hnd⟩ := hW
  have hA : DataW.TrodAll enc Try.prog W 0 (fun _ => true) true Try.f9.params.toList args.toList ds p := hA0
  rw [Try.params9] at hA hval
  obtain ⟨v0, vs0, d0, ds0, p0, q0, hargs, rfl, rfl, h0, r0⟩ := trodAll_cons hA
  obtain ⟨v1, vs1, d1, ds1, p1, q1, rfl, rfl, rfl, h1, r1⟩ := trodAll_cons r0
  obtain ⟨v2, vs2, d2, ds2, p2, q2, rfl, rfl, rfl, h2, r2⟩ := trodAll_cons r1
  obtain ⟨rfl, rfl, rfl⟩ := trodAll_nil r2
  obtain rfl : args = #[v0, v1, v2] := by cases args; simp_all
  obtain ⟨rfl, rfl⟩ := trodVars_none hV
  have lt0 : ∀ x ∈ p0, x.block < W.heap.size := by obtain ⟨m, hm⟩ := h0; exact DataW.trod_lt m _ _ _ hm
  have k0 := h0
  obtain ⟨a0, a1, a2, a3, a4, a5, a6, a7, a8, a9, a10, a11, a12, a13, a14, a15, a16, L0, rfl, hL0, m0⟩ := open_policy (hval 0 50 v0 rfl rfl) h0
  have lt1 : ∀ x ∈ p1, x.block < W.heap.size := by obtain ⟨m, hm⟩ := h1; exact DataW.trod_lt m _ _ _ hm
  have k1 := h1
  obtain ⟨L1, hL1, m1⟩ := open_ents (hval 1 52 v1 rfl rfl) h1
  have lt2 : ∀ x ∈ p2, x.block < W.heap.size := by obtain ⟨m, hm⟩ := h2; exact DataW.trod_lt m _ _ _ hm
  have k2 := h2
  obtain ⟨n2, rfl, rfl, rfl, z2⟩ := open_int Try.underlying5 (hval 2 5 v2 rfl rfl) h2
  clear hA0 hval0
  refine (lawOrder_c _ _ _ _ _ _ _ _ _ _ _ _ _ _ _ _ _ L0 v1 L1 n2 W hL0 m0 hL1 m1 z2).mono fun e W' ⟨he, bel⟩ => ?_
  subst he
  exact ⟨_, rfl, _, _, _, [], _, [], hW', trodAll_mk1 (shut_bool Try.underlying4 _), (trodAll_cons_mk (Below.trod Try.laidOut (by kernel_rfl) (of_decide_eq_true (by kernel_rfl)) k0 bel lt0) (trodAll_cons_mk (Below.trod Try.laidOut (by kernel_rfl) (of_decide_eq_true (by kernel_rfl)) k1 bel lt1) (trodAll_cons_mk (Below.trod Try.laidOut (by kernel_rfl) (of_decide_eq_true (by kernel_rfl)) k2 bel lt2) trodAll_mk0))), rfl, bel.frame _, fun h => by cases h⟩
theorem proved : Rows.ExpandOrderSaid :=
  OpenClaim.holds_of_wide 9 Try.f9 rfl rfl rfl rfl rfl rfl rfl ⟨rfl, rfl, rfl, rfl, rfl⟩ rfl rfl rfl rfl rfl (by kernel_rfl) Try.func9 (by kernel_rfl)
    (of_decide_eq_true (by kernel_rfl)) (by unfold Func.isWrapper; first | (rw [if_pos (by decide +kernel)]; kernel_rfl) | (rw [if_neg (by decide +kernel)]; exact ⟨rfl, rfl⟩))
    (fun os started H enc _ => lifted os started H enc)
#print axioms proved
end Go.Proofs.Ytjikbffnhfoikaa.expandOrder
