/- P15.5: Compress returns what the reference returns: the law ExpandRules returns true for every list of entries, and its argument reads afterwards as before. Conditions: none. -/
import Derived.Test.YtjikbffnhfoikaaZah
import Derived.Deep.DeepCutAuto
namespace Go.Proofs.Ytjikbffnhfoikaa
open Go.RowKit Go.Sort Go.Maps
/-- the set of what f yields where q holds -/
def collS (q : Tr → Bool) (f : Tr → Int) (P : List Tr) (S : S4) : S4 := P.foldl (fun S z => if q z = true then withS (f z) S else S) S
theorem collS_U (q : Tr → Bool) (f : Tr → Int) : ∀ (P : List Tr) {S : S4}, S.U → (collS q f P S).U
  | [], _, h => h
  | z :: P, S, h => by
    show (collS q f P (if q z = true then withS (f z) S else S)).U
    refine collS_U q f P ?_
    split
    · exact withS_U _ h
    · exact h
theorem has_coll (q : Tr → Bool) (f : Tr → Int) : ∀ (P : List Tr) {S : S4}, S.U → (∀ z ∈ P, 0 ≤ f z ∧ f z < 256) → ∀ n : Int, hasS (collS q f P S) n = true ↔ hasS S n = true ∨ ∃ z ∈ P, q z = true ∧ f z = n
  | [], S, _, _, n => by
    show hasS S n = true ↔ _
    simp
  | z :: P, S, h, hr, n => by
    show hasS (collS q f P (if q z = true then withS (f z) S else S)) n = true ↔ _
    have hU : (if q z = true then withS (f z) S else S).U := by
      split
      · exact withS_U _ h
      · exact h
    rw [has_coll q f P hU (fun y hy => hr y (by simp [hy])) n]
    by_cases hq : q z = true
    · rw [if_pos hq, has_withI (hr z (by simp)) h, Bool.or_eq_true, decide_eq_true_eq]
      constructor
      · rintro ((h1 | h1) | ⟨y, hy, h2⟩)
        · exact .inl h1
        · exact .inr ⟨z, by simp, hq, h1.symm⟩
        · exact .inr ⟨y, by simp [hy], h2⟩
      · rintro (h1 | ⟨y, hy, h2⟩)
        · exact .inl (.inl h1)
        · rcases List.mem_cons.1 hy with rfl | hy
          · exact .inl (.inr h2.2.symm)
          · exact .inr ⟨y, hy, h2⟩
    · rw [if_neg hq]
      constructor
      · rintro (h1 | ⟨y, hy, h2⟩)
        · exact .inl h1
        · exact .inr ⟨y, by simp [hy], h2⟩
      · rintro (h1 | ⟨y, hy, h2⟩)
        · exact .inl h1
        · rcases List.mem_cons.1 hy with rfl | hy
          · exact absurd h2.1 hq
          · exact .inr ⟨y, hy, h2⟩
theorem zero_has (n : Int) : ¬ hasS S4.zero n = true := fun h => by
  obtain ⟨h1, h2⟩ := hasS_in h
  have := has_zero (n := n.toNat) (by omega)
  rw [show ((n.toNat : Nat) : Int) = n by omega, h] at this
  cases this
theorem tgS_coll (P : List Tr) (z : Tr) : tgS P z = collS (fun x => decide (eqT x z)) (fun x => x.t) P S4.zero := by
  unfold tgS collS
  congr 1
  funext S x
  simp only [decide_eq_true_eq]
theorem has_tgS {P : List Tr} (hP : ∀ z ∈ P, 0 ≤ z.t ∧ z.t < 256) (z : Tr) (n : Int) : hasS (tgS P z) n = true ↔ ∃ x ∈ P, eqT x z ∧ x.t = n := by
  rw [tgS_coll, has_coll _ _ P U_zero hP]
  constructor
  · rintro (h | ⟨x, hx, h1, h2⟩)
    · exact absurd h (zero_has n)
    · exact ⟨x, hx, of_decide_eq_true h1, h2⟩
  · rintro ⟨x, hx, h1, h2⟩
    exact .inr ⟨x, hx, decide_eq_true h1, h2⟩
/-- the rule of what z says -/
def ruOf (P : List Tr) (z : Tr) : Ru := ⟨z.m.k, collS (fun x => decide (x.m = z.m) && decide (tgS P x = tgS P z)) (fun x => x.s) P S4.zero, tgS P z, false, z.m.c, z.m.p, z.m.d, ⟨z.wf.1, z.wf.2.1, z.wf.2.2.1, collS_U _ _ P U_zero, tgS_U P z⟩⟩
theorem ruOf_for {P : List Tr} (hS : ∀ z ∈ P, 0 ≤ z.s ∧ z.s < 256) (z : Tr) : ruleFor P (bkOf P z) (ruOf P z) := by
  refine ⟨rfl, rfl, rfl, rfl, rfl, rfl, fun n => ?_⟩
  show hasS (collS _ _ P S4.zero) n = true ↔ _
  rw [has_coll _ _ P U_zero hS]
  constructor
  · rintro (h | ⟨x, hx, h1, h2⟩)
    · exact absurd h (zero_has n)
    · simp only [Bool.and_eq_true, decide_eq_true_eq] at h1
      exact ⟨x, hx, rfl, h1.1, h1.2, h2⟩
  · rintro ⟨x, hx, _, h1, h2, h3⟩
    exact .inr ⟨x, hx, by simp only [Bool.and_eq_true, decide_eq_true_eq]; exact ⟨h1, h2⟩, h3⟩
theorem CompOf.mem_iff {P : List Tr} {S : List Ru} (h : CompOf P S) (hS : ∀ z ∈ P, 0 ≤ z.s ∧ z.s < 256) (r : Ru) : r ∈ S ↔ ∃ z ∈ P, r = ruOf P z := by
  constructor
  · intro hr
    obtain ⟨hs, b, ⟨n, z, hz, _, h1, h2, h3⟩, hb⟩ := (h.2 r).1 hr
    refine ⟨z, hz, ?_⟩
    have e : eqB b (bkOf P z) := ⟨h1.symm, h2.symm⟩
    exact Ru.same (ruleFor_eq e ⟨hs, hb⟩) (ruOf_for hS z)
  · rintro ⟨z, hz, rfl⟩
    have := ruOf_for hS z
    exact (h.2 _).2 ⟨this.1, bkOf P z, ⟨z.s, z, hz, rfl, rfl, rfl, rfl⟩, this.2⟩
theorem len_sub {α : Type} [DecidableEq α] : ∀ {S T : List α}, S.Nodup → (∀ x ∈ S, x ∈ T) → S.length ≤ T.length
  | [], _, _, _ => Nat.zero_le _
  | x :: S, T, h, k => by
    obtain ⟨h1, h2⟩ := List.nodup_cons.1 h
    have hx := k x (by simp)
    have := len_sub (S := S) (T := T.erase x) h2 fun y hy => (List.mem_erase_of_ne (show y ≠ x from fun e => h1 (by rw [← e]; exact hy))).2 (k y (by simp [hy]))
    rw [List.length_erase_of_mem hx] at this
    have : 0 < T.length := List.length_pos_of_mem hx
    simp only [List.length_cons]
    omega
theorem CompOf.len {P : List Tr} {S : List Ru} (h : CompOf P S) (hS : ∀ z ∈ P, 0 ≤ z.s ∧ z.s < 256) : S.length ≤ P.length := by
  have := len_sub (S := S) (T := P.map (ruOf P)) (show S.Nodup from h.1.imp fun {a b} (k : ltR a b) (e : a = b) => ltR_irr a (by rw [← e] at k; exact k)) fun r hr => by
    obtain ⟨z, hz, rfl⟩ := (h.mem_iff hS r).1 hr
    exact List.mem_map.2 ⟨z, hz, rfl⟩
  simpa using this
/-! what the rules say -/
theorem mem_mgE {x : E} {m : Me} : m ∈ mgE x ↔ m.c = x.c ∧ m.d = x.d ∧ m.p ≠ 0#32 ∧ ((m.k = 1 ∧ m.p = x.a) ∨ (m.k = 2 ∧ m.p = x.b) ∨ (m.k = 3 ∧ m.p = x.e)) := by
  unfold mgE mgN
  rw [List.mem_map]
  constructor
  · rintro ⟨y, hy, rfl⟩
    rw [List.mem_filter] at hy
    obtain ⟨h1, h2⟩ := hy
    have h2 : y.p ≠ 0#32 := by simpa using h2
    have h1 : y ∈ mg0 x := List.mem_of_mem_take h1
    simp only [mg0, List.mem_cons, List.not_mem_nil, or_false] at h1
    rcases h1 with rfl | rfl | rfl
    · exact ⟨rfl, rfl, h2, .inl ⟨rfl, rfl⟩⟩
    · exact ⟨rfl, rfl, h2, .inr (.inl ⟨rfl, rfl⟩)⟩
    · exact ⟨rfl, rfl, h2, .inr (.inr ⟨rfl, rfl⟩)⟩
  · rintro ⟨hc, hd, hp, h⟩
    have ht : (mg0 x).take 3 = mg0 x := rfl
    rw [ht]
    refine ⟨⟨m.k, 0, 0, m.p⟩, List.mem_filter.2 ⟨?_, by simpa using hp⟩, Me.same rfl hc.symm hd.symm rfl⟩
    simp only [mg0, List.mem_cons, List.not_mem_nil, or_false]
    rcases h with ⟨h1, h2⟩ | ⟨h1, h2⟩ | ⟨h1, h2⟩
    · exact .inl (Me.same h1 rfl rfl h2)
    · exact .inr (.inl (Me.same h1 rfl rfl h2))
    · exact .inr (.inr (Me.same h1 rfl rfl h2))
theorem mem_trL {L : List E} {z : Tr} : z ∈ trL L ↔ ∃ x ∈ L, isT x.s = true ∧ isT x.t = true ∧ z.m ∈ mgE x ∧ z.s = x.s ∧ z.t = x.t := by
  unfold trL
  rw [List.mem_flatMap]
  constructor
  · rintro ⟨x, hx, h⟩
    unfold trE at h
    split at h
    · rename_i ht
      rw [Bool.and_eq_true] at ht
      obtain ⟨m, hm, rfl⟩ := List.mem_map.1 h
      obtain ⟨a1, a2, a3⟩ := Me.tr_of hm
      exact ⟨x, hx, ht.1, ht.2, by rw [a1]; exact hm, a2, a3⟩
    · simp at h
  · rintro ⟨x, hx, h1, h2, hm, h3, h4⟩
    refine ⟨x, hx, ?_⟩
    unfold trE
    rw [if_pos (by rw [h1, h2]; rfl)]
    refine List.mem_map.2 ⟨z.m, hm, ?_⟩
    obtain ⟨a1, a2, a3⟩ := Me.tr_of hm
    obtain ⟨zm, zs, zt, zw⟩ := z
    dsimp only at h3 h4 a1 a2 a3
    generalize Me.tr zm x = y at *
    obtain ⟨ym, ys, yt, yw⟩ := y
    dsimp only at a1 a2 a3
    subst a1 a2 a3 h3 h4
    rfl
theorem isT_iff {n : Int} : isT n = true ↔ 0 ≤ n ∧ n < 256 := by
  unfold isT
  simp
theorem trL_in {L : List E} {z : Tr} (h : z ∈ trL L) : (0 ≤ z.s ∧ z.s < 256) ∧ (0 ≤ z.t ∧ z.t < 256) := by
  obtain ⟨x, _, h1, h2, _, h3, h4⟩ := mem_trL.1 h
  rw [h3, h4]
  exact ⟨isT_iff.1 h1, isT_iff.1 h2⟩
theorem con_eqV {L : List E} (hs : Strict L) {x z : E} (hx : x ∈ L) (e : eqP x z) : con z L = vec x := con_mem hs hx e
theorem conR_one (g : V → BitVec 32) (hg : ∀ u v, g (orV u v) = g u ||| g v) (hz : g zV = 0#32) (A : BitVec 32) (z : E) : ∀ S : List Ru, (∀ r ∈ S, mB r z = true → g (vR r) = 0#32 ∨ g (vR r) = A) → (A = 0#32 ∨ ∃ r ∈ S, mB r z = true ∧ g (vR r) = A) → g (conR z S) = A
  | [], _, h => by
    rcases h with h | ⟨r, hr, _⟩
    · rw [h]; exact hz
    · simp at hr
  | r :: S, h1, h2 => by
    have e : conR z (r :: S) = orV (if mB r z = true then vR r else zV) (conR z S) := rfl
    rw [e, hg]
    have hrest : g (conR z S) = 0#32 ∨ g (conR z S) = A := by
      have : ∀ T : List Ru, (∀ r ∈ T, mB r z = true → g (vR r) = 0#32 ∨ g (vR r) = A) → g (conR z T) = 0#32 ∨ g (conR z T) = A := by
        intro T
        induction T with
        | nil => intro _; exact .inl hz
        | cons y T ih =>
          intro hT
          have e : conR z (y :: T) = orV (if mB y z = true then vR y else zV) (conR z T) := rfl
          rw [e, hg]
          have i2 := ih fun q hq => hT q (by simp [hq])
          by_cases hm : mB y z = true
          · rw [if_pos hm]
            rcases hT y (by simp) hm with k1 | k1 <;> rcases i2 with k2 | k2 <;> rw [k1, k2] <;> simp
          · rw [if_neg hm, hz]
            rcases i2 with k2 | k2 <;> rw [k2] <;> simp
      exact this S fun q hq => h1 q (by simp [hq])
    by_cases hm : mB r z = true
    · rw [if_pos hm]
      rcases h1 r (by simp) hm with k1 | k1
      · rw [k1, BitVec.zero_or]
        refine conR_one g hg hz A z S (fun q hq => h1 q (by simp [hq])) ?_
        rcases h2 with h | ⟨q, hq, hmq, hA⟩
        · exact .inl h
        · rcases List.mem_cons.1 hq with rfl | hq
          · exact .inl (by rw [← hA, k1])
          · exact .inr ⟨q, hq, hmq, hA⟩
      · rw [k1]
        rcases hrest with k2 | k2 <;> rw [k2] <;> simp
    · rw [if_neg hm, hz, BitVec.zero_or]
      refine conR_one g hg hz A z S (fun q hq => h1 q (by simp [hq])) ?_
      rcases h2 with h | ⟨q, hq, hmq, hA⟩
      · exact .inl h
      · rcases List.mem_cons.1 hq with rfl | hq
        · exact absurd hmq hm
        · exact .inr ⟨q, hq, hmq, hA⟩
end Go.Proofs.Ytjikbffnhfoikaa
namespace Go.Proofs.Ytjikbffnhfoikaa
open Go.RowKit Go.Sort Go.Maps
theorem trL_s {L : List E} : ∀ z ∈ trL L, 0 ≤ z.s ∧ z.s < 256 := fun _ h => (trL_in h).1
theorem trL_t {L : List E} : ∀ z ∈ trL L, 0 ≤ z.t ∧ z.t < 256 := fun _ h => (trL_in h).2
theorem has_src {P : List Tr} (hS : ∀ z ∈ P, 0 ≤ z.s ∧ z.s < 256) (t : Tr) (n : Int) : hasS (ruOf P t).src n = true ↔ ∃ y ∈ P, y.m = t.m ∧ tgS P y = tgS P t ∧ y.s = n := by
  have h := (ruOf_for hS t).2.2.2.2.2.2 n
  rw [h]
  constructor
  · rintro ⟨y, hy, _, h1, h2, h3⟩; exact ⟨y, hy, h1, h2, h3⟩
  · rintro ⟨y, hy, h1, h2, h3⟩; exact ⟨y, hy, rfl, h1, h2, h3⟩
/-- a rule that says something at z stands for an entry with the key of z -/
theorem comp_key1 {L : List E} {t : Tr} {z : E} (hm : mB (ruOf (trL L) t) z = true) : ∃ x ∈ L, eqP x z ∧ t.m ∈ mgE x := by
  unfold mB at hm
  simp only [Bool.and_eq_true, decide_eq_true_eq] at hm
  obtain ⟨hc, hd, hs, hp⟩ := hm
  obtain ⟨y, hy, h1, h2, h3⟩ := (has_src trL_s t z.s).1 hs
  have hp' : hasS (tgS (trL L) t) z.t = true := by
    have hp : (hasS (tgS (trL L) t) z.t || (false && decide (z.s = z.t))) = true := hp
    simpa using hp
  rw [← h2] at hp'
  obtain ⟨u, hu, ⟨e1, e2⟩, e3⟩ := (has_tgS trL_t y z.t).1 hp'
  obtain ⟨x, hx, _, _, hmx, hxs, hxt⟩ := mem_trL.1 hu
  have hum : u.m = t.m := e1.trans h1
  rw [hum] at hmx
  obtain ⟨k1, k2, _⟩ := mem_mgE.1 hmx
  have hc : t.m.c = z.c := hc
  have hd : t.m.d = z.d := hd
  exact ⟨x, hx, ⟨by rw [← hxs, e2, h3], by rw [← hxt, e3], by rw [← k1, hc], by rw [← k2, hd]⟩, hmx⟩
/-- each vector of an entry has a rule that says it -/
theorem comp_key2 {L : List E} {x z : E} (hx : x ∈ L) (hT : isT x.s = true ∧ isT x.t = true) (e : eqP x z) {m : Me} (hm : m ∈ mgE x) : ∃ t ∈ trL L, t.m = m ∧ mB (ruOf (trL L) t) z = true := by
  obtain ⟨a1, a2, a3⟩ := Me.tr_of hm
  have ht : m.tr x ∈ trL L := mem_trL.2 ⟨x, hx, hT.1, hT.2, by rw [a1]; exact hm, a2, a3⟩
  refine ⟨_, ht, a1, ?_⟩
  obtain ⟨k1, k2, _⟩ := mem_mgE.1 hm
  obtain ⟨e1, e2, e3, e4⟩ := e
  unfold mB
  simp only [Bool.and_eq_true, decide_eq_true_eq]
  refine ⟨by show (m.tr x).m.c = z.c; rw [a1, k1, e3], by show (m.tr x).m.d = z.d; rw [a1, k2, e4], (has_src trL_s _ _).2 ⟨_, ht, rfl, rfl, by rw [a2, e1]⟩, ?_⟩
  show (hasS (tgS (trL L) (m.tr x)) z.t || (false && decide (z.s = z.t))) = true
  rw [(has_tgS trL_t _ _).2 ⟨_, ht, ⟨rfl, rfl⟩, by rw [a3, e2]⟩]
  rfl
theorem vR_ru {P : List Tr} (t : Tr) : vR (ruOf P t) = if t.m.k = 1 then ⟨t.m.p, 0#32, 0#32⟩ else if t.m.k = 2 then ⟨0#32, t.m.p, 0#32⟩ else if t.m.k = 3 then ⟨0#32, 0#32, t.m.p⟩ else zV := rfl
theorem comp_con {L : List E} {S : List Ru} (hL : Strict L) (hT : ∀ x ∈ L, isT x.s = true ∧ isT x.t = true) (h : CompOf (trL L) S) (z : E) : conR z S = con z L := by
  have hmem := h.mem_iff trL_s
  have h0 : ∀ (g : V → BitVec 32) (A : BitVec 32), (∀ u v, g (orV u v) = g u ||| g v) → g zV = 0#32 → (∀ x ∈ L, eqP x z → ∀ m ∈ mgE x, ∀ t : Tr, t.m = m → g (vR (ruOf (trL L) t)) = 0#32 ∨ g (vR (ruOf (trL L) t)) = A) →
      (A = 0#32 ∨ ∃ x ∈ L, eqP x z ∧ ∃ m ∈ mgE x, ∀ t : Tr, t.m = m → g (vR (ruOf (trL L) t)) = A) → g (conR z S) = A := by
    intro g A hg hz h1 h2
    refine conR_one g hg hz A z S (fun r hr hm => ?_) ?_
    · obtain ⟨t, _, rfl⟩ := (hmem r).1 hr
      obtain ⟨x, hx, e, hmx⟩ := comp_key1 hm
      exact h1 x hx e _ hmx t rfl
    · rcases h2 with h2 | ⟨x, hx, e, m, hm, h2⟩
      · exact .inl h2
      · obtain ⟨t, ht, htm, hB⟩ := comp_key2 hx (hT x hx) e hm
        exact .inr ⟨_, (hmem _).2 ⟨t, ht, rfl⟩, hB, h2 t htm⟩
  have hv : ∀ u v : V, u.p = v.p → u.q = v.q → u.r = v.r → u = v := fun u v a b c => by
    cases u; cases v
    dsimp only at a b c
    rw [a, b, c]
  have hval : ∀ (x : E), x ∈ L → eqP x z → ∀ m ∈ mgE x, ∀ t : Tr, t.m = m → (vR (ruOf (trL L) t)).p = (if m.k = 1 then x.a else 0#32) ∧ (vR (ruOf (trL L) t)).q = (if m.k = 2 then x.b else 0#32) ∧ (vR (ruOf (trL L) t)).r = (if m.k = 3 then x.e else 0#32) := by
    intro x hx e m hm t ht
    obtain ⟨_, _, _, h3⟩ := mem_mgE.1 hm
    rw [vR_ru, ht]
    rcases h3 with ⟨k, p⟩ | ⟨k, p⟩ | ⟨k, p⟩ <;> rw [k, p] <;> simp
  by_cases hex : ∃ x ∈ L, eqP x z
  · obtain ⟨x, hx, e⟩ := hex
    have hc : con z L = vec x := con_mem hL hx e
    have huniq : ∀ y ∈ L, eqP y z → vec y = vec x := fun y hy ey => by rw [← con_mem hL hy ey, hc]
    rw [hc]
    refine hv _ _ ?_ ?_ ?_
    · refine h0 (fun v => v.p) x.a (fun _ _ => rfl) rfl (fun y hy ey m hm t ht => ?_) ?_
      · show (vR _).p = _ ∨ (vR _).p = _
        rw [(hval y hy ey m hm t ht).1]
        have : y.a = x.a := congrArg V.p (huniq y hy ey)
        by_cases k : m.k = 1
        · rw [if_pos k, this]; exact .inr rfl
        · rw [if_neg k]; exact .inl rfl
      · by_cases k : x.a = 0#32
        · exact .inl k
        · exact .inr ⟨x, hx, e, ⟨1, x.c, x.d, x.a⟩, mem_mgE.2 ⟨rfl, rfl, k, .inl ⟨rfl, rfl⟩⟩, fun t ht => by show (vR _).p = _; rw [(hval x hx e _ (mem_mgE.2 ⟨rfl, rfl, k, .inl ⟨rfl, rfl⟩⟩) t ht).1, if_pos rfl]⟩
    · refine h0 (fun v => v.q) x.b (fun _ _ => rfl) rfl (fun y hy ey m hm t ht => ?_) ?_
      · show (vR _).q = _ ∨ (vR _).q = _
        rw [(hval y hy ey m hm t ht).2.1]
        have : y.b = x.b := congrArg V.q (huniq y hy ey)
        by_cases k : m.k = 2
        · rw [if_pos k, this]; exact .inr rfl
        · rw [if_neg k]; exact .inl rfl
      · by_cases k : x.b = 0#32
        · exact .inl k
        · exact .inr ⟨x, hx, e, ⟨2, x.c, x.d, x.b⟩, mem_mgE.2 ⟨rfl, rfl, k, .inr (.inl ⟨rfl, rfl⟩)⟩, fun t ht => by show (vR _).q = _; rw [(hval x hx e _ (mem_mgE.2 ⟨rfl, rfl, k, .inr (.inl ⟨rfl, rfl⟩)⟩) t ht).2.1, if_pos rfl]⟩
    · refine h0 (fun v => v.r) x.e (fun _ _ => rfl) rfl (fun y hy ey m hm t ht => ?_) ?_
      · show (vR _).r = _ ∨ (vR _).r = _
        rw [(hval y hy ey m hm t ht).2.2]
        have : y.e = x.e := congrArg V.r (huniq y hy ey)
        by_cases k : m.k = 3
        · rw [if_pos k, this]; exact .inr rfl
        · rw [if_neg k]; exact .inl rfl
      · by_cases k : x.e = 0#32
        · exact .inl k
        · exact .inr ⟨x, hx, e, ⟨3, x.c, x.d, x.e⟩, mem_mgE.2 ⟨rfl, rfl, k, .inr (.inr ⟨rfl, rfl⟩)⟩, fun t ht => by show (vR _).r = _; rw [(hval x hx e _ (mem_mgE.2 ⟨rfl, rfl, k, .inr (.inr ⟨rfl, rfl⟩)⟩) t ht).2.2, if_pos rfl]⟩
  · have hc : con z L = zV := con_none z fun x hx e => hex ⟨x, hx, e⟩
    rw [hc]
    refine hv _ _ ?_ ?_ ?_
    · exact h0 (fun v => v.p) 0#32 (fun _ _ => rfl) rfl (fun y hy ey => absurd ⟨y, hy, ey⟩ hex) (.inl rfl)
    · exact h0 (fun v => v.q) 0#32 (fun _ _ => rfl) rfl (fun y hy ey => absurd ⟨y, hy, ey⟩ hex) (.inl rfl)
    · exact h0 (fun v => v.r) 0#32 (fun _ _ => rfl) rfl (fun y hy ey => absurd ⟨y, hy, ey⟩ hex) (.inl rfl)
theorem M_types {L : List E} (hT : ∀ x ∈ L, isT x.s = true ∧ isT x.t = true) : ∀ x ∈ M L, isT x.s = true ∧ isT x.t = true := by
  intro x hx
  have h1 := con_self (M_ne L x hx) hx
  rw [M_con] at h1
  have : ∃ y ∈ L, eqP y x := Classical.byContradiction fun h => h1 (con_none x fun y hy e => h ⟨y, hy, e⟩)
  obtain ⟨y, hy, e⟩ := this
  rw [← e.1, ← e.2.1]
  exact hT y hy
/-- the entries of the rules of Compress -/
theorem comp_entries {L : List E} {S : List Ru} (hT : ∀ x ∈ L, isT x.s = true ∧ isT x.t = true) (h : CompOf (trL (M L)) S) : M (allE S) = M L :=
  M_of fun z => by rw [con_all, comp_con (M_strict L) (M_types hT) h z, M_con]
theorem comp_len {L : List E} {S : List Ru} (h : CompOf (trL (M L)) S) : S.length ≤ 3 * L.length := by
  have h1 := h.len trL_s
  have h2 := trL_len (M L)
  have h3 := M_len L
  omega
end Go.Proofs.Ytjikbffnhfoikaa
namespace Go.Proofs.Ytjikbffnhfoikaa
open Go.RowKit Go.Sort Go.Maps
/-- how far add has come -/
def AddJ (L : List E) (x : E) (i : Nat) (d : Bool) (O : List E) : Prop := if d = true then O ++ L.drop i = ins L x ∧ (∀ y ∈ L.drop i, ltP x y) else O ++ ins (L.drop i) x = ins L x
theorem AddJ.zero (L : List E) (x : E) : AddJ L x 0 false [] := by unfold AddJ; rw [if_neg (by simp)]; rfl
theorem drop_at {L : List E} {i : Nat} (h : i < L.length) {y : E} (hy : L[i] = y) : L.drop i = y :: L.drop (i + 1) := by rw [← hy]; exact List.drop_eq_getElem_cons h
theorem AddJ.more {L O : List E} {x y : E} {i : Nat} (h : AddJ L x i true O) (hi : i < L.length) (hy : L[i] = y) : AddJ L x (i + 1) true (O ++ [y]) := by
  unfold AddJ at h ⊢
  rw [if_pos rfl] at h ⊢
  rw [drop_at hi hy] at h
  exact ⟨by rw [← h.1]; simp, fun z hz => h.2 z (by simp [hz])⟩
theorem AddJ.lt {L O : List E} {x y : E} {i : Nat} (h : AddJ L x i false O) (hi : i < L.length) (hy : L[i] = y) (e : ltP y x) : AddJ L x (i + 1) false (O ++ [y]) := by
  unfold AddJ at h ⊢
  rw [if_neg (by simp)] at h ⊢
  rw [drop_at hi hy, ins, if_pos e] at h
  rw [← h]; simp
theorem AddJ.gt {L O : List E} {x y : E} {i : Nat} (h : AddJ L x i false O) (hi : i < L.length) (hy : L[i] = y) (hs : Strict L) (e : ltP x y) : AddJ L x (i + 1) true ((O ++ [x]) ++ [y]) := by
  unfold AddJ at h ⊢
  rw [if_neg (by simp)] at h
  rw [if_pos rfl]
  have hd := drop_at hi hy
  have hs2 : Strict (L.drop i) := List.Pairwise.sublist (List.drop_sublist i L) hs
  rw [hd] at hs2
  rw [hd, ins, if_neg (ltP_asymm e), if_pos e] at h
  exact ⟨by rw [← h]; simp, fun z hz => ltP_trans e ((List.pairwise_cons.1 hs2).1 z hz)⟩
theorem AddJ.eq {L O : List E} {x y : E} {i : Nat} (h : AddJ L x i false O) (hi : i < L.length) (hy : L[i] = y) (hs : Strict L) (e1 : ¬ ltP x y) (e2 : ¬ ltP y x) : AddJ L x (i + 1) true (O ++ [orE y x]) := by
  unfold AddJ at h ⊢
  rw [if_neg (by simp)] at h
  rw [if_pos rfl]
  have hd := drop_at hi hy
  have hs2 : Strict (L.drop i) := List.Pairwise.sublist (List.drop_sublist i L) hs
  rw [hd] at hs2
  rw [hd, ins, if_neg e2, if_neg e1] at h
  have hxy : eqP x y := (tri x y).resolve_left e1 |>.resolve_right e2
  exact ⟨by rw [← h]; simp, fun z hz => eq_ltP hxy ((List.pairwise_cons.1 hs2).1 z hz)⟩
theorem AddJ.up {L O : List E} {x y : E} {i : Nat} (h : AddJ L x i true O) (hi : i < L.length) (hy : L[i] = y) : ltP x y := by
  unfold AddJ at h
  rw [if_pos rfl, drop_at hi hy] at h
  exact h.2 y (by simp)
theorem AddJ.end_t {L O : List E} {x : E} (h : AddJ L x L.length true O) : O = ins L x := by
  unfold AddJ at h
  rw [if_pos rfl, List.drop_length, List.append_nil] at h
  exact h.1
theorem AddJ.end_f {L O : List E} {x : E} (h : AddJ L x L.length false O) : O ++ [x] = ins L x := by
  unfold AddJ at h
  rw [if_neg (by simp), List.drop_length] at h
  exact h
theorem World.heap_alloc_lt {w : World} {o : Obj} {g : Nat} (h : g < w.heap.size) : (w.alloc o).heap[g]? = w.heap[g]? := ((Below.refl w.heap.size w).alloc (Nat.le_refl _) o).block g h
set_option maxRecDepth 100000 in
set_option maxHeartbeats 16000000 in
theorem radd_c (v : Value) (L : List E) (x : E) (hl : L.length ≤ 100000) (hs : Strict L) (w : World) (hE : Ents w v L) :
    Calls Try.prog 48 #[v, .agg #[.int .i64 x.s, .int .i64 x.t, .int .i64 x.c, .int .i64 x.d, .int .u32 (vI x.a), .int .u32 (vI x.b), .int .u32 (vI x.e)]] w fun e w' => ∃ v', e = .returned v' ∧ Ents w' v' (insN L x) ∧ Below w.heap.size w w' := by
  have hb0 : Below w.heap.size w (w.alloc (.cells #[.int .i64 x.s, .int .i64 x.t, .int .i64 x.c, .int .i64 x.d, .int .u32 (vI x.a), .int .u32 (vI x.b), .int .u32 (vI x.e)] 61)) := (Below.refl _ _).alloc (Nat.le_refl _) _
  have HX0 : Hid (Box (w.alloc (.cells #[.int .i64 x.s, .int .i64 x.t, .int .i64 x.c, .int .i64 x.d, .int .u32 (vI x.a), .int .u32 (vI x.b), .int .u32 (vI x.e)] 61)) w.heap.size x) := Lib.hid (Blk.new w _ _)
  have HE0 := Lib.hid (hE.keep hb0)
  have HB0 := Lib.hid hb0
  have HS0 : Hid (w.heap.size + 1 ≤ (w.alloc (.cells #[.int .i64 x.s, .int .i64 x.t, .int .i64 x.c, .int .i64 x.d, .int .u32 (vI x.a), .int .u32 (vI x.b), .int .u32 (vI x.e)] 61)).heap.size) := Lib.hid (by simp)
  have HEB : Hid (EntB (w.alloc (.cells #[.int .i64 x.s, .int .i64 x.t, .int .i64 x.c, .int .i64 x.d, .int .u32 (vI x.a), .int .u32 (vI x.b), .int .u32 (vI x.e)] 61)) w.heap.size v L) := Lib.hid (hE.at.keep hb0)
  have HST := Lib.hid hs
  have HEO := Lib.hid hE.at
  obtain ⟨ao, cap, rfl, hcap, -⟩ := hE
  have hlI : (L.length : Int) ≤ 100000 := by omega
  clear hb0 hs
  go_enter Try.func48, Try.ntmps48
  go_upto_region 1 with fail
  generalize w.alloc (.cells #[.int .i64 x.s, .int .i64 x.t, .int .i64 x.c, .int .i64 x.d, .int .u32 (vI x.a), .int .u32 (vI x.b), .int .u32 (vI x.e)] 61) = W at *
  generalize hgx : w.heap.size = gx at *
  obtain ⟨em, hem⟩ : ∃ em, emp x = em := ⟨_, rfl⟩
  have HEM := Lib.hid hem
  clear hem
  obtain ⟨b0, b1, b2, b3, b4, b5, b6⟩ := HX0.out.cells
  go_cut [21] (fun v w' => v = .bool em ∧ W = w')
  case first =>
    have h1 := HEM.out
    unfold emp at h1
    have e1 := vI_emp x.a
    have e2 := vI_emp x.b
    have e3 := vI_emp x.e
    cases ha : (x.a == 0#32) <;> cases hb : (x.b == 0#32) <;> cases he : (x.e == 0#32) <;> rw [ha, hb, he] at h1 <;> rw [ha] at e1 <;> rw [hb] at e2 <;> rw [he] at e3 <;> subst h1 <;> clear ha hb he
    all_goals
      go_wp2_with fail
      go_meet
      exact ⟨rfl, rfl⟩
  case rest =>
  obtain ⟨rfl, rfl⟩ := hcut
  clear b0 b1 b2 b3 b4 b5 b6
  cases em with
  | true =>
    go_wp2_with fail
    go_ret
    exact ⟨_, rfl, by unfold insN; rw [if_pos HEM.out]; exact HE0.out, by first | exact HB0.out | (rw [hgx]; exact HB0.out)⟩
  | false =>
    have HIN : Hid (insN L x = ins L x) := Lib.hid (by unfold insN; rw [HEM.out]; rfl)
    go_wp2_with fail
    go_loopw [5, 6, 7] (fun v5 v6 v7 wr => ∃ (i : Nat) (d : Bool) (O : List E) (vo : Value), vo = v5 ∧ v6 = .bool d ∧ i ≤ L.length ∧ v7 = .int .i64 i ∧ Hid (Box wr gx x) ∧ Hid (OwnE wr (gx + 1) vo O) ∧ Hid (Below gx w wr) ∧ Hid (gx + 1 ≤ wr.heap.size) ∧ Hid (AddJ L x i d O) ∧ Hid (O.length ≤ 2 * i)) (fun _ _ v7 _ => L.length - (intOf v7).toNat)
    case atStart => exact ⟨0, false, [], _, rfl, rfl, Nat.zero_le _, rfl, HX0, Lib.hid (OwnE.nil _ _), HB0, HS0, Lib.hid (AddJ.zero L x), Lib.hid (Nat.le_refl _)⟩
    case round =>
      obtain ⟨i, d, O, vo, rfl, rfl, hi, rfl, HXR, HO, HB, HS, HJ, HLO⟩ := hrel
      have HEW : Hid (EntB wr gx (.slice ao L.length cap) L) := Lib.hid (HEO.out.keep HB.out)
      by_cases hlt : i < L.length
      · have hlt' : (i : Int) < (L.length : Int) := by omega
        obtain ⟨y, hy⟩ : ∃ y, L[i] = y := ⟨_, rfl⟩
        obtain ⟨ao', cap', e, _, hr⟩ := HEW.out
        obtain ⟨g, o, hao, hg, hR⟩ := hr (by rintro rfl; simp at hlt)
        simp only [Value.slice.injEq] at e
        obtain ⟨rfl, -, rfl⟩ := e
        subst hao
        have hA := hR.at hlt
        rw [hy] at hA
        have HAY := Lib.hid hA
        have HGG : Hid (g < gx) := Lib.hid hg
        clear hR hr hA hg HEW
        cases d with
        | true =>
          have exy := HJ.out.up hlt hy
          have eyx := ltP_asymm exy
          have HXY : Hid (∀ u, Calls Try.prog 73 #[.agg #[.int .i64 x.s, .int .i64 x.t, .int .i64 x.c, .int .i64 x.d, .int .u32 (vI x.a), .int .u32 (vI x.b), .int .u32 (vI x.e)], .agg #[.int .i64 y.s, .int .i64 y.t, .int .i64 y.c, .int .i64 y.d, .int .u32 (vI y.a), .int .u32 (vI y.b), .int .u32 (vI y.e)]] u fun e w' => e = .returned (.bool true) ∧ Below u.heap.size u w') := Lib.hid fun u => by
            have h := before_c x y u
            rw [show decide (ltP x y) = true from by simpa using exy] at h
            exact h
          have HYX : Hid (∀ u, Calls Try.prog 73 #[.agg #[.int .i64 y.s, .int .i64 y.t, .int .i64 y.c, .int .i64 y.d, .int .u32 (vI y.a), .int .u32 (vI y.b), .int .u32 (vI y.e)], .agg #[.int .i64 x.s, .int .i64 x.t, .int .i64 x.c, .int .i64 x.d, .int .u32 (vI x.a), .int .u32 (vI x.b), .int .u32 (vI x.e)]] u fun e w' => e = .returned (.bool false) ∧ Below u.heap.size u w') := Lib.hid fun u => by
            have h := before_c y x u
            rw [show decide (ltP y x) = false from by simpa using eyx] at h
            exact h
          go_upto_region 8 with fail
          refine wp_region_kp (by kernel_rfl) (by kernel_rfl) ?_
          repeat (first
              | go_big_quiet_skip
              | (go_big_quiet_want
                 go_big_quiet_op
                 first
                   | go_big_quiet_on
                   | (apply Exists.intro
                      refine ⟨fun w1 hC => ?_, ?_⟩
                      · first
                          | (go_at_call 73; with_reducible exact hC.call (HXY.out _))
                          | (go_simp; exact ⟨rfl, rfl⟩)
                          | (obtain ⟨b0, b1, b2, b3, b4, b5, b6⟩ := (show Box _ gx x from hC.blk HXR.out).cells; go_simp; exact rfl)
                          | (obtain ⟨d0, d1, d2, d3, d4, d5, d6⟩ := HAY.out.keep (hC.block g HAY.out.lt); go_simp; exact rfl)
                      go_big_quiet_on)))
          refine wpQuiet_nil ?_
          intro W1 hC
          have HX1 : Hid (Box W1 gx x) := Lib.hid (hC.blk HXR.out)
          have HA1 : Hid (At7 W1 g (o + i * 7) y) := Lib.hid (HAY.out.keep (hC.block g HAY.out.lt))
          have HO1 := Lib.hid (HO.out.below hC)
          have HB1 := Lib.hid (HB.out.trans (hC.mono (by have := HS.out; omega)))
          have HS1 : Hid (gx + 1 ≤ W1.heap.size) := Lib.hid (Nat.le_trans HS.out hC.size)
          clear hC HXR HAY HO HB HS
          obtain ⟨d0, d1, d2, d3, d4, d5, d6⟩ := HA1.out
          have HY3 := Lib.hid (Blk.new W1 61 #[.int .i64 y.s, .int .i64 y.t, .int .i64 y.c, .int .i64 y.d, .int .u32 (vI y.a), .int .u32 (vI y.b), .int .u32 (vI y.e)])
          have HX3 := Lib.hid (HX1.out.alloc (.cells #[.int .i64 y.s, .int .i64 y.t, .int .i64 y.c, .int .i64 y.d, .int .u32 (vI y.a), .int .u32 (vI y.b), .int .u32 (vI y.e)] 61))
          have HO3 := Lib.hid (HO1.out.below ((Below.refl _ W1).alloc (Nat.le_refl _) (.cells #[.int .i64 y.s, .int .i64 y.t, .int .i64 y.c, .int .i64 y.d, .int .u32 (vI y.a), .int .u32 (vI y.b), .int .u32 (vI y.e)] 61)))
          have HB3 := Lib.hid (HB1.out.alloc (by have := HS1.out; omega) (.cells #[.int .i64 y.s, .int .i64 y.t, .int .i64 y.c, .int .i64 y.d, .int .u32 (vI y.a), .int .u32 (vI y.b), .int .u32 (vI y.e)] 61))
          have HS3 : Hid (gx + 1 ≤ W1.heap.size) := HS1
          have HS4 : Hid (gx + 1 ≤ (W1.alloc (.cells #[.int .i64 y.s, .int .i64 y.t, .int .i64 y.c, .int .i64 y.d, .int .u32 (vI y.a), .int .u32 (vI y.b), .int .u32 (vI y.e)] 61)).heap.size) := Lib.hid (by have := HS1.out; simp; omega)
          go_upto_region 12 with fail
          clear d0 d1 d2 d3 d4 d5 d6 HX1 HA1 HO1 HB1
          generalize W1.alloc (.cells #[.int .i64 y.s, .int .i64 y.t, .int .i64 y.c, .int .i64 y.d, .int .u32 (vI y.a), .int .u32 (vI y.b), .int .u32 (vI y.e)] 61) = W3 at *
          generalize W1.heap.size = gy at *
          obtain ⟨k0, k1, k2, k3, k4, k5, k6⟩ := (show Box W3 gx x from HX3.out).cells
          obtain ⟨l0, l1, l2, l3, l4, l5, l6⟩ := (show Box W3 gy y from HY3.out).cells
          go_wp2_with (first
            | (go_at_call 73; first
              | ((with_reducible refine (HYX.out _).mono ?_); rintro e W5 ⟨rfl, hb5⟩; have HX5 := Lib.hid (Blk.keep HX4.out hb5); have HY5 := Lib.hid (Blk.keep HY4.out hb5); have HO5 := Lib.hid (HO4.out.below hb5); have HB5 := Lib.hid (HB4.out.trans (hb5.mono (by have := HSb4.out; omega))); have HS5 : Hid (gx + 1 ≤ W5.heap.size) := Lib.hid (Nat.le_trans HSb4.out hb5.size); obtain ⟨s0, s1, s2, s3, s4, s5, s6⟩ := (show Box W5 gx x from HX5.out).cells; obtain ⟨t0, t1, t2, t3, t4, t5, t6⟩ := (show Box W5 gy y from HY5.out).cells; have fz := fun k => HY5.out.frozen k; clear hb5)
              | ((with_reducible refine (HXY.out _).mono ?_); rintro e W4 ⟨rfl, hb4⟩; have HX4 := Lib.hid (Blk.keep HX3.out hb4); have HY4 := Lib.hid (Blk.keep HY3.out hb4); have HO4 := Lib.hid (HO3.out.below hb4); have HB4 := Lib.hid (HB3.out.trans (hb4.mono (by have := HS4.out; omega))); have HSb4 : Hid (gx + 1 ≤ W4.heap.size) := Lib.hid (Nat.le_trans HS4.out hb4.size); obtain ⟨m0, m1, m2, m3, m4, m5, m6⟩ := (show Box W4 gx x from HX4.out).cells; obtain ⟨n0, n1, n2, n3, n4, n5, n6⟩ := (show Box W4 gy y from HY4.out).cells; clear hb4))
            | (at_builtin; refine wpList_append_E (by rfl) _ _ (by rfl) (gx + 1) vo O O.length rfl (by rfl) (HO4.out.below ((Below.refl _ _).alloc (Nat.le_refl _) _)) W4.heap.size y (by rfl) (Blk.new _ _ _) (by have := HLO.out; omega) (by have := HSb4.out; simp; omega) ?_; intro g6 cap6 w6 h1 h2 h3; have HO6 := Lib.hid h1; have HG6 := Lib.hid h2; clear h1 h2 h3))
          have HOW6 := Lib.hid (fun q e => (World.ownsRow.lt HO4.out q e))
          have HX6 : Hid (Box w6 gx x) := Lib.hid ((HG6.out.block gx (by have := HX4.out.lt; simp; omega) (fun e => by have := (HOW6.out gx e.symm).1; omega)).trans (Blk.alloc HX4.out _))
          have HB6 := Lib.hid ((HB4.out.alloc (by have := HSb4.out; omega) (.cells #[.int .i64 y.s, .int .i64 y.t, .int .i64 y.c, .int .i64 y.d, .int .u32 (vI y.a), .int .u32 (vI y.b), .int .u32 (vI y.e)] 61)).grown HG6.out (by have := HSb4.out; simp; omega) (fun q e => by have := (HOW6.out q e).1; omega))
          have HS6 : Hid (gx + 1 ≤ w6.heap.size) := Lib.hid (by have h1 := HG6.out.size; have h2 := HSb4.out; simp at h1; omega)
          go_wp2_with fail
          go_roundw
          case rel => exact ⟨i + 1, true, _, _, rfl, rfl, hlt, by go_num, HX6, HO6, HB6, HS6, Lib.hid (HJ.out.more hlt hy), Lib.hid (by have := HLO.out; simp; omega)⟩
          case measure => simp [intOf]; omega
        | false =>
          by_cases exy : ltP x y
          · have eyx := ltP_asymm exy
            have HXY : Hid (∀ u, Calls Try.prog 73 #[.agg #[.int .i64 x.s, .int .i64 x.t, .int .i64 x.c, .int .i64 x.d, .int .u32 (vI x.a), .int .u32 (vI x.b), .int .u32 (vI x.e)], .agg #[.int .i64 y.s, .int .i64 y.t, .int .i64 y.c, .int .i64 y.d, .int .u32 (vI y.a), .int .u32 (vI y.b), .int .u32 (vI y.e)]] u fun e w' => e = .returned (.bool true) ∧ Below u.heap.size u w') := Lib.hid fun u => by
              have h := before_c x y u
              rw [show decide (ltP x y) = true from by simpa using exy] at h
              exact h
            have HYX : Hid (∀ u, Calls Try.prog 73 #[.agg #[.int .i64 y.s, .int .i64 y.t, .int .i64 y.c, .int .i64 y.d, .int .u32 (vI y.a), .int .u32 (vI y.b), .int .u32 (vI y.e)], .agg #[.int .i64 x.s, .int .i64 x.t, .int .i64 x.c, .int .i64 x.d, .int .u32 (vI x.a), .int .u32 (vI x.b), .int .u32 (vI x.e)]] u fun e w' => e = .returned (.bool false) ∧ Below u.heap.size u w') := Lib.hid fun u => by
              have h := before_c y x u
              rw [show decide (ltP y x) = false from by simpa using eyx] at h
              exact h
            go_upto_region 8 with fail
            refine wp_region_kp (by kernel_rfl) (by kernel_rfl) ?_
            repeat (first
                | go_big_quiet_skip
                | (go_big_quiet_want
                   go_big_quiet_op
                   first
                     | go_big_quiet_on
                     | (apply Exists.intro
                        refine ⟨fun w1 hC => ?_, ?_⟩
                        · first
                            | (go_at_call 73; with_reducible exact hC.call (HXY.out _))
                            | (go_simp; exact ⟨rfl, rfl⟩)
                            | (obtain ⟨b0, b1, b2, b3, b4, b5, b6⟩ := (show Box _ gx x from hC.blk HXR.out).cells; go_simp; exact rfl)
                            | (obtain ⟨d0, d1, d2, d3, d4, d5, d6⟩ := HAY.out.keep (hC.block g HAY.out.lt); go_simp; exact rfl)
                        go_big_quiet_on)))
            refine wpQuiet_nil ?_
            intro W1 hC
            have HX1 : Hid (Box W1 gx x) := Lib.hid (hC.blk HXR.out)
            have HA1 : Hid (At7 W1 g (o + i * 7) y) := Lib.hid (HAY.out.keep (hC.block g HAY.out.lt))
            have HO1 := Lib.hid (HO.out.below hC)
            have HB1 := Lib.hid (HB.out.trans (hC.mono (by have := HS.out; omega)))
            have HS1 : Hid (gx + 1 ≤ W1.heap.size) := Lib.hid (Nat.le_trans HS.out hC.size)
            clear hC HXR HAY HO HB HS
            obtain ⟨b0, b1, b2, b3, b4, b5, b6⟩ := HX1.out.cells
            go_upto_region 11 with (first
              | (at_builtin; refine wpList_append_E (by rfl) _ _ (by rfl) (gx + 1) vo O O.length rfl (by rfl) (HO1.out.below ((Below.refl _ _).alloc (Nat.le_refl _) _)) W1.heap.size x (by rfl) (Blk.new _ _ _) (by have := HLO.out; omega) (by have := HS1.out; simp; omega) ?_; intro g2 cap2 w2 h1 h2 h3; have HO2 := Lib.hid h1; have HG2 := Lib.hid h2; clear h1 h2 h3))
            have HOW := Lib.hid (fun q e => (World.ownsRow.lt HO1.out q e))
            have HX2 : Hid (Box w2 gx x) := Lib.hid ((HG2.out.block gx (by have := HX1.out.lt; simp; omega) (fun e => by have := (HOW.out gx e.symm).1; omega)).trans (Blk.alloc HX1.out _))
            have HA2 : Hid (At7 w2 g (o + i * 7) y) := Lib.hid (HA1.out.keep ((HG2.out.block g (by have := HA1.out.lt; simp; omega) (fun e => by have := (HOW.out g e.symm).1; have := HGG.out; omega)).trans (World.heap_alloc_lt HA1.out.lt)))
            have HB2 := Lib.hid ((HB1.out.alloc (by have := HS1.out; omega) (.cells #[.int .i64 x.s, .int .i64 x.t, .int .i64 x.c, .int .i64 x.d, .int .u32 (vI x.a), .int .u32 (vI x.b), .int .u32 (vI x.e)] 61)).grown HG2.out (by have := HS1.out; simp; omega) (fun q e => by have := (HOW.out q e).1; omega))
            have HS2 : Hid (gx + 1 ≤ w2.heap.size) := Lib.hid (by have h1 := HG2.out.size; have h2 := HS1.out; simp at h1; omega)
            clear b0 b1 b2 b3 b4 b5 b6 HX1 HA1 HO1 HB1 HS1 HG2 HOW
            obtain ⟨d0, d1, d2, d3, d4, d5, d6⟩ := HA2.out
            have HY3 := Lib.hid (Blk.new w2 61 #[.int .i64 y.s, .int .i64 y.t, .int .i64 y.c, .int .i64 y.d, .int .u32 (vI y.a), .int .u32 (vI y.b), .int .u32 (vI y.e)])
            have HX3 := Lib.hid (HX2.out.alloc (.cells #[.int .i64 y.s, .int .i64 y.t, .int .i64 y.c, .int .i64 y.d, .int .u32 (vI y.a), .int .u32 (vI y.b), .int .u32 (vI y.e)] 61))
            have HO3 := Lib.hid (HO2.out.below ((Below.refl _ w2).alloc (Nat.le_refl _) (.cells #[.int .i64 y.s, .int .i64 y.t, .int .i64 y.c, .int .i64 y.d, .int .u32 (vI y.a), .int .u32 (vI y.b), .int .u32 (vI y.e)] 61)))
            have HB3 := Lib.hid (HB2.out.alloc (by have := HS2.out; omega) (.cells #[.int .i64 y.s, .int .i64 y.t, .int .i64 y.c, .int .i64 y.d, .int .u32 (vI y.a), .int .u32 (vI y.b), .int .u32 (vI y.e)] 61))
            have HS3 : Hid (gx + 1 ≤ w2.heap.size) := HS2
            have HS4 : Hid (gx + 1 ≤ (w2.alloc (.cells #[.int .i64 y.s, .int .i64 y.t, .int .i64 y.c, .int .i64 y.d, .int .u32 (vI y.a), .int .u32 (vI y.b), .int .u32 (vI y.e)] 61)).heap.size) := Lib.hid (by have := HS2.out; simp; omega)
            go_upto_region 12 with fail
            clear d0 d1 d2 d3 d4 d5 d6 HX2 HA2 HO2 HB2
            generalize w2.alloc (.cells #[.int .i64 y.s, .int .i64 y.t, .int .i64 y.c, .int .i64 y.d, .int .u32 (vI y.a), .int .u32 (vI y.b), .int .u32 (vI y.e)] 61) = W3 at *
            generalize w2.heap.size = gy at *
            obtain ⟨k0, k1, k2, k3, k4, k5, k6⟩ := (show Box W3 gx x from HX3.out).cells
            obtain ⟨l0, l1, l2, l3, l4, l5, l6⟩ := (show Box W3 gy y from HY3.out).cells
            go_wp2_with (first
              | (go_at_call 73; first
                | ((with_reducible refine (HYX.out _).mono ?_); rintro e W5 ⟨rfl, hb5⟩; have HX5 := Lib.hid (Blk.keep HX4.out hb5); have HY5 := Lib.hid (Blk.keep HY4.out hb5); have HO5 := Lib.hid (HO4.out.below hb5); have HB5 := Lib.hid (HB4.out.trans (hb5.mono (by have := HSb4.out; omega))); have HS5 : Hid (gx + 1 ≤ W5.heap.size) := Lib.hid (Nat.le_trans HSb4.out hb5.size); obtain ⟨s0, s1, s2, s3, s4, s5, s6⟩ := (show Box W5 gx x from HX5.out).cells; obtain ⟨t0, t1, t2, t3, t4, t5, t6⟩ := (show Box W5 gy y from HY5.out).cells; have fz := fun k => HY5.out.frozen k; clear hb5)
                | ((with_reducible refine (HXY.out _).mono ?_); rintro e W4 ⟨rfl, hb4⟩; have HX4 := Lib.hid (Blk.keep HX3.out hb4); have HY4 := Lib.hid (Blk.keep HY3.out hb4); have HO4 := Lib.hid (HO3.out.below hb4); have HB4 := Lib.hid (HB3.out.trans (hb4.mono (by have := HS4.out; omega))); have HSb4 : Hid (gx + 1 ≤ W4.heap.size) := Lib.hid (Nat.le_trans HS4.out hb4.size); obtain ⟨m0, m1, m2, m3, m4, m5, m6⟩ := (show Box W4 gx x from HX4.out).cells; obtain ⟨n0, n1, n2, n3, n4, n5, n6⟩ := (show Box W4 gy y from HY4.out).cells; clear hb4))
              | (at_builtin; refine wpList_append_E (by rfl) _ _ (by rfl) (gx + 1) (.slice (some ⟨g2, 0, none⟩) (O.length + 1) cap2) (O ++ [x]) (O ++ [x]).length rfl (by rfl) (HO4.out.below ((Below.refl _ _).alloc (Nat.le_refl _) _)) W4.heap.size y (by rfl) (Blk.new _ _ _) (by have := HLO.out; simp; omega) (by have := HSb4.out; simp; omega) ?_; intro g6 cap6 w6 h1 h2 h3; have HO6 := Lib.hid h1; have HG6 := Lib.hid h2; clear h1 h2 h3))
            have HOW6 := Lib.hid (fun q e => (World.ownsRow.lt HO4.out q e))
            have HX6 : Hid (Box w6 gx x) := Lib.hid ((HG6.out.block gx (by have := HX4.out.lt; simp; omega) (fun e => by have := (HOW6.out gx e.symm).1; omega)).trans (Blk.alloc HX4.out _))
            have HB6 := Lib.hid ((HB4.out.alloc (by have := HSb4.out; omega) (.cells #[.int .i64 y.s, .int .i64 y.t, .int .i64 y.c, .int .i64 y.d, .int .u32 (vI y.a), .int .u32 (vI y.b), .int .u32 (vI y.e)] 61)).grown HG6.out (by have := HSb4.out; simp; omega) (fun q e => by have := (HOW6.out q e).1; omega))
            have HS6 : Hid (gx + 1 ≤ w6.heap.size) := Lib.hid (by have h1 := HG6.out.size; have h2 := HSb4.out; simp at h1; omega)
            go_wp2_with fail
            go_roundw
            case rel => exact ⟨i + 1, true, _, _, rfl, rfl, hlt, by go_num, HX6, Lib.hid (by have h := HO6.out; rw [List.length_append] at h; exact h), HB6, HS6, Lib.hid (HJ.out.gt hlt hy HST.out exy), Lib.hid (by have := HLO.out; simp; omega)⟩
            case measure => simp [intOf]; omega
          · by_cases eyx : ltP y x
            · skip
              have HXY : Hid (∀ u, Calls Try.prog 73 #[.agg #[.int .i64 x.s, .int .i64 x.t, .int .i64 x.c, .int .i64 x.d, .int .u32 (vI x.a), .int .u32 (vI x.b), .int .u32 (vI x.e)], .agg #[.int .i64 y.s, .int .i64 y.t, .int .i64 y.c, .int .i64 y.d, .int .u32 (vI y.a), .int .u32 (vI y.b), .int .u32 (vI y.e)]] u fun e w' => e = .returned (.bool false) ∧ Below u.heap.size u w') := Lib.hid fun u => by
                have h := before_c x y u
                rw [show decide (ltP x y) = false from by simpa using exy] at h
                exact h
              have HYX : Hid (∀ u, Calls Try.prog 73 #[.agg #[.int .i64 y.s, .int .i64 y.t, .int .i64 y.c, .int .i64 y.d, .int .u32 (vI y.a), .int .u32 (vI y.b), .int .u32 (vI y.e)], .agg #[.int .i64 x.s, .int .i64 x.t, .int .i64 x.c, .int .i64 x.d, .int .u32 (vI x.a), .int .u32 (vI x.b), .int .u32 (vI x.e)]] u fun e w' => e = .returned (.bool true) ∧ Below u.heap.size u w') := Lib.hid fun u => by
                have h := before_c y x u
                rw [show decide (ltP y x) = true from by simpa using eyx] at h
                exact h
              go_upto_region 8 with fail
              refine wp_region_kp (by kernel_rfl) (by kernel_rfl) ?_
              repeat (first
                  | go_big_quiet_skip
                  | (go_big_quiet_want
                     go_big_quiet_op
                     first
                       | go_big_quiet_on
                       | (apply Exists.intro
                          refine ⟨fun w1 hC => ?_, ?_⟩
                          · first
                              | (go_at_call 73; with_reducible exact hC.call (HXY.out _))
                              | (go_simp; exact ⟨rfl, rfl⟩)
                              | (obtain ⟨b0, b1, b2, b3, b4, b5, b6⟩ := (show Box _ gx x from hC.blk HXR.out).cells; go_simp; exact rfl)
                              | (obtain ⟨d0, d1, d2, d3, d4, d5, d6⟩ := HAY.out.keep (hC.block g HAY.out.lt); go_simp; exact rfl)
                          go_big_quiet_on)))
              refine wpQuiet_nil ?_
              intro W1 hC
              have HX1 : Hid (Box W1 gx x) := Lib.hid (hC.blk HXR.out)
              have HA1 : Hid (At7 W1 g (o + i * 7) y) := Lib.hid (HAY.out.keep (hC.block g HAY.out.lt))
              have HO1 := Lib.hid (HO.out.below hC)
              have HB1 := Lib.hid (HB.out.trans (hC.mono (by have := HS.out; omega)))
              have HS1 : Hid (gx + 1 ≤ W1.heap.size) := Lib.hid (Nat.le_trans HS.out hC.size)
              clear hC HXR HAY HO HB HS
              obtain ⟨d0, d1, d2, d3, d4, d5, d6⟩ := HA1.out
              have HY3 := Lib.hid (Blk.new W1 61 #[.int .i64 y.s, .int .i64 y.t, .int .i64 y.c, .int .i64 y.d, .int .u32 (vI y.a), .int .u32 (vI y.b), .int .u32 (vI y.e)])
              have HX3 := Lib.hid (HX1.out.alloc (.cells #[.int .i64 y.s, .int .i64 y.t, .int .i64 y.c, .int .i64 y.d, .int .u32 (vI y.a), .int .u32 (vI y.b), .int .u32 (vI y.e)] 61))
              have HO3 := Lib.hid (HO1.out.below ((Below.refl _ W1).alloc (Nat.le_refl _) (.cells #[.int .i64 y.s, .int .i64 y.t, .int .i64 y.c, .int .i64 y.d, .int .u32 (vI y.a), .int .u32 (vI y.b), .int .u32 (vI y.e)] 61)))
              have HB3 := Lib.hid (HB1.out.alloc (by have := HS1.out; omega) (.cells #[.int .i64 y.s, .int .i64 y.t, .int .i64 y.c, .int .i64 y.d, .int .u32 (vI y.a), .int .u32 (vI y.b), .int .u32 (vI y.e)] 61))
              have HS3 : Hid (gx + 1 ≤ W1.heap.size) := HS1
              have HS4 : Hid (gx + 1 ≤ (W1.alloc (.cells #[.int .i64 y.s, .int .i64 y.t, .int .i64 y.c, .int .i64 y.d, .int .u32 (vI y.a), .int .u32 (vI y.b), .int .u32 (vI y.e)] 61)).heap.size) := Lib.hid (by have := HS1.out; simp; omega)
              go_upto_region 12 with fail
              clear d0 d1 d2 d3 d4 d5 d6 HX1 HA1 HO1 HB1
              generalize W1.alloc (.cells #[.int .i64 y.s, .int .i64 y.t, .int .i64 y.c, .int .i64 y.d, .int .u32 (vI y.a), .int .u32 (vI y.b), .int .u32 (vI y.e)] 61) = W3 at *
              generalize W1.heap.size = gy at *
              obtain ⟨k0, k1, k2, k3, k4, k5, k6⟩ := (show Box W3 gx x from HX3.out).cells
              obtain ⟨l0, l1, l2, l3, l4, l5, l6⟩ := (show Box W3 gy y from HY3.out).cells
              go_wp2_with (first
                | (go_at_call 73; first
                  | ((with_reducible refine (HYX.out _).mono ?_); rintro e W5 ⟨rfl, hb5⟩; have HX5 := Lib.hid (Blk.keep HX4.out hb5); have HY5 := Lib.hid (Blk.keep HY4.out hb5); have HO5 := Lib.hid (HO4.out.below hb5); have HB5 := Lib.hid (HB4.out.trans (hb5.mono (by have := HSb4.out; omega))); have HS5 : Hid (gx + 1 ≤ W5.heap.size) := Lib.hid (Nat.le_trans HSb4.out hb5.size); obtain ⟨s0, s1, s2, s3, s4, s5, s6⟩ := (show Box W5 gx x from HX5.out).cells; obtain ⟨t0, t1, t2, t3, t4, t5, t6⟩ := (show Box W5 gy y from HY5.out).cells; have fz := fun k => HY5.out.frozen k; clear hb5)
                  | ((with_reducible refine (HXY.out _).mono ?_); rintro e W4 ⟨rfl, hb4⟩; have HX4 := Lib.hid (Blk.keep HX3.out hb4); have HY4 := Lib.hid (Blk.keep HY3.out hb4); have HO4 := Lib.hid (HO3.out.below hb4); have HB4 := Lib.hid (HB3.out.trans (hb4.mono (by have := HS4.out; omega))); have HSb4 : Hid (gx + 1 ≤ W4.heap.size) := Lib.hid (Nat.le_trans HS4.out hb4.size); obtain ⟨m0, m1, m2, m3, m4, m5, m6⟩ := (show Box W4 gx x from HX4.out).cells; obtain ⟨n0, n1, n2, n3, n4, n5, n6⟩ := (show Box W4 gy y from HY4.out).cells; clear hb4))
                | (at_builtin; refine wpList_append_E (by rfl) _ _ (by rfl) (gx + 1) vo O O.length rfl (by rfl) (HO5.out.below ((Below.refl _ _).alloc (Nat.le_refl _) _)) W5.heap.size y (by rfl) (Blk.new _ _ _) (by have := HLO.out; omega) (by have := HS5.out; simp; omega) ?_; intro g6 cap6 w6 h1 h2 h3; have HO6 := Lib.hid h1; have HG6 := Lib.hid h2; clear h1 h2 h3))
              have HOW6 := Lib.hid (fun q e => (World.ownsRow.lt HO5.out q e))
              have HX6 : Hid (Box w6 gx x) := Lib.hid ((HG6.out.block gx (by have := HX5.out.lt; simp; omega) (fun e => by have := (HOW6.out gx e.symm).1; omega)).trans (Blk.alloc HX5.out _))
              have HB6 := Lib.hid ((HB5.out.alloc (by have := HS5.out; omega) (.cells #[.int .i64 y.s, .int .i64 y.t, .int .i64 y.c, .int .i64 y.d, .int .u32 (vI y.a), .int .u32 (vI y.b), .int .u32 (vI y.e)] 61)).grown HG6.out (by have := HS5.out; simp; omega) (fun q e => by have := (HOW6.out q e).1; omega))
              have HS6 : Hid (gx + 1 ≤ w6.heap.size) := Lib.hid (by have h1 := HG6.out.size; have h2 := HS5.out; simp at h1; omega)
              go_wp2_with fail
              go_roundw
              case rel => exact ⟨i + 1, false, _, _, rfl, rfl, hlt, by go_num, HX6, HO6, HB6, HS6, Lib.hid (HJ.out.lt hlt hy eyx), Lib.hid (by have := HLO.out; simp; omega)⟩
              case measure => simp [intOf]; omega
            · skip
              have HXY : Hid (∀ u, Calls Try.prog 73 #[.agg #[.int .i64 x.s, .int .i64 x.t, .int .i64 x.c, .int .i64 x.d, .int .u32 (vI x.a), .int .u32 (vI x.b), .int .u32 (vI x.e)], .agg #[.int .i64 y.s, .int .i64 y.t, .int .i64 y.c, .int .i64 y.d, .int .u32 (vI y.a), .int .u32 (vI y.b), .int .u32 (vI y.e)]] u fun e w' => e = .returned (.bool false) ∧ Below u.heap.size u w') := Lib.hid fun u => by
                have h := before_c x y u
                rw [show decide (ltP x y) = false from by simpa using exy] at h
                exact h
              have HYX : Hid (∀ u, Calls Try.prog 73 #[.agg #[.int .i64 y.s, .int .i64 y.t, .int .i64 y.c, .int .i64 y.d, .int .u32 (vI y.a), .int .u32 (vI y.b), .int .u32 (vI y.e)], .agg #[.int .i64 x.s, .int .i64 x.t, .int .i64 x.c, .int .i64 x.d, .int .u32 (vI x.a), .int .u32 (vI x.b), .int .u32 (vI x.e)]] u fun e w' => e = .returned (.bool false) ∧ Below u.heap.size u w') := Lib.hid fun u => by
                have h := before_c y x u
                rw [show decide (ltP y x) = false from by simpa using eyx] at h
                exact h
              go_upto_region 8 with fail
              refine wp_region_kp (by kernel_rfl) (by kernel_rfl) ?_
              repeat (first
                  | go_big_quiet_skip
                  | (go_big_quiet_want
                     go_big_quiet_op
                     first
                       | go_big_quiet_on
                       | (apply Exists.intro
                          refine ⟨fun w1 hC => ?_, ?_⟩
                          · first
                              | (go_at_call 73; with_reducible exact hC.call (HXY.out _))
                              | (go_simp; exact ⟨rfl, rfl⟩)
                              | (obtain ⟨b0, b1, b2, b3, b4, b5, b6⟩ := (show Box _ gx x from hC.blk HXR.out).cells; go_simp; exact rfl)
                              | (obtain ⟨d0, d1, d2, d3, d4, d5, d6⟩ := HAY.out.keep (hC.block g HAY.out.lt); go_simp; exact rfl)
                          go_big_quiet_on)))
              refine wpQuiet_nil ?_
              intro W1 hC
              have HX1 : Hid (Box W1 gx x) := Lib.hid (hC.blk HXR.out)
              have HA1 : Hid (At7 W1 g (o + i * 7) y) := Lib.hid (HAY.out.keep (hC.block g HAY.out.lt))
              have HO1 := Lib.hid (HO.out.below hC)
              have HB1 := Lib.hid (HB.out.trans (hC.mono (by have := HS.out; omega)))
              have HS1 : Hid (gx + 1 ≤ W1.heap.size) := Lib.hid (Nat.le_trans HS.out hC.size)
              clear hC HXR HAY HO HB HS
              obtain ⟨d0, d1, d2, d3, d4, d5, d6⟩ := HA1.out
              have HY3 := Lib.hid (Blk.new W1 61 #[.int .i64 y.s, .int .i64 y.t, .int .i64 y.c, .int .i64 y.d, .int .u32 (vI y.a), .int .u32 (vI y.b), .int .u32 (vI y.e)])
              have HX3 := Lib.hid (HX1.out.alloc (.cells #[.int .i64 y.s, .int .i64 y.t, .int .i64 y.c, .int .i64 y.d, .int .u32 (vI y.a), .int .u32 (vI y.b), .int .u32 (vI y.e)] 61))
              have HO3 := Lib.hid (HO1.out.below ((Below.refl _ W1).alloc (Nat.le_refl _) (.cells #[.int .i64 y.s, .int .i64 y.t, .int .i64 y.c, .int .i64 y.d, .int .u32 (vI y.a), .int .u32 (vI y.b), .int .u32 (vI y.e)] 61)))
              have HB3 := Lib.hid (HB1.out.alloc (by have := HS1.out; omega) (.cells #[.int .i64 y.s, .int .i64 y.t, .int .i64 y.c, .int .i64 y.d, .int .u32 (vI y.a), .int .u32 (vI y.b), .int .u32 (vI y.e)] 61))
              have HO3b := HO1
              have HS3 : Hid (gx + 1 ≤ W1.heap.size) := HS1
              have HOG : Hid (∀ q, vo.ownBlock = some q → gx + 1 ≤ q ∧ q < W1.heap.size) := Lib.hid fun q e => World.ownsRow.lt HO3b.out q e
              have HS4 : Hid (gx + 1 ≤ (W1.alloc (.cells #[.int .i64 y.s, .int .i64 y.t, .int .i64 y.c, .int .i64 y.d, .int .u32 (vI y.a), .int .u32 (vI y.b), .int .u32 (vI y.e)] 61)).heap.size) := Lib.hid (by have := HS1.out; simp; omega)
              go_upto_region 12 with fail
              clear d0 d1 d2 d3 d4 d5 d6 HX1 HA1 HO1 HB1
              generalize W1.alloc (.cells #[.int .i64 y.s, .int .i64 y.t, .int .i64 y.c, .int .i64 y.d, .int .u32 (vI y.a), .int .u32 (vI y.b), .int .u32 (vI y.e)] 61) = W3 at *
              generalize W1.heap.size = gy at *
              obtain ⟨k0, k1, k2, k3, k4, k5, k6⟩ := (show Box W3 gx x from HX3.out).cells
              obtain ⟨l0, l1, l2, l3, l4, l5, l6⟩ := (show Box W3 gy y from HY3.out).cells
              have hyx : gy ≠ gx := by have := HS3.out; omega
              have ho1 := vI_or y.a x.a
              have ho2 := vI_or y.b x.b
              have ho3 := vI_or y.e x.e
              go_upto_region 17 with (go_at_call 73; first
                | ((with_reducible refine (HYX.out _).mono ?_); rintro e W5 ⟨rfl, hb5⟩; have HX5 := Lib.hid (Blk.keep HX4.out hb5); have HY5 := Lib.hid (Blk.keep HY4.out hb5); have HO5 := Lib.hid (HO4.out.below hb5); have HB5 := Lib.hid (HB4.out.trans (hb5.mono (by have := HSb4.out; omega))); have HS5 : Hid (gx + 1 ≤ W5.heap.size) := Lib.hid (Nat.le_trans HSb4.out hb5.size); obtain ⟨s0, s1, s2, s3, s4, s5, s6⟩ := (show Box W5 gx x from HX5.out).cells; obtain ⟨t0, t1, t2, t3, t4, t5, t6⟩ := (show Box W5 gy y from HY5.out).cells; have fz := fun k => HY5.out.frozen k; clear hb5)
                | ((with_reducible refine (HXY.out _).mono ?_); rintro e W4 ⟨rfl, hb4⟩; have HX4 := Lib.hid (Blk.keep HX3.out hb4); have HY4 := Lib.hid (Blk.keep HY3.out hb4); have HO4 := Lib.hid (HO3.out.below hb4); have HB4 := Lib.hid (HB3.out.trans (hb4.mono (by have := HS4.out; omega))); have HSb4 : Hid (gx + 1 ≤ W4.heap.size) := Lib.hid (Nat.le_trans HS4.out hb4.size); obtain ⟨m0, m1, m2, m3, m4, m5, m6⟩ := (show Box W4 gx x from HX4.out).cells; obtain ⟨n0, n1, n2, n3, n4, n5, n6⟩ := (show Box W4 gy y from HY4.out).cells; clear hb4))
              have HVA : Hid (OwnE (((W5.setCell ⟨gy, 4, none⟩ (.int .u32 (vI (y.a ||| x.a)))).setCell ⟨gy, 5, none⟩ (.int .u32 (vI (y.b ||| x.b)))).setCell ⟨gy, 6, none⟩ (.int .u32 (vI (y.e ||| x.e)))) (gx + 1) vo O) := Lib.hid (by
                have hne : ∀ u, vo.ownBlock = none ∨ vo.ownBlock ≠ some (⟨gy, u, none⟩ : Addr).block := fun u => by
                  cases hv : vo.ownBlock with
                  | none => exact .inl rfl
                  | some q => exact .inr fun e => by have h1 := (HOG.out q hv).2; have h2 : q = gy := Option.some.inj e; omega
                exact ((HO5.out.kept (grownSet _ _ _) (hne 4)).kept (grownSet _ _ _) (hne 5)).kept (grownSet _ _ _) (hne 6))
              have HVX : Hid (Box (((W5.setCell ⟨gy, 4, none⟩ (.int .u32 (vI (y.a ||| x.a)))).setCell ⟨gy, 5, none⟩ (.int .u32 (vI (y.b ||| x.b)))).setCell ⟨gy, 6, none⟩ (.int .u32 (vI (y.e ||| x.e)))) gx x) := Lib.hid (((Blk.far HX5.out (p := ⟨gy, 4, none⟩) (fun e => hyx e.symm) _).far (p := ⟨gy, 5, none⟩) (fun e => hyx e.symm) _).far (p := ⟨gy, 6, none⟩) (fun e => hyx e.symm) _)
              have HVY : Hid (Box (((W5.setCell ⟨gy, 4, none⟩ (.int .u32 (vI (y.a ||| x.a)))).setCell ⟨gy, 5, none⟩ (.int .u32 (vI (y.b ||| x.b)))).setCell ⟨gy, 6, none⟩ (.int .u32 (vI (y.e ||| x.e)))) gy (orE y x)) := Lib.hid (((HY5.out.set 4 (.int .u32 (vI (y.a ||| x.a)))).set 5 (.int .u32 (vI (y.b ||| x.b)))).set 6 (.int .u32 (vI (y.e ||| x.e))))
              have HVB : Hid (Below gx w (((W5.setCell ⟨gy, 4, none⟩ (.int .u32 (vI (y.a ||| x.a)))).setCell ⟨gy, 5, none⟩ (.int .u32 (vI (y.b ||| x.b)))).setCell ⟨gy, 6, none⟩ (.int .u32 (vI (y.e ||| x.e))))) := Lib.hid (by
                have hgy : gx ≤ gy := by have := HS3.out; omega
                exact ((HB5.out.setCell (p := ⟨gy, 4, none⟩) hgy _).setCell (p := ⟨gy, 5, none⟩) hgy _).setCell (p := ⟨gy, 6, none⟩) hgy _)
              have HVS : Hid (gx + 1 ≤ (((W5.setCell ⟨gy, 4, none⟩ (.int .u32 (vI (y.a ||| x.a)))).setCell ⟨gy, 5, none⟩ (.int .u32 (vI (y.b ||| x.b)))).setCell ⟨gy, 6, none⟩ (.int .u32 (vI (y.e ||| x.e)))).heap.size) := Lib.hid (by have := HS5.out; simpa [World.setCell] using this)
              clear s0 s1 s2 s3 s4 s5 s6 t0 t1 t2 t3 t4 t5 t6 fz m0 m1 m2 m3 m4 m5 m6 n0 n1 n2 n3 n4 n5 n6 k0 k1 k2 k3 k4 k5 k6 l0 l1 l2 l3 l4 l5 l6
              generalize (((W5.setCell ⟨gy, 4, none⟩ (.int .u32 (vI (y.a ||| x.a)))).setCell ⟨gy, 5, none⟩ (.int .u32 (vI (y.b ||| x.b)))).setCell ⟨gy, 6, none⟩ (.int .u32 (vI (y.e ||| x.e)))) = V at *
              obtain ⟨z, hz⟩ : ∃ z, orE y x = z := ⟨_, rfl⟩
              have HJE := Lib.hid (HJ.out.eq hlt hy HST.out exy eyx)
              rw [hz] at HVY HJE
              obtain ⟨r0, r1, r2, r3, r4, r5, r6⟩ := HVY.out.cells
              clear hz
              go_wp2_with (at_builtin; refine wpList_append_E (by rfl) _ _ (by rfl) (gx + 1) vo O O.length rfl (by rfl) (HVA.out.below ((Below.refl _ _).alloc (Nat.le_refl _) _)) V.heap.size z (by rfl) (Blk.new _ _ _) (by have := HLO.out; omega) (by have := HVS.out; simp; omega) ?_; intro g6 cap6 w6 h1 h2 h3; have HO6 := Lib.hid h1; have HG6 := Lib.hid h2; clear h1 h2 h3)
              have HOW6 := Lib.hid (fun q e => (World.ownsRow.lt HVA.out q e))
              have HX6 : Hid (Box w6 gx x) := Lib.hid ((HG6.out.block gx (by have := HVX.out.lt; simp; omega) (fun e => by have := (HOW6.out gx e.symm).1; omega)).trans (Blk.alloc HVX.out _))
              have HB6 := Lib.hid ((HVB.out.alloc (by have := HVS.out; omega) (.cells #[.int .i64 z.s, .int .i64 z.t, .int .i64 z.c, .int .i64 z.d, .int .u32 (vI z.a), .int .u32 (vI z.b), .int .u32 (vI z.e)] 61)).grown HG6.out (by have := HVS.out; simp; omega) (fun q e => by have := (HOW6.out q e).1; omega))
              have HS6 : Hid (gx + 1 ≤ w6.heap.size) := Lib.hid (by have h1 := HG6.out.size; have h2 := HVS.out; simp at h1; omega)
              go_wp2_with fail
              go_roundw
              case rel => exact ⟨i + 1, true, _, _, rfl, rfl, hlt, by go_num, HX6, HO6, HB6, HS6, HJE, Lib.hid (by have := HLO.out; simp; omega)⟩
              case measure => simp [intOf]; omega
      · have hiL : i = L.length := by omega
        have hlt' : ¬ (i : Int) < (L.length : Int) := by omega
        cases d with
        | true =>
          have HEE : Hid (O = ins L x) := Lib.hid (by have := HJ.out; rw [hiL] at this; exact this.end_t)
          go_wp2_with fail
          go_ret
          exact ⟨_, rfl, by rw [HIN.out, ← HEE.out]; exact HO.out.ents, by first | exact HB.out | (rw [hgx]; exact HB.out)⟩
        | false =>
          have HEE : Hid (O ++ [x] = ins L x) := Lib.hid (by have := HJ.out; rw [hiL] at this; exact this.end_f)
          obtain ⟨b0, b1, b2, b3, b4, b5, b6⟩ := HXR.out.cells
          have HOW := Lib.hid (fun q e => (World.ownsRow.lt HO.out q e))
          go_wp2_with (at_builtin; refine wpList_append_E (by rfl) _ _ (by rfl) (gx + 1) vo O O.length rfl (by rfl) (HO.out.below ((Below.refl _ _).alloc (Nat.le_refl _) _)) wr.heap.size x (by rfl) (Blk.new _ _ _) (by have := HLO.out; omega) (by have := HS.out; simp; omega) ?_; intro g1 cap1 w1 h1 h2 h3; have H1 := Lib.hid h1; have H2 := Lib.hid h2; clear h1 h2 h3)
          go_ret
          exact ⟨_, rfl, by rw [HIN.out, ← HEE.out]; exact H1.out.ents, by first | exact (HB.out.alloc (by have := HS.out; omega) _).grown H2.out (by have := HS.out; simp; omega) (fun q e => by have := (HOW.out q e).1; omega) | (rw [hgx]; exact (HB.out.alloc (by have := HS.out; omega) _).grown H2.out (by have := HS.out; simp; omega) (fun q e => by have := (HOW.out q e).1; omega))⟩
end Go.Proofs.Ytjikbffnhfoikaa
namespace Go.Proofs.Ytjikbffnhfoikaa
open Go.RowKit Go.Sort Go.Maps
/-- the targets of a source in the entries for a rule -/
def rtg (L : List E) (r : Ru) (s : Int) : S4 := L.foldl (fun S x => if (decide (x.s = s) && fitB x r) = true then withS x.t S else S) S4.zero
theorem rtg_snoc (L : List E) (x : E) (r : Ru) (s : Int) : rtg (L ++ [x]) r s = if (decide (x.s = s) && fitB x r) = true then withS x.t (rtg L r s) else rtg L r s := by
  unfold rtg
  rw [List.foldl_append]
  rfl
theorem rwithS_c (n : Int) (S : S4) (w : World) : Calls Try.prog 52 #[.agg #[.int .u64 S.a, .int .u64 S.b, .int .u64 S.c, .int .u64 S.d], .int .i64 n] w fun e w' => e = .returned (.agg #[.int .u64 (withS n S).a, .int .u64 (withS n S).b, .int .u64 (withS n S).c, .int .u64 (withS n S).d]) ∧ Below w.heap.size w w' := rwith_c S.a S.b S.c S.d n w
set_option maxRecDepth 100000 in
set_option maxHeartbeats 16000000 in
theorem rtargets_c (v : Value) (L : List E) (r : Ru) (s : Int) (hl : L.length ≤ 100000) (w : World) (hE : Ents w v L) :
    Calls Try.prog 50 #[v, .agg #[.int .i64 r.k, .int .u64 r.src.a, .int .u64 r.src.b, .int .u64 r.src.c, .int .u64 r.src.d, .int .u64 r.tgt.a, .int .u64 r.tgt.b, .int .u64 r.tgt.c, .int .u64 r.tgt.d, .bool r.self, .int .i64 r.cl, .int .u32 (vI r.pm), .int .i64 r.cd], .int .i64 s] w fun e w' => e = .returned (.agg #[.int .u64 (rtg L r s).a, .int .u64 (rtg L r s).b, .int .u64 (rtg L r s).c, .int .u64 (rtg L r s).d]) ∧ Below w.heap.size w w' := by
  have HEO := Lib.hid hE.at
  obtain ⟨ao, cap, rfl, hcap, -⟩ := hE
  have hlI : (L.length : Int) ≤ 100000 := by omega
  have hb0 : Below w.heap.size w (((w.alloc (.cells #[.int .i64 r.k, .int .u64 r.src.a, .int .u64 r.src.b, .int .u64 r.src.c, .int .u64 r.src.d, .int .u64 r.tgt.a, .int .u64 r.tgt.b, .int .u64 r.tgt.c, .int .u64 r.tgt.d, .bool r.self, .int .i64 r.cl, .int .u32 (vI r.pm), .int .i64 r.cd] 27)).alloc (.cells #[.int .u64 0, .int .u64 0, .int .u64 0, .int .u64 0] 24)).alloc (.cells #[.int .u64 0, .int .u64 0, .int .u64 0, .int .u64 0] 24)) := below_a3
  have HB0 := Lib.hid hb0
  have HX0 : Hid (BoxR (((w.alloc (.cells #[.int .i64 r.k, .int .u64 r.src.a, .int .u64 r.src.b, .int .u64 r.src.c, .int .u64 r.src.d, .int .u64 r.tgt.a, .int .u64 r.tgt.b, .int .u64 r.tgt.c, .int .u64 r.tgt.d, .bool r.self, .int .i64 r.cl, .int .u32 (vI r.pm), .int .i64 r.cd] 27)).alloc (.cells #[.int .u64 0, .int .u64 0, .int .u64 0, .int .u64 0] 24)).alloc (.cells #[.int .u64 0, .int .u64 0, .int .u64 0, .int .u64 0] 24)) w.heap.size r) := Lib.hid (((Blk.new w _ _).alloc _).alloc _)
  have HZ0 : Hid (Quad (((w.alloc (.cells #[.int .i64 r.k, .int .u64 r.src.a, .int .u64 r.src.b, .int .u64 r.src.c, .int .u64 r.src.d, .int .u64 r.tgt.a, .int .u64 r.tgt.b, .int .u64 r.tgt.c, .int .u64 r.tgt.d, .bool r.self, .int .i64 r.cl, .int .u32 (vI r.pm), .int .i64 r.cd] 27)).alloc (.cells #[.int .u64 0, .int .u64 0, .int .u64 0, .int .u64 0] 24)).alloc (.cells #[.int .u64 0, .int .u64 0, .int .u64 0, .int .u64 0] 24)) (w.heap.size + 1) 0 0 0 0) := Lib.hid (by
    have h := Quad.new (w.alloc (.cells #[.int .i64 r.k, .int .u64 r.src.a, .int .u64 r.src.b, .int .u64 r.src.c, .int .u64 r.src.d, .int .u64 r.tgt.a, .int .u64 r.tgt.b, .int .u64 r.tgt.c, .int .u64 r.tgt.d, .bool r.self, .int .i64 r.cl, .int .u32 (vI r.pm), .int .i64 r.cd] 27)) 0 0 0 0
    rw [World.size_alloc] at h
    exact h.alloc _)
  have HS0 : Hid (Quad (((w.alloc (.cells #[.int .i64 r.k, .int .u64 r.src.a, .int .u64 r.src.b, .int .u64 r.src.c, .int .u64 r.src.d, .int .u64 r.tgt.a, .int .u64 r.tgt.b, .int .u64 r.tgt.c, .int .u64 r.tgt.d, .bool r.self, .int .i64 r.cl, .int .u32 (vI r.pm), .int .i64 r.cd] 27)).alloc (.cells #[.int .u64 0, .int .u64 0, .int .u64 0, .int .u64 0] 24)).alloc (.cells #[.int .u64 0, .int .u64 0, .int .u64 0, .int .u64 0] 24)) (w.heap.size + 1 + 1) 0 0 0 0) := Lib.hid (by
    have h := Quad.new ((w.alloc (.cells #[.int .i64 r.k, .int .u64 r.src.a, .int .u64 r.src.b, .int .u64 r.src.c, .int .u64 r.src.d, .int .u64 r.tgt.a, .int .u64 r.tgt.b, .int .u64 r.tgt.c, .int .u64 r.tgt.d, .bool r.self, .int .i64 r.cl, .int .u32 (vI r.pm), .int .i64 r.cd] 27)).alloc (.cells #[.int .u64 0, .int .u64 0, .int .u64 0, .int .u64 0] 24)) 0 0 0 0
    rw [World.size_alloc, World.size_alloc] at h
    exact h)
  clear hb0
  go_enter Try.func50, Try.ntmps50
  go_upto_region 3 with fail
  generalize (((w.alloc (.cells #[.int .i64 r.k, .int .u64 r.src.a, .int .u64 r.src.b, .int .u64 r.src.c, .int .u64 r.src.d, .int .u64 r.tgt.a, .int .u64 r.tgt.b, .int .u64 r.tgt.c, .int .u64 r.tgt.d, .bool r.self, .int .i64 r.cl, .int .u32 (vI r.pm), .int .i64 r.cd] 27)).alloc (.cells #[.int .u64 0, .int .u64 0, .int .u64 0, .int .u64 0] 24)).alloc (.cells #[.int .u64 0, .int .u64 0, .int .u64 0, .int .u64 0] 24)) = W at *
  generalize hgx : w.heap.size = gx at *
  go_wp2_with fail
  go_loopw [8] (fun v8 wr => ∃ i : Nat, i ≤ L.length ∧ v8 = .int .i64 i ∧ Hid (BoxR wr gx r) ∧ Hid (Quad wr (gx + 1) 0 0 0 0) ∧ Hid (Quad wr (gx + 1 + 1) (rtg (L.take i) r s).a (rtg (L.take i) r s).b (rtg (L.take i) r s).c (rtg (L.take i) r s).d) ∧ Hid (Below gx w wr)) (fun v8 _ => L.length - (intOf v8).toNat)
  case atStart => exact ⟨0, Nat.zero_le _, rfl, HX0, HZ0, HS0, HB0⟩
  case round =>
    obtain ⟨i, hi, rfl, HX, HZ, HS, HB⟩ := hrel
    have HEW : Hid (EntB wr gx (.slice ao L.length cap) L) := Lib.hid (HEO.out.keep HB.out)
    by_cases hlt : i < L.length
    · have hlt' : (i : Int) < (L.length : Int) := by omega
      obtain ⟨y, hy⟩ : ∃ y, L[i] = y := ⟨_, rfl⟩
      obtain ⟨ao', cap', e, _, hr⟩ := HEW.out
      obtain ⟨g, o, hao, hg, hR⟩ := hr (by rintro rfl; simp at hlt)
      simp only [Value.slice.injEq] at e
      obtain ⟨rfl, -, rfl⟩ := e
      subst hao
      have hA := hR.at hlt
      rw [hy] at hA
      have HAY := Lib.hid hA
      have HGG : Hid (g < gx) := Lib.hid hg
      have HG : Hid (rtg (L.take (i + 1)) r s = if (decide (y.s = s) && fitB y r) = true then withS y.t (rtg (L.take i) r s) else rtg (L.take i) r s) := Lib.hid (by rw [List.take_succ_eq_append_getElem hlt, hy, rtg_snoc])
      have HFT : Hid (∀ u, Calls Try.prog 51 #[.agg #[.int .i64 y.s, .int .i64 y.t, .int .i64 y.c, .int .i64 y.d, .int .u32 (vI y.a), .int .u32 (vI y.b), .int .u32 (vI y.e)], .agg #[.int .i64 r.k, .int .u64 r.src.a, .int .u64 r.src.b, .int .u64 r.src.c, .int .u64 r.src.d, .int .u64 r.tgt.a, .int .u64 r.tgt.b, .int .u64 r.tgt.c, .int .u64 r.tgt.d, .bool r.self, .int .i64 r.cl, .int .u32 (vI r.pm), .int .i64 r.cd]] u fun e w' => e = .returned (.bool (fitB y r)) ∧ Below u.heap.size u w') := Lib.hid fun u => fits_c y r u
      clear hR hr hA hg HEW hy
      by_cases hs : y.s = s
      · have hsb : (y.s == s) = true := by simpa using hs
        rw [decide_eq_true hs, Bool.true_and] at HG
        clear hs
        obtain ⟨fb, hfb⟩ : ∃ fb, fitB y r = fb := ⟨_, rfl⟩
        rw [hfb] at HFT HG
        clear hfb
        cases fb with
        | true =>
          rw [if_pos rfl] at HG
          go_upto_region 5 with fail
          refine wp_region_kp (by kernel_rfl) (by kernel_rfl) ?_
          repeat (first
              | go_big_quiet_skip
              | (go_big_quiet_want
                 go_big_quiet_op
                 first
                   | go_big_quiet_on
                   | (apply Exists.intro
                      refine ⟨fun w1 hC => ?_, ?_⟩
                      · first
                          | (go_at_call 51; with_reducible exact hC.call (HFT.out _))
                          | (go_simp; exact ⟨rfl, rfl⟩)
                          | (obtain ⟨y0, y1, y2, y3, y4, y5, y6, y7, y8, y9, y10, y11, y12⟩ := BoxR.cells (show BoxR _ gx r from hC.blk HX.out); go_simp; exact rfl)
                          | (obtain ⟨d0, d1, d2, d3, d4, d5, d6⟩ := HAY.out.keep (hC.block g HAY.out.lt); go_simp; exact rfl)
                      go_big_quiet_on)))
          refine wpQuiet_nil ?_
          intro W1 hC
          have HX1 : Hid (BoxR W1 gx r) := Lib.hid (hC.blk HX.out)
          have HZ1 : Hid (Quad W1 (gx + 1) 0 0 0 0) := Lib.hid (Quad.below HZ.out hC HZ.out.lt)
          have HS1 := Lib.hid (Quad.below HS.out hC HS.out.lt)
          have HB1 : Hid (Below gx w W1) := Lib.hid (HB.out.trans (hC.mono (by have := HZ.out.lt; omega)))
          have HA1 : Hid (At7 W1 g (o + i * 7) y) := Lib.hid (HAY.out.keep (hC.block g HAY.out.lt))
          clear hC HX HZ HS HB HAY
          go_upto_region 6 with fail
          generalize hT : rtg (L.take i) r s = T at *
          clear hT
          refine wp_region_kt 7 (by kernel_rfl) (by kernel_rfl) ?_
          simp only [List.take_succ_cons, List.take_zero, List.drop_succ_cons, List.drop_zero]
          repeat (first
              | go_big_quiet_skip
              | (go_big_quiet_want
                 go_big_quiet_op
                 first
                   | go_big_quiet_on
                   | (apply Exists.intro
                      refine ⟨fun w1 hC => ?_, ?_⟩
                      · first
                          | (go_at_call 52; with_reducible exact hC.call (rwithS_c y.t T _))
                          | (go_simp; exact ⟨rfl, rfl⟩)
                          | (obtain ⟨c0, c1, c2, c3, _⟩ := (Quad.below HS1.out hC HS1.out.lt).facts; go_simp; exact rfl)
                          | (obtain ⟨d0, d1, d2, d3, d4, d5, d6⟩ := HA1.out.keep (hC.block g HA1.out.lt); go_simp; exact rfl)
                      go_big_quiet_on)))
          refine wpQuiet_nil ?_
          intro W2 hC
          have HX2 : Hid (BoxR W2 gx r) := Lib.hid (hC.blk HX1.out)
          have HZ2 : Hid (Quad W2 (gx + 1) 0 0 0 0) := Lib.hid (Quad.below HZ1.out hC HZ1.out.lt)
          have HS2 := Lib.hid (Quad.below HS1.out hC HS1.out.lt)
          have HB2 : Hid (Below gx w W2) := Lib.hid (HB1.out.trans (hC.mono (by have := HZ1.out.lt; omega)))
          obtain ⟨c0, c1, c2, c3, f0, f1, f2, f3⟩ := HS2.out.facts
          have hlt2 := HS2.out.lt
          clear hC HX1 HZ1 HS1 HB1 HA1
          generalize hU : withS y.t T = U at *
          go_wp2_with fail
          go_roundw
          case rel => exact ⟨i + 1, hlt, by go_num, Lib.hid ((((Blk.far HX2.out (p := ⟨gx + 1 + 1, 0, none⟩) (by simp; omega) _).far (p := ⟨gx + 1 + 1, 1, none⟩) (by simp; omega) _).far (p := ⟨gx + 1 + 1, 2, none⟩) (by simp; omega) _).far (p := ⟨gx + 1 + 1, 3, none⟩) (by simp; omega) _), Lib.hid (HZ2.out.far4 (by omega)), Lib.hid (by rw [HG.out]; exact HS2.out.set4 _ _ _ _), Lib.hid (below_set4 HB2.out (by omega) _ _ _ _)⟩
          case measure => simp [intOf]; omega
        | false =>
          rw [if_neg (by simp)] at HG
          go_upto_region 5 with fail
          refine wp_region_kp (by kernel_rfl) (by kernel_rfl) ?_
          repeat (first
              | go_big_quiet_skip
              | (go_big_quiet_want
                 go_big_quiet_op
                 first
                   | go_big_quiet_on
                   | (apply Exists.intro
                      refine ⟨fun w1 hC => ?_, ?_⟩
                      · first
                          | (go_at_call 51; with_reducible exact hC.call (HFT.out _))
                          | (go_simp; exact ⟨rfl, rfl⟩)
                          | (obtain ⟨y0, y1, y2, y3, y4, y5, y6, y7, y8, y9, y10, y11, y12⟩ := BoxR.cells (show BoxR _ gx r from hC.blk HX.out); go_simp; exact rfl)
                          | (obtain ⟨d0, d1, d2, d3, d4, d5, d6⟩ := HAY.out.keep (hC.block g HAY.out.lt); go_simp; exact rfl)
                      go_big_quiet_on)))
          refine wpQuiet_nil ?_
          intro W1 hC
          have HX1 : Hid (BoxR W1 gx r) := Lib.hid (hC.blk HX.out)
          have HZ1 : Hid (Quad W1 (gx + 1) 0 0 0 0) := Lib.hid (Quad.below HZ.out hC HZ.out.lt)
          have HS1 := Lib.hid (Quad.below HS.out hC HS.out.lt)
          have HB1 : Hid (Below gx w W1) := Lib.hid (HB.out.trans (hC.mono (by have := HZ.out.lt; omega)))
          have HA1 : Hid (At7 W1 g (o + i * 7) y) := Lib.hid (HAY.out.keep (hC.block g HAY.out.lt))
          clear hC HX HZ HS HB HAY
          go_wp2_with fail
          go_roundw
          case rel => exact ⟨i + 1, hlt, by go_num, HX1, HZ1, Lib.hid (by rw [HG.out]; exact HS1.out), HB1⟩
          case measure => simp [intOf]; omega
      · have hsb : (y.s == s) = false := by simpa using hs
        rw [decide_eq_false hs, Bool.false_and, if_neg (by simp)] at HG
        clear hs
        go_upto_region 5 with fail
        refine wp_region_kp (by kernel_rfl) (by kernel_rfl) ?_
        repeat (first
            | go_big_quiet_skip
            | (go_big_quiet_want
               go_big_quiet_op
               first
                 | go_big_quiet_on
                 | (apply Exists.intro
                    refine ⟨fun w1 hC => ?_, ?_⟩
                    · first
                        | (go_at_call 51; with_reducible exact hC.call (HFT.out _))
                        | (go_simp; exact ⟨rfl, rfl⟩)
                        | (obtain ⟨y0, y1, y2, y3, y4, y5, y6, y7, y8, y9, y10, y11, y12⟩ := BoxR.cells (show BoxR _ gx r from hC.blk HX.out); go_simp; exact rfl)
                        | (obtain ⟨d0, d1, d2, d3, d4, d5, d6⟩ := HAY.out.keep (hC.block g HAY.out.lt); go_simp; exact rfl)
                    go_big_quiet_on)))
        refine wpQuiet_nil ?_
        intro W1 hC
        have HX1 : Hid (BoxR W1 gx r) := Lib.hid (hC.blk HX.out)
        have HZ1 : Hid (Quad W1 (gx + 1) 0 0 0 0) := Lib.hid (Quad.below HZ.out hC HZ.out.lt)
        have HS1 := Lib.hid (Quad.below HS.out hC HS.out.lt)
        have HB1 : Hid (Below gx w W1) := Lib.hid (HB.out.trans (hC.mono (by have := HZ.out.lt; omega)))
        have HA1 : Hid (At7 W1 g (o + i * 7) y) := Lib.hid (HAY.out.keep (hC.block g HAY.out.lt))
        clear hC HX HZ HS HB HAY
        go_wp2_with fail
        go_roundw
        case rel => exact ⟨i + 1, hlt, by go_num, HX1, HZ1, Lib.hid (by rw [HG.out]; exact HS1.out), HB1⟩
        case measure => simp [intOf]; omega
    · have hiL : i = L.length := by omega
      have hlt' : ¬ (i : Int) < (L.length : Int) := by omega
      have HT : Hid (rtg (L.take i) r s = rtg L r s) := Lib.hid (by rw [hiL, List.take_length])
      obtain ⟨c0, c1, c2, c3, _⟩ := HS.out.facts
      obtain ⟨d0, d1, d2, d3, f0, f1, f2, f3⟩ := HZ.out.facts
      go_wp2_with fail
      exact bodyPost_ret (v := .agg #[.int .u64 (rtg L r s).a, .int .u64 (rtg L r s).b, .int .u64 (rtg L r s).c, .int .u64 (rtg L r s).d]) (set_ret Try.results50 rfl (by rw [← HT.out]; exact HZ.out.set4 _ _ _ _)) rfl ⟨rfl, by first | exact below_set4 HB.out (by omega) _ _ _ _ | (rw [hgx]; exact below_set4 HB.out (by omega) _ _ _ _)⟩
end Go.Proofs.Ytjikbffnhfoikaa
namespace Go.Proofs.Ytjikbffnhfoikaa
open Go.RowKit Go.Sort Go.Maps
theorem wp_append_Ru {w : World} {o : Oper} {a : Act} {K : Act → World → Prop} {Q : Exit → Act → World → Prop} (s x : Operand)
    (ho : o.op = .call { callee := .builtin .append, args := #[s, x], argTypes := #[41, 41] }) (B : Nat) (v : Value) (L : List Ru) (N : Nat) (hN : L.length = N) (hs : a.eval s = v) (hown : OwnR w B v L)
    (g : Nat) (y : Ru) (hx : a.eval x = .slice (some ⟨g, 0, none⟩) 1 1) (hy : BoxR w g y) (hl : N ≤ 1000000) (hb : B ≤ w.heap.size)
    (h : ∀ g' cap w', OwnR w' B (.slice (some ⟨g', 0, none⟩) (N + 1) cap) (L ++ [y]) → w.grownBy w' v.ownBlock → (v.ownBlock = some g' ∨ g' = w.heap.size) → K (a.put o.dst (.slice (some ⟨g', 0, none⟩) (N + 1) cap)) w') : o.wp Try.prog a w K Q := by
  subst hN
  obtain ⟨i0, hinf, hz0, hz1, hz2⟩ := info_parts infoR
  refine wp_append_lies w s x 41 ho B 27 i0 _ 13 104 Try.underlying41 hinf hz0 hz1 hz2 rfl (by decide) v L.length (L.flatMap cellsR) hs hown ⟨g, 0, none⟩ 1 1 (cellsR y) hx rfl
    (World.news_of_block hy) (cellsR_one y) (by decide) (by unfold maxLen; omega) (by omega) hb _ rfl ?_
  intro g' cap w' h1 h2 h3 _
  refine h g' cap w' ?_ h2 h3
  unfold OwnR
  rw [List.length_append, List.flatMap_append]
  simpa using h1
end Go.Proofs.Ytjikbffnhfoikaa
namespace Go.Proofs.Ytjikbffnhfoikaa
open Go.RowKit Go.Sort Go.Maps
set_option maxRecDepth 100000 in
set_option maxHeartbeats 32000000 in
theorem rinsert_c (v : Value) (L : List Ru) (r : Ru) (hl : L.length ≤ 100000) (w : World) (hE : Rus w v L) :
    Calls Try.prog 53 #[v, .agg #[.int .i64 r.k, .int .u64 r.src.a, .int .u64 r.src.b, .int .u64 r.src.c, .int .u64 r.src.d, .int .u64 r.tgt.a, .int .u64 r.tgt.b, .int .u64 r.tgt.c, .int .u64 r.tgt.d, .bool r.self, .int .i64 r.cl, .int .u32 (vI r.pm), .int .i64 r.cd]] w fun e w' => ∃ v', e = .returned v' ∧ Rus w' v' (insR L r) ∧ Below w.heap.size w w' := by
  have hb0 : Below w.heap.size w (w.alloc (.cells #[.int .i64 r.k, .int .u64 r.src.a, .int .u64 r.src.b, .int .u64 r.src.c, .int .u64 r.src.d, .int .u64 r.tgt.a, .int .u64 r.tgt.b, .int .u64 r.tgt.c, .int .u64 r.tgt.d, .bool r.self, .int .i64 r.cl, .int .u32 (vI r.pm), .int .i64 r.cd] 27)) := (Below.refl _ _).alloc (Nat.le_refl _) _
  have HX0 : Hid (BoxR (w.alloc (.cells #[.int .i64 r.k, .int .u64 r.src.a, .int .u64 r.src.b, .int .u64 r.src.c, .int .u64 r.src.d, .int .u64 r.tgt.a, .int .u64 r.tgt.b, .int .u64 r.tgt.c, .int .u64 r.tgt.d, .bool r.self, .int .i64 r.cl, .int .u32 (vI r.pm), .int .i64 r.cd] 27)) w.heap.size r) := Lib.hid (Blk.new w _ _)
  have HB0 := Lib.hid hb0
  have HS0 : Hid (w.heap.size + 1 ≤ (w.alloc (.cells #[.int .i64 r.k, .int .u64 r.src.a, .int .u64 r.src.b, .int .u64 r.src.c, .int .u64 r.src.d, .int .u64 r.tgt.a, .int .u64 r.tgt.b, .int .u64 r.tgt.c, .int .u64 r.tgt.d, .bool r.self, .int .i64 r.cl, .int .u32 (vI r.pm), .int .i64 r.cd] 27)).heap.size) := Lib.hid (by simp)
  have HEO := Lib.hid hE
  obtain ⟨ao, cap, rfl, hcap, hr0⟩ := hE
  have HRB : Hid (L ≠ [] → ∃ g o, ao = some ⟨g, o, none⟩ ∧ g < w.heap.size ∧ RowR w g o L) := Lib.hid fun h => by
    obtain ⟨g, o, e, hR⟩ := hr0 h
    exact ⟨g, o, e, hR.lt h, hR⟩
  have hlI : (L.length : Int) ≤ 100000 := by omega
  clear hb0 hr0 hcap
  go_enter Try.func53, Try.ntmps53
  go_upto_region 1 with fail
  generalize (w.alloc (.cells #[.int .i64 r.k, .int .u64 r.src.a, .int .u64 r.src.b, .int .u64 r.src.c, .int .u64 r.src.d, .int .u64 r.tgt.a, .int .u64 r.tgt.b, .int .u64 r.tgt.c, .int .u64 r.tgt.d, .bool r.self, .int .i64 r.cl, .int .u32 (vI r.pm), .int .i64 r.cd] 27)) = W at *
  generalize hgx : w.heap.size = gx at *
  go_wp2_with fail
  go_loopw [5, 6, 7] (fun v5 v6 v7 wr => ∃ (i : Nat) (d : Bool) (O : List Ru) (vo : Value), vo = v5 ∧ v6 = .bool d ∧ i ≤ L.length ∧ v7 = .int .i64 i ∧ Hid (BoxR wr gx r) ∧ Hid (OwnR wr (gx + 1) vo O) ∧ Hid (Below gx w wr) ∧ Hid (gx + 1 ≤ wr.heap.size) ∧ Hid (O = putI (L.take i) r ∧ anyR (L.take i) r = d ∧ r ∉ L.take i) ∧ Hid (O.length ≤ 2 * i)) (fun _ _ v7 _ => L.length - (intOf v7).toNat)
  case atStart => exact ⟨0, false, [], _, rfl, rfl, Nat.zero_le _, rfl, HX0, Lib.hid (OwnR.nil _ _), HB0, HS0, Lib.hid ⟨rfl, rfl, by simp⟩, Lib.hid (Nat.le_refl _)⟩
  case round =>
    obtain ⟨i, d, O, vo, rfl, rfl, hi, rfl, HXr, HOr, HBr, HSr, HJ, HLO⟩ := hrel
    by_cases hlt : i < L.length
    · have hlt' : (i : Int) < (L.length : Int) := by omega
      obtain ⟨y, hy⟩ : ∃ y, L[i] = y := ⟨_, rfl⟩
      obtain ⟨g, o, hao, hg, hR⟩ := HRB.out (by rintro rfl; simp at hlt)
      subst hao
      have hA := (hR.keep (HBr.out.block g hg)).at hlt
      rw [hy] at hA
      have HAr := Lib.hid hA
      have HGG : Hid (g < gx) := Lib.hid hg
      have HYE := Lib.hid hy
      clear hR hA hg hy
      by_cases ey : r = y
      · subst ey
        have heq := fun u => eqlSR r u
        have HIN : Hid (insR L r = L) := Lib.hid (by unfold insR; rw [if_pos (by rw [← HYE.out]; exact List.getElem_mem hlt)])
        go_upto_region 6 with fail
        refine wp_region_kp (by kernel_rfl) (by kernel_rfl) ?_
        repeat (first
            | go_big_quiet_skip
            | (go_big_quiet_want
               go_big_quiet_op
               first
                 | go_big_quiet_on
                 | (apply Exists.intro
                    refine ⟨fun w1 hC => ?_, ?_⟩
                    · first
                        | (go_simp; exact ⟨rfl, rfl⟩)
                        | (obtain ⟨b0, b1, b2, b3, b4, b5, b6, b7, b8, b9, b10, b11, b12⟩ := BoxR.cells (show BoxR _ gx r from hC.blk HXr.out); go_simp; exact rfl)
                        | (obtain ⟨d0, d1, d2, d3, d4, d5, d6, d7, d8, d9, d10, d11, d12⟩ := (HAr.out.keep (hC.block g HAr.out.lt)).facts; go_simp; exact rfl)
                    go_big_quiet_on)))
        refine wpQuiet_nil ?_
        intro W1 hC
        have HB1 := Lib.hid (HBr.out.trans (hC.mono (by have := HSr.out; omega)))
        clear hC
        go_wp2_with fail
        go_ret
        exact ⟨_, rfl, by rw [HIN.out]; exact HEO.out.keep (by rw [hgx]; exact HB1.out), by first | exact HB1.out | (rw [hgx]; exact HB1.out)⟩
      · have heq := fun u => eqlDR y r (Ne.symm ey) u
        go_upto_region 6 with fail
        refine wp_region_kp (by kernel_rfl) (by kernel_rfl) ?_
        repeat (first
            | go_big_quiet_skip
            | (go_big_quiet_want
               go_big_quiet_op
               first
                 | go_big_quiet_on
                 | (apply Exists.intro
                    refine ⟨fun w1 hC => ?_, ?_⟩
                    · first
                        | (go_simp; exact ⟨rfl, rfl⟩)
                        | (obtain ⟨b0, b1, b2, b3, b4, b5, b6, b7, b8, b9, b10, b11, b12⟩ := BoxR.cells (show BoxR _ gx r from hC.blk HXr.out); go_simp; exact rfl)
                        | (obtain ⟨d0, d1, d2, d3, d4, d5, d6, d7, d8, d9, d10, d11, d12⟩ := (HAr.out.keep (hC.block g HAr.out.lt)).facts; go_simp; exact rfl)
                    go_big_quiet_on)))
        refine wpQuiet_nil ?_
        intro W1 hC
        have HX1 : Hid (BoxR W1 gx r) := Lib.hid (hC.blk HXr.out)
        have HA1 : Hid (AtR W1 g (o + i * 13) y) := Lib.hid (HAr.out.keep (hC.block g HAr.out.lt))
        have HO1 := Lib.hid (HOr.out.below hC)
        have HB1 := Lib.hid (HBr.out.trans (hC.mono (by have := HSr.out; omega)))
        have HS1 : Hid (gx + 1 ≤ W1.heap.size) := Lib.hid (Nat.le_trans HSr.out hC.size)
        clear hC HXr HAr HOr HBr HSr
        have HNI : Hid (r ∉ L.take (i + 1)) := Lib.hid (by
          have hy1 : L.take (i + 1) = L.take i ++ [y] := by rw [List.take_succ_eq_append_getElem hlt, HYE.out]
          rw [hy1, List.mem_append, List.mem_singleton]
          rintro (h | h)
          · exact HJ.out.2.2 h
          · exact ey h)
        cases d with
        | true =>
          go_upto_region 8 with fail
          refine wp_region_kp (by kernel_rfl) (by kernel_rfl) ?_
          repeat (first
              | go_big_quiet_skip
              | (go_big_quiet_want
                 go_big_quiet_op
                 first
                   | go_big_quiet_on
                   | (apply Exists.intro
                      refine ⟨fun w1 hC => ?_, ?_⟩
                      · first
                          | (go_simp; exact ⟨rfl, rfl⟩)
                          | (obtain ⟨b0, b1, b2, b3, b4, b5, b6, b7, b8, b9, b10, b11, b12⟩ := BoxR.cells (show BoxR _ gx r from hC.blk HX1.out); go_simp; exact rfl)
                          | (obtain ⟨d0, d1, d2, d3, d4, d5, d6, d7, d8, d9, d10, d11, d12⟩ := (HA1.out.keep (hC.block g HA1.out.lt)).facts; go_simp; exact rfl)
                      go_big_quiet_on)))
          refine wpQuiet_nil ?_
          intro W2 hC
          have HX2 : Hid (BoxR W2 gx r) := Lib.hid (hC.blk HX1.out)
          have HA2 : Hid (AtR W2 g (o + i * 13) y) := Lib.hid (HA1.out.keep (hC.block g HA1.out.lt))
          have HO2 := Lib.hid (HO1.out.below hC)
          have HB2 := Lib.hid (HB1.out.trans (hC.mono (by have := HS1.out; omega)))
          have HS2 : Hid (gx + 1 ≤ W2.heap.size) := Lib.hid (Nat.le_trans HS1.out hC.size)
          clear hC HX1 HA1 HO1 HB1 HS1
          have HJ2 : Hid (O ++ [y] = putI (L.take (i + 1)) r ∧ anyR (L.take (i + 1)) r = true ∧ r ∉ L.take (i + 1)) := Lib.hid (by
            have hy1 : L.take (i + 1) = L.take i ++ [y] := by rw [List.take_succ_eq_append_getElem hlt, HYE.out]
            refine ⟨?_, ?_, HNI.out⟩
            · rw [hy1, putI_more HJ.out.2.1, HJ.out.1]
            · rw [hy1, anyR_snoc, HJ.out.2.1]; rfl)
          obtain ⟨d0, d1, d2, d3, d4, d5, d6, d7, d8, d9, d10, d11, d12⟩ := HA2.out.facts
          have HOW3 := Lib.hid (fun q e => (HO2.out.own q e))
          go_wp2_with (at_builtin; refine wpList_append_Ru (by rfl) _ _ (by rfl) (gx + 1) vo O (O).length rfl (by rfl) (HO2.out.below ((Below.refl _ _).alloc (Nat.le_refl _) _)) W2.heap.size y (by rfl) (Blk.new _ _ _) (by have := HLO.out; simp; omega) (by have := HS2.out; simp; omega) ?_; intro g3 cap3 W3 h1 h2 h3; have HO3 := Lib.hid h1; have HG3 := Lib.hid h2; clear h1 h2 h3)
          have HX3 : Hid (BoxR W3 gx r) := Lib.hid ((HG3.out.block gx (by have := HX2.out.lt; simp; omega) (fun e => by have := (HOW3.out gx e.symm).1; omega)).trans (Blk.alloc HX2.out _))
          have HB3 := Lib.hid ((HB2.out.alloc (by have := HS2.out; omega) (.cells #[.int .i64 y.k, .int .u64 y.src.a, .int .u64 y.src.b, .int .u64 y.src.c, .int .u64 y.src.d, .int .u64 y.tgt.a, .int .u64 y.tgt.b, .int .u64 y.tgt.c, .int .u64 y.tgt.d, .bool y.self, .int .i64 y.cl, .int .u32 (vI y.pm), .int .i64 y.cd] 27)).grown HG3.out (by have := HS2.out; simp; omega) (fun q e => by have := (HOW3.out q e).1; omega))
          have HS3 : Hid (gx + 1 ≤ W3.heap.size) := Lib.hid (by have h1 := HG3.out.size; have h2 := HS2.out; simp at h1; omega)
          go_wp2_with fail
          go_roundw
          case rel => exact ⟨i + 1, true, _, _, rfl, rfl, hlt, by go_num, HX3, HO3, HB3, HS3, HJ2, Lib.hid (by have := HLO.out; simp; omega)⟩
          case measure => simp [intOf]; omega
        | false =>
          have HLS : Hid (∀ u, Calls Try.prog 74 #[.agg #[.int .i64 r.k, .int .u64 r.src.a, .int .u64 r.src.b, .int .u64 r.src.c, .int .u64 r.src.d, .int .u64 r.tgt.a, .int .u64 r.tgt.b, .int .u64 r.tgt.c, .int .u64 r.tgt.d, .bool r.self, .int .i64 r.cl, .int .u32 (vI r.pm), .int .i64 r.cd], .agg #[.int .i64 y.k, .int .u64 y.src.a, .int .u64 y.src.b, .int .u64 y.src.c, .int .u64 y.src.d, .int .u64 y.tgt.a, .int .u64 y.tgt.b, .int .u64 y.tgt.c, .int .u64 y.tgt.d, .bool y.self, .int .i64 y.cl, .int .u32 (vI y.pm), .int .i64 y.cd]] u fun e w' => e = .returned (.bool (decide (ltR r y))) ∧ Below u.heap.size u w') := Lib.hid fun u => less_c r y u
          by_cases hly : ltR r y
          · rw [decide_eq_true hly] at HLS
            go_upto_region 8 with fail
            refine wp_region_kp (by kernel_rfl) (by kernel_rfl) ?_
            repeat (first
                | go_big_quiet_skip
                | (go_big_quiet_want
                   go_big_quiet_op
                   first
                     | go_big_quiet_on
                     | (apply Exists.intro
                        refine ⟨fun w1 hC => ?_, ?_⟩
                        · first
                            | (go_at_call 74; with_reducible exact hC.call (HLS.out _))
                            | (go_simp; exact ⟨rfl, rfl⟩)
                            | (obtain ⟨b0, b1, b2, b3, b4, b5, b6, b7, b8, b9, b10, b11, b12⟩ := BoxR.cells (show BoxR _ gx r from hC.blk HX1.out); go_simp; exact rfl)
                            | (obtain ⟨d0, d1, d2, d3, d4, d5, d6, d7, d8, d9, d10, d11, d12⟩ := (HA1.out.keep (hC.block g HA1.out.lt)).facts; go_simp; exact rfl)
                        go_big_quiet_on)))
            refine wpQuiet_nil ?_
            intro W2 hC
            have HX2 : Hid (BoxR W2 gx r) := Lib.hid (hC.blk HX1.out)
            have HA2 : Hid (AtR W2 g (o + i * 13) y) := Lib.hid (HA1.out.keep (hC.block g HA1.out.lt))
            have HO2 := Lib.hid (HO1.out.below hC)
            have HB2 := Lib.hid (HB1.out.trans (hC.mono (by have := HS1.out; omega)))
            have HS2 : Hid (gx + 1 ≤ W2.heap.size) := Lib.hid (Nat.le_trans HS1.out hC.size)
            clear hC HX1 HA1 HO1 HB1 HS1
            have HJ2 : Hid ((O ++ [r]) ++ [y] = putI (L.take (i + 1)) r ∧ anyR (L.take (i + 1)) r = true ∧ r ∉ L.take (i + 1)) := Lib.hid (by
              have hy1 : L.take (i + 1) = L.take i ++ [y] := by rw [List.take_succ_eq_append_getElem hlt, HYE.out]
              refine ⟨?_, ?_, HNI.out⟩
              · rw [hy1, putI_here HJ.out.2.1 hly, HJ.out.1]
              · rw [hy1, anyR_snoc, decide_eq_true hly, Bool.or_true])
            obtain ⟨b0, b1, b2, b3, b4, b5, b6, b7, b8, b9, b10, b11, b12⟩ := BoxR.cells (show BoxR W2 gx r from HX2.out)
            have HOW3 := Lib.hid (fun q e => (HO2.out.own q e))
            go_upto_region 11 with (at_builtin; refine wpList_append_Ru (by rfl) _ _ (by rfl) (gx + 1) vo O (O).length rfl (by rfl) (HO2.out.below ((Below.refl _ _).alloc (Nat.le_refl _) _)) W2.heap.size r (by rfl) (Blk.new _ _ _) (by have := HLO.out; simp; omega) (by have := HS2.out; simp; omega) ?_; intro g3 cap3 W3 h1 h2 h3; have HO3 := Lib.hid h1; have HG3 := Lib.hid h2; clear h1 h2 h3)
            have HX3 : Hid (BoxR W3 gx r) := Lib.hid ((HG3.out.block gx (by have := HX2.out.lt; simp; omega) (fun e => by have := (HOW3.out gx e.symm).1; omega)).trans (Blk.alloc HX2.out _))
            have HA3 : Hid (AtR W3 g (o + i * 13) y) := Lib.hid (HA2.out.keep ((HG3.out.block g (by have := HA2.out.lt; simp; omega) (fun e => by have := (HOW3.out g e.symm).1; have := HGG.out; omega)).trans (World.heap_alloc_lt HA2.out.lt)))
            have HB3 := Lib.hid ((HB2.out.alloc (by have := HS2.out; omega) (.cells #[.int .i64 r.k, .int .u64 r.src.a, .int .u64 r.src.b, .int .u64 r.src.c, .int .u64 r.src.d, .int .u64 r.tgt.a, .int .u64 r.tgt.b, .int .u64 r.tgt.c, .int .u64 r.tgt.d, .bool r.self, .int .i64 r.cl, .int .u32 (vI r.pm), .int .i64 r.cd] 27)).grown HG3.out (by have := HS2.out; simp; omega) (fun q e => by have := (HOW3.out q e).1; omega))
            have HS3 : Hid (gx + 1 ≤ W3.heap.size) := Lib.hid (by have h1 := HG3.out.size; have h2 := HS2.out; simp at h1; omega)
            clear b0 b1 b2 b3 b4 b5 b6 b7 b8 b9 b10 b11 b12
            obtain ⟨d0, d1, d2, d3, d4, d5, d6, d7, d8, d9, d10, d11, d12⟩ := HA3.out.facts
            have HOW4 := Lib.hid (fun q e => (HO3.out.own q e))
            go_wp2_with (at_builtin; refine wpList_append_Ru (by rfl) _ _ (by rfl) (gx + 1) (.slice (some ⟨g3, 0, none⟩) (O.length + 1) cap3) (O ++ [r]) (O.length + 1) (by simp) (by rfl) (HO3.out.below ((Below.refl _ _).alloc (Nat.le_refl _) _)) W3.heap.size y (by rfl) (Blk.new _ _ _) (by have := HLO.out; simp; omega) (by have := HS3.out; simp; omega) ?_; intro g4 cap4 W4 h1 h2 h3; have HO4 := Lib.hid h1; have HG4 := Lib.hid h2; clear h1 h2 h3)
            have HX4 : Hid (BoxR W4 gx r) := Lib.hid ((HG4.out.block gx (by have := HX3.out.lt; simp; omega) (fun e => by have := (HOW4.out gx e.symm).1; omega)).trans (Blk.alloc HX3.out _))
            have HB4 := Lib.hid ((HB3.out.alloc (by have := HS3.out; omega) (.cells #[.int .i64 y.k, .int .u64 y.src.a, .int .u64 y.src.b, .int .u64 y.src.c, .int .u64 y.src.d, .int .u64 y.tgt.a, .int .u64 y.tgt.b, .int .u64 y.tgt.c, .int .u64 y.tgt.d, .bool y.self, .int .i64 y.cl, .int .u32 (vI y.pm), .int .i64 y.cd] 27)).grown HG4.out (by have := HS3.out; simp; omega) (fun q e => by have := (HOW4.out q e).1; omega))
            have HS4 : Hid (gx + 1 ≤ W4.heap.size) := Lib.hid (by have h1 := HG4.out.size; have h2 := HS3.out; simp at h1; omega)
            go_wp2_with fail
            go_roundw
            case rel => exact ⟨i + 1, true, _, _, rfl, rfl, hlt, by go_num, HX4, HO4, HB4, HS4, HJ2, Lib.hid (by have := HLO.out; simp; omega)⟩
            case measure => simp [intOf]; omega
          · rw [decide_eq_false hly] at HLS
            go_upto_region 8 with fail
            refine wp_region_kp (by kernel_rfl) (by kernel_rfl) ?_
            repeat (first
                | go_big_quiet_skip
                | (go_big_quiet_want
                   go_big_quiet_op
                   first
                     | go_big_quiet_on
                     | (apply Exists.intro
                        refine ⟨fun w1 hC => ?_, ?_⟩
                        · first
                            | (go_at_call 74; with_reducible exact hC.call (HLS.out _))
                            | (go_simp; exact ⟨rfl, rfl⟩)
                            | (obtain ⟨b0, b1, b2, b3, b4, b5, b6, b7, b8, b9, b10, b11, b12⟩ := BoxR.cells (show BoxR _ gx r from hC.blk HX1.out); go_simp; exact rfl)
                            | (obtain ⟨d0, d1, d2, d3, d4, d5, d6, d7, d8, d9, d10, d11, d12⟩ := (HA1.out.keep (hC.block g HA1.out.lt)).facts; go_simp; exact rfl)
                        go_big_quiet_on)))
            refine wpQuiet_nil ?_
            intro W2 hC
            have HX2 : Hid (BoxR W2 gx r) := Lib.hid (hC.blk HX1.out)
            have HA2 : Hid (AtR W2 g (o + i * 13) y) := Lib.hid (HA1.out.keep (hC.block g HA1.out.lt))
            have HO2 := Lib.hid (HO1.out.below hC)
            have HB2 := Lib.hid (HB1.out.trans (hC.mono (by have := HS1.out; omega)))
            have HS2 : Hid (gx + 1 ≤ W2.heap.size) := Lib.hid (Nat.le_trans HS1.out hC.size)
            clear hC HX1 HA1 HO1 HB1 HS1
            have HJ2 : Hid (O ++ [y] = putI (L.take (i + 1)) r ∧ anyR (L.take (i + 1)) r = false ∧ r ∉ L.take (i + 1)) := Lib.hid (by
              have hy1 : L.take (i + 1) = L.take i ++ [y] := by rw [List.take_succ_eq_append_getElem hlt, HYE.out]
              refine ⟨?_, ?_, HNI.out⟩
              · rw [hy1, putI_not HJ.out.2.1 hly, HJ.out.1]
              · rw [hy1, anyR_snoc, HJ.out.2.1, decide_eq_false hly]; rfl)
            obtain ⟨d0, d1, d2, d3, d4, d5, d6, d7, d8, d9, d10, d11, d12⟩ := HA2.out.facts
            have HOW3 := Lib.hid (fun q e => (HO2.out.own q e))
            go_wp2_with (at_builtin; refine wpList_append_Ru (by rfl) _ _ (by rfl) (gx + 1) vo O (O).length rfl (by rfl) (HO2.out.below ((Below.refl _ _).alloc (Nat.le_refl _) _)) W2.heap.size y (by rfl) (Blk.new _ _ _) (by have := HLO.out; simp; omega) (by have := HS2.out; simp; omega) ?_; intro g3 cap3 W3 h1 h2 h3; have HO3 := Lib.hid h1; have HG3 := Lib.hid h2; clear h1 h2 h3)
            have HX3 : Hid (BoxR W3 gx r) := Lib.hid ((HG3.out.block gx (by have := HX2.out.lt; simp; omega) (fun e => by have := (HOW3.out gx e.symm).1; omega)).trans (Blk.alloc HX2.out _))
            have HB3 := Lib.hid ((HB2.out.alloc (by have := HS2.out; omega) (.cells #[.int .i64 y.k, .int .u64 y.src.a, .int .u64 y.src.b, .int .u64 y.src.c, .int .u64 y.src.d, .int .u64 y.tgt.a, .int .u64 y.tgt.b, .int .u64 y.tgt.c, .int .u64 y.tgt.d, .bool y.self, .int .i64 y.cl, .int .u32 (vI y.pm), .int .i64 y.cd] 27)).grown HG3.out (by have := HS2.out; simp; omega) (fun q e => by have := (HOW3.out q e).1; omega))
            have HS3 : Hid (gx + 1 ≤ W3.heap.size) := Lib.hid (by have h1 := HG3.out.size; have h2 := HS2.out; simp at h1; omega)
            go_wp2_with fail
            go_roundw
            case rel => exact ⟨i + 1, false, _, _, rfl, rfl, hlt, by go_num, HX3, HO3, HB3, HS3, HJ2, Lib.hid (by have := HLO.out; simp; omega)⟩
            case measure => simp [intOf]; omega
    · have hiL : i = L.length := by omega
      have hlt' : ¬ (i : Int) < (L.length : Int) := by omega
      have HNI : Hid (insR L r = putR L r) := Lib.hid (by unfold insR; rw [if_neg (by have := HJ.out.2.2; rwa [hiL, List.take_length] at this)])
      cases d with
      | true =>
        have HEE : Hid (O = putR L r) := Lib.hid (by have h := HJ.out; rw [hiL, List.take_length] at h; rw [h.1, ← putI_end L r, if_pos h.2.1])
        go_wp2_with fail
        go_ret
        exact ⟨_, rfl, by rw [HNI.out, ← HEE.out]; exact HOr.out.rus, by first | exact HBr.out | (rw [hgx]; exact HBr.out)⟩
      | false =>
        have HEE : Hid (O ++ [r] = putR L r) := Lib.hid (by have h := HJ.out; rw [hiL, List.take_length] at h; rw [h.1, ← putI_end L r, if_neg (by rw [h.2.1]; simp)])
        obtain ⟨b0, b1, b2, b3, b4, b5, b6, b7, b8, b9, b10, b11, b12⟩ := BoxR.cells (show BoxR wr gx r from HXr.out)
        have HOW := Lib.hid (fun q e => (HOr.out.own q e))
        go_wp2_with (at_builtin; refine wpList_append_Ru (by rfl) _ _ (by rfl) (gx + 1) vo O O.length rfl (by rfl) (HOr.out.below ((Below.refl _ _).alloc (Nat.le_refl _) _)) wr.heap.size r (by rfl) (Blk.new _ _ _) (by have := HLO.out; omega) (by have := HSr.out; simp; omega) ?_; intro g1 cap1 w1 h1 h2 h3; have H1 := Lib.hid h1; have H2 := Lib.hid h2; clear h1 h2 h3)
        go_ret
        exact ⟨_, rfl, by rw [HNI.out, ← HEE.out]; exact H1.out.rus, by first | exact (HBr.out.alloc (by have := HSr.out; omega) _).grown H2.out (by have := HSr.out; simp; omega) (fun q e => by have := (HOW.out q e).1; omega) | (rw [hgx]; exact (HBr.out.alloc (by have := HSr.out; omega) _).grown H2.out (by have := HSr.out; simp; omega) (fun q e => by have := (HOW.out q e).1; omega))⟩
end Go.Proofs.Ytjikbffnhfoikaa
namespace Go.Proofs.Ytjikbffnhfoikaa
open Go.RowKit Go.Sort Go.Maps
/-- the set of what f yields where q holds -/
def collG {α : Type} (q : α → Bool) (f : α → Int) (P : List α) (S : S4) : S4 := P.foldl (fun S z => if q z = true then withS (f z) S else S) S
theorem collG_U {α : Type} (q : α → Bool) (f : α → Int) : ∀ (P : List α) {S : S4}, S.U → (collG q f P S).U
  | [], _, h => h
  | z :: P, S, h => by
    show (collG q f P (if q z = true then withS (f z) S else S)).U
    refine collG_U q f P ?_
    split
    · exact withS_U _ h
    · exact h
theorem collG_snoc {α : Type} (q : α → Bool) (f : α → Int) (P : List α) (z : α) (S : S4) : collG q f (P ++ [z]) S = if q z = true then withS (f z) (collG q f P S) else collG q f P S := by
  unfold collG
  rw [List.foldl_append]
  rfl
theorem has_collG {α : Type} (q : α → Bool) (f : α → Int) : ∀ (P : List α) {S : S4}, S.U → (∀ z ∈ P, 0 ≤ f z ∧ f z < 256) → ∀ n : Int, hasS (collG q f P S) n = true ↔ hasS S n = true ∨ ∃ z ∈ P, q z = true ∧ f z = n
  | [], S, _, _, n => by
    show hasS S n = true ↔ _
    simp
  | z :: P, S, h, hr, n => by
    show hasS (collG q f P (if q z = true then withS (f z) S else S)) n = true ↔ _
    have hU : (if q z = true then withS (f z) S else S).U := by
      split
      · exact withS_U _ h
      · exact h
    rw [has_collG q f P hU (fun y hy => hr y (by simp [hy])) n]
    by_cases hq : q z = true
    · rw [if_pos hq, has_withI (hr z (by simp)) h, Bool.or_eq_true, decide_eq_true_eq]
      constructor
      · rintro ((h1 | h1) | ⟨y, hy, h2⟩)
        · exact .inl h1
        · exact .inr ⟨z, by simp, hq, h1.symm⟩
        · exact .inr ⟨y, by simp [hy], h2⟩
      · rintro (h1 | ⟨y, hy, h2⟩)
        · exact .inl (.inl h1)
        · rcases List.mem_cons.1 hy with rfl | hy
          · exact .inl (.inr h2.2.symm)
          · exact .inr ⟨y, hy, h2⟩
    · rw [if_neg hq]
      constructor
      · rintro (h1 | ⟨y, hy, h2⟩)
        · exact .inl h1
        · exact .inr ⟨y, by simp [hy], h2⟩
      · rintro (h1 | ⟨y, hy, h2⟩)
        · exact .inl h1
        · rcases List.mem_cons.1 hy with rfl | hy
          · exact absurd h2.1 hq
          · exact .inr ⟨y, hy, h2⟩
def isTT (x : E) : Bool := isT x.s && isT x.t
theorem isTT_iff {x : E} : isTT x = true ↔ isT x.s = true ∧ isT x.t = true := by unfold isTT; rw [Bool.and_eq_true]
theorem flat_filter {α β : Type} (p : α → Bool) (f : α → List β) (h : ∀ x, p x = false → f x = []) : ∀ l : List α, (l.filter p).flatMap f = l.flatMap f
  | [] => rfl
  | x :: l => by
    rw [List.filter_cons]
    by_cases e : p x = true
    · rw [if_pos e, List.flatMap_cons, List.flatMap_cons, flat_filter p f h l]
    · rw [if_neg e, List.flatMap_cons, h x (by simpa using e), List.nil_append, flat_filter p f h l]
/-- the entries with types, merged -/
def inM (L : List E) : List E := M (L.filter isTT)
theorem inM_eq (L : List E) : inM L = (M L).filter isTT := M_filter isTT (fun x y e => by unfold isTT; rw [e.1, e.2.1]) L
theorem inM_T {L : List E} {x : E} (h : x ∈ inM L) : isT x.s = true ∧ isT x.t = true := by
  rw [inM_eq, List.mem_filter] at h
  exact isTT_iff.1 h.2
theorem inM_tr (L : List E) : trL (inM L) = trL (M L) := by
  rw [inM_eq]
  refine flat_filter isTT trE (fun x h => ?_) _
  unfold trE
  rw [if_neg (by unfold isTT at h; rw [h]; simp)]
theorem inM_len (L : List E) : (inM L).length ≤ L.length := Nat.le_trans (M_len _) (List.length_filter_le _ _)
/-- the rule is one of this meaning -/
def fitsM (m : Me) (r : Ru) : Prop := r.k = m.k ∧ r.cl = m.c ∧ r.cd = m.d ∧ r.pm = m.p
theorem fit_iff {m : Me} {r : Ru} {y : E} (hr : fitsM m r) (hk : m.k = 1 ∨ m.k = 2 ∨ m.k = 3) (hp : m.p ≠ 0#32) : fitB y r = true ↔ m ∈ mgE y := by
  obtain ⟨r1, r2, r3, r4⟩ := hr
  unfold fitB
  rw [mem_mgE, r1, r2, r3, r4]
  simp only [Bool.and_eq_true, beq_iff_eq]
  have hv : (vI (vecK y m.k) = vI m.p) ↔ m.p = vecK y m.k := ⟨fun h => (vI_inj h).symm, fun h => by rw [h]⟩
  rw [hv]
  unfold vecK
  rcases hk with e | e | e
  · rw [e, if_pos rfl]
    constructor
    · rintro ⟨⟨h1, h2⟩, h3⟩; exact ⟨h1.symm, h2.symm, hp, .inl ⟨rfl, h3⟩⟩
    · rintro ⟨h1, h2, _, ⟨_, h3⟩ | ⟨h3, _⟩ | ⟨h3, _⟩⟩
      · exact ⟨⟨h1.symm, h2.symm⟩, h3⟩
      · omega
      · omega
  · rw [e, if_neg (by omega), if_pos rfl]
    constructor
    · rintro ⟨⟨h1, h2⟩, h3⟩; exact ⟨h1.symm, h2.symm, hp, .inr (.inl ⟨rfl, h3⟩)⟩
    · rintro ⟨h1, h2, _, ⟨h3, _⟩ | ⟨_, h3⟩ | ⟨h3, _⟩⟩
      · omega
      · exact ⟨⟨h1.symm, h2.symm⟩, h3⟩
      · omega
  · rw [e, if_neg (by omega), if_neg (by omega)]
    constructor
    · rintro ⟨⟨h1, h2⟩, h3⟩; exact ⟨h1.symm, h2.symm, hp, .inr (.inr ⟨rfl, h3⟩)⟩
    · rintro ⟨h1, h2, _, ⟨h3, _⟩ | ⟨h3, _⟩ | ⟨_, h3⟩⟩
      · omega
      · omega
      · exact ⟨⟨h1.symm, h2.symm⟩, h3⟩
theorem rtg_coll (L : List E) (r : Ru) (s : Int) : rtg L r s = collG (fun x => decide (x.s = s) && fitB x r) (fun x => x.t) L S4.zero := rfl
theorem rtg_U (L : List E) (r : Ru) (s : Int) : (rtg L r s).U := collG_U _ _ L U_zero
theorem rtg_same {L : List E} {r r' : Ru} (h1 : r.k = r'.k) (h2 : r.cl = r'.cl) (h3 : r.cd = r'.cd) (h4 : r.pm = r'.pm) (s : Int) : rtg L r s = rtg L r' s := by
  unfold rtg fitB
  rw [h1, h2, h3, h4]
theorem fit_same {x : E} {r r' : Ru} (h1 : r.k = r'.k) (h2 : r.cl = r'.cl) (h3 : r.cd = r'.cd) (h4 : r.pm = r'.pm) : fitB x r = fitB x r' := by
  unfold fitB
  rw [h1, h2, h3, h4]
/-- what a source reaches -/
theorem rtg_tg {I : List E} (hT : ∀ x ∈ I, isT x.s = true ∧ isT x.t = true) {m : Me} {r : Ru} (hr : fitsM m r) (hk : m.k = 1 ∨ m.k = 2 ∨ m.k = 3) (hp : m.p ≠ 0#32) {z : Tr} (hz : z.m = m) : rtg I r z.s = tgS (trL I) z := by
  refine s4_extI (rtg_U _ _ _) (tgS_U _ _) fun n => Bool.eq_iff_iff.2 ?_
  rw [rtg_coll, has_collG _ _ _ U_zero (fun x hx => isT_iff.1 (hT x hx).2), has_tgS trL_t]
  constructor
  · rintro (h | ⟨y, hy, h, hn⟩)
    · exact absurd h (zero_has n)
    · simp only [Bool.and_eq_true, decide_eq_true_eq] at h
      have hm := (fit_iff hr hk hp).1 h.2
      obtain ⟨a1, a2, a3⟩ := Me.tr_of hm
      exact ⟨m.tr y, mem_trL.2 ⟨y, hy, (hT y hy).1, (hT y hy).2, by rw [a1]; exact hm, a2, a3⟩, ⟨by rw [a1, hz], by rw [a2, h.1]⟩, by rw [a3, hn]⟩
  · rintro ⟨u, hu, ⟨e1, e2⟩, hn⟩
    obtain ⟨y, hy, _, _, hm, hs, ht⟩ := mem_trL.1 hu
    rw [e1, hz] at hm
    exact .inr ⟨y, hy, by simp only [Bool.and_eq_true, decide_eq_true_eq]; exact ⟨by rw [← hs, e2], (fit_iff hr hk hp).2 hm⟩, by rw [← ht, hn]⟩
/-- the sources of a rule, as far as they are found -/
def srcR (I : List E) (r : Ru) (T : S4) (J : List E) : S4 := collG (fun y => fitB y r && decide (rtg I r y.s = T)) (fun y => y.s) J S4.zero
theorem srcR_U (I : List E) (r : Ru) (T : S4) (J : List E) : (srcR I r T J).U := collG_U _ _ J U_zero
theorem srcR_snoc (I : List E) (r : Ru) (T : S4) (J : List E) (y : E) : srcR I r T (J ++ [y]) = if (fitB y r && decide (rtg I r y.s = T)) = true then withS y.s (srcR I r T J) else srcR I r T J := collG_snoc _ _ _ _ _
theorem srcR_all {I : List E} (hT : ∀ x ∈ I, isT x.s = true ∧ isT x.t = true) {m : Me} {r : Ru} (hr : fitsM m r) (hk : m.k = 1 ∨ m.k = 2 ∨ m.k = 3) (hp : m.p ≠ 0#32) {z : Tr} (hz : z.m = m) : srcR I r (tgS (trL I) z) I = (ruOf (trL I) z).src := by
  refine s4_extI (srcR_U _ _ _ _) (ruOf (trL I) z).wf.2.2.2.1 fun n => Bool.eq_iff_iff.2 ?_
  unfold srcR
  rw [has_collG _ _ _ U_zero (fun x hx => isT_iff.1 (hT x hx).1), has_src trL_s]
  constructor
  · rintro (h | ⟨y, hy, h, hn⟩)
    · exact absurd h (zero_has n)
    · simp only [Bool.and_eq_true, decide_eq_true_eq] at h
      have hm := (fit_iff hr hk hp).1 h.1
      obtain ⟨a1, a2, a3⟩ := Me.tr_of hm
      refine ⟨m.tr y, mem_trL.2 ⟨y, hy, (hT y hy).1, (hT y hy).2, by rw [a1]; exact hm, a2, a3⟩, by rw [a1, hz], ?_, by rw [a2, hn]⟩
      rw [← rtg_tg hT hr hk hp a1, a2, h.2]
  · rintro ⟨u, hu, e1, e2, hn⟩
    obtain ⟨y, hy, _, _, hm, hs, ht⟩ := mem_trL.1 hu
    rw [e1, hz] at hm
    refine .inr ⟨y, hy, ?_, by rw [← hs, hn]⟩
    simp only [Bool.and_eq_true, decide_eq_true_eq]
    refine ⟨(fit_iff hr hk hp).2 hm, ?_⟩
    rw [← hs, rtg_tg hT hr hk hp (z := u) (by rw [e1, hz]), e2]
/-- the rules that the reference makes of an entry: of its first j kinds -/
def outE (P : List Tr) (x : E) (j : Nat) : List Ru := (mgN x j).map fun m => ruOf P (m.tr x)
def outL (P : List Tr) (I : List E) : List Ru := I.flatMap fun x => outE P x 3
theorem mem_outL {I : List E} (hT : ∀ x ∈ I, isT x.s = true ∧ isT x.t = true) (r : Ru) : r ∈ outL (trL I) I ↔ ∃ z ∈ trL I, r = ruOf (trL I) z := by
  unfold outL outE
  rw [List.mem_flatMap]
  constructor
  · rintro ⟨x, hx, h⟩
    obtain ⟨m, hm, rfl⟩ := List.mem_map.1 h
    have hm : m ∈ mgE x := hm
    obtain ⟨a1, a2, a3⟩ := Me.tr_of hm
    exact ⟨m.tr x, mem_trL.2 ⟨x, hx, (hT x hx).1, (hT x hx).2, by rw [a1]; exact hm, a2, a3⟩, rfl⟩
  · rintro ⟨z, hz, rfl⟩
    unfold trL at hz
    obtain ⟨x, hx, h⟩ := List.mem_flatMap.1 hz
    unfold trE at h
    rw [if_pos (show (isT x.s && isT x.t) = true from isTT_iff.2 (hT x hx))] at h
    obtain ⟨m, hm, rfl⟩ := List.mem_map.1 h
    exact ⟨x, hx, List.mem_map.2 ⟨m, hm, rfl⟩⟩
theorem pair_ne : ∀ {S : List Ru}, S.Pairwise ltR → ∀ {x y : Ru}, x ∈ S → y ∈ S → x ≠ y → ltR x y ∨ ltR y x
  | [], _, _, _, h, _, _ => by simp at h
  | z :: S, h, x, y, hx, hy, hn => by
    obtain ⟨h1, h2⟩ := List.pairwise_cons.1 h
    rcases List.mem_cons.1 hx with rfl | hx'
    · rcases List.mem_cons.1 hy with rfl | hy'
      · exact absurd rfl hn
      · exact .inl (h1 y hy')
    · rcases List.mem_cons.1 hy with rfl | hy'
      · exact .inr (h1 x hx')
      · exact pair_ne h2 hx' hy' hn
theorem fold_insR {S : List Ru} (hS : S.Pairwise ltR) : ∀ (l acc : List Ru), acc.Pairwise ltR → (∀ r ∈ acc, r ∈ S) → (∀ r ∈ l, r ∈ S) → (l.foldl insR acc).Pairwise ltR ∧ ∀ r, r ∈ l.foldl insR acc ↔ r ∈ acc ∨ r ∈ l
  | [], acc, h, _, _ => ⟨h, fun r => by simp⟩
  | x :: l, acc, h, ha, hl => by
    have hx := hl x (by simp)
    obtain ⟨k1, k2⟩ := fold_insR hS l (insR acc x) (insR_strict h fun y hy hn => (pair_ne hS hx (ha y hy) (Ne.symm hn))) (fun r hr => by
      rcases mem_insR.1 hr with rfl | hr
      · exact hx
      · exact ha r hr) (fun r hr => hl r (by simp [hr]))
    refine ⟨k1, fun r => (k2 r).trans ?_⟩
    rw [mem_insR, List.mem_cons]
    constructor
    · rintro ((h | h) | h)
      · exact .inr (.inl h)
      · exact .inl h
      · exact .inr (.inr h)
    · rintro (h | h | h)
      · exact .inl (.inr h)
      · exact .inl (.inl h)
      · exact .inr h
theorem comp_fold {L : List E} {S : List Ru} (h : CompOf (trL (M L)) S) : (outL (trL (inM L)) (inM L)).foldl insR [] = S := by
  have hmem := h.mem_iff trL_s
  have ho := mem_outL (I := inM L) (fun x hx => inM_T hx)
  rw [inM_tr] at ho
  rw [inM_tr]
  obtain ⟨k1, k2⟩ := fold_insR h.1 (outL (trL (M L)) (inM L)) [] List.Pairwise.nil (by simp) fun r hr => (hmem r).2 ((ho r).1 hr)
  refine strictR_eq k1 h.1 fun r => ?_
  rw [k2, ho, hmem]
  simp
theorem outE_yes {P : List Tr} {x : E} {k : Nat} (h : k < (mg0 x).length) (hp : (mg0 x)[k].p ≠ 0#32) : outE P x (k + 1) = outE P x k ++ [ruOf P (((mg0 x)[k].of x).tr x)] := by
  unfold outE
  rw [mgN_yes h hp, List.map_append]
  rfl
theorem outE_no {P : List Tr} {x : E} {k : Nat} (h : k < (mg0 x).length) (hp : (mg0 x)[k].p = 0#32) : outE P x (k + 1) = outE P x k := by
  unfold outE
  rw [mgN_no h hp]
theorem outL_snoc (P : List Tr) (I : List E) (x : E) : outL P (I ++ [x]) = outL P I ++ outE P x 3 := by
  unfold outL
  rw [List.flatMap_append]
  simp
theorem outE_len (P : List Tr) (x : E) (k : Nat) : (outE P x k).length ≤ 3 := by unfold outE; rw [List.length_map]; exact mgN_len x k
theorem outL_len (P : List Tr) : ∀ I : List E, (outL P I).length ≤ 3 * I.length
  | [] => by simp [outL]
  | x :: I => by
    have h1 := outL_len P I
    have h2 := outE_len P x 3
    show (outE P x 3 ++ outL P I).length ≤ _
    rw [List.length_append, List.length_cons]
    omega
theorem fold_len : ∀ (l acc : List Ru), (l.foldl insR acc).length ≤ acc.length + l.length
  | [], acc => by simp
  | x :: l, acc => by
    have h1 := fold_len l (insR acc x)
    have h2 := insR_len acc x
    rw [List.foldl_cons, List.length_cons]
    omega
end Go.Proofs.Ytjikbffnhfoikaa
namespace Go.Proofs.Ytjikbffnhfoikaa
open Go.RowKit Go.Sort Go.Maps
/-- rules in a block below b -/
def RusB (w : World) (b : Nat) (v : Value) (L : List Ru) : Prop := ∃ ao cap, v = .slice ao L.length cap ∧ L.length ≤ cap ∧ (L ≠ [] → ∃ g o, ao = some ⟨g, o, none⟩ ∧ g < b ∧ RowR w g o L)
theorem Rus.at {w : World} {v : Value} {L : List Ru} (h : Rus w v L) : RusB w w.heap.size v L := by
  obtain ⟨ao, cap, e, hc, hr⟩ := h
  refine ⟨ao, cap, e, hc, fun hl => ?_⟩
  obtain ⟨g, o, e2, hR⟩ := hr hl
  exact ⟨g, o, e2, hR.lt hl, hR⟩
theorem RusB.keep {w w' : World} {b : Nat} {v : Value} {L : List Ru} (h : RusB w b v L) (hb : Below b w w') : Rus w' v L := by
  obtain ⟨ao, cap, e, hc, hr⟩ := h
  refine ⟨ao, cap, e, hc, fun hl => ?_⟩
  obtain ⟨g, o, e2, hg, hR⟩ := hr hl
  exact ⟨g, o, e2, hR.keep (hb.block g hg)⟩
/-- a rule with other sets -/
def Ru.st (r : Ru) (S T : S4) (h : S.U ∧ T.U) : Ru := { r with src := S, tgt := T, wf := ⟨r.wf.1, r.wf.2.1, r.wf.2.2.1, h.1, h.2⟩ }
/-- the rule as it is built -/
def ruZ (q : Int) (x : E) (hq : W64 q) : Ru := ⟨q, S4.zero, S4.zero, false, x.c, vecK x q, x.d, ⟨hq, x.wf.2.2.1, x.wf.2.2.2, U_zero, U_zero⟩⟩
/-- the meaning of a kind -/
theorem kind_of (x : E) (j : Nat) (h : j < 3) : ∃ h' : j < (mg0 x).length, ((mg0 x)[j].of x).k = ((j + 1 : Nat) : Int) ∧ ((mg0 x)[j].of x).c = x.c ∧ ((mg0 x)[j].of x).d = x.d ∧ (mg0 x)[j].p = vecK x ((j + 1 : Nat) : Int) := by
  match j, h with
  | 0, _ => exact ⟨show 0 < 3 by decide, rfl, rfl, rfl, rfl⟩
  | 1, _ => exact ⟨show 1 < 3 by decide, rfl, rfl, rfl, rfl⟩
  | 2, _ => exact ⟨show 2 < 3 by decide, rfl, rfl, rfl, rfl⟩
/-- the rule that comes out -/
theorem made_rule {I : List E} (hT : ∀ x ∈ I, isT x.s = true ∧ isT x.t = true) {x : E} {j : Nat} (h : j < 3) (hq : W64 ((j + 1 : Nat) : Int)) (hp : vecK x ((j + 1 : Nat) : Int) ≠ 0#32) {r0 : Ru} (h0 : r0 = ruZ ((j + 1 : Nat) : Int) x hq) {r : Ru} (hr : ∃ hU, r = r0.st (srcR I r0 (rtg I r0 x.s) I) (rtg I r0 x.s) hU) (acc : List Ru) :
    insR ((outE (trL I) x j).foldl insR acc) r = (outE (trL I) x (j + 1)).foldl insR acc := by
  obtain ⟨h', k1, k2, k3, k4⟩ := kind_of x j h
  have hp' : (mg0 x)[j].p ≠ 0#32 := by rw [k4]; exact hp
  have hm : (mg0 x)[j].of x ∈ mgE x := by
    have e : mgN x (j + 1) = mgN x j ++ [(mg0 x)[j].of x] := mgN_yes h' hp'
    have h1 : (mg0 x)[j].of x ∈ mgN x (j + 1) := by rw [e]; simp
    unfold mgE
    unfold mgN at h1 ⊢
    obtain ⟨y, hy, e2⟩ := List.mem_map.1 h1
    refine List.mem_map.2 ⟨y, ?_, e2⟩
    rw [List.mem_filter] at hy ⊢
    refine ⟨?_, hy.2⟩
    have := hy.1
    exact List.mem_of_mem_take (l := mg0 x) this
  obtain ⟨a1, a2, a3⟩ := Me.tr_of hm
  rw [outE_yes h' hp', List.foldl_append]
  show _ = insR _ (ruOf (trL I) (((mg0 x)[j].of x).tr x))
  congr 1
  obtain ⟨hU, hr⟩ := hr
  have hf : fitsM ((mg0 x)[j].of x) r0 := by
    rw [h0]
    exact ⟨k1.symm, k2.symm, k3.symm, k4.symm⟩
  have hk := (mgE_mem hm).1
  have ht := rtg_tg hT hf hk hp' a1
  rw [a2] at ht
  have hs := srcR_all hT hf hk hp' a1
  rw [← ht] at hs
  rw [hr]
  refine Ru.ext' ?_ hs ht (by show r0.self = false; rw [h0]; rfl) ?_ ?_ ?_
  · show r0.k = (((mg0 x)[j].of x).tr x).m.k; rw [a1]; exact hf.1
  · show r0.cl = (((mg0 x)[j].of x).tr x).m.c; rw [a1]; exact hf.2.1
  · show r0.pm = (((mg0 x)[j].of x).tr x).m.p; rw [a1]; exact hf.2.2.2
  · show r0.cd = (((mg0 x)[j].of x).tr x).m.d; rw [a1]; exact hf.2.2.1
theorem made_none {I : List E} {x : E} {j : Nat} (h : j < 3) (hp : vecK x ((j + 1 : Nat) : Int) = 0#32) : outE (trL I) x (j + 1) = outE (trL I) x j := by
  obtain ⟨h', _, _, _, k4⟩ := kind_of x j h
  exact outE_no h' (by rw [k4]; exact hp)
theorem vI_z (b : BitVec 32) : (vI b == 0) = (b == 0#32) := vI_emp b
def cPhi (q i n g o ci : Nat) (x : E) (r0 : Ru) (W0 : World) (k : Nat) (v : Value) (u : World) : Prop := match k with
  | 0 => v = .int .i64 q
  | 1 => v = .slice (some ⟨g, o, none⟩) n ci
  | 2 => v = .int .i64 i
  | 3 => v = .pointer (some ⟨g, o + i * 7, none⟩)
  | 4 => v = .pointer (some ⟨g, o + i * 7 + 2, none⟩)
  | 5 => v = .int .i64 x.c
  | 6 => v = .slice (some ⟨g, o, none⟩) n ci
  | 7 => v = .int .i64 i
  | 8 => v = .pointer (some ⟨g, o + i * 7, none⟩)
  | 9 => v = .pointer (some ⟨g, o + i * 7 + 3, none⟩)
  | 10 => v = .int .i64 x.d
  | 11 => v = .slice (some ⟨g, o, none⟩) n ci
  | 12 => v = .int .i64 i
  | 13 => v = .pointer (some ⟨g, o + i * 7, none⟩)
  | 14 => v = .agg #[.int .i64 x.s, .int .i64 x.t, .int .i64 x.c, .int .i64 x.d, .int .u32 (vI x.a), .int .u32 (vI x.b), .int .u32 (vI x.e)]
  | 15 => v = .int .i64 q
  | 16 => v = .int .u32 (vI (vecK x q))
  | 17 => v = .agg #[.int .i64 r0.k, .int .u64 r0.src.a, .int .u64 r0.src.b, .int .u64 r0.src.c, .int .u64 r0.src.d, .int .u64 r0.tgt.a, .int .u64 r0.tgt.b, .int .u64 r0.tgt.c, .int .u64 r0.tgt.d, .bool r0.self, .int .i64 r0.cl, .int .u32 (vI r0.pm), .int .i64 r0.cd]
  | 18 => ∃ g, v = .pointer (some ⟨g, 0, none⟩) ∧ W0.heap.size ≤ g ∧ Blk u g 27 #[.int .i64 0, .int .u64 0, .int .u64 0, .int .u64 0, .int .u64 0, .int .u64 0, .int .u64 0, .int .u64 0, .int .u64 0, .bool false, .int .i64 0, .int .u32 0, .int .i64 0]
  | _ => True
theorem cPhi_keep {q i n g o ci : Nat} {x : E} {r0 : Ru} {W0 : World} {k : Nat} {v : Value} {u u' : World} (h : cPhi q i n g o ci x r0 W0 k v u) (hb : Below u.heap.size u u') : cPhi q i n g o ci x r0 W0 k v u' := by
  unfold cPhi at h ⊢
  split at h
  iterate 18 exact h
  · obtain ⟨g, h1, h2, h3⟩ := h
    exact ⟨g, h1, h2, h3.keep hb⟩
  · trivial
theorem end_mask {ops : Array Oper} {n : Nat} {Φ : Nat → Value → World → Prop} {a0 a : Act} {w : World} (m : List Bool) (hs : a.tmps.size = a0.tmps.size) (hd : a.defers = a0.defers) (hF : ∀ t, factEnd ops n Φ a0 a w t)
    (hB : ((List.range a0.tmps.size).all fun t => m[t]?.getD false || (srcOf ops n t).isNone) = true) : a = { tmps := (cutM a m 0 a0.tmps.toList).toArray, defers := a0.defers } := by
  have e2 : a.tmps.toList = cutM a m 0 a0.tmps.toList := by
    refine cutM_eq a m _ 0 _ (by simpa using hs) (fun k h => ?_) (fun k h h' hb => ?_)
    · have h2 : k < a.tmps.size := by simpa using h
      rw [Nat.zero_add, Array.getElem?_eq_getElem h2]
      simp
    · have h1 : k < a0.tmps.size := by simpa using h
      have h2 : k < a.tmps.size := by simpa using h'
      have := List.all_eq_true.1 hB k (List.mem_range.2 h1)
      rw [hb, Bool.false_or] at this
      have hn : srcOf ops n k = none := by
        cases hc : srcOf ops n k with
        | none => rfl
        | some j => rw [hc] at this; cases this
      have hk := hF k
      unfold factEnd at hk
      rw [hn] at hk
      have hk2 : a.tmps[k]?.getD undef = a0.tmps[k]?.getD undef := by simpa [Act.eval] using hk
      rw [Array.getElem?_eq_getElem h1, Array.getElem?_eq_getElem h2] at hk2
      simpa using hk2
  exact act_ext (by rw [← e2]) hd
theorem below_set1 {B : Nat} {w w' : World} {g : Nat} (h : Below B w w') (hg : B ≤ g) (k : Nat) (u : Value) : Below B w (w'.setCell ⟨g, k, none⟩ u) :=
  ⟨h.os, h.tape, h.output, by have := h.size; simpa [World.setCell] using this, fun j hj => (Below.heap_setCell w' ⟨g, k, none⟩ u j (by show j ≠ g; omega)).trans (h.block j hj)⟩
theorem BoxR.store13 {w : World} {g : Nat} {c0 c1 c2 c3 c4 c5 c6 c7 c8 c9 c10 c11 c12 : Value} (h : Blk w g 27 #[c0, c1, c2, c3, c4, c5, c6, c7, c8, c9, c10, c11, c12]) (r : Ru) : BoxR (((((((((((((w.setCell ⟨g, 0, none⟩ (.int .i64 r.k)).setCell ⟨g, 1, none⟩ (.int .u64 r.src.a)).setCell ⟨g, 2, none⟩ (.int .u64 r.src.b)).setCell ⟨g, 3, none⟩ (.int .u64 r.src.c)).setCell ⟨g, 4, none⟩ (.int .u64 r.src.d)).setCell ⟨g, 5, none⟩ (.int .u64 r.tgt.a)).setCell ⟨g, 6, none⟩ (.int .u64 r.tgt.b)).setCell ⟨g, 7, none⟩ (.int .u64 r.tgt.c)).setCell ⟨g, 8, none⟩ (.int .u64 r.tgt.d)).setCell ⟨g, 9, none⟩ (.bool r.self)).setCell ⟨g, 10, none⟩ (.int .i64 r.cl)).setCell ⟨g, 11, none⟩ (.int .u32 (vI r.pm))).setCell ⟨g, 12, none⟩ (.int .i64 r.cd)) g r := by
  have k := (Blk.set (Blk.set (Blk.set (Blk.set (Blk.set (Blk.set (Blk.set (Blk.set (Blk.set (Blk.set (Blk.set (Blk.set (Blk.set h 0 (.int .i64 r.k)) 1 (.int .u64 r.src.a)) 2 (.int .u64 r.src.b)) 3 (.int .u64 r.src.c)) 4 (.int .u64 r.src.d)) 5 (.int .u64 r.tgt.a)) 6 (.int .u64 r.tgt.b)) 7 (.int .u64 r.tgt.c)) 8 (.int .u64 r.tgt.d)) 9 (.bool r.self)) 10 (.int .i64 r.cl)) 11 (.int .u32 (vI r.pm))) 12 (.int .i64 r.cd))
  simp only [List.setIfInBounds_toArray, List.set_cons_zero, List.set_cons_succ] at k
  exact k
theorem BoxR.storeT {w : World} {g : Nat} {r : Ru} (h : BoxR w g r) (T : S4) (hU : r.src.U ∧ T.U) : BoxR ((((w.setCell ⟨g, 5, none⟩ (.int .u64 T.a)).setCell ⟨g, 6, none⟩ (.int .u64 T.b)).setCell ⟨g, 7, none⟩ (.int .u64 T.c)).setCell ⟨g, 8, none⟩ (.int .u64 T.d)) g (r.st r.src T hU) :=
  (((Blk.set h 5 _).set 6 _).set 7 _).set 8 _
theorem BoxR.storeS {w : World} {g : Nat} {r : Ru} (h : BoxR w g r) (S : S4) (hU : S.U ∧ r.tgt.U) : BoxR ((((w.setCell ⟨g, 1, none⟩ (.int .u64 S.a)).setCell ⟨g, 2, none⟩ (.int .u64 S.b)).setCell ⟨g, 3, none⟩ (.int .u64 S.c)).setCell ⟨g, 4, none⟩ (.int .u64 S.d)) g (r.st S r.tgt hU) :=
  (((Blk.set h 1 _).set 2 _).set 3 _).set 4 _
set_option maxRecDepth 100000 in
set_option maxHeartbeats 64000000 in
theorem rcompress_c (v : Value) (L : List E) (S : List Ru) (hl : L.length ≤ 120) (hc : CompOf (trL (M L)) S) (w : World) (hE : Ents w v L) :
    Calls Try.prog 25 #[v] w fun e w' => ∃ v', e = .returned v' ∧ Rus w' v' S ∧ Below w.heap.size w w' := by
  have HE0 := Lib.hid hE.at
  have HCF := Lib.hid (comp_fold hc)
  obtain ⟨ao, cap, rfl, hcap, -⟩ := hE
  have hlI : (L.length : Int) ≤ 120 := by omega
  have HLL := Lib.hid hl
  clear hc hcap
  go_enter Try.func25, Try.ntmps25
  go_wp2_with fail
  go_loopw [3, 4] (fun v3 v4 wr => ∃ (i : Nat) (vi : Value), vi = v3 ∧ i ≤ L.length ∧ v4 = .int .i64 i ∧ Hid (Ents wr vi (M ((L.take i).filter isTT))) ∧ Hid (Below w.heap.size w wr)) (fun _ v4 _ => L.length - (intOf v4).toNat)
  case atStart => exact ⟨0, _, rfl, Nat.zero_le _, rfl, Lib.hid ⟨none, 0, rfl, Nat.le_refl _, fun h => absurd rfl h⟩, Lib.hid (Below.refl _ _)⟩
  case round =>
    obtain ⟨i, vi, rfl, hi, rfl, HI, HB⟩ := hrel
    by_cases hlt : i < L.length
    · have hlt' : (i : Int) < (L.length : Int) := by omega
      obtain ⟨x, hx⟩ : ∃ x, L[i] = x := ⟨_, rfl⟩
      obtain ⟨ao', cap', e, _, hr⟩ := HE0.out
      obtain ⟨g, o, hao, hg, hR⟩ := hr (by rintro rfl; simp at hlt)
      simp only [Value.slice.injEq] at e
      obtain ⟨rfl, -, rfl⟩ := e
      subst hao
      have hA := (hR.keep (HB.out.block g hg)).at hlt
      rw [hx] at hA
      obtain ⟨q0, q1, q2, q3, q4, q5, q6⟩ := hA
      have HX : Hid (L.take (i + 1) = L.take i ++ [x]) := Lib.hid (by rw [List.take_succ_eq_append_getElem hlt, hx])
      clear hx hR hr hg
      go_upto_region 5 with fail
      obtain ⟨b, hb⟩ : ∃ b, (isT x.s && isT x.t) = b := ⟨_, rfl⟩
      have HBB := Lib.hid hb
      clear hb
      go_cut [45] (fun v w' => v = .bool b ∧ wr = w')
      case first =>
        have h1 := HBB.out
        by_cases a1 : 0 ≤ x.s
        · by_cases a2 : x.s < 256
          · by_cases a3 : 0 ≤ x.t
            · by_cases a4 : x.t < 256
              · have hb : b = true := by rw [← h1]; unfold isT; simp; omega
                subst hb
                clear h1
                go_wp2_with fail
                go_meet
                exact ⟨rfl, rfl⟩
              · have hb : b = false := by rw [← h1]; unfold isT; simp; omega
                subst hb
                clear h1
                go_wp2_with fail
                go_meet
                exact ⟨rfl, rfl⟩
            · have hb : b = false := by rw [← h1]; unfold isT; simp; omega
              subst hb
              clear h1
              go_wp2_with fail
              go_meet
              exact ⟨rfl, rfl⟩
          · have hb : b = false := by rw [← h1]; unfold isT; simp; omega
            subst hb
            clear h1
            go_wp2_with fail
            go_meet
            exact ⟨rfl, rfl⟩
        · have hb : b = false := by rw [← h1]; unfold isT; simp; omega
          subst hb
          clear h1
          go_wp2_with fail
          go_meet
          exact ⟨rfl, rfl⟩
      case rest =>
      obtain ⟨rfl, rfl⟩ := hcut
      cases b with
      | false =>
        have HN : Hid (M ((L.take (i + 1)).filter isTT) = M ((L.take i).filter isTT)) := Lib.hid (by rw [HX.out, List.filter_append, List.filter_cons, if_neg (by unfold isTT; rw [HBB.out]; simp)]; simp)
        go_wp2_with fail
        go_roundw
        case rel => exact ⟨i + 1, _, rfl, hlt, by go_num, Lib.hid (by rw [HN.out]; exact HI.out), HB⟩
        case measure => simp [intOf]; omega
      | true =>
        have HN : Hid (M ((L.take (i + 1)).filter isTT) = insN (M ((L.take i).filter isTT)) x) := Lib.hid (by rw [HX.out, List.filter_append, List.filter_cons, if_pos (by unfold isTT; rw [HBB.out]), ← M_snoc]; simp)
        have HLM : Hid ((M ((L.take i).filter isTT)).length ≤ 120) := Lib.hid (by
          have h1 := M_len ((L.take i).filter isTT)
          have h2 := List.length_filter_le isTT (L.take i)
          have h3 : (L.take i).length ≤ L.length := by rw [List.length_take]; omega
          have := HLL.out
          omega)
        go_wp2_with (go_at_call 48; refine (radd_c vi (M ((L.take i).filter isTT)) x (by have := HLM.out; omega) (M_strict _) _ HI.out).mono ?_; rintro e w1 ⟨v1, rfl, h1, hb1⟩; have H1 := Lib.hid h1; have HB1 := Lib.hid (HB.out.trans (hb1.mono HB.out.size)); clear h1 hb1)
        go_roundw
        case rel => exact ⟨i + 1, _, rfl, hlt, by go_num, Lib.hid (by rw [HN.out]; exact H1.out), HB1⟩
        case measure => simp [intOf]; omega
    · have hiL : i = L.length := by omega
      have hlt' : ¬ (i : Int) < (L.length : Int) := by omega
      obtain ⟨I, hI⟩ : ∃ I, inM L = I := ⟨_, rfl⟩
      have HIE : Hid (Ents wr vi I) := Lib.hid (by have h := HI.out; rw [hiL, List.take_length] at h; rw [← hI]; exact h)
      have HTY : Hid (∀ x ∈ I, isT x.s = true ∧ isT x.t = true) := Lib.hid (by rw [← hI]; exact fun x hx => inM_T hx)
      have HIL : Hid (I.length ≤ 120) := Lib.hid (by rw [← hI]; exact Nat.le_trans (inM_len L) hl)
      have HCI : Hid ((outL (trL I) I).foldl insR [] = S) := Lib.hid (by rw [← hI]; exact HCF.out)
      clear HI HCF hI HE0 hl hlI
      obtain ⟨ai, ci, hvi, -, -⟩ := id HIE.out
      subst hvi
      have hiI : (I.length : Int) ≤ 120 := by have := HIL.out; omega
      go_wp2_with fail
      go_loopw [5, 6] (fun v5 v6 wk => ∃ (i : Nat) (vo : Value), vo = v5 ∧ i ≤ I.length ∧ v6 = .int .i64 i ∧ Hid (Ents wk (.slice ai I.length ci) I) ∧ Hid (Rus wk vo ((outL (trL I) (I.take i)).foldl insR [])) ∧ Hid (Below w.heap.size w wk)) (fun _ v6 _ => I.length - (intOf v6).toNat)
      case atStart => exact ⟨0, _, rfl, Nat.zero_le _, rfl, HIE, Lib.hid ⟨none, 0, rfl, Nat.le_refl _, fun h => absurd rfl h⟩, HB⟩
      case round =>
        clear HIE HB
        obtain ⟨i, vo, rfl, hi, rfl, HIE, HRO, HB⟩ := hrel
        by_cases hlt : i < I.length
        · have hltI : (i : Int) < (I.length : Int) := by omega
          have HLT := Lib.hid hlt
          obtain ⟨x, hx⟩ : ∃ x, I[i]? = some x := ⟨_, List.getElem?_eq_getElem hlt⟩
          have HXI : Hid (x ∈ I) := Lib.hid (List.mem_of_getElem? hx)
          have HXR : Hid (outL (trL I) (I.take (i + 1)) = outL (trL I) (I.take i) ++ outE (trL I) x 3) := Lib.hid (by rw [List.take_add_one, hx]; exact outL_snoc _ _ _)
          have HXE := Lib.hid hx
          have HLA : Hid (((outL (trL I) (I.take i)).foldl insR []).length ≤ 360) := Lib.hid (by
            have h1 := fold_len (outL (trL I) (I.take i)) []
            have h2 := outL_len (trL I) (I.take i)
            have h3 : (I.take i).length ≤ I.length := by rw [List.length_take]; omega
            have h4 := HIL.out
            simp at h1
            omega)
          obtain ⟨ACC, hACC⟩ : ∃ ACC, (outL (trL I) (I.take i)).foldl insR [] = ACC := ⟨_, rfl⟩
          rw [hACC] at HRO HLA
          have HAC := Lib.hid hACC
          clear hx hACC
          go_wp2_with fail
          go_loopw [5, 7] (fun v5 v7 wk => ∃ (j : Nat) (vo : Value), vo = v5 ∧ j ≤ 3 ∧ v7 = .int .i64 ((j + 1 : Nat) : Int) ∧ Hid (Ents wk (.slice ai I.length ci) I) ∧ Hid (Rus wk vo ((outE (trL I) x j).foldl insR ACC)) ∧ Hid (Below w.heap.size w wk)) (fun _ v7 _ => 4 - (intOf v7).toNat)
          case atStart => exact ⟨0, _, rfl, by decide, rfl, HIE, HRO, HB⟩
          case round =>
            clear HIE HRO HB
            obtain ⟨j, vp, rfl, hj, rfl, HIE, HRO, HB⟩ := hrel
            obtain ⟨q, hq⟩ : ∃ q : Nat, j + 1 = q := ⟨_, rfl⟩
            rw [hq]
            have HQ := Lib.hid hq
            by_cases hj3 : j < 3
            · have hq3 : (q : Int) ≤ 3 := by omega
              have HJ3 := Lib.hid hj3
              have HW : Hid (W64 ((j + 1 : Nat) : Int)) := Lib.hid (by unfold W64; omega)
              obtain ⟨r0, hr0⟩ : ∃ r0, r0 = ruZ ((j + 1 : Nat) : Int) x HW.out := ⟨_, rfl⟩
              have HR0 : Hid (r0 = ruZ (q : Int) x (hq ▸ HW.out)) := Lib.hid (by subst hq; exact hr0)
              have HRZ := Lib.hid hr0
              clear hr0
              obtain ⟨ai', ci', e, _, hr⟩ := HIE.out
              obtain ⟨g, o, hai, hR⟩ := hr (by rintro rfl; simp at hlt)
              simp only [Value.slice.injEq] at e
              obtain ⟨rfl, -, rfl⟩ := e
              subst hai
              have hA : At7 wr g (o + i * 7) x := hR i x HXE.out
              have HAX := Lib.hid hA
              have HRE := Lib.hid hR
              have HRB := Lib.hid HRO.out.at
              have HEB := Lib.hid HIE.out.at
              clear hA hR hr HRO HIE
              go_upto_region 14 with fail
              refine wp_region_phit 19 (cPhi q i I.length g o ci x r0 wr) (by kernel_rfl) (by decide) (by kernel_rfl) (by kernel_rfl) (by kernel_rfl) (fun k v u u2 h hb => cPhi_keep h hb) ?_ ?_
              · refine ⟨⟨trivial, fun A u hK hF => ?_⟩, ⟨trivial, fun A u hK hF => ?_⟩, ⟨trivial, fun A u hK hF => ?_⟩, ⟨trivial, fun A u hK hF => ?_⟩, ⟨trivial, fun A u hK hF => ?_⟩, ⟨trivial, fun A u hK hF => ?_⟩, ⟨trivial, fun A u hK hF => ?_⟩, ⟨trivial, fun A u hK hF => ?_⟩, ⟨trivial, fun A u hK hF => ?_⟩, ⟨trivial, fun A u hK hF => ?_⟩, ⟨trivial, fun A u hK hF => ?_⟩, ⟨trivial, fun A u hK hF => ?_⟩, ⟨trivial, fun A u hK hF => ?_⟩, ⟨trivial, fun A u hK hF => ?_⟩, ⟨trivial, fun A u hK hF => ?_⟩, ⟨trivial, fun A u hK hF => ?_⟩, ⟨trivial, fun A u hK hF => ?_⟩, ⟨trivial, fun A u hK hF => ?_⟩, ⟨trivial, fun A u hK hF => ?_⟩, trivial⟩
                · have f7 : A.tmps[7]?.getD undef = .int .i64 q := fact_none (hF 7) (by kernel_rfl)
                  unfold Gives
                  go_simp
                  exact gives_val (Below.refl _ _) rfl
                · have f3 : A.tmps[3]?.getD undef = .slice (some ⟨g, o, none⟩) I.length ci := fact_none (hF 3) (by kernel_rfl)
                  unfold Gives
                  go_simp
                  exact gives_val (Below.refl _ _) rfl
                · have f6 : A.tmps[6]?.getD undef = .int .i64 i := fact_none (hF 6) (by kernel_rfl)
                  unfold Gives
                  go_simp
                  exact gives_val (Below.refl _ _) rfl
                · have f63 : A.tmps[63]?.getD undef = .slice (some ⟨g, o, none⟩) I.length ci := fact_some (hF 63) (j := 1) (by kernel_rfl) (by kernel_rfl)
                  have f64 : A.tmps[64]?.getD undef = .int .i64 i := fact_some (hF 64) (j := 2) (by kernel_rfl) (by kernel_rfl)
                  have hiI : (i : Int) < (I.length : Int) := by have := HLT.out; omega
                  unfold Gives
                  go_simp
                  exact gives_val (Below.refl _ _) rfl
                · have f65 : A.tmps[65]?.getD undef = .pointer (some ⟨g, o + i * 7, none⟩) := fact_some (hF 65) (j := 3) (by kernel_rfl) (by kernel_rfl)
                  unfold Gives
                  go_simp
                  exact gives_val (Below.refl _ _) rfl
                · have f66 : A.tmps[66]?.getD undef = .pointer (some ⟨g, o + i * 7 + 2, none⟩) := fact_some (hF 66) (j := 4) (by kernel_rfl) (by kernel_rfl)
                  obtain ⟨d0, d1, d2, d3, d4, d5, d6⟩ := HAX.out.keep (hK.block g HAX.out.lt)
                  unfold Gives
                  go_simp
                  exact gives_val (Below.refl _ _) rfl
                · have f3 : A.tmps[3]?.getD undef = .slice (some ⟨g, o, none⟩) I.length ci := fact_none (hF 3) (by kernel_rfl)
                  unfold Gives
                  go_simp
                  exact gives_val (Below.refl _ _) rfl
                · have f6 : A.tmps[6]?.getD undef = .int .i64 i := fact_none (hF 6) (by kernel_rfl)
                  unfold Gives
                  go_simp
                  exact gives_val (Below.refl _ _) rfl
                · have f68 : A.tmps[68]?.getD undef = .slice (some ⟨g, o, none⟩) I.length ci := fact_some (hF 68) (j := 6) (by kernel_rfl) (by kernel_rfl)
                  have f69 : A.tmps[69]?.getD undef = .int .i64 i := fact_some (hF 69) (j := 7) (by kernel_rfl) (by kernel_rfl)
                  have hiI : (i : Int) < (I.length : Int) := by have := HLT.out; omega
                  unfold Gives
                  go_simp
                  exact gives_val (Below.refl _ _) rfl
                · have f70 : A.tmps[70]?.getD undef = .pointer (some ⟨g, o + i * 7, none⟩) := fact_some (hF 70) (j := 8) (by kernel_rfl) (by kernel_rfl)
                  unfold Gives
                  go_simp
                  exact gives_val (Below.refl _ _) rfl
                · have f71 : A.tmps[71]?.getD undef = .pointer (some ⟨g, o + i * 7 + 3, none⟩) := fact_some (hF 71) (j := 9) (by kernel_rfl) (by kernel_rfl)
                  obtain ⟨d0, d1, d2, d3, d4, d5, d6⟩ := HAX.out.keep (hK.block g HAX.out.lt)
                  unfold Gives
                  go_simp
                  exact gives_val (Below.refl _ _) rfl
                · have f3 : A.tmps[3]?.getD undef = .slice (some ⟨g, o, none⟩) I.length ci := fact_none (hF 3) (by kernel_rfl)
                  unfold Gives
                  go_simp
                  exact gives_val (Below.refl _ _) rfl
                · have f6 : A.tmps[6]?.getD undef = .int .i64 i := fact_none (hF 6) (by kernel_rfl)
                  unfold Gives
                  go_simp
                  exact gives_val (Below.refl _ _) rfl
                · have f73 : A.tmps[73]?.getD undef = .slice (some ⟨g, o, none⟩) I.length ci := fact_some (hF 73) (j := 11) (by kernel_rfl) (by kernel_rfl)
                  have f74 : A.tmps[74]?.getD undef = .int .i64 i := fact_some (hF 74) (j := 12) (by kernel_rfl) (by kernel_rfl)
                  have hiI : (i : Int) < (I.length : Int) := by have := HLT.out; omega
                  unfold Gives
                  go_simp
                  exact gives_val (Below.refl _ _) rfl
                · have f75 : A.tmps[75]?.getD undef = .pointer (some ⟨g, o + i * 7, none⟩) := fact_some (hF 75) (j := 13) (by kernel_rfl) (by kernel_rfl)
                  obtain ⟨d0, d1, d2, d3, d4, d5, d6⟩ := HAX.out.keep (hK.block g HAX.out.lt)
                  unfold Gives
                  go_simp
                  exact gives_val (Below.refl _ _) rfl
                · have f7 : A.tmps[7]?.getD undef = .int .i64 q := fact_none (hF 7) (by kernel_rfl)
                  unfold Gives
                  go_simp
                  exact gives_val (Below.refl _ _) rfl
                · have f76 : A.tmps[76]?.getD undef = .agg #[.int .i64 x.s, .int .i64 x.t, .int .i64 x.c, .int .i64 x.d, .int .u32 (vI x.a), .int .u32 (vI x.b), .int .u32 (vI x.e)] := fact_some (hF 76) (j := 14) (by kernel_rfl) (by kernel_rfl)
                  have f77 : A.tmps[77]?.getD undef = .int .i64 q := fact_some (hF 77) (j := 15) (by kernel_rfl) (by kernel_rfl)
                  unfold Gives
                  go_simp
                  exact gives_enter ((rvector_c x q _).mono fun _ _ ⟨he, hb⟩ => ⟨_, he, hb, rfl⟩)
                · have f62 : A.tmps[62]?.getD undef = .int .i64 q := fact_some (hF 62) (j := 0) (by kernel_rfl) (by kernel_rfl)
                  have f67 : A.tmps[67]?.getD undef = .int .i64 x.c := fact_some (hF 67) (j := 5) (by kernel_rfl) (by kernel_rfl)
                  have f72 : A.tmps[72]?.getD undef = .int .i64 x.d := fact_some (hF 72) (j := 10) (by kernel_rfl) (by kernel_rfl)
                  have f78 : A.tmps[78]?.getD undef = .int .u32 (vI (vecK x q)) := fact_some (hF 78) (j := 16) (by kernel_rfl) (by kernel_rfl)
                  unfold Gives
                  go_simp
                  rw [HR0.out]; exact gives_val (Below.refl _ _) rfl
                · unfold Gives
                  go_simp
                  exact gives_val ((Below.refl _ _).alloc (Nat.le_refl _) _) ⟨_, rfl, hK.size, Blk.new _ _ _⟩
              intro a W2 hC hsz hdf hF
              have ha := end_mask [false, false, false, false, false, false, false, false, true, false, false, false, false, false, false, false, false, false, false, false, false, false, false, false, false, false, false, false, false, false, false, false, false, false, false, false, false, false, false, false, false, false, false, false, false, false, false, false, false, false, false, false, false, false, false, false, false, false, false, false, false, false, true, true, true, true, true, true, true, true, true, true, true, true, true, true, true, true, true, true, false, false, false, false, false, false, false, false, false, false, false, false, false, false, false, false, false, false, false, false, false, false, false, false, false, false, false, false, false, false, false, false, false, false, false, false, false, false, false, false, false, false, false, false, false, false, false, false, false, false] hsz hdf hF (by kernel_rfl)
              have f79 : a.tmps[79]?.getD undef = .agg #[.int .i64 r0.k, .int .u64 r0.src.a, .int .u64 r0.src.b, .int .u64 r0.src.c, .int .u64 r0.src.d, .int .u64 r0.tgt.a, .int .u64 r0.tgt.b, .int .u64 r0.tgt.c, .int .u64 r0.tgt.d, .bool r0.self, .int .i64 r0.cl, .int .u32 (vI r0.pm), .int .i64 r0.cd] := fact_end (hF 79) (j := 17) (by kernel_rfl)
              obtain ⟨g8, f8, hg8, hb8⟩ : ∃ g, a.tmps[8]?.getD undef = .pointer (some ⟨g, 0, none⟩) ∧ wr.heap.size ≤ g ∧ Blk W2 g 27 #[.int .i64 0, .int .u64 0, .int .u64 0, .int .u64 0, .int .u64 0, .int .u64 0, .int .u64 0, .int .u64 0, .int .u64 0, .bool false, .int .i64 0, .int .u32 0, .int .i64 0] := fact_end (hF 8) (j := 18) (by kernel_rfl)
              rw [ha]
              clear ha hF
              simp only [cutM_yes, cutM_no, cutM_nil, Nat.reduceAdd]
              rw [f8, f79]
              clear f8 f79
              generalize a.tmps[62]?.getD undef = s62
              generalize a.tmps[63]?.getD undef = s63
              generalize a.tmps[64]?.getD undef = s64
              generalize a.tmps[65]?.getD undef = s65
              generalize a.tmps[66]?.getD undef = s66
              generalize a.tmps[67]?.getD undef = s67
              generalize a.tmps[68]?.getD undef = s68
              generalize a.tmps[69]?.getD undef = s69
              generalize a.tmps[70]?.getD undef = s70
              generalize a.tmps[71]?.getD undef = s71
              generalize a.tmps[72]?.getD undef = s72
              generalize a.tmps[73]?.getD undef = s73
              generalize a.tmps[74]?.getD undef = s74
              generalize a.tmps[75]?.getD undef = s75
              generalize a.tmps[76]?.getD undef = s76
              generalize a.tmps[77]?.getD undef = s77
              generalize a.tmps[78]?.getD undef = s78
              clear hsz hdf
              obtain ⟨b, hbs⟩ : ∃ b, wr.heap.size = b := ⟨_, rfl⟩
              have HBW : Hid (w.heap.size ≤ b) := Lib.hid (by rw [← hbs]; exact HB.out.size)
              have HK2 : Hid (Below b wr W2) := Lib.hid (by rw [← hbs]; exact hC)
              have HG8 : Hid (b ≤ g8) := Lib.hid (by rw [← hbs]; exact hg8)
              rw [hbs] at HRB HEB
              have HGB : Hid (g < b) := Lib.hid (by rw [← hbs]; exact HAX.out.lt)
              have c8 := hb8.cell
              have k0 := c8 0
              have k1 := c8 1
              have k2 := c8 2
              have k3 := c8 3
              have k4 := c8 4
              have k5 := c8 5
              have k6 := c8 6
              have k7 := c8 7
              have k8 := c8 8
              have k9 := c8 9
              have k10 := c8 10
              have k11 := c8 11
              have k12 := c8 12
              have z8 := hb8.frozen
              have HB3 : Hid (BoxR (((((((((((((W2.setCell ⟨g8, 0, none⟩ (.int .i64 r0.k)).setCell ⟨g8, 1, none⟩ (.int .u64 r0.src.a)).setCell ⟨g8, 2, none⟩ (.int .u64 r0.src.b)).setCell ⟨g8, 3, none⟩ (.int .u64 r0.src.c)).setCell ⟨g8, 4, none⟩ (.int .u64 r0.src.d)).setCell ⟨g8, 5, none⟩ (.int .u64 r0.tgt.a)).setCell ⟨g8, 6, none⟩ (.int .u64 r0.tgt.b)).setCell ⟨g8, 7, none⟩ (.int .u64 r0.tgt.c)).setCell ⟨g8, 8, none⟩ (.int .u64 r0.tgt.d)).setCell ⟨g8, 9, none⟩ (.bool r0.self)).setCell ⟨g8, 10, none⟩ (.int .i64 r0.cl)).setCell ⟨g8, 11, none⟩ (.int .u32 (vI r0.pm))).setCell ⟨g8, 12, none⟩ (.int .i64 r0.cd)) g8 r0) := Lib.hid (BoxR.store13 hb8 r0)
              have HK3 : Hid (Below b wr (((((((((((((W2.setCell ⟨g8, 0, none⟩ (.int .i64 r0.k)).setCell ⟨g8, 1, none⟩ (.int .u64 r0.src.a)).setCell ⟨g8, 2, none⟩ (.int .u64 r0.src.b)).setCell ⟨g8, 3, none⟩ (.int .u64 r0.src.c)).setCell ⟨g8, 4, none⟩ (.int .u64 r0.src.d)).setCell ⟨g8, 5, none⟩ (.int .u64 r0.tgt.a)).setCell ⟨g8, 6, none⟩ (.int .u64 r0.tgt.b)).setCell ⟨g8, 7, none⟩ (.int .u64 r0.tgt.c)).setCell ⟨g8, 8, none⟩ (.int .u64 r0.tgt.d)).setCell ⟨g8, 9, none⟩ (.bool r0.self)).setCell ⟨g8, 10, none⟩ (.int .i64 r0.cl)).setCell ⟨g8, 11, none⟩ (.int .u32 (vI r0.pm))).setCell ⟨g8, 12, none⟩ (.int .i64 r0.cd))) := Lib.hid (below_set1 (below_set1 (below_set1 (below_set1 (below_set1 (below_set1 (below_set1 (below_set1 (below_set1 (below_set1 (below_set1 (below_set1 (below_set1 HK2.out HG8.out 0 _) HG8.out 1 _) HG8.out 2 _) HG8.out 3 _) HG8.out 4 _) HG8.out 5 _) HG8.out 6 _) HG8.out 7 _) HG8.out 8 _) HG8.out 9 _) HG8.out 10 _) HG8.out 11 _) HG8.out 12 _)
              clear c8 hC hb8 hg8 hbs
              go_upto_region 15 with fail
              generalize (((((((((((((W2.setCell ⟨g8, 0, none⟩ (.int .i64 r0.k)).setCell ⟨g8, 1, none⟩ (.int .u64 r0.src.a)).setCell ⟨g8, 2, none⟩ (.int .u64 r0.src.b)).setCell ⟨g8, 3, none⟩ (.int .u64 r0.src.c)).setCell ⟨g8, 4, none⟩ (.int .u64 r0.src.d)).setCell ⟨g8, 5, none⟩ (.int .u64 r0.tgt.a)).setCell ⟨g8, 6, none⟩ (.int .u64 r0.tgt.b)).setCell ⟨g8, 7, none⟩ (.int .u64 r0.tgt.c)).setCell ⟨g8, 8, none⟩ (.int .u64 r0.tgt.d)).setCell ⟨g8, 9, none⟩ (.bool r0.self)).setCell ⟨g8, 10, none⟩ (.int .i64 r0.cl)).setCell ⟨g8, 11, none⟩ (.int .u32 (vI r0.pm))).setCell ⟨g8, 12, none⟩ (.int .i64 r0.cd)) = W3 at *
              clear k0 k1 k2 k3 k4 k5 k6 k7 k8 k9 k10 k11 k12 z8 HK2
              obtain ⟨b0, b1, b2, b3, b4, b5, b6, b7, b8, b9, b10, b11, b12⟩ := BoxR.cells (show BoxR W3 g8 r0 from HB3.out)
              have hpq : r0.pm = vecK x ((j + 1 : Nat) : Int) := by rw [HRZ.out]; rfl
              by_cases hp : vecK x ((j + 1 : Nat) : Int) = 0#32
              · have hz : (vI r0.pm == 0) = true := by rw [vI_z, hpq, hp]; rfl
                have HNX := Lib.hid (made_none (I := I) HJ3.out hp)
                clear hp hpq
                go_wp2_with fail
                go_roundw
                case rel => exact ⟨j + 1, _, rfl, hj3, congrArg (Value.int .i64) (by have := HQ.out; omega), Lib.hid (HEB.out.keep HK3.out).ents, Lib.hid (by rw [HNX.out]; exact HRB.out.keep HK3.out), Lib.hid (HB.out.trans (HK3.out.mono HBW.out))⟩
                case measure => simp [intOf]; omega
              · have hz : (vI r0.pm == 0) = false := by rw [vI_z, hpq]; simpa using hp
                have HPN := Lib.hid hp
                have HAX3 : Hid (At7 W3 g (o + i * 7) x) := Lib.hid (HAX.out.keep (HK3.out.block g HGB.out))
                have HE3 : Hid (Ents W3 (.slice (some ⟨g, o, none⟩) I.length ci) I) := Lib.hid (HEB.out.keep HK3.out).ents
                have HTG : Hid (∀ u, Kp W3 u → Calls Try.prog 50 #[.slice (some ⟨g, o, none⟩) I.length ci, .agg #[.int .i64 r0.k, .int .u64 r0.src.a, .int .u64 r0.src.b, .int .u64 r0.src.c, .int .u64 r0.src.d, .int .u64 r0.tgt.a, .int .u64 r0.tgt.b, .int .u64 r0.tgt.c, .int .u64 r0.tgt.d, .bool r0.self, .int .i64 r0.cl, .int .u32 (vI r0.pm), .int .i64 r0.cd], .int .i64 x.s] u fun e w' => e = .returned (.agg #[.int .u64 (rtg I r0 x.s).a, .int .u64 (rtg I r0 x.s).b, .int .u64 (rtg I r0 x.s).c, .int .u64 (rtg I r0 x.s).d]) ∧ Below u.heap.size u w') := Lib.hid fun u hu => rtargets_c _ I r0 x.s (by have := HIL.out; omega) u (HE3.out.keep hu)
                obtain ⟨T, hT⟩ : ∃ T, rtg I r0 x.s = T := ⟨_, rfl⟩
                have HTE := Lib.hid hT
                have HTU : Hid T.U := Lib.hid (by rw [← hT]; exact rtg_U _ _ _)
                rw [hT] at HTG
                clear hp hpq hT b0 b1 b2 b3 b4 b5 b6 b7 b8 b9 b10 b12
                go_upto_region 16 with fail
                clear b11
                refine wp_region_kt 8 (by kernel_rfl) (by kernel_rfl) ?_
                simp only [List.take_succ_cons, List.take_zero, List.drop_succ_cons, List.drop_zero]
                repeat (first
                    | go_big_quiet_skip
                    | (go_big_quiet_want
                       go_big_quiet_op
                       first
                         | go_big_quiet_on
                         | (apply Exists.intro
                            refine ⟨fun w1 hC => ?_, ?_⟩
                            · first
                                | (go_at_call 50; with_reducible exact hC.call (HTG.out _ hC))
                                | (go_simp; exact ⟨rfl, rfl⟩)
                                | (obtain ⟨b0, b1, b2, b3, b4, b5, b6, b7, b8, b9, b10, b11, b12⟩ := BoxR.cells (show BoxR _ g8 r0 from hC.blk HB3.out); go_simp; exact rfl)
                                | (obtain ⟨d0, d1, d2, d3, d4, d5, d6⟩ := HAX3.out.keep (hC.block g HAX3.out.lt); go_simp; exact rfl)
                            go_big_quiet_on)))
                refine wpQuiet_nil ?_
                intro W4 hC
                have HB4 : Hid (BoxR W4 g8 r0) := Lib.hid (hC.blk HB3.out)
                have HK4 : Hid (Below b wr W4) := Lib.hid (HK3.out.trans (hC.mono (by have := HB3.out.lt; have := HG8.out; omega)))
                obtain ⟨b0, b1, b2, b3, b4, b5, b6, b7, b8, b9, b10, b11, b12⟩ := BoxR.cells (show BoxR W4 g8 r0 from HB4.out)
                have z8 := (show BoxR W4 g8 r0 from HB4.out).frozen
                have HB5 : Hid (BoxR ((((W4.setCell ⟨g8, 5, none⟩ (.int .u64 T.a)).setCell ⟨g8, 6, none⟩ (.int .u64 T.b)).setCell ⟨g8, 7, none⟩ (.int .u64 T.c)).setCell ⟨g8, 8, none⟩ (.int .u64 T.d)) g8 (r0.st r0.src T ⟨r0.wf.2.2.2.1, HTU.out⟩)) := Lib.hid (BoxR.storeT HB4.out T ⟨r0.wf.2.2.2.1, HTU.out⟩)
                have HK5 : Hid (Below b wr ((((W4.setCell ⟨g8, 5, none⟩ (.int .u64 T.a)).setCell ⟨g8, 6, none⟩ (.int .u64 T.b)).setCell ⟨g8, 7, none⟩ (.int .u64 T.c)).setCell ⟨g8, 8, none⟩ (.int .u64 T.d))) := Lib.hid (below_set1 (below_set1 (below_set1 (below_set1 HK4.out HG8.out 5 _) HG8.out 6 _) HG8.out 7 _) HG8.out 8 _)
                clear hC HB3 HK3 HAX3 HE3 HTG
                go_upto_region 17 with fail
                generalize ((((W4.setCell ⟨g8, 5, none⟩ (.int .u64 T.a)).setCell ⟨g8, 6, none⟩ (.int .u64 T.b)).setCell ⟨g8, 7, none⟩ (.int .u64 T.c)).setCell ⟨g8, 8, none⟩ (.int .u64 T.d)) = W5 at *
                clear b0 b1 b2 b3 b4 b5 b6 b7 b8 b9 b10 b11 b12 z8 HB4 HK4
                have hs0 : r0.src = S4.zero := by rw [HRZ.out]; rfl
                obtain ⟨r1, hr1⟩ : ∃ r1, r1 = r0.st r0.src T ⟨r0.wf.2.2.2.1, HTU.out⟩ := ⟨_, rfl⟩
                rw [← hr1] at HB5
                have HR1 : Hid (r1 = r0.st (srcR I r0 T (I.take 0)) T ⟨srcR_U _ _ _ _, HTU.out⟩) := Lib.hid (by rw [hr1]; exact Ru.ext' rfl (by rw [List.take_zero]; exact hs0) rfl rfl rfl rfl rfl)
                clear hr1 hs0
                have HRW : Hid (RowE wr g o I) := Lib.hid HRE.out
                generalize wr = w3 at *
                go_wp2_with fail
                go_loopw [9] (fun v9 wk => ∃ (n : Nat) (rn : Ru), n ≤ I.length ∧ v9 = .int .i64 n ∧ Hid (BoxR wk g8 rn) ∧ Hid (rn = r0.st (srcR I r0 T (I.take n)) T ⟨srcR_U _ _ _ _, HTU.out⟩) ∧ Hid (Below b w3 wk)) (fun v9 _ => I.length - (intOf v9).toNat)
                case atStart => exact ⟨0, r1, Nat.zero_le _, rfl, HB5, HR1, HK5⟩
                case round =>
                  clear HB5 HK5 HR1
                  obtain ⟨n, rn, hn, rfl, HBX, HRN, HK⟩ := hrel
                  by_cases hnt : n < I.length
                  · have hntI : (n : Int) < (I.length : Int) := by omega
                    obtain ⟨y, hy⟩ : ∃ y, I[n]? = some y := ⟨_, List.getElem?_eq_getElem hnt⟩
                    have HAY : Hid (At7 wr g (o + n * 7) y) := Lib.hid ((HRW.out.keep (HK.out.block g HGB.out)) n y hy)
                    have HEW : Hid (Ents wr (.slice (some ⟨g, o, none⟩) I.length ci) I) := Lib.hid (HEB.out.keep HK.out).ents
                    have HTK : Hid (srcR I r0 T (I.take (n + 1)) = if (fitB y r0 && decide (rtg I r0 y.s = T)) = true then withS y.s (srcR I r0 T (I.take n)) else srcR I r0 T (I.take n)) := Lib.hid (by rw [List.take_add_one, hy]; exact srcR_snoc _ _ _ _ _)
                    have e1 : fitB y rn = fitB y r0 := by rw [HRN.out]; exact fit_same rfl rfl rfl rfl
                    have e2 : rtg I rn y.s = rtg I r0 y.s := by rw [HRN.out]; exact rtg_same rfl rfl rfl rfl _
                    have e3 : rn.tgt = T := by rw [HRN.out]; rfl
                    have e4 : rn.src = srcR I r0 T (I.take n) := by rw [HRN.out]; rfl
                    have HFT : Hid (∀ u, Calls Try.prog 51 #[.agg #[.int .i64 y.s, .int .i64 y.t, .int .i64 y.c, .int .i64 y.d, .int .u32 (vI y.a), .int .u32 (vI y.b), .int .u32 (vI y.e)], .agg #[.int .i64 rn.k, .int .u64 rn.src.a, .int .u64 rn.src.b, .int .u64 rn.src.c, .int .u64 rn.src.d, .int .u64 rn.tgt.a, .int .u64 rn.tgt.b, .int .u64 rn.tgt.c, .int .u64 rn.tgt.d, .bool rn.self, .int .i64 rn.cl, .int .u32 (vI rn.pm), .int .i64 rn.cd]] u fun e w' => e = .returned (.bool (fitB y rn)) ∧ Below u.heap.size u w') := Lib.hid fun u => fits_c y rn u
                    have HTG : Hid (∀ u, Kp wr u → Calls Try.prog 50 #[.slice (some ⟨g, o, none⟩) I.length ci, .agg #[.int .i64 rn.k, .int .u64 rn.src.a, .int .u64 rn.src.b, .int .u64 rn.src.c, .int .u64 rn.src.d, .int .u64 rn.tgt.a, .int .u64 rn.tgt.b, .int .u64 rn.tgt.c, .int .u64 rn.tgt.d, .bool rn.self, .int .i64 rn.cl, .int .u32 (vI rn.pm), .int .i64 rn.cd], .int .i64 y.s] u fun e w' => e = .returned (.agg #[.int .u64 (rtg I rn y.s).a, .int .u64 (rtg I rn y.s).b, .int .u64 (rtg I rn y.s).c, .int .u64 (rtg I rn y.s).d]) ∧ Below u.heap.size u w') := Lib.hid fun u hu => rtargets_c _ I rn y.s (by have := HIL.out; omega) u (HEW.out.keep hu)
                    rw [e1] at HFT
                    rw [e2] at HTG
                    have HE4 := Lib.hid e4
                    have HE3' := Lib.hid e3
                    clear hy e1 e2 e4
                    obtain ⟨fb, hfb⟩ : ∃ fb, fitB y r0 = fb := ⟨_, rfl⟩
                    rw [hfb] at HFT HTK
                    clear hfb
                    cases fb with
                    | false =>
                      rw [if_neg (by simp)] at HTK
                      clear e3
                      go_upto_region 20 with fail
                      refine wp_region_kp (by kernel_rfl) (by kernel_rfl) ?_
                      repeat (first
                          | go_big_quiet_skip
                          | (go_big_quiet_want
                             go_big_quiet_op
                             first
                               | go_big_quiet_on
                               | (apply Exists.intro
                                  refine ⟨fun w1 hC => ?_, ?_⟩
                                  · first
                                      | (go_at_call 51; with_reducible exact hC.call (HFT.out _))
                                      | (go_simp; exact ⟨rfl, rfl⟩)
                                      | (obtain ⟨b0, b1, b2, b3, b4, b5, b6, b7, b8, b9, b10, b11, b12⟩ := BoxR.cells (show BoxR _ g8 rn from hC.blk HBX.out); go_simp; exact rfl)
                                      | (obtain ⟨d0, d1, d2, d3, d4, d5, d6⟩ := HAY.out.keep (hC.block g HAY.out.lt); go_simp; exact rfl)
                                  go_big_quiet_on)))
                      refine wpQuiet_nil ?_
                      intro W6 hC
                      have HB6 : Hid (BoxR W6 g8 rn) := Lib.hid (hC.blk HBX.out)
                      have HK6 : Hid (Below b w3 W6) := Lib.hid (HK.out.trans (hC.mono (by have := HBX.out.lt; have := HG8.out; omega)))
                      clear hC HBX HK
                      go_wp2_with fail
                      go_roundw
                      case rel => exact ⟨n + 1, rn, hnt, by go_num, HB6, Lib.hid (by rw [HRN.out]; exact Ru.ext' rfl HTK.out.symm rfl rfl rfl rfl rfl), HK6⟩
                      case measure => simp [intOf]; omega
                    | true =>
                      rw [Bool.true_and] at HTK
                      obtain ⟨U, hU⟩ : ∃ U, rtg I r0 y.s = U := ⟨_, rfl⟩
                      rw [hU] at HTG HTK
                      clear hU
                      by_cases he : U = T
                      · subst he
                        rw [decide_eq_true rfl, if_pos rfl] at HTK
                        rw [← e3] at HTG
                        clear e3
                        go_upto_region 20 with fail
                        refine wp_region_kp (by kernel_rfl) (by kernel_rfl) ?_
                        repeat (first
                            | go_big_quiet_skip
                            | (go_big_quiet_want
                               go_big_quiet_op
                               first
                                 | go_big_quiet_on
                                 | (apply Exists.intro
                                    refine ⟨fun w1 hC => ?_, ?_⟩
                                    · first
                                        | (go_at_call 51; with_reducible exact hC.call (HFT.out _))
                                        | (go_at_call 50; with_reducible exact hC.call (HTG.out _ hC))
                                        | (go_simp; exact ⟨rfl, rfl⟩)
                                        | (obtain ⟨b0, b1, b2, b3, b4, b5, b6, b7, b8, b9, b10, b11, b12⟩ := BoxR.cells (show BoxR _ g8 rn from hC.blk HBX.out); go_simp; exact rfl)
                                        | (obtain ⟨d0, d1, d2, d3, d4, d5, d6⟩ := HAY.out.keep (hC.block g HAY.out.lt); go_simp; exact rfl)
                                    go_big_quiet_on)))
                        refine wpQuiet_nil ?_
                        intro W6 hC
                        have HB6 : Hid (BoxR W6 g8 rn) := Lib.hid (hC.blk HBX.out)
                        have HK6 : Hid (Below b w3 W6) := Lib.hid (HK.out.trans (hC.mono (by have := HBX.out.lt; have := HG8.out; omega)))
                        have HAY6 : Hid (At7 W6 g (o + n * 7) y) := Lib.hid (HAY.out.keep (hC.block g HAY.out.lt))
                        clear hC HBX HK HAY HEW HTG HFT
                        go_upto_region 21 with fail
                        refine wp_region_kt 8 (by kernel_rfl) (by kernel_rfl) ?_
                        simp only [List.take_succ_cons, List.take_zero, List.drop_succ_cons, List.drop_zero]
                        repeat (first
                            | go_big_quiet_skip
                            | (go_big_quiet_want
                               go_big_quiet_op
                               first
                                 | go_big_quiet_on
                                 | (apply Exists.intro
                                    refine ⟨fun w1 hC => ?_, ?_⟩
                                    · first
                                        | (go_at_call 52; with_reducible exact hC.call (rwithS_c y.s rn.src _))
                                        | (go_simp; exact ⟨rfl, rfl⟩)
                                        | (obtain ⟨b0, b1, b2, b3, b4, b5, b6, b7, b8, b9, b10, b11, b12⟩ := BoxR.cells (show BoxR _ g8 rn from hC.blk HB6.out); go_simp; exact rfl)
                                        | (obtain ⟨d0, d1, d2, d3, d4, d5, d6⟩ := HAY6.out.keep (hC.block g HAY6.out.lt); go_simp; exact rfl)
                                    go_big_quiet_on)))
                        refine wpQuiet_nil ?_
                        intro W7 hC
                        have HB7 : Hid (BoxR W7 g8 rn) := Lib.hid (hC.blk HB6.out)
                        have HK7 : Hid (Below b w3 W7) := Lib.hid (HK6.out.trans (hC.mono (by have := HB6.out.lt; have := HG8.out; omega)))
                        obtain ⟨b0, b1, b2, b3, b4, b5, b6, b7, b8, b9, b10, b11, b12⟩ := BoxR.cells (show BoxR W7 g8 rn from HB7.out)
                        have z8 := (show BoxR W7 g8 rn from HB7.out).frozen
                        obtain ⟨S2, hS2⟩ : ∃ S2, withS y.s rn.src = S2 := ⟨_, rfl⟩
                        have HS2U : Hid S2.U := Lib.hid (by rw [← hS2]; exact withS_U _ rn.wf.2.2.2.1)
                        have HS2E := Lib.hid hS2
                        have HB8 : Hid (BoxR ((((W7.setCell ⟨g8, 1, none⟩ (.int .u64 S2.a)).setCell ⟨g8, 2, none⟩ (.int .u64 S2.b)).setCell ⟨g8, 3, none⟩ (.int .u64 S2.c)).setCell ⟨g8, 4, none⟩ (.int .u64 S2.d)) g8 (rn.st S2 rn.tgt ⟨HS2U.out, rn.wf.2.2.2.2⟩)) := Lib.hid (BoxR.storeS HB7.out S2 ⟨HS2U.out, rn.wf.2.2.2.2⟩)
                        have HK8 : Hid (Below b w3 ((((W7.setCell ⟨g8, 1, none⟩ (.int .u64 S2.a)).setCell ⟨g8, 2, none⟩ (.int .u64 S2.b)).setCell ⟨g8, 3, none⟩ (.int .u64 S2.c)).setCell ⟨g8, 4, none⟩ (.int .u64 S2.d))) := Lib.hid (below_set1 (below_set1 (below_set1 (below_set1 HK7.out HG8.out 1 _) HG8.out 2 _) HG8.out 3 _) HG8.out 4 _)
                        rw [hS2]
                        clear hC HB6 HK6 HAY6 hS2
                        go_wp2_with fail
                        go_roundw
                        case rel => exact ⟨n + 1, _, hnt, by go_num, HB8, Lib.hid (Ru.ext' (by rw [HRN.out]; rfl) (by show S2 = _; rw [← HS2E.out, HE4.out]; exact HTK.out.symm) HE3'.out (by rw [HRN.out]; rfl) (by rw [HRN.out]; rfl) (by rw [HRN.out]; rfl) (by rw [HRN.out]; rfl)), HK8⟩
                        case measure => simp [intOf]; omega
                      · rw [decide_eq_false he, if_neg (by simp)] at HTK
                        have hs4 := same4_no (show U ≠ rn.tgt from fun k => he (k.trans e3))
                        clear e3 he
                        go_upto_region 20 with fail
                        refine wp_region_kp (by kernel_rfl) (by kernel_rfl) ?_
                        repeat (first
                            | go_big_quiet_skip
                            | (go_big_quiet_want
                               go_big_quiet_op
                               first
                                 | go_big_quiet_on
                                 | (apply Exists.intro
                                    refine ⟨fun w1 hC => ?_, ?_⟩
                                    · first
                                        | (go_at_call 51; with_reducible exact hC.call (HFT.out _))
                                        | (go_at_call 50; with_reducible exact hC.call (HTG.out _ hC))
                                        | (go_simp; exact ⟨rfl, rfl⟩)
                                        | (obtain ⟨b0, b1, b2, b3, b4, b5, b6, b7, b8, b9, b10, b11, b12⟩ := BoxR.cells (show BoxR _ g8 rn from hC.blk HBX.out); go_simp; exact rfl)
                                        | (obtain ⟨d0, d1, d2, d3, d4, d5, d6⟩ := HAY.out.keep (hC.block g HAY.out.lt); go_simp; exact rfl)
                                    go_big_quiet_on)))
                        refine wpQuiet_nil ?_
                        intro W6 hC
                        have HB6 : Hid (BoxR W6 g8 rn) := Lib.hid (hC.blk HBX.out)
                        have HK6 : Hid (Below b w3 W6) := Lib.hid (HK.out.trans (hC.mono (by have := HBX.out.lt; have := HG8.out; omega)))
                        clear hC HBX HK
                        go_wp2_with fail
                        go_roundw
                        case rel => exact ⟨n + 1, rn, hnt, by go_num, HB6, Lib.hid (by rw [HRN.out]; exact Ru.ext' rfl HTK.out.symm rfl rfl rfl rfl rfl), HK6⟩
                        case measure => simp [intOf]; omega
                  · have hnL : n = I.length := by omega
                    have hntI : ¬ (n : Int) < (I.length : Int) := by omega
                    have HMR : Hid (insR ((outE (trL I) x j).foldl insR ACC) rn = (outE (trL I) x (j + 1)).foldl insR ACC) := Lib.hid (made_rule HTY.out HJ3.out HW.out HPN.out HRZ.out ⟨⟨srcR_U _ _ _ _, rtg_U _ _ _⟩, by
                      have h := HRN.out
                      rw [hnL, List.take_length] at h
                      rw [h]
                      exact Ru.ext' rfl (by show srcR I r0 T I = srcR I r0 (rtg I r0 x.s) I; rw [HTE.out]) (by show T = rtg I r0 x.s; exact HTE.out.symm) rfl rfl rfl rfl⟩ ACC)
                    have HRK : Hid (Rus wr vp ((outE (trL I) x j).foldl insR ACC)) := Lib.hid (HRB.out.keep HK.out)
                    have HEK : Hid (Ents wr (.slice (some ⟨g, o, none⟩) I.length ci) I) := Lib.hid (HEB.out.keep HK.out).ents
                    have HBK : Hid (Below w.heap.size w wr) := Lib.hid (HB.out.trans (HK.out.mono HBW.out))
                    have HLN : Hid (((outE (trL I) x j).foldl insR ACC).length ≤ 1000) := Lib.hid (by
                      have h1 := fold_len (outE (trL I) x j) ACC
                      have h2 := outE_len (trL I) x j
                      have := HLA.out
                      omega)
                    obtain ⟨b0, b1, b2, b3, b4, b5, b6, b7, b8, b9, b10, b11, b12⟩ := BoxR.cells (show BoxR wr g8 rn from HBX.out)
                    go_wp2_with (go_at_call 53; refine (rinsert_c vp _ rn (by have := HLN.out; omega) _ HRK.out).mono ?_; rintro e w1 ⟨v1, rfl, h1, hb1⟩; have H1 := Lib.hid h1; have HB1 := Lib.hid (HBK.out.trans (hb1.mono HBK.out.size)); have HE1 := Lib.hid (HEK.out.keep hb1); clear h1 hb1)
                    go_roundw
                    case rel => exact ⟨j + 1, _, rfl, hj3, congrArg (Value.int .i64) (by have := HQ.out; omega), HE1, Lib.hid (by rw [← HMR.out]; exact H1.out), HB1⟩
                    case measure => simp [intOf]; omega
            · have hj : j = 3 := by omega
              have hq3 : ¬ (q : Int) ≤ 3 := by omega
              have HFN : Hid ((outL (trL I) (I.take (i + 1))).foldl insR [] = (outE (trL I) x j).foldl insR ACC) := Lib.hid (by rw [HXR.out, List.foldl_append, HAC.out, hj])
              go_wp2_with fail
              go_roundw
              case rel => exact ⟨i + 1, _, rfl, hlt, by go_num, HIE, Lib.hid (by rw [HFN.out]; exact HRO.out), HB⟩
              case measure => simp [intOf]; omega
        · have hiL : i = I.length := by omega
          have hltI : ¬ (i : Int) < (I.length : Int) := by omega
          have HFN : Hid ((outL (trL I) (I.take i)).foldl insR [] = S) := Lib.hid (by rw [hiL, List.take_length]; exact HCI.out)
          go_wp2_with fail
          go_ret
          exact ⟨_, rfl, by rw [← HFN.out]; exact HRO.out, HB.out⟩
end Go.Proofs.Ytjikbffnhfoikaa
namespace Go.Proofs.Ytjikbffnhfoikaa
open Go.RowKit Go.Sort Go.Maps
set_option maxRecDepth 100000 in
set_option maxHeartbeats 16000000 in
theorem lawRules_c (vL : Value) (L : List E) (w : World) (hE : Ents w vL L) (hL : L.length ≤ maxLen) : Calls Try.prog 7 #[vL] w fun e w' => e = .returned (.bool true) ∧ Below w.heap.size w w' := by
  unfold maxLen at hL
  have HE0 := Lib.hid hE
  obtain ⟨ao, cap, rfl, -, -⟩ := hE
  have hlI : (L.length : Int) ≤ 9223372036854775807 := by omega
  by_cases h3 : 120 < L.length
  · have h3I : (120 : Int) < (L.length : Int) := by omega
    go_enter Try.func7, Try.ntmps7
    go_wp2_with (go_at_call 13; refine (awake_c _).mono ?_; rintro e w1 ⟨rfl, hb1⟩)
    go_ret
    exact ⟨rfl, hb1⟩
  · have h3I : ¬ (120 : Int) < (L.length : Int) := by omega
    have H120 : Hid (L.length ≤ 120) := Lib.hid (by omega)
    clear h3
    go_enter Try.func7, Try.ntmps7
    go_wp2_with (first
      | (go_at_call 24; refine (compress_c _ L (by have := H120.out; omega) _ HE0.out).mono ?_; rintro e w1 ⟨v1, S, rfl, h1, hc, hb1⟩; have H1 := Lib.hid h1; have HC := Lib.hid hc; have HSL := Lib.hid (comp_len hc); have HE1 := Lib.hid (HE0.out.keep hb1); have HB1 := Lib.hid hb1; clear h1 hc hb1)
      | (go_at_call 25; refine (rcompress_c _ L S H120.out HC.out _ HE1.out).mono ?_; rintro e w2 ⟨v2, rfl, h2, hb2⟩; have H2 := Lib.hid h2; have H12 := Lib.hid (H1.out.keep hb2); have HB2 := Lib.hid (HB1.out.trans (hb2.mono HB1.out.size)); clear h2 hb2)
      | (go_at_call 23; refine (lrules_c _ _ S S _ H12.out H2.out (by have := HSL.out; have := H120.out; omega)).mono ?_; rintro e w3 ⟨rfl, hb3⟩; have HB3 := Lib.hid (HB2.out.trans (hb3.mono HB2.out.size)); have hd3 : decide (S = S) = true := decide_eq_true rfl; clear hb3)
      | (go_at_call 13; refine (awake_c _).mono ?_; rintro e w4 ⟨rfl, hb4⟩; have HB4 := Lib.hid (HB3.out.trans (hb4.mono HB3.out.size)); clear hb4))
    go_ret
    exact ⟨rfl, HB4.out⟩
end Go.Proofs.Ytjikbffnhfoikaa
namespace Go.Proofs.Ytjikbffnhfoikaa.expandRules
open Go.ChangeShapes Go.WideShapes Go.ChangeAt Go.RowKit
set_option maxRecDepth 100000 in
set_option maxHeartbeats 1000000 in
theorem lifted (os : Os) (started : os.Started) (H : Type) (enc : TypeId × Value → H) :
    ReturnsInHanded {} Try.checked os 7 .any (Rows.expandRulesSpec.pre6 enc Try.prog Try.f7 Rows.expandRulesRow.domain false) (Rows.expandRulesSpec.post enc Try.prog Try.f7 false true false false) := by
  refine returnsInHanded_of_change (C := Try.checked) Try.own started (by kernel_rfl) Try.func7
    (ChangeSpec.witness6 (enc := enc) (C := Try.checked) false ⟨#[], #[.slice none 0 0], []⟩ 8 (by kernel_rfl) (by kernel_rfl) (by kernel_rfl) (by kernel_rfl)) ?_
  intro W base args ds gs before hval0 hW hcnd _
  have hval : ∀ (j : Nat) t v, Try.f7.params[j]? = some t → args[j]? = some v → Value.okWide Try.prog W .any base t v := hval0
  have hW' := hW
  obtain ⟨p, q, hA0, hV, rfl, hfz, hnd⟩ := hW
  have hA : DataW.TrodAll enc Try.prog W 0 (fun _ => true) true Try.f7.params.toList args.toList ds p := hA0
  rw [Try.params7] at hA hval
  obtain ⟨v0, vs0, d0, ds0, p0, q0, hargs, rfl, rfl, h0, r0⟩ := trodAll_cons hA
  obtain ⟨rfl, rfl, rfl⟩ := trodAll_nil r0
  obtain rfl : args = #[v0] := by cases args; simp_all
  obtain ⟨rfl, rfl⟩ := trodVars_none hV
  have lt0 : ∀ x ∈ p0, x.block < W.heap.size := by obtain ⟨m, hm⟩ := h0; exact DataW.trod_lt m _ _ _ hm
  have k0 := h0
  obtain ⟨L0, hL0, m0⟩ := open_ents (hval 0 52 v0 rfl rfl) h0
  clear hA0 hval0
  refine (lawRules_c v0 L0 W hL0 m0).mono fun e W' ⟨he, bel⟩ => ?_
  subst he
  exact ⟨_, rfl, _, _, _, [], _, [], hW', trodAll_mk1 (shut_bool Try.underlying4 _), (trodAll_cons_mk (Below.trod Try.laidOut (by kernel_rfl) (of_decide_eq_true (by kernel_rfl)) k0 bel lt0) trodAll_mk0), rfl, bel.frame _, fun h => by cases h⟩
theorem proved : Rows.ExpandRulesSaid :=
  OpenClaim.holds_of_wide 7 Try.f7 rfl rfl rfl rfl rfl rfl rfl ⟨rfl, rfl, rfl, rfl, rfl⟩ rfl rfl rfl rfl rfl (by kernel_rfl) Try.func7 (by kernel_rfl)
    (of_decide_eq_true (by kernel_rfl)) (by unfold Func.isWrapper; first | (rw [if_pos (by decide +kernel)]; kernel_rfl) | (rw [if_neg (by decide +kernel)]; exact ⟨rfl, rfl⟩))
    (fun os started H enc _ => lifted os started H enc)
#print axioms proved
end Go.Proofs.Ytjikbffnhfoikaa.expandRules
