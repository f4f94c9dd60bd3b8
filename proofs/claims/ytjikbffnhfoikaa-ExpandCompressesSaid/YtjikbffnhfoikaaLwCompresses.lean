/- P15.6: the rules of Compress have the same entries: the law ExpandCompresses returns true for every list of entries, and its argument reads afterwards as before. Conditions: none. -/
import Derived.Test.YtjikbffnhfoikaaZag
import Derived.Deep.DeepCutAuto
namespace Go.Proofs.Ytjikbffnhfoikaa
open Go.RowKit Go.Sort Go.Maps
/-- the set of what f yields where q holds -/
def collS (q : Tr → Bool) (f : Tr → Int) (P : List Tr) (S : S4) : S4 := P.foldl (fun S z => if q z = true then withS (f z) S else S) S
theorem collS_U (q : Tr → Bool) (f : Tr → Int) : ∀ (P : List Tr) {S : S4}, S.U → (collS q f P S).U
  | [], _, h => h
  | z :: P, S, h => by
    show (collS q f P (if q z = true then withS (f z) S else S)).U
    refine collS_U q f P ?_
    split
    · exact withS_U _ h
    · exact h
theorem has_coll (q : Tr → Bool) (f : Tr → Int) : ∀ (P : List Tr) {S : S4}, S.U → (∀ z ∈ P, 0 ≤ f z ∧ f z < 256) → ∀ n : Int, hasS (collS q f P S) n = true ↔ hasS S n = true ∨ ∃ z ∈ P, q z = true ∧ f z = n
  | [], S, _, _, n => by
    show hasS S n = true ↔ _
    simp
  | z :: P, S, h, hr, n => by
    show hasS (collS q f P (if q z = true then withS (f z) S else S)) n = true ↔ _
    have hU : (if q z = true then withS (f z) S else S).U := by
      split
      · exact withS_U _ h
      · exact h
    rw [has_coll q f P hU (fun y hy => hr y (by simp [hy])) n]
    by_cases hq : q z = true
    · rw [if_pos hq, has_withI (hr z (by simp)) h, Bool.or_eq_true, decide_eq_true_eq]
      constructor
      · rintro ((h1 | h1) | ⟨y, hy, h2⟩)
        · exact .inl h1
        · exact .inr ⟨z, by simp, hq, h1.symm⟩
        · exact .inr ⟨y, by simp [hy], h2⟩
      · rintro (h1 | ⟨y, hy, h2⟩)
        · exact .inl (.inl h1)
        · rcases List.mem_cons.1 hy with rfl | hy
          · exact .inl (.inr h2.2.symm)
          · exact .inr ⟨y, hy, h2⟩
    · rw [if_neg hq]
      constructor
      · rintro (h1 | ⟨y, hy, h2⟩)
        · exact .inl h1
        · exact .inr ⟨y, by simp [hy], h2⟩
      · rintro (h1 | ⟨y, hy, h2⟩)
        · exact .inl h1
        · rcases List.mem_cons.1 hy with rfl | hy
          · exact absurd h2.1 hq
          · exact .inr ⟨y, hy, h2⟩
theorem zero_has (n : Int) : ¬ hasS S4.zero n = true := fun h => by
  obtain ⟨h1, h2⟩ := hasS_in h
  have := has_zero (n := n.toNat) (by omega)
  rw [show ((n.toNat : Nat) : Int) = n by omega, h] at this
  cases this
theorem tgS_coll (P : List Tr) (z : Tr) : tgS P z = collS (fun x => decide (eqT x z)) (fun x => x.t) P S4.zero := by
  unfold tgS collS
  congr 1
  funext S x
  simp only [decide_eq_true_eq]
theorem has_tgS {P : List Tr} (hP : ∀ z ∈ P, 0 ≤ z.t ∧ z.t < 256) (z : Tr) (n : Int) : hasS (tgS P z) n = true ↔ ∃ x ∈ P, eqT x z ∧ x.t = n := by
  rw [tgS_coll, has_coll _ _ P U_zero hP]
  constructor
  · rintro (h | ⟨x, hx, h1, h2⟩)
    · exact absurd h (zero_has n)
    · exact ⟨x, hx, of_decide_eq_true h1, h2⟩
  · rintro ⟨x, hx, h1, h2⟩
    exact .inr ⟨x, hx, decide_eq_true h1, h2⟩
/-- the rule of what z says -/
def ruOf (P : List Tr) (z : Tr) : Ru := ⟨z.m.k, collS (fun x => decide (x.m = z.m) && decide (tgS P x = tgS P z)) (fun x => x.s) P S4.zero, tgS P z, false, z.m.c, z.m.p, z.m.d, ⟨z.wf.1, z.wf.2.1, z.wf.2.2.1, collS_U _ _ P U_zero, tgS_U P z⟩⟩
theorem ruOf_for {P : List Tr} (hS : ∀ z ∈ P, 0 ≤ z.s ∧ z.s < 256) (z : Tr) : ruleFor P (bkOf P z) (ruOf P z) := by
  refine ⟨rfl, rfl, rfl, rfl, rfl, rfl, fun n => ?_⟩
  show hasS (collS _ _ P S4.zero) n = true ↔ _
  rw [has_coll _ _ P U_zero hS]
  constructor
  · rintro (h | ⟨x, hx, h1, h2⟩)
    · exact absurd h (zero_has n)
    · simp only [Bool.and_eq_true, decide_eq_true_eq] at h1
      exact ⟨x, hx, rfl, h1.1, h1.2, h2⟩
  · rintro ⟨x, hx, _, h1, h2, h3⟩
    exact .inr ⟨x, hx, by simp only [Bool.and_eq_true, decide_eq_true_eq]; exact ⟨h1, h2⟩, h3⟩
theorem CompOf.mem_iff {P : List Tr} {S : List Ru} (h : CompOf P S) (hS : ∀ z ∈ P, 0 ≤ z.s ∧ z.s < 256) (r : Ru) : r ∈ S ↔ ∃ z ∈ P, r = ruOf P z := by
  constructor
  · intro hr
    obtain ⟨hs, b, ⟨n, z, hz, _, h1, h2, h3⟩, hb⟩ := (h.2 r).1 hr
    refine ⟨z, hz, ?_⟩
    have e : eqB b (bkOf P z) := ⟨h1.symm, h2.symm⟩
    exact Ru.same (ruleFor_eq e ⟨hs, hb⟩) (ruOf_for hS z)
  · rintro ⟨z, hz, rfl⟩
    have := ruOf_for hS z
    exact (h.2 _).2 ⟨this.1, bkOf P z, ⟨z.s, z, hz, rfl, rfl, rfl, rfl⟩, this.2⟩
theorem len_sub {α : Type} [DecidableEq α] : ∀ {S T : List α}, S.Nodup → (∀ x ∈ S, x ∈ T) → S.length ≤ T.length
  | [], _, _, _ => Nat.zero_le _
  | x :: S, T, h, k => by
    obtain ⟨h1, h2⟩ := List.nodup_cons.1 h
    have hx := k x (by simp)
    have := len_sub (S := S) (T := T.erase x) h2 fun y hy => (List.mem_erase_of_ne (show y ≠ x from fun e => h1 (by rw [← e]; exact hy))).2 (k y (by simp [hy]))
    rw [List.length_erase_of_mem hx] at this
    have : 0 < T.length := List.length_pos_of_mem hx
    simp only [List.length_cons]
    omega
theorem CompOf.len {P : List Tr} {S : List Ru} (h : CompOf P S) (hS : ∀ z ∈ P, 0 ≤ z.s ∧ z.s < 256) : S.length ≤ P.length := by
  have := len_sub (S := S) (T := P.map (ruOf P)) (show S.Nodup from h.1.imp fun {a b} (k : ltR a b) (e : a = b) => ltR_irr a (by rw [← e] at k; exact k)) fun r hr => by
    obtain ⟨z, hz, rfl⟩ := (h.mem_iff hS r).1 hr
    exact List.mem_map.2 ⟨z, hz, rfl⟩
  simpa using this
/-! what the rules say -/
theorem mem_mgE {x : E} {m : Me} : m ∈ mgE x ↔ m.c = x.c ∧ m.d = x.d ∧ m.p ≠ 0#32 ∧ ((m.k = 1 ∧ m.p = x.a) ∨ (m.k = 2 ∧ m.p = x.b) ∨ (m.k = 3 ∧ m.p = x.e)) := by
  unfold mgE mgN
  rw [List.mem_map]
  constructor
  · rintro ⟨y, hy, rfl⟩
    rw [List.mem_filter] at hy
    obtain ⟨h1, h2⟩ := hy
    have h2 : y.p ≠ 0#32 := by simpa using h2
    have h1 : y ∈ mg0 x := List.mem_of_mem_take h1
    simp only [mg0, List.mem_cons, List.not_mem_nil, or_false] at h1
    rcases h1 with rfl | rfl | rfl
    · exact ⟨rfl, rfl, h2, .inl ⟨rfl, rfl⟩⟩
    · exact ⟨rfl, rfl, h2, .inr (.inl ⟨rfl, rfl⟩)⟩
    · exact ⟨rfl, rfl, h2, .inr (.inr ⟨rfl, rfl⟩)⟩
  · rintro ⟨hc, hd, hp, h⟩
    have ht : (mg0 x).take 3 = mg0 x := rfl
    rw [ht]
    refine ⟨⟨m.k, 0, 0, m.p⟩, List.mem_filter.2 ⟨?_, by simpa using hp⟩, Me.same rfl hc.symm hd.symm rfl⟩
    simp only [mg0, List.mem_cons, List.not_mem_nil, or_false]
    rcases h with ⟨h1, h2⟩ | ⟨h1, h2⟩ | ⟨h1, h2⟩
    · exact .inl (Me.same h1 rfl rfl h2)
    · exact .inr (.inl (Me.same h1 rfl rfl h2))
    · exact .inr (.inr (Me.same h1 rfl rfl h2))
theorem mem_trL {L : List E} {z : Tr} : z ∈ trL L ↔ ∃ x ∈ L, isT x.s = true ∧ isT x.t = true ∧ z.m ∈ mgE x ∧ z.s = x.s ∧ z.t = x.t := by
  unfold trL
  rw [List.mem_flatMap]
  constructor
  · rintro ⟨x, hx, h⟩
    unfold trE at h
    split at h
    · rename_i ht
      rw [Bool.and_eq_true] at ht
      obtain ⟨m, hm, rfl⟩ := List.mem_map.1 h
      obtain ⟨a1, a2, a3⟩ := Me.tr_of hm
      exact ⟨x, hx, ht.1, ht.2, by rw [a1]; exact hm, a2, a3⟩
    · simp at h
  · rintro ⟨x, hx, h1, h2, hm, h3, h4⟩
    refine ⟨x, hx, ?_⟩
    unfold trE
    rw [if_pos (by rw [h1, h2]; rfl)]
    refine List.mem_map.2 ⟨z.m, hm, ?_⟩
    obtain ⟨a1, a2, a3⟩ := Me.tr_of hm
    obtain ⟨zm, zs, zt, zw⟩ := z
    dsimp only at h3 h4 a1 a2 a3
    generalize Me.tr zm x = y at *
    obtain ⟨ym, ys, yt, yw⟩ := y
    dsimp only at a1 a2 a3
    subst a1 a2 a3 h3 h4
    rfl
theorem isT_iff {n : Int} : isT n = true ↔ 0 ≤ n ∧ n < 256 := by
  unfold isT
  simp
theorem trL_in {L : List E} {z : Tr} (h : z ∈ trL L) : (0 ≤ z.s ∧ z.s < 256) ∧ (0 ≤ z.t ∧ z.t < 256) := by
  obtain ⟨x, _, h1, h2, _, h3, h4⟩ := mem_trL.1 h
  rw [h3, h4]
  exact ⟨isT_iff.1 h1, isT_iff.1 h2⟩
theorem con_eqV {L : List E} (hs : Strict L) {x z : E} (hx : x ∈ L) (e : eqP x z) : con z L = vec x := con_mem hs hx e
theorem conR_one (g : V → BitVec 32) (hg : ∀ u v, g (orV u v) = g u ||| g v) (hz : g zV = 0#32) (A : BitVec 32) (z : E) : ∀ S : List Ru, (∀ r ∈ S, mB r z = true → g (vR r) = 0#32 ∨ g (vR r) = A) → (A = 0#32 ∨ ∃ r ∈ S, mB r z = true ∧ g (vR r) = A) → g (conR z S) = A
  | [], _, h => by
    rcases h with h | ⟨r, hr, _⟩
    · rw [h]; exact hz
    · simp at hr
  | r :: S, h1, h2 => by
    have e : conR z (r :: S) = orV (if mB r z = true then vR r else zV) (conR z S) := rfl
    rw [e, hg]
    have hrest : g (conR z S) = 0#32 ∨ g (conR z S) = A := by
      have : ∀ T : List Ru, (∀ r ∈ T, mB r z = true → g (vR r) = 0#32 ∨ g (vR r) = A) → g (conR z T) = 0#32 ∨ g (conR z T) = A := by
        intro T
        induction T with
        | nil => intro _; exact .inl hz
        | cons y T ih =>
          intro hT
          have e : conR z (y :: T) = orV (if mB y z = true then vR y else zV) (conR z T) := rfl
          rw [e, hg]
          have i2 := ih fun q hq => hT q (by simp [hq])
          by_cases hm : mB y z = true
          · rw [if_pos hm]
            rcases hT y (by simp) hm with k1 | k1 <;> rcases i2 with k2 | k2 <;> rw [k1, k2] <;> simp
          · rw [if_neg hm, hz]
            rcases i2 with k2 | k2 <;> rw [k2] <;> simp
      exact this S fun q hq => h1 q (by simp [hq])
    by_cases hm : mB r z = true
    · rw [if_pos hm]
      rcases h1 r (by simp) hm with k1 | k1
      · rw [k1, BitVec.zero_or]
        refine conR_one g hg hz A z S (fun q hq => h1 q (by simp [hq])) ?_
        rcases h2 with h | ⟨q, hq, hmq, hA⟩
        · exact .inl h
        · rcases List.mem_cons.1 hq with rfl | hq
          · exact .inl (by rw [← hA, k1])
          · exact .inr ⟨q, hq, hmq, hA⟩
      · rw [k1]
        rcases hrest with k2 | k2 <;> rw [k2] <;> simp
    · rw [if_neg hm, hz, BitVec.zero_or]
      refine conR_one g hg hz A z S (fun q hq => h1 q (by simp [hq])) ?_
      rcases h2 with h | ⟨q, hq, hmq, hA⟩
      · exact .inl h
      · rcases List.mem_cons.1 hq with rfl | hq
        · exact absurd hmq hm
        · exact .inr ⟨q, hq, hmq, hA⟩
end Go.Proofs.Ytjikbffnhfoikaa
namespace Go.Proofs.Ytjikbffnhfoikaa
open Go.RowKit Go.Sort Go.Maps
theorem trL_s {L : List E} : ∀ z ∈ trL L, 0 ≤ z.s ∧ z.s < 256 := fun _ h => (trL_in h).1
theorem trL_t {L : List E} : ∀ z ∈ trL L, 0 ≤ z.t ∧ z.t < 256 := fun _ h => (trL_in h).2
theorem has_src {P : List Tr} (hS : ∀ z ∈ P, 0 ≤ z.s ∧ z.s < 256) (t : Tr) (n : Int) : hasS (ruOf P t).src n = true ↔ ∃ y ∈ P, y.m = t.m ∧ tgS P y = tgS P t ∧ y.s = n := by
  have h := (ruOf_for hS t).2.2.2.2.2.2 n
  rw [h]
  constructor
  · rintro ⟨y, hy, _, h1, h2, h3⟩; exact ⟨y, hy, h1, h2, h3⟩
  · rintro ⟨y, hy, h1, h2, h3⟩; exact ⟨y, hy, rfl, h1, h2, h3⟩
/-- a rule that says something at z stands for an entry with the key of z -/
theorem comp_key1 {L : List E} {t : Tr} {z : E} (hm : mB (ruOf (trL L) t) z = true) : ∃ x ∈ L, eqP x z ∧ t.m ∈ mgE x := by
  unfold mB at hm
  simp only [Bool.and_eq_true, decide_eq_true_eq] at hm
  obtain ⟨hc, hd, hs, hp⟩ := hm
  obtain ⟨y, hy, h1, h2, h3⟩ := (has_src trL_s t z.s).1 hs
  have hp' : hasS (tgS (trL L) t) z.t = true := by
    have hp : (hasS (tgS (trL L) t) z.t || (false && decide (z.s = z.t))) = true := hp
    simpa using hp
  rw [← h2] at hp'
  obtain ⟨u, hu, ⟨e1, e2⟩, e3⟩ := (has_tgS trL_t y z.t).1 hp'
  obtain ⟨x, hx, _, _, hmx, hxs, hxt⟩ := mem_trL.1 hu
  have hum : u.m = t.m := e1.trans h1
  rw [hum] at hmx
  obtain ⟨k1, k2, _⟩ := mem_mgE.1 hmx
  have hc : t.m.c = z.c := hc
  have hd : t.m.d = z.d := hd
  exact ⟨x, hx, ⟨by rw [← hxs, e2, h3], by rw [← hxt, e3], by rw [← k1, hc], by rw [← k2, hd]⟩, hmx⟩
/-- each vector of an entry has a rule that says it -/
theorem comp_key2 {L : List E} {x z : E} (hx : x ∈ L) (hT : isT x.s = true ∧ isT x.t = true) (e : eqP x z) {m : Me} (hm : m ∈ mgE x) : ∃ t ∈ trL L, t.m = m ∧ mB (ruOf (trL L) t) z = true := by
  obtain ⟨a1, a2, a3⟩ := Me.tr_of hm
  have ht : m.tr x ∈ trL L := mem_trL.2 ⟨x, hx, hT.1, hT.2, by rw [a1]; exact hm, a2, a3⟩
  refine ⟨_, ht, a1, ?_⟩
  obtain ⟨k1, k2, _⟩ := mem_mgE.1 hm
  obtain ⟨e1, e2, e3, e4⟩ := e
  unfold mB
  simp only [Bool.and_eq_true, decide_eq_true_eq]
  refine ⟨by show (m.tr x).m.c = z.c; rw [a1, k1, e3], by show (m.tr x).m.d = z.d; rw [a1, k2, e4], (has_src trL_s _ _).2 ⟨_, ht, rfl, rfl, by rw [a2, e1]⟩, ?_⟩
  show (hasS (tgS (trL L) (m.tr x)) z.t || (false && decide (z.s = z.t))) = true
  rw [(has_tgS trL_t _ _).2 ⟨_, ht, ⟨rfl, rfl⟩, by rw [a3, e2]⟩]
  rfl
theorem vR_ru {P : List Tr} (t : Tr) : vR (ruOf P t) = if t.m.k = 1 then ⟨t.m.p, 0#32, 0#32⟩ else if t.m.k = 2 then ⟨0#32, t.m.p, 0#32⟩ else if t.m.k = 3 then ⟨0#32, 0#32, t.m.p⟩ else zV := rfl
theorem comp_con {L : List E} {S : List Ru} (hL : Strict L) (hT : ∀ x ∈ L, isT x.s = true ∧ isT x.t = true) (h : CompOf (trL L) S) (z : E) : conR z S = con z L := by
  have hmem := h.mem_iff trL_s
  have h0 : ∀ (g : V → BitVec 32) (A : BitVec 32), (∀ u v, g (orV u v) = g u ||| g v) → g zV = 0#32 → (∀ x ∈ L, eqP x z → ∀ m ∈ mgE x, ∀ t : Tr, t.m = m → g (vR (ruOf (trL L) t)) = 0#32 ∨ g (vR (ruOf (trL L) t)) = A) →
      (A = 0#32 ∨ ∃ x ∈ L, eqP x z ∧ ∃ m ∈ mgE x, ∀ t : Tr, t.m = m → g (vR (ruOf (trL L) t)) = A) → g (conR z S) = A := by
    intro g A hg hz h1 h2
    refine conR_one g hg hz A z S (fun r hr hm => ?_) ?_
    · obtain ⟨t, _, rfl⟩ := (hmem r).1 hr
      obtain ⟨x, hx, e, hmx⟩ := comp_key1 hm
      exact h1 x hx e _ hmx t rfl
    · rcases h2 with h2 | ⟨x, hx, e, m, hm, h2⟩
      · exact .inl h2
      · obtain ⟨t, ht, htm, hB⟩ := comp_key2 hx (hT x hx) e hm
        exact .inr ⟨_, (hmem _).2 ⟨t, ht, rfl⟩, hB, h2 t htm⟩
  have hv : ∀ u v : V, u.p = v.p → u.q = v.q → u.r = v.r → u = v := fun u v a b c => by
    cases u; cases v
    dsimp only at a b c
    rw [a, b, c]
  have hval : ∀ (x : E), x ∈ L → eqP x z → ∀ m ∈ mgE x, ∀ t : Tr, t.m = m → (vR (ruOf (trL L) t)).p = (if m.k = 1 then x.a else 0#32) ∧ (vR (ruOf (trL L) t)).q = (if m.k = 2 then x.b else 0#32) ∧ (vR (ruOf (trL L) t)).r = (if m.k = 3 then x.e else 0#32) := by
    intro x hx e m hm t ht
    obtain ⟨_, _, _, h3⟩ := mem_mgE.1 hm
    rw [vR_ru, ht]
    rcases h3 with ⟨k, p⟩ | ⟨k, p⟩ | ⟨k, p⟩ <;> rw [k, p] <;> simp
  by_cases hex : ∃ x ∈ L, eqP x z
  · obtain ⟨x, hx, e⟩ := hex
    have hc : con z L = vec x := con_mem hL hx e
    have huniq : ∀ y ∈ L, eqP y z → vec y = vec x := fun y hy ey => by rw [← con_mem hL hy ey, hc]
    rw [hc]
    refine hv _ _ ?_ ?_ ?_
    · refine h0 (fun v => v.p) x.a (fun _ _ => rfl) rfl (fun y hy ey m hm t ht => ?_) ?_
      · show (vR _).p = _ ∨ (vR _).p = _
        rw [(hval y hy ey m hm t ht).1]
        have : y.a = x.a := congrArg V.p (huniq y hy ey)
        by_cases k : m.k = 1
        · rw [if_pos k, this]; exact .inr rfl
        · rw [if_neg k]; exact .inl rfl
      · by_cases k : x.a = 0#32
        · exact .inl k
        · exact .inr ⟨x, hx, e, ⟨1, x.c, x.d, x.a⟩, mem_mgE.2 ⟨rfl, rfl, k, .inl ⟨rfl, rfl⟩⟩, fun t ht => by show (vR _).p = _; rw [(hval x hx e _ (mem_mgE.2 ⟨rfl, rfl, k, .inl ⟨rfl, rfl⟩⟩) t ht).1, if_pos rfl]⟩
    · refine h0 (fun v => v.q) x.b (fun _ _ => rfl) rfl (fun y hy ey m hm t ht => ?_) ?_
      · show (vR _).q = _ ∨ (vR _).q = _
        rw [(hval y hy ey m hm t ht).2.1]
        have : y.b = x.b := congrArg V.q (huniq y hy ey)
        by_cases k : m.k = 2
        · rw [if_pos k, this]; exact .inr rfl
        · rw [if_neg k]; exact .inl rfl
      · by_cases k : x.b = 0#32
        · exact .inl k
        · exact .inr ⟨x, hx, e, ⟨2, x.c, x.d, x.b⟩, mem_mgE.2 ⟨rfl, rfl, k, .inr (.inl ⟨rfl, rfl⟩)⟩, fun t ht => by show (vR _).q = _; rw [(hval x hx e _ (mem_mgE.2 ⟨rfl, rfl, k, .inr (.inl ⟨rfl, rfl⟩)⟩) t ht).2.1, if_pos rfl]⟩
    · refine h0 (fun v => v.r) x.e (fun _ _ => rfl) rfl (fun y hy ey m hm t ht => ?_) ?_
      · show (vR _).r = _ ∨ (vR _).r = _
        rw [(hval y hy ey m hm t ht).2.2]
        have : y.e = x.e := congrArg V.r (huniq y hy ey)
        by_cases k : m.k = 3
        · rw [if_pos k, this]; exact .inr rfl
        · rw [if_neg k]; exact .inl rfl
      · by_cases k : x.e = 0#32
        · exact .inl k
        · exact .inr ⟨x, hx, e, ⟨3, x.c, x.d, x.e⟩, mem_mgE.2 ⟨rfl, rfl, k, .inr (.inr ⟨rfl, rfl⟩)⟩, fun t ht => by show (vR _).r = _; rw [(hval x hx e _ (mem_mgE.2 ⟨rfl, rfl, k, .inr (.inr ⟨rfl, rfl⟩)⟩) t ht).2.2, if_pos rfl]⟩
  · have hc : con z L = zV := con_none z fun x hx e => hex ⟨x, hx, e⟩
    rw [hc]
    refine hv _ _ ?_ ?_ ?_
    · exact h0 (fun v => v.p) 0#32 (fun _ _ => rfl) rfl (fun y hy ey => absurd ⟨y, hy, ey⟩ hex) (.inl rfl)
    · exact h0 (fun v => v.q) 0#32 (fun _ _ => rfl) rfl (fun y hy ey => absurd ⟨y, hy, ey⟩ hex) (.inl rfl)
    · exact h0 (fun v => v.r) 0#32 (fun _ _ => rfl) rfl (fun y hy ey => absurd ⟨y, hy, ey⟩ hex) (.inl rfl)
theorem M_types {L : List E} (hT : ∀ x ∈ L, isT x.s = true ∧ isT x.t = true) : ∀ x ∈ M L, isT x.s = true ∧ isT x.t = true := by
  intro x hx
  have h1 := con_self (M_ne L x hx) hx
  rw [M_con] at h1
  have : ∃ y ∈ L, eqP y x := Classical.byContradiction fun h => h1 (con_none x fun y hy e => h ⟨y, hy, e⟩)
  obtain ⟨y, hy, e⟩ := this
  rw [← e.1, ← e.2.1]
  exact hT y hy
/-- the entries of the rules of Compress -/
theorem comp_entries {L : List E} {S : List Ru} (hT : ∀ x ∈ L, isT x.s = true ∧ isT x.t = true) (h : CompOf (trL (M L)) S) : M (allE S) = M L :=
  M_of fun z => by rw [con_all, comp_con (M_strict L) (M_types hT) h z, M_con]
theorem comp_len {L : List E} {S : List Ru} (h : CompOf (trL (M L)) S) : S.length ≤ 3 * L.length := by
  have h1 := h.len trL_s
  have h2 := trL_len (M L)
  have h3 := M_len L
  omega
end Go.Proofs.Ytjikbffnhfoikaa
namespace Go.Proofs.Ytjikbffnhfoikaa
open Go.RowKit Go.Sort Go.Maps
set_option maxRecDepth 100000 in
set_option maxHeartbeats 16000000 in
theorem lawCompresses_c (vL : Value) (L : List E) (w : World) (hE : Ents w vL L) (hL : L.length ≤ maxLen) : Calls Try.prog 8 #[vL] w fun e w' => e = .returned (.bool true) ∧ Below w.heap.size w w' := by
  unfold maxLen at hL
  have HE0 := Lib.hid hE
  obtain ⟨ao, cap, rfl, hcap, hr⟩ := hE
  have hlI : (L.length : Int) ≤ 9223372036854775807 := by omega
  by_cases h3 : 120 < L.length
  · have h3I : (120 : Int) < (L.length : Int) := by omega
    go_enter Try.func8, Try.ntmps8
    go_wp2_with (go_at_call 13; refine (awake_c _).mono ?_; rintro e w1 ⟨rfl, hb1⟩)
    go_ret
    exact ⟨rfl, hb1⟩
  · have h3I : ¬ (120 : Int) < (L.length : Int) := by omega
    have HLM := Lib.hid (M_len L)
    have HRL := Lib.hid hr
    have h120 : L.length ≤ 120 := by omega
    have H120 := Lib.hid h120
    clear hr h3
    go_enter Try.func8, Try.ntmps8
    go_wp2_with fail
    go_loopw [11] (fun v11 wr => ∃ i : Nat, i ≤ L.length ∧ v11 = .int .i64 i ∧ Hid (∀ j (h : j < L.length), j < i → isT L[j].s = true ∧ isT L[j].t = true) ∧ w = wr) (fun v11 _ => L.length - (intOf v11).toNat)
    case atStart => exact ⟨0, Nat.zero_le _, rfl, Lib.hid (fun j h k => absurd k (by omega)), rfl⟩
    case round =>
      obtain ⟨i, hi, rfl, HT, rfl⟩ := hrel
      by_cases hlt : i < L.length
      · have hlt' : (i : Int) < (L.length : Int) := by omega
        obtain ⟨x, hx⟩ : ∃ x, L[i] = x := ⟨_, rfl⟩
        obtain ⟨g, o, rfl, hR⟩ := HRL.out (by rintro rfl; simp at hlt)
        have hA := hR.at hlt
        rw [hx] at hA
        obtain ⟨q0, q1, q2, q3, q4, q5, q6⟩ := hA
        have HX := Lib.hid hx
        clear hx hR
        go_upto_region 6 with fail
        obtain ⟨b, hb⟩ : ∃ b, (isT x.s && isT x.t) = b := ⟨_, rfl⟩
        have HBB := Lib.hid hb
        clear hb
        go_cut [43] (fun v w' => v = .bool (!b) ∧ w = w')
        case first =>
          have h1 := HBB.out
          by_cases a1 : x.s < 0
          · have hb : b = false := by rw [← h1]; unfold isT; simp; omega
            subst hb
            clear h1
            go_wp2_with fail
            go_meet
            exact ⟨rfl, rfl⟩
          · by_cases a2 : 255 < x.s
            · have hb : b = false := by rw [← h1]; unfold isT; simp; omega
              subst hb
              clear h1
              go_wp2_with fail
              go_meet
              exact ⟨rfl, rfl⟩
            · by_cases a3 : x.t < 0
              · have hb : b = false := by rw [← h1]; unfold isT; simp; omega
                subst hb
                clear h1
                go_wp2_with fail
                go_meet
                exact ⟨rfl, rfl⟩
              · by_cases a4 : 255 < x.t
                · have hb : b = false := by rw [← h1]; unfold isT; simp; omega
                  subst hb
                  clear h1
                  go_wp2_with fail
                  go_meet
                  exact ⟨rfl, rfl⟩
                · have hb : b = true := by rw [← h1]; unfold isT; simp; omega
                  subst hb
                  clear h1
                  go_wp2_with fail
                  go_meet
                  exact ⟨rfl, rfl⟩
        case rest =>
        obtain ⟨rfl, rfl⟩ := hcut
        cases b with
        | false =>
          go_wp2_with (go_at_call 13; refine (awake_c _).mono ?_; rintro e w1 ⟨rfl, hb1⟩)
          go_ret
          exact ⟨rfl, hb1⟩
        | true =>
          go_wp2_with fail
          go_roundw
          case rel =>
            refine ⟨i + 1, hlt, by go_num, Lib.hid (fun j h k => ?_), by first | trivial | rfl⟩
            by_cases e : j < i
            · exact HT.out j h e
            · obtain rfl : j = i := by omega
              rw [HX.out]
              have := HBB.out
              rw [Bool.and_eq_true] at this
              exact this
          case measure => simp [intOf]; omega
      · have hlt' : ¬ (i : Int) < (L.length : Int) := by omega
        have HTT : Hid (∀ x ∈ L, isT x.s = true ∧ isT x.t = true) := Lib.hid fun x hx => by
          obtain ⟨j, hj, rfl⟩ := List.getElem_of_mem hx
          exact HT.out j hj (by omega)
        clear HRL
        go_upto_region 10 with (go_at_call 24; refine (compress_c _ L (by have := H120.out; omega) _ HE0.out).mono ?_; rintro e W ⟨vS, S, rfl, hS, hc, hb1⟩; obtain ⟨aS, cS, hvs, -⟩ := id hS; subst hvs; have HS := Lib.hid hS; have HSL := Lib.hid (comp_len hc); have HSE := Lib.hid (comp_entries HTT.out hc); have HE1 := Lib.hid (HE0.out.keep hb1); have HB1 := Lib.hid hb1; clear hS hc hb1)
        have hs360 : (S.length : Int) ≤ 360 := by have := HSL.out; have := H120.out; omega
        go_wp2_with (first
          | (go_at_call 17; refine (entries_c _ _ _ _ _ _ _ _ _ _ _ _ _ _ _ _ _ S (by have := HSL.out; have := H120.out; omega) (by rw [HSE.out]; have := HLM.out; have := H120.out; omega) _ HS.out).mono ?_; rintro e w2 ⟨v2, rfl, h2, hb2⟩; rw [HSE.out] at h2; have H2 := Lib.hid h2; have HE2 := Lib.hid (HE1.out.keep hb2); have HB2 := Lib.hid (HB1.out.trans (hb2.mono HB1.out.size)); clear h2 hb2)
          | (go_at_call 19; refine (merge_c _ L (by have := H120.out; omega) _ HE2.out).mono ?_; rintro e w3 ⟨v3, rfl, h3, hb3⟩; have H3 := Lib.hid h3; have H23 := Lib.hid (H2.out.keep hb3); have HB3 := Lib.hid (HB2.out.trans (hb3.mono HB2.out.size)); clear h3 hb3)
          | (go_at_call 16; refine (rsame_c _ _ (M L) (M L) _ H23.out H3.out (by have := HLM.out; have := H120.out; omega)).mono ?_; rintro e w4 ⟨rfl, hb4⟩; have HB4 := Lib.hid (HB3.out.trans (hb4.mono HB3.out.size)); have hd4 : decide (M L = M L) = true := decide_eq_true rfl; clear hb4)
          | (go_at_call 13; refine (awake_c _).mono ?_; rintro e w5 ⟨rfl, hb5⟩; have HB5 := Lib.hid (HB4.out.trans (hb5.mono HB4.out.size)); clear hb5))
        go_ret
        exact ⟨rfl, HB5.out⟩
end Go.Proofs.Ytjikbffnhfoikaa
namespace Go.Proofs.Ytjikbffnhfoikaa.expandCompresses
open Go.ChangeShapes Go.WideShapes Go.ChangeAt Go.RowKit
set_option maxRecDepth 100000 in
set_option maxHeartbeats 1000000 in
theorem lifted (os : Os) (started : os.Started) (H : Type) (enc : TypeId × Value → H) :
    ReturnsInHanded {} Try.checked os 8 .any (Rows.expandCompressesSpec.pre6 enc Try.prog Try.f8 Rows.expandCompressesRow.domain false) (Rows.expandCompressesSpec.post enc Try.prog Try.f8 false true false false) := by
  refine returnsInHanded_of_change (C := Try.checked) Try.own started (by kernel_rfl) Try.func8
    (ChangeSpec.witness6 (enc := enc) (C := Try.checked) false ⟨#[], #[.slice none 0 0], []⟩ 8 (by kernel_rfl) (by kernel_rfl) (by kernel_rfl) (by kernel_rfl)) ?_
  intro W base args ds gs before hval0 hW hcnd _
  have hval : ∀ (j : Nat) t v, Try.f8.params[j]? = some t → args[j]? = some v → Value.okWide Try.prog W .any base t v := hval0
  have hW' := hW
  obtain ⟨p, q, hA0, hV, rfl, hfz, hnd⟩ := hW
  have hA : DataW.TrodAll enc Try.prog W 0 (fun _ => true) true Try.f8.params.toList args.toList ds p := hA0
  rw [Try.params8] at hA hval
  obtain ⟨v0, vs0, d0, ds0, p0, q0, hargs, rfl, rfl, h0, r0⟩ := trodAll_cons hA
  obtain ⟨rfl, rfl, rfl⟩ := trodAll_nil r0
  obtain rfl : args = #[v0] := by cases args; simp_all
  obtain ⟨rfl, rfl⟩ := trodVars_none hV
  have lt0 : ∀ x ∈ p0, x.block < W.heap.size := by obtain ⟨m, hm⟩ := h0; exact DataW.trod_lt m _ _ _ hm
  have k0 := h0
  obtain ⟨L0, hL0, m0⟩ := open_ents (hval 0 52 v0 rfl rfl) h0
  clear hA0 hval0
  refine (lawCompresses_c v0 L0 W hL0 m0).mono fun e W' ⟨he, bel⟩ => ?_
  subst he
  exact ⟨_, rfl, _, _, _, [], _, [], hW', trodAll_mk1 (shut_bool Try.underlying4 _), (trodAll_cons_mk (Below.trod Try.laidOut (by kernel_rfl) (of_decide_eq_true (by kernel_rfl)) k0 bel lt0) trodAll_mk0), rfl, bel.frame _, fun h => by cases h⟩
theorem proved : Rows.ExpandCompressesSaid :=
  OpenClaim.holds_of_wide 8 Try.f8 rfl rfl rfl rfl rfl rfl rfl ⟨rfl, rfl, rfl, rfl, rfl⟩ rfl rfl rfl rfl rfl (by kernel_rfl) Try.func8 (by kernel_rfl)
    (of_decide_eq_true (by kernel_rfl)) (by unfold Func.isWrapper; first | (rw [if_pos (by decide +kernel)]; kernel_rfl) | (rw [if_neg (by decide +kernel)]; exact ⟨rfl, rfl⟩))
    (fun os started H enc _ => lifted os started H enc)
#print axioms proved
end Go.Proofs.Ytjikbffnhfoikaa.expandCompresses
