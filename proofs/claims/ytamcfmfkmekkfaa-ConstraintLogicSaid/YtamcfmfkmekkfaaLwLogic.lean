/- P17.2: negation, and and or are those of logic, and the relations of levels exclude and imply each other: the law ConstraintLogic returns true for all expressions and every case, and its arguments read afterwards as before. Conditions: none. -/
import Derived.Test.YtamcfmfkmekkfaaZag
namespace Go.Proofs.Ytamcfmfkmekkfaa
open Go.RowKit Go
theorem wfR_up : ∀ (n : Nat) (x : X), wfR n x = true → wfR (n + 1) x = true
  | 0, x, h => by unfold wfR at h; cases h
  | n + 1, x, h => by
    have e1 : wfR (n + 1) x = ((nodeX x == 0) && x.ks.all (wfR n)) := rfl
    have e2 : wfR (n + 1 + 1) x = ((nodeX x == 0) && x.ks.all (wfR (n + 1))) := rfl
    rw [e1, Bool.and_eq_true, List.all_eq_true] at h
    rw [e2, Bool.and_eq_true, List.all_eq_true]
    exact ⟨h.1, fun k hk => wfR_up n k (h.2 k hk)⟩
theorem valX_up (c : Ca) : ∀ (n k : Nat) (x : X), n ≤ k → okW n x → valX c k x = valX c n x
  | 0, _, x, _, h => False.elim h
  | n + 1, 0, x, h, _ => absurd h (by omega)
  | n + 1, k + 1, x, hnk, hok => by
    have kid : ∀ i, i < x.ks.length → valX c k (kidX x i) = valX c n (kidX x i) := fun i hi => by
      rw [kid_at hi]
      exact valX_up c n k _ (by omega) (hok.2.2.2 _ (List.getElem_mem hi))
    have u : ∀ n, valX c (n + 1) x = if x.op = 2 then !valX c n (kidX x 0) else if x.op = 3 then valX c n (kidX x 0) && valX c n (kidX x 1) else if x.op = 4 then valX c n (kidX x 0) || valX c n (kidX x 1) else if x.op = 9 then hasS x.st (rdX c x.a.toNat).s else relX (rdX c x.a.toNat) x.r (rdX c x.b.toNat) := fun _ => rfl
    rw [u, u]
    have hok1 := hok.1
    unfold okN at hok1
    rcases hok1 with ⟨h2, hl⟩ | ⟨h3 | h4, hl⟩ | ⟨h8, ha, hb⟩ | ⟨h9, ha⟩
    · rw [kid 0 (by omega)]; simp only [h2, if_true]
    · rw [kid 0 (by omega), kid 1 (by omega)]
    · rw [kid 0 (by omega), kid 1 (by omega)]
    · have n2 : ¬ x.op = 2 := by omega
      have n3 : ¬ x.op = 3 := by omega
      have n4 : ¬ x.op = 4 := by omega
      have n9 : ¬ x.op = 9 := by omega
      simp only [if_neg n2, if_neg n3, if_neg n4, if_neg n9]
    · have n2 : ¬ x.op = 2 := by omega
      have n3 : ¬ x.op = 3 := by omega
      have n4 : ¬ x.op = 4 := by omega
      simp only [if_neg n2, if_neg n3, if_neg n4, if_pos h9]
theorem evX_11 (c : Ca) (x : X) (h : wfR 11 x = true) : evX c x = valX c 11 x := by
  unfold evX
  rw [← wfR_X, wfR_up 11 x h, Bool.true_and, valX_up c 11 12 x (by omega) (okW_of 11 x h)]
def notX (a : X) : X := .mk 2 0 0 0 [] S4.zero [a]
def andX (a b : X) : X := .mk 3 0 0 0 [] S4.zero [a, b]
def orX (a b : X) : X := .mk 4 0 0 0 [] S4.zero [a, b]
def relE (i : Int) : X := .mk 8 3 i 9 [] S4.zero []
theorem evX_wf (c : Ca) (x : X) (h : wfR 12 x = true) : evX c x = valX c 12 x := by
  unfold evX
  rw [← wfR_X, h, Bool.true_and]
theorem evX_not (c : Ca) (a : X) (h : wfR 11 a = true) : evX c (notX a) = !evX c a := by
  have hw : wfR 12 (notX a) = true := by
    have e : wfR 12 (notX a) = ((nodeX (notX a) == 0) && [a].all (wfR 11)) := rfl
    have e2 : nodeX (notX a) = 0 := by
      have : nodeX (notX a) = nodeR 2 0 0 0 0 S4.zero 1 := rfl
      rw [this]; decide +kernel
    rw [e, e2]; simp [h]
  rw [evX_wf c _ hw, evX_11 c a h]
  rfl
theorem evX_and (c : Ca) (a b : X) (h : wfR 11 a = true) (h2 : wfR 11 b = true) : evX c (andX a b) = (evX c a && evX c b) := by
  have hw : wfR 12 (andX a b) = true := by
    have e : wfR 12 (andX a b) = ((nodeX (andX a b) == 0) && [a, b].all (wfR 11)) := rfl
    have e2 : nodeX (andX a b) = 0 := by
      have : nodeX (andX a b) = nodeR 3 0 0 0 0 S4.zero 2 := rfl
      rw [this]; decide +kernel
    rw [e, e2]; simp [h, h2]
  rw [evX_wf c _ hw, evX_11 c a h, evX_11 c b h2]
  rfl
theorem evX_or (c : Ca) (a b : X) (h : wfR 11 a = true) (h2 : wfR 11 b = true) : evX c (orX a b) = (evX c a || evX c b) := by
  have hw : wfR 12 (orX a b) = true := by
    have e : wfR 12 (orX a b) = ((nodeX (orX a b) == 0) && [a, b].all (wfR 11)) := rfl
    have e2 : nodeX (orX a b) = 0 := by
      have : nodeX (orX a b) = nodeR 4 0 0 0 0 S4.zero 2 := rfl
      rw [this]; decide +kernel
    rw [e, e2]; simp [h, h2]
  rw [evX_wf c _ hw, evX_11 c a h, evX_11 c b h2]
  rfl
theorem evX_rel (c : Ca) (i : Nat) (hi : i < 5) : evX c (relE i) = relX (rdX c 3) i (rdX c 9) := by
  have hw : wfR 12 (relE i) = true := by
    have e : wfR 12 (relE i) = ((nodeX (relE i) == 0) && true) := rfl
    have e2 : nodeX (relE i) = 0 := by
      have : nodeX (relE i) = nodeR 8 3 i 9 0 S4.zero 0 := rfl
      rw [this]
      have hh : i = 0 ∨ i = 1 ∨ i = 2 ∨ i = 3 ∨ i = 4 := by omega
      rcases hh with rfl | rfl | rfl | rfl | rfl <;> decide +kernel
    rw [e, e2]; rfl
  rw [evX_wf c _ hw]
  rfl
theorem dom_anti (a b : Lv) (h1 : domX a b = true) (h2 : domX b a = true) : a = b := by
  unfold domX domL at h1 h2
  rw [Bool.and_eq_true, decide_eq_true_eq] at h1 h2
  have ha : a.c < U64n := a.wf
  have hb : b.c < U64n := b.wf
  have s1 := (subL_iff ha).1 h1.2
  have s2 := (subL_iff hb).1 h2.2
  refine lv_eq (by omega) (Nat.eq_of_testBit_eq fun i => ?_)
  by_cases hi : i < 64
  · cases e : a.c.testBit i with
    | true => exact (s2 i hi e).symm
    | false =>
      cases e2 : b.c.testBit i with
      | true => rw [s1 i hi e2] at e; cases e
      | false => rfl
  · have p : (2 : Nat) ^ 64 ≤ 2 ^ i := Nat.pow_le_pow_right (by omega) (by omega)
    rw [Nat.testBit_lt_two_pow (Nat.lt_of_lt_of_le (show a.c < 2 ^ 64 from ha) p), Nat.testBit_lt_two_pow (Nat.lt_of_lt_of_le (show b.c < 2 ^ 64 from hb) p)]
theorem dom_self (a : Lv) : domX a a = true := by
  unfold domX domL
  have ha : a.c < U64n := a.wf
  rw [Bool.and_eq_true, decide_eq_true_eq]
  exact ⟨Int.le_refl _, (subL_iff ha).2 fun _ _ h => h⟩
theorem rel0 (a b : Lv) : relX a 0 b = (domX a b && domX b a) := by
  have e : relX a 0 b = decide (a = b) := rfl
  rw [e]
  by_cases h : a = b
  · subst h; rw [dom_self]; simp
  · rw [decide_eq_false h]
    cases h1 : domX a b with
    | false => rfl
    | true =>
      cases h2 : domX b a with
      | false => rfl
      | true => exact absurd (dom_anti a b h1 h2) h
theorem rel1 (a b : Lv) : relX a 1 b = !(domX a b && domX b a) := by
  rw [← rel0]; rfl
theorem rel2 (a b : Lv) : relX a 2 b = domX a b := rfl
theorem rel3 (a b : Lv) : relX a 3 b = domX b a := rfl
theorem rel4 (a b : Lv) : relX a 4 b = (!domX a b && !domX b a) := by
  have e : relX a 4 b = decide (relN a b = 4) := rfl
  rw [e]
  unfold relN relL
  by_cases h : a.s = b.s ∧ a.c = b.c
  · obtain rfl : a = b := lv_eq h.1 h.2
    rw [if_pos h, dom_self]; rfl
  · rw [if_neg h]
    have q1 : domL a.s a.c b.s b.c = domX a b := rfl
    have q2 : domL b.s b.c a.s a.c = domX b a := rfl
    rw [q1, q2]
    cases domX a b <;> cases domX b a <;> rfl
end Go.Proofs.Ytamcfmfkmekkfaa
namespace Go.Proofs.Ytamcfmfkmekkfaa
open Go.RowKit Go
section
variable {P : Program} {ops : Array Oper} {Q : Exit → Act → World → Prop} {a : Act} {w : World} {rest : List Oper} {o : Oper}
theorem wpList_val (hw : Region.wanted o (yielded ops a.tmps) = true) (h : ∃ v w', (execOp a.eval o).run P w = .ok (.value v) w' ∧ wpList P ops Q rest (a.put o.dst v) w') : wpList P ops Q (o :: rest) a w := by
  obtain ⟨v, w', h1, h2⟩ := h
  unfold wpList
  rw [if_pos hw]
  refine .inl ?_
  unfold Oper.wp
  rw [h1]
  exact h2
theorem wpList_enter {v : Value} {f : FuncId} {args : Array Value} (hw : Region.wanted o (yielded ops a.tmps) = true) (h : (execOp a.eval o).run P w = .ok (.enter f args) w) (hc : Calls P f args w fun e w' => e = .returned v ∧ Below w.heap.size w w')
    (hK : ∀ w', Below w.heap.size w w' → wpList P ops Q rest (a.put o.dst v) w') : wpList P ops Q (o :: rest) a w := by
  unfold wpList
  rw [if_pos hw]
  refine .inl ?_
  unfold Oper.wp
  rw [h]
  refine hc.mono ?_
  rintro e w' ⟨rfl, hb⟩
  exact hK w' hb
theorem wpList_skip (hw : Region.wanted o (yielded ops a.tmps) = false) (hK : wpList P ops Q rest (a.put o.dst undef) w) : wpList P ops Q (o :: rest) a w := by
  unfold wpList
  rw [if_neg (by simp [hw])]
  exact hK
end
theorem XAt_of {w : World} {vn vk : Value} {x : X} {g o : Nat} (h : XV w vn vk x) (hc : ∀ k v, [.int .i64 x.op, .int .i64 x.a, .int .i64 x.r, .int .i64 x.b, vn, .int .u64 x.st.a, .int .u64 x.st.b, .int .u64 x.st.c, .int .u64 x.st.d, vk][k]? = some v → w.cell? ⟨g, o + k, none⟩ = some v) : XAt w g o x := by
  obtain ⟨h1, ⟨ao, cap, e, hcp, hr⟩, hw⟩ := h
  obtain ⟨op, a, r, b, ns, st, ks⟩ := x
  have h1 : Strs w vn ns := h1
  have e : vk = .slice ao ks.length cap := e
  subst e
  unfold XAt
  exact ⟨hc 0 _ rfl, hc 1 _ rfl, hc 2 _ rfl, hc 3 _ rfl, ⟨vn, hc 4 _ rfl, h1⟩, hc 5 _ rfl, hc 6 _ rfl, hc 7 _ rfl, hc 8 _ rfl, ⟨ao, cap, hc 9 _ rfl, hcp, fun hl => by
    obtain ⟨g', o', e, hg, hR⟩ := hr hl
    exact ⟨g', o', e, hg, XRow_of hR⟩⟩, hw⟩
theorem u0 : U64 S4.zero.a ∧ U64 S4.zero.b ∧ U64 S4.zero.c ∧ U64 S4.zero.d := by unfold U64; decide
theorem xw_of (op a r b : Int) (k : Nat) (h1 : 0 ≤ op ∧ op < 100) (h2 : 0 ≤ a ∧ a < 100) (h3 : 0 ≤ r ∧ r < 100) (h4 : 0 ≤ b ∧ b < 100) (hk : k ≤ 2) : XW op a r b [] S4.zero k := by
  have i : ∀ n : Int, 0 ≤ n ∧ n < 100 → I64 n := fun n h => by unfold I64; omega
  exact ⟨i _ h1, i _ h2, i _ h3, i _ h4, (by intro s hs; cases hs), u0, Nat.zero_le _, Nat.le_trans hk (by unfold maxLen; omega)⟩
theorem xv_not {w W : World} {vn vk : Value} {a : X} {g : Nat} {t : TypeId} (h : XV w vn vk a) (hk : Kp w W) (hb : Blk W g t #[.int .i64 a.op, .int .i64 a.a, .int .i64 a.r, .int .i64 a.b, vn, .int .u64 a.st.a, .int .u64 a.st.b, .int .u64 a.st.c, .int .u64 a.st.d, vk]) : XV W (.slice none 0 0) (.slice (some ⟨g, 0, none⟩) 1 1) (notX a) := by
  refine ⟨Strs.nil, ⟨some ⟨g, 0, none⟩, 1, rfl, Nat.le_refl _, fun _ => ⟨g, 0, rfl, hb.lt, fun i hi => ?_⟩⟩, xw_of 2 0 0 0 1 (by decide) (by decide) (by decide) (by decide) (by decide)⟩
  have hi : i < 1 := hi
  obtain rfl : i = 0 := by omega
  show XAt W g (0 + 0 * 10) a
  exact XAt_of (h.keep hk) fun k v hv => by rw [Nat.zero_mul, Nat.zero_add, hb.cell k]; exact (by simpa using hv)
theorem two_at {w W : World} {vn vk vn2 vk2 : Value} {a b : X} {g : Nat} {t : TypeId} (h : XV w vn vk a) (h2 : XV w vn2 vk2 b) (hk : Kp w W) (hb : Blk W g t (([.int .i64 a.op, .int .i64 a.a, .int .i64 a.r, .int .i64 a.b, vn, .int .u64 a.st.a, .int .u64 a.st.b, .int .u64 a.st.c, .int .u64 a.st.d, vk] : List Value) ++ ([.int .i64 b.op, .int .i64 b.a, .int .i64 b.r, .int .i64 b.b, vn2, .int .u64 b.st.a, .int .u64 b.st.b, .int .u64 b.st.c, .int .u64 b.st.d, vk2] : List Value)).toArray) : SlR 10 XAt W (.slice (some ⟨g, 0, none⟩) 2 2) [a, b] := by
  refine ⟨some ⟨g, 0, none⟩, 2, rfl, Nat.le_refl _, fun _ => ⟨g, 0, rfl, hb.lt, fun i hi => ?_⟩⟩
  have hi : i < 2 := hi
  have hh : i = 0 ∨ i = 1 := by omega
  rcases hh with rfl | rfl
  · show XAt W g (0 + 0 * 10) a
    refine XAt_of (h.keep hk) fun k v hv => ?_
    have hlt := (List.getElem?_eq_some_iff.1 hv).1
    rw [Nat.zero_mul, Nat.zero_add, hb.cell k, List.getElem?_toArray, List.getElem?_append_left hlt]
    exact hv
  · show XAt W g (0 + 1 * 10) b
    refine XAt_of (h2.keep hk) fun k v hv => ?_
    rw [hb.cell _, List.getElem?_toArray, List.getElem?_append_right (by simp only [List.length_cons, List.length_nil]; omega)]
    have e : 0 + 1 * 10 + k - ([.int .i64 a.op, .int .i64 a.a, .int .i64 a.r, .int .i64 a.b, vn, .int .u64 a.st.a, .int .u64 a.st.b, .int .u64 a.st.c, .int .u64 a.st.d, vk] : List Value).length = k := by simp only [List.length_cons, List.length_nil]; omega
    rw [e]; exact hv
theorem xv_and {W : World} {vk : Value} {a b : X} (h : SlR 10 XAt W vk [a, b]) : XV W (.slice none 0 0) vk (andX a b) := ⟨Strs.nil, h, xw_of 3 0 0 0 2 (by decide) (by decide) (by decide) (by decide) (by decide)⟩
theorem xv_or {W : World} {vk : Value} {a b : X} (h : SlR 10 XAt W vk [a, b]) : XV W (.slice none 0 0) vk (orX a b) := ⟨Strs.nil, h, xw_of 4 0 0 0 2 (by decide) (by decide) (by decide) (by decide) (by decide)⟩
theorem xv_rel {W : World} (i : Nat) (hi : i < 5) : XV W (.slice none 0 0) (.slice none 0 0) (relE i) := ⟨Strs.nil, SlR.nil, xw_of 8 3 i 9 0 (by decide) (by decide) (by omega) (by decide) (by decide)⟩
end Go.Proofs.Ytamcfmfkmekkfaa
namespace Go.Proofs.Ytamcfmfkmekkfaa
open Go.RowKit Go
def bl5 (b : Nat → Bool) (i : Nat) : Array Value := #[.bool (decide (0 < i) && b 0), .bool (decide (1 < i) && b 1), .bool (decide (2 < i) && b 2), .bool (decide (3 < i) && b 3), .bool (decide (4 < i) && b 4)]
theorem bl5_zero (b : Nat → Bool) : bl5 b 0 = #[.bool false, .bool false, .bool false, .bool false, .bool false] := rfl
theorem bl5_at (b : Nat → Bool) (i : Nat) (h : i < 5) : (bl5 b i)[i]? = some (.bool false) := by
  have hh : i = 0 ∨ i = 1 ∨ i = 2 ∨ i = 3 ∨ i = 4 := by omega
  rcases hh with rfl | rfl | rfl | rfl | rfl <;> rfl
theorem bl5_set (b : Nat → Bool) (i : Nat) (h : i < 5) : (bl5 b i).setIfInBounds i (.bool (b i)) = bl5 b (i + 1) := by
  have hh : i = 0 ∨ i = 1 ∨ i = 2 ∨ i = 3 ∨ i = 4 := by omega
  rcases hh with rfl | rfl | rfl | rfl | rfl <;> rfl
set_option maxRecDepth 100000 in
set_option maxHeartbeats 32000000 in
theorem lawLogic_c (x y : X) (vn vk vn2 vk2 : Value) (c : Ca) (w : World) (hV : XV w vn vk x) (hV2 : XV w vn2 vk2 y) : Calls Try.prog 4 #[.agg #[.int .i64 x.op, .int .i64 x.a, .int .i64 x.r, .int .i64 x.b, vn, .int .u64 x.st.a, .int .u64 x.st.b, .int .u64 x.st.c, .int .u64 x.st.d, vk], .agg #[.int .i64 y.op, .int .i64 y.a, .int .i64 y.r, .int .i64 y.b, vn2, .int .u64 y.st.a, .int .u64 y.st.b, .int .u64 y.st.c, .int .u64 y.st.d, vk2], .agg #[.int .i64 c.c1.u, .int .i64 c.c1.ro, .int .i64 c.c1.ty, .int .i64 c.c1.lo.s, .int .u64 c.c1.lo.c, .int .i64 c.c1.hi.s, .int .u64 c.c1.hi.c, .int .i64 c.c2.u, .int .i64 c.c2.ro, .int .i64 c.c2.ty, .int .i64 c.c2.lo.s, .int .u64 c.c2.lo.c, .int .i64 c.c2.hi.s, .int .u64 c.c2.hi.c, .int .i64 c.c3.u, .int .i64 c.c3.ro, .int .i64 c.c3.ty, .int .i64 c.c3.lo.s, .int .u64 c.c3.lo.c, .int .i64 c.c3.hi.s, .int .u64 c.c3.hi.c]] w fun e w' => e = .returned (.bool true) ∧ Below w.heap.size w w' := by
  obtain ⟨ao, cap, ak, ck, rfl, rfl⟩ := hV.form
  obtain ⟨bo, cbp, bk, cbk, rfl, rfl⟩ := hV2.form
  have HXC : Hid (XC (((w.alloc (.cells #[.int .i64 x.op, .int .i64 x.a, .int .i64 x.r, .int .i64 x.b, .slice ao x.ns.length cap, .int .u64 x.st.a, .int .u64 x.st.b, .int .u64 x.st.c, .int .u64 x.st.d, .slice ak x.ks.length ck] 28)).alloc (.cells #[.int .i64 y.op, .int .i64 y.a, .int .i64 y.r, .int .i64 y.b, .slice bo y.ns.length cbp, .int .u64 y.st.a, .int .u64 y.st.b, .int .u64 y.st.c, .int .u64 y.st.d, .slice bk y.ks.length cbk] 28)).alloc (.cells #[.int .i64 c.c1.u, .int .i64 c.c1.ro, .int .i64 c.c1.ty, .int .i64 c.c1.lo.s, .int .u64 c.c1.lo.c, .int .i64 c.c1.hi.s, .int .u64 c.c1.hi.c, .int .i64 c.c2.u, .int .i64 c.c2.ro, .int .i64 c.c2.ty, .int .i64 c.c2.lo.s, .int .u64 c.c2.lo.c, .int .i64 c.c2.hi.s, .int .u64 c.c2.hi.c, .int .i64 c.c3.u, .int .i64 c.c3.ro, .int .i64 c.c3.ty, .int .i64 c.c3.lo.s, .int .u64 c.c3.lo.c, .int .i64 c.c3.hi.s, .int .u64 c.c3.hi.c] 36)) w.heap.size 0 x.op x.a x.r x.b ao x.ns.length cap x.st ak x.ks.length ck) := Lib.hid (XC.of_blk (((Blk.new w _ _).alloc _).alloc _))
  have HYC : Hid (XC (((w.alloc (.cells #[.int .i64 x.op, .int .i64 x.a, .int .i64 x.r, .int .i64 x.b, .slice ao x.ns.length cap, .int .u64 x.st.a, .int .u64 x.st.b, .int .u64 x.st.c, .int .u64 x.st.d, .slice ak x.ks.length ck] 28)).alloc (.cells #[.int .i64 y.op, .int .i64 y.a, .int .i64 y.r, .int .i64 y.b, .slice bo y.ns.length cbp, .int .u64 y.st.a, .int .u64 y.st.b, .int .u64 y.st.c, .int .u64 y.st.d, .slice bk y.ks.length cbk] 28)).alloc (.cells #[.int .i64 c.c1.u, .int .i64 c.c1.ro, .int .i64 c.c1.ty, .int .i64 c.c1.lo.s, .int .u64 c.c1.lo.c, .int .i64 c.c1.hi.s, .int .u64 c.c1.hi.c, .int .i64 c.c2.u, .int .i64 c.c2.ro, .int .i64 c.c2.ty, .int .i64 c.c2.lo.s, .int .u64 c.c2.lo.c, .int .i64 c.c2.hi.s, .int .u64 c.c2.hi.c, .int .i64 c.c3.u, .int .i64 c.c3.ro, .int .i64 c.c3.ty, .int .i64 c.c3.lo.s, .int .u64 c.c3.lo.c, .int .i64 c.c3.hi.s, .int .u64 c.c3.hi.c] 36)) (w.heap.size + 1) 0 y.op y.a y.r y.b bo y.ns.length cbp y.st bk y.ks.length cbk) := Lib.hid (XC.of_blk ((two_new' _ _ _ _).alloc _))
  have HC : Hid (Blk (((w.alloc (.cells #[.int .i64 x.op, .int .i64 x.a, .int .i64 x.r, .int .i64 x.b, .slice ao x.ns.length cap, .int .u64 x.st.a, .int .u64 x.st.b, .int .u64 x.st.c, .int .u64 x.st.d, .slice ak x.ks.length ck] 28)).alloc (.cells #[.int .i64 y.op, .int .i64 y.a, .int .i64 y.r, .int .i64 y.b, .slice bo y.ns.length cbp, .int .u64 y.st.a, .int .u64 y.st.b, .int .u64 y.st.c, .int .u64 y.st.d, .slice bk y.ks.length cbk] 28)).alloc (.cells #[.int .i64 c.c1.u, .int .i64 c.c1.ro, .int .i64 c.c1.ty, .int .i64 c.c1.lo.s, .int .u64 c.c1.lo.c, .int .i64 c.c1.hi.s, .int .u64 c.c1.hi.c, .int .i64 c.c2.u, .int .i64 c.c2.ro, .int .i64 c.c2.ty, .int .i64 c.c2.lo.s, .int .u64 c.c2.lo.c, .int .i64 c.c2.hi.s, .int .u64 c.c2.hi.c, .int .i64 c.c3.u, .int .i64 c.c3.ro, .int .i64 c.c3.ty, .int .i64 c.c3.lo.s, .int .u64 c.c3.lo.c, .int .i64 c.c3.hi.s, .int .u64 c.c3.hi.c] 36)) (w.heap.size + 1 + 1) 36 #[.int .i64 c.c1.u, .int .i64 c.c1.ro, .int .i64 c.c1.ty, .int .i64 c.c1.lo.s, .int .u64 c.c1.lo.c, .int .i64 c.c1.hi.s, .int .u64 c.c1.hi.c, .int .i64 c.c2.u, .int .i64 c.c2.ro, .int .i64 c.c2.ty, .int .i64 c.c2.lo.s, .int .u64 c.c2.lo.c, .int .i64 c.c2.hi.s, .int .u64 c.c2.hi.c, .int .i64 c.c3.u, .int .i64 c.c3.ro, .int .i64 c.c3.ty, .int .i64 c.c3.lo.s, .int .u64 c.c3.lo.c, .int .i64 c.c3.hi.s, .int .u64 c.c3.hi.c]) := Lib.hid (three_new' _ _ _ _ _)
  have HB : Hid (Below w.heap.size w (((w.alloc (.cells #[.int .i64 x.op, .int .i64 x.a, .int .i64 x.r, .int .i64 x.b, .slice ao x.ns.length cap, .int .u64 x.st.a, .int .u64 x.st.b, .int .u64 x.st.c, .int .u64 x.st.d, .slice ak x.ks.length ck] 28)).alloc (.cells #[.int .i64 y.op, .int .i64 y.a, .int .i64 y.r, .int .i64 y.b, .slice bo y.ns.length cbp, .int .u64 y.st.a, .int .u64 y.st.b, .int .u64 y.st.c, .int .u64 y.st.d, .slice bk y.ks.length cbk] 28)).alloc (.cells #[.int .i64 c.c1.u, .int .i64 c.c1.ro, .int .i64 c.c1.ty, .int .i64 c.c1.lo.s, .int .u64 c.c1.lo.c, .int .i64 c.c1.hi.s, .int .u64 c.c1.hi.c, .int .i64 c.c2.u, .int .i64 c.c2.ro, .int .i64 c.c2.ty, .int .i64 c.c2.lo.s, .int .u64 c.c2.lo.c, .int .i64 c.c2.hi.s, .int .u64 c.c2.hi.c, .int .i64 c.c3.u, .int .i64 c.c3.ro, .int .i64 c.c3.ty, .int .i64 c.c3.lo.s, .int .u64 c.c3.lo.c, .int .i64 c.c3.hi.s, .int .u64 c.c3.hi.c] 36))) := Lib.hid ((((Below.refl _ _).alloc (Nat.le_refl _) _).alloc (by simp) _).alloc (by simp only [World.size_alloc]; omega) _)
  have HG0 : Hid (w.heap.size < (((w.alloc (.cells #[.int .i64 x.op, .int .i64 x.a, .int .i64 x.r, .int .i64 x.b, .slice ao x.ns.length cap, .int .u64 x.st.a, .int .u64 x.st.b, .int .u64 x.st.c, .int .u64 x.st.d, .slice ak x.ks.length ck] 28)).alloc (.cells #[.int .i64 y.op, .int .i64 y.a, .int .i64 y.r, .int .i64 y.b, .slice bo y.ns.length cbp, .int .u64 y.st.a, .int .u64 y.st.b, .int .u64 y.st.c, .int .u64 y.st.d, .slice bk y.ks.length cbk] 28)).alloc (.cells #[.int .i64 c.c1.u, .int .i64 c.c1.ro, .int .i64 c.c1.ty, .int .i64 c.c1.lo.s, .int .u64 c.c1.lo.c, .int .i64 c.c1.hi.s, .int .u64 c.c1.hi.c, .int .i64 c.c2.u, .int .i64 c.c2.ro, .int .i64 c.c2.ty, .int .i64 c.c2.lo.s, .int .u64 c.c2.lo.c, .int .i64 c.c2.hi.s, .int .u64 c.c2.hi.c, .int .i64 c.c3.u, .int .i64 c.c3.ro, .int .i64 c.c3.ty, .int .i64 c.c3.lo.s, .int .u64 c.c3.lo.c, .int .i64 c.c3.hi.s, .int .u64 c.c3.hi.c] 36)).heap.size) := Lib.hid (by simp only [World.size_alloc]; omega)
  have HG1 : Hid (w.heap.size + 1 < (((w.alloc (.cells #[.int .i64 x.op, .int .i64 x.a, .int .i64 x.r, .int .i64 x.b, .slice ao x.ns.length cap, .int .u64 x.st.a, .int .u64 x.st.b, .int .u64 x.st.c, .int .u64 x.st.d, .slice ak x.ks.length ck] 28)).alloc (.cells #[.int .i64 y.op, .int .i64 y.a, .int .i64 y.r, .int .i64 y.b, .slice bo y.ns.length cbp, .int .u64 y.st.a, .int .u64 y.st.b, .int .u64 y.st.c, .int .u64 y.st.d, .slice bk y.ks.length cbk] 28)).alloc (.cells #[.int .i64 c.c1.u, .int .i64 c.c1.ro, .int .i64 c.c1.ty, .int .i64 c.c1.lo.s, .int .u64 c.c1.lo.c, .int .i64 c.c1.hi.s, .int .u64 c.c1.hi.c, .int .i64 c.c2.u, .int .i64 c.c2.ro, .int .i64 c.c2.ty, .int .i64 c.c2.lo.s, .int .u64 c.c2.lo.c, .int .i64 c.c2.hi.s, .int .u64 c.c2.hi.c, .int .i64 c.c3.u, .int .i64 c.c3.ro, .int .i64 c.c3.ty, .int .i64 c.c3.lo.s, .int .u64 c.c3.lo.c, .int .i64 c.c3.hi.s, .int .u64 c.c3.hi.c] 36)).heap.size) := Lib.hid (by simp only [World.size_alloc]; omega)
  have HSA : Hid (∀ u, Kp w u → Calls Try.prog 6 #[.agg #[.int .i64 x.op, .int .i64 x.a, .int .i64 x.r, .int .i64 x.b, .slice ao x.ns.length cap, .int .u64 x.st.a, .int .u64 x.st.b, .int .u64 x.st.c, .int .u64 x.st.d, .slice ak x.ks.length ck], .int .i64 15] u fun e w' => e = .returned (.bool (smX 15 x)) ∧ Below u.heap.size u w') := Lib.hid fun u hu => small_c 15 x _ _ u (by decide) (hV.keep hu)
  have HSB : Hid (∀ u, Kp w u → Calls Try.prog 6 #[.agg #[.int .i64 y.op, .int .i64 y.a, .int .i64 y.r, .int .i64 y.b, .slice bo y.ns.length cbp, .int .u64 y.st.a, .int .u64 y.st.b, .int .u64 y.st.c, .int .u64 y.st.d, .slice bk y.ks.length cbk], .int .i64 15] u fun e w' => e = .returned (.bool (smX 15 y)) ∧ Below u.heap.size u w') := Lib.hid fun u hu => small_c 15 y _ _ u (by decide) (hV2.keep hu)
  have HWA : Hid (∀ u, Kp w u → Calls Try.prog 10 #[.agg #[.int .i64 x.op, .int .i64 x.a, .int .i64 x.r, .int .i64 x.b, .slice ao x.ns.length cap, .int .u64 x.st.a, .int .u64 x.st.b, .int .u64 x.st.c, .int .u64 x.st.d, .slice ak x.ks.length ck], .int .i64 11] u fun e w' => e = .returned (.bool (wfR 11 x)) ∧ Below u.heap.size u w') := Lib.hid fun u hu => wellFormed_c 11 x _ _ u (by decide) (hV.keep hu)
  have HWB : Hid (∀ u, Kp w u → Calls Try.prog 10 #[.agg #[.int .i64 y.op, .int .i64 y.a, .int .i64 y.r, .int .i64 y.b, .slice bo y.ns.length cbp, .int .u64 y.st.a, .int .u64 y.st.b, .int .u64 y.st.c, .int .u64 y.st.d, .slice bk y.ks.length cbk], .int .i64 11] u fun e w' => e = .returned (.bool (wfR 11 y)) ∧ Below u.heap.size u w') := Lib.hid fun u hu => wellFormed_c 11 y _ _ u (by decide) (hV2.keep hu)
  have HEX : Hid (∀ u, Kp w u → Calls Try.prog 8 #[.agg #[.int .i64 x.op, .int .i64 x.a, .int .i64 x.r, .int .i64 x.b, .slice ao x.ns.length cap, .int .u64 x.st.a, .int .u64 x.st.b, .int .u64 x.st.c, .int .u64 x.st.d, .slice ak x.ks.length ck], .agg #[.int .i64 c.c1.u, .int .i64 c.c1.ro, .int .i64 c.c1.ty, .int .i64 c.c1.lo.s, .int .u64 c.c1.lo.c, .int .i64 c.c1.hi.s, .int .u64 c.c1.hi.c, .int .i64 c.c2.u, .int .i64 c.c2.ro, .int .i64 c.c2.ty, .int .i64 c.c2.lo.s, .int .u64 c.c2.lo.c, .int .i64 c.c2.hi.s, .int .u64 c.c2.hi.c, .int .i64 c.c3.u, .int .i64 c.c3.ro, .int .i64 c.c3.ty, .int .i64 c.c3.lo.s, .int .u64 c.c3.lo.c, .int .i64 c.c3.hi.s, .int .u64 c.c3.hi.c]] u fun e w' => e = .returned (.bool (evX c x)) ∧ Below u.heap.size u w') := Lib.hid fun u hu => eval_c x _ _ c u (hV.keep hu)
  have HEY : Hid (∀ u, Kp w u → Calls Try.prog 8 #[.agg #[.int .i64 y.op, .int .i64 y.a, .int .i64 y.r, .int .i64 y.b, .slice bo y.ns.length cbp, .int .u64 y.st.a, .int .u64 y.st.b, .int .u64 y.st.c, .int .u64 y.st.d, .slice bk y.ks.length cbk], .agg #[.int .i64 c.c1.u, .int .i64 c.c1.ro, .int .i64 c.c1.ty, .int .i64 c.c1.lo.s, .int .u64 c.c1.lo.c, .int .i64 c.c1.hi.s, .int .u64 c.c1.hi.c, .int .i64 c.c2.u, .int .i64 c.c2.ro, .int .i64 c.c2.ty, .int .i64 c.c2.lo.s, .int .u64 c.c2.lo.c, .int .i64 c.c2.hi.s, .int .u64 c.c2.hi.c, .int .i64 c.c3.u, .int .i64 c.c3.ro, .int .i64 c.c3.ty, .int .i64 c.c3.lo.s, .int .u64 c.c3.lo.c, .int .i64 c.c3.hi.s, .int .u64 c.c3.hi.c]] u fun e w' => e = .returned (.bool (evX c y)) ∧ Below u.heap.size u w') := Lib.hid fun u hu => eval_c y _ _ c u (hV2.keep hu)
  have HAW : Hid (∀ u, Calls Try.prog 7 #[] u fun e w' => e = .returned (.bool true) ∧ Below u.heap.size u w') := Lib.hid awake_c
  have HV := Lib.hid hV
  have HV2 := Lib.hid hV2
  obtain ⟨sa, hsa⟩ : ∃ m, smX 15 x = m := ⟨_, rfl⟩
  obtain ⟨sb, hsb⟩ : ∃ m, smX 15 y = m := ⟨_, rfl⟩
  obtain ⟨wa, hwa⟩ : ∃ m, wfR 11 x = m := ⟨_, rfl⟩
  obtain ⟨wb, hwb⟩ : ∃ m, wfR 11 y = m := ⟨_, rfl⟩
  have HWA0 := Lib.hid hwa
  have HWB0 := Lib.hid hwb
  rw [hsa] at HSA
  rw [hsb] at HSB
  rw [hwa] at HWA
  rw [hwb] at HWB
  clear hV hV2 hsa hsb hwa hwb
  go_enter Try.func4, Try.ntmps4
  go_upto_region 1 with fail
  generalize ((w.alloc (.cells #[.int .i64 x.op, .int .i64 x.a, .int .i64 x.r, .int .i64 x.b, .slice ao x.ns.length cap, .int .u64 x.st.a, .int .u64 x.st.b, .int .u64 x.st.c, .int .u64 x.st.d, .slice ak x.ks.length ck] 28)).alloc (.cells #[.int .i64 y.op, .int .i64 y.a, .int .i64 y.r, .int .i64 y.b, .slice bo y.ns.length cbp, .int .u64 y.st.a, .int .u64 y.st.b, .int .u64 y.st.c, .int .u64 y.st.d, .slice bk y.ks.length cbk] 28)).alloc (.cells #[.int .i64 c.c1.u, .int .i64 c.c1.ro, .int .i64 c.c1.ty, .int .i64 c.c1.lo.s, .int .u64 c.c1.lo.c, .int .i64 c.c1.hi.s, .int .u64 c.c1.hi.c, .int .i64 c.c2.u, .int .i64 c.c2.ro, .int .i64 c.c2.ty, .int .i64 c.c2.lo.s, .int .u64 c.c2.lo.c, .int .i64 c.c2.hi.s, .int .u64 c.c2.hi.c, .int .i64 c.c3.u, .int .i64 c.c3.ro, .int .i64 c.c3.ty, .int .i64 c.c3.lo.s, .int .u64 c.c3.lo.c, .int .i64 c.c3.hi.s, .int .u64 c.c3.hi.c] 36) = W at *
  have HLE : Hid (w.heap.size ≤ W.heap.size) := Lib.hid HB.out.size
  have HKB : Hid (∀ W1, Kp W W1 → Kp w W1) := Lib.hid (fun W1 h => kpb HB.out HLE.out h)
  generalize w.heap.size + 1 + 1 = gc at *
  generalize w.heap.size + 1 = gf at *
  generalize hge : w.heap.size = ge at *
  have HGge : Hid (ge < W.heap.size) := HG0
  have HGgf : Hid (gf < W.heap.size) := HG1
  have HK0 : Hid (Kp W W) := Lib.hid (Below.refl _ _)
  cases sa with
  | false =>
    refine wp_region_kq ?_
    repeat (first
        | go_big_quiet_skip
        | (go_big_quiet_want
           first
             | (refine quiet_load (t := 28) (.tmp 3) rfl rfl (fun w1 hC => loadAt_expr (HXC.out.keep (Below.block hC ge HGge.out))) ?_; simp only [Act.put, List.setIfInBounds_toArray, List.set_cons_succ, List.set_cons_zero]; go_big_quiet_on)
             | (refine quiet_load (t := 28) (.tmp 4) rfl rfl (fun w1 hC => loadAt_expr (HYC.out.keep (Below.block hC gf HGgf.out))) ?_; simp only [Act.put, List.setIfInBounds_toArray, List.set_cons_succ, List.set_cons_zero]; go_big_quiet_on)
             | (go_big_quiet_op
                first
                  | go_big_quiet_on
                  | (apply Exists.intro
                     refine ⟨fun w1 hC => ?_, ?_⟩
                     · first
                         | (go_at_call 6; with_reducible exact hC.call (HSA.out _ (HKB.out _ hC)))
                         | (go_at_call 6; with_reducible exact hC.call (HSB.out _ (HKB.out _ hC)))
                         | (go_at_call 10; with_reducible exact hC.call (HWA.out _ (HKB.out _ hC)))
                         | (go_at_call 10; with_reducible exact hC.call (HWB.out _ (HKB.out _ hC)))
                         | exact rfl
                         | (go_simp; exact ⟨rfl, rfl⟩)
                     go_big_quiet_on))))
    refine wpQuiet_nil ?_
    intro W1 hC1
    have HK1 : Hid (Kp W W1) := Lib.hid hC1
    clear hC1
    go_wp2_with (go_at_call 7; (with_reducible refine (HAW.out _).mono ?_); rintro e w2 ⟨rfl, hb2⟩; have HB2 := Lib.hid (HB.out.trans (Below.mono (Kp.step HK1.out hb2) HLE.out)); clear hb2)
    go_ret
    exact ⟨rfl, by first | exact HB2.out | (rw [hge]; exact HB2.out)⟩
  | true =>
    cases sb with
    | false =>
      refine wp_region_kq ?_
      repeat (first
          | go_big_quiet_skip
          | (go_big_quiet_want
             first
               | (refine quiet_load (t := 28) (.tmp 3) rfl rfl (fun w1 hC => loadAt_expr (HXC.out.keep (Below.block hC ge HGge.out))) ?_; simp only [Act.put, List.setIfInBounds_toArray, List.set_cons_succ, List.set_cons_zero]; go_big_quiet_on)
               | (refine quiet_load (t := 28) (.tmp 4) rfl rfl (fun w1 hC => loadAt_expr (HYC.out.keep (Below.block hC gf HGgf.out))) ?_; simp only [Act.put, List.setIfInBounds_toArray, List.set_cons_succ, List.set_cons_zero]; go_big_quiet_on)
               | (go_big_quiet_op
                  first
                    | go_big_quiet_on
                    | (apply Exists.intro
                       refine ⟨fun w1 hC => ?_, ?_⟩
                       · first
                           | (go_at_call 6; with_reducible exact hC.call (HSA.out _ (HKB.out _ hC)))
                           | (go_at_call 6; with_reducible exact hC.call (HSB.out _ (HKB.out _ hC)))
                           | (go_at_call 10; with_reducible exact hC.call (HWA.out _ (HKB.out _ hC)))
                           | (go_at_call 10; with_reducible exact hC.call (HWB.out _ (HKB.out _ hC)))
                           | exact rfl
                           | (go_simp; exact ⟨rfl, rfl⟩)
                       go_big_quiet_on))))
      refine wpQuiet_nil ?_
      intro W1 hC1
      have HK1 : Hid (Kp W W1) := Lib.hid hC1
      clear hC1
      go_wp2_with (go_at_call 7; (with_reducible refine (HAW.out _).mono ?_); rintro e w2 ⟨rfl, hb2⟩; have HB2 := Lib.hid (HB.out.trans (Below.mono (Kp.step HK1.out hb2) HLE.out)); clear hb2)
      go_ret
      exact ⟨rfl, by first | exact HB2.out | (rw [hge]; exact HB2.out)⟩
    | true =>
      cases wa with
      | false =>
        refine wp_region_kq ?_
        repeat (first
            | go_big_quiet_skip
            | (go_big_quiet_want
               first
                 | (refine quiet_load (t := 28) (.tmp 3) rfl rfl (fun w1 hC => loadAt_expr (HXC.out.keep (Below.block hC ge HGge.out))) ?_; simp only [Act.put, List.setIfInBounds_toArray, List.set_cons_succ, List.set_cons_zero]; go_big_quiet_on)
                 | (refine quiet_load (t := 28) (.tmp 4) rfl rfl (fun w1 hC => loadAt_expr (HYC.out.keep (Below.block hC gf HGgf.out))) ?_; simp only [Act.put, List.setIfInBounds_toArray, List.set_cons_succ, List.set_cons_zero]; go_big_quiet_on)
                 | (go_big_quiet_op
                    first
                      | go_big_quiet_on
                      | (apply Exists.intro
                         refine ⟨fun w1 hC => ?_, ?_⟩
                         · first
                             | (go_at_call 6; with_reducible exact hC.call (HSA.out _ (HKB.out _ hC)))
                             | (go_at_call 6; with_reducible exact hC.call (HSB.out _ (HKB.out _ hC)))
                             | (go_at_call 10; with_reducible exact hC.call (HWA.out _ (HKB.out _ hC)))
                             | (go_at_call 10; with_reducible exact hC.call (HWB.out _ (HKB.out _ hC)))
                             | exact rfl
                             | (go_simp; exact ⟨rfl, rfl⟩)
                         go_big_quiet_on))))
        refine wpQuiet_nil ?_
        intro W1 hC1
        have HK1 : Hid (Kp W W1) := Lib.hid hC1
        clear hC1
        go_wp2_with (go_at_call 7; (with_reducible refine (HAW.out _).mono ?_); rintro e w2 ⟨rfl, hb2⟩; have HB2 := Lib.hid (HB.out.trans (Below.mono (Kp.step HK1.out hb2) HLE.out)); clear hb2)
        go_ret
        exact ⟨rfl, by first | exact HB2.out | (rw [hge]; exact HB2.out)⟩
      | true =>
        cases wb with
        | false =>
          refine wp_region_kq ?_
          repeat (first
              | go_big_quiet_skip
              | (go_big_quiet_want
                 first
                   | (refine quiet_load (t := 28) (.tmp 3) rfl rfl (fun w1 hC => loadAt_expr (HXC.out.keep (Below.block hC ge HGge.out))) ?_; simp only [Act.put, List.setIfInBounds_toArray, List.set_cons_succ, List.set_cons_zero]; go_big_quiet_on)
                   | (refine quiet_load (t := 28) (.tmp 4) rfl rfl (fun w1 hC => loadAt_expr (HYC.out.keep (Below.block hC gf HGgf.out))) ?_; simp only [Act.put, List.setIfInBounds_toArray, List.set_cons_succ, List.set_cons_zero]; go_big_quiet_on)
                   | (go_big_quiet_op
                      first
                        | go_big_quiet_on
                        | (apply Exists.intro
                           refine ⟨fun w1 hC => ?_, ?_⟩
                           · first
                               | (go_at_call 6; with_reducible exact hC.call (HSA.out _ (HKB.out _ hC)))
                               | (go_at_call 6; with_reducible exact hC.call (HSB.out _ (HKB.out _ hC)))
                               | (go_at_call 10; with_reducible exact hC.call (HWA.out _ (HKB.out _ hC)))
                               | (go_at_call 10; with_reducible exact hC.call (HWB.out _ (HKB.out _ hC)))
                               | exact rfl
                               | (go_simp; exact ⟨rfl, rfl⟩)
                           go_big_quiet_on))))
          refine wpQuiet_nil ?_
          intro W1 hC1
          have HK1 : Hid (Kp W W1) := Lib.hid hC1
          clear hC1
          go_wp2_with (go_at_call 7; (with_reducible refine (HAW.out _).mono ?_); rintro e w2 ⟨rfl, hb2⟩; have HB2 := Lib.hid (HB.out.trans (Below.mono (Kp.step HK1.out hb2) HLE.out)); clear hb2)
          go_ret
          exact ⟨rfl, by first | exact HB2.out | (rw [hge]; exact HB2.out)⟩
        | true =>
          refine wp_region_kq ?_
          repeat (first
              | go_big_quiet_skip
              | (go_big_quiet_want
                 first
                   | (refine quiet_load (t := 28) (.tmp 3) rfl rfl (fun w1 hC => loadAt_expr (HXC.out.keep (Below.block hC ge HGge.out))) ?_; simp only [Act.put, List.setIfInBounds_toArray, List.set_cons_succ, List.set_cons_zero]; go_big_quiet_on)
                   | (refine quiet_load (t := 28) (.tmp 4) rfl rfl (fun w1 hC => loadAt_expr (HYC.out.keep (Below.block hC gf HGgf.out))) ?_; simp only [Act.put, List.setIfInBounds_toArray, List.set_cons_succ, List.set_cons_zero]; go_big_quiet_on)
                   | (go_big_quiet_op
                      first
                        | go_big_quiet_on
                        | (apply Exists.intro
                           refine ⟨fun w1 hC => ?_, ?_⟩
                           · first
                               | (go_at_call 6; with_reducible exact hC.call (HSA.out _ (HKB.out _ hC)))
                               | (go_at_call 6; with_reducible exact hC.call (HSB.out _ (HKB.out _ hC)))
                               | (go_at_call 10; with_reducible exact hC.call (HWA.out _ (HKB.out _ hC)))
                               | (go_at_call 10; with_reducible exact hC.call (HWB.out _ (HKB.out _ hC)))
                               | exact rfl
                               | (go_simp; exact ⟨rfl, rfl⟩)
                           go_big_quiet_on))))
          refine wpQuiet_nil ?_
          intro W1 hC1
          have HK1 : Hid (Kp W W1) := Lib.hid hC1
          clear hC1
          go_upto_region 3 with fail
          have HX1 := Lib.hid (HXC.out.keep (HK1.out.block ge HGge.out))
          have HY1 := Lib.hid (HYC.out.keep (HK1.out.block gf HGgf.out))
          have HD1 := Lib.hid (HC.out.keep HK1.out)
          have HL1 : Hid (W.heap.size ≤ W1.heap.size) := Lib.hid (Below.size HK1.out)
          have HGge1 : Hid (ge < W1.heap.size) := Lib.hid (Nat.lt_of_lt_of_le HGge.out HL1.out)
          have HGgf1 : Hid (gf < W1.heap.size) := Lib.hid (Nat.lt_of_lt_of_le HGgf.out HL1.out)
          have HU1 : Hid (∀ u, Kp W1 u → Kp w u) := Lib.hid (fun u h => HKB.out _ (Kp.step HK1.out h))
          clear HSA HSB HWA HWB
          obtain ⟨ex, hex⟩ : ∃ m, evX c x = m := ⟨_, rfl⟩
          obtain ⟨ey, hey⟩ : ∃ m, evX c y = m := ⟨_, rfl⟩
          have HN0 : Hid (evX c (notX x) = !ex) := Lib.hid (by rw [← hex]; exact evX_not c x HWA0.out)
          have HA0 : Hid (evX c (andX x y) = (ex && ey)) := Lib.hid (by rw [← hex, ← hey]; exact evX_and c x y HWA0.out HWB0.out)
          have HO0 : Hid (evX c (orX x y) = (ex || ey)) := Lib.hid (by rw [← hex, ← hey]; exact evX_or c x y HWA0.out HWB0.out)
          rw [hex] at HEX
          rw [hey] at HEY
          clear hex hey
          refine wp_region_kp (by kernel_rfl) (by kernel_rfl) ?_
          repeat (first
              | go_big_quiet_skip
              | (go_big_quiet_want
                 first
                   | (refine quiet_load (t := 28) (.tmp 3) rfl rfl (fun w1 hC => loadAt_expr (HX1.out.keep (Below.block hC ge HGge1.out))) ?_; simp only [Act.put, List.setIfInBounds_toArray, List.set_cons_succ, List.set_cons_zero]; go_big_quiet_on)
                   | (refine quiet_load (t := 28) (.tmp 4) rfl rfl (fun w1 hC => loadAt_expr (HY1.out.keep (Below.block hC gf HGgf1.out))) ?_; simp only [Act.put, List.setIfInBounds_toArray, List.set_cons_succ, List.set_cons_zero]; go_big_quiet_on)
                   | (refine quiet_load (t := 36) (.tmp 5) rfl rfl (fun w1 hC => loadAt_case (Blk.keep HD1.out hC)) ?_; simp only [Act.put, List.setIfInBounds_toArray, List.set_cons_succ, List.set_cons_zero]; go_big_quiet_on)
                   | (go_big_quiet_op
                      first
                        | go_big_quiet_on
                        | (apply Exists.intro
                           refine ⟨fun w1 hC => ?_, ?_⟩
                           · first
                               | (go_at_call 8; with_reducible exact hC.call (HEX.out _ (HU1.out _ hC)))
                               | (go_at_call 8; with_reducible exact hC.call (HEY.out _ (HU1.out _ hC)))
                               | exact rfl
                               | (go_simp; exact ⟨rfl, rfl⟩)
                           go_big_quiet_on))))
          refine wpQuiet_nil ?_
          intro W2 hC2
          have HK2 : Hid (Kp W W2) := Lib.hid (Kp.step HK1.out hC2)
          clear hC2
          clear HX1 HY1 HD1 HL1 HGge1 HGgf1 HU1
          go_upto_region 4 with fail
          have HX2 := Lib.hid (HXC.out.keep (HK2.out.block ge HGge.out))
          have HY2 := Lib.hid (HYC.out.keep (HK2.out.block gf HGgf.out))
          have HD2 := Lib.hid (HC.out.keep HK2.out)
          have HL2 : Hid (W.heap.size ≤ W2.heap.size) := Lib.hid (Below.size HK2.out)
          have HGge2 : Hid (ge < W2.heap.size) := Lib.hid (Nat.lt_of_lt_of_le HGge.out HL2.out)
          have HGgf2 : Hid (gf < W2.heap.size) := Lib.hid (Nat.lt_of_lt_of_le HGgf.out HL2.out)
          have HU2 : Hid (∀ u, Kp W2 u → Kp w u) := Lib.hid (fun u h => HKB.out _ (Kp.step HK2.out h))
          refine wp_region_lit ?_
          refine wpList_load (by rfl) (.tmp 3) rfl rfl (loadAt_expr HX2.out) ?_
          simp only [Act.put, List.setIfInBounds_toArray, List.set_cons_succ, List.set_cons_zero]
          refine wpList_load (by rfl) (.tmp 4) rfl rfl (loadAt_expr HY2.out) ?_
          simp only [Act.put, List.setIfInBounds_toArray, List.set_cons_succ, List.set_cons_zero]
          refine wpList_val (by rfl) ?_
          go_simp
          refine ⟨_, _, ⟨rfl, rfl⟩, ?_⟩
          try simp only [Act.put, List.setIfInBounds_toArray, List.set_cons_succ, List.set_cons_zero]
          have HTW : Hid (Blk (W2.alloc (.cells #[.int .i64 x.op, .int .i64 x.a, .int .i64 x.r, .int .i64 x.b, .slice ao x.ns.length cap, .int .u64 x.st.a, .int .u64 x.st.b, .int .u64 x.st.c, .int .u64 x.st.d, .slice ak x.ks.length ck, .int .i64 y.op, .int .i64 y.a, .int .i64 y.r, .int .i64 y.b, .slice bo y.ns.length cbp, .int .u64 y.st.a, .int .u64 y.st.b, .int .u64 y.st.c, .int .u64 y.st.d, .slice bk y.ks.length cbk] 28)) W2.heap.size 28 (([.int .i64 x.op, .int .i64 x.a, .int .i64 x.r, .int .i64 x.b, .slice ao x.ns.length cap, .int .u64 x.st.a, .int .u64 x.st.b, .int .u64 x.st.c, .int .u64 x.st.d, .slice ak x.ks.length ck] : List Value) ++ ([.int .i64 y.op, .int .i64 y.a, .int .i64 y.r, .int .i64 y.b, .slice bo y.ns.length cbp, .int .u64 y.st.a, .int .u64 y.st.b, .int .u64 y.st.c, .int .u64 y.st.d, .slice bk y.ks.length cbk] : List Value)).toArray) := Lib.hid (Blk.new _ _ _)
          have HK3 : Hid (Kp W (W2.alloc (.cells #[.int .i64 x.op, .int .i64 x.a, .int .i64 x.r, .int .i64 x.b, .slice ao x.ns.length cap, .int .u64 x.st.a, .int .u64 x.st.b, .int .u64 x.st.c, .int .u64 x.st.d, .slice ak x.ks.length ck, .int .i64 y.op, .int .i64 y.a, .int .i64 y.r, .int .i64 y.b, .slice bo y.ns.length cbp, .int .u64 y.st.a, .int .u64 y.st.b, .int .u64 y.st.c, .int .u64 y.st.d, .slice bk y.ks.length cbk] 28))) := Lib.hid (Kp.alloc HK2.out _)
          clear HX2 HY2 HD2 HL2 HGge2 HGgf2 HU2
          clear HK2
          generalize (W2.alloc (.cells #[.int .i64 x.op, .int .i64 x.a, .int .i64 x.r, .int .i64 x.b, .slice ao x.ns.length cap, .int .u64 x.st.a, .int .u64 x.st.b, .int .u64 x.st.c, .int .u64 x.st.d, .slice ak x.ks.length ck, .int .i64 y.op, .int .i64 y.a, .int .i64 y.r, .int .i64 y.b, .slice bo y.ns.length cbp, .int .u64 y.st.a, .int .u64 y.st.b, .int .u64 y.st.c, .int .u64 y.st.d, .slice bk y.ks.length cbk] 28)) = W3 at *
          generalize W2.heap.size = g2 at *
          have HTT : Hid (∀ u, Kp W3 u → SlR 10 XAt u (.slice (some ⟨g2, 0, none⟩) 2 2) [x, y]) := Lib.hid (fun u hu => two_at HV.out HV2.out (HKB.out _ (Kp.step HK3.out hu)) (HTW.out.keep hu))
          go_upto_region 5 with fail
          have HX3 := Lib.hid (HXC.out.keep (HK3.out.block ge HGge.out))
          have HY3 := Lib.hid (HYC.out.keep (HK3.out.block gf HGgf.out))
          have HD3 := Lib.hid (HC.out.keep HK3.out)
          have HL3 : Hid (W.heap.size ≤ W3.heap.size) := Lib.hid (Below.size HK3.out)
          have HGge3 : Hid (ge < W3.heap.size) := Lib.hid (Nat.lt_of_lt_of_le HGge.out HL3.out)
          have HGgf3 : Hid (gf < W3.heap.size) := Lib.hid (Nat.lt_of_lt_of_le HGgf.out HL3.out)
          have HU3 : Hid (∀ u, Kp W3 u → Kp w u) := Lib.hid (fun u h => HKB.out _ (Kp.step HK3.out h))
          cases ex with
          | false =>
            cases ey with
            | false =>
              have HN1 : Hid (evX c (notX x) = true) := Lib.hid HN0.out
              have HA1 : Hid (evX c (andX x y) = false) := Lib.hid HA0.out
              have HO1 : Hid (evX c (orX x y) = false) := Lib.hid HO0.out
              clear HN0 HA0 HO0
              refine wp_region_lit ?_
              refine wpList_load (by rfl) (.tmp 3) rfl rfl (loadAt_expr HX3.out) ?_
              simp only [Act.put, List.setIfInBounds_toArray, List.set_cons_succ, List.set_cons_zero]
              refine wpList_val (by rfl) ?_
              go_simp
              refine ⟨_, _, ⟨rfl, rfl⟩, ?_⟩
              try simp only [Act.put, List.setIfInBounds_toArray, List.set_cons_succ, List.set_cons_zero]
              have HS4 : Hid (Blk (W3.alloc (.cells #[.int .i64 x.op, .int .i64 x.a, .int .i64 x.r, .int .i64 x.b, .slice ao x.ns.length cap, .int .u64 x.st.a, .int .u64 x.st.b, .int .u64 x.st.c, .int .u64 x.st.d, .slice ak x.ks.length ck] 28)) W3.heap.size 28 #[.int .i64 x.op, .int .i64 x.a, .int .i64 x.r, .int .i64 x.b, .slice ao x.ns.length cap, .int .u64 x.st.a, .int .u64 x.st.b, .int .u64 x.st.c, .int .u64 x.st.d, .slice ak x.ks.length ck]) := Lib.hid (Blk.new _ _ _)
              have HK4 : Hid (Kp W (W3.alloc (.cells #[.int .i64 x.op, .int .i64 x.a, .int .i64 x.r, .int .i64 x.b, .slice ao x.ns.length cap, .int .u64 x.st.a, .int .u64 x.st.b, .int .u64 x.st.c, .int .u64 x.st.d, .slice ak x.ks.length ck] 28))) := Lib.hid (Kp.alloc HK3.out _)
              have HT4 : Hid (Kp W3 (W3.alloc (.cells #[.int .i64 x.op, .int .i64 x.a, .int .i64 x.r, .int .i64 x.b, .slice ao x.ns.length cap, .int .u64 x.st.a, .int .u64 x.st.b, .int .u64 x.st.c, .int .u64 x.st.d, .slice ak x.ks.length ck] 28))) := Lib.hid (Kp.alloc (Below.refl _ _) _)
              clear HX3 HY3 HD3 HL3 HGge3 HGgf3 HU3
              generalize (W3.alloc (.cells #[.int .i64 x.op, .int .i64 x.a, .int .i64 x.r, .int .i64 x.b, .slice ao x.ns.length cap, .int .u64 x.st.a, .int .u64 x.st.b, .int .u64 x.st.c, .int .u64 x.st.d, .slice ak x.ks.length ck] 28)) = W4 at *
              generalize W3.heap.size = g4 at *
              have HD4 := Lib.hid (HC.out.keep HK4.out)
              refine wpList_val (by rfl) ?_
              go_simp
              refine ⟨_, _, ⟨rfl, rfl⟩, ?_⟩
              try simp only [Act.put, List.setIfInBounds_toArray, List.set_cons_succ, List.set_cons_zero]
              refine wpList_load (by rfl) (.tmp 5) rfl rfl (loadAt_case HD4.out) ?_
              simp only [Act.put, List.setIfInBounds_toArray, List.set_cons_succ, List.set_cons_zero]
              refine wpList_enter (v := .bool true) (by rfl) (by go_simp; exact ⟨rfl, rfl⟩) (by have h := eval_c (notX x) _ _ c W4 (xv_not HV.out (HKB.out _ HK4.out) HS4.out); rw [HN1.out] at h; exact h) (fun W5 hC5 => ?_)
              simp only [Act.put, List.setIfInBounds_toArray, List.set_cons_succ, List.set_cons_zero]
              have HK5 : Hid (Kp W W5) := Lib.hid (Kp.step HK4.out hC5)
              have HD5 := Lib.hid (HC.out.keep HK5.out)
              have HT5 : Hid (Kp W3 W5) := Lib.hid (Kp.step HT4.out hC5)
              clear hC5
              refine wpList_val (by rfl) ?_
              go_simp
              refine ⟨_, _, ⟨rfl, rfl⟩, ?_⟩
              try simp only [Act.put, List.setIfInBounds_toArray, List.set_cons_succ, List.set_cons_zero]
              refine wpList_val (by rfl) ?_
              go_simp
              refine ⟨_, _, ⟨rfl, rfl⟩, ?_⟩
              try simp only [Act.put, List.setIfInBounds_toArray, List.set_cons_succ, List.set_cons_zero]
              refine wpList_val (by rfl) ?_
              go_simp
              refine ⟨_, _, ⟨rfl, rfl⟩, ?_⟩
              try simp only [Act.put, List.setIfInBounds_toArray, List.set_cons_succ, List.set_cons_zero]
              refine wpList_val (by rfl) ?_
              go_simp
              refine ⟨_, _, ⟨rfl, rfl⟩, ?_⟩
              try simp only [Act.put, List.setIfInBounds_toArray, List.set_cons_succ, List.set_cons_zero]
              refine wpList_val (by rfl) ?_
              go_simp
              refine ⟨_, _, ⟨rfl, rfl⟩, ?_⟩
              try simp only [Act.put, List.setIfInBounds_toArray, List.set_cons_succ, List.set_cons_zero]
              refine wpList_load (by rfl) (.tmp 5) rfl rfl (loadAt_case HD5.out) ?_
              simp only [Act.put, List.setIfInBounds_toArray, List.set_cons_succ, List.set_cons_zero]
              refine wpList_enter (v := .bool false) (by rfl) (by go_simp; exact ⟨rfl, rfl⟩) (by have h := eval_c (andX x y) _ _ c W5 (xv_and (HTT.out _ HT5.out)); rw [HA1.out] at h; exact h) (fun W6 hC6 => ?_)
              simp only [Act.put, List.setIfInBounds_toArray, List.set_cons_succ, List.set_cons_zero]
              have HK6 : Hid (Kp W W6) := Lib.hid (Kp.step HK5.out hC6)
              have HD6 := Lib.hid (HC.out.keep HK6.out)
              have HT6 : Hid (Kp W3 W6) := Lib.hid (Kp.step HT5.out hC6)
              clear hC6
              refine wpList_val (by rfl) ?_
              go_simp
              refine ⟨_, _, ⟨rfl, rfl⟩, ?_⟩
              try simp only [Act.put, List.setIfInBounds_toArray, List.set_cons_succ, List.set_cons_zero]
              refine wpList_val (by rfl) ?_
              go_simp
              refine ⟨_, _, ⟨rfl, rfl⟩, ?_⟩
              try simp only [Act.put, List.setIfInBounds_toArray, List.set_cons_succ, List.set_cons_zero]
              refine wpList_skip (by rfl) ?_
              simp only [Act.put, List.setIfInBounds_toArray, List.set_cons_succ, List.set_cons_zero]
              refine wpList_val (by rfl) ?_
              go_simp
              refine ⟨_, _, ⟨rfl, rfl⟩, ?_⟩
              try simp only [Act.put, List.setIfInBounds_toArray, List.set_cons_succ, List.set_cons_zero]
              refine wpList_val (by rfl) ?_
              go_simp
              refine ⟨_, _, ⟨rfl, rfl⟩, ?_⟩
              try simp only [Act.put, List.setIfInBounds_toArray, List.set_cons_succ, List.set_cons_zero]
              refine wpList_val (by rfl) ?_
              go_simp
              refine ⟨_, _, ⟨rfl, rfl⟩, ?_⟩
              try simp only [Act.put, List.setIfInBounds_toArray, List.set_cons_succ, List.set_cons_zero]
              refine wpList_val (by rfl) ?_
              go_simp
              refine ⟨_, _, ⟨rfl, rfl⟩, ?_⟩
              try simp only [Act.put, List.setIfInBounds_toArray, List.set_cons_succ, List.set_cons_zero]
              refine wpList_val (by rfl) ?_
              go_simp
              refine ⟨_, _, ⟨rfl, rfl⟩, ?_⟩
              try simp only [Act.put, List.setIfInBounds_toArray, List.set_cons_succ, List.set_cons_zero]
              refine wpList_val (by rfl) ?_
              go_simp
              refine ⟨_, _, ⟨rfl, rfl⟩, ?_⟩
              try simp only [Act.put, List.setIfInBounds_toArray, List.set_cons_succ, List.set_cons_zero]
              refine wpList_load (by rfl) (.tmp 5) rfl rfl (loadAt_case HD6.out) ?_
              simp only [Act.put, List.setIfInBounds_toArray, List.set_cons_succ, List.set_cons_zero]
              refine wpList_enter (v := .bool false) (by rfl) (by go_simp; exact ⟨rfl, rfl⟩) (by have h := eval_c (orX x y) _ _ c W6 (xv_or (HTT.out _ HT6.out)); rw [HO1.out] at h; exact h) (fun W7 hC7 => ?_)
              simp only [Act.put, List.setIfInBounds_toArray, List.set_cons_succ, List.set_cons_zero]
              have HK7 : Hid (Kp W W7) := Lib.hid (Kp.step HK6.out hC7)
              have HD7 := Lib.hid (HC.out.keep HK7.out)
              have HT7 : Hid (Kp W3 W7) := Lib.hid (Kp.step HT6.out hC7)
              clear hC7
              refine wpList_val (by rfl) ?_
              go_simp
              refine ⟨_, _, ⟨rfl, rfl⟩, ?_⟩
              try simp only [Act.put, List.setIfInBounds_toArray, List.set_cons_succ, List.set_cons_zero]
              refine wpList_val (by rfl) ?_
              go_simp
              refine ⟨_, _, ⟨rfl, rfl⟩, ?_⟩
              try simp only [Act.put, List.setIfInBounds_toArray, List.set_cons_succ, List.set_cons_zero]
              refine wpList_val (by rfl) ?_
              go_simp
              refine ⟨_, _, ⟨rfl, rfl⟩, ?_⟩
              try simp only [Act.put, List.setIfInBounds_toArray, List.set_cons_succ, List.set_cons_zero]
              refine wpList_val (by rfl) ?_
              go_simp
              refine ⟨_, _, ⟨rfl, rfl⟩, ?_⟩
              try simp only [Act.put, List.setIfInBounds_toArray, List.set_cons_succ, List.set_cons_zero]
              refine wpList_val (by rfl) ?_
              go_simp
              refine ⟨_, _, ⟨rfl, rfl⟩, ?_⟩
              try simp only [Act.put, List.setIfInBounds_toArray, List.set_cons_succ, List.set_cons_zero]
              refine wpList_val (by rfl) ?_
              go_simp
              refine ⟨_, _, ⟨rfl, rfl⟩, ?_⟩
              try simp only [Act.put, List.setIfInBounds_toArray, List.set_cons_succ, List.set_cons_zero]
              clear HTT HT4 HT5 HT6 HT7 HTW HK3 HK4 HK5 HK6 HS4 HD4 HD5 HD6 HV HV2 HN1 HA1 HO1 HEX HEY HXC HYC HWA0 HWB0
              go_upto_region 7 with fail
              obtain ⟨bf, hbf⟩ : ∃ bf : Nat → Bool, bf = fun (i : Nat) => relX (rdX c 3) (i : Int) (rdX c 9) := ⟨_, rfl⟩
              have HBF : Hid (∀ (i : Nat) (_ : i < 5) (u : World), Calls Try.prog 8 #[.agg #[.int .i64 8, .int .i64 3, .int .i64 i, .int .i64 9, .slice none 0 0, .int .u64 0, .int .u64 0, .int .u64 0, .int .u64 0, .slice none 0 0], .agg #[.int .i64 c.c1.u, .int .i64 c.c1.ro, .int .i64 c.c1.ty, .int .i64 c.c1.lo.s, .int .u64 c.c1.lo.c, .int .i64 c.c1.hi.s, .int .u64 c.c1.hi.c, .int .i64 c.c2.u, .int .i64 c.c2.ro, .int .i64 c.c2.ty, .int .i64 c.c2.lo.s, .int .u64 c.c2.lo.c, .int .i64 c.c2.hi.s, .int .u64 c.c2.hi.c, .int .i64 c.c3.u, .int .i64 c.c3.ro, .int .i64 c.c3.ty, .int .i64 c.c3.lo.s, .int .u64 c.c3.lo.c, .int .i64 c.c3.hi.s, .int .u64 c.c3.hi.c]] u fun e w' => e = .returned (.bool (bf i)) ∧ Below u.heap.size u w') := Lib.hid (fun i hi u => by have h := eval_c (relE i) _ _ c u (xv_rel i hi); rw [evX_rel c i hi] at h; rw [hbf]; exact h)
              obtain ⟨p, hp⟩ : ∃ p, domX (rdX c 3) (rdX c 9) = p := ⟨_, rfl⟩
              obtain ⟨q, hq⟩ : ∃ q, domX (rdX c 9) (rdX c 3) = q := ⟨_, rfl⟩
              have HP : Hid (bf 0 = (p && q) ∧ bf 1 = (!(p && q)) ∧ bf 2 = p ∧ bf 3 = q ∧ bf 4 = (!p && !q)) := Lib.hid (by subst hbf hp hq; exact ⟨rel0 _ _, rel1 _ _, rel2 _ _, rel3 _ _, rel4 _ _⟩)
              clear hbf hp hq
              go_upto_region 8 with fail
              have HBL0 : Hid (Blk (W7.alloc (.cells #[.bool false, .bool false, .bool false, .bool false, .bool false] 40)) W7.heap.size 40 (bl5 bf 0)) := Lib.hid (by rw [bl5_zero]; exact Blk.new _ _ _)
              have HK8 : Hid (Kp W (W7.alloc (.cells #[.bool false, .bool false, .bool false, .bool false, .bool false] 40))) := Lib.hid (Kp.alloc HK7.out _)
              have HS10 : Hid (W.heap.size ≤ W7.heap.size) := Lib.hid (Below.size HK7.out)
              clear HK7 HD7
              generalize (W7.alloc (.cells #[.bool false, .bool false, .bool false, .bool false, .bool false] 40)) = W8 at *
              generalize W7.heap.size = g10 at *
              go_wp2_with fail
              go_loopw [11] (fun v11 wr => ∃ i : Nat, i ≤ 5 ∧ v11 = .int .i64 i ∧ Hid (Blk wr g10 40 (bl5 bf i)) ∧ Hid (Kp W wr)) (fun v11 _ => 5 - (intOf v11).toNat)
              case atStart => exact ⟨0, by omega, rfl, HBL0, HK8⟩
              case round =>
                clear HBL0 HK8
                obtain ⟨i, hi, rfl, HBL, HKr⟩ := hrel
                by_cases hlt : i < 5
                · have hlt' : (i : Int) < 5 := by omega
                  have HDr := Lib.hid (HC.out.keep HKr.out)
                  go_upto_region 11 with fail
                  refine wp_region_lit ?_
                  refine wpList_val (by rfl) ?_
                  go_simp
                  refine ⟨_, _, ⟨rfl, rfl⟩, ?_⟩
                  try simp only [Act.put, List.setIfInBounds_toArray, List.set_cons_succ, List.set_cons_zero]
                  refine wpList_val (by rfl) ?_
                  go_simp
                  refine ⟨_, _, ⟨rfl, rfl⟩, ?_⟩
                  try simp only [Act.put, List.setIfInBounds_toArray, List.set_cons_succ, List.set_cons_zero]
                  refine wpList_val (by rfl) ?_
                  go_simp
                  refine ⟨_, _, ⟨rfl, rfl⟩, ?_⟩
                  try simp only [Act.put, List.setIfInBounds_toArray, List.set_cons_succ, List.set_cons_zero]
                  refine wpList_load (by rfl) (.tmp 5) rfl rfl (loadAt_case HDr.out) ?_
                  simp only [Act.put, List.setIfInBounds_toArray, List.set_cons_succ, List.set_cons_zero]
                  refine wpList_enter (v := .bool (bf i)) (by rfl) (by go_simp) (HBF.out i hlt _) (fun W9 hC9 => ?_)
                  simp only [Act.put, List.setIfInBounds_toArray, List.set_cons_succ, List.set_cons_zero]
                  have HK9 : Hid (Kp W W9) := Lib.hid (Kp.step HKr.out hC9)
                  have HB9 := Lib.hid (HBL.out.keep hC9)
                  clear hC9 HBL HKr HDr
                  have fz := HB9.out.frozen i
                  have qi := (HB9.out.cell i).trans (bl5_at bf i hlt)
                  go_wp2_with fail
                  go_roundw
                  case rel => exact ⟨i + 1, by omega, by go_num, Lib.hid (by have h := HB9.out.set i (.bool (bf i)); rw [bl5_set bf i hlt] at h; exact h), Lib.hid (below_set1 HK9.out HS10.out i _)⟩
                  case measure => simp [intOf]; omega
                · obtain rfl : i = 5 := by omega
                  have c0 : wr.cell? ⟨g10, 0, none⟩ = some (.bool (p && q)) := by rw [HBL.out.cell 0, ← HP.out.1]; rfl
                  have c1 : wr.cell? ⟨g10, 1, none⟩ = some (.bool (!(p && q))) := by rw [HBL.out.cell 1, ← HP.out.2.1]; rfl
                  have c2 : wr.cell? ⟨g10, 2, none⟩ = some (.bool p) := by rw [HBL.out.cell 2, ← HP.out.2.2.1]; rfl
                  have c3 : wr.cell? ⟨g10, 3, none⟩ = some (.bool q) := by rw [HBL.out.cell 3, ← HP.out.2.2.2.1]; rfl
                  have c4 : wr.cell? ⟨g10, 4, none⟩ = some (.bool (!p && !q)) := by rw [HBL.out.cell 4, ← HP.out.2.2.2.2]; rfl
                  clear HP HBL HBF
                  cases p <;> cases q <;> (
                    simp only [Bool.and_self, Bool.and_true, Bool.and_false, Bool.not_true, Bool.not_false] at c0 c1 c4
                    go_wp2_with (go_at_call 7; (with_reducible refine (HAW.out _).mono ?_); rintro e w2 ⟨rfl, hb2⟩; have HB2 := Lib.hid (HB.out.trans (Below.mono (Kp.step HKr.out hb2) HLE.out)); clear hb2)
                    go_ret
                    exact ⟨rfl, by first | exact HB2.out | (rw [hge]; exact HB2.out)⟩)
            | true =>
              have HN1 : Hid (evX c (notX x) = true) := Lib.hid HN0.out
              have HA1 : Hid (evX c (andX x y) = false) := Lib.hid HA0.out
              have HO1 : Hid (evX c (orX x y) = true) := Lib.hid HO0.out
              clear HN0 HA0 HO0
              refine wp_region_lit ?_
              refine wpList_load (by rfl) (.tmp 3) rfl rfl (loadAt_expr HX3.out) ?_
              simp only [Act.put, List.setIfInBounds_toArray, List.set_cons_succ, List.set_cons_zero]
              refine wpList_val (by rfl) ?_
              go_simp
              refine ⟨_, _, ⟨rfl, rfl⟩, ?_⟩
              try simp only [Act.put, List.setIfInBounds_toArray, List.set_cons_succ, List.set_cons_zero]
              have HS4 : Hid (Blk (W3.alloc (.cells #[.int .i64 x.op, .int .i64 x.a, .int .i64 x.r, .int .i64 x.b, .slice ao x.ns.length cap, .int .u64 x.st.a, .int .u64 x.st.b, .int .u64 x.st.c, .int .u64 x.st.d, .slice ak x.ks.length ck] 28)) W3.heap.size 28 #[.int .i64 x.op, .int .i64 x.a, .int .i64 x.r, .int .i64 x.b, .slice ao x.ns.length cap, .int .u64 x.st.a, .int .u64 x.st.b, .int .u64 x.st.c, .int .u64 x.st.d, .slice ak x.ks.length ck]) := Lib.hid (Blk.new _ _ _)
              have HK4 : Hid (Kp W (W3.alloc (.cells #[.int .i64 x.op, .int .i64 x.a, .int .i64 x.r, .int .i64 x.b, .slice ao x.ns.length cap, .int .u64 x.st.a, .int .u64 x.st.b, .int .u64 x.st.c, .int .u64 x.st.d, .slice ak x.ks.length ck] 28))) := Lib.hid (Kp.alloc HK3.out _)
              have HT4 : Hid (Kp W3 (W3.alloc (.cells #[.int .i64 x.op, .int .i64 x.a, .int .i64 x.r, .int .i64 x.b, .slice ao x.ns.length cap, .int .u64 x.st.a, .int .u64 x.st.b, .int .u64 x.st.c, .int .u64 x.st.d, .slice ak x.ks.length ck] 28))) := Lib.hid (Kp.alloc (Below.refl _ _) _)
              clear HX3 HY3 HD3 HL3 HGge3 HGgf3 HU3
              generalize (W3.alloc (.cells #[.int .i64 x.op, .int .i64 x.a, .int .i64 x.r, .int .i64 x.b, .slice ao x.ns.length cap, .int .u64 x.st.a, .int .u64 x.st.b, .int .u64 x.st.c, .int .u64 x.st.d, .slice ak x.ks.length ck] 28)) = W4 at *
              generalize W3.heap.size = g4 at *
              have HD4 := Lib.hid (HC.out.keep HK4.out)
              refine wpList_val (by rfl) ?_
              go_simp
              refine ⟨_, _, ⟨rfl, rfl⟩, ?_⟩
              try simp only [Act.put, List.setIfInBounds_toArray, List.set_cons_succ, List.set_cons_zero]
              refine wpList_load (by rfl) (.tmp 5) rfl rfl (loadAt_case HD4.out) ?_
              simp only [Act.put, List.setIfInBounds_toArray, List.set_cons_succ, List.set_cons_zero]
              refine wpList_enter (v := .bool true) (by rfl) (by go_simp; exact ⟨rfl, rfl⟩) (by have h := eval_c (notX x) _ _ c W4 (xv_not HV.out (HKB.out _ HK4.out) HS4.out); rw [HN1.out] at h; exact h) (fun W5 hC5 => ?_)
              simp only [Act.put, List.setIfInBounds_toArray, List.set_cons_succ, List.set_cons_zero]
              have HK5 : Hid (Kp W W5) := Lib.hid (Kp.step HK4.out hC5)
              have HD5 := Lib.hid (HC.out.keep HK5.out)
              have HT5 : Hid (Kp W3 W5) := Lib.hid (Kp.step HT4.out hC5)
              clear hC5
              refine wpList_val (by rfl) ?_
              go_simp
              refine ⟨_, _, ⟨rfl, rfl⟩, ?_⟩
              try simp only [Act.put, List.setIfInBounds_toArray, List.set_cons_succ, List.set_cons_zero]
              refine wpList_val (by rfl) ?_
              go_simp
              refine ⟨_, _, ⟨rfl, rfl⟩, ?_⟩
              try simp only [Act.put, List.setIfInBounds_toArray, List.set_cons_succ, List.set_cons_zero]
              refine wpList_val (by rfl) ?_
              go_simp
              refine ⟨_, _, ⟨rfl, rfl⟩, ?_⟩
              try simp only [Act.put, List.setIfInBounds_toArray, List.set_cons_succ, List.set_cons_zero]
              refine wpList_val (by rfl) ?_
              go_simp
              refine ⟨_, _, ⟨rfl, rfl⟩, ?_⟩
              try simp only [Act.put, List.setIfInBounds_toArray, List.set_cons_succ, List.set_cons_zero]
              refine wpList_val (by rfl) ?_
              go_simp
              refine ⟨_, _, ⟨rfl, rfl⟩, ?_⟩
              try simp only [Act.put, List.setIfInBounds_toArray, List.set_cons_succ, List.set_cons_zero]
              refine wpList_load (by rfl) (.tmp 5) rfl rfl (loadAt_case HD5.out) ?_
              simp only [Act.put, List.setIfInBounds_toArray, List.set_cons_succ, List.set_cons_zero]
              refine wpList_enter (v := .bool false) (by rfl) (by go_simp; exact ⟨rfl, rfl⟩) (by have h := eval_c (andX x y) _ _ c W5 (xv_and (HTT.out _ HT5.out)); rw [HA1.out] at h; exact h) (fun W6 hC6 => ?_)
              simp only [Act.put, List.setIfInBounds_toArray, List.set_cons_succ, List.set_cons_zero]
              have HK6 : Hid (Kp W W6) := Lib.hid (Kp.step HK5.out hC6)
              have HD6 := Lib.hid (HC.out.keep HK6.out)
              have HT6 : Hid (Kp W3 W6) := Lib.hid (Kp.step HT5.out hC6)
              clear hC6
              refine wpList_val (by rfl) ?_
              go_simp
              refine ⟨_, _, ⟨rfl, rfl⟩, ?_⟩
              try simp only [Act.put, List.setIfInBounds_toArray, List.set_cons_succ, List.set_cons_zero]
              refine wpList_val (by rfl) ?_
              go_simp
              refine ⟨_, _, ⟨rfl, rfl⟩, ?_⟩
              try simp only [Act.put, List.setIfInBounds_toArray, List.set_cons_succ, List.set_cons_zero]
              refine wpList_skip (by rfl) ?_
              simp only [Act.put, List.setIfInBounds_toArray, List.set_cons_succ, List.set_cons_zero]
              refine wpList_val (by rfl) ?_
              go_simp
              refine ⟨_, _, ⟨rfl, rfl⟩, ?_⟩
              try simp only [Act.put, List.setIfInBounds_toArray, List.set_cons_succ, List.set_cons_zero]
              refine wpList_val (by rfl) ?_
              go_simp
              refine ⟨_, _, ⟨rfl, rfl⟩, ?_⟩
              try simp only [Act.put, List.setIfInBounds_toArray, List.set_cons_succ, List.set_cons_zero]
              refine wpList_val (by rfl) ?_
              go_simp
              refine ⟨_, _, ⟨rfl, rfl⟩, ?_⟩
              try simp only [Act.put, List.setIfInBounds_toArray, List.set_cons_succ, List.set_cons_zero]
              refine wpList_val (by rfl) ?_
              go_simp
              refine ⟨_, _, ⟨rfl, rfl⟩, ?_⟩
              try simp only [Act.put, List.setIfInBounds_toArray, List.set_cons_succ, List.set_cons_zero]
              refine wpList_val (by rfl) ?_
              go_simp
              refine ⟨_, _, ⟨rfl, rfl⟩, ?_⟩
              try simp only [Act.put, List.setIfInBounds_toArray, List.set_cons_succ, List.set_cons_zero]
              refine wpList_val (by rfl) ?_
              go_simp
              refine ⟨_, _, ⟨rfl, rfl⟩, ?_⟩
              try simp only [Act.put, List.setIfInBounds_toArray, List.set_cons_succ, List.set_cons_zero]
              refine wpList_load (by rfl) (.tmp 5) rfl rfl (loadAt_case HD6.out) ?_
              simp only [Act.put, List.setIfInBounds_toArray, List.set_cons_succ, List.set_cons_zero]
              refine wpList_enter (v := .bool true) (by rfl) (by go_simp; exact ⟨rfl, rfl⟩) (by have h := eval_c (orX x y) _ _ c W6 (xv_or (HTT.out _ HT6.out)); rw [HO1.out] at h; exact h) (fun W7 hC7 => ?_)
              simp only [Act.put, List.setIfInBounds_toArray, List.set_cons_succ, List.set_cons_zero]
              have HK7 : Hid (Kp W W7) := Lib.hid (Kp.step HK6.out hC7)
              have HD7 := Lib.hid (HC.out.keep HK7.out)
              have HT7 : Hid (Kp W3 W7) := Lib.hid (Kp.step HT6.out hC7)
              clear hC7
              refine wpList_val (by rfl) ?_
              go_simp
              refine ⟨_, _, ⟨rfl, rfl⟩, ?_⟩
              try simp only [Act.put, List.setIfInBounds_toArray, List.set_cons_succ, List.set_cons_zero]
              refine wpList_val (by rfl) ?_
              go_simp
              refine ⟨_, _, ⟨rfl, rfl⟩, ?_⟩
              try simp only [Act.put, List.setIfInBounds_toArray, List.set_cons_succ, List.set_cons_zero]
              refine wpList_val (by rfl) ?_
              go_simp
              refine ⟨_, _, ⟨rfl, rfl⟩, ?_⟩
              try simp only [Act.put, List.setIfInBounds_toArray, List.set_cons_succ, List.set_cons_zero]
              refine wpList_val (by rfl) ?_
              go_simp
              refine ⟨_, _, ⟨rfl, rfl⟩, ?_⟩
              try simp only [Act.put, List.setIfInBounds_toArray, List.set_cons_succ, List.set_cons_zero]
              refine wpList_val (by rfl) ?_
              go_simp
              refine ⟨_, _, ⟨rfl, rfl⟩, ?_⟩
              try simp only [Act.put, List.setIfInBounds_toArray, List.set_cons_succ, List.set_cons_zero]
              refine wpList_val (by rfl) ?_
              go_simp
              refine ⟨_, _, ⟨rfl, rfl⟩, ?_⟩
              try simp only [Act.put, List.setIfInBounds_toArray, List.set_cons_succ, List.set_cons_zero]
              clear HTT HT4 HT5 HT6 HT7 HTW HK3 HK4 HK5 HK6 HS4 HD4 HD5 HD6 HV HV2 HN1 HA1 HO1 HEX HEY HXC HYC HWA0 HWB0
              go_upto_region 7 with fail
              obtain ⟨bf, hbf⟩ : ∃ bf : Nat → Bool, bf = fun (i : Nat) => relX (rdX c 3) (i : Int) (rdX c 9) := ⟨_, rfl⟩
              have HBF : Hid (∀ (i : Nat) (_ : i < 5) (u : World), Calls Try.prog 8 #[.agg #[.int .i64 8, .int .i64 3, .int .i64 i, .int .i64 9, .slice none 0 0, .int .u64 0, .int .u64 0, .int .u64 0, .int .u64 0, .slice none 0 0], .agg #[.int .i64 c.c1.u, .int .i64 c.c1.ro, .int .i64 c.c1.ty, .int .i64 c.c1.lo.s, .int .u64 c.c1.lo.c, .int .i64 c.c1.hi.s, .int .u64 c.c1.hi.c, .int .i64 c.c2.u, .int .i64 c.c2.ro, .int .i64 c.c2.ty, .int .i64 c.c2.lo.s, .int .u64 c.c2.lo.c, .int .i64 c.c2.hi.s, .int .u64 c.c2.hi.c, .int .i64 c.c3.u, .int .i64 c.c3.ro, .int .i64 c.c3.ty, .int .i64 c.c3.lo.s, .int .u64 c.c3.lo.c, .int .i64 c.c3.hi.s, .int .u64 c.c3.hi.c]] u fun e w' => e = .returned (.bool (bf i)) ∧ Below u.heap.size u w') := Lib.hid (fun i hi u => by have h := eval_c (relE i) _ _ c u (xv_rel i hi); rw [evX_rel c i hi] at h; rw [hbf]; exact h)
              obtain ⟨p, hp⟩ : ∃ p, domX (rdX c 3) (rdX c 9) = p := ⟨_, rfl⟩
              obtain ⟨q, hq⟩ : ∃ q, domX (rdX c 9) (rdX c 3) = q := ⟨_, rfl⟩
              have HP : Hid (bf 0 = (p && q) ∧ bf 1 = (!(p && q)) ∧ bf 2 = p ∧ bf 3 = q ∧ bf 4 = (!p && !q)) := Lib.hid (by subst hbf hp hq; exact ⟨rel0 _ _, rel1 _ _, rel2 _ _, rel3 _ _, rel4 _ _⟩)
              clear hbf hp hq
              go_upto_region 8 with fail
              have HBL0 : Hid (Blk (W7.alloc (.cells #[.bool false, .bool false, .bool false, .bool false, .bool false] 40)) W7.heap.size 40 (bl5 bf 0)) := Lib.hid (by rw [bl5_zero]; exact Blk.new _ _ _)
              have HK8 : Hid (Kp W (W7.alloc (.cells #[.bool false, .bool false, .bool false, .bool false, .bool false] 40))) := Lib.hid (Kp.alloc HK7.out _)
              have HS10 : Hid (W.heap.size ≤ W7.heap.size) := Lib.hid (Below.size HK7.out)
              clear HK7 HD7
              generalize (W7.alloc (.cells #[.bool false, .bool false, .bool false, .bool false, .bool false] 40)) = W8 at *
              generalize W7.heap.size = g10 at *
              go_wp2_with fail
              go_loopw [11] (fun v11 wr => ∃ i : Nat, i ≤ 5 ∧ v11 = .int .i64 i ∧ Hid (Blk wr g10 40 (bl5 bf i)) ∧ Hid (Kp W wr)) (fun v11 _ => 5 - (intOf v11).toNat)
              case atStart => exact ⟨0, by omega, rfl, HBL0, HK8⟩
              case round =>
                clear HBL0 HK8
                obtain ⟨i, hi, rfl, HBL, HKr⟩ := hrel
                by_cases hlt : i < 5
                · have hlt' : (i : Int) < 5 := by omega
                  have HDr := Lib.hid (HC.out.keep HKr.out)
                  go_upto_region 11 with fail
                  refine wp_region_lit ?_
                  refine wpList_val (by rfl) ?_
                  go_simp
                  refine ⟨_, _, ⟨rfl, rfl⟩, ?_⟩
                  try simp only [Act.put, List.setIfInBounds_toArray, List.set_cons_succ, List.set_cons_zero]
                  refine wpList_val (by rfl) ?_
                  go_simp
                  refine ⟨_, _, ⟨rfl, rfl⟩, ?_⟩
                  try simp only [Act.put, List.setIfInBounds_toArray, List.set_cons_succ, List.set_cons_zero]
                  refine wpList_val (by rfl) ?_
                  go_simp
                  refine ⟨_, _, ⟨rfl, rfl⟩, ?_⟩
                  try simp only [Act.put, List.setIfInBounds_toArray, List.set_cons_succ, List.set_cons_zero]
                  refine wpList_load (by rfl) (.tmp 5) rfl rfl (loadAt_case HDr.out) ?_
                  simp only [Act.put, List.setIfInBounds_toArray, List.set_cons_succ, List.set_cons_zero]
                  refine wpList_enter (v := .bool (bf i)) (by rfl) (by go_simp) (HBF.out i hlt _) (fun W9 hC9 => ?_)
                  simp only [Act.put, List.setIfInBounds_toArray, List.set_cons_succ, List.set_cons_zero]
                  have HK9 : Hid (Kp W W9) := Lib.hid (Kp.step HKr.out hC9)
                  have HB9 := Lib.hid (HBL.out.keep hC9)
                  clear hC9 HBL HKr HDr
                  have fz := HB9.out.frozen i
                  have qi := (HB9.out.cell i).trans (bl5_at bf i hlt)
                  go_wp2_with fail
                  go_roundw
                  case rel => exact ⟨i + 1, by omega, by go_num, Lib.hid (by have h := HB9.out.set i (.bool (bf i)); rw [bl5_set bf i hlt] at h; exact h), Lib.hid (below_set1 HK9.out HS10.out i _)⟩
                  case measure => simp [intOf]; omega
                · obtain rfl : i = 5 := by omega
                  have c0 : wr.cell? ⟨g10, 0, none⟩ = some (.bool (p && q)) := by rw [HBL.out.cell 0, ← HP.out.1]; rfl
                  have c1 : wr.cell? ⟨g10, 1, none⟩ = some (.bool (!(p && q))) := by rw [HBL.out.cell 1, ← HP.out.2.1]; rfl
                  have c2 : wr.cell? ⟨g10, 2, none⟩ = some (.bool p) := by rw [HBL.out.cell 2, ← HP.out.2.2.1]; rfl
                  have c3 : wr.cell? ⟨g10, 3, none⟩ = some (.bool q) := by rw [HBL.out.cell 3, ← HP.out.2.2.2.1]; rfl
                  have c4 : wr.cell? ⟨g10, 4, none⟩ = some (.bool (!p && !q)) := by rw [HBL.out.cell 4, ← HP.out.2.2.2.2]; rfl
                  clear HP HBL HBF
                  cases p <;> cases q <;> (
                    simp only [Bool.and_self, Bool.and_true, Bool.and_false, Bool.not_true, Bool.not_false] at c0 c1 c4
                    go_wp2_with (go_at_call 7; (with_reducible refine (HAW.out _).mono ?_); rintro e w2 ⟨rfl, hb2⟩; have HB2 := Lib.hid (HB.out.trans (Below.mono (Kp.step HKr.out hb2) HLE.out)); clear hb2)
                    go_ret
                    exact ⟨rfl, by first | exact HB2.out | (rw [hge]; exact HB2.out)⟩)
          | true =>
            cases ey with
            | false =>
              have HN1 : Hid (evX c (notX x) = false) := Lib.hid HN0.out
              have HA1 : Hid (evX c (andX x y) = false) := Lib.hid HA0.out
              have HO1 : Hid (evX c (orX x y) = true) := Lib.hid HO0.out
              clear HN0 HA0 HO0
              refine wp_region_lit ?_
              refine wpList_load (by rfl) (.tmp 3) rfl rfl (loadAt_expr HX3.out) ?_
              simp only [Act.put, List.setIfInBounds_toArray, List.set_cons_succ, List.set_cons_zero]
              refine wpList_val (by rfl) ?_
              go_simp
              refine ⟨_, _, ⟨rfl, rfl⟩, ?_⟩
              try simp only [Act.put, List.setIfInBounds_toArray, List.set_cons_succ, List.set_cons_zero]
              have HS4 : Hid (Blk (W3.alloc (.cells #[.int .i64 x.op, .int .i64 x.a, .int .i64 x.r, .int .i64 x.b, .slice ao x.ns.length cap, .int .u64 x.st.a, .int .u64 x.st.b, .int .u64 x.st.c, .int .u64 x.st.d, .slice ak x.ks.length ck] 28)) W3.heap.size 28 #[.int .i64 x.op, .int .i64 x.a, .int .i64 x.r, .int .i64 x.b, .slice ao x.ns.length cap, .int .u64 x.st.a, .int .u64 x.st.b, .int .u64 x.st.c, .int .u64 x.st.d, .slice ak x.ks.length ck]) := Lib.hid (Blk.new _ _ _)
              have HK4 : Hid (Kp W (W3.alloc (.cells #[.int .i64 x.op, .int .i64 x.a, .int .i64 x.r, .int .i64 x.b, .slice ao x.ns.length cap, .int .u64 x.st.a, .int .u64 x.st.b, .int .u64 x.st.c, .int .u64 x.st.d, .slice ak x.ks.length ck] 28))) := Lib.hid (Kp.alloc HK3.out _)
              have HT4 : Hid (Kp W3 (W3.alloc (.cells #[.int .i64 x.op, .int .i64 x.a, .int .i64 x.r, .int .i64 x.b, .slice ao x.ns.length cap, .int .u64 x.st.a, .int .u64 x.st.b, .int .u64 x.st.c, .int .u64 x.st.d, .slice ak x.ks.length ck] 28))) := Lib.hid (Kp.alloc (Below.refl _ _) _)
              clear HX3 HY3 HD3 HL3 HGge3 HGgf3 HU3
              generalize (W3.alloc (.cells #[.int .i64 x.op, .int .i64 x.a, .int .i64 x.r, .int .i64 x.b, .slice ao x.ns.length cap, .int .u64 x.st.a, .int .u64 x.st.b, .int .u64 x.st.c, .int .u64 x.st.d, .slice ak x.ks.length ck] 28)) = W4 at *
              generalize W3.heap.size = g4 at *
              have HD4 := Lib.hid (HC.out.keep HK4.out)
              refine wpList_val (by rfl) ?_
              go_simp
              refine ⟨_, _, ⟨rfl, rfl⟩, ?_⟩
              try simp only [Act.put, List.setIfInBounds_toArray, List.set_cons_succ, List.set_cons_zero]
              refine wpList_load (by rfl) (.tmp 5) rfl rfl (loadAt_case HD4.out) ?_
              simp only [Act.put, List.setIfInBounds_toArray, List.set_cons_succ, List.set_cons_zero]
              refine wpList_enter (v := .bool false) (by rfl) (by go_simp; exact ⟨rfl, rfl⟩) (by have h := eval_c (notX x) _ _ c W4 (xv_not HV.out (HKB.out _ HK4.out) HS4.out); rw [HN1.out] at h; exact h) (fun W5 hC5 => ?_)
              simp only [Act.put, List.setIfInBounds_toArray, List.set_cons_succ, List.set_cons_zero]
              have HK5 : Hid (Kp W W5) := Lib.hid (Kp.step HK4.out hC5)
              have HD5 := Lib.hid (HC.out.keep HK5.out)
              have HT5 : Hid (Kp W3 W5) := Lib.hid (Kp.step HT4.out hC5)
              clear hC5
              refine wpList_val (by rfl) ?_
              go_simp
              refine ⟨_, _, ⟨rfl, rfl⟩, ?_⟩
              try simp only [Act.put, List.setIfInBounds_toArray, List.set_cons_succ, List.set_cons_zero]
              refine wpList_val (by rfl) ?_
              go_simp
              refine ⟨_, _, ⟨rfl, rfl⟩, ?_⟩
              try simp only [Act.put, List.setIfInBounds_toArray, List.set_cons_succ, List.set_cons_zero]
              refine wpList_val (by rfl) ?_
              go_simp
              refine ⟨_, _, ⟨rfl, rfl⟩, ?_⟩
              try simp only [Act.put, List.setIfInBounds_toArray, List.set_cons_succ, List.set_cons_zero]
              refine wpList_val (by rfl) ?_
              go_simp
              refine ⟨_, _, ⟨rfl, rfl⟩, ?_⟩
              try simp only [Act.put, List.setIfInBounds_toArray, List.set_cons_succ, List.set_cons_zero]
              refine wpList_val (by rfl) ?_
              go_simp
              refine ⟨_, _, ⟨rfl, rfl⟩, ?_⟩
              try simp only [Act.put, List.setIfInBounds_toArray, List.set_cons_succ, List.set_cons_zero]
              refine wpList_load (by rfl) (.tmp 5) rfl rfl (loadAt_case HD5.out) ?_
              simp only [Act.put, List.setIfInBounds_toArray, List.set_cons_succ, List.set_cons_zero]
              refine wpList_enter (v := .bool false) (by rfl) (by go_simp; exact ⟨rfl, rfl⟩) (by have h := eval_c (andX x y) _ _ c W5 (xv_and (HTT.out _ HT5.out)); rw [HA1.out] at h; exact h) (fun W6 hC6 => ?_)
              simp only [Act.put, List.setIfInBounds_toArray, List.set_cons_succ, List.set_cons_zero]
              have HK6 : Hid (Kp W W6) := Lib.hid (Kp.step HK5.out hC6)
              have HD6 := Lib.hid (HC.out.keep HK6.out)
              have HT6 : Hid (Kp W3 W6) := Lib.hid (Kp.step HT5.out hC6)
              clear hC6
              refine wpList_val (by rfl) ?_
              go_simp
              refine ⟨_, _, ⟨rfl, rfl⟩, ?_⟩
              try simp only [Act.put, List.setIfInBounds_toArray, List.set_cons_succ, List.set_cons_zero]
              refine wpList_val (by rfl) ?_
              go_simp
              refine ⟨_, _, ⟨rfl, rfl⟩, ?_⟩
              try simp only [Act.put, List.setIfInBounds_toArray, List.set_cons_succ, List.set_cons_zero]
              refine wpList_val (by rfl) ?_
              go_simp
              refine ⟨_, _, ⟨rfl, rfl⟩, ?_⟩
              try simp only [Act.put, List.setIfInBounds_toArray, List.set_cons_succ, List.set_cons_zero]
              refine wpList_val (by rfl) ?_
              go_simp
              refine ⟨_, _, ⟨rfl, rfl⟩, ?_⟩
              try simp only [Act.put, List.setIfInBounds_toArray, List.set_cons_succ, List.set_cons_zero]
              refine wpList_val (by rfl) ?_
              go_simp
              refine ⟨_, _, ⟨rfl, rfl⟩, ?_⟩
              try simp only [Act.put, List.setIfInBounds_toArray, List.set_cons_succ, List.set_cons_zero]
              refine wpList_val (by rfl) ?_
              go_simp
              refine ⟨_, _, ⟨rfl, rfl⟩, ?_⟩
              try simp only [Act.put, List.setIfInBounds_toArray, List.set_cons_succ, List.set_cons_zero]
              refine wpList_val (by rfl) ?_
              go_simp
              refine ⟨_, _, ⟨rfl, rfl⟩, ?_⟩
              try simp only [Act.put, List.setIfInBounds_toArray, List.set_cons_succ, List.set_cons_zero]
              refine wpList_val (by rfl) ?_
              go_simp
              refine ⟨_, _, ⟨rfl, rfl⟩, ?_⟩
              try simp only [Act.put, List.setIfInBounds_toArray, List.set_cons_succ, List.set_cons_zero]
              refine wpList_val (by rfl) ?_
              go_simp
              refine ⟨_, _, ⟨rfl, rfl⟩, ?_⟩
              try simp only [Act.put, List.setIfInBounds_toArray, List.set_cons_succ, List.set_cons_zero]
              refine wpList_load (by rfl) (.tmp 5) rfl rfl (loadAt_case HD6.out) ?_
              simp only [Act.put, List.setIfInBounds_toArray, List.set_cons_succ, List.set_cons_zero]
              refine wpList_enter (v := .bool true) (by rfl) (by go_simp; exact ⟨rfl, rfl⟩) (by have h := eval_c (orX x y) _ _ c W6 (xv_or (HTT.out _ HT6.out)); rw [HO1.out] at h; exact h) (fun W7 hC7 => ?_)
              simp only [Act.put, List.setIfInBounds_toArray, List.set_cons_succ, List.set_cons_zero]
              have HK7 : Hid (Kp W W7) := Lib.hid (Kp.step HK6.out hC7)
              have HD7 := Lib.hid (HC.out.keep HK7.out)
              have HT7 : Hid (Kp W3 W7) := Lib.hid (Kp.step HT6.out hC7)
              clear hC7
              refine wpList_val (by rfl) ?_
              go_simp
              refine ⟨_, _, ⟨rfl, rfl⟩, ?_⟩
              try simp only [Act.put, List.setIfInBounds_toArray, List.set_cons_succ, List.set_cons_zero]
              refine wpList_val (by rfl) ?_
              go_simp
              refine ⟨_, _, ⟨rfl, rfl⟩, ?_⟩
              try simp only [Act.put, List.setIfInBounds_toArray, List.set_cons_succ, List.set_cons_zero]
              refine wpList_skip (by rfl) ?_
              simp only [Act.put, List.setIfInBounds_toArray, List.set_cons_succ, List.set_cons_zero]
              refine wpList_val (by rfl) ?_
              go_simp
              refine ⟨_, _, ⟨rfl, rfl⟩, ?_⟩
              try simp only [Act.put, List.setIfInBounds_toArray, List.set_cons_succ, List.set_cons_zero]
              refine wpList_val (by rfl) ?_
              go_simp
              refine ⟨_, _, ⟨rfl, rfl⟩, ?_⟩
              try simp only [Act.put, List.setIfInBounds_toArray, List.set_cons_succ, List.set_cons_zero]
              refine wpList_val (by rfl) ?_
              go_simp
              refine ⟨_, _, ⟨rfl, rfl⟩, ?_⟩
              try simp only [Act.put, List.setIfInBounds_toArray, List.set_cons_succ, List.set_cons_zero]
              clear HTT HT4 HT5 HT6 HT7 HTW HK3 HK4 HK5 HK6 HS4 HD4 HD5 HD6 HV HV2 HN1 HA1 HO1 HEX HEY HXC HYC HWA0 HWB0
              go_upto_region 7 with fail
              obtain ⟨bf, hbf⟩ : ∃ bf : Nat → Bool, bf = fun (i : Nat) => relX (rdX c 3) (i : Int) (rdX c 9) := ⟨_, rfl⟩
              have HBF : Hid (∀ (i : Nat) (_ : i < 5) (u : World), Calls Try.prog 8 #[.agg #[.int .i64 8, .int .i64 3, .int .i64 i, .int .i64 9, .slice none 0 0, .int .u64 0, .int .u64 0, .int .u64 0, .int .u64 0, .slice none 0 0], .agg #[.int .i64 c.c1.u, .int .i64 c.c1.ro, .int .i64 c.c1.ty, .int .i64 c.c1.lo.s, .int .u64 c.c1.lo.c, .int .i64 c.c1.hi.s, .int .u64 c.c1.hi.c, .int .i64 c.c2.u, .int .i64 c.c2.ro, .int .i64 c.c2.ty, .int .i64 c.c2.lo.s, .int .u64 c.c2.lo.c, .int .i64 c.c2.hi.s, .int .u64 c.c2.hi.c, .int .i64 c.c3.u, .int .i64 c.c3.ro, .int .i64 c.c3.ty, .int .i64 c.c3.lo.s, .int .u64 c.c3.lo.c, .int .i64 c.c3.hi.s, .int .u64 c.c3.hi.c]] u fun e w' => e = .returned (.bool (bf i)) ∧ Below u.heap.size u w') := Lib.hid (fun i hi u => by have h := eval_c (relE i) _ _ c u (xv_rel i hi); rw [evX_rel c i hi] at h; rw [hbf]; exact h)
              obtain ⟨p, hp⟩ : ∃ p, domX (rdX c 3) (rdX c 9) = p := ⟨_, rfl⟩
              obtain ⟨q, hq⟩ : ∃ q, domX (rdX c 9) (rdX c 3) = q := ⟨_, rfl⟩
              have HP : Hid (bf 0 = (p && q) ∧ bf 1 = (!(p && q)) ∧ bf 2 = p ∧ bf 3 = q ∧ bf 4 = (!p && !q)) := Lib.hid (by subst hbf hp hq; exact ⟨rel0 _ _, rel1 _ _, rel2 _ _, rel3 _ _, rel4 _ _⟩)
              clear hbf hp hq
              go_upto_region 8 with fail
              have HBL0 : Hid (Blk (W7.alloc (.cells #[.bool false, .bool false, .bool false, .bool false, .bool false] 40)) W7.heap.size 40 (bl5 bf 0)) := Lib.hid (by rw [bl5_zero]; exact Blk.new _ _ _)
              have HK8 : Hid (Kp W (W7.alloc (.cells #[.bool false, .bool false, .bool false, .bool false, .bool false] 40))) := Lib.hid (Kp.alloc HK7.out _)
              have HS10 : Hid (W.heap.size ≤ W7.heap.size) := Lib.hid (Below.size HK7.out)
              clear HK7 HD7
              generalize (W7.alloc (.cells #[.bool false, .bool false, .bool false, .bool false, .bool false] 40)) = W8 at *
              generalize W7.heap.size = g10 at *
              go_wp2_with fail
              go_loopw [11] (fun v11 wr => ∃ i : Nat, i ≤ 5 ∧ v11 = .int .i64 i ∧ Hid (Blk wr g10 40 (bl5 bf i)) ∧ Hid (Kp W wr)) (fun v11 _ => 5 - (intOf v11).toNat)
              case atStart => exact ⟨0, by omega, rfl, HBL0, HK8⟩
              case round =>
                clear HBL0 HK8
                obtain ⟨i, hi, rfl, HBL, HKr⟩ := hrel
                by_cases hlt : i < 5
                · have hlt' : (i : Int) < 5 := by omega
                  have HDr := Lib.hid (HC.out.keep HKr.out)
                  go_upto_region 11 with fail
                  refine wp_region_lit ?_
                  refine wpList_val (by rfl) ?_
                  go_simp
                  refine ⟨_, _, ⟨rfl, rfl⟩, ?_⟩
                  try simp only [Act.put, List.setIfInBounds_toArray, List.set_cons_succ, List.set_cons_zero]
                  refine wpList_val (by rfl) ?_
                  go_simp
                  refine ⟨_, _, ⟨rfl, rfl⟩, ?_⟩
                  try simp only [Act.put, List.setIfInBounds_toArray, List.set_cons_succ, List.set_cons_zero]
                  refine wpList_val (by rfl) ?_
                  go_simp
                  refine ⟨_, _, ⟨rfl, rfl⟩, ?_⟩
                  try simp only [Act.put, List.setIfInBounds_toArray, List.set_cons_succ, List.set_cons_zero]
                  refine wpList_load (by rfl) (.tmp 5) rfl rfl (loadAt_case HDr.out) ?_
                  simp only [Act.put, List.setIfInBounds_toArray, List.set_cons_succ, List.set_cons_zero]
                  refine wpList_enter (v := .bool (bf i)) (by rfl) (by go_simp) (HBF.out i hlt _) (fun W9 hC9 => ?_)
                  simp only [Act.put, List.setIfInBounds_toArray, List.set_cons_succ, List.set_cons_zero]
                  have HK9 : Hid (Kp W W9) := Lib.hid (Kp.step HKr.out hC9)
                  have HB9 := Lib.hid (HBL.out.keep hC9)
                  clear hC9 HBL HKr HDr
                  have fz := HB9.out.frozen i
                  have qi := (HB9.out.cell i).trans (bl5_at bf i hlt)
                  go_wp2_with fail
                  go_roundw
                  case rel => exact ⟨i + 1, by omega, by go_num, Lib.hid (by have h := HB9.out.set i (.bool (bf i)); rw [bl5_set bf i hlt] at h; exact h), Lib.hid (below_set1 HK9.out HS10.out i _)⟩
                  case measure => simp [intOf]; omega
                · obtain rfl : i = 5 := by omega
                  have c0 : wr.cell? ⟨g10, 0, none⟩ = some (.bool (p && q)) := by rw [HBL.out.cell 0, ← HP.out.1]; rfl
                  have c1 : wr.cell? ⟨g10, 1, none⟩ = some (.bool (!(p && q))) := by rw [HBL.out.cell 1, ← HP.out.2.1]; rfl
                  have c2 : wr.cell? ⟨g10, 2, none⟩ = some (.bool p) := by rw [HBL.out.cell 2, ← HP.out.2.2.1]; rfl
                  have c3 : wr.cell? ⟨g10, 3, none⟩ = some (.bool q) := by rw [HBL.out.cell 3, ← HP.out.2.2.2.1]; rfl
                  have c4 : wr.cell? ⟨g10, 4, none⟩ = some (.bool (!p && !q)) := by rw [HBL.out.cell 4, ← HP.out.2.2.2.2]; rfl
                  clear HP HBL HBF
                  cases p <;> cases q <;> (
                    simp only [Bool.and_self, Bool.and_true, Bool.and_false, Bool.not_true, Bool.not_false] at c0 c1 c4
                    go_wp2_with (go_at_call 7; (with_reducible refine (HAW.out _).mono ?_); rintro e w2 ⟨rfl, hb2⟩; have HB2 := Lib.hid (HB.out.trans (Below.mono (Kp.step HKr.out hb2) HLE.out)); clear hb2)
                    go_ret
                    exact ⟨rfl, by first | exact HB2.out | (rw [hge]; exact HB2.out)⟩)
            | true =>
              have HN1 : Hid (evX c (notX x) = false) := Lib.hid HN0.out
              have HA1 : Hid (evX c (andX x y) = true) := Lib.hid HA0.out
              have HO1 : Hid (evX c (orX x y) = true) := Lib.hid HO0.out
              clear HN0 HA0 HO0
              refine wp_region_lit ?_
              refine wpList_load (by rfl) (.tmp 3) rfl rfl (loadAt_expr HX3.out) ?_
              simp only [Act.put, List.setIfInBounds_toArray, List.set_cons_succ, List.set_cons_zero]
              refine wpList_val (by rfl) ?_
              go_simp
              refine ⟨_, _, ⟨rfl, rfl⟩, ?_⟩
              try simp only [Act.put, List.setIfInBounds_toArray, List.set_cons_succ, List.set_cons_zero]
              have HS4 : Hid (Blk (W3.alloc (.cells #[.int .i64 x.op, .int .i64 x.a, .int .i64 x.r, .int .i64 x.b, .slice ao x.ns.length cap, .int .u64 x.st.a, .int .u64 x.st.b, .int .u64 x.st.c, .int .u64 x.st.d, .slice ak x.ks.length ck] 28)) W3.heap.size 28 #[.int .i64 x.op, .int .i64 x.a, .int .i64 x.r, .int .i64 x.b, .slice ao x.ns.length cap, .int .u64 x.st.a, .int .u64 x.st.b, .int .u64 x.st.c, .int .u64 x.st.d, .slice ak x.ks.length ck]) := Lib.hid (Blk.new _ _ _)
              have HK4 : Hid (Kp W (W3.alloc (.cells #[.int .i64 x.op, .int .i64 x.a, .int .i64 x.r, .int .i64 x.b, .slice ao x.ns.length cap, .int .u64 x.st.a, .int .u64 x.st.b, .int .u64 x.st.c, .int .u64 x.st.d, .slice ak x.ks.length ck] 28))) := Lib.hid (Kp.alloc HK3.out _)
              have HT4 : Hid (Kp W3 (W3.alloc (.cells #[.int .i64 x.op, .int .i64 x.a, .int .i64 x.r, .int .i64 x.b, .slice ao x.ns.length cap, .int .u64 x.st.a, .int .u64 x.st.b, .int .u64 x.st.c, .int .u64 x.st.d, .slice ak x.ks.length ck] 28))) := Lib.hid (Kp.alloc (Below.refl _ _) _)
              clear HX3 HY3 HD3 HL3 HGge3 HGgf3 HU3
              generalize (W3.alloc (.cells #[.int .i64 x.op, .int .i64 x.a, .int .i64 x.r, .int .i64 x.b, .slice ao x.ns.length cap, .int .u64 x.st.a, .int .u64 x.st.b, .int .u64 x.st.c, .int .u64 x.st.d, .slice ak x.ks.length ck] 28)) = W4 at *
              generalize W3.heap.size = g4 at *
              have HD4 := Lib.hid (HC.out.keep HK4.out)
              refine wpList_val (by rfl) ?_
              go_simp
              refine ⟨_, _, ⟨rfl, rfl⟩, ?_⟩
              try simp only [Act.put, List.setIfInBounds_toArray, List.set_cons_succ, List.set_cons_zero]
              refine wpList_load (by rfl) (.tmp 5) rfl rfl (loadAt_case HD4.out) ?_
              simp only [Act.put, List.setIfInBounds_toArray, List.set_cons_succ, List.set_cons_zero]
              refine wpList_enter (v := .bool false) (by rfl) (by go_simp; exact ⟨rfl, rfl⟩) (by have h := eval_c (notX x) _ _ c W4 (xv_not HV.out (HKB.out _ HK4.out) HS4.out); rw [HN1.out] at h; exact h) (fun W5 hC5 => ?_)
              simp only [Act.put, List.setIfInBounds_toArray, List.set_cons_succ, List.set_cons_zero]
              have HK5 : Hid (Kp W W5) := Lib.hid (Kp.step HK4.out hC5)
              have HD5 := Lib.hid (HC.out.keep HK5.out)
              have HT5 : Hid (Kp W3 W5) := Lib.hid (Kp.step HT4.out hC5)
              clear hC5
              refine wpList_val (by rfl) ?_
              go_simp
              refine ⟨_, _, ⟨rfl, rfl⟩, ?_⟩
              try simp only [Act.put, List.setIfInBounds_toArray, List.set_cons_succ, List.set_cons_zero]
              refine wpList_val (by rfl) ?_
              go_simp
              refine ⟨_, _, ⟨rfl, rfl⟩, ?_⟩
              try simp only [Act.put, List.setIfInBounds_toArray, List.set_cons_succ, List.set_cons_zero]
              refine wpList_val (by rfl) ?_
              go_simp
              refine ⟨_, _, ⟨rfl, rfl⟩, ?_⟩
              try simp only [Act.put, List.setIfInBounds_toArray, List.set_cons_succ, List.set_cons_zero]
              refine wpList_val (by rfl) ?_
              go_simp
              refine ⟨_, _, ⟨rfl, rfl⟩, ?_⟩
              try simp only [Act.put, List.setIfInBounds_toArray, List.set_cons_succ, List.set_cons_zero]
              refine wpList_val (by rfl) ?_
              go_simp
              refine ⟨_, _, ⟨rfl, rfl⟩, ?_⟩
              try simp only [Act.put, List.setIfInBounds_toArray, List.set_cons_succ, List.set_cons_zero]
              refine wpList_load (by rfl) (.tmp 5) rfl rfl (loadAt_case HD5.out) ?_
              simp only [Act.put, List.setIfInBounds_toArray, List.set_cons_succ, List.set_cons_zero]
              refine wpList_enter (v := .bool true) (by rfl) (by go_simp; exact ⟨rfl, rfl⟩) (by have h := eval_c (andX x y) _ _ c W5 (xv_and (HTT.out _ HT5.out)); rw [HA1.out] at h; exact h) (fun W6 hC6 => ?_)
              simp only [Act.put, List.setIfInBounds_toArray, List.set_cons_succ, List.set_cons_zero]
              have HK6 : Hid (Kp W W6) := Lib.hid (Kp.step HK5.out hC6)
              have HD6 := Lib.hid (HC.out.keep HK6.out)
              have HT6 : Hid (Kp W3 W6) := Lib.hid (Kp.step HT5.out hC6)
              clear hC6
              refine wpList_val (by rfl) ?_
              go_simp
              refine ⟨_, _, ⟨rfl, rfl⟩, ?_⟩
              try simp only [Act.put, List.setIfInBounds_toArray, List.set_cons_succ, List.set_cons_zero]
              refine wpList_val (by rfl) ?_
              go_simp
              refine ⟨_, _, ⟨rfl, rfl⟩, ?_⟩
              try simp only [Act.put, List.setIfInBounds_toArray, List.set_cons_succ, List.set_cons_zero]
              refine wpList_val (by rfl) ?_
              go_simp
              refine ⟨_, _, ⟨rfl, rfl⟩, ?_⟩
              try simp only [Act.put, List.setIfInBounds_toArray, List.set_cons_succ, List.set_cons_zero]
              refine wpList_val (by rfl) ?_
              go_simp
              refine ⟨_, _, ⟨rfl, rfl⟩, ?_⟩
              try simp only [Act.put, List.setIfInBounds_toArray, List.set_cons_succ, List.set_cons_zero]
              refine wpList_val (by rfl) ?_
              go_simp
              refine ⟨_, _, ⟨rfl, rfl⟩, ?_⟩
              try simp only [Act.put, List.setIfInBounds_toArray, List.set_cons_succ, List.set_cons_zero]
              refine wpList_val (by rfl) ?_
              go_simp
              refine ⟨_, _, ⟨rfl, rfl⟩, ?_⟩
              try simp only [Act.put, List.setIfInBounds_toArray, List.set_cons_succ, List.set_cons_zero]
              refine wpList_val (by rfl) ?_
              go_simp
              refine ⟨_, _, ⟨rfl, rfl⟩, ?_⟩
              try simp only [Act.put, List.setIfInBounds_toArray, List.set_cons_succ, List.set_cons_zero]
              refine wpList_val (by rfl) ?_
              go_simp
              refine ⟨_, _, ⟨rfl, rfl⟩, ?_⟩
              try simp only [Act.put, List.setIfInBounds_toArray, List.set_cons_succ, List.set_cons_zero]
              refine wpList_val (by rfl) ?_
              go_simp
              refine ⟨_, _, ⟨rfl, rfl⟩, ?_⟩
              try simp only [Act.put, List.setIfInBounds_toArray, List.set_cons_succ, List.set_cons_zero]
              refine wpList_load (by rfl) (.tmp 5) rfl rfl (loadAt_case HD6.out) ?_
              simp only [Act.put, List.setIfInBounds_toArray, List.set_cons_succ, List.set_cons_zero]
              refine wpList_enter (v := .bool true) (by rfl) (by go_simp; exact ⟨rfl, rfl⟩) (by have h := eval_c (orX x y) _ _ c W6 (xv_or (HTT.out _ HT6.out)); rw [HO1.out] at h; exact h) (fun W7 hC7 => ?_)
              simp only [Act.put, List.setIfInBounds_toArray, List.set_cons_succ, List.set_cons_zero]
              have HK7 : Hid (Kp W W7) := Lib.hid (Kp.step HK6.out hC7)
              have HD7 := Lib.hid (HC.out.keep HK7.out)
              have HT7 : Hid (Kp W3 W7) := Lib.hid (Kp.step HT6.out hC7)
              clear hC7
              refine wpList_val (by rfl) ?_
              go_simp
              refine ⟨_, _, ⟨rfl, rfl⟩, ?_⟩
              try simp only [Act.put, List.setIfInBounds_toArray, List.set_cons_succ, List.set_cons_zero]
              refine wpList_val (by rfl) ?_
              go_simp
              refine ⟨_, _, ⟨rfl, rfl⟩, ?_⟩
              try simp only [Act.put, List.setIfInBounds_toArray, List.set_cons_succ, List.set_cons_zero]
              refine wpList_skip (by rfl) ?_
              simp only [Act.put, List.setIfInBounds_toArray, List.set_cons_succ, List.set_cons_zero]
              refine wpList_val (by rfl) ?_
              go_simp
              refine ⟨_, _, ⟨rfl, rfl⟩, ?_⟩
              try simp only [Act.put, List.setIfInBounds_toArray, List.set_cons_succ, List.set_cons_zero]
              refine wpList_val (by rfl) ?_
              go_simp
              refine ⟨_, _, ⟨rfl, rfl⟩, ?_⟩
              try simp only [Act.put, List.setIfInBounds_toArray, List.set_cons_succ, List.set_cons_zero]
              refine wpList_val (by rfl) ?_
              go_simp
              refine ⟨_, _, ⟨rfl, rfl⟩, ?_⟩
              try simp only [Act.put, List.setIfInBounds_toArray, List.set_cons_succ, List.set_cons_zero]
              clear HTT HT4 HT5 HT6 HT7 HTW HK3 HK4 HK5 HK6 HS4 HD4 HD5 HD6 HV HV2 HN1 HA1 HO1 HEX HEY HXC HYC HWA0 HWB0
              go_upto_region 7 with fail
              obtain ⟨bf, hbf⟩ : ∃ bf : Nat → Bool, bf = fun (i : Nat) => relX (rdX c 3) (i : Int) (rdX c 9) := ⟨_, rfl⟩
              have HBF : Hid (∀ (i : Nat) (_ : i < 5) (u : World), Calls Try.prog 8 #[.agg #[.int .i64 8, .int .i64 3, .int .i64 i, .int .i64 9, .slice none 0 0, .int .u64 0, .int .u64 0, .int .u64 0, .int .u64 0, .slice none 0 0], .agg #[.int .i64 c.c1.u, .int .i64 c.c1.ro, .int .i64 c.c1.ty, .int .i64 c.c1.lo.s, .int .u64 c.c1.lo.c, .int .i64 c.c1.hi.s, .int .u64 c.c1.hi.c, .int .i64 c.c2.u, .int .i64 c.c2.ro, .int .i64 c.c2.ty, .int .i64 c.c2.lo.s, .int .u64 c.c2.lo.c, .int .i64 c.c2.hi.s, .int .u64 c.c2.hi.c, .int .i64 c.c3.u, .int .i64 c.c3.ro, .int .i64 c.c3.ty, .int .i64 c.c3.lo.s, .int .u64 c.c3.lo.c, .int .i64 c.c3.hi.s, .int .u64 c.c3.hi.c]] u fun e w' => e = .returned (.bool (bf i)) ∧ Below u.heap.size u w') := Lib.hid (fun i hi u => by have h := eval_c (relE i) _ _ c u (xv_rel i hi); rw [evX_rel c i hi] at h; rw [hbf]; exact h)
              obtain ⟨p, hp⟩ : ∃ p, domX (rdX c 3) (rdX c 9) = p := ⟨_, rfl⟩
              obtain ⟨q, hq⟩ : ∃ q, domX (rdX c 9) (rdX c 3) = q := ⟨_, rfl⟩
              have HP : Hid (bf 0 = (p && q) ∧ bf 1 = (!(p && q)) ∧ bf 2 = p ∧ bf 3 = q ∧ bf 4 = (!p && !q)) := Lib.hid (by subst hbf hp hq; exact ⟨rel0 _ _, rel1 _ _, rel2 _ _, rel3 _ _, rel4 _ _⟩)
              clear hbf hp hq
              go_upto_region 8 with fail
              have HBL0 : Hid (Blk (W7.alloc (.cells #[.bool false, .bool false, .bool false, .bool false, .bool false] 40)) W7.heap.size 40 (bl5 bf 0)) := Lib.hid (by rw [bl5_zero]; exact Blk.new _ _ _)
              have HK8 : Hid (Kp W (W7.alloc (.cells #[.bool false, .bool false, .bool false, .bool false, .bool false] 40))) := Lib.hid (Kp.alloc HK7.out _)
              have HS10 : Hid (W.heap.size ≤ W7.heap.size) := Lib.hid (Below.size HK7.out)
              clear HK7 HD7
              generalize (W7.alloc (.cells #[.bool false, .bool false, .bool false, .bool false, .bool false] 40)) = W8 at *
              generalize W7.heap.size = g10 at *
              go_wp2_with fail
              go_loopw [11] (fun v11 wr => ∃ i : Nat, i ≤ 5 ∧ v11 = .int .i64 i ∧ Hid (Blk wr g10 40 (bl5 bf i)) ∧ Hid (Kp W wr)) (fun v11 _ => 5 - (intOf v11).toNat)
              case atStart => exact ⟨0, by omega, rfl, HBL0, HK8⟩
              case round =>
                clear HBL0 HK8
                obtain ⟨i, hi, rfl, HBL, HKr⟩ := hrel
                by_cases hlt : i < 5
                · have hlt' : (i : Int) < 5 := by omega
                  have HDr := Lib.hid (HC.out.keep HKr.out)
                  go_upto_region 11 with fail
                  refine wp_region_lit ?_
                  refine wpList_val (by rfl) ?_
                  go_simp
                  refine ⟨_, _, ⟨rfl, rfl⟩, ?_⟩
                  try simp only [Act.put, List.setIfInBounds_toArray, List.set_cons_succ, List.set_cons_zero]
                  refine wpList_val (by rfl) ?_
                  go_simp
                  refine ⟨_, _, ⟨rfl, rfl⟩, ?_⟩
                  try simp only [Act.put, List.setIfInBounds_toArray, List.set_cons_succ, List.set_cons_zero]
                  refine wpList_val (by rfl) ?_
                  go_simp
                  refine ⟨_, _, ⟨rfl, rfl⟩, ?_⟩
                  try simp only [Act.put, List.setIfInBounds_toArray, List.set_cons_succ, List.set_cons_zero]
                  refine wpList_load (by rfl) (.tmp 5) rfl rfl (loadAt_case HDr.out) ?_
                  simp only [Act.put, List.setIfInBounds_toArray, List.set_cons_succ, List.set_cons_zero]
                  refine wpList_enter (v := .bool (bf i)) (by rfl) (by go_simp) (HBF.out i hlt _) (fun W9 hC9 => ?_)
                  simp only [Act.put, List.setIfInBounds_toArray, List.set_cons_succ, List.set_cons_zero]
                  have HK9 : Hid (Kp W W9) := Lib.hid (Kp.step HKr.out hC9)
                  have HB9 := Lib.hid (HBL.out.keep hC9)
                  clear hC9 HBL HKr HDr
                  have fz := HB9.out.frozen i
                  have qi := (HB9.out.cell i).trans (bl5_at bf i hlt)
                  go_wp2_with fail
                  go_roundw
                  case rel => exact ⟨i + 1, by omega, by go_num, Lib.hid (by have h := HB9.out.set i (.bool (bf i)); rw [bl5_set bf i hlt] at h; exact h), Lib.hid (below_set1 HK9.out HS10.out i _)⟩
                  case measure => simp [intOf]; omega
                · obtain rfl : i = 5 := by omega
                  have c0 : wr.cell? ⟨g10, 0, none⟩ = some (.bool (p && q)) := by rw [HBL.out.cell 0, ← HP.out.1]; rfl
                  have c1 : wr.cell? ⟨g10, 1, none⟩ = some (.bool (!(p && q))) := by rw [HBL.out.cell 1, ← HP.out.2.1]; rfl
                  have c2 : wr.cell? ⟨g10, 2, none⟩ = some (.bool p) := by rw [HBL.out.cell 2, ← HP.out.2.2.1]; rfl
                  have c3 : wr.cell? ⟨g10, 3, none⟩ = some (.bool q) := by rw [HBL.out.cell 3, ← HP.out.2.2.2.1]; rfl
                  have c4 : wr.cell? ⟨g10, 4, none⟩ = some (.bool (!p && !q)) := by rw [HBL.out.cell 4, ← HP.out.2.2.2.2]; rfl
                  clear HP HBL HBF
                  cases p <;> cases q <;> (
                    simp only [Bool.and_self, Bool.and_true, Bool.and_false, Bool.not_true, Bool.not_false] at c0 c1 c4
                    go_wp2_with (go_at_call 7; (with_reducible refine (HAW.out _).mono ?_); rintro e w2 ⟨rfl, hb2⟩; have HB2 := Lib.hid (HB.out.trans (Below.mono (Kp.step HKr.out hb2) HLE.out)); clear hb2)
                    go_ret
                    exact ⟨rfl, by first | exact HB2.out | (rw [hge]; exact HB2.out)⟩)
end Go.Proofs.Ytamcfmfkmekkfaa
namespace Go.Proofs.Ytamcfmfkmekkfaa.constraintLogic
open Go.ChangeShapes Go.WideShapes Go.ChangeAt Go.RowKit
set_option maxRecDepth 100000 in
set_option maxHeartbeats 1000000 in
theorem lifted (os : Os) (started : os.Started) (H : Type) (enc : TypeId × Value → H) :
    ReturnsInHanded {} Try.checked os 4 .any (Rows.constraintLogicSpec.pre6 enc Try.prog Try.f4 Rows.constraintLogicRow.domain false) (Rows.constraintLogicSpec.post enc Try.prog Try.f4 false true false false) := by
  refine returnsInHanded_of_change (C := Try.checked) Try.own started (by kernel_rfl) Try.func4
    (ChangeSpec.witness6 (enc := enc) (C := Try.checked) false ⟨#[], #[.agg #[.int .i64 0, .int .i64 0, .int .i64 0, .int .i64 0, .slice none 0 0, .int .u64 0, .int .u64 0, .int .u64 0, .int .u64 0, .slice none 0 0], .agg #[.int .i64 0, .int .i64 0, .int .i64 0, .int .i64 0, .slice none 0 0, .int .u64 0, .int .u64 0, .int .u64 0, .int .u64 0, .slice none 0 0], .agg #[.int .i64 0, .int .i64 0, .int .i64 0, .int .i64 0, .int .u64 0, .int .i64 0, .int .u64 0, .int .i64 0, .int .i64 0, .int .i64 0, .int .i64 0, .int .u64 0, .int .i64 0, .int .u64 0, .int .i64 0, .int .i64 0, .int .i64 0, .int .i64 0, .int .u64 0, .int .i64 0, .int .u64 0]], []⟩ 8 (by kernel_rfl) (by kernel_rfl) (by kernel_rfl) (by kernel_rfl)) ?_
  intro W base args ds gs before hval0 hW hcnd _
  have hval : ∀ (j : Nat) t v, Try.f4.params[j]? = some t → args[j]? = some v → Value.okWide Try.prog W .any base t v := hval0
  have hW' := hW
  obtain ⟨p, q, hA0, hV, rfl, hfz, hnd⟩ := hW
  have hA : DataW.TrodAll enc Try.prog W 0 (fun _ => true) true Try.f4.params.toList args.toList ds p := hA0
  rw [Try.params4] at hA hval
  obtain ⟨v0, vs0, d0, ds0, p0, q0, hargs, rfl, rfl, h0, r0⟩ := trodAll_cons hA
  obtain ⟨v1, vs1, d1, ds1, p1, q1, rfl, rfl, rfl, h1, r1⟩ := trodAll_cons r0
  obtain ⟨v2, vs2, d2, ds2, p2, q2, rfl, rfl, rfl, h2, r2⟩ := trodAll_cons r1
  obtain ⟨rfl, rfl, rfl⟩ := trodAll_nil r2
  obtain rfl : args = #[v0, v1, v2] := by cases args; simp_all
  obtain ⟨rfl, rfl⟩ := trodVars_none hV
  have lt0 : ∀ x ∈ p0, x.block < W.heap.size := by obtain ⟨m, hm⟩ := h0; exact DataW.trod_lt m _ _ _ hm
  have k0 := h0
  obtain ⟨x0, vn0, vk0, rfl, hX0⟩ := open_expr (hval 0 28 v0 rfl rfl) h0
  have lt1 : ∀ x ∈ p1, x.block < W.heap.size := by obtain ⟨m, hm⟩ := h1; exact DataW.trod_lt m _ _ _ hm
  have k1 := h1
  obtain ⟨x1, vn1, vk1, rfl, hX1⟩ := open_expr (hval 1 28 v1 rfl rfl) h1
  have lt2 : ∀ x ∈ p2, x.block < W.heap.size := by obtain ⟨m, hm⟩ := h2; exact DataW.trod_lt m _ _ _ hm
  have k2 := h2
  obtain ⟨c2, rfl⟩ := open_case (hval 2 36 v2 rfl rfl) h2
  clear hA0 hval0
  refine (lawLogic_c x0 x1 _ _ _ _ c2 W hX0 hX1).mono fun e W' ⟨he, bel⟩ => ?_
  subst he
  exact ⟨_, rfl, _, _, _, [], _, [], hW', trodAll_mk1 (shut_bool Try.underlying4 _), (trodAll_cons_mk (Below.trod Try.laidOut (by kernel_rfl) (of_decide_eq_true (by kernel_rfl)) k0 bel lt0) (trodAll_cons_mk (Below.trod Try.laidOut (by kernel_rfl) (of_decide_eq_true (by kernel_rfl)) k1 bel lt1) (trodAll_cons_mk (Below.trod Try.laidOut (by kernel_rfl) (of_decide_eq_true (by kernel_rfl)) k2 bel lt2) trodAll_mk0))), rfl, bel.frame _, fun h => by cases h⟩
theorem proved : Rows.ConstraintLogicSaid :=
  OpenClaim.holds_of_wide 4 Try.f4 rfl rfl rfl rfl rfl rfl rfl ⟨rfl, rfl, rfl, rfl, rfl⟩ rfl rfl rfl rfl rfl (by kernel_rfl) Try.func4 (by kernel_rfl)
    (of_decide_eq_true (by kernel_rfl)) (by unfold Func.isWrapper; first | (rw [if_pos (by decide +kernel)]; kernel_rfl) | (rw [if_neg (by decide +kernel)]; exact ⟨rfl, rfl⟩))
    (fun os started H enc _ => lifted os started H enc)
#print axioms proved
end Go.Proofs.Ytamcfmfkmekkfaa.constraintLogic
