/- Ezl Ezn Eye Ezp Ezt Ezw -/
import Derived.Test.YtjikbffnhfoikaaZaf
import Derived.ProofKit
import Derived.OpenShut
import Derived.ChangeOld
import Derived.Deep.Slices
import Derived.ChangeMaps5
import Derived.Laws.IdiomArrays
/- Comparison of entries, pairs, rules. -/
namespace Go.Proofs.Ytjikbffnhfoikaa
open Go.RowKit Go.Sort Go.Maps
theorem ibeq_no {a b : Int} (h : a ≠ b) : (a == b) = false := by simpa using h
theorem vbeq_no {a b : BitVec 32} (h : a ≠ b) : (vI a == vI b) = false := by
  have : vI a ≠ vI b := fun e => h (vI_inj e)
  simpa using this
@[go_sem] theorem eqSet9 (a b c d a' b' c' d' : Int) (w : World) :
    (Op.equalIn 9999 24 (.agg #[.int .u64 a, .int .u64 b, .int .u64 c, .int .u64 d]) (.agg #[.int .u64 a', .int .u64 b', .int .u64 c', .int .u64 d'])).run Try.prog w = .ok (same4 a b c d a' b' c' d') w := by
  have u3 := Try.underlying22
  have a3 := Try.isAgg22
  have z3 := Try.sizeOf22
  rw [show (9999 : Nat) = 9998 + 1 from rfl, Op.equalIn]
  simp only [Sem.run_bind, run_underlying Try.underlying24, Result.andThen_ok]
  simp only [Std.Legacy.Range.forIn_eq_forIn_range', Std.Legacy.Range.size, Nat.sub_zero, Nat.add_sub_cancel, Nat.div_one, List.range'_succ, List.range'_zero, List.forIn_cons, List.forIn_nil]
  go_simp
  by_cases h1 : a = a' <;> by_cases h2 : b = b' <;> by_cases h3 : c = c' <;> by_cases h4 : d = d' <;> simp [h1, h2, h3, h4, same4]
theorem same4_no {x y : S4} (h : x ≠ y) : same4 x.a x.b x.c x.d y.a y.b y.c y.d = false := by
  unfold same4
  refine decide_eq_false fun ⟨h1, h2, h3, h4⟩ => h ?_
  cases x; cases y
  dsimp only at h1 h2 h3 h4
  rw [h1, h2, h3, h4]
set_option maxRecDepth 100000 in
theorem neqSE (x : E) (w : World) : (binOp .neq 61 (.agg #[.int .i64 x.s, .int .i64 x.t, .int .i64 x.c, .int .i64 x.d, .int .u32 (vI x.a), .int .u32 (vI x.b), .int .u32 (vI x.e)]) (.agg #[.int .i64 x.s, .int .i64 x.t, .int .i64 x.c, .int .i64 x.d, .int .u32 (vI x.a), .int .u32 (vI x.b), .int .u32 (vI x.e)])).run Try.prog w = .ok (.bool false) w := by
  go_simp
set_option maxRecDepth 100000 in
theorem neqDE (x y : E) (h : x ≠ y) (w : World) : (binOp .neq 61 (.agg #[.int .i64 x.s, .int .i64 x.t, .int .i64 x.c, .int .i64 x.d, .int .u32 (vI x.a), .int .u32 (vI x.b), .int .u32 (vI x.e)]) (.agg #[.int .i64 y.s, .int .i64 y.t, .int .i64 y.c, .int .i64 y.d, .int .u32 (vI y.a), .int .u32 (vI y.b), .int .u32 (vI y.e)])).run Try.prog w = .ok (.bool true) w := by
  obtain ⟨s, t, c, d, a, b, e, wf⟩ := x
  obtain ⟨s', t', c', d', a', b', e', wf'⟩ := y
  by_cases h0 : s = s'
  · subst h0
    by_cases h1 : t = t'
    · subst h1
      by_cases h2 : c = c'
      · subst h2
        by_cases h3 : d = d'
        · subst h3
          by_cases h4 : a = a'
          · subst h4
            by_cases h5 : b = b'
            · subst h5
              by_cases h6 : e = e'
              · subst h6
                exact absurd rfl h
              · have q := vbeq_no h6
                go_simp
            · have q := vbeq_no h5
              go_simp
          · have q := vbeq_no h4
            go_simp
        · have q := ibeq_no h3
          go_simp
      · have q := ibeq_no h2
        go_simp
    · have q := ibeq_no h1
      go_simp
  · have q := ibeq_no h0
    go_simp
set_option maxRecDepth 100000 in
theorem neqSR (x : Ru) (w : World) : (binOp .neq 27 (.agg #[.int .i64 x.k, .int .u64 x.src.a, .int .u64 x.src.b, .int .u64 x.src.c, .int .u64 x.src.d, .int .u64 x.tgt.a, .int .u64 x.tgt.b, .int .u64 x.tgt.c, .int .u64 x.tgt.d, .bool x.self, .int .i64 x.cl, .int .u32 (vI x.pm), .int .i64 x.cd]) (.agg #[.int .i64 x.k, .int .u64 x.src.a, .int .u64 x.src.b, .int .u64 x.src.c, .int .u64 x.src.d, .int .u64 x.tgt.a, .int .u64 x.tgt.b, .int .u64 x.tgt.c, .int .u64 x.tgt.d, .bool x.self, .int .i64 x.cl, .int .u32 (vI x.pm), .int .i64 x.cd])).run Try.prog w = .ok (.bool false) w := by
  go_simp
set_option maxRecDepth 100000 in
theorem neqDR (x y : Ru) (h : x ≠ y) (w : World) : (binOp .neq 27 (.agg #[.int .i64 x.k, .int .u64 x.src.a, .int .u64 x.src.b, .int .u64 x.src.c, .int .u64 x.src.d, .int .u64 x.tgt.a, .int .u64 x.tgt.b, .int .u64 x.tgt.c, .int .u64 x.tgt.d, .bool x.self, .int .i64 x.cl, .int .u32 (vI x.pm), .int .i64 x.cd]) (.agg #[.int .i64 y.k, .int .u64 y.src.a, .int .u64 y.src.b, .int .u64 y.src.c, .int .u64 y.src.d, .int .u64 y.tgt.a, .int .u64 y.tgt.b, .int .u64 y.tgt.c, .int .u64 y.tgt.d, .bool y.self, .int .i64 y.cl, .int .u32 (vI y.pm), .int .i64 y.cd])).run Try.prog w = .ok (.bool true) w := by
  obtain ⟨k, s, t, self, cl, pm, cd, wf⟩ := x
  obtain ⟨k', s', t', self', cl', pm', cd', wf'⟩ := y
  by_cases h0 : k = k'
  · subst h0
    by_cases h1 : s = s'
    · subst h1
      by_cases h2 : t = t'
      · subst h2
        by_cases h3 : self = self'
        · subst h3
          by_cases h4 : cl = cl'
          · subst h4
            by_cases h5 : pm = pm'
            · subst h5
              by_cases h6 : cd = cd'
              · subst h6
                exact absurd rfl h
              · have q := ibeq_no h6
                go_simp
            · have q := vbeq_no h5
              go_simp
          · have q := ibeq_no h4
            go_simp
        · have q : (self == self') = false := by simpa using h3
          go_simp
      · have q := same4_no h2
        go_simp
    · have q := same4_no h1
      go_simp
  · have q := ibeq_no h0
    go_simp
set_option maxRecDepth 100000 in
theorem eqlSE (x : E) (w : World) : (binOp .eql 61 (.agg #[.int .i64 x.s, .int .i64 x.t, .int .i64 x.c, .int .i64 x.d, .int .u32 (vI x.a), .int .u32 (vI x.b), .int .u32 (vI x.e)]) (.agg #[.int .i64 x.s, .int .i64 x.t, .int .i64 x.c, .int .i64 x.d, .int .u32 (vI x.a), .int .u32 (vI x.b), .int .u32 (vI x.e)])).run Try.prog w = .ok (.bool true) w := by
  go_simp
set_option maxRecDepth 100000 in
theorem eqlDE (x y : E) (h : x ≠ y) (w : World) : (binOp .eql 61 (.agg #[.int .i64 x.s, .int .i64 x.t, .int .i64 x.c, .int .i64 x.d, .int .u32 (vI x.a), .int .u32 (vI x.b), .int .u32 (vI x.e)]) (.agg #[.int .i64 y.s, .int .i64 y.t, .int .i64 y.c, .int .i64 y.d, .int .u32 (vI y.a), .int .u32 (vI y.b), .int .u32 (vI y.e)])).run Try.prog w = .ok (.bool false) w := by
  obtain ⟨s, t, c, d, a, b, e, wf⟩ := x
  obtain ⟨s', t', c', d', a', b', e', wf'⟩ := y
  by_cases h0 : s = s'
  · subst h0
    by_cases h1 : t = t'
    · subst h1
      by_cases h2 : c = c'
      · subst h2
        by_cases h3 : d = d'
        · subst h3
          by_cases h4 : a = a'
          · subst h4
            by_cases h5 : b = b'
            · subst h5
              by_cases h6 : e = e'
              · subst h6
                exact absurd rfl h
              · have q := vbeq_no h6
                go_simp
            · have q := vbeq_no h5
              go_simp
          · have q := vbeq_no h4
            go_simp
        · have q := ibeq_no h3
          go_simp
      · have q := ibeq_no h2
        go_simp
    · have q := ibeq_no h1
      go_simp
  · have q := ibeq_no h0
    go_simp
set_option maxRecDepth 100000 in
theorem eqlSR (x : Ru) (w : World) : (binOp .eql 27 (.agg #[.int .i64 x.k, .int .u64 x.src.a, .int .u64 x.src.b, .int .u64 x.src.c, .int .u64 x.src.d, .int .u64 x.tgt.a, .int .u64 x.tgt.b, .int .u64 x.tgt.c, .int .u64 x.tgt.d, .bool x.self, .int .i64 x.cl, .int .u32 (vI x.pm), .int .i64 x.cd]) (.agg #[.int .i64 x.k, .int .u64 x.src.a, .int .u64 x.src.b, .int .u64 x.src.c, .int .u64 x.src.d, .int .u64 x.tgt.a, .int .u64 x.tgt.b, .int .u64 x.tgt.c, .int .u64 x.tgt.d, .bool x.self, .int .i64 x.cl, .int .u32 (vI x.pm), .int .i64 x.cd])).run Try.prog w = .ok (.bool true) w := by
  go_simp
set_option maxRecDepth 100000 in
theorem eqlDR (x y : Ru) (h : x ≠ y) (w : World) : (binOp .eql 27 (.agg #[.int .i64 x.k, .int .u64 x.src.a, .int .u64 x.src.b, .int .u64 x.src.c, .int .u64 x.src.d, .int .u64 x.tgt.a, .int .u64 x.tgt.b, .int .u64 x.tgt.c, .int .u64 x.tgt.d, .bool x.self, .int .i64 x.cl, .int .u32 (vI x.pm), .int .i64 x.cd]) (.agg #[.int .i64 y.k, .int .u64 y.src.a, .int .u64 y.src.b, .int .u64 y.src.c, .int .u64 y.src.d, .int .u64 y.tgt.a, .int .u64 y.tgt.b, .int .u64 y.tgt.c, .int .u64 y.tgt.d, .bool y.self, .int .i64 y.cl, .int .u32 (vI y.pm), .int .i64 y.cd])).run Try.prog w = .ok (.bool false) w := by
  obtain ⟨k, s, t, self, cl, pm, cd, wf⟩ := x
  obtain ⟨k', s', t', self', cl', pm', cd', wf'⟩ := y
  by_cases h0 : k = k'
  · subst h0
    by_cases h1 : s = s'
    · subst h1
      by_cases h2 : t = t'
      · subst h2
        by_cases h3 : self = self'
        · subst h3
          by_cases h4 : cl = cl'
          · subst h4
            by_cases h5 : pm = pm'
            · subst h5
              by_cases h6 : cd = cd'
              · subst h6
                exact absurd rfl h
              · have q := ibeq_no h6
                go_simp
            · have q := vbeq_no h5
              go_simp
          · have q := ibeq_no h4
            go_simp
        · have q : (self == self') = false := by simpa using h3
          go_simp
      · have q := same4_no h2
        go_simp
    · have q := same4_no h1
      go_simp
  · have q := ibeq_no h0
    go_simp
end Go.Proofs.Ytjikbffnhfoikaa
/- The lists' comparisons of the law and the reference: Same, pairs, rules. -/
namespace Go.Proofs.Ytjikbffnhfoikaa
open Go.RowKit Go.Sort Go.Maps
/-- equality of pairs; closed to the walk -/
def same2 (a b a' b' : Int) : Bool := decide (a = a' ∧ b = b')
@[go_sem] theorem same2_self (a b : Int) : same2 a b a b = true := by simp [same2]
@[go_sem] theorem eqPair (a b a' b' : Int) (w : World) :
    (Op.equalIn 10000 63 (.agg #[.int .i64 a, .int .i64 b]) (.agg #[.int .i64 a', .int .i64 b'])).run Try.prog w = .ok (same2 a b a' b') w := by
  have u3 := Try.underlying3
  have a3 := Try.isAgg3
  have z3 := Try.sizeOf3
  rw [show (10000 : Nat) = 9999 + 1 from rfl, Op.equalIn]
  simp only [Sem.run_bind, run_underlying Try.underlying63, Result.andThen_ok]
  simp only [Std.Legacy.Range.forIn_eq_forIn_range', Std.Legacy.Range.size, Nat.sub_zero, Nat.add_sub_cancel, Nat.div_one, List.range'_succ, List.range'_zero, List.forIn_cons, List.forIn_nil]
  go_simp
  by_cases h1 : a = a' <;> by_cases h2 : b = b' <;> simp [h1, h2, same2]
theorem same2_no {x y : Int × Int} (h : x ≠ y) : same2 x.1 x.2 y.1 y.2 = false := by
  unfold same2
  exact decide_eq_false fun ⟨h1, h2⟩ => h (Prod.ext h1 h2)
set_option maxRecDepth 100000 in
theorem neqSP (x : Int × Int) (w : World) : (binOp .neq 63 (.agg #[.int .i64 x.1, .int .i64 x.2]) (.agg #[.int .i64 x.1, .int .i64 x.2])).run Try.prog w = .ok (.bool false) w := by
  go_simp
set_option maxRecDepth 100000 in
theorem neqDP (x y : Int × Int) (h : x ≠ y) (w : World) : (binOp .neq 63 (.agg #[.int .i64 x.1, .int .i64 x.2]) (.agg #[.int .i64 y.1, .int .i64 y.2])).run Try.prog w = .ok (.bool true) w := by
  have q := same2_no h
  go_simp
theorem lists_ne {α : Type} [DecidableEq α] {a b : List α} {k : Nat} (ha : k < a.length) (hb : k < b.length) (h : a[k] ≠ b[k]) : decide (a = b) = false := by
  refine decide_eq_false fun e => h ?_
  subst e
  rfl
set_option maxRecDepth 100000 in
set_option maxHeartbeats 8000000 in
theorem rsame_c (va vb : Value) (a b : List E) (w : World) (ha0 : Ents w va a) (hb0 : Ents w vb b) (hma : a.length ≤ 1000000) :
    Calls Try.prog 16 #[va, vb] w fun e w' => e = .returned (.bool (decide (a = b))) ∧ Below w.heap.size w w' := by
  obtain ⟨A, c, rfl, -, ha1⟩ := ha0
  obtain ⟨B, c', rfl, -, hb1⟩ := hb0
  have ha : ∀ k, (h : k < a.length) → ∃ g o, A = some ⟨g, o, none⟩ ∧ At7 w g (o + k * 7) a[k] := fun k h => by
    obtain ⟨g, o, e, q⟩ := ha1 (List.ne_nil_of_length_pos (by omega))
    exact ⟨g, o, e, q.at h⟩
  have hb : ∀ k, (h : k < b.length) → ∃ g o, B = some ⟨g, o, none⟩ ∧ At7 w g (o + k * 7) b[k] := fun k h => by
    obtain ⟨g, o, e, q⟩ := hb1 (List.ne_nil_of_length_pos (by omega))
    exact ⟨g, o, e, q.at h⟩
  clear ha1 hb1
  by_cases hl : a.length = b.length
  · have hd : ((a.length : Int) != (b.length : Int)) = false := by simp [hl]
    have HL := Lib.hid hl
    clear hl
    go_enter Try.func16, Try.ntmps16
    go_wp2
    go_loopw [5] (fun i wr => ∃ k : Nat, k ≤ a.length ∧ i = .int .i64 k ∧ (∀ j (h1 : j < a.length) (h2 : j < b.length), j < k → a[j] = b[j]) ∧ Below w.heap.size w wr)
      (fun i _ => a.length - (intOf i).toNat)
    case atStart => exact ⟨0, by omega, rfl, fun j _ _ h => absurd h (by omega), Below.refl _ _⟩
    case round =>
      obtain ⟨k, hk, rfl, hp, hbl⟩ := hrel
      have HP := Lib.hid hp
      clear hp
      by_cases hlt : k < a.length
      · have hlb : k < b.length := HL.out ▸ hlt
        obtain ⟨g1, o1, rfl, q1⟩ := ha k hlt
        obtain ⟨g2, o2, rfl, q2⟩ := hb k hlb
        obtain ⟨p, hp⟩ : ∃ p, p = a[k] := ⟨_, rfl⟩
        obtain ⟨q, hq⟩ : ∃ q, q = b[k] := ⟨_, rfl⟩
        rw [← hp] at q1
        rw [← hq] at q2
        obtain ⟨s0, s1, s2, s3, s4, s5, s6⟩ := (q1.keep (hbl.block g1 q1.lt))
        obtain ⟨t0, t1, t2, t3, t4, t5, t6⟩ := (q2.keep (hbl.block g2 q2.lt))
        clear q1 q2 ha hb
        have j1 : (k : Int) < (a.length : Int) := by omega
        have j2 : (k : Int) < (b.length : Int) := by omega
        have HPp := Lib.hid hp
        have HQq := Lib.hid hq
        clear hp hq
        by_cases he : p = q
        · subst he
          have hne := fun w => neqSE p w
          go_wp2
          go_quiet (fail)
          go_wp2
          go_roundw
          case rel => exact ⟨k + 1, by omega, by go_num, fun j h1 h2 h3 => by
            rcases Nat.lt_succ_iff_lt_or_eq.1 h3 with h' | h'
            · exact HP.out j h1 h2 h'
            · subst h'; exact HPp.out.symm.trans HQq.out, below_drewN hbl _⟩
          case measure => simp [intOf]; omega
        · have hne := fun w => neqDE p q he w
          go_wp2
          go_quiet (fail)
          go_wp2
          go_ret
          exact ⟨ret_bool (lists_ne hlt hlb (by rw [← HPp.out, ← HQq.out]; exact he)).symm, below_drewN hbl _⟩
      · have hkL : k = a.length := by omega
        have j1 : ¬ (k : Int) < (a.length : Int) := by omega
        go_wp2
        go_ret
        exact ⟨ret_bool (decide_eq_true (List.ext_getElem HL.out fun j h1 h2 => HP.out j h1 h2 (by omega))).symm, hbl⟩
  · have hd : ((a.length : Int) != (b.length : Int)) = true := by
      have : (a.length : Int) ≠ (b.length : Int) := by omega
      simpa using this
    rw [decide_eq_false (show ¬ a = b from fun e => hl (by rw [e]))]
    go_enter Try.func16, Try.ntmps16
    go_wp2
    go_ret
    exact ⟨rfl, Below.refl _ _⟩
set_option maxRecDepth 100000 in
set_option maxHeartbeats 8000000 in
theorem lpairs_c (va vb : Value) (a b : List (Int × Int)) (w : World) (ha0 : Prs w va a) (hb0 : Prs w vb b) (hma : a.length ≤ 1000000) :
    Calls Try.prog 10 #[va, vb] w fun e w' => e = .returned (.bool (decide (a = b))) ∧ Below w.heap.size w w' := by
  obtain ⟨A, c, rfl, -, ha1⟩ := ha0
  obtain ⟨B, c', rfl, -, hb1⟩ := hb0
  have ha : ∀ k, (h : k < a.length) → ∃ g o, A = some ⟨g, o, none⟩ ∧ AtP w g (o + k * 2) a[k] := fun k h => by
    obtain ⟨g, o, e, q⟩ := ha1 (List.ne_nil_of_length_pos (by omega))
    exact ⟨g, o, e, q.at h⟩
  have hb : ∀ k, (h : k < b.length) → ∃ g o, B = some ⟨g, o, none⟩ ∧ AtP w g (o + k * 2) b[k] := fun k h => by
    obtain ⟨g, o, e, q⟩ := hb1 (List.ne_nil_of_length_pos (by omega))
    exact ⟨g, o, e, q.at h⟩
  clear ha1 hb1
  by_cases hl : a.length = b.length
  · have hd : ((a.length : Int) != (b.length : Int)) = false := by simp [hl]
    have HL := Lib.hid hl
    clear hl
    go_enter Try.func10, Try.ntmps10
    go_wp2
    go_loopw [13] (fun i wr => ∃ k : Nat, k ≤ a.length ∧ i = .int .i64 k ∧ (∀ j (h1 : j < a.length) (h2 : j < b.length), j < k → a[j] = b[j]) ∧ Below w.heap.size w wr)
      (fun i _ => a.length - (intOf i).toNat)
    case atStart => exact ⟨0, by omega, rfl, fun j _ _ h => absurd h (by omega), Below.refl _ _⟩
    case round =>
      obtain ⟨k, hk, rfl, hp, hbl⟩ := hrel
      have HP := Lib.hid hp
      clear hp
      by_cases hlt : k < a.length
      · have hlb : k < b.length := HL.out ▸ hlt
        obtain ⟨g1, o1, rfl, q1⟩ := ha k hlt
        obtain ⟨g2, o2, rfl, q2⟩ := hb k hlb
        obtain ⟨p, hp⟩ : ∃ p, p = a[k] := ⟨_, rfl⟩
        obtain ⟨q, hq⟩ : ∃ q, q = b[k] := ⟨_, rfl⟩
        rw [← hp] at q1
        rw [← hq] at q2
        obtain ⟨s0, s1⟩ := (q1.keep (hbl.block g1 q1.lt)).facts
        obtain ⟨t0, t1⟩ := (q2.keep (hbl.block g2 q2.lt)).facts
        clear q1 q2 ha hb
        have j1 : (k : Int) < (a.length : Int) := by omega
        have j2 : (k : Int) < (b.length : Int) := by omega
        have HPp := Lib.hid hp
        have HQq := Lib.hid hq
        clear hp hq
        by_cases he : p = q
        · subst he
          have hne := fun w => neqSP p w
          go_wp2
          go_quiet (fail)
          go_wp2
          go_roundw
          case rel => exact ⟨k + 1, by omega, by go_num, fun j h1 h2 h3 => by
            rcases Nat.lt_succ_iff_lt_or_eq.1 h3 with h' | h'
            · exact HP.out j h1 h2 h'
            · subst h'; exact HPp.out.symm.trans HQq.out, below_drewN hbl _⟩
          case measure => simp [intOf]; omega
        · have hne := fun w => neqDP p q he w
          go_wp2
          go_quiet (fail)
          go_wp2
          go_ret
          exact ⟨ret_bool (lists_ne hlt hlb (by rw [← HPp.out, ← HQq.out]; exact he)).symm, below_drewN hbl _⟩
      · have hkL : k = a.length := by omega
        have j1 : ¬ (k : Int) < (a.length : Int) := by omega
        go_wp2
        go_ret
        exact ⟨ret_bool (decide_eq_true (List.ext_getElem HL.out fun j h1 h2 => HP.out j h1 h2 (by omega))).symm, hbl⟩
  · have hd : ((a.length : Int) != (b.length : Int)) = true := by
      have : (a.length : Int) ≠ (b.length : Int) := by omega
      simpa using this
    rw [decide_eq_false (show ¬ a = b from fun e => hl (by rw [e]))]
    go_enter Try.func10, Try.ntmps10
    go_wp2
    go_ret
    exact ⟨rfl, Below.refl _ _⟩
set_option maxRecDepth 100000 in
set_option maxHeartbeats 8000000 in
theorem lrules_c (va vb : Value) (a b : List Ru) (w : World) (ha0 : Rus w va a) (hb0 : Rus w vb b) (hma : a.length ≤ 1000000) :
    Calls Try.prog 23 #[va, vb] w fun e w' => e = .returned (.bool (decide (a = b))) ∧ Below w.heap.size w w' := by
  obtain ⟨A, c, rfl, -, ha1⟩ := ha0
  obtain ⟨B, c', rfl, -, hb1⟩ := hb0
  have ha : ∀ k, (h : k < a.length) → ∃ g o, A = some ⟨g, o, none⟩ ∧ AtR w g (o + k * 13) a[k] := fun k h => by
    obtain ⟨g, o, e, q⟩ := ha1 (List.ne_nil_of_length_pos (by omega))
    exact ⟨g, o, e, q.at h⟩
  have hb : ∀ k, (h : k < b.length) → ∃ g o, B = some ⟨g, o, none⟩ ∧ AtR w g (o + k * 13) b[k] := fun k h => by
    obtain ⟨g, o, e, q⟩ := hb1 (List.ne_nil_of_length_pos (by omega))
    exact ⟨g, o, e, q.at h⟩
  clear ha1 hb1
  by_cases hl : a.length = b.length
  · have hd : ((a.length : Int) != (b.length : Int)) = false := by simp [hl]
    have HL := Lib.hid hl
    clear hl
    go_enter Try.func23, Try.ntmps23
    go_wp2
    go_loopw [13] (fun i wr => ∃ k : Nat, k ≤ a.length ∧ i = .int .i64 k ∧ (∀ j (h1 : j < a.length) (h2 : j < b.length), j < k → a[j] = b[j]) ∧ Below w.heap.size w wr)
      (fun i _ => a.length - (intOf i).toNat)
    case atStart => exact ⟨0, by omega, rfl, fun j _ _ h => absurd h (by omega), Below.refl _ _⟩
    case round =>
      obtain ⟨k, hk, rfl, hp, hbl⟩ := hrel
      have HP := Lib.hid hp
      clear hp
      by_cases hlt : k < a.length
      · have hlb : k < b.length := HL.out ▸ hlt
        obtain ⟨g1, o1, rfl, q1⟩ := ha k hlt
        obtain ⟨g2, o2, rfl, q2⟩ := hb k hlb
        obtain ⟨p, hp⟩ : ∃ p, p = a[k] := ⟨_, rfl⟩
        obtain ⟨q, hq⟩ : ∃ q, q = b[k] := ⟨_, rfl⟩
        rw [← hp] at q1
        rw [← hq] at q2
        obtain ⟨s0, s1, s2, s3, s4, s5, s6, s7, s8, s9, s10, s11, s12⟩ := (q1.keep (hbl.block g1 q1.lt)).facts
        obtain ⟨t0, t1, t2, t3, t4, t5, t6, t7, t8, t9, t10, t11, t12⟩ := (q2.keep (hbl.block g2 q2.lt)).facts
        clear q1 q2 ha hb
        have j1 : (k : Int) < (a.length : Int) := by omega
        have j2 : (k : Int) < (b.length : Int) := by omega
        have HPp := Lib.hid hp
        have HQq := Lib.hid hq
        clear hp hq
        by_cases he : p = q
        · subst he
          have hne := fun w => neqSR p w
          go_wp2
          go_quiet (fail)
          go_wp2
          go_roundw
          case rel => exact ⟨k + 1, by omega, by go_num, fun j h1 h2 h3 => by
            rcases Nat.lt_succ_iff_lt_or_eq.1 h3 with h' | h'
            · exact HP.out j h1 h2 h'
            · subst h'; exact HPp.out.symm.trans HQq.out, below_drewN hbl _⟩
          case measure => simp [intOf]; omega
        · have hne := fun w => neqDR p q he w
          go_wp2
          go_quiet (fail)
          go_wp2
          go_ret
          exact ⟨ret_bool (lists_ne hlt hlb (by rw [← HPp.out, ← HQq.out]; exact he)).symm, below_drewN hbl _⟩
      · have hkL : k = a.length := by omega
        have j1 : ¬ (k : Int) < (a.length : Int) := by omega
        go_wp2
        go_ret
        exact ⟨ret_bool (decide_eq_true (List.ext_getElem HL.out fun j h1 h2 => HP.out j h1 h2 (by omega))).symm, hbl⟩
  · have hd : ((a.length : Int) != (b.length : Int)) = true := by
      have : (a.length : Int) ≠ (b.length : Int) := by omega
      simpa using this
    rw [decide_eq_false (show ¬ a = b from fun e => hl (by rw [e]))]
    go_enter Try.func23, Try.ntmps23
    go_wp2
    go_ret
    exact ⟨rfl, Below.refl _ _⟩
end Go.Proofs.Ytjikbffnhfoikaa
/- Never. -/
namespace Go.Proofs.Ytjikbffnhfoikaa
open Go.RowKit Go.Sort Go.Maps
def lenV (v : Value) : Nat := match v with
  | .slice _ n _ => n
  | _ => 0
/-- what stands ahead of F2 in F is of cases before all entries from i on -/
def Past (F l : List E) (i : Nat) (F2 : List E) : Prop := ∃ pre, F = pre ++ F2 ∧ ∀ x ∈ pre, ∀ k (h : k < l.length), i ≤ k → ltC x l[k]
theorem Past.bad {F l F2 : List E} {i k : Nat} (h : Past F l i F2) (hk : k < l.length) (hi : i ≤ k) : badF F l[k] = badF F2 l[k] := by
  obtain ⟨pre, rfl, hp⟩ := h
  exact badF_append fun x hx => ltC_ne (hp x hx k hk hi)
theorem Past.next {F l F2 : List E} {i : Nat} (h : Past F l i F2) : Past F l (i + 1) F2 := by
  obtain ⟨pre, e, hp⟩ := h
  exact ⟨pre, e, fun x hx k hk hi => hp x hx k hk (by omega)⟩
theorem Past.drop {F l R : List E} {x : E} {i : Nat} (hs : Strict l) (hi : i < l.length) (h : Past F l i (x :: R)) (hx : ltC x l[i]) : Past F l i R := by
  obtain ⟨pre, e, hp⟩ := h
  refine ⟨pre ++ [x], by rw [e]; simp, fun y hy k hk hik => ?_⟩
  rcases List.mem_append.1 hy with hy | hy
  · exact hp y hy k hk hik
  · simp at hy; subst hy
    rcases Nat.eq_or_lt_of_le hik with rfl | hlt
    · exact hx
    · exact ltC_next hx (ltP_asymm (List.pairwise_iff_getElem.1 hs i k hi hk hlt))
theorem Past.suffix {F l F2 : List E} {i : Nat} (h : Past F l i F2) : ∀ x ∈ F2, x ∈ F := by
  obtain ⟨pre, rfl, _⟩ := h
  intro x hx
  simp [hx]
theorem Past.strict {F l F2 : List E} {i : Nat} (h : Past F l i F2) (hs : Strict F) : Strict F2 := by
  obtain ⟨pre, rfl, _⟩ := h
  exact (List.pairwise_append.1 hs).2.1
theorem Ents.tail {w : World} {g o n c : Nat} {x : E} {R : List E} (h : Ents w (.slice (some ⟨g, o, none⟩) n c) (x :: R)) : n = R.length + 1 ∧ n ≤ c ∧ At7 w g o x ∧ Ents w (.slice (some ⟨g, o + 7, none⟩) (n - 1) (c - 1)) R := by
  obtain ⟨ao, cap, e, hc, hr⟩ := h
  obtain ⟨g', o', hao, hR⟩ := hr (by simp)
  subst hao
  simp only [Value.slice.injEq, Option.some.injEq, Addr.mk.injEq, and_true, List.length_cons] at e hc
  obtain ⟨⟨rfl, rfl⟩, rfl, rfl⟩ := e
  refine ⟨rfl, hc, by simpa using hR 0 x rfl, ⟨some ⟨g, o + 7, none⟩, c - 1, by simp, by omega, fun _ => ⟨g, o + 7, rfl, fun i y hy => ?_⟩⟩⟩
  have := hR (i + 1) y (by simpa using hy)
  rw [show o + (i + 1) * 7 = o + 7 + i * 7 by omega] at this
  exact this
set_option maxRecDepth 100000 in
set_option maxHeartbeats 16000000 in
theorem never_c (u0 u1 u2 u3 u4 u5 u6 u7 u8 u10 u11 u12 u13 u14 u15 u16 v : Value) (L : List Ru) (hl : L.length ≤ 100000) (hN : (M (allE L)).length ≤ 100000) (hNF : (M (allE (nevR L))).length ≤ 100000) (w : World) (hE : Rus w v L) :
    Calls Try.prog 21 #[.agg #[u0, u1, u2, u3, u4, u5, u6, u7, u8, v, u10, u11, u12, u13, u14, u15, u16]] w fun e w' => ∃ v', e = .returned v' ∧ Ents w' v' (nevE (M (allE (nevR L))) (M (allE L))) ∧ Below w.heap.size w w' := by
  have hb0 : Below w.heap.size w (w.alloc (.cells #[u0, u1, u2, u3, u4, u5, u6, u7, u8, v, u10, u11, u12, u13, u14, u15, u16] 50)) := (Below.refl _ w).alloc (Nat.le_refl _) _
  have HE0 := Lib.hid (hE.keep hb0)
  have HP0 : Hid (Blk (w.alloc (.cells #[u0, u1, u2, u3, u4, u5, u6, u7, u8, v, u10, u11, u12, u13, u14, u15, u16] 50)) w.heap.size 50 #[u0, u1, u2, u3, u4, u5, u6, u7, u8, v, u10, u11, u12, u13, u14, u15, u16]) := Lib.hid (Blk.new w _ _)
  have HB0 := Lib.hid hb0
  clear hb0 hE
  go_enter Try.func21, Try.ntmps21
  go_upto_region 3 with (first
    | (go_at_call 42; refine (forbidding_c v L hl _ HE0.out).mono ?_; rintro e w1 ⟨vR1, rfl, hR1, hb1⟩; obtain ⟨aR, cR, hvr, -⟩ := id hR1; subst hvr; have HR1 := Lib.hid hR1; have HE1 := Lib.hid (HE0.out.keep hb1); have HP1 := Lib.hid (HP0.out.keep hb1); have HB1 := Lib.hid (HB0.out.trans (hb1.mono HB0.out.size)); clear hR1 hb1)
    | (go_at_call 17; refine (entries_c _ _ _ _ _ _ _ _ _ _ _ _ _ _ _ _ (.slice aR (nevR L).length cR) (nevR L) (Nat.le_trans (nevR_len L) hl) hNF _ HR1.out).mono ?_; rintro e w2 ⟨vF, rfl, hF2, hb2⟩; have HF2 := Lib.hid hF2; have HE2 := Lib.hid (HE1.out.keep hb2); have HP2 := Lib.hid (HP1.out.keep hb2); have HB2 := Lib.hid (HB1.out.trans (hb2.mono HB1.out.size)); clear hF2 hb2))
  have hp := HP2.out.cell
  have p0 := hp 0
  have p1 := hp 1
  have p2 := hp 2
  have p3 := hp 3
  have p4 := hp 4
  have p5 := hp 5
  have p6 := hp 6
  have p7 := hp 7
  have p8 := hp 8
  have p9 := hp 9
  have p10 := hp 10
  have p11 := hp 11
  have p12 := hp 12
  have p13 := hp 13
  have p14 := hp 14
  have p15 := hp 15
  have p16 := hp 16
  clear hp HR1 HE1 HP1 HB1 HE0 HP0 HB0
  obtain ⟨aoF, capF, rfl⟩ := HF2.out.form
  go_wp2_with (go_at_call 17; refine (entries_c _ _ _ _ _ _ _ _ _ _ _ _ _ _ _ _ v L hl hN _ HE2.out).mono ?_; rintro e w3 ⟨vL, rfl, hL3, hb3⟩; have HL3 := Lib.hid hL3; have HF3 := Lib.hid (HF2.out.keep hb3); have HB3 := Lib.hid (HB2.out.trans (hb3.mono HB2.out.size)); obtain ⟨aoL, capL, rfl⟩ := hL3.form; clear hL3 hb3)
  clear HE2 HP2 HB2 HF2 p0 p1 p2 p3 p4 p5 p6 p7 p8 p9 p10 p11 p12 p13 p14 p15 p16
  have HSF := Lib.hid (M_strict (allE (nevR L)))
  have HSL := Lib.hid (M_strict (allE L))
  have HDF := Lib.hid (nev_d (L := L))
  have hlF : ((M (allE (nevR L))).length : Int) ≤ 100000 := by omega
  have hlL : ((M (allE L)).length : Int) ≤ 100000 := by omega
  generalize hF0 : M (allE (nevR L)) = F at *
  generalize hL0 : M (allE L) = l at *
  have HF0 := Lib.hid hF0
  have HL0 := Lib.hid hL0
  clear hF0 hL0
  have HSZ : Hid (w.heap.size ≤ w3.heap.size) := Lib.hid HB3.out.size
  go_loopw [3, 4, 16] (fun v3 v4 vi wr => ∃ (i : Nat) (F2 : List E) (a3 a4 : Value), a3 = v3 ∧ a4 = v4 ∧ i ≤ l.length ∧ vi = .int .i64 i ∧ Hid (Ents w3 a3 F2) ∧ Hid (Past F l i F2) ∧ Hid (OwnE wr w3.heap.size a4 (nevE F (l.take i))) ∧ Hid (Below w3.heap.size w3 wr)) (fun _ _ vi _ => l.length - (intOf vi).toNat)
  case atStart => exact ⟨0, F, _, _, rfl, rfl, Nat.zero_le _, rfl, HF3, Lib.hid ⟨[], rfl, by simp⟩, Lib.hid (by rw [List.take_zero]; exact OwnE.nil _ _), Lib.hid (Below.refl _ _)⟩
  case round =>
    obtain ⟨i, F2, v3, v4, rfl, rfl, hi, rfl, HF, HP, HO, HB⟩ := hrel
    by_cases hlt : i < l.length
    · have hlt' : (i : Int) < (l.length : Int) := by omega
      obtain ⟨ao, cap, e, -, hr⟩ := HL3.out
      obtain ⟨gL, oL, rfl, hR⟩ := hr (by rintro rfl; simp at hlt)
      cases e
      obtain ⟨x, hx⟩ : ∃ x, l[i] = x := ⟨_, rfl⟩
      have hcell := (hR.keep (HB.out.block gL (hR.lt (by rintro rfl; simp at hlt)))).at hlt
      rw [hx] at hcell
      obtain ⟨q0, q1, q2, q3, q4, q5, q6⟩ := hcell
      have HX : Hid (nevE F (l.take (i + 1)) = nevE F (l.take i) ++ nvE F x) := Lib.hid (by rw [List.take_succ_eq_append_getElem hlt, hx, nevE_snoc])
      have HLX := Lib.hid hx
      have HLN : Hid ((nevE F (l.take i)).length ≤ 100000) := Lib.hid (by have := nevE_len F (l.take i); rw [List.length_take] at this; omega)
      have hb4 : Below wr.heap.size wr (wr.alloc (.cells #[.int .i64 x.s, .int .i64 x.t, .int .i64 x.c, .int .i64 x.d, .int .u32 (vI x.a), .int .u32 (vI x.b), .int .u32 (vI x.e)] 61)) := (Below.refl _ wr).alloc (Nat.le_refl _) _
      have HX4 : Hid (Box (wr.alloc (.cells #[.int .i64 x.s, .int .i64 x.t, .int .i64 x.c, .int .i64 x.d, .int .u32 (vI x.a), .int .u32 (vI x.b), .int .u32 (vI x.e)] 61)) wr.heap.size x) := Lib.hid (Blk.new wr _ _)
      have HO4 := Lib.hid (HO.out.below hb4)
      have HB4 := Lib.hid (HB.out.trans (hb4.mono HB.out.size))
      obtain ⟨a3, c3, rfl⟩ := HF.out.form
      clear hb4 hx hR hr HO HB
      go_wp2_with fail
      generalize wr.alloc (.cells #[.int .i64 x.s, .int .i64 x.t, .int .i64 x.c, .int .i64 x.d, .int .u32 (vI x.a), .int .u32 (vI x.b), .int .u32 (vI x.e)] 61) = W4 at *
      generalize hgx : wr.heap.size = gx at *
      clear hgx q0 q1 q2 q3 q4 q5 q6
      go_loopw [3] (fun v3 wr2 => ∃ (R2 : List E) (a3 : Value), a3 = v3 ∧ Hid (Ents w3 a3 R2) ∧ Hid (Past F l i R2) ∧ Hid (Box wr2 gx x) ∧ Hid (OwnE wr2 w3.heap.size v4 (nevE F (l.take i))) ∧ Hid (Below w3.heap.size w3 wr2)) (fun v3 _ => lenV v3)
      case atStart => exact ⟨F2, _, rfl, HF, HP, HX4, HO4, HB4⟩
      case round =>
        obtain ⟨R2, v3, rfl, HF, HP, HX5, HO, HB⟩ := hrel
        cases R2 with
        | nil =>
          obtain ⟨a3, c3, e⟩ := HF.out.form
          subst e
          have hQ : OwnE wr w3.heap.size v4 (nevE F l) := by
            have h1 : nevE F l = nevE F (l.take i) ++ nevE F (l.drop i) := by
              unfold nevE
              rw [← List.flatMap_append, List.take_append_drop]
            have h2 : nevE F (l.drop i) = [] := nevE_rest fun e he => by
              obtain ⟨k, hk, rfl⟩ := List.mem_iff_getElem.1 he
              rw [List.getElem_drop, HP.out.bad (by rw [List.length_drop] at hk; omega) (by omega)]
              rfl
            rw [h1, h2, List.append_nil]
            exact HO.out
          have HQ := Lib.hid hQ
          clear hQ
          go_wp2_with fail
          refine wp_region_kp (by kernel_rfl) (by kernel_rfl) ?_
          repeat (first
              | go_big_quiet_skip
              | (go_big_quiet_want
                 go_big_quiet_op
                 first
                   | go_big_quiet_on
                   | (apply Exists.intro
                      refine ⟨fun w1 hC => ?_, ?_⟩
                      · first
                          | (go_simp; exact rfl)
                          | (go_simp; exact ⟨rfl, rfl⟩)
                      go_big_quiet_on)))
          refine wpQuiet_nil ?_
          intro W5 hC
          have HQ5 := Lib.hid (HQ.out.below hC)
          have HB5 := Lib.hid (HB.out.trans (hC.mono HB.out.size))
          clear hC
          go_wp2_with fail
          go_ret
          exact ⟨v4, rfl, by rw [HF0.out, HL0.out]; exact HQ5.out.ents, HB3.out.trans (HB5.out.mono HSZ.out)⟩
        | cons y R3 =>
          obtain ⟨gF, oF, n3, c3, rfl, hRow⟩ : ∃ g o n c, v3 = .slice (some ⟨g, o, none⟩) n c ∧ RowE w3 g o (y :: R3) := by
            obtain ⟨ao, cap, e, _, hr⟩ := HF.out
            obtain ⟨g, o, hao, hR⟩ := hr (by simp)
            exact ⟨g, o, _, _, by rw [e, hao], hR⟩
          obtain ⟨hn3, hnc, hA3, hT3⟩ := HF.out.tail
          subst hn3
          have HT3 : Hid (Ents w3 (.slice (if c3 = 1 then some ⟨gF, oF, none⟩ else some ⟨gF, oF + 7, none⟩) R3.length (c3 - 1)) R3) := Lib.hid (by
            by_cases h1 : c3 = 1
            · rw [if_pos h1]
              have h2 : R3 = [] := List.eq_nil_of_length_eq_zero (by omega)
              subst h2
              exact ⟨_, _, rfl, by simp, fun h => absurd rfl h⟩
            · rw [if_neg h1]
              simpa using hT3)
          have hgF := hA3.lt
          have HA3 : Hid (∀ u, Kp wr u → At7 u gF oF y) := Lib.hid fun u h => hA3.keep ((h.block gF (Nat.lt_of_lt_of_le hgF HB.out.size)).trans (HB.out.block gF hgF))
          have HBX : Hid (∀ u, Kp wr u → Box u gx x) := Lib.hid fun u h => (h.block gx (Blk.lt HX5.out)).trans HX5.out
          have hn0 : (0 : Int) < ((R3.length + 1 : Nat) : Int) := by omega
          have hn1 : ¬ ((R3.length + 1 : Nat) : Int) = 0 := by omega
          have hn2 : ¬ ((R3.length + 1 : Nat) : Int) < 1 := by omega
          have hn4 : ((R3.length + 1 : Nat) : Int) ≤ (c3 : Int) := by omega
          have hn5 : 1 ≤ R3.length + 1 := by omega
          obtain ⟨C, hC0⟩ : ∃ C, cmpC y x = C := ⟨_, rfl⟩
          have HCC : Hid (∀ u, Calls Try.prog 43 #[.agg #[.int .i64 y.s, .int .i64 y.t, .int .i64 y.c, .int .i64 y.d, .int .u32 (vI y.a), .int .u32 (vI y.b), .int .u32 (vI y.e)], .agg #[.int .i64 x.s, .int .i64 x.t, .int .i64 x.c, .int .i64 x.d, .int .u32 (vI x.a), .int .u32 (vI x.b), .int .u32 (vI x.e)]] u fun e w' => e = .returned (.int .i64 C) ∧ Below u.heap.size u w') := Lib.hid fun u => by rw [← hC0]; exact (compareCases_c y x u).mono fun _ _ ⟨he, hb⟩ => ⟨he, hb.below⟩
          have HCE := Lib.hid hC0
          clear hC0 hRow hA3 hT3 hgF hnc
          by_cases hneg : C < 0
          · go_wp2_with fail
            refine wp_region_kp (by kernel_rfl) (by kernel_rfl) ?_
            repeat (first
                | go_big_quiet_skip
                | (go_big_quiet_want
                   go_big_quiet_op
                   first
                     | go_big_quiet_on
                     | (apply Exists.intro
                        refine ⟨fun w1 hC => ?_, ?_⟩
                        · first
                            | (go_at_call 43; with_reducible exact hC.call (HCC.out _))
                            | (obtain ⟨b0, b1, b2, b3, b4, b5, b6⟩ := HA3.out _ hC; obtain ⟨d0, d1, d2, d3, d4, d5, d6⟩ := (HBX.out _ hC).cells; go_simp; exact rfl)
                            | (go_simp; exact ⟨rfl, rfl⟩)
                        go_big_quiet_on)))
            refine wpQuiet_nil ?_
            intro W5 hC
            have HX6 := Lib.hid (HBX.out _ hC)
            have HO6 := Lib.hid (HO.out.below hC)
            have HB6 := Lib.hid (HB.out.trans (hC.mono HB.out.size))
            clear hC
            go_wp2_with fail
            go_roundw
            case rel => exact ⟨R3, _, rfl, HT3, Lib.hid (HP.out.drop HSL.out hlt (by rw [HLX.out]; exact cmpC_lt.1 (by rw [HCE.out]; exact hneg))), HX6, HO6, HB6⟩
            case measure => simp [lenV]
          · have HBF : Hid (badF F x = if eqC y x then y.a else 0#32) := Lib.hid (by
              have h1 := HP.out.bad hlt (Nat.le_refl i)
              rw [HLX.out] at h1
              rw [h1]
              exact badF_head (HP.out.strict HSF.out) (fun z hz => HDF.out z (HP.out.suffix z hz)) (fun h => hneg (by rw [← HCE.out]; exact cmpC_lt.2 h)))
            have HPN := Lib.hid HP.out.next
            clear HP
            go_wp2_with fail
            refine wp_region_kp (by kernel_rfl) (by kernel_rfl) ?_
            repeat (first
                | go_big_quiet_skip
                | (go_big_quiet_want
                   go_big_quiet_op
                   first
                     | go_big_quiet_on
                     | (apply Exists.intro
                        refine ⟨fun w1 hC => ?_, ?_⟩
                        · first
                            | (go_at_call 43; with_reducible exact hC.call (HCC.out _))
                            | (obtain ⟨b0, b1, b2, b3, b4, b5, b6⟩ := HA3.out _ hC; obtain ⟨d0, d1, d2, d3, d4, d5, d6⟩ := (HBX.out _ hC).cells; go_simp; exact rfl)
                            | (go_simp; exact ⟨rfl, rfl⟩)
                        go_big_quiet_on)))
            refine wpQuiet_nil ?_
            intro W5 hC
            have HA5 : Hid (∀ u, Kp W5 u → At7 u gF oF y) := Lib.hid fun u h => HA3.out u (Kp.step hC h)
            have HBX5 : Hid (∀ u, Kp W5 u → Box u gx x) := Lib.hid fun u h => HBX.out u (Kp.step hC h)
            have HO5 := Lib.hid (HO.out.below hC)
            have HB5 := Lib.hid (HB.out.trans (hC.mono HB.out.size))
            clear hC HA3 HBX HO HB
            go_wp2_with fail
            refine wp_region_kp (by kernel_rfl) (by kernel_rfl) ?_
            repeat (first
                | go_big_quiet_skip
                | (go_big_quiet_want
                   go_big_quiet_op
                   first
                     | go_big_quiet_on
                     | (apply Exists.intro
                        refine ⟨fun w1 hC => ?_, ?_⟩
                        · first
                            | (obtain ⟨b0, b1, b2, b3, b4, b5, b6⟩ := HA5.out _ hC; obtain ⟨d0, d1, d2, d3, d4, d5, d6⟩ := (HBX5.out _ hC).cells; go_simp; exact rfl)
                            | (go_simp; exact ⟨rfl, rfl⟩)
                        go_big_quiet_on)))
            refine wpQuiet_nil ?_
            intro W6 hC
            rw [vI_and]
            obtain ⟨P, hP⟩ : ∃ P, x.a &&& y.a = P := ⟨_, rfl⟩
            rw [hP]
            have HPE := Lib.hid hP
            have HA6 : Hid (∀ u, Kp W6 u → At7 u gF oF y) := Lib.hid fun u h => HA5.out u (Kp.step hC h)
            have HBX6 : Hid (∀ u, Kp W6 u → Box u gx x) := Lib.hid fun u h => HBX5.out u (Kp.step hC h)
            have HO6 := Lib.hid (HO5.out.below hC)
            have HB6 := Lib.hid (HB5.out.trans (hC.mono HB5.out.size))
            clear hC HA5 HBX5 HO5 HB5 hP
            have HNV : Hid (nvE F x = if eqC y x ∧ P ≠ 0#32 then [reE x ⟨P, 0#32, 0#32⟩] else []) := Lib.hid (by
              unfold nvE
              rw [HBF.out]
              by_cases h1 : eqC y x
              · rw [if_pos h1, HPE.out]
                by_cases h2 : P = 0#32
                · rw [if_pos h2, if_neg fun h => h.2 h2]
                · rw [if_neg h2, if_pos ⟨h1, h2⟩]
              · have hz : x.a &&& 0#32 = 0#32 := by simp
                rw [if_neg h1, if_pos hz, if_neg fun h => h1 h.1])
            by_cases hp : P = 0#32
            · have hp0 : (vI P != 0) = false := by rw [hp]; rfl
              have HQ : Hid (nevE F (l.take (i + 1)) = nevE F (l.take i)) := Lib.hid (by rw [HX.out, HNV.out, if_neg fun h => h.2 hp, List.append_nil])
              clear hp
              go_wp2_with fail
              refine wp_region_kp (by kernel_rfl) (by kernel_rfl) ?_
              repeat (first
                  | go_big_quiet_skip
                  | (go_big_quiet_want
                     go_big_quiet_op
                     first
                       | go_big_quiet_on
                       | (apply Exists.intro
                          refine ⟨fun w1 hC => ?_, ?_⟩
                          · first
                              | (go_simp; exact rfl)
                              | (go_simp; exact ⟨rfl, rfl⟩)
                          go_big_quiet_on)))
              refine wpQuiet_nil ?_
              intro W7 hC
              have HO7 := Lib.hid (HO6.out.below hC)
              have HB7 := Lib.hid (HB6.out.trans (hC.mono HB6.out.size))
              clear hC
              go_wp2_with fail
              go_roundw
              case rel => exact ⟨i + 1, y :: R3, _, _, rfl, rfl, hlt, by go_num, HF, HPN, Lib.hid (by rw [HQ.out]; exact HO7.out), HB7⟩
              case measure => simp [intOf]; omega
            · have hp0 : (vI P != 0) = true := by
                have h1 : vI P ≠ 0 := fun h => hp (vI_inj (by rw [h]; rfl))
                simpa using h1
              by_cases hC0 : C = 0
              · have hc0 : (C == 0) = true := by simpa using hC0
                have hec : eqC y x := cmpC_eq.1 (by rw [HCE.out]; exact hC0)
                have HQ : Hid (nevE F (l.take (i + 1)) = nevE F (l.take i) ++ [reE x ⟨P, 0#32, 0#32⟩]) := Lib.hid (by rw [HX.out, HNV.out, if_pos ⟨hec, hp⟩])
                have HEN : Hid (∀ u, Calls Try.prog 35 #[.agg #[.int .u32 (vI P), .int .u32 0, .int .u32 0], .agg #[.int .i64 x.s, .int .i64 x.t, .int .i64 x.c, .int .i64 x.d]] u fun e w' => e = .returned (.agg #[.int .i64 (reE x ⟨P, 0#32, 0#32⟩).s, .int .i64 (reE x ⟨P, 0#32, 0#32⟩).t, .int .i64 (reE x ⟨P, 0#32, 0#32⟩).c, .int .i64 (reE x ⟨P, 0#32, 0#32⟩).d, .int .u32 (vI (reE x ⟨P, 0#32, 0#32⟩).a), .int .u32 (vI (reE x ⟨P, 0#32, 0#32⟩).b), .int .u32 (vI (reE x ⟨P, 0#32, 0#32⟩).e)]) ∧ Below u.heap.size u w') := Lib.hid fun u => entry_c ⟨P, 0#32, 0#32⟩ (reE x ⟨P, 0#32, 0#32⟩) rfl u
                generalize reE x ⟨P, 0#32, 0#32⟩ = z at *
                clear hp hec hC0
                go_wp2_with fail
                refine wp_region_kp (by kernel_rfl) (by kernel_rfl) ?_
                repeat (first
                    | go_big_quiet_skip
                    | (go_big_quiet_want
                       go_big_quiet_op
                       first
                         | go_big_quiet_on
                         | (apply Exists.intro
                            refine ⟨fun w1 hC => ?_, ?_⟩
                            · first
                                | (go_at_call 43; with_reducible exact hC.call (HCC.out _))
                                | (obtain ⟨b0, b1, b2, b3, b4, b5, b6⟩ := HA6.out _ hC; obtain ⟨d0, d1, d2, d3, d4, d5, d6⟩ := (HBX6.out _ hC).cells; go_simp; exact rfl)
                                | (go_simp; exact ⟨rfl, rfl⟩)
                            go_big_quiet_on)))
                refine wpQuiet_nil ?_
                intro W7 hC
                have HO7 := Lib.hid (HO6.out.below hC)
                have HB7 := Lib.hid (HB6.out.trans (hC.mono HB6.out.size))
                have HX7 := Lib.hid (HBX6.out _ hC)
                clear hC HA6 HBX6 HO6 HB6
                obtain ⟨d0, d1, d2, d3, d4, d5, d6⟩ := HX7.out.cells
                go_wp2_with (first
                  | (go_at_call 39; refine (keyOf_c x _).mono ?_; rintro e w8 ⟨rfl, hb8⟩; have HO8 := Lib.hid (HO7.out.below hb8); have HB8 := Lib.hid (HB7.out.trans (hb8.mono HB7.out.size)); clear hb8)
                  | (go_at_call 35; refine (HEN.out _).mono ?_; rintro e w9 ⟨rfl, hb9⟩; have HO9 := Lib.hid (HO8.out.below hb9); have HB9 := Lib.hid (HB8.out.trans (hb9.mono HB8.out.size)); clear hb9)
                  | (at_builtin; refine wpList_append_E (by rfl) _ _ (by rfl) w3.heap.size v4 (nevE F (l.take i)) (nevE F (l.take i)).length rfl (by rfl) (HO9.out.below ((Below.refl _ _).alloc (Nat.le_refl _) _)) w9.heap.size z (by rfl) (Blk.new _ _ _) (by have := HLN.out; omega) (by have := HB9.out.size; simp; omega) ?_; intro g' cap' w10 h1 h2 h3; have H1 := Lib.hid h1; have H2 := Lib.hid h2; clear h1 h2 h3))
                have HBz : Hid (Below w3.heap.size w3 w10) := Lib.hid ((HB9.out.alloc HB9.out.size (.cells #[.int .i64 z.s, .int .i64 z.t, .int .i64 z.c, .int .i64 z.d, .int .u32 (vI z.a), .int .u32 (vI z.b), .int .u32 (vI z.e)] 61)).grown H2.out (by have := HB9.out.size; simp; omega) (fun k e => (HO9.out.own k e).1))
                go_wp2_with fail
                go_roundw
                case rel => exact ⟨i + 1, y :: R3, _, _, rfl, rfl, hlt, by go_num, HF, HPN, Lib.hid (by rw [HQ.out]; simpa using H1.out), HBz⟩
                case measure => simp [intOf]; omega
              · have hc0 : (C == 0) = false := by simpa using hC0
                have HQ : Hid (nevE F (l.take (i + 1)) = nevE F (l.take i)) := Lib.hid (by rw [HX.out, HNV.out, if_neg fun h => hC0 (by rw [← HCE.out]; exact cmpC_eq.2 h.1), List.append_nil])
                clear hp hC0
                go_wp2_with fail
                refine wp_region_kp (by kernel_rfl) (by kernel_rfl) ?_
                repeat (first
                    | go_big_quiet_skip
                    | (go_big_quiet_want
                       go_big_quiet_op
                       first
                         | go_big_quiet_on
                         | (apply Exists.intro
                            refine ⟨fun w1 hC => ?_, ?_⟩
                            · first
                                | (go_at_call 43; with_reducible exact hC.call (HCC.out _))
                                | (obtain ⟨b0, b1, b2, b3, b4, b5, b6⟩ := HA6.out _ hC; obtain ⟨d0, d1, d2, d3, d4, d5, d6⟩ := (HBX6.out _ hC).cells; go_simp; exact rfl)
                                | (go_simp; exact ⟨rfl, rfl⟩)
                            go_big_quiet_on)))
                refine wpQuiet_nil ?_
                intro W7 hC
                have HO7 := Lib.hid (HO6.out.below hC)
                have HB7 := Lib.hid (HB6.out.trans (hC.mono HB6.out.size))
                clear hC
                go_wp2_with fail
                go_roundw
                case rel => exact ⟨i + 1, y :: R3, _, _, rfl, rfl, hlt, by go_num, HF, HPN, Lib.hid (by rw [HQ.out]; exact HO7.out), HB7⟩
                case measure => simp [intOf]; omega
    · obtain rfl : i = l.length := by omega
      have hlt' : ¬ ((l.length : Nat) : Int) < (l.length : Int) := by omega
      have hO : OwnE wr w3.heap.size v4 (nevE F l) := by have := HO.out; rwa [List.take_length] at this
      go_wp2_with fail
      go_ret
      exact ⟨v4, rfl, by rw [HF0.out, HL0.out]; exact hO.ents, HB3.out.trans (HB.out.mono HSZ.out)⟩
end Go.Proofs.Ytjikbffnhfoikaa
/- awake. -/
namespace Go.Proofs.Ytjikbffnhfoikaa
open Go.RowKit Go.Sort Go.Maps
/-- the value is a slice of the numbers l -/
def IntV (w : World) (v : Value) (l : List Int) : Prop := ∃ A cap, v = .slice A l.length cap ∧ Ints w A l
theorem IntV.keep {w w' : World} {v : Value} {l : List Int} (h : IntV w v l) (hb : Below w.heap.size w w') : IntV w' v l := by
  obtain ⟨A, cap, e, hi⟩ := h
  exact ⟨A, cap, e, hi.below hb⟩
theorem IntV.of {w : World} {g : Nat} {l : List Int} (h : Blk w g 3 (l.map fun n => Value.int .i64 n).toArray) : IntV w (.slice (some ⟨g, 0, none⟩) l.length l.length) l := by
  refine ⟨_, _, rfl, fun i hi => ⟨g, 0, rfl, ?_, h.lt⟩⟩
  rw [h.cell (0 + i), Nat.zero_add]
  simp [List.getD, hi]
theorem rofv_c {v : Value} {l : List Int} (w : World) (h : IntV w v l) (hm : l.length ≤ maxLen) : Calls Try.prog 29 #[v] w fun e w' => e = .returned (.agg #[.int .u64 (ofS l).a, .int .u64 (ofS l).b, .int .u64 (ofS l).c, .int .u64 (ofS l).d]) ∧ Below w.heap.size w w' := by
  obtain ⟨A, cap, rfl, hi⟩ := h
  exact rof_c A l cap w hi hm
theorem Ents.of {w : World} {g : Nat} {L : List E} (h : Blk w g 61 (L.flatMap cellsE).toArray) : Ents w (.slice (some ⟨g, 0, none⟩) L.length L.length) L := by
  refine ⟨_, _, rfl, Nat.le_refl _, fun _ => ⟨g, 0, rfl, fun i x hx => at7_of fun k hk => ?_⟩⟩
  rw [h.cell (0 + i * 7 + k), Nat.zero_add, List.getElem?_toArray]
  exact fm_get L i k x hx hk
theorem Prs.of {w : World} {g : Nat} {L : List (Int × Int)} (h : Blk w g 63 (L.flatMap cellsP).toArray) : Prs w (.slice (some ⟨g, 0, none⟩) L.length L.length) L := by
  refine ⟨_, _, rfl, Nat.le_refl _, fun _ => ⟨g, 0, rfl, fun i x hx k hk => ?_⟩⟩
  rw [h.cell (0 + i * 2 + k), Nat.zero_add, List.getElem?_toArray]
  exact fmP_get L i k x hx hk
theorem Rus.of {w : World} {g : Nat} {L : List Ru} (h : Blk w g 27 (L.flatMap cellsR).toArray) : Rus w (.slice (some ⟨g, 0, none⟩) L.length L.length) L := by
  refine ⟨_, _, rfl, Nat.le_refl _, fun _ => ⟨g, 0, rfl, fun i x hx k hk => ?_⟩⟩
  rw [h.cell (0 + i * 13 + k), Nat.zero_add, List.getElem?_toArray]
  exact fmR_get L i k x hx hk
theorem int1 (u : World) (n : Int) : IntV (u.alloc (.cells #[.int .i64 n] 3)) (.slice (some ⟨u.heap.size, 0, none⟩) 1 1) [n] := IntV.of (l := [n]) (Blk.new u 3 #[.int .i64 n])
theorem int2 (u : World) (n m : Int) : IntV (u.alloc (.cells #[.int .i64 n, .int .i64 m] 3)) (.slice (some ⟨u.heap.size, 0, none⟩) 2 2) [n, m] := IntV.of (l := [n, m]) (Blk.new u 3 #[.int .i64 n, .int .i64 m])
set_option maxRecDepth 100000 in
set_option maxHeartbeats 4000000 in
theorem load_pol (b0 b1 b2 b3 b4 b5 b6 b7 b8 b9 b10 b11 b12 b13 b14 b15 b16 : Value) (gp : Nat) (u : World) (h : Blk u gp 50 #[b0, b1, b2, b3, b4, b5, b6, b7, b8, b9, b10, b11, b12, b13, b14, b15, b16]) (A : Act) (f3 : A.tmps[3]?.getD undef = .pointer (some ⟨gp, 0, none⟩)) (o : Oper) (ho : o.op = .load 50 (.tmp 3)) :
    (execOp A.eval o).run Try.prog u = .ok (.value (.agg #[b0, b1, b2, b3, b4, b5, b6, b7, b8, b9, b10, b11, b12, b13, b14, b15, b16])) u := by
  have hp := h.cell
  have p0 := hp 0
  have p1 := hp 1
  have p2 := hp 2
  have p3 := hp 3
  have p4 := hp 4
  have p5 := hp 5
  have p6 := hp 6
  have p7 := hp 7
  have p8 := hp 8
  have p9 := hp 9
  have p10 := hp 10
  have p11 := hp 11
  have p12 := hp 12
  have p13 := hp 13
  have p14 := hp 14
  have p15 := hp 15
  have p16 := hp 16
  clear hp h
  unfold execOp
  simp only [ho]
  go_simp
inductive SpA where
  | val (v : Value)
  | ints (l : List Int)
  | ents (l : List E)
  | prs (l : List (Int × Int))
  | rus (l : List Ru)
  | tt
def SpA.ok : SpA → Value → World → Prop
  | .val u, v, _ => v = u
  | .ints l, v, w => IntV w v l
  | .ents l, v, w => Ents w v l
  | .prs l, v, w => Prs w v l
  | .rus l, v, w => Rus w v l
  | .tt, _, _ => True
theorem SpA.keep {s : SpA} {v : Value} {w w' : World} (h : s.ok v w) (hb : Below w.heap.size w w') : s.ok v w' := by
  cases s with
  | val u => exact h
  | ints l => exact IntV.keep h hb
  | ents l => exact Ents.keep h hb
  | prs l => exact Prs.keep h hb
  | rus l => exact Rus.keep h hb
  | tt => exact h
def awSp (S1 : S4) (gr gl : Nat) : List SpA := [.ints ([0, 1]), .val (.agg #[.int .u64 (ofS [0, 1]).a, .int .u64 (ofS [0, 1]).b, .int .u64 (ofS [0, 1]).c, .int .u64 (ofS [0, 1]).d]), .val (.agg #[.int .u64 S1.a, .int .u64 S1.b, .int .u64 S1.c, .int .u64 S1.d]), .val (.agg #[.int .i64 r0.k, .int .u64 r0.src.a, .int .u64 r0.src.b, .int .u64 r0.src.c, .int .u64 r0.src.d, .int .u64 r0.tgt.a, .int .u64 r0.tgt.b, .int .u64 r0.tgt.c, .int .u64 r0.tgt.d, .bool r0.self, .int .i64 r0.cl, .int .u32 (vI r0.pm), .int .i64 r0.cd]), .prs ([(0, 0), (0, 1), (1, 1)]), .val (.agg #[.int .i64 0, .int .i64 0]), .val (.agg #[.int .i64 0, .int .i64 1]), .val (.agg #[.int .i64 1, .int .i64 1]), .prs ([(0, 0), (0, 1), (1, 1)]), .val (.bool true), .val (.bool true), .val (.agg #[.slice none 0 0, .slice none 0 0, .slice none 0 0, .slice none 0 0, .slice none 0 0, .slice none 0 0, .slice none 0 0, .slice none 0 0, .slice none 0 0, .slice (some ⟨gr, 0, none⟩) 3 3, .slice none 0 0, .slice none 0 0, .slice none 0 0, .slice none 0 0, .slice none 0 0, .slice none 0 0, .slice none 0 0]), .ents ([e5]), .val (.agg #[.int .i64 e5.s, .int .i64 e5.t, .int .i64 e5.c, .int .i64 e5.d, .int .u32 (vI e5.a), .int .u32 (vI e5.b), .int .u32 (vI e5.e)]), .ents ([e5]), .val (.bool true), .val (.bool true), .val (.bool true), .val (.agg #[.slice none 0 0, .slice none 0 0, .slice none 0 0, .slice none 0 0, .slice none 0 0, .slice none 0 0, .slice none 0 0, .slice none 0 0, .slice none 0 0, .slice (some ⟨gr, 0, none⟩) 3 3, .slice none 0 0, .slice none 0 0, .slice none 0 0, .slice none 0 0, .slice none 0 0, .slice none 0 0, .slice none 0 0]), .ents ([e6]), .val (.agg #[.int .i64 e6.s, .int .i64 e6.t, .int .i64 e6.c, .int .i64 e6.d, .int .u32 (vI e6.a), .int .u32 (vI e6.b), .int .u32 (vI e6.e)]), .ents ([e6]), .val (.bool true), .val (.bool true), .val (.bool true), .val (.agg #[.slice none 0 0, .slice none 0 0, .slice none 0 0, .slice none 0 0, .slice none 0 0, .slice none 0 0, .slice none 0 0, .slice none 0 0, .slice none 0 0, .slice (some ⟨gr, 0, none⟩) 3 3, .slice none 0 0, .slice none 0 0, .slice none 0 0, .slice none 0 0, .slice none 0 0, .slice none 0 0, .slice none 0 0]), .val (.int .i64 1), .val (.bool true), .val (.bool true), .val (.bool true), .val (.slice (some ⟨gl, 0, none⟩) 4 4), .rus ([rd]), .ints ([0, 1]), .val (.agg #[.int .u64 (ofS [0, 1]).a, .int .u64 (ofS [0, 1]).b, .int .u64 (ofS [0, 1]).c, .int .u64 (ofS [0, 1]).d]), .ints ([1, 2]), .val (.agg #[.int .u64 (ofS [1, 2]).a, .int .u64 (ofS [1, 2]).b, .int .u64 (ofS [1, 2]).c, .int .u64 (ofS [1, 2]).d]), .val (.agg #[.int .i64 rd.k, .int .u64 rd.src.a, .int .u64 rd.src.b, .int .u64 rd.src.c, .int .u64 rd.src.d, .int .u64 rd.tgt.a, .int .u64 rd.tgt.b, .int .u64 rd.tgt.c, .int .u64 rd.tgt.d, .bool rd.self, .int .i64 rd.cl, .int .u32 (vI rd.pm), .int .i64 rd.cd]), .rus ([rd]), .val (.bool true), .val (.bool true), .val (.bool true), .val (.slice (some ⟨gl, 0, none⟩) 4 4), .val (.pointer (some ⟨gl, 21, none⟩)), .val (.agg #[.int .i64 e4.s, .int .i64 e4.t, .int .i64 e4.c, .int .i64 e4.d, .int .u32 (vI e4.a), .int .u32 (vI e4.b), .int .u32 (vI e4.e)]), .val (.slice (some ⟨gl, 0, none⟩) 4 4), .val (.pointer (some ⟨gl, 0, none⟩)), .val (.agg #[.int .i64 e1.s, .int .i64 e1.t, .int .i64 e1.c, .int .i64 e1.d, .int .u32 (vI e1.a), .int .u32 (vI e1.b), .int .u32 (vI e1.e)]), .val (.agg #[.int .i64 e7.s, .int .i64 e7.t, .int .i64 e7.c, .int .i64 e7.d, .int .u32 (vI e7.a), .int .u32 (vI e7.b), .int .u32 (vI e7.e)]), .val (.agg #[.int .i64 e8.s, .int .i64 e8.t, .int .i64 e8.c, .int .i64 e8.d, .int .u32 (vI e8.a), .int .u32 (vI e8.b), .int .u32 (vI e8.e)]), .ents ([e4, e1, e7, e8]), .ents ([e9, e4]), .val (.agg #[.int .i64 e9.s, .int .i64 e9.t, .int .i64 e9.c, .int .i64 e9.d, .int .u32 (vI e9.a), .int .u32 (vI e9.b), .int .u32 (vI e9.e)]), .val (.slice (some ⟨gl, 0, none⟩) 4 4), .val (.pointer (some ⟨gl, 21, none⟩)), .val (.agg #[.int .i64 e4.s, .int .i64 e4.t, .int .i64 e4.c, .int .i64 e4.d, .int .u32 (vI e4.a), .int .u32 (vI e4.b), .int .u32 (vI e4.e)]), .ents ([e9, e4]), .val (.bool true), .val (.bool true), .val (.bool true)]
set_option maxRecDepth 100000 in
set_option maxHeartbeats 8000000 in
theorem awake_c (w : World) : Calls Try.prog 13 #[] w fun e w' => e = .returned (.bool true) ∧ Below w.heap.size w w' := by
  go_enter Try.func13, Try.ntmps13
  have c0 : ∀ u : World, Calls Try.prog 29 #[.slice (some ⟨u.heap.size, 0, none⟩) 1 1] (u.alloc (.cells #[.int .i64 0] 3)) fun e w' => e = .returned (.agg #[.int .u64 (ofS [0]).a, .int .u64 (ofS [0]).b, .int .u64 (ofS [0]).c, .int .u64 (ofS [0]).d]) ∧ Below (u.alloc (.cells #[.int .i64 0] 3)).heap.size (u.alloc (.cells #[.int .i64 0] 3)) w' := fun u => rofv_c (l := [0]) _ (int1 u 0) (by decide)
  have c1 : ∀ u : World, Calls Try.prog 29 #[.slice (some ⟨u.heap.size, 0, none⟩) 1 1] (u.alloc (.cells #[.int .i64 1] 3)) fun e w' => e = .returned (.agg #[.int .u64 (ofS [1]).a, .int .u64 (ofS [1]).b, .int .u64 (ofS [1]).c, .int .u64 (ofS [1]).d]) ∧ Below (u.alloc (.cells #[.int .i64 1] 3)).heap.size (u.alloc (.cells #[.int .i64 1] 3)) w' := fun u => rofv_c (l := [1]) _ (int1 u 1) (by decide)
  generalize hS0 : ofS [0] = S0 at *
  generalize hS1 : ofS [1] = S1 at *
  have HS0 := Lib.hid hS0
  have HS1 := Lib.hid hS1
  have C0 := Lib.hid c0
  have C1 := Lib.hid c1
  clear hS0 hS1 c0 c1
  go_upto_region 2 with (go_at_call 29; first
      | (refine (C1.out w1).mono ?_; rintro e w2 ⟨rfl, hb2⟩; have HB2 := Lib.hid hb2; clear hb2)
      | (refine (C0.out w).mono ?_; rintro e w1 ⟨rfl, hb1⟩; have HB1 := Lib.hid hb1; clear hb1))
  have HBW : Hid (Below w.heap.size w ((w2.alloc (.cells #[.int .u64 S0.a, .int .u64 S0.b, .int .u64 S0.c, .int .u64 S0.d] 24)).alloc (.cells #[.int .u64 S1.a, .int .u64 S1.b, .int .u64 S1.c, .int .u64 S1.d] 24))) := Lib.hid (by
    have h1 := ((Below.refl _ w).alloc (Nat.le_refl _) (.cells #[.int .i64 0] 3))
    have h2 := h1.trans (HB1.out.mono h1.size)
    have h3 := h2.alloc h2.size (.cells #[.int .i64 1] 3)
    have h4 := h3.trans (HB2.out.mono h3.size)
    exact h4.trans (below_a2.mono h4.size))
  have HK1 : Hid (Blk ((w2.alloc (.cells #[.int .u64 S0.a, .int .u64 S0.b, .int .u64 S0.c, .int .u64 S0.d] 24)).alloc (.cells #[.int .u64 S1.a, .int .u64 S1.b, .int .u64 S1.c, .int .u64 S1.d] 24)) w2.heap.size 24 #[.int .u64 S0.a, .int .u64 S0.b, .int .u64 S0.c, .int .u64 S0.d]) := Lib.hid ((Blk.new w2 _ _).alloc _)
  have HK2 : Hid (Blk ((w2.alloc (.cells #[.int .u64 S0.a, .int .u64 S0.b, .int .u64 S0.c, .int .u64 S0.d] 24)).alloc (.cells #[.int .u64 S1.a, .int .u64 S1.b, .int .u64 S1.c, .int .u64 S1.d] 24)) (w2.heap.size + 1) 24 #[.int .u64 S1.a, .int .u64 S1.b, .int .u64 S1.c, .int .u64 S1.d]) := Lib.hid (by
    have h := Blk.new (w2.alloc (.cells #[.int .u64 S0.a, .int .u64 S0.b, .int .u64 S0.c, .int .u64 S0.d] 24)) 24 #[.int .u64 S1.a, .int .u64 S1.b, .int .u64 S1.c, .int .u64 S1.d]
    rwa [World.size_alloc] at h)
  generalize (w2.alloc (.cells #[.int .u64 S0.a, .int .u64 S0.b, .int .u64 S0.c, .int .u64 S0.d] 24)).alloc (.cells #[.int .u64 S1.a, .int .u64 S1.b, .int .u64 S1.c, .int .u64 S1.d] 24) = W1 at *
  generalize hg2 : w2.heap.size + 1 = g2 at *
  generalize w2.heap.size = g1 at *
  clear hg2 HB1 HB2 C0 C1
  have h1 := HK1.out.cell
  have h2 := HK2.out.cell
  have a0 := h1 0
  have a1 := h1 1
  have a2 := h1 2
  have a3 := h1 3
  have b0 := h2 0
  have b1 := h2 1
  have b2 := h2 2
  have b3 := h2 3
  clear h1 h2
  go_upto_region 3 with fail
  clear a0 a1 a2 a3 b0 b1 b2 b3
  have HK3 : Hid (Blk ((W1.alloc (.cells #[.int .i64 1, .int .u64 S0.a, .int .u64 S0.b, .int .u64 S0.c, .int .u64 S0.d, .int .u64 S1.a, .int .u64 S1.b, .int .u64 S1.c, .int .u64 S1.d, .bool false, .int .i64 0, .int .u32 1, .int .i64 0, .int .i64 1, .int .u64 S0.a, .int .u64 S0.b, .int .u64 S0.c, .int .u64 S0.d, .int .u64 S1.a, .int .u64 S1.b, .int .u64 S1.c, .int .u64 S1.d, .bool false, .int .i64 0, .int .u32 2, .int .i64 0, .int .i64 4, .int .u64 S0.a, .int .u64 S0.b, .int .u64 S0.c, .int .u64 S0.d, .int .u64 S1.a, .int .u64 S1.b, .int .u64 S1.c, .int .u64 S1.d, .bool false, .int .i64 0, .int .u32 2, .int .i64 0] 27)).alloc (.cells #[.slice none 0 0, .slice none 0 0, .slice none 0 0, .slice none 0 0, .slice none 0 0, .slice none 0 0, .slice none 0 0, .slice none 0 0, .slice none 0 0, .slice (some ⟨W1.heap.size, 0, none⟩) 3 3, .slice none 0 0, .slice none 0 0, .slice none 0 0, .slice none 0 0, .slice none 0 0, .slice none 0 0, .slice none 0 0] 50)) g2 24 #[.int .u64 S1.a, .int .u64 S1.b, .int .u64 S1.c, .int .u64 S1.d]) := Lib.hid ((HK2.out.alloc _).alloc _)
  have HRU0 : Hid (Blk ((W1.alloc (.cells #[.int .i64 1, .int .u64 S0.a, .int .u64 S0.b, .int .u64 S0.c, .int .u64 S0.d, .int .u64 S1.a, .int .u64 S1.b, .int .u64 S1.c, .int .u64 S1.d, .bool false, .int .i64 0, .int .u32 1, .int .i64 0, .int .i64 1, .int .u64 S0.a, .int .u64 S0.b, .int .u64 S0.c, .int .u64 S0.d, .int .u64 S1.a, .int .u64 S1.b, .int .u64 S1.c, .int .u64 S1.d, .bool false, .int .i64 0, .int .u32 2, .int .i64 0, .int .i64 4, .int .u64 S0.a, .int .u64 S0.b, .int .u64 S0.c, .int .u64 S0.d, .int .u64 S1.a, .int .u64 S1.b, .int .u64 S1.c, .int .u64 S1.d, .bool false, .int .i64 0, .int .u32 2, .int .i64 0] 27)).alloc (.cells #[.slice none 0 0, .slice none 0 0, .slice none 0 0, .slice none 0 0, .slice none 0 0, .slice none 0 0, .slice none 0 0, .slice none 0 0, .slice none 0 0, .slice (some ⟨W1.heap.size, 0, none⟩) 3 3, .slice none 0 0, .slice none 0 0, .slice none 0 0, .slice none 0 0, .slice none 0 0, .slice none 0 0, .slice none 0 0] 50)) W1.heap.size 27 #[.int .i64 1, .int .u64 S0.a, .int .u64 S0.b, .int .u64 S0.c, .int .u64 S0.d, .int .u64 S1.a, .int .u64 S1.b, .int .u64 S1.c, .int .u64 S1.d, .bool false, .int .i64 0, .int .u32 1, .int .i64 0, .int .i64 1, .int .u64 S0.a, .int .u64 S0.b, .int .u64 S0.c, .int .u64 S0.d, .int .u64 S1.a, .int .u64 S1.b, .int .u64 S1.c, .int .u64 S1.d, .bool false, .int .i64 0, .int .u32 2, .int .i64 0, .int .i64 4, .int .u64 S0.a, .int .u64 S0.b, .int .u64 S0.c, .int .u64 S0.d, .int .u64 S1.a, .int .u64 S1.b, .int .u64 S1.c, .int .u64 S1.d, .bool false, .int .i64 0, .int .u32 2, .int .i64 0]) := Lib.hid ((Blk.new W1 _ _).alloc _)
  have HP0 : Hid (Blk ((W1.alloc (.cells #[.int .i64 1, .int .u64 S0.a, .int .u64 S0.b, .int .u64 S0.c, .int .u64 S0.d, .int .u64 S1.a, .int .u64 S1.b, .int .u64 S1.c, .int .u64 S1.d, .bool false, .int .i64 0, .int .u32 1, .int .i64 0, .int .i64 1, .int .u64 S0.a, .int .u64 S0.b, .int .u64 S0.c, .int .u64 S0.d, .int .u64 S1.a, .int .u64 S1.b, .int .u64 S1.c, .int .u64 S1.d, .bool false, .int .i64 0, .int .u32 2, .int .i64 0, .int .i64 4, .int .u64 S0.a, .int .u64 S0.b, .int .u64 S0.c, .int .u64 S0.d, .int .u64 S1.a, .int .u64 S1.b, .int .u64 S1.c, .int .u64 S1.d, .bool false, .int .i64 0, .int .u32 2, .int .i64 0] 27)).alloc (.cells #[.slice none 0 0, .slice none 0 0, .slice none 0 0, .slice none 0 0, .slice none 0 0, .slice none 0 0, .slice none 0 0, .slice none 0 0, .slice none 0 0, .slice (some ⟨W1.heap.size, 0, none⟩) 3 3, .slice none 0 0, .slice none 0 0, .slice none 0 0, .slice none 0 0, .slice none 0 0, .slice none 0 0, .slice none 0 0] 50)) (W1.heap.size + 1) 50 #[.slice none 0 0, .slice none 0 0, .slice none 0 0, .slice none 0 0, .slice none 0 0, .slice none 0 0, .slice none 0 0, .slice none 0 0, .slice none 0 0, .slice (some ⟨W1.heap.size, 0, none⟩) 3 3, .slice none 0 0, .slice none 0 0, .slice none 0 0, .slice none 0 0, .slice none 0 0, .slice none 0 0, .slice none 0 0]) := Lib.hid (by
    have h := Blk.new (W1.alloc (.cells #[.int .i64 1, .int .u64 S0.a, .int .u64 S0.b, .int .u64 S0.c, .int .u64 S0.d, .int .u64 S1.a, .int .u64 S1.b, .int .u64 S1.c, .int .u64 S1.d, .bool false, .int .i64 0, .int .u32 1, .int .i64 0, .int .i64 1, .int .u64 S0.a, .int .u64 S0.b, .int .u64 S0.c, .int .u64 S0.d, .int .u64 S1.a, .int .u64 S1.b, .int .u64 S1.c, .int .u64 S1.d, .bool false, .int .i64 0, .int .u32 2, .int .i64 0, .int .i64 4, .int .u64 S0.a, .int .u64 S0.b, .int .u64 S0.c, .int .u64 S0.d, .int .u64 S1.a, .int .u64 S1.b, .int .u64 S1.c, .int .u64 S1.d, .bool false, .int .i64 0, .int .u32 2, .int .i64 0] 27)) 50 #[.slice none 0 0, .slice none 0 0, .slice none 0 0, .slice none 0 0, .slice none 0 0, .slice none 0 0, .slice none 0 0, .slice none 0 0, .slice none 0 0, .slice (some ⟨W1.heap.size, 0, none⟩) 3 3, .slice none 0 0, .slice none 0 0, .slice none 0 0, .slice none 0 0, .slice none 0 0, .slice none 0 0, .slice none 0 0]
    rwa [World.size_alloc] at h)
  have HB3 : Hid (Below w.heap.size w ((W1.alloc (.cells #[.int .i64 1, .int .u64 S0.a, .int .u64 S0.b, .int .u64 S0.c, .int .u64 S0.d, .int .u64 S1.a, .int .u64 S1.b, .int .u64 S1.c, .int .u64 S1.d, .bool false, .int .i64 0, .int .u32 1, .int .i64 0, .int .i64 1, .int .u64 S0.a, .int .u64 S0.b, .int .u64 S0.c, .int .u64 S0.d, .int .u64 S1.a, .int .u64 S1.b, .int .u64 S1.c, .int .u64 S1.d, .bool false, .int .i64 0, .int .u32 2, .int .i64 0, .int .i64 4, .int .u64 S0.a, .int .u64 S0.b, .int .u64 S0.c, .int .u64 S0.d, .int .u64 S1.a, .int .u64 S1.b, .int .u64 S1.c, .int .u64 S1.d, .bool false, .int .i64 0, .int .u32 2, .int .i64 0] 27)).alloc (.cells #[.slice none 0 0, .slice none 0 0, .slice none 0 0, .slice none 0 0, .slice none 0 0, .slice none 0 0, .slice none 0 0, .slice none 0 0, .slice none 0 0, .slice (some ⟨W1.heap.size, 0, none⟩) 3 3, .slice none 0 0, .slice none 0 0, .slice none 0 0, .slice none 0 0, .slice none 0 0, .slice none 0 0, .slice none 0 0] 50))) := Lib.hid (HBW.out.trans (below_a2.mono HBW.out.size))
  generalize ((W1.alloc (.cells #[.int .i64 1, .int .u64 S0.a, .int .u64 S0.b, .int .u64 S0.c, .int .u64 S0.d, .int .u64 S1.a, .int .u64 S1.b, .int .u64 S1.c, .int .u64 S1.d, .bool false, .int .i64 0, .int .u32 1, .int .i64 0, .int .i64 1, .int .u64 S0.a, .int .u64 S0.b, .int .u64 S0.c, .int .u64 S0.d, .int .u64 S1.a, .int .u64 S1.b, .int .u64 S1.c, .int .u64 S1.d, .bool false, .int .i64 0, .int .u32 2, .int .i64 0, .int .i64 4, .int .u64 S0.a, .int .u64 S0.b, .int .u64 S0.c, .int .u64 S0.d, .int .u64 S1.a, .int .u64 S1.b, .int .u64 S1.c, .int .u64 S1.d, .bool false, .int .i64 0, .int .u32 2, .int .i64 0] 27)).alloc (.cells #[.slice none 0 0, .slice none 0 0, .slice none 0 0, .slice none 0 0, .slice none 0 0, .slice none 0 0, .slice none 0 0, .slice none 0 0, .slice none 0 0, .slice (some ⟨W1.heap.size, 0, none⟩) 3 3, .slice none 0 0, .slice none 0 0, .slice none 0 0, .slice none 0 0, .slice none 0 0, .slice none 0 0, .slice none 0 0] 50)) = W2 at *
  generalize hgp : W1.heap.size + 1 = gp at *
  generalize W1.heap.size = gr at *
  clear hgp HK2 HK1 HBW
  go_upto_region 4 with fail
  have HK2 := Lib.hid (HK3.out.alloc (.cells #[.int .i64 0, .int .i64 1, .int .i64 0, .int .i64 0, .int .u32 1, .int .u32 0, .int .u32 0, .int .i64 0, .int .i64 2, .int .i64 0, .int .i64 0, .int .u32 1, .int .u32 0, .int .u32 0, .int .i64 1, .int .i64 1, .int .i64 0, .int .i64 0, .int .u32 1, .int .u32 0, .int .u32 0, .int .i64 1, .int .i64 2, .int .i64 0, .int .i64 0, .int .u32 1, .int .u32 0, .int .u32 0] 61))
  have HP := Lib.hid (HP0.out.alloc (.cells #[.int .i64 0, .int .i64 1, .int .i64 0, .int .i64 0, .int .u32 1, .int .u32 0, .int .u32 0, .int .i64 0, .int .i64 2, .int .i64 0, .int .i64 0, .int .u32 1, .int .u32 0, .int .u32 0, .int .i64 1, .int .i64 1, .int .i64 0, .int .i64 0, .int .u32 1, .int .u32 0, .int .u32 0, .int .i64 1, .int .i64 2, .int .i64 0, .int .i64 0, .int .u32 1, .int .u32 0, .int .u32 0] 61))
  have HRU : Hid (Rus (W2.alloc (.cells #[.int .i64 0, .int .i64 1, .int .i64 0, .int .i64 0, .int .u32 1, .int .u32 0, .int .u32 0, .int .i64 0, .int .i64 2, .int .i64 0, .int .i64 0, .int .u32 1, .int .u32 0, .int .u32 0, .int .i64 1, .int .i64 1, .int .i64 0, .int .i64 0, .int .u32 1, .int .u32 0, .int .u32 0, .int .i64 1, .int .i64 2, .int .i64 0, .int .i64 0, .int .u32 1, .int .u32 0, .int .u32 0] 61)) (.slice (some ⟨gr, 0, none⟩) 3 3) [ra, rb, rc]) := Lib.hid (Rus.of (L := [ra, rb, rc]) (by
    have h := HRU0.out.alloc (.cells #[.int .i64 0, .int .i64 1, .int .i64 0, .int .i64 0, .int .u32 1, .int .u32 0, .int .u32 0, .int .i64 0, .int .i64 2, .int .i64 0, .int .i64 0, .int .u32 1, .int .u32 0, .int .u32 0, .int .i64 1, .int .i64 1, .int .i64 0, .int .i64 0, .int .u32 1, .int .u32 0, .int .u32 0, .int .i64 1, .int .i64 2, .int .i64 0, .int .i64 0, .int .u32 1, .int .u32 0, .int .u32 0] 61)
    rw [← HS0.out, ← HS1.out] at h
    exact h))
  have HEN : Hid (Ents (W2.alloc (.cells #[.int .i64 0, .int .i64 1, .int .i64 0, .int .i64 0, .int .u32 1, .int .u32 0, .int .u32 0, .int .i64 0, .int .i64 2, .int .i64 0, .int .i64 0, .int .u32 1, .int .u32 0, .int .u32 0, .int .i64 1, .int .i64 1, .int .i64 0, .int .i64 0, .int .u32 1, .int .u32 0, .int .u32 0, .int .i64 1, .int .i64 2, .int .i64 0, .int .i64 0, .int .u32 1, .int .u32 0, .int .u32 0] 61)) (.slice (some ⟨W2.heap.size, 0, none⟩) 4 4) [e1, e2, e3, e4]) := Lib.hid (Ents.of (L := [e1, e2, e3, e4]) (Blk.new W2 _ _))
  have HB4 := Lib.hid (HB3.out.alloc HB3.out.size (.cells #[.int .i64 0, .int .i64 1, .int .i64 0, .int .i64 0, .int .u32 1, .int .u32 0, .int .u32 0, .int .i64 0, .int .i64 2, .int .i64 0, .int .i64 0, .int .u32 1, .int .u32 0, .int .u32 0, .int .i64 1, .int .i64 1, .int .i64 0, .int .i64 0, .int .u32 1, .int .u32 0, .int .u32 0, .int .i64 1, .int .i64 2, .int .i64 0, .int .i64 0, .int .u32 1, .int .u32 0, .int .u32 0] 61))
  have HGL : Hid (W2.heap.size < (W2.alloc (.cells #[.int .i64 0, .int .i64 1, .int .i64 0, .int .i64 0, .int .u32 1, .int .u32 0, .int .u32 0, .int .i64 0, .int .i64 2, .int .i64 0, .int .i64 0, .int .u32 1, .int .u32 0, .int .u32 0, .int .i64 1, .int .i64 1, .int .i64 0, .int .i64 0, .int .u32 1, .int .u32 0, .int .u32 0, .int .i64 1, .int .i64 2, .int .i64 0, .int .i64 0, .int .u32 1, .int .u32 0, .int .u32 0] 61)).heap.size) := Lib.hid (by simp)
  generalize W2.alloc (.cells #[.int .i64 0, .int .i64 1, .int .i64 0, .int .i64 0, .int .u32 1, .int .u32 0, .int .u32 0, .int .i64 0, .int .i64 2, .int .i64 0, .int .i64 0, .int .u32 1, .int .u32 0, .int .u32 0, .int .i64 1, .int .i64 1, .int .i64 0, .int .i64 0, .int .u32 1, .int .u32 0, .int .u32 0, .int .i64 1, .int .i64 2, .int .i64 0, .int .i64 0, .int .u32 1, .int .u32 0, .int .u32 0] 61) = W at *
  generalize W2.heap.size = gl at *
  clear HK3 HP0 HRU0 HB3
  have HE1 : Hid (At7 W gl 0 e1) := Lib.hid (by
    obtain ⟨_, _, e, _, hr⟩ := HEN.out
    obtain ⟨g, o, e2, hR⟩ := hr (by simp)
    subst e2
    simp only [Value.slice.injEq, Option.some.injEq, Addr.mk.injEq, and_true] at e
    obtain ⟨⟨rfl, rfl⟩, _, _⟩ := e
    exact hR 0 e1 rfl)
  have HE4 : Hid (At7 W gl 21 e4) := Lib.hid (by
    obtain ⟨_, _, e, _, hr⟩ := HEN.out
    obtain ⟨g, o, e2, hR⟩ := hr (by simp)
    subst e2
    simp only [Value.slice.injEq, Option.some.injEq, Addr.mk.injEq, and_true] at e
    obtain ⟨⟨rfl, rfl⟩, _, _⟩ := e
    exact hR 3 e4 rfl)
  refine wp_region_gen (fun _ u => Below W.heap.size W u) (fun _ u u2 => Below u.heap.size u u2) (fun q v w => ((awSp S1 gr gl).getD q .tt).ok v w) (by kernel_rfl) (by kernel_rfl) (Below.refl _ _).drew (fun _ _ _ _ _ h hr => h.trans (hr.mono h.size)) [] (by kernel_rfl) (fun i j v u u2 _ _ h hr => SpA.keep h hr) ?_ ?_
  · refine ⟨⟨trivial, fun A v d hd hC hF hW K Q hk => ?_⟩, ⟨trivial, fun A v d hd hC hF hW K Q hk => ?_⟩, ⟨trivial, fun A v d hd hC hF hW K Q hk => ?_⟩, ⟨trivial, fun A v d hd hC hF hW K Q hk => ?_⟩, ⟨trivial, fun A v d hd hC hF hW K Q hk => ?_⟩, ⟨trivial, fun A v d hd hC hF hW K Q hk => ?_⟩, ⟨trivial, fun A v d hd hC hF hW K Q hk => ?_⟩, ⟨trivial, fun A v d hd hC hF hW K Q hk => ?_⟩, ⟨trivial, fun A v d hd hC hF hW K Q hk => ?_⟩, ⟨trivial, fun A v d hd hC hF hW K Q hk => ?_⟩, ⟨trivial, fun A v d hd hC hF hW K Q hk => ?_⟩, ⟨fun _ _ h => h, fun A v d hd hC hF hW K Q hk => ?_⟩, ⟨fun _ _ h => h, fun A v d hd hC hF hW K Q hk => ?_⟩, ⟨fun _ _ h => h, fun A v d hd hC hF hW K Q hk => ?_⟩, ⟨fun _ _ h => h, fun A v d hd hC hF hW K Q hk => ?_⟩, ⟨fun _ _ h => h, fun A v d hd hC hF hW K Q hk => ?_⟩, ⟨trivial, fun A v d hd hC hF hW K Q hk => ?_⟩, ⟨trivial, fun A v d hd hC hF hW K Q hk => ?_⟩, ⟨fun _ _ h => h, fun A v d hd hC hF hW K Q hk => ?_⟩, ⟨fun _ _ h => h, fun A v d hd hC hF hW K Q hk => ?_⟩, ⟨fun _ _ h => h, fun A v d hd hC hF hW K Q hk => ?_⟩, ⟨fun _ _ h => h, fun A v d hd hC hF hW K Q hk => ?_⟩, ⟨fun _ _ h => h, fun A v d hd hC hF hW K Q hk => ?_⟩, ⟨trivial, fun A v d hd hC hF hW K Q hk => ?_⟩, ⟨trivial, fun A v d hd hC hF hW K Q hk => ?_⟩, ⟨fun _ _ h => h, fun A v d hd hC hF hW K Q hk => ?_⟩, ⟨fun _ _ h => h, fun A v d hd hC hF hW K Q hk => ?_⟩, ⟨fun _ _ h => h, fun A v d hd hC hF hW K Q hk => ?_⟩, ⟨trivial, fun A v d hd hC hF hW K Q hk => ?_⟩, ⟨trivial, fun A v d hd hC hF hW K Q hk => ?_⟩, ⟨fun _ _ h => h, fun A v d hd hC hF hW K Q hk => ?_⟩, ⟨fun _ _ h => h, fun A v d hd hC hF hW K Q hk => ?_⟩, ⟨fun _ _ h => h, fun A v d hd hC hF hW K Q hk => ?_⟩, ⟨fun _ _ h => h, fun A v d hd hC hF hW K Q hk => ?_⟩, ⟨fun _ _ h => h, fun A v d hd hC hF hW K Q hk => ?_⟩, ⟨fun _ _ h => h, fun A v d hd hC hF hW K Q hk => ?_⟩, ⟨fun _ _ h => h, fun A v d hd hC hF hW K Q hk => ?_⟩, ⟨fun _ _ h => h, fun A v d hd hC hF hW K Q hk => ?_⟩, ⟨fun _ _ h => h, fun A v d hd hC hF hW K Q hk => ?_⟩, ⟨trivial, fun A v d hd hC hF hW K Q hk => ?_⟩, ⟨trivial, fun A v d hd hC hF hW K Q hk => ?_⟩, ⟨fun _ _ h => h, fun A v d hd hC hF hW K Q hk => ?_⟩, ⟨fun _ _ h => h, fun A v d hd hC hF hW K Q hk => ?_⟩, ⟨fun _ _ h => h, fun A v d hd hC hF hW K Q hk => ?_⟩, ⟨fun _ _ h => h, fun A v d hd hC hF hW K Q hk => ?_⟩, ⟨fun _ _ h => h, fun A v d hd hC hF hW K Q hk => ?_⟩, ⟨fun _ _ h => h, fun A v d hd hC hF hW K Q hk => ?_⟩, ⟨fun _ _ h => h, fun A v d hd hC hF hW K Q hk => ?_⟩, ⟨fun _ _ h => h, fun A v d hd hC hF hW K Q hk => ?_⟩, ⟨fun _ _ h => h, fun A v d hd hC hF hW K Q hk => ?_⟩, ⟨fun _ _ h => h, fun A v d hd hC hF hW K Q hk => ?_⟩, ⟨fun _ _ h => h, fun A v d hd hC hF hW K Q hk => ?_⟩, ⟨fun _ _ h => h, fun A v d hd hC hF hW K Q hk => ?_⟩, ⟨fun _ _ h => h, fun A v d hd hC hF hW K Q hk => ?_⟩, ⟨fun _ _ h => h, fun A v d hd hC hF hW K Q hk => ?_⟩, ⟨fun _ _ h => h, fun A v d hd hC hF hW K Q hk => ?_⟩, ⟨fun _ _ h => h, fun A v d hd hC hF hW K Q hk => ?_⟩, ⟨trivial, fun A v d hd hC hF hW K Q hk => ?_⟩, ⟨trivial, fun A v d hd hC hF hW K Q hk => ?_⟩, trivial⟩
    · refine Giv.wp ?_ hk
      unfold Giv
      go_simp
      exact giv_val ((Below.refl _ _).alloc (Nat.le_refl _) _) (int2 v 0 1)
    · have s25 : IntV v (A.tmps[25]?.getD undef) [0, 1] := fg_some (hF 25) (j := 0) (by kernel_rfl) (by kernel_rfl)
      refine Giv.wp ?_ hk
      unfold Giv
      go_simp
      exact giv_enter ((rofv_c v s25 (by decide)).mono fun e w2 ⟨he, hb⟩ => ⟨_, he, hb, rfl⟩)
    · have f2 : A.tmps[2]?.getD undef = .pointer (some ⟨g2, 0, none⟩) := fg_none (hF 2) (by kernel_rfl)
      have h2 := (Blk.keep HK2.out hC).cell
      have b0 := h2 0
      have b1 := h2 1
      have b2 := h2 2
      have b3 := h2 3
      refine Giv.wp ?_ hk
      unfold Giv
      go_simp
      exact giv_val (Below.refl _ _) rfl
    · have f26 : A.tmps[26]?.getD undef = .agg #[.int .u64 (ofS [0, 1]).a, .int .u64 (ofS [0, 1]).b, .int .u64 (ofS [0, 1]).c, .int .u64 (ofS [0, 1]).d] := fg_some (hF 26) (j := 1) (by kernel_rfl) (by kernel_rfl)
      have f27 : A.tmps[27]?.getD undef = .agg #[.int .u64 S1.a, .int .u64 S1.b, .int .u64 S1.c, .int .u64 S1.d] := fg_some (hF 27) (j := 2) (by kernel_rfl) (by kernel_rfl)
      refine Giv.wp ?_ hk
      unfold Giv
      go_simp
      exact giv_val (Below.refl _ _) (by rw [← HS1.out]; rfl)
    · have f28 : A.tmps[28]?.getD undef = .agg #[.int .i64 r0.k, .int .u64 r0.src.a, .int .u64 r0.src.b, .int .u64 r0.src.c, .int .u64 r0.src.d, .int .u64 r0.tgt.a, .int .u64 r0.tgt.b, .int .u64 r0.tgt.c, .int .u64 r0.tgt.d, .bool r0.self, .int .i64 r0.cl, .int .u32 (vI r0.pm), .int .i64 r0.cd] := fg_some (hF 28) (j := 3) (by kernel_rfl) (by kernel_rfl)
      refine Giv.wp ?_ hk
      unfold Giv
      go_simp
      exact giv_enter ((rule_c r0 v).mono fun e w2 ⟨v2, he, hp, hb⟩ => ⟨v2, he, hb, by rw [ex_prs] at hp; exact hp⟩)
    · refine Giv.wp ?_ hk
      unfold Giv
      go_simp
      exact giv_val (Below.refl _ _) rfl
    · refine Giv.wp ?_ hk
      unfold Giv
      go_simp
      exact giv_val (Below.refl _ _) rfl
    · refine Giv.wp ?_ hk
      unfold Giv
      go_simp
      exact giv_val (Below.refl _ _) rfl
    · have f30 : A.tmps[30]?.getD undef = .agg #[.int .i64 0, .int .i64 0] := fg_some (hF 30) (j := 5) (by kernel_rfl) (by kernel_rfl)
      have f31 : A.tmps[31]?.getD undef = .agg #[.int .i64 0, .int .i64 1] := fg_some (hF 31) (j := 6) (by kernel_rfl) (by kernel_rfl)
      have f32 : A.tmps[32]?.getD undef = .agg #[.int .i64 1, .int .i64 1] := fg_some (hF 32) (j := 7) (by kernel_rfl) (by kernel_rfl)
      refine Giv.wp ?_ hk
      unfold Giv
      go_simp
      exact giv_val ((Below.refl _ _).alloc (Nat.le_refl _) _) (Prs.of (L := [(0, 0), (0, 1), (1, 1)]) (Blk.new v _ _))
    · have s29 : Prs v (A.tmps[29]?.getD undef) [(0, 0), (0, 1), (1, 1)] := fg_some (hF 29) (j := 4) (by kernel_rfl) (by kernel_rfl)
      have s33 : Prs v (A.tmps[33]?.getD undef) [(0, 0), (0, 1), (1, 1)] := fg_some (hF 33) (j := 8) (by kernel_rfl) (by kernel_rfl)
      refine Giv.wp ?_ hk
      unfold Giv
      go_simp
      exact giv_enter ((lpairs_c _ _ _ _ v s29 s33 (by decide)).mono fun e w2 ⟨he, hb⟩ => ⟨_, he, hb, rfl⟩)
    · have f34 : A.tmps[34]?.getD undef = .bool true := fg_some (hF 34) (j := 9) (by kernel_rfl) (by kernel_rfl)
      refine Giv.wp ?_ hk
      unfold Giv
      go_simp
      exact giv_val (Below.refl _ _) rfl
    · have f3 : A.tmps[3]?.getD undef = .pointer (some ⟨gp, 0, none⟩) := fg_none (hF 3) (by kernel_rfl)
      refine Giv.wp ?_ hk
      unfold Giv
      rw [load_pol _ _ _ _ _ _ _ _ _ _ _ _ _ _ _ _ _ gp v (Blk.keep HP.out hC) A f3 _ rfl]
      exact giv_val (Below.refl _ _) rfl
    · have f36 : A.tmps[36]?.getD undef = .agg #[.slice none 0 0, .slice none 0 0, .slice none 0 0, .slice none 0 0, .slice none 0 0, .slice none 0 0, .slice none 0 0, .slice none 0 0, .slice none 0 0, .slice (some ⟨gr, 0, none⟩) 3 3, .slice none 0 0, .slice none 0 0, .slice none 0 0, .slice none 0 0, .slice none 0 0, .slice none 0 0, .slice none 0 0] := fg_some (hF 36) (j := 11) (by kernel_rfl) (by kernel_rfl)
      refine Giv.wp ?_ hk
      unfold Giv
      go_simp
      exact giv_enter ((entries_c _ _ _ _ _ _ _ _ _ _ _ _ _ _ _ _ _ [ra, rb, rc] (by decide) (by rw [ex_M]; decide) v (HRU.out.keep hC)).mono fun e w2 ⟨v2, he, hp, hb⟩ => ⟨v2, he, hb, by rw [ex_M] at hp; exact hp⟩)
    · refine Giv.wp ?_ hk
      unfold Giv
      go_simp
      exact giv_val (Below.refl _ _) rfl
    · have f38 : A.tmps[38]?.getD undef = .agg #[.int .i64 e5.s, .int .i64 e5.t, .int .i64 e5.c, .int .i64 e5.d, .int .u32 (vI e5.a), .int .u32 (vI e5.b), .int .u32 (vI e5.e)] := fg_some (hF 38) (j := 13) (by kernel_rfl) (by kernel_rfl)
      refine Giv.wp ?_ hk
      unfold Giv
      go_simp
      exact giv_val ((Below.refl _ _).alloc (Nat.le_refl _) _) (Ents.of (L := [e5]) (Blk.new v _ _))
    · have s37 : Ents v (A.tmps[37]?.getD undef) [e5] := fg_some (hF 37) (j := 12) (by kernel_rfl) (by kernel_rfl)
      have s39 : Ents v (A.tmps[39]?.getD undef) [e5] := fg_some (hF 39) (j := 14) (by kernel_rfl) (by kernel_rfl)
      refine Giv.wp ?_ hk
      unfold Giv
      go_simp
      exact giv_enter ((rsame_c _ _ _ _ v s37 s39 (by decide)).mono fun e w2 ⟨he, hb⟩ => ⟨_, he, hb, rfl⟩)
    · have f35 : A.tmps[35]?.getD undef = .bool true := fg_some (hF 35) (j := 10) (by kernel_rfl) (by kernel_rfl)
      have f40 : A.tmps[40]?.getD undef = .bool true := fg_some (hF 40) (j := 15) (by kernel_rfl) (by kernel_rfl)
      refine Giv.wp ?_ hk
      unfold Giv
      go_simp
      exact giv_val (Below.refl _ _) rfl
    · have f41 : A.tmps[41]?.getD undef = .bool true := fg_some (hF 41) (j := 16) (by kernel_rfl) (by kernel_rfl)
      refine Giv.wp ?_ hk
      unfold Giv
      go_simp
      exact giv_val (Below.refl _ _) rfl
    · have f3 : A.tmps[3]?.getD undef = .pointer (some ⟨gp, 0, none⟩) := fg_none (hF 3) (by kernel_rfl)
      refine Giv.wp ?_ hk
      unfold Giv
      rw [load_pol _ _ _ _ _ _ _ _ _ _ _ _ _ _ _ _ _ gp v (Blk.keep HP.out hC) A f3 _ rfl]
      exact giv_val (Below.refl _ _) rfl
    · have f43 : A.tmps[43]?.getD undef = .agg #[.slice none 0 0, .slice none 0 0, .slice none 0 0, .slice none 0 0, .slice none 0 0, .slice none 0 0, .slice none 0 0, .slice none 0 0, .slice none 0 0, .slice (some ⟨gr, 0, none⟩) 3 3, .slice none 0 0, .slice none 0 0, .slice none 0 0, .slice none 0 0, .slice none 0 0, .slice none 0 0, .slice none 0 0] := fg_some (hF 43) (j := 18) (by kernel_rfl) (by kernel_rfl)
      refine Giv.wp ?_ hk
      unfold Giv
      go_simp
      exact giv_enter ((never_c _ _ _ _ _ _ _ _ _ _ _ _ _ _ _ _ _ [ra, rb, rc] (by decide) (by rw [ex_M]; decide) (by rw [ex_Mn]; decide) v (HRU.out.keep hC)).mono fun e w2 ⟨v2, he, hp, hb⟩ => ⟨v2, he, hb, by rw [ex_never] at hp; exact hp⟩)
    · refine Giv.wp ?_ hk
      unfold Giv
      go_simp
      exact giv_val (Below.refl _ _) rfl
    · have f45 : A.tmps[45]?.getD undef = .agg #[.int .i64 e6.s, .int .i64 e6.t, .int .i64 e6.c, .int .i64 e6.d, .int .u32 (vI e6.a), .int .u32 (vI e6.b), .int .u32 (vI e6.e)] := fg_some (hF 45) (j := 20) (by kernel_rfl) (by kernel_rfl)
      refine Giv.wp ?_ hk
      unfold Giv
      go_simp
      exact giv_val ((Below.refl _ _).alloc (Nat.le_refl _) _) (Ents.of (L := [e6]) (Blk.new v _ _))
    · have s44 : Ents v (A.tmps[44]?.getD undef) [e6] := fg_some (hF 44) (j := 19) (by kernel_rfl) (by kernel_rfl)
      have s46 : Ents v (A.tmps[46]?.getD undef) [e6] := fg_some (hF 46) (j := 21) (by kernel_rfl) (by kernel_rfl)
      refine Giv.wp ?_ hk
      unfold Giv
      go_simp
      exact giv_enter ((rsame_c _ _ _ _ v s44 s46 (by decide)).mono fun e w2 ⟨he, hb⟩ => ⟨_, he, hb, rfl⟩)
    · have f42 : A.tmps[42]?.getD undef = .bool true := fg_some (hF 42) (j := 17) (by kernel_rfl) (by kernel_rfl)
      have f47 : A.tmps[47]?.getD undef = .bool true := fg_some (hF 47) (j := 22) (by kernel_rfl) (by kernel_rfl)
      refine Giv.wp ?_ hk
      unfold Giv
      go_simp
      exact giv_val (Below.refl _ _) rfl
    · have f48 : A.tmps[48]?.getD undef = .bool true := fg_some (hF 48) (j := 23) (by kernel_rfl) (by kernel_rfl)
      refine Giv.wp ?_ hk
      unfold Giv
      go_simp
      exact giv_val (Below.refl _ _) rfl
    · have f3 : A.tmps[3]?.getD undef = .pointer (some ⟨gp, 0, none⟩) := fg_none (hF 3) (by kernel_rfl)
      refine Giv.wp ?_ hk
      unfold Giv
      rw [load_pol _ _ _ _ _ _ _ _ _ _ _ _ _ _ _ _ _ gp v (Blk.keep HP.out hC) A f3 _ rfl]
      exact giv_val (Below.refl _ _) rfl
    · have f50 : A.tmps[50]?.getD undef = .agg #[.slice none 0 0, .slice none 0 0, .slice none 0 0, .slice none 0 0, .slice none 0 0, .slice none 0 0, .slice none 0 0, .slice none 0 0, .slice none 0 0, .slice (some ⟨gr, 0, none⟩) 3 3, .slice none 0 0, .slice none 0 0, .slice none 0 0, .slice none 0 0, .slice none 0 0, .slice none 0 0, .slice none 0 0] := fg_some (hF 50) (j := 25) (by kernel_rfl) (by kernel_rfl)
      refine Giv.wp ?_ hk
      unfold Giv
      go_simp
      exact giv_enter ((count_c' _ _ _ _ _ _ _ _ _ _ _ _ _ _ _ _ _ [ra, rb, rc] (by decide) (by rw [ex_M]; decide) v (HRU.out.keep hC)).mono fun e w2 ⟨he, hb⟩ => ⟨_, he, hb, by rw [ex_M]; rfl⟩)
    · have f51 : A.tmps[51]?.getD undef = .int .i64 1 := fg_some (hF 51) (j := 26) (by kernel_rfl) (by kernel_rfl)
      refine Giv.wp ?_ hk
      unfold Giv
      go_simp
      exact giv_val (Below.refl _ _) rfl
    · have f49 : A.tmps[49]?.getD undef = .bool true := fg_some (hF 49) (j := 24) (by kernel_rfl) (by kernel_rfl)
      have f52 : A.tmps[52]?.getD undef = .bool true := fg_some (hF 52) (j := 27) (by kernel_rfl) (by kernel_rfl)
      refine Giv.wp ?_ hk
      unfold Giv
      go_simp
      exact giv_val (Below.refl _ _) rfl
    · have f53 : A.tmps[53]?.getD undef = .bool true := fg_some (hF 53) (j := 28) (by kernel_rfl) (by kernel_rfl)
      refine Giv.wp ?_ hk
      unfold Giv
      go_simp
      exact giv_val (Below.refl _ _) rfl
    · have f4 : A.tmps[4]?.getD undef = .slice (some ⟨gl, 0, none⟩) 4 4 := fg_none (hF 4) (by kernel_rfl)
      refine Giv.wp ?_ hk
      unfold Giv
      go_simp
      exact giv_val (Below.refl _ _) rfl
    · have f55 : A.tmps[55]?.getD undef = .slice (some ⟨gl, 0, none⟩) 4 4 := fg_some (hF 55) (j := 30) (by kernel_rfl) (by kernel_rfl)
      refine Giv.wp ?_ hk
      unfold Giv
      go_simp
      exact giv_enter ((compress_c _ [e1, e2, e3, e4] (by decide) v (HEN.out.keep hC)).mono fun e w2 ⟨v2, S, he, hp, hc, hb⟩ => ⟨v2, he, hb, by rw [hc.eq ex_comp] at hp; exact hp⟩)
    · refine Giv.wp ?_ hk
      unfold Giv
      go_simp
      exact giv_val ((Below.refl _ _).alloc (Nat.le_refl _) _) (int2 v 0 1)
    · have s57 : IntV v (A.tmps[57]?.getD undef) [0, 1] := fg_some (hF 57) (j := 32) (by kernel_rfl) (by kernel_rfl)
      refine Giv.wp ?_ hk
      unfold Giv
      go_simp
      exact giv_enter ((rofv_c v s57 (by decide)).mono fun e w2 ⟨he, hb⟩ => ⟨_, he, hb, rfl⟩)
    · refine Giv.wp ?_ hk
      unfold Giv
      go_simp
      exact giv_val ((Below.refl _ _).alloc (Nat.le_refl _) _) (int2 v 1 2)
    · have s59 : IntV v (A.tmps[59]?.getD undef) [1, 2] := fg_some (hF 59) (j := 34) (by kernel_rfl) (by kernel_rfl)
      refine Giv.wp ?_ hk
      unfold Giv
      go_simp
      exact giv_enter ((rofv_c v s59 (by decide)).mono fun e w2 ⟨he, hb⟩ => ⟨_, he, hb, rfl⟩)
    · have f58 : A.tmps[58]?.getD undef = .agg #[.int .u64 (ofS [0, 1]).a, .int .u64 (ofS [0, 1]).b, .int .u64 (ofS [0, 1]).c, .int .u64 (ofS [0, 1]).d] := fg_some (hF 58) (j := 33) (by kernel_rfl) (by kernel_rfl)
      have f60 : A.tmps[60]?.getD undef = .agg #[.int .u64 (ofS [1, 2]).a, .int .u64 (ofS [1, 2]).b, .int .u64 (ofS [1, 2]).c, .int .u64 (ofS [1, 2]).d] := fg_some (hF 60) (j := 35) (by kernel_rfl) (by kernel_rfl)
      refine Giv.wp ?_ hk
      unfold Giv
      go_simp
      exact giv_val (Below.refl _ _) rfl
    · have f61 : A.tmps[61]?.getD undef = .agg #[.int .i64 rd.k, .int .u64 rd.src.a, .int .u64 rd.src.b, .int .u64 rd.src.c, .int .u64 rd.src.d, .int .u64 rd.tgt.a, .int .u64 rd.tgt.b, .int .u64 rd.tgt.c, .int .u64 rd.tgt.d, .bool rd.self, .int .i64 rd.cl, .int .u32 (vI rd.pm), .int .i64 rd.cd] := fg_some (hF 61) (j := 36) (by kernel_rfl) (by kernel_rfl)
      refine Giv.wp ?_ hk
      unfold Giv
      go_simp
      exact giv_val ((Below.refl _ _).alloc (Nat.le_refl _) _) (Rus.of (L := [rd]) (Blk.new v _ _))
    · have s56 : Rus v (A.tmps[56]?.getD undef) [rd] := fg_some (hF 56) (j := 31) (by kernel_rfl) (by kernel_rfl)
      have s62 : Rus v (A.tmps[62]?.getD undef) [rd] := fg_some (hF 62) (j := 37) (by kernel_rfl) (by kernel_rfl)
      refine Giv.wp ?_ hk
      unfold Giv
      go_simp
      exact giv_enter ((lrules_c _ _ _ _ v s56 s62 (by decide)).mono fun e w2 ⟨he, hb⟩ => ⟨_, he, hb, rfl⟩)
    · have f54 : A.tmps[54]?.getD undef = .bool true := fg_some (hF 54) (j := 29) (by kernel_rfl) (by kernel_rfl)
      have f63 : A.tmps[63]?.getD undef = .bool true := fg_some (hF 63) (j := 38) (by kernel_rfl) (by kernel_rfl)
      refine Giv.wp ?_ hk
      unfold Giv
      go_simp
      exact giv_val (Below.refl _ _) rfl
    · have f64 : A.tmps[64]?.getD undef = .bool true := fg_some (hF 64) (j := 39) (by kernel_rfl) (by kernel_rfl)
      refine Giv.wp ?_ hk
      unfold Giv
      go_simp
      exact giv_val (Below.refl _ _) rfl
    · have f4 : A.tmps[4]?.getD undef = .slice (some ⟨gl, 0, none⟩) 4 4 := fg_none (hF 4) (by kernel_rfl)
      refine Giv.wp ?_ hk
      unfold Giv
      go_simp
      exact giv_val (Below.refl _ _) rfl
    · have f66 : A.tmps[66]?.getD undef = .slice (some ⟨gl, 0, none⟩) 4 4 := fg_some (hF 66) (j := 41) (by kernel_rfl) (by kernel_rfl)
      refine Giv.wp ?_ hk
      unfold Giv
      go_simp
      exact giv_val (Below.refl _ _) rfl
    · have f67 : A.tmps[67]?.getD undef = .pointer (some ⟨gl, 21, none⟩) := fg_some (hF 67) (j := 42) (by kernel_rfl) (by kernel_rfl)
      obtain ⟨d0, d1, d2, d3, d4, d5, d6⟩ := HE4.out.keep (hC.block gl HGL.out)
      refine Giv.wp ?_ hk
      unfold Giv
      go_simp
      exact giv_val (Below.refl _ _) rfl
    · have f4 : A.tmps[4]?.getD undef = .slice (some ⟨gl, 0, none⟩) 4 4 := fg_none (hF 4) (by kernel_rfl)
      refine Giv.wp ?_ hk
      unfold Giv
      go_simp
      exact giv_val (Below.refl _ _) rfl
    · have f69 : A.tmps[69]?.getD undef = .slice (some ⟨gl, 0, none⟩) 4 4 := fg_some (hF 69) (j := 44) (by kernel_rfl) (by kernel_rfl)
      refine Giv.wp ?_ hk
      unfold Giv
      go_simp
      exact giv_val (Below.refl _ _) rfl
    · have f70 : A.tmps[70]?.getD undef = .pointer (some ⟨gl, 0, none⟩) := fg_some (hF 70) (j := 45) (by kernel_rfl) (by kernel_rfl)
      obtain ⟨d0, d1, d2, d3, d4, d5, d6⟩ := HE1.out.keep (hC.block gl HGL.out)
      refine Giv.wp ?_ hk
      unfold Giv
      go_simp
      exact giv_val (Below.refl _ _) rfl
    · refine Giv.wp ?_ hk
      unfold Giv
      go_simp
      exact giv_val (Below.refl _ _) rfl
    · refine Giv.wp ?_ hk
      unfold Giv
      go_simp
      exact giv_val (Below.refl _ _) rfl
    · have f68 : A.tmps[68]?.getD undef = .agg #[.int .i64 e4.s, .int .i64 e4.t, .int .i64 e4.c, .int .i64 e4.d, .int .u32 (vI e4.a), .int .u32 (vI e4.b), .int .u32 (vI e4.e)] := fg_some (hF 68) (j := 43) (by kernel_rfl) (by kernel_rfl)
      have f71 : A.tmps[71]?.getD undef = .agg #[.int .i64 e1.s, .int .i64 e1.t, .int .i64 e1.c, .int .i64 e1.d, .int .u32 (vI e1.a), .int .u32 (vI e1.b), .int .u32 (vI e1.e)] := fg_some (hF 71) (j := 46) (by kernel_rfl) (by kernel_rfl)
      have f72 : A.tmps[72]?.getD undef = .agg #[.int .i64 e7.s, .int .i64 e7.t, .int .i64 e7.c, .int .i64 e7.d, .int .u32 (vI e7.a), .int .u32 (vI e7.b), .int .u32 (vI e7.e)] := fg_some (hF 72) (j := 47) (by kernel_rfl) (by kernel_rfl)
      have f73 : A.tmps[73]?.getD undef = .agg #[.int .i64 e8.s, .int .i64 e8.t, .int .i64 e8.c, .int .i64 e8.d, .int .u32 (vI e8.a), .int .u32 (vI e8.b), .int .u32 (vI e8.e)] := fg_some (hF 73) (j := 48) (by kernel_rfl) (by kernel_rfl)
      refine Giv.wp ?_ hk
      unfold Giv
      go_simp
      exact giv_val ((Below.refl _ _).alloc (Nat.le_refl _) _) (Ents.of (L := [e4, e1, e7, e8]) (Blk.new v _ _))
    · have s74 : Ents v (A.tmps[74]?.getD undef) [e4, e1, e7, e8] := fg_some (hF 74) (j := 49) (by kernel_rfl) (by kernel_rfl)
      refine Giv.wp ?_ hk
      unfold Giv
      go_simp
      exact giv_enter ((merge_c _ [e4, e1, e7, e8] (by decide) v s74).mono fun e w2 ⟨v2, he, hp, hb⟩ => ⟨v2, he, hb, by rw [ex_merge] at hp; exact hp⟩)
    · refine Giv.wp ?_ hk
      unfold Giv
      go_simp
      exact giv_val (Below.refl _ _) rfl
    · have f4 : A.tmps[4]?.getD undef = .slice (some ⟨gl, 0, none⟩) 4 4 := fg_none (hF 4) (by kernel_rfl)
      refine Giv.wp ?_ hk
      unfold Giv
      go_simp
      exact giv_val (Below.refl _ _) rfl
    · have f77 : A.tmps[77]?.getD undef = .slice (some ⟨gl, 0, none⟩) 4 4 := fg_some (hF 77) (j := 52) (by kernel_rfl) (by kernel_rfl)
      refine Giv.wp ?_ hk
      unfold Giv
      go_simp
      exact giv_val (Below.refl _ _) rfl
    · have f78 : A.tmps[78]?.getD undef = .pointer (some ⟨gl, 21, none⟩) := fg_some (hF 78) (j := 53) (by kernel_rfl) (by kernel_rfl)
      obtain ⟨d0, d1, d2, d3, d4, d5, d6⟩ := HE4.out.keep (hC.block gl HGL.out)
      refine Giv.wp ?_ hk
      unfold Giv
      go_simp
      exact giv_val (Below.refl _ _) rfl
    · have f76 : A.tmps[76]?.getD undef = .agg #[.int .i64 e9.s, .int .i64 e9.t, .int .i64 e9.c, .int .i64 e9.d, .int .u32 (vI e9.a), .int .u32 (vI e9.b), .int .u32 (vI e9.e)] := fg_some (hF 76) (j := 51) (by kernel_rfl) (by kernel_rfl)
      have f79 : A.tmps[79]?.getD undef = .agg #[.int .i64 e4.s, .int .i64 e4.t, .int .i64 e4.c, .int .i64 e4.d, .int .u32 (vI e4.a), .int .u32 (vI e4.b), .int .u32 (vI e4.e)] := fg_some (hF 79) (j := 54) (by kernel_rfl) (by kernel_rfl)
      refine Giv.wp ?_ hk
      unfold Giv
      go_simp
      exact giv_val ((Below.refl _ _).alloc (Nat.le_refl _) _) (Ents.of (L := [e9, e4]) (Blk.new v _ _))
    · have s75 : Ents v (A.tmps[75]?.getD undef) [e9, e4] := fg_some (hF 75) (j := 50) (by kernel_rfl) (by kernel_rfl)
      have s80 : Ents v (A.tmps[80]?.getD undef) [e9, e4] := fg_some (hF 80) (j := 55) (by kernel_rfl) (by kernel_rfl)
      refine Giv.wp ?_ hk
      unfold Giv
      go_simp
      exact giv_enter ((rsame_c _ _ _ _ v s75 s80 (by decide)).mono fun e w2 ⟨he, hb⟩ => ⟨_, he, hb, rfl⟩)
    · have f65 : A.tmps[65]?.getD undef = .bool true := fg_some (hF 65) (j := 40) (by kernel_rfl) (by kernel_rfl)
      have f81 : A.tmps[81]?.getD undef = .bool true := fg_some (hF 81) (j := 56) (by kernel_rfl) (by kernel_rfl)
      refine Giv.wp ?_ hk
      unfold Giv
      go_simp
      exact giv_val (Below.refl _ _) rfl
    · have f82 : A.tmps[82]?.getD undef = .bool true := fg_some (hF 82) (j := 57) (by kernel_rfl) (by kernel_rfl)
      refine Giv.wp ?_ hk
      unfold Giv
      go_simp
      exact giv_val (Below.refl _ _) rfl
  intro a W5 d hd hC hsz hdf hF hW
  have ha := end_gen [true, false, false, false, false, false, false, false, false, false, false, false, false, false, false, false, false, false, false, false, false, false, false, false, false, true, true, true, true, true, true, true, true, true, true, true, true, true, true, true, true, true, true, true, true, true, true, true, true, true, true, true, true, true, true, true, true, true, true, true, true, true, true, true, true, true, true, true, true, true, true, true, true, true, true, true, true, true, true, true, true, true, true] hsz hdf hF (by kernel_rfl)
  have f0 : a.tmps[0]?.getD undef = .bool true := fe_some (hF 0) (j := 58) (by kernel_rfl)
  rw [ha]
  clear ha hF hW
  simp only [cutM_yes, cutM_no, cutM_nil, Nat.reduceAdd]
  rw [f0]
  have HBE := Lib.hid (HB4.out.trans (hC.mono HB4.out.size))
  clear hC
  go_wp2_with fail
  go_ret
  exact ⟨rfl, HBE.out⟩
end Go.Proofs.Ytjikbffnhfoikaa
/- The reference's Merge. -/
namespace Go.Proofs.Ytjikbffnhfoikaa
open Go.RowKit Go.Sort Go.Maps
set_option maxRecDepth 100000 in
theorem rmerge_c (v : Value) (L : List E) (hl : L.length ≤ 100000) (w : World) (hE : Ents w v L) :
    Calls Try.prog 20 #[v] w fun e w' => ∃ v', e = .returned v' ∧ Ents w' v' (M L) ∧ Below w.heap.size w w' := by
  have HE := Lib.hid hE
  obtain ⟨ao, cap, rfl, -⟩ := hE
  go_enter Try.func20, Try.ntmps20
  go_wp2_with (go_at_call 32; refine (runion_c _ L hl _ HE.out).mono ?_; rintro e w4 ⟨v4, rfl, hS, hb4⟩; have HS := Lib.hid hS; have HB4 := Lib.hid hb4)
  go_ret
  exact ⟨_, rfl, HS.out, HB4.out⟩
end Go.Proofs.Ytjikbffnhfoikaa
/- What the rows of the expand laws need: the program's own facts, and what entries, rules and policies that are handed in are. -/
namespace Go.Proofs.Ytjikbffnhfoikaa
open Go.ChangeShapes Go.WideShapes Go.ChangeAt Go.RowKit
theorem Try.own : ownKnob Try.prog.godebug = none := by kernel_rfl
theorem Try.cellsInt : Try.prog.cellsOf 3 = 1 := by kernel_rfl
theorem Try.cellsU32 : Try.prog.cellsOf 25 = 1 := by kernel_rfl
theorem Try.cellsBool : Try.prog.cellsOf 4 = 1 := by kernel_rfl
theorem Try.cellsWord : Try.prog.cellsOf 22 = 1 := by kernel_rfl
theorem Try.cellsEntry : Try.prog.cellsOf 61 = 7 := by kernel_rfl
theorem Try.cellsSet : Try.prog.cellsOf 24 = 4 := by kernel_rfl
theorem Try.cellsRule : Try.prog.cellsOf 27 = 13 := by kernel_rfl
theorem Try.cellsPol : Try.prog.cellsOf 50 = 17 := by kernel_rfl
theorem Try.cellsRus : Try.prog.cellsOf 41 = 1 := by kernel_rfl
theorem list7 {α : Type} (l : List α) (h : l.length = 7) : ∃ a b c d e f g, l = [a, b, c, d, e, f, g] := by
  match l, h with
  | [a, b, c, d, e, f, g], _ => exact ⟨a, b, c, d, e, f, g, rfl⟩
theorem list4 {α : Type} (l : List α) (h : l.length = 4) : ∃ a b c d, l = [a, b, c, d] := by
  match l, h with
  | [a, b, c, d], _ => exact ⟨a, b, c, d, rfl⟩
theorem list13 {α : Type} (l : List α) (h : l.length = 13) : ∃ a b c d e f g a' b' c' d' e' f', l = [a, b, c, d, e, f, g, a', b', c', d', e', f'] := by
  match l, h with
  | [a, b, c, d, e, f, g, a', b', c', d', e', f'], _ => exact ⟨a, b, c, d, e, f, g, a', b', c', d', e', f', rfl⟩
theorem list17 {α : Type} (l : List α) (h : l.length = 17) : ∃ a b c d e f g a' b' c' d' e' f' g' a2 b2 c2, l = [a, b, c, d, e, f, g, a', b', c', d', e', f', g', a2, b2, c2] := by
  match l, h with
  | [a, b, c, d, e, f, g, a', b', c', d', e', f', g', a2, b2, c2], _ => exact ⟨a, b, c, d, e, f, g, a', b', c', d', e', f', g', a2, b2, c2, rfl⟩
theorem u64_of_wf {x : Int} (h : (Lit.int .u64 x).wf = true) : U64 x := by
  have := bounds_u64 h
  exact ⟨this.1, this.2⟩
theorem u32_vI {x : Int} (h : (Lit.int .u32 x).wf = true) : ∃ b : BitVec 32, x = vI b := by
  have := bounds_u32 h
  refine ⟨BitVec.ofNat 32 x.toNat, ?_⟩
  unfold vI
  rw [BitVec.toNat_ofNat]
  omega
theorem choose_ltE {α : Type} [Inhabited α] {len : Nat} {p : Nat → α → Prop} (h : ∀ i, i < len → ∃ x, p i x) : ∃ V : Nat → α, ∀ i, i < len → p i (V i) := by
  classical
  exact ⟨fun i => if hi : i < len then (h i hi).choose else default, fun i hi => by simp only [hi, dif_pos]; exact (h i hi).choose_spec⟩
instance : Inhabited E := ⟨⟨0, 0, 0, 0, 0#32, 0#32, 0#32, by decide⟩⟩
instance : Inhabited Ru := ⟨⟨0, S4.zero, S4.zero, false, 0, 0#32, 0, ⟨by decide, by decide, by decide, U_zero, U_zero⟩⟩⟩
theorem addr_some {b o : Nat} (j : Nat) : (⟨b, o, none⟩ : Addr).add j = ⟨b, o + j, none⟩ := by unfold Addr.add; split <;> simp_all
theorem trod_struct7' {H : Type} {enc : TypeId × Value → H} {P : Program} {w : World} {base : Nat} {spare : Nat → Bool} {held : Bool} {t : TypeId} {f0 f1 f2 f3 f4 f5 f6 : Field} {fuel : Nat} {cs : List Value} {x : DataW H × List MemPlace} (ht : P.underlying t = some (.struct #[f0, f1, f2, f3, f4, f5, f6])) (h : DataW.trod enc P w base spare held fuel t cs = some x) :
    ∃ y0 y1 y2 y3 y4 y5 y6 n, cs.length = P.cellsOf t ∧ DataW.trod enc P w base spare held n f0.type ((cs.drop f0.offset).take (P.cellsOf f0.type)) = some y0 ∧ DataW.trod enc P w base spare held n f1.type ((cs.drop f1.offset).take (P.cellsOf f1.type)) = some y1 ∧ DataW.trod enc P w base spare held n f2.type ((cs.drop f2.offset).take (P.cellsOf f2.type)) = some y2 ∧ DataW.trod enc P w base spare held n f3.type ((cs.drop f3.offset).take (P.cellsOf f3.type)) = some y3 ∧ DataW.trod enc P w base spare held n f4.type ((cs.drop f4.offset).take (P.cellsOf f4.type)) = some y4 ∧ DataW.trod enc P w base spare held n f5.type ((cs.drop f5.offset).take (P.cellsOf f5.type)) = some y5 ∧ DataW.trod enc P w base spare held n f6.type ((cs.drop f6.offset).take (P.cellsOf f6.type)) = some y6 := by
  obtain ⟨xs, n, _, rfl, hl, hlen, hf⟩ := DataW.trod_struct ht h
  match xs, hlen with
  | [y0, y1, y2, y3, y4, y5, y6], _ => exact ⟨y0, y1, y2, y3, y4, y5, y6, n, hl, by simpa using hf 0 f0 rfl, by simpa using hf 1 f1 rfl, by simpa using hf 2 f2 rfl, by simpa using hf 3 f3 rfl, by simpa using hf 4 f4 rfl, by simpa using hf 5 f5 rfl, by simpa using hf 6 f6 rfl⟩
section
variable {H : Type} {enc : TypeId × Value → H} {W : World} {base : Nat} {sp : Nat → Bool} {held : Bool} {n : Nat} {x : DataW H × List MemPlace}
theorem trod_entry {cs : List Value} (h : DataW.trod enc Try.prog W base sp held n 61 cs = some x) : ∃ y : E, cs = cellsE y := by
  obtain ⟨y0, y1, y2, y3, y4, y5, y6, m, hl, h0, h1, h2, h3, h4, h5, h6⟩ := trod_struct7' Try.underlying61 h
  rw [Try.cellsEntry] at hl
  obtain ⟨c0, c1, c2, c3, c4, c5, c6, rfl⟩ := list7 cs hl
  simp [Try.cellsInt, Try.cellsU32] at h0 h1 h2 h3 h4 h5 h6
  obtain ⟨x0, e0, rfl, w0⟩ := DataW.trod_int Try.underlying3 h0
  obtain ⟨x1, e1, rfl, w1⟩ := DataW.trod_int Try.underlying3 h1
  obtain ⟨x2, e2, rfl, w2⟩ := DataW.trod_int Try.underlying3 h2
  obtain ⟨x3, e3, rfl, w3⟩ := DataW.trod_int Try.underlying3 h3
  obtain ⟨x4, e4, rfl, w4⟩ := DataW.trod_int Try.underlying25 h4
  obtain ⟨x5, e5, rfl, w5⟩ := DataW.trod_int Try.underlying25 h5
  obtain ⟨x6, e6, rfl, w6⟩ := DataW.trod_int Try.underlying25 h6
  simp at e0 e1 e2 e3 e4 e5 e6
  subst e0 e1 e2 e3 e4 e5 e6
  obtain ⟨b4, rfl⟩ := u32_vI w4
  obtain ⟨b5, rfl⟩ := u32_vI w5
  obtain ⟨b6, rfl⟩ := u32_vI w6
  exact ⟨⟨x0, x1, x2, x3, b4, b5, b6, bounds_i64 w0, bounds_i64 w1, bounds_i64 w2, bounds_i64 w3⟩, rfl⟩
theorem trod_set {cs : List Value} (hl : cs.length = 4) (h : DataW.trod enc Try.prog W base sp held n 24 cs = some x) : ∃ s : S4, cs = [.int .u64 s.a, .int .u64 s.b, .int .u64 s.c, .int .u64 s.d] ∧ s.U := by
  obtain ⟨c0, c1, c2, c3, rfl⟩ := list4 cs hl
  obtain ⟨y0, y1, y2, y3, m, hx, hy0, hy1, hy2, hy3⟩ := trod_array4 Try.underlying24 Try.cellsWord h
  obtain ⟨x0, e0, rfl, w0⟩ := DataW.trod_int Try.underlying22 hy0
  obtain ⟨x1, e1, rfl, w1⟩ := DataW.trod_int Try.underlying22 hy1
  obtain ⟨x2, e2, rfl, w2⟩ := DataW.trod_int Try.underlying22 hy2
  obtain ⟨x3, e3, rfl, w3⟩ := DataW.trod_int Try.underlying22 hy3
  simp at e0 e1 e2 e3
  subst e0 e1 e2 e3
  exact ⟨⟨x0, x1, x2, x3⟩, rfl, ⟨u64_of_wf w0, u64_of_wf w1, u64_of_wf w2, u64_of_wf w3⟩⟩
theorem trod_rule {cs : List Value} (h : DataW.trod enc Try.prog W base sp held n 27 cs = some x) : ∃ y : Ru, cs = cellsR y := by
  obtain ⟨y0, y1, y2, y3, y4, y5, y6, m, hl, h0, h1, h2, h3, h4, h5, h6⟩ := trod_struct7' Try.underlying27 h
  rw [Try.cellsRule] at hl
  obtain ⟨c0, c1, c2, c3, c4, c5, c6, c7, c8, c9, c10, c11, c12, rfl⟩ := list13 cs hl
  simp [Try.cellsInt, Try.cellsU32, Try.cellsBool, Try.cellsSet] at h0 h1 h2 h3 h4 h5 h6
  obtain ⟨x0, e0, rfl, w0⟩ := DataW.trod_int Try.underlying3 h0
  obtain ⟨S, e1, U1⟩ := trod_set rfl h1
  obtain ⟨T, e2, U2⟩ := trod_set rfl h2
  obtain ⟨b3, e3, _⟩ := DataW.trod_bool Try.underlying4 h3
  obtain ⟨x4, e4, rfl, w4⟩ := DataW.trod_int Try.underlying3 h4
  obtain ⟨x5, e5, rfl, w5⟩ := DataW.trod_int Try.underlying25 h5
  obtain ⟨x6, e6, rfl, w6⟩ := DataW.trod_int Try.underlying3 h6
  simp at e0 e1 e2 e3 e4 e5 e6
  obtain ⟨rfl, rfl, rfl, rfl⟩ := e1
  obtain ⟨rfl, rfl, rfl, rfl⟩ := e2
  subst e0 e3 e4 e5 e6
  obtain ⟨b5, rfl⟩ := u32_vI w5
  exact ⟨⟨x0, S, T, b3, x4, b5, x6, ⟨bounds_i64 w0, bounds_i64 w4, bounds_i64 w6, U1, U2⟩⟩, rfl⟩
set_option maxRecDepth 100000 in
theorem trod_ents {cs : List Value} (h : DataW.trod enc Try.prog W base sp held n 52 cs = some x) : ∃ (v : Value) (L : List E), cs = [v] ∧ Ents W v L ∧ L.length ≤ maxLen := by
  rcases Go.Deep.open_slice Try.underlying52 h with ⟨hcs, _⟩ | ⟨a, len, cap, m, k, D, Pl, hcs, _, hl, hm, hmm, _, hx⟩
  · exact ⟨_, [], hcs, Ents.nil, Nat.zero_le _⟩
  · have hlm : len ≤ m := by rw [hmm]; split <;> omega
    have each : ∀ i, i < len → ∃ y : E, ∃ b o, a = ⟨b, o, none⟩ ∧ At7 W b (o + i * 7) y := by
      intro i hi
      obtain ⟨cs', h1, h2⟩ := hx i (by omega)
      obtain ⟨y, rfl⟩ := trod_entry h2
      rw [Try.cellsEntry] at h1
      obtain ⟨_, _, hcell⟩ := World.cells?_some h1
      obtain ⟨cs0, h10, h20⟩ := hx 0 (by omega)
      obtain ⟨y0, rfl⟩ := trod_entry h20
      rw [Try.cellsEntry] at h10
      obtain ⟨_, _, hcell0⟩ := World.cells?_some h10
      obtain ⟨b, o, spot⟩ := a
      have g0 := hcell 0 (by omega)
      have g1 := hcell 1 (by omega)
      have g2 := hcell 2 (by omega)
      have g3 := hcell 3 (by omega)
      have g4 := hcell 4 (by omega)
      have g5 := hcell 5 (by omega)
      have g6 := hcell 6 (by omega)
      rw [Go.Deep.add_add] at g0 g1 g2 g3 g4 g5 g6
      have hspot : spot = none := by
        have g : W.cell? (((⟨b, o, spot⟩ : Addr).add (0 * 7)).add 0) = some (.int .i64 y0.s) := by simpa [cellsE] using hcell0 0 (by omega)
        simpa [Addr.add] using World.cell?_spot g
      subst hspot
      rw [addr_some] at g0 g1 g2 g3 g4 g5 g6
      exact ⟨y, b, o, rfl, by simpa [cellsE] using g0, by simpa [cellsE, Nat.add_assoc] using g1, by simpa [cellsE, Nat.add_assoc] using g2, by simpa [cellsE, Nat.add_assoc] using g3, by simpa [cellsE, Nat.add_assoc] using g4, by simpa [cellsE, Nat.add_assoc] using g5, by simpa [cellsE, Nat.add_assoc] using g6⟩
    obtain ⟨V, hV⟩ := choose_ltE each
    refine ⟨_, (List.range len).map V, hcs, ⟨some a, cap, by simp, by simp; omega, fun hne => ?_⟩, by simp; omega⟩
    have h0 : 0 < len := by
      rcases Nat.eq_zero_or_pos len with e | e
      · subst e; simp at hne
      · exact e
    obtain ⟨b, o, rfl, _⟩ := hV 0 h0
    refine ⟨b, o, rfl, fun i y hi => ?_⟩
    rw [List.getElem?_map] at hi
    rcases Nat.lt_or_ge i len with hil | hil
    · rw [List.getElem?_range hil] at hi
      simp only [Option.map_some, Option.some.injEq] at hi
      subst hi
      obtain ⟨b', o', hbo, hc⟩ := hV i hil
      cases hbo
      exact hc
    · rw [List.getElem?_eq_none (by simpa using hil)] at hi
      simp at hi
set_option maxRecDepth 100000 in
theorem trod_rus {cs : List Value} (h : DataW.trod enc Try.prog W base sp held n 41 cs = some x) : ∃ (v : Value) (L : List Ru), cs = [v] ∧ Rus W v L ∧ L.length ≤ maxLen := by
  rcases Go.Deep.open_slice Try.underlying41 h with ⟨hcs, _⟩ | ⟨a, len, cap, m, k, D, Pl, hcs, _, hl, hm, hmm, _, hx⟩
  · exact ⟨_, [], hcs, Rus.nil, Nat.zero_le _⟩
  · have hlm : len ≤ m := by rw [hmm]; split <;> omega
    have each : ∀ i, i < len → ∃ y : Ru, ∃ b o, a = ⟨b, o, none⟩ ∧ AtR W b (o + i * 13) y := by
      intro i hi
      obtain ⟨cs', h1, h2⟩ := hx i (by omega)
      obtain ⟨y, rfl⟩ := trod_rule h2
      rw [Try.cellsRule] at h1
      obtain ⟨_, _, hcell⟩ := World.cells?_some h1
      obtain ⟨cs0, h10, h20⟩ := hx 0 (by omega)
      obtain ⟨y0, rfl⟩ := trod_rule h20
      rw [Try.cellsRule] at h10
      obtain ⟨_, _, hcell0⟩ := World.cells?_some h10
      obtain ⟨b, o, spot⟩ := a
      have hspot : spot = none := by
        have g : W.cell? (((⟨b, o, spot⟩ : Addr).add (0 * 13)).add 0) = some (.int .i64 y0.k) := by simpa [cellsR] using hcell0 0 (by omega)
        simpa [Addr.add] using World.cell?_spot g
      subst hspot
      refine ⟨y, b, o, rfl, fun k hk => ?_⟩
      have g := hcell k (by omega)
      rw [Go.Deep.add_add, addr_some] at g
      rw [show o + i * 13 + k = o + (i * 13 + k) by omega, g]
    obtain ⟨V, hV⟩ := choose_ltE each
    refine ⟨_, (List.range len).map V, hcs, ⟨some a, cap, by simp, by simp; omega, fun hne => ?_⟩, by simp; omega⟩
    have h0 : 0 < len := by
      rcases Nat.eq_zero_or_pos len with e | e
      · subst e; simp at hne
      · exact e
    obtain ⟨b, o, rfl, _⟩ := hV 0 h0
    refine ⟨b, o, rfl, fun i y hi => ?_⟩
    rw [List.getElem?_map] at hi
    rcases Nat.lt_or_ge i len with hil | hil
    · rw [List.getElem?_range hil] at hi
      simp only [Option.map_some, Option.some.injEq] at hi
      subst hi
      obtain ⟨b', o', hbo, hc⟩ := hV i hil
      cases hbo
      exact hc
    · rw [List.getElem?_eq_none (by simpa using hil)] at hi
      simp at hi
end
section
variable {H : Type} {enc : TypeId × Value → H} {W : World} {base : Nat} {v : Value} {d : DataW H} {p : List MemPlace}
set_option maxRecDepth 100000 in
theorem open_ents (hok : Value.okWide Try.prog W .any base 52 v) (h : DataW.Trod enc Try.prog W 0 (fun _ => true) true 52 v d p) : ∃ L : List E, Ents W v L ∧ L.length ≤ maxLen := by
  obtain ⟨a0, len0, cap0, rfl⟩ := okWide_slice Try.underlying52 hok
  obtain ⟨fuel, hf⟩ := h
  obtain ⟨v1, l, e0, b0, b1⟩ := trod_ents hf
  simp [Value.cells] at e0
  subst e0
  exact ⟨l, b0, b1⟩
set_option maxRecDepth 100000 in
theorem open_rule (hok : Value.okWide Try.prog W .any base 27 v) (h : DataW.Trod enc Try.prog W 0 (fun _ => true) true 27 v d p) : ∃ r : Ru, v = .agg #[.int .i64 r.k, .int .u64 r.src.a, .int .u64 r.src.b, .int .u64 r.src.c, .int .u64 r.src.d, .int .u64 r.tgt.a, .int .u64 r.tgt.b, .int .u64 r.tgt.c, .int .u64 r.tgt.d, .bool r.self, .int .i64 r.cl, .int .u32 (vI r.pm), .int .i64 r.cd] := by
  obtain ⟨⟨cl⟩, rfl, hsz, _⟩ : ∃ cs, v = .agg cs ∧ cs.size = Try.prog.cellsOf 27 ∧ Row.okWide Try.prog W .any base 27 cs := by
    simpa [Value.okWide, Try.underlying27] using hok
  obtain ⟨fuel, hf⟩ := h
  obtain ⟨r, he⟩ := trod_rule hf
  simp [Value.cells] at he
  exact ⟨r, by rw [he]; rfl⟩
set_option maxRecDepth 100000 in
theorem open_policy (hok : Value.okWide Try.prog W .any base 50 v) (h : DataW.Trod enc Try.prog W 0 (fun _ => true) true 50 v d p) :
    ∃ u0 u1 u2 u3 u4 u5 u6 u7 u8 u9 u10 u11 u12 u13 u14 u15 u16, ∃ L : List Ru, v = .agg #[u0, u1, u2, u3, u4, u5, u6, u7, u8, u9, u10, u11, u12, u13, u14, u15, u16] ∧ Rus W u9 L ∧ L.length ≤ maxLen := by
  obtain ⟨⟨cl⟩, rfl, hsz, _⟩ : ∃ cs, v = .agg cs ∧ cs.size = Try.prog.cellsOf 50 ∧ Row.okWide Try.prog W .any base 50 cs := by
    simpa [Value.okWide, Try.underlying50] using hok
  rw [Try.cellsPol] at hsz
  obtain ⟨c0, c1, c2, c3, c4, c5, c6, c7, c8, c9, c10, c11, c12, c13, c14, c15, c16, rfl⟩ := list17 cl hsz
  obtain ⟨fuel, hf⟩ := h
  obtain ⟨xs, n, _, _, hl, hlen, hx⟩ := DataW.trod_struct Try.underlying50 hf
  have h9 := hx 9 _ rfl
  simp [Value.cells, Try.cellsRus] at h9
  rw [List.getElem?_eq_getElem (show 9 < xs.length by rw [hlen]; decide)] at h9
  obtain ⟨v9, L, e9, hR, hlL⟩ := trod_rus h9
  simp at e9
  subst e9
  exact ⟨c0, c1, c2, c3, c4, c5, c6, c7, c8, _, c10, c11, c12, c13, c14, c15, c16, L, rfl, hR, hlL⟩
end
end Go.Proofs.Ytjikbffnhfoikaa
