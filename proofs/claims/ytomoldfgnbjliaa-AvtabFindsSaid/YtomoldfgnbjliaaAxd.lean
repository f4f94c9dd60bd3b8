/- The reference's Same; the laws' large. -/
import Derived.Test.YtomoldfgnbjliaaAxa
import Derived.Laws.StructEq
namespace Go.Proofs.Ytomoldfgnbjliaa
open Go.RowKit Go.Sort Go.Shelf
set_option maxRecDepth 100000 in
theorem neqE_same (x : E) (w : World) : (binOp .neq 39 (.agg #[.int .i64 x.s, .int .i64 x.t, .int .i64 x.c, .int .i64 x.d, .int .u32 (vI x.a), .int .u32 (vI x.b), .int .u32 (vI x.e)]) (.agg #[.int .i64 x.s, .int .i64 x.t, .int .i64 x.c, .int .i64 x.d, .int .u32 (vI x.a), .int .u32 (vI x.b), .int .u32 (vI x.e)])).run Try.prog w = .ok (.bool false) w := by
  go_simp
theorem ibeq_no {a b : Int} (h : a ≠ b) : (a == b) = false := by simpa using h
theorem vbeq_no {a b : BitVec 32} (h : a ≠ b) : (vI a == vI b) = false := by
  have : vI a ≠ vI b := fun e => h (vI_inj e)
  simpa using this
set_option maxRecDepth 100000 in
theorem neqE_diff (x y : E) (h : x ≠ y) (w : World) : (binOp .neq 39 (.agg #[.int .i64 x.s, .int .i64 x.t, .int .i64 x.c, .int .i64 x.d, .int .u32 (vI x.a), .int .u32 (vI x.b), .int .u32 (vI x.e)]) (.agg #[.int .i64 y.s, .int .i64 y.t, .int .i64 y.c, .int .i64 y.d, .int .u32 (vI y.a), .int .u32 (vI y.b), .int .u32 (vI y.e)])).run Try.prog w = .ok (.bool true) w := by
  obtain ⟨s, t, c, d, a, b, e, wf⟩ := x
  obtain ⟨s', t', c', d', a', b', e', wf'⟩ := y
  by_cases h1 : s = s'
  · subst h1
    by_cases h2 : t = t'
    · subst h2
      by_cases h3 : c = c'
      · subst h3
        by_cases h4 : d = d'
        · subst h4
          by_cases h5 : a = a'
          · subst h5
            by_cases h6 : b = b'
            · subst h6
              by_cases h7 : e = e'
              · subst h7; exact absurd rfl h
              · have q := vbeq_no h7
                go_simp
            · have q := vbeq_no h6
              go_simp
          · have q := vbeq_no h5
            go_simp
        · have q := ibeq_no h4
          go_simp
      · have q := ibeq_no h3
        go_simp
    · have q := ibeq_no h2
      go_simp
  · have q := ibeq_no h1
    go_simp
set_option maxRecDepth 100000 in
theorem large_c (a b q : Option Addr) (n m k c1 c2 c3 : Nat) (w : World) : Calls Try.prog 8 #[.slice a n c1, .slice b m c2, .slice q k c3] w fun e w' => e = .returned (.bool (decide (300 < n ∨ 100 < m ∨ 20 < k))) ∧ w = w' := by
  by_cases h1 : 300 < n
  · have j1 : (300 : Int) < (n : Int) := by omega
    rw [decide_eq_true (p := 300 < n ∨ 100 < m ∨ 20 < k) (.inl h1)]
    go_enter Try.func8, Try.ntmps8
    go_wp2_with fail
    go_ret
    exact ⟨rfl, rfl⟩
  · have j1 : decide ((300 : Int) < (n : Int)) = false := decide_eq_false (by omega)
    have k1 : decide (300 < n) = false := decide_eq_false h1
    by_cases h2 : 100 < m
    · have j2 : (100 : Int) < (m : Int) := by omega
      rw [decide_eq_true (p := 300 < n ∨ 100 < m ∨ 20 < k) (.inr (.inl h2))]
      go_enter Try.func8, Try.ntmps8
      go_wp2_with fail
      go_ret
      exact ⟨rfl, rfl⟩
    · have j2 : decide ((100 : Int) < (m : Int)) = false := decide_eq_false (by omega)
      have k2 : decide (100 < m) = false := decide_eq_false h2
      by_cases h3 : 20 < k
      · have j3 : (20 : Int) < (k : Int) := by omega
        rw [decide_eq_true (p := 300 < n ∨ 100 < m ∨ 20 < k) (.inr (.inr h3))]
        go_enter Try.func8, Try.ntmps8
        go_wp2_with fail
        go_ret
        exact ⟨rfl, rfl⟩
      · have j3 : decide ((20 : Int) < (k : Int)) = false := decide_eq_false (by omega)
        have k3 : decide (20 < k) = false := decide_eq_false h3
        rw [decide_eq_false (p := 300 < n ∨ 100 < m ∨ 20 < k) (by omega)]
        go_enter Try.func8, Try.ntmps8
        go_wp2_with fail
        go_ret
        exact ⟨rfl, rfl⟩
theorem listE_ne {a b : List E} {k : Nat} (ha : k < a.length) (hb : k < b.length) (h : a[k] ≠ b[k]) : decide (a = b) = false := by
  refine decide_eq_false fun e => h ?_
  subst e
  rfl
theorem listE_eq {a b : List E} (hl : a.length = b.length) (h : ∀ i (ha : i < a.length) (hb : i < b.length), a[i] = b[i]) : a = b := List.ext_getElem hl h
set_option maxRecDepth 100000 in
set_option maxHeartbeats 2000000 in
theorem same_c (va vb : Value) (a b : List E) (w : World) (ha0 : Ents w va a) (hb0 : Ents w vb b) (hma : a.length ≤ 10000) :
    Calls Try.prog 16 #[va, vb] w fun e w' => e = .returned (.bool (decide (a = b))) ∧ Below w.heap.size w w' := by
  obtain ⟨A, c, rfl, -, ha1⟩ := ha0
  obtain ⟨B, c', rfl, -, hb1⟩ := hb0
  have ha : ∀ k, (h : k < a.length) → ∃ g o, A = some ⟨g, o, none⟩ ∧ At7 w g (o + k * 7) a[k] := fun k h => by
    obtain ⟨g, o, e, q⟩ := ha1 (List.ne_nil_of_length_pos (by omega))
    exact ⟨g, o, e, q.at h⟩
  have hb : ∀ k, (h : k < b.length) → ∃ g o, B = some ⟨g, o, none⟩ ∧ At7 w g (o + k * 7) b[k] := fun k h => by
    obtain ⟨g, o, e, q⟩ := hb1 (List.ne_nil_of_length_pos (by omega))
    exact ⟨g, o, e, q.at h⟩
  clear ha1 hb1
  by_cases hl : a.length = b.length
  · have hd : ((a.length : Int) != (b.length : Int)) = false := by simp [hl]
    have HL := Lib.hid hl
    clear hl
    go_enter Try.func16, Try.ntmps16
    go_wp2
    go_loopw [5] (fun i wr => ∃ k : Nat, k ≤ a.length ∧ i = .int .i64 k ∧ (∀ j (h1 : j < a.length) (h2 : j < b.length), j < k → a[j] = b[j]) ∧ Below w.heap.size w wr)
      (fun i _ => a.length - (intOf i).toNat)
    case atStart => exact ⟨0, by omega, rfl, fun j _ _ h => absurd h (by omega), Below.refl _ _⟩
    case round =>
      obtain ⟨k, hk, rfl, hp, hbl⟩ := hrel
      have HP := Lib.hid hp
      clear hp
      by_cases hlt : k < a.length
      · have hlb : k < b.length := HL.out ▸ hlt
        obtain ⟨g1, o1, rfl, q1⟩ := ha k hlt
        obtain ⟨g2, o2, rfl, q2⟩ := hb k hlb
        obtain ⟨p, hp⟩ : ∃ p, p = a[k] := ⟨_, rfl⟩
        obtain ⟨q, hq⟩ : ∃ q, q = b[k] := ⟨_, rfl⟩
        rw [← hp] at q1
        rw [← hq] at q2
        obtain ⟨s0, s1, s2, s3, s4, s5, s6⟩ := q1.keep (hbl.block g1 q1.lt)
        obtain ⟨t0, t1, t2, t3, t4, t5, t6⟩ := q2.keep (hbl.block g2 q2.lt)
        clear q1 q2 ha hb
        have j1 : (k : Int) < (a.length : Int) := by omega
        have j2 : (k : Int) < (b.length : Int) := by omega
        have HPp := Lib.hid hp
        have HQq := Lib.hid hq
        clear hp hq
        by_cases he : p = q
        · subst he
          have hne := fun w => neqE_same p w
          go_wp2
          go_quiet (fail)
          go_wp2
          go_roundw
          case rel => exact ⟨k + 1, by omega, by go_num, fun j h1 h2 h3 => by
            rcases Nat.lt_succ_iff_lt_or_eq.1 h3 with h' | h'
            · exact HP.out j h1 h2 h'
            · subst h'; exact HPp.out.symm.trans HQq.out, below_drewN hbl _⟩
          case measure => simp [intOf]; omega
        · have hne := fun w => neqE_diff p q he w
          go_wp2
          go_quiet (fail)
          go_wp2
          go_ret
          exact ⟨ret_bool (listE_ne hlt hlb (by rw [← HPp.out, ← HQq.out]; exact he)).symm, below_drewN hbl _⟩
      · obtain rfl : k = a.length := by omega
        go_wp2
        go_ret
        exact ⟨ret_bool (decide_eq_true (listE_eq HL.out fun i h1 h2 => HP.out i h1 h2 h1)).symm, hbl⟩
  · have hd : ((a.length : Int) != (b.length : Int)) = true := by simp; omega
    have HL := Lib.hid hl
    clear hl
    go_enter Try.func16, Try.ntmps16
    go_wp2
    go_ret
    exact ⟨ret_bool (decide_eq_false fun e => HL.out (by rw [e])).symm, Below.refl _ _⟩
end Go.Proofs.Ytomoldfgnbjliaa
