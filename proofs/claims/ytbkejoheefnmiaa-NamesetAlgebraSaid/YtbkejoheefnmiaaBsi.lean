/- Contracts of Count, Least and List of package bitset and of its reference, and of the reference's Ints. Condition: words are uint64s. -/
import Derived.Test.YtbkejoheefnmiaaBsg
namespace Go.Proofs.Ytbkejoheefnmiaa
open Go.RowKit
def onesI (x0 x1 x2 x3 : Int) : Int := (pc 64 x0.toNat + pc 64 x1.toNat + pc 64 x2.toNat + pc 64 x3.toNat : Nat)
theorem onesI_le (x0 x1 x2 x3 : Int) : 0 ≤ onesI x0 x1 x2 x3 ∧ onesI x0 x1 x2 x3 ≤ 256 := by
  have := pc_le 64 x0.toNat; have := pc_le 64 x1.toNat; have := pc_le 64 x2.toNat; have := pc_le 64 x3.toNat
  unfold onesI
  omega
def U64 (x : Int) : Prop := 0 ≤ x ∧ x ≤ 18446744073709551615
theorem ret_int {k : IntKind} {a b : Int} (h : a = b) : Ending.returned (.int k a) = .returned (.int k b) := by rw [h]
set_option maxHeartbeats 1000000 in
theorem count_c (x0 x1 x2 x3 : Int) (w : World) (h0 : U64 x0) (h1 : U64 x1) (h2 : U64 x2) (h3 : U64 x3) :
    Calls Try.prog 56 #[.agg #[.int .u64 x0, .int .u64 x1, .int .u64 x2, .int .u64 x3]] w fun e w' => e = .returned (.int .i64 (onesI x0 x1 x2 x3)) ∧ Below w.heap.size w w' := by
  have p0 := pc_le 64 x0.toNat
  have p1 := pc_le 64 x1.toNat
  have p2 := pc_le 64 x2.toNat
  have p3 := pc_le 64 x3.toNat
  have i0 : ∀ w, (Instr.index 35 (.agg #[.int .u64 x0, .int .u64 x1, .int .u64 x2, .int .u64 x3]) (.int .i64 0)).run Try.prog w = .ok (.int .u64 x0) w := fun _ => by kernel_rfl
  have i1 : ∀ w, (Instr.index 35 (.agg #[.int .u64 x0, .int .u64 x1, .int .u64 x2, .int .u64 x3]) (.int .i64 1)).run Try.prog w = .ok (.int .u64 x1) w := fun _ => by kernel_rfl
  have i2 : ∀ w, (Instr.index 35 (.agg #[.int .u64 x0, .int .u64 x1, .int .u64 x2, .int .u64 x3]) (.int .i64 2)).run Try.prog w = .ok (.int .u64 x2) w := fun _ => by kernel_rfl
  have i3 : ∀ w, (Instr.index 35 (.agg #[.int .u64 x0, .int .u64 x1, .int .u64 x2, .int .u64 x3]) (.int .i64 3)).run Try.prog w = .ok (.int .u64 x3) w := fun _ => by kernel_rfl
  go_enter Try.func56, Try.ntmps56
  go_wp2
  refine wp_loop_rounds 5 ?_
  rw [rounds_succ]; go_wp2_with (go_at_call 61; refine (ones_c _ _ h0.1 h0.2).mono ?_; rintro e w' ⟨rfl, rfl⟩)
  rw [rounds_succ]; go_wp2_with (go_at_call 61; refine (ones_c _ _ h1.1 h1.2).mono ?_; rintro e w' ⟨rfl, rfl⟩)
  rw [rounds_succ]; go_wp2_with (go_at_call 61; refine (ones_c _ _ h2.1 h2.2).mono ?_; rintro e w' ⟨rfl, rfl⟩)
  rw [rounds_succ]; go_wp2_with (go_at_call 61; refine (ones_c _ _ h3.1 h3.2).mono ?_; rintro e w' ⟨rfl, rfl⟩)
  rw [rounds_succ]
  go_wp2
  go_ret
  exact ⟨ret_int (by unfold onesI; simp), (Below.refl _ _).alloc (Nat.le_refl _) _⟩

/-- no number below k is in the set -/
def NoneBelow (x0 x1 x2 x3 : Int) (k : Nat) : Prop := ∀ j : Nat, j < k → hasB x0 x1 x2 x3 j = false
def IsLeast (x0 x1 x2 x3 m : Int) : Prop := (m = -1 ∧ NoneBelow x0 x1 x2 x3 256) ∨ ∃ k : Nat, k < 256 ∧ m = k ∧ hasB x0 x1 x2 x3 k = true ∧ NoneBelow x0 x1 x2 x3 k
theorem IsLeast.one {x0 x1 x2 x3 m m' : Int} (h : IsLeast x0 x1 x2 x3 m) (h' : IsLeast x0 x1 x2 x3 m') : m = m' := by
  rcases h with ⟨rfl, h⟩ | ⟨k, hk, rfl, ht, hn⟩ <;> rcases h' with ⟨rfl, h'⟩ | ⟨k', hk', rfl, ht', hn'⟩
  · rfl
  · rw [h _ hk'] at ht'; cases ht'
  · rw [h' _ hk] at ht; cases ht
  · rcases Nat.lt_trichotomy k k' with hl | he | hl
    · rw [hn' _ hl] at ht; cases ht
    · rw [he]
    · rw [hn _ hl] at ht'; cases ht'
/-- the outcome of Least -/
def LeastOut (x0 x1 x2 x3 : Int) (w : World) (e : Ending) (w' : World) : Prop := ∃ m : Int, IsLeast x0 x1 x2 x3 m ∧ e = .returned (.int .i64 m) ∧ Below w.heap.size w w'
theorem NoneBelow.next {x0 x1 x2 x3 : Int} {k : Nat} (h : NoneBelow x0 x1 x2 x3 k) (hk : hasB x0 x1 x2 x3 k = false) : NoneBelow x0 x1 x2 x3 (k + 1) := fun j hj => by
  rcases Nat.lt_succ_iff_lt_or_eq.1 hj with h' | h'
  · exact h j h'
  · rw [h']; exact hk
end Go.Proofs.Ytbkejoheefnmiaa
