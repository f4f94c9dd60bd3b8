/- Contracts of Count, Least and List of package bitset and of its reference, and of the reference's Ints. Condition: words are uint64s. -/
import Derived.Test.YtaigoklmhafhcaaBsg
namespace Go.Proofs.Ytaigoklmhafhcaa
open Go.RowKit
def onesI (x0 x1 x2 x3 : Int) : Int := (pc 64 x0.toNat + pc 64 x1.toNat + pc 64 x2.toNat + pc 64 x3.toNat : Nat)
theorem onesI_le (x0 x1 x2 x3 : Int) : 0 ≤ onesI x0 x1 x2 x3 ∧ onesI x0 x1 x2 x3 ≤ 256 := by
  have := pc_le 64 x0.toNat; have := pc_le 64 x1.toNat; have := pc_le 64 x2.toNat; have := pc_le 64 x3.toNat
  unfold onesI
  omega
def U64 (x : Int) : Prop := 0 ≤ x ∧ x ≤ 18446744073709551615
theorem ret_int {k : IntKind} {a b : Int} (h : a = b) : Ending.returned (.int k a) = .returned (.int k b) := by rw [h]
set_option maxHeartbeats 1000000 in
theorem count_c (x0 x1 x2 x3 : Int) (w : World) (h0 : U64 x0) (h1 : U64 x1) (h2 : U64 x2) (h3 : U64 x3) :
    Calls Try.prog 35 #[.agg #[.int .u64 x0, .int .u64 x1, .int .u64 x2, .int .u64 x3]] w fun e w' => e = .returned (.int .i64 (onesI x0 x1 x2 x3)) ∧ Below w.heap.size w w' := by
  have p0 := pc_le 64 x0.toNat
  have p1 := pc_le 64 x1.toNat
  have p2 := pc_le 64 x2.toNat
  have p3 := pc_le 64 x3.toNat
  have i0 : ∀ w, (Instr.index 24 (.agg #[.int .u64 x0, .int .u64 x1, .int .u64 x2, .int .u64 x3]) (.int .i64 0)).run Try.prog w = .ok (.int .u64 x0) w := fun _ => by kernel_rfl
  have i1 : ∀ w, (Instr.index 24 (.agg #[.int .u64 x0, .int .u64 x1, .int .u64 x2, .int .u64 x3]) (.int .i64 1)).run Try.prog w = .ok (.int .u64 x1) w := fun _ => by kernel_rfl
  have i2 : ∀ w, (Instr.index 24 (.agg #[.int .u64 x0, .int .u64 x1, .int .u64 x2, .int .u64 x3]) (.int .i64 2)).run Try.prog w = .ok (.int .u64 x2) w := fun _ => by kernel_rfl
  have i3 : ∀ w, (Instr.index 24 (.agg #[.int .u64 x0, .int .u64 x1, .int .u64 x2, .int .u64 x3]) (.int .i64 3)).run Try.prog w = .ok (.int .u64 x3) w := fun _ => by kernel_rfl
  go_enter Try.func35, Try.ntmps35
  go_wp2
  refine wp_loop_rounds 5 ?_
  rw [rounds_succ]; go_wp2_with (go_at_call 62; refine (ones_c _ _ h0.1 h0.2).mono ?_; rintro e w' ⟨rfl, rfl⟩)
  rw [rounds_succ]; go_wp2_with (go_at_call 62; refine (ones_c _ _ h1.1 h1.2).mono ?_; rintro e w' ⟨rfl, rfl⟩)
  rw [rounds_succ]; go_wp2_with (go_at_call 62; refine (ones_c _ _ h2.1 h2.2).mono ?_; rintro e w' ⟨rfl, rfl⟩)
  rw [rounds_succ]; go_wp2_with (go_at_call 62; refine (ones_c _ _ h3.1 h3.2).mono ?_; rintro e w' ⟨rfl, rfl⟩)
  rw [rounds_succ]
  go_wp2
  go_ret
  exact ⟨ret_int (by unfold onesI; simp), (Below.refl _ _).alloc (Nat.le_refl _) _⟩

/-- no number below k is in the set -/
def NoneBelow (x0 x1 x2 x3 : Int) (k : Nat) : Prop := ∀ j : Nat, j < k → hasB x0 x1 x2 x3 j = false
def IsLeast (x0 x1 x2 x3 m : Int) : Prop := (m = -1 ∧ NoneBelow x0 x1 x2 x3 256) ∨ ∃ k : Nat, k < 256 ∧ m = k ∧ hasB x0 x1 x2 x3 k = true ∧ NoneBelow x0 x1 x2 x3 k
theorem IsLeast.one {x0 x1 x2 x3 m m' : Int} (h : IsLeast x0 x1 x2 x3 m) (h' : IsLeast x0 x1 x2 x3 m') : m = m' := by
  rcases h with ⟨rfl, h⟩ | ⟨k, hk, rfl, ht, hn⟩ <;> rcases h' with ⟨rfl, h'⟩ | ⟨k', hk', rfl, ht', hn'⟩
  · rfl
  · rw [h _ hk'] at ht'; cases ht'
  · rw [h' _ hk] at ht; cases ht
  · rcases Nat.lt_trichotomy k k' with hl | he | hl
    · rw [hn' _ hl] at ht; cases ht
    · rw [he]
    · rw [hn _ hl] at ht'; cases ht'
/-- the outcome of Least -/
def LeastOut (x0 x1 x2 x3 : Int) (w : World) (e : Ending) (w' : World) : Prop := ∃ m : Int, IsLeast x0 x1 x2 x3 m ∧ e = .returned (.int .i64 m) ∧ Below w.heap.size w w'
theorem NoneBelow.next {x0 x1 x2 x3 : Int} {k : Nat} (h : NoneBelow x0 x1 x2 x3 k) (hk : hasB x0 x1 x2 x3 k = false) : NoneBelow x0 x1 x2 x3 (k + 1) := fun j hj => by
  rcases Nat.lt_succ_iff_lt_or_eq.1 hj with h' | h'
  · exact h j h'
  · rw [h']; exact hk
set_option maxRecDepth 100000 in
set_option maxHeartbeats 1000000 in
theorem least_c (x0 x1 x2 x3 : Int) (w : World) :
    Calls Try.prog 37 #[.agg #[.int .u64 x0, .int .u64 x1, .int .u64 x2, .int .u64 x3]] w (LeastOut x0 x1 x2 x3 w) := by
  go_enter Try.func37, Try.ntmps37
  go_wp2
  go_loopw [4] (fun i wr => ∃ k : Nat, k ≤ 256 ∧ i = .int .i64 k ∧ NoneBelow x0 x1 x2 x3 k ∧ Quad wr w.heap.size x0 x1 x2 x3 ∧ Below w.heap.size w wr)
    (fun i _ => 256 - (intOf i).toNat)
  case atStart => exact ⟨0, by omega, rfl, fun j hj => absurd hj (by omega), Quad.new _ _ _ _ _, (Below.refl _ _).alloc (Nat.le_refl _) _⟩
  case round =>
    obtain ⟨k, hk, rfl, hn, hs, hb⟩ := hrel
    obtain ⟨c0, c1, c2, c3, _⟩ := hs.facts
    by_cases hlt : k < 256
    · cases hh : hasB x0 x1 x2 x3 k
      · have H := Lib.hid hh
        clear hh
        go_wp2_with (go_at_call 20; refine (has_c _ _ _ _ _ _).mono ?_; rintro e w' ⟨rfl, hb'⟩; rw [H.out])
        go_roundw
        case rel => exact ⟨k + 1, by omega, by go_num, hn.next H.out, hs.below hb' hs.lt, hb.trans (hb'.mono hb.size)⟩
        case measure => simp [intOf]; omega
      · have H := Lib.hid hh
        clear hh
        go_wp2_with (go_at_call 20; refine (has_c _ _ _ _ _ _).mono ?_; rintro e w' ⟨rfl, hb'⟩; rw [H.out])
        go_ret
        exact ⟨k, .inr ⟨k, hlt, rfl, H.out, hn⟩, rfl, hb.trans (hb'.mono hb.size)⟩
    · go_wp2
      go_ret
      obtain rfl : k = 256 := by omega
      exact ⟨-1, .inl ⟨rfl, hn⟩, rfl, hb⟩
set_option maxRecDepth 100000 in
set_option maxHeartbeats 1000000 in
theorem rleast_c (x0 x1 x2 x3 : Int) (w : World) :
    Calls Try.prog 38 #[.agg #[.int .u64 x0, .int .u64 x1, .int .u64 x2, .int .u64 x3]] w (LeastOut x0 x1 x2 x3 w) := by
  go_enter Try.func38, Try.ntmps38
  go_wp2
  go_loopw [3] (fun i wr => ∃ k : Nat, k ≤ 256 ∧ i = .int .i64 k ∧ NoneBelow x0 x1 x2 x3 k ∧ Quad wr w.heap.size x0 x1 x2 x3 ∧ Below w.heap.size w wr)
    (fun i _ => 256 - (intOf i).toNat)
  case atStart => exact ⟨0, by omega, rfl, fun j hj => absurd hj (by omega), Quad.new _ _ _ _ _, (Below.refl _ _).alloc (Nat.le_refl _) _⟩
  case round =>
    obtain ⟨k, hk, rfl, hn, hs, hb⟩ := hrel
    obtain ⟨c0, c1, c2, c3, _⟩ := hs.facts
    by_cases hlt : k < 256
    · cases hh : hasB x0 x1 x2 x3 k
      · have H := Lib.hid hh
        clear hh
        go_wp2_with (go_at_call 21; refine (rhas_c _ _ _ _ _ _).mono ?_; rintro e w' ⟨rfl, hb'⟩; rw [H.out])
        go_roundw
        case rel => exact ⟨k + 1, by omega, by go_num, hn.next H.out, hs.below hb' hs.lt, hb.trans (hb'.mono hb.size)⟩
        case measure => simp [intOf]; omega
      · have H := Lib.hid hh
        clear hh
        go_wp2_with (go_at_call 21; refine (rhas_c _ _ _ _ _ _).mono ?_; rintro e w' ⟨rfl, hb'⟩; rw [H.out])
        go_ret
        exact ⟨k, .inr ⟨k, hlt, rfl, H.out, hn⟩, rfl, hb.trans (hb'.mono hb.size)⟩
    · go_wp2
      go_ret
      obtain rfl : k = 256 := by omega
      exact ⟨-1, .inl ⟨rfl, hn⟩, rfl, hb⟩
end Go.Proofs.Ytaigoklmhafhcaa
