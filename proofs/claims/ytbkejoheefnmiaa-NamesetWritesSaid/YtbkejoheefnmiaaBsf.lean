/- Contracts of All of package bitset and of its reference: any int. -/
import Derived.Test.YtbkejoheefnmiaaBse
namespace Go.Proofs.Ytbkejoheefnmiaa
open Go.RowKit
set_option maxRecDepth 100000 in
set_option maxHeartbeats 2000000 in
theorem all_c (n : Int) (w : World) (hlo : -9223372036854775808 ≤ n) (hhi : n ≤ 9223372036854775807) :
    Calls Try.prog 36 #[.int .i64 n] w fun e w' => e = .returned (.agg #[.int .u64 (ofI (allL n) 0), .int .u64 (ofI (allL n) 1), .int .u64 (ofI (allL n) 2), .int .u64 (ofI (allL n) 3)]) ∧ Below w.heap.size w w' := by
  have hN := allN_le n
  by_cases hn : n ≤ 256
  all_goals
    go_enter Try.func36, Try.ntmps36
    go_wp2
    go_loopw [7] (fun i wr => ∃ k : Nat, k ≤ allN n ∧ i = .int .i64 k ∧ Quad wr w.heap.size 0 0 0 0 ∧
        Quad wr (w.heap.size + 1) (ofI (below k) 0) (ofI (below k) 1) (ofI (below k) 2) (ofI (below k) 3) ∧ Below w.heap.size w wr)
      (fun i _ => 256 - (intOf i).toNat)
    case atStart => exact ⟨0, Nat.zero_le _, rfl, (Quad.new _ _ _ _ _).alloc _, quad_second w, ((Below.refl _ _).alloc (Nat.le_refl _) _).alloc (by simp) _⟩
    case round =>
      obtain ⟨k, hk, rfl, hz, hs, hb⟩ := hrel
      obtain ⟨c0, c1, c2, c3, _⟩ := hs.facts
      have hsz := hs.lt
      by_cases hlt : k < allN n
      · obtain ⟨l1, l2⟩ := allN_lt hlt
        have E : ∀ q, Hid (ofI (below (k + 1)) q = withI k q (ofI (below k) q)) := fun q => ofI_below k q
        go_wp2_with (go_at_call 48; refine (with_c _ _ _ _ _ _).mono ?_; rintro e w' ⟨rfl, hb'⟩; obtain ⟨d0, d1, d2, d3, f0, f1, f2, f3⟩ := (hs.below hb' hsz).facts)
        go_roundw
        case rel =>
          refine ⟨k + 1, by omega, by go_num, (hz.below hb' hz.lt).far4 (by omega), ?_, below_set4 (hb.trans (hb'.mono hb.size)) (by omega) _ _ _ _⟩
          rw [(E 0).out, (E 1).out, (E 2).out, (E 3).out]
          exact (hs.below hb' hsz).set4 _ _ _ _
        case measure => simp [intOf]; omega
      · obtain ⟨d0, d1, d2, d3, f0, f1, f2, f3⟩ := hz.facts
        obtain rfl : k = allN n := by omega
        have hend : (n ≤ (allN n : Int) ∧ n ≤ 256) ∨ (256 ≤ (allN n : Int) ∧ (allN n : Int) < n) := by unfold allN; omega
        have E : below (allN n) = allL n := rfl
        rw [E] at c0 c1 c2 c3
        clear E
        rcases hend with ⟨l1, l2⟩ | ⟨l1, l2⟩
        · first
          | (exfalso; omega)
          | (go_wp2; exact bodyPost_ret (v := (.agg #[.int .u64 (ofI (allL n) 0), .int .u64 (ofI (allL n) 1), .int .u64 (ofI (allL n) 2), .int .u64 (ofI (allL n) 3)])) (set_ret Try.results36 rfl (hz.set4 _ _ _ _)) rfl ⟨rfl, below_set4 hb (Nat.le_refl _) _ _ _ _⟩)
        · first
          | (exfalso; omega)
          | (go_wp2; exact bodyPost_ret (v := (.agg #[.int .u64 (ofI (allL n) 0), .int .u64 (ofI (allL n) 1), .int .u64 (ofI (allL n) 2), .int .u64 (ofI (allL n) 3)])) (set_ret Try.results36 rfl (hz.set4 _ _ _ _)) rfl ⟨rfl, below_set4 hb (Nat.le_refl _) _ _ _ _⟩)
set_option maxRecDepth 100000 in
set_option maxHeartbeats 2000000 in
theorem rall_c (n : Int) (w : World) (hlo : -9223372036854775808 ≤ n) (hhi : n ≤ 9223372036854775807) :
    Calls Try.prog 27 #[.int .i64 n] w fun e w' => e = .returned (.agg #[.int .u64 (ofI (allL n) 0), .int .u64 (ofI (allL n) 1), .int .u64 (ofI (allL n) 2), .int .u64 (ofI (allL n) 3)]) ∧ Below w.heap.size w w' := by
  have hN := allN_le n
  by_cases hn : n ≤ 256
  all_goals
    go_enter Try.func27, Try.ntmps27
    go_wp2
    go_loopw [4] (fun i wr => ∃ k : Nat, k ≤ allN n ∧ i = .int .i64 k ∧ Quad wr w.heap.size 0 0 0 0 ∧
        Quad wr (w.heap.size + 1) (ofI (below k) 0) (ofI (below k) 1) (ofI (below k) 2) (ofI (below k) 3) ∧ Below w.heap.size w wr)
      (fun i _ => 256 - (intOf i).toNat)
    case atStart => exact ⟨0, Nat.zero_le _, rfl, (Quad.new _ _ _ _ _).alloc _, quad_second w, ((Below.refl _ _).alloc (Nat.le_refl _) _).alloc (by simp) _⟩
    case round =>
      obtain ⟨k, hk, rfl, hz, hs, hb⟩ := hrel
      obtain ⟨c0, c1, c2, c3, _⟩ := hs.facts
      have hsz := hs.lt
      by_cases hlt : k < allN n
      · obtain ⟨l1, l2⟩ := allN_lt hlt
        have E : ∀ q, Hid (ofI (below (k + 1)) q = withI k q (ofI (below k) q)) := fun q => ofI_below k q
        go_wp2_with (go_at_call 46; refine (rwith_c _ _ _ _ _ _).mono ?_; rintro e w' ⟨rfl, hb'⟩; obtain ⟨d0, d1, d2, d3, f0, f1, f2, f3⟩ := (hs.below hb' hsz).facts)
        go_roundw
        case rel =>
          refine ⟨k + 1, by omega, by go_num, (hz.below hb' hz.lt).far4 (by omega), ?_, below_set4 (hb.trans (hb'.mono hb.size)) (by omega) _ _ _ _⟩
          rw [(E 0).out, (E 1).out, (E 2).out, (E 3).out]
          exact (hs.below hb' hsz).set4 _ _ _ _
        case measure => simp [intOf]; omega
      · obtain ⟨d0, d1, d2, d3, f0, f1, f2, f3⟩ := hz.facts
        obtain rfl : k = allN n := by omega
        have hend : (n ≤ (allN n : Int) ∧ n ≤ 256) ∨ (256 ≤ (allN n : Int) ∧ (allN n : Int) < n) := by unfold allN; omega
        have E : below (allN n) = allL n := rfl
        rw [E] at c0 c1 c2 c3
        clear E
        rcases hend with ⟨l1, l2⟩ | ⟨l1, l2⟩
        · first
          | (exfalso; omega)
          | (go_wp2; exact bodyPost_ret (v := (.agg #[.int .u64 (ofI (allL n) 0), .int .u64 (ofI (allL n) 1), .int .u64 (ofI (allL n) 2), .int .u64 (ofI (allL n) 3)])) (set_ret Try.results27 rfl (hz.set4 _ _ _ _)) rfl ⟨rfl, below_set4 hb (Nat.le_refl _) _ _ _ _⟩)
        · first
          | (exfalso; omega)
          | (go_wp2; exact bodyPost_ret (v := (.agg #[.int .u64 (ofI (allL n) 0), .int .u64 (ofI (allL n) 1), .int .u64 (ofI (allL n) 2), .int .u64 (ofI (allL n) 3)])) (set_ret Try.results27 rfl (hz.set4 _ _ _ _)) rfl ⟨rfl, below_set4 hb (Nat.le_refl _) _ _ _ _⟩)
end Go.Proofs.Ytbkejoheefnmiaa
