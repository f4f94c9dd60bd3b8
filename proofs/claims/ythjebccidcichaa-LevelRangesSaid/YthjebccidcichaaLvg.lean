/- The categories of a span. -/
import Derived.Test.YthjebccidcichaaLvf
import Derived.Deep.CutRange
namespace Go.Proofs.Ythjebccidcichaa
open Go.RowKit
/-- c with the bits from f on, k of them -/
def orB (c f : Nat) : Nat → Nat
  | 0 => c
  | k + 1 => orB c f k ||| 2 ^ (f + k)
theorem orB_or (c f : Nat) : ∀ k, orB c f k = c ||| orB 0 f k
  | 0 => by simp [orB]
  | k + 1 => by simp only [orB]; rw [orB_or c f k, Nat.or_assoc]
theorem orB_lt {c f : Nat} (hc : c < U64) : ∀ k, f + k ≤ 64 → orB c f k < U64
  | 0, _ => hc
  | k + 1, h => by
    simp only [orB]
    exact or_lt (orB_lt hc k (by omega)) (show 2 ^ (f + k) < 2 ^ 64 from Nat.pow_lt_pow_right (by decide) (by omega))
def emptyS (s : ByteArray) : Bool := decide (s.size = 0)
def spF (cats : List ByteArray) (sp : ByteArray × ByteArray) : Int := idxS cats sp.1
def spT (cats : List ByteArray) (sp : ByteArray × ByteArray) : Int := if sp.2.size = 0 then idxS cats sp.1 else idxS cats sp.2
def spCode (cats : List ByteArray) (sp : ByteArray × ByteArray) : Int := if spF cats sp < 0 ∨ spT cats sp < 0 then 11 else if spT cats sp < spF cats sp then 18 else 0
def spBits (cats : List ByteArray) (sp : ByteArray × ByteArray) : Nat := if spCode cats sp = 0 then orB 0 (spF cats sp).toNat ((spT cats sp).toNat + 1 - (spF cats sp).toNat) else 0
theorem idx_bd (l : List ByteArray) (s : ByteArray) : -1 ≤ idxS l s ∧ idxS l s < l.length ∨ idxS l s = -1 := by
  unfold idxS
  split
  · omega
  · omega
theorem spF_bd (l : List ByteArray) (sp : ByteArray × ByteArray) : -1 ≤ spF l sp ∧ spF l sp ≤ l.length := by
  have := idx_bd l sp.1
  unfold spF
  omega
theorem spT_bd (l : List ByteArray) (sp : ByteArray × ByteArray) : -1 ≤ spT l sp ∧ spT l sp ≤ l.length ∧ (spT l sp < l.length ∨ spT l sp = -1) := by
  have h1 := idx_bd l sp.1
  have h2 := idx_bd l sp.2
  unfold spT
  split <;> omega
theorem empty_beq (s : ByteArray) : (s.toList == []) = decide (s.size = 0) := by
  rw [ByteArray.toList_eq, Bool.eq_iff_iff]
  simp only [beq_iff_eq, decide_eq_true_eq, ByteArray.size]
  constructor
  · intro h
    have := congrArg List.length h
    simpa using this
  · intro h
    exact List.eq_nil_of_length_eq_zero (by simpa using h)
theorem or_step (A n : Nat) (hA : A < U64) (hn : n < 64) : ∃ P : Int, IntKind.u64.wrap (2 ^ n) = P ∧ bits .or .u64 (A : Int) P = ((A ||| 2 ^ n : Nat) : Int) := by
  have h2 : 2 ^ n < 18446744073709551616 := show 2 ^ n < 2 ^ 64 from Nat.pow_lt_pow_right (by decide) hn
  have hw : IntKind.u64.wrap (2 ^ n) = ((2 ^ n : Nat) : Int) := by
    have e : (2 : Int) ^ n = ((2 ^ n : Nat) : Int) := by simp
    have hx : ∀ x : Int, IntKind.u64.wrap x = x % 18446744073709551616 := fun x => by simp [IntKind.wrap, IntKind.bits, IntKind.signed]
    rw [e, hx]
    exact Int.emod_eq_of_lt (Int.natCast_nonneg _) (Int.ofNat_lt.mpr h2)
  exact ⟨_, hw, u64_or_nat A (2 ^ n) hA h2⟩
set_option maxRecDepth 100000 in
set_option maxHeartbeats 4000000 in
theorem categories_c (v : Value) (l : List ByteArray) (sp : ByteArray × ByteArray) (w : World) (hV : Strs w v l) (hl : l.length ≤ 64) :
    Calls Try.prog 51 #[.agg #[.string sp.1, .string sp.2], v] w fun e w' => e = .returned (.tuple #[.int .u64 (spBits l sp), .int .i64 (spCode l sp)]) ∧ Below w.heap.size w w' := by
  obtain ⟨f1, f2⟩ := spF_bd l sp
  obtain ⟨t1, t2, t3⟩ := spT_bd l sp
  obtain ⟨C, hC⟩ : ∃ C, spCode l sp = C := ⟨_, rfl⟩
  obtain ⟨X, hX⟩ : ∃ X, spBits l sp = X := ⟨_, rfl⟩
  have hX2 := hX
  unfold spBits at hX2
  rw [hC, hX]
  rw [hC] at hX2
  unfold spCode at hC
  obtain ⟨F, hF⟩ : ∃ F, spF l sp = F := ⟨_, rfl⟩
  obtain ⟨T, hT⟩ : ∃ T, spT l sp = T := ⟨_, rfl⟩
  rw [hF] at f1 f2 hC hX2
  rw [hT] at t1 t2 t3 hC hX2
  have hW : Below w.heap.size w (w.alloc (.cells #[.string sp.1, .string sp.2] 68)) := (Below.refl _ _).alloc (Nat.le_refl _) _
  have hBk : Blk (w.alloc (.cells #[.string sp.1, .string sp.2] 68)) w.heap.size 68 _ := Blk.new w 68 #[.string sp.1, .string sp.2]
  have HF := Lib.hid (fun W (hW : Kp w W) => index_c v l sp.1 W (hV.keep hW) (by omega))
  have HT2 := Lib.hid (fun W (hW : Kp w W) => index_c v l sp.2 W (hV.keep hW) (by omega))
  have he := empty_beq sp.2
  obtain ⟨ao, cap, rfl, _⟩ := hV
  have hF' : idxS l sp.1 = F := hF
  rw [hF'] at HF
  have HX := Lib.hid hX2
  have HCc := Lib.hid hC
  unfold spT at hT
  clear hX hX2 hF hC
  have hcase : (F < 0 ∧ C = 11) ∨ (¬ F < 0 ∧ T < 0 ∧ C = 11) ∨ (¬ F < 0 ∧ ¬ T < 0 ∧ T < F ∧ C = 18) ∨ (¬ F < 0 ∧ ¬ T < 0 ∧ ¬ T < F ∧ C = 0) := by
    have := HCc.out
    rcases (by omega : F < 0 ∨ ¬ F < 0 ∧ T < 0 ∨ ¬ F < 0 ∧ ¬ T < 0 ∧ T < F ∨ ¬ F < 0 ∧ ¬ T < 0 ∧ ¬ T < F) with h | h | h | h
    · exact .inl ⟨h, by rw [← this, if_pos (.inl h)]⟩
    · exact .inr (.inl ⟨h.1, h.2, by rw [← this, if_pos (.inr h.2)]⟩)
    · exact .inr (.inr (.inl ⟨h.1, h.2.1, h.2.2, by rw [← this, if_neg (by omega), if_pos h.2.2]⟩))
    · exact .inr (.inr (.inr ⟨h.1, h.2.1, h.2.2, by rw [← this, if_neg (by omega), if_neg h.2.2]⟩))
  have hX0 : C ≠ 0 → X = 0 := fun h => by rw [← HX.out, if_neg h]
  have HX0 := Lib.hid hX0
  clear hX0 HCc
  by_cases hz : sp.2.size = 0
  · rw [decide_eq_true hz] at he
    rw [if_pos hz, hF'] at hT
    subst hT
    clear hF' hz HT2
    rcases hcase with ⟨a1, rfl⟩ | ⟨a1, a2, rfl⟩ | ⟨a1, a2, a3, rfl⟩ | ⟨a1, a2, a3, rfl⟩
    · obtain rfl := HX0.out (by decide)
      go_enter Try.func51, Try.ntmps51
      go_wp2_with (go_at_call 50; refine (HF.out _ hW).mono ?_; rintro e w1 ⟨rfl, rfl⟩)
      go_ret2
      exact ⟨rfl, hW⟩
    · omega
    · omega
    · obtain ⟨f, rfl⟩ : ∃ f : Nat, F = f := ⟨F.toNat, by omega⟩
      have hX1 : orB 0 f (f + 1 - f) = X := by have := HX.out; rw [if_pos rfl] at this; simpa using this
      have HX1 := Lib.hid hX1
      have hf64 : f < 64 := by omega
      clear a1 a2 a3 f1 f2 t1 t2 t3 HX HX0 hX1
      go_enter Try.func51, Try.ntmps51
      go_wp2_with (go_at_call 50; refine (HF.out _ hW).mono ?_; rintro e w1 ⟨rfl, rfl⟩)
      go_loop [8, 9] (fun a b => ∃ (k n A : Nat), k ≤ f + 1 - f ∧ Hid (n = f + k) ∧ Hid (orB 0 f k = A) ∧ a = .int .u64 A ∧ b = .int .i64 n) (fun _ b => f + 1 - (intOf b).toNat)
      case atStart => exact ⟨0, f, 0, Nat.zero_le _, Lib.hid rfl, Lib.hid rfl, rfl, rfl⟩
      case round =>
        obtain ⟨k, n, A, hk, Hn, HA, rfl, rfl⟩ := hrel
        have hn := Hn.out
        by_cases hlt : n ≤ f
        · have hlt' : (n : Int) ≤ (f : Int) := by omega
          have hA64 : A < U64 := by rw [← HA.out]; exact orB_lt (by decide) k (by omega)
          obtain ⟨P, hP1, hP2⟩ := or_step A n hA64 (by omega)
          obtain ⟨B, hBB⟩ : ∃ B, A ||| 2 ^ n = B := ⟨_, rfl⟩
          rw [hBB] at hP2
          have HA2 : Hid (orB 0 f (k + 1) = B) := Lib.hid (by simp only [orB]; rw [HA.out, ← hn, hBB])
          have HN2 : Hid (n + 1 = f + (k + 1)) := Lib.hid (by omega)
          clear hn hBB hA64
          go_wp2_with fail
          go_round
          case rel => exact ⟨k + 1, n + 1, B, by have := HN2.out; omega, HN2, HA2, rfl, by go_num⟩
          case measure => simp [intOf]; omega
        · have hlt' : ¬ (n : Int) ≤ (f : Int) := by omega
          obtain rfl : k = f + 1 - f := by omega
          have hXA : A = X := by rw [← HA.out]; exact HX1.out
          subst hXA
          clear hn
          go_wp2_with fail
          go_ret2
          exact ⟨rfl, hW⟩
  · rw [decide_eq_false hz] at he
    rw [if_neg hz] at hT
    rw [hT] at HT2
    have hBl := fun W (hW2 : Kp (w.alloc (.cells #[.string sp.1, .string sp.2] 68)) W) => (hW2.blk hBk).box2
    clear hT hz hF'
    rcases hcase with ⟨a1, rfl⟩ | ⟨a1, a2, rfl⟩ | ⟨a1, a2, a3, rfl⟩ | ⟨a1, a2, a3, rfl⟩
    · obtain rfl := HX0.out (by decide)
      go_enter Try.func51, Try.ntmps51
      go_wp2_with fail
      refine (HF.out _ hW).mono ?_
      rintro e w1 ⟨rfl, rfl⟩
      go_wp2_with fail
      refine (HT2.out _ hW).mono ?_
      rintro e w2 ⟨rfl, rfl⟩
      go_wp2_with fail
      go_ret2
      exact ⟨rfl, hW⟩
    · obtain rfl := HX0.out (by decide)
      go_enter Try.func51, Try.ntmps51
      go_wp2_with fail
      refine (HF.out _ hW).mono ?_
      rintro e w1 ⟨rfl, rfl⟩
      go_wp2_with fail
      refine (HT2.out _ hW).mono ?_
      rintro e w2 ⟨rfl, rfl⟩
      go_wp2_with fail
      go_ret2
      exact ⟨rfl, hW⟩
    · obtain rfl := HX0.out (by decide)
      go_enter Try.func51, Try.ntmps51
      go_wp2_with fail
      refine (HF.out _ hW).mono ?_
      rintro e w1 ⟨rfl, rfl⟩
      go_wp2_with fail
      refine (HT2.out _ hW).mono ?_
      rintro e w2 ⟨rfl, rfl⟩
      go_wp2_with fail
      go_ret2
      exact ⟨rfl, hW⟩
    · obtain ⟨f, rfl⟩ : ∃ f : Nat, F = f := ⟨F.toNat, by omega⟩
      obtain ⟨t, rfl⟩ : ∃ t : Nat, T = t := ⟨T.toNat, by omega⟩
      have hX1 : orB 0 f (t + 1 - f) = X := by have := HX.out; rw [if_pos rfl] at this; simpa using this
      have HX1 := Lib.hid hX1
      have hf64 : t < 64 := by omega
      have hft : f ≤ t := by omega
      clear f1 f2 t1 t2 t3 HX HX0 hX1
      go_enter Try.func51, Try.ntmps51
      go_wp2_with fail
      refine (HF.out _ hW).mono ?_
      rintro e w1 ⟨rfl, rfl⟩
      go_wp2_with fail
      refine (HT2.out _ hW).mono ?_
      rintro e w2 ⟨rfl, rfl⟩
      go_wp2_with fail
      go_loop [8, 9] (fun a b => ∃ (k n A : Nat), k ≤ t + 1 - f ∧ Hid (n = f + k) ∧ Hid (orB 0 f k = A) ∧ a = .int .u64 A ∧ b = .int .i64 n) (fun _ b => t + 1 - (intOf b).toNat)
      case atStart => exact ⟨0, f, 0, Nat.zero_le _, Lib.hid rfl, Lib.hid rfl, rfl, rfl⟩
      case round =>
        obtain ⟨k, n, A, hk, Hn, HA, rfl, rfl⟩ := hrel
        have hn := Hn.out
        by_cases hlt : n ≤ t
        · have hlt' : (n : Int) ≤ (t : Int) := by omega
          have hA64 : A < U64 := by rw [← HA.out]; exact orB_lt (by decide) k (by omega)
          obtain ⟨P, hP1, hP2⟩ := or_step A n hA64 (by omega)
          obtain ⟨B, hBB⟩ : ∃ B, A ||| 2 ^ n = B := ⟨_, rfl⟩
          rw [hBB] at hP2
          have HA2 : Hid (orB 0 f (k + 1) = B) := Lib.hid (by simp only [orB]; rw [HA.out, ← hn, hBB])
          have HN2 : Hid (n + 1 = f + (k + 1)) := Lib.hid (by omega)
          clear hn hBB hA64
          go_wp2_with fail
          go_round
          case rel => exact ⟨k + 1, n + 1, B, by have := HN2.out; omega, HN2, HA2, rfl, by go_num⟩
          case measure => simp [intOf]; omega
        · have hlt' : ¬ (n : Int) ≤ (t : Int) := by omega
          obtain rfl : k = t + 1 - f := by omega
          have hXA : A = X := by rw [← HA.out]; exact HX1.out
          subst hXA
          clear hn
          go_wp2_with fail
          go_ret2
          exact ⟨rfl, hW⟩
end Go.Proofs.Ythjebccidcichaa
