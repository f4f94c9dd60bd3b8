/- Bpl Bsg Bsi Bpm Bsc Bsd Bpn Bsj Bpo Exs Exa Exb Exc Exf Exg Exk Mpx -/
import Derived.Test.YtjikbffnhfoikaaZaa
import Derived.Laws.BitsAllLaws
import Derived.RegionTactic
import Derived.BigRegion
import Derived.LoopN
import Derived.Laws.StructEq
import Derived.Laws.Cover2
import Derived.Deep.RegionWith
import Derived.OwnWalk
import Derived.Maps.Range
import Derived.Maps.RangeWalk
import Derived.Maps.Ext
import Derived.DeepKeys5
import Derived.WideKeyEntry
/- Plain facts on 64-bit words: the number of one bits as math/bits.OnesCount64 computes it, bits and the operations on words. No Go text. -/
namespace Go.Proofs.Ytjikbffnhfoikaa
/-- how many of the first k bits are one -/
def pc : Nat → Nat → Nat
  | 0, _ => 0
  | k + 1, X => pc k X + (X.testBit k).toNat
theorem pc_le : ∀ k X, pc k X ≤ k
  | 0, _ => Nat.le_refl _
  | k + 1, X => by have := pc_le k X; have : (X.testBit k).toNat ≤ 1 := Bool.toNat_le _; simp only [pc]; omega
theorem pc_or_and (x y : Nat) : ∀ k, pc k (x ||| y) + pc k (x &&& y) = pc k x + pc k y
  | 0 => rfl
  | k + 1 => by
    have h := pc_or_and x y k
    simp only [pc, Nat.testBit_or, Nat.testBit_and]
    cases x.testBit k <;> cases y.testBit k <;> simp <;> omega
theorem pc_split (X : Nat) : ∀ k, pc (8 + k) X = pc 8 (X % 256) + pc k (X / 256)
  | 0 => by
    have e : ∀ i, i < 8 → (X % 2 ^ 8).testBit i = X.testBit i := fun i hi => by rw [Nat.testBit_mod_two_pow]; simp [hi]
    simp only [pc, Nat.add_zero]
    rw [show (256 : Nat) = 2 ^ 8 from rfl, e 0 (by omega), e 1 (by omega), e 2 (by omega), e 3 (by omega), e 4 (by omega), e 5 (by omega), e 6 (by omega), e 7 (by omega)]
  | k + 1 => by
    have h := pc_split X k
    have e : (X / 256).testBit k = X.testBit (8 + k) := by rw [show (256 : Nat) = 2 ^ 8 from rfl, Nat.testBit_div_two_pow, Nat.add_comm]
    show pc (8 + k) X + (X.testBit (8 + k)).toNat = pc 8 (X % 256) + (pc k (X / 256) + ((X / 256).testBit k).toNat)
    rw [h, e]
    omega
/-- a function on each byte -/
def mapB (f : Nat → Nat) : Nat → Nat → Nat
  | 0, _ => 0
  | m + 1, X => f (X % 256) + 256 * mapB f m (X / 256)
def mask (c : Nat) : Nat → Nat
  | 0 => 0
  | m + 1 => c + 256 * mask c m
theorem and_split (x y : Nat) : x &&& y = ((x % 256) &&& (y % 256)) + 256 * ((x / 256) &&& (y / 256)) := by
  have h1 : (x &&& y) % 2 ^ 8 = (x % 2 ^ 8) &&& (y % 2 ^ 8) := Nat.and_mod_two_pow
  have h2 : (x &&& y) / 2 ^ 8 = (x / 2 ^ 8) &&& (y / 2 ^ 8) := Nat.and_div_two_pow
  have h3 := Nat.mod_add_div (x &&& y) (2 ^ 8)
  rw [h1, h2] at h3
  exact h3.symm
theorem mask_mod (c m : Nat) (h : c < 256) : mask c (m + 1) % 256 = c := by simp only [mask]; omega
theorem mask_div (c m : Nat) (h : c < 256) : mask c (m + 1) / 256 = mask c m := by simp only [mask]; omega
def B1 (b : Nat) : Nat := ((b / 2) &&& 0x55) + (b &&& 0x55)
def B2 (b : Nat) : Nat := ((b / 4) &&& 0x33) + (b &&& 0x33)
def B3 (b : Nat) : Nat := (b / 16 + b) % 16
theorem low1 : ∀ b : Fin 256, ∀ t : Fin 2, (b.val / 2 + 128 * t.val) &&& 0x55 = (b.val / 2) &&& 0x55 := by decide +kernel
theorem low2 : ∀ b : Fin 256, ∀ t : Fin 4, (b.val / 4 + 64 * t.val) &&& 0x33 = (b.val / 4) &&& 0x33 := by decide +kernel
theorem step1 : ∀ m X, ((X / 2) &&& mask 0x55 m) + (X &&& mask 0x55 m) = mapB B1 m X
  | 0, X => by simp [mask, mapB]
  | m + 1, X => by
    have ih := step1 m (X / 256)
    rw [and_split (X / 2), and_split X, mask_mod _ _ (by omega), mask_div _ _ (by omega)]
    have e : X / 2 % 256 = X % 256 / 2 + 128 * (X / 256 % 2) := by omega
    have l := low1 ⟨X % 256, by omega⟩ ⟨X / 256 % 2, by omega⟩
    simp only at l
    rw [e, l, show X / 2 / 256 = X / 256 / 2 by omega, mapB, ← ih, B1]
    omega
theorem step2 : ∀ m X, ((X / 4) &&& mask 0x33 m) + (X &&& mask 0x33 m) = mapB B2 m X
  | 0, X => by simp [mask, mapB]
  | m + 1, X => by
    have ih := step2 m (X / 256)
    rw [and_split (X / 4), and_split X, mask_mod _ _ (by omega), mask_div _ _ (by omega)]
    have e : X / 4 % 256 = X % 256 / 4 + 64 * (X / 256 % 4) := by omega
    have l := low2 ⟨X % 256, by omega⟩ ⟨X / 256 % 4, by omega⟩
    simp only at l
    rw [e, l, show X / 4 / 256 = X / 256 / 4 by omega, mapB, ← ih, B2]
    omega
theorem mapB_comp (f g : Nat → Nat) (hg : ∀ b, b < 256 → g b < 256) : ∀ m X, mapB f m (mapB g m X) = mapB (fun b => f (g b)) m X
  | 0, _ => rfl
  | m + 1, X => by
    have h := hg (X % 256) (by omega)
    simp only [mapB]
    rw [show (g (X % 256) + 256 * mapB g m (X / 256)) % 256 = g (X % 256) by omega, show (g (X % 256) + 256 * mapB g m (X / 256)) / 256 = mapB g m (X / 256) by omega, mapB_comp f g hg m]
theorem mapB_congr (f g : Nat → Nat) (h : ∀ b, b < 256 → f b = g b) : ∀ m X, mapB f m X = mapB g m X
  | 0, _ => rfl
  | m + 1, X => by simp only [mapB]; rw [h _ (by omega), mapB_congr f g h m]
theorem and15 (n : Nat) : n &&& 15 = n % 16 := Nat.and_two_pow_sub_one_eq_mod n 4
theorem mapB_mod16 (g : Nat → Nat) (hg : ∀ b, b < 256 → g b % 16 ≤ 4) : ∀ m X, mapB g m X % 16 ≤ 4
  | 0, _ => by simp [mapB]
  | m + 1, X => by have := hg (X % 256) (by omega); simp only [mapB]; omega
theorem step3 (g : Nat → Nat) (hg : ∀ b, b < 256 → g b % 16 ≤ 4 ∧ g b / 16 ≤ 4) : ∀ m X, ((mapB g m X / 16 + mapB g m X) &&& mask 0x0f m) = mapB (fun b => B3 (g b)) m X
  | 0, X => by simp [mask, mapB]
  | m + 1, X => by
    have ih := step3 g hg m (X / 256)
    have h1 := hg (X % 256) (by omega)
    have h2 := mapB_mod16 g (fun b hb => (hg b hb).1) m (X / 256)
    rw [and_split, mask_mod _ _ (by omega), mask_div _ _ (by omega)]
    simp only [mapB]
    generalize g (X % 256) = z at *
    generalize mapB g m (X / 256) = Z at *
    rw [show (z + 256 * Z) / 16 + (z + 256 * Z) = (z / 16 + z + 16 * (Z % 16)) + 256 * (Z / 16 + Z) by omega]
    rw [show (z / 16 + z + 16 * (Z % 16) + 256 * (Z / 16 + Z)) % 256 = z / 16 + z + 16 * (Z % 16) by omega, show (z / 16 + z + 16 * (Z % 16) + 256 * (Z / 16 + Z)) / 256 = Z / 16 + Z by omega]
    rw [ih, and15, B3]
    omega
theorem byte1 : ∀ b : Fin 256, B1 b.val < 256 := by decide +kernel
theorem byte2 : ∀ b : Fin 256, B2 (B1 b.val) % 16 ≤ 4 ∧ B2 (B1 b.val) / 16 ≤ 4 := by decide +kernel
theorem byte3 : ∀ b : Fin 256, B3 (B2 (B1 b.val)) = pc 8 b.val := by decide +kernel
theorem spread (X : Nat) : ∀ m, mapB (fun b => B3 (B2 (B1 b))) m X = mapB (pc 8) m X := fun m => mapB_congr _ _ (fun b hb => byte3 ⟨b, hb⟩) m X
/-- the three masked steps -/
def swar (X : Nat) : Nat :=
  let a := ((X / 2) &&& 0x5555555555555555) + (X &&& 0x5555555555555555)
  let b := ((a / 4) &&& 0x3333333333333333) + (a &&& 0x3333333333333333)
  (b / 16 + b) &&& 0x0f0f0f0f0f0f0f0f
theorem swar_eq (X : Nat) : swar X = mapB (pc 8) 8 X := by
  unfold swar
  rw [show (0x5555555555555555 : Nat) = mask 0x55 8 from rfl, show (0x3333333333333333 : Nat) = mask 0x33 8 from rfl, show (0x0f0f0f0f0f0f0f0f : Nat) = mask 0x0f 8 from rfl]
  rw [step1]
  dsimp only
  rw [step2, mapB_comp _ _ (fun b hb => byte1 ⟨b, hb⟩), step3 _ (fun b hb => byte2 ⟨b, hb⟩), spread]
theorem mapB8 (f : Nat → Nat) (X : Nat) : ∃ c0 c1 c2 c3 c4 c5 c6 c7, mapB f 8 X = c0 + 256 * (c1 + 256 * (c2 + 256 * (c3 + 256 * (c4 + 256 * (c5 + 256 * (c6 + 256 * c7)))))) ∧
    c0 = f (X % 256) ∧ c1 = f (X / 256 % 256) ∧ c2 = f (X / 256 / 256 % 256) ∧ c3 = f (X / 256 / 256 / 256 % 256) ∧ c4 = f (X / 256 / 256 / 256 / 256 % 256) ∧
    c5 = f (X / 256 / 256 / 256 / 256 / 256 % 256) ∧ c6 = f (X / 256 / 256 / 256 / 256 / 256 / 256 % 256) ∧ c7 = f (X / 256 / 256 / 256 / 256 / 256 / 256 / 256 % 256) :=
  ⟨_, _, _, _, _, _, _, _, by simp [mapB], rfl, rfl, rfl, rfl, rfl, rfl, rfl, rfl⟩
theorem pc64 (X : Nat) : pc 64 X = pc 8 (X % 256) + (pc 8 (X / 256 % 256) + (pc 8 (X / 256 / 256 % 256) + (pc 8 (X / 256 / 256 / 256 % 256) + (pc 8 (X / 256 / 256 / 256 / 256 % 256) +
    (pc 8 (X / 256 / 256 / 256 / 256 / 256 % 256) + (pc 8 (X / 256 / 256 / 256 / 256 / 256 / 256 % 256) + pc 8 (X / 256 / 256 / 256 / 256 / 256 / 256 / 256 % 256))))))) := by
  rw [show (64 : Nat) = 8 + (8 + (8 + (8 + (8 + (8 + (8 + (8 + 0))))))) from rfl]
  rw [pc_split, pc_split, pc_split, pc_split, pc_split, pc_split, pc_split, pc_split]
  rfl
/-- the sum of the bytes -/
def fold3 (V : Nat) : Nat :=
  let a := V + V / 256
  let b := a + a / 65536
  (b + b / 4294967296) % 128
theorem fold_a {c0 c1 c2 c3 c4 c5 c6 c7 V : Nat} (_h0 : c0 ≤ 8) (_h1 : c1 ≤ 8) (_h2 : c2 ≤ 8) (_h3 : c3 ≤ 8) (_h4 : c4 ≤ 8) (_h5 : c5 ≤ 8) (_h6 : c6 ≤ 8) (_h7 : c7 ≤ 8) (h : V = c0 + 256 * (c1 + 256 * (c2 + 256 * (c3 + 256 * (c4 + 256 * (c5 + 256 * (c6 + 256 * c7))))))) : V + V / 256 = (c0 + c1) + 256 * ((c1 + c2) + 256 * ((c2 + c3) + 256 * ((c3 + c4) + 256 * ((c4 + c5) + 256 * ((c5 + c6) + 256 * ((c6 + c7) + 256 * c7)))))) := by omega
theorem fold_b {c0 c1 c2 c3 c4 c5 c6 c7 V : Nat} (_h0 : c0 ≤ 8) (_h1 : c1 ≤ 8) (_h2 : c2 ≤ 8) (_h3 : c3 ≤ 8) (_h4 : c4 ≤ 8) (_h5 : c5 ≤ 8) (_h6 : c6 ≤ 8) (_h7 : c7 ≤ 8) (h : V = (c0 + c1) + 256 * ((c1 + c2) + 256 * ((c2 + c3) + 256 * ((c3 + c4) + 256 * ((c4 + c5) + 256 * ((c5 + c6) + 256 * ((c6 + c7) + 256 * c7))))))) : V + V / 65536 = (c0 + c1 + (c2 + c3)) + 256 * ((c1 + c2 + (c3 + c4)) + 256 * ((c2 + c3 + (c4 + c5)) + 256 * ((c3 + c4 + (c5 + c6)) + 256 * ((c4 + c5 + (c6 + c7)) + 256 * ((c5 + c6 + c7) + 256 * ((c6 + c7) + 256 * c7)))))) := by omega
theorem mod128 {s M V : Nat} (_h : s ≤ 64) (_e : V = s + 256 * M) : V % 128 = s := by omega
theorem fold_c {c0 c1 c2 c3 c4 c5 c6 c7 V : Nat} (_h0 : c0 ≤ 8) (_h1 : c1 ≤ 8) (_h2 : c2 ≤ 8) (_h3 : c3 ≤ 8) (_h4 : c4 ≤ 8) (_h5 : c5 ≤ 8) (_h6 : c6 ≤ 8) (_h7 : c7 ≤ 8) (h : V = (c0 + c1 + (c2 + c3)) + 256 * ((c1 + c2 + (c3 + c4)) + 256 * ((c2 + c3 + (c4 + c5)) + 256 * ((c3 + c4 + (c5 + c6)) + 256 * ((c4 + c5 + (c6 + c7)) + 256 * ((c5 + c6 + c7) + 256 * ((c6 + c7) + 256 * c7))))))) : (V + V / 4294967296) % 128 = c0 + (c1 + (c2 + (c3 + (c4 + (c5 + (c6 + c7)))))) := by
  have q : V / 4294967296 = (c4 + c5 + (c6 + c7)) + 256 * ((c5 + c6 + c7) + 256 * ((c6 + c7) + 256 * c7)) := by omega
  rw [q]
  exact mod128 (M := ((c1 + c2 + (c3 + c4)) + 256 * ((c2 + c3 + (c4 + c5)) + 256 * ((c3 + c4 + (c5 + c6)) + 256 * ((c4 + c5 + (c6 + c7)) + 256 * ((c5 + c6 + c7) + 256 * ((c6 + c7) + 256 * c7)))))) + ((c5 + c6 + c7) + 256 * ((c6 + c7) + 256 * c7))) (by omega) (by omega)
theorem fold3_eq (c0 c1 c2 c3 c4 c5 c6 c7 : Nat) (h0 : c0 ≤ 8) (h1 : c1 ≤ 8) (h2 : c2 ≤ 8) (h3 : c3 ≤ 8) (h4 : c4 ≤ 8) (h5 : c5 ≤ 8) (h6 : c6 ≤ 8) (h7 : c7 ≤ 8) :
    fold3 (c0 + 256 * (c1 + 256 * (c2 + 256 * (c3 + 256 * (c4 + 256 * (c5 + 256 * (c6 + 256 * c7))))))) = c0 + (c1 + (c2 + (c3 + (c4 + (c5 + (c6 + c7)))))) :=
  fold_c h0 h1 h2 h3 h4 h5 h6 h7 (fold_b h0 h1 h2 h3 h4 h5 h6 h7 (fold_a h0 h1 h2 h3 h4 h5 h6 h7 rfl))
theorem popcount (X : Nat) : fold3 (swar X) = pc 64 X := by
  have h := mapB8 (pc 8) X
  rw [← swar_eq] at h
  have hp := pc64 X
  generalize swar X = s at *
  generalize pc 64 X = p at *
  have k0 := pc_le 8 (X % 256)
  have k1 := pc_le 8 (X / 256 % 256)
  have k2 := pc_le 8 (X / 256 / 256 % 256)
  have k3 := pc_le 8 (X / 256 / 256 / 256 % 256)
  have k4 := pc_le 8 (X / 256 / 256 / 256 / 256 % 256)
  have k5 := pc_le 8 (X / 256 / 256 / 256 / 256 / 256 % 256)
  have k6 := pc_le 8 (X / 256 / 256 / 256 / 256 / 256 / 256 % 256)
  have k7 := pc_le 8 (X / 256 / 256 / 256 / 256 / 256 / 256 / 256 % 256)
  obtain ⟨c0, c1, c2, c3, c4, c5, c6, c7, e, h0, h1, h2, h3, h4, h5, h6, h7⟩ := h
  rw [← h0] at k0 hp
  rw [← h1] at k1 hp
  rw [← h2] at k2 hp
  rw [← h3] at k3 hp
  rw [← h4] at k4 hp
  rw [← h5] at k5 hp
  rw [← h6] at k6 hp
  rw [← h7] at k7 hp
  rw [e, hp]
  exact fold3_eq c0 c1 c2 c3 c4 c5 c6 c7 k0 k1 k2 k3 k4 k5 k6 k7
theorem swar_le (X : Nat) : swar X ≤ 0x0808080808080808 := by
  obtain ⟨c0, c1, c2, c3, c4, c5, c6, c7, e, h0, h1, h2, h3, h4, h5, h6, h7⟩ := mapB8 (pc 8) X
  have k0 : c0 ≤ 8 := h0 ▸ pc_le _ _
  have k1 : c1 ≤ 8 := h1 ▸ pc_le _ _
  have k2 : c2 ≤ 8 := h2 ▸ pc_le _ _
  have k3 : c3 ≤ 8 := h3 ▸ pc_le _ _
  have k4 : c4 ≤ 8 := h4 ▸ pc_le _ _
  have k5 : c5 ≤ 8 := h5 ▸ pc_le _ _
  have k6 : c6 ≤ 8 := h6 ▸ pc_le _ _
  have k7 : c7 ≤ 8 := h7 ▸ pc_le _ _
  rw [swar_eq, e]
  omega
end Go.Proofs.Ytjikbffnhfoikaa
/- The contract of math/bits.OnesCount64: it returns the number of one bits. Condition: the argument is a uint64. -/
namespace Go.Proofs.Ytjikbffnhfoikaa
open Go.RowKit
set_option maxHeartbeats 400000 in
theorem ones_walk (x A B C D : Int) (w : World) (_h0 : 0 ≤ x) (hA : bits .and .u64 (x / 2) 6148914691236517205 + bits .and .u64 x 6148914691236517205 = A) (a0 : 0 ≤ A) (a1 : A ≤ 18446744073709551615)
    (hB : bits .and .u64 (A / 4) 3689348814741910323 + bits .and .u64 A 3689348814741910323 = B) (b0 : 0 ≤ B) (b1 : B ≤ 8000000000000000000)
    (hC : bits .and .u64 (B / 16 + B) 1085102592571150095 = C) (c0 : 0 ≤ C) (c1 : C ≤ 600000000000000000)
    (hD : bits .and .i64 (C + C / 256 + (C + C / 256) / 65536 + (C + C / 256 + (C + C / 256) / 65536) / 4294967296) 127 = D) :
    Calls Try.prog 75 #[.int .u64 x] w fun e w' => e = .returned (.int .i64 D) ∧ w' = w := by
  go_enter Try.func75, Try.ntmps75
  go_wp2
  go_ret
  exact ⟨rfl, rfl⟩

theorem and127 (n : Nat) (h : n < 9223372036854775808) : bits .and .i64 (n : Int) 127 = ((n % 128 : Nat) : Int) := by
  have h1 : (BitVec.ofInt 64 (n : Int)).toNat = n := ofInt_u64 n (by omega)
  have h2 : (BitVec.ofInt 64 (127 : Int)).toNat = 127 := by decide
  show IntKind.i64.wrap ((BitVec.ofInt 64 (n : Int) &&& BitVec.ofInt 64 127).toNat : Int) = _
  rw [BitVec.toNat_and, h1, h2, show (127 : Nat) = 2 ^ 7 - 1 from rfl, Nat.and_two_pow_sub_one_eq_mod]
  rw [IntWalk.i64_in _ (by omega)]
theorem and_lt' (x M : Nat) : x &&& M ≤ M := Nat.and_le_right
theorem ones_c (x : Int) (w : World) (h0 : 0 ≤ x) (h1 : x ≤ 18446744073709551615) :
    Calls Try.prog 75 #[.int .u64 x] w fun e w' => e = .returned (.int .i64 (pc 64 x.toNat)) ∧ w' = w := by
  obtain ⟨X, rfl⟩ := Int.eq_ofNat_of_zero_le h0
  have b1 := and_lt' (X / 2) 0x5555555555555555
  have b2 := and_lt' X 0x5555555555555555
  have eA : bits .and .u64 ((X : Int) / 2) 6148914691236517205 + bits .and .u64 (X : Int) 6148914691236517205 = (((X / 2 &&& 0x5555555555555555) + (X &&& 0x5555555555555555) : Nat) : Int) := by
    have e := u64_and_nat (X / 2) 0x5555555555555555 (by omega) (by omega)
    have e' := u64_and_nat X 0x5555555555555555 (by omega) (by omega)
    rw [Int.natCast_add, ← e, ← e']
    rfl
  obtain ⟨A, hA⟩ : ∃ A, A = (X / 2 &&& 0x5555555555555555) + (X &&& 0x5555555555555555) := ⟨_, rfl⟩
  rw [← hA] at eA
  have b3 := and_lt' (A / 4) 0x3333333333333333
  have b4 := and_lt' A 0x3333333333333333
  have eB : bits .and .u64 ((A : Int) / 4) 3689348814741910323 + bits .and .u64 (A : Int) 3689348814741910323 = (((A / 4 &&& 0x3333333333333333) + (A &&& 0x3333333333333333) : Nat) : Int) := by
    have e := u64_and_nat (A / 4) 0x3333333333333333 (by omega) (by omega)
    have e' := u64_and_nat A 0x3333333333333333 (by omega) (by omega)
    rw [Int.natCast_add, ← e, ← e']
    rfl
  obtain ⟨B, hB⟩ : ∃ B, B = (A / 4 &&& 0x3333333333333333) + (A &&& 0x3333333333333333) := ⟨_, rfl⟩
  rw [← hB] at eB
  have hC : swar X = (B / 16 + B) &&& 0x0f0f0f0f0f0f0f0f := by rw [hB, hA]; rfl
  have hBle : B ≤ 8000000000000000000 := by omega
  have eC : bits .and .u64 ((B : Int) / 16 + B) 1085102592571150095 = (swar X : Int) := by
    have e := u64_and_nat (B / 16 + B) 0x0f0f0f0f0f0f0f0f (by omega) (by omega)
    rw [hC, ← e, Int.natCast_add]
    rfl
  have hs := swar_le X
  have hp := popcount X
  generalize swar X = C at *
  unfold fold3 at hp
  refine (ones_walk X A B C (pc 64 X) w h0 eA (by omega) (by omega) eB (by omega) (by omega) eC (by omega) (by omega) ?_).mono fun e w' h => h
  have e := and127 (C + C / 256 + (C + C / 256) / 65536 + (C + C / 256 + (C + C / 256) / 65536) / 4294967296) (by omega)
  rw [← hp]
  exact e
end Go.Proofs.Ytjikbffnhfoikaa
/- Contracts of Count, Least and List of package bitset and of its reference, and of the reference's Ints. Condition: words are uint64s. -/
namespace Go.Proofs.Ytjikbffnhfoikaa
open Go.RowKit
def onesI (x0 x1 x2 x3 : Int) : Int := (pc 64 x0.toNat + pc 64 x1.toNat + pc 64 x2.toNat + pc 64 x3.toNat : Nat)
theorem onesI_le (x0 x1 x2 x3 : Int) : 0 ≤ onesI x0 x1 x2 x3 ∧ onesI x0 x1 x2 x3 ≤ 256 := by
  have := pc_le 64 x0.toNat; have := pc_le 64 x1.toNat; have := pc_le 64 x2.toNat; have := pc_le 64 x3.toNat
  unfold onesI
  omega
def U64 (x : Int) : Prop := 0 ≤ x ∧ x ≤ 18446744073709551615
theorem ret_int {k : IntKind} {a b : Int} (h : a = b) : Ending.returned (.int k a) = .returned (.int k b) := by rw [h]
set_option maxHeartbeats 1000000 in
theorem count_c (x0 x1 x2 x3 : Int) (w : World) (h0 : U64 x0) (h1 : U64 x1) (h2 : U64 x2) (h3 : U64 x3) :
    Calls Try.prog 54 #[.agg #[.int .u64 x0, .int .u64 x1, .int .u64 x2, .int .u64 x3]] w fun e w' => e = .returned (.int .i64 (onesI x0 x1 x2 x3)) ∧ Below w.heap.size w w' := by
  have p0 := pc_le 64 x0.toNat
  have p1 := pc_le 64 x1.toNat
  have p2 := pc_le 64 x2.toNat
  have p3 := pc_le 64 x3.toNat
  have i0 : ∀ w, (Instr.index 24 (.agg #[.int .u64 x0, .int .u64 x1, .int .u64 x2, .int .u64 x3]) (.int .i64 0)).run Try.prog w = .ok (.int .u64 x0) w := fun _ => by kernel_rfl
  have i1 : ∀ w, (Instr.index 24 (.agg #[.int .u64 x0, .int .u64 x1, .int .u64 x2, .int .u64 x3]) (.int .i64 1)).run Try.prog w = .ok (.int .u64 x1) w := fun _ => by kernel_rfl
  have i2 : ∀ w, (Instr.index 24 (.agg #[.int .u64 x0, .int .u64 x1, .int .u64 x2, .int .u64 x3]) (.int .i64 2)).run Try.prog w = .ok (.int .u64 x2) w := fun _ => by kernel_rfl
  have i3 : ∀ w, (Instr.index 24 (.agg #[.int .u64 x0, .int .u64 x1, .int .u64 x2, .int .u64 x3]) (.int .i64 3)).run Try.prog w = .ok (.int .u64 x3) w := fun _ => by kernel_rfl
  go_enter Try.func54, Try.ntmps54
  go_wp2
  refine wp_loop_rounds 5 ?_
  rw [rounds_succ]; go_wp2_with (go_at_call 75; refine (ones_c _ _ h0.1 h0.2).mono ?_; rintro e w' ⟨rfl, rfl⟩)
  rw [rounds_succ]; go_wp2_with (go_at_call 75; refine (ones_c _ _ h1.1 h1.2).mono ?_; rintro e w' ⟨rfl, rfl⟩)
  rw [rounds_succ]; go_wp2_with (go_at_call 75; refine (ones_c _ _ h2.1 h2.2).mono ?_; rintro e w' ⟨rfl, rfl⟩)
  rw [rounds_succ]; go_wp2_with (go_at_call 75; refine (ones_c _ _ h3.1 h3.2).mono ?_; rintro e w' ⟨rfl, rfl⟩)
  rw [rounds_succ]
  go_wp2
  go_ret
  exact ⟨ret_int (by unfold onesI; simp), (Below.refl _ _).alloc (Nat.le_refl _) _⟩

/-- no number below k is in the set -/
def NoneBelow (x0 x1 x2 x3 : Int) (k : Nat) : Prop := ∀ j : Nat, j < k → hasB x0 x1 x2 x3 j = false
def IsLeast (x0 x1 x2 x3 m : Int) : Prop := (m = -1 ∧ NoneBelow x0 x1 x2 x3 256) ∨ ∃ k : Nat, k < 256 ∧ m = k ∧ hasB x0 x1 x2 x3 k = true ∧ NoneBelow x0 x1 x2 x3 k
theorem IsLeast.one {x0 x1 x2 x3 m m' : Int} (h : IsLeast x0 x1 x2 x3 m) (h' : IsLeast x0 x1 x2 x3 m') : m = m' := by
  rcases h with ⟨rfl, h⟩ | ⟨k, hk, rfl, ht, hn⟩ <;> rcases h' with ⟨rfl, h'⟩ | ⟨k', hk', rfl, ht', hn'⟩
  · rfl
  · rw [h _ hk'] at ht'; cases ht'
  · rw [h' _ hk] at ht; cases ht
  · rcases Nat.lt_trichotomy k k' with hl | he | hl
    · rw [hn' _ hl] at ht; cases ht
    · rw [he]
    · rw [hn _ hl] at ht'; cases ht'
/-- the outcome of Least -/
def LeastOut (x0 x1 x2 x3 : Int) (w : World) (e : Ending) (w' : World) : Prop := ∃ m : Int, IsLeast x0 x1 x2 x3 m ∧ e = .returned (.int .i64 m) ∧ Below w.heap.size w w'
theorem NoneBelow.next {x0 x1 x2 x3 : Int} {k : Nat} (h : NoneBelow x0 x1 x2 x3 k) (hk : hasB x0 x1 x2 x3 k = false) : NoneBelow x0 x1 x2 x3 (k + 1) := fun j hj => by
  rcases Nat.lt_succ_iff_lt_or_eq.1 hj with h' | h'
  · exact h j h'
  · rw [h']; exact hk
set_option maxRecDepth 100000 in
set_option maxHeartbeats 1000000 in
theorem least_c (x0 x1 x2 x3 : Int) (w : World) :
    Calls Try.prog 72 #[.agg #[.int .u64 x0, .int .u64 x1, .int .u64 x2, .int .u64 x3]] w (LeastOut x0 x1 x2 x3 w) := by
  go_enter Try.func72, Try.ntmps72
  go_wp2
  go_loopw [4] (fun i wr => ∃ k : Nat, k ≤ 256 ∧ i = .int .i64 k ∧ NoneBelow x0 x1 x2 x3 k ∧ Quad wr w.heap.size x0 x1 x2 x3 ∧ Below w.heap.size w wr)
    (fun i _ => 256 - (intOf i).toNat)
  case atStart => exact ⟨0, by omega, rfl, fun j hj => absurd hj (by omega), Quad.new _ _ _ _ _, (Below.refl _ _).alloc (Nat.le_refl _) _⟩
  case round =>
    obtain ⟨k, hk, rfl, hn, hs, hb⟩ := hrel
    obtain ⟨c0, c1, c2, c3, _⟩ := hs.facts
    by_cases hlt : k < 256
    · cases hh : hasB x0 x1 x2 x3 k
      · have H := Lib.hid hh
        clear hh
        go_wp2_with (go_at_call 55; refine (has_c _ _ _ _ _ _).mono ?_; rintro e w' ⟨rfl, hb'⟩; rw [H.out])
        go_roundw
        case rel => exact ⟨k + 1, by omega, by go_num, hn.next H.out, hs.below hb' hs.lt, hb.trans (hb'.mono hb.size)⟩
        case measure => simp [intOf]; omega
      · have H := Lib.hid hh
        clear hh
        go_wp2_with (go_at_call 55; refine (has_c _ _ _ _ _ _).mono ?_; rintro e w' ⟨rfl, hb'⟩; rw [H.out])
        go_ret
        exact ⟨k, .inr ⟨k, hlt, rfl, H.out, hn⟩, rfl, hb.trans (hb'.mono hb.size)⟩
    · go_wp2
      go_ret
      obtain rfl : k = 256 := by omega
      exact ⟨-1, .inl ⟨rfl, hn⟩, rfl, hb⟩
set_option maxRecDepth 100000 in
set_option maxHeartbeats 1000000 in
theorem rleast_c (x0 x1 x2 x3 : Int) (w : World) :
    Calls Try.prog 98 #[.agg #[.int .u64 x0, .int .u64 x1, .int .u64 x2, .int .u64 x3]] w (LeastOut x0 x1 x2 x3 w) := by
  go_enter Try.func98, Try.ntmps98
  go_wp2
  go_loopw [3] (fun i wr => ∃ k : Nat, k ≤ 256 ∧ i = .int .i64 k ∧ NoneBelow x0 x1 x2 x3 k ∧ Quad wr w.heap.size x0 x1 x2 x3 ∧ Below w.heap.size w wr)
    (fun i _ => 256 - (intOf i).toNat)
  case atStart => exact ⟨0, by omega, rfl, fun j hj => absurd hj (by omega), Quad.new _ _ _ _ _, (Below.refl _ _).alloc (Nat.le_refl _) _⟩
  case round =>
    obtain ⟨k, hk, rfl, hn, hs, hb⟩ := hrel
    obtain ⟨c0, c1, c2, c3, _⟩ := hs.facts
    by_cases hlt : k < 256
    · cases hh : hasB x0 x1 x2 x3 k
      · have H := Lib.hid hh
        clear hh
        go_wp2_with (go_at_call 28; refine (rhas_c _ _ _ _ _ _).mono ?_; rintro e w' ⟨rfl, hb'⟩; rw [H.out])
        go_roundw
        case rel => exact ⟨k + 1, by omega, by go_num, hn.next H.out, hs.below hb' hs.lt, hb.trans (hb'.mono hb.size)⟩
        case measure => simp [intOf]; omega
      · have H := Lib.hid hh
        clear hh
        go_wp2_with (go_at_call 28; refine (rhas_c _ _ _ _ _ _).mono ?_; rintro e w' ⟨rfl, hb'⟩; rw [H.out])
        go_ret
        exact ⟨k, .inr ⟨k, hlt, rfl, H.out, hn⟩, rfl, hb.trans (hb'.mono hb.size)⟩
    · go_wp2
      go_ret
      obtain rfl : k = 256 := by omega
      exact ⟨-1, .inl ⟨rfl, hn⟩, rfl, hb⟩
end Go.Proofs.Ytjikbffnhfoikaa
/- Plain facts that tie Has to the bits of words: sets are equal if Has agrees; how many elements there are. -/
namespace Go.Proofs.Ytjikbffnhfoikaa
open Go.RowKit
theorem bitI_eq (q i : Nat) (hi : i < 64) : bitI ((64 * q + i : Nat) : Int) = ((2 ^ i : Nat) : Int) := by
  unfold bitI
  have e : (((64 * q + i : Nat) : Int) % 64).toNat = i := by omega
  have h : 2 ^ i < 2 ^ 64 := Nat.pow_lt_pow_right (by omega) hi
  rw [e, IntKind.wrap_u64]
  have h2 : ((2 : Int) ^ i) = ((2 ^ i : Nat) : Int) := by simp
  rw [h2]
  generalize 2 ^ i = p at *
  omega
theorem and_pow (X i : Nat) : X &&& 2 ^ i = if X.testBit i then 2 ^ i else 0 := by
  refine Nat.eq_of_testBit_eq fun j => ?_
  rw [Nat.testBit_and, Nat.testBit_two_pow]
  by_cases h : i = j
  · subst h
    cases e : X.testBit i <;> simp
  · cases e : X.testBit i <;> simp [h]
theorem and_bit (X i : Nat) (hi : i < 64) (hX : X < 18446744073709551616) : (bits .and .u64 (X : Int) ((2 ^ i : Nat) : Int) != 0) = X.testBit i := by
  have h : 2 ^ i < 2 ^ 64 := Nat.pow_lt_pow_right (by omega) hi
  have hp : 0 < 2 ^ i := Nat.two_pow_pos i
  rw [u64_and_nat X (2 ^ i) hX h, and_pow]
  generalize 2 ^ i = p at *
  cases X.testBit i
  · rfl
  · simp only [if_true]
    rw [bne_iff_ne]
    omega
/-- Has, word by word -/
theorem has0 (X0 : Nat) (x1 x2 x3 : Int) (i : Nat) (hi : i < 64) (hX : X0 < 18446744073709551616) : hasB X0 x1 x2 x3 ((64 * 0 + i : Nat) : Int) = X0.testBit i := by
  rw [hasB_in (by omega) (by omega), word0 (by omega), bitI_eq 0 i hi, and_bit X0 i hi hX]
theorem has1 (X1 : Nat) (x0 x2 x3 : Int) (i : Nat) (hi : i < 64) (hX : X1 < 18446744073709551616) : hasB x0 X1 x2 x3 ((64 * 1 + i : Nat) : Int) = X1.testBit i := by
  rw [hasB_in (by omega) (by omega), word1 (by omega) (by omega), bitI_eq 1 i hi, and_bit X1 i hi hX]
theorem has2 (X2 : Nat) (x0 x1 x3 : Int) (i : Nat) (hi : i < 64) (hX : X2 < 18446744073709551616) : hasB x0 x1 X2 x3 ((64 * 2 + i : Nat) : Int) = X2.testBit i := by
  rw [hasB_in (by omega) (by omega), word2 (by omega) (by omega), bitI_eq 2 i hi, and_bit X2 i hi hX]
theorem has3 (X3 : Nat) (x0 x1 x2 : Int) (i : Nat) (hi : i < 64) (hX : X3 < 18446744073709551616) : hasB x0 x1 x2 X3 ((64 * 3 + i : Nat) : Int) = X3.testBit i := by
  rw [hasB_in (by omega) (by omega), word3 (by omega), bitI_eq 3 i hi, and_bit X3 i hi hX]
theorem word_ext {X Y : Nat} (hX : X < 18446744073709551616) (hY : Y < 18446744073709551616) (h : ∀ i, i < 64 → X.testBit i = Y.testBit i) : X = Y := by
  refine Nat.eq_of_testBit_eq fun i => ?_
  by_cases hi : i < 64
  · exact h i hi
  · have hp : (2 : Nat) ^ 64 ≤ 2 ^ i := Nat.pow_le_pow_right (by omega) (by omega)
    rw [Nat.testBit_lt_two_pow (Nat.lt_of_lt_of_le hX hp), Nat.testBit_lt_two_pow (Nat.lt_of_lt_of_le hY hp)]
theorem nat_of {x : Int} (h : U64 x) : ∃ X : Nat, x = X ∧ X < 18446744073709551616 := ⟨x.toNat, by have := h.1; omega, by have := h.2; omega⟩
theorem sets_ext {x0 x1 x2 x3 y0 y1 y2 y3 : Int} (h0 : U64 x0) (h1 : U64 x1) (h2 : U64 x2) (h3 : U64 x3) (k0 : U64 y0) (k1 : U64 y1) (k2 : U64 y2) (k3 : U64 y3)
    (h : ∀ n : Nat, n < 256 → hasB x0 x1 x2 x3 n = hasB y0 y1 y2 y3 n) : x0 = y0 ∧ x1 = y1 ∧ x2 = y2 ∧ x3 = y3 := by
  obtain ⟨X0, rfl, a0⟩ := nat_of h0
  obtain ⟨X1, rfl, a1⟩ := nat_of h1
  obtain ⟨X2, rfl, a2⟩ := nat_of h2
  obtain ⟨X3, rfl, a3⟩ := nat_of h3
  obtain ⟨Y0, rfl, b0⟩ := nat_of k0
  obtain ⟨Y1, rfl, b1⟩ := nat_of k1
  obtain ⟨Y2, rfl, b2⟩ := nat_of k2
  obtain ⟨Y3, rfl, b3⟩ := nat_of k3
  refine ⟨congrArg Int.ofNat (word_ext a0 b0 fun i hi => ?_), congrArg Int.ofNat (word_ext a1 b1 fun i hi => ?_), congrArg Int.ofNat (word_ext a2 b2 fun i hi => ?_), congrArg Int.ofNat (word_ext a3 b3 fun i hi => ?_)⟩
  · have e := h (64 * 0 + i) (by omega); rwa [has0 X0 _ _ _ i hi a0, has0 Y0 _ _ _ i hi b0] at e
  · have e := h (64 * 1 + i) (by omega); rwa [has1 X1 _ _ _ i hi a1, has1 Y1 _ _ _ i hi b1] at e
  · have e := h (64 * 2 + i) (by omega); rwa [has2 X2 _ _ _ i hi a2, has2 Y2 _ _ _ i hi b2] at e
  · have e := h (64 * 3 + i) (by omega); rwa [has3 X3 _ _ _ i hi a3, has3 Y3 _ _ _ i hi b3] at e
end Go.Proofs.Ytjikbffnhfoikaa
/- Contracts of Union, Meet and Minus of package bitset and of its reference. No conditions. -/
namespace Go.Proofs.Ytjikbffnhfoikaa
open Go.RowKit
set_option maxHeartbeats 1000000 in
theorem union_c (x0 x1 x2 x3 y0 y1 y2 y3 : Int) (w : World) :
    Calls Try.prog 77 #[.agg #[.int .u64 x0, .int .u64 x1, .int .u64 x2, .int .u64 x3], .agg #[.int .u64 y0, .int .u64 y1, .int .u64 y2, .int .u64 y3]] w fun e w' =>
      e = .returned (.agg #[.int .u64 (bits .or .u64 x0 y0), .int .u64 (bits .or .u64 x1 y1), .int .u64 (bits .or .u64 x2 y2), .int .u64 (bits .or .u64 x3 y3)]) ∧ Below w.heap.size w w' := by
  go_enter Try.func77, Try.ntmps77
  go_wp2
  refine wp_loop_rounds 5 ?_
  iterate 4 (rw [rounds_succ]; go_wp2; go_region; go_wp2)
  rw [rounds_succ]
  go_wp2
  exact bodyPost_ret (v := .agg #[.int .u64 (bits .or .u64 x0 y0), .int .u64 (bits .or .u64 x1 y1), .int .u64 (bits .or .u64 x2 y2), .int .u64 (bits .or .u64 x3 y3)]) (by simp [results, Try.results77, go_sem]) rfl ⟨rfl, ((((((((Below.refl _ _).alloc (Nat.le_refl _) _).alloc (by simp) _).alloc (by simp; omega) _).drew).drew).drew).drew)⟩
end Go.Proofs.Ytjikbffnhfoikaa
/- Contracts of Within, Of and All of package bitset and of its reference; equality of sets, as the walk meets it. -/
namespace Go.Proofs.Ytjikbffnhfoikaa
open Go.RowKit
/-- equality of two sets, word by word; closed to the walk -/
def same4 (a b c d a' b' c' d' : Int) : Bool := decide (a = a' ∧ b = b' ∧ c = c' ∧ d = d')
@[go_sem] theorem same4_self (a b c d : Int) : same4 a b c d a b c d = true := by simp [same4]
@[go_sem] theorem eqSet (a b c d a' b' c' d' : Int) (w : World) :
    (Op.equalIn 10000 24 (.agg #[.int .u64 a, .int .u64 b, .int .u64 c, .int .u64 d]) (.agg #[.int .u64 a', .int .u64 b', .int .u64 c', .int .u64 d'])).run Try.prog w = .ok (same4 a b c d a' b' c' d') w := by
  have u3 := Try.underlying22
  have a3 := Try.isAgg22
  have z3 := Try.sizeOf22
  rw [show (10000 : Nat) = 9999 + 1 from rfl, Op.equalIn]
  simp only [Sem.run_bind, run_underlying Try.underlying24, Result.andThen_ok]
  simp only [Std.Legacy.Range.forIn_eq_forIn_range', Std.Legacy.Range.size, Nat.sub_zero, Nat.add_sub_cancel, Nat.div_one, List.range'_succ, List.range'_zero, List.forIn_cons, List.forIn_nil]
  go_simp
  by_cases h1 : a = a' <;> by_cases h2 : b = b' <;> by_cases h3 : c = c' <;> by_cases h4 : d = d' <;> simp [h1, h2, h3, h4, same4]
@[go_sem] theorem setZero (w : World) : (Instr.build 24 #[]).run Try.prog w = .ok (.agg #[.int .u64 0, .int .u64 0, .int .u64 0, .int .u64 0]) w := run_build w 24 _ _ (by kernel_rfl)
@[go_sem] theorem setTwo (a b : Int) (w : World) : (Instr.build 24 #[(0, .int .u64 a), (1, .int .u64 b)]).run Try.prog w = .ok (.agg #[.int .u64 a, .int .u64 b, .int .u64 0, .int .u64 0]) w := run_build w 24 _ _ (by kernel_rfl)
theorem bcell {W w1 : World} (hb : Below W.heap.size W w1) : (∀ b o, b < W.heap.size → w1.cell? ⟨b, o, none⟩ = W.cell? ⟨b, o, none⟩) ∧ (∀ b o, b < W.heap.size → w1.frozen? ⟨b, o, none⟩ = W.frozen? ⟨b, o, none⟩) :=
  ⟨fun b o h => hb.cell (p := ⟨b, o, none⟩) h, fun b o h => hb.frozen (p := ⟨b, o, none⟩) h⟩

end Go.Proofs.Ytjikbffnhfoikaa
/- Words as bit vectors: the laws of algebra. No Go text walked here. -/
namespace Go.Proofs.Ytjikbffnhfoikaa
open Go.RowKit
theorem u64_bv {x : Int} (h : U64 x) : ∃ b : BitVec 64, x = (b.toNat : Int) := by
  obtain ⟨X, rfl, hX⟩ := nat_of h
  exact ⟨BitVec.ofNat 64 X, by rw [BitVec.toNat_ofNat, Nat.mod_eq_of_lt (by omega)]⟩
theorem bv_u64 (b : BitVec 64) : U64 (b.toNat : Int) := by
  have := b.isLt
  unfold U64
  omega
theorem ofInt_bv (b : BitVec 64) : BitVec.ofInt 64 (b.toNat : Int) = b := by
  rw [BitVec.ofInt_natCast, BitVec.ofNat_toNat, BitVec.setWidth_eq]
theorem wrap_bv (b : BitVec 64) : IntKind.u64.wrap (b.toNat : Int) = (b.toNat : Int) := by
  have := b.isLt
  rw [IntKind.wrap_u64]
  omega
theorem bv_and (b c : BitVec 64) : bits .and .u64 (b.toNat : Int) (c.toNat : Int) = ((b &&& c).toNat : Int) := by
  show IntKind.u64.wrap ((BitVec.ofInt 64 (b.toNat : Int) &&& BitVec.ofInt 64 (c.toNat : Int)).toNat : Int) = _
  rw [ofInt_bv, ofInt_bv, wrap_bv]
theorem bv_or (b c : BitVec 64) : bits .or .u64 (b.toNat : Int) (c.toNat : Int) = ((b ||| c).toNat : Int) := by
  show IntKind.u64.wrap ((BitVec.ofInt 64 (b.toNat : Int) ||| BitVec.ofInt 64 (c.toNat : Int)).toNat : Int) = _
  rw [ofInt_bv, ofInt_bv, wrap_bv]
theorem bv_andNot (b c : BitVec 64) : bits .andNot .u64 (b.toNat : Int) (c.toNat : Int) = ((b &&& ~~~c).toNat : Int) := by
  show IntKind.u64.wrap ((BitVec.ofInt 64 (b.toNat : Int) &&& ~~~BitVec.ofInt 64 (c.toNat : Int)).toNat : Int) = _
  rw [ofInt_bv, ofInt_bv, wrap_bv]
theorem bv_inj {b c : BitVec 64} : (b.toNat : Int) = (c.toNat : Int) ↔ b = c := by
  rw [Int.ofNat_inj, BitVec.toNat_inj]
theorem and_u64 {x y : Int} (h : U64 x) (k : U64 y) : U64 (bits .and .u64 x y) := by
  obtain ⟨b, rfl⟩ := u64_bv h
  obtain ⟨c, rfl⟩ := u64_bv k
  rw [bv_and]; exact bv_u64 _
theorem or_u64 {x y : Int} (h : U64 x) (k : U64 y) : U64 (bits .or .u64 x y) := by
  obtain ⟨b, rfl⟩ := u64_bv h
  obtain ⟨c, rfl⟩ := u64_bv k
  rw [bv_or]; exact bv_u64 _
theorem andNot_u64 {x y : Int} (h : U64 x) (k : U64 y) : U64 (bits .andNot .u64 x y) := by
  obtain ⟨b, rfl⟩ := u64_bv h
  obtain ⟨c, rfl⟩ := u64_bv k
  rw [bv_andNot]; exact bv_u64 _
theorem and_eq_iff {x y : Int} (h : U64 x) (k : U64 y) : bits .and .u64 x y = x ↔ bits .andNot .u64 x y = 0 := by
  obtain ⟨b, rfl⟩ := u64_bv h
  obtain ⟨c, rfl⟩ := u64_bv k
  have z : ((0 : Int)) = ((0#64).toNat : Int) := rfl
  rw [bv_and, bv_andNot, z, bv_inj, bv_inj]
  constructor
  · intro e
    rw [← e]
    ext i hi
    simp
  · intro e
    ext i hi
    have := congrArg (fun v : BitVec 64 => v.getLsbD i) e
    simp [hi] at this
    simp
    intro hb
    exact this hb
theorem and_and_self {x y : Int} (h : U64 x) (k : U64 y) : bits .and .u64 (bits .and .u64 x y) x = bits .and .u64 x y := by
  obtain ⟨b, rfl⟩ := u64_bv h
  obtain ⟨c, rfl⟩ := u64_bv k
  rw [bv_and, bv_and, bv_inj]
  ext i hi
  simp
  intro hb _
  exact hb
theorem within_eq {x0 x1 x2 x3 y0 y1 y2 y3 : Int} (h0 : U64 x0) (h1 : U64 x1) (h2 : U64 x2) (h3 : U64 x3) (k0 : U64 y0) (k1 : U64 y1) (k2 : U64 y2) (k3 : U64 y3) :
    same4 (bits .andNot .u64 x0 y0) (bits .andNot .u64 x1 y1) (bits .andNot .u64 x2 y2) (bits .andNot .u64 x3 y3) 0 0 0 0 =
      same4 (bits .and .u64 x0 y0) (bits .and .u64 x1 y1) (bits .and .u64 x2 y2) (bits .and .u64 x3 y3) x0 x1 x2 x3 := by
  simp only [same4, and_eq_iff h0 k0, and_eq_iff h1 k1, and_eq_iff h2 k2, and_eq_iff h3 k3]
end Go.Proofs.Ytjikbffnhfoikaa
/- Contracts of List of package bitset and of its reference, and of the reference's Count and Ints. Condition: words are uint64s. -/
namespace Go.Proofs.Ytjikbffnhfoikaa
open Go.RowKit
/-- the elements below k, ascending -/
def elems (x0 x1 x2 x3 : Int) (k : Nat) : List Int := (below k).filter (hasB x0 x1 x2 x3)
theorem elems_le (x0 x1 x2 x3 : Int) (k : Nat) : (elems x0 x1 x2 x3 k).length ≤ k := by
  have h := List.length_filter_le (hasB x0 x1 x2 x3) (below k)
  have e : (below k).length = k := by simp [below]
  unfold elems
  omega
theorem below_succ (k : Nat) : below (k + 1) = below k ++ [(k : Int)] := by unfold below; rw [List.range_succ, List.map_append]; rfl
theorem elems_hit {x0 x1 x2 x3 : Int} {k : Nat} (h : hasB x0 x1 x2 x3 k = true) : elems x0 x1 x2 x3 (k + 1) = elems x0 x1 x2 x3 k ++ [(k : Int)] := by
  unfold elems; rw [below_succ, List.filter_append]; simp [h]
theorem elems_miss {x0 x1 x2 x3 : Int} {k : Nat} (h : hasB x0 x1 x2 x3 k = false) : elems x0 x1 x2 x3 (k + 1) = elems x0 x1 x2 x3 k := by
  unfold elems; rw [below_succ, List.filter_append]; simp [h]
/-- a slice of ints of the call's own -/
def Own (w : World) (base : Nat) (v : Value) (l : List Int) : Prop := w.ownsRow base 3 1 v l.length (l.map (Value.int .i64))
theorem Own.below {w w' : World} {base : Nat} {v : Value} {l : List Int} (h : Own w base v l) (hb : Below w.heap.size w w') : Own w' base v l := by
  refine ⟨h.1, ?_⟩
  rcases h.2 with h2 | ⟨g, cap, cur, hv, hg, hh, r⟩
  · exact .inl h2
  · have hlt : g < w.heap.size := by
      rcases Nat.lt_or_ge g w.heap.size with hlt | hge
      · exact hlt
      · rw [Array.getElem?_eq_none hge] at hh; cases hh
    exact .inr ⟨g, cap, cur, hv, hg, (hb.block g hlt).trans hh, r⟩
/-- .. as a slice that lies in memory -/
theorem Own.ints {w : World} {base : Nat} {v : Value} {l : List Int} (h : Own w base v l) : ∃ A cap, v = .slice A l.length cap ∧ Ints w A l := by
  rcases h.2 with ⟨hv, hn⟩ | ⟨g, cap, cur, hv, hg, hh, hnc, hcm, hsz, htake⟩
  · exact ⟨none, 0, by rw [hv, hn], fun i hi => absurd hi (by omega)⟩
  · refine ⟨some ⟨g, 0, none⟩, cap, hv, fun i hi => ⟨g, 0, rfl, ?_, ?_⟩⟩
    · have hx : (l.map (Value.int .i64))[i]? = some (.int .i64 (l.getD i 0)) := by simp [hi]
      rw [Nat.zero_add, cell_of_row w g i cur _ _ hh]
      rw [← htake, List.getElem?_take_of_lt (by omega)] at hx
      simpa using hx
    · rcases Nat.lt_or_ge g w.heap.size with hlt | hge
      · exact hlt
      · rw [Array.getElem?_eq_none hge] at hh; cases hh
theorem Try.infoInt : (Try.prog.info? 3).map (fun i => (i.zero, i.size, i.bytes)) = some (some (.int .i64 0), 1, 8) := by kernel_rfl
/-- the outcome of List -/
def ListOut (x0 x1 x2 x3 : Int) (w : World) (e : Ending) (w' : World) : Prop := ∃ v, Own w' w.heap.size v (elems x0 x1 x2 x3 256) ∧ e = .returned v ∧ Below w.heap.size w w'
theorem one_new {w : World} {t : TypeId} {u : Value} : ∀ j x, [u][j]? = some x → (w.alloc (.cells #[u] t)).cell? ((⟨w.heap.size, 0, none⟩ : Addr).add j) = some x := fun j x h => cell_one_new _ _ _ j x h
set_option maxRecDepth 100000 in
set_option maxHeartbeats 2000000 in
theorem rlist_c (x0 x1 x2 x3 : Int) (w : World) :
    Calls Try.prog 57 #[.agg #[.int .u64 x0, .int .u64 x1, .int .u64 x2, .int .u64 x3]] w (ListOut x0 x1 x2 x3 w) := by
  obtain ⟨i0, hi, hz0, hz1, hz2⟩ := info_parts Try.infoInt
  go_enter Try.func57, Try.ntmps57
  go_wp2
  go_loopw [3, 4] (fun v i wr => ∃ (k : Nat) (vv : Value), vv = v ∧ k ≤ 256 ∧ i = .int .i64 k ∧ Own wr (w.heap.size + 1) vv (elems x0 x1 x2 x3 k) ∧ Quad wr w.heap.size x0 x1 x2 x3 ∧ Below w.heap.size w wr)
    (fun _ i _ => 256 - (intOf i).toNat)
  case atStart => exact ⟨0, _, rfl, by omega, rfl, World.ownsRow_nil _ _ _ _, Quad.new _ _ _ _ _, (Below.refl _ _).alloc (Nat.le_refl _) _⟩
  case round =>
    obtain ⟨k, v, rfl, hk, rfl, hown, hs, hb⟩ := hrel
    obtain ⟨c0, c1, c2, c3, _⟩ := hs.facts
    have hle := elems_le x0 x1 x2 x3 k
    by_cases hlt : k < 256
    · cases hh : hasB x0 x1 x2 x3 k
      · have H := Lib.hid hh
        clear hh
        go_wp2_with (go_at_call 28; refine (rhas_c _ _ _ _ _ _).mono ?_; rintro e w' ⟨rfl, hb'⟩; rw [H.out])
        go_roundw
        case rel => exact ⟨k + 1, _, rfl, by omega, by go_num, by rw [elems_miss H.out]; exact hown.below hb', hs.below hb' hs.lt, hb.trans (hb'.mono hb.size)⟩
        case measure => simp [intOf]; omega
      · have H := Lib.hid hh
        clear hh
        go_wp2_with (first
          | (go_at_call 28; refine (rhas_c _ _ _ _ _ _).mono ?_; rintro e w' ⟨rfl, hb'⟩; rw [H.out]; have hown' := hown.below hb'; have hsz' := hb'.size; have hsl := hs.lt)
          | (at_builtin; refine wpList_append_own _ rfl _ _ 64 rfl (w.heap.size + 1) 3 i0 (.int .i64 0) 1 8 Try.underlying64 hi hz0 hz1 hz2 rfl (by decide) _ _ _ rfl (World.ownsRow.alloc hown' _) ⟨_, 0, none⟩ 1 1 [.int .i64 k] rfl rfl ?c1 ?c2 ?c3 ?c4 ?c5 ?_))
        case c1 => exact one_new
        case c2 => intro u hu; simp at hu; subst hu; rfl
        case c3 => unfold maxLen; omega
        case c4 => omega
        case c5 => simp; omega
        · intro v' w1 hown2 hgrow _
          have R : Own w1 (w.heap.size + 1) v' (elems x0 x1 x2 x3 (k + 1)) := by
            rw [elems_hit H.out]
            unfold Own
            simpa using hown2
          have hlo : ∀ g, v.ownBlock = some g → w.heap.size + 1 ≤ g := fun g hg => (World.ownsRow.lt hown g hg).1
          have B1 := (((hb.trans (hb'.mono hb.size)).alloc (Nat.le_trans hb.size hb'.size) _).grown hgrow (by simp; omega) (fun g hg => by have := hlo g hg; omega))
          have S1 : Quad w1 w.heap.size x0 x1 x2 x3 := by
            refine (hgrow.block w.heap.size (by simp; omega) (fun e => ?_)).trans ((hs.below hb' hs.lt).alloc _)
            have := hlo _ e.symm
            omega
          clear hown2 hgrow hown'
          go_wp2
          go_roundw
          case rel => exact ⟨k + 1, _, rfl, by omega, by go_num, R, S1, B1⟩
          case measure => simp [intOf]; omega
    · obtain rfl : k = 256 := by omega
      go_wp2
      go_ret
      exact ⟨v, ⟨hown.1, hown.2.imp id (fun ⟨g, r1, r2, r3, r4, r5⟩ => ⟨g, r1, r2, r3, Nat.le_of_succ_le r4, r5⟩)⟩, rfl, hb⟩
set_option maxRecDepth 100000 in
set_option maxHeartbeats 2000000 in
theorem list_c (x0 x1 x2 x3 : Int) (w : World) (h0 : U64 x0) (h1 : U64 x1) (h2 : U64 x2) (h3 : U64 x3) :
    Calls Try.prog 26 #[.agg #[.int .u64 x0, .int .u64 x1, .int .u64 x2, .int .u64 x3]] w (ListOut x0 x1 x2 x3 w) := by
  obtain ⟨i0, hi, hz0, hz1, hz2⟩ := info_parts Try.infoInt
  go_enter Try.func26, Try.ntmps26
  have hN := onesI_le x0 x1 x2 x3
  have hC : onesI x0 x1 x2 x3 = ((pc 64 x0.toNat + pc 64 x1.toNat + pc 64 x2.toNat + pc 64 x3.toNat : Nat) : Int) := rfl
  obtain ⟨N, hNe⟩ : ∃ N, N = pc 64 x0.toNat + pc 64 x1.toNat + pc 64 x2.toNat + pc 64 x3.toNat := ⟨_, rfl⟩
  rw [← hNe] at hC
  clear hNe
  have HC := Lib.hid hC
  have hN2 : N ≤ 256 := by omega
  clear hC hN
  go_wp2_with (first
    | (go_at_call 54; refine (count_c _ _ _ _ _ h0 h1 h2 h3).mono ?_; rintro e w0 ⟨rfl, hb0⟩; rw [HC.out])
    | (at_make; refine wpList_make_own _ rfl _ _ 64 rfl (w.heap.size + 1) 3 i0 (.int .i64 0) 1 Try.underlying64 hi hz0 hz1 _ _ _ N rfl rfl rfl ?d1 ?d2 ?d3 ?_))
  case d1 => rw [hz2]; omega
  case d2 => unfold maxLen; omega
  case d3 => have := hb0.size; simpa using this
  intro wm hmade hgm
  have hb1 : Below w.heap.size w wm := (((Below.refl _ _).alloc (Nat.le_refl _) _).trans (hb0.mono (by simp))).grown hgm (by have := hb0.size; simp at this; omega) (fun _ h => by cases h)
  have hq1 : Quad wm w.heap.size x0 x1 x2 x3 := (hgm.block w.heap.size (by have := hb0.size; simp at this; omega) (by simp)).trans (Quad.below (Quad.new w x0 x1 x2 x3) hb0 (by simp))
  clear hgm
  go_wp2
  go_loopw [3, 8] (fun v i wr => ∃ (k : Nat) (vv : Value), vv = v ∧ k ≤ 256 ∧ i = .int .i64 k ∧ Own wr (w.heap.size + 1) vv (elems x0 x1 x2 x3 k) ∧ Quad wr w.heap.size x0 x1 x2 x3 ∧ Below w.heap.size w wr)
    (fun _ i _ => 256 - (intOf i).toNat)
  case atStart => exact ⟨0, _, rfl, by omega, rfl, hmade, hq1, hb1⟩
  case round =>
    obtain ⟨k, v, rfl, hk, rfl, hown, hs, hb⟩ := hrel
    obtain ⟨c0, c1, c2, c3, _⟩ := hs.facts
    have hle := elems_le x0 x1 x2 x3 k
    by_cases hlt : k < 256
    · cases hh : hasB x0 x1 x2 x3 k
      · have H := Lib.hid hh
        clear hh
        go_wp2_with (go_at_call 55; refine (has_c _ _ _ _ _ _).mono ?_; rintro e w' ⟨rfl, hb'⟩; rw [H.out])
        go_roundw
        case rel => exact ⟨k + 1, _, rfl, by omega, by go_num, by rw [elems_miss H.out]; exact hown.below hb', hs.below hb' hs.lt, hb.trans (hb'.mono hb.size)⟩
        case measure => simp [intOf]; omega
      · have H := Lib.hid hh
        clear hh
        go_wp2_with (first
          | (go_at_call 55; refine (has_c _ _ _ _ _ _).mono ?_; rintro e w' ⟨rfl, hb'⟩; rw [H.out]; have hown' := hown.below hb'; have hsz' := hb'.size; have hsl := hs.lt)
          | (at_builtin; refine wpList_append_own _ rfl _ _ 64 rfl (w.heap.size + 1) 3 i0 (.int .i64 0) 1 8 Try.underlying64 hi hz0 hz1 hz2 rfl (by decide) _ _ _ rfl (World.ownsRow.alloc hown' _) ⟨_, 0, none⟩ 1 1 [.int .i64 k] rfl rfl ?c1 ?c2 ?c3 ?c4 ?c5 ?_))
        case c1 => exact one_new
        case c2 => intro u hu; simp at hu; subst hu; rfl
        case c3 => unfold maxLen; omega
        case c4 => omega
        case c5 => simp; omega
        · intro v' w1 hown2 hgrow _
          have R : Own w1 (w.heap.size + 1) v' (elems x0 x1 x2 x3 (k + 1)) := by
            rw [elems_hit H.out]
            unfold Own
            simpa using hown2
          have hlo : ∀ g, v.ownBlock = some g → w.heap.size + 1 ≤ g := fun g hg => (World.ownsRow.lt hown g hg).1
          have B1 := (((hb.trans (hb'.mono hb.size)).alloc (Nat.le_trans hb.size hb'.size) _).grown hgrow (by simp; omega) (fun g hg => by have := hlo g hg; omega))
          have S1 : Quad w1 w.heap.size x0 x1 x2 x3 := by
            refine (hgrow.block w.heap.size (by simp; omega) (fun e => ?_)).trans ((hs.below hb' hs.lt).alloc _)
            have := hlo _ e.symm
            omega
          clear hown2 hgrow hown'
          go_wp2
          go_roundw
          case rel => exact ⟨k + 1, _, rfl, by omega, by go_num, R, S1, B1⟩
          case measure => simp [intOf]; omega
    · obtain rfl : k = 256 := by omega
      go_wp2
      go_ret
      exact ⟨v, ⟨hown.1, hown.2.imp id (fun ⟨g, r1, r2, r3, r4, r5⟩ => ⟨g, r1, r2, r3, Nat.le_of_succ_le r4, r5⟩)⟩, rfl, hb⟩
set_option maxHeartbeats 400000 in
theorem rcount_c (x0 x1 x2 x3 : Int) (w : World) :
    Calls Try.prog 30 #[.agg #[.int .u64 x0, .int .u64 x1, .int .u64 x2, .int .u64 x3]] w fun e w' => e = .returned (.int .i64 (elems x0 x1 x2 x3 256).length) ∧ Below w.heap.size w w' := by
  go_enter Try.func30, Try.ntmps30
  go_wp2_with (go_at_call 57; refine (rlist_c _ _ _ _ _).mono ?_; rintro e w0 ⟨v, hv, rfl, hb0⟩; obtain ⟨A, cap, rfl, _⟩ := hv.ints)
  go_ret
  exact ⟨rfl, ((Below.refl _ _).alloc (Nat.le_refl _) _).trans (hb0.mono (by simp))⟩
theorem getD_of {l : List Int} {k : Nat} (h : k < l.length) : l.getD k 0 = l[k] := by simp [h]
theorem list_ne {a b : List Int} {k : Nat} (ha : k < a.length) (hb : k < b.length) (h : a[k] ≠ b[k]) : decide (a = b) = false := by
  refine decide_eq_false fun e => h ?_
  subst e
  rfl
theorem list_eq {a b : List Int} (hl : a.length = b.length) (h : ∀ i (ha : i < a.length) (hb : i < b.length), a[i] = b[i]) : a = b := List.ext_getElem hl h
end Go.Proofs.Ytjikbffnhfoikaa
/- Plain facts on lists of elements: how long they are, and that they make up the set; the least element. -/
namespace Go.Proofs.Ytjikbffnhfoikaa
open Go.RowKit
theorem least_upTo (x0 x1 x2 x3 : Int) : ∀ k, k ≤ 256 → NoneBelow x0 x1 x2 x3 k ∨ ∃ j : Nat, j < 256 ∧ hasB x0 x1 x2 x3 j = true ∧ NoneBelow x0 x1 x2 x3 j
  | 0, _ => .inl fun _ h => absurd h (by omega)
  | k + 1, hk => by
    rcases least_upTo x0 x1 x2 x3 k (by omega) with h | h
    · cases hh : hasB x0 x1 x2 x3 k
      · exact .inl (h.next hh)
      · exact .inr ⟨k, by omega, hh, h⟩
    · exact .inr h
theorem least_ex (x0 x1 x2 x3 : Int) : ∃ m, IsLeast x0 x1 x2 x3 m := by
  rcases least_upTo x0 x1 x2 x3 256 (by omega) with h | ⟨j, hj, ht, hn⟩
  · exact ⟨-1, .inl ⟨rfl, h⟩⟩
  · exact ⟨j, .inr ⟨j, hj, rfl, ht, hn⟩⟩
theorem elems_word {x0 x1 x2 x3 : Int} (X q : Nat) (h : ∀ i, i < 64 → hasB x0 x1 x2 x3 ((64 * q + i : Nat) : Int) = X.testBit i) :
    ∀ i, i ≤ 64 → (elems x0 x1 x2 x3 (64 * q + i)).length = (elems x0 x1 x2 x3 (64 * q)).length + pc i X
  | 0, _ => rfl
  | i + 1, hi => by
    have ih := elems_word X q h i (by omega)
    have e := h i (by omega)
    show (elems x0 x1 x2 x3 ((64 * q + i) + 1)).length = (elems x0 x1 x2 x3 (64 * q)).length + (pc i X + (X.testBit i).toNat)
    cases hb : X.testBit i
    · rw [elems_miss (by rw [e, hb]), ih]; rfl
    · rw [elems_hit (by rw [e, hb]), List.length_append, ih]; rfl
theorem elems_count {x0 x1 x2 x3 : Int} (h0 : U64 x0) (h1 : U64 x1) (h2 : U64 x2) (h3 : U64 x3) : ((elems x0 x1 x2 x3 256).length : Int) = onesI x0 x1 x2 x3 := by
  obtain ⟨X0, rfl, a0⟩ := nat_of h0
  obtain ⟨X1, rfl, a1⟩ := nat_of h1
  obtain ⟨X2, rfl, a2⟩ := nat_of h2
  obtain ⟨X3, rfl, a3⟩ := nat_of h3
  have e0 := elems_word X0 0 (fun i hi => has0 X0 X1 X2 X3 i hi a0) 64 (by omega)
  have e1 := elems_word X1 1 (fun i hi => has1 X1 X0 X2 X3 i hi a1) 64 (by omega)
  have e2 := elems_word X2 2 (fun i hi => has2 X2 X0 X1 X3 i hi a2) 64 (by omega)
  have e3 := elems_word X3 3 (fun i hi => has3 X3 X0 X1 X2 i hi a3) 64 (by omega)
  have z : (elems X0 X1 X2 X3 (64 * 0)).length = 0 := rfl
  simp only [show 64 * 3 + 64 = 256 from rfl, show 64 * 2 + 64 = 64 * 3 from rfl, show 64 * 1 + 64 = 64 * 2 from rfl, show 64 * 0 + 64 = 64 * 1 from rfl] at e0 e1 e2 e3
  unfold onesI
  simp only [Int.toNat_natCast]
  omega
theorem withI_nat (n q : Nat) (x : Nat) (hx : x < 18446744073709551616) : ∃ y : Nat, withI n q x = y ∧ y < 18446744073709551616 ∧ ∀ i, i < 64 → y.testBit i = (x.testBit i || decide (64 * q + i = n)) := by
  by_cases h : 64 * q ≤ n ∧ n < 64 * q + 64
  · obtain ⟨j, rfl⟩ : ∃ j, n = 64 * q + j := ⟨n - 64 * q, by omega⟩
    have hj : j < 64 := by omega
    have hp : 2 ^ j < 2 ^ 64 := Nat.pow_lt_pow_right (by omega) hj
    refine ⟨x ||| 2 ^ j, ?_, Nat.or_lt_two_pow (n := 64) hx hp, fun i hi => ?_⟩
    · rw [withI_in (by omega) (by omega), bitI_eq q j hj, u64_or_nat x (2 ^ j) hx hp]
    · rw [Nat.testBit_or, Nat.testBit_two_pow]
      congr 1
      exact decide_eq_decide.2 ⟨fun e => by omega, fun e => by omega⟩
  · refine ⟨x, withI_out (by omega), hx, fun i hi => ?_⟩
    rw [decide_eq_false (by omega), Bool.or_false]
theorem ofI_nat (q : Nat) : ∀ (l : List Nat) (x : Nat), x < 18446744073709551616 → ∃ y : Nat, (l.map (fun (n : Nat) => (n : Int))).foldl (fun x n => withI n q x) (x : Int) = y ∧ y < 18446744073709551616 ∧ ∀ i, i < 64 → y.testBit i = (x.testBit i || decide (64 * q + i ∈ l))
  | [], x, hx => ⟨x, rfl, hx, fun i _ => by simp⟩
  | n :: l, x, hx => by
    obtain ⟨y, e, hy, hb⟩ := withI_nat n q x hx
    obtain ⟨z, e', hz, hb'⟩ := ofI_nat q l y hy
    refine ⟨z, by rw [List.map_cons, List.foldl_cons, e, e'], hz, fun i hi => ?_⟩
    rw [hb' i hi, hb i hi, Bool.or_assoc]
    congr 1
    by_cases h1 : 64 * q + i = n <;> by_cases h2 : 64 * q + i ∈ l <;> simp [h1, h2] <;> simp_all
/-- the elements as natural numbers -/
def elemsN (x0 x1 x2 x3 : Int) : List Nat := (List.range 256).filter fun (n : Nat) => hasB x0 x1 x2 x3 (n : Int)
theorem elems_map' (x0 x1 x2 x3 : Int) (k : Nat) : elems x0 x1 x2 x3 k = ((List.range k).filter fun (n : Nat) => hasB x0 x1 x2 x3 (n : Int)).map fun (n : Nat) => (n : Int) := by
  unfold elems Proofs.Ytjikbffnhfoikaa.below
  rw [List.filter_map]
  simp only [Function.comp_def]
theorem elems_map (x0 x1 x2 x3 : Int) : elems x0 x1 x2 x3 256 = (elemsN x0 x1 x2 x3).map fun (n : Nat) => (n : Int) := elems_map' x0 x1 x2 x3 256
theorem ofI_elems {x0 x1 x2 x3 : Int} (X q : Nat) (hq : q < 4) (hX : X < 18446744073709551616) (h : ∀ i, i < 64 → hasB x0 x1 x2 x3 ((64 * q + i : Nat) : Int) = X.testBit i) :
    ofI (elems x0 x1 x2 x3 256) q = X := by
  obtain ⟨y, e, hy, hb⟩ := ofI_nat q (elemsN x0 x1 x2 x3) 0 (by omega)
  have e' : ofI (elems x0 x1 x2 x3 256) q = y := by rw [elems_map]; exact e
  rw [e']
  refine congrArg Int.ofNat (word_ext hy hX fun i hi => ?_)
  rw [hb i hi, Nat.zero_testBit, Bool.false_or]
  have hm : 64 * q + i ∈ elemsN x0 x1 x2 x3 ↔ hasB x0 x1 x2 x3 ((64 * q + i : Nat) : Int) = true := by
    unfold elemsN
    rw [List.mem_filter, List.mem_range]
    exact ⟨fun h => h.2, fun h => ⟨by omega, h⟩⟩
  rw [← h i hi]
  cases hh : hasB x0 x1 x2 x3 ((64 * q + i : Nat) : Int)
  · exact decide_eq_false (by rw [hm, hh]; simp)
  · exact decide_eq_true (by rw [hm, hh])
theorem ofI_all {x0 x1 x2 x3 : Int} (h0 : U64 x0) (h1 : U64 x1) (h2 : U64 x2) (h3 : U64 x3) :
    ofI (elems x0 x1 x2 x3 256) 0 = x0 ∧ ofI (elems x0 x1 x2 x3 256) 1 = x1 ∧ ofI (elems x0 x1 x2 x3 256) 2 = x2 ∧ ofI (elems x0 x1 x2 x3 256) 3 = x3 := by
  obtain ⟨X0, rfl, a0⟩ := nat_of h0
  obtain ⟨X1, rfl, a1⟩ := nat_of h1
  obtain ⟨X2, rfl, a2⟩ := nat_of h2
  obtain ⟨X3, rfl, a3⟩ := nat_of h3
  exact ⟨ofI_elems X0 0 (by omega) a0 fun i hi => has0 X0 X1 X2 X3 i hi a0, ofI_elems X1 1 (by omega) a1 fun i hi => has1 X1 X0 X2 X3 i hi a1,
    ofI_elems X2 2 (by omega) a2 fun i hi => has2 X2 X0 X1 X3 i hi a2, ofI_elems X3 3 (by omega) a3 fun i hi => has3 X3 X0 X1 X2 i hi a3⟩
end Go.Proofs.Ytjikbffnhfoikaa
/- Sets as four words. No Go text walked. -/
namespace Go.Proofs.Ytjikbffnhfoikaa
open Go.RowKit
structure S4 where
  (a b c d : Int)
deriving DecidableEq
def S4.zero : S4 := ⟨0, 0, 0, 0⟩
def S4.or (x y : S4) : S4 := ⟨bits .or .u64 x.a y.a, bits .or .u64 x.b y.b, bits .or .u64 x.c y.c, bits .or .u64 x.d y.d⟩
def ofS (l : List Int) : S4 := ⟨ofI l 0, ofI l 1, ofI l 2, ofI l 3⟩
def withS (n : Int) (x : S4) : S4 := ⟨withI n 0 x.a, withI n 1 x.b, withI n 2 x.c, withI n 3 x.d⟩
def hasS (x : S4) (n : Int) : Bool := hasB x.a x.b x.c x.d n
theorem wrap_U (x : Int) : U64 (IntKind.u64.wrap x) := by
  have e : IntKind.u64.wrap x = x % 18446744073709551616 := by simp [IntKind.wrap, IntKind.bits, IntKind.signed]
  rw [e]
  exact ⟨Int.emod_nonneg _ (by decide), by have := Int.emod_lt_of_pos x (b := 18446744073709551616) (by decide); omega⟩
theorem bits_U (o : BinOp) (x y : Int) : U64 (bits o .u64 x y) := wrap_U _
theorem or_comm' (x y : Int) : bits .or .u64 x y = bits .or .u64 y x := by
  unfold bits
  simp only [BitVec.or_comm]
theorem zero_or {x : Int} (h : U64 x) : bits .or .u64 0 x = x := by
  obtain ⟨b, rfl⟩ := u64_bv h
  have := bv_or 0#64 b
  simpa using this
structure S4.U (x : S4) : Prop where
  a : U64 x.a
  b : U64 x.b
  c : U64 x.c
  d : U64 x.d
theorem U_zero : S4.zero.U := ⟨⟨by decide, by decide⟩, ⟨by decide, by decide⟩, ⟨by decide, by decide⟩, ⟨by decide, by decide⟩⟩
theorem U_or (x y : S4) : (x.or y).U := ⟨bits_U .or x.a y.a, bits_U .or x.b y.b, bits_U .or x.c y.c, bits_U .or x.d y.d⟩
theorem S4.or_comm (x y : S4) : x.or y = y.or x := by
  unfold S4.or
  rw [or_comm' x.a, or_comm' x.b, or_comm' x.c, or_comm' x.d]
theorem S4.zero_or {x : S4} (h : x.U) : S4.zero.or x = x := by
  unfold S4.or
  show S4.mk (bits .or .u64 0 x.a) (bits .or .u64 0 x.b) (bits .or .u64 0 x.c) (bits .or .u64 0 x.d) = x
  rw [Go.Proofs.Ytjikbffnhfoikaa.zero_or h.a, Go.Proofs.Ytjikbffnhfoikaa.zero_or h.b, Go.Proofs.Ytjikbffnhfoikaa.zero_or h.c, Go.Proofs.Ytjikbffnhfoikaa.zero_or h.d]
theorem or_zero {x : Int} (h : U64 x) : bits .or .u64 x 0 = x := by rw [or_comm']; exact zero_or h
theorem withI_or (n q : Int) {x : Int} (h : U64 x) : withI n q x = bits .or .u64 x (withI n q 0) := by
  have hb : U64 (bitI n) := wrap_U _
  by_cases hc : 64 * q ≤ n ∧ n < 64 * q + 64
  · rw [withI_in hc.1 hc.2, withI_in hc.1 hc.2, zero_or hb]
  · rw [withI_out (by omega), withI_out (by omega), or_zero h]
theorem withS_or (k : Int) {S : S4} (h : S.U) : withS k S = S.or (ofS [k]) := by
  unfold withS S4.or ofS ofI
  simp only [List.foldl_cons, List.foldl_nil]
  rw [withI_or k 0 h.a, withI_or k 1 h.b, withI_or k 2 h.c, withI_or k 3 h.d]
theorem ofI_word (l : List Nat) (q : Nat) : ∃ y : Nat, ofI (l.map (fun (n : Nat) => (n : Int))) q = y ∧ y < 18446744073709551616 ∧ ∀ i, i < 64 → y.testBit i = decide (64 * q + i ∈ l) := by
  obtain ⟨y, e, hy, hb⟩ := ofI_nat q l 0 (by decide)
  exact ⟨y, e, hy, fun i hi => by rw [hb i hi]; simp⟩
theorem has_of (l : List Nat) {n : Nat} (h : n < 256) : hasS (ofS (l.map (fun (n : Nat) => (n : Int)))) n = decide (n ∈ l) := by
  unfold hasS ofS
  obtain ⟨X0, e0, h0, b0⟩ := ofI_word l 0
  obtain ⟨X1, e1, h1, b1⟩ := ofI_word l 1
  obtain ⟨X2, e2, h2, b2⟩ := ofI_word l 2
  obtain ⟨X3, e3, h3, b3⟩ := ofI_word l 3
  have e0' : ofI (l.map (fun (n : Nat) => (n : Int))) 0 = X0 := e0
  have e1' : ofI (l.map (fun (n : Nat) => (n : Int))) 1 = X1 := e1
  have e2' : ofI (l.map (fun (n : Nat) => (n : Int))) 2 = X2 := e2
  have e3' : ofI (l.map (fun (n : Nat) => (n : Int))) 3 = X3 := e3
  simp only [e0', e1', e2', e3']
  obtain ⟨q, i, hi, rfl⟩ : ∃ q i, i < 64 ∧ n = 64 * q + i := ⟨n / 64, n % 64, by omega, by omega⟩
  have hq : q = 0 ∨ q = 1 ∨ q = 2 ∨ q = 3 := by omega
  rcases hq with rfl | rfl | rfl | rfl
  · rw [has0 _ _ _ _ i hi h0, b0 i hi]
  · rw [has1 _ _ _ _ i hi h1, b1 i hi]
  · rw [has2 _ _ _ _ i hi h2, b2 i hi]
  · rw [has3 _ _ _ _ i hi h3, b3 i hi]
theorem s4_ext {x y : S4} (hx : x.U) (hy : y.U) (h : ∀ n : Nat, n < 256 → hasS x n = hasS y n) : x = y := by
  obtain ⟨a, b, c, d⟩ := sets_ext hx.a hx.b hx.c hx.d hy.a hy.b hy.c hy.d h
  cases x; cases y
  simp only at a b c d
  subst a b c d
  rfl
theorem has_word {x : S4} (hx : x.U) {i : Nat} (hi : i < 64) : hasS x ((64 * 0 + i : Nat) : Int) = x.a.toNat.testBit i ∧ hasS x ((64 * 1 + i : Nat) : Int) = x.b.toNat.testBit i ∧ hasS x ((64 * 2 + i : Nat) : Int) = x.c.toNat.testBit i ∧ hasS x ((64 * 3 + i : Nat) : Int) = x.d.toNat.testBit i := by
  obtain ⟨X0, e0, h0⟩ := nat_of hx.a
  obtain ⟨X1, e1, h1⟩ := nat_of hx.b
  obtain ⟨X2, e2, h2⟩ := nat_of hx.c
  obtain ⟨X3, e3, h3⟩ := nat_of hx.d
  unfold hasS
  simp only [e0, e1, e2, e3, Int.toNat_natCast]
  exact ⟨has0 _ _ _ _ i hi h0, has1 _ _ _ _ i hi h1, has2 _ _ _ _ i hi h2, has3 _ _ _ _ i hi h3⟩
theorem has_three {x y z : S4} (hx : x.U) (hy : y.U) (hz : z.U) (f : Bool → Bool → Bool)
    (ha : ∀ i, i < 64 → z.a.toNat.testBit i = f (x.a.toNat.testBit i) (y.a.toNat.testBit i)) (hb : ∀ i, i < 64 → z.b.toNat.testBit i = f (x.b.toNat.testBit i) (y.b.toNat.testBit i))
    (hc : ∀ i, i < 64 → z.c.toNat.testBit i = f (x.c.toNat.testBit i) (y.c.toNat.testBit i)) (hd : ∀ i, i < 64 → z.d.toNat.testBit i = f (x.d.toNat.testBit i) (y.d.toNat.testBit i))
    {n : Nat} (h : n < 256) : hasS z n = f (hasS x n) (hasS y n) := by
  obtain ⟨q, i, hi, rfl⟩ : ∃ q i, i < 64 ∧ n = 64 * q + i := ⟨n / 64, n % 64, by omega, by omega⟩
  obtain ⟨x0, x1, x2, x3⟩ := has_word hx hi
  obtain ⟨y0, y1, y2, y3⟩ := has_word hy hi
  obtain ⟨z0, z1, z2, z3⟩ := has_word hz hi
  have hq : q = 0 ∨ q = 1 ∨ q = 2 ∨ q = 3 := by omega
  rcases hq with rfl | rfl | rfl | rfl
  · rw [x0, y0, z0, ha i hi]
  · rw [x1, y1, z1, hb i hi]
  · rw [x2, y2, z2, hc i hi]
  · rw [x3, y3, z3, hd i hi]
theorem or_bit {x y : Int} (h : U64 x) (k : U64 y) (i : Nat) : (bits .or .u64 x y).toNat.testBit i = (x.toNat.testBit i || y.toNat.testBit i) := by
  obtain ⟨b, rfl⟩ := u64_bv h
  obtain ⟨c, rfl⟩ := u64_bv k
  rw [bv_or, Int.toNat_natCast, Int.toNat_natCast, Int.toNat_natCast, BitVec.toNat_or, Nat.testBit_or]
theorem has_or {x y : S4} (hx : x.U) (hy : y.U) {n : Nat} (h : n < 256) : hasS (x.or y) n = (hasS x n || hasS y n) :=
  has_three hx hy (U_or x y) (fun a b => a || b) (fun _ _ => or_bit hx.a hy.a _) (fun _ _ => or_bit hx.b hy.b _) (fun _ _ => or_bit hx.c hy.c _) (fun _ _ => or_bit hx.d hy.d _) h
theorem has_zero {n : Nat} (h : n < 256) : hasS S4.zero n = false := by
  have e : S4.zero = ofS (([] : List Nat).map (fun (n : Nat) => (n : Int))) := rfl
  rw [e, has_of _ h]
  exact decide_eq_false (by simp)
theorem has_one (j : Nat) {n : Nat} (h : n < 256) : hasS (ofS [(j : Int)]) n = decide (n = j) := by
  have e := has_of [j] h
  rw [show ([j].map (fun (n : Nat) => (n : Int))) = [(j : Int)] from rfl] at e
  rw [e]
  exact decide_eq_decide.2 (by simp)
theorem ofS1_U (k : Int) : (ofS [k]).U := by
  have u : ∀ q, U64 (ofI [k] q) := fun q => by
    unfold ofI
    rw [List.foldl_cons, List.foldl_nil]
    unfold withI
    split
    · exact bits_U _ _ _
    · exact ⟨by decide, by decide⟩
  exact ⟨u 0, u 1, u 2, u 3⟩
theorem withS_U (k : Int) {S : S4} (h : S.U) : (withS k S).U := by rw [withS_or k h]; exact U_or _ _
theorem has_with (k : Nat) {S : S4} (h : S.U) {n : Nat} (hn : n < 256) : hasS (withS k S) n = (hasS S n || decide (n = k)) := by
  rw [withS_or k h, has_or h (ofS1_U k) hn, has_one k hn]
theorem hasS_in {s : S4} {n : Int} (h : hasS s n = true) : 0 ≤ n ∧ n < 256 := by
  unfold hasS hasB at h
  simp only [Bool.and_eq_true, decide_eq_true_eq] at h
  exact ⟨h.1, h.2.1⟩
theorem has_withI {k : Int} (hk : 0 ≤ k ∧ k < 256) {S : S4} (h : S.U) (n : Int) : hasS (withS k S) n = (hasS S n || decide (n = k)) := by
  by_cases hn : 0 ≤ n ∧ n < 256
  · have e1 : n = ((n.toNat : Nat) : Int) := by omega
    have e2 : k = ((k.toNat : Nat) : Int) := by omega
    rw [e1, e2, has_with _ h (by omega)]
    congr 1
    exact decide_eq_decide.2 (by omega)
  · have e : ∀ s : S4, hasS s n = false := fun s => by
      rw [Bool.eq_false_iff]
      exact fun k => hn (hasS_in k)
    rw [e, e, decide_eq_false (by omega)]
    rfl
theorem s4_extI {x y : S4} (hx : x.U) (hy : y.U) (h : ∀ n : Int, hasS x n = hasS y n) : x = y := s4_ext hx hy fun n _ => h n
end Go.Proofs.Ytjikbffnhfoikaa
/- The plain part of layer 15: rules, their pairs, the entries of rules. -/
namespace Go.Proofs.Ytjikbffnhfoikaa
open Go.RowKit
def zE : E := ⟨0, 0, 0, 0, 0#32, 0#32, 0#32, by decide⟩
def W64 (x : Int) : Prop := -9223372036854775808 ≤ x ∧ x ≤ 9223372036854775807
instance (x : Int) : Decidable (W64 x) := by unfold W64; infer_instance
def mkE (s t c d : Int) (v : V) : E := if h : W64 s ∧ W64 t ∧ W64 c ∧ W64 d then ⟨s, t, c, d, v.p, v.q, v.r, h⟩ else zE
theorem mkE_eq {s t c d : Int} (hs : W64 s) (ht : W64 t) (hc : W64 c) (hd : W64 d) (v : V) : (mkE s t c d v).s = s ∧ (mkE s t c d v).t = t ∧ (mkE s t c d v).c = c ∧ (mkE s t c d v).d = d ∧ vec (mkE s t c d v) = v := by
  unfold mkE
  rw [dif_pos ⟨hs, ht, hc, hd⟩]
  exact ⟨rfl, rfl, rfl, rfl, rfl⟩
theorem w64_in {n : Int} (h : 0 ≤ n ∧ n < 256) : W64 n := by unfold W64; omega
/-- a rule -/
structure Ru where
  k : Int
  src : S4
  tgt : S4
  self : Bool
  cl : Int
  pm : BitVec 32
  cd : Int
  wf : W64 k ∧ W64 cl ∧ W64 cd ∧ src.U ∧ tgt.U
/-- its pairs, its vectors -/
def prB (r : Ru) (s t : Int) : Bool := hasS r.tgt t || (r.self && decide (s = t))
def vR (r : Ru) : V := if r.k = 1 then ⟨r.pm, 0#32, 0#32⟩ else if r.k = 2 then ⟨0#32, r.pm, 0#32⟩ else if r.k = 3 then ⟨0#32, 0#32, r.pm⟩ else zV
def tgs (r : Ru) (s : Int) : List Int := (below 256).filter (prB r s)
def srs (r : Ru) : List Int := (below 256).filter (hasS r.src)
def prs (r : Ru) : List (Int × Int) := (srs r).flatMap fun s => (tgs r s).map fun t => (s, t)
def entR (r : Ru) (p : Int × Int) : E := mkE p.1 p.2 r.cl r.cd (vR r)
def entsR (r : Ru) : List E := (prs r).map (entR r)
def allE (L : List Ru) : List E := L.flatMap entsR
theorem mem_below {k : Nat} {n : Int} : n ∈ below k ↔ 0 ≤ n ∧ n < k := by
  unfold below
  simp only [List.mem_map, List.mem_range]
  constructor
  · rintro ⟨i, hi, rfl⟩; omega
  · intro h; exact ⟨n.toNat, by omega, by omega⟩
theorem below_pair (k : Nat) : (below k).Pairwise (· < ·) := by
  unfold below
  rw [List.pairwise_map]
  exact List.pairwise_lt_range.imp fun h => by omega
theorem prB_in {r : Ru} {s t : Int} (hs : 0 ≤ s ∧ s < 256) (h : prB r s t = true) : 0 ≤ t ∧ t < 256 := by
  unfold prB at h
  simp only [Bool.or_eq_true, Bool.and_eq_true, decide_eq_true_eq] at h
  rcases h with h | ⟨_, h⟩
  · exact hasS_in h
  · omega
theorem mem_prs {r : Ru} {s t : Int} : (s, t) ∈ prs r ↔ hasS r.src s = true ∧ prB r s t = true := by
  unfold prs srs tgs
  simp only [List.mem_flatMap, List.mem_filter, List.mem_map, Prod.mk.injEq, mem_below]
  constructor
  · rintro ⟨s', ⟨_, h1⟩, t', ⟨_, h2⟩, rfl, rfl⟩; exact ⟨h1, h2⟩
  · rintro ⟨h1, h2⟩
    have i1 := hasS_in h1
    have i2 := prB_in i1 h2
    exact ⟨s, ⟨by omega, h1⟩, t, ⟨by omega, h2⟩, rfl, rfl⟩
theorem prs_in {r : Ru} {p : Int × Int} (h : p ∈ prs r) : (0 ≤ p.1 ∧ p.1 < 256) ∧ (0 ≤ p.2 ∧ p.2 < 256) := by
  obtain ⟨s, t⟩ := p
  obtain ⟨h1, h2⟩ := mem_prs.1 h
  exact ⟨hasS_in h1, prB_in (hasS_in h1) h2⟩
theorem entR_eq {r : Ru} {p : Int × Int} (h : p ∈ prs r) : (entR r p).s = p.1 ∧ (entR r p).t = p.2 ∧ (entR r p).c = r.cl ∧ (entR r p).d = r.cd ∧ vec (entR r p) = vR r := by
  obtain ⟨h1, h2⟩ := prs_in h
  exact mkE_eq (w64_in h1) (w64_in h2) r.wf.2.1 r.wf.2.2.1 _
/-- does the rule say something at the key of z -/
def mB (r : Ru) (z : E) : Bool := decide (r.cl = z.c) && (decide (r.cd = z.d) && (hasS r.src z.s && prB r z.s z.t))
theorem prs_pair (r : Ru) : (prs r).Pairwise fun p q => p.1 < q.1 ∨ (p.1 = q.1 ∧ p.2 < q.2) := by
  unfold prs
  rw [List.pairwise_flatMap]
  constructor
  · intro s _
    rw [List.pairwise_map]
    exact ((below_pair 256).filter _).imp fun h => .inr ⟨rfl, h⟩
  · refine ((below_pair 256).filter _).imp fun {a b} h x hx y hy => ?_
    obtain ⟨_, _, rfl⟩ := List.mem_map.1 hx
    obtain ⟨_, _, rfl⟩ := List.mem_map.1 hy
    exact .inl h
theorem con_mem {x z : E} : ∀ {l : List E}, Strict l → x ∈ l → eqP x z → con z l = vec x
  | [], _, h, _ => by cases h
  | y :: r, hs, h, e => by
    rcases List.mem_cons.1 h with rfl | h
    · exact con_head hs e
    · obtain ⟨h1, h2⟩ := List.pairwise_cons.1 hs
      rw [con, if_neg fun k => ltP_not_eq (h1 x h) (eqP_trans k (eqP_symm e))]
      exact con_mem h2 h e
theorem entsR_strict (r : Ru) : Strict (entsR r) := by
  unfold entsR Strict
  rw [List.pairwise_map]
  refine (prs_pair r).imp_of_mem fun {p q} hp hq h => ?_
  obtain ⟨a1, a2, a3, a4, _⟩ := entR_eq hp
  obtain ⟨b1, b2, b3, b4, _⟩ := entR_eq hq
  unfold ltP
  rw [a1, a2, b1, b2]
  omega
theorem con_ents (z : E) (r : Ru) : con z (entsR r) = if mB r z = true then vR r else zV := by
  by_cases h : mB r z = true
  · rw [if_pos h]
    unfold mB at h
    simp only [Bool.and_eq_true, decide_eq_true_eq] at h
    have hp : (z.s, z.t) ∈ prs r := mem_prs.2 h.2.2
    obtain ⟨a1, a2, a3, a4, a5⟩ := entR_eq hp
    rw [con_mem (entsR_strict r) (List.mem_map.2 ⟨_, hp, rfl⟩) ⟨a1, a2, a3.trans h.1, a4.trans h.2.1⟩, a5]
  · rw [if_neg h]
    refine con_none z fun x hx e => h ?_
    obtain ⟨⟨s, t⟩, hp, rfl⟩ := List.mem_map.1 hx
    obtain ⟨a1, a2, a3, a4, a5⟩ := entR_eq hp
    obtain ⟨e1, e2, e3, e4⟩ := e
    obtain ⟨h1, h2⟩ := mem_prs.1 hp
    unfold mB
    simp only [Bool.and_eq_true, decide_eq_true_eq]
    rw [← e1, ← e2, a1, a2]
    exact ⟨a3.symm.trans e3, a4.symm.trans e4, h1, h2⟩
/-- what rules say at the key of z -/
def conR (z : E) (L : List Ru) : V := L.foldr (fun r v => orV (if mB r z = true then vR r else zV) v) zV
theorem con_all (z : E) : ∀ L : List Ru, con z (allE L) = conR z L
  | [] => rfl
  | r :: L => by
    have ih := con_all z L
    unfold allE at ih ⊢
    rw [List.flatMap_cons, con_append, ih, con_ents]
    rfl
theorem conR_append (z : E) : ∀ l m : List Ru, conR z (l ++ m) = orV (conR z l) (conR z m)
  | [], m => (z_orV _).symm
  | x :: r, m => by
    have := conR_append z r m
    unfold conR at this ⊢
    rw [List.cons_append, List.foldr_cons, List.foldr_cons, this, orV_assoc]
theorem conR_snoc (z : E) (l : List Ru) (r : Ru) : conR z (l ++ [r]) = orV (conR z l) (if mB r z = true then vR r else zV) := by
  rw [conR_append]
  congr 1
  exact orV_z _
theorem conR_key {z z' : E} (h : eqP z z') (L : List Ru) : conR z L = conR z' L := by
  have e : ∀ r, mB r z = mB r z' := fun r => by
    unfold mB
    obtain ⟨h1, h2, h3, h4⟩ := h
    rw [h1, h2, h3, h4]
  unfold conR
  congr 1
  funext r v
  rw [e]
/-- only the rules with something to say matter -/
theorem conR_filter (p : Ru → Bool) (z : E) : ∀ L : List Ru, (∀ r ∈ L, p r = false → mB r z = true → vR r = zV) → conR z (L.filter p) = conR z L
  | [], _ => rfl
  | r :: L, h => by
    have ih := conR_filter p z L fun x hx => h x (by simp [hx])
    unfold conR at ih ⊢
    rw [List.filter_cons, List.foldr_cons]
    split
    · rw [List.foldr_cons, ih]
    · rename_i hp
      rw [ih]
      have := h r (by simp) (by simpa using hp)
      split
      · rename_i hm
        rw [this hm, z_orV]
      · rw [z_orV]
/-! what was collected, in any order -/
structure Acc (A : List E) (f : E → V) : Prop where
  ne : NE A
  ap : A.Pairwise fun x y => ¬ eqP x y
  co : ∀ z, con z A = f z
theorem Acc.sorted {A S : List E} {f : E → V} {l : List E} (h : Acc A f) (hf : ∀ z, f z = con z l) (hp : S.Perm A) (ha : Asc S) : S = M l := by
  refine M_uniq ?_ (fun x hx => h.ne x (hp.mem_iff.1 hx)) fun z => ?_
  · have hap : S.Pairwise fun x y => ¬ eqP x y := (hp.pairwise_iff fun {x y} h e => h (eqP_symm e)).2 h.ap
    refine (List.pairwise_and_iff.2 ⟨hap, ha⟩).imp fun {x y} h => ?_
    rcases tri x y with e | e | e
    · exact e
    · exact absurd e h.1
    · exact absurd e h.2
  · rw [con_perm z hp, h.co, hf]
end Go.Proofs.Ytjikbffnhfoikaa
/- The plain part of layer 15: groups of rules, rows, what the visits collect. -/
namespace Go.Proofs.Ytjikbffnhfoikaa
open Go.RowKit
instance : DecidableEq V := fun u v => decidable_of_iff (u.p = v.p ∧ u.q = v.q ∧ u.r = v.r) ⟨fun ⟨h1, h2, h3⟩ => by cases u; cases v; simp_all, fun h => by subst h; exact ⟨rfl, rfl, rfl⟩⟩
/-- the rules at a place that have entries -/
def atP (c d : Int) (r : Ru) : Bool := !decide (vR r = zV) && (decide (r.cl = c) && decide (r.cd = d))
def grp (L : List Ru) (c d : Int) : List Ru := L.filter (atP c d)
theorem grp_snoc (L : List Ru) (r : Ru) (c d : Int) : grp (L ++ [r]) c d = grp L c d ++ (if atP c d r = true then [r] else []) := by
  unfold grp
  rw [List.filter_append]
  congr 1
  rw [List.filter_cons]
  rfl
/-- what rules say for a source and a target -/
def rowV (rs : List Ru) (s t : Int) : V := rs.foldr (fun r v => orV (if (hasS r.src s && prB r s t) = true then vR r else zV) v) zV
theorem rowV_append (s t : Int) : ∀ l m : List Ru, rowV (l ++ m) s t = orV (rowV l s t) (rowV m s t)
  | [], m => (z_orV _).symm
  | x :: r, m => by
    have := rowV_append s t r m
    unfold rowV at this ⊢
    rw [List.cons_append, List.foldr_cons, List.foldr_cons, this, orV_assoc]
theorem rowV_snoc (l : List Ru) (r : Ru) (s t : Int) : rowV (l ++ [r]) s t = orV (rowV l s t) (if (hasS r.src s && prB r s t) = true then vR r else zV) := by
  rw [rowV_append]
  congr 1
  exact orV_z _
theorem rowV_con {L : List Ru} {z : E} : rowV (grp L z.c z.d) z.s z.t = conR z L := by
  have e : conR z (grp L z.c z.d) = conR z L := conR_filter _ z L fun r _ h1 h2 => by
    unfold atP at h1
    unfold mB at h2
    simp only [Bool.and_eq_true, decide_eq_true_eq] at h2
    simp only [h2.1, h2.2.1, decide_true, Bool.and_self, Bool.and_true, Bool.not_eq_false', decide_eq_true_eq] at h1
    exact h1
  rw [← e]
  generalize hg : grp L z.c z.d = G
  have hG : ∀ r ∈ G, r.cl = z.c ∧ r.cd = z.d := fun r hr => by
    rw [← hg] at hr
    have := (List.mem_filter.1 hr).2
    unfold atP at this
    simp only [Bool.and_eq_true, decide_eq_true_eq] at this
    exact this.2
  clear hg e
  induction G with
  | nil => rfl
  | cons r R ih =>
    have h := hG r (by simp)
    have ih := ih fun x hx => hG x (by simp [hx])
    unfold rowV conR at ih ⊢
    rw [List.foldr_cons, List.foldr_cons, ih]
    congr 1
    unfold mB
    rw [h.1, h.2]
    simp
def rowE (c d : Int) (rs : List Ru) (s : Int) : List E := (below 256).filterMap fun t => if rowV rs s t = zV then none else some (mkE s t c d (rowV rs s t))
/-- up to a target -/
def rowK (c d : Int) (f : Int → V) (s : Int) (k : Nat) : List E := (below k).filterMap fun t => if f t = zV then none else some (mkE s t c d (f t))
theorem rowK_all (c d : Int) (rs : List Ru) (s : Int) : rowK c d (rowV rs s) s 256 = rowE c d rs s := rfl
theorem rowK_zero (c d : Int) (f : Int → V) (s : Int) : rowK c d f s 0 = [] := rfl
theorem rowK_succ (c d : Int) (f : Int → V) (s : Int) (k : Nat) : rowK c d f s (k + 1) = rowK c d f s k ++ (if f k = zV then [] else [mkE s k c d (f k)]) := by
  unfold rowK below
  rw [List.range_succ, List.map_append, List.filterMap_append]
  congr 1
  simp only [List.map_cons, List.map_nil, List.filterMap_cons, List.filterMap_nil]
  split
  · rename_i h
    by_cases hf : f k = zV
    · rw [if_pos hf]
    · rw [if_neg hf] at h; cases h
  · rename_i x h
    by_cases hf : f k = zV
    · rw [if_pos hf] at h; cases h
    · rw [if_neg hf] at h ⊢; simp only [Option.some.injEq] at h; rw [h]
theorem rowK_len (c d : Int) (f : Int → V) (s : Int) : ∀ k, (rowK c d f s k).length ≤ k
  | 0 => Nat.le_refl _
  | k + 1 => by
    have := rowK_len c d f s k
    rw [rowK_succ, List.length_append]
    split <;> simp <;> omega
theorem mem_rowE {c d s : Int} {rs : List Ru} (hc : W64 c) (hd : W64 d) (hs : 0 ≤ s ∧ s < 256) {x : E} (h : x ∈ rowE c d rs s) : x.s = s ∧ x.c = c ∧ x.d = d ∧ (0 ≤ x.t ∧ x.t < 256) ∧ vec x = rowV rs s x.t ∧ rowV rs s x.t ≠ zV := by
  obtain ⟨t, ht, hx⟩ := List.mem_filterMap.1 h
  have ht := mem_below.1 ht
  by_cases hf : rowV rs s t = zV
  · rw [if_pos hf] at hx; cases hx
  · rw [if_neg hf] at hx
    simp only [Option.some.injEq] at hx
    obtain ⟨a1, a2, a3, a4, a5⟩ := mkE_eq (w64_in hs) (w64_in ht) hc hd (rowV rs s t)
    rw [hx] at a1 a2 a3 a4 a5
    exact ⟨a1, a3, a4, by omega, by rw [a5, a2], by rw [a2]; exact hf⟩
theorem rowE_strict {c d s : Int} {rs : List Ru} (hc : W64 c) (hd : W64 d) (hs : 0 ≤ s ∧ s < 256) : Strict (rowE c d rs s) := by
  unfold rowE Strict
  rw [List.pairwise_filterMap]
  refine (below_pair 256).imp_of_mem fun {a b} ha hb h x hx y hy => ?_
  have ha := mem_below.1 ha
  have hb := mem_below.1 hb
  by_cases hf : rowV rs s a = zV
  · rw [if_pos hf] at hx; cases hx
  · by_cases hg : rowV rs s b = zV
    · rw [if_pos hg] at hy; cases hy
    · rw [if_neg hf] at hx
      rw [if_neg hg] at hy
      simp only [Option.some.injEq] at hx hy
      obtain ⟨a1, a2, _⟩ := mkE_eq (w64_in hs) (w64_in ha) hc hd (rowV rs s a)
      obtain ⟨b1, b2, _⟩ := mkE_eq (w64_in hs) (w64_in hb) hc hd (rowV rs s b)
      rw [hx] at a1 a2
      rw [hy] at b1 b2
      unfold ltP
      omega
theorem rowE_con {c d s : Int} {rs : List Ru} (hc : W64 c) (hd : W64 d) (hs : 0 ≤ s ∧ s < 256) (z : E) :
    con z (rowE c d rs s) = if z.s = s ∧ z.c = c ∧ z.d = d ∧ 0 ≤ z.t ∧ z.t < 256 then rowV rs s z.t else zV := by
  by_cases h : z.s = s ∧ z.c = c ∧ z.d = d ∧ 0 ≤ z.t ∧ z.t < 256
  · rw [if_pos h]
    by_cases hf : rowV rs s z.t = zV
    · rw [hf]
      refine con_none z fun x hx e => ?_
      obtain ⟨_, _, _, _, _, h6⟩ := mem_rowE hc hd hs hx
      rw [e.2.1] at h6
      exact h6 hf
    · obtain ⟨a1, a2, a3, a4, a5⟩ := mkE_eq (w64_in hs) (w64_in h.2.2.2) hc hd (rowV rs s z.t)
      rw [con_mem (x := mkE s z.t c d (rowV rs s z.t)) (rowE_strict hc hd hs) (List.mem_filterMap.2 ⟨z.t, mem_below.2 (by omega), if_neg hf⟩) ⟨by rw [a1, h.1], a2, by rw [a3, h.2.1], by rw [a4, h.2.2.1]⟩, a5]
  · rw [if_neg h]
    refine con_none z fun x hx e => h ?_
    obtain ⟨h1, h2, h3, h4, _⟩ := mem_rowE hc hd hs hx
    obtain ⟨e1, e2, e3, e4⟩ := e
    omega
/-- what the visits so far say: dn tells which places and sources are done -/
def fD (L : List Ru) (dn : Int → Int → Int → Bool) (z : E) : V := if dn z.c z.d z.s = true then conR z L else zV
def dnAdd (dn : Int → Int → Int → Bool) (c d s : Int) : Int → Int → Int → Bool := fun c' d' s' => dn c' d' s' || (decide (c' = c) && (decide (d' = d) && decide (s' = s)))
theorem con_out {z : E} {L : List Ru} (h : ¬ (0 ≤ z.t ∧ z.t < 256)) : conR z L = zV := by
  unfold conR
  induction L with
  | nil => rfl
  | cons r R ih =>
    rw [List.foldr_cons, ih, orV_z]
    by_cases hm : mB r z = true
    · exfalso
      unfold mB at hm
      simp only [Bool.and_eq_true, decide_eq_true_eq] at hm
      exact h (prB_in (hasS_in hm.2.2.1) hm.2.2.2)
    · rw [if_neg hm]
theorem Acc.nil {L : List Ru} : Acc [] (fD L fun _ _ _ => false) := ⟨(by intro x h; cases h), List.Pairwise.nil, fun z => rfl⟩
theorem Acc.step {A : List E} {L : List Ru} {dn : Int → Int → Int → Bool} (h : Acc A (fD L dn)) {c d s : Int} (hc : W64 c) (hd : W64 d) (hs : 0 ≤ s ∧ s < 256) (hn : dn c d s = false) :
    Acc (A ++ rowE c d (grp L c d) s) (fD L (dnAdd dn c d s)) := by
  have hA : ∀ x ∈ A, dn x.c x.d x.s = true := fun x hx => by
    have h1 : con x A ≠ zV := by
      have hne := h.ne x hx
      rw [Bool.eq_false_iff, ne_eq, emp_iff] at hne
      intro e
      obtain ⟨p, q, e2⟩ := List.append_of_mem hx
      rw [e2, con_append] at e
      simp only [con, if_pos (show eqP x x from ⟨rfl, rfl, rfl, rfl⟩)] at e
      exact hne (orV_zero (orV_zero e).2).1
    rw [h.co] at h1
    unfold fD at h1
    by_cases hd : dn x.c x.d x.s = true
    · exact hd
    · rw [if_neg hd] at h1; exact absurd rfl h1
  refine ⟨fun x hx => ?_, List.pairwise_append.2 ⟨h.ap, (rowE_strict hc hd hs).imp fun h => ltP_not_eq h, fun x hx y hy e => ?_⟩, fun z => ?_⟩
  · rcases List.mem_append.1 hx with hx | hx
    · exact h.ne x hx
    · obtain ⟨_, _, _, _, h5, h6⟩ := mem_rowE hc hd hs hx
      rw [Bool.eq_false_iff, ne_eq, emp_iff, h5]
      exact h6
  · obtain ⟨h1, h2, h3, _⟩ := mem_rowE hc hd hs hy
    have := hA x hx
    obtain ⟨e1, e2, e3, e4⟩ := e
    rw [e1, e3, e4, h1, h2, h3, hn] at this
    cases this
  · rw [con_append, h.co, rowE_con hc hd hs]
    unfold fD dnAdd
    by_cases hz : z.s = s ∧ z.c = c ∧ z.d = d
    · obtain ⟨rfl, rfl, rfl⟩ := hz
      rw [hn]
      simp only [Bool.false_eq_true, if_false, z_orV, true_and, decide_true, Bool.and_self, Bool.false_or, if_true]
      by_cases ht : 0 ≤ z.t ∧ z.t < 256
      · rw [if_pos ht, rowV_con]
      · rw [if_neg ht, con_out ht]
    · have h0 : ¬ (z.s = s ∧ z.c = c ∧ z.d = d ∧ 0 ≤ z.t ∧ z.t < 256) := fun k => hz ⟨k.1, k.2.1, k.2.2.1⟩
      rw [if_neg h0, orV_z]
      have e : (decide (z.c = c) && (decide (z.d = d) && decide (z.s = s))) = false := by
        rw [Bool.eq_false_iff]
        intro k
        simp only [Bool.and_eq_true, decide_eq_true_eq] at k
        exact hz ⟨k.2.2, k.1, k.2.1⟩
      rw [e, Bool.or_false]
theorem Acc.same {A : List E} {f g : E → V} (h : Acc A f) (e : ∀ z, f z = g z) : Acc A g := ⟨h.ne, h.ap, fun z => (h.co z).trans (e z)⟩
theorem Acc.ext {A : List E} {L : List Ru} {dn dn' : Int → Int → Int → Bool} (h : Acc A (fD L dn)) (e : ∀ c d s, dn c d s = dn' c d s) : Acc A (fD L dn') := h.same fun z => by unfold fD; rw [e]
/-- the sources of rules -/
def srcB (rs : List Ru) (s : Int) : Bool := rs.any fun r => hasS r.src s
theorem con_undone {L : List Ru} {z : E} (h : srcB (grp L z.c z.d) z.s = false) : conR z L = zV := by
  rw [← rowV_con]
  unfold srcB at h
  rw [List.any_eq_false] at h
  generalize grp L z.c z.d = G at h
  unfold rowV
  induction G with
  | nil => rfl
  | cons r R ih =>
    rw [List.foldr_cons, ih fun x hx => h x (by simp [hx]), orV_z]
    have := h r (by simp)
    simp only [Bool.not_eq_true] at this
    rw [this]
    rfl
theorem Acc.done {A : List E} {L : List Ru} {dn : Int → Int → Int → Bool} (h : Acc A (fD L dn)) (hd : ∀ c d s, srcB (grp L c d) s = true → dn c d s = true) : Acc A fun z => con z (allE L) :=
  h.same fun z => by
    unfold fD
    rw [con_all]
    by_cases e : dn z.c z.d z.s = true
    · rw [if_pos e]
    · rw [if_neg e]
      have : srcB (grp L z.c z.d) z.s = false := by
        rw [Bool.eq_false_iff]
        exact fun k => e (hd _ _ _ k)
      rw [con_undone this]
end Go.Proofs.Ytjikbffnhfoikaa
/- The plain part of layer 15: what merging by a map collects; the reference's add. -/
namespace Go.Proofs.Ytjikbffnhfoikaa
open Go.RowKit
/-- what has been collected of the keys done -/
def fK (l : List E) (dn : E → Bool) (z : E) : V := if dn z = true then con z l else zV
theorem Acc.nilK {l : List E} : Acc [] (fK l fun _ => false) := ⟨(by intro x h; cases h), List.Pairwise.nil, fun z => rfl⟩
theorem con_self {A : List E} {x : E} (hn : emp x = false) (hx : x ∈ A) : con x A ≠ zV := by
  rw [Bool.eq_false_iff, ne_eq, emp_iff] at hn
  intro e
  obtain ⟨p, q, e2⟩ := List.append_of_mem hx
  rw [e2, con_append] at e
  simp only [con, if_pos (show eqP x x from ⟨rfl, rfl, rfl, rfl⟩)] at e
  exact hn (orV_zero (orV_zero e).2).1
theorem con_key {x z : E} (h : eqP x z) : ∀ l : List E, con x l = con z l
  | [] => rfl
  | y :: r => by
    have ih := con_key h r
    simp only [con, ih]
    by_cases e : eqP y x
    · rw [if_pos e, if_pos (eqP_trans e h)]
    · rw [if_neg e, if_neg fun k => e (eqP_trans k (eqP_symm h))]
theorem Acc.put {A l : List E} {dn : E → Bool} (h : Acc A (fK l dn)) (hd : ∀ x y, eqP x y → dn x = dn y) {x : E} (hx : vec x = con x l) (hn : dn x = false) :
    Acc (A ++ (if emp x = true then [] else [x])) (fK l fun z => dn z || decide (eqP x z)) := by
  have hA : ∀ y ∈ A, dn y = true := fun y hy => by
    have h1 := con_self (h.ne y hy) hy
    rw [h.co] at h1
    unfold fK at h1
    by_cases hd : dn y = true
    · exact hd
    · rw [if_neg hd] at h1; exact absurd rfl h1
  by_cases he : emp x = true
  · rw [if_pos he, List.append_nil]
    refine h.same fun z => ?_
    unfold fK
    by_cases e : eqP x z
    · rw [← hd x z e, hn]
      simp only [Bool.false_eq_true, if_false, e, decide_true, Bool.or_true, if_true]
      rw [← con_key e l, ← hx, emp_iff.1 he]
    · simp only [e, decide_false, Bool.or_false]
  · have he' : emp x = false := by simpa using he
    rw [if_neg he]
    refine ⟨fun y hy => ?_, List.pairwise_append.2 ⟨h.ap, by simp, fun y hy u hu e => ?_⟩, fun z => ?_⟩
    · rcases List.mem_append.1 hy with hy | hy
      · exact h.ne y hy
      · simp at hy; subst hy; exact he'
    · simp at hu; subst hu
      have := hA y hy
      rw [hd y u e, hn] at this
      cases this
    · rw [con_append, h.co]
      unfold fK
      by_cases e : eqP x z
      · rw [← hd x z e, hn]
        simp only [Bool.false_eq_true, if_false, e, decide_true, Bool.or_true, if_true, con, orV_z, z_orV]
        rw [hx, con_key e l]
      · simp only [e, decide_false, Bool.or_false, con, if_false, orV_z]
theorem Acc.doneK {A l : List E} {dn : E → Bool} (h : Acc A (fK l dn)) (hd : ∀ z, con z l ≠ zV → dn z = true) : Acc A fun z => con z l :=
  h.same fun z => by
    unfold fK
    by_cases e : dn z = true
    · rw [if_pos e]
    · rw [if_neg e]
      by_cases k : con z l = zV
      · exact k.symm
      · exact absurd (hd z k) e
theorem Acc.length {A : List E} {f : E → V} {l : List E} (h : Acc A f) (hf : ∀ z, f z = con z l) : A.length = (M l).length := by
  have hp : (A.mergeSort fun x y => !decide (ltP y x)).Perm A := List.mergeSort_perm _ _
  have hs : (A.mergeSort fun x y => !decide (ltP y x)).Pairwise fun x y => (!decide (ltP y x)) = true := List.pairwise_mergeSort (fun a b c h1 h2 => by
      simp only [Bool.not_eq_true', decide_eq_false_iff_not] at *
      intro h
      rcases tri a b with e | e | e
      · exact h2 (ltP_trans h e)
      · exact h2 (ltP_eq h e)
      · exact h1 e) (fun a b => by
      simp only [Bool.or_eq_true, Bool.not_eq_true', decide_eq_false_iff_not]
      by_cases e : ltP b a
      · exact .inr (ltP_asymm e)
      · exact .inl e) A
  have := h.sorted hf hp (hs.imp fun h => by simpa using h)
  rw [← this, hp.length_eq]
end Go.Proofs.Ytjikbffnhfoikaa
/- The comparison of entries. -/
namespace Go.Proofs.Ytjikbffnhfoikaa
open Go.RowKit Go.Sort
theorem Gr.trans {a b c : World} (h : Gr a b) (k : Gr b c) : Gr a c := by
  obtain ⟨q, os, rfl⟩ := h
  obtain ⟨q2, os2, rfl⟩ := k
  refine ⟨q + q2, os ++ os2, ?_⟩
  show grow (grow ((a.drewN q).drewN q2) os) os2 = _
  rw [grow_grow, World.drewN_drewN]
theorem Gr.call {P : Program} {f : FuncId} {args : Array Value} {W w : World} {v : Value} (hC : Gr W w)
    (h : Calls P f args w fun e w' => e = .returned v ∧ Gr w w') : Calls P f args w fun e w'' => e = .returned v ∧ Gr W w'' :=
  h.mono fun _ _ ⟨he, hb⟩ => ⟨he, hC.trans hb⟩
theorem Dr.gr {W w : World} (h : Dr W w) : Gr W w := by
  obtain ⟨n, rfl⟩ := h
  exact (Gr.refl W).drewN n
theorem wp_region_gt {P : Program} {id : Nat} {Q : Exit → Act → World → Prop} {a : Act} {w : World} {l : List Oper} (n : Nat) (hm : P.follows .mixedOrders = true) (hB : Region.lexTailB .any l.toArray n = true)
    (h : wpQuiet P l.toArray (Gr w) (fun a' => ∀ w', Gr w w' → wpList P l.toArray Q (l.drop n) a' w') (l.take n) a) : (Code.region id l.toArray true).wp P Q a w :=
  wp_region_quiet_tail (C := Gr w) n hm hB ((Gr.refl w).drewN 1) h
def cmpC (x y : E) : Int := orL [cmpI x.s y.s, cmpI x.t y.t, cmpI x.c y.c]
theorem cmpK (x y : E) : orL [cmpC x y, cmpI x.d y.d] = cmpE x y := by
  unfold cmpC cmpE
  simp only [orL]
  by_cases h1 : cmpI x.s y.s = 0 <;> by_cases h2 : cmpI x.t y.t = 0 <;> by_cases h3 : cmpI x.c y.c = 0 <;> simp [h1, h2, h3]
set_option maxRecDepth 100000 in
set_option maxHeartbeats 4000000 in
theorem compareCases_c (x y : E) (w : World) : Calls Try.prog 43 #[.agg #[.int .i64 x.s, .int .i64 x.t, .int .i64 x.c, .int .i64 x.d, .int .u32 (vI x.a), .int .u32 (vI x.b), .int .u32 (vI x.e)], .agg #[.int .i64 y.s, .int .i64 y.t, .int .i64 y.c, .int .i64 y.d, .int .u32 (vI y.a), .int .u32 (vI y.b), .int .u32 (vI y.e)]] w fun e w' => e = .returned (.int .i64 (cmpC x y)) ∧ Gr w w' := by
  obtain ⟨R, hR⟩ : ∃ R, cmpC x y = R := ⟨_, rfl⟩
  rw [hR]
  have HR := Lib.hid hR
  clear hR
  obtain ⟨w2, hw2⟩ : ∃ w2, (w.alloc (.cells #[.int .i64 x.s, .int .i64 x.t, .int .i64 x.c, .int .i64 x.d, .int .u32 (vI x.a), .int .u32 (vI x.b), .int .u32 (vI x.e)] 61)).alloc (.cells #[.int .i64 y.s, .int .i64 y.t, .int .i64 y.c, .int .i64 y.d, .int .u32 (vI y.a), .int .u32 (vI y.b), .int .u32 (vI y.e)] 61) = w2 := ⟨_, rfl⟩
  have B1 : Box w2 w.heap.size x := by rw [← hw2]; exact (Blk.new w _ _).alloc _
  have B2 : Box w2 (w.heap.size + 1) y := by
    have h := Blk.new (w.alloc (.cells #[.int .i64 x.s, .int .i64 x.t, .int .i64 x.c, .int .i64 x.d, .int .u32 (vI x.a), .int .u32 (vI x.b), .int .u32 (vI x.e)] 61)) 61 #[.int .i64 y.s, .int .i64 y.t, .int .i64 y.c, .int .i64 y.d, .int .u32 (vI y.a), .int .u32 (vI y.b), .int .u32 (vI y.e)]
    rw [World.size_alloc, hw2] at h; exact h
  have G2 : Gr w w2 := by rw [← hw2]; exact ((Gr.refl w).alloc _).alloc _
  go_enter Try.func43, Try.ntmps43
  go_wp2_with fail
  clear hw2
  obtain ⟨b0, b1, b2, b3, -⟩ := B1.cells
  obtain ⟨d0, d1, d2, d3, -⟩ := B2.cells
  refine wp_region_dt 15 (by kernel_rfl) (by kernel_rfl) ?_
  simp only [List.take_succ_cons, List.take_zero, List.drop_succ_cons, List.drop_zero]
  repeat (first
      | go_big_quiet_skip
      | (go_big_quiet_want
         go_big_quiet_op
         first
           | go_big_quiet_on
           | (apply Exists.intro
              refine ⟨fun w1 hC => ?_, ?_⟩
              · first
                  | (go_at_call 65; with_reducible exact hC.call (compareI_c _ _ _))
                  | (obtain ⟨n, rfl⟩ := hC; go_simp; exact rfl)
                  | (go_simp; exact ⟨rfl, rfl⟩)
              go_big_quiet_on)))
  refine wpQuiet_nil ?_
  intro W' hC
  obtain ⟨nd, rfl⟩ := hC
  obtain ⟨W3, hW3⟩ : ∃ W3, w2.drewN nd = W3 := ⟨_, rfl⟩
  rw [hW3]
  have G3 := G2.drewN nd
  rw [hW3] at G3
  obtain ⟨C1, e1⟩ : ∃ C, cmpI x.s y.s = C := ⟨_, rfl⟩
  obtain ⟨C2, e2⟩ : ∃ C, cmpI x.t y.t = C := ⟨_, rfl⟩
  obtain ⟨C3, e3⟩ : ∃ C, cmpI x.c y.c = C := ⟨_, rfl⟩
  rw [e1, e2, e3]
  have HO : Hid (Calls Try.prog 64 #[.slice (some ⟨W3.heap.size, 0, none⟩) 3 3] (W3.alloc (.cells #[.int .i64 C1, .int .i64 C2, .int .i64 C3] 3)) fun e w' => e = .returned (.int .i64 R) ∧ W3.alloc (.cells #[.int .i64 C1, .int .i64 C2, .int .i64 C3] 3) = w') := Lib.hid (by
    have h := or_c W3.heap.size [C1, C2, C3] (W3.alloc (.cells #[.int .i64 C1, .int .i64 C2, .int .i64 C3] 3)) (by simp) (fun i hi => by
      rw [(Blk.new W3 _ _).cell i]
      simp only [List.length_cons, List.length_nil] at hi
      match i, hi with
      | 0, _ => rfl
      | 1, _ => rfl
      | 2, _ => rfl)
    rw [← HR.out, cmpC, e1, e2, e3]
    exact h)
  clear hW3 b0 b1 b2 b3 d0 d1 d2 d3 B1 B2 G2 e1 e2 e3
  go_wp2_with (go_at_call 64; refine HO.out.mono ?_; rintro e w' ⟨rfl, rfl⟩)
  go_ret
  exact ⟨rfl, G3.alloc _⟩
set_option maxRecDepth 100000 in
set_option maxHeartbeats 4000000 in
theorem compareKeys_c (x y : E) (w : World) : Calls Try.prog 37 #[.agg #[.int .i64 x.s, .int .i64 x.t, .int .i64 x.c, .int .i64 x.d, .int .u32 (vI x.a), .int .u32 (vI x.b), .int .u32 (vI x.e)], .agg #[.int .i64 y.s, .int .i64 y.t, .int .i64 y.c, .int .i64 y.d, .int .u32 (vI y.a), .int .u32 (vI y.b), .int .u32 (vI y.e)]] w fun e w' => e = .returned (.int .i64 (cmpE x y)) ∧ Gr w w' := by
  obtain ⟨R, hR⟩ : ∃ R, cmpE x y = R := ⟨_, rfl⟩
  rw [hR]
  have HR := Lib.hid hR
  clear hR
  obtain ⟨w2, hw2⟩ : ∃ w2, (w.alloc (.cells #[.int .i64 x.s, .int .i64 x.t, .int .i64 x.c, .int .i64 x.d, .int .u32 (vI x.a), .int .u32 (vI x.b), .int .u32 (vI x.e)] 61)).alloc (.cells #[.int .i64 y.s, .int .i64 y.t, .int .i64 y.c, .int .i64 y.d, .int .u32 (vI y.a), .int .u32 (vI y.b), .int .u32 (vI y.e)] 61) = w2 := ⟨_, rfl⟩
  have B1 : Box w2 w.heap.size x := by rw [← hw2]; exact (Blk.new w _ _).alloc _
  have B2 : Box w2 (w.heap.size + 1) y := by
    have h := Blk.new (w.alloc (.cells #[.int .i64 x.s, .int .i64 x.t, .int .i64 x.c, .int .i64 x.d, .int .u32 (vI x.a), .int .u32 (vI x.b), .int .u32 (vI x.e)] 61)) 61 #[.int .i64 y.s, .int .i64 y.t, .int .i64 y.c, .int .i64 y.d, .int .u32 (vI y.a), .int .u32 (vI y.b), .int .u32 (vI y.e)]
    rw [World.size_alloc, hw2] at h; exact h
  have G2 : Gr w w2 := by rw [← hw2]; exact ((Gr.refl w).alloc _).alloc _
  have L1 : Hid (∀ w1, Gr w2 w1 → Box w1 w.heap.size x) := Lib.hid fun w1 h => (h.below.block _ B1.lt).trans B1
  have L2 : Hid (∀ w1, Gr w2 w1 → Box w1 (w.heap.size + 1) y) := Lib.hid fun w1 h => (h.below.block _ B2.lt).trans B2
  go_enter Try.func37, Try.ntmps37
  go_wp2_with fail
  clear hw2 B1 B2
  refine wp_region_gt 8 (by kernel_rfl) (by kernel_rfl) ?_
  simp only [List.take_succ_cons, List.take_zero, List.drop_succ_cons, List.drop_zero]
  repeat (first
      | go_big_quiet_skip
      | (go_big_quiet_want
         go_big_quiet_op
         first
           | go_big_quiet_on
           | (apply Exists.intro
              refine ⟨fun w1 hC => ?_, ?_⟩
              · first
                  | (go_at_call 43; with_reducible exact hC.call (compareCases_c _ _ _))
                  | (go_at_call 65; exact hC.call ((compareI_c _ _ _).mono fun _ _ ⟨he, hb⟩ => ⟨he, hb ▸ Gr.refl _⟩))
                  | (obtain ⟨b0, b1, b2, b3, b4, b5, b6⟩ := (L1.out _ hC).cells; obtain ⟨d0, d1, d2, d3, d4, d5, d6⟩ := (L2.out _ hC).cells; go_simp; exact rfl)
                  | (go_simp; exact ⟨rfl, rfl⟩)
              go_big_quiet_on)))
  refine wpQuiet_nil ?_
  intro W3 hC
  have G3 := G2.trans hC
  obtain ⟨C1, e1⟩ : ∃ C, cmpC x y = C := ⟨_, rfl⟩
  obtain ⟨C2, e2⟩ : ∃ C, cmpI x.d y.d = C := ⟨_, rfl⟩
  rw [e1, e2]
  have HO : Hid (Calls Try.prog 64 #[.slice (some ⟨W3.heap.size, 0, none⟩) 2 2] (W3.alloc (.cells #[.int .i64 C1, .int .i64 C2] 3)) fun e w' => e = .returned (.int .i64 R) ∧ W3.alloc (.cells #[.int .i64 C1, .int .i64 C2] 3) = w') := Lib.hid (by
    have h := or_c W3.heap.size [C1, C2] (W3.alloc (.cells #[.int .i64 C1, .int .i64 C2] 3)) (by simp) (fun i hi => by
      rw [(Blk.new W3 _ _).cell i]
      simp only [List.length_cons, List.length_nil] at hi
      match i, hi with
      | 0, _ => rfl
      | 1, _ => rfl)
    rw [← HR.out, ← cmpK, e1, e2]
    exact h)
  clear L1 L2 e1 e2 hC G2
  go_wp2_with (go_at_call 64; refine HO.out.mono ?_; rintro e w' ⟨rfl, rfl⟩)
  go_ret
  exact ⟨rfl, G3.alloc _⟩
end Go.Proofs.Ytjikbffnhfoikaa
/- Small functions: keys, vectors, entries, types, targets. -/
namespace Go.Proofs.Ytjikbffnhfoikaa
open Go.RowKit Go.Sort
theorem quad_box {w : World} {g : Nat} {a b c d : Int} (h : Quad w g a b c d) : w.cell? ⟨g, 0, none⟩ = some (.int .u64 a) ∧ w.cell? ⟨g, 1, none⟩ = some (.int .u64 b) ∧ w.cell? ⟨g, 2, none⟩ = some (.int .u64 c) ∧ w.cell? ⟨g, 3, none⟩ = some (.int .u64 d) := by
  obtain ⟨c0, c1, c2, c3, _⟩ := h.facts
  exact ⟨c0, c1, c2, c3⟩
theorem below_a3 {w : World} {o p q : Obj} : Below w.heap.size w (((w.alloc o).alloc p).alloc q) := below_a2.alloc (by simp; omega) _
set_option maxRecDepth 100000 in
theorem keyOf_c (x : E) (w : World) : Calls Try.prog 39 #[.agg #[.int .i64 x.s, .int .i64 x.t, .int .i64 x.c, .int .i64 x.d, .int .u32 (vI x.a), .int .u32 (vI x.b), .int .u32 (vI x.e)]] w fun e w' => e = .returned (.agg #[.int .i64 x.s, .int .i64 x.t, .int .i64 x.c, .int .i64 x.d]) ∧ Below w.heap.size w w' := by
  go_enter Try.func39, Try.ntmps39
  go_wp2
  exact bodyPost_ret (v := .agg #[.int .i64 x.s, .int .i64 x.t, .int .i64 x.c, .int .i64 x.d]) (by simp [results, Try.results39, go_sem]) rfl ⟨rfl, below_a2⟩
set_option maxRecDepth 100000 in
theorem vectorsOf_c (x : E) (w : World) : Calls Try.prog 41 #[.agg #[.int .i64 x.s, .int .i64 x.t, .int .i64 x.c, .int .i64 x.d, .int .u32 (vI x.a), .int .u32 (vI x.b), .int .u32 (vI x.e)]] w fun e w' => e = .returned (.agg #[.int .u32 (vI (vec x).p), .int .u32 (vI (vec x).q), .int .u32 (vI (vec x).r)]) ∧ Below w.heap.size w w' := by
  go_enter Try.func41, Try.ntmps41
  go_wp2
  exact bodyPost_ret (v := .agg #[.int .u32 (vI (vec x).p), .int .u32 (vI (vec x).q), .int .u32 (vI (vec x).r)]) (by simp [results, Try.results41, go_sem, vec]) rfl ⟨rfl, below_a2⟩
set_option maxRecDepth 100000 in
theorem union_c' (u v : V) (w : World) : Calls Try.prog 40 #[.agg #[.int .u32 (vI u.p), .int .u32 (vI u.q), .int .u32 (vI u.r)], .agg #[.int .u32 (vI v.p), .int .u32 (vI v.q), .int .u32 (vI v.r)]] w fun e w' => e = .returned (.agg #[.int .u32 (vI (orV u v).p), .int .u32 (vI (orV u v).q), .int .u32 (vI (orV u v).r)]) ∧ Below w.heap.size w w' := by
  go_enter Try.func40, Try.ntmps40
  go_wp2
  exact bodyPost_ret (v := .agg #[.int .u32 (vI (orV u v).p), .int .u32 (vI (orV u v).q), .int .u32 (vI (orV u v).r)]) (by simp [results, Try.results40, go_sem, vI_or, orV]) rfl ⟨rfl, below_a3⟩
set_option maxRecDepth 100000 in
theorem entry_c (v : V) (x : E) (hx : vec x = v) (w : World) : Calls Try.prog 35 #[.agg #[.int .u32 (vI v.p), .int .u32 (vI v.q), .int .u32 (vI v.r)], .agg #[.int .i64 x.s, .int .i64 x.t, .int .i64 x.c, .int .i64 x.d]] w fun e w' => e = .returned (.agg #[.int .i64 x.s, .int .i64 x.t, .int .i64 x.c, .int .i64 x.d, .int .u32 (vI x.a), .int .u32 (vI x.b), .int .u32 (vI x.e)]) ∧ Below w.heap.size w w' := by
  subst hx
  go_enter Try.func35, Try.ntmps35
  go_wp2
  exact bodyPost_ret (v := .agg #[.int .i64 x.s, .int .i64 x.t, .int .i64 x.c, .int .i64 x.d, .int .u32 (vI x.a), .int .u32 (vI x.b), .int .u32 (vI x.e)]) (by simp [results, Try.results35, go_sem, vec]) rfl ⟨rfl, below_a3⟩
set_option maxRecDepth 100000 in
theorem ruleVectors_c (r : Ru) (w : World) : Calls Try.prog 76 #[.agg #[.int .i64 r.k, .int .u64 r.src.a, .int .u64 r.src.b, .int .u64 r.src.c, .int .u64 r.src.d, .int .u64 r.tgt.a, .int .u64 r.tgt.b, .int .u64 r.tgt.c, .int .u64 r.tgt.d, .bool r.self, .int .i64 r.cl, .int .u32 (vI r.pm), .int .i64 r.cd]] w fun e w' => e = .returned (.agg #[.int .u32 (vI (vR r).p), .int .u32 (vI (vR r).q), .int .u32 (vI (vR r).r)]) ∧ Below w.heap.size w w' := by
  by_cases h1 : r.k = 1
  · have e : vR r = ⟨r.pm, 0#32, 0#32⟩ := if_pos h1
    rw [e, h1]
    go_enter Try.func76, Try.ntmps76
    go_wp2
    exact bodyPost_ret (v := .agg #[.int .u32 (vI r.pm), .int .u32 0, .int .u32 0]) (by simp [results, Try.results76, go_sem]) rfl ⟨rfl, below_a2⟩
  · by_cases h2 : r.k = 2
    · have e : vR r = ⟨0#32, r.pm, 0#32⟩ := by unfold vR; rw [if_neg h1, if_pos h2]
      rw [e, h2]
      go_enter Try.func76, Try.ntmps76
      go_wp2
      exact bodyPost_ret (v := .agg #[.int .u32 0, .int .u32 (vI r.pm), .int .u32 0]) (by simp [results, Try.results76, go_sem]) rfl ⟨rfl, below_a2⟩
    · by_cases h3 : r.k = 3
      · have e : vR r = ⟨0#32, 0#32, r.pm⟩ := by unfold vR; rw [if_neg h1, if_neg h2, if_pos h3]
        rw [e, h3]
        go_enter Try.func76, Try.ntmps76
        go_wp2
        exact bodyPost_ret (v := .agg #[.int .u32 0, .int .u32 0, .int .u32 (vI r.pm)]) (by simp [results, Try.results76, go_sem]) rfl ⟨rfl, below_a2⟩
      · have e : vR r = zV := by unfold vR; rw [if_neg h1, if_neg h2, if_neg h3]
        have g1 : (r.k == 1) = false := by simpa using h1
        have g2 : (r.k == 2) = false := by simpa using h2
        have g3 : (r.k == 3) = false := by simpa using h3
        rw [e]
        clear h1 h2 h3 e
        go_enter Try.func76, Try.ntmps76
        go_wp2
        exact bodyPost_ret (v := .agg #[.int .u32 0, .int .u32 0, .int .u32 0]) (by simp [results, Try.results76, go_sem]) rfl ⟨rfl, below_a2⟩
def isT (n : Int) : Bool := decide (0 ≤ n) && decide (n < 256)
theorem isType_c (n : Int) (w : World) : Calls Try.prog 66 #[.int .i64 n] w fun e w' => e = .returned (.bool (isT n)) ∧ w = w' := by
  unfold isT
  by_cases h1 : 0 ≤ n
  · by_cases h2 : n < 256
    · rw [decide_eq_true h1, decide_eq_true h2]
      go_enter Try.func66, Try.ntmps66
      go_wp2
      go_ret
      exact ⟨rfl, rfl⟩
    · rw [decide_eq_true h1, decide_eq_false h2]
      go_enter Try.func66, Try.ntmps66
      go_wp2
      go_ret
      exact ⟨rfl, rfl⟩
  · rw [decide_eq_false h1]
    go_enter Try.func66, Try.ntmps66
    go_wp2
    go_ret
    exact ⟨rfl, rfl⟩
def tgtS (r : Ru) (s : Int) : S4 := if r.self then withS s r.tgt else r.tgt
set_option maxRecDepth 100000 in
theorem targets_c (r : Ru) (s : Int) (w : World) : Calls Try.prog 27 #[.agg #[.int .i64 r.k, .int .u64 r.src.a, .int .u64 r.src.b, .int .u64 r.src.c, .int .u64 r.src.d, .int .u64 r.tgt.a, .int .u64 r.tgt.b, .int .u64 r.tgt.c, .int .u64 r.tgt.d, .bool r.self, .int .i64 r.cl, .int .u32 (vI r.pm), .int .i64 r.cd], .int .i64 s] w fun e w' => e = .returned (.agg #[.int .u64 (tgtS r s).a, .int .u64 (tgtS r s).b, .int .u64 (tgtS r s).c, .int .u64 (tgtS r s).d]) ∧ Below w.heap.size w w' := by
  obtain ⟨k, src, tgt, self, cl, pm, cd, wf⟩ := r
  unfold tgtS
  cases self
  · go_enter Try.func27, Try.ntmps27
    go_wp2
    exact bodyPost_ret (v := .agg #[.int .u64 tgt.a, .int .u64 tgt.b, .int .u64 tgt.c, .int .u64 tgt.d]) (by simp [results, Try.results27, go_sem]) rfl ⟨rfl, below_a2⟩
  · have HQ : Hid (Quad ((w.alloc (.cells #[.int .i64 (Ru.mk k src tgt true cl pm cd wf).k, .int .u64 (Ru.mk k src tgt true cl pm cd wf).src.a, .int .u64 (Ru.mk k src tgt true cl pm cd wf).src.b, .int .u64 (Ru.mk k src tgt true cl pm cd wf).src.c, .int .u64 (Ru.mk k src tgt true cl pm cd wf).src.d, .int .u64 (Ru.mk k src tgt true cl pm cd wf).tgt.a, .int .u64 (Ru.mk k src tgt true cl pm cd wf).tgt.b, .int .u64 (Ru.mk k src tgt true cl pm cd wf).tgt.c, .int .u64 (Ru.mk k src tgt true cl pm cd wf).tgt.d, .bool (Ru.mk k src tgt true cl pm cd wf).self, .int .i64 (Ru.mk k src tgt true cl pm cd wf).cl, .int .u32 (vI (Ru.mk k src tgt true cl pm cd wf).pm), .int .i64 (Ru.mk k src tgt true cl pm cd wf).cd] 27)).alloc (.cells #[.int .u64 0, .int .u64 0, .int .u64 0, .int .u64 0] 24)) (w.heap.size + 1) 0 0 0 0) := Lib.hid (by
      have h := Quad.new (w.alloc (.cells #[.int .i64 (Ru.mk k src tgt true cl pm cd wf).k, .int .u64 (Ru.mk k src tgt true cl pm cd wf).src.a, .int .u64 (Ru.mk k src tgt true cl pm cd wf).src.b, .int .u64 (Ru.mk k src tgt true cl pm cd wf).src.c, .int .u64 (Ru.mk k src tgt true cl pm cd wf).src.d, .int .u64 (Ru.mk k src tgt true cl pm cd wf).tgt.a, .int .u64 (Ru.mk k src tgt true cl pm cd wf).tgt.b, .int .u64 (Ru.mk k src tgt true cl pm cd wf).tgt.c, .int .u64 (Ru.mk k src tgt true cl pm cd wf).tgt.d, .bool (Ru.mk k src tgt true cl pm cd wf).self, .int .i64 (Ru.mk k src tgt true cl pm cd wf).cl, .int .u32 (vI (Ru.mk k src tgt true cl pm cd wf).pm), .int .i64 (Ru.mk k src tgt true cl pm cd wf).cd] 27)) 0 0 0 0
      rw [World.size_alloc] at h; exact h)
    go_enter Try.func27, Try.ntmps27
    go_wp2_with fail
    refine (with_c _ _ _ _ _ _).mono ?_
    rintro e w' ⟨rfl, hb⟩
    have hQ := HQ.out.below hb (by simp)
    have HB := Lib.hid (below_a2.trans (hb.mono (by simp; omega)))
    obtain ⟨c0, c1, c2, c3, f0, f1, f2, f3⟩ := hQ.facts
    have HQ2 := Lib.hid hQ
    clear hb hQ
    go_wp2_with fail
    obtain ⟨r0, r1, r2, r3⟩ := quad_box (HQ2.out.set4 (withI s 0 tgt.a) (withI s 1 tgt.b) (withI s 2 tgt.c) (withI s 3 tgt.d))
    exact bodyPost_ret (v := .agg #[.int .u64 (withI s 0 tgt.a), .int .u64 (withI s 1 tgt.b), .int .u64 (withI s 2 tgt.c), .int .u64 (withI s 3 tgt.d)]) (by simp [results, Try.results27, go_sem, r0, r1, r2, r3]) rfl ⟨rfl, below_set4 HB.out (by omega) _ _ _ _⟩
set_option maxRecDepth 100000 in
theorem before_c (x y : E) (w : World) : Calls Try.prog 73 #[.agg #[.int .i64 x.s, .int .i64 x.t, .int .i64 x.c, .int .i64 x.d, .int .u32 (vI x.a), .int .u32 (vI x.b), .int .u32 (vI x.e)], .agg #[.int .i64 y.s, .int .i64 y.t, .int .i64 y.c, .int .i64 y.d, .int .u32 (vI y.a), .int .u32 (vI y.b), .int .u32 (vI y.e)]] w fun e w' => e = .returned (.bool (decide (ltP x y))) ∧ Below w.heap.size w w' := by
  obtain ⟨R, hR⟩ : ∃ R, decide (ltP x y) = R := ⟨_, rfl⟩
  rw [hR]
  have HR := Lib.hid hR
  clear hR
  by_cases h1 : x.s = y.s
  · have g1 : (x.s != y.s) = false := by simpa using h1
    by_cases h2 : x.t = y.t
    · have g2 : (x.t != y.t) = false := by simpa using h2
      by_cases h3 : x.c = y.c
      · have g3 : (x.c != y.c) = false := by simpa using h3
        have HR0 : Hid (decide (x.d < y.d) = R) := Lib.hid (by rw [← HR.out]; apply decide_eq_decide.2; unfold ltP; omega)
        clear HR h1 h2 h3
        go_enter Try.func73, Try.ntmps73
        go_wp2
        go_ret
        exact ⟨by rw [← HR0.out]; rfl, below_a2⟩
      · have g3 : (x.c != y.c) = true := by simpa using h3
        have HR0 : Hid (decide (x.c < y.c) = R) := Lib.hid (by rw [← HR.out]; apply decide_eq_decide.2; unfold ltP; omega)
        clear HR h1 h2 h3
        go_enter Try.func73, Try.ntmps73
        go_wp2
        go_ret
        exact ⟨by rw [← HR0.out]; rfl, below_a2⟩
    · have g2 : (x.t != y.t) = true := by simpa using h2
      have HR0 : Hid (decide (x.t < y.t) = R) := Lib.hid (by rw [← HR.out]; apply decide_eq_decide.2; unfold ltP; omega)
      clear HR h1 h2
      go_enter Try.func73, Try.ntmps73
      go_wp2
      go_ret
      exact ⟨by rw [← HR0.out]; rfl, below_a2⟩
  · have g1 : (x.s != y.s) = true := by simpa using h1
    have HR0 : Hid (decide (x.s < y.s) = R) := Lib.hid (by rw [← HR.out]; apply decide_eq_decide.2; unfold ltP; omega)
    clear HR h1
    go_enter Try.func73, Try.ntmps73
    go_wp2
    go_ret
    exact ⟨by rw [← HR0.out]; rfl, below_a2⟩
end Go.Proofs.Ytjikbffnhfoikaa
/- Struct types as keys of maps. -/
namespace Go.Proofs.Ytjikbffnhfoikaa
open Go.RowKit Go.Sort Go.Maps
theorem Try.laidOut : laidOutB Try.prog = true := by kernel_rfl
theorem sizes : ∃ m, Try.prog.types.size = m + 1 := ⟨Try.prog.types.size - 1, by
  have : 0 < Try.prog.types.size := of_decide_eq_true (by kernel_rfl)
  omega⟩
theorem keyed_key : Keyed Try.prog 79 := Keyed.of_law (deep_law_gate Try.laidOut (of_decide_eq_true (by kernel_rfl)) (of_decide_eq_true (by kernel_rfl)) (by kernel_rfl) (by rw [Try.underlying79]))
theorem wf64 {z : Int} (h : -9223372036854775808 ≤ z ∧ z ≤ 9223372036854775807) : (Lit.int .i64 z).wf = true := by
  show (decide (-9223372036854775808 ≤ z) && decide (z ≤ 9223372036854775807)) = true
  simp [h.1, h.2]
theorem keyOf_key {a b c d : Int} (wa : W64 a) (wb : W64 b) (wc : W64 c) (wd : W64 d) :
    keyOf Try.prog 79 (.agg #[.int .i64 a, .int .i64 b, .int .i64 c, .int .i64 d]) = some (.string (keyBytes [.int .i64 a, .int .i64 b, .int .i64 c, .int .i64 d])) := by
  have hu := Try.underlying79
  have he := Try.underlying3
  have hk : Try.prog.keyType 79 = true := by kernel_rfl
  have hc : Try.prog.cellsOf 79 = 4 := by kernel_rfl
  have h1 : Try.prog.cellsOf 3 = 1 := by kernel_rfl
  obtain ⟨m, hm⟩ := sizes
  unfold keyOf
  simp only [hu]
  rw [if_pos (by simp [hk, Value.formed, hu, hc]), hm]
  unfold Program.keyLits
  simp only [hu, Value.cells]
  rw [if_pos ⟨by rw [hc]; rfl, by kernel_rfl⟩, List.mapM_cons, List.mapM_cons, List.mapM_cons, List.mapM_cons, List.mapM_nil]
  simp [h1, Program.keyLits, he, wf64 wa, wf64 wb, wf64 wc, wf64 wd]
end Go.Proofs.Ytjikbffnhfoikaa
/- Maps of any values, as functions: what is made, looked up, stored and ranged over. No program named. -/
namespace Go.Proofs.Ytjikbffnhfoikaa
open Go.RowKit Go.Maps Go.WideElems
/-- a value reads as itself -/
def Rid (v : Value) : Option (DataW Value × List MemPlace) := some (.held v, [])
def upd (f : Lit → Option Value) (k : Lit) (v : Value) : Lit → Option Value := fun k' => if k'.sameKey k = true then some v else f k'
/-- the datum D is the function f -/
structure MD (D : DataW Value) (f : Lit → Option Value) : Prop where
  m : IsMap D
  h : ∀ k, has D k = (f k).isSome
  a : ∀ k v, f k = some v → ∀ z, D.atKey k z = .held v
theorem MD.nil : MD (.map []) fun _ => none := ⟨isMap_empty, fun _ => rfl, fun k v h => by cases h⟩
theorem MD.put {D : DataW Value} {f : Lit → Option Value} (h : MD D f) {k : Lit} (hk : WideAt.IsKeyLit k) (v : Value) : MD (D.put k (.held v)) (upd f k v) := by
  refine ⟨h.m.put _ _, fun k' => ?_, fun k' u hu z => ?_⟩
  · unfold upd
    by_cases e : k'.sameKey k = true
    · rw [if_pos e]
      have e2 := (WideAt.sameKey_iff hk).1 e
      subst e2
      rw [has_put_same h.m hk]; rfl
    · rw [if_neg e]
      have e2 : k' ≠ k := fun e3 => e (by rw [e3]; exact WideAt.sameKey_self hk)
      rw [has_put_other e2, h.h]
  · unfold upd at hu
    by_cases e : k'.sameKey k = true
    · rw [if_pos e] at hu
      simp only [Option.some.injEq] at hu
      subst hu
      have e2 := (WideAt.sameKey_iff hk).1 e
      subst e2
      exact atKey_put_same h.m hk _ _
    · rw [if_neg e] at hu
      have e2 : k' ≠ k := fun e3 => e (by rw [e3]; exact WideAt.sameKey_self hk)
      rw [atKey_put_other e2]
      exact h.a _ _ hu z
/-- block b is a map that is the function f -/
def MapR (P : Program) (k : TypeId) (w : World) (b n : Nat) (f : Lit → Option Value) : Prop := ∃ D : DataW Value, w.ownsMap P k Rid b n D ∧ MD D f
/-- block b is such a map, and block r ranges over it; left tells what is still to come -/
def RanR (P : Program) (k : TypeId) (w : World) (b r n : Nat) (f : Lit → Option Value) (left : Lit → Bool) (cnt : Nat) : Prop := ∃ D : DataW Value, w.ranges P k Rid b r n D left cnt ∧ MD D f
section
variable {P : Program} {k t e : TypeId} {w w' : World} {b r n cnt : Nat} {f : Lit → Option Value} {left : Lit → Bool}
theorem MapR.made (w : World) : MapR P k (w.alloc (.map #[] 0)) w.heap.size 0 fun _ => none := ⟨_, World.ownsMap_made w P k Rid, MD.nil⟩
theorem MapR.lt (h : MapR P k w b n f) : b < w.heap.size := by
  obtain ⟨D, h, _⟩ := h
  exact h.lt
theorem MapR.kept {row : Option Nat} (h : MapR P k w b n f) (hg : w.grownBy w' row) (hne : some b ≠ row) : MapR P k w' b n f := by
  obtain ⟨D, h, hd⟩ := h
  exact ⟨D, h.kept hg hne, hd⟩
theorem below_grown {w w' : World} (hb : Below w.heap.size w w') : w.grownBy w' none := ⟨hb.os, hb.tape, hb.output, hb.size, fun k hk _ => hb.block k hk⟩
theorem MapR.below (h : MapR P k w b n f) (hb : Below w.heap.size w w') : MapR P k w' b n f := h.kept (below_grown hb) (by simp)
theorem MapR.alloc (h : MapR P k w b n f) (o : Obj) : MapR P k (w.alloc o) b n f := by
  obtain ⟨D, h, hd⟩ := h
  exact ⟨D, h.alloc o, hd⟩
theorem MapR.mono {n' : Nat} (h : MapR P k w b n f) (hn : n ≤ n') : MapR P k w b n' f := by
  obtain ⟨D, h, hd⟩ := h
  exact ⟨D, h.mono hn, hd⟩
theorem MapR.lookup (h : MapR P k w b n f) (K : Keyed P k) (ht : P.underlying t = some (.map k e)) {z : Value} (hz : (zeroValue e).run P w = .ok z w) {key : Value} {kl : Lit} (hkey : keyOf P k key = some kl) :
    (Instr.lookup t (.map (some b)) key false).run P w = .ok ((f kl).getD z) w := by
  obtain ⟨D, h, hd⟩ := h
  obtain ⟨v, ps, hrun, hv⟩ := h.lookup K ht hz (zd := .held z) (zp := []) rfl hkey
  simp only [Rid, Option.some.injEq, Prod.mk.injEq] at hv
  rw [hrun]
  congr 1
  cases hf : f kl with
  | some u =>
    rw [hd.a _ _ hf] at hv
    simpa using hv.1
  | none =>
    have : has D kl = false := by rw [hd.h, hf]; rfl
    rw [atKey_of_not_has this] at hv
    simpa using hv.1
theorem MapR.update (h : MapR P k w b n f) (K : Keyed P k) (ht : P.underlying t = some (.map k e)) (hn : n < maxLen) {key : Value} (val : Value) {kl : Lit} (hkey : keyOf P k key = some kl) :
    ∃ w', (Instr.mapUpdate t (.map (some b)) key val).run P w = .ok () w' ∧ MapR P k w' b (n + 1) (upd f kl val) ∧ w.grownBy w' (some b) := by
  obtain ⟨D, h, hd⟩ := h
  obtain ⟨w', h1, h2, h3⟩ := h.update K ht hn hkey (val := val) (d := .held val) (ps := []) rfl
  exact ⟨w', h1, ⟨_, h2, hd.put (K.key hkey) val⟩, h3⟩
theorem wpList_update_R {ops : Array Oper} {rest : List Oper} {o : Oper} {a : Act} {Q : Exit → Act → World → Prop}
    (hg : o.guard = none) (m x v : Operand) (t : TypeId) (hop : o.op = Op.mapUpdate t m x v) (k e : TypeId) (K : Keyed P k) (ht : P.underlying t = some (.map k e)) (b n : Nat) (f : Lit → Option Value)
    (hm : a.eval m = .map (some b)) (hown : MapR P k w b n f) (hn : n < maxLen) (key val : Value) (kl : Lit) (hx : a.eval x = key) (hv : a.eval v = val) (hkey : keyOf P k key = some kl)
    (hK : ∀ w', MapR P k w' b (n + 1) (upd f kl val) → w.grownBy w' (some b) → wpList P ops Q rest (a.put o.dst undef) w') :
    wpList P ops Q (o :: rest) a w := by
  refine wpList_plain hg fun K' hK' => ?_
  obtain ⟨w', hrun, r1, r2⟩ := hown.update K ht hn val hkey
  unfold Oper.wp
  simp [execOp, hop, hm, hx, hv, hrun, Result.andThen]
  exact hK' _ _ (hK w' r1 r2)
/-- the entry at a key, found once; what is stored behind it -/
theorem MapR.entry (h : MapR P k w b n f) (KL : WideMaps.KeyLaw P k) (ht : P.underlying t = some (.map k e)) {z : Value} (hz : ∀ u : World, (zeroValue e).run P u = .ok z u) (hn : n < maxLen) {key : Value} {kl : Lit} (hkey : keyOf P k key = some kl) :
    ∃ (st : Nat) (w1 : World), (Instr.mapEntry t (.map (some b)) key).run P w = .ok (.tuple #[(f kl).getD z, goInt st]) w1 ∧ w.grownBy w1 (some b) ∧ w1.heap.size = w.heap.size ∧
      ∀ (w2 : World) (val : Value), w2.heap[b]? = w1.heap[b]? → ∃ w3, (Instr.entryStore t (.map (some b)) (goInt st) val).run P w2 = .ok () w3 ∧ MapR P k w3 b (n + 1) (upd f kl val) ∧ w2.grownBy w3 (some b) ∧ w3.heap.size = w2.heap.size := by
  have K : Keyed P k := Keyed.of_law KL
  have hlook := h.lookup K ht (hz w) hkey
  have hup : ∀ val, ∃ w', (Instr.mapUpdate t (.map (some b)) key val).run P w = .ok () w' ∧ MapR P k w' b (n + 1) (upd f kl val) ∧ w.grownBy w' (some b) := fun val => h.update K ht hn val hkey
  obtain ⟨D, ⟨es, clock, hb, F, hs, hD⟩, hd⟩ := h
  obtain ⟨v0, st, es1, clock1, hrun, hv0, hback⟩ := entry_then_store KL ht hz hb F hkey
  have hv : v0 = (f kl).getD z := by
    rcases Maps.fit_look false K ht (hz w) hb F hkey with ⟨hr, hno, _⟩ | ⟨e0, y, hm, hk0, hr, _⟩
    · rw [hlook] at hr
      simp only [Result.ok.injEq, and_true] at hr
      rcases hv0 with ⟨e1, he1, hk1, _⟩ | ⟨_, rfl⟩
      · exact absurd hk1 (hno e1 he1)
      · simpa using hr.symm
    · rw [hlook] at hr
      simp only [Result.ok.injEq, and_true] at hr
      rcases hv0 with ⟨e1, he1, hk1, rfl⟩ | ⟨hno, _⟩
      · have hap := Maps.fit_apart K F
        have : e1 = e0 := by
          have hp : es.toList.Pairwise fun x y => x.key ≠ y.key := (List.pairwise_map.1 hap).imp_of_mem fun {x y} hx hy hne e => hne (by
            obtain ⟨a, ha⟩ := F.reads x hx
            obtain ⟨c, hc⟩ := F.reads y hy
            have h1 := rd_key ha
            have h2 := rd_key hc
            rw [e] at h1
            rw [rg_of ha, rg_of hc]
            rw [h1] at h2
            simpa using h2)
          exact entry_eq_of_key hp he1 hm (hk1.trans hk0.symm)
        rw [this]
        simpa using hr.symm
      · exact absurd hk0 (hno e0 hm)
  refine ⟨st, ChangeMaps.setBlock w b (.map es1 clock1), by rw [hrun, hv], ⟨rfl, rfl, rfl, by simp [ChangeMaps.setBlock], fun i _ hi => ChangeMaps.heap_setBlock_other hb _ (fun e => hi (by rw [e]))⟩, by simp [ChangeMaps.setBlock], fun w2 val hw2 => ?_⟩
  rw [ChangeMaps.heap_setBlock_same hb] at hw2
  obtain ⟨es', clock', h1, h2⟩ := hback w2 val hw2
  obtain ⟨w', h3, ⟨D', ⟨es2, clock2, hb2, F2, hs2, hD2⟩, hd2⟩, _⟩ := hup val
  rw [h2] at h3
  simp only [Result.ok.injEq, true_and] at h3
  subst h3
  rw [ChangeMaps.heap_setBlock_same hb] at hb2
  simp only [Option.some.injEq, Obj.map.injEq] at hb2
  obtain ⟨rfl, rfl⟩ := hb2
  exact ⟨_, h1, ⟨D', ⟨_, _, ChangeMaps.heap_setBlock_same hw2 _, F2, hs2, hD2⟩, hd2⟩, ⟨rfl, rfl, rfl, by simp [ChangeMaps.setBlock], fun i _ hi => ChangeMaps.heap_setBlock_other hw2 _ (fun e => hi (by rw [e]))⟩, by simp [ChangeMaps.setBlock]⟩
/-! ranges -/
theorem RanR.kept {row : Option Nat} (h : RanR P k w b r n f left cnt) (hg : w.grownBy w' row) (hb' : some b ≠ row) (hr' : some r ≠ row) : RanR P k w' b r n f left cnt := by
  obtain ⟨D, h, hd⟩ := h
  exact ⟨D, h.kept hg hb' hr', hd⟩
theorem RanR.below (h : RanR P k w b r n f left cnt) (hb : Below w.heap.size w w') : RanR P k w' b r n f left cnt := h.kept (below_grown hb) (by simp) (by simp)
theorem RanR.alloc (h : RanR P k w b r n f left cnt) (o : Obj) : RanR P k (w.alloc o) b r n f left cnt := by
  obtain ⟨D, h, hd⟩ := h
  exact ⟨D, h.alloc o, hd⟩
theorem RanR.left_eq (h : RanR P k w b r n f left cnt) : w.rangeLeft b r = cnt := by
  obtain ⟨D, h, hd⟩ := h
  exact h.left_eq
theorem RanR.lt (h : RanR P k w b r n f left cnt) : r < w.heap.size ∧ b < w.heap.size ∧ r ≠ b := by
  obtain ⟨D, h, hd⟩ := h
  exact ⟨h.lt, h.owns.lt, h.ne⟩
theorem wpList_range_R {ops : Array Oper} {rest : List Oper} {o : Oper} {a : Act} {Q : Exit → Act → World → Prop} (hg : o.guard = none) (m : Operand) (t : TypeId) (hop : o.op = Op.range t m) (k e : TypeId) (K : Keyed P k) (ht : P.underlying t = some (.map k e)) (b n : Nat) (f : Lit → Option Value)
    (hm : a.eval m = .map (some b)) (hown : MapR P k w b n f)
    (hK : ∀ w' cnt, RanR P k w' b w.heap.size n f (fun kl => (f kl).isSome) cnt → w.grownBy w' none → w'.heap.size = w.heap.size + 1 → wpList P ops Q rest (a.put o.dst (.pointer (some ⟨w.heap.size, 0, none⟩))) w') :
    wpList P ops Q (o :: rest) a w := by
  obtain ⟨D, h, hd⟩ := hown
  refine wpList_range_own w hg m t hop k e K ht Rid b n D hm h fun w' h1 h2 h3 => hK w' (size D) ⟨D, ?_, hd⟩ h2 h3
  have : has D = fun kl => (f kl).isSome := funext hd.h
  rw [← this]
  exact h1
theorem wpList_next_R {ops : Array Oper} {rest : List Oper} {o : Oper} {a : Act} {Q : Exit → Act → World → Prop} (hg : o.guard = none) (it : Operand) (hop : o.op = Op.next it false) (k : TypeId) (K : Keyed P k) (b r n : Nat) (f : Lit → Option Value) (left : Lit → Bool) (cnt : Nat)
    (hit : a.eval it = .pointer (some ⟨r, 0, none⟩)) (h : RanR P k w b r n f left cnt)
    (hDone : cnt = 0 → (∀ kl, left kl = false) → wpList P ops Q rest (a.put o.dst (.tuple #[.bool false])) w)
    (hMore : ∀ (key v : Value) (kl : Lit) (w' : World) (cnt' : Nat), keyOf P k key = some kl → left kl = true → f kl = some v → RanR P k w' b r n f (fun z => left z && !z.sameKey kl) cnt' → cnt' < cnt →
      w.grownBy w' (some r) → w'.heap.size = w.heap.size → (Instr.entry (.pointer (some ⟨r, 0, none⟩))).run P w' = .ok (.tuple #[key, v]) w' → wpList P ops Q rest (a.put o.dst (.tuple #[.bool true, key, v])) w') :
    wpList P ops Q (o :: rest) a w := by
  obtain ⟨D, h, hd⟩ := h
  refine wpList_next_ranges w hg it hop k K Rid (id : Value → Value) (id : Value → Value) (fun key kl _ => ⟨key, rfl⟩) (fun v y _ => ⟨v, rfl⟩) b r n D left cnt hit h hDone ?_
  intro key v kl y w' cnt' hkey hlk hv hat hrg hlt hgr hsz hen
  simp only [Rid, id, Option.some.injEq] at hv
  subst hv
  have hh : has D kl = true := has_true_of_atKey hat
  rw [hd.h, Option.isSome_iff_exists] at hh
  obtain ⟨u, hu⟩ := hh
  have hu2 := hd.a _ _ hu .nil
  rw [hat] at hu2
  simp only [DataW.held.injEq] at hu2
  subst hu2
  exact hMore key v kl w' cnt' hkey hlk hu ⟨D, hrg, hd⟩ hlt hgr hsz hen
end
end Go.Proofs.Ytjikbffnhfoikaa
