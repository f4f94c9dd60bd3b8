/- Plain facts on 64-bit words: the number of one bits as math/bits.OnesCount64 computes it, bits and the operations on words. No Go text. -/
import Derived.Laws.BitsAllLaws
namespace Go.Proofs.Ytbkejoheefnmiaa
/-- how many of the first k bits are one -/
def pc : Nat → Nat → Nat
  | 0, _ => 0
  | k + 1, X => pc k X + (X.testBit k).toNat
theorem pc_le : ∀ k X, pc k X ≤ k
  | 0, _ => Nat.le_refl _
  | k + 1, X => by have := pc_le k X; have : (X.testBit k).toNat ≤ 1 := Bool.toNat_le _; simp only [pc]; omega
theorem pc_or_and (x y : Nat) : ∀ k, pc k (x ||| y) + pc k (x &&& y) = pc k x + pc k y
  | 0 => rfl
  | k + 1 => by
    have h := pc_or_and x y k
    simp only [pc, Nat.testBit_or, Nat.testBit_and]
    cases x.testBit k <;> cases y.testBit k <;> simp <;> omega
theorem pc_split (X : Nat) : ∀ k, pc (8 + k) X = pc 8 (X % 256) + pc k (X / 256)
  | 0 => by
    have e : ∀ i, i < 8 → (X % 2 ^ 8).testBit i = X.testBit i := fun i hi => by rw [Nat.testBit_mod_two_pow]; simp [hi]
    simp only [pc, Nat.add_zero]
    rw [show (256 : Nat) = 2 ^ 8 from rfl, e 0 (by omega), e 1 (by omega), e 2 (by omega), e 3 (by omega), e 4 (by omega), e 5 (by omega), e 6 (by omega), e 7 (by omega)]
  | k + 1 => by
    have h := pc_split X k
    have e : (X / 256).testBit k = X.testBit (8 + k) := by rw [show (256 : Nat) = 2 ^ 8 from rfl, Nat.testBit_div_two_pow, Nat.add_comm]
    show pc (8 + k) X + (X.testBit (8 + k)).toNat = pc 8 (X % 256) + (pc k (X / 256) + ((X / 256).testBit k).toNat)
    rw [h, e]
    omega
/-- a function on each byte -/
def mapB (f : Nat → Nat) : Nat → Nat → Nat
  | 0, _ => 0
  | m + 1, X => f (X % 256) + 256 * mapB f m (X / 256)
def mask (c : Nat) : Nat → Nat
  | 0 => 0
  | m + 1 => c + 256 * mask c m
theorem and_split (x y : Nat) : x &&& y = ((x % 256) &&& (y % 256)) + 256 * ((x / 256) &&& (y / 256)) := by
  have h1 : (x &&& y) % 2 ^ 8 = (x % 2 ^ 8) &&& (y % 2 ^ 8) := Nat.and_mod_two_pow
  have h2 : (x &&& y) / 2 ^ 8 = (x / 2 ^ 8) &&& (y / 2 ^ 8) := Nat.and_div_two_pow
  have h3 := Nat.mod_add_div (x &&& y) (2 ^ 8)
  rw [h1, h2] at h3
  exact h3.symm
theorem mask_mod (c m : Nat) (h : c < 256) : mask c (m + 1) % 256 = c := by simp only [mask]; omega
theorem mask_div (c m : Nat) (h : c < 256) : mask c (m + 1) / 256 = mask c m := by simp only [mask]; omega
def B1 (b : Nat) : Nat := ((b / 2) &&& 0x55) + (b &&& 0x55)
def B2 (b : Nat) : Nat := ((b / 4) &&& 0x33) + (b &&& 0x33)
def B3 (b : Nat) : Nat := (b / 16 + b) % 16
theorem low1 : ∀ b : Fin 256, ∀ t : Fin 2, (b.val / 2 + 128 * t.val) &&& 0x55 = (b.val / 2) &&& 0x55 := by decide +kernel
theorem low2 : ∀ b : Fin 256, ∀ t : Fin 4, (b.val / 4 + 64 * t.val) &&& 0x33 = (b.val / 4) &&& 0x33 := by decide +kernel
theorem step1 : ∀ m X, ((X / 2) &&& mask 0x55 m) + (X &&& mask 0x55 m) = mapB B1 m X
  | 0, X => by simp [mask, mapB]
  | m + 1, X => by
    have ih := step1 m (X / 256)
    rw [and_split (X / 2), and_split X, mask_mod _ _ (by omega), mask_div _ _ (by omega)]
    have e : X / 2 % 256 = X % 256 / 2 + 128 * (X / 256 % 2) := by omega
    have l := low1 ⟨X % 256, by omega⟩ ⟨X / 256 % 2, by omega⟩
    simp only at l
    rw [e, l, show X / 2 / 256 = X / 256 / 2 by omega, mapB, ← ih, B1]
    omega
theorem step2 : ∀ m X, ((X / 4) &&& mask 0x33 m) + (X &&& mask 0x33 m) = mapB B2 m X
  | 0, X => by simp [mask, mapB]
  | m + 1, X => by
    have ih := step2 m (X / 256)
    rw [and_split (X / 4), and_split X, mask_mod _ _ (by omega), mask_div _ _ (by omega)]
    have e : X / 4 % 256 = X % 256 / 4 + 64 * (X / 256 % 4) := by omega
    have l := low2 ⟨X % 256, by omega⟩ ⟨X / 256 % 4, by omega⟩
    simp only at l
    rw [e, l, show X / 4 / 256 = X / 256 / 4 by omega, mapB, ← ih, B2]
    omega
theorem mapB_comp (f g : Nat → Nat) (hg : ∀ b, b < 256 → g b < 256) : ∀ m X, mapB f m (mapB g m X) = mapB (fun b => f (g b)) m X
  | 0, _ => rfl
  | m + 1, X => by
    have h := hg (X % 256) (by omega)
    simp only [mapB]
    rw [show (g (X % 256) + 256 * mapB g m (X / 256)) % 256 = g (X % 256) by omega, show (g (X % 256) + 256 * mapB g m (X / 256)) / 256 = mapB g m (X / 256) by omega, mapB_comp f g hg m]
theorem mapB_congr (f g : Nat → Nat) (h : ∀ b, b < 256 → f b = g b) : ∀ m X, mapB f m X = mapB g m X
  | 0, _ => rfl
  | m + 1, X => by simp only [mapB]; rw [h _ (by omega), mapB_congr f g h m]
theorem and15 (n : Nat) : n &&& 15 = n % 16 := Nat.and_two_pow_sub_one_eq_mod n 4
theorem mapB_mod16 (g : Nat → Nat) (hg : ∀ b, b < 256 → g b % 16 ≤ 4) : ∀ m X, mapB g m X % 16 ≤ 4
  | 0, _ => by simp [mapB]
  | m + 1, X => by have := hg (X % 256) (by omega); simp only [mapB]; omega
theorem step3 (g : Nat → Nat) (hg : ∀ b, b < 256 → g b % 16 ≤ 4 ∧ g b / 16 ≤ 4) : ∀ m X, ((mapB g m X / 16 + mapB g m X) &&& mask 0x0f m) = mapB (fun b => B3 (g b)) m X
  | 0, X => by simp [mask, mapB]
  | m + 1, X => by
    have ih := step3 g hg m (X / 256)
    have h1 := hg (X % 256) (by omega)
    have h2 := mapB_mod16 g (fun b hb => (hg b hb).1) m (X / 256)
    rw [and_split, mask_mod _ _ (by omega), mask_div _ _ (by omega)]
    simp only [mapB]
    generalize g (X % 256) = z at *
    generalize mapB g m (X / 256) = Z at *
    rw [show (z + 256 * Z) / 16 + (z + 256 * Z) = (z / 16 + z + 16 * (Z % 16)) + 256 * (Z / 16 + Z) by omega]
    rw [show (z / 16 + z + 16 * (Z % 16) + 256 * (Z / 16 + Z)) % 256 = z / 16 + z + 16 * (Z % 16) by omega, show (z / 16 + z + 16 * (Z % 16) + 256 * (Z / 16 + Z)) / 256 = Z / 16 + Z by omega]
    rw [ih, and15, B3]
    omega
theorem byte1 : ∀ b : Fin 256, B1 b.val < 256 := by decide +kernel
theorem byte2 : ∀ b : Fin 256, B2 (B1 b.val) % 16 ≤ 4 ∧ B2 (B1 b.val) / 16 ≤ 4 := by decide +kernel
theorem byte3 : ∀ b : Fin 256, B3 (B2 (B1 b.val)) = pc 8 b.val := by decide +kernel
theorem spread (X : Nat) : ∀ m, mapB (fun b => B3 (B2 (B1 b))) m X = mapB (pc 8) m X := fun m => mapB_congr _ _ (fun b hb => byte3 ⟨b, hb⟩) m X
/-- the three masked steps -/
def swar (X : Nat) : Nat :=
  let a := ((X / 2) &&& 0x5555555555555555) + (X &&& 0x5555555555555555)
  let b := ((a / 4) &&& 0x3333333333333333) + (a &&& 0x3333333333333333)
  (b / 16 + b) &&& 0x0f0f0f0f0f0f0f0f
theorem swar_eq (X : Nat) : swar X = mapB (pc 8) 8 X := by
  unfold swar
  rw [show (0x5555555555555555 : Nat) = mask 0x55 8 from rfl, show (0x3333333333333333 : Nat) = mask 0x33 8 from rfl, show (0x0f0f0f0f0f0f0f0f : Nat) = mask 0x0f 8 from rfl]
  rw [step1]
  dsimp only
  rw [step2, mapB_comp _ _ (fun b hb => byte1 ⟨b, hb⟩), step3 _ (fun b hb => byte2 ⟨b, hb⟩), spread]
theorem mapB8 (f : Nat → Nat) (X : Nat) : ∃ c0 c1 c2 c3 c4 c5 c6 c7, mapB f 8 X = c0 + 256 * (c1 + 256 * (c2 + 256 * (c3 + 256 * (c4 + 256 * (c5 + 256 * (c6 + 256 * c7)))))) ∧
    c0 = f (X % 256) ∧ c1 = f (X / 256 % 256) ∧ c2 = f (X / 256 / 256 % 256) ∧ c3 = f (X / 256 / 256 / 256 % 256) ∧ c4 = f (X / 256 / 256 / 256 / 256 % 256) ∧
    c5 = f (X / 256 / 256 / 256 / 256 / 256 % 256) ∧ c6 = f (X / 256 / 256 / 256 / 256 / 256 / 256 % 256) ∧ c7 = f (X / 256 / 256 / 256 / 256 / 256 / 256 / 256 % 256) :=
  ⟨_, _, _, _, _, _, _, _, by simp [mapB], rfl, rfl, rfl, rfl, rfl, rfl, rfl, rfl⟩
theorem pc64 (X : Nat) : pc 64 X = pc 8 (X % 256) + (pc 8 (X / 256 % 256) + (pc 8 (X / 256 / 256 % 256) + (pc 8 (X / 256 / 256 / 256 % 256) + (pc 8 (X / 256 / 256 / 256 / 256 % 256) +
    (pc 8 (X / 256 / 256 / 256 / 256 / 256 % 256) + (pc 8 (X / 256 / 256 / 256 / 256 / 256 / 256 % 256) + pc 8 (X / 256 / 256 / 256 / 256 / 256 / 256 / 256 % 256))))))) := by
  rw [show (64 : Nat) = 8 + (8 + (8 + (8 + (8 + (8 + (8 + (8 + 0))))))) from rfl]
  rw [pc_split, pc_split, pc_split, pc_split, pc_split, pc_split, pc_split, pc_split]
  rfl
/-- the sum of the bytes -/
def fold3 (V : Nat) : Nat :=
  let a := V + V / 256
  let b := a + a / 65536
  (b + b / 4294967296) % 128
theorem fold_a {c0 c1 c2 c3 c4 c5 c6 c7 V : Nat} (_h0 : c0 ≤ 8) (_h1 : c1 ≤ 8) (_h2 : c2 ≤ 8) (_h3 : c3 ≤ 8) (_h4 : c4 ≤ 8) (_h5 : c5 ≤ 8) (_h6 : c6 ≤ 8) (_h7 : c7 ≤ 8) (h : V = c0 + 256 * (c1 + 256 * (c2 + 256 * (c3 + 256 * (c4 + 256 * (c5 + 256 * (c6 + 256 * c7))))))) : V + V / 256 = (c0 + c1) + 256 * ((c1 + c2) + 256 * ((c2 + c3) + 256 * ((c3 + c4) + 256 * ((c4 + c5) + 256 * ((c5 + c6) + 256 * ((c6 + c7) + 256 * c7)))))) := by omega
theorem fold_b {c0 c1 c2 c3 c4 c5 c6 c7 V : Nat} (_h0 : c0 ≤ 8) (_h1 : c1 ≤ 8) (_h2 : c2 ≤ 8) (_h3 : c3 ≤ 8) (_h4 : c4 ≤ 8) (_h5 : c5 ≤ 8) (_h6 : c6 ≤ 8) (_h7 : c7 ≤ 8) (h : V = (c0 + c1) + 256 * ((c1 + c2) + 256 * ((c2 + c3) + 256 * ((c3 + c4) + 256 * ((c4 + c5) + 256 * ((c5 + c6) + 256 * ((c6 + c7) + 256 * c7))))))) : V + V / 65536 = (c0 + c1 + (c2 + c3)) + 256 * ((c1 + c2 + (c3 + c4)) + 256 * ((c2 + c3 + (c4 + c5)) + 256 * ((c3 + c4 + (c5 + c6)) + 256 * ((c4 + c5 + (c6 + c7)) + 256 * ((c5 + c6 + c7) + 256 * ((c6 + c7) + 256 * c7)))))) := by omega
theorem mod128 {s M V : Nat} (_h : s ≤ 64) (_e : V = s + 256 * M) : V % 128 = s := by omega
theorem fold_c {c0 c1 c2 c3 c4 c5 c6 c7 V : Nat} (_h0 : c0 ≤ 8) (_h1 : c1 ≤ 8) (_h2 : c2 ≤ 8) (_h3 : c3 ≤ 8) (_h4 : c4 ≤ 8) (_h5 : c5 ≤ 8) (_h6 : c6 ≤ 8) (_h7 : c7 ≤ 8) (h : V = (c0 + c1 + (c2 + c3)) + 256 * ((c1 + c2 + (c3 + c4)) + 256 * ((c2 + c3 + (c4 + c5)) + 256 * ((c3 + c4 + (c5 + c6)) + 256 * ((c4 + c5 + (c6 + c7)) + 256 * ((c5 + c6 + c7) + 256 * ((c6 + c7) + 256 * c7))))))) : (V + V / 4294967296) % 128 = c0 + (c1 + (c2 + (c3 + (c4 + (c5 + (c6 + c7)))))) := by
  have q : V / 4294967296 = (c4 + c5 + (c6 + c7)) + 256 * ((c5 + c6 + c7) + 256 * ((c6 + c7) + 256 * c7)) := by omega
  rw [q]
  exact mod128 (M := ((c1 + c2 + (c3 + c4)) + 256 * ((c2 + c3 + (c4 + c5)) + 256 * ((c3 + c4 + (c5 + c6)) + 256 * ((c4 + c5 + (c6 + c7)) + 256 * ((c5 + c6 + c7) + 256 * ((c6 + c7) + 256 * c7)))))) + ((c5 + c6 + c7) + 256 * ((c6 + c7) + 256 * c7))) (by omega) (by omega)
theorem fold3_eq (c0 c1 c2 c3 c4 c5 c6 c7 : Nat) (h0 : c0 ≤ 8) (h1 : c1 ≤ 8) (h2 : c2 ≤ 8) (h3 : c3 ≤ 8) (h4 : c4 ≤ 8) (h5 : c5 ≤ 8) (h6 : c6 ≤ 8) (h7 : c7 ≤ 8) :
    fold3 (c0 + 256 * (c1 + 256 * (c2 + 256 * (c3 + 256 * (c4 + 256 * (c5 + 256 * (c6 + 256 * c7))))))) = c0 + (c1 + (c2 + (c3 + (c4 + (c5 + (c6 + c7)))))) :=
  fold_c h0 h1 h2 h3 h4 h5 h6 h7 (fold_b h0 h1 h2 h3 h4 h5 h6 h7 (fold_a h0 h1 h2 h3 h4 h5 h6 h7 rfl))
theorem popcount (X : Nat) : fold3 (swar X) = pc 64 X := by
  have h := mapB8 (pc 8) X
  rw [← swar_eq] at h
  have hp := pc64 X
  generalize swar X = s at *
  generalize pc 64 X = p at *
  have k0 := pc_le 8 (X % 256)
  have k1 := pc_le 8 (X / 256 % 256)
  have k2 := pc_le 8 (X / 256 / 256 % 256)
  have k3 := pc_le 8 (X / 256 / 256 / 256 % 256)
  have k4 := pc_le 8 (X / 256 / 256 / 256 / 256 % 256)
  have k5 := pc_le 8 (X / 256 / 256 / 256 / 256 / 256 % 256)
  have k6 := pc_le 8 (X / 256 / 256 / 256 / 256 / 256 / 256 % 256)
  have k7 := pc_le 8 (X / 256 / 256 / 256 / 256 / 256 / 256 / 256 % 256)
  obtain ⟨c0, c1, c2, c3, c4, c5, c6, c7, e, h0, h1, h2, h3, h4, h5, h6, h7⟩ := h
  rw [← h0] at k0 hp
  rw [← h1] at k1 hp
  rw [← h2] at k2 hp
  rw [← h3] at k3 hp
  rw [← h4] at k4 hp
  rw [← h5] at k5 hp
  rw [← h6] at k6 hp
  rw [← h7] at k7 hp
  rw [e, hp]
  exact fold3_eq c0 c1 c2 c3 c4 c5 c6 c7 k0 k1 k2 k3 k4 k5 k6 k7
theorem swar_le (X : Nat) : swar X ≤ 0x0808080808080808 := by
  obtain ⟨c0, c1, c2, c3, c4, c5, c6, c7, e, h0, h1, h2, h3, h4, h5, h6, h7⟩ := mapB8 (pc 8) X
  have k0 : c0 ≤ 8 := h0 ▸ pc_le _ _
  have k1 : c1 ≤ 8 := h1 ▸ pc_le _ _
  have k2 : c2 ≤ 8 := h2 ▸ pc_le _ _
  have k3 : c3 ≤ 8 := h3 ▸ pc_le _ _
  have k4 : c4 ≤ 8 := h4 ▸ pc_le _ _
  have k5 : c5 ≤ 8 := h5 ▸ pc_le _ _
  have k6 : c6 ≤ 8 := h6 ▸ pc_le _ _
  have k7 : c7 ≤ 8 := h7 ▸ pc_le _ _
  rw [swar_eq, e]
  omega
end Go.Proofs.Ytbkejoheefnmiaa
