/- Package token: two sources on different lines (plain functions on bytes). -/
import Derived.Test.YthjfedkginjbeaaTuw
namespace Go.Proofs.Ythjfedkginjbeaa
open Go.RowKit
def nlB : ByteArray := ⟨#[10]⟩
def jn (a b : ByteArray) : ByteArray := a ++ nlB ++ b
section
variable {a b : ByteArray}
theorem jn_size (a b : ByteArray) : (jn a b).size = a.size + 1 + b.size := by unfold jn; rw [ByteArray.size_append, ByteArray.size_append]; rfl
theorem jn_front (a b : ByteArray) : At (jn a b) 0 a := ⟨by rw [jn_size]; omega, fun i hi => by
  rw [Nat.zero_add]; unfold jn; rw [chI_app_l (by rw [ByteArray.size_append]; omega), chI_app_l hi]⟩
theorem jn_nl (a b : ByteArray) : chI (jn a b) a.size = 10 := by
  unfold jn
  rw [chI_app_l (by rw [ByteArray.size_append]; have : nlB.size = 1 := rfl; omega), chI_app_r (a := a) (b := nlB) (i := 0) (j := a.size) rfl]
  rfl
theorem jn_back (a b : ByteArray) (i : Nat) : chI (jn a b) (a.size + 1 + i) = chI b i := by
  unfold jn
  rw [chI_app_r (i := i) (by rw [ByteArray.size_append]; rfl)]
theorem jn_at (a b : ByteArray) : At (jn a b) (a.size + 1) b := ⟨by rw [jn_size]; omega, fun i _ => jn_back a b i⟩
theorem front_run {p : Int → Bool} (hp : p 10 = false) {i : Nat} (hi : i ≤ a.size) : run p (jn a b) i = run p a i := by
  have := at_run (jn_front a b) hi (p := p) (fun _ _ => by rw [Nat.zero_add, jn_nl]; exact hp)
  simpa using this
theorem back_run {p : Int → Bool} {i : Nat} (hi : i ≤ b.size) : run p (jn a b) (a.size + 1 + i) = a.size + 1 + run p b i :=
  at_run (jn_at a b) hi (fun _ h => by rw [jn_size] at h; omega)
theorem front_ch {i : Nat} (hi : i < a.size) : chI (jn a b) i = chI a i := by have := (jn_front a b).2 i hi; rwa [Nat.zero_add] at this
theorem front_sk : ∀ d i, a.size - i ≤ d → i ≤ a.size → sk (jn a b) i = if sk a i < a.size then sk a i else sk (jn a b) (a.size + 1)
  | d, i, hd, hi => by
    rcases Nat.eq_or_lt_of_le hi with rfl | hlt
    · rw [sk_end, if_neg (by omega), sk_blank (by rw [jn_nl]; rfl)]
    · cases d with
      | zero => omega
      | succ d =>
        have hc := front_ch (b := b) hlt
        by_cases h1 : chBlk (chI a i) = true
        · rw [sk_blank (s := jn a b) (by rw [hc]; exact h1), sk_blank h1]
          exact front_sk d (i + 1) (by omega) hlt
        · by_cases h2 : chI a i = 35
          · have hh := hash_run h2
            have hr := run_le lineC a i hi
            rw [sk_hash (s := jn a b) (by rw [hc]; exact h2), sk_hash h2, front_run (by rfl) hi]
            exact front_sk d _ (by omega) hr.2
          · have h1' : chBlk (chI a i) = false := by simpa using h1
            rw [sk_stop (s := jn a b) (by rw [hc]; exact h1') (by rw [hc]; exact h2), sk_stop h1' h2, if_pos hlt]
theorem back_sk : ∀ d i, b.size - i ≤ d → i ≤ b.size → sk (jn a b) (a.size + 1 + i) = a.size + 1 + sk b i
  | d, i, hd, hi => by
    rcases Nat.eq_or_lt_of_le hi with rfl | hlt
    · rw [sk_end, ← jn_size, sk_end]
    · cases d with
      | zero => omega
      | succ d =>
        have hc := jn_back a b i
        by_cases h1 : chBlk (chI b i) = true
        · rw [sk_blank (s := jn a b) (by rw [hc]; exact h1), sk_blank h1]
          exact back_sk d (i + 1) (by omega) hlt
        · by_cases h2 : chI b i = 35
          · have hh := hash_run h2
            have hr := run_le lineC b i hi
            rw [sk_hash (s := jn a b) (by rw [hc]; exact h2), sk_hash h2, back_run hi]
            exact back_sk d _ (by omega) hr.2
          · have h1' : chBlk (chI b i) = false := by simpa using h1
            rw [sk_stop (s := jn a b) (by rw [hc]; exact h1') (by rw [hc]; exact h2), sk_stop h1' h2]
theorem front_ext {j e : Nat} (he : e ≤ a.size) : (jn a b).extract j e = a.extract j e := by
  apply ByteArray.ext
  have hz : (jn a b).data.size = a.size + 1 + b.size := jn_size a b
  have hz2 : a.data.size = a.size := rfl
  rw [ByteArray.data_extract, ByteArray.data_extract]
  apply Array.ext
  · rw [Array.size_extract, Array.size_extract, hz, hz2]; omega
  · intro i h1 h2
    rw [Array.size_extract, hz2] at h2
    have e1 := front_ch (a := a) (b := b) (i := j + i) (by omega)
    rw [chI_lt (by rw [jn_size]; omega), chI_lt (by omega)] at e1
    rw [Array.getElem_extract, Array.getElem_extract]
    exact UInt8.toNat_inj.1 (Int.ofNat_inj.1 e1)
theorem back_ext {j e : Nat} (hj : j ≤ e) (he : e ≤ b.size) : (jn a b).extract (a.size + 1 + j) (a.size + 1 + e) = b.extract j e := by
  apply ByteArray.ext
  have hz : (jn a b).data.size = a.size + 1 + b.size := jn_size a b
  have hz2 : b.data.size = b.size := rfl
  rw [ByteArray.data_extract, ByteArray.data_extract]
  apply Array.ext
  · rw [Array.size_extract, Array.size_extract, hz, hz2]; omega
  · intro i h1 h2
    rw [Array.size_extract, hz2] at h2
    have e1 := jn_back a b (j + i)
    rw [chI_lt (by rw [jn_size]; omega), chI_lt (by omega)] at e1
    rw [Array.getElem_extract, Array.getElem_extract]
    have e2 : a.size + 1 + j + i = a.size + 1 + (j + i) := by omega
    have e3 : ∀ k (h : k < (jn a b).data.size) (hk : k = a.size + 1 + (j + i)), (jn a b).data[k] = (jn a b).data[a.size + 1 + (j + i)]'(by omega) := fun k h hk => by subst hk; rfl
    rw [e3 _ _ e2]
    exact UInt8.toNat_inj.1 (Int.ofNat_inj.1 e1)
theorem back_tx {K j e : Nat} (hj : j ≤ e) (he : e ≤ b.size) : ttext K (jn a b) (a.size + 1 + j) (a.size + 1 + e) = ttext K b j e := by
  unfold ttext
  rw [back_ext hj he, show a.size + 1 + e - (a.size + 1 + j) - 1 = e - j - 1 by omega]
theorem one_back {j : Nat} (hj : j ≤ b.size) : oneK (jn a b) (a.size + 1 + j) = oneK b j ∧ oneE (jn a b) (a.size + 1 + j) = a.size + 1 + oneE b j ∧ oneC (jn a b) (a.size + 1 + j) = oneC b j ∧ oneF (jn a b) (a.size + 1 + j) = a.size + 1 + oneF b j ∧
    (oneC b j = 0 → (tkAt (jn a b) (a.size + 1 + j)).text = (tkAt b j).text) := by
  have c := jn_back a b j
  have c1 := jn_back a b (j + 1)
  have fin : ∀ {K e}, oneK (jn a b) (a.size + 1 + j) = K → oneK b j = K → oneE (jn a b) (a.size + 1 + j) = a.size + 1 + e → oneE b j = e → j ≤ e → e ≤ b.size → (tkAt (jn a b) (a.size + 1 + j)).text = (tkAt b j).text := by
    intro K e h1 h2 h3 h4 h5 h6
    unfold tkAt
    simp only
    rw [h1, h2, h3, h4, back_tx h5 h6]
  by_cases h0 : chI b j = -1
  · rw [h0] at c
    have k1 : oneK (jn a b) (a.size + 1 + j) = 0 := by simp [oneK, c]
    have k2 : oneK b j = 0 := by simp [oneK, h0]
    have e1 : oneE (jn a b) (a.size + 1 + j) = a.size + 1 + j := by simp [oneE, c]
    have e2 : oneE b j = j := by simp [oneE, h0]
    exact ⟨by rw [k1, k2], by rw [e1, e2], by simp [oneC, c, h0, k1, k2, terr], by simp [oneF, c, h0], fun _ => fin k1 k2 e1 e2 (Nat.le_refl _) hj⟩
  · have hlt := ch_in h0
    by_cases hl : chLet (chI b j) = true
    · have o1 := one_name hl rfl
      have o2 := one_name (s := jn a b) (j := a.size + 1 + j) (by rw [c]; exact hl) (back_run hj)
      have hr := run_le wordC b j hj
      exact ⟨by rw [o1.1, o2.1], by rw [o1.2.1, o2.2.1], by rw [o1.2.2.1, o2.2.2.1, back_tx hr.1 hr.2], by rw [o1.2.2.2, o2.2.2.2], fun _ => fin o2.1 o1.1 o2.2.1 o1.2.1 hr.1 hr.2⟩
    · by_cases hd : chDig (chI b j) = true
      · have o1 := one_number hd rfl
        have o2 := one_number (s := jn a b) (j := a.size + 1 + j) (by rw [c]; exact hd) (back_run hj)
        have hr := run_le chDig b j hj
        exact ⟨by rw [o1.1, o2.1], by rw [o1.2.1, o2.2.1], by rw [o1.2.2.1, o2.2.2.1, back_tx hr.1 hr.2], by rw [o1.2.2.2, o2.2.2.2], fun _ => fin o2.1 o1.1 o2.2.1 o1.2.1 hr.1 hr.2⟩
      · by_cases h34 : chI b j = 34
        · have hr := run_le quoC b (j + 1) hlt
          have hrun : run quoC (jn a b) (a.size + 1 + j + 1) = a.size + 1 + run quoC b (j + 1) := back_run (i := j + 1) hlt
          have q1 := one_quoted h34 rfl
          have q2 := one_quoted (s := jn a b) (j := a.size + 1 + j) (by rw [c]; exact h34) hrun
          have cr := jn_back a b (run quoC b (j + 1))
          have k1 : oneK b j = 3 := by simp [oneK, h34, show chLet 34 = false from rfl, show chDig 34 = false from rfl]
          have k2 : oneK (jn a b) (a.size + 1 + j) = 3 := by simp [oneK, c, h34, show chLet 34 = false from rfl, show chDig 34 = false from rfl]
          have e1 : oneE b j = run quoC b (j + 1) + 1 := by simp [oneE, h34, show chLet 34 = false from rfl, show chDig 34 = false from rfl]
          have e2 : oneE (jn a b) (a.size + 1 + j) = a.size + 1 + (run quoC b (j + 1) + 1) := by
            simp [oneE, c, h34, show chLet 34 = false from rfl, show chDig 34 = false from rfl, hrun]; omega
          rw [cr] at q2
          by_cases x1 : chI b (run quoC b (j + 1)) = 34
          · have y1 := q1.1 x1
            have y2 := q2.1 x1
            have hb2 := ch_in (s := b) (i := run quoC b (j + 1)) (by rw [x1]; decide)
            have z2 := y2.2.2.1
            rw [show a.size + 1 + run quoC b (j + 1) + 1 = a.size + 1 + (run quoC b (j + 1) + 1) by omega, back_tx (by omega) (by omega)] at z2
            exact ⟨by rw [k1, k2], by rw [e1, e2], by rw [y1.2.2.1, z2], by rw [y1.2.2.2, y2.2.2.2], fun _ => fin k2 k1 e2 e1 (by omega) (by omega)⟩
          · by_cases x2 : chI b (run quoC b (j + 1)) = -1
            · have y1 := q1.2.1 x2
              have y2 := q2.2.1 x2
              exact ⟨by rw [k1, k2], by rw [e1, e2], by rw [y1.1, y2.1], by rw [y1.2, y2.2], fun h => by rw [y1.1] at h; exact absurd h (by decide)⟩
            · have y1 := q1.2.2 x1 x2
              have y2 := q2.2.2 x1 x2
              exact ⟨by rw [k1, k2], by rw [e1, e2], by rw [y1.1, y2.1], by rw [y1.2, y2.2], fun h => by rw [y1.1] at h; exact absurd h (by decide)⟩
        · have hl' : chLet (chI b j) = false := by simpa using hl
          have hd' : chDig (chI b j) = false := by simpa using hd
          have hbd := mkN_bd (s := b) hlt
          have o1 := one_mark h0 hl' hd' h34 rfl rfl
          have o2 := one_mark (s := jn a b) (j := a.size + 1 + j) (by rw [c]; exact h0) (by rw [c]; exact hl') (by rw [c]; exact hd') (by rw [c]; exact h34) rfl rfl
          rw [show a.size + 1 + j + 1 = a.size + 1 + (j + 1) by omega, c, c1] at o2
          rw [show a.size + 1 + j + mkN (chI b j) (chI b (j + 1)) = a.size + 1 + (j + mkN (chI b j) (chI b (j + 1))) by omega, back_ext (by omega) (by omega)] at o2
          exact ⟨by rw [o1.1, o2.1], by rw [o1.2.1, o2.2.1], by rw [o1.2.2.1, o2.2.2.1], by rw [o1.2.2.2, o2.2.2.2], fun _ => fin o2.1 o1.1 o2.2.1 o1.2.1 (by omega) (by omega)⟩
theorem front_tx {K j e : Nat} (he : e ≤ a.size) : ttext K (jn a b) j e = ttext K a j e := by
  unfold ttext
  rw [front_ext he]
theorem front_pos : ∀ i, i ≤ a.size → posI (jn a b) i = posI a i
  | 0, _ => rfl
  | i + 1, h => by rw [posI_next, posI_next, front_pos i (by omega), front_ch h]
theorem back_pos : ∀ i, posI (jn a b) (a.size + 1 + i) = ((posI b i).1 + (posI a a.size).1, (posI b i).2)
  | 0 => by
    rw [Nat.add_zero, posI_next, front_pos _ (Nat.le_refl _), jn_nl]
    show ((posI a a.size).1 + 1, (1 : Int)) = (1 + (posI a a.size).1, (1 : Int))
    rw [Int.add_comm]
  | i + 1 => by
    rw [show a.size + 1 + (i + 1) = (a.size + 1 + i) + 1 by omega, posI_next, back_pos i, jn_back, posI_next b]
    by_cases h : chI b i = 10
    · simp only [nxL, nxC, h, if_true]
      rw [Prod.mk.injEq]
      exact ⟨by omega, rfl⟩
    · simp only [nxL, nxC, if_neg h]
/-- the tokens of the first source -/
theorem one_front {j : Nat} (hj : j < a.size) : (oneC a j = 5 → oneC (jn a b) j ≠ 0) ∧
    (oneC a j ≠ 5 → oneC (jn a b) j = oneC a j ∧ oneF (jn a b) j = oneF a j ∧ oneF a j ≤ a.size ∧ (oneC a j = 0 → oneK (jn a b) j = oneK a j ∧ oneE (jn a b) j = oneE a j ∧ tkAt (jn a b) j = tkAt a j)) := by
  have c := front_ch (b := b) hj
  have h0 : chI a j ≠ -1 := by rw [chI_lt hj]; omega
  have fin : ∀ {K e}, oneK (jn a b) j = K → oneK a j = K → oneE (jn a b) j = e → oneE a j = e → e ≤ a.size → oneK (jn a b) j = oneK a j ∧ oneE (jn a b) j = oneE a j ∧ tkAt (jn a b) j = tkAt a j := by
    intro K e h1 h2 h3 h4 h6
    refine ⟨by rw [h1, h2], by rw [h3, h4], ?_⟩
    unfold tkAt
    rw [h1, h2, h3, h4, front_tx h6, front_pos _ (by omega)]
  by_cases hl : chLet (chI a j) = true
  · have o1 := one_name hl rfl
    have o2 := one_name (s := jn a b) (j := j) (by rw [c]; exact hl) (front_run (by rfl) (by omega))
    have hr := run_le wordC a j (by omega)
    have e5 : oneC a j ≠ 5 := by rw [o1.2.2.1]; unfold terr; rw [if_pos rfl]; split <;> decide
    exact ⟨fun h => absurd h e5, fun _ => ⟨by rw [o1.2.2.1, o2.2.2.1, front_tx hr.2], by rw [o1.2.2.2, o2.2.2.2], by rw [o1.2.2.2]; omega, fun _ => fin o2.1 o1.1 o2.2.1 o1.2.1 hr.2⟩⟩
  · by_cases hd : chDig (chI a j) = true
    · have o1 := one_number hd rfl
      have o2 := one_number (s := jn a b) (j := j) (by rw [c]; exact hd) (front_run (by rfl) (by omega))
      have hr := run_le chDig a j (by omega)
      have e5 : oneC a j ≠ 5 := by rw [o1.2.2.1]; unfold terr; rw [if_neg (by decide), if_pos rfl]; (repeat' split) <;> decide
      exact ⟨fun h => absurd h e5, fun _ => ⟨by rw [o1.2.2.1, o2.2.2.1, front_tx hr.2], by rw [o1.2.2.2, o2.2.2.2], by rw [o1.2.2.2]; omega, fun _ => fin o2.1 o1.1 o2.2.1 o1.2.1 hr.2⟩⟩
    · by_cases h34 : chI a j = 34
      · have hr := run_le quoC a (j + 1) hj
        have hrun : run quoC (jn a b) (j + 1) = run quoC a (j + 1) := front_run (by rfl) hj
        have q1 := one_quoted h34 rfl
        have q2 := one_quoted (s := jn a b) (j := j) (by rw [c]; exact h34) hrun
        rcases Nat.lt_or_ge (run quoC a (j + 1)) a.size with hR | hR
        · have cr := front_ch (b := b) hR
          rw [cr] at q2
          by_cases x1 : chI a (run quoC a (j + 1)) = 34
          · have y1 := q1.1 x1
            have y2 := q2.1 x1
            have z2 := y2.2.2.1
            rw [front_tx (by omega)] at z2
            have e5 : oneC a j ≠ 5 := by rw [y1.2.2.1]; unfold terr; rw [if_neg (by decide), if_neg (by decide), if_pos rfl]; split <;> decide
            exact ⟨fun h => absurd h e5, fun _ => ⟨by rw [y1.2.2.1, z2], by rw [y1.2.2.2, y2.2.2.2], by rw [y1.2.2.2]; omega, fun _ => fin y2.1 y1.1 y2.2.1 y1.2.1 (by omega)⟩⟩
          · have x2 : chI a (run quoC a (j + 1)) ≠ -1 := by rw [chI_lt hR]; omega
            have y1 := q1.2.2 x1 x2
            have y2 := q2.2.2 x1 x2
            exact ⟨fun h => by rw [y1.1] at h; exact absurd h (by decide), fun _ => ⟨by rw [y1.1, y2.1], by rw [y1.2, y2.2], by rw [y1.2]; omega, fun h => by rw [y1.1] at h; exact absurd h (by decide)⟩⟩
        · have hRe : run quoC a (j + 1) = a.size := by omega
          have y1 := q1.2.1 (by rw [hRe]; exact chI_ge (by omega))
          rw [hRe, jn_nl] at q2
          have y2 := q2.2.2 (by decide) (by decide)
          exact ⟨fun _ => by rw [y2.1]; decide, fun h => absurd y1.1 h⟩
      · have hl' : chLet (chI a j) = false := by simpa using hl
        have hd' : chDig (chI a j) = false := by simpa using hd
        have hbd := mkN_bd (s := a) hj
        have o1 := one_mark h0 hl' hd' h34 rfl rfl
        have o2 := one_mark (s := jn a b) (j := j) (by rw [c]; exact h0) (by rw [c]; exact hl') (by rw [c]; exact hd') (by rw [c]; exact h34) rfl rfl
        have hm : mkN (chI (jn a b) j) (chI (jn a b) (j + 1)) = mkN (chI a j) (chI a (j + 1)) := by
          rw [c]
          rcases Nat.lt_or_ge (j + 1) a.size with h | h
          · rw [front_ch h]
          · rw [show j + 1 = a.size by omega, jn_nl, chI_ge (s := a) (i := a.size) (by omega)]
            unfold mkN
            rw [delim_mk2 (d := 10) (by decide), delim_mk2 (d := -1) (by decide)]
        rw [hm, front_ext (by omega)] at o2
        have e5 : oneC a j ≠ 5 := by rw [o1.2.2.1]; unfold terr; rw [if_neg (by decide), if_neg (by decide), if_neg (by decide), if_pos rfl]; split <;> decide
        exact ⟨fun h => absurd h e5, fun _ => ⟨by rw [o1.2.2.1, o2.2.2.1], by rw [o1.2.2.2, o2.2.2.2], by rw [o1.2.2.2]; omega, fun _ => fin o2.1 o1.1 o2.2.1 o1.2.1 (by omega)⟩⟩
end
end Go.Proofs.Ythjfedkginjbeaa
