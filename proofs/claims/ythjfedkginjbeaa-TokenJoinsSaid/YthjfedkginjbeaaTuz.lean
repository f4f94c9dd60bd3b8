/- Package token: the scan of two sources on different lines (plain functions on bytes). -/
import Derived.Test.YthjfedkginjbeaaTuy
import Derived.Test.YthjfedkginjbeaaTuq
import Derived.Test.YthjfedkginjbeaaTun
namespace Go.Proofs.Ythjfedkginjbeaa
open Go.RowKit
theorem scF_fuel {s : ByteArray} : ∀ n m i acc, i ≤ s.size → s.size < i + n → s.size < i + m → scF s n i acc = scF s m i acc
  | 0, m, i, acc, hi, hn, _ => by omega
  | n + 1, 0, i, acc, hi, _, hm => by omega
  | n + 1, m + 1, i, acc, hi, hn, hm => by
    by_cases hc : oneC s (sk s i) = 0
    · by_cases hk : oneK s (sk s i) = 0
      · rw [scF_end hc hk, scF_end hc hk]
      · have hE := oneE_lt hc hk
        have hj := sk_le hi
        rw [scF_go hc hk, scF_go hc hk]
        exact scF_fuel n m _ _ hE.2 (by omega) (by omega)
    · rw [scF_bad hc, scF_bad hc]
section
variable {a b : ByteArray}
theorem key_back {j : Nat} (hj : j ≤ b.size) (hc : oneC b j = 0) : (tkAt (jn a b) (a.size + 1 + j)).key = (tkAt b j).key := by
  have ho := one_back (a := a) hj
  show ((oneK (jn a b) (a.size + 1 + j) : Int), (tkAt (jn a b) (a.size + 1 + j)).text) = ((oneK b j : Int), (tkAt b j).text)
  rw [ho.1, ho.2.2.2.2 hc]
/-- the second source, behind the line feed -/
theorem scan_back : ∀ n i acc, i ≤ b.size → b.size < i + n → ∀ acc2,
    (∀ c f, (scF b n i acc).1 = some (c, f) → scF (jn a b) n (a.size + 1 + i) acc2 = (some (c, a.size + 1 + f), [])) ∧
    ((scF b n i acc).1 = none → ∃ t1 t2, (scF b n i acc).2 = acc ++ t1 ∧ scF (jn a b) n (a.size + 1 + i) acc2 = (none, acc2 ++ t2) ∧ t1.map Tk.key = t2.map Tk.key)
  | 0, i, acc, hi, hn, _ => by omega
  | n + 1, i, acc, hi, hn, acc2 => by
    have hj := sk_le hi
    have hs := back_sk (a := a) _ i (Nat.le_refl _) hi
    have ho := one_back (a := a) hj.2
    by_cases hc : oneC b (sk b i) = 0
    · have hc2 : oneC (jn a b) (sk (jn a b) (a.size + 1 + i)) = 0 := by rw [hs, ho.2.2.1]; exact hc
      have hky := key_back (a := a) hj.2 hc
      by_cases hk : oneK b (sk b i) = 0
      · have hk2 : oneK (jn a b) (sk (jn a b) (a.size + 1 + i)) = 0 := by rw [hs, ho.1]; exact hk
        rw [scF_end hc hk, scF_end hc2 hk2]
        refine ⟨fun c f h => (by cases h), fun _ => ⟨_, _, rfl, rfl, ?_⟩⟩
        rw [hs]
        simp [hky]
      · have hk2 : oneK (jn a b) (sk (jn a b) (a.size + 1 + i)) ≠ 0 := by rw [hs, ho.1]; exact hk
        have hE := oneE_lt hc hk
        rw [scF_go hc hk, scF_go hc2 hk2, hs, ho.2.1]
        obtain ⟨h1, h2⟩ := scan_back n (oneE b (sk b i)) (acc ++ [tkAt b (sk b i)]) hE.2 (by omega) (acc2 ++ [tkAt (jn a b) (a.size + 1 + sk b i)])
        refine ⟨h1, fun h => ?_⟩
        obtain ⟨t1, t2, e1, e2, e3⟩ := h2 h
        refine ⟨tkAt b (sk b i) :: t1, tkAt (jn a b) (a.size + 1 + sk b i) :: t2, by rw [e1]; simp, by rw [e2]; simp, ?_⟩
        rw [List.map_cons, List.map_cons, e3, hky]
    · have hc2 : oneC (jn a b) (sk (jn a b) (a.size + 1 + i)) ≠ 0 := by rw [hs, ho.2.2.1]; exact hc
      rw [scF_bad hc, scF_bad hc2, hs, ho.2.2.1, ho.2.2.2.1]
      refine ⟨fun c f h => ?_, fun h => by cases h⟩
      simp only [Option.some.injEq, Prod.mk.injEq] at h
      rw [h.1, h.2]
/-- the first source -/
theorem scan_front : ∀ n i acc, i ≤ a.size → a.size < i + n → ∀ m, (jn a b).size < i + m → ∀ acc2,
    (∀ c f, (scF a n i acc).1 = some (c, f) → (c = 5 → ∃ c' f', (scF (jn a b) m i acc2).1 = some (c', f')) ∧ (c ≠ 5 → (scF (jn a b) m i acc2).1 = some (c, f) ∧ f ≤ a.size)) ∧
    ((scF a n i acc).1 = none → ∃ t1 e m', (scF a n i acc).2 = acc ++ (t1 ++ [e]) ∧ (jn a b).size < a.size + 1 + m' ∧ scF (jn a b) m i acc2 = scF (jn a b) m' (a.size + 1) (acc2 ++ t1))
  | 0, i, acc, hi, hn, _, _, _ => by omega
  | n + 1, i, acc, hi, hn, 0, hm, _ => by rw [jn_size] at hm; omega
  | n + 1, i, acc, hi, hn, m + 1, hm, acc2 => by
    have hj := sk_le hi
    have hsz := jn_size a b
    have hs := front_sk (a := a) (b := b) _ i (Nat.le_refl _) hi
    rcases Nat.lt_or_ge (sk a i) a.size with hlt | hge
    · rw [if_pos hlt] at hs
      have ho := one_front (b := b) hlt
      by_cases hc : oneC a (sk a i) = 0
      · have hk : oneK a (sk a i) ≠ 0 := by
          intro h
          have := oneK_0 h
          rw [chI_lt hlt] at this
          omega
        obtain ⟨x1, x2, x3, x4⟩ := ho.2 (by rw [hc]; decide)
        obtain ⟨y1, y2, y3⟩ := x4 hc
        have hc2 : oneC (jn a b) (sk (jn a b) i) = 0 := by rw [hs, x1]; exact hc
        have hk2 : oneK (jn a b) (sk (jn a b) i) ≠ 0 := by rw [hs, y1]; exact hk
        have hE := oneE_lt hc hk
        rw [scF_go hc hk, scF_go hc2 hk2, hs, y2, y3]
        obtain ⟨h1, h2⟩ := scan_front n (oneE a (sk a i)) (acc ++ [tkAt a (sk a i)]) hE.2 (by omega) m (by omega) (acc2 ++ [tkAt a (sk a i)])
        refine ⟨h1, fun h => ?_⟩
        obtain ⟨t1, e, m', e1, e2, e3⟩ := h2 h
        exact ⟨tkAt a (sk a i) :: t1, e, m', by rw [e1]; simp, e2, by rw [e3]; simp⟩
      · rw [scF_bad hc]
        refine ⟨fun c f h => ?_, fun h => by cases h⟩
        simp only [Option.some.injEq, Prod.mk.injEq] at h
        refine ⟨fun h5 => ?_, fun h5 => ?_⟩
        · have hc2 : oneC (jn a b) (sk (jn a b) i) ≠ 0 := by rw [hs]; exact ho.1 (by rw [h.1]; exact h5)
          rw [scF_bad hc2]
          exact ⟨_, _, rfl⟩
        · obtain ⟨x1, x2, x3, x4⟩ := ho.2 (by rw [h.1]; exact h5)
          have hc2 : oneC (jn a b) (sk (jn a b) i) ≠ 0 := by rw [hs, x1]; exact hc
          rw [scF_bad hc2, hs, x1, x2, h.1, h.2]
          exact ⟨rfl, by rw [← h.2]; exact x3⟩
    · rw [if_neg (by omega)] at hs
      have hje : sk a i = a.size := by omega
      have hend := oneK_end a
      have hc : oneC a (sk a i) = 0 := by rw [hje]; exact hend.2.1
      have hk : oneK a (sk a i) = 0 := by rw [hje]; exact hend.1
      rw [scF_end hc hk]
      refine ⟨fun c f h => (by cases h), fun _ => ⟨[], tkAt a (sk a i), m + 1 + i, by simp, by omega, ?_⟩⟩
      have hB : a.size + 1 ≤ (jn a b).size := by omega
      have hb0 := sk_le (s := jn a b) hB
      have e : ∀ k acc, scF (jn a b) (k + 1) i acc = scF (jn a b) (k + 1) (a.size + 1) acc := fun k acc => by rw [scF_scJ, scF_scJ, hs]
      rw [e, List.append_nil]
      exact scF_fuel _ _ _ _ hB (by omega) (by omega)
end
end Go.Proofs.Ythjfedkginjbeaa
