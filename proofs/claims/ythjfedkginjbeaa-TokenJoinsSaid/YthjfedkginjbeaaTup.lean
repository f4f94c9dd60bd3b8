/- Package token: a token's own text within a source (plain functions on bytes). -/
import Derived.Test.YthjfedkginjbeaaTuj
import Derived.Test.YthjfedkginjbeaaTum
namespace Go.Proofs.Ythjfedkginjbeaa
open Go.RowKit
/-- what may stand behind a token: the end, a blank, a comment -/
def delim (c : Int) : Bool := decide (c = -1 ∨ c = 9 ∨ c = 10 ∨ c = 32 ∨ c = 35)
/-- the bytes of u lie in s from p on -/
def At (s : ByteArray) (p : Nat) (u : ByteArray) : Prop := p + u.size ≤ s.size ∧ ∀ i, i < u.size → chI s (p + i) = chI u i
theorem delim_word {c : Int} (h : delim c = true) : wordC c = false := by
  have := of_decide_eq_true h
  rcases this with h | h | h | h | h <;> rw [h] <;> rfl
theorem delim_dig {c : Int} (h : delim c = true) : chDig c = false := by
  have := of_decide_eq_true h
  rcases this with h | h | h | h | h <;> rw [h] <;> rfl
theorem delim_mk2 {c d : Int} (h : delim d = true) : mk2 c d = false := by
  have := of_decide_eq_true h
  apply decide_eq_false
  omega
theorem At.ext {s u : ByteArray} {p : Nat} (h : At s p u) : s.extract p (p + u.size) = u := by
  apply ByteArray.ext
  have hz : s.data.size = s.size := rfl
  have hz2 : u.data.size = u.size := rfl
  rw [ByteArray.data_extract]
  apply Array.ext
  · rw [Array.size_extract, hz, hz2]; have := h.1; omega
  · intro i h1 h2
    have hi : i < u.size := h2
    have e := h.2 i hi
    rw [chI_lt (by have := h.1; omega), chI_lt hi] at e
    rw [Array.getElem_extract]
    exact UInt8.toNat_inj.1 (Int.ofNat_inj.1 e)
theorem chkT_0 {k : Int} {t : ByteArray} (h : chkT k t = true) (hk : k ≠ 0) : 0 < (spell k t).size ∧ sk (spell k t) 0 = 0 ∧ oneC (spell k t) 0 = 0 ∧ (oneK (spell k t) 0 : Int) = k ∧ oneE (spell k t) 0 = (spell k t).size ∧ (tkAt (spell k t) 0).text = t := by
  have h0 := h
  unfold chkT at h
  simp only [Bool.and_eq_true, decide_eq_true_eq] at h
  obtain ⟨hc, hK, ht⟩ := h
  have hj := sk_le (s := spell k t) (i := 0) (Nat.zero_le _)
  have hk0 : oneK (spell k t) (sk (spell k t) 0) ≠ 0 := by omega
  have hE := oneE_lt hc hk0
  by_cases h3 : k = 3
  · subst h3
    have hsz : (spell 3 t).size = t.size + 2 := by
      show (q1 ++ t ++ q1).size = _
      rw [ByteArray.size_append, ByteArray.size_append]; have : q1.size = 1 := rfl; omega
    have c0 : chI (spell 3 t) 0 = 34 := by
      show chI (q1 ++ t ++ q1) 0 = 34
      rw [chI_app_l (by rw [ByteArray.size_append]; have : q1.size = 1 := rfl; omega), chI_app_l (by decide)]
      rfl
    have e0 := sk_start (s := spell 3 t) (.inr (.inr (.inl c0))) 0 rfl
    rw [e0] at hc hK ht hE hk0
    refine ⟨by omega, e0, hc, hK, ?_, ht⟩
    have h2 := oneE_3 (s := spell 3 t) (j := 0) (by omega)
    have hz := congrArg ByteArray.size ht
    unfold tkAt at hz
    simp only at hz
    rw [show oneK (spell 3 t) 0 = 3 by omega, ttext_3 (by omega), ext_size (by omega)] at hz
    omega
  · have hs : spell k t = t := if_neg h3
    rw [hs] at hc hK ht hE hj hk0 ⊢
    unfold tkAt at ht
    simp only [ttext] at ht
    rw [if_neg (by omega)] at ht
    have hw := whole ht hj.2 hE.2 (by omega)
    have h00 := hw.1
    rw [h00] at hc hK hw hE
    exact ⟨by omega, h00, hc, hK, hw.2, by unfold tkAt; simp only [ttext]; rw [if_neg (by omega), hw.2, ext_all]⟩
theorem at_run {p : Int → Bool} {s u : ByteArray} {a i : Nat} (h : At s a u) (hi : i ≤ u.size) (hd : run p u i = u.size → u.size + a < s.size → p (chI s (a + u.size)) = false) : run p s (a + i) = a + run p u i := by
  have hr := run_le p u i hi
  refine run_is (by have := h.1; omega) ?_ _ _ rfl (by omega) ?_
  · intro hlt
    rcases Nat.lt_or_ge (run p u i) u.size with h1 | h1
    · rw [h.2 _ h1]; exact run_bad hi h1
    · rw [show run p u i = u.size by omega]
      exact hd (by omega) (by omega)
  · intro k h1 h2
    obtain ⟨m, rfl⟩ : ∃ m, k = a + m := ⟨k - a, by omega⟩
    rw [h.2 m (by omega)]
    exact run_ok hi (by omega) (by omega)
/-- a token's own text, with a blank, a comment or nothing behind it, is that token -/
theorem one_at {s : ByteArray} {p : Nat} {k : Int} {t : ByteArray} (h : chkT k t = true) (hk : k ≠ 0) (ha : At s p (spell k t)) (hd : delim (chI s (p + (spell k t).size)) = true) :
    sk s p = p ∧ oneC s p = 0 ∧ (oneK s p : Int) = k ∧ oneE s p = p + (spell k t).size ∧ (tkAt s p).text = t ∧ 0 < (spell k t).size := by
  obtain ⟨hz, _, hc, hK, hE, ht⟩ := chkT_0 h hk
  obtain ⟨u, hu⟩ : ∃ u, spell k t = u := ⟨_, rfl⟩
  rw [hu] at hz hc hK hE ha hd ht ⊢
  have c0 : chI s p = chI u 0 := ha.2 0 hz
  have hlt : p < s.size := by have := ha.1; omega
  have hpe : p + u.size ≤ s.size := ha.1
  have hcn : chI u 0 ≠ -1 := by rw [chI_lt hz]; omega
  have main : oneK s p = oneK u 0 ∧ oneE s p = p + u.size ∧ oneC s p = 0 ∧ ttext (oneK u 0) s p (p + u.size) = t ∧ sk s p = p := by
    have hx : s.extract p (p + u.size) = u := ha.ext
    have htx : ∀ K, ttext K s p (p + u.size) = ttext K u 0 u.size := by
      intro K
      unfold ttext
      rw [hx, ext_all]
      simp
    have ht' : ttext (oneK u 0) u 0 u.size = t := by
      have e := ht
      unfold tkAt at e
      rw [hE] at e
      exact e
    by_cases hl : chLet (chI u 0) = true
    · have o1 := one_name hl rfl
      have hrun : run wordC u 0 = u.size := by rw [← o1.2.1]; exact hE
      have r := at_run ha (Nat.zero_le _) (p := wordC) (fun _ _ => delim_word hd)
      rw [Nat.add_zero, hrun] at r
      have o2 := one_name (s := s) (j := p) (by rw [c0]; exact hl) r
      refine ⟨by rw [o1.1, o2.1], o2.2.1, ?_, by rw [htx]; exact ht', sk_stop ?_ ?_⟩
      · rw [o2.2.2.1, htx, ← hrun, ← o1.2.2.1]; exact hc
      · rw [c0]; unfold chLet at hl; have := of_decide_eq_true hl; unfold chBlk; exact decide_eq_false (by omega)
      · rw [c0]; unfold chLet at hl; have := of_decide_eq_true hl; omega
    · by_cases hdg : chDig (chI u 0) = true
      · have o1 := one_number hdg rfl
        have hrun : run chDig u 0 = u.size := by rw [← o1.2.1]; exact hE
        have r := at_run ha (Nat.zero_le _) (p := chDig) (fun _ _ => delim_dig hd)
        rw [Nat.add_zero, hrun] at r
        have o2 := one_number (s := s) (j := p) (by rw [c0]; exact hdg) r
        refine ⟨by rw [o1.1, o2.1], o2.2.1, ?_, by rw [htx]; exact ht', sk_stop ?_ ?_⟩
        · rw [o2.2.2.1, htx, ← hrun, ← o1.2.2.1]; exact hc
        · rw [c0]; unfold chDig at hdg; have := of_decide_eq_true hdg; unfold chBlk; exact decide_eq_false (by omega)
        · rw [c0]; unfold chDig at hdg; have := of_decide_eq_true hdg; omega
      · by_cases h34 : chI u 0 = 34
        · have q := one_quoted h34 rfl
          have hKe : oneE u 0 = run quoC u (0 + 1) + 1 := by simp [oneE, h34, show chLet 34 = false from rfl, show chDig 34 = false from rfl]
          have hrun : run quoC u (0 + 1) + 1 = u.size := by omega
          have hch : chI u (run quoC u (0 + 1)) = 34 := by
            have hn : chI u (run quoC u (0 + 1)) ≠ -1 := by rw [chI_lt (by omega)]; omega
            by_cases e : chI u (run quoC u (0 + 1)) = 34
            · exact e
            · rw [(q.2.2 e hn).1] at hc; exact absurd hc (by decide)
          have r := at_run ha (i := 0 + 1) (p := quoC) (by omega) (fun e => by omega)
          have hch2 : chI s (run quoC s (p + (0 + 1))) = 34 := by rw [r, ha.2 _ (by omega)]; exact hch
          have o1 := q.1 hch
          have o2 := (one_quoted (s := s) (j := p) (by rw [c0]; exact h34) rfl).1 hch2
          have hE2 : run quoC s (p + 1) + 1 = p + u.size := by have r' : run quoC s (p + 1) = p + run quoC u (0 + 1) := r; omega
          refine ⟨by rw [o1.1, o2.1], by rw [o2.2.1]; exact hE2, ?_, by rw [htx]; exact ht', sk_stop (by rw [c0, h34]; rfl) (by rw [c0, h34]; decide)⟩
          · rw [o2.2.2.1]
            have e1 : run quoC s (p + (0 + 1)) + 1 = p + u.size := hE2
            rw [e1, htx, ← hrun, ← o1.2.2.1]
            exact hc
        · have hl' : chLet (chI u 0) = false := by simpa using hl
          have hdg' : chDig (chI u 0) = false := by simpa using hdg
          have o1 := one_mark hcn hl' hdg' h34 rfl rfl
          have hb := mkN_bd (s := u) hz
          rw [hE] at o1
          have hmk : mkN (chI u 0) (chI u (0 + 1)) = u.size := by have := o1.2.1; omega
          have hmk2 : mkN (chI s p) (chI s (p + 1)) = u.size := by
            rw [c0]
            by_cases h1 : 1 < u.size
            · rw [ha.2 1 h1]; exact hmk
            · have hu1 : u.size = 1 := by omega
              rw [hu1] at hd hmk ⊢
              unfold mkN at hmk ⊢
              rw [delim_mk2 hd]
              have e2 : mk2 (chI u 0) (chI u (0 + 1)) = false := by
                rw [chI_ge (s := u) (i := 0 + 1) (by omega)]
                exact delim_mk2 (by decide)
              rw [e2] at hmk
              exact hmk
          have o2 := one_mark (s := s) (j := p) (by rw [c0]; exact hcn) (by rw [c0]; exact hl') (by rw [c0]; exact hdg') (by rw [c0]; exact h34) rfl rfl
          rw [hmk2] at o2
          refine ⟨by rw [o1.1, o2.1], o2.2.1, ?_, by rw [htx]; exact ht', sk_stop ?_ ?_⟩
          · rw [o2.2.2.1, hx, terr4]; omega
          · rw [c0]
            have hmm : markB u = true := mark_in u (by simpa using hmk) (by omega)
            by_cases hb1 : chBlk (chI u 0) = true
            · exfalso
              have := of_decide_eq_true hb1
              unfold mkN mk2 mk1 at hmk
              simp only [decide_eq_true_eq] at hmk
              rcases this with e | e | e <;> rw [e] at hmk <;> simp at hmk <;> omega
            · simpa using hb1
          · rw [c0]
            intro e
            unfold mkN mk2 mk1 at hmk
            simp only [decide_eq_true_eq] at hmk
            rw [e] at hmk
            simp at hmk
            omega
  refine ⟨main.2.2.2.2, main.2.2.1, by rw [main.1]; exact hK, main.2.1, ?_, hz⟩
  unfold tkAt
  simp only
  rw [main.1, main.2.1]
  exact main.2.2.2.1
end Go.Proofs.Ythjfedkginjbeaa
