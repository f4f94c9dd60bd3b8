/- The law TokenBlanks: gaps between tokens (plain functions on bytes), and gap, walked. -/
import Derived.Test.YthjfedkginjbeaaTur
namespace Go.Proofs.Ythjfedkginjbeaa
open Go.RowKit
def gapL : List ByteArray := [⟨#[10]⟩, ⟨#[9, 32]⟩, ⟨#[32, 35, 32, 97, 32, 34, 99, 111, 109, 109, 101, 110, 116, 34, 10]⟩, ⟨#[35, 10, 10]⟩, ⟨#[32]⟩]
/-- a text of blanks and whole comments, from i on -/
def blankT (u : ByteArray) : Nat → Nat → Bool
  | 0, i => decide (i = u.size)
  | n + 1, i => if i = u.size then true else if chBlk (chI u i) = true then blankT u n (i + 1) else if chI u i = 35 then decide (run lineC u i < u.size) && blankT u n (run lineC u i) else false
theorem blank_sk {s u : ByteArray} {p : Nat} (h : At s p u) : ∀ n i, i ≤ u.size → blankT u n i = true → sk s (p + i) = sk s (p + u.size)
  | 0, i, hi, hb => by
    have := of_decide_eq_true hb
    rw [this]
  | n + 1, i, hi, hb => by
    unfold blankT at hb
    by_cases h0 : i = u.size
    · rw [h0]
    · rw [if_neg h0] at hb
      have hlt : i < u.size := by omega
      have hc := h.2 i hlt
      by_cases h1 : chBlk (chI u i) = true
      · rw [if_pos h1] at hb
        rw [sk_blank (by rw [hc]; exact h1)]
        exact blank_sk h n (i + 1) hlt hb
      · rw [if_neg h1] at hb
        by_cases h2 : chI u i = 35
        · rw [if_pos h2] at hb
          simp only [Bool.and_eq_true, decide_eq_true_eq] at hb
          have hr := run_le lineC u i hi
          rw [sk_hash (by rw [hc]; exact h2), at_run h hi (fun e => by omega)]
          exact blank_sk h n _ hr.2 hb.2
        · rw [if_neg h2] at hb; cases hb
theorem gap_facts : ∀ g ∈ gapL, blankT g 20 0 = true ∧ delim (chI g 0) = true ∧ 0 < g.size ∧ g.size ≤ 15 := by decide +kernel
theorem gap_sk {s g : ByteArray} {p : Nat} (hg : g ∈ gapL) (h : At s p g) : sk s p = sk s (p + g.size) := blank_sk h 20 0 (Nat.zero_le _) (gap_facts g hg).1
/-- behind S, which begins with the tokens ks, a blank, a comment or the end may stand -/
def Pre (S : ByteArray) (ks : List (Int × ByteArray)) : Prop := ∀ R rest, delim (chI R 0) = true → Chain (S ++ R) S.size rest → Chain (S ++ R) 0 (ks ++ rest)
theorem Pre_nil : Pre ⟨#[]⟩ [] := fun _ _ _ h => h
theorem At_app (a u b : ByteArray) : At (a ++ (u ++ b)) a.size u :=
  ⟨by rw [ByteArray.size_append, ByteArray.size_append]; omega, fun i hi => by rw [chI_app_r (i := i) rfl, chI_app_l hi]⟩
theorem Pre_step {S g t : ByteArray} {k : Int} {ks : List (Int × ByteArray)} (hg : g ∈ gapL) (hc : chkT k t = true) (hk : k ≠ 0) (h : Pre S ks) : Pre (S ++ g ++ spell k t) (ks ++ [(k, t)]) := by
  intro R rest hR hch
  have gf := gap_facts g hg
  have e : S ++ g ++ spell k t ++ R = S ++ (g ++ (spell k t ++ R)) := by simp [ByteArray.append_assoc]
  have e2 : S ++ (g ++ (spell k t ++ R)) = (S ++ g) ++ (spell k t ++ R) := by simp [ByteArray.append_assoc]
  rw [e] at hch ⊢
  rw [List.append_assoc]
  have a1 : At (S ++ (g ++ (spell k t ++ R))) S.size g := At_app _ _ _
  have a2 : At (S ++ (g ++ (spell k t ++ R))) (S.size + g.size) (spell k t) := by
    have := At_app (S ++ g) (spell k t) R
    rw [← e2, ByteArray.size_append] at this
    exact this
  have hd : delim (chI (S ++ (g ++ (spell k t ++ R))) (S.size + g.size + (spell k t).size)) = true := by
    rw [← e, chI_app_r (a := S ++ g ++ spell k t) (b := R) (i := 0) (by rw [ByteArray.size_append, ByteArray.size_append]; omega)]
    exact hR
  have ho := one_at hc hk a2 hd
  have hsk : sk (S ++ (g ++ (spell k t ++ R))) S.size = S.size + g.size := (gap_sk hg a1).trans ho.1
  refine h _ _ ?_ ?_
  · rw [chI_app_l gf.2.2.1]; exact gf.2.1
  · refine ⟨by have := a1.1; omega, ?_, ?_, hc, hk, ?_⟩
    · rw [hsk]; exact a2
    · rw [hsk]; exact hd
    · rw [hsk]
      rw [ByteArray.size_append, ByteArray.size_append] at hch
      exact hch
theorem Pre_end {S g : ByteArray} {ks : List (Int × ByteArray)} (hg : g ∈ gapL) (h : Pre S ks) : Chain (S ++ g) 0 ks := by
  have gf := gap_facts g hg
  have a1 : At (S ++ g) S.size g := ⟨by rw [ByteArray.size_append]; omega, fun i hi => by rw [chI_app_r (i := i) rfl]⟩
  have := h g [] gf.2.1 ⟨by rw [ByteArray.size_append]; omega, by rw [gap_sk hg a1, ← ByteArray.size_append, sk_end]⟩
  simpa using this
theorem chain_len {s : ByteArray} : ∀ (l : List (Int × ByteArray)) (i : Nat), Chain s i l → i + l.length ≤ s.size
  | [], _, h => by have := h.1; simpa using this
  | (k, t) :: r, i, h => by
    obtain ⟨hi, ha, hd, hc, hk, hr⟩ := h
    have ho := one_at hc hk ha hd
    have := chain_len r _ hr
    have := sk_le hi
    simp
    omega
theorem sk0_fault {s : ByteArray} {ks : List (Int × ByteArray)} (h : Chain s 0 ks) : (scF s (s.size + 1) 0 []).1 = none ∧ ((scF s (s.size + 1) 0 []).2.map Tk.toI).map TI.key = ks ++ [(0, ⟨#[]⟩)] := by
  obtain ⟨toks, h1, h2⟩ := chain_scan _ _ h
  have hl := chain_len _ _ h
  have := h1 (s.size + 1) [] (by omega)
  rw [this]
  refine ⟨rfl, ?_⟩
  rw [List.map_map, show TI.key ∘ Tk.toI = Tk.key from rfl]
  simpa using h2
/-- Text of one token -/
theorem textR_one {t : TI} (hk : t.kind ≠ 0) (hz : t.text.size ≤ 300) : textR [t] = if chkT t.kind t.text = true then (spell t.kind t.text, 0) else (⟨#[]⟩, 2) := by
  have hf : firstN [t] = 1 := by simp [firstN, hk]
  unfold textR
  rw [hf]
  have hj : joinN [t] 1 = spell t.kind t.text := by
    have := joinN_succ (l := [t]) (n := 0) (by simp)
    rw [if_pos rfl] at this
    rw [this]
    show ⟨#[]⟩ ++ spell t.kind t.text = _
    apply ByteArray.ext
    simp
  have hs := spell_size t.kind t.text
  rw [show List.take 1 [t] = [t] from rfl, hj, if_pos (show (spell t.kind t.text).size ≤ 65536 by omega)]
  simp
theorem gap_c (x : Int) (w : World) (h0 : 0 ≤ x) (h1 : x ≤ 255) :
    Calls Try.prog 31 #[.int .u8 x] w fun e w' => ∃ g, e = .returned (.string g) ∧ g ∈ gapL ∧ w' = w := by
  go_enter Try.func31, Try.ntmps31
  go_wp2
  all_goals
    go_ret
    exact ⟨_, rfl, by simp [gapL], rfl⟩
end Go.Proofs.Ythjfedkginjbeaa
