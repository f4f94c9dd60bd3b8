/- Package token: a source that is made of tokens is scanned as they are (plain functions on bytes). -/
import Derived.Test.YthjfedkginjbeaaTup
namespace Go.Proofs.Ythjfedkginjbeaa
open Go.RowKit
def Tk.key (t : Tk) : Int × ByteArray := ((t.kind : Int), t.text)
/-- from i on stand these tokens, and nothing else -/
def Chain (s : ByteArray) : Nat → List (Int × ByteArray) → Prop
  | i, [] => i ≤ s.size ∧ sk s i = s.size
  | i, (k, t) :: r => i ≤ s.size ∧ At s (sk s i) (spell k t) ∧ delim (chI s (sk s i + (spell k t).size)) = true ∧ chkT k t = true ∧ k ≠ 0 ∧ Chain s (sk s i + (spell k t).size) r
theorem chain_scan {s : ByteArray} : ∀ (l : List (Int × ByteArray)) (i : Nat), Chain s i l →
    ∃ toks : List Tk, (∀ n acc, l.length < n → scF s n i acc = (none, acc ++ toks)) ∧ toks.map Tk.key = l ++ [(0, ⟨#[]⟩)]
  | [], i, h => by
    have hend := oneK_end s
    refine ⟨[tkAt s s.size], fun n acc hn => ?_, ?_⟩
    · obtain ⟨m, rfl⟩ : ∃ m, n = m + 1 := ⟨n - 1, by simp at hn; omega⟩
      have e := h.2
      have h1 : oneC s (sk s i) = 0 := by rw [e]; exact hend.2.1
      have h2 : oneK s (sk s i) = 0 := by rw [e]; exact hend.1
      rw [scF_end h1 h2, e]
    · rw [hend.2.2]; rfl
  | (k, t) :: r, i, h => by
    obtain ⟨hi, ha, hd, hc, hk, hr⟩ := h
    have ho := one_at hc hk ha hd
    obtain ⟨toks, h1, h2⟩ := chain_scan r _ hr
    refine ⟨tkAt s (sk s i) :: toks, fun n acc hn => ?_, ?_⟩
    · obtain ⟨m, rfl⟩ : ∃ m, n = m + 1 := ⟨n - 1, by simp at hn; omega⟩
      rw [scF_go ho.2.1 (by omega), ho.2.2.2.1, h1 m _ (by simp at hn; omega)]
      simp
    · rw [List.map_cons, h2]
      have : (tkAt s (sk s i)).key = (k, t) := by
        show ((oneK s (sk s i) : Int), (tkAt s (sk s i)).text) = (k, t)
        rw [ho.2.2.1, ho.2.2.2.2.1]
      rw [this]
      rfl
theorem joinN_pre (l : List TI) : ∀ (m k : Nat), k ≤ m → ∀ x, x < (joinN l k).size → chI (joinN l m) x = chI (joinN l k) x
  | 0, k, h, x, hx => by obtain rfl : k = 0 := by omega
                         rfl
  | m + 1, k, h, x, hx => by
    rcases Nat.eq_or_lt_of_le h with rfl | h
    · rfl
    · have ih := joinN_pre l m k (by omega) x hx
      have hle := joinN_le l (show k ≤ m by omega)
      by_cases hm : m < l.length
      · rw [joinN_succ hm]
        split
        · rw [chI_app_l (by omega)]; exact ih
        · rw [chI_app_l (by rw [ByteArray.size_append]; omega), chI_app_l (by omega)]; exact ih
      · rw [← ih]
        simp [joinN, List.getElem?_eq_none (by omega : l.length ≤ m)]
/-- the i-th token stands behind the first i, and a blank -/
theorem joinN_at {l : List TI} {i : Nat} (h : i < l.length) : At (joinN l (i + 1)) (if i = 0 then 0 else (joinN l i).size + 1) (spell l[i].kind l[i].text) ∧ (if i = 0 then 0 else (joinN l i).size + 1) + (spell l[i].kind l[i].text).size = (joinN l (i + 1)).size := by
  have hJ := joinN_succ h
  by_cases h0 : i = 0
  · subst h0
    rw [if_pos rfl] at hJ ⊢
    have e : joinN l 0 = ⟨#[]⟩ := rfl
    have hz : (joinN l (0 + 1)).size = (spell l[0].kind l[0].text).size := by rw [hJ, ByteArray.size_append, e]; show 0 + _ = _; omega
    refine ⟨⟨by omega, fun x hx => ?_⟩, by omega⟩
    rw [hJ, chI_app_r (i := x) (by rw [e]; show 0 + x = 0 + x; rfl)]
  · rw [if_neg h0] at hJ ⊢
    have hs : spc.size = 1 := rfl
    have hz : (joinN l (i + 1)).size = (joinN l i).size + 1 + (spell l[i].kind l[i].text).size := by rw [hJ, ByteArray.size_append, ByteArray.size_append, hs]
    refine ⟨⟨by omega, fun x hx => ?_⟩, by omega⟩
    rw [hJ, chI_app_r (i := x) (by rw [ByteArray.size_append, hs])]
theorem joinN_sp {l : List TI} {i : Nat} (h : i < l.length) (h0 : i ≠ 0) : chI (joinN l (i + 1)) (joinN l i).size = 32 := by
  rw [joinN_succ h, if_neg h0, chI_app_l (by rw [ByteArray.size_append]; have : spc.size = 1 := rfl; omega), chI_app_r (a := joinN l i) (b := spc) (i := 0) (j := (joinN l i).size) rfl]
  rfl
theorem joinN_chain {l : List TI} (ha : ∀ i (h : i < l.length), chkT l[i].kind l[i].text = true ∧ l[i].kind ≠ 0) :
    ∀ d i, l.length - i = d → i ≤ l.length → Chain (joinN l l.length) (joinN l i).size ((l.drop i).map TI.key)
  | 0, i, hd, hi => by
    obtain rfl : i = l.length := by omega
    rw [List.drop_length]
    exact ⟨Nat.le_refl _, sk_end _⟩
  | d + 1, i, hd, hi => by
    have hlt : i < l.length := by omega
    have hle := joinN_le l hi
    have hle1 := joinN_le l (show i + 1 ≤ l.length from hlt)
    obtain ⟨hat, hend⟩ := joinN_at hlt
    have hpre := joinN_pre l l.length (i + 1) hlt
    obtain ⟨p, hp⟩ : ∃ p, (if i = 0 then 0 else (joinN l i).size + 1) = p := ⟨_, rfl⟩
    rw [hp] at hat hend
    have hA : At (joinN l l.length) p (spell l[i].kind l[i].text) := ⟨by omega, fun x hx => by rw [hpre _ (by omega)]; exact hat.2 x hx⟩
    have hD : delim (chI (joinN l l.length) (p + (spell l[i].kind l[i].text).size)) = true := by
      rw [hend]
      by_cases hl : i + 1 < l.length
      · have := joinN_sp hl (by omega)
        have hle2 := joinN_le l (show i + 1 + 1 ≤ l.length from hl)
        have hz := (joinN_at hl).2
        rw [if_neg (by omega)] at hz
        rw [joinN_pre l l.length (i + 1 + 1) hl _ (by omega), this]
        rfl
      · rw [show i + 1 = l.length by omega, chI_ge (by omega)]
        rfl
    have ho := one_at (ha i hlt).1 (ha i hlt).2 hA hD
    have hsk : sk (joinN l l.length) (joinN l i).size = p := by
      by_cases h0 : i = 0
      · subst h0
        rw [if_pos rfl] at hp
        subst hp
        exact ho.1
      · rw [if_neg h0] at hp
        subst hp
        rw [sk_blank (by rw [hpre _ (by omega), joinN_sp hlt h0]; rfl)]
        exact ho.1
    rw [List.drop_eq_getElem_cons hlt, List.map_cons]
    refine ⟨hle, ?_, ?_, (ha i hlt).1, (ha i hlt).2, ?_⟩
    · rw [hsk]; exact hA
    · rw [hsk]; exact hD
    · rw [hsk, hend]
      exact joinN_chain ha d (i + 1) (by omega) hlt
theorem joinN_key {l m : List TI} (h : l.map TI.key = m.map TI.key) : ∀ k, joinN l k = joinN m k
  | 0 => rfl
  | k + 1 => by
    have e := congrArg (fun x => x[k]?) h
    simp only [List.getElem?_map] at e
    simp only [joinN, joinN_key h k]
    cases hl : l[k]? with
    | none => rw [hl] at e; cases hm : m[k]? with
      | none => rfl
      | some b => rw [hm] at e; cases e
    | some a => rw [hl] at e; cases hm : m[k]? with
      | none => rw [hm] at e; cases e
      | some b =>
        rw [hm] at e
        simp only [Option.map_some, Option.some.injEq, TI.key, Prod.mk.injEq] at e
        simp only
        rw [e.1, e.2]
theorem toI_key (t : Tk) : t.toI.key = t.key := rfl
/-- what the scanned list of a source is, when the source is made of these tokens -/
theorem scan_join {l : List TI} (ha : ∀ i (h : i < l.length), chkT l[i].kind l[i].text = true ∧ l[i].kind ≠ 0) (hz : l.length ≤ (joinN l l.length).size) :
    (scF (joinN l l.length) ((joinN l l.length).size + 1) 0 []).1 = none ∧ ((scF (joinN l l.length) ((joinN l l.length).size + 1) 0 []).2.map Tk.toI).map TI.key = l.map TI.key ++ [(0, ⟨#[]⟩)] := by
  have hc := joinN_chain ha _ 0 rfl (Nat.zero_le _)
  obtain ⟨toks, h1, h2⟩ := chain_scan _ _ hc
  have e0 : (joinN l 0).size = 0 := rfl
  rw [e0] at h1
  have := h1 ((joinN l l.length).size + 1) [] (by simp; omega)
  rw [this]
  refine ⟨rfl, ?_⟩
  rw [List.map_map, show TI.key ∘ Tk.toI = Tk.key from rfl]
  simpa using h2
/-- each token has at least one byte -/
theorem joinN_long {l : List TI} (ha : ∀ i (h : i < l.length), chkT l[i].kind l[i].text = true ∧ l[i].kind ≠ 0) : ∀ n, n ≤ l.length → n ≤ (joinN l n).size
  | 0, _ => Nat.zero_le _
  | n + 1, h => by
    have ih := joinN_long ha n (by omega)
    have hz := (chkT_0 (ha n h).1 (ha n h).2).1
    have := (joinN_at h).2
    split at this <;> omega
end Go.Proofs.Ythjfedkginjbeaa
