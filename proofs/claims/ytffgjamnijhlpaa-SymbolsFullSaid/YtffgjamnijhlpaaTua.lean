/- Package token: when a text is one token (plain functions on bytes). -/
import Derived.Test.YtffgjamnijhlpaaTsq
namespace Go.Proofs.Ytffgjamnijhlpaa
open Go.RowKit
theorem run_spec {p : Int → Bool} {s : ByteArray} : ∀ n i, s.size - i = n → i ≤ s.size → (∀ k, i ≤ k → k < run p s i → p (chI s k) = true) ∧ (run p s i < s.size → p (chI s (run p s i)) = false)
  | 0, i, hn, hi => by
    have e : run p s i = i := by unfold run; rw [hn]; rfl
    rw [e]
    exact ⟨fun k h1 h2 => by omega, fun h => by omega⟩
  | n + 1, i, hn, hi => by
    cases hp : p (chI s i) with
    | true =>
      rw [run_go (by omega) hp]
      have ih := run_spec (p := p) (s := s) n (i + 1) (by omega) (by omega)
      refine ⟨fun k h1 h2 => ?_, ih.2⟩
      rcases Nat.eq_or_lt_of_le h1 with rfl | h1
      · exact hp
      · exact ih.1 k h1 h2
    | false =>
      rw [run_stop hp]
      exact ⟨fun k h1 h2 => by omega, fun _ => hp⟩
theorem run_ok {p : Int → Bool} {s : ByteArray} {i k : Nat} (hi : i ≤ s.size) (h1 : i ≤ k) (h2 : k < run p s i) : p (chI s k) = true := (run_spec _ i rfl hi).1 k h1 h2
theorem run_bad {p : Int → Bool} {s : ByteArray} {i : Nat} (hi : i ≤ s.size) (h : run p s i < s.size) : p (chI s (run p s i)) = false := (run_spec _ i rfl hi).2 h
theorem run_is {p : Int → Bool} {s : ByteArray} {e : Nat} (he : e ≤ s.size) (hb : e < s.size → p (chI s e) = false) : ∀ n i, e - i = n → i ≤ e → (∀ k, i ≤ k → k < e → p (chI s k) = true) → run p s i = e
  | 0, i, hn, hi, ha => by
    obtain rfl : i = e := by omega
    rcases Nat.lt_or_ge i s.size with h | h
    · exact run_stop (hb h)
    · unfold run; rw [show s.size - i = 0 by omega]; rfl
  | n + 1, i, hn, hi, ha => by
    rw [run_go (by omega) (ha i (Nat.le_refl _) (by omega))]
    exact run_is he hb n (i + 1) (by omega) (by omega) fun k h1 h2 => ha k (by omega) h2
theorem chI_app_l {a b : ByteArray} {i : Nat} (h : i < a.size) : chI (a ++ b) i = chI a i := by
  have h2 : i < (a ++ b).size := by rw [ByteArray.size_append]; omega
  rw [chI_lt h2, chI_lt h, ByteArray.getElem_append_left h]
theorem chI_app_r {a b : ByteArray} {i j : Nat} (h : j = a.size + i) : chI (a ++ b) j = chI b i := by
  subst h
  by_cases hb : i < b.size
  · have h2 : a.size + i < (a ++ b).size := by rw [ByteArray.size_append]; omega
    rw [chI_lt h2, chI_lt hb, ByteArray.getElem_append_right (by omega)]
    congr 2
    simp
  · rw [chI_ge hb, chI_ge (by rw [ByteArray.size_append]; omega)]
theorem ext_size {s : ByteArray} {i j : Nat} (hj : j ≤ s.size) : (s.extract i j).size = j - i := by
  rw [ByteArray.size_extract]; omega
theorem ext_all (s : ByteArray) : s.extract 0 s.size = s := by
  apply ByteArray.ext
  rw [ByteArray.data_extract]
  exact Array.extract_size
/-- how a token stands in a source -/
def q1 : ByteArray := ⟨#[34]⟩
def spell (kind : Int) (t : ByteArray) : ByteArray := if kind = 3 then q1 ++ t ++ q1 else t
/-- a text of a kind is one token -/
def chkT (kind : Int) (t : ByteArray) : Bool := decide (oneC (spell kind t) (sk (spell kind t) 0) = 0) && (decide (((oneK (spell kind t) (sk (spell kind t) 0) : Nat) : Int) = kind) && decide ((tkAt (spell kind t) (sk (spell kind t) 0)).text = t))
def nameB (t : ByteArray) : Bool := decide (chLet (chI t 0) = true ∧ run wordC t 0 = t.size ∧ t.size ≤ 32)
def numB (t : ByteArray) : Bool := decide (chDig (chI t 0) = true ∧ run chDig t 0 = t.size ∧ t.size ≤ 9 ∧ (t.size = 1 ∨ chI t 0 ≠ 48))
def quoB (t : ByteArray) : Bool := decide (run quoC t 0 = t.size ∧ t.size ≤ 256)
def markL : List (List UInt8) := [[123], [125], [40], [41], [59], [58], [44], [46], [45], [126], [42], [33], [61, 61], [33, 61], [38, 38], [124, 124], [94]]
def markB (t : ByteArray) : Bool := markL.contains t.toList
/-- the reference's Check -/
def refB (kind : Int) (t : ByteArray) : Bool := if kind = 0 then decide (t.size = 0) else if kind = 1 then nameB t else if kind = 2 then numB t else if kind = 3 then quoB t else if kind = 4 then markB t else false
theorem oneK_le (s : ByteArray) (j : Nat) : oneK s j ≤ 4 := by unfold oneK; (repeat' split) <;> omega
theorem oneK_0 {s : ByteArray} {j : Nat} (h : oneK s j = 0) : chI s j = -1 := by
  unfold oneK at h; (repeat' split at h) <;> first | assumption | omega
theorem oneK_1 {s : ByteArray} {j : Nat} (h : oneK s j = 1) : chLet (chI s j) = true := by
  unfold oneK at h; (repeat' split at h) <;> first | assumption | omega
theorem oneK_2 {s : ByteArray} {j : Nat} (h : oneK s j = 2) : chDig (chI s j) = true := by
  unfold oneK at h; (repeat' split at h) <;> first | assumption | omega
theorem oneK_3 {s : ByteArray} {j : Nat} (h : oneK s j = 3) : chI s j = 34 := by
  unfold oneK at h; (repeat' split at h) <;> first | assumption | omega
theorem oneK_4 {s : ByteArray} {j : Nat} (h : oneK s j = 4) : chI s j ≠ -1 ∧ chLet (chI s j) = false ∧ chDig (chI s j) = false ∧ chI s j ≠ 34 := by
  unfold oneK at h
  repeat' split at h
  all_goals first | omega | skip
  rename_i h1 h2 h3 h4
  exact ⟨h1, by simpa using h2, by simpa using h3, h4⟩
theorem sk_start {s : ByteArray} (h : chLet (chI s 0) = true ∨ chDig (chI s 0) = true ∨ chI s 0 = 34 ∨ mk1 (chI s 0) = true ∨ chI s 0 = 61 ∨ chI s 0 = 38 ∨ chI s 0 = 124 ∨ chI s 0 = -1) (i : Nat) (hi : i = 0) : sk s i = 0 := by
  subst hi
  apply sk_stop
  · unfold chLet chDig mk1 at h
    unfold chBlk
    simp only [decide_eq_true_eq] at h
    apply decide_eq_false
    omega
  · unfold chLet chDig mk1 at h
    simp only [decide_eq_true_eq] at h
    omega
theorem terr1 (t : ByteArray) : terr 1 t = 0 ↔ t.size ≤ 32 := by
  unfold terr
  rw [if_pos rfl]
  split <;> constructor <;> intro h <;> first | omega | exact absurd h (by decide)
theorem terr2 (t : ByteArray) : terr 2 t = 0 ↔ t.size ≤ 9 ∧ (t.size ≤ 1 ∨ chI t 0 ≠ 48) := by
  unfold terr
  rw [if_neg (by decide), if_pos rfl]
  repeat' split
  all_goals constructor <;> intro h <;> first | omega | exact absurd h (by decide)
theorem terr3 (t : ByteArray) : terr 3 t = 0 ↔ t.size ≤ 256 := by
  unfold terr
  rw [if_neg (by decide), if_neg (by decide), if_pos rfl]
  split <;> constructor <;> intro h <;> first | omega | exact absurd h (by decide)
theorem terr4 (t : ByteArray) : terr 4 t = 0 ↔ t.size ≠ 0 := by
  unfold terr
  rw [if_neg (by decide), if_neg (by decide), if_neg (by decide), if_pos rfl]
  split <;> constructor <;> intro h <;> first | omega | exact absurd h (by decide)
theorem whole {t : ByteArray} {j e : Nat} (h : t.extract j e = t) (hj : j ≤ t.size) (he : e ≤ t.size) (_hz : t.size ≠ 0) : j = 0 ∧ e = t.size := by
  have := congrArg ByteArray.size h
  rw [ext_size he] at this
  omega
theorem chk_1 (t : ByteArray) : chkT 1 t = nameB t := by
  have hs : spell 1 t = t := if_neg (by decide)
  unfold chkT nameB
  rw [hs, Bool.eq_iff_iff]
  simp only [Bool.and_eq_true, decide_eq_true_eq]
  constructor
  · rintro ⟨hc, hk, ht⟩
    have hk' : oneK t (sk t 0) = 1 := by omega
    have hl := oneK_1 hk'
    have hone := one_name hl rfl
    have hj := sk_le (s := t) (i := 0) (Nat.zero_le _)
    have hlt := ch_in (let_ne hl).1
    have hr := run_le wordC t _ hj.2
    unfold tkAt at ht
    rw [hk', hone.2.1] at ht
    have hw := whole (t := t) (by simpa [ttext] using ht) hj.2 hr.2 (by omega)
    have h0 := hw.1
    rw [h0] at hl hw hone hc
    rw [hw.2] at hone
    refine ⟨hl, hw.2, ?_⟩
    rw [hone.2.2.1] at hc
    have e : ttext 1 t 0 t.size = t := by simp [ttext]
    rw [e] at hc
    exact (terr1 t).1 hc
  · rintro ⟨hl, hr, hz⟩
    have e0 := sk_start (s := t) (.inl hl) 0 rfl
    have hone := one_name hl rfl
    have e : ttext 1 t 0 t.size = t := by simp [ttext]
    rw [hr, e] at hone
    rw [e0, hone.1, hone.2.2.1]
    refine ⟨(terr1 t).2 hz, rfl, ?_⟩
    unfold tkAt
    simp only
    rw [hone.1, hone.2.1, e]
theorem chk_2 (t : ByteArray) : chkT 2 t = numB t := by
  have hs : spell 2 t = t := if_neg (by decide)
  unfold chkT numB
  rw [hs, Bool.eq_iff_iff]
  simp only [Bool.and_eq_true, decide_eq_true_eq]
  constructor
  · rintro ⟨hc, hk, ht⟩
    have hk' : oneK t (sk t 0) = 2 := by omega
    have hl := oneK_2 hk'
    have hone := one_number hl rfl
    have hj := sk_le (s := t) (i := 0) (Nat.zero_le _)
    have hlt := ch_in (dig_ne hl).1
    have hr := run_le chDig t _ hj.2
    unfold tkAt at ht
    rw [hk', hone.2.1] at ht
    have hw := whole (t := t) (by simpa [ttext] using ht) hj.2 hr.2 (by omega)
    have h0 := hw.1
    rw [h0] at hl hw hone hc
    rw [hw.2] at hone
    rw [hone.2.2.1] at hc
    have e : ttext 2 t 0 t.size = t := by simp [ttext]
    rw [e] at hc
    have hc' := (terr2 t).1 hc
    exact ⟨hl, hw.2, hc'.1, hc'.2.imp (fun h => by omega) id⟩
  · rintro ⟨hl, hr, hz⟩
    have e0 := sk_start (s := t) (.inr (.inl hl)) 0 rfl
    have hone := one_number hl rfl
    have e : ttext 2 t 0 t.size = t := by simp [ttext]
    rw [hr, e] at hone
    rw [e0, hone.1, hone.2.2.1]
    refine ⟨(terr2 t).2 ⟨hz.1, hz.2.imp (fun h => by omega) id⟩, rfl, ?_⟩
    unfold tkAt
    simp only
    rw [hone.1, hone.2.1, e]
theorem chk_0 (t : ByteArray) : chkT 0 t = decide (t.size = 0) := by
  have hs : spell 0 t = t := if_neg (by decide)
  unfold chkT
  rw [hs, Bool.eq_iff_iff]
  simp only [Bool.and_eq_true, decide_eq_true_eq]
  constructor
  · rintro ⟨hc, hk, ht⟩
    have hk' : oneK t (sk t 0) = 0 := by omega
    have hl := oneK_0 hk'
    have hj := sk_le (s := t) (i := 0) (Nat.zero_le _)
    unfold tkAt at ht
    have he : oneE t (sk t 0) = sk t 0 := by simp [oneE, hl]
    simp only [hk', he, ttext] at ht
    have := congrArg ByteArray.size ht
    rw [if_neg (by decide), ext_size hj.2] at this
    omega
  · intro hz
    have h1 : chI t 0 = -1 := chI_ge (by omega)
    have e0 := sk_start (s := t) (.inr (.inr (.inr (.inr (.inr (.inr (.inr h1))))))) 0 rfl
    have hk : oneK t 0 = 0 := by simp [oneK, h1]
    have he : oneE t 0 = 0 := by simp [oneE, h1]
    rw [e0, hk]
    have e : t.extract 0 0 = t := by rw [← hz]; exact (by rw [hz]; exact (by have := ext_all t; rwa [hz] at this))
    refine ⟨?_, rfl, ?_⟩
    · simp [oneC, h1, hk, terr]
    · simp only [tkAt, hk, he, ttext]
      rw [if_neg (by decide), e]
theorem chk_3 (t : ByteArray) : chkT 3 t = quoB t := by
  obtain ⟨s, hs⟩ : ∃ s, spell 3 t = s := ⟨_, rfl⟩
  have hs' : s = q1 ++ t ++ q1 := by rw [← hs]; exact if_pos rfl
  have hz : s.size = t.size + 2 := by
    rw [hs', ByteArray.size_append, ByteArray.size_append]
    have : q1.size = 1 := rfl
    omega
  have h0 : chI s 0 = 34 := by
    rw [hs', chI_app_l (by rw [ByteArray.size_append]; have : q1.size = 1 := rfl; omega), chI_app_l (by decide)]
    rfl
  have hm : ∀ k, k < t.size → chI s (1 + k) = chI t k := by
    intro k hk
    rw [hs', chI_app_l (by rw [ByteArray.size_append]; have : q1.size = 1 := rfl; omega), chI_app_r (a := q1) (i := k) (j := 1 + k) rfl]
  have he : chI s (1 + t.size) = 34 := by
    rw [hs', chI_app_r (i := 0) (by rw [ByteArray.size_append]; rfl)]
    rfl
  have hr := run_le quoC t 0 (Nat.zero_le _)
  have hrun : run quoC s (0 + 1) = 1 + run quoC t 0 := by
    apply run_is (by omega) ?_ _ _ rfl (by omega)
    · intro k h1 h2
      obtain ⟨m, rfl⟩ : ∃ m, k = 1 + m := ⟨k - 1, by omega⟩
      rw [hm m (by omega)]
      exact run_ok (Nat.zero_le _) (Nat.zero_le _) (by omega)
    · intro _
      rcases Nat.lt_or_ge (run quoC t 0) t.size with h | h
      · rw [hm _ h]; exact run_bad (Nat.zero_le _) h
      · rw [show run quoC t 0 = t.size by omega, he]; rfl
  have e0 := sk_start (s := s) (.inr (.inr (.inl h0))) 0 rfl
  have hx : ∀ R, R ≤ t.size → ttext 3 s 0 (1 + R + 1) = t.extract 0 R := by
    intro R hR
    have e1 : ttext 3 s 0 (1 + R + 1) = (s.extract 0 (1 + R + 1)).extract 1 (1 + R) := by simp [ttext]
    rw [e1, ByteArray.extract_extract]
    apply ByteArray.ext
    rw [hs']
    rcases t with ⟨⟨l⟩⟩
    simp only [ByteArray.data_extract, ByteArray.data_append, q1]
    simp [ByteArray.size] at hR
    apply Array.ext
    · simp; omega
    · intro i h1 h2
      have h3 : i < l.length := by simp at h2; omega
      simp only [Array.getElem_extract]
      rw [Array.getElem_append_left (by simp; omega), Array.getElem_append_right (by simp)]
      simp
  have hq := one_quoted h0 rfl
  rw [hrun] at hq
  unfold chkT quoB
  rw [hs, e0, Bool.eq_iff_iff]
  simp only [Bool.and_eq_true, decide_eq_true_eq]
  rcases Nat.lt_or_ge (run quoC t 0) t.size with h | h
  · constructor
    · rintro ⟨hc, hk, ht⟩
      have hb := run_bad (Nat.zero_le _) h
      have hcc := hm _ h
      by_cases e1 : chI s (1 + run quoC t 0) = 34
      · have ho := hq.1 e1
        unfold tkAt at ht
        simp only at ht
        rw [ho.1, ho.2.1, hx _ hr.2] at ht
        have := congrArg ByteArray.size ht
        rw [ext_size hr.2] at this
        omega
      · by_cases e2 : chI s (1 + run quoC t 0) = -1
        · rw [hcc, chI_lt h] at e2; omega
        · rw [(hq.2.2 e1 e2).1] at hc; exact absurd hc (by decide)
    · rintro ⟨h1, _⟩; omega
  · have hR : run quoC t 0 = t.size := by omega
    rw [hR] at hq
    have ho := hq.1 he
    rw [hx _ (Nat.le_refl _), ext_all] at ho
    rw [ho.1, ho.2.2.1, terr3]
    have ht : (tkAt s 0).text = t := by
      simp only [tkAt]
      rw [ho.1, ho.2.1, hx _ (Nat.le_refl _), ext_all]
    exact ⟨fun h => ⟨hR, h.1⟩, fun h => ⟨h.2, rfl, ht⟩⟩
set_option maxRecDepth 100000 in
theorem mark1 : ∀ u : Fin 256, mk1 ((u.val : Nat) : Int) = true → markL.contains [UInt8.ofNat u.val] = true := by decide
theorem toList_1 {t : ByteArray} (h : t.size = 1) : ∃ u : UInt8, t = ⟨#[u]⟩ := by
  rcases t with ⟨⟨l⟩⟩
  match l, h with
  | [x], _ => exact ⟨x, rfl⟩
theorem toList_2 {t : ByteArray} (h : t.size = 2) : ∃ u v : UInt8, t = ⟨#[u, v]⟩ := by
  rcases t with ⟨⟨l⟩⟩
  match l, h with
  | [x, y], _ => exact ⟨x, y, rfl⟩
theorem u8_eq {u : UInt8} {n : Nat} (h : (u.toNat : Int) = (n : Int)) (hn : n < 256) : u = UInt8.ofNat n := by
  apply UInt8.toNat_inj.1
  rw [UInt8.toNat_ofNat']
  omega
theorem mark_in (t : ByteArray) (h : mkN (chI t 0) (chI t 1) = t.size) (hz : t.size ≠ 0) : markB t = true := by
  unfold markB
  unfold mkN at h
  split at h
  · rename_i h2
    obtain ⟨u, v, rfl⟩ := toList_2 h.symm
    have e0 : chI ⟨#[u, v]⟩ 0 = (u.toNat : Int) := chI_lt (s := ⟨#[u, v]⟩) (i := 0) Nat.zero_lt_two
    have e1 : chI ⟨#[u, v]⟩ 1 = (v.toNat : Int) := chI_lt (s := ⟨#[u, v]⟩) (i := 1) Nat.one_lt_two
    rw [e0, e1] at h2
    rw [ByteArray.toList_eq]
    have h3 := of_decide_eq_true h2
    rcases h3 with ⟨a, b⟩ | ⟨a, b⟩ | ⟨a, b⟩ | ⟨a, b⟩ <;> (rw [u8_eq (n := _) a (by decide), u8_eq (n := _) b (by decide)]; decide)
  · split at h
    · rename_i h1
      obtain ⟨u, rfl⟩ := toList_1 h.symm
      have e0 : chI ⟨#[u]⟩ 0 = (u.toNat : Int) := chI_lt (s := ⟨#[u]⟩) (i := 0) Nat.zero_lt_one
      rw [e0] at h1
      have := mark1 ⟨u.toNat, u.toNat_lt⟩ h1
      rw [ByteArray.toList_eq]
      simpa using this
    · exact absurd h.symm hz
theorem chk_marks : ∀ l ∈ markL, chkT 4 ⟨l.toArray⟩ = true := by decide
theorem chk_4 (t : ByteArray) : chkT 4 t = markB t := by
  have hs : spell 4 t = t := if_neg (by decide)
  rw [Bool.eq_iff_iff]
  constructor
  · unfold chkT
    rw [hs]
    simp only [Bool.and_eq_true, decide_eq_true_eq]
    rintro ⟨hc, hk, ht⟩
    have hk' : oneK t (sk t 0) = 4 := by omega
    have hl := oneK_4 hk'
    have hone := one_mark hl.1 hl.2.1 hl.2.2.1 hl.2.2.2 rfl rfl
    have hj := sk_le (s := t) (i := 0) (Nat.zero_le _)
    have hlt := ch_in hl.1
    unfold tkAt at ht
    rw [hk', hone.2.1] at ht
    have hb := mkN_bd (s := t) hlt
    have hw := whole (t := t) (by simpa [ttext] using ht) hj.2 (by omega) (by omega)
    have h0 := hw.1
    rw [h0] at hw
    simp only [Nat.zero_add] at hw
    exact mark_in t (by omega) (by omega)
  · intro h
    have hm : t.toList ∈ markL := by simpa [markB] using h
    have := chk_marks _ hm
    have e : (⟨t.toList.toArray⟩ : ByteArray) = t := by rw [ByteArray.toList_eq]
    rwa [e] at this
theorem chk_ref (kind : Int) (t : ByteArray) : chkT kind t = refB kind t := by
  unfold refB
  by_cases h0 : kind = 0
  · subst h0; rw [if_pos rfl]; exact chk_0 t
  by_cases h1 : kind = 1
  · subst h1; rw [if_neg h0, if_pos rfl]; exact chk_1 t
  by_cases h2 : kind = 2
  · subst h2; rw [if_neg h0, if_neg h1, if_pos rfl]; exact chk_2 t
  by_cases h3 : kind = 3
  · subst h3; rw [if_neg h0, if_neg h1, if_neg h2, if_pos rfl]; exact chk_3 t
  by_cases h4 : kind = 4
  · subst h4; rw [if_neg h0, if_neg h1, if_neg h2, if_neg h3, if_pos rfl]; exact chk_4 t
  rw [if_neg h0, if_neg h1, if_neg h2, if_neg h3, if_neg h4]
  unfold chkT
  have := oneK_le (spell kind t) (sk (spell kind t) 0)
  simp only [Bool.and_eq_false_iff, decide_eq_false_iff_not]
  right; left
  omega
end Go.Proofs.Ytffgjamnijhlpaa
