/- Package token: what is scanned passes Check; positions are different (plain functions on bytes); stands, walked. -/
import Derived.Test.YthjfedkginjbeaaTur
namespace Go.Proofs.Ythjfedkginjbeaa
open Go.RowKit
theorem run_ext {p : Int → Bool} {s : ByteArray} {i e : Nat} (hi : i ≤ s.size) (he : run p s i = e) : run p (s.extract i e) 0 = (s.extract i e).size := by
  have hr := run_le p s i hi
  rw [he] at hr
  have hz := ext_size (s := s) (i := i) hr.2
  refine run_is (Nat.le_refl _) (fun h => absurd h (by omega)) _ 0 rfl (Nat.zero_le _) (fun k _ hk => ?_)
  rw [chI_ext hr.2 (by omega)]
  exact run_ok hi (by omega) (by rw [he]; omega)
/-- a token of a source passes Check -/
theorem scanned_chk {s : ByteArray} {j : Nat} (hj : j ≤ s.size) (hc : oneC s j = 0) : chkT (oneK s j : Int) (tkAt s j).text = true := by
  have h4 := oneK_le s j
  have htk : (tkAt s j).text = ttext (oneK s j) s j (oneE s j) := rfl
  rw [htk, chk_ref]
  rcases (by omega : oneK s j = 0 ∨ oneK s j = 1 ∨ oneK s j = 2 ∨ oneK s j = 3 ∨ oneK s j = 4) with h | h | h | h | h
  · have c := oneK_0 h
    have he : oneE s j = j := by simp [oneE, c]
    rw [h, he]
    show decide ((ttext 0 s j j).size = 0) = true
    have ht : ttext 0 s j j = s.extract j j := by simp [ttext]
    rw [ht, ext_size hj]
    exact decide_eq_true (by omega)
  · have c := oneK_1 h
    have o := one_name c rfl
    have hr := run_le wordC s j hj
    have hlt := ch_in (let_ne c).1
    rw [run_go hlt (by unfold wordC; rw [c]; rfl)] at hr
    have hr2 := run_le wordC s (j + 1) hlt
    have hc2 := (terr1 _).1 (o.2.2.1 ▸ hc)
    have hE := o.2.1
    have ht : ttext 1 s j (run wordC s j) = s.extract j (run wordC s j) := by simp [ttext]
    rw [ht] at hc2
    rw [h, hE, ht]
    show nameB _ = true
    unfold nameB
    rw [run_ext hj rfl, chI_ext (run_le wordC s j hj).2 (by rw [run_go hlt (by unfold wordC; rw [c]; rfl)]; omega)]
    exact decide_eq_true ⟨c, rfl, hc2⟩
  · have c := oneK_2 h
    have o := one_number c rfl
    have hlt := ch_in (dig_ne c).1
    have hgo := run_go hlt c
    have hr2 := run_le chDig s (j + 1) hlt
    have hc2 := (terr2 _).1 (o.2.2.1 ▸ hc)
    have ht : ttext 2 s j (run chDig s j) = s.extract j (run chDig s j) := by simp [ttext]
    rw [ht] at hc2
    have hz : (s.extract j (run chDig s j)).size = run chDig s j - j := ext_size (run_le chDig s j hj).2
    have h0 : chI (s.extract j (run chDig s j)) 0 = chI s j := chI_ext (run_le chDig s j hj).2 (by omega)
    rw [h, o.2.1, ht]
    show numB _ = true
    unfold numB
    rw [run_ext hj rfl]
    rw [h0] at hc2 ⊢
    exact decide_eq_true ⟨c, rfl, hc2.1, hc2.2.imp (fun h => by omega) id⟩
  · have c := oneK_3 h
    have hlt := ch_in (s := s) (i := j) (by rw [c]; decide)
    have q := one_quoted c rfl
    have hr2 := run_le quoC s (j + 1) hlt
    have hq : chI s (run quoC s (j + 1)) = 34 := by
      by_cases e1 : chI s (run quoC s (j + 1)) = 34
      · exact e1
      · by_cases e2 : chI s (run quoC s (j + 1)) = -1
        · rw [(q.2.1 e2).1] at hc; exact absurd hc (by decide)
        · rw [(q.2.2 e1 e2).1] at hc; exact absurd hc (by decide)
    have o := q.1 hq
    have hc2 := (terr3 _).1 (o.2.2.1 ▸ hc)
    rw [h, o.2.1]
    rw [ttext_3 (by omega)] at hc2 ⊢
    rw [Nat.add_sub_cancel] at hc2 ⊢
    show quoB _ = true
    unfold quoB
    rw [run_ext hlt rfl]
    exact decide_eq_true ⟨rfl, hc2⟩
  · have c := oneK_4 h
    have o := one_mark c.1 c.2.1 c.2.2.1 c.2.2.2 rfl rfl
    have hlt := ch_in c.1
    have hb := mkN_bd (s := s) hlt
    have hc2 := (terr4 _).1 (o.2.2.1 ▸ hc)
    have ht : ttext 4 s j (j + mkN (chI s j) (chI s (j + 1))) = s.extract j (j + mkN (chI s j) (chI s (j + 1))) := by simp [ttext]
    rw [h, o.2.1, ht]
    rw [ext_size (by omega)] at hc2
    show markB _ = true
    unfold mkN at hc2 hb ⊢
    by_cases h2 : mk2 (chI s j) (chI s (j + 1)) = true
    · rw [if_pos h2] at hb ⊢
      rw [mark_two (by omega)]
      exact h2
    · rw [if_neg h2] at hc2 hb ⊢
      by_cases h1 : mk1 (chI s j) = true
      · rw [if_pos h1] at hb ⊢
        rw [mark_one (by omega)]
        exact h1
      · rw [if_neg h1] at hc2
        omega
/-- positions ascend -/
theorem posI_lt (s : ByteArray) : ∀ d i, (posI s i).1 < (posI s (i + d + 1)).1 ∨ ((posI s i).1 = (posI s (i + d + 1)).1 ∧ (posI s i).2 < (posI s (i + d + 1)).2)
  | 0, i => by
    rw [Nat.add_zero, posI_next]
    by_cases h : chI s i = 10
    · left
      show _ < nxL (posI s i).1 (chI s i)
      rw [h]
      show _ < (posI s i).1 + 1
      omega
    · right
      have e1 : nxL (posI s i).1 (chI s i) = (posI s i).1 := if_neg h
      have e2 : nxC (posI s i).2 (chI s i) = (posI s i).2 + 1 := if_neg h
      rw [e1, e2]
      exact ⟨rfl, by omega⟩
  | d + 1, i => by
    have ih := posI_lt s d i
    have e : i + (d + 1) + 1 = (i + d + 1) + 1 := by omega
    rw [e, posI_next]
    by_cases h : chI s (i + d + 1) = 10
    · simp only [nxL, nxC, h, if_true]; omega
    · simp only [nxL, nxC, if_neg h]; omega
theorem posI_inj {s : ByteArray} {i j : Nat} (h : (posI s i).1 = (posI s j).1) (h2 : (posI s i).2 = (posI s j).2) : i = j := by
  rcases Nat.lt_trichotomy i j with h1 | h1 | h1
  · obtain ⟨d, rfl⟩ : ∃ d, j = i + d + 1 := ⟨j - i - 1, by omega⟩
    have := posI_lt s d i
    omega
  · exact h1
  · obtain ⟨d, rfl⟩ : ∃ d, i = j + d + 1 := ⟨i - j - 1, by omega⟩
    have := posI_lt s d j
    omega
/-- how a token stands in its source -/
theorem scanned_at {s : ByteArray} {j : Nat} (hj : j ≤ s.size) (hc : oneC s j = 0) : oneE s j ≤ s.size ∧ j ≤ oneE s j ∧ s.extract j (oneE s j) = spell (oneK s j : Int) (tkAt s j).text := by
  have htk : (tkAt s j).text = ttext (oneK s j) s j (oneE s j) := rfl
  rw [htk]
  by_cases h0 : oneK s j = 0
  · have c := oneK_0 h0
    have he : oneE s j = j := by simp [oneE, c]
    rw [h0, he]
    exact ⟨hj, Nat.le_refl _, by simp [spell, ttext]⟩
  · have hE := oneE_lt hc h0
    refine ⟨hE.2, by omega, ?_⟩
    by_cases h3 : oneK s j = 3
    · have c := oneK_3 h3
      have hlt := ch_in (s := s) (i := j) (by rw [c]; decide)
      have h2 := oneE_3 h3
      have q := one_quoted c rfl
      have hr2 := run_le quoC s (j + 1) hlt
      have hEe : oneE s j = run quoC s (j + 1) + 1 := by simp [oneE, c, show chLet 34 = false from rfl, show chDig 34 = false from rfl]
      have hq : chI s (run quoC s (j + 1)) = 34 := by
        by_cases e1 : chI s (run quoC s (j + 1)) = 34
        · exact e1
        · by_cases e2 : chI s (run quoC s (j + 1)) = -1
          · rw [(q.2.1 e2).1] at hc; exact absurd hc (by decide)
          · rw [(q.2.2 e1 e2).1] at hc; exact absurd hc (by decide)
      rw [h3, ttext_3 h2]
      have hz : (s.extract j (oneE s j)).size = oneE s j - j := ext_size hE.2
      have hA : At s j (q1 ++ s.extract (j + 1) (oneE s j - 1) ++ q1) := by
        have hs1 : q1.size = 1 := rfl
        have hs2 : (s.extract (j + 1) (oneE s j - 1)).size = oneE s j - 1 - (j + 1) := ext_size (by omega)
        refine ⟨by rw [ByteArray.size_append, ByteArray.size_append, hs1, hs2]; omega, fun i hi => ?_⟩
        rw [ByteArray.size_append, ByteArray.size_append, hs1, hs2] at hi
        rcases Nat.lt_or_ge i 1 with hi1 | hi1
        · obtain rfl : i = 0 := by omega
          rw [chI_app_l (by rw [ByteArray.size_append]; omega), chI_app_l (by decide), Nat.add_zero, c]
          rfl
        · rcases Nat.lt_or_ge i (oneE s j - j - 1) with hi2 | hi2
          · rw [chI_app_l (by rw [ByteArray.size_append, hs1, hs2]; omega), chI_app_r (a := q1) (i := i - 1) (by rw [hs1]; omega), chI_ext (by omega) (by omega)]
            congr 1
            omega
          · rw [chI_app_r (i := 0) (by rw [ByteArray.size_append, hs1, hs2]; omega), show j + i = run quoC s (j + 1) by omega, hq]
            rfl
      have hx := hA.ext
      have hsz : (q1 ++ s.extract (j + 1) (oneE s j - 1) ++ q1).size = oneE s j - j := by
        rw [ByteArray.size_append, ByteArray.size_append, ext_size (by omega)]
        have hs1 : q1.size = 1 := rfl
        omega
      rw [hsz, show j + (oneE s j - j) = oneE s j by omega] at hx
      exact hx
    · have hs : spell (oneK s j : Int) (ttext (oneK s j) s j (oneE s j)) = ttext (oneK s j) s j (oneE s j) := if_neg (by omega)
      rw [hs]
      unfold ttext
      rw [if_neg h3]
set_option maxRecDepth 100000 in
set_option maxHeartbeats 2000000 in
/-- stands, where the token does stand -/
theorem stands_c (K L C : Int) (X s : ByteArray) (i e : Nat) (w : World) (hs : s.size ≤ 1000000) (hX : X.size ≤ 1000000) (hi : i ≤ e) (he : e ≤ s.size) (hx : s.extract i e = spell K X) :
    Calls Try.prog 30 #[.agg #[.int .i64 K, .string X, .int .i64 L, .int .i64 C], .string s, .int .i64 i] w fun e w' => e = .returned (.bool true) ∧ Below w.heap.size w w' := by
  have hz : (spell K X).size = e - i := by rw [← hx, ext_size he]
  have hbl := (Below.refl w.heap.size w).alloc (Nat.le_refl _) (.cells #[.int .i64 K, .string X, .int .i64 L, .int .i64 C] 34)
  by_cases h3 : K = 3
  · subst h3
    have hsp : spell 3 X = ⟨#[34]⟩ ++ X ++ ⟨#[34]⟩ := rfl
    rw [hsp] at hx hz
    have hsz : (⟨#[34]⟩ ++ X ++ ⟨#[34]⟩ : ByteArray).size = 1 + X.size + 1 := by rw [ByteArray.size_append, ByteArray.size_append]; rfl
    rw [hsz] at hz
    have n1 : ¬ 9223372036854775807 < 1 + X.size := by omega
    have n2 : ¬ 9223372036854775807 < 1 + X.size + 1 := by omega
    have c1 : (1 : Int) + (X.size : Int) + 1 ≤ (s.size : Int) - (i : Int) := by omega
    have hx2 : s.extract i (i + (1 + X.size + 1)) = ⟨#[34]⟩ ++ X ++ ⟨#[34]⟩ := by rw [hz, show i + (e - i) = e by omega]; exact hx
    clear hx hz hsp hsz
    go_enter Try.func30, Try.ntmps30
    go_wp2
    go_ret
    exact ⟨rfl, hbl⟩
  · have hsp : spell K X = X := if_neg h3
    have h3' : (K == 3) = false := by simpa using h3
    rw [hsp] at hx hz
    have c1 : (X.size : Int) ≤ (s.size : Int) - (i : Int) := by omega
    have hx2 : s.extract i (i + X.size) = X := by rw [hz, show i + (e - i) = e by omega]; exact hx
    clear hx hsp hz
    go_enter Try.func30, Try.ntmps30
    go_wp2
    go_ret
    exact ⟨rfl, hbl⟩
/-- where the tokens of a source stand -/
def Trail (s : ByteArray) : Nat → List Nat → Prop
  | _, [] => False
  | i, j :: r => i ≤ j ∧ j ≤ s.size ∧ oneC s j = 0 ∧ ((r = [] ∧ j = s.size ∧ oneK s j = 0) ∨ (r ≠ [] ∧ oneK s j ≠ 0 ∧ Trail s (oneE s j) r))
theorem scF_trail {s : ByteArray} : ∀ n i acc, i ≤ s.size → s.size < i + n → (scF s n i acc).1 = none → ∃ js, (scF s n i acc).2 = acc ++ js.map (tkAt s) ∧ Trail s i js
  | 0, i, acc, hi, hn, _ => by omega
  | n + 1, i, acc, hi, hn, h => by
    have hj := sk_le hi
    by_cases hc : oneC s (sk s i) = 0
    · by_cases hk : oneK s (sk s i) = 0
      · rw [scF_end hc hk]
        refine ⟨[sk s i], rfl, hj.1, hj.2, hc, .inl ⟨rfl, ?_, hk⟩⟩
        have c := oneK_0 hk
        rcases Nat.lt_or_ge (sk s i) s.size with h1 | h1
        · rw [chI_lt h1] at c; omega
        · omega
      · have hE := oneE_lt hc hk
        rw [scF_go hc hk] at h ⊢
        obtain ⟨js, h1, h2⟩ := scF_trail n (oneE s (sk s i)) _ hE.2 (by omega) h
        refine ⟨sk s i :: js, by rw [h1]; simp, hj.1, hj.2, hc, .inr ⟨?_, hk, h2⟩⟩
        rintro rfl
        exact h2
    · rw [scF_bad hc] at h
      cases h
theorem scF_some {s : ByteArray} {c : Int} {f : Nat} : ∀ n i acc, (scF s n i acc).1 = some (c, f) → c ≠ 0 ∧ (scF s n i acc).2 = []
  | 0, i, acc, h => by simp [scF] at h
  | n + 1, i, acc, h => by
    by_cases hc : oneC s (sk s i) = 0
    · by_cases hk : oneK s (sk s i) = 0
      · rw [scF_end hc hk] at h; cases h
      · rw [scF_go hc hk] at h ⊢
        exact scF_some n _ _ h
    · rw [scF_bad hc] at h ⊢
      simp only [Option.some.injEq, Prod.mk.injEq] at h
      exact ⟨by rw [← h.1]; exact hc, rfl⟩
/-- by index -/
theorem trail_at {s : ByteArray} : ∀ (js : List Nat) (i : Nat), Trail s i js → (∀ k (h : k < js.length), js[k] ≤ s.size ∧ oneC s js[k] = 0 ∧ ((oneK s js[k] = 0) ↔ k + 1 = js.length) ∧ (k + 1 = js.length → js[k] = s.size)) ∧
    (∀ k (h : k + 1 < js.length), oneE s js[k] ≤ js[k + 1]) ∧ (∀ h : 0 < js.length, i ≤ js[0]) ∧ 0 < js.length
  | [], i, h => h.elim
  | j :: r, i, h => by
    obtain ⟨h1, h2, h3, h4⟩ := h
    rcases h4 with ⟨rfl, h5, h6⟩ | ⟨h5, h6, h7⟩
    · refine ⟨fun k hk => ?_, fun k hk => absurd hk (by simp), fun _ => h1, by simp⟩
      obtain rfl : k = 0 := by simp at hk; omega
      exact ⟨h2, h3, ⟨fun _ => rfl, fun _ => h6⟩, fun _ => h5⟩
    · obtain ⟨i1, i2, i3, i4⟩ := trail_at r _ h7
      refine ⟨fun k hk => ?_, fun k hk => ?_, fun _ => h1, by simp⟩
      · cases k with
        | zero =>
          have hrl : 0 < r.length := List.length_pos_iff.2 h5
          exact ⟨h2, h3, ⟨fun e => absurd e h6, fun e => by simp only [List.length_cons] at e; omega⟩, fun e => by simp only [List.length_cons] at e; omega⟩
        | succ k =>
          have := i1 k (by simpa using hk)
          simpa using this
      · cases k with
        | zero => exact i3 i4
        | succ k => exact i2 k (by simpa using hk)
end Go.Proofs.Ythjfedkginjbeaa
