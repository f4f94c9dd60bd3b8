/- Levels: their texts, and how they are read (plain mathematics). -/
import Derived.Test.YthjebccidcichaaLvn
import Derived.Lib.Bytealg
namespace Go.Proofs.Ythjebccidcichaa
open Go.RowKit
abbrev Bs := List UInt8
abbrev SpB := Bs × Bs
abbrev LvB := Bs × List SpB
def mk (l : Bs) : ByteArray := ⟨l.toArray⟩
theorem mk_list (l : Bs) : (mk l).data.toList = l := rfl
theorem list_mk (s : ByteArray) : mk s.data.toList = s := Go.Lib.mk_data s
theorem mk_size (l : Bs) : (mk l).size = l.length := rfl
theorem mk_inj {a b : Bs} (h : mk a = mk b) : a = b := by have := congrArg (fun s : ByteArray => s.data.toList) h; exact this
theorem mk_app (a b : Bs) : mk a ++ mk b = mk (a ++ b) := by
  apply ByteArray.ext
  simp [mk]
def mkS (x : SpB) : Sp := (mk x.1, mk x.2)
def wd (c : UInt8) : Bool := wdB (c.toNat : Int)
def nm (l : Bs) : Bool := !l.isEmpty && l.all wd
theorem nm_iff {l : Bs} : nm l = true ↔ l ≠ [] ∧ ∀ c ∈ l, wd c = true := by
  unfold nm
  cases l <;> simp
theorem byI_list (s : ByteArray) (i : Nat) : wdB (byI s i) = wd (s.data.toList.getD i 0) := rfl
theorem nameS_nm (s : ByteArray) : nameS s = nm s.data.toList := by
  rw [Bool.eq_iff_iff, nm_iff]
  unfold nameS
  rw [decide_eq_true_eq, Go.Lib.size_eq]
  constructor
  · rintro ⟨h0, h⟩
    refine ⟨fun he => by rw [he] at h0; exact absurd h0 (by simp), fun c hc => ?_⟩
    obtain ⟨i, hi, rfl⟩ := List.mem_iff_getElem.1 hc
    have := h i hi
    rw [byI_list, List.getD_eq_getElem?_getD, List.getElem?_eq_getElem hi] at this
    exact this
  · rintro ⟨h0, h⟩
    refine ⟨List.length_pos_iff.2 h0, fun i hi => ?_⟩
    rw [byI_list, List.getD_eq_getElem?_getD, List.getElem?_eq_getElem hi]
    exact h _ (List.getElem_mem hi)
theorem nameS_mk (l : Bs) : nameS (mk l) = nm l := by rw [nameS_nm, mk_list]
theorem nm_ne {l : Bs} {c : UInt8} (h : nm l = true) (hc : wd c = false) : c ∉ l := fun hm => by
  rw [(nm_iff.1 h).2 c hm] at hc; cases hc
/-- strings.Cut at one byte -/
def cutL (c : UInt8) : Bs → Bs × Bs × Bool
  | [] => ([], [], false)
  | x :: l => if x = c then ([], l, true) else (x :: (cutL c l).1, (cutL c l).2.1, (cutL c l).2.2)
theorem cut_no {c : UInt8} : ∀ {l : Bs}, c ∉ l → cutL c l = (l, [], false)
  | [], _ => rfl
  | x :: l, h => by
    have h1 : ¬ x = c := fun e => h (by rw [e]; exact List.mem_cons_self ..)
    unfold cutL
    rw [if_neg h1, cut_no fun hm => h (List.mem_cons_of_mem _ hm)]
theorem cut_at {c : UInt8} {b : Bs} : ∀ {a : Bs}, c ∉ a → cutL c (a ++ c :: b) = (a, b, true)
  | [], _ => by show cutL c (c :: b) = _; unfold cutL; rw [if_pos rfl]
  | x :: a, h => by
    have h1 : ¬ x = c := fun e => h (by rw [e]; exact List.mem_cons_self ..)
    show cutL c (x :: (a ++ c :: b)) = _
    unfold cutL
    rw [if_neg h1, cut_at fun hm => h (List.mem_cons_of_mem _ hm)]
theorem cut_is (c : UInt8) : ∀ l : Bs, ((cutL c l).2.2 = true ∧ l = (cutL c l).1 ++ c :: (cutL c l).2.1 ∧ c ∉ (cutL c l).1) ∨ ((cutL c l).2.2 = false ∧ cutL c l = (l, [], false) ∧ c ∉ l)
  | [] => .inr ⟨rfl, rfl, by simp⟩
  | x :: l => by
    by_cases h : x = c
    · subst h
      refine .inl ?_
      unfold cutL
      rw [if_pos rfl]
      exact ⟨rfl, rfl, by simp⟩
    · unfold cutL
      rw [if_neg h]
      rcases cut_is c l with ⟨h1, h2, h3⟩ | ⟨h1, h2, h3⟩
      · refine .inl ⟨h1, ?_, ?_⟩
        · show x :: l = x :: ((cutL c l).1 ++ c :: (cutL c l).2.1)
          rw [← h2]
        · intro hm
          rcases List.mem_cons.1 hm with e | hm
          · exact h e.symm
          · exact h3 hm
      · refine .inr ⟨h1, by rw [h2], ?_⟩
        intro hm
        rcases List.mem_cons.1 hm with e | hm
        · exact h e.symm
        · exact h3 hm
theorem cut_len {c : UInt8} {l : Bs} (h : (cutL c l).2.2 = true) : (cutL c l).2.1.length < l.length := by
  rcases cut_is c l with ⟨_, h2, _⟩ | ⟨h1, _⟩
  · have := congrArg List.length h2
    rw [List.length_append, List.length_cons] at this
    omega
  · rw [h1] at h; cases h
theorem cut_le (c : UInt8) (l : Bs) : (cutL c l).1.length ≤ l.length ∧ (cutL c l).2.1.length ≤ l.length := by
  rcases cut_is c l with ⟨_, h2, _⟩ | ⟨h1, h2, _⟩
  · have := congrArg List.length h2
    rw [List.length_append, List.length_cons] at this
    omega
  · rw [h2]; simp
theorem index_cut (c : UInt8) : ∀ l : Bs, (Go.Lib.indexByte l c = -1 ∧ cutL c l = (l, [], false)) ∨ ∃ i : Nat, Go.Lib.indexByte l c = i ∧ i < l.length ∧ cutL c l = (l.take i, l.drop (i + 1), true)
  | [] => .inl ⟨rfl, rfl⟩
  | x :: l => by
    unfold Go.Lib.indexByte cutL
    by_cases h : x = c
    · subst h
      refine .inr ⟨0, by simp, by simp, by simp⟩
    · have hb : (x == c) = false := by simpa using h
      rw [hb, if_neg h]
      rcases index_cut c l with ⟨h1, h2⟩ | ⟨i, h1, h3, h2⟩
      · refine .inl ⟨by rw [h1]; rfl, by rw [h2]⟩
      · refine .inr ⟨i + 1, ?_, by simp; omega, by rw [h2]; simp⟩
        rw [h1]
        have : ((i : Int) == -1) = false := by simp
        simp [this]
/-! the texts -/
def spR (x : SpB) : Bs := x.1 ++ (if x.2 = [] then [] else 46 :: x.2)
def lsR : List SpB → Bs
  | [] => []
  | x :: l => spR x ++ (if l = [] then [] else 44 :: lsR l)
def levR (l : LvB) : Bs := l.1 ++ (if l.2 = [] then [] else 58 :: lsR l.2)
def rngR (r : LvB × LvB) : Bs := levR r.1 ++ (if r.2.1 = [] then [] else 45 :: levR r.2)
def spW (x : SpB) : Prop := nm x.1 = true ∧ (x.2 = [] ∨ nm x.2 = true)
def levW (l : LvB) : Prop := nm l.1 = true ∧ ∀ x ∈ l.2, spW x
def rngW (r : LvB × LvB) : Prop := levW r.1 ∧ (r.2 = ([], []) ∨ levW r.2)
theorem wd_marks : wd 46 = false ∧ wd 44 = false ∧ wd 58 = false ∧ wd 45 = false := by decide
theorem nm_nil : nm [] = false := rfl
/-- bytes of words, points and commas -/
theorem spR_no {x : SpB} (h : spW x) {c : UInt8} (hc : wd c = false) (h46 : c ≠ 46) : c ∉ spR x := by
  obtain ⟨h1, h2⟩ := h
  unfold spR
  intro hm
  rcases List.mem_append.1 hm with hm | hm
  · exact nm_ne h1 hc hm
  · split at hm
    · cases hm
    · rcases List.mem_cons.1 hm with rfl | hm
      · exact h46 rfl
      · rcases h2 with h2 | h2
        · rw [h2] at hm; cases hm
        · exact nm_ne h2 hc hm
theorem lsR_no {c : UInt8} (hc : wd c = false) (h46 : c ≠ 46) (h44 : c ≠ 44) : ∀ {l : List SpB}, (∀ x ∈ l, spW x) → c ∉ lsR l
  | [], _ => by simp [lsR]
  | x :: l, h => by
    unfold lsR
    intro hm
    rcases List.mem_append.1 hm with hm | hm
    · exact spR_no (h x (List.mem_cons_self ..)) hc h46 hm
    · split at hm
      · cases hm
      · rcases List.mem_cons.1 hm with rfl | hm
        · exact h44 rfl
        · exact lsR_no hc h46 h44 (fun y hy => h y (List.mem_cons_of_mem _ hy)) hm
theorem levR_no {l : LvB} (h : levW l) {c : UInt8} (hc : wd c = false) (h46 : c ≠ 46) (h44 : c ≠ 44) (h58 : c ≠ 58) : c ∉ levR l := by
  unfold levR
  intro hm
  rcases List.mem_append.1 hm with hm | hm
  · exact nm_ne h.1 hc hm
  · split at hm
    · cases hm
    · rcases List.mem_cons.1 hm with rfl | hm
      · exact h58 rfl
      · exact lsR_no hc h46 h44 h.2 hm
/-! the program reads -/
def rdSp (s : Bs) : Option SpB :=
  if nm (cutL 46 s).1 = true ∧ ((cutL 46 s).2.2 = false ∨ nm (cutL 46 s).2.1 = true) then some ((cutL 46 s).1, (cutL 46 s).2.1) else none
theorem rdSp_iff {s : Bs} {x : SpB} : rdSp s = some x ↔ s = spR x ∧ spW x := by
  unfold rdSp
  constructor
  · intro h
    split at h
    · rename_i hh
      obtain ⟨h1, h2⟩ := hh
      obtain rfl := Option.some.inj h
      rcases cut_is 46 s with ⟨e1, e2, e3⟩ | ⟨e1, e2, e3⟩
      · have h3 : nm (cutL 46 s).2.1 = true := by
          rcases h2 with h2 | h2
          · rw [e1] at h2; cases h2
          · exact h2
        have h4 : (cutL 46 s).2.1 ≠ [] := (nm_iff.1 h3).1
        refine ⟨?_, h1, .inr h3⟩
        unfold spR
        rw [if_neg h4]
        exact e2
      · rw [e2] at h1 ⊢
        refine ⟨?_, h1, .inl rfl⟩
        unfold spR
        rw [if_pos rfl, List.append_nil]
    · cases h
  · rintro ⟨rfl, h1, h2⟩
    have h3 : (46 : UInt8) ∉ x.1 := nm_ne h1 wd_marks.1
    unfold spR
    split
    · rename_i h4
      rw [List.append_nil, cut_no h3]
      rw [if_pos ⟨h1, .inl rfl⟩]
      exact congrArg some (Prod.ext rfl h4.symm)
    · rename_i h4
      rw [cut_at h3]
      rw [if_pos ⟨h1, .inr (h2.resolve_left h4)⟩]
def rdLs (s : Bs) : Option (List SpB) :=
  match rdSp (cutL 44 s).1 with
  | none => none
  | some x => if _h : (cutL 44 s).2.2 = true then (rdLs (cutL 44 s).2.1).map (x :: ·) else some [x]
termination_by s.length
decreasing_by exact cut_len _h
theorem rdLs_bad {s : Bs} (h : rdSp (cutL 44 s).1 = none) : rdLs s = none := by
  rw [rdLs, h]
theorem rdLs_last {s : Bs} {x : SpB} (h : rdSp (cutL 44 s).1 = some x) (hm : (cutL 44 s).2.2 = false) : rdLs s = some [x] := by
  rw [rdLs, h]
  simp [hm]
theorem rdLs_more {s : Bs} {x : SpB} (h : rdSp (cutL 44 s).1 = some x) (hm : (cutL 44 s).2.2 = true) : rdLs s = (rdLs (cutL 44 s).2.1).map (x :: ·) := by
  rw [rdLs, h]
  simp [hm]
theorem rdLs_iff : ∀ (n : Nat) {s : Bs} (_ : s.length ≤ n) {L : List SpB}, rdLs s = some L ↔ L ≠ [] ∧ s = lsR L ∧ ∀ x ∈ L, spW x := by
  intro n
  induction n with
  | zero =>
    intro s hs L
    obtain rfl : s = [] := List.eq_nil_of_length_eq_zero (by omega)
    have : rdLs [] = none := rdLs_bad (by rfl)
    rw [this]
    constructor
    · intro h; cases h
    · rintro ⟨h1, h2, h3⟩
      exfalso
      cases L with
      | nil => exact h1 rfl
      | cons x l =>
        have h4 := (nm_iff.1 (h3 x (List.mem_cons_self ..)).1).1
        unfold lsR spR at h2
        have := congrArg List.length h2
        have h5 : 0 < x.1.length := List.length_pos_iff.2 h4
        rw [List.length_append, List.length_append, List.length_nil] at this
        omega
  | succ n ih =>
    intro s hs L
    rcases cut_is 44 s with ⟨e1, e2, e3⟩ | ⟨e1, e2, e3⟩
    · have hl := cut_len e1
      constructor
      · intro h
        cases hx : rdSp (cutL 44 s).1 with
        | none => rw [rdLs_bad hx] at h; cases h
        | some x =>
          rw [rdLs_more hx e1] at h
          obtain ⟨M, hM, rfl⟩ := Option.map_eq_some_iff.1 h
          obtain ⟨g1, g2, g3⟩ := (ih (by omega)).1 hM
          obtain ⟨x1, x2⟩ := rdSp_iff.1 hx
          refine ⟨by simp, ?_, ?_⟩
          · unfold lsR
            rw [if_neg g1, ← g2, ← x1]
            exact e2
          · intro y hy
            rcases List.mem_cons.1 hy with rfl | hy
            · exact x2
            · exact g3 y hy
      · rintro ⟨h1, h2, h3⟩
        cases L with
        | nil => exact absurd rfl h1
        | cons x l =>
          have hx := h3 x (List.mem_cons_self ..)
          have hno : (44 : UInt8) ∉ spR x := spR_no hx wd_marks.2.1 (by decide)
          unfold lsR at h2
          by_cases hl0 : l = []
          · rw [if_pos hl0, List.append_nil] at h2
            exfalso
            rw [h2, cut_no hno] at e1
            cases e1
          · rw [if_neg hl0] at h2
            have hc := cut_at (b := lsR l) hno
            rw [← h2] at hc
            have h4 : rdSp (cutL 44 s).1 = some x := by rw [hc]; exact rdSp_iff.2 ⟨rfl, hx⟩
            rw [rdLs_more h4 e1]
            have h5 : rdLs (cutL 44 s).2.1 = some l := (ih (by omega)).2 ⟨hl0, by rw [hc], fun y hy => h3 y (List.mem_cons_of_mem _ hy)⟩
            rw [h5]
            rfl
    · have hc1 : (cutL 44 s).1 = s := by rw [e2]
      constructor
      · intro h
        cases hx : rdSp (cutL 44 s).1 with
        | none => rw [rdLs_bad hx] at h; cases h
        | some x =>
          rw [rdLs_last hx e1] at h
          obtain rfl := Option.some.inj h
          rw [hc1] at hx
          obtain ⟨x1, x2⟩ := rdSp_iff.1 hx
          refine ⟨by simp, by simp [lsR]; exact x1, ?_⟩
          intro y hy
          obtain rfl : y = x := by simpa using hy
          exact x2
      · rintro ⟨h1, h2, h3⟩
        cases L with
        | nil => exact absurd rfl h1
        | cons x l =>
          have hx := h3 x (List.mem_cons_self ..)
          unfold lsR at h2
          by_cases hl0 : l = []
          · subst hl0
            rw [if_pos rfl, List.append_nil] at h2
            exact rdLs_last (by rw [hc1]; exact rdSp_iff.2 ⟨h2, hx⟩) e1
          · rw [if_neg hl0] at h2
            exfalso
            apply e3
            rw [h2]
            simp
def rdLv (s : Bs) : Option LvB :=
  if nm (cutL 58 s).1 = true then (if (cutL 58 s).2.2 = true then (rdLs (cutL 58 s).2.1).map fun L => ((cutL 58 s).1, L) else some ((cutL 58 s).1, [])) else none
theorem rdLv_iff {s : Bs} {l : LvB} : rdLv s = some l ↔ s = levR l ∧ levW l := by
  unfold rdLv
  constructor
  · intro h
    split at h
    · rename_i h1
      rcases cut_is 58 s with ⟨e1, e2, e3⟩ | ⟨e1, e2, e3⟩
      · rw [if_pos e1] at h
        obtain ⟨L, hL, rfl⟩ := Option.map_eq_some_iff.1 h
        obtain ⟨g1, g2, g3⟩ := (rdLs_iff _ (Nat.le_refl _)).1 hL
        refine ⟨?_, h1, g3⟩
        unfold levR
        rw [if_neg g1, ← g2]
        exact e2
      · rw [if_neg (by rw [e1]; decide)] at h
        obtain rfl := Option.some.inj h
        refine ⟨?_, h1, by simp⟩
        unfold levR
        rw [if_pos rfl, e2, List.append_nil]
    · cases h
  · rintro ⟨rfl, h1, h2⟩
    have h3 : (58 : UInt8) ∉ l.1 := nm_ne h1 wd_marks.2.2.1
    obtain ⟨n, L⟩ := l
    unfold levR
    by_cases hL : L = []
    · subst hL
      rw [if_pos rfl, List.append_nil, cut_no h3]
      rw [if_pos h1, if_neg (by simp)]
    · rw [if_neg hL, cut_at h3]
      rw [if_pos h1, if_pos rfl]
      rw [(rdLs_iff _ (Nat.le_refl _)).2 ⟨hL, rfl, h2⟩]
      rfl
def rdRg (s : Bs) : Option (LvB × LvB) :=
  match rdLv (cutL 45 s).1 with
  | none => none
  | some lo => if (cutL 45 s).2.2 = true then (rdLv (cutL 45 s).2.1).map fun hi => (lo, hi) else some (lo, ([], []))
theorem rdRg_iff {s : Bs} {r : LvB × LvB} : rdRg s = some r ↔ s = rngR r ∧ rngW r := by
  unfold rdRg
  constructor
  · intro h
    split at h
    · cases h
    · rename_i lo hlo
      obtain ⟨a1, a2⟩ := rdLv_iff.1 hlo
      rcases cut_is 45 s with ⟨e1, e2, e3⟩ | ⟨e1, e2, e3⟩
      · rw [if_pos e1] at h
        obtain ⟨hi, hhi, rfl⟩ := Option.map_eq_some_iff.1 h
        obtain ⟨b1, b2⟩ := rdLv_iff.1 hhi
        refine ⟨?_, a2, .inr b2⟩
        unfold rngR
        rw [if_neg (nm_iff.1 b2.1).1, ← b1, ← a1]
        exact e2
      · rw [if_neg (by rw [e1]; decide)] at h
        obtain rfl := Option.some.inj h
        refine ⟨?_, a2, .inl rfl⟩
        unfold rngR
        rw [if_pos rfl, ← a1, e2, List.append_nil]
  · rintro ⟨rfl, h1, h2⟩
    obtain ⟨lo, hi⟩ := r
    have h3 : (45 : UInt8) ∉ levR lo := levR_no h1 wd_marks.2.2.2 (by decide) (by decide) (by decide)
    unfold rngR
    rcases h2 with h2 | h2
    · have h2' : hi = ([], []) := h2
      subst h2'
      rw [if_pos rfl, List.append_nil, cut_no h3]
      rw [rdLv_iff.2 ⟨rfl, h1⟩]
      rfl
    · rw [if_neg (nm_iff.1 h2.1).1, cut_at h3]
      simp only
      rw [rdLv_iff.2 ⟨rfl, h1⟩]
      simp only [if_true]
      rw [rdLv_iff.2 ⟨rfl, h2⟩]
      rfl
/-! the reference reads -/
theorem span_take (l : Bs) : l = l.takeWhile wd ++ l.dropWhile wd := (List.takeWhile_append_dropWhile).symm
theorem drop_len (l : Bs) : (l.dropWhile wd).length ≤ l.length := by
  have := congrArg List.length (span_take l)
  rw [List.length_append] at this
  omega
theorem take_nm {l : Bs} (h : l.takeWhile wd ≠ []) : nm (l.takeWhile wd) = true := nm_iff.2 ⟨h, fun c hc => by
  have : ∀ l : Bs, ∀ c ∈ l.takeWhile wd, wd c = true := by
    intro l
    induction l with
    | nil => intro c hc; cases hc
    | cons x l ih =>
      intro c hc
      rw [List.takeWhile_cons] at hc
      split at hc
      · rcases List.mem_cons.1 hc with rfl | hc
        · assumption
        · exact ih c hc
      · cases hc
  exact this l c hc⟩
theorem drop_app {a b : Bs} (ha : nm a = true) (hb : ∀ c, b.head? = some c → wd c = false) : (a ++ b).takeWhile wd = a ∧ (a ++ b).dropWhile wd = b := by
  have hA := (nm_iff.1 ha).2
  constructor
  · rw [List.takeWhile_append_of_pos hA]
    cases b with
    | nil => simp
    | cons x b => rw [List.takeWhile_cons, hb x rfl]; simp
  · rw [List.dropWhile_append_of_pos hA]
    cases b with
    | nil => rfl
    | cons x b => rw [List.dropWhile_cons, hb x rfl]; rfl
def mkOf (first : Bool) : UInt8 := if first = true then 58 else 44
/-- one span, and what stands behind it -/
def rfSp (s : Bs) : Option (SpB × Bs) :=
  if s.takeWhile wd = [] then none else match s.dropWhile wd with
    | 46 :: r => if r.takeWhile wd = [] then none else some ((s.takeWhile wd, r.takeWhile wd), r.dropWhile wd)
    | r => some ((s.takeWhile wd, []), r)
theorem rfSp_len {s : Bs} {x : SpB} {r : Bs} (h : rfSp s = some (x, r)) : r.length ≤ s.length := by
  have h1 := drop_len s
  unfold rfSp at h
  split at h
  · cases h
  · split at h
    · rename_i r' he
      split at h
      · cases h
      · obtain ⟨_, rfl⟩ := Prod.mk.inj (Option.some.inj h)
        have := drop_len r'
        rw [he, List.length_cons] at h1
        omega
    · obtain ⟨_, rfl⟩ := Prod.mk.inj (Option.some.inj h)
      exact h1
theorem rfSp_sound {s : Bs} {x : SpB} {r : Bs} (h : rfSp s = some (x, r)) : s = spR x ++ r ∧ spW x := by
  have h1 := span_take s
  unfold rfSp at h
  split at h
  · cases h
  · rename_i hn
    split at h
    · rename_i r' he
      split at h
      · cases h
      · rename_i hn2
        obtain ⟨rfl, rfl⟩ := Prod.mk.inj (Option.some.inj h)
        refine ⟨?_, take_nm hn, .inr (take_nm hn2)⟩
        unfold spR
        rw [if_neg hn2, List.append_assoc, List.cons_append, ← span_take r', ← he]
        exact h1
    · obtain ⟨rfl, rfl⟩ := Prod.mk.inj (Option.some.inj h)
      refine ⟨?_, take_nm hn, .inl rfl⟩
      unfold spR
      rw [if_pos rfl, List.append_nil]
      exact h1
theorem rfSp_full {x : SpB} {r : Bs} (hx : spW x) (hr : ∀ c, r.head? = some c → wd c = false ∧ c ≠ 46) : rfSp (spR x ++ r) = some (x, r) := by
  obtain ⟨n, t⟩ := x
  obtain ⟨h1, h2⟩ := hx
  unfold rfSp spR
  by_cases ht : t = []
  · subst ht
    obtain ⟨d1, d2⟩ := drop_app (b := r) h1 (fun c hc => (hr c hc).1)
    simp only [if_pos, List.append_nil]
    rw [d1, d2, if_neg (nm_iff.1 h1).1]
    split
    · rename_i r' 
      exact absurd rfl (hr 46 rfl).2
    · rfl
  · have h3 := h2.resolve_left ht
    simp only [if_neg ht, List.append_assoc, List.cons_append]
    obtain ⟨d1, d2⟩ := drop_app (b := 46 :: (t ++ r)) h1 (fun c hc => by obtain rfl := Option.some.inj hc; exact wd_marks.1)
    obtain ⟨d3, d4⟩ := drop_app (b := r) h3 (fun c hc => (hr c hc).1)
    rw [d1, d2, if_neg (nm_iff.1 h1).1]
    simp only
    rw [d3, d4, if_neg (nm_iff.1 h3).1]
def rfLs (first : Bool) (s : Bs) : Option (List SpB × Bs) :=
  match s with
  | [] => some ([], [])
  | c :: s' => if c = mkOf first then (match _h : rfSp s' with
      | none => none
      | some (x, r) => (rfLs false r).map fun p => (x :: p.1, p.2)) else some ([], c :: s')
termination_by s.length
decreasing_by
  have := rfSp_len _h
  simp only [List.length_cons]
  omega
theorem rfLs_end {first : Bool} {s : Bs} (h : s.head? ≠ some (mkOf first)) : rfLs first s = some ([], s) := by
  rw [rfLs.eq_def]
  cases s with
  | nil => rfl
  | cons c s => exact if_neg fun e => h (by rw [e]; rfl)
theorem rfLs_bad {first : Bool} {s : Bs} (h : rfSp s = none) : rfLs first (mkOf first :: s) = none := by
  rw [rfLs.eq_def]
  simp only [if_true]
  split
  · rfl
  · rename_i x r he; rw [h] at he; cases he
theorem rfLs_go {first : Bool} {s r : Bs} {x : SpB} (h : rfSp s = some (x, r)) : rfLs first (mkOf first :: s) = (rfLs false r).map fun p => (x :: p.1, p.2) := by
  rw [rfLs.eq_def]
  simp only [if_true]
  split
  · rename_i he; rw [h] at he; cases he
  · rename_i x' r' he
    rw [h] at he
    obtain ⟨rfl, rfl⟩ := Prod.mk.inj (Option.some.inj he)
    rfl
theorem rfLs_sound : ∀ (n : Nat) (first : Bool) {s : Bs} (_ : s.length ≤ n) {L : List SpB} {r : Bs}, rfLs first s = some (L, r) → s = (if L = [] then [] else mkOf first :: lsR L) ++ r ∧ ∀ x ∈ L, spW x := by
  intro n
  induction n with
  | zero =>
    intro first s hs L r h
    obtain rfl : s = [] := List.eq_nil_of_length_eq_zero (by omega)
    rw [rfLs_end (by simp)] at h
    obtain ⟨rfl, rfl⟩ := Prod.mk.inj (Option.some.inj h)
    exact ⟨rfl, by simp⟩
  | succ n ih =>
    intro first s hs L r h
    by_cases hh : s.head? = some (mkOf first)
    · cases s with
      | nil => cases hh
      | cons c s =>
        obtain rfl := Option.some.inj hh
        cases hx : rfSp s with
        | none => rw [rfLs_bad hx] at h; cases h
        | some y =>
          obtain ⟨x, r2⟩ := y
          rw [rfLs_go hx] at h
          obtain ⟨⟨M, r3⟩, hM, he⟩ := Option.map_eq_some_iff.1 h
          obtain ⟨rfl, rfl⟩ := Prod.mk.inj he
          have hl := rfSp_len hx
          simp only [List.length_cons] at hs
          obtain ⟨g1, g2⟩ := ih false (by omega) hM
          obtain ⟨x1, x2⟩ := rfSp_sound hx
          refine ⟨?_, ?_⟩
          · simp only [reduceCtorEq, if_false]
            rw [x1]
            conv => lhs; rw [g1]
            by_cases hM0 : M = []
            · subst hM0; simp [lsR]
            · rw [if_neg hM0, lsR, if_neg hM0]; simp [mkOf]
          · intro y hy
            rcases List.mem_cons.1 hy with rfl | hy
            · exact x2
            · exact g2 y hy
    · rw [rfLs_end hh] at h
      obtain ⟨rfl, rfl⟩ := Prod.mk.inj (Option.some.inj h)
      exact ⟨rfl, by simp⟩
theorem rfLs_full {r : Bs} (hr : ∀ c, r.head? = some c → wd c = false ∧ c ≠ 46 ∧ c ≠ 44 ∧ c ≠ 58) : ∀ (L : List SpB) (first : Bool), (∀ x ∈ L, spW x) → rfLs first ((if L = [] then [] else mkOf first :: lsR L) ++ r) = some (L, r)
  | [], first, _ => by
    simp only [if_true, List.nil_append]
    refine rfLs_end fun h => ?_
    obtain ⟨_, _, h44, h58⟩ := hr _ h
    cases first
    · exact h44 rfl
    · exact h58 rfl
  | x :: L, first, h => by
    simp only [reduceCtorEq, if_false, List.cons_append]
    have hx := h x (List.mem_cons_self ..)
    have h2 : rfSp (lsR (x :: L) ++ r) = some (x, (if L = [] then [] else 44 :: lsR L) ++ r) := by
      rw [lsR, List.append_assoc]
      refine rfSp_full hx fun c hc => ?_
      by_cases hL : L = []
      · rw [if_pos hL] at hc
        exact ⟨(hr c hc).1, (hr c hc).2.1⟩
      · rw [if_neg hL] at hc
        obtain rfl := Option.some.inj hc
        exact ⟨wd_marks.2.1, by decide⟩
    rw [rfLs_go h2]
    have h3 := rfLs_full hr L false (fun y hy => h y (List.mem_cons_of_mem _ hy))
    rw [show (mkOf false) = 44 from rfl] at h3
    rw [h3]
    rfl
def rfLv (s : Bs) : Option (LvB × Bs) := if s.takeWhile wd = [] then none else (rfLs true (s.dropWhile wd)).map fun p => ((s.takeWhile wd, p.1), p.2)
theorem rfLv_sound {s : Bs} {l : LvB} {r : Bs} (h : rfLv s = some (l, r)) : s = levR l ++ r ∧ levW l := by
  unfold rfLv at h
  split at h
  · cases h
  · rename_i hn
    obtain ⟨⟨L, r2⟩, hL, he⟩ := Option.map_eq_some_iff.1 h
    obtain ⟨rfl, rfl⟩ := Prod.mk.inj he
    obtain ⟨g1, g2⟩ := rfLs_sound _ true (Nat.le_refl _) hL
    refine ⟨?_, take_nm hn, g2⟩
    unfold levR
    rw [List.append_assoc]
    conv => lhs; rw [span_take s, g1]
    rfl
theorem rfLv_full {l : LvB} {r : Bs} (hl : levW l) (hr : ∀ c, r.head? = some c → c = 45) : rfLv (levR l ++ r) = some (l, r) := by
  obtain ⟨n, L⟩ := l
  obtain ⟨h1, h2⟩ := hl
  unfold rfLv levR
  rw [List.append_assoc]
  obtain ⟨d1, d2⟩ := drop_app (b := (if L = [] then [] else 58 :: lsR L) ++ r) h1 (fun c hc => by
    by_cases hL : L = []
    · rw [if_pos hL] at hc
      rw [hr c hc]; exact wd_marks.2.2.2
    · rw [if_neg hL] at hc
      obtain rfl := Option.some.inj hc
      exact wd_marks.2.2.1)
  simp only
  rw [d1, d2, if_neg (nm_iff.1 h1).1]
  have := rfLs_full (r := r) (fun c hc => by rw [hr c hc]; exact ⟨wd_marks.2.2.2, by decide, by decide, by decide⟩) L true h2
  rw [show mkOf true = 58 from rfl] at this
  rw [this]
  rfl
def rfRg (s : Bs) : Option (LvB × LvB) :=
  match rfLv s with
  | none => none
  | some (lo, []) => some (lo, ([], []))
  | some (lo, c :: r) => if c = 45 then (match rfLv r with
      | some (hi, []) => some (lo, hi)
      | _ => none) else none
theorem rfRg_iff {s : Bs} {r : LvB × LvB} : rfRg s = some r ↔ s = rngR r ∧ rngW r := by
  unfold rfRg
  constructor
  · intro h
    split at h
    · cases h
    · rename_i lo hlo
      obtain rfl := Option.some.inj h
      obtain ⟨a1, a2⟩ := rfLv_sound hlo
      refine ⟨?_, a2, .inl rfl⟩
      unfold rngR
      rw [if_pos rfl, a1]
    · rename_i lo c r' hlo
      split at h
      · rename_i hc
        subst hc
        split at h
        · rename_i hi hhi
          obtain rfl := Option.some.inj h
          obtain ⟨a1, a2⟩ := rfLv_sound hlo
          obtain ⟨b1, b2⟩ := rfLv_sound hhi
          refine ⟨?_, a2, .inr b2⟩
          unfold rngR
          rw [if_neg (nm_iff.1 b2.1).1, a1, b1, List.append_nil]
        · cases h
      · cases h
  · rintro ⟨rfl, h1, h2⟩
    obtain ⟨lo, hi⟩ := r
    unfold rngR
    rcases h2 with h2 | h2
    · have h2' : hi = ([], []) := h2
      subst h2'
      have := rfLv_full (r := []) h1 (by simp)
      simp only [if_true]
      rw [this]
    · have e1 := rfLv_full (r := 45 :: levR hi) h1 (fun c hc => (Option.some.inj hc).symm)
      have e2 := rfLv_full (r := []) h2 (by simp)
      rw [List.append_nil] at e2
      simp only [if_neg (nm_iff.1 h2.1).1]
      rw [e1]
      simp only [if_true]
      rw [e2]
/-- both read the same -/
theorem reads_same (s : Bs) : rfRg s = rdRg s := by
  cases h : rdRg s with
  | some r => exact rfRg_iff.2 (rdRg_iff.1 h)
  | none =>
    cases h2 : rfRg s with
    | none => rfl
    | some r => rw [rdRg_iff.2 (rfRg_iff.1 h2)] at h; cases h
end Go.Proofs.Ythjebccidcichaa
