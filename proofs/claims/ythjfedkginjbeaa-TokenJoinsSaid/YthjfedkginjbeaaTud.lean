/- Package token: lists of tokens in memory; few and first. -/
import Derived.Test.YthjfedkginjbeaaTuc
namespace Go.Proofs.Ythjfedkginjbeaa
open Go.RowKit
structure TI where
  kind : Int
  text : ByteArray
  line : Int
  col : Int
def TI.cells (t : TI) : List Value := [.int .i64 t.kind, .string t.text, .int .i64 t.line, .int .i64 t.col]
/-- from cell o of block g on lie the tokens l -/
def Row (w : World) (g o : Nat) (l : List TI) : Prop :=
  ∀ i t, l[i]? = some t → w.cell? ⟨g, o + i * 4, none⟩ = some (.int .i64 t.kind) ∧ w.cell? ⟨g, o + i * 4 + 1, none⟩ = some (.string t.text) ∧ w.cell? ⟨g, o + i * 4 + 2, none⟩ = some (.int .i64 t.line) ∧ w.cell? ⟨g, o + i * 4 + 3, none⟩ = some (.int .i64 t.col)
/-- the value is a slice of the tokens l -/
def Toks (w : World) (v : Value) (l : List TI) : Prop :=
  ∃ ao cap, v = .slice ao l.length cap ∧ l.length ≤ cap ∧ (l ≠ [] → ∃ g o, ao = some ⟨g, o, none⟩ ∧ Row w g o l)
theorem Row.lt {w : World} {g o : Nat} {l : List TI} (h : Row w g o l) (hl : l ≠ []) : g < w.heap.size := by
  obtain ⟨t, r, rfl⟩ := List.exists_cons_of_ne_nil hl
  have := (h 0 t rfl).1
  rcases Nat.lt_or_ge g w.heap.size with h' | h'
  · exact h'
  · simp [World.cell?, Array.getElem?_eq_none h'] at this
theorem Row.keep {w w' : World} {g o : Nat} {l : List TI} (h : Row w g o l) (hb : w'.heap[g]? = w.heap[g]?) : Row w' g o l := by
  intro i t ht
  have e : ∀ k, w'.cell? ⟨g, k, none⟩ = w.cell? ⟨g, k, none⟩ := fun k => World.cell?_of_block hb
  rw [e, e, e, e]
  exact h i t ht
theorem Toks.keep {w w' : World} {v : Value} {l : List TI} (h : Toks w v l) (hb : Below w.heap.size w w') : Toks w' v l := by
  obtain ⟨ao, cap, rfl, hc, hr⟩ := h
  refine ⟨ao, cap, rfl, hc, fun hl => ?_⟩
  obtain ⟨g, o, rfl, hR⟩ := hr hl
  exact ⟨g, o, rfl, hR.keep (hb.block g (hR.lt hl))⟩
theorem Toks.take {w : World} {ao : Option Addr} {n cap : Nat} {l : List TI} (h : Toks w (.slice ao n cap) l) (k : Nat) (hk : k ≤ l.length) : Toks w (.slice ao k cap) (l.take k) := by
  obtain ⟨ao', cap', hv, hc, hr⟩ := h
  cases hv
  refine ⟨ao, cap, by rw [List.length_take, Nat.min_eq_left hk], by rw [List.length_take]; omega, fun hl => ?_⟩
  have hl' : l ≠ [] := by rintro rfl; simp at hl
  obtain ⟨g, o, rfl, hR⟩ := hr hl'
  refine ⟨g, o, rfl, fun i t ht => hR i t ?_⟩
  rw [List.getElem?_take] at ht
  split at ht
  · exact ht
  · cases ht
/-- a row at an index -/
theorem Row.at {w : World} {g o : Nat} {l : List TI} (h : Row w g o l) {i : Nat} (hi : i < l.length) :
    w.cell? ⟨g, o + i * 4, none⟩ = some (.int .i64 l[i].kind) ∧ w.cell? ⟨g, o + i * 4 + 1, none⟩ = some (.string l[i].text) ∧ w.cell? ⟨g, o + i * 4 + 2, none⟩ = some (.int .i64 l[i].line) ∧ w.cell? ⟨g, o + i * 4 + 3, none⟩ = some (.int .i64 l[i].col) :=
  h i l[i] (List.getElem?_eq_getElem hi)
def fewB (l : List TI) : Bool := decide (l.length ≤ 300) && l.all (fun t => decide (t.text.size ≤ 300))
/-- the tokens in front of the first end -/
def firstN : List TI → Nat
  | [] => 0
  | t :: r => if t.kind = 0 then 0 else firstN r + 1
theorem firstN_le : ∀ l : List TI, firstN l ≤ l.length
  | [] => Nat.le_refl _
  | t :: r => by
    have := firstN_le r
    unfold firstN
    split <;> simp <;> omega
theorem firstN_spec : ∀ (l : List TI) (i : Nat) (_ : i ≤ l.length), (∀ k (_ : k < i) (h' : k < l.length), l[k].kind ≠ 0) → (∀ h : i < l.length, l[i].kind = 0) → firstN l = i
  | [], i, hi, _, _ => by simp at hi; subst hi; rfl
  | t :: r, 0, _, _, h0 => by
    have := h0 (by simp)
    simp at this
    simp [firstN, this]
  | t :: r, i + 1, hi, hk, h0 => by
    have h1 := hk 0 (by omega) (by simp)
    simp at h1
    have := firstN_spec r i (by simp at hi; omega) (fun k h h' => by have := hk (k + 1) (by omega) (by simp; omega); simpa using this) (fun h => by have := h0 (by simp; omega); simpa using this)
    simp [firstN, h1, this]
set_option maxRecDepth 100000 in
theorem few_c (v : Value) (l : List TI) (w : World) (hn : l.length ≤ 9223372036854775807) (hT : Toks w v l) :
    Calls Try.prog 23 #[v] w fun e w' => e = .returned (.bool (fewB l)) ∧ w' = w := by
  obtain ⟨ao, cap, rfl, hcap, hT⟩ := hT
  obtain ⟨R, hR⟩ : ∃ R, fewB l = R := ⟨_, rfl⟩
  rw [hR]
  by_cases h3 : l.length ≤ 300
  · have h3' : (l.length : Int) ≤ 300 := by omega
    go_enter Try.func23, Try.ntmps23
    go_wp2_with fail
    go_loop [3] (fun vi => ∃ i : Nat, i ≤ l.length ∧ vi = .int .i64 i ∧ ∀ k (h : k < i) (h' : k < l.length), l[k].text.size ≤ 300)
      (fun vi => l.length - (intOf vi).toNat)
    case atStart => exact ⟨0, Nat.zero_le _, rfl, fun k h => absurd h (by omega)⟩
    case round =>
      obtain ⟨i, hi, rfl, hall⟩ := hrel
      have HA := Lib.hid hall
      clear hall
      by_cases hlt : i < l.length
      · obtain ⟨g, o, rfl, hRow⟩ := hT (by rintro rfl; simp at hlt)
        obtain ⟨r0, r1, r2, r3⟩ := hRow.at hlt
        have hlt' : (i : Int) < (l.length : Int) := by omega
        by_cases ht : l[i].text.size ≤ 300
        · have ht' : ¬ (300 : Int) < (l[i].text.size : Int) := by omega
          have ht2 : (l[i].text.size : Int) ≤ 300 := by omega
          go_wp2
          refine ⟨⟨i + 1, hlt, by simp, fun k h h' => ?_⟩, by simp [intOf]; omega⟩
          rcases Nat.lt_or_ge k i with hk | hk
          · exact HA.out k hk h'
          · obtain rfl : k = i := by omega
            exact ht
        · have ht' : (300 : Int) < (l[i].text.size : Int) := by omega
          have hR0 : R = false := by
            rw [← hR]; unfold fewB
            rw [Bool.and_eq_false_iff]; right
            rw [List.all_eq_false]
            exact ⟨l[i], List.getElem_mem _, by simpa using ht⟩
          subst hR0
          go_wp2
          go_ret
          exact ⟨rfl, rfl⟩
      · obtain rfl : i = l.length := by omega
        have hR0 : R = true := by
          rw [← hR]; unfold fewB
          rw [decide_eq_true h3, Bool.true_and, List.all_eq_true]
          intro t ht
          obtain ⟨k, hk, rfl⟩ := List.getElem_of_mem ht
          exact decide_eq_true (HA.out k hk hk)
        subst hR0
        go_wp2
        go_ret
        exact ⟨rfl, rfl⟩
  · have h3' : ¬ (l.length : Int) ≤ 300 := by omega
    have hR0 : R = false := by rw [← hR]; unfold fewB; rw [decide_eq_false h3, Bool.false_and]
    subst hR0
    have hp : (0 : Int) < (l.length : Int) := by omega
    go_enter Try.func23, Try.ntmps23
    go_wp2_with fail
    go_loop [3] (fun vi => vi = .int .i64 0) (fun vi => l.length - (intOf vi).toNat)
    case atStart => rfl
    case round =>
      obtain rfl := hrel
      go_wp2
      go_ret
      exact ⟨ret_b (decide_eq_false (by omega)), rfl⟩
set_option maxRecDepth 100000 in
theorem first_c (v : Value) (l : List TI) (w : World) (hn : l.length ≤ 1000000000000) (hT : Toks w v l) :
    Calls Try.prog 27 #[v] w fun e w' => ∃ v', e = .returned v' ∧ Toks w v' (l.take (firstN l)) ∧ w' = w := by
  have hT0 := hT
  obtain ⟨ao, cap, rfl, hcap, hT⟩ := hT
  have HT := Lib.hid hT0
  clear hT0
  go_enter Try.func27, Try.ntmps27
  go_wp2_with fail
  go_loop [3] (fun vi => ∃ i : Nat, i ≤ l.length ∧ vi = .int .i64 i ∧ ∀ k (h : k < i) (h' : k < l.length), l[k].kind ≠ 0)
    (fun vi => l.length - (intOf vi).toNat)
  case atStart => exact ⟨0, Nat.zero_le _, rfl, fun k h => absurd h (by omega)⟩
  case round =>
    obtain ⟨i, hi, rfl, hall⟩ := hrel
    have HA := Lib.hid hall
    clear hall
    by_cases hlt : i < l.length
    · obtain ⟨g, o, rfl, hRow⟩ := hT (by rintro rfl; simp at hlt)
      obtain ⟨r0, r1, r2, r3⟩ := hRow.at hlt
      have hlt' : (i : Int) < (l.length : Int) := by omega
      by_cases ht : l[i].kind = 0
      · have hN := firstN_spec l i hi HA.out (fun _ => ht)
        have HN := Lib.hid hN
        clear hN
        rw [ht] at r0
        have c1 : ¬ (i : Int) < 0 := by omega
        have c2 : (i : Int) ≤ (cap : Int) := by omega
        go_wp2
        go_ret
        exact ⟨_, rfl, by rw [HN.out]; exact HT.out.take i hi, rfl⟩
      · have ht' : (l[i].kind == 0) = false := by simpa using ht
        go_wp2
        refine ⟨⟨i + 1, hlt, by simp, fun k h h' => ?_⟩, by simp [intOf]; omega⟩
        rcases Nat.lt_or_ge k i with hk | hk
        · exact HA.out k hk h'
        · obtain rfl : k = i := by omega
          exact ht
    · obtain rfl : i = l.length := by omega
      have hN := firstN_spec l l.length hi HA.out (fun h => by omega)
      have HN := Lib.hid hN
      clear hN
      go_wp2
      go_ret
      exact ⟨_, rfl, by rw [HN.out, List.take_length]; exact HT.out, rfl⟩
end Go.Proofs.Ythjfedkginjbeaa
