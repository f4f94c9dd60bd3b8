/- The law TokenRoundTrip, walked. -/
import Derived.Test.YthjfedkginjbeaaTuq
namespace Go.Proofs.Ythjfedkginjbeaa
open Go.RowKit
set_option maxRecDepth 100000 in
theorem first_x (ao : Option Addr) (cap : Nat) (l : List TI) (w : World) (hn : l.length ≤ 1000000000000) (hcap : l.length ≤ cap) (hT : l ≠ [] → ∃ g o, ao = some ⟨g, o, none⟩ ∧ Row w g o l) :
    Calls Try.prog 27 #[.slice ao l.length cap] w fun e w' => e = .returned (.slice ao (firstN l) cap) ∧ w' = w := by
  obtain ⟨R, hR⟩ : ∃ R, firstN l = R := ⟨_, rfl⟩
  rw [hR]
  go_enter Try.func27, Try.ntmps27
  go_wp2_with fail
  go_loop [3] (fun vi => ∃ i : Nat, i ≤ l.length ∧ vi = .int .i64 i ∧ ∀ k (h : k < i) (h' : k < l.length), l[k].kind ≠ 0)
    (fun vi => l.length - (intOf vi).toNat)
  case atStart => exact ⟨0, Nat.zero_le _, rfl, fun k h => absurd h (by omega)⟩
  case round =>
    obtain ⟨i, hi, rfl, hall⟩ := hrel
    have HA := Lib.hid hall
    clear hall
    by_cases hlt : i < l.length
    · obtain ⟨g, o, rfl, hRow⟩ := hT (by rintro rfl; simp at hlt)
      obtain ⟨r0, r1, r2, r3⟩ := hRow.at hlt
      have hlt' : (i : Int) < (l.length : Int) := by omega
      by_cases ht : l[i].kind = 0
      · have hN := firstN_spec l i hi HA.out (fun _ => ht)
        obtain rfl : i = R := hN.symm.trans hR
        clear hN hR
        rw [ht] at r0
        have c1 : ¬ (i : Int) < 0 := by omega
        have c2 : (i : Int) ≤ (cap : Int) := by omega
        go_wp2
        go_ret
        exact ⟨rfl, rfl⟩
      · have ht' : (l[i].kind == 0) = false := by simpa using ht
        go_wp2
        refine ⟨⟨i + 1, hlt, by simp, fun k h h' => ?_⟩, by simp [intOf]; omega⟩
        rcases Nat.lt_or_ge k i with hk | hk
        · exact HA.out k hk h'
        · obtain rfl : k = i := by omega
          exact ht
    · obtain rfl : i = l.length := by omega
      have hN := firstN_spec l l.length hi HA.out (fun h => by omega)
      obtain rfl : l.length = R := hN.symm.trans hR
      clear hN hR
      go_wp2
      go_ret
      exact ⟨rfl, rfl⟩

theorem textR_ok {l : List TI} (h : (textR l).2 = 0) : (∀ i (h : i < (l.take (firstN l)).length), chkT (l.take (firstN l))[i].kind (l.take (firstN l))[i].text = true ∧ (l.take (firstN l))[i].kind ≠ 0) ∧ (joinN (l.take (firstN l)) (firstN l)).size ≤ 65536 ∧ (textR l).1 = joinN (l.take (firstN l)) (firstN l) := by
  unfold textR at h ⊢
  split at h
  · rename_i ha
    split at h
    · rename_i hz
      rw [if_pos ha, if_pos hz]
      refine ⟨fun i hi => ⟨?_, ?_⟩, hz, rfl⟩
      · rw [List.all_eq_true] at ha
        exact ha _ (List.getElem_mem hi)
      · rw [List.getElem_take]
        have := firstN_le l
        rw [List.length_take] at hi
        exact firstN_ne l i (by omega) (by omega)
    · exact absurd h (by decide)
  · exact absurd h (by decide)
theorem textR_no {l : List TI} (h : (textR l).2 ≠ 0) : (textR l).1 = ⟨#[]⟩ := by
  unfold textR at h ⊢
  split at h
  · rename_i ha
    split at h
    · exact absurd rfl h
    · rename_i hz
      rw [if_pos ha, if_neg hz]
  · rename_i ha
    rw [if_neg ha]
/-- what is scanned of what was written -/
theorem round_pure {l : List TI} (h : (textR l).2 = 0) : ∃ m : List TI, (scF (textR l).1 ((textR l).1.size + 1) 0 []).1 = none ∧ (scF (textR l).1 ((textR l).1.size + 1) 0 []).2.map Tk.toI = m ∧
    m.length = firstN l + 1 ∧ (∀ hk : firstN l < m.length, m[firstN l].kind = 0) ∧ sameL (m.take (firstN l)) (l.take (firstN l)) = true ∧ textR m = textR l ∧ (textR l).1.size ≤ 65536 ∧ ∀ t ∈ m, t.text.size ≤ 65536 := by
  obtain ⟨ha, hz, hs⟩ := textR_ok h
  have hle := firstN_le l
  have hlen : (l.take (firstN l)).length = firstN l := by rw [List.length_take]; omega
  obtain ⟨L, hL⟩ : ∃ L, l.take (firstN l) = L := ⟨_, rfl⟩
  rw [hL] at ha hz hs hlen
  rw [← hlen] at hz hs
  have hlong := joinN_long ha L.length (Nat.le_refl _)
  obtain ⟨s1, s2⟩ := scan_join ha hlong
  rw [hs]
  obtain ⟨m, hm⟩ : ∃ m, (scF (joinN L L.length) ((joinN L L.length).size + 1) 0 []).2.map Tk.toI = m := ⟨_, rfl⟩
  rw [hm] at s2
  have hml : m.length = firstN l + 1 := by
    have := congrArg List.length s2
    simp at this
    omega
  have hkey : ∀ i (h1 : i < m.length) (h2 : i < L.length), m[i].key = L[i].key := by
    intro i h1 h2
    have := congrArg (fun x => x[i]?) s2
    simp only [List.getElem?_map, List.getElem?_eq_getElem h1, Option.map_some] at this
    rw [List.getElem?_append_left (by simpa using h2)] at this
    simpa [List.getElem?_eq_getElem h2] using this
  have hk0 : ∀ hk : firstN l < m.length, m[firstN l].kind = 0 := by
    intro hk
    have := congrArg (fun x => x[firstN l]?) s2
    simp only [List.getElem?_map, List.getElem?_eq_getElem hk, Option.map_some] at this
    rw [List.getElem?_append_right (by simp; omega)] at this
    simp [hlen] at this
    exact congrArg Prod.fst this
  have hmap : (m.take (firstN l)).map TI.key = L.map TI.key := by
    have := congrArg (List.take (firstN l)) s2
    rw [← List.map_take, List.take_append_of_le_length (by simp; omega)] at this
    rw [this, List.take_of_length_le (by simp; omega)]
  have hfm : firstN m = firstN l := by
    refine firstN_spec m (firstN l) (by omega) (fun k hk h' => ?_) hk0
    have e := hkey k h' (by omega)
    have := (ha k (by omega)).2
    have e1 : m[k].kind = L[k].kind := congrArg Prod.fst e
    rw [e1]
    exact this
  have htm : textR m = textR l := by
    have hj := joinN_key hmap
    have hall : (m.take (firstN m)).all (fun t => chkT t.kind t.text) = true := by
      rw [List.all_eq_true]
      intro t ht
      obtain ⟨i, hi, rfl⟩ := List.getElem_of_mem ht
      rw [List.length_take, hfm] at hi
      rw [List.getElem_take]
      have e := hkey i (by omega) (by omega)
      have e1 : m[i].kind = L[i].kind := congrArg Prod.fst e
      have e2 : m[i].text = L[i].text := congrArg Prod.snd e
      rw [e1, e2]
      exact (ha i (by omega)).1
    have e1 : textR m = (joinN L L.length, 0) := by
      unfold textR
      rw [if_pos hall, hfm, hj, ← hlen, if_pos hz]
    have e2 : textR l = (joinN L L.length, 0) := Prod.ext hs h
    rw [e1, e2]
  refine ⟨m, s1, hm, hml, hk0, ?_, htm, hz, ?_⟩
  · unfold sameL
    rw [hL]
    exact decide_eq_true hmap
  · intro t ht
    obtain ⟨i, hi, rfl⟩ := List.getElem_of_mem ht
    rcases Nat.lt_or_ge i L.length with h1 | h1
    · have e := hkey i hi h1
      have e2 : m[i].text = L[i].text := congrArg Prod.snd e
      rw [e2]
      have hat := joinN_at h1
      have hle2 := joinN_le L (show i + 1 ≤ L.length from h1)
      have hsz : L[i].text.size ≤ (spell L[i].kind L[i].text).size := by
        unfold spell
        split
        · rw [ByteArray.size_append, ByteArray.size_append]; omega
        · omega
      omega
    · obtain rfl : i = firstN l := by omega
      have := congrArg (fun x => x[firstN l]?) s2
      simp only [List.getElem?_map, List.getElem?_eq_getElem hi, Option.map_some] at this
      rw [List.getElem?_append_right (by simp; omega)] at this
      simp [hlen] at this
      have e : m[firstN l].text = ⟨#[]⟩ := congrArg Prod.snd this
      rw [e]
      exact Nat.zero_le _
end Go.Proofs.Ythjfedkginjbeaa
