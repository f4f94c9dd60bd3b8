/- Add and AliasOf of the reference, whatever comes; an element of a row, written. -/
import Derived.Test.YtffgjamnijhlpaaSyq
namespace Go.Proofs.Ytffgjamnijhlpaa
open Go.RowKit Go.Maps Go.Sort
section
variable {w w' : World} {F G : Nat → Prop} {v : Value} {limit : Nat} {names : List ByteArray} {E als : List (ByteArray × Int)}
theorem RS.wide (h : RS w G v limit names als) (B : Nat) : RS w (fun k => G k ∨ B ≤ k) v limit names als := h.more (fun _ hk _ => .inl hk)
theorem radd_c (s : ByteArray) (h : RS w G v limit names als) (hM : Mate names als E) (hs : s.size ≤ 9223372036854775807) (hl : names.length ≤ 4096) (ha : als.length ≤ 4096) :
    Calls Try.prog 26 #[v, .string s] w fun e w' => (∃ v', e = .returned (.tuple #[v', .int .i64 (addK limit names E s), .int .i64 (addC limit names E s)]) ∧ RS w' (fun k => G k ∨ w.heap.size ≤ k) v' limit (addN limit names E s) als) ∧ Below w.heap.size w w' := by
  obtain ⟨c, hc⟩ : ∃ c, addC limit names E s = c := ⟨_, rfl⟩
  have hc0 := hc
  unfold addC at hc
  by_cases h1 : identB s = false
  · rw [if_pos h1] at hc
    subst hc
    obtain ⟨e1, e2, _⟩ := add_lies hc0 (by decide)
    rw [hc0, e1, e2]
    exact (radd_name s h h1 hs).mono fun _ _ ⟨he, hb⟩ => ⟨⟨v, he, (h.wide _).below hb⟩, hb⟩
  · rw [if_neg h1] at hc
    have h1' : identB s = true := by simpa using h1
    by_cases h2 : hasE E s = true
    · rw [if_pos h2] at hc
      subst hc
      obtain ⟨e1, e2, _⟩ := add_lies hc0 (by decide)
      rw [hc0, e1, e2]
      exact (radd_twice s h h1' hM.nodup (by rw [hM.has]; exact h2) hl ha hs).mono fun _ _ ⟨he, hb⟩ => ⟨⟨v, he, (h.wide _).below hb⟩, hb⟩
    · rw [if_neg h2] at hc
      have h2' : hasE E s = false := by simpa using h2
      by_cases h3 : limit ≤ names.length
      · rw [if_pos h3] at hc
        subst hc
        obtain ⟨e1, e2, _⟩ := add_lies hc0 (by decide)
        rw [hc0, e1, e2]
        exact (radd_full s h h1' hM.nodup (by rw [hM.has]; exact h2') hl ha h3 hs).mono fun _ _ ⟨he, hb⟩ => ⟨⟨v, he, (h.wide _).below hb⟩, hb⟩
      · rw [if_neg h3] at hc
        subst hc
        obtain ⟨e1, e2, _⟩ := add_goes hc0
        rw [hc0, e1, e2]
        refine (radd_ok s h h1' hM.nodup (by rw [hM.has]; exact h2') hl ha (by omega) hs).mono ?_
        rintro e w' ⟨v', he, hr, hb⟩
        exact ⟨⟨v', he, hr⟩, hb⟩
theorem rali_c (s : ByteArray) (n : Int) (h : RS w G v limit names als) (hM : Mate names als E) (hs : s.size ≤ 9223372036854775807) (hl : names.length ≤ 4096) (ha : als.length ≤ 4096) :
    Calls Try.prog 27 #[v, .string s, .int .i64 n] w fun e w' => (∃ v', e = .returned (.tuple #[v', .int .i64 (aliC names E s n)]) ∧ RS w' (fun k => G k ∨ w.heap.size ≤ k) v' limit names (aliE names E als s n)) ∧ Below w.heap.size w w' := by
  have hlen := hM.len
  obtain ⟨c, hc⟩ : ∃ c, aliC names E s n = c := ⟨_, rfl⟩
  have hc0 := hc
  unfold aliC at hc
  unfold aliE
  rw [hc0]
  by_cases h1 : identB s = false
  · rw [if_pos h1] at hc
    subst hc
    exact (rali_name s n h h1 hs).mono fun _ _ ⟨he, hb⟩ => ⟨⟨v, he, (h.wide _).below hb⟩, hb⟩
  · rw [if_neg h1] at hc
    have h1' : identB s = true := by simpa using h1
    by_cases h2 : n < 0 ∨ (names.length : Int) ≤ n
    · rw [if_pos h2] at hc
      subst hc
      exact (rali_range s n h h1' h2 hs).mono fun _ _ ⟨he, hb⟩ => ⟨⟨v, he, (h.wide _).below hb⟩, hb⟩
    · rw [if_neg h2] at hc
      by_cases h3 : hasE E s = true
      · rw [if_pos h3] at hc
        subst hc
        exact (rali_twice s n h (by omega) (by omega) h1' hM.nodup (by rw [hM.has]; exact h3) hl ha hs).mono fun _ _ ⟨he, hb⟩ => ⟨⟨v, he, (h.wide _).below hb⟩, hb⟩
      · rw [if_neg h3] at hc
        have h3' : hasE E s = false := by simpa using h3
        by_cases h4 : names.length + 4096 ≤ E.length
        · rw [if_pos h4] at hc
          subst hc
          exact (rali_full s n h (by omega) (by omega) h1' hM.nodup (by rw [hM.has]; exact h3') hl ha (by omega) hs).mono fun _ _ ⟨he, hb⟩ => ⟨⟨v, he, (h.wide _).below hb⟩, hb⟩
        · rw [if_neg h4] at hc
          subst hc
          rw [if_pos rfl]
          refine (rali_ok s n h (by omega) (by omega) h1' hM.nodup (by rw [hM.has]; exact h3') hl ha (by omega) hs).mono ?_
          rintro e w' ⟨v', he, hr, hb⟩
          exact ⟨⟨v', he, hr⟩, hb⟩
/-- what comes of the pair -/
theorem mate_add (s : ByteArray) (hM : Mate names als E) : Mate (addN limit names E s) als (addE limit names E s) ∧ (addN limit names E s).length ≤ names.length + 1 ∧ (names.length ≤ limit → (addN limit names E s).length ≤ limit) := by
  by_cases hc : addC limit names E s = 0
  · obtain ⟨_, e2, e3⟩ := add_goes hc
    rw [e2, e3]
    have hc0 := hc
    unfold addC at hc
    by_cases h1 : identB s = false
    · rw [if_pos h1] at hc; cases hc
    · rw [if_neg h1] at hc
      by_cases h2 : hasE E s = true
      · rw [if_pos h2] at hc; cases hc
      · rw [if_neg h2] at hc
        by_cases h3 : limit ≤ names.length
        · rw [if_pos h3] at hc; cases hc
        · exact ⟨hM.add (by simpa using h2), by simp, fun _ => by simp; omega⟩
  · obtain ⟨_, e2, e3⟩ := add_lies rfl hc
    rw [e2, e3]
    exact ⟨hM, by omega, fun h => h⟩
theorem mate_ali (s : ByteArray) (n : Int) (hM : Mate names als E) : Mate names (aliE names E als s n) (aliE names E E s n) ∧ (aliE names E als s n).length ≤ als.length + 1 ∧ (als.length ≤ 4096 → (aliE names E als s n).length ≤ 4096) := by
  unfold aliE
  by_cases hc : aliC names E s n = 0
  · rw [if_pos hc, if_pos hc]
    have hlen := hM.len
    unfold aliC at hc
    by_cases h1 : identB s = false
    · rw [if_pos h1] at hc; cases hc
    · rw [if_neg h1] at hc
      by_cases h2 : n < 0 ∨ (names.length : Int) ≤ n
      · rw [if_pos h2] at hc; cases hc
      · rw [if_neg h2] at hc
        by_cases h3 : hasE E s = true
        · rw [if_pos h3] at hc; cases hc
        · rw [if_neg h3] at hc
          by_cases h4 : names.length + 4096 ≤ E.length
          · rw [if_pos h4] at hc; cases hc
          · exact ⟨hM.alias (by simpa using h3) (by omega) (by omega), by simp, fun _ => by simp; omega⟩
  · rw [if_neg hc, if_neg hc]
    exact ⟨hM, by omega, fun h => h⟩
/-- an element of a row of one's own, written -/
theorem row_put {B : Nat} {e : TypeId} {g n cap i : Nat} {xs : List Value} (h : w.ownsRow B e 1 (.slice (some ⟨g, 0, none⟩) n cap) n xs) (u : Value) : (w.setCell ⟨g, i, none⟩ u).ownsRow B e 1 (.slice (some ⟨g, 0, none⟩) n cap) n (xs.set i u) := by
  refine ⟨by rw [List.length_set]; exact h.1, .inr ?_⟩
  rcases h.2 with ⟨h', _⟩ | ⟨g', cap', cur, hv, hB, hh, hn, hc, hs, ht⟩
  · cases h'
  · cases hv
    have hb : Blk w g e cur := hh
    refine ⟨g, cap, cur.setIfInBounds i u, rfl, hB, hb.set i u, hn, hc, by simpa using hs, ?_⟩
    rw [← ht, Array.toList_setIfInBounds, List.take_set]
end
end Go.Proofs.Ytffgjamnijhlpaa
