/- A range that is written is read as it was (plain mathematics). -/
import Derived.Test.YthjebccidcichaaLvw
namespace Go.Proofs.Ythjebccidcichaa
open Go.RowKit
theorem lev_of {l m : List ByteArray} {s : Int} {c : Nat} (hp : proper l m = true) (hc : c < U64) (hk : chkL s c l.length m.length = true) :
    levE l m (nmAt l s.toNat) (spansL m c) = 0 ∧ levS l m (nmAt l s.toNat) (spansL m c) = s ∧ levC l m (nmAt l s.toNat) (spansL m c) = c := by
  obtain ⟨h0, h1, hb⟩ := chkL_bits hc hk
  obtain ⟨p1, p2⟩ := proper_parts hp
  have hi : s.toNat < l.length := by omega
  have hidx : idxS l (nmAt l s.toNat) = s := by
    rw [nmAt_lt hi, (okN_parts (propL_at p1 hi)).2.2]; omega
  obtain ⟨g1, g2⟩ := spansL_ok p2 hc (fun k hk => by have := hb k hk; omega)
  have hE : levE l m (nmAt l s.toNat) (spansL m c) = 0 := by
    unfold levE
    rw [if_neg (by rw [hp]; decide), hidx, if_neg (by omega), g1]
  refine ⟨hE, ?_, ?_⟩
  · unfold levS
    rw [if_pos hE, hidx]
  · unfold levC
    rw [if_pos hE, g2]
theorem nmAt_pos {l : List ByteArray} {most : Int} (h : propL l most = true) {i : Nat} (hi : i < l.length) : nameS (nmAt l i) = true := by
  rw [nmAt_lt hi]; exact (okN_parts (propL_at h hi)).2.1
theorem range_back {l m : List ByteArray} {s : Int} {c : Nat} {s2 : Int} {c2 : Nat} (h1 : c < U64) (h3 : c2 < U64) (hE : srcE l m s c s2 c2 = 0) :
    rngX l m (srcLo l m s c s2 c2).1 (srcLo l m s c s2 c2).2 (srcHi l m s c s2 c2).1 (srcHi l m s c s2 c2).2 = (0, ⟨⟨s, c⟩, ⟨s2, c2⟩⟩) := by
  obtain ⟨hp, hr⟩ := src_proper hE
  obtain ⟨k1, k2, k3⟩ := rngB_parts hr
  obtain ⟨e1, e2, e3⟩ := lev_of hp h1 k1
  obtain ⟨f1, f2, f3⟩ := lev_of hp h3 k2
  obtain ⟨b0, b1, _⟩ := chkL_bits h3 k2
  have hlo : srcLo l m s c s2 c2 = (nmAt l s.toNat, spansL m c) := by unfold srcLo srcL; rw [if_pos (by simp [hE])]
  rw [hlo]
  by_cases he : s2 = s ∧ c2 = c
  · have hhi : srcHi l m s c s2 c2 = (⟨#[]⟩, []) := by unfold srcHi srcL; rw [if_neg (by simp [he])]
    rw [hhi]
    obtain ⟨rfl, rfl⟩ := he
    unfold rngX
    rw [e1, e2, e3]
    rfl
  · have hhi : srcHi l m s c s2 c2 = (nmAt l s2.toNat, spansL m c2) := by unfold srcHi srcL; rw [if_pos (by simp [hE, he])]
    rw [hhi]
    have hn := nameS_size (nmAt_pos (proper_parts hp).1 (by omega : s2.toNat < l.length))
    have hm : misS (nmAt l s2.toNat) (spansL m c2).length = false := decide_eq_false fun h => by omega
    unfold rngX
    rw [e1, e2, e3, f1, f2, f3, hm, k3]
    rfl
theorem spB_mkS (L : List Sp) : (L.map spB).map mkS = L := by
  rw [List.map_map]
  have : (mkS ∘ spB) = (id : Sp → Sp) := by
    funext p
    simp only [Function.comp, spB, mkS, list_mk]
    rfl
  rw [this, List.map_id]
theorem spansL_w {m : List ByteArray} {most : Int} (hp : propL m most = true) {c : Nat} (hl : ∀ k : Nat, hasL c k = true → k < m.length) : ∀ x ∈ (spansL m c).map spB, spW x := by
  intro x hx
  obtain ⟨y, hy, rfl⟩ := List.mem_map.1 hx
  obtain ⟨z, hz, rfl⟩ := List.mem_map.1 hy
  obtain ⟨r1, r2, r3⟩ := runs_in c hz
  have ha := hl _ (r3 z.1 (Nat.le_refl _) r1)
  have hb := hl _ (r3 z.2 r1 (Nat.le_refl _))
  unfold spW spB spL
  refine ⟨by rw [← nameS_nm]; exact nmAt_pos hp ha, ?_⟩
  by_cases h : z.1 = z.2
  · left; rw [if_pos h]
  · right; rw [if_neg h, ← nameS_nm]; exact nmAt_pos hp hb
theorem parse_back {l m : List ByteArray} {s : Int} {c : Nat} {s2 : Int} {c2 : Nat} (h1 : c < U64) (h3 : c2 < U64) (hE : srcE l m s c s2 c2 = 0) :
    prsX l m (rngR (lvB (srcLo l m s c s2 c2).1 (srcLo l m s c s2 c2).2, lvB (srcHi l m s c s2 c2).1 (srcHi l m s c s2 c2).2)) = (0, ⟨⟨s, c⟩, ⟨s2, c2⟩⟩) := by
  have hb := range_back h1 h3 hE
  obtain ⟨hp, hr⟩ := src_proper hE
  obtain ⟨k1, k2, k3⟩ := rngB_parts hr
  obtain ⟨a0, a1, a2⟩ := chkL_bits h1 k1
  obtain ⟨b0, b1, b2⟩ := chkL_bits h3 k2
  obtain ⟨p1, p2⟩ := proper_parts hp
  have hlo : srcLo l m s c s2 c2 = (nmAt l s.toNat, spansL m c) := by unfold srcLo srcL; rw [if_pos (by simp [hE])]
  have hW1 : levW (lvB (srcLo l m s c s2 c2).1 (srcLo l m s c s2 c2).2) := by
    rw [hlo]
    exact ⟨by show nm _ = true; unfold lvB; rw [← nameS_nm]; exact nmAt_pos p1 (by omega), spansL_w p2 (fun k hk => by have := a2 k hk; omega)⟩
  have hW2 : lvB (srcHi l m s c s2 c2).1 (srcHi l m s c s2 c2).2 = ([], []) ∨ levW (lvB (srcHi l m s c s2 c2).1 (srcHi l m s c s2 c2).2) := by
    by_cases he : s2 = s ∧ c2 = c
    · left
      have hhi : srcHi l m s c s2 c2 = (⟨#[]⟩, []) := by unfold srcHi srcL; rw [if_neg (by simp [he])]
      rw [hhi]; rfl
    · right
      have hhi : srcHi l m s c s2 c2 = (nmAt l s2.toNat, spansL m c2) := by unfold srcHi srcL; rw [if_pos (by simp [hE, he])]
      rw [hhi]
      exact ⟨by show nm _ = true; unfold lvB; rw [← nameS_nm]; exact nmAt_pos p1 (by omega), spansL_w p2 (fun k hk => by have := b2 k hk; omega)⟩
  unfold prsX
  rw [if_neg (by rw [hp]; decide), rdRg_iff.2 ⟨rfl, hW1, hW2⟩]
  simp only [lvB, spB_mkS, list_mk]
  exact hb
theorem txt_zero {l m : List ByteArray} {s : Int} {c : Nat} {s2 : Int} {c2 : Nat} (h : srcE l m s c s2 c2 ≠ 0) : txtX l m s c s2 c2 = ⟨#[]⟩ := if_neg h
theorem rngR_len {x y : ByteArray} {L M : List Sp} (h1 : x.size ≤ 1000) (h2 : y.size ≤ 1000) (hL : L.length ≤ 64) (hM : M.length ≤ 64) (hLs : ∀ p ∈ L, p.1.size ≤ 1000 ∧ p.2.size ≤ 1000) (hMs : ∀ p ∈ M, p.1.size ≤ 1000 ∧ p.2.size ≤ 1000) :
    (rngR (lvB x L, lvB y M)).length ≤ 1000000 := by
  have key : ∀ (n : ByteArray) (L : List Sp), n.size ≤ 1000 → L.length ≤ 64 → (∀ p ∈ L, p.1.size ≤ 1000 ∧ p.2.size ≤ 1000) → (levR (lvB n L)).length ≤ 1000 + L.length * 3000 := by
    intro n L hn _ hLs
    have : ∀ i, i ≤ L.length → (levR (lvB n (L.take i))).length ≤ 1000 + i * 3000 := by
      intro i
      induction i with
      | zero => intro _; rw [List.take_zero]; unfold lvB; rw [List.map_nil, levR_nil, ← Go.Lib.size_eq]; omega
      | succ i ih =>
        intro hi
        rw [lv_step (by omega), List.length_append, List.length_cons]
        have h1 := spR_len L[i]
        have h2 := hLs _ (List.getElem_mem (by omega : i < L.length))
        have h3 := ih (by omega)
        omega
    have h := this L.length (Nat.le_refl _)
    rwa [List.take_length] at h
  have a : (levR (lvB x L, lvB y M).1).length ≤ _ := key x L h1 hL hLs
  have b : (levR (lvB x L, lvB y M).2).length ≤ _ := key y M h2 hM hMs
  unfold rngR
  rw [List.length_append]
  split
  · rw [List.length_nil]; omega
  · rw [List.length_cons]; omega
theorem srcL_small {l m : List ByteArray} {s : Int} {c : Nat} {k : Bool} (hp : k = true → proper l m = true) : (srcL l m s c k).1.size ≤ 1000 ∧ (srcL l m s c k).2.length ≤ 64 ∧ ∀ p ∈ (srcL l m s c k).2, p.1.size ≤ 1000 ∧ p.2.size ≤ 1000 := by
  unfold srcL
  cases k
  · exact ⟨Nat.zero_le _, Nat.zero_le _, by simp⟩
  · obtain ⟨h1, h2⟩ := proper_parts (hp rfl)
    refine ⟨by have := nmAt_size h1 s.toNat; simp only [if_true]; omega, by simp only [if_true]; unfold spansL; rw [List.length_map]; exact runs_len c, ?_⟩
    intro p hp
    simp only [if_true] at hp
    obtain ⟨x, _, rfl⟩ := List.mem_map.1 hp
    unfold spL
    refine ⟨by have := nmAt_size h2 x.1; simp only; omega, ?_⟩
    simp only
    split
    · exact Nat.zero_le _
    · have := nmAt_size h2 x.2; omega
theorem txt_len {l m : List ByteArray} {s : Int} {c : Nat} {s2 : Int} {c2 : Nat} : (rngR (lvB (srcLo l m s c s2 c2).1 (srcLo l m s c s2 c2).2, lvB (srcHi l m s c s2 c2).1 (srcHi l m s c s2 c2).2)).length ≤ 1000000 := by
  obtain ⟨a1, a2, a3⟩ : (srcLo l m s c s2 c2).1.size ≤ 1000 ∧ (srcLo l m s c s2 c2).2.length ≤ 64 ∧ ∀ p ∈ (srcLo l m s c s2 c2).2, p.1.size ≤ 1000 ∧ p.2.size ≤ 1000 := srcL_small fun h => (src_proper (of_decide_eq_true h)).1
  obtain ⟨b1, b2, b3⟩ : (srcHi l m s c s2 c2).1.size ≤ 1000 ∧ (srcHi l m s c s2 c2).2.length ≤ 64 ∧ ∀ p ∈ (srcHi l m s c s2 c2).2, p.1.size ≤ 1000 ∧ p.2.size ≤ 1000 := srcL_small fun h => (src_proper (of_decide_eq_true h).1).1
  exact rngR_len a1 b1 a2 b2 a3 b3
end Go.Proofs.Ythjebccidcichaa
