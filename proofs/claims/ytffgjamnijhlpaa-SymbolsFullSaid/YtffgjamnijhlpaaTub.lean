/- Package token: spelling, sameToken, Check, Identifier, walked. -/
import Derived.Test.YtffgjamnijhlpaaTua
namespace Go.Proofs.Ytffgjamnijhlpaa
open Go.RowKit
def tkV (k : Int) (t : ByteArray) (l c : Int) : Value := .agg #[.int .i64 k, .string t, .int .i64 l, .int .i64 c]
theorem spelling_c (k : Int) (t : ByteArray) (l c : Int) (w : World) (ht : (spell k t).size ≤ 9223372036854775807) :
    Calls Try.prog 45 #[.agg #[.int .i64 k, .string t, .int .i64 l, .int .i64 c]] w fun e w' => e = .returned (.string (spell k t)) ∧ Below w.heap.size w w' := by
  unfold spell at ht ⊢
  by_cases h : k = 3
  · subst h
    rw [if_pos rfl] at ht ⊢
    rw [ByteArray.size_append, ByteArray.size_append] at ht
    have hq1 : q1.size = 1 := rfl
    rw [hq1] at ht
    clear hq1
    have n1 : ¬ 9223372036854775807 < 1 + t.size := by omega
    have n2 : ¬ 9223372036854775807 < 1 + t.size + 1 := by omega
    go_enter Try.func45, Try.ntmps45
    go_wp2
    go_ret
    exact ⟨rfl, (Below.refl _ _).alloc (Nat.le_refl _) _⟩
  · rw [if_neg h]
    have h' : (k == 3) = false := by simpa using h
    go_enter Try.func45, Try.ntmps45
    go_wp2
    go_ret
    exact ⟨rfl, (Below.refl _ _).alloc (Nat.le_refl _) _⟩
def sameB (k k' : Int) (t t' : ByteArray) : Bool := decide (k = k') && decide (t = t')
theorem bytes_beq (a b : ByteArray) : (a.toList == b.toList) = decide (a = b) := by
  rw [Bool.eq_iff_iff]
  simp only [beq_iff_eq, decide_eq_true_eq]
  constructor
  · intro h
    rw [ByteArray.toList_eq, ByteArray.toList_eq] at h
    exact ByteArray.ext (Array.toList_inj.1 h)
  · rintro rfl; rfl
theorem sameToken_c (k k' : Int) (t t' : ByteArray) (l c l' c' : Int) (w : World) :
    Calls Try.prog 47 #[.agg #[.int .i64 k, .string t, .int .i64 l, .int .i64 c], .agg #[.int .i64 k', .string t', .int .i64 l', .int .i64 c']] w fun e w' => e = .returned (.bool (sameB k k' t t')) ∧ Below w.heap.size w w' := by
  unfold sameB
  by_cases h : k = k'
  · subst h
    rw [← bytes_beq]
    cases hb : (t.toList == t'.toList)
    all_goals
      go_enter Try.func47, Try.ntmps47
      go_wp2
      go_ret
      exact ⟨by simp, ((Below.refl _ _).alloc (Nat.le_refl _) _).alloc (by simp) _⟩
  · have h' : (k == k') = false := by simpa using h
    rw [decide_eq_false h]
    go_enter Try.func47, Try.ntmps47
    go_wp2
    go_ret
    exact ⟨rfl, ((Below.refl _ _).alloc (Nat.le_refl _) _).alloc (by simp) _⟩
/-- the scanner over a token's own text -/
theorem chk_next {K : Nat} {k c0 : Int} {t T : ByteArray} (hc : (c0 == 0) = true) (hk : sameB (K : Int) k T t = true) (hk0 : (oneK (spell k t) (sk (spell k t) 0) : Int) = K)
    (hT : (tkAt (spell k t) (sk (spell k t) 0)).text = T) (hcc : oneC (spell k t) (sk (spell k t) 0) = c0) : chkT k t = true := by
  unfold chkT
  unfold sameB at hk
  rw [hk0, hT, hcc]
  simpa using ⟨by simpa using hc, by simpa using hk⟩
set_option maxRecDepth 100000 in
set_option maxHeartbeats 2000000 in
theorem check_c (k : Int) (t : ByteArray) (l c : Int) (w : World) (ht : (spell k t).size ≤ 9223372036854775807) :
    Calls Try.prog 38 #[.agg #[.int .i64 k, .string t, .int .i64 l, .int .i64 c]] w fun e w' => e = .returned (.bool (chkT k t)) ∧ Below w.heap.size w w' := by
  obtain ⟨s, hs⟩ : ∃ s, spell k t = s := ⟨_, rfl⟩
  have hsz : s.size ≤ 9223372036854775807 := by rw [← hs]; exact ht
  have hJ := sk_le (s := s) (i := 0) (Nat.zero_le _)
  obtain ⟨R, hR0⟩ : ∃ R, chkT k t = R := ⟨_, rfl⟩
  rw [hR0]
  go_enter Try.func38, Try.ntmps38
  go_wp2_with (go_at_call 45; refine (spelling_c k t l c _ ht).mono ?_; rintro e w2 ⟨rfl, hb2⟩; rw [hs])
  have T3 : Blk (w2.alloc (.cells #[.string s, .int .i64 0, .int .i64 0, .int .i64 0] 86)) w.heap.size 82 #[.int .i64 k, .string t, .int .i64 l, .int .i64 c] := ((Blk.new w _ _).keep hb2).alloc _
  have S3 : Scn (w2.alloc (.cells #[.string s, .int .i64 0, .int .i64 0, .int .i64 0] 86)) w2.heap.size s 0 0 0 := Blk.new w2 _ _
  have hs2 := hb2.size
  simp at hs2
  have B3 : Below w.heap.size w (w2.alloc (.cells #[.string s, .int .i64 0, .int .i64 0, .int .i64 0] 86)) := (((Below.refl _ _).alloc (Nat.le_refl _) _).trans (hb2.mono (by simp))).alloc (by omega) _
  obtain ⟨g, hg⟩ : ∃ g, w2.heap.size = g := ⟨_, rfl⟩
  rw [hg] at S3 hs2
  rw [hg]
  generalize w2.alloc (.cells #[.string s, .int .i64 0, .int .i64 0, .int .i64 0] 86) = W at *
  clear hb2 hg w2
  have hgW := S3.lt
  have hNx := next_c s 0 g (0, 0) W S3 (Nat.zero_le _) (by omega) (by decide) (by simp only; omega) (by decide) (by simp only; omega)
  by_cases hcode : oneC s (sk s 0) = 0
  · have HN : Calls Try.prog 46 #[.pointer (some ⟨g, 0, none⟩)] W fun e w' => ∃ L C, e = .returned (.tuple #[.agg #[.int .i64 (oneK s (sk s 0) : Int), .string (tkAt s (sk s 0)).text, .int .i64 L, .int .i64 C], .agg #[.int .i64 0, .int .i64 0, .int .i64 0, .string ⟨#[]⟩]]) ∧ But W.heap.size g W w' := by
      refine hNx.mono ?_
      rintro e w' ⟨code, hc2, rfl, _, hb⟩
      rw [hcode] at hc2
      subst hc2
      exact ⟨_, _, by simp [zi, zs, zn, tkAt]; exact ⟨rfl, rfl⟩, hb⟩
    have hR : chkT k t = sameB (oneK s (sk s 0) : Int) k (tkAt s (sk s 0)).text t := by
      unfold chkT sameB
      rw [hs, hcode]
      simp
    rw [hR0] at hR
    obtain ⟨K, hK⟩ : ∃ K : Int, (oneK s (sk s 0) : Int) = K := ⟨_, rfl⟩
    obtain ⟨T, hT⟩ : ∃ T, (tkAt s (sk s 0)).text = T := ⟨_, rfl⟩
    rw [hK, hT] at hR
    rw [hK, hT] at HN
    have HR := Lib.hid hR
    clear hNx hcode hR hR0 hK hT
    go_wp2_with (first
      | (go_at_call 46; refine HN.mono ?_; rintro e w4 ⟨L, C, rfl, hb4⟩
         have T4 := hb4.blk T3 (by omega) (by omega)
         have c0 : ∀ o1 o2, ((w4.alloc o1).alloc o2).cell? ⟨w.heap.size, 0, none⟩ = some (.int .i64 k) := fun o1 o2 => ((T4.alloc o1).alloc o2).cell 0
         have c1 : ∀ o1 o2, ((w4.alloc o1).alloc o2).cell? ⟨w.heap.size, 1, none⟩ = some (.string t) := fun o1 o2 => ((T4.alloc o1).alloc o2).cell 1
         have c2 : ∀ o1 o2, ((w4.alloc o1).alloc o2).cell? ⟨w.heap.size, 2, none⟩ = some (.int .i64 l) := fun o1 o2 => ((T4.alloc o1).alloc o2).cell 2
         have c3 : ∀ o1 o2, ((w4.alloc o1).alloc o2).cell? ⟨w.heap.size, 3, none⟩ = some (.int .i64 c) := fun o1 o2 => ((T4.alloc o1).alloc o2).cell 3)
      | (go_at_call 47; refine (sameToken_c _ _ _ _ _ _ _ _ _).mono ?_; rintro e w5 ⟨rfl, hb5⟩))
    have hs4 := hb4.size
    go_ret
    exact ⟨by rw [HR.out]; rfl, (((B3.trans ((hb4.mono B3.size).to_below (by omega))).alloc (by have := B3.size; omega) _).alloc (by have := B3.size; simp; omega) _).trans (hb5.mono (by have := B3.size; simp; omega))⟩
  · have HN : Calls Try.prog 46 #[.pointer (some ⟨g, 0, none⟩)] W fun e w' => ∃ L C, e = .returned (.tuple #[.agg #[.int .i64 0, .string ⟨#[]⟩, .int .i64 0, .int .i64 0], .agg #[.int .i64 (oneC s (sk s 0)), .int .i64 L, .int .i64 C, .string ⟨#[]⟩]]) ∧ But W.heap.size g W w' := by
      refine hNx.mono ?_
      rintro e w' ⟨code, rfl, rfl, _, hb⟩
      exact ⟨_, _, by simp [zi, zs, zn, hcode]; exact ⟨rfl, rfl⟩, hb⟩
    have hR : chkT k t = false := by
      unfold chkT
      rw [hs, decide_eq_false hcode]
      rfl
    obtain rfl : R = false := hR0.symm.trans hR
    obtain ⟨code, hcc⟩ : ∃ code, oneC s (sk s 0) = code := ⟨_, rfl⟩
    rw [hcc] at HN
    have q : (code == 0) = false := by rw [← hcc]; simpa using hcode
    clear hNx hcode hR hR0 hcc
    go_wp2_with (go_at_call 46; refine HN.mono ?_; rintro e w4 ⟨L, C, rfl, hb4⟩)
    have hs4 := hb4.size
    go_ret
    exact ⟨rfl, (((B3.trans ((hb4.mono B3.size).to_below (by omega))).alloc (by have := B3.size; omega) _).alloc (by have := B3.size; simp; omega) _)⟩
def identB (t : ByteArray) : Bool := nameB t && !isKw t
set_option maxRecDepth 100000 in
theorem identifier_c (t : ByteArray) (w : World) (ht : t.size ≤ 9223372036854775807) :
    Calls Try.prog 32 #[.string t] w fun e w' => e = .returned (.bool (identB t)) ∧ Below w.heap.size w w' := by
  unfold identB
  rw [← chk_1]
  cases hB : chkT 1 t
  all_goals
    go_enter Try.func32, Try.ntmps32
    go_wp2_with (first
        | (go_at_call 38; refine (check_c _ _ _ _ _ (show (spell 1 t).size ≤ _ from ht)).mono ?_; rintro e w4 ⟨rfl, hb4⟩; rw [hB])
        | (go_at_call 39; refine (kw_c _ _).mono ?_; rintro e w5 ⟨rfl, rfl⟩))
    go_ret
    exact ⟨rfl, hb4⟩
end Go.Proofs.Ytffgjamnijhlpaa
