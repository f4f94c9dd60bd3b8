/- Package token: the tokens before the end; Same: through slices.IndexFunc and slices.EqualFunc. -/
import Derived.Test.YthjfedkginjbeaaTud
namespace Go.Proofs.Ythjfedkginjbeaa
open Go.RowKit
theorem bend1_c (K L C : Int) (X : ByteArray) (w : World) :
    Calls Try.prog 63 #[.agg #[.int .i64 K, .string X, .int .i64 L, .int .i64 C]] w fun e w' => e = .returned (.bool (K == 0)) ∧ Below w.heap.size w w' := by
  go_enter Try.func63, Try.ntmps63
  go_wp2
  go_ret
  exact ⟨rfl, (Below.refl _ _).alloc (Nat.le_refl _) _⟩
def idxI (l : List TI) : Int := if firstN l < l.length then (firstN l : Int) else -1
set_option maxRecDepth 100000 in
set_option maxHeartbeats 2000000 in
theorem idx_c (v : Value) (l : List TI) (w : World) (hn : l.length ≤ 1000000000000) (hT : Toks w v l) :
    Calls Try.prog 62 #[v, .func (.func 63) #[] #[]] w fun e w' => e = .returned (.int .i64 (idxI l)) ∧ Below w.heap.size w w' := by
  obtain ⟨ao, cap, rfl, hcap, hT⟩ := hT
  obtain ⟨R, hR⟩ : ∃ R, idxI l = R := ⟨_, rfl⟩
  rw [hR]
  go_enter Try.func62, Try.ntmps62
  go_wp2_with fail
  go_loopw [8] (fun vi wr => ∃ i : Nat, i ≤ l.length ∧ vi = .int .i64 i ∧ (∀ k (_ : k < i) (h' : k < l.length), l[k].kind ≠ 0) ∧ Below w.heap.size w wr)
    (fun vi _ => l.length - (intOf vi).toNat)
  case atStart => exact ⟨0, Nat.zero_le _, rfl, fun k h => absurd h (by omega), Below.refl _ _⟩
  case round =>
    obtain ⟨i, hi, rfl, hall, hb⟩ := hrel
    have HA := Lib.hid hall
    clear hall
    by_cases hlt : i < l.length
    · obtain ⟨g, o, rfl, hRow⟩ := hT (by rintro rfl; simp at hlt)
      have hlg := hRow.lt (by rintro rfl; simp at hlt)
      obtain ⟨r0, r1, r2, r3⟩ := (hRow.keep (hb.block g hlg)).at hlt
      have hlt' : (i : Int) < (l.length : Int) := by omega
      obtain ⟨⟨K, X, L, C⟩, htk⟩ : ∃ t, l[i] = t := ⟨_, rfl⟩
      rw [htk] at r0 r1 r2 r3
      simp only at r0 r1 r2 r3
      by_cases ht : K = 0
      · have hN := firstN_spec l i hi HA.out (fun _ => by rw [htk]; exact ht)
        have hR0 : R = (i : Int) := by rw [← hR]; unfold idxI; rw [hN, if_pos hlt]
        subst hR0
        clear hN hR htk
        subst ht
        go_wp2_with (go_at_call 63; refine (bend1_c _ _ _ _ _).mono ?_; rintro e w2 ⟨rfl, hb2⟩; rw [show ((0 : Int) == 0) = true from rfl])
        go_ret
        exact ⟨rfl, hb.trans (hb2.mono hb.size)⟩
      · have ht' : (K == 0) = false := by simpa using ht
        have HK := Lib.hid htk
        clear htk hR
        go_wp2_with (go_at_call 63; refine (bend1_c _ _ _ _ _).mono ?_; rintro e w2 ⟨rfl, hb2⟩; rw [ht'])
        refine ⟨⟨i + 1, hlt, by simp, fun k h h' => ?_, hb.trans (hb2.mono hb.size)⟩, by simp [intOf]; omega⟩
        rcases Nat.lt_or_ge k i with hk | hk
        · exact HA.out k hk h'
        · obtain rfl : k = i := by omega
          rw [HK.out]; exact ht
    · obtain rfl : i = l.length := by omega
      have hN := firstN_spec l l.length hi HA.out (fun h => by omega)
      have hR0 : R = -1 := by rw [← hR]; unfold idxI; rw [hN, if_neg (by omega)]
      subst hR0
      go_wp2
      go_ret
      exact ⟨rfl, hb⟩
set_option maxRecDepth 100000 in
set_option maxHeartbeats 2000000 in
theorem bend_c (v : Value) (l : List TI) (w : World) (hn : l.length ≤ 1000000000000) (hT : Toks w v l) :
    Calls Try.prog 43 #[v] w fun e w' => ∃ v', e = .returned v' ∧ Toks w' v' (l.take (firstN l)) ∧ Below w.heap.size w w' := by
  have hI := idx_c v l w hn hT
  have HT := Lib.hid hT
  obtain ⟨ao, cap, rfl, hcap, hT⟩ := hT
  unfold idxI at hI
  have hle := firstN_le l
  by_cases hf : firstN l < l.length
  · rw [if_pos hf] at hI
    obtain ⟨F, hF⟩ : ∃ F, firstN l = F := ⟨_, rfl⟩
    rw [hF] at hI hf hle
    rw [hF]
    have c1 : ¬ (F : Int) < 0 := by omega
    have c2 : (F : Int) ≤ (cap : Int) := by omega
    clear hF hT
    go_enter Try.func43, Try.ntmps43
    go_wp2_with (go_at_call 62; refine hI.mono ?_; rintro e w2 ⟨rfl, hb2⟩)
    go_ret
    exact ⟨_, rfl, (HT.out.take F hle).keep hb2, hb2⟩
  · rw [if_neg hf] at hI
    rw [show firstN l = l.length by omega, List.take_length]
    go_enter Try.func43, Try.ntmps43
    go_wp2_with (go_at_call 62; refine hI.mono ?_; rintro e w2 ⟨rfl, hb2⟩)
    go_ret
    exact ⟨_, rfl, HT.out.keep hb2, hb2⟩
def TI.key (t : TI) : Int × ByteArray := (t.kind, t.text)
def sameL (a b : List TI) : Bool := decide (a.map TI.key = b.map TI.key)
theorem sameL_len {a b : List TI} (h : a.length ≠ b.length) : sameL a b = false := decide_eq_false fun e => h (by have := congrArg List.length e; simpa using this)
theorem sameL_yes {a b : List TI} (h : a.length = b.length) (hk : ∀ k (h1 : k < a.length) (h2 : k < b.length), a[k].key = b[k].key) : sameL a b = true := by
  apply decide_eq_true
  apply List.ext_getElem (by simpa using h)
  intro k h1 h2
  simp only [List.getElem_map]
  exact hk k _ _
theorem sameL_no {a b : List TI} {k : Nat} (h1 : k < a.length) (h2 : k < b.length) (h : a[k].key ≠ b[k].key) : sameL a b = false := by
  apply decide_eq_false
  intro e
  apply h
  have := congrArg (fun l => l[k]?) e
  simp only [List.getElem?_map, List.getElem?_eq_getElem h1, List.getElem?_eq_getElem h2] at this
  simpa using this
set_option maxRecDepth 100000 in
set_option maxHeartbeats 4000000 in
theorem eqf_c (v v2 : Value) (l m : List TI) (w : World) (hn : l.length ≤ 1000000000000) (hn2 : m.length ≤ 1000000000000) (hT : Toks w v l) (hM : Toks w v2 m) :
    Calls Try.prog 48 #[v, v2, .func (.func 40) #[] #[]] w fun e w' => e = .returned (.bool (sameL l m)) ∧ Below w.heap.size w w' := by
  obtain ⟨ao, cap, rfl, hcap, hT⟩ := hT
  obtain ⟨ao2, cap2, rfl, hcap2, hM⟩ := hM
  obtain ⟨R, hR⟩ : ∃ R, sameL l m = R := ⟨_, rfl⟩
  rw [hR]
  by_cases hlen : l.length = m.length
  · have HL := Lib.hid hlen
    rw [hlen]
    rw [hlen] at hcap hn
    clear hlen
    go_enter Try.func48, Try.ntmps48
    go_wp2_with fail
    go_loopw [17] (fun vi wr => ∃ i : Nat, i ≤ m.length ∧ vi = .int .i64 i ∧ (∀ k (_ : k < i) (h1 : k < l.length) (h2 : k < m.length), l[k].key = m[k].key) ∧ Below w.heap.size w wr)
      (fun vi _ => m.length - (intOf vi).toNat)
    case atStart => exact ⟨0, Nat.zero_le _, rfl, fun k h => absurd h (by omega), Below.refl _ _⟩
    case round =>
      obtain ⟨i, hi, rfl, hall, hb⟩ := hrel
      have HA := Lib.hid hall
      clear hall
      by_cases hlt2 : i < m.length
      · have hlt : i < l.length := by rw [HL.out]; exact hlt2
        obtain ⟨g, o, rfl, hRow⟩ := hT (by rintro rfl; simp at hlt)
        obtain ⟨g2, o2, rfl, hRow2⟩ := hM (by rintro rfl; simp at hlt2)
        have hlg := hRow.lt (by rintro rfl; simp at hlt)
        have hlg2 := hRow2.lt (by rintro rfl; simp at hlt2)
        obtain ⟨r0, r1, r2, r3⟩ := (hRow.keep (hb.block g hlg)).at hlt
        have hsz := hb.size
        have hQ : ∀ ob, Row (wr.alloc ob) g2 o2 m := fun ob => (hRow2.keep (hb.block g2 hlg2)).keep (Below.heap_alloc wr ob g2 (by omega))
        have q0 : ∀ ob, (wr.alloc ob).cell? ⟨g2, o2 + i * 4, none⟩ = some (.int .i64 m[i].kind) := fun ob => ((hQ ob).at hlt2).1
        have q1' : ∀ ob, (wr.alloc ob).cell? ⟨g2, o2 + i * 4 + 1, none⟩ = some (.string m[i].text) := fun ob => ((hQ ob).at hlt2).2.1
        have q2 : ∀ ob, (wr.alloc ob).cell? ⟨g2, o2 + i * 4 + 2, none⟩ = some (.int .i64 m[i].line) := fun ob => ((hQ ob).at hlt2).2.2.1
        have q3 : ∀ ob, (wr.alloc ob).cell? ⟨g2, o2 + i * 4 + 3, none⟩ = some (.int .i64 m[i].col) := fun ob => ((hQ ob).at hlt2).2.2.2
        clear hQ
        have hlt2' : (i : Int) < (m.length : Int) := by omega
        obtain ⟨⟨K, X, L, C⟩, htk⟩ : ∃ t, l[i] = t := ⟨_, rfl⟩
        obtain ⟨⟨K2, X2, L2, C2⟩, htk2⟩ : ∃ t, m[i] = t := ⟨_, rfl⟩
        rw [htk] at r0 r1 r2 r3
        rw [htk2] at q0 q1' q2 q3
        simp only at r0 r1 r2 r3 q0 q1' q2 q3
        cases hs : sameB K K2 X X2
        · have hR0 : R = false := by
            rw [← hR]
            refine sameL_no hlt hlt2 ?_
            rw [htk, htk2]
            intro e
            simp only [TI.key, Prod.mk.injEq] at e
            simp [sameB, e.1, e.2] at hs
          subst hR0
          have HS := Lib.hid hs
          clear htk htk2 hR hs
          go_wp2_with (go_at_call 40; refine (sameToken_c _ _ _ _ _ _ _ _ _).mono ?_; rintro e w2 ⟨rfl, hb2⟩; rw [HS.out])
          go_ret
          exact ⟨rfl, ((hb.alloc (by omega) _).alloc (by simp; omega) _).trans (hb2.mono (by simp; omega))⟩
        · have HK : Hid (l[i].key = m[i].key) := by
            rw [htk, htk2]
            simp [sameB] at hs
            exact Lib.hid (by simp [TI.key, hs.1, hs.2])
          have HS := Lib.hid hs
          clear htk htk2 hR hs
          go_wp2_with (go_at_call 40; refine (sameToken_c _ _ _ _ _ _ _ _ _).mono ?_; rintro e w2 ⟨rfl, hb2⟩; rw [HS.out])
          go_roundw
          case rel =>
            refine ⟨i + 1, hlt2, by simp, fun k h h1 h2 => ?_, ((hb.alloc (by omega) _).alloc (by simp; omega) _).trans (hb2.mono (by simp; omega))⟩
            rcases Nat.lt_or_ge k i with hk | hk
            · exact HA.out k hk h1 h2
            · obtain rfl : k = i := by omega
              exact HK.out
          case measure => simp [intOf]; omega
      · obtain rfl : i = m.length := by omega
        have hR0 : R = true := by rw [← hR]; exact sameL_yes HL.out (fun k h1 h2 => HA.out k h2 h1 h2)
        subst hR0
        go_wp2
        go_ret
        exact ⟨rfl, hb⟩
  · have hR0 : R = false := by rw [← hR]; exact sameL_len hlen
    subst hR0
    have hlen' : ((l.length : Int) == (m.length : Int)) = false := by simp; omega
    go_enter Try.func48, Try.ntmps48
    go_wp2
    go_ret
    exact ⟨rfl, Below.refl _ _⟩
theorem same_c (v v2 : Value) (l m : List TI) (w : World) (hn : l.length ≤ 1000000000000) (hn2 : m.length ≤ 1000000000000) (hT : Toks w v l) (hM : Toks w v2 m) :
    Calls Try.prog 26 #[v, v2] w fun e w' => e = .returned (.bool (sameL l m)) ∧ Below w.heap.size w w' := by
  have hE := eqf_c v v2 l m w hn hn2 hT hM
  go_enter Try.func26, Try.ntmps26
  go_wp2_with (go_at_call 48; refine hE.mono ?_; rintro e w2 ⟨rfl, hb2⟩)
  go_ret
  exact ⟨rfl, hb2⟩
end Go.Proofs.Ythjfedkginjbeaa
