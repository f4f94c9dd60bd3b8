/- nameset.Type and the reference's Type: the number of a type by its name or an alias. Condition: at most a million types, of a million aliases each. -/
import Derived.Test.YtbkejoheefnmiaaNsb
namespace Go.Proofs.Ytbkejoheefnmiaa
open Go.RowKit
theorem Blk.two {w : World} {g : Nat} {t : TypeId} {a b : Value} (h : Blk w g t #[a, b]) : w.cell? ⟨g, 0, none⟩ = some a ∧ w.cell? ⟨g, 1, none⟩ = some b := ⟨h.cell 0, h.cell 1⟩
/-- the reference's index, asked whether it found: the test decided -/
theorem hasT_ge {l : List ByteArray} {s : ByteArray} {b : Bool} (h : hasT l s = b) : decide (0 ≤ idxI l s) = b := h
set_option maxRecDepth 100000 in
set_option maxHeartbeats 2000000 in
theorem type_c (vT vA : Value) (L : List TyE) (n : ByteArray) (w : World) (hT : Tys w vT L) (hn : L.length ≤ 1000000) (hal : ∀ k (h : k < L.length), L[k].2.length ≤ 1000000) :
    Calls Try.prog 10 #[.string n, .agg #[vT, vA]] w fun e w' => e = .returned (.tuple #[.int .i64 (tyK L n), .bool (tyB L n)]) ∧ Below w.heap.size w w' := by
  obtain ⟨B, hB⟩ : ∃ B, tyB L n = B := ⟨_, rfl⟩
  obtain ⟨K, hK⟩ : ∃ K, tyK L n = K := ⟨_, rfl⟩
  rw [hB, hK]
  have HB := Lib.hid hB
  have HK := Lib.hid hK
  clear hB hK
  have hW : Below w.heap.size w (w.alloc (.cells #[vT, vA] 25)) := (Below.refl _ _).alloc (Nat.le_refl _) _
  have HT := Lib.hid (hT.keep hW)
  obtain ⟨y0, y1⟩ := (Blk.new w 25 #[vT, vA]).two
  have HW := Lib.hid hW
  obtain ⟨ao, cap, rfl, -⟩ := hT
  clear hW
  have HAL := Lib.hid hal
  clear hal
  go_enter Try.func10, Try.ntmps10
  go_wp2_with fail
  generalize w.alloc (.cells #[.slice ao L.length cap, vA] 25) = W at *
  obtain ⟨ao2, cap2, e2, hr⟩ := HT.out
  cases e2
  go_loop [10] (fun vi => ∃ i : Nat, i ≤ L.length ∧ vi = .int .i64 i ∧ Hid (∀ k (_ : k < i) (h' : k < L.length), hitT n L[k] = false)) (fun vi => L.length - (intOf vi).toNat)
  case atStart => exact ⟨0, Nat.zero_le _, rfl, Lib.hid fun k h => absurd h (by omega)⟩
  case round =>
    obtain ⟨i, hi, rfl, HA⟩ := hrel
    by_cases hlt : i < L.length
    · have hlt' : (i : Int) < (L.length : Int) := by omega
      obtain ⟨g, o, rfl, hg, hq⟩ := hr (by rintro rfl; simp at hlt)
      obtain ⟨q0, va, q1, hS⟩ := hq i hlt
      have hal := HAL.out i hlt
      obtain ⟨⟨nm, al⟩, hx⟩ : ∃ x, L[i] = x := ⟨_, rfl⟩
      rw [hx] at q0 hS hal
      simp only at q0 hS hal
      have HC := Lib.hid (contains_c va al n W hS (by omega))
      have HS := Lib.hid hS
      clear hS hq hal
      by_cases hs : nm = n
      · subst hs
        obtain ⟨e1, e2⟩ := ty_yes hlt (by rw [hx]; unfold hitT; rw [decide_eq_true rfl, Bool.true_or]) HA.out
        obtain rfl : true = B := by rw [← HB.out, e1]
        obtain rfl : (i : Int) = K := by rw [← HK.out, e2]
        clear hx HA e1 e2
        have hb : (nm.toList == nm.toList) = true := by simp
        go_wp2_with fail
        go_ret2
        exact ⟨rfl, HW.out⟩
      · have hb : (nm.toList == n.toList) = false := by rw [bytes_beq]; exact decide_eq_false hs
        cases hh : hasT al n
        · have HA2 : Hid (∀ k (_ : k < i + 1) (h' : k < L.length), hitT n L[k] = false) := Lib.hid fun k hk h => by
            rcases Nat.lt_or_ge k i with h' | h'
            · exact HA.out k h' h
            · obtain rfl : k = i := by omega
              rw [hx]; unfold hitT; rw [decide_eq_false hs, hh]; rfl
          clear hx HA hs
          go_wp2_with (go_at_call 33; refine HC.out.mono ?_; rintro e w2 ⟨rfl, rfl⟩; rw [hh])
          go_round
          case rel => exact ⟨i + 1, hlt, by go_num, HA2⟩
          case measure => simp [intOf]; omega
        · obtain ⟨e1, e2⟩ := ty_yes hlt (by rw [hx]; unfold hitT; rw [hh, Bool.or_true]) HA.out
          obtain rfl : true = B := by rw [← HB.out, e1]
          obtain rfl : (i : Int) = K := by rw [← HK.out, e2]
          clear hx HA e1 e2 hs
          go_wp2_with (go_at_call 33; refine HC.out.mono ?_; rintro e w2 ⟨rfl, rfl⟩; rw [hh])
          go_ret2
          exact ⟨rfl, HW.out⟩
    · obtain rfl : i = L.length := by omega
      obtain ⟨e1, e2⟩ := ty_no fun k h => HA.out k h h
      obtain rfl : false = B := by rw [← HB.out, e1]
      obtain rfl : 0 = K := by rw [← HK.out, e2]
      clear HA e1 e2
      go_wp2_with fail
      go_ret2
      exact ⟨rfl, HW.out⟩
set_option maxRecDepth 100000 in
set_option maxHeartbeats 2000000 in
theorem rtype_c (vT vA : Value) (L : List TyE) (n : ByteArray) (w : World) (hT : Tys w vT L) (hn : L.length ≤ 1000000) (hal : ∀ k (h : k < L.length), L[k].2.length ≤ 1000000) :
    Calls Try.prog 11 #[.string n, .agg #[vT, vA]] w fun e w' => e = .returned (.tuple #[.int .i64 (tyK L n), .bool (tyB L n)]) ∧ Below w.heap.size w w' := by
  obtain ⟨B, hB⟩ : ∃ B, tyB L n = B := ⟨_, rfl⟩
  obtain ⟨K, hK⟩ : ∃ K, tyK L n = K := ⟨_, rfl⟩
  rw [hB, hK]
  have HB := Lib.hid hB
  have HK := Lib.hid hK
  clear hB hK
  have hW : Below w.heap.size w (w.alloc (.cells #[vT, vA] 25)) := (Below.refl _ _).alloc (Nat.le_refl _) _
  have HT := Lib.hid (hT.keep hW)
  obtain ⟨y0, y1⟩ := (Blk.new w 25 #[vT, vA]).two
  have HW := Lib.hid hW
  obtain ⟨ao, cap, rfl, -⟩ := hT
  clear hW
  have HAL := Lib.hid hal
  clear hal
  go_enter Try.func11, Try.ntmps11
  go_wp2_with fail
  generalize w.alloc (.cells #[.slice ao L.length cap, vA] 25) = W at *
  obtain ⟨ao2, cap2, e2, hr⟩ := HT.out
  cases e2
  go_loop [6] (fun vi => ∃ i : Nat, i ≤ L.length ∧ vi = .int .i64 i ∧ Hid (∀ k (_ : k < i) (h' : k < L.length), hitT n L[k] = false)) (fun vi => L.length - (intOf vi).toNat)
  case atStart => exact ⟨0, Nat.zero_le _, rfl, Lib.hid fun k h => absurd h (by omega)⟩
  case round =>
    obtain ⟨i, hi, rfl, HA⟩ := hrel
    by_cases hlt : i < L.length
    · have hlt' : (i : Int) < (L.length : Int) := by omega
      obtain ⟨g, o, rfl, hg, hq⟩ := hr (by rintro rfl; simp at hlt)
      obtain ⟨q0, va, q1, hS⟩ := hq i hlt
      have hal := HAL.out i hlt
      obtain ⟨⟨nm, al⟩, hx⟩ : ∃ x, L[i] = x := ⟨_, rfl⟩
      rw [hx] at q0 hS hal
      simp only at q0 hS hal
      have HC := Lib.hid (rindex_c va al n W hS (by omega))
      have HS := Lib.hid hS
      clear hS hq hal
      by_cases hs : nm = n
      · subst hs
        obtain ⟨e1, e2⟩ := ty_yes hlt (by rw [hx]; unfold hitT; rw [decide_eq_true rfl, Bool.true_or]) HA.out
        obtain rfl : true = B := by rw [← HB.out, e1]
        obtain rfl : (i : Int) = K := by rw [← HK.out, e2]
        clear hx HA e1 e2
        have hb : (nm.toList == nm.toList) = true := by simp
        go_wp2_with fail
        go_ret2
        exact ⟨rfl, HW.out⟩
      · have hb : (nm.toList == n.toList) = false := by rw [bytes_beq]; exact decide_eq_false hs
        cases hh : hasT al n
        · have HA2 : Hid (∀ k (_ : k < i + 1) (h' : k < L.length), hitT n L[k] = false) := Lib.hid fun k hk h => by
            rcases Nat.lt_or_ge k i with h' | h'
            · exact HA.out k h' h
            · obtain rfl : k = i := by omega
              rw [hx]; unfold hitT; rw [decide_eq_false hs, hh]; rfl
          clear hx HA hs
          go_wp2_with (go_at_call 34; refine HC.out.mono ?_; rintro e w2 ⟨rfl, rfl⟩; have hg := hasT_ge hh)
          go_round
          case rel => exact ⟨i + 1, hlt, by go_num, HA2⟩
          case measure => simp [intOf]; omega
        · obtain ⟨e1, e2⟩ := ty_yes hlt (by rw [hx]; unfold hitT; rw [hh, Bool.or_true]) HA.out
          obtain rfl : true = B := by rw [← HB.out, e1]
          obtain rfl : (i : Int) = K := by rw [← HK.out, e2]
          clear hx HA e1 e2 hs
          go_wp2_with (go_at_call 34; refine HC.out.mono ?_; rintro e w2 ⟨rfl, rfl⟩; have hg := hasT_ge hh)
          go_ret2
          exact ⟨rfl, HW.out⟩
    · obtain rfl : i = L.length := by omega
      obtain ⟨e1, e2⟩ := ty_no fun k h => HA.out k h h
      obtain rfl : false = B := by rw [← HB.out, e1]
      obtain rfl : 0 = K := by rw [← HK.out, e2]
      clear HA e1 e2
      go_wp2_with fail
      go_ret2
      exact ⟨rfl, HW.out⟩
end Go.Proofs.Ytbkejoheefnmiaa
