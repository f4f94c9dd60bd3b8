/- The reference's LevelOf. -/
import Derived.Test.YthjebccidcichaaLvt
namespace Go.Proofs.Ythjebccidcichaa
open Go.RowKit
theorem mk_list' (s : ByteArray) : s = mk s.data.toList := (list_mk s).symm
theorem one_mk (i : Nat) : (⟨#[mkN i]⟩ : ByteArray) = mk [mkN i] := rfl
set_option maxRecDepth 100000 in
set_option maxHeartbeats 8000000 in
theorem rlevelOf_c (n : ByteArray) (cv : Value) (L : List Sp) (w : World) (hS : Spans w cv L) (hn : n.size ≤ 1000000) (hL : FewS L) :
    Calls Try.prog 45 #[.agg #[.string n, cv]] w fun e w' => e = .returned (.string (mk (levR (lvB n L)))) ∧ Below w.heap.size w w' := by
  obtain ⟨hL0, hLs⟩ := hL
  obtain ⟨ao, cap, rfl, hr⟩ := hS
  obtain ⟨R, hR⟩ : ∃ R, mk (levR (lvB n L)) = R := ⟨_, rfl⟩
  rw [hR]
  have HR := Lib.hid hR
  have HLS := Lib.hid hLs
  have hB := Blk.new w 50 #[.string n, .slice ao L.length cap]
  have hW : Kp w (w.alloc (.cells #[.string n, .slice ao L.length cap] 50)) := Kp.rfl'.alloc _
  have HRW : Hid (∀ i (h : i < L.length), ∃ g o, ao = some ⟨g, o, none⟩ ∧ (w.alloc (.cells #[.string n, .slice ao L.length cap] 50)).cell? ⟨g, o + i * 2, none⟩ = some (.string L[i].1) ∧ (w.alloc (.cells #[.string n, .slice ao L.length cap] 50)).cell? ⟨g, o + i * 2 + 1, none⟩ = some (.string L[i].2)) := Lib.hid fun i h => by
    obtain ⟨g, o, rfl, hR⟩ := hr (by rintro rfl; simp at h)
    exact ⟨g, o, rfl, (hR.keep (hW.block g (hR.lt (by omega)))) i h⟩
  clear hR hLs hr
  obtain ⟨y0, y1⟩ := hB.box2
  have HW := Lib.hid hW
  clear hB hW
  go_enter Try.func45, Try.ntmps45
  go_wp2_with fail
  generalize w.alloc (.cells #[.string n, .slice ao L.length cap] 50) = W at *
  go_loop [3, 4] (fun vs vi => ∃ i : Nat, i ≤ L.length ∧ vi = .int .i64 i ∧ vs = .string (mk (levR (lvB n (L.take i)))) ∧ (levR (lvB n (L.take i))).length ≤ 1000000 + i * 3000000) (fun _ vi => L.length - (intOf vi).toNat)
  case atStart => exact ⟨0, Nat.zero_le _, rfl, by rw [List.take_zero]; unfold lvB; rw [List.map_nil, levR_nil, list_mk], by rw [List.take_zero]; unfold lvB; rw [List.map_nil, levR_nil, ← Go.Lib.size_eq]; omega⟩
  case round =>
    obtain ⟨i, hi, rfl, rfl, hlen⟩ := hrel
    by_cases hlt : i < L.length
    · have hlt' : (i : Int) < (L.length : Int) := by omega
      obtain ⟨g, o, rfl, s1, s2⟩ := HRW.out i hlt
      have hst := lv_step (n := n) hlt
      have hbd := HLS.out _ (List.getElem_mem hlt)
      obtain ⟨sp, hsp⟩ : ∃ sp, L[i] = sp := ⟨_, rfl⟩
      rw [hsp] at s1 s2 hst hbd
      obtain ⟨x1, x2⟩ := sp
      simp only at s1 s2 hbd
      obtain ⟨A, hA⟩ : ∃ A, mk (levR (lvB n (L.take i))) = A := ⟨_, rfl⟩
      have hAl : A.data.toList = levR (lvB n (L.take i)) := by rw [← hA, mk_list]
      have hAs : A.size ≤ 1000000 + i * 3000000 := by rw [Go.Lib.size_eq, hAl]; exact hlen
      rw [hA]
      have he := empty_beq x2
      have hx1 := Go.Lib.size_eq x1
      have hx2 := Go.Lib.size_eq x2
      have hj0 : (A ++ ⟨#[mkN i]⟩ ++ x1) = mk (A.data.toList ++ [mkN i] ++ x1.data.toList) := by rw [mk_list' A, mk_list' x1, one_mk, mk_app, mk_app, mk_list, mk_list]
      have hj1 : (A ++ ⟨#[mkN i]⟩ ++ x1 ++ ⟨#[46]⟩ ++ x2) = mk (A.data.toList ++ [mkN i] ++ x1.data.toList ++ [46] ++ x2.data.toList) := by
        rw [hj0, show (⟨#[46]⟩ : ByteArray) = mk [46] from rfl, mk_list' x2, mk_app, mk_app, mk_list]
      have k1 : ¬ 9223372036854775807 < A.size + 1 := by omega
      have k2 : ¬ 9223372036854775807 < A.size + 1 + x1.size := by omega
      have k3 : ¬ 9223372036854775807 < A.size + 1 + x1.size + 1 := by omega
      have k4 : ¬ 9223372036854775807 < A.size + 1 + x1.size + 1 + x2.size := by omega
      have HL : Hid (levR (lvB n (L.take (i + 1))) = A.data.toList ++ mkN i :: spR (spB (x1, x2))) := Lib.hid (by rw [hst, hAl])
      have HLN : Hid ((levR (lvB n (L.take (i + 1)))).length ≤ 1000000 + (i + 1) * 3000000) := Lib.hid (by
        rw [hst, List.length_append, List.length_cons]
        have h1 := spR_len (x1, x2)
        simp only at h1
        omega)
      have HJ0 := Lib.hid hj0
      have HJ1 := Lib.hid hj1
      clear hA hAl hlen hst hsp hj0 hj1
      by_cases hz : x2.size = 0
      · rw [decide_eq_true hz] at he
        have HE : Hid (mk (levR (lvB n (L.take (i + 1)))) = A ++ ⟨#[mkN i]⟩ ++ x1) := Lib.hid (by
          rw [HJ0.out, HL.out]; unfold spR spB
          rw [if_pos (List.eq_nil_of_length_eq_zero (by rw [← hx2]; exact hz)), List.append_nil]; simp)
        clear HL HJ0 HJ1 hz hx1 hx2
        by_cases h0 : i = 0
        · have hb0 : ((i : Int) == 0) = true := by rw [h0]; rfl
          have hmk : mkN i = 58 := if_pos h0
          rw [hmk] at HE
          clear h0
          go_wp2_with fail
          go_round
          case rel => exact ⟨i + 1, hlt, by go_num, by rw [HE.out], HLN.out⟩
          case measure => simp [intOf]; omega
        · have hb0 : ((i : Int) == 0) = false := by simp; omega
          have hmk : mkN i = 44 := if_neg h0
          rw [hmk] at HE
          go_wp2_with fail
          go_round
          case rel => exact ⟨i + 1, hlt, by go_num, by rw [HE.out], HLN.out⟩
          case measure => simp [intOf]; omega
      · rw [decide_eq_false hz] at he
        have HE : Hid (mk (levR (lvB n (L.take (i + 1)))) = A ++ ⟨#[mkN i]⟩ ++ x1 ++ ⟨#[46]⟩ ++ x2) := Lib.hid (by
          rw [HJ1.out, HL.out]; unfold spR spB
          rw [if_neg (fun h => hz (by rw [hx2]; exact congrArg List.length h))]; simp)
        clear HL HJ0 HJ1 hz hx1 hx2
        by_cases h0 : i = 0
        · have hb0 : ((i : Int) == 0) = true := by rw [h0]; rfl
          have hmk : mkN i = 58 := if_pos h0
          rw [hmk] at HE
          clear h0
          go_wp2_with fail
          go_round
          case rel => exact ⟨i + 1, hlt, by go_num, by rw [HE.out], HLN.out⟩
          case measure => simp [intOf]; omega
        · have hb0 : ((i : Int) == 0) = false := by simp; omega
          have hmk : mkN i = 44 := if_neg h0
          rw [hmk] at HE
          go_wp2_with fail
          go_round
          case rel => exact ⟨i + 1, hlt, by go_num, by rw [HE.out], HLN.out⟩
          case measure => simp [intOf]; omega
    · obtain rfl : i = L.length := by omega
      rw [List.take_length, HR.out]
      clear hlen
      go_wp2_with fail
      go_ret
      exact ⟨rfl, HW.out⟩
end Go.Proofs.Ythjebccidcichaa
