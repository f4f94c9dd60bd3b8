/- The reference's table in memory: First, Find and Name. -/
import Derived.Test.YtffgjamnijhlpaaSyj
import Derived.Test.YtffgjamnijhlpaaSye
namespace Go.Proofs.Ytffgjamnijhlpaa
open Go.RowKit Go.Maps Go.Sort
/-- from cell o of block g on lie these pairs -/
def ARow (w : World) (g o : Nat) (l : List (ByteArray × Int)) : Prop := ∀ k (h : k < l.length), w.cell? ⟨g, o + k * 2, none⟩ = some (.string l[k].1) ∧ w.cell? ⟨g, o + k * 2 + 1, none⟩ = some (.int .i64 l[k].2)
/-- a slice that reads as these pairs -/
def Als (w : World) (v : Value) (l : List (ByteArray × Int)) : Prop := ∃ ao cap, v = .slice ao l.length cap ∧ (l ≠ [] → ∃ g o, ao = some ⟨g, o, none⟩ ∧ ARow w g o l)
section
variable {w w' : World} {v : Value} {l : List (ByteArray × Int)} {g o : Nat}
theorem ARow.lt (h : ARow w g o l) (hl : 0 < l.length) : g < w.heap.size := by
  have := (h 0 hl).1
  rcases Nat.lt_or_ge g w.heap.size with h' | h'
  · exact h'
  · simp [World.cell?, Array.getElem?_eq_none h'] at this
theorem ARow.keep (h : ARow w g o l) (hb : w'.heap[g]? = w.heap[g]?) : ARow w' g o l := fun k hk => ⟨(World.cell?_of_block hb).trans (h k hk).1, (World.cell?_of_block hb).trans (h k hk).2⟩
theorem Als.nil : Als w (.slice none 0 0) [] := ⟨none, 0, rfl, fun h => absurd rfl h⟩
theorem Als.keep (h : Als w v l) (hb : Below w.heap.size w w') : Als w' v l := by
  obtain ⟨ao, cap, rfl, hr⟩ := h
  refine ⟨ao, cap, rfl, fun hl => ?_⟩
  obtain ⟨g, o, rfl, hR⟩ := hr hl
  exact ⟨g, o, rfl, hR.keep (hb.block g (hR.lt (List.length_pos_iff.2 hl)))⟩
theorem Blk.box3 {t : TypeId} {a b c : Value} (h : Blk w g t #[a, b, c]) : w.cell? ⟨g, 0, none⟩ = some a ∧ w.cell? ⟨g, 1, none⟩ = some b ∧ w.cell? ⟨g, 2, none⟩ = some c := ⟨h.cell 0, h.cell 1, h.cell 2⟩
end
section
variable {w : World} {limit : Int} {vn va : Value} {names : List ByteArray} {als : List (ByteArray × Int)}
theorem look_name (hn : (Keys (Fe names als)).Nodup) {i : Nat} (hi : i < names.length) : lookE (Fe names als) names[i] = i ∧ hasE (Fe names als) names[i] = true := by
  have hm : (names[i], (i : Int)) ∈ Fe names als := List.mem_append.2 (.inl (numE_mem hi))
  exact ⟨lookE_mem hn hm, hasE_mem hm⟩
theorem look_alias (hn : (Keys (Fe names als)).Nodup) {i : Nat} (hi : i < als.length) : lookE (Fe names als) als[i].1 = als[i].2 ∧ hasE (Fe names als) als[i].1 = true := by
  have hm : (als[i].1, als[i].2) ∈ Fe names als := List.mem_append.2 (.inr (List.getElem_mem hi))
  exact ⟨lookE_mem hn hm, hasE_mem hm⟩
theorem look_not {s : ByteArray} (h1 : ∀ k (_ : k < names.length), names[k] ≠ s) (h2 : ∀ k (_ : k < als.length), als[k].1 ≠ s) : lookE (Fe names als) s = 0 ∧ hasE (Fe names als) s = false := by
  have hf : hasE (Fe names als) s = false := by
    cases hh : hasE (Fe names als) s
    · rfl
    · have hm := (hasE_keys _ _).1 hh
      rw [Fe_keys] at hm
      rcases List.mem_append.1 hm with h | h
      · obtain ⟨k, hk, e⟩ := List.mem_iff_getElem.1 h
        exact absurd e (h1 k hk)
      · obtain ⟨p, hp, e⟩ := List.mem_map.1 h
        obtain ⟨k, hk, rfl⟩ := List.mem_iff_getElem.1 hp
        exact absurd e (h2 k hk)
  exact ⟨lookE_no hf, hf⟩
set_option maxRecDepth 100000 in
set_option maxHeartbeats 2000000 in
theorem rfind_c (s : ByteArray) (hN : Strs w vn names) (hA : Als w va als) (hn : (Keys (Fe names als)).Nodup) (hl : names.length ≤ 1000000) (ha : als.length ≤ 1000000) :
    Calls Try.prog 15 #[.agg #[.int .i64 limit, vn, va], .string s] w fun e w' => e = .returned (.tuple #[.int .i64 (lookE (Fe names als) s), .bool (hasE (Fe names als) s)]) ∧ Below w.heap.size w w' := by
  obtain ⟨ao, cap, rfl, hN⟩ := hN
  obtain ⟨ao2, cap2, rfl, hA⟩ := hA
  obtain ⟨R, hR⟩ : ∃ R, lookE (Fe names als) s = R := ⟨_, rfl⟩
  obtain ⟨H, hH⟩ : ∃ H, hasE (Fe names als) s = H := ⟨_, rfl⟩
  rw [hR, hH]
  have HN := Lib.hid hN
  have HA := Lib.hid hA
  have HR := Lib.hid hR
  have HH := Lib.hid hH
  have HD := Lib.hid hn
  clear hN hA hR hH hn
  go_enter Try.func15, Try.ntmps15
  go_wp2_with fail
  have hW : Below w.heap.size w (w.alloc (.cells #[.int .i64 limit, .slice ao names.length cap, .slice ao2 als.length cap2] 28)) := (Below.refl _ _).alloc (Nat.le_refl _) _
  obtain ⟨c0, c1, c2⟩ := (Blk.new w 28 #[.int .i64 limit, .slice ao names.length cap, .slice ao2 als.length cap2]).box3
  generalize w.alloc (.cells #[.int .i64 limit, .slice ao names.length cap, .slice ao2 als.length cap2] 28) = W at *
  have HW := Lib.hid hW
  clear hW
  go_loop [6] (fun vi => ∃ i : Nat, i ≤ names.length ∧ vi = .int .i64 i ∧ Hid (∀ k (_ : k < i) (h : k < names.length), names[k] ≠ s)) (fun vi => names.length - (intOf vi).toNat)
  case atStart => exact ⟨0, Nat.zero_le _, rfl, Lib.hid fun k h => absurd h (by omega)⟩
  case round =>
    obtain ⟨i, hi, rfl, HS⟩ := hrel
    by_cases hlt : i < names.length
    · obtain ⟨g, o, rfl, hRow⟩ := HN.out (by rintro rfl; simp at hlt)
      have q1 := (hRow.keep (HW.out.block g (hRow.lt (by omega)))) i hlt
      have hlt' : (i : Int) < (names.length : Int) := by omega
      obtain ⟨x, hx⟩ : ∃ x, names[i] = x := ⟨_, rfl⟩
      rw [hx] at q1
      by_cases hxs : x = s
      · subst hxs
        obtain ⟨e1, e2⟩ := look_name HD.out hlt
        rw [hx, HR.out] at e1
        rw [hx, HH.out] at e2
        subst e1 e2
        clear hx HS hRow HR HH
        go_wp2_with fail
        go_ret2
        exact ⟨rfl, HW.out⟩
      · have h2 : (x.toList == s.toList) = false := by
          rw [bytes_beq]
          exact decide_eq_false hxs
        have HS2 : Hid (∀ k (_ : k < i + 1) (h : k < names.length), names[k] ≠ s) := Lib.hid fun k h h1 => by
          rcases Nat.lt_or_ge k i with hk | hk
          · exact HS.out k hk h1
          · obtain rfl : k = i := by omega
            rw [hx]; exact hxs
        clear hx HS hRow
        go_wp2_with fail
        go_round
        case rel => exact ⟨i + 1, hlt, by go_num, HS2⟩
        case measure => simp [intOf]; omega
    · obtain rfl : i = names.length := by omega
      go_wp2_with fail
      go_loop [7] (fun vi => ∃ i : Nat, i ≤ als.length ∧ vi = .int .i64 i ∧ Hid (∀ k (_ : k < i) (h : k < als.length), als[k].1 ≠ s)) (fun vi => als.length - (intOf vi).toNat)
      case atStart => exact ⟨0, Nat.zero_le _, rfl, Lib.hid fun k h => absurd h (by omega)⟩
      case round =>
        obtain ⟨j, hj, rfl, HT⟩ := hrel
        by_cases hlt : j < als.length
        · obtain ⟨g, o, rfl, hRow⟩ := HA.out (by rintro rfl; simp at hlt)
          obtain ⟨q1, q2⟩ := (hRow.keep (HW.out.block g (hRow.lt (by omega)))) j hlt
          have hlt' : (j : Int) < (als.length : Int) := by omega
          obtain ⟨x, hx⟩ : ∃ x, als[j].1 = x := ⟨_, rfl⟩
          rw [hx] at q1
          by_cases hxs : x = s
          · subst hxs
            obtain ⟨e1, e2⟩ := look_alias HD.out hlt
            rw [hx, HR.out] at e1
            rw [hx, HH.out] at e2
            subst e2
            rw [← e1] at q2
            clear hx HS HT hRow HR HH e1
            go_wp2_with fail
            go_ret2
            exact ⟨rfl, HW.out⟩
          · have h2 : (x.toList == s.toList) = false := by
              rw [bytes_beq]
              exact decide_eq_false hxs
            have HS2 : Hid (∀ k (_ : k < j + 1) (h : k < als.length), als[k].1 ≠ s) := Lib.hid fun k h h1 => by
              rcases Nat.lt_or_ge k j with hk | hk
              · exact HT.out k hk h1
              · obtain rfl : k = j := by omega
                rw [hx]; exact hxs
            clear hx HT hRow
            go_wp2_with fail
            go_round
            case rel => exact ⟨j + 1, hlt, by go_num, HS2⟩
            case measure => simp [intOf]; omega
        · obtain rfl : j = als.length := by omega
          obtain ⟨e1, e2⟩ := look_not (s := s) (fun k h => HS.out k h h) (fun k h => HT.out k h h)
          rw [HR.out] at e1
          rw [HH.out] at e2
          subst e1 e2
          clear HR HH
          go_wp2_with fail
          go_ret2
          exact ⟨rfl, HW.out⟩
/-- the name of a number -/
def symNR (names : List ByteArray) (n : Int) : ByteArray := if 0 ≤ n then names[n.toNat]?.getD ⟨#[]⟩ else ⟨#[]⟩
def symNB (names : List ByteArray) (n : Int) : Bool := decide (0 ≤ n ∧ n < names.length)
theorem nameR_in {i : Nat} (h : i < names.length) : symNR names i = names[i] ∧ symNB names i = true := by
  unfold symNR symNB
  simp [h]
theorem nameR_low {n : Int} (h : n < 0) : symNR names n = ⟨#[]⟩ ∧ symNB names n = false := by
  unfold symNR symNB
  rw [if_neg (by omega), decide_eq_false (by omega)]
  exact ⟨rfl, rfl⟩
theorem nameR_high {n : Int} (h : (names.length : Int) ≤ n) : symNR names n = ⟨#[]⟩ ∧ symNB names n = false := by
  unfold symNR symNB
  rw [if_pos (by omega), List.getElem?_eq_none (by omega), decide_eq_false (by omega)]
  exact ⟨rfl, rfl⟩
set_option maxRecDepth 100000 in
theorem rname_c (n : Int) (hN : Strs w vn names) (hl : names.length ≤ 1000000) :
    Calls Try.prog 17 #[.agg #[.int .i64 limit, vn, va], .int .i64 n] w fun e w' => e = .returned (.tuple #[.string (symNR names n), .bool (symNB names n)]) ∧ Below w.heap.size w w' := by
  obtain ⟨ao, cap, rfl, hN⟩ := hN
  have HN := Lib.hid hN
  have HL := Lib.hid (@nameR_low names n)
  have HI := Lib.hid (@nameR_high names n)
  clear hN
  obtain ⟨R, hR⟩ : ∃ R, symNR names n = R := ⟨_, rfl⟩
  obtain ⟨H, hH⟩ : ∃ H, symNB names n = H := ⟨_, rfl⟩
  rw [hR, hH]
  have HR := Lib.hid hR
  have HH := Lib.hid hH
  clear hR hH
  have hW : Below w.heap.size w (w.alloc (.cells #[.int .i64 limit, .slice ao names.length cap, va] 28)) := (Below.refl _ _).alloc (Nat.le_refl _) _
  have HW := Lib.hid hW
  clear hW
  by_cases h0 : n < 0
  · obtain ⟨e1, e2⟩ := HL.out h0
    rw [HR.out] at e1
    rw [HH.out] at e2
    subst e1 e2
    clear HR HH HL HI
    go_enter Try.func17, Try.ntmps17
    go_wp2_with fail
    go_ret2
    exact ⟨rfl, HW.out⟩
  · by_cases h1 : (names.length : Int) ≤ n
    · obtain ⟨e1, e2⟩ := HI.out h1
      rw [HR.out] at e1
      rw [HH.out] at e2
      subst e1 e2
      clear HR HH HL HI
      go_enter Try.func17, Try.ntmps17
      go_wp2_with fail
      go_ret2
      exact ⟨rfl, HW.out⟩
    · obtain ⟨i, rfl⟩ : ∃ i : Nat, n = i := ⟨n.toNat, by omega⟩
      have hlt : i < names.length := by omega
      obtain ⟨e1, e2⟩ := nameR_in hlt
      rw [HR.out] at e1
      rw [HH.out] at e2
      subst e2
      obtain ⟨g, o, rfl, hRow⟩ := HN.out (by rintro rfl; simp at hlt)
      have q1 := (hRow.keep (HW.out.block g (hRow.lt (by omega)))) i hlt
      rw [← e1] at q1
      have hlt' : (i : Int) < (names.length : Int) := by omega
      have h1' : ¬ (names.length : Int) ≤ (i : Int) := h1
      clear HR HH HL HI e1 hRow
      go_enter Try.func17, Try.ntmps17
      go_wp2_with fail
      go_ret2
      exact ⟨rfl, HW.out⟩
set_option maxRecDepth 100000 in
theorem first_out (n : Int) (h : n < 0 ∨ 4096 < n) : Calls Try.prog 10 #[.int .i64 n] w fun e w' => e = .returned (.tuple #[.agg #[.int .i64 0, .slice none 0 0, .slice none 0 0], .bool false]) ∧ Below w.heap.size w w' := by
  rcases h with h | h
  · go_enter Try.func10, Try.ntmps10
    go_wp2
    exact bodyPost_ret (v := .tuple #[.agg #[.int .i64 0, .slice none 0 0, .slice none 0 0], .bool false]) (by simp [results, Try.results10, go_sem]) rfl ⟨rfl, by first | exact (Below.refl _ _).alloc (Nat.le_refl _) _ | exact ((Below.refl _ _).alloc (Nat.le_refl _) _).setCell (p := ⟨_, 0, none⟩) (Nat.le_refl _) _⟩
  · have h' : ¬ n < 0 := by omega
    go_enter Try.func10, Try.ntmps10
    go_wp2
    exact bodyPost_ret (v := .tuple #[.agg #[.int .i64 0, .slice none 0 0, .slice none 0 0], .bool false]) (by simp [results, Try.results10, go_sem]) rfl ⟨rfl, by first | exact (Below.refl _ _).alloc (Nat.le_refl _) _ | exact ((Below.refl _ _).alloc (Nat.le_refl _) _).setCell (p := ⟨_, 0, none⟩) (Nat.le_refl _) _⟩
set_option maxRecDepth 100000 in
theorem first_c (n : Nat) (h : n ≤ 4096) : Calls Try.prog 10 #[.int .i64 n] w fun e w' => e = .returned (.tuple #[.agg #[.int .i64 n, .slice none 0 0, .slice none 0 0], .bool true]) ∧ Below w.heap.size w w' := by
  have h' : (n : Int) ≤ 4096 := by omega
  go_enter Try.func10, Try.ntmps10
  go_wp2
  exact bodyPost_ret (v := .tuple #[.agg #[.int .i64 n, .slice none 0 0, .slice none 0 0], .bool true]) (by simp [results, Try.results10, go_sem]) rfl ⟨rfl, by first | exact (Below.refl _ _).alloc (Nat.le_refl _) _ | exact ((Below.refl _ _).alloc (Nat.le_refl _) _).setCell (p := ⟨_, 0, none⟩) (Nat.le_refl _) _⟩
end
end Go.Proofs.Ytffgjamnijhlpaa
