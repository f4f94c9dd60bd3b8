/- A table that New did not return: its methods; lists of numbers that are equal. -/
import Derived.Test.YtomoldfgnbjliaaAvr
namespace Go.Proofs.Ytomoldfgnbjliaa
open Go.RowKit Go.Sort Go.Shelf
/-- not a table of New -/
def NotT (w : World) (p : Option Addr) : Prop := p = none ∨ ∃ g, p = some ⟨g, 0, none⟩ ∧ w.cell? ⟨g, 0, none⟩ = some (.pointer none)
section
variable {w : World} {p : Option Addr}
theorem NotT.keep {w' : World} (h : NotT w p) (hb : Below w.heap.size w w') : NotT w' p := by
  rcases h with h | ⟨g, h, hc⟩
  · exact .inl h
  · exact .inr ⟨g, h, by rw [hb.cell (World.block_lt_of_cell? _ _ hc)]; exact hc⟩
theorem made_not (h : NotT w p) : Calls Try.prog 37 #[.pointer p] w fun e w' => e = .returned (.bool false) ∧ w = w' := by
  rcases h with rfl | ⟨g, rfl, h⟩
  · exact made_nil
  · exact made_zero h
set_option maxRecDepth 100000 in
theorem activate_no (h : NotT w p) (v : Value) : Calls Try.prog 13 #[.pointer p, v] w fun e w' => e = .returned (.tuple #[]) ∧ w = w' := by
  have HMd := Lib.hid (made_not h)
  clear h
  go_enter Try.func13, Try.ntmps13
  go_wp2_with (go_at_call 37; refine HMd.out.mono ?_; rintro e w' ⟨rfl, rfl⟩)
  go_end0
  exact ⟨rfl, rfl⟩
set_option maxRecDepth 100000 in
theorem find_no (h : NotT w p) (a b c : Int) : Calls Try.prog 20 #[.pointer p, .int .i64 a, .int .i64 b, .int .i64 c] w fun e w' => e = .returned (.tuple #[.int .u32 0, .int .u32 0, .int .u32 0]) ∧ w = w' := by
  have HMd := Lib.hid (made_not h)
  clear h
  go_enter Try.func20, Try.ntmps20
  go_wp2_with (go_at_call 37; refine HMd.out.mono ?_; rintro e w' ⟨rfl, rfl⟩)
  go_ret3
  exact ⟨rfl, rfl⟩
set_option maxRecDepth 100000 in
theorem entries_no (h : NotT w p)  : Calls Try.prog 17 #[.pointer p] w fun e w' => e = .returned (.slice none 0 0) ∧ w = w' := by
  have HMd := Lib.hid (made_not h)
  clear h
  go_enter Try.func17, Try.ntmps17
  go_wp2_with (go_at_call 37; refine HMd.out.mono ?_; rintro e w' ⟨rfl, rfl⟩)
  go_ret
  exact ⟨rfl, rfl⟩
set_option maxRecDepth 100000 in
theorem visible_no (h : NotT w p)  : Calls Try.prog 18 #[.pointer p] w fun e w' => e = .returned (.slice none 0 0) ∧ w = w' := by
  have HMd := Lib.hid (made_not h)
  clear h
  go_enter Try.func18, Try.ntmps18
  go_wp2_with (go_at_call 37; refine HMd.out.mono ?_; rintro e w' ⟨rfl, rfl⟩)
  go_ret
  exact ⟨rfl, rfl⟩
set_option maxRecDepth 100000 in
theorem targets_no (h : NotT w p) (a b c : Int) : Calls Try.prog 22 #[.pointer p, .int .i64 a, .int .i64 b, .int .u32 c] w fun e w' => e = .returned (.slice none 0 0) ∧ w = w' := by
  have HMd := Lib.hid (made_not h)
  clear h
  go_enter Try.func22, Try.ntmps22
  go_wp2_with (go_at_call 37; refine HMd.out.mono ?_; rintro e w' ⟨rfl, rfl⟩)
  go_ret
  exact ⟨rfl, rfl⟩
set_option maxRecDepth 100000 in
theorem sources_no (h : NotT w p) (a b c : Int) : Calls Try.prog 23 #[.pointer p, .int .i64 a, .int .i64 b, .int .u32 c] w fun e w' => e = .returned (.slice none 0 0) ∧ w = w' := by
  have HMd := Lib.hid (made_not h)
  clear h
  go_enter Try.func23, Try.ntmps23
  go_wp2_with (go_at_call 37; refine HMd.out.mono ?_; rintro e w' ⟨rfl, rfl⟩)
  go_ret
  exact ⟨rfl, rfl⟩
set_option maxRecDepth 100000 in
theorem len_no (h : NotT w p)  : Calls Try.prog 21 #[.pointer p] w fun e w' => e = .returned (.int .i64 0) ∧ w = w' := by
  have HMd := Lib.hid (made_not h)
  clear h
  go_enter Try.func21, Try.ntmps21
  go_wp2_with (go_at_call 37; refine HMd.out.mono ?_; rintro e w' ⟨rfl, rfl⟩)
  go_ret
  exact ⟨rfl, rfl⟩
set_option maxRecDepth 100000 in
theorem copy_no (h : NotT w p)  : Calls Try.prog 15 #[.pointer p] w fun e w' => e = .returned (.pointer none) ∧ w = w' := by
  have HMd := Lib.hid (made_not h)
  clear h
  go_enter Try.func15, Try.ntmps15
  go_wp2_with (go_at_call 37; refine HMd.out.mono ?_; rintro e w' ⟨rfl, rfl⟩)
  go_ret
  exact ⟨rfl, rfl⟩
end
theorem ret_bool {a b : Bool} (h : a = b) : Ending.returned (.bool a) = .returned (.bool b) := by rw [h]
theorem list_ne {a b : List Int} {k : Nat} (ha : k < a.length) (hb : k < b.length) (h : a[k] ≠ b[k]) : decide (a = b) = false := by
  refine decide_eq_false fun e => h ?_
  subst e
  rfl
theorem list_eq {a b : List Int} (hl : a.length = b.length) (h : ∀ i (ha : i < a.length) (hb : i < b.length), a[i] = b[i]) : a = b := List.ext_getElem hl h
set_option maxRecDepth 100000 in
set_option maxHeartbeats 1000000 in
theorem ints_c (va vb : Value) (a b : List Int) (w : World) (ha0 : Ints w va a) (hb0 : Ints w vb b) (hma : a.length ≤ 10000) :
    Calls Try.prog 24 #[va, vb] w fun e w' => e = .returned (.bool (decide (a = b))) ∧ Below w.heap.size w w' := by
  obtain ⟨A, c, rfl, -, ha1⟩ := ha0
  obtain ⟨B, c', rfl, -, hb1⟩ := hb0
  have ha : ∀ k, (h : k < a.length) → ∃ g o, A = some ⟨g, o, none⟩ ∧ w.cell? ⟨g, o + k, none⟩ = some (.int .i64 a[k]) := fun k h => by
    obtain ⟨g, o, e, q⟩ := ha1 (List.ne_nil_of_length_pos (by omega))
    exact ⟨g, o, e, q k _ (List.getElem?_eq_getElem h)⟩
  have hb : ∀ k, (h : k < b.length) → ∃ g o, B = some ⟨g, o, none⟩ ∧ w.cell? ⟨g, o + k, none⟩ = some (.int .i64 b[k]) := fun k h => by
    obtain ⟨g, o, e, q⟩ := hb1 (List.ne_nil_of_length_pos (by omega))
    exact ⟨g, o, e, q k _ (List.getElem?_eq_getElem h)⟩
  clear ha1 hb1
  by_cases hl : a.length = b.length
  · have hd : ((a.length : Int) != (b.length : Int)) = false := by simp [hl]
    have HL := Lib.hid hl
    clear hl
    go_enter Try.func24, Try.ntmps24
    go_wp2
    go_loopw [5] (fun i wr => ∃ k : Nat, k ≤ a.length ∧ i = .int .i64 k ∧ (∀ j (h1 : j < a.length) (h2 : j < b.length), j < k → a[j] = b[j]) ∧ Below w.heap.size w wr)
      (fun i _ => a.length - (intOf i).toNat)
    case atStart => exact ⟨0, by omega, rfl, fun j _ _ h => absurd h (by omega), Below.refl _ _⟩
    case round =>
      obtain ⟨k, hk, rfl, hp, hbl⟩ := hrel
      have HP := Lib.hid hp
      clear hp
      by_cases hlt : k < a.length
      · have hlb : k < b.length := HL.out ▸ hlt
        obtain ⟨g1, o1, rfl, q1⟩ := ha k hlt
        obtain ⟨g2, o2, rfl, q2⟩ := hb k hlb
        have r1 := (hbl.cell (p := ⟨g1, o1 + k, none⟩) (World.block_lt_of_cell? _ _ q1)).trans q1
        have r2 := (hbl.cell (p := ⟨g2, o2 + k, none⟩) (World.block_lt_of_cell? _ _ q2)).trans q2
        clear q1 q2 ha hb
        have j1 : (k : Int) < (a.length : Int) := by omega
        have j2 : (k : Int) < (b.length : Int) := by omega
        obtain ⟨p, hp⟩ : ∃ p, p = a[k] := ⟨_, rfl⟩
        obtain ⟨q, hq⟩ : ∃ q, q = b[k] := ⟨_, rfl⟩
        rw [← hp] at r1
        rw [← hq] at r2
        have HPp := Lib.hid hp
        have HQq := Lib.hid hq
        clear hp hq
        by_cases he : p = q
        · subst he
          go_wp2
          go_quiet (fail)
          go_wp2
          go_roundw
          case rel => exact ⟨k + 1, by omega, by go_num, fun j h1 h2 h3 => by
            rcases Nat.lt_succ_iff_lt_or_eq.1 h3 with h' | h'
            · exact HP.out j h1 h2 h'
            · subst h'; exact HPp.out.symm.trans HQq.out, below_drewN hbl _⟩
          case measure => simp [intOf]; omega
        · have hne : (p != q) = true := by simpa using he
          go_wp2
          go_quiet (fail)
          go_wp2
          go_ret
          exact ⟨ret_bool (list_ne hlt hlb (by rw [← HPp.out, ← HQq.out]; exact he)).symm, below_drewN hbl _⟩
      · obtain rfl : k = a.length := by omega
        go_wp2
        go_ret
        exact ⟨ret_bool (decide_eq_true (list_eq HL.out fun i h1 h2 => HP.out i h1 h2 h1)).symm, hbl⟩
  · have hd : ((a.length : Int) != (b.length : Int)) = true := by simp; omega
    have HL := Lib.hid hl
    clear hl
    go_enter Try.func24, Try.ntmps24
    go_wp2
    go_ret
    exact ⟨ret_bool (decide_eq_false fun e => HL.out (by rw [e])).symm, Below.refl _ _⟩
end Go.Proofs.Ytomoldfgnbjliaa
