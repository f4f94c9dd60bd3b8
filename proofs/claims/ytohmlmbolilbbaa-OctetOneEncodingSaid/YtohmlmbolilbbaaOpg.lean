/- The reference's Same, Glue, code, PutNumber, PutSigned. -/
import Derived.Test.YtohmlmbolilbbaaOpf
import Derived.Deep.QuietTactic
import Derived.BigQuiet
namespace Go.Proofs.Ytohmlmbolilbbaa
open Go.RowKit
theorem below_drewN {B : Nat} {w : World} (n : Nat) : Below B w (w.drewN n) := ⟨rfl, rfl, rfl, Nat.le_refl _, fun _ _ => rfl⟩
def sameI (l m : List Int) : Bool := decide (l = m)
theorem sameI_self (l : List Int) : sameI l l = true := decide_eq_true rfl
theorem sameI_len {l m : List Int} (h : l.length ≠ m.length) : sameI l m = false := decide_eq_false fun e => h (by rw [e])
theorem sameI_no {l m : List Int} {i : Nat} (h1 : i < l.length) (h2 : i < m.length) (h : l[i] ≠ m[i]) : sameI l m = false := decide_eq_false fun e => h (by subst e; rfl)
theorem sameI_yes {l m : List Int} (h : l.length = m.length) (hk : ∀ k (h1 : k < l.length) (h2 : k < m.length), l[k] = m[k]) : sameI l m = true := decide_eq_true (List.ext_getElem h hk)
set_option maxRecDepth 100000 in
set_option maxHeartbeats 2000000 in
theorem same_c (v u : Value) (l m : List Int) (w : World) (hV : Byts w v l) (hU : Byts w u m) (hn : l.length ≤ 1000000000000) (hm : m.length ≤ 1000000000000) :
    Calls Try.prog 16 #[v, u] w fun e w' => e = .returned (.bool (sameI l m)) ∧ Below w.heap.size w w' := by
  obtain ⟨_, ao, cap, rfl, hcap, _, hV⟩ := hV
  obtain ⟨_, ao2, cap2, rfl, hcap2, _, hU⟩ := hU
  obtain ⟨R, hR⟩ : ∃ R, sameI l m = R := ⟨_, rfl⟩
  rw [hR]
  have HV := Lib.hid hV
  have HU := Lib.hid hU
  have HR := Lib.hid hR
  clear hV hU hR
  by_cases hlen : l.length = m.length
  · have HL := Lib.hid hlen
    rw [hlen] at hn ⊢
    clear hlen hcap
    go_enter Try.func16, Try.ntmps16
    go_wp2_with fail
    go_loopw [5] (fun vi wr => ∃ i : Nat, i ≤ m.length ∧ vi = .int .i64 i ∧ Hid (∀ k (_ : k < i) (h1 : k < l.length) (h2 : k < m.length), l[k] = m[k]) ∧ Below w.heap.size w wr) (fun vi _ => m.length - (intOf vi).toNat)
    case atStart => exact ⟨0, Nat.zero_le _, rfl, Lib.hid fun k h => absurd h (by omega), Below.refl _ _⟩
    case round =>
      obtain ⟨i, hi, rfl, HA, hb⟩ := hrel
      by_cases hlt2 : i < m.length
      · have hlt : i < l.length := by rw [HL.out]; exact hlt2
        obtain ⟨g, o, rfl, hRow⟩ := HV.out (by rintro rfl; simp at hlt)
        obtain ⟨g2, o2, rfl, hRow2⟩ := HU.out (by rintro rfl; simp at hlt2)
        have q1 := (hRow.keep (hb.block g (hRow.lt (by omega)))) i hlt
        have q2 := (hRow2.keep (hb.block g2 (hRow2.lt (by omega)))) i hlt2
        have hlt2' : (i : Int) < (m.length : Int) := by omega
        obtain ⟨x, hx⟩ : ∃ x, l[i] = x := ⟨_, rfl⟩
        obtain ⟨y, hy⟩ : ∃ y, m[i] = y := ⟨_, rfl⟩
        rw [hx] at q1
        rw [hy] at q2
        by_cases hxy : x = y
        · subst hxy
          have HA2 : Hid (∀ k (_ : k < i + 1) (h1 : k < l.length) (h2 : k < m.length), l[k] = m[k]) := Lib.hid fun k h h1 h2 => by
            rcases Nat.lt_or_ge k i with hk | hk
            · exact HA.out k hk h1 h2
            · obtain rfl : k = i := by omega
              rw [hx, hy]
          clear hx hy HA hRow hRow2
          go_wp2_with fail
          go_quiet (fail)
          go_wp2
          go_roundw
          case rel => exact ⟨i + 1, hlt2, by go_num, HA2, hb.trans (below_drewN _)⟩
          case measure => simp [intOf]; omega
        · have h1 : (x != y) = true := by simpa using hxy
          have h2 : (x == y) = false := by simpa using hxy
          have hR0 : R = false := by rw [← HR.out]; exact sameI_no hlt hlt2 (by rw [hx, hy]; exact hxy)
          subst hR0
          clear hx hy HA hRow hRow2 hxy HR
          go_wp2_with fail
          go_quiet (fail)
          go_wp2
          go_ret
          exact ⟨rfl, hb.trans (below_drewN _)⟩
      · obtain rfl : i = m.length := by omega
        have hR0 : R = true := by rw [← HR.out]; exact sameI_yes HL.out (fun k h1 h2 => HA.out k h2 h1 h2)
        subst hR0
        clear HR HA
        go_wp2
        go_ret
        exact ⟨rfl, hb⟩
  · have hR0 : R = false := by rw [← HR.out]; exact sameI_len hlen
    subst hR0
    clear HR
    have hlen' : ((l.length : Int) == (m.length : Int)) = false := by simp; omega
    have hlen2 : ((l.length : Int) != (m.length : Int)) = true := by simp; omega
    clear hlen
    go_enter Try.func16, Try.ntmps16
    go_wp2
    go_ret
    exact ⟨rfl, Below.refl _ _⟩
theorem take_one {l : List Int} {i : Nat} (h : i < l.length) : l.take (i + 1) = l.take i ++ [l[i]] := List.take_succ_eq_append_getElem h
set_option maxRecDepth 100000 in
set_option maxHeartbeats 4000000 in
theorem glue_c (v u : Value) (l m : List Int) (w : World) (hV : Byts w v l) (hU : Byts w u m) (hn : l.length ≤ 400000000) (hm : m.length ≤ 400000000) :
    Calls Try.prog 40 #[v, u] w fun e w' => ∃ v', e = .returned v' ∧ OwnB w' w.heap.size v' (l ++ m) ∧ Below w.heap.size w w' := by
  obtain ⟨i0, hi, hz0, hz1, hz2⟩ := info_parts infoU8
  obtain ⟨al, ao, cap, rfl, hcap, _, hV⟩ := hV
  obtain ⟨am, ao2, cap2, rfl, hcap2, _, hU⟩ := hU
  have HV := Lib.hid hV
  have HU := Lib.hid hU
  clear hV hU
  go_enter Try.func40, Try.ntmps40
  go_wp2_with fail
  go_loopw [5, 6] (fun vo vi wr => ∃ i : Nat, i ≤ l.length ∧ vi = .int .i64 i ∧ OwnB wr w.heap.size vo (l.take i) ∧ Below w.heap.size w wr) (fun _ vi _ => l.length - (intOf vi).toNat)
  case atStart => exact ⟨0, Nat.zero_le _, rfl, OwnB.nil _ _, Below.refl _ _⟩
  case round =>
    obtain ⟨i, hil, rfl, hO, hb⟩ := hrel
    have hbs := hb.size
    by_cases hlt : i < l.length
    · obtain ⟨g, o, rfl, hRow⟩ := HV.out (by rintro rfl; simp at hlt)
      have q1 := (hRow.keep (hb.block g (hRow.lt (by omega)))) i hlt
      have hx := al.at hlt
      have HT := Lib.hid (take_one hlt)
      obtain ⟨x, hx0⟩ : ∃ x, l[i] = x := ⟨_, rfl⟩
      rw [hx0] at q1 hx HT
      have hlt' : (i : Int) < (l.length : Int) := by omega
      have htl : (l.take i).length = i := by rw [List.length_take]; omega
      have HL := Lib.hid htl
      clear hx0 hRow htl
      go_wp2_with (at_builtin; refine wpList_append_bytes _ rfl _ _ 22 rfl w.heap.size i0 Try.underlying22 hi hz0 hz1 hz2 _ _ (l.take i) [x] rfl rfl (.inl (hO.alloc _)) (byts1 hx (Blk.new _ _ _)) (by rw [HL.out]; simp; omega) (by simp; omega) ?_)
      intro v3 w3 _ hb3 ho3
      have HO3 : Hid (OwnB w3 w.heap.size v3 (l.take (i + 1))) := by rw [HT.out]; first | exact Lib.hid ho3 | exact Lib.hid (ho3 (.inl (hO.alloc _)))
      clear ho3
      go_wp2
      go_roundw
      case rel => exact ⟨i + 1, hlt, by go_num, HO3.out, hb.trans (((Below.refl _ _).alloc hbs _).trans hb3)⟩
      case measure => simp [intOf]; omega
    · obtain rfl : i = l.length := by omega
      rw [List.take_length] at hO
      go_wp2_with fail
      go_loopw [5, 7] (fun vo vi wr => ∃ i : Nat, i ≤ m.length ∧ vi = .int .i64 i ∧ OwnB wr w.heap.size vo (l ++ m.take i) ∧ Below w.heap.size w wr) (fun _ vi _ => m.length - (intOf vi).toNat)
      case atStart => exact ⟨0, Nat.zero_le _, rfl, by simpa using hO, hb⟩
      case round =>
        clear hO hb hbs
        obtain ⟨i, hil, rfl, hO, hb⟩ := hrel
        have hbs := hb.size
        by_cases hlt : i < m.length
        · obtain ⟨g, o, rfl, hRow⟩ := HU.out (by rintro rfl; simp at hlt)
          have q1 := (hRow.keep (hb.block g (hRow.lt (by omega)))) i hlt
          have hx := am.at hlt
          have HT : Hid (l ++ m.take (i + 1) = (l ++ m.take i) ++ [m[i]]) := Lib.hid (by rw [take_one hlt, List.append_assoc])
          obtain ⟨x, hx0⟩ : ∃ x, m[i] = x := ⟨_, rfl⟩
          rw [hx0] at q1 hx HT
          have hlt' : (i : Int) < (m.length : Int) := by omega
          have HL : Hid ((l ++ m.take i).length = l.length + i) := Lib.hid (by rw [List.length_append, List.length_take]; omega)
          obtain ⟨p, hp⟩ : ∃ p, l ++ m.take i = p := ⟨_, rfl⟩
          rw [hp] at hO HT HL
          clear hx0 hRow hp
          go_wp2_with (at_builtin; refine wpList_append_bytes _ rfl _ _ 22 rfl w.heap.size i0 Try.underlying22 hi hz0 hz1 hz2 _ _ p [x] rfl rfl (.inl (hO.alloc _)) (byts1 hx (Blk.new _ _ _)) (by rw [HL.out]; simp; omega) (by simp; omega) ?_)
          intro v3 w3 _ hb3 ho3
          have HO3 : Hid (OwnB w3 w.heap.size v3 (l ++ m.take (i + 1))) := by rw [HT.out]; first | exact Lib.hid ho3 | exact Lib.hid (ho3 (.inl (hO.alloc _)))
          clear ho3
          go_wp2
          go_roundw
          case rel => exact ⟨i + 1, hlt, by go_num, HO3.out, hb.trans (((Below.refl _ _).alloc hbs _).trans hb3)⟩
          case measure => simp [intOf]; omega
        · obtain rfl : i = m.length := by omega
          rw [List.take_length] at hO
          go_wp2
          go_ret
          exact ⟨_, rfl, hO, hb⟩
set_option maxRecDepth 100000 in
set_option maxHeartbeats 2000000 in
theorem rcode_c (n : Nat) (w : World) (hn : n < 18446744073709551616) :
    Calls Try.prog 41 #[.int .u64 n] w fun e w' => ∃ v, e = .returned v ∧ OwnB w' w.heap.size v (code n) ∧ Below w.heap.size w w' := by
  obtain ⟨i0, hi, hz0, hz1, hz2⟩ := info_parts infoU8
  have hlen := code_len hn
  go_enter Try.func41, Try.ntmps41
  go_wp2_with fail
  go_loopw [0, 3] (fun vn vb wr => ∃ (m : Nat) (p : List Int), vn = .int .u64 m ∧ Hid (m < 18446744073709551616) ∧ p ++ code m = code n ∧ OwnB wr w.heap.size vb p ∧ Below w.heap.size w wr) (fun vn _ _ => (intOf vn).toNat)
  case atStart => exact ⟨n, [], rfl, Lib.hid hn, rfl, OwnB.nil _ _, Below.refl _ _⟩
  case round =>
    obtain ⟨m, p, rfl, HM, hp, hown, hb⟩ := hrel
    have hpl : p.length + (code m).length ≤ 10 := by rw [← List.length_append, hp]; exact hlen
    have hpm := code_pos m
    by_cases hlt : m < 128
    · have hlt' : (m : Int) < 128 := by omega
      have hcode := code_lt hlt
      have HP := Lib.hid hp
      clear hp
      go_wp2_with (at_builtin; refine wpList_append_bytes _ rfl _ _ 22 rfl w.heap.size i0 Try.underlying22 hi hz0 hz1 hz2 _ _ p [_] rfl rfl (.inl (hown.alloc _)) (byts1 ?c1 (Blk.new _ _ _)) (by simp; omega) (by simp; have := hb.size; omega) ?_)
      case c1 => omega
      intro v2 w2 _ hb2 ho2
      go_wp2
      go_ret
      exact ⟨_, rfl, by rw [← HP.out, hcode]; exact ho2, hb.trans (((Below.refl _ _).alloc hb.size _).trans hb2)⟩
    · have hlt' : ¬ (m : Int) < 128 := by omega
      go_wp2_with (at_builtin; refine wpList_append_bytes _ rfl _ _ 22 rfl w.heap.size i0 Try.underlying22 hi hz0 hz1 hz2 _ _ p [_] rfl rfl (.inl (hown.alloc _)) (byts1 ?c2 (Blk.new _ _ _)) (by simp; omega) (by simp; have := hb.size; omega) ?_)
      case c2 => omega
      intro v2 w2 _ hb2 ho2
      have HO : Hid (OwnB w2 w.heap.size v2 (p ++ [((m % 128 + 128 : Nat) : Int)])) := by
        exact Lib.hid ho2
      clear ho2
      have HC := Lib.hid (code_ge hlt)
      have HP := Lib.hid hp
      clear hp
      go_wp2
      go_roundw
      case rel => exact ⟨m / 128, p ++ [((m % 128 + 128 : Nat) : Int)], by have := HM.out; rw [u64w]; congr 1; omega, Lib.hid (by have := HM.out; omega), by rw [List.append_assoc, List.singleton_append, ← HC.out, HP.out], HO.out, hb.trans (((Below.refl _ _).alloc hb.size _).trans hb2)⟩
      case measure => have := HM.out; simp [intOf, u64w]; omega
set_option maxRecDepth 100000 in
theorem rPutNumber_c (v : Value) (l : List Int) (n : Nat) (w : World) (hB : Byts w v l) (hn : n < 18446744073709551616) (hlen : l.length ≤ 300000000) :
    Calls Try.prog 18 #[v, .int .u64 n] w fun e w' => ∃ v', e = .returned v' ∧ OwnB w' w.heap.size v' (l ++ code n) ∧ Below w.heap.size w w' := by
  have hl := code_len hn
  have hE := rcode_c n w hn
  go_enter Try.func18, Try.ntmps18
  go_wp2_with (go_at_call 41; refine hE.mono ?_; rintro e w2 ⟨v2, rfl, ho2, hb2⟩)
  have hJ := glue_c v v2 l (code n) w2 (hB.keep hb2) (ho2.byts (code_all n)) (by omega) (by omega)
  clear hE
  go_wp2_with (go_at_call 40; refine hJ.mono ?_; rintro e w3 ⟨v3, rfl, ho3, hb3⟩)
  go_ret
  exact ⟨v3, rfl, ho3.mono hb2.size, hb2.trans (hb3.mono hb2.size)⟩
set_option maxRecDepth 100000 in
theorem rPutSigned_c (v : Value) (l : List Int) (m : Int) (w : World) (hB : Byts w v l) (h1 : -9223372036854775808 ≤ m) (h2 : m ≤ 9223372036854775807) (hlen : l.length ≤ 300000000) :
    Calls Try.prog 20 #[v, .int .i64 m] w fun e w' => ∃ v', e = .returned v' ∧ OwnB w' w.heap.size v' (l ++ code (foldN m).toNat) ∧ Below w.heap.size w w' := by
  have hf := foldN_bd h1 h2
  have hP := rPutNumber_c v l (foldN m).toNat w hB (by omega) hlen
  by_cases hm : 0 ≤ m
  · have e : (((foldN m).toNat : Nat) : Int) = 2 * m := by have : foldN m = 2 * m := if_pos hm; omega
    rw [e] at hP
    have HP := Lib.hid hP
    clear hP e hf
    go_enter Try.func20, Try.ntmps20
    go_wp2_with (go_at_call 18; refine HP.out.mono ?_; rintro e w3 ⟨v3, rfl, ho3, hb3⟩)
    go_ret
    exact ⟨v3, rfl, ho3, hb3⟩
  · have e : (((foldN m).toNat : Nat) : Int) = 2 * -(m + 1) + 1 := by have : foldN m = -2 * m - 1 := if_neg hm; omega
    rw [e] at hP
    have HP := Lib.hid hP
    clear hP e hf
    have hm' : m < 0 := by omega
    go_enter Try.func20, Try.ntmps20
    go_wp2_with (go_at_call 18; refine HP.out.mono ?_; rintro e w3 ⟨v3, rfl, ho3, hb3⟩)
    go_ret
    exact ⟨v3, rfl, ho3, hb3⟩
end Go.Proofs.Ytohmlmbolilbbaa
