/- Sum, encodeSum, slices.Equal. -/
import Derived.Test.YtohmlmbolilbbaaOpp
namespace Go.Proofs.Ytohmlmbolilbbaa
open Go.RowKit
def stepH (h c : Int) : Int := bits .xor .u32 h c * 16777619 % 4294967296
def sumL (l : List Int) : Int := l.foldl stepH 2166136261
theorem u32w (n : Int) : IntKind.u32.wrap n = n % 4294967296 := IntKind.wrap_u32' n
theorem stepH_bd (h c : Int) : 0 ≤ stepH h c ∧ stepH h c < 4294967296 := by unfold stepH; omega
theorem sumL_bd (l : List Int) : 0 ≤ sumL l ∧ sumL l < 4294967296 := by
  rcases List.eq_nil_or_concat l with rfl | ⟨r, c, rfl⟩
  · unfold sumL; simp
  · unfold sumL
    rw [List.concat_eq_append, List.foldl_append]
    exact stepH_bd _ _
theorem sumL_next {l : List Int} {i : Nat} (h : i < l.length) : sumL (l.take (i + 1)) = stepH (sumL (l.take i)) l[i] := by
  unfold sumL
  rw [List.take_succ_eq_append_getElem h, List.foldl_append]
  rfl
set_option maxRecDepth 100000 in
set_option maxHeartbeats 2000000 in
theorem sum_c (v : Value) (l : List Int) (w : World) (hV : Byts w v l) (hn : l.length ≤ 1000000000000) :
    Calls Try.prog 32 #[v] w fun e w' => e = .returned (.int .u32 (sumL l)) ∧ w' = w := by
  obtain ⟨al, ao, cap, rfl, hcap, _, hV⟩ := hV
  have HV := Lib.hid hV
  clear hV
  go_enter Try.func32, Try.ntmps32
  go_wp2_with fail
  go_loop [3, 5, 8] (fun vh _ vi => ∃ i : Nat, i ≤ l.length ∧ vi = .int .i64 i ∧ vh = .int .u32 (sumL (l.take i))) (fun _ _ vi => l.length - (intOf vi).toNat)
  case atStart => exact ⟨0, Nat.zero_le _, rfl, rfl⟩
  case round =>
    obtain ⟨i, hil, rfl, rfl⟩ := hrel
    by_cases hlt : i < l.length
    · obtain ⟨g, o, rfl, hRow⟩ := HV.out (by rintro rfl; simp at hlt)
      have q1 := hRow i hlt
      have hc := al.at hlt
      have HN := Lib.hid (sumL_next hlt)
      have hbd := sumL_bd (l.take i)
      obtain ⟨c, hc0⟩ : ∃ c, l[i] = c := ⟨_, rfl⟩
      obtain ⟨H, hH⟩ : ∃ H, sumL (l.take i) = H := ⟨_, rfl⟩
      rw [hc0] at q1 hc HN
      rw [hH] at HN hbd
      rw [hH]
      have hlt' : (i : Int) < (l.length : Int) := by omega
      clear hc0 hRow hH
      go_wp2_with fail
      exact ⟨⟨i + 1, hlt, by go_num, by rw [HN.out]; rfl⟩, by simp [intOf]; omega⟩
    · obtain rfl : i = l.length := by omega
      rw [List.take_length]
      go_wp2
      go_ret
      exact ⟨rfl, rfl⟩
set_option maxRecDepth 100000 in
set_option maxHeartbeats 2000000 in
theorem rSum_c (v : Value) (l : List Int) (w : World) (hV : Byts w v l) (hn : l.length ≤ 1000000000000) :
    Calls Try.prog 33 #[v] w fun e w' => e = .returned (.int .u32 (sumL l)) ∧ w' = w := by
  obtain ⟨al, ao, cap, rfl, hcap, _, hV⟩ := hV
  have HV := Lib.hid hV
  clear hV
  go_enter Try.func33, Try.ntmps33
  go_wp2_with fail
  go_loop [3, 4] (fun vh vi => ∃ i : Nat, i ≤ l.length ∧ vi = .int .i64 i ∧ vh = .int .u32 (sumL (l.take i))) (fun _ vi => l.length - (intOf vi).toNat)
  case atStart => exact ⟨0, Nat.zero_le _, rfl, rfl⟩
  case round =>
    obtain ⟨i, hil, rfl, rfl⟩ := hrel
    by_cases hlt : i < l.length
    · obtain ⟨g, o, rfl, hRow⟩ := HV.out (by rintro rfl; simp at hlt)
      have q1 := hRow i hlt
      have hc := al.at hlt
      have HN := Lib.hid (sumL_next hlt)
      have hbd := sumL_bd (l.take i)
      obtain ⟨c, hc0⟩ : ∃ c, l[i] = c := ⟨_, rfl⟩
      obtain ⟨H, hH⟩ : ∃ H, sumL (l.take i) = H := ⟨_, rfl⟩
      rw [hc0] at q1 hc HN
      rw [hH] at HN hbd
      rw [hH]
      have hlt' : (i : Int) < (l.length : Int) := by omega
      clear hc0 hRow hH
      go_wp2_with fail
      exact ⟨⟨i + 1, hlt, by go_num, by rw [HN.out]; rfl⟩, by simp [intOf]; omega⟩
    · obtain rfl : i = l.length := by omega
      rw [List.take_length]
      go_wp2
      go_ret
      exact ⟨rfl, rfl⟩
def sumB (H : Int) : List Int := [H % 256, H / 256 % 256, H / 65536 % 256, H / 16777216]
theorem sumB_all {H : Int} (h0 : 0 ≤ H) (h1 : H < 4294967296) : AllB (sumB H) := by
  intro x hx
  simp only [sumB, List.mem_cons, List.not_mem_nil, or_false] at hx
  rcases hx with rfl | rfl | rfl | rfl <;> omega
def sb (H : Int) : Nat → List Int
  | 0 => [0, 0, 0, 0]
  | 1 => [H % 256, 0, 0, 0]
  | 2 => [H % 256, H / 256 % 256, 0, 0]
  | 3 => [H % 256, H / 256 % 256, H / 65536 % 256, 0]
  | _ => sumB H
theorem made4 : (madeCells #[Value.int IntKind.u8 0] 4).toList = [.int .u8 0, .int .u8 0, .int .u8 0, .int .u8 0] := by kernel_rfl
set_option maxRecDepth 100000 in
set_option maxHeartbeats 4000000 in
theorem encodeSum_c (H : Int) (w : World) (h0 : 0 ≤ H) (h1 : H < 4294967296) :
    Calls Try.prog 45 #[.int .u32 H] w fun e w' => ∃ v, e = .returned v ∧ OwnB w' w.heap.size v (sumB H) ∧ Below w.heap.size w w' := by
  obtain ⟨i0, hi, hz0, hz1, hz2⟩ := info_parts infoU8
  go_enter Try.func45, Try.ntmps45
  go_wp2_with (at_make; refine wpList_make_full _ rfl _ _ 22 rfl w.heap.size 5 i0 (.int .u8 0) 1 Try.underlying22 hi hz0 hz1 .i64 .i64 4 4 4 rfl rfl rfl rfl ?b1 ?b2 ?b3 ?_)
  case b1 => rw [hz2]; omega
  case b2 => unfold maxLen; omega
  case b3 => exact Nat.le_refl _
  intro w1 hown hg
  have hb1 : Below w.heap.size w w1 := (Below.refl _ _).grown hg (Nat.le_refl _) (by simp)
  have hown2 : w1.ownsRow w.heap.size 5 1 (.slice (some ⟨w.heap.size, 0, none⟩) 4 4) 4 ((sb H 0).map (Value.int .u8)) := by
    have e : (madeCells #[Value.int IntKind.u8 0] 4).toList = (sb H 0).map (Value.int .u8) := made4
    rw [← e]
    exact hown
  clear hown hg
  go_wp2_with fail
  go_loopw [4, 8] (fun _ vi wr => ∃ i : Nat, i ≤ 4 ∧ vi = .int .i64 i ∧ Hid (wr.ownsRow w.heap.size 5 1 (.slice (some ⟨w.heap.size, 0, none⟩) 4 4) 4 ((sb H i).map (Value.int .u8))) ∧ Below w.heap.size w wr) (fun _ vi _ => 4 - (intOf vi).toNat)
  case atStart => exact ⟨0, by omega, rfl, Lib.hid hown2, hb1⟩
  case round =>
    obtain ⟨i, hi4, rfl, HO, hb⟩ := hrel
    rcases (show i = 0 ∨ i = 1 ∨ i = 2 ∨ i = 3 ∨ i = 4 by omega) with rfl | rfl | rfl | rfl | rfl
    · have hc := HO.out.cellAt 0 (by omega)
      have hf := HO.out.frozenAt 0
      simp only [sb, List.map_cons, List.getElem?_cons_zero, List.getElem?_cons_succ] at hc
      go_wp2_with fail
      exact ⟨⟨1, by omega, rfl, Lib.hid (HO.out.stored 0 _).1, hb.setCell (Nat.le_refl _) _⟩, by simp [intOf]⟩
    · have hc := HO.out.cellAt 1 (by omega)
      have hf := HO.out.frozenAt 1
      simp only [sb, List.map_cons, List.getElem?_cons_zero, List.getElem?_cons_succ] at hc
      go_wp2_with fail
      exact ⟨⟨2, by omega, rfl, Lib.hid (HO.out.stored 1 _).1, hb.setCell (Nat.le_refl _) _⟩, by simp [intOf]⟩
    · have hc := HO.out.cellAt 2 (by omega)
      have hf := HO.out.frozenAt 2
      simp only [sb, List.map_cons, List.getElem?_cons_zero, List.getElem?_cons_succ] at hc
      go_wp2_with fail
      exact ⟨⟨3, by omega, rfl, Lib.hid (HO.out.stored 2 _).1, hb.setCell (Nat.le_refl _) _⟩, by simp [intOf]⟩
    · have hc := HO.out.cellAt 3 (by omega)
      have hf := HO.out.frozenAt 3
      simp only [sb, List.map_cons, List.getElem?_cons_zero, List.getElem?_cons_succ] at hc
      go_wp2_with fail
      exact ⟨⟨4, by omega, rfl, Lib.hid (HO.out.stored 3 _).1, hb.setCell (Nat.le_refl _) _⟩, by simp [intOf]⟩
    · go_wp2
      go_ret
      exact ⟨_, rfl, HO.out, hb⟩
set_option maxRecDepth 100000 in
set_option maxHeartbeats 2000000 in
theorem eqSl_c (v u : Value) (l m : List Int) (w : World) (hV : Byts w v l) (hU : Byts w u m) (hn : l.length ≤ 1000000000000) (hm : m.length ≤ 1000000000000) :
    Calls Try.prog 44 #[v, u] w fun e w' => e = .returned (.bool (sameI l m)) ∧ Below w.heap.size w w' := by
  obtain ⟨_, ao, cap, rfl, hcap, _, hV⟩ := hV
  obtain ⟨_, ao2, cap2, rfl, hcap2, _, hU⟩ := hU
  obtain ⟨R, hR⟩ : ∃ R, sameI l m = R := ⟨_, rfl⟩
  rw [hR]
  have HV := Lib.hid hV
  have HU := Lib.hid hU
  have HR := Lib.hid hR
  clear hV hU hR
  by_cases hlen : l.length = m.length
  · have HL := Lib.hid hlen
    rw [hlen] at hn ⊢
    clear hlen hcap
    go_enter Try.func44, Try.ntmps44
    go_wp2_with fail
    go_loopw [5, 13] (fun _ vi wr => ∃ i : Nat, i ≤ m.length ∧ vi = .int .i64 i ∧ Hid (∀ k (_ : k < i) (h1 : k < l.length) (h2 : k < m.length), l[k] = m[k]) ∧ Below w.heap.size w wr) (fun _ vi _ => m.length - (intOf vi).toNat)
    case atStart => exact ⟨0, Nat.zero_le _, rfl, Lib.hid fun k h => absurd h (by omega), Below.refl _ _⟩
    case round =>
      obtain ⟨i, hi, rfl, HA, hb⟩ := hrel
      by_cases hlt2 : i < m.length
      · have hlt : i < l.length := by rw [HL.out]; exact hlt2
        obtain ⟨g, o, rfl, hRow⟩ := HV.out (by rintro rfl; simp at hlt)
        obtain ⟨g2, o2, rfl, hRow2⟩ := HU.out (by rintro rfl; simp at hlt2)
        have q1 := (hRow.keep (hb.block g (hRow.lt (by omega)))) i hlt
        have q2 := (hRow2.keep (hb.block g2 (hRow2.lt (by omega)))) i hlt2
        have hlt2' : (i : Int) < (m.length : Int) := by omega
        obtain ⟨x, hx⟩ : ∃ x, l[i] = x := ⟨_, rfl⟩
        obtain ⟨y, hy⟩ : ∃ y, m[i] = y := ⟨_, rfl⟩
        rw [hx] at q1
        rw [hy] at q2
        by_cases hxy : x = y
        · subst hxy
          have HA2 : Hid (∀ k (_ : k < i + 1) (h1 : k < l.length) (h2 : k < m.length), l[k] = m[k]) := Lib.hid fun k h h1 h2 => by
            rcases Nat.lt_or_ge k i with hk | hk
            · exact HA.out k hk h1 h2
            · obtain rfl : k = i := by omega
              rw [hx, hy]
          clear hx hy HA hRow hRow2
          go_wp2_with fail
          go_quiet (fail)
          go_wp2
          go_roundw
          case rel => exact ⟨i + 1, hlt2, by go_num, HA2, hb.trans (below_drewN _)⟩
          case measure => simp [intOf]; omega
        · have h1 : (x != y) = true := by simpa using hxy
          have h2 : (x == y) = false := by simpa using hxy
          have hR0 : R = false := by rw [← HR.out]; exact sameI_no hlt hlt2 (by rw [hx, hy]; exact hxy)
          subst hR0
          clear hx hy HA hRow hRow2 hxy HR
          go_wp2_with fail
          go_quiet (fail)
          go_wp2
          go_ret
          exact ⟨rfl, hb.trans (below_drewN _)⟩
      · obtain rfl : i = m.length := by omega
        have hR0 : R = true := by rw [← HR.out]; exact sameI_yes HL.out (fun k h1 h2 => HA.out k h2 h1 h2)
        subst hR0
        clear HR HA
        go_wp2
        go_ret
        exact ⟨rfl, hb⟩
  · have hR0 : R = false := by rw [← HR.out]; exact sameI_len hlen
    subst hR0
    clear HR
    have hlen' : ((l.length : Int) == (m.length : Int)) = false := by simp; omega
    have hlen2 : ((l.length : Int) != (m.length : Int)) = true := by simp; omega
    clear hlen
    go_enter Try.func44, Try.ntmps44
    go_wp2
    go_ret
    exact ⟨rfl, Below.refl _ _⟩
end Go.Proofs.Ytohmlmbolilbbaa
