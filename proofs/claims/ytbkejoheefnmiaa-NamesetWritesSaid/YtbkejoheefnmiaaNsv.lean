/- The names of an access vector: Vector of the program and of the reference. Condition: at most a million names, types, attributes and aliases. -/
import Derived.Test.YtbkejoheefnmiaaNst
namespace Go.Proofs.Ytbkejoheefnmiaa
open Go.RowKit
/-- whether a vector has a bit -/
def vecB (x : Int) (n : Nat) : Bool := (bits .and .u32 (x / 2 ^ n) 1 == 1)
/-- the names of the first so many bits that a vector has -/
def vecL (x : Int) (L : List ByteArray) (k : Nat) : List ByteArray := (List.range k).filterMap fun n => if vecB x n then L[n]? else none
theorem vecL_succ (x : Int) {L : List ByteArray} {i : Nat} (h : i < L.length) : vecL x L (i + 1) = vecL x L i ++ if vecB x i then [L[i]] else [] := by
  unfold vecL
  rw [List.range_succ, List.filterMap_append]
  congr 1
  cases hb : vecB x i <;> simp [hb, h]
theorem vecL_len (x : Int) (L : List ByteArray) (i : Nat) : (vecL x L i).length ≤ i := by
  unfold vecL
  have := List.length_filterMap_le (fun n => if vecB x n then L[n]? else none) (List.range i)
  simpa using this
theorem vecB_hi {x : Int} (h0 : 0 ≤ x) (h1 : x < 4294967296) {n : Nat} (h : 32 ≤ n) : vecB x n = false := by
  have e : x / 2 ^ n = 0 := by
    refine Int.ediv_eq_zero_of_lt h0 (Int.lt_of_lt_of_le h1 ?_)
    have : (2 : Nat) ^ 32 ≤ 2 ^ n := Nat.pow_le_pow_right (by omega) h
    have h2 : ((2 ^ n : Nat) : Int) = (2 : Int) ^ n := by simp
    rw [← h2]
    omega
  unfold vecB
  rw [e]
  decide +kernel
theorem vecB_min {x : Int} (h0 : 0 ≤ x) (h1 : x < 4294967296) (n : Nat) : vecB x n = (bits .and .u32 (x / 2 ^ min n 32) 1 == 1) := by
  rcases Nat.lt_or_ge n 32 with h | h
  · rw [Nat.min_eq_left (Nat.le_of_lt h)]; rfl
  · rw [vecB_hi h0 h1 h, Nat.min_eq_right h]
    exact (vecB_hi h0 h1 (Nat.le_refl 32)).symm
theorem vecL_hi {x : Int} (h0 : 0 ≤ x) (h1 : x < 4294967296) {L : List ByteArray} {i : Nat} (h : 32 ≤ i) : ∀ {j : Nat}, i ≤ j → vecL x L j = vecL x L i
  | j, hj => by
    obtain ⟨d, rfl⟩ : ∃ d, j = i + d := ⟨j - i, by omega⟩
    clear hj
    induction d with
    | zero => rfl
    | succ d ih =>
      rw [← ih]
      unfold vecL
      rw [show i + (d + 1) = (i + d) + 1 by omega, List.range_succ, List.filterMap_append]
      have := vecB_hi h0 h1 (n := i + d) (by omega)
      simp [this]
def VecOut (x : Int) (L : List ByteArray) (w : World) (e : Ending) (w' : World) : Prop := ∃ v, e = .returned v ∧ OwnS w' w.heap.size v (vecL x L L.length) ∧ Below w.heap.size w w'
set_option maxRecDepth 100000 in
set_option maxHeartbeats 4000000 in
theorem Vector_c (x : Int) (nm : ByteArray) (vL : Value) (L : List ByteArray) (w : World) (hL : Strs w vL L) (hn3 : L.length ≤ 1000000) (hx0 : 0 ≤ x) (hx1 : x < 4294967296) :
    Calls Try.prog 23 #[.int .u32 x, .agg #[.string nm, vL]] w (VecOut x L w) := by
  obtain ⟨i0, hinf, hz0, hz1, hz2⟩ := info_parts infoStr
  obtain ⟨ao, cap, rfl, hr⟩ := hL
  have hW : Kp w (w.alloc (.cells #[.string nm, .slice ao L.length cap] 44)) := (Below.refl _ _).alloc (Nat.le_refl _) _
  have hCL : Blk (w.alloc (.cells #[.string nm, .slice ao L.length cap] 44)) w.heap.size 44 #[.string nm, .slice ao L.length cap] := Blk.new w _ _
  have HCL := Lib.hid hCL
  obtain ⟨y0, y1⟩ := hCL.two
  have HW := Lib.hid hW
  clear hW hCL
  go_enter Try.func23, Try.ntmps23
  go_wp2_with fail
  generalize (w.alloc (.cells #[.string nm, .slice ao L.length cap] 44)) = W at *
  clear y0 y1
  go_loopw [5, 11] (fun v6 vi wr => ∃ (i : Nat) (vv : Value), vv = v6 ∧ i ≤ L.length ∧ vi = .int .i64 i ∧ Hid (Kp W wr) ∧ Hid (OwnS wr W.heap.size vv (vecL x L i))) (fun _ vi _ => L.length - (intOf vi).toNat)
  case atStart => exact ⟨0, _, rfl, Nat.zero_le _, rfl, Lib.hid Kp.rfl', Lib.hid OwnS.nil⟩
  case round =>
    obtain ⟨i, v, rfl, hi, rfl, HK, HO⟩ := hrel
    obtain ⟨y0, y1⟩ := (HK.out.blk HCL.out).two
    have HB0 := Lib.hid (Kp.step HW.out HK.out)
    by_cases hlt : i < L.length
    · have hlt' : (i : Int) < (L.length : Int) := by omega
      obtain ⟨g, o, rfl, hR⟩ := hr (by rintro rfl; simp at hlt)
      have q0 := hR.keep (HB0.out.block g (hR.lt (by omega))) i hlt
      obtain ⟨s, hs⟩ : ∃ s, L[i] = s := ⟨_, rfl⟩
      rw [hs] at q0
      have hTl : (vecL x L i).length ≤ i := vecL_len x L i
      have hsx := vecL_succ x hlt
      rw [hs] at hsx
      obtain ⟨T, hT⟩ : ∃ T, vecL x L i = T := ⟨_, rfl⟩
      rw [hT] at HO hTl hsx
      have HT := Lib.hid hTl
      have HEND : Hid (32 ≤ i → T = vecL x L L.length) := Lib.hid fun h => by rw [← hT]; exact (vecL_hi hx0 hx1 h (by omega)).symm
      have HSX := Lib.hid hsx
      obtain ⟨aoT, capT, rfl⟩ := HO.out.isSl
      clear hT hTl hsx hs

      cases hb : vecB x i
      · have HX : Hid (vecL x L (i + 1) = T) := Lib.hid (by have := HSX.out; rw [hb] at this; simpa using this)
        rw [vecB_min hx0 hx1] at hb
        go_wp2_with fail
        go_roundw
        case rel => exact ⟨i + 1, _, rfl, by omega, by go_num, HK, Lib.hid (by rw [HX.out]; exact HO.out)⟩
        case measure => simp [intOf]; omega
      · have HX : Hid (vecL x L (i + 1) = T ++ [s]) := Lib.hid (by have := HSX.out; rw [hb] at this; simpa using this)
        rw [vecB_min hx0 hx1] at hb
        go_wp2_with (at_builtin; refine wpList_append_own _ rfl _ _ 27 rfl W.heap.size 9 i0 (.string ⟨#[]⟩) 1 16 Try.underlying27 hinf hz0 hz1 hz2 rfl (by decide) (.slice aoT T.length capT) T.length (T.map Value.string) rfl (HO.out.alloc _) ⟨_, 0, none⟩ 1 1 [.string s] rfl rfl ?c1 ?c2 ?c3 ?c4 ?c5 ?_)
        case c1 => exact one_newS (by simp)
        case c2 => intro u hu; simp at hu; subst hu; rfl
        case c3 => have := HT.out; unfold maxLen; omega
        case c4 => have := HT.out; omega
        case c5 => have := HK.out.size; simp; omega
        · intro v' w3 hown2 hgrow _
          have hlo := HO.out.lt
          have R3 : OwnS w3 W.heap.size v' (T ++ [s]) := by
            unfold OwnS
            simpa using hown2
          have hsz := HK.out.size
          have B3 : Below W.heap.size W w3 := (HK.out.alloc _).grown hgrow (by simp; omega) (fun k e => by have := hlo _ e; omega)
          have HR := Lib.hid R3
          have HB3 := Lib.hid B3
          clear hown2 hgrow hlo hsz R3 B3 q0 y0 y1
          go_wp2_with fail
          go_roundw
          case rel => exact ⟨i + 1, _, rfl, by omega, by go_num, HB3, Lib.hid (by rw [HX.out]; exact HR.out)⟩
          case measure => simp [intOf]; omega
    · obtain rfl : i = L.length := by omega
      obtain ⟨n0, hn0⟩ : ∃ T, vecL x L L.length = T := ⟨_, rfl⟩
      have HO2 := Lib.hid (HO.out.mono HW.out.size)
      go_wp2_with fail
      go_ret
      exact ⟨_, rfl, HO2.out, HB0.out⟩
set_option maxRecDepth 100000 in
set_option maxHeartbeats 4000000 in
theorem rVector_c (x : Int) (nm : ByteArray) (vL : Value) (L : List ByteArray) (w : World) (hL : Strs w vL L) (hn3 : L.length ≤ 1000000) (hx0 : 0 ≤ x) (hx1 : x < 4294967296) :
    Calls Try.prog 26 #[.int .u32 x, .agg #[.string nm, vL]] w (VecOut x L w) := by
  obtain ⟨i0, hinf, hz0, hz1, hz2⟩ := info_parts infoStr
  obtain ⟨ao, cap, rfl, hr⟩ := hL
  have hW : Kp w (w.alloc (.cells #[.string nm, .slice ao L.length cap] 44)) := (Below.refl _ _).alloc (Nat.le_refl _) _
  have hCL : Blk (w.alloc (.cells #[.string nm, .slice ao L.length cap] 44)) w.heap.size 44 #[.string nm, .slice ao L.length cap] := Blk.new w _ _
  have HCL := Lib.hid hCL
  obtain ⟨y0, y1⟩ := hCL.two
  have HW := Lib.hid hW
  clear hW hCL
  go_enter Try.func26, Try.ntmps26
  go_wp2_with fail
  generalize (w.alloc (.cells #[.string nm, .slice ao L.length cap] 44)) = W at *
  clear y0 y1
  go_loopw [5, 6] (fun v6 vi wr => ∃ (i : Nat) (vv : Value), vv = v6 ∧ i ≤ L.length ∧ vi = .int .i64 i ∧ Hid (Kp W wr) ∧ Hid (OwnS wr W.heap.size vv (vecL x L i))) (fun _ vi _ => L.length - (intOf vi).toNat)
  case atStart => exact ⟨0, _, rfl, Nat.zero_le _, rfl, Lib.hid Kp.rfl', Lib.hid OwnS.nil⟩
  case round =>
    obtain ⟨i, v, rfl, hi, rfl, HK, HO⟩ := hrel
    obtain ⟨y0, y1⟩ := (HK.out.blk HCL.out).two
    have HB0 := Lib.hid (Kp.step HW.out HK.out)
    by_cases hlt : i < L.length
    · have hlt' : (i : Int) < (L.length : Int) := by omega
      obtain ⟨g, o, rfl, hR⟩ := hr (by rintro rfl; simp at hlt)
      have q0 := hR.keep (HB0.out.block g (hR.lt (by omega))) i hlt
      obtain ⟨s, hs⟩ : ∃ s, L[i] = s := ⟨_, rfl⟩
      rw [hs] at q0
      have hTl : (vecL x L i).length ≤ i := vecL_len x L i
      have hsx := vecL_succ x hlt
      rw [hs] at hsx
      obtain ⟨T, hT⟩ : ∃ T, vecL x L i = T := ⟨_, rfl⟩
      rw [hT] at HO hTl hsx
      have HT := Lib.hid hTl
      have HEND : Hid (32 ≤ i → T = vecL x L L.length) := Lib.hid fun h => by rw [← hT]; exact (vecL_hi hx0 hx1 h (by omega)).symm
      have HSX := Lib.hid hsx
      obtain ⟨aoT, capT, rfl⟩ := HO.out.isSl
      clear hT hTl hsx hs
      by_cases h32 : i < 32
      case neg =>
        have hd : ¬ (i : Int) < 32 := by omega
        have HO2 := Lib.hid (HO.out.mono HW.out.size)
        go_wp2_with fail
        go_ret
        exact ⟨_, rfl, by rw [← HEND.out (by omega)]; exact HO2.out, HB0.out⟩
      have hd : (i : Int) < 32 := by omega

      cases hb : vecB x i
      · have HX : Hid (vecL x L (i + 1) = T) := Lib.hid (by have := HSX.out; rw [hb] at this; simpa using this)
        unfold vecB at hb
        go_wp2_with fail
        go_roundw
        case rel => exact ⟨i + 1, _, rfl, by omega, by go_num, HK, Lib.hid (by rw [HX.out]; exact HO.out)⟩
        case measure => simp [intOf]; omega
      · have HX : Hid (vecL x L (i + 1) = T ++ [s]) := Lib.hid (by have := HSX.out; rw [hb] at this; simpa using this)
        unfold vecB at hb
        go_wp2_with (at_builtin; refine wpList_append_own _ rfl _ _ 27 rfl W.heap.size 9 i0 (.string ⟨#[]⟩) 1 16 Try.underlying27 hinf hz0 hz1 hz2 rfl (by decide) (.slice aoT T.length capT) T.length (T.map Value.string) rfl (HO.out.alloc _) ⟨_, 0, none⟩ 1 1 [.string s] rfl rfl ?c1 ?c2 ?c3 ?c4 ?c5 ?_)
        case c1 => exact one_newS (by simp)
        case c2 => intro u hu; simp at hu; subst hu; rfl
        case c3 => have := HT.out; unfold maxLen; omega
        case c4 => have := HT.out; omega
        case c5 => have := HK.out.size; simp; omega
        · intro v' w3 hown2 hgrow _
          have hlo := HO.out.lt
          have R3 : OwnS w3 W.heap.size v' (T ++ [s]) := by
            unfold OwnS
            simpa using hown2
          have hsz := HK.out.size
          have B3 : Below W.heap.size W w3 := (HK.out.alloc _).grown hgrow (by simp; omega) (fun k e => by have := hlo _ e; omega)
          have HR := Lib.hid R3
          have HB3 := Lib.hid B3
          clear hown2 hgrow hlo hsz R3 B3 q0 y0 y1
          go_wp2_with fail
          go_roundw
          case rel => exact ⟨i + 1, _, rfl, by omega, by go_num, HB3, Lib.hid (by rw [HX.out]; exact HR.out)⟩
          case measure => simp [intOf]; omega
    · obtain rfl : i = L.length := by omega
      obtain ⟨n0, hn0⟩ : ∃ T, vecL x L L.length = T := ⟨_, rfl⟩
      have HO2 := Lib.hid (HO.out.mono HW.out.size)
      go_wp2_with fail
      go_ret
      exact ⟨_, rfl, HO2.out, HB0.out⟩
end Go.Proofs.Ytbkejoheefnmiaa
