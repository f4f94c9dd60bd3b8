/- What the laws ask of sizes: few. Condition: none. -/
import Derived.Test.YtbkejoheefnmiaaNsq
namespace Go.Proofs.Ytbkejoheefnmiaa
open Go.RowKit
def Few (N E : List ByteArray) (Ts : List TyE) (As : List AtE) : Prop := N.length ≤ 60 ∧ E.length ≤ 60 ∧ Ts.length ≤ 300 ∧ As.length ≤ 60 ∧ ∀ k (h : k < Ts.length), Ts[k].2.length ≤ 20
def FewOut (N E : List ByteArray) (Ts : List TyE) (As : List AtE) (w : World) (e : Ending) (w' : World) : Prop := ∃ b, e = .returned (.bool b) ∧ (b = true → Few N E Ts As) ∧ Below w.heap.size w w'
set_option maxRecDepth 100000 in
set_option maxHeartbeats 4000000 in
theorem few_c (al no sf : Bool) (vN vE vT vA : Value) (N E : List ByteArray) (Ts : List TyE) (As : List AtE) (w : World) (hN : Strs w vN N) (hE : Strs w vE E) (hT : Tys w vT Ts) (hA : Ats w vA As) (hn : N.length ≤ maxLen) (hn2 : E.length ≤ maxLen) (hn3 : Ts.length ≤ maxLen) (hn4 : As.length ≤ maxLen) (hal : ∀ k (h : k < Ts.length), Ts[k].2.length ≤ maxLen) :
    Calls Try.prog 8 #[.agg #[.bool al, .bool no, .bool sf, vN, vE], .agg #[vT, vA]] w (FewOut N E Ts As w) := by
  unfold maxLen at hn hn2 hn3 hn4 hal
  have HT := Lib.hid hT
  obtain ⟨aoN, capN, rfl, -⟩ := hN
  obtain ⟨aoE, capE, rfl, -⟩ := hE
  obtain ⟨aoT, capT, rfl, -⟩ := hT
  obtain ⟨aoA, capA, rfl, -⟩ := hA
  have hW : Kp w ((w.alloc (.cells #[.bool al, .bool no, .bool sf, .slice aoN N.length capN, .slice aoE E.length capE] 29)).alloc (.cells #[.slice aoT Ts.length capT, .slice aoA As.length capA] 25)) := ((Below.refl _ _).alloc (Nat.le_refl _) _).alloc (by simp) _
  have hNS : Blk ((w.alloc (.cells #[.bool al, .bool no, .bool sf, .slice aoN N.length capN, .slice aoE E.length capE] 29)).alloc (.cells #[.slice aoT Ts.length capT, .slice aoA As.length capA] 25)) w.heap.size 29 #[.bool al, .bool no, .bool sf, .slice aoN N.length capN, .slice aoE E.length capE] := (Blk.new w _ _).alloc _
  have s1 : (w.alloc (.cells #[.bool al, .bool no, .bool sf, .slice aoN N.length capN, .slice aoE E.length capE] 29)).heap.size = w.heap.size + 1 := by simp
  have hEN : Blk ((w.alloc (.cells #[.bool al, .bool no, .bool sf, .slice aoN N.length capN, .slice aoE E.length capE] 29)).alloc (.cells #[.slice aoT Ts.length capT, .slice aoA As.length capA] 25)) (w.heap.size + 1) 25 #[.slice aoT Ts.length capT, .slice aoA As.length capA] := by
    rw [← s1]; exact Blk.new (w.alloc (.cells #[.bool al, .bool no, .bool sf, .slice aoN N.length capN, .slice aoE E.length capE] 29)) _ _
  have HT2 := Lib.hid (HT.out.keep hW)
  obtain ⟨y0, y1, y2, y3, y4⟩ := hNS.five
  obtain ⟨e0, e1⟩ := hEN.two
  have HW := Lib.hid hW
  have HAL := Lib.hid hal
  clear hW hNS hEN s1 HT hal
  by_cases h1 : (60 : Int) < (N.length : Int)
  · go_enter Try.func8, Try.ntmps8
    go_wp2_with fail
    go_ret
    exact ⟨false, rfl, fun h => (by cases h), HW.out⟩
  by_cases h2 : (60 : Int) < (E.length : Int)
  · go_enter Try.func8, Try.ntmps8
    go_wp2_with fail
    go_ret
    exact ⟨false, rfl, fun h => (by cases h), HW.out⟩
  by_cases h3 : (300 : Int) < (Ts.length : Int)
  · go_enter Try.func8, Try.ntmps8
    go_wp2_with fail
    go_ret
    exact ⟨false, rfl, fun h => (by cases h), HW.out⟩
  by_cases h4 : (60 : Int) < (As.length : Int)
  · go_enter Try.func8, Try.ntmps8
    go_wp2_with fail
    go_ret
    exact ⟨false, rfl, fun h => (by cases h), HW.out⟩
  have HF : Hid ((∀ k (h : k < Ts.length), Ts[k].2.length ≤ 20) → Few N E Ts As) := Lib.hid fun h => ⟨by omega, by omega, by omega, by omega, h⟩
  go_enter Try.func8, Try.ntmps8
  go_wp2_with fail
  generalize ((w.alloc (.cells #[.bool al, .bool no, .bool sf, .slice aoN N.length capN, .slice aoE E.length capE] 29)).alloc (.cells #[.slice aoT Ts.length capT, .slice aoA As.length capA] 25)) = W at *
  obtain ⟨ao2, cap2, e2, hr⟩ := HT2.out
  cases e2
  go_loop [31] (fun vi => ∃ i : Nat, i ≤ Ts.length ∧ vi = .int .i64 i ∧ Hid (∀ k (_ : k < i) (h' : k < Ts.length), Ts[k].2.length ≤ 20)) (fun vi => Ts.length - (intOf vi).toNat)
  case atStart => exact ⟨0, Nat.zero_le _, rfl, Lib.hid fun k h => absurd h (by omega)⟩
  case round =>
    obtain ⟨i, hi, rfl, HA⟩ := hrel
    by_cases hlt : i < Ts.length
    · have hlt' : (i : Int) < (Ts.length : Int) := by omega
      obtain ⟨g, o, rfl, hg, hq⟩ := hr (by rintro rfl; simp at hlt)
      obtain ⟨q0, va, q1, hS⟩ := hq i hlt
      have hal := HAL.out i hlt
      obtain ⟨⟨nm, al2⟩, hx⟩ : ∃ x, Ts[i] = x := ⟨_, rfl⟩
      rw [hx] at hS hal
      simp only at hS hal
      obtain ⟨ao3, cap3, rfl, -⟩ := hS
      have HX := Lib.hid hx
      clear hx hq q0 hg
      by_cases hs : (20 : Int) < (al2.length : Int)
      · clear HA
        go_wp2_with fail
        go_ret
        exact ⟨false, rfl, fun h => (by cases h), HW.out⟩
      · have HA2 : Hid (∀ k (_ : k < i + 1) (h' : k < Ts.length), Ts[k].2.length ≤ 20) := Lib.hid fun k hk h => by
          rcases Nat.lt_or_ge k i with h' | h'
          · exact HA.out k h' h
          · obtain rfl : k = i := by omega
            rw [HX.out]
            show al2.length ≤ 20
            omega
        clear HA
        go_wp2_with fail
        go_round
        case rel => exact ⟨i + 1, hlt, by go_num, HA2⟩
        case measure => simp [intOf]; omega
    · obtain rfl : i = Ts.length := by omega
      have HF2 := Lib.hid (HF.out fun k h => HA.out k h h)
      clear HA
      go_wp2_with fail
      go_ret
      exact ⟨true, rfl, fun _ => HF2.out, HW.out⟩
end Go.Proofs.Ytbkejoheefnmiaa
