/- The walk of the law NamesetTypes. -/
import Derived.Test.YtmojliehpcefcaaNte
import Derived.Test.YtmojliehpcefcaaNtc
import Derived.Test.YtmojliehpcefcaaNsm
import Derived.Test.YtmojliehpcefcaaNsn
namespace Go.Proofs.Ytmojliehpcefcaa
open Go.RowKit
set_option maxRecDepth 100000 in
set_option maxHeartbeats 8000000 in
theorem ltypes_c (al no sf : Bool) (vN vE : Value) (N E : List ByteArray) (vT vA : Value) (Ts : List TyE) (As : List AtE) (w : World) (hN : Strs w vN N) (hE : Strs w vE E) (hT : Tys w vT Ts) (hA : Ats w vA As) (hn : N.length ≤ maxLen) (hn2 : E.length ≤ maxLen) (hn3 : Ts.length ≤ maxLen) (hn4 : As.length ≤ maxLen) (hal : ∀ k (h : k < Ts.length), Ts[k].2.length ≤ maxLen) :
    Calls Try.prog 4 #[.agg #[.bool al, .bool no, .bool sf, vN, vE], .agg #[vT, vA]] w fun e w' => e = .returned (.bool true) ∧ Below w.heap.size w w' := by
  have hW : Kp w ((w.alloc (.cells #[.bool al, .bool no, .bool sf, vN, vE] 29)).alloc (.cells #[vT, vA] 25)) := ((Below.refl _ _).alloc (Nat.le_refl _) _).alloc (by simp) _
  have hNS : Blk ((w.alloc (.cells #[.bool al, .bool no, .bool sf, vN, vE] 29)).alloc (.cells #[vT, vA] 25)) w.heap.size 29 #[.bool al, .bool no, .bool sf, vN, vE] := (Blk.new w _ _).alloc _
  have s1 : (w.alloc (.cells #[.bool al, .bool no, .bool sf, vN, vE] 29)).heap.size = w.heap.size + 1 := by simp
  have hEN : Blk ((w.alloc (.cells #[.bool al, .bool no, .bool sf, vN, vE] 29)).alloc (.cells #[vT, vA] 25)) (w.heap.size + 1) 25 #[vT, vA] := by
    rw [← s1]; exact Blk.new (w.alloc (.cells #[.bool al, .bool no, .bool sf, vN, vE] 29)) _ _
  have HF := Lib.hid (few_c al no sf vN vE vT vA N E Ts As ((w.alloc (.cells #[.bool al, .bool no, .bool sf, vN, vE] 29)).alloc (.cells #[vT, vA] 25)) (hN.keep hW) (hE.keep hW) (hT.keep hW) (hA.keep hW) hn hn2 hn3 hn4 hal)
  obtain ⟨y0, y1, y2, y3, y4⟩ := hNS.five
  obtain ⟨e0, e1⟩ := hEN.two
  have HNS := Lib.hid hNS
  have HEN := Lib.hid hEN
  have HW := Lib.hid hW
  have HN := Lib.hid (hN.keep hW)
  have HE := Lib.hid (hE.keep hW)
  have HT := Lib.hid (hT.keep hW)
  have HA := Lib.hid (hA.keep hW)
  clear hn hn2 hn3 hn4 hal hNS hEN hW hN hE hT hA s1
  go_enter Try.func4, Try.ntmps4
  go_wp2_with fail
  generalize ((w.alloc (.cells #[.bool al, .bool no, .bool sf, vN, vE] 29)).alloc (.cells #[vT, vA] 25)) = W at *
  refine HF.out.mono ?_
  rintro e w1 ⟨b, rfl, hb, hb1⟩
  have HK1 : Hid (Kp W w1) := Lib.hid hb1
  clear e0 e1 y0 y1 y2 y3 y4 hb1
  cases b
  · clear hb
    go_wp2_with fail
    refine (awake_c _).mono ?_
    rintro e w2 ⟨rfl, hb2⟩
    have HB := Lib.hid (Kp.step HW.out (Kp.step HK1.out hb2))
    clear hb2
    go_wp2_with fail
    go_ret
    exact ⟨rfl, HB.out⟩
  · obtain ⟨a1, a2, b3, b4, b5⟩ := hb rfl
    have a1' : N.length ≤ 1000000 := by omega
    have a2' : E.length ≤ 1000000 := by omega
    have b3' : Ts.length ≤ 1000000 := by omega
    have b4' : As.length ≤ 1000000 := by omega
    have b5' : ∀ k (h : k < Ts.length), Ts[k].2.length ≤ 1000000 := fun k h => by have := b5 k h; omega
    have HC1 := Lib.hid (fun W' (h : Kp W W') => types_c al no sf vN vE vT vA N E Ts As W' (HN.out.keep h) (HE.out.keep h) (HT.out.keep h) (HA.out.keep h) a1' a2' b3' b4' b5')
    have HC2 := Lib.hid (fun W' (h : Kp W W') => rTypes_c al no sf vN vE vT vA N E Ts As W' (HN.out.keep h) (HE.out.keep h) (HT.out.keep h) (HA.out.keep h) a1' a2' b3' b4' b5')
    obtain ⟨S, hS⟩ : ∃ K, meanS al no Ts.length (oneS Ts As) (oneB Ts As) N E = K := ⟨_, rfl⟩
    obtain ⟨F, hF⟩ : ∃ K, errI (meanB (oneB Ts As) N E) 11 = K := ⟨_, rfl⟩
    rw [hS, hF] at HC1 HC2
    clear hS hF a1 a2 b3 b4 b5 a1' a2' b3' b4' b5' hb
    obtain ⟨y0, y1, y2, y3, y4⟩ := (HK1.out.blk HNS.out).five
    obtain ⟨e0, e1⟩ := (HK1.out.blk HEN.out).two
    go_wp2_with fail
    refine (HC1.out _ HK1.out).mono ?_
    rintro e w4 ⟨rfl, hb4⟩
    have HK4 := Lib.hid ((Kp.step HK1.out hb4).alloc (.cells #[.int .u64 (S).a, .int .u64 (S).b, .int .u64 (S).c, .int .u64 (S).d] 35))
    have HQ := Lib.hid (Quad.new w4 (S).a (S).b (S).c (S).d)
    clear hb4 e0 e1 y0 y1 y2 y3 y4
    obtain ⟨y0, y1, y2, y3, y4⟩ := (HK4.out.blk HNS.out).five
    obtain ⟨e0, e1⟩ := (HK4.out.blk HEN.out).two
    go_wp2_with fail
    refine (HC2.out _ HK4.out).mono ?_
    rintro e w5 ⟨rfl, hb5⟩
    have HK5 := Lib.hid ((Kp.step HK4.out hb5).alloc (.cells #[.int .u64 (S).a, .int .u64 (S).b, .int .u64 (S).c, .int .u64 (S).d] 35))
    obtain ⟨c0, c1, c2, c3⟩ := quad_box ((HQ.out.keep hb5).alloc (.cells #[.int .u64 (S).a, .int .u64 (S).b, .int .u64 (S).c, .int .u64 (S).d] 35))
    clear hb5 e0 e1 y0 y1 y2 y3 y4
    go_wp2_with fail
    refine (awake_c _).mono ?_
    rintro e w6 ⟨rfl, hb6⟩
    have HB := Lib.hid (Kp.step HW.out (Kp.step HK5.out hb6))
    clear hb6 c0 c1 c2 c3
    go_wp2_with fail
    go_ret
    exact ⟨rfl, HB.out⟩
end Go.Proofs.Ytmojliehpcefcaa
