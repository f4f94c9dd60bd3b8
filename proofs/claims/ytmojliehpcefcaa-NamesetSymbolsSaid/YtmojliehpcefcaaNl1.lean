/- The walk of the law NamesetSymbols. -/
import Derived.Test.YtmojliehpcefcaaNte
import Derived.Test.YtmojliehpcefcaaNtc
import Derived.Test.YtmojliehpcefcaaNse
namespace Go.Proofs.Ytmojliehpcefcaa
open Go.RowKit
set_option maxRecDepth 100000 in
set_option maxHeartbeats 8000000 in
theorem symbols_c (n : ByteArray) (vT vA : Value) (Ts : List TyE) (As : List AtE) (w : World) (hT : Tys w vT Ts) (hA : Ats w vA As) (hn3 : Ts.length ≤ maxLen) (hn4 : As.length ≤ maxLen) (hal : ∀ k (h : k < Ts.length), Ts[k].2.length ≤ maxLen) :
    Calls Try.prog 3 #[.string n, .agg #[vT, vA]] w fun e w' => e = .returned (.bool true) ∧ Below w.heap.size w w' := by
  have hW : Kp w (w.alloc (.cells #[vT, vA] 25)) := (Below.refl _ _).alloc (Nat.le_refl _) _
  have hE : Blk (w.alloc (.cells #[vT, vA] 25)) w.heap.size 25 #[vT, vA] := Blk.new w _ _
  have HF := Lib.hid (few_c false false false (.slice none 0 0) (.slice none 0 0) vT vA [] [] Ts As (w.alloc (.cells #[vT, vA] 25)) Strs.nil Strs.nil (hT.keep hW) (hA.keep hW) (Nat.zero_le _) (Nat.zero_le _) hn3 hn4 hal)
  obtain ⟨e0, e1⟩ := hE.two
  have HE := Lib.hid hE
  have HW := Lib.hid hW
  have HT := Lib.hid (hT.keep hW)
  have HA := Lib.hid (hA.keep hW)
  clear hn3 hn4 hal hE hW hT hA
  go_enter Try.func3, Try.ntmps3
  go_wp2_with fail
  generalize (w.alloc (.cells #[vT, vA] 25)) = W at *
  refine HF.out.mono ?_
  rintro e w1 ⟨b, rfl, hb, hb1⟩
  have HW1 := Lib.hid (Kp.step HW.out hb1)
  have hE1 := HE.out.keep hb1
  have HT1 := Lib.hid (HT.out.keep hb1)
  have HA1 := Lib.hid (HA.out.keep hb1)
  have HE1 := Lib.hid hE1
  clear e0 e1 hb1
  cases b
  · clear hb hE1
    go_wp2_with fail
    refine (awake_c _).mono ?_
    rintro e w2 ⟨rfl, hb2⟩
    have HB := Lib.hid (Kp.step HW1.out hb2)
    clear hb2
    go_wp2_with fail
    go_ret
    exact ⟨rfl, HB.out⟩
  · obtain ⟨_, _, b3, b4, b5⟩ := hb rfl
    have b3' : Ts.length ≤ 1000000 := by omega
    have b4' : As.length ≤ 1000000 := by omega
    have b5' : ∀ k (h : k < Ts.length), Ts[k].2.length ≤ 1000000 := fun k h => by have := b5 k h; omega
    have HC1 := Lib.hid (fun W' (h : Kp w1 W') => type_c vT vA Ts n W' (HT1.out.keep h) b3' b5')
    have HC2 := Lib.hid (fun W' (h : Kp w1 W') => rtype_c vT vA Ts n W' (HT1.out.keep h) b3' b5')
    have HC3 := Lib.hid (fun W' (h : Kp w1 W') => attribute_c vT vA Ts As n W' (HT1.out.keep h) (HA1.out.keep h) b3' b4')
    have HC4 := Lib.hid (fun W' (h : Kp w1 W') => rattribute_c vT vA Ts As n W' (HT1.out.keep h) (HA1.out.keep h) b3' b4')
    obtain ⟨K, hK⟩ : ∃ K, tyK Ts n = K := ⟨_, rfl⟩
    obtain ⟨B, hB⟩ : ∃ K, tyB Ts n = K := ⟨_, rfl⟩
    obtain ⟨S, hS⟩ : ∃ K, atS As Ts.length n = K := ⟨_, rfl⟩
    obtain ⟨D, hD⟩ : ∃ K, atB As n = K := ⟨_, rfl⟩
    rw [hK, hB] at HC1 HC2
    rw [hS, hD] at HC3 HC4
    clear hK hB hS hD b3 b4 b5 b3' b4' b5' hb
    obtain ⟨e0, e1⟩ := hE1.two
    clear hE1
    go_wp2_with fail
    refine (HC1.out _ Kp.rfl').mono ?_
    rintro e w2 ⟨rfl, hb2⟩
    have HK2 : Hid (Kp w1 w2) := Lib.hid hb2
    clear hb2 e0 e1
    obtain ⟨e0, e1⟩ := (HK2.out.blk HE1.out).two
    go_wp2_with fail
    refine (HC2.out _ HK2.out).mono ?_
    rintro e w3 ⟨rfl, hb3⟩
    have HK3 := Lib.hid (Kp.step HK2.out hb3)
    clear hb3 e0 e1
    obtain ⟨e0, e1⟩ := (HK3.out.blk HE1.out).two
    go_wp2_with fail
    refine (HC3.out _ HK3.out).mono ?_
    rintro e w4 ⟨rfl, hb4⟩
    have HK4 := Lib.hid ((Kp.step HK3.out hb4).alloc (.cells #[.int .u64 (S).a, .int .u64 (S).b, .int .u64 (S).c, .int .u64 (S).d] 35))
    have HQ := Lib.hid (Quad.new w4 (S).a (S).b (S).c (S).d)
    clear hb4 e0 e1
    obtain ⟨e0, e1⟩ := (HK4.out.blk HE1.out).two
    go_wp2_with fail
    refine (HC4.out _ HK4.out).mono ?_
    rintro e w5 ⟨rfl, hb5⟩
    have HK5 := Lib.hid ((Kp.step HK4.out hb5).alloc (.cells #[.int .u64 (S).a, .int .u64 (S).b, .int .u64 (S).c, .int .u64 (S).d] 35))
    obtain ⟨c0, c1, c2, c3⟩ := quad_box ((HQ.out.keep hb5).alloc (.cells #[.int .u64 (S).a, .int .u64 (S).b, .int .u64 (S).c, .int .u64 (S).d] 35))
    clear hb5 e0 e1
    go_wp2_with fail
    refine (awake_c _).mono ?_
    rintro e w6 ⟨rfl, hb6⟩
    have HB := Lib.hid (Kp.step HW1.out (Kp.step HK5.out hb6))
    clear hb6 c0 c1 c2 c3
    go_wp2_with fail
    go_ret
    exact ⟨rfl, HB.out⟩
end Go.Proofs.Ytmojliehpcefcaa
