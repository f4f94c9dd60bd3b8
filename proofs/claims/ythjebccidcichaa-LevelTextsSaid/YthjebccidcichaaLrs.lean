/- The reference's spans. -/
import Derived.Test.YthjebccidcichaaLvq
namespace Go.Proofs.Ythjebccidcichaa
open Go.RowKit
def RSpansOut (m : List ByteArray) (c : Nat) (w : World) (e : Ending) (w' : World) : Prop := ∃ v, e = .returned v ∧ Spans w' v (spansL m c) ∧ Below w.heap.size w w'
def toS (m : List ByteArray) (n k : Nat) : ByteArray := if n = k then ⟨#[]⟩ else nmAt m k
theorem toS_self (m : List ByteArray) (n : Nat) : toS m n n = ⟨#[]⟩ := if_pos rfl
set_option maxRecDepth 100000 in
set_option maxHeartbeats 8000000 in
theorem rspans_c (s : Int) (c : Nat) (u : Value) (m : List ByteArray) (w : World) (hc : c < U64) (hU : Strs w u m) (hm : m.length ≤ 64) (hbits : ∀ k : Nat, hasL c k = true → k < m.length) :
    Calls Try.prog 54 #[.agg #[.int .i64 s, .int .u64 c], u] w (RSpansOut m c w) := by
  obtain ⟨i0, hinf, hz0, hz1, hz2⟩ := info_parts infoSpan
  obtain ⟨ao2, cap2, rfl, hr2⟩ := hU
  obtain ⟨R, hR⟩ : ∃ R, runsQ c 0 none = R := ⟨_, rfl⟩
  have HR := Lib.hid hR
  have HH := Lib.hid (fun (k : Nat) W => rhas_c s c k W hc)
  have HBT := Lib.hid hbits
  have hB := Blk.new w 24 #[.int .i64 s, .int .u64 c]
  have hW : Kp w (w.alloc (.cells #[.int .i64 s, .int .u64 c] 24)) := Kp.rfl'.alloc _
  have HU : Hid (∀ W, Kp w W → ∀ i (h : i < m.length), ∃ g o, ao2 = some ⟨g, o, none⟩ ∧ g < W.heap.size ∧ W.cell? ⟨g, o + i, none⟩ = some (.string (nmAt m i))) := Lib.hid fun W hW i h => by
    obtain ⟨g, o, rfl, hR⟩ := hr2 (by rintro rfl; simp at h)
    have hg := hR.lt (by omega)
    exact ⟨g, o, rfl, by have := hW.size; omega, by rw [nmAt_lt h]; exact (hR.keep (hW.block g hg)) i h⟩
  clear hR hbits hr2
  go_enter Try.func54, Try.ntmps54
  go_wp2_with fail
  go_loopw [5, 6] (fun v5 v6 wr => ∃ (n : Nat) (M : List (Nat × Nat)) (vv : Value), vv = v5 ∧ n ≤ m.length ∧ v6 = .int .i64 n ∧ M.length ≤ n ∧ Hid (M ++ runsQ c n none = R) ∧ Own2 wr (w.heap.size + 1) 68 vv ((M.map (spL m)).map spC) ∧ Blk wr w.heap.size 24 #[.int .i64 s, .int .u64 c] ∧ Kp w wr) (fun _ v6 _ => m.length - (intOf v6).toNat)
  case atStart => exact ⟨0, [], _, rfl, Nat.zero_le _, rfl, Nat.le_refl _, HR, Own2.nil, hB, hW⟩
  case round =>
    clear hB hW
    obtain ⟨n, M, v, rfl, hn, rfl, hM, HM, hown, hB, hK⟩ := hrel
    obtain ⟨y0, y1⟩ := hB.box2
    by_cases hlt : n < m.length
    · have hlt' : (n : Int) < (m.length : Int) := by omega
      have H0 := Lib.hid (HH.out n)
      cases hq : hasL c n
      · have HM2 : Hid (M ++ runsQ c (n + 1) none = R) := Lib.hid (by rw [← runsQ_no (by omega) hq]; exact HM.out)
        rw [hq] at H0
        have HO := Lib.hid hown
        have HB := Lib.hid hB
        clear hq HM hown hB
        go_wp2_with (go_at_call 42; refine (H0.out _).mono ?_; rintro e w1 ⟨rfl, hb⟩)
        go_roundw
        case rel => exact ⟨n + 1, M, _, rfl, hlt, by go_num, by omega, HM2, HO.out.keep hb, HB.out.keep hb, Kp.step hK hb⟩
        case measure => simp [intOf]; omega
      · have HM2 : Hid (M ++ runsQ c (n + 1) (some n) = R) := Lib.hid (by rw [← runsQ_open (by omega) hq]; exact HM.out)
        rw [hq] at H0
        have HO := Lib.hid hown
        have HB := Lib.hid hB
        clear hq HM hown hB
        go_wp2_with fail
        refine (H0.out _).mono ?_
        rintro e w1 ⟨rfl, hb⟩
        have hK1 := Kp.step hK hb
        have hs1 := hK1.size
        obtain ⟨g, o, rfl, hg, q0⟩ := HU.out w1 hK1 n hlt
        have HO1 := Lib.hid (HO.out.keep hb)
        have HB1 := Lib.hid (HB.out.keep hb)
        obtain ⟨xn, hxn⟩ : ∃ x, nmAt m n = x := ⟨_, rfl⟩
        rw [hxn] at q0
        have HX := Lib.hid hxn
        have e1 : Int.toNat (↑o + ↑n) = o + n := by omega
        have q7 := Blk.new w1 68 #[.string xn, .string ⟨#[]⟩]
        have hK2 : Kp w (w1.alloc (.cells #[.string xn, .string ⟨#[]⟩] 68)) := hK1.alloc _
        have HO2 := Lib.hid (HO1.out.alloc (.cells #[.string xn, .string ⟨#[]⟩] 68))
        have HB2 := Lib.hid (HB1.out.alloc (.cells #[.string xn, .string ⟨#[]⟩] 68))
        have HNE : Hid (v.ownBlock ≠ some w1.heap.size) := Lib.hid fun e => by have := HO1.out.lt _ e; omega
        have hgx : w.heap.size + 1 ≤ w1.heap.size := HB1.out.lt
        clear hb y0 y1 hxn H0 HO HB HO1 HB1 hK hK1 hs1 hg
        go_wp2_with fail
        generalize hW2 : w1.alloc (.cells #[.string xn, .string ⟨#[]⟩] 68) = W2 at *
        generalize w1.heap.size = gx at *
        clear hW2 q0
        go_loopw [6] (fun v6 wy => ∃ k : Nat, n ≤ k ∧ k < m.length ∧ v6 = .int .i64 k ∧ Hid (M ++ runsQ c (k + 1) (some n) = R) ∧ Blk wy gx 68 #[.string xn, .string (toS m n k)] ∧ Own2 wy (w.heap.size + 1) 68 v ((M.map (spL m)).map spC) ∧ Blk wy w.heap.size 24 #[.int .i64 s, .int .u64 c] ∧ Kp w wy) (fun v6 _ => m.length - (intOf v6).toNat)
        case atStart => exact ⟨n, Nat.le_refl _, hlt, rfl, HM2, by rw [toS_self]; exact q7, HO2.out, HB2.out, hK2⟩
        case round =>
          clear HM2 q7 HO2 HB2 hK2
          obtain ⟨k, hnk, hk, rfl, HM2, q7, hown, hB, hK⟩ := hrel
          obtain ⟨y0, y1⟩ := hB.box2
          have H1 : Hid (∀ W, Calls Try.prog 42 #[.agg #[.int .i64 s, .int .u64 c], .int .i64 ((k : Int) + 1)] W fun e w' => e = .returned (.bool (hasL c (k + 1 : Nat))) ∧ Below W.heap.size W w') := Lib.hid (fun W => HH.out (k + 1) W)
          have HO := Lib.hid hown
          have HB := Lib.hid hB
          have HQ7 := Lib.hid q7
          clear hown hB q7
          have hk64 : (k : Int) < 64 := by omega
          cases hq : hasL c (k + 1 : Nat)
          · have HM3 : Hid ((M ++ [(n, k)]) ++ runsQ c (k + 1) none = R) := Lib.hid (by
              have := runsQ_stop (a := n) (by omega : k + 1 ≤ 64) hq
              rw [Nat.add_sub_cancel] at this
              rw [List.append_assoc, List.singleton_append, ← this]
              exact HM2.out)
            have hXS : spC (spL m (n, k)) = (.string xn, .string (toS m n k)) := by unfold spC spL toS; rw [HX.out]
            obtain ⟨tk, htk⟩ : ∃ t, toS m n k = t := ⟨_, rfl⟩
            rw [htk] at HQ7 hXS
            obtain ⟨XS, hXX⟩ : ∃ XS, (M.map (spL m)).map spC = XS := ⟨_, rfl⟩
            have hXL : XS.length ≤ 64 := by rw [← hXX, List.length_map, List.length_map]; omega
            rw [hXX] at HO
            have HXX := Lib.hid hXX
            have HXS := Lib.hid hXS
            have HL1 : Hid (XS.length + 1 ≤ maxLen) := Lib.hid (by unfold maxLen; omega)
            have HL2 : Hid ((XS.length + 1) * 32 ≤ 140737488355328) := Lib.hid (by omega)
            rw [hq] at H1
            clear hq HM2 htk hXX hXS
            go_wp2_with fail
            refine (H1.out _).mono ?_
            rintro e w2 ⟨rfl, hb⟩
            have hK2 := Kp.step hK hb
            have HB2 := Lib.hid (HB.out.keep hb)
            have HO2 := Lib.hid (HO.out.keep hb)
            have q8 := HQ7.out.keep hb
            obtain ⟨z0, z1⟩ := q8.box2
            have HQ8 := Lib.hid q8
            have HSZ : Hid (∀ o1, w.heap.size + 1 ≤ (w2.alloc o1).heap.size) := Lib.hid (fun o1 => by have := hK2.size; have := HB2.out.lt; simp; omega)
            clear hb q8 y0 y1 hK HO HB HQ7
            go_wp2_with (at_builtin; refine wpList_append_own _ rfl _ _ 48 rfl (w.heap.size + 1) 68 i0 (.agg #[.string ⟨#[]⟩, .string ⟨#[]⟩]) 2 32 Try.underlying48 hinf hz0 hz1 hz2 rfl (by decide) v XS.length (XS.flatMap two) rfl (HO2.out.alloc _) ⟨_, 0, none⟩ 1 1 [.string xn, .string tk] rfl rfl (two_new rfl) (one_str _ _) HL1.out HL2.out (HSZ.out _) ?_)
            intro v' w5 hown2 hgrow _
            have hlo := HO2.out.lt
            have R3 : Own2 w5 (w.heap.size + 1) 68 v' (((M ++ [(n, k)]).map (spL m)).map spC) := by
              unfold Own2
              rw [List.map_append, List.map_append, HXX.out]
              simp only [List.map_cons, List.map_nil, HXS.out]
              simpa [two] using hown2
            have P2 := (HB2.out.alloc (.cells #[.string xn, .string tk] 68)).grown hgrow (fun e => by have := hlo _ e; omega)
            have B3 : Kp w w5 := (Kp.alloc hK2 (.cells #[.string xn, .string tk] 68)).grown hgrow (by have := hK2.size; simp; omega) (fun k e => by have := hlo _ e; omega)
            clear hown2 hgrow hlo z0 z1
            go_wp2_with fail
            go_roundw
            case rel => exact ⟨k + 1, M ++ [(n, k)], _, rfl, hk, by go_num, by simp; omega, HM3, R3, P2, B3⟩
            case measure => simp [intOf]; omega
          · have hk1 : k + 1 < m.length := HBT.out _ hq
            have hk1' : (k : Int) + 1 < (m.length : Int) := by omega
            have HM3 : Hid (M ++ runsQ c (k + 1 + 1) (some n) = R) := Lib.hid (by rw [← runsQ_go hq]; exact HM2.out)
            rw [hq] at H1
            clear hq HM2
            go_wp2_with fail
            refine (H1.out _).mono ?_
            rintro e w2 ⟨rfl, hb⟩
            have hK2 := Kp.step hK hb
            have q8 := HQ7.out.keep hb
            obtain ⟨z0, z1, z2, z3⟩ := q8.cells2
            obtain ⟨g', o', hgo, _, q9⟩ := HU.out w2 hK2 (k + 1) hk1
            cases hgo
            have e2 : Int.toNat (↑o + (↑k + 1)) = o + (k + 1) := by omega
            have HB2 := Lib.hid (HB.out.keep hb)
            have HO2 := Lib.hid (HO.out.keep hb)
            have HQ8 := Lib.hid q8
            have HTS : Hid (toS m n (k + 1) = nmAt m (k + 1)) := Lib.hid (if_neg (by omega))
            obtain ⟨xk, hxk⟩ : ∃ x, nmAt m (k + 1) = x := ⟨_, rfl⟩
            rw [hxk] at q9 HTS
            clear hb q8 y0 y1 hK HO HB HQ7 hxk
            go_wp2_with fail
            go_roundw
            case rel => exact ⟨k + 1, by omega, hk1, by go_num, HM3, by rw [HTS.out]; simpa using HQ8.out.set 1 (.string xk), HO2.out.set HNE.out 1 _, HB2.out.far (p := ⟨gx, 1, none⟩) (by simp only; omega) _, hK2.setCell (p := ⟨gx, 1, none⟩) (by simp only; omega) _⟩
            case measure => simp [intOf]; omega
    · obtain rfl : n = m.length := by omega
      have HM2 : M = R := by
        have := HM.out
        rwa [runsQ_none (fun k hk => by cases h : hasL c k with | false => rfl | true => exact absurd (HBT.out k h) (by omega)), List.append_nil] at this
      have HO := Lib.hid hown
      have HME := Lib.hid HM2
      clear hown HM HM2 hM
      go_wp2_with fail
      go_ret
      exact ⟨_, rfl, by unfold spansL; rw [HR.out, ← HME.out]; exact HO.out.spans, hK⟩
end Go.Proofs.Ythjebccidcichaa
