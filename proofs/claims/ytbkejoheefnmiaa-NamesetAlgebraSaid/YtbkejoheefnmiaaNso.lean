/- What a set of names means in a list: numbers and listed of the reference. Condition: at most a million names, types, attributes and aliases. -/
import Derived.Test.YtbkejoheefnmiaaNsl
namespace Go.Proofs.Ytbkejoheefnmiaa
open Go.RowKit
/-- what a name means in a list of at most so many -/
def numS (L : List ByteArray) (x : ByteArray) : S4 := ofS [idxI L x]
def numB (L : List ByteArray) (most : Nat) (x : ByteArray) : Bool := decide (0 ≤ idxI L x ∧ idxI L x < most)
theorem numB_yes {L : List ByteArray} {most : Nat} {x : ByteArray} (h : numB L most x = true) : 0 ≤ idxI L x ∧ idxI L x < most := of_decide_eq_true h
theorem numB_no {L : List ByteArray} {most : Nat} {x : ByteArray} (h : numB L most x = false) : idxI L x < 0 ∨ 0 ≤ idxI L x ∧ (most : Int) ≤ idxI L x := by
  have := of_decide_eq_false h
  omega
set_option maxRecDepth 100000 in
set_option maxHeartbeats 4000000 in
theorem numbers_c (v vL : Value) (l L : List ByteArray) (most : Nat) (w : World) (hS : Strs w v l) (hL : Strs w vL L) (hn : l.length ≤ 1000000) (hn2 : L.length ≤ 1000000) (hm : most ≤ 256) :
    Calls Try.prog 55 #[v, vL, .int .i64 most] w (SetOut (unS (numS L) (numB L most) l) (unB (numB L most) l) w) := by
  obtain ⟨ao, cap, rfl, hr⟩ := hS
  obtain ⟨B, hB⟩ : ∃ B, unB (numB L most) l = B := ⟨_, rfl⟩
  obtain ⟨S, hS⟩ : ∃ S, unS (numS L) (numB L most) l = S := ⟨_, rfl⟩
  rw [hB, hS]
  have HB := Lib.hid hB
  have HS := Lib.hid hS
  clear hB hS
  have HF := Lib.hid (fun n W (h : Kp w W) => rindex_c vL L n W (hL.keep h) (by omega))
  have hW : Below w.heap.size w ((w.alloc (.cells #[.int .u64 0, .int .u64 0, .int .u64 0, .int .u64 0] 35)).alloc (.cells #[.int .u64 0, .int .u64 0, .int .u64 0, .int .u64 0] 35)) := ((Below.refl _ _).alloc (Nat.le_refl _) _).alloc (by simp) _
  have hQ1 : Quad ((w.alloc (.cells #[.int .u64 0, .int .u64 0, .int .u64 0, .int .u64 0] 35)).alloc (.cells #[.int .u64 0, .int .u64 0, .int .u64 0, .int .u64 0] 35)) w.heap.size 0 0 0 0 := (Quad.new w 0 0 0 0).alloc _
  have hQ2 : Quad ((w.alloc (.cells #[.int .u64 0, .int .u64 0, .int .u64 0, .int .u64 0] 35)).alloc (.cells #[.int .u64 0, .int .u64 0, .int .u64 0, .int .u64 0] 35)) (w.heap.size + 1) 0 0 0 0 := quad_second w
  have HW := Lib.hid hW
  have HQ1 := Lib.hid hQ1
  have HQ2 := Lib.hid hQ2
  clear hW hQ1 hQ2 hL
  go_enter Try.func55, Try.ntmps55
  go_wp2_with fail
  generalize ((w.alloc (.cells #[.int .u64 0, .int .u64 0, .int .u64 0, .int .u64 0] 35)).alloc (.cells #[.int .u64 0, .int .u64 0, .int .u64 0, .int .u64 0] 35)) = W at *
  go_loopw [9] (fun vi wr => ∃ i : Nat, i ≤ l.length ∧ vi = .int .i64 i ∧ Hid (∀ k (_ : k < i) (h' : k < l.length), numB L most l[k] = true) ∧ Hid (Kb (w.heap.size + 1) W wr) ∧ ∃ X : S4, Hid (unF (numS L) (l.take i) = X) ∧ Hid (Quad wr (w.heap.size + 1) X.a X.b X.c X.d)) (fun vi _ => l.length - (intOf vi).toNat)
  case atStart => exact ⟨0, Nat.zero_le _, rfl, Lib.hid fun k h => absurd h (by omega), Lib.hid Kb.rfl', S4.zero, Lib.hid rfl, HQ2⟩
  case round =>
    obtain ⟨i, hi, rfl, HN, HK, X, HX, HQ⟩ := hrel
    have HKw : Hid (Kp w wr) := Lib.hid ((But.mono HK.out HW.out.size |> But.trans (But.of_below HW.out)).to_below (Nat.le_succ _))
    have HQ1r : Hid (Quad wr w.heap.size 0 0 0 0) := Lib.hid (HK.out.blk HQ1.out (Nat.ne_of_lt (Nat.lt_succ_self _)))
    by_cases hlt : i < l.length
    · have hlt' : (i : Int) < (l.length : Int) := by omega
      obtain ⟨g, o, rfl, hR⟩ := hr (by rintro rfl; simp at hlt)
      have q := hR.keep (HKw.out.block g (hR.lt (by omega))) i hlt
      obtain ⟨x, hx⟩ : ∃ x, l[i] = x := ⟨_, rfl⟩
      rw [hx] at q
      have HFx := Lib.hid (HF.out x wr HKw.out)
      have hkl := idxI_lo L x
      cases hb : numB L most x
      · obtain ⟨e1, e2⟩ := un_no (fS := numS L) (fB := numB L most) hlt (by rw [hx]; exact hb)
        obtain rfl : false = B := by rw [← HB.out, e1]
        obtain rfl : S4.zero = S := by rw [← HS.out, e2]
        have hcc := numB_no hb
        clear e1 e2 hb hx HN HX
        obtain ⟨K, hK⟩ : ∃ K, idxI L x = K := ⟨_, rfl⟩
        rw [hK] at HFx hcc hkl
        clear hK
        obtain ⟨c0, c1, c2, c3, f0, f1, f2, f3⟩ := HQ1r.out.facts
        have hlo : -1 ≤ K := by omega
        have hhi : K ≤ 1000000 := by omega
        clear hkl
        rcases hcc with hneg | ⟨hpos, hge⟩
        all_goals
          go_wp2_with (go_at_call 34; refine HFx.out.mono ?_; rintro e w2 ⟨rfl, rfl⟩)
          obtain ⟨r0, r1, r2, r3⟩ := quad_box (HQ1r.out.set4 0 0 0 0)
          exact bodyPost_ret (v := .tuple #[.agg #[.int .u64 0, .int .u64 0, .int .u64 0, .int .u64 0], .bool false]) (by simp [results, Try.results55, go_sem, r0, r1, r2, r3]) rfl ⟨rfl, below_set4 HKw.out (Nat.le_refl _) _ _ _ _⟩
      · have HN2 : Hid (∀ k (_ : k < i + 1) (h' : k < l.length), numB L most l[k] = true) := Lib.hid fun k hk h => by
          rcases Nat.lt_or_ge k i with h' | h'
          · exact HN.out k h' h
          · obtain rfl : k = i := by omega
            rw [hx]; exact hb
        obtain ⟨hpos, hge⟩ := numB_yes hb
        have hXU : X.U := by rw [← HX.out]; exact unF_U _ _
        have HX2 : Hid (unF (numS L) (l.take (i + 1)) = withS (idxI L x) X) := Lib.hid (by rw [unF_snoc (numS L) hlt, HX.out, hx, withS_or _ hXU]; rfl)
        clear hb hx HN HX hXU
        obtain ⟨K, hK⟩ : ∃ K, idxI L x = K := ⟨_, rfl⟩
        rw [hK] at HFx HX2 hpos hge hkl
        clear hK
        have hhi : K ≤ 1000000 := by omega
        have hge' : ¬ (most : Int) ≤ K := by omega
        clear hkl
        obtain ⟨c0, c1, c2, c3⟩ := quad_box HQ.out
        have HWI := Lib.hid (rwith_c X.a X.b X.c X.d K wr)
        go_wp2_with (go_at_call 34; refine HFx.out.mono ?_; rintro e w2 ⟨rfl, rfl⟩)
        refine HWI.out.mono ?_
        rintro e w3 ⟨rfl, hb3⟩
        have hQ := HQ.out.keep hb3
        have HK3 := Lib.hid (HK.out.step hb3)
        clear c0 c1 c2 c3
        obtain ⟨c0, c1, c2, c3, f0, f1, f2, f3⟩ := hQ.facts
        have HQ4 := Lib.hid (hQ.set4 (withS K X).a (withS K X).b (withS K X).c (withS K X).d)
        clear hb3 hQ q
        go_wp2_with fail
        go_roundw
        case rel => exact ⟨i + 1, hlt, by go_num, HN2, Lib.hid ((((HK3.out.set _ _).set _ _).set _ _).set _ _), withS K X, HX2, HQ4⟩
        case measure => simp [intOf]; omega
    · obtain rfl : i = l.length := by omega
      obtain ⟨e1, e2⟩ := un_yes (fS := numS L) (fB := numB L most) fun k h => HN.out k h h
      obtain rfl : true = B := by rw [← HB.out, e1]
      obtain rfl : X = S := by rw [← HS.out, e2, ← HX.out, List.take_length]
      clear HN e1 e2 HX
      obtain ⟨c0, c1, c2, c3⟩ := quad_box HQ.out
      obtain ⟨d0, d1, d2, d3, f0, f1, f2, f3⟩ := HQ1r.out.facts
      go_wp2_with fail
      obtain ⟨r0, r1, r2, r3⟩ := quad_box (HQ1r.out.set4 X.a X.b X.c X.d)
      exact bodyPost_ret (v := .tuple #[.agg #[.int .u64 (X).a, .int .u64 (X).b, .int .u64 (X).c, .int .u64 (X).d], .bool true]) (by simp [results, Try.results55, go_sem, r0, r1, r2, r3]) rfl ⟨rfl, below_set4 HKw.out (Nat.le_refl _) _ _ _ _⟩
set_option maxRecDepth 100000 in
set_option maxHeartbeats 8000000 in
theorem rlisted_c (al no sf : Bool) (vN vE vL : Value) (N E L : List ByteArray) (most : Nat) (w : World) (hN : Strs w vN N) (hE : Strs w vE E) (hL : Strs w vL L) (hn : N.length ≤ 1000000) (hn2 : E.length ≤ 1000000) (hn3 : L.length ≤ 1000000) (hm : most ≤ 256) :
    Calls Try.prog 43 #[.agg #[.bool al, .bool no, .bool sf, vN, vE], vL, .int .i64 most] w (SetOut (meanS al no ((min L.length most : Nat) : Int) (numS L) (numB L most) N E) (meanB (numB L most) N E) w) := by
  have hW : Kp w ((w.alloc (.cells #[.bool al, .bool no, .bool sf, vN, vE] 29)).alloc (.cells #[.int .u64 0, .int .u64 0, .int .u64 0, .int .u64 0] 35)) := ((Below.refl _ _).alloc (Nat.le_refl _) _).alloc (by simp) _
  have hNS : Blk ((w.alloc (.cells #[.bool al, .bool no, .bool sf, vN, vE] 29)).alloc (.cells #[.int .u64 0, .int .u64 0, .int .u64 0, .int .u64 0] 35)) w.heap.size 29 #[.bool al, .bool no, .bool sf, vN, vE] := (Blk.new w _ _).alloc _
  have s1 : (w.alloc (.cells #[.bool al, .bool no, .bool sf, vN, vE] 29)).heap.size = w.heap.size + 1 := by simp
  have hQ4 : Quad ((w.alloc (.cells #[.bool al, .bool no, .bool sf, vN, vE] 29)).alloc (.cells #[.int .u64 0, .int .u64 0, .int .u64 0, .int .u64 0] 35)) (w.heap.size + 1) 0 0 0 0 := by
    rw [← s1]; exact Quad.new (w.alloc (.cells #[.bool al, .bool no, .bool sf, vN, vE] 29)) 0 0 0 0
  clear s1
  have HU1 := Lib.hid (fun W (h : Kp w W) => numbers_c vN vL N L most W (hN.keep h) (hL.keep h) hn hn3 hm)
  have HU2 := Lib.hid (fun W (h : Kp w W) => numbers_c vE vL E L most W (hE.keep h) (hL.keep h) hn2 hn3 hm)
  have hUI := unS_U (numS L) (numB L most) N
  unfold meanS meanB
  obtain ⟨B1, hB1⟩ : ∃ B, unB (numB L most) N = B := ⟨_, rfl⟩
  obtain ⟨B2, hB2⟩ : ∃ B, unB (numB L most) E = B := ⟨_, rfl⟩
  obtain ⟨I, hI⟩ : ∃ S, unS (numS L) (numB L most) N = S := ⟨_, rfl⟩
  obtain ⟨O, hO⟩ : ∃ S, unS (numS L) (numB L most) E = S := ⟨_, rfl⟩
  rw [hB1, hI] at HU1
  rw [hB2, hO] at HU2
  rw [hI] at hUI
  rw [hB1, hB2, hI, hO]
  have HCB := Lib.hid (fun W => combine_c al no sf vN vE I O ((min L.length most : Nat) : Int) W (by omega) (by omega))
  obtain ⟨R, hR⟩ : ∃ R, combR al no ((min L.length most : Nat) : Int) I O = R := ⟨_, rfl⟩
  rw [← comb_eq al no ((min L.length most : Nat) : Int) O hUI]
  rw [hR] at HCB
  rw [hR]
  clear hB1 hB2 hI hO hR hUI
  obtain ⟨ao, cap, rfl, -⟩ := hL
  obtain ⟨y0, y1, y2, y3, y4⟩ := hNS.five
  obtain ⟨C, hC⟩ : ∃ C, min L.length most = C := ⟨_, rfl⟩
  rw [hC] at HCB
  have HMN : Hid ((L.length : Int) ≤ (most : Int) ∧ C = L.length ∨ ¬ (L.length : Int) ≤ (most : Int) ∧ C = most) := Lib.hid (by omega)
  clear hC
  have HNS := Lib.hid hNS
  have HQ4 := Lib.hid hQ4
  have HW := Lib.hid hW
  clear hQ4 hW hNS hN hE 
  have hcase : B1 = false ∨ B1 = true ∧ B2 = false ∨ B1 = true ∧ B2 = true := by cases B1 <;> cases B2 <;> simp
  rcases hcase with rfl | ⟨rfl, rfl⟩ | ⟨rfl, rfl⟩
  · go_enter Try.func43, Try.ntmps43
    go_wp2_with fail
    refine (HU1.out _ HW.out).mono ?_
    rintro e w1 ⟨rfl, hb1⟩
    have HW1 := Lib.hid ((Kp.step HW.out hb1).alloc (.cells #[.int .u64 (I).a, .int .u64 (I).b, .int .u64 (I).c, .int .u64 (I).d] 35))
    replace HNS := Lib.hid (HNS.out.keep hb1 |>.alloc (.cells #[.int .u64 (I).a, .int .u64 (I).b, .int .u64 (I).c, .int .u64 (I).d] 35))
    replace HQ4 := Lib.hid (HQ4.out.keep hb1 |>.alloc (.cells #[.int .u64 (I).a, .int .u64 (I).b, .int .u64 (I).c, .int .u64 (I).d] 35))
    have HQ6 := Lib.hid (Quad.new w1 I.a I.b I.c I.d)
    clear y0 y1 y2 y3 y4 hb1
    obtain ⟨y0, y1, y2, y3, y4⟩ := HNS.out.five
    go_wp2_with fail
    refine (HU2.out _ HW1.out).mono ?_
    rintro e w2 ⟨rfl, hb2⟩
    have HW2 := Lib.hid ((Kp.step HW1.out hb2).alloc (.cells #[.int .u64 (O).a, .int .u64 (O).b, .int .u64 (O).c, .int .u64 (O).d] 35))
    replace HNS := Lib.hid (HNS.out.keep hb2 |>.alloc (.cells #[.int .u64 (O).a, .int .u64 (O).b, .int .u64 (O).c, .int .u64 (O).d] 35))
    replace HQ4 := Lib.hid (HQ4.out.keep hb2 |>.alloc (.cells #[.int .u64 (O).a, .int .u64 (O).b, .int .u64 (O).c, .int .u64 (O).d] 35))
    replace HQ6 := Lib.hid (HQ6.out.keep hb2 |>.alloc (.cells #[.int .u64 (O).a, .int .u64 (O).b, .int .u64 (O).c, .int .u64 (O).d] 35))
    clear y0 y1 y2 y3 y4 hb2
    obtain ⟨y0, y1, y2, y3, y4⟩ := HNS.out.five
    obtain ⟨c0, c1, c2, c3, c4, c5, c6, c7⟩ := HQ4.out.facts
    go_wp2_with fail
    obtain ⟨r0, r1, r2, r3⟩ := quad_box (HQ4.out.set4 0 0 0 0)
    exact bodyPost_ret (v := .tuple #[.agg #[.int .u64 0, .int .u64 0, .int .u64 0, .int .u64 0], .bool false]) (by simp [results, Try.results43, go_sem, r0, r1, r2, r3]) rfl ⟨rfl, below_set4 HW2.out (by omega) _ _ _ _⟩
  · go_enter Try.func43, Try.ntmps43
    go_wp2_with fail
    refine (HU1.out _ HW.out).mono ?_
    rintro e w1 ⟨rfl, hb1⟩
    have HW1 := Lib.hid ((Kp.step HW.out hb1).alloc (.cells #[.int .u64 (I).a, .int .u64 (I).b, .int .u64 (I).c, .int .u64 (I).d] 35))
    replace HNS := Lib.hid (HNS.out.keep hb1 |>.alloc (.cells #[.int .u64 (I).a, .int .u64 (I).b, .int .u64 (I).c, .int .u64 (I).d] 35))
    replace HQ4 := Lib.hid (HQ4.out.keep hb1 |>.alloc (.cells #[.int .u64 (I).a, .int .u64 (I).b, .int .u64 (I).c, .int .u64 (I).d] 35))
    have HQ6 := Lib.hid (Quad.new w1 I.a I.b I.c I.d)
    clear y0 y1 y2 y3 y4 hb1
    obtain ⟨y0, y1, y2, y3, y4⟩ := HNS.out.five
    go_wp2_with fail
    refine (HU2.out _ HW1.out).mono ?_
    rintro e w2 ⟨rfl, hb2⟩
    have HW2 := Lib.hid ((Kp.step HW1.out hb2).alloc (.cells #[.int .u64 (O).a, .int .u64 (O).b, .int .u64 (O).c, .int .u64 (O).d] 35))
    replace HNS := Lib.hid (HNS.out.keep hb2 |>.alloc (.cells #[.int .u64 (O).a, .int .u64 (O).b, .int .u64 (O).c, .int .u64 (O).d] 35))
    replace HQ4 := Lib.hid (HQ4.out.keep hb2 |>.alloc (.cells #[.int .u64 (O).a, .int .u64 (O).b, .int .u64 (O).c, .int .u64 (O).d] 35))
    replace HQ6 := Lib.hid (HQ6.out.keep hb2 |>.alloc (.cells #[.int .u64 (O).a, .int .u64 (O).b, .int .u64 (O).c, .int .u64 (O).d] 35))
    clear y0 y1 y2 y3 y4 hb2
    obtain ⟨y0, y1, y2, y3, y4⟩ := HNS.out.five
    obtain ⟨c0, c1, c2, c3, c4, c5, c6, c7⟩ := HQ4.out.facts
    go_wp2_with fail
    obtain ⟨r0, r1, r2, r3⟩ := quad_box (HQ4.out.set4 0 0 0 0)
    exact bodyPost_ret (v := .tuple #[.agg #[.int .u64 0, .int .u64 0, .int .u64 0, .int .u64 0], .bool false]) (by simp [results, Try.results43, go_sem, r0, r1, r2, r3]) rfl ⟨rfl, below_set4 HW2.out (by omega) _ _ _ _⟩
  · go_enter Try.func43, Try.ntmps43
    go_wp2_with fail
    refine (HU1.out _ HW.out).mono ?_
    rintro e w1 ⟨rfl, hb1⟩
    have HW1 := Lib.hid ((Kp.step HW.out hb1).alloc (.cells #[.int .u64 (I).a, .int .u64 (I).b, .int .u64 (I).c, .int .u64 (I).d] 35))
    replace HNS := Lib.hid (HNS.out.keep hb1 |>.alloc (.cells #[.int .u64 (I).a, .int .u64 (I).b, .int .u64 (I).c, .int .u64 (I).d] 35))
    replace HQ4 := Lib.hid (HQ4.out.keep hb1 |>.alloc (.cells #[.int .u64 (I).a, .int .u64 (I).b, .int .u64 (I).c, .int .u64 (I).d] 35))
    have HQ6 := Lib.hid (Quad.new w1 I.a I.b I.c I.d)
    clear y0 y1 y2 y3 y4 hb1
    obtain ⟨y0, y1, y2, y3, y4⟩ := HNS.out.five
    go_wp2_with fail
    refine (HU2.out _ HW1.out).mono ?_
    rintro e w2 ⟨rfl, hb2⟩
    have HW2 := Lib.hid ((Kp.step HW1.out hb2).alloc (.cells #[.int .u64 (O).a, .int .u64 (O).b, .int .u64 (O).c, .int .u64 (O).d] 35))
    replace HNS := Lib.hid (HNS.out.keep hb2 |>.alloc (.cells #[.int .u64 (O).a, .int .u64 (O).b, .int .u64 (O).c, .int .u64 (O).d] 35))
    replace HQ4 := Lib.hid (HQ4.out.keep hb2 |>.alloc (.cells #[.int .u64 (O).a, .int .u64 (O).b, .int .u64 (O).c, .int .u64 (O).d] 35))
    replace HQ6 := Lib.hid (HQ6.out.keep hb2 |>.alloc (.cells #[.int .u64 (O).a, .int .u64 (O).b, .int .u64 (O).c, .int .u64 (O).d] 35))
    clear y0 y1 y2 y3 y4 hb2
    obtain ⟨y0, y1, y2, y3, y4⟩ := HNS.out.five
    obtain ⟨c0, c1, c2, c3, c4, c5, c6, c7⟩ := HQ6.out.facts
    rcases HMN.out with ⟨hle, rfl⟩ | ⟨hle, rfl⟩
    all_goals
      go_wp2_with fail
      refine (HCB.out _).mono ?_
      rintro e w3 ⟨rfl, hb3⟩
      have HW3 := Lib.hid (Kp.step HW2.out hb3)
      have HQ5 := Lib.hid (HQ4.out.keep hb3)
      clear y0 y1 y2 y3 y4 c0 c1 c2 c3 c4 c5 c6 c7 hb3
      obtain ⟨c0, c1, c2, c3, c4, c5, c6, c7⟩ := HQ5.out.facts
      go_wp2_with fail
      obtain ⟨r0, r1, r2, r3⟩ := quad_box (HQ5.out.set4 (R).a (R).b (R).c (R).d)
      exact bodyPost_ret (v := .tuple #[.agg #[.int .u64 (R).a, .int .u64 (R).b, .int .u64 (R).c, .int .u64 (R).d], .bool true]) (by simp [results, Try.results43, go_sem, r0, r1, r2, r3]) rfl ⟨rfl, below_set4 HW3.out (by omega) _ _ _ _⟩
end Go.Proofs.Ytbkejoheefnmiaa
