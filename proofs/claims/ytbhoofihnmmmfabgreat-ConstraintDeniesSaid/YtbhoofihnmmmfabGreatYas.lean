/- Part of the proof: Cyc Cyd. No conditions. -/
import Derived.Test.YtbhoofihnmmmfabGreatYar
namespace Go.Proofs.YtbhoofihnmmmfabGreat
open Go.RowKit Go
set_option maxRecDepth 100000 in
set_option maxHeartbeats 16000000 in
theorem mclos_c (a : Int) (n : Nat) (ih : ∀ (x : X) (vn vk : Value) (w : World), smX n x = true → XV w vn vk x → Calls Tryz.prog 18 #[.agg #[.int .i64 x.op, .int .i64 x.a, .int .i64 x.r, .int .i64 x.b, vn, .int .u64 x.st.a, .int .u64 x.st.b, .int .u64 x.st.c, .int .u64 x.st.d, vk], .int .i64 a] w fun e w' => e = .returned (.bool (mnX a n x)) ∧ Below w.heap.size w w') (ga : Nat) (y : X) (vn vk : Value) (w : World) (hs : smX n y = true) (hV : XV w vn vk y) (hga : Blk w ga 3 #[.int .i64 a]) :
 Calls Tryz.prog 43 #[.agg #[.int .i64 y.op, .int .i64 y.a, .int .i64 y.r, .int .i64 y.b, vn, .int .u64 y.st.a, .int .u64 y.st.b, .int .u64 y.st.c, .int .u64 y.st.d, vk], .pointer (some ⟨ga, 0, none⟩)] w fun e w' => e = .returned (.bool (mnX a n y)) ∧ Below w.heap.size w w' := by
 obtain ⟨ao, cap, ak, ck, rfl, rfl⟩ := hV.form
 obtain ⟨W, ZW⟩ : ∃ v, Hid ((w.alloc (.cells #[.int .i64 y.op, .int .i64 y.a, .int .i64 y.r, .int .i64 y.b, .slice ao y.ns.length cap, .int .u64 y.st.a, .int .u64 y.st.b, .int .u64 y.st.c, .int .u64 y.st.d, .slice ak y.ks.length ck] 55)) = v) := ⟨_, Lib.hid rfl⟩
 have HB : Hid (Below w.heap.size w W) := by cases ZW.out; exact Lib.hid ((Below.refl _ _).alloc (Nat.le_refl _) _)
 have HX : Hid (XC W w.heap.size 0 y.op y.a y.r y.b ao y.ns.length cap y.st ak y.ks.length ck) := by cases ZW.out; exact Lib.hid (XC.of_blk (Blk.new w _ _))
 have HA : Hid (Blk W ga 3 #[.int .i64 a]) := by cases ZW.out; exact Lib.hid (hga.alloc _)
 have HC := Lib.hid (ih y _ _ _ hs (hV.keep HB.out))
 clear ih hs hV hga
 go_enter Tryz.func43, Tryz.ntmps43
 go_upto_region 1 with fail
 rw [ZW.out]
 obtain ⟨y0, y1, y2, y3, y4, y5, y6, y7, y8, y9⟩ := HX.out.cells
 have b0 := HA.out.cell 0
 have HLE : Hid (w.heap.size ≤ W.heap.size) := Lib.hid HB.out.size
 generalize hgx : w.heap.size = gx at *
 go_wp2_with (go_at_call 18; (with_reducible refine HC.out.mono ?_); rintro e w1 ⟨rfl, hb1⟩; have HB1 := Lib.hid (HB.out.trans (hb1.mono HLE.out)); clear hb1)
 go_ret
 exact ⟨rfl, by first | exact HB1.out | (rw [hgx]; exact HB1.out)⟩
set_option maxRecDepth 100000 in
set_option maxHeartbeats 16000000 in
theorem mindex_c (F : X → Bool) (a : Int) (ga : Nat) (ks : List X) (vk : Value) (w : World) (hK : SlR 10 XAt w vk ks) (hl : ks.length ≤ maxLen) (hga : Blk w ga 3 #[.int .i64 a])
 (hF : ∀ i (hi : i < ks.length) (vn vk : Value) (W : World), Blk W ga 3 #[.int .i64 a] → XV W vn vk ks[i] → Calls Tryz.prog 43 #[.agg #[.int .i64 (ks[i]).op, .int .i64 (ks[i]).a, .int .i64 (ks[i]).r, .int .i64 (ks[i]).b, vn, .int .u64 (ks[i]).st.a, .int .u64 (ks[i]).st.b, .int .u64 (ks[i]).st.c, .int .u64 (ks[i]).st.d, vk], .pointer (some ⟨ga, 0, none⟩)] W fun e w' => e = .returned (.bool (F ks[i])) ∧ Below W.heap.size W w') :
 Calls Tryz.prog 74 #[vk, .func (.func 43) #[] #[.pointer (some ⟨ga, 0, none⟩)]] w fun e w' => ∃ r : Int, e = .returned (.int .i64 r) ∧ decide (0 ≤ r) = ks.any F ∧ Below w.heap.size w w' := by
 obtain ⟨ak, ck, rfl, -, -⟩ := id hK
 have HK := Lib.hid hK
 have HF := Lib.hid hF
 have HGA := Lib.hid hga
 have hkI : (ks.length : Int) ≤ 9223372036854775807 := by unfold maxLen at hl; omega
 clear hK hl hga hF
 go_enter Tryz.func74, Tryz.ntmps74
 go_wp2_with fail
 go_loopw [8] (fun v8 wr => ∃ i : Nat, i ≤ ks.length ∧ v8 = .int .i64 i ∧ Hid (∀ j (hj : j < ks.length), j < i → F ks[j] = false) ∧ Hid (Below w.heap.size w wr)) (fun v8 _ => ks.length - (intOf v8).toNat)
 case atStart => exact ⟨0, Nat.zero_le _, rfl, Lib.hid (fun j _ h => absurd h (by omega)), Lib.hid (Below.refl _ _)⟩
 case round =>
  obtain ⟨i, hi, rfl, HJ, HB⟩ := hrel
  by_cases hlt : i < ks.length
  · have hlt' : (i : Int) < (ks.length : Int) := by omega
    have HCL0 := Lib.hid (HF.out i hlt)
    obtain ⟨y, hy⟩ : ∃ y, ks[i] = y := ⟨_, rfl⟩
    rw [hy] at HCL0
    obtain ⟨g', o', hak, hg', hR⟩ := HK.out.row hlt
    subst hak
    have hA := hR i hlt
    rw [hy] at hA
    have hA2 : XAt wr g' (o' + i * 10) y := hA.keep HB.out hg'
    obtain ⟨ao2, cap2, ak2, ck2, hc2, hv2⟩ := hA2.xv
    obtain ⟨z0, z1, z2, z3, z4, z5, z6, z7, z8, z9⟩ := hc2.cells
    have HY := Lib.hid hy
    have HCL := Lib.hid (HCL0.out _ _ wr (HGA.out.keep HB.out) hv2)
    clear hA hA2 hR hg' hy hc2 hv2 HCL0
    obtain ⟨bb, hb⟩ : ∃ bb, F y = bb := ⟨_, rfl⟩
    have HBB := Lib.hid hb
    rw [hb] at HCL
    clear hb
    cases bb with
    | true =>
      go_wp2_with (go_at_call 43; (with_reducible refine HCL.out.mono ?_); rintro e w1 ⟨rfl, hb1⟩; have HB2 := Lib.hid (HB.out.trans (hb1.mono HB.out.size)); clear hb1)
      go_ret
      exact ⟨i, rfl, by rw [any_yes hlt (by rw [HY.out]; exact HBB.out)]; simp, HB2.out⟩
    | false =>
      go_wp2_with (go_at_call 43; (with_reducible refine HCL.out.mono ?_); rintro e w1 ⟨rfl, hb1⟩; have HB2 := Lib.hid (HB.out.trans (hb1.mono HB.out.size)); clear hb1)
      go_roundw
      case rel =>
       refine ⟨i + 1, hlt, by go_num, Lib.hid (fun j hj hji => ?_), HB2⟩
       by_cases e : j < i
       · exact HJ.out j hj e
       · obtain rfl : j = i := by omega
         rw [HY.out]; exact HBB.out
      case measure => simp [intOf]; omega
  · have hlt' : ¬ (i : Int) < (ks.length : Int) := by omega
    go_wp2_with fail
    go_ret
    exact ⟨-1, rfl, by rw [any_no fun j hj => HJ.out j hj (by omega)]; rfl, HB.out⟩
set_option maxRecDepth 100000 in
set_option maxHeartbeats 16000000 in
theorem mcontains_c (F : X → Bool) (a : Int) (ga : Nat) (ks : List X) (vk : Value) (w : World) (hK : SlR 10 XAt w vk ks) (hl : ks.length ≤ maxLen) (hga : Blk w ga 3 #[.int .i64 a])
 (hF : ∀ i (hi : i < ks.length) (vn vk : Value) (W : World), Blk W ga 3 #[.int .i64 a] → XV W vn vk ks[i] → Calls Tryz.prog 43 #[.agg #[.int .i64 (ks[i]).op, .int .i64 (ks[i]).a, .int .i64 (ks[i]).r, .int .i64 (ks[i]).b, vn, .int .u64 (ks[i]).st.a, .int .u64 (ks[i]).st.b, .int .u64 (ks[i]).st.c, .int .u64 (ks[i]).st.d, vk], .pointer (some ⟨ga, 0, none⟩)] W fun e w' => e = .returned (.bool (F ks[i])) ∧ Below W.heap.size W w') :
 Calls Tryz.prog 42 #[vk, .func (.func 43) #[] #[.pointer (some ⟨ga, 0, none⟩)]] w fun e w' => e = .returned (.bool (ks.any F)) ∧ Below w.heap.size w w' := by
 have HI := Lib.hid (mindex_c F a ga ks vk w hK hl hga hF)
 generalize ks.any F = R at *
 clear hK hl hga hF
 go_enter Tryz.func42, Tryz.ntmps42
 go_wp2_with (go_at_call 74; (with_reducible refine HI.out.mono ?_); rintro e w1 ⟨r, rfl, hr, hb1⟩; have HB1 := Lib.hid hb1; clear hb1)
 go_ret
 exact ⟨by rw [← hr]; rfl, HB1.out⟩
set_option maxRecDepth 100000 in
set_option maxHeartbeats 32000000 in
theorem mentions_c (a : Int) : ∀ (n : Nat) (x : X) (vn vk : Value) (w : World), smX n x = true → XV w vn vk x →
 Calls Tryz.prog 18 #[.agg #[.int .i64 x.op, .int .i64 x.a, .int .i64 x.r, .int .i64 x.b, vn, .int .u64 x.st.a, .int .u64 x.st.b, .int .u64 x.st.c, .int .u64 x.st.d, vk], .int .i64 a] w fun e w' => e = .returned (.bool (mnX a n x)) ∧ Below w.heap.size w w' := by
 intro n
 induction n with
 | zero => intro x vn vk w h; exact absurd h (by unfold smX; simp)
 | succ n ih =>
   intro x vn vk w hs hV
   have HIH := Lib.hid ih
   have HSM : Hid (∀ i (hi : i < x.ks.length), smX n x.ks[i] = true) := Lib.hid fun i hi => sm_kid hs hi
   have HM : Hid (mnX a (n + 1) x = (hitX a x || x.ks.any (mnX a n))) := Lib.hid rfl
   generalize mnX a (n + 1) x = R at *
   have HNK := Lib.hid hV.wf.nk
   obtain ⟨ao, cap, ak, ck, rfl, rfl⟩ := hV.form
   obtain ⟨W, ZW⟩ : ∃ v, Hid (((w.alloc (.cells #[.int .i64 x.op, .int .i64 x.a, .int .i64 x.r, .int .i64 x.b, .slice ao x.ns.length cap, .int .u64 x.st.a, .int .u64 x.st.b, .int .u64 x.st.c, .int .u64 x.st.d, .slice ak x.ks.length ck] 55)).alloc (.cells #[.int .i64 a] 3)) = v) := ⟨_, Lib.hid rfl⟩
   have HX : Hid (XC W w.heap.size 0 x.op x.a x.r x.b ao x.ns.length cap x.st ak x.ks.length ck) := by cases ZW.out; exact Lib.hid (XC.of_blk ((Blk.new w _ _).alloc _))
   have HA : Hid (Blk W (w.heap.size + 1) 3 #[.int .i64 a]) := by cases ZW.out; exact Lib.hid (two_new' _ _ _ _)
   have HB : Hid (Below w.heap.size w W) := by cases ZW.out; exact Lib.hid (((Below.refl _ _).alloc (Nat.le_refl _) _).alloc (by simp) _)
   have HG : Hid (w.heap.size < W.heap.size) := by cases ZW.out; exact Lib.hid (by simp; omega)
   have HK := Lib.hid hV.ks
   clear ih hV hs
   by_cases h8 : x.op = 8
   · have p8 : (x.op == 8) = true := by simpa using h8
     have p9 : (x.op == 9) = false := by simp; omega
     by_cases ha : x.a = a
     · have pa : (x.a == a) = true := by simpa using ha
       have HR : Hid (R = true) := Lib.hid (by rw [HM.out]; simp [hitX, h8, ha])
       clear HM h8 ha
       go_enter Tryz.func18, Tryz.ntmps18
       go_upto_region 1 with fail
       rw [ZW.out]
       have HLE : Hid (w.heap.size ≤ W.heap.size) := Lib.hid HB.out.size
       generalize w.heap.size + 1 = ga at *
       obtain ⟨y0, y1, y2, y3, y4, y5, y6, y7, y8, y9⟩ := HX.out.cells
       have b0 := HA.out.cell 0
       generalize hgx : w.heap.size = gx at *
       go_wp2_with fail
       go_ret
       exact ⟨ret_bool HR.out.symm, by first | exact HB.out | (rw [hgx]; exact HB.out)⟩
     · have pa : (x.a == a) = false := by simpa using ha
       by_cases hb : x.b = a
       · have pb : (x.b == a) = true := by simpa using hb
         have HR : Hid (R = true) := Lib.hid (by rw [HM.out]; simp [hitX, h8, hb])
         clear HM h8 ha hb
         go_enter Tryz.func18, Tryz.ntmps18
         go_upto_region 1 with fail
         rw [ZW.out]
         have HLE : Hid (w.heap.size ≤ W.heap.size) := Lib.hid HB.out.size
         generalize w.heap.size + 1 = ga at *
         obtain ⟨y0, y1, y2, y3, y4, y5, y6, y7, y8, y9⟩ := HX.out.cells
         have b0 := HA.out.cell 0
         generalize hgx : w.heap.size = gx at *
         go_wp2_with fail
         go_ret
         exact ⟨ret_bool HR.out.symm, by first | exact HB.out | (rw [hgx]; exact HB.out)⟩
       · have pb : (x.b == a) = false := by simpa using hb
         have HR : Hid (R = x.ks.any (mnX a n)) := Lib.hid (by rw [HM.out]; simp [hitX, h8, ha, hb])
         clear HM h8 ha hb
         have HCF := Lib.hid (mcontains_c (mnX a n) a (w.heap.size + 1) x.ks _ _ (HK.out.keep (fun hg k => XAt.keep HB.out hg k) HB.out) HNK.out HA.out (fun i hi vn vk W hb hv => mclos_c a n HIH.out (w.heap.size + 1) _ vn vk W (HSM.out i hi) hv hb))
         rw [← HR.out] at HCF
         clear HIH HSM HK HNK
         go_enter Tryz.func18, Tryz.ntmps18
         go_upto_region 1 with fail
         rw [ZW.out]
         have HLE : Hid (w.heap.size ≤ W.heap.size) := Lib.hid HB.out.size
         generalize w.heap.size + 1 = ga at *
         obtain ⟨y0, y1, y2, y3, y4, y5, y6, y7, y8, y9⟩ := HX.out.cells
         have b0 := HA.out.cell 0
         generalize hgx : w.heap.size = gx at *
         go_wp2_with (go_at_call 42; (with_reducible refine HCF.out.mono ?_); rintro e w1 ⟨rfl, hb1⟩; have HB1 := Lib.hid (HB.out.trans (hb1.mono HLE.out)); clear hb1)
         go_ret
         exact ⟨rfl, by first | exact HB1.out | (rw [hgx]; exact HB1.out)⟩
   · have p8 : (x.op == 8) = false := by simpa using h8
     by_cases h9 : x.op = 9
     · have p9 : (x.op == 9) = true := by simpa using h9
       by_cases ha : x.a = a
       · have pa : (x.a == a) = true := by simpa using ha
         have HR : Hid (R = true) := Lib.hid (by rw [HM.out]; simp [hitX, h9, ha])
         clear HM h8 h9 ha
         go_enter Tryz.func18, Tryz.ntmps18
         go_upto_region 1 with fail
         rw [ZW.out]
         have HLE : Hid (w.heap.size ≤ W.heap.size) := Lib.hid HB.out.size
         generalize w.heap.size + 1 = ga at *
         obtain ⟨y0, y1, y2, y3, y4, y5, y6, y7, y8, y9⟩ := HX.out.cells
         have b0 := HA.out.cell 0
         generalize hgx : w.heap.size = gx at *
         go_wp2_with fail
         go_ret
         exact ⟨ret_bool HR.out.symm, by first | exact HB.out | (rw [hgx]; exact HB.out)⟩
       · have pa : (x.a == a) = false := by simpa using ha
         have HR : Hid (R = x.ks.any (mnX a n)) := Lib.hid (by rw [HM.out]; simp [hitX, h9, ha])
         clear HM h8 h9 ha
         have HCF := Lib.hid (mcontains_c (mnX a n) a (w.heap.size + 1) x.ks _ _ (HK.out.keep (fun hg k => XAt.keep HB.out hg k) HB.out) HNK.out HA.out (fun i hi vn vk W hb hv => mclos_c a n HIH.out (w.heap.size + 1) _ vn vk W (HSM.out i hi) hv hb))
         rw [← HR.out] at HCF
         clear HIH HSM HK HNK
         go_enter Tryz.func18, Tryz.ntmps18
         go_upto_region 1 with fail
         rw [ZW.out]
         have HLE : Hid (w.heap.size ≤ W.heap.size) := Lib.hid HB.out.size
         generalize w.heap.size + 1 = ga at *
         obtain ⟨y0, y1, y2, y3, y4, y5, y6, y7, y8, y9⟩ := HX.out.cells
         have b0 := HA.out.cell 0
         generalize hgx : w.heap.size = gx at *
         go_wp2_with (go_at_call 42; (with_reducible refine HCF.out.mono ?_); rintro e w1 ⟨rfl, hb1⟩; have HB1 := Lib.hid (HB.out.trans (hb1.mono HLE.out)); clear hb1)
         go_ret
         exact ⟨rfl, by first | exact HB1.out | (rw [hgx]; exact HB1.out)⟩
     · have p9 : (x.op == 9) = false := by simpa using h9
       have HR : Hid (R = x.ks.any (mnX a n)) := Lib.hid (by rw [HM.out]; simp [hitX, h8, h9])
       clear HM h8 h9
       have HCF := Lib.hid (mcontains_c (mnX a n) a (w.heap.size + 1) x.ks _ _ (HK.out.keep (fun hg k => XAt.keep HB.out hg k) HB.out) HNK.out HA.out (fun i hi vn vk W hb hv => mclos_c a n HIH.out (w.heap.size + 1) _ vn vk W (HSM.out i hi) hv hb))
       rw [← HR.out] at HCF
       clear HIH HSM HK HNK
       go_enter Tryz.func18, Tryz.ntmps18
       go_upto_region 1 with fail
       rw [ZW.out]
       have HLE : Hid (w.heap.size ≤ W.heap.size) := Lib.hid HB.out.size
       generalize w.heap.size + 1 = ga at *
       obtain ⟨y0, y1, y2, y3, y4, y5, y6, y7, y8, y9⟩ := HX.out.cells
       have b0 := HA.out.cell 0
       generalize hgx : w.heap.size = gx at *
       go_wp2_with (go_at_call 42; (with_reducible refine HCF.out.mono ?_); rintro e w1 ⟨rfl, hb1⟩; have HB1 := Lib.hid (HB.out.trans (hb1.mono HLE.out)); clear hb1)
       go_ret
       exact ⟨rfl, by first | exact HB1.out | (rw [hgx]; exact HB1.out)⟩
open Go.RowKit Go
/-- the first place, -1 if there is none -/
def fdI {α : Type} (p : α → Bool) (L : List α) : Int := if L.findIdx p < L.length then (L.findIdx p : Int) else -1
theorem fdI_hit {α : Type} {p : α → Bool} {L : List α} {i : Nat} (hi : i < L.length) (h : p L[i] = true) (ha : ∀ k (h' : k < L.length), k < i → p L[k] = false) : fdI p L = i := by
 have e : L.findIdx p = i := by
  rcases Nat.lt_trichotomy (L.findIdx p) i with h1 | h1 | h1
  · have := ha _ (by omega) h1
    rw [List.findIdx_getElem (p := p) (xs := L) (w := by omega)] at this
    cases this
  · exact h1
  · have := List.not_of_lt_findIdx h1
    simp [h] at this
 unfold fdI
 rw [e, if_pos hi]
theorem fdI_none {α : Type} {p : α → Bool} {L : List α} (ha : ∀ k (h' : k < L.length), p L[k] = false) : fdI p L = -1 := by
 unfold fdI
 rw [if_neg]
 intro h
 have := ha _ h
 rw [List.findIdx_getElem (p := p) (xs := L) (w := h)] at this
 cases this
theorem fdI_in {α : Type} (p : α → Bool) (L : List α) : -1 ≤ fdI p L ∧ fdI p L < L.length := by
 unfold fdI
 by_cases h : L.findIdx p < L.length
 · rw [if_pos h]; omega
 · rw [if_neg h]; omega
def idxI (l : List ByteArray) (s : ByteArray) : Int := fdI (fun x => decide (x = s)) l
def hasT (l : List ByteArray) (s : ByteArray) : Bool := decide (0 ≤ idxI l s)
structure PTy where
 (n : ByteArray) (al : List ByteArray) (pm : Bool)
structure PAt where
 (n : ByteArray) (ts : S4)
def CTy (w : World) (g o : Nat) (x : PTy) : Prop := w.cell? ⟨g, o, none⟩ = some (.string x.n) ∧ (∃ va, w.cell? ⟨g, o + 1, none⟩ = some va ∧ Strs w va x.al) ∧ w.cell? ⟨g, o + 2, none⟩ = some (.bool x.pm) ∧ x.n.size ≤ 9223372036854775807 ∧ TxW x.al ∧ x.al.length ≤ maxLen
theorem CTy.keep {w w' : World} (hb : Below w.heap.size w w') {g o : Nat} {x : PTy} (hg : g < w.heap.size) (h : CTy w g o x) : CTy w' g o x := by
 obtain ⟨h0, ⟨va, a1, b1⟩, h2, hw⟩ := h
 exact ⟨(hb.cell (p := ⟨g, o, none⟩) hg).trans h0, ⟨va, (hb.cell (p := ⟨g, o + 1, none⟩) hg).trans a1, b1.keep hb⟩, (hb.cell (p := ⟨g, o + 2, none⟩) hg).trans h2, hw⟩
def CAt (w : World) (g o : Nat) (x : PAt) : Prop := w.cell? ⟨g, o, none⟩ = some (.string x.n) ∧ w.cell? ⟨g, o + 1, none⟩ = some (.int .u64 x.ts.a) ∧ w.cell? ⟨g, o + 2, none⟩ = some (.int .u64 x.ts.b) ∧ w.cell? ⟨g, o + 3, none⟩ = some (.int .u64 x.ts.c) ∧ w.cell? ⟨g, o + 4, none⟩ = some (.int .u64 x.ts.d) ∧ x.n.size ≤ 9223372036854775807 ∧ U64 x.ts.a ∧ U64 x.ts.b ∧ U64 x.ts.c ∧ U64 x.ts.d
theorem CAt.keep {w w' : World} (hb : Below w.heap.size w w') {g o : Nat} {x : PAt} (hg : g < w.heap.size) (h : CAt w g o x) : CAt w' g o x := by
 obtain ⟨h0, h1, h2, h3, h4, hw⟩ := h
 exact ⟨(hb.cell (p := ⟨g, o, none⟩) hg).trans h0, (hb.cell (p := ⟨g, o + 1, none⟩) hg).trans h1, (hb.cell (p := ⟨g, o + 2, none⟩) hg).trans h2, (hb.cell (p := ⟨g, o + 3, none⟩) hg).trans h3, (hb.cell (p := ⟨g, o + 4, none⟩) hg).trans h4, hw⟩
set_option maxRecDepth 100000 in
set_option maxHeartbeats 4000000 in
theorem index_c (v : Value) (l : List ByteArray) (s : ByteArray) (w : World) (hS : Strs w v l) (hn : l.length ≤ maxLen) :
 Calls Tryz.prog 126 #[v, .string s] w fun e w' => e = .returned (.int .i64 (idxI l s)) ∧ w = w' := by
 obtain ⟨ao, cap, rfl, hr⟩ := hS
 obtain ⟨R, hR⟩ : ∃ R, idxI l s = R := ⟨_, rfl⟩
 rw [hR]
 have HR := Lib.hid hR
 have hnI : (l.length : Int) ≤ 9223372036854775807 := by unfold maxLen at hn; omega
 clear hR hn
 go_enter Tryz.func126, Tryz.ntmps126
 go_wp2_with fail
 go_loop [8] (fun vi => ∃ i : Nat, i ≤ l.length ∧ vi = .int .i64 i ∧ Hid (∀ k (h' : k < l.length), k < i → l[k] ≠ s)) (fun vi => l.length - (intOf vi).toNat)
 case atStart => exact ⟨0, Nat.zero_le _, rfl, Lib.hid fun k _ h => absurd h (by omega)⟩
 case round =>
  obtain ⟨i, hi, rfl, HA⟩ := hrel
  by_cases hlt : i < l.length
  · have hlt' : (i : Int) < (l.length : Int) := by omega
    obtain ⟨g, o, rfl, q⟩ := hr (by rintro rfl; simp at hlt)
    have q := q i hlt
    obtain ⟨x, hx⟩ : ∃ x, l[i] = x := ⟨_, rfl⟩
    rw [hx] at q
    by_cases hs : x = s
    · subst hs
      obtain rfl : (i : Int) = R := by
       rw [← HR.out]
       exact (fdI_hit hlt (by rw [hx]; simp) fun k h1 h2 => by simpa using HA.out k h1 h2).symm
      clear hx HA
      have hb : (x.toList == x.toList) = true := by simp
      go_wp2_with fail
      go_ret
      exact ⟨rfl, rfl⟩
    · have hb : (s.toList == x.toList) = false := by rw [bytes_beq]; exact decide_eq_false fun e => hs e.symm
      have HA2 : Hid (∀ k (h' : k < l.length), k < i + 1 → l[k] ≠ s) := Lib.hid fun k h hk => by
       rcases Nat.lt_or_ge k i with h' | h'
       · exact HA.out k h h'
       · obtain rfl : k = i := by omega
         rw [hx]; exact hs
      clear hx HA hs
      go_wp2_with fail
      go_round
      case rel => exact ⟨i + 1, hlt, by go_num, HA2⟩
      case measure => simp [intOf]; omega
  · obtain rfl : i = l.length := by omega
    obtain rfl : -1 = R := by rw [← HR.out]; exact (fdI_none fun k h => by simpa using HA.out k h h).symm
    clear HA
    go_wp2_with fail
    go_ret
    exact ⟨rfl, rfl⟩
set_option maxRecDepth 100000 in
theorem contains_c (v : Value) (l : List ByteArray) (s : ByteArray) (w : World) (hS : Strs w v l) (hn : l.length ≤ maxLen) :
 Calls Tryz.prog 132 #[v, .string s] w fun e w' => e = .returned (.bool (hasT l s)) ∧ w = w' := by
 have HI := Lib.hid (index_c v l s w hS hn)
 unfold hasT
 generalize idxI l s = R at *
 clear hS hn
 go_enter Tryz.func132, Tryz.ntmps132
 go_wp2_with (go_at_call 126; (with_reducible refine HI.out.mono ?_); rintro e w1 ⟨rfl, rfl⟩)
 go_ret
 exact ⟨rfl, rfl⟩
set_option maxRecDepth 100000 in
set_option maxHeartbeats 4000000 in
theorem clos1_c (n : ByteArray) (va : Value) (al : List ByteArray) (pm : Bool) (s : ByteArray) (gs : Nat) (w : World) (hS : Strs w va al) (hn : al.length ≤ maxLen) (hs : Blk w gs 9 #[.string s]) :
 Calls Tryz.prog 131 #[.agg #[.string n, va, .bool pm], .pointer (some ⟨gs, 0, none⟩)] w fun e w' => e = .returned (.bool (hasT al s)) ∧ Below w.heap.size w w' := by
 have HB := Lib.hid ((Below.refl w.heap.size w).alloc (Nat.le_refl _) (.cells #[.string n, va, .bool pm] 82))
 have HS := Lib.hid (hs.alloc (.cells #[.string n, va, .bool pm] 82))
 have HN := Lib.hid (Blk.new w 82 #[.string n, va, .bool pm])
 have HC := Lib.hid (contains_c va al s _ (hS.keep HB.out) hn)
 clear hS hn hs
 go_enter Tryz.func131, Tryz.ntmps131
 go_upto_region 1 with fail
 generalize w.alloc (.cells #[.string n, va, .bool pm] 82) = W at *
 have n1 := HN.out.cell 1
 have s0 := HS.out.cell 0
 generalize hgx : w.heap.size = gx at *
 go_wp2_with (go_at_call 132; (with_reducible refine HC.out.mono ?_); rintro e w1 ⟨rfl, rfl⟩)
 go_ret
 exact ⟨rfl, by first | exact HB.out | (rw [hgx]; exact HB.out)⟩
set_option maxRecDepth 100000 in
set_option maxHeartbeats 4000000 in
theorem clos2_c (x : PAt) (s : ByteArray) (gs : Nat) (w : World) (hs : Blk w gs 9 #[.string s]) :
 Calls Tryz.prog 134 #[.agg #[.string x.n, .int .u64 x.ts.a, .int .u64 x.ts.b, .int .u64 x.ts.c, .int .u64 x.ts.d], .pointer (some ⟨gs, 0, none⟩)] w fun e w' => e = .returned (.bool (decide (x.n = s))) ∧ Below w.heap.size w w' := by
 have HB := Lib.hid ((Below.refl w.heap.size w).alloc (Nat.le_refl _) (.cells #[.string x.n, .int .u64 x.ts.a, .int .u64 x.ts.b, .int .u64 x.ts.c, .int .u64 x.ts.d] 89))
 have HS := Lib.hid (hs.alloc (.cells #[.string x.n, .int .u64 x.ts.a, .int .u64 x.ts.b, .int .u64 x.ts.c, .int .u64 x.ts.d] 89))
 have HN := Lib.hid (Blk.new w 89 #[.string x.n, .int .u64 x.ts.a, .int .u64 x.ts.b, .int .u64 x.ts.c, .int .u64 x.ts.d])
 have hbb : (x.n.toList == s.toList) = decide (x.n = s) := bytes_beq _ _
 clear hs
 go_enter Tryz.func134, Tryz.ntmps134
 go_upto_region 1 with fail
 generalize w.alloc (.cells #[.string x.n, .int .u64 x.ts.a, .int .u64 x.ts.b, .int .u64 x.ts.c, .int .u64 x.ts.d] 89) = W at *
 have n0 := HN.out.cell 0
 have s0 := HS.out.cell 0
 generalize hgx : w.heap.size = gx at *
 go_wp2_with fail
 go_ret
 exact ⟨rfl, by first | exact HB.out | (rw [hgx]; exact HB.out)⟩
set_option maxRecDepth 100000 in
set_option maxHeartbeats 8000000 in
theorem index1_c (L : List PTy) (s : ByteArray) (gs : Nat) (v : Value) (w : World) (hL : SlR 3 CTy w v L) (hl : L.length ≤ maxLen) (hs : Blk w gs 9 #[.string s]) :
 Calls Tryz.prog 130 #[v, .func (.func 131) #[] #[.pointer (some ⟨gs, 0, none⟩)]] w fun e w' => e = .returned (.int .i64 (fdI (fun t : PTy => hasT t.al s) L)) ∧ Below w.heap.size w w' := by
 obtain ⟨ak, ck, rfl, -, -⟩ := id hL
 have HL := Lib.hid hL
 have HS := Lib.hid hs
 obtain ⟨R, hR⟩ : ∃ R, fdI (fun t : PTy => hasT t.al s) L = R := ⟨_, rfl⟩
 rw [hR]
 have HR := Lib.hid hR
 have hkI : (L.length : Int) ≤ 9223372036854775807 := by unfold maxLen at hl; omega
 clear hL hs hl hR
 go_enter Tryz.func130, Tryz.ntmps130
 go_wp2_with fail
 go_loopw [8] (fun v8 wr => ∃ i : Nat, i ≤ L.length ∧ v8 = .int .i64 i ∧ Hid (∀ j (hj : j < L.length), j < i → (fun t : PTy => hasT t.al s) L[j] = false) ∧ Hid (Below w.heap.size w wr)) (fun v8 _ => L.length - (intOf v8).toNat)
 case atStart => exact ⟨0, Nat.zero_le _, rfl, Lib.hid (fun j _ h => absurd h (by omega)), Lib.hid (Below.refl _ _)⟩
 case round =>
  obtain ⟨i, hi, rfl, HJ, HB⟩ := hrel
  by_cases hlt : i < L.length
  · have hlt' : (i : Int) < (L.length : Int) := by omega
    obtain ⟨y, hy⟩ : ∃ y, L[i] = y := ⟨_, rfl⟩
    obtain ⟨g', o', hak, hg', hR⟩ := HL.out.row hlt
    subst hak
    have hA := hR i hlt
    rw [hy] at hA
    obtain ⟨h0, ⟨va, h1, hS1⟩, h2, -, -, hln⟩ := hA.keep HB.out hg'
    have HY := Lib.hid hy
    have HCL : Hid (Calls Tryz.prog 131 #[.agg #[.string y.n, va, .bool y.pm], .pointer (some ⟨gs, 0, none⟩)] wr fun e w' => e = .returned (.bool ((fun t : PTy => hasT t.al s) y)) ∧ Below wr.heap.size wr w') := Lib.hid (by exact clos1_c y.n va y.al y.pm s gs wr hS1 hln (HS.out.keep HB.out))
    clear hA hR hg' hy hS1 hln
    obtain ⟨bb, hb⟩ : ∃ bb, (fun t : PTy => hasT t.al s) y = bb := ⟨_, rfl⟩
    have HBB := Lib.hid hb
    rw [hb] at HCL
    clear hb
    cases bb with
    | true =>
      obtain rfl : (i : Int) = R := by
       rw [← HR.out]
       exact (fdI_hit hlt (by rw [HY.out]; exact HBB.out) HJ.out).symm
      go_wp2_with (go_at_call 131; (with_reducible refine HCL.out.mono ?_); rintro e w1 ⟨rfl, hb1⟩; have HB2 := Lib.hid (HB.out.trans (hb1.mono HB.out.size)); clear hb1)
      go_ret
      exact ⟨rfl, HB2.out⟩
    | false =>
      go_wp2_with (go_at_call 131; (with_reducible refine HCL.out.mono ?_); rintro e w1 ⟨rfl, hb1⟩; have HB2 := Lib.hid (HB.out.trans (hb1.mono HB.out.size)); clear hb1)
      go_roundw
      case rel =>
       refine ⟨i + 1, hlt, by go_num, Lib.hid (fun j hj hji => ?_), HB2⟩
       by_cases e : j < i
       · exact HJ.out j hj e
       · obtain rfl : j = i := by omega
         rw [HY.out]; exact HBB.out
      case measure => simp [intOf]; omega
  · have hlt' : ¬ (i : Int) < (L.length : Int) := by omega
    obtain rfl : -1 = R := by rw [← HR.out]; exact (fdI_none fun k h => HJ.out k h (by omega)).symm
    go_wp2_with fail
    go_ret
    exact ⟨rfl, HB.out⟩
set_option maxRecDepth 100000 in
set_option maxHeartbeats 8000000 in
theorem index2_c (L : List PAt) (s : ByteArray) (gs : Nat) (v : Value) (w : World) (hL : SlR 5 CAt w v L) (hl : L.length ≤ maxLen) (hs : Blk w gs 9 #[.string s]) :
 Calls Tryz.prog 133 #[v, .func (.func 134) #[] #[.pointer (some ⟨gs, 0, none⟩)]] w fun e w' => e = .returned (.int .i64 (fdI (fun a : PAt => decide (a.n = s)) L)) ∧ Below w.heap.size w w' := by
 obtain ⟨ak, ck, rfl, -, -⟩ := id hL
 have HL := Lib.hid hL
 have HS := Lib.hid hs
 obtain ⟨R, hR⟩ : ∃ R, fdI (fun a : PAt => decide (a.n = s)) L = R := ⟨_, rfl⟩
 rw [hR]
 have HR := Lib.hid hR
 have hkI : (L.length : Int) ≤ 9223372036854775807 := by unfold maxLen at hl; omega
 clear hL hs hl hR
 go_enter Tryz.func133, Tryz.ntmps133
 go_wp2_with fail
 go_loopw [8] (fun v8 wr => ∃ i : Nat, i ≤ L.length ∧ v8 = .int .i64 i ∧ Hid (∀ j (hj : j < L.length), j < i → (fun a : PAt => decide (a.n = s)) L[j] = false) ∧ Hid (Below w.heap.size w wr)) (fun v8 _ => L.length - (intOf v8).toNat)
 case atStart => exact ⟨0, Nat.zero_le _, rfl, Lib.hid (fun j _ h => absurd h (by omega)), Lib.hid (Below.refl _ _)⟩
 case round =>
  obtain ⟨i, hi, rfl, HJ, HB⟩ := hrel
  by_cases hlt : i < L.length
  · have hlt' : (i : Int) < (L.length : Int) := by omega
    obtain ⟨y, hy⟩ : ∃ y, L[i] = y := ⟨_, rfl⟩
    obtain ⟨g', o', hak, hg', hR⟩ := HL.out.row hlt
    subst hak
    have hA := hR i hlt
    rw [hy] at hA
    obtain ⟨h0, h1, h2, h3, h4, -⟩ := hA.keep HB.out hg'
    have HY := Lib.hid hy
    have HCL : Hid (Calls Tryz.prog 134 #[.agg #[.string y.n, .int .u64 y.ts.a, .int .u64 y.ts.b, .int .u64 y.ts.c, .int .u64 y.ts.d], .pointer (some ⟨gs, 0, none⟩)] wr fun e w' => e = .returned (.bool ((fun a : PAt => decide (a.n = s)) y)) ∧ Below wr.heap.size wr w') := Lib.hid (by exact clos2_c y s gs wr (HS.out.keep HB.out))
    clear hA hR hg' hy 
    obtain ⟨bb, hb⟩ : ∃ bb, (fun a : PAt => decide (a.n = s)) y = bb := ⟨_, rfl⟩
    have HBB := Lib.hid hb
    rw [hb] at HCL
    clear hb
    cases bb with
    | true =>
      obtain rfl : (i : Int) = R := by
       rw [← HR.out]
       exact (fdI_hit hlt (by rw [HY.out]; exact HBB.out) HJ.out).symm
      go_wp2_with (go_at_call 134; (with_reducible refine HCL.out.mono ?_); rintro e w1 ⟨rfl, hb1⟩; have HB2 := Lib.hid (HB.out.trans (hb1.mono HB.out.size)); clear hb1)
      go_ret
      exact ⟨rfl, HB2.out⟩
    | false =>
      go_wp2_with (go_at_call 134; (with_reducible refine HCL.out.mono ?_); rintro e w1 ⟨rfl, hb1⟩; have HB2 := Lib.hid (HB.out.trans (hb1.mono HB.out.size)); clear hb1)
      go_roundw
      case rel =>
       refine ⟨i + 1, hlt, by go_num, Lib.hid (fun j hj hji => ?_), HB2⟩
       by_cases e : j < i
       · exact HJ.out j hj e
       · obtain rfl : j = i := by omega
         rw [HY.out]; exact HBB.out
      case measure => simp [intOf]; omega
  · have hlt' : ¬ (i : Int) < (L.length : Int) := by omega
    obtain rfl : -1 = R := by rw [← HR.out]; exact (fdI_none fun k h => HJ.out k h (by omega)).symm
    go_wp2_with fail
    go_ret
    exact ⟨rfl, HB.out⟩
end Go.Proofs.YtbhoofihnmmmfabGreat
