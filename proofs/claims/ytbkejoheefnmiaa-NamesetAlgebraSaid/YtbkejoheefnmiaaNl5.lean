/- The walk of the law NamesetAlgebra. -/
import Derived.Test.YtbkejoheefnmiaaNte
import Derived.Test.YtbkejoheefnmiaaNtc
import Derived.Test.YtbkejoheefnmiaaNsm
import Derived.Deep.RegionHeldLaw
import Derived.Test.YtbkejoheefnmiaaNxe
import Derived.Test.YtbkejoheefnmiaaNxc
import Derived.Test.YtbkejoheefnmiaaNxa
namespace Go.Proofs.Ytbkejoheefnmiaa
open Go.RowKit
def alg12 (fld gT hs0 : Nat) (aoT2 : Option Addr) (nT capT2 : Nat) (g o nL cap i m : Nat) (sA sB : ByteArray) : List Spec := [.val (.pointer (some ⟨gT, fld, none⟩)), .val (.slice aoT2 nT capT2), .val (.pointer (some ⟨hs0, fld, none⟩)), .val (.slice (some ⟨g, o, none⟩) nL cap), .val (.pointer (some ⟨hs0, fld, none⟩)), .val (.slice (some ⟨g, o, none⟩) nL cap), .val (.int .i64 (nL : Int)), .val (.int .i64 ((nL : Int) - 1)), .val (.int .i64 (i : Int)), .val (.int .i64 (m : Int)), .val (.pointer (some ⟨g, o + m, none⟩)), .val (.string sA), .val (.pointer (some ⟨hs0, fld, none⟩)), .val (.slice (some ⟨g, o, none⟩) nL cap), .val (.pointer (some ⟨g, o, none⟩)), .val (.string sB), .strs [sA, sB]]
theorem below_setC {B g i : Nat} {a w : World} (h : Below B a w) (hg : B ≤ g) (x : Value) (_ : True) : Below B a (w.setCell ⟨g, i, none⟩ x) := h.setCell (p := ⟨g, i, none⟩) hg x
theorem own_emp (w : World) (o : Obj) : OwnS ((w.alloc o).alloc (.cells #[] 9)).drew (w.heap.size + 1) (.slice (some ⟨w.heap.size + 1, 0, none⟩) 0 0) [] := by
  have h := OwnS.empty (w.alloc o) (base := w.heap.size + 1) (by simp)
  rw [show (w.alloc o).heap.size = w.heap.size + 1 by simp] at h
  exact World.ownsRow.drew h
set_option maxRecDepth 100000 in
set_option maxHeartbeats 16000000 in
theorem algebra_c (al no sf : Bool) (vN vE : Value) (N E : List ByteArray) (vT vA : Value) (Ts : List TyE) (As : List AtE) (w : World) (hN : Strs w vN N) (hE : Strs w vE E) (hT : Tys w vT Ts) (hA : Ats w vA As) (hn : N.length ≤ maxLen) (hn2 : E.length ≤ maxLen) (hn3 : Ts.length ≤ maxLen) (hn4 : As.length ≤ maxLen) (hal : ∀ k (h : k < Ts.length), Ts[k].2.length ≤ maxLen) :
    Calls Try.prog 7 #[.agg #[.bool al, .bool no, .bool sf, vN, vE], .agg #[vT, vA]] w fun e w' => e = .returned (.bool true) ∧ Below w.heap.size w w' := by
  obtain ⟨i0, hinf, hz0, hz1, hz2⟩ := info_parts infoStr
  obtain ⟨aoT, capT, rfl, -⟩ := id hT
  obtain ⟨aoN, capN, rfl, hrN⟩ := id hN
  obtain ⟨aoE, capE, rfl, hrE⟩ := id hE
  have hW : Kp w ((w.alloc (.cells #[.bool al, .bool no, .bool sf, .slice aoN N.length capN, .slice aoE E.length capE] 29)).alloc (.cells #[(.slice aoT Ts.length capT), vA] 25)) := ((Below.refl _ _).alloc (Nat.le_refl _) _).alloc (by simp) _
  have hNS : Blk ((w.alloc (.cells #[.bool al, .bool no, .bool sf, .slice aoN N.length capN, .slice aoE E.length capE] 29)).alloc (.cells #[(.slice aoT Ts.length capT), vA] 25)) w.heap.size 29 #[.bool al, .bool no, .bool sf, .slice aoN N.length capN, .slice aoE E.length capE] := (Blk.new w _ _).alloc _
  have s1 : (w.alloc (.cells #[.bool al, .bool no, .bool sf, .slice aoN N.length capN, .slice aoE E.length capE] 29)).heap.size = w.heap.size + 1 := by simp
  have hEN : Blk ((w.alloc (.cells #[.bool al, .bool no, .bool sf, .slice aoN N.length capN, .slice aoE E.length capE] 29)).alloc (.cells #[(.slice aoT Ts.length capT), vA] 25)) (w.heap.size + 1) 25 #[.slice aoT Ts.length capT, vA] := by rw [← s1]; exact Blk.new (w.alloc (.cells #[.bool al, .bool no, .bool sf, .slice aoN N.length capN, .slice aoE E.length capE] 29)) _ _
  have HF := Lib.hid (few_c al no sf (.slice aoN N.length capN) (.slice aoE E.length capE) (.slice aoT Ts.length capT) vA N E Ts As ((w.alloc (.cells #[.bool al, .bool no, .bool sf, .slice aoN N.length capN, .slice aoE E.length capE] 29)).alloc (.cells #[(.slice aoT Ts.length capT), vA] 25)) (hN.keep hW) (hE.keep hW) (hT.keep hW) (hA.keep hW) hn hn2 hn3 hn4 hal)
  have hRN : ∀ (k : Nat) (h : k < N.length), ∃ g o, aoN = some ⟨g, o, none⟩ ∧ g < w.heap.size ∧ ∀ k (h : k < N.length), w.cell? ⟨g, o + k, none⟩ = some (.string N[k]) := fun k h => by
    obtain ⟨g, o, e, hR⟩ := hrN (by rintro rfl; simp at h)
    exact ⟨g, o, e, hR.lt (by omega), hR⟩
  have hRE : ∀ (k : Nat) (h : k < E.length), ∃ g o, aoE = some ⟨g, o, none⟩ ∧ g < w.heap.size ∧ ∀ k (h : k < E.length), w.cell? ⟨g, o + k, none⟩ = some (.string E[k]) := fun k h => by
    obtain ⟨g, o, e, hR⟩ := hrE (by rintro rfl; simp at h)
    exact ⟨g, o, e, hR.lt (by omega), hR⟩
  obtain ⟨y0, y1, y2, y3, y4⟩ := hNS.five
  obtain ⟨e0, e1⟩ := hEN.two
  have HRN := Lib.hid hRN
  have HRE := Lib.hid hRE
  have HNS := Lib.hid hNS
  have HEN := Lib.hid hEN
  have HW := Lib.hid hW
  have HN := Lib.hid (hN.keep hW)
  have HE := Lib.hid (hE.keep hW)
  have HT := Lib.hid (hT.keep hW)
  have HA := Lib.hid (hA.keep hW)
  have HS0 : Hid (w.heap.size + 2 ≤ ((w.alloc (.cells #[.bool al, .bool no, .bool sf, .slice aoN N.length capN, .slice aoE E.length capE] 29)).alloc (.cells #[(.slice aoT Ts.length capT), vA] 25)).heap.size) := Lib.hid (by simp)
  clear hn hn2 hn3 hn4 hal hNS hEN hW hN hE hT hA s1 hRN hRE hrN hrE
  go_enter Try.func7, Try.ntmps7
  go_wp2_with fail
  generalize ((w.alloc (.cells #[.bool al, .bool no, .bool sf, .slice aoN N.length capN, .slice aoE E.length capE] 29)).alloc (.cells #[(.slice aoT Ts.length capT), vA] 25)) = W at *
  refine HF.out.mono ?_
  rintro e w1 ⟨b, rfl, hb, hb1⟩
  have HK1 : Hid (Kp W w1) := Lib.hid hb1
  clear e0 e1 y0 y1 y2 y3 y4 hb1
  cases b
  · clear hb
    go_wp2_with fail
    refine (awake_c _).mono ?_
    rintro e w2 ⟨rfl, hb2⟩
    have HB := Lib.hid (Kp.step HW.out (Kp.step HK1.out hb2))
    clear hb2
    go_wp2_with fail
    go_ret
    exact ⟨rfl, HB.out⟩
  · obtain ⟨a1, a2, b3, b4, b5⟩ := hb rfl
    have b3' : Ts.length ≤ 1000000 := by omega
    have b4' : As.length ≤ 1000000 := by omega
    have b5' : ∀ k (h : k < Ts.length), Ts[k].2.length ≤ 1000000 := fun k h => by have := b5 k h; omega
    have HCT : Hid (∀ (al no sf : Bool) (vN vE : Value) (N E : List ByteArray) (S : S4) (F : Int) (W' : World), Kp W W' → Strs W' vN N → Strs W' vE E → N.length ≤ 1000000 → E.length ≤ 1000000 → meanS al no Ts.length (oneS Ts As) (oneB Ts As) N E = S → errI (meanB (oneB Ts As) N E) 11 = F →
        Calls Try.prog 14 #[.agg #[.bool al, .bool no, .bool sf, vN, vE], .agg #[.slice aoT Ts.length capT, vA]] W' (ErrOut S F W')) := Lib.hid (by
      rintro al no sf vN vE N E S F W' h h1 h2 h3 h4 rfl rfl
      exact types_c al no sf vN vE _ vA N E Ts As W' h1 h2 (HT.out.keep h) (HA.out.keep h) h3 h4 b3' b4' b5')
    have HM : Hid (N.length ≤ 60 ∧ E.length ≤ 60 ∧ Ts.length ≤ 1000000) := Lib.hid ⟨a1, a2, b3'⟩
    obtain ⟨S, hS⟩ : ∃ K, meanS al no Ts.length (oneS Ts As) (oneB Ts As) N E = K := ⟨_, rfl⟩
    obtain ⟨S2, hS2⟩ : ∃ K, meanS al (!no) Ts.length (oneS Ts As) (oneB Ts As) N E = K := ⟨_, rfl⟩
    obtain ⟨S3, hS3⟩ : ∃ K, meanS al false Ts.length (oneS Ts As) (oneB Ts As) (N ++ E) E = K := ⟨_, rfl⟩
    obtain ⟨S5, hS5⟩ : ∃ K, meanS false false Ts.length (oneS Ts As) (oneB Ts As) E [] = K := ⟨_, rfl⟩
    obtain ⟨F, hF⟩ : ∃ K, errI (meanB (oneB Ts As) N E) 11 = K := ⟨_, rfl⟩
    have HTW := Lib.hid (mean_mem (g := oneB Ts As) (oneS_U Ts As) al no Ts.length (twL_mem N) (twL_mem E))
    have HCS : Hid (F = 11 ∧ S = S4.zero ∨ F = 0 ∧ S.or S2 = allS Ts.length ∧ S.and S2 = S4.zero ∧ errI (meanB (oneB Ts As) (N ++ E) E) 11 = 0 ∧ errI (meanB (oneB Ts As) E []) 11 = 0 ∧ S3.and S5 = S4.zero) := Lib.hid (by
      rw [← hS, ← hS2, ← hS3, ← hS5, ← hF]
      cases hb : meanB (oneB Ts As) N E
      · exact .inl ⟨rfl, mean_no Ts As N E hb⟩
      · obtain ⟨q1, q2⟩ := mean_both Ts As N E (al := al) (no := no) hb
        obtain ⟨q3, q4, q5⟩ := mean_out Ts As N E (al := al) hb
        exact .inr ⟨rfl, q1, q2, by rw [q3]; rfl, by rw [q4]; rfl, q5⟩)
    have HFO : Hid (errI (meanB (oneB Ts As) N E) 11 = F) := Lib.hid hF
    have HSO : Hid (meanS al no Ts.length (oneS Ts As) (oneB Ts As) N E = S) := Lib.hid hS
    have HSO2 : Hid (meanS al (!no) Ts.length (oneS Ts As) (oneB Ts As) N E = S2) := Lib.hid hS2
    have HSO3 : Hid (meanS al false Ts.length (oneS Ts As) (oneB Ts As) (N ++ E) E = S3) := Lib.hid hS3
    have HSO5 : Hid (meanS false false Ts.length (oneS Ts As) (oneB Ts As) E [] = S5) := Lib.hid hS5
    clear a1 a2 b3 b4 b5 b3' b4' b5' hb hS hS2 hS3 hS5 hF
    obtain ⟨y0, y1, y2, y3, y4⟩ := (HK1.out.blk HNS.out).five
    obtain ⟨e0, e1⟩ := (HK1.out.blk HEN.out).two
    go_wp2_with fail
    refine (HCT.out _ _ _ _ _ N E S F _ HK1.out (HN.out.keep HK1.out) (HE.out.keep HK1.out) (by have := HM.out; omega) (by have := HM.out; omega) HSO.out HFO.out).mono ?_
    rintro e w2 ⟨rfl, hb⟩
    have HK2 := Lib.hid ((Kp.step HK1.out hb).alloc (.cells #[.int .u64 S.a, .int .u64 S.b, .int .u64 S.c, .int .u64 S.d] 35))
    have HKo := Lib.hid (((Kp.step HK1.out hb).alloc (.cells #[.int .u64 S.a, .int .u64 S.b, .int .u64 S.c, .int .u64 S.d] 35)).alloc (.cells #[.bool al, .bool (!no), .bool sf, .slice aoN N.length capN, .slice aoE E.length capE] 29))
    have HQ1 := Lib.hid ((Quad.new w2 S.a S.b S.c S.d).alloc (.cells #[.bool al, .bool (!no), .bool sf, .slice aoN N.length capN, .slice aoE E.length capE] 29))
    clear hb e0 e1 y0 y1 y2 y3 y4
    obtain ⟨y0, y1, y2, y3, y4⟩ := (HK2.out.blk HNS.out).five
    obtain ⟨z0, z1, z2, z3, z4⟩ := ((HK2.out.alloc (.cells #[.bool al, .bool no, .bool sf, .slice aoN N.length capN, .slice aoE E.length capE] 29)).blk HNS.out).five
    obtain ⟨e0, e1⟩ := (HKo.out.blk HEN.out).two
    go_wp2_with fail
    obtain ⟨gA, hgA⟩ : ∃ n, w2.heap.size = n := ⟨_, rfl⟩
    rw [hgA] at HQ1
    rw [hgA]
    have HG2 : Hid (gA + 2 ≤ ((w2.alloc (.cells #[.int .u64 S.a, .int .u64 S.b, .int .u64 S.c, .int .u64 S.d] 35)).alloc (.cells #[.bool al, .bool (!no), .bool sf, .slice aoN N.length capN, .slice aoE E.length capE] 29)).heap.size) := Lib.hid (by rw [← hgA]; simp)
    generalize ((w2.alloc (.cells #[.int .u64 S.a, .int .u64 S.b, .int .u64 S.c, .int .u64 S.d] 35)).alloc (.cells #[.bool al, .bool (!no), .bool sf, .slice aoN N.length capN, .slice aoE E.length capE] 29)) = V2 at *
    clear hgA
    refine (HCT.out _ _ _ _ _ N E S2 F _ HKo.out (HN.out.keep HKo.out) (HE.out.keep HKo.out) (by have := HM.out; omega) (by have := HM.out; omega) HSO2.out HFO.out).mono ?_
    rintro e w3 ⟨rfl, hb⟩
    have HK3 := Lib.hid ((Kp.step HKo.out hb).alloc (.cells #[.int .u64 S2.a, .int .u64 S2.b, .int .u64 S2.c, .int .u64 S2.d] 35))
    have HKt := Lib.hid (((Kp.step HKo.out hb).alloc (.cells #[.int .u64 S2.a, .int .u64 S2.b, .int .u64 S2.c, .int .u64 S2.d] 35)).alloc (.cells #[.bool al, .bool no, .bool sf, .slice none 0 0, .slice none 0 0] 29))
    replace HQ1 := Lib.hid (((HQ1.out.keep hb).alloc (.cells #[.int .u64 S2.a, .int .u64 S2.b, .int .u64 S2.c, .int .u64 S2.d] 35)).alloc (.cells #[.bool al, .bool no, .bool sf, .slice none 0 0, .slice none 0 0] 29))
    have HQ2 := Lib.hid ((Quad.new w3 S2.a S2.b S2.c S2.d).alloc (.cells #[.bool al, .bool no, .bool sf, .slice none 0 0, .slice none 0 0] 29))
    have s3 : (w3.alloc (.cells #[.int .u64 S2.a, .int .u64 S2.b, .int .u64 S2.c, .int .u64 S2.d] 35)).heap.size = w3.heap.size + 1 := by simp
    have HBT : Hid (Blk ((w3.alloc (.cells #[.int .u64 S2.a, .int .u64 S2.b, .int .u64 S2.c, .int .u64 S2.d] 35)).alloc (.cells #[.bool al, .bool no, .bool sf, .slice none 0 0, .slice none 0 0] 29)) (w3.heap.size + 1) 29 #[.bool al, .bool no, .bool sf, .slice none 0 0, .slice none 0 0]) := Lib.hid (by rw [← s3]; exact Blk.new (w3.alloc (.cells #[.int .u64 S2.a, .int .u64 S2.b, .int .u64 S2.c, .int .u64 S2.d] 35)) _ _)
    have HG3 : Hid (W.heap.size ≤ w3.heap.size ∧ gA < w3.heap.size ∧ w3.heap.size + 1 < ((w3.alloc (.cells #[.int .u64 S2.a, .int .u64 S2.b, .int .u64 S2.c, .int .u64 S2.d] 35)).alloc (.cells #[.bool al, .bool no, .bool sf, .slice none 0 0, .slice none 0 0] 29)).heap.size) := Lib.hid ⟨by have := HKo.out.size; have := hb.size; omega, by have := hb.size; have := HG2.out; omega, by simp⟩
    clear hb s3 e0 e1 y0 y1 y2 y3 y4 z0 z1 z2 z3 z4
    obtain ⟨y0, y1, y2, y3, y4⟩ := (HK3.out.blk HNS.out).five
    obtain ⟨z0, z1, z2, z3, z4⟩ := (HKt.out.blk HNS.out).five
    go_wp2_with fail
    obtain ⟨gB, hgB⟩ : ∃ n, w3.heap.size = n := ⟨_, rfl⟩
    rw [hgB] at HBT HG3 HQ2
    rw [hgB]
    have HKV : Hid (Kp W ((w3.alloc (.cells #[.int .u64 S2.a, .int .u64 S2.b, .int .u64 S2.c, .int .u64 S2.d] 35)).alloc (.cells #[.bool al, .bool no, .bool sf, .slice none 0 0, .slice none 0 0] 29))) := HKt
    clear hgB HK3 HKt
    generalize ((w3.alloc (.cells #[.int .u64 S2.a, .int .u64 S2.b, .int .u64 S2.c, .int .u64 S2.d] 35)).alloc (.cells #[.bool al, .bool no, .bool sf, .slice none 0 0, .slice none 0 0] 29)) = V at *
    obtain ⟨gT, hgT⟩ : ∃ n, gB + 1 = n := ⟨_, rfl⟩
    rw [hgT] at HBT HG3
    rw [hgT]
    have HG : Hid (w.heap.size + 2 ≤ W.heap.size ∧ W.heap.size ≤ gT ∧ gA < gT ∧ gB < gT) := Lib.hid (by have h1 := HG3.out; have h2 := HS0.out; omega)
    have HG2 : Hid (gT < V.heap.size) := Lib.hid HG3.out.2.2
    have HWV : Hid (Kp w V) := Lib.hid (Kp.step HW.out HKV.out)
    have HNSV : Hid (Blk V w.heap.size 29 #[.bool al, .bool no, .bool sf, .slice aoN N.length capN, .slice aoE E.length capE]) := Lib.hid (HKV.out.blk HNS.out)
    clear HG3 hgT y0 y1 y2 y3 y4 z0 z1 z2 z3 z4
    go_loopw [49] (fun vi wr => ∃ (i : Nat) (v : Value), i ≤ N.length ∧ vi = .int .i64 i ∧ Hid (Kb gT V wr) ∧ Hid (Blk wr gT 29 #[.bool al, .bool no, .bool sf, v, .slice none 0 0]) ∧ Hid (OwnS wr V.heap.size v (twL N i))) (fun vi _ => N.length - (intOf vi).toNat)
    case atStart => exact ⟨0, _, Nat.zero_le _, rfl, Lib.hid Kb.rfl', HBT, Lib.hid OwnS.nil⟩
    case round =>
      obtain ⟨i, v, hi, rfl, HK, HB, HO⟩ := hrel
      have HKw : Hid (Kp w wr) := Lib.hid ((But.mono HK.out HWV.out.size |> But.trans (But.of_below HWV.out)).to_below (by have := HG.out; omega))
      have HNr : Hid (Blk wr w.heap.size 29 #[.bool al, .bool no, .bool sf, .slice aoN N.length capN, .slice aoE E.length capE]) := Lib.hid (HK.out.blk HNSV.out (by have := HG.out; omega))
      by_cases hlt : i < N.length
      · have hlt' : (i : Int) < (N.length : Int) := by omega
        have hi0 : (0 : Int) ≤ (i : Int) := by omega
        have hl60 : N.length ≤ 60 := by have := HM.out; omega
        obtain ⟨m, hm⟩ : ∃ m, N.length = m + 1 + i := ⟨N.length - 1 - i, by omega⟩
        have hm1 : (N.length : Int) - 1 - (i : Int) = (m : Int) := by omega
        have hm2 : (m : Int) < (N.length : Int) := by omega
        have hm3 : m < N.length := by omega
        have hm0 : 0 < N.length := by omega
        have hw0 : IntKind.i64.wrap ((N.length : Int) - 1) = (N.length : Int) - 1 := by rw [IntKind.wrap_i64]; omega
        have hw : IntKind.i64.wrap (IntKind.i64.wrap ((N.length : Int) - 1) - (i : Int)) = (m : Int) := by rw [hw0, IntKind.wrap_i64]; omega
        have hm4 : (0 : Int) < (N.length : Int) := by omega
        obtain ⟨g, o, rfl, hg, hR⟩ := HRN.out i hlt
        have hR1 := hR m hm3
        have hR2 := hR 0 hm0
        obtain ⟨sA, hsA⟩ : ∃ s, N[m] = s := ⟨_, rfl⟩
        obtain ⟨sB, hsB⟩ : ∃ s, N[0] = s := ⟨_, rfl⟩
        rw [hsA] at hR1
        rw [hsB] at hR2
        have q0 : wr.cell? ⟨g, o + m, none⟩ = some (.string sA) := (World.cell?_of_block (HKw.out.block g hg)).trans hR1
        have q1 : wr.cell? ⟨g, o, none⟩ = some (.string sB) := (World.cell?_of_block (HKw.out.block g hg)).trans hR2
        have HX : Hid (twL N (i + 1) = twL N i ++ [sA, sB]) := Lib.hid (by
          have e1 : N.length - 1 - i = m := by omega
          rw [twL_succ, e1, List.getD_eq_getElem?_getD, List.getD_eq_getElem?_getD, List.getElem?_eq_getElem hm3, List.getElem?_eq_getElem hm0, hsA, hsB]
          rfl)
        have hTl := twL_len N i
        obtain ⟨T, hT⟩ : ∃ T, twL N i = T := ⟨_, rfl⟩
        rw [hT] at HO HX hTl
        have hA1 : T.length ≤ 1000000 := by omega
        obtain ⟨aoT2, capT2, rfl⟩ := HO.out.isSl
        have HA1 := Lib.hid hA1
        have HQc : Hid (∀ W', Kp wr W' → W'.cell? ⟨g, o + m, none⟩ = some (.string sA) ∧ W'.cell? ⟨g, o, none⟩ = some (.string sB)) := Lib.hid (fun W' h => ⟨(World.cell?_of_block ((Kp.step HKw.out h).block g hg)).trans hR1, (World.cell?_of_block ((Kp.step HKw.out h).block g hg)).trans hR2⟩)
        have hw9 : IntKind.i64.wrap ((N.length : Int) - 1 - (i : Int)) = (m : Int) := by rw [IntKind.wrap_i64]; omega
        clear hT hTl hsA hsB hR1 hR2 hR hg hm hm1 hw hA1 q0 q1
        go_wp2_with fail
        refine wp_region_phit 17 (fun q v wq => Spec.ok ((alg12 3 gT w.heap.size aoT2 T.length capT2 g o N.length capN i m sA sB).getD q (.val undef)) v wq) (by kernel_rfl) (by decide) (by kernel_rfl) (by kernel_rfl) (by kernel_rfl) (fun _ _ _ _ h hb => Spec.keep h hb) ?_ ?_
        · refine ⟨⟨trivial, fun A v hK hF => ?_⟩, ?_⟩
          · have f10 : A.tmps[10]?.getD undef = .pointer (some ⟨gT, 0, none⟩) := fact_none (hF 10) (by kernel_rfl)
            unfold Gives
            go_simp
            exact gives_val (Below.refl _ _) rfl
          refine ⟨⟨trivial, fun A v hK hF => ?_⟩, ?_⟩
          · have f52 : A.tmps[52]?.getD undef = .pointer (some ⟨gT, 3, none⟩) := fact_some (hF 52) (j := 0) (by kernel_rfl) (by kernel_rfl)
            obtain ⟨b0, b1, b2, b3, b4⟩ := (hK.blk HB.out).five
            unfold Gives
            go_simp
            exact gives_val (Below.refl _ _) rfl
          refine ⟨⟨trivial, fun A v hK hF => ?_⟩, ?_⟩
          · have f2 : A.tmps[2]?.getD undef = .pointer (some ⟨w.heap.size, 0, none⟩) := fact_none (hF 2) (by kernel_rfl)
            unfold Gives
            go_simp
            exact gives_val (Below.refl _ _) rfl
          refine ⟨⟨trivial, fun A v hK hF => ?_⟩, ?_⟩
          · have f54 : A.tmps[54]?.getD undef = .pointer (some ⟨w.heap.size, 3, none⟩) := fact_some (hF 54) (j := 2) (by kernel_rfl) (by kernel_rfl)
            obtain ⟨y0, y1, y2, y3, y4⟩ := (hK.blk HNr.out).five
            unfold Gives
            go_simp
            exact gives_val (Below.refl _ _) rfl
          refine ⟨⟨trivial, fun A v hK hF => ?_⟩, ?_⟩
          · have f2 : A.tmps[2]?.getD undef = .pointer (some ⟨w.heap.size, 0, none⟩) := fact_none (hF 2) (by kernel_rfl)
            unfold Gives
            go_simp
            exact gives_val (Below.refl _ _) rfl
          refine ⟨⟨trivial, fun A v hK hF => ?_⟩, ?_⟩
          · have f56 : A.tmps[56]?.getD undef = .pointer (some ⟨w.heap.size, 3, none⟩) := fact_some (hF 56) (j := 4) (by kernel_rfl) (by kernel_rfl)
            obtain ⟨y0, y1, y2, y3, y4⟩ := (hK.blk HNr.out).five
            unfold Gives
            go_simp
            exact gives_val (Below.refl _ _) rfl
          refine ⟨⟨trivial, fun A v hK hF => ?_⟩, ?_⟩
          · have f57 : A.tmps[57]?.getD undef = .slice (some ⟨g, o, none⟩) N.length capN := fact_some (hF 57) (j := 5) (by kernel_rfl) (by kernel_rfl)
            unfold Gives
            go_simp
            exact gives_val (Below.refl _ _) rfl
          refine ⟨⟨trivial, fun A v hK hF => ?_⟩, ?_⟩
          · have f58 : A.tmps[58]?.getD undef = .int .i64 (N.length : Int) := fact_some (hF 58) (j := 6) (by kernel_rfl) (by kernel_rfl)
            unfold Gives
            go_simp
            try simp only [hw0]
            exact gives_val (Below.refl _ _) rfl
          refine ⟨⟨trivial, fun A v hK hF => ?_⟩, ?_⟩
          · have f11 : A.tmps[11]?.getD undef = .int .i64 (i : Int) := fact_none (hF 11) (by kernel_rfl)
            unfold Gives
            go_simp
            exact gives_val (Below.refl _ _) rfl
          refine ⟨⟨trivial, fun A v hK hF => ?_⟩, ?_⟩
          · have f59 : A.tmps[59]?.getD undef = .int .i64 ((N.length : Int) - 1) := fact_some (hF 59) (j := 7) (by kernel_rfl) (by kernel_rfl)
            have f60 : A.tmps[60]?.getD undef = .int .i64 (i : Int) := fact_some (hF 60) (j := 8) (by kernel_rfl) (by kernel_rfl)
            unfold Gives
            go_simp
            try simp only [hw9]
            exact gives_val (Below.refl _ _) rfl
          refine ⟨⟨trivial, fun A v hK hF => ?_⟩, ?_⟩
          · have f55 : A.tmps[55]?.getD undef = .slice (some ⟨g, o, none⟩) N.length capN := fact_some (hF 55) (j := 3) (by kernel_rfl) (by kernel_rfl)
            have f61 : A.tmps[61]?.getD undef = .int .i64 (m : Int) := fact_some (hF 61) (j := 9) (by kernel_rfl) (by kernel_rfl)
            unfold Gives
            go_simp
            exact gives_val (Below.refl _ _) rfl
          refine ⟨⟨trivial, fun A v hK hF => ?_⟩, ?_⟩
          · have f62 : A.tmps[62]?.getD undef = .pointer (some ⟨g, o + m, none⟩) := fact_some (hF 62) (j := 10) (by kernel_rfl) (by kernel_rfl)
            obtain ⟨q0, q1⟩ := HQc.out _ hK
            unfold Gives
            go_simp
            exact gives_val (Below.refl _ _) rfl
          refine ⟨⟨trivial, fun A v hK hF => ?_⟩, ?_⟩
          · have f2 : A.tmps[2]?.getD undef = .pointer (some ⟨w.heap.size, 0, none⟩) := fact_none (hF 2) (by kernel_rfl)
            unfold Gives
            go_simp
            exact gives_val (Below.refl _ _) rfl
          refine ⟨⟨trivial, fun A v hK hF => ?_⟩, ?_⟩
          · have f64 : A.tmps[64]?.getD undef = .pointer (some ⟨w.heap.size, 3, none⟩) := fact_some (hF 64) (j := 12) (by kernel_rfl) (by kernel_rfl)
            obtain ⟨y0, y1, y2, y3, y4⟩ := (hK.blk HNr.out).five
            unfold Gives
            go_simp
            exact gives_val (Below.refl _ _) rfl
          refine ⟨⟨trivial, fun A v hK hF => ?_⟩, ?_⟩
          · have f65 : A.tmps[65]?.getD undef = .slice (some ⟨g, o, none⟩) N.length capN := fact_some (hF 65) (j := 13) (by kernel_rfl) (by kernel_rfl)
            unfold Gives
            go_simp
            exact gives_val (Below.refl _ _) rfl
          refine ⟨⟨trivial, fun A v hK hF => ?_⟩, ?_⟩
          · have f66 : A.tmps[66]?.getD undef = .pointer (some ⟨g, o, none⟩) := fact_some (hF 66) (j := 14) (by kernel_rfl) (by kernel_rfl)
            obtain ⟨q0, q1⟩ := HQc.out _ hK
            unfold Gives
            go_simp
            exact gives_val (Below.refl _ _) rfl
          refine ⟨⟨trivial, fun A v hK hF => ?_⟩, ?_⟩
          · have f63 : A.tmps[63]?.getD undef = .string sA := fact_some (hF 63) (j := 11) (by kernel_rfl) (by kernel_rfl)
            have f67 : A.tmps[67]?.getD undef = .string sB := fact_some (hF 67) (j := 15) (by kernel_rfl) (by kernel_rfl)
            unfold Gives
            go_simp
            exact gives_val ((Below.refl _ _).alloc (Nat.le_refl _) _) (show Spec.ok (.strs [sA, sB]) _ _ from ⟨_, _, rfl, strs_new2 sA sB rfl⟩)
          exact trivial
        intro a W' hC hsz hdf hF
        have ha := end_cut 52 68 hsz hdf hF (by kernel_rfl)
        have f53 : a.tmps[53]?.getD undef = .slice aoT2 T.length capT2 := fact_end (hF 53) (j := 1) (by kernel_rfl)
        obtain ⟨aX, cX, f68, hS2⟩ : ∃ ao cap, a.tmps[68]?.getD undef = .slice ao [sA, sB].length cap ∧ Strs W' (.slice ao [sA, sB].length cap) [sA, sB] := fact_end (hF 68) (j := 16) (by kernel_rfl)
        rw [ha]
        clear ha hF
        simp only [cutL_cons, cutL_nil, Nat.reduceAdd, Nat.reduceLeDiff, and_true, and_false, if_true, if_false, and_self]
        rw [f53, f68]
        have HS2 := Lib.hid hS2
        have HK2 := Lib.hid (HK.out.step hC)
        have HB2 := Lib.hid (HB.out.keep hC)
        have HO2 := Lib.hid (HO.out.keep hC)
        clear hC HQc hS2 hsz hdf f53 f68
        refine wpList_append_strs rfl _ _ rfl V.heap.size (.slice aoT2 T.length capT2) T rfl HO2.out aX cX [sA, sB] rfl HS2.out (by have := HA1.out; simp; omega) (by have := HK2.out.size; omega) ?_
        · intro aoR capR w3 R3 hgrow3
          have hlo := HO2.out.lt
          have hB3 := Blk.grown (w := W') HB2.out hgrow3 (fun e => absurd (hlo _ e).1 (by have := HG2.out; omega))
          obtain ⟨k0, k1, k2, k3, k4⟩ := hB3.five
          have kf := hB3.frozen 3
          have B3 : Below V.heap.size W' w3 := (Below.refl _ _).grown hgrow3 (by have := HK2.out.size; omega) (fun k e => (hlo _ e).1)
          have HK3 : Hid (Kb gT V (w3.setCell ⟨gT, 3, none⟩ (.slice aoR (T.length + [sA, sB].length) capR))) := Lib.hid (Kb.set (But.below HK2.out B3) 3 _)
          have HR3 := Lib.hid (R3.set (g := gT) (fun e => absurd (R3.lt _ e).1 (by have := HG2.out; omega)) 3 (.slice aoR (T.length + [sA, sB].length) capR))
          have HB3 : Hid (Blk (w3.setCell ⟨gT, 3, none⟩ (.slice aoR (T.length + [sA, sB].length) capR)) gT 29 #[.bool al, .bool no, .bool sf, .slice aoR (T.length + [sA, sB].length) capR, .slice none 0 0]) := Lib.hid (by simpa using hB3.set 3 (.slice aoR (T.length + [sA, sB].length) capR))
          clear hlo B3 R3 hgrow3 hB3
          go_wp2_with fail
          go_roundw
          case rel => exact ⟨i + 1, _, hlt, by go_num, HK3, HB3, Lib.hid (by rw [HX.out]; exact HR3.out)⟩
          case measure => simp [intOf]; omega
      · obtain rfl : i = N.length := by omega
        obtain ⟨aN2, cN2, rfl⟩ := HO.out.isSl
        have HKV1 : Hid (Kp W wr) := Lib.hid ((But.mono HK.out HKV.out.size |> But.trans (But.of_below HKV.out)).to_below (by have := HG.out; omega))
        replace HQ1 : Hid (Quad wr gA S.a S.b S.c S.d) := Lib.hid (HK.out.blk HQ1.out (by have := HG.out; omega))
        replace HQ2 : Hid (Quad wr gB S2.a S2.b S2.c S2.d) := Lib.hid (HK.out.blk HQ2.out (by have := HG.out; omega))
        have HGV : Hid (gT < V.heap.size ∧ V.heap.size ≤ wr.heap.size) := Lib.hid ⟨HG2.out, HK.out.size⟩
        have HO1 := HO
        have HNS1 := HNr
        obtain ⟨y0, y1, y2, y3, y4⟩ := HNr.out.five
        have HBT1 := HB
        clear HG2 HWV HNSV HBT HK HO HNr
        have HG2 : Hid (gT < wr.heap.size) := Lib.hid (by have := HGV.out; omega)
        have HWV : Hid (Kp w wr) := HKw
        have HNSV : Hid (Blk wr w.heap.size 29 #[.bool al, .bool no, .bool sf, .slice aoN N.length capN, .slice aoE E.length capE]) := HNS1
        have HBT : Hid (Blk wr gT 29 #[.bool al, .bool no, .bool sf, .slice aN2 (twL N N.length).length cN2, .slice none 0 0]) := HBT1
        clear HKw HNS1 HBT1 hlt hi
        go_wp2_with fail
        clear y0 y1 y2 y3 y4
        generalize wr = U at *
        go_loopw [75] (fun vi wr => ∃ (i : Nat) (v : Value), i ≤ E.length ∧ vi = .int .i64 i ∧ Hid (Kb gT U wr) ∧ Hid (Blk wr gT 29 #[.bool al, .bool no, .bool sf, .slice aN2 (twL N N.length).length cN2, v]) ∧ Hid (OwnS wr U.heap.size v (twL E i))) (fun vi _ => E.length - (intOf vi).toNat)
        case atStart => exact ⟨0, _, Nat.zero_le _, rfl, Lib.hid Kb.rfl', HBT, Lib.hid OwnS.nil⟩
        case round =>
          obtain ⟨i, v, hi, rfl, HK, HB, HO⟩ := hrel
          have HKw : Hid (Kp w wr) := Lib.hid ((But.mono HK.out HWV.out.size |> But.trans (But.of_below HWV.out)).to_below (by have := HG.out; omega))
          have HNr : Hid (Blk wr w.heap.size 29 #[.bool al, .bool no, .bool sf, .slice aoN N.length capN, .slice aoE E.length capE]) := Lib.hid (HK.out.blk HNSV.out (by have := HG.out; omega))
          by_cases hlt : i < E.length
          · have hlt' : (i : Int) < (E.length : Int) := by omega
            have hi0 : (0 : Int) ≤ (i : Int) := by omega
            have hl60 : E.length ≤ 60 := by have := HM.out; omega
            obtain ⟨m, hm⟩ : ∃ m, E.length = m + 1 + i := ⟨E.length - 1 - i, by omega⟩
            have hm1 : (E.length : Int) - 1 - (i : Int) = (m : Int) := by omega
            have hm2 : (m : Int) < (E.length : Int) := by omega
            have hm3 : m < E.length := by omega
            have hm0 : 0 < E.length := by omega
            have hw0 : IntKind.i64.wrap ((E.length : Int) - 1) = (E.length : Int) - 1 := by rw [IntKind.wrap_i64]; omega
            have hw : IntKind.i64.wrap (IntKind.i64.wrap ((E.length : Int) - 1) - (i : Int)) = (m : Int) := by rw [hw0, IntKind.wrap_i64]; omega
            have hm4 : (0 : Int) < (E.length : Int) := by omega
            obtain ⟨g, o, rfl, hg, hR⟩ := HRE.out i hlt
            have hR1 := hR m hm3
            have hR2 := hR 0 hm0
            obtain ⟨sA, hsA⟩ : ∃ s, E[m] = s := ⟨_, rfl⟩
            obtain ⟨sB, hsB⟩ : ∃ s, E[0] = s := ⟨_, rfl⟩
            rw [hsA] at hR1
            rw [hsB] at hR2
            have q0 : wr.cell? ⟨g, o + m, none⟩ = some (.string sA) := (World.cell?_of_block (HKw.out.block g hg)).trans hR1
            have q1 : wr.cell? ⟨g, o, none⟩ = some (.string sB) := (World.cell?_of_block (HKw.out.block g hg)).trans hR2
            have HX : Hid (twL E (i + 1) = twL E i ++ [sA, sB]) := Lib.hid (by
              have e1 : E.length - 1 - i = m := by omega
              rw [twL_succ, e1, List.getD_eq_getElem?_getD, List.getD_eq_getElem?_getD, List.getElem?_eq_getElem hm3, List.getElem?_eq_getElem hm0, hsA, hsB]
              rfl)
            have hTl := twL_len E i
            obtain ⟨T, hT⟩ : ∃ T, twL E i = T := ⟨_, rfl⟩
            rw [hT] at HO HX hTl
            have hA1 : T.length ≤ 1000000 := by omega
            obtain ⟨aoT2, capT2, rfl⟩ := HO.out.isSl
            have HA1 := Lib.hid hA1
            have HQc : Hid (∀ W', Kp wr W' → W'.cell? ⟨g, o + m, none⟩ = some (.string sA) ∧ W'.cell? ⟨g, o, none⟩ = some (.string sB)) := Lib.hid (fun W' h => ⟨(World.cell?_of_block ((Kp.step HKw.out h).block g hg)).trans hR1, (World.cell?_of_block ((Kp.step HKw.out h).block g hg)).trans hR2⟩)
            have hw9 : IntKind.i64.wrap ((E.length : Int) - 1 - (i : Int)) = (m : Int) := by rw [IntKind.wrap_i64]; omega
            clear hT hTl hsA hsB hR1 hR2 hR hg hm hm1 hw hA1 q0 q1
            go_wp2_with fail
            refine wp_region_phit 17 (fun q v wq => Spec.ok ((alg12 4 gT w.heap.size aoT2 T.length capT2 g o E.length capE i m sA sB).getD q (.val undef)) v wq) (by kernel_rfl) (by decide) (by kernel_rfl) (by kernel_rfl) (by kernel_rfl) (fun _ _ _ _ h hb => Spec.keep h hb) ?_ ?_
            · refine ⟨⟨trivial, fun A v hK hF => ?_⟩, ?_⟩
              · have f10 : A.tmps[10]?.getD undef = .pointer (some ⟨gT, 0, none⟩) := fact_none (hF 10) (by kernel_rfl)
                unfold Gives
                go_simp
                exact gives_val (Below.refl _ _) rfl
              refine ⟨⟨trivial, fun A v hK hF => ?_⟩, ?_⟩
              · have f78 : A.tmps[78]?.getD undef = .pointer (some ⟨gT, 4, none⟩) := fact_some (hF 78) (j := 0) (by kernel_rfl) (by kernel_rfl)
                obtain ⟨b0, b1, b2, b3, b4⟩ := (hK.blk HB.out).five
                unfold Gives
                go_simp
                exact gives_val (Below.refl _ _) rfl
              refine ⟨⟨trivial, fun A v hK hF => ?_⟩, ?_⟩
              · have f2 : A.tmps[2]?.getD undef = .pointer (some ⟨w.heap.size, 0, none⟩) := fact_none (hF 2) (by kernel_rfl)
                unfold Gives
                go_simp
                exact gives_val (Below.refl _ _) rfl
              refine ⟨⟨trivial, fun A v hK hF => ?_⟩, ?_⟩
              · have f80 : A.tmps[80]?.getD undef = .pointer (some ⟨w.heap.size, 4, none⟩) := fact_some (hF 80) (j := 2) (by kernel_rfl) (by kernel_rfl)
                obtain ⟨y0, y1, y2, y3, y4⟩ := (hK.blk HNr.out).five
                unfold Gives
                go_simp
                exact gives_val (Below.refl _ _) rfl
              refine ⟨⟨trivial, fun A v hK hF => ?_⟩, ?_⟩
              · have f2 : A.tmps[2]?.getD undef = .pointer (some ⟨w.heap.size, 0, none⟩) := fact_none (hF 2) (by kernel_rfl)
                unfold Gives
                go_simp
                exact gives_val (Below.refl _ _) rfl
              refine ⟨⟨trivial, fun A v hK hF => ?_⟩, ?_⟩
              · have f82 : A.tmps[82]?.getD undef = .pointer (some ⟨w.heap.size, 4, none⟩) := fact_some (hF 82) (j := 4) (by kernel_rfl) (by kernel_rfl)
                obtain ⟨y0, y1, y2, y3, y4⟩ := (hK.blk HNr.out).five
                unfold Gives
                go_simp
                exact gives_val (Below.refl _ _) rfl
              refine ⟨⟨trivial, fun A v hK hF => ?_⟩, ?_⟩
              · have f83 : A.tmps[83]?.getD undef = .slice (some ⟨g, o, none⟩) E.length capE := fact_some (hF 83) (j := 5) (by kernel_rfl) (by kernel_rfl)
                unfold Gives
                go_simp
                exact gives_val (Below.refl _ _) rfl
              refine ⟨⟨trivial, fun A v hK hF => ?_⟩, ?_⟩
              · have f84 : A.tmps[84]?.getD undef = .int .i64 (E.length : Int) := fact_some (hF 84) (j := 6) (by kernel_rfl) (by kernel_rfl)
                unfold Gives
                go_simp
                try simp only [hw0]
                exact gives_val (Below.refl _ _) rfl
              refine ⟨⟨trivial, fun A v hK hF => ?_⟩, ?_⟩
              · have f12 : A.tmps[12]?.getD undef = .int .i64 (i : Int) := fact_none (hF 12) (by kernel_rfl)
                unfold Gives
                go_simp
                exact gives_val (Below.refl _ _) rfl
              refine ⟨⟨trivial, fun A v hK hF => ?_⟩, ?_⟩
              · have f85 : A.tmps[85]?.getD undef = .int .i64 ((E.length : Int) - 1) := fact_some (hF 85) (j := 7) (by kernel_rfl) (by kernel_rfl)
                have f86 : A.tmps[86]?.getD undef = .int .i64 (i : Int) := fact_some (hF 86) (j := 8) (by kernel_rfl) (by kernel_rfl)
                unfold Gives
                go_simp
                try simp only [hw9]
                exact gives_val (Below.refl _ _) rfl
              refine ⟨⟨trivial, fun A v hK hF => ?_⟩, ?_⟩
              · have f81 : A.tmps[81]?.getD undef = .slice (some ⟨g, o, none⟩) E.length capE := fact_some (hF 81) (j := 3) (by kernel_rfl) (by kernel_rfl)
                have f87 : A.tmps[87]?.getD undef = .int .i64 (m : Int) := fact_some (hF 87) (j := 9) (by kernel_rfl) (by kernel_rfl)
                unfold Gives
                go_simp
                exact gives_val (Below.refl _ _) rfl
              refine ⟨⟨trivial, fun A v hK hF => ?_⟩, ?_⟩
              · have f88 : A.tmps[88]?.getD undef = .pointer (some ⟨g, o + m, none⟩) := fact_some (hF 88) (j := 10) (by kernel_rfl) (by kernel_rfl)
                obtain ⟨q0, q1⟩ := HQc.out _ hK
                unfold Gives
                go_simp
                exact gives_val (Below.refl _ _) rfl
              refine ⟨⟨trivial, fun A v hK hF => ?_⟩, ?_⟩
              · have f2 : A.tmps[2]?.getD undef = .pointer (some ⟨w.heap.size, 0, none⟩) := fact_none (hF 2) (by kernel_rfl)
                unfold Gives
                go_simp
                exact gives_val (Below.refl _ _) rfl
              refine ⟨⟨trivial, fun A v hK hF => ?_⟩, ?_⟩
              · have f90 : A.tmps[90]?.getD undef = .pointer (some ⟨w.heap.size, 4, none⟩) := fact_some (hF 90) (j := 12) (by kernel_rfl) (by kernel_rfl)
                obtain ⟨y0, y1, y2, y3, y4⟩ := (hK.blk HNr.out).five
                unfold Gives
                go_simp
                exact gives_val (Below.refl _ _) rfl
              refine ⟨⟨trivial, fun A v hK hF => ?_⟩, ?_⟩
              · have f91 : A.tmps[91]?.getD undef = .slice (some ⟨g, o, none⟩) E.length capE := fact_some (hF 91) (j := 13) (by kernel_rfl) (by kernel_rfl)
                unfold Gives
                go_simp
                exact gives_val (Below.refl _ _) rfl
              refine ⟨⟨trivial, fun A v hK hF => ?_⟩, ?_⟩
              · have f92 : A.tmps[92]?.getD undef = .pointer (some ⟨g, o, none⟩) := fact_some (hF 92) (j := 14) (by kernel_rfl) (by kernel_rfl)
                obtain ⟨q0, q1⟩ := HQc.out _ hK
                unfold Gives
                go_simp
                exact gives_val (Below.refl _ _) rfl
              refine ⟨⟨trivial, fun A v hK hF => ?_⟩, ?_⟩
              · have f89 : A.tmps[89]?.getD undef = .string sA := fact_some (hF 89) (j := 11) (by kernel_rfl) (by kernel_rfl)
                have f93 : A.tmps[93]?.getD undef = .string sB := fact_some (hF 93) (j := 15) (by kernel_rfl) (by kernel_rfl)
                unfold Gives
                go_simp
                exact gives_val ((Below.refl _ _).alloc (Nat.le_refl _) _) (show Spec.ok (.strs [sA, sB]) _ _ from ⟨_, _, rfl, strs_new2 sA sB rfl⟩)
              exact trivial
            intro a W' hC hsz hdf hF
            have ha := end_cut 78 94 hsz hdf hF (by kernel_rfl)
            have f79 : a.tmps[79]?.getD undef = .slice aoT2 T.length capT2 := fact_end (hF 79) (j := 1) (by kernel_rfl)
            obtain ⟨aX, cX, f94, hS2⟩ : ∃ ao cap, a.tmps[94]?.getD undef = .slice ao [sA, sB].length cap ∧ Strs W' (.slice ao [sA, sB].length cap) [sA, sB] := fact_end (hF 94) (j := 16) (by kernel_rfl)
            rw [ha]
            clear ha hF
            simp only [cutL_cons, cutL_nil, Nat.reduceAdd, Nat.reduceLeDiff, and_true, and_false, if_true, if_false, and_self]
            rw [f79, f94]
            have HS2 := Lib.hid hS2
            have HK2 := Lib.hid (HK.out.step hC)
            have HB2 := Lib.hid (HB.out.keep hC)
            have HO2 := Lib.hid (HO.out.keep hC)
            clear hC HQc hS2 hsz hdf f79 f94
            refine wpList_append_strs rfl _ _ rfl U.heap.size (.slice aoT2 T.length capT2) T rfl HO2.out aX cX [sA, sB] rfl HS2.out (by have := HA1.out; simp; omega) (by have := HK2.out.size; omega) ?_
            · intro aoR capR w3 R3 hgrow3
              have hlo := HO2.out.lt
              have hB3 := Blk.grown (w := W') HB2.out hgrow3 (fun e => absurd (hlo _ e).1 (by have := HG2.out; omega))
              obtain ⟨k0, k1, k2, k3, k4⟩ := hB3.five
              have kf := hB3.frozen 4
              have B3 : Below U.heap.size W' w3 := (Below.refl _ _).grown hgrow3 (by have := HK2.out.size; omega) (fun k e => (hlo _ e).1)
              have HK3 : Hid (Kb gT U (w3.setCell ⟨gT, 4, none⟩ (.slice aoR (T.length + [sA, sB].length) capR))) := Lib.hid (Kb.set (But.below HK2.out B3) 4 _)
              have HR3 := Lib.hid (R3.set (g := gT) (fun e => absurd (R3.lt _ e).1 (by have := HG2.out; omega)) 4 (.slice aoR (T.length + [sA, sB].length) capR))
              have HB3 : Hid (Blk (w3.setCell ⟨gT, 4, none⟩ (.slice aoR (T.length + [sA, sB].length) capR)) gT 29 #[.bool al, .bool no, .bool sf, .slice aN2 (twL N N.length).length cN2, .slice aoR (T.length + [sA, sB].length) capR]) := Lib.hid (by simpa using hB3.set 4 (.slice aoR (T.length + [sA, sB].length) capR))
              clear hlo B3 R3 hgrow3 hB3
              go_wp2_with fail
              go_roundw
              case rel => exact ⟨i + 1, _, hlt, by go_num, HK3, HB3, Lib.hid (by rw [HX.out]; exact HR3.out)⟩
              case measure => simp [intOf]; omega
          · obtain rfl : i = E.length := by omega
            obtain ⟨aE2, cE2, rfl⟩ := HO.out.isSl
            have HKX : Hid (Kp W wr) := Lib.hid ((But.mono HK.out HKV1.out.size |> But.trans (But.of_below HKV1.out)).to_below (by have := HG.out; omega))
            replace HQ1 : Hid (Quad wr gA S.a S.b S.c S.d) := Lib.hid (HK.out.blk HQ1.out (by have := HG.out; omega))
            replace HQ2 : Hid (Quad wr gB S2.a S2.b S2.c S2.d) := Lib.hid (HK.out.blk HQ2.out (by have := HG.out; omega))
            have HSE2 : Hid (Strs wr (.slice aE2 (twL E E.length).length cE2) (twL E E.length)) := Lib.hid (by obtain ⟨_, _, _, _, h⟩ := HO.out.strs; exact h)
            have HSN2 : Hid (Strs wr (.slice aN2 (twL N N.length).length cN2) (twL N N.length)) := Lib.hid (by obtain ⟨_, _, _, _, h⟩ := (HO1.out.kb HK.out HGV.out.1).strs; exact h)
            have HC3 := Lib.hid (HCT.out al no sf (.slice aN2 (twL N N.length).length cN2) (.slice aE2 (twL E E.length).length cE2) (twL N N.length) (twL E E.length) S F wr HKX.out HSN2.out HSE2.out (by rw [twL_len]; have := HM.out; omega) (by rw [twL_len]; have := HM.out; omega) (by rw [HTW.out.2]; exact HSO.out) (by rw [HTW.out.1]; exact HFO.out))
            obtain ⟨b0, b1, b2, b3, b4⟩ := HB.out.five
            obtain ⟨e0, e1⟩ := (HKX.out.blk HEN.out).two
            clear HK HO HO1 HSE2 HSN2
            go_wp2_with fail
            refine HC3.out.mono ?_
            rintro e w4 ⟨rfl, hb⟩
            have HK4 := Lib.hid ((Kp.step HKX.out hb).alloc (.cells #[.int .u64 S.a, .int .u64 S.b, .int .u64 S.c, .int .u64 S.d] 35))
            replace HQ1 := Lib.hid ((HQ1.out.keep hb).alloc (.cells #[.int .u64 S.a, .int .u64 S.b, .int .u64 S.c, .int .u64 S.d] 35))
            replace HQ2 := Lib.hid ((HQ2.out.keep hb).alloc (.cells #[.int .u64 S.a, .int .u64 S.b, .int .u64 S.c, .int .u64 S.d] 35))
            clear hb b0 b1 b2 b3 b4 e0 e1 HC3 HB HBT HKw HNr HNSV HWV HKV1 HGV HG2 hlt hi
            rcases HCS.out with ⟨rfl, hz⟩ | ⟨rfl, hU, hM, hf3, hf5, hX⟩
            · have hz0 : S = S4.mk 0 0 0 0 := hz
              have HQ0 : Hid (Quad (w4.alloc (.cells #[.int .u64 0, .int .u64 0, .int .u64 0, .int .u64 0] 35)) gA 0 0 0 0) := Lib.hid (by have h := HQ1.out; rw [hz0] at h; exact h)
              clear HQ1 HQ2 HTW HCS HFO HSO HSO2 HSO3 HSO5
              rw [hz0]
              dsimp only
              obtain ⟨c0, c1, c2, c3⟩ := quad_box HQ0.out
              rw [hz0] at HK4
              have HK0 : Hid (Kp W (w4.alloc (.cells #[.int .u64 0, .int .u64 0, .int .u64 0, .int .u64 0] 35))) := HK4
              clear hz hz0 HK4
              go_wp2_with fail
              refine (awake_c _).mono ?_
              rintro e w5 ⟨rfl, hb⟩
              have HBB := Lib.hid (Kp.step HW.out (Kp.step HK0.out hb))
              clear hb c0 c1 c2 c3
              go_wp2_with fail
              go_ret
              exact ⟨rfl, HBB.out⟩
            · have HU := Lib.hid hU
              have HMM := Lib.hid hM
              have HF3 := Lib.hid hf3
              have HF5 := Lib.hid hf5
              have HXX := Lib.hid hX
              obtain ⟨AX, hAX⟩ : ∃ K, allS (Ts.length : Int) = K := ⟨_, rfl⟩
              have HAL : Hid (∀ W', Calls Try.prog 27 #[.int .i64 Ts.length] W' fun e w' => e = .returned (.agg #[.int .u64 AX.a, .int .u64 AX.b, .int .u64 AX.c, .int .u64 AX.d]) ∧ Below W'.heap.size W' w') := Lib.hid (fun W' => by rw [← hAX]; have := HM.out; exact rallS_c Ts.length W' (by omega) (by omega))
              rw [hAX] at HU
              clear hU hM hf3 hf5 hX hAX
              obtain ⟨c0, c1, c2, c3⟩ := quad_box HQ1.out
              obtain ⟨e0, e1⟩ := (HK4.out.blk HEN.out).two
              go_wp2_with fail
              refine (HAL.out _).mono ?_
              rintro e w5 ⟨rfl, hb⟩
              have HK5 := Lib.hid ((Kp.step HK4.out hb).alloc (.cells #[.int .u64 AX.a, .int .u64 AX.b, .int .u64 AX.c, .int .u64 AX.d] 35))
              replace HQ1 := Lib.hid ((HQ1.out.keep hb).alloc (.cells #[.int .u64 AX.a, .int .u64 AX.b, .int .u64 AX.c, .int .u64 AX.d] 35))
              replace HQ2 := Lib.hid ((HQ2.out.keep hb).alloc (.cells #[.int .u64 AX.a, .int .u64 AX.b, .int .u64 AX.c, .int .u64 AX.d] 35))
              have HQ3 := Lib.hid (Quad.new w5 AX.a AX.b AX.c AX.d)
              clear hb c0 c1 c2 c3 e0 e1
              go_wp2_with fail
              obtain ⟨g5, hg5⟩ : ∃ n, w5.heap.size = n := ⟨_, rfl⟩
              rw [hg5] at HQ3
              rw [hg5]
              clear hg5
              generalize (w5.alloc (.cells #[.int .u64 AX.a, .int .u64 AX.b, .int .u64 AX.c, .int .u64 AX.d] 35)) = V5 at *
              have HUN : Hid (∀ W', Kp V5 W' → Calls Try.prog 29 #[.agg #[.int .u64 S.a, .int .u64 S.b, .int .u64 S.c, .int .u64 S.d], .agg #[.int .u64 S2.a, .int .u64 S2.b, .int .u64 S2.c, .int .u64 S2.d]] W' fun e w' => e = .returned (.agg #[.int .u64 AX.a, .int .u64 AX.b, .int .u64 AX.c, .int .u64 AX.d]) ∧ Below W'.heap.size W' w') := Lib.hid (fun W' _ => by rw [← HU.out]; exact runion_c S.a S.b S.c S.d S2.a S2.b S2.c S2.d W')
              have HME : Hid (∀ W', Kp V5 W' → Calls Try.prog 28 #[.agg #[.int .u64 S.a, .int .u64 S.b, .int .u64 S.c, .int .u64 S.d], .agg #[.int .u64 S2.a, .int .u64 S2.b, .int .u64 S2.c, .int .u64 S2.d]] W' fun e w' => e = .returned (.agg #[.int .u64 0, .int .u64 0, .int .u64 0, .int .u64 0]) ∧ Below W'.heap.size W' w') := Lib.hid (fun W' _ => by
                show Calls _ _ _ W' fun e w' => e = .returned (.agg #[.int .u64 S4.zero.a, .int .u64 S4.zero.b, .int .u64 S4.zero.c, .int .u64 S4.zero.d]) ∧ Below W'.heap.size W' w'
                rw [← HMM.out]; exact rmeet_c S.a S.b S.c S.d S2.a S2.b S2.c S2.d W')
              refine wp_region_kp (by kernel_rfl) (by kernel_rfl) ?_
              repeat (first
                | go_big_quiet_skip
                | (go_big_quiet_want
                   go_big_quiet_op
                   first
                     | go_big_quiet_on
                     | (apply Exists.intro
                        refine ⟨fun w1 hC => ?_, ?_⟩
                        · first
                            | (go_at_call 29; with_reducible exact hC.call (HUN.out _ hC))
                            | (go_at_call 28; with_reducible exact hC.call (HME.out _ hC))
                            | (obtain ⟨c0, c1, c2, c3⟩ := quad_box (HQ1.out.keep hC); obtain ⟨d0, d1, d2, d3⟩ := quad_box (HQ2.out.keep hC); obtain ⟨f0, f1, f2, f3⟩ := quad_box (HQ3.out.keep hC); go_simp; exact rfl)
                            | (go_simp; exact ⟨rfl, rfl⟩)
                        go_big_quiet_on)))
              refine wpQuiet_nil ?_
              intro W' hC
              have HK6 := Lib.hid (Kp.step HK5.out hC)
              have HNX := Lib.hid (HK6.out.blk HNS.out)
              clear hC HUN HME
              obtain ⟨y0, y1, y2, y3, y4⟩ := HNX.out.five
              go_wp2_with fail
              have HSN := Lib.hid (HN.out.keep HK6.out)
              have HSE := Lib.hid (HE.out.keep HK6.out)
              have HBo : Hid (Blk (W'.alloc (.cells #[.bool al, .bool false, .bool sf, .slice aoN N.length capN, .slice aoE E.length capE] 29)) W'.heap.size 29 #[.bool al, .bool false, .bool sf, .slice aoN N.length capN, .slice aoE E.length capE]) := Lib.hid (Blk.new _ _ _)
              have HSK : Hid (∀ w', Kp W' w' → w'.cell? ⟨w.heap.size, 3, none⟩ = some (.slice aoN N.length capN) ∧ w'.cell? ⟨w.heap.size, 4, none⟩ = some (.slice aoE E.length capE)) := Lib.hid (fun w' h => by
                obtain ⟨_, _, _, h3, h4⟩ := (h.blk HNX.out).five
                exact ⟨h3, h4⟩)
              have hl60 : N.length ≤ 60 ∧ E.length ≤ 60 := by have := HM.out; omega
              clear y0 y1 y2 y3 y4
              have hke : Kp W' ((W'.alloc (.cells #[.bool al, .bool false, .bool sf, .slice aoN N.length capN, .slice aoE E.length capE] 29)).alloc (.cells #[] 9)).drew := ((Kp.rfl'.alloc (.cells #[.bool al, .bool false, .bool sf, .slice aoN N.length capN, .slice aoE E.length capE] 29)).alloc (.cells #[] 9)).drew
              have hsn : Strs ((W'.alloc (.cells #[.bool al, .bool false, .bool sf, .slice aoN N.length capN, .slice aoE E.length capE] 29)).alloc (.cells #[] 9)).drew (.slice aoN N.length capN) N := HSN.out.keep hke
              have hse : W'.heap.size + 1 ≤ (((W'.alloc (.cells #[.bool al, .bool false, .bool sf, .slice aoN N.length capN, .slice aoE E.length capE] 29)).alloc (.cells #[] 9)).drew).heap.size := by show W'.heap.size + 1 ≤ ((W'.alloc (.cells #[.bool al, .bool false, .bool sf, .slice aoN N.length capN, .slice aoE E.length capE] 29)).alloc (.cells #[] 9)).heap.size; simp
              have hoe : OwnS ((W'.alloc (.cells #[.bool al, .bool false, .bool sf, .slice aoN N.length capN, .slice aoE E.length capE] 29)).alloc (.cells #[] 9)).drew (W'.heap.size + 1) (.slice (some ⟨W'.heap.size + 1, 0, none⟩) 0 0) [] := own_emp W' (.cells #[.bool al, .bool false, .bool sf, .slice aoN N.length capN, .slice aoE E.length capE] 29)
              have hnl : N.length ≤ 4000000 := by omega
              have hnl2 : N.length + E.length ≤ 4000000 := by omega
              have hle : W'.heap.size ≤ W'.heap.size + 1 := by omega
              have HGR : Hid (∀ w6, ((W'.alloc (.cells #[.bool al, .bool false, .bool sf, .slice aoN N.length capN, .slice aoE E.length capE] 29)).alloc (.cells #[] 9)).drew.grownBy w6 (some (W'.heap.size + 1)) → Kp W' w6 ∧ W'.heap.size + 1 ≤ w6.heap.size) := Lib.hid (fun w6 hg => ⟨hke.grown hg (by omega) (fun k e => by cases e; omega), Nat.le_trans hse hg.size⟩)
              have HGR2 : Hid (∀ (w6 w7 : World) (v : Value) (l : List ByteArray), Kp W' w6 → W'.heap.size + 1 ≤ w6.heap.size → OwnS w6 (W'.heap.size + 1) v l → w6.grownBy w7 v.ownBlock → Kp W' w7) := Lib.hid (fun w6 w7 v l h1 h2 h3 h4 => h1.grown h4 (by omega) (fun k e => by have := h3.lt _ e; omega))
              have HGB : Hid (∀ w6, ((W'.alloc (.cells #[.bool al, .bool false, .bool sf, .slice aoN N.length capN, .slice aoE E.length capE] 29)).alloc (.cells #[] 9)).drew.grownBy w6 (some (W'.heap.size + 1)) → Blk w6 W'.heap.size 29 #[.bool al, .bool false, .bool sf, .slice aoN N.length capN, .slice aoE E.length capE]) := Lib.hid (fun w6 hg => Blk.grown (w := ((W'.alloc (.cells #[.bool al, .bool false, .bool sf, .slice aoN N.length capN, .slice aoE E.length capE] 29)).alloc (.cells #[] 9)).drew) (HBo.out.alloc (.cells #[] 9)) hg (fun e => by have := Option.some.inj e; omega))
              have HGB2 : Hid (∀ (w6 w7 : World) (v : Value) (l : List ByteArray), Blk w6 W'.heap.size 29 #[.bool al, .bool false, .bool sf, .slice aoN N.length capN, .slice aoE E.length capE] → OwnS w6 (W'.heap.size + 1) v l → w6.grownBy w7 v.ownBlock → Blk w7 W'.heap.size 29 #[.bool al, .bool false, .bool sf, .slice aoN N.length capN, .slice aoE E.length capE]) := Lib.hid (fun w6 w7 v l h1 h3 h4 => h1.grown h4 (fun e => by have := h3.lt _ e; omega))
              go_region_held_law (fun w' => w'.cell? ⟨w.heap.size, 3, none⟩ = some (.slice aoN N.length capN) ∧ w'.cell? ⟨w.heap.size, 4, none⟩ = some (.slice aoE E.length capE)) ((refine HSK.out _ ?_; repeat (first | exact Kp.rfl' | assumption | refine Kp.drew ?_ | refine Kp.alloc ?_ _ | refine below_setC ?_ (Nat.le_refl _) _ trivial))) (first
                | (refine step_append_zero (w := ((W'.alloc (.cells #[.bool al, .bool false, .bool sf, .slice aoN N.length capN, .slice aoE E.length capE] 29)).alloc (.cells #[] 9)).drew) (by rfl) _ _ (by rfl) (W'.heap.size + 1) (.slice (some ⟨W'.heap.size + 1, 0, none⟩) 0 0) (by rfl) hoe aoN capN N (by rfl) hsn hnl hse ?_; intro ao1 cap1 w6 R6 hg6; obtain ⟨hK6, hb6⟩ := HGR.out w6 hg6; have hB6 := HGB.out w6 hg6)
                | (refine step_append_strs (by rfl) _ _ (by rfl) (W'.heap.size + 1) (.slice ao1 N.length cap1) N (by rfl) R6 aoE capE E (by rfl) (HSE.out.keep hK6) hnl2 hb6 ?_; intro aoX capX w7 R7 hg7; have hK7 := HGR2.out _ _ _ _ hK6 hb6 R6 hg7; have hB7 := HGB2.out _ _ _ _ hB6 R6 hg7; obtain ⟨k0, k1, k2, k3, k4⟩ := hB7.five; have kf := hB7.frozen 3))
              all_goals
                have HK7 : Hid (Kp W (w7.setCell ⟨W'.heap.size, 3, none⟩ (.slice aoX (N.length + E.length) capX))) := Lib.hid (Kp.step HK6.out (hK7.setCell (p := ⟨W'.heap.size, 3, none⟩) (Nat.le_refl _) _))
                have HB7 : Hid (Blk (w7.setCell ⟨W'.heap.size, 3, none⟩ (.slice aoX (N.length + E.length) capX)) W'.heap.size 29 #[.bool al, .bool false, .bool sf, .slice aoX (N.length + E.length) capX, .slice aoE E.length capE]) := Lib.hid (by simpa using hB7.set 3 (.slice aoX (N.length + E.length) capX))
                have HS7 : Hid (Strs (w7.setCell ⟨W'.heap.size, 3, none⟩ (.slice aoX (N.length + E.length) capX)) (.slice aoX (N.length + E.length) capX) (N ++ E)) := Lib.hid (by
                  obtain ⟨_, _, _, _, h⟩ := (R7.set (g := W'.heap.size) (fun e => absurd (R7.lt _ e).1 (by omega)) 3 (.slice aoX (N.length + E.length) capX)).strs
                  exact h)
                have HE7 := Lib.hid (HE.out.keep HK7.out)
                clear hke hsn hse hoe HGR HGR2 HGB HGB2 HBo R6 R7 hg6 hg7 hK6 hK7 hb6 hB6 hB7 k0 k1 k2 k3 k4 kf HSN HSE HSK HNX
                generalize (w7.setCell ⟨W'.heap.size, 3, none⟩ (.slice aoX (N.length + E.length) capX)) = X7 at *
                obtain ⟨b0, b1, b2, b3, b4⟩ := HB7.out.five
                obtain ⟨e0, e1⟩ := (HK7.out.blk HEN.out).two
                have HC4 : Hid (Calls Try.prog 14 #[.agg #[.bool al, .bool false, .bool sf, .slice aoX (N.length + E.length) capX, .slice aoE E.length capE], .agg #[.slice aoT Ts.length capT, vA]] X7 (ErrOut S3 0 X7)) := Lib.hid (HCT.out al false sf (.slice aoX (N.length + E.length) capX) (.slice aoE E.length capE) (N ++ E) E S3 0 X7 HK7.out HS7.out HE7.out (by rw [List.length_append]; omega) (by omega) HSO3.out HF3.out)
                clear HB7 HS7
                go_wp2_with fail
                refine HC4.out.mono ?_
                rintro e w8 ⟨rfl, hb⟩
                have HK8 := Lib.hid ((Kp.step HK7.out hb).alloc (.cells #[.int .u64 S3.a, .int .u64 S3.b, .int .u64 S3.c, .int .u64 S3.d] 35))
                have HQ8 := Lib.hid (Quad.new w8 S3.a S3.b S3.c S3.d)
                have HE8 := Lib.hid (HE.out.keep HK8.out)
                clear hb HC4 b0 b1 b2 b3 b4 e0 e1 HK7 HE7
                obtain ⟨y0, y1, y2, y3, y4⟩ := (HK8.out.blk HNS.out).five
                obtain ⟨e0, e1⟩ := (HK8.out.blk HEN.out).two
                have HC5 : Hid (Calls Try.prog 14 #[.agg #[.bool false, .bool false, .bool false, .slice aoE E.length capE, .slice none 0 0], .agg #[.slice aoT Ts.length capT, vA]] (w8.alloc (.cells #[.int .u64 S3.a, .int .u64 S3.b, .int .u64 S3.c, .int .u64 S3.d] 35)) (ErrOut S5 0 (w8.alloc (.cells #[.int .u64 S3.a, .int .u64 S3.b, .int .u64 S3.c, .int .u64 S3.d] 35)))) := Lib.hid (HCT.out false false false (.slice aoE E.length capE) (.slice none 0 0) E [] S5 0 _ HK8.out HE8.out Strs.nil (by omega) (by simp) HSO5.out HF5.out)
                go_wp2_with fail
                refine HC5.out.mono ?_
                rintro e w9 ⟨rfl, hb⟩
                have HK9 := Lib.hid ((Kp.step HK8.out hb).alloc (.cells #[.int .u64 S5.a, .int .u64 S5.b, .int .u64 S5.c, .int .u64 S5.d] 35))
                have HQ9 := Lib.hid ((HQ8.out.keep hb).alloc (.cells #[.int .u64 S5.a, .int .u64 S5.b, .int .u64 S5.c, .int .u64 S5.d] 35))
                have HMT : Hid (∀ W', Calls Try.prog 28 #[.agg #[.int .u64 S3.a, .int .u64 S3.b, .int .u64 S3.c, .int .u64 S3.d], .agg #[.int .u64 S5.a, .int .u64 S5.b, .int .u64 S5.c, .int .u64 S5.d]] W' fun e w' => e = .returned (.agg #[.int .u64 0, .int .u64 0, .int .u64 0, .int .u64 0]) ∧ Below W'.heap.size W' w') := Lib.hid (fun W' => by
                  show Calls _ _ _ W' fun e w' => e = .returned (.agg #[.int .u64 S4.zero.a, .int .u64 S4.zero.b, .int .u64 S4.zero.c, .int .u64 S4.zero.d]) ∧ Below W'.heap.size W' w'
                  rw [← HXX.out]; exact rmeet_c S3.a S3.b S3.c S3.d S5.a S5.b S5.c S5.d W')
                clear hb HC5 HQ8 HE8 y0 y1 y2 y3 y4 e0 e1 HK8
                obtain ⟨c0, c1, c2, c3⟩ := quad_box HQ9.out
                go_wp2_with fail
                refine (HMT.out _).mono ?_
                rintro e w10 ⟨rfl, hb⟩
                have HKA := Lib.hid (Kp.step HK9.out hb)
                clear hb c0 c1 c2 c3
                go_wp2_with fail
                refine (awake_c _).mono ?_
                rintro e w11 ⟨rfl, hb⟩
                have HBB := Lib.hid (Kp.step HW.out (Kp.step HKA.out hb))
                clear hb
                go_wp2_with fail
                go_ret
                exact ⟨rfl, HBB.out⟩
end Go.Proofs.Ytbkejoheefnmiaa
