/- The reference's Visible, First, Activate, Len. -/
import Derived.Test.YtomoldfgnbjliaaAwb
namespace Go.Proofs.Ytomoldfgnbjliaa
open Go.RowKit Go.Sort
set_option maxRecDepth 100000 in
set_option maxHeartbeats 4000000 in
theorem rvis_c {w : World} {ve vv : Value} {L : List E} {vs : List Bool} (hE : Ents w ve L) (hV : Bools w vv vs) (hl : L.length ≤ 10000) (hn : vs.length ≤ 1000) :
    Calls Try.prog 33 #[.agg #[ve, vv]] w (ListOut w (V0 vs L)) := by
  obtain ⟨ao, cap, rfl, hcap, -⟩ := id hE
  obtain ⟨av, cv, rfl⟩ := hV.form
  obtain ⟨n, hN⟩ : ∃ n, L.length = n := ⟨_, rfl⟩
  have HN := Lib.hid hN
  have HE0 := Lib.hid hE
  have hhe := HE0.out
  rw [hN] at hl hcap hhe ⊢
  have HE := Lib.hid (hhe.keep ((Below.refl _ w).alloc (Nat.le_refl _) (.cells #[.slice ao n cap, .slice av vs.length cv] 30)))
  have HV := Lib.hid (hV.keep ((Below.refl _ w).alloc (Nat.le_refl _) (.cells #[.slice ao n cap, .slice av vs.length cv] 30)))
  have HB0 := Lib.hid (Blk.new w 30 #[.slice ao n cap, .slice av vs.length cv])
  have HW0 : Hid (Below w.heap.size w (w.alloc (.cells #[.slice ao n cap, .slice av vs.length cv] 30))) := Lib.hid ((Below.refl _ w).alloc (Nat.le_refl _) _)
  clear hN hhe HE0 hE hV
  have hlI : (n : Int) ≤ 10000 := by omega
  have hcI : (n : Int) ≤ (cap : Int) := by omega
  go_enter Try.func33, Try.ntmps33
  go_wp2_with fail
  generalize hsb : w.heap.size = sb at *
  generalize w.alloc (.cells #[.slice ao n cap, .slice av vs.length cv] 30) = w0 at *
  have hsb0 : sb < w0.heap.size := HB0.out.lt
  go_loopw [4, 3] (fun vi va wr => ∃ (i : Nat) (v : Value), i ≤ n ∧ vi = .int .i64 i ∧ v = va ∧ Hid (OwnE wr w0.heap.size v (seenL vs (L.take i))) ∧ Hid (Below w0.heap.size w0 wr)) (fun vi _ _ => n - (intOf vi).toNat)
  case atStart => exact ⟨0, _, Nat.zero_le _, rfl, rfl, Lib.hid (OwnE.nil _ _), Lib.hid (Below.refl _ _)⟩
  case round =>
    obtain ⟨i, v, hi, rfl, rfl, HO, HW⟩ := hrel
    obtain ⟨s0, s1⟩ : wr.cell? ⟨sb, 0, none⟩ = some (.slice ao n cap) ∧ wr.cell? ⟨sb, 1, none⟩ = some (.slice av vs.length cv) := ⟨(HB0.out.keep HW.out).cell 0, (HB0.out.keep HW.out).cell 1⟩
    by_cases hlt : i < n
    · have hltL : i < L.length := by rw [HN.out]; exact hlt
      obtain ⟨ao', cap', hao, -, hr⟩ := HE.out
      obtain ⟨b, o, rfl, hR⟩ := hr (by rintro rfl; simp at hltL)
      obtain ⟨rfl, -, rfl⟩ : ao = some ⟨b, o, none⟩ ∧ True ∧ cap = cap' := by
        simp only [Value.slice.injEq] at hao
        exact ⟨hao.1, trivial, hao.2.2⟩
      have hA : At7 wr b (o + i * 7) L[i] := (hR.at hltL).keep (HW.out.block b (hR.lt (by rintro rfl; simp at hltL)))
      have hts := take_snoc' L i hltL
      obtain ⟨x, hx⟩ : ∃ x, L[i] = x := ⟨_, rfl⟩
      rw [hx] at hA hts
      have HTS : Hid (seenL vs (L.take (i + 1)) = if vis vs x.d then seenL vs (L.take i) ++ [zero x] else seenL vs (L.take i)) := Lib.hid (by rw [hts, seenL_snoc])
      obtain ⟨a0, a1, a2, a3, a4, a5, a6⟩ := hA
      have hltI : (i : Int) < (n : Int) := by omega
      have HVx := Lib.hid ((HV.out.keep HW.out).keep ((Below.refl _ wr).alloc (Nat.le_refl _) (.cells #[.int .i64 x.s, .int .i64 x.t, .int .i64 x.c, .int .i64 x.d, .int .u32 (vI x.a), .int .u32 (vI x.b), .int .u32 (vI x.e)] 39)))
      have HBx := Lib.hid (Blk.new wr 39 #[.int .i64 x.s, .int .i64 x.t, .int .i64 x.c, .int .i64 x.d, .int .u32 (vI x.a), .int .u32 (vI x.b), .int .u32 (vI x.e)])
      have HWx := Lib.hid (HW.out.alloc HW.out.size (.cells #[.int .i64 x.s, .int .i64 x.t, .int .i64 x.c, .int .i64 x.d, .int .u32 (vI x.a), .int .u32 (vI x.b), .int .u32 (vI x.e)] 39))
      have HOx := Lib.hid (HO.out.below ((Below.refl _ wr).alloc (Nat.le_refl _) (.cells #[.int .i64 x.s, .int .i64 x.t, .int .i64 x.c, .int .i64 x.d, .int .u32 (vI x.a), .int .u32 (vI x.b), .int .u32 (vI x.e)] 39)))
      have hsl : (seenL vs (L.take i)).length ≤ i := Nat.le_trans (seenL_len _ _) (by rw [List.length_take]; omega)
      clear hx hao hr hR hts
      go_upto_region 6 with (fail)
      obtain ⟨t0, t1⟩ : (wr.alloc (.cells #[.int .i64 x.s, .int .i64 x.t, .int .i64 x.c, .int .i64 x.d, .int .u32 (vI x.a), .int .u32 (vI x.b), .int .u32 (vI x.e)] 39)).cell? ⟨sb, 0, none⟩ = some (.slice (some ⟨b, o, none⟩) n cap) ∧ (wr.alloc (.cells #[.int .i64 x.s, .int .i64 x.t, .int .i64 x.c, .int .i64 x.d, .int .u32 (vI x.a), .int .u32 (vI x.b), .int .u32 (vI x.e)] 39)).cell? ⟨sb, 1, none⟩ = some (.slice av vs.length cv) := ⟨(HB0.out.keep HWx.out).cell 0, (HB0.out.keep HWx.out).cell 1⟩
      obtain ⟨d0, d1, d2, d3, d4, d5, d6⟩ := (show Box _ _ x from HBx.out).cells
      have HXL : Hid (∀ q, v.ownBlock = some q → q < wr.heap.size) := Lib.hid (fun q e => (World.ownsRow.lt HO.out q e).2)
      have HXS : Hid (w0.heap.size ≤ wr.heap.size) := Lib.hid HW.out.size
      generalize hxb : wr.heap.size = xb at *
      generalize wr.alloc (.cells #[.int .i64 x.s, .int .i64 x.t, .int .i64 x.c, .int .i64 x.d, .int .u32 (vI x.a), .int .u32 (vI x.b), .int .u32 (vI x.e)] 39) = w3 at *
      clear a0 a1 a2 a3 a4 a5 a6 s0 s1
      cases hvis : vis vs x.d with
      | true =>
        have HVI := Lib.hid hvis
        rw [hvis] at HTS
        clear hvis
        go_upto_region 8 with (go_at_call 47; refine (rvisible_c HVx.out x.d x.wf.2.2.2 hn).mono ?_; rintro e w1 ⟨rfl, hb1⟩; rw [HVI.out]; have HB1 := Lib.hid (Blk.keep HBx.out hb1); have HO1 := Lib.hid (HOx.out.below hb1); have HW1 := Lib.hid (HWx.out.trans (hb1.mono HWx.out.size)); obtain ⟨b0, b1, b2, b3, b4, b5, b6⟩ := (show Box _ _ x from HB1.out).cells; have y0 := HB1.out.frozen 3; clear hb1)
        clear b0 b1 b2 b3 b4 b5 b6 y0
        have HB2 : Hid (Box (w1.setCell ⟨xb, 3, none⟩ (.int .i64 0)) xb (zero x)) := Lib.hid (Blk.set HB1.out 3 (.int .i64 0))
        have hgr : w1.grownBy (w1.setCell ⟨xb, 3, none⟩ (.int .i64 0)) (some xb) := ⟨rfl, rfl, rfl, by simp [World.setCell], fun q hq hne => Below.heap_setCell _ _ _ q (by rintro rfl; exact hne rfl)⟩
        have HO2 : Hid (OwnE (w1.setCell ⟨xb, 3, none⟩ (.int .i64 0)) w0.heap.size v (seenL vs (L.take i))) := Lib.hid (World.ownsRow.kept HO1.out hgr (.inr (fun e => by have := HXL.out _ e; omega)))
        have HW2 : Hid (Below w0.heap.size w0 (w1.setCell ⟨xb, 3, none⟩ (.int .i64 0))) := Lib.hid (HW1.out.setCell HXS.out _)
        generalize w1.setCell ⟨xb, 3, none⟩ (.int .i64 0) = w2 at *
        obtain ⟨m, hm⟩ : ∃ m, (seenL vs (L.take i)).length = m := ⟨_, rfl⟩
        rw [hm] at hsl
        have HMM := Lib.hid hm
        obtain ⟨b0, b1, b2, b3, b4, b5, b6⟩ := (show Box _ _ (zero x) from HB2.out).cells
        clear hm hgr HB1 HO1 HW1
        go_wp2_with (at_builtin; refine wpList_append_E (by rfl) _ _ (by rfl) w0.heap.size v (seenL vs (L.take i)) m HMM.out (by rfl) (HO2.out.below ((Below.refl _ _).alloc (Nat.le_refl _) _)) w2.heap.size (zero x) (by rfl) (Blk.new _ _ _) (by omega) (by have := HW2.out.size; simp; omega) ?_; intro g5 c5' w5 h1 h2 h3; have H1 := Lib.hid h1; have H2 := Lib.hid h2; clear h1 h2 h3)
        refine ⟨⟨i + 1, _, by omega, by go_num, rfl, Lib.hid ?_, Lib.hid ?_⟩, by simp [intOf]; omega⟩
        · rw [HTS.out]
          exact HMM.out ▸ H1.out
        · exact (HW2.out.alloc HW2.out.size _).grown H2.out (by have := HW2.out.size; simp; omega) (fun q e => (World.ownsRow.lt HO2.out q e).1)
      | false =>
        have HVI := Lib.hid hvis
        rw [hvis] at HTS
        clear hvis
        go_wp2_with (go_at_call 47; refine (rvisible_c HVx.out x.d x.wf.2.2.2 hn).mono ?_; rintro e w1 ⟨rfl, hb1⟩; rw [HVI.out]; have HO1 := Lib.hid (HOx.out.below hb1); have HW1 := Lib.hid (HWx.out.trans (hb1.mono HWx.out.size)); clear hb1)
        exact ⟨⟨i + 1, v, by omega, by go_num, rfl, Lib.hid (by rw [HTS.out]; exact HO1.out), HW1⟩, by simp [intOf]; omega⟩
    · obtain rfl : i = n := by omega
      have HS := HO.out
      rw [← HN.out, List.take_length] at HS
      have HM := Lib.hid (rmerge_c v (seenL vs L) (Nat.le_trans (seenL_len _ _) (by rw [HN.out]; exact hl)) wr HS.ents)
      clear HS
      go_wp2_with (go_at_call 31; refine HM.out.mono ?_; rintro e w2 ⟨v2, rfl, k1, k2⟩)
      go_ret
      have hz : sb ≤ wr.heap.size := by have := HW.out.size; omega
      rw [← hsb] at hz
      exact ⟨v2, rfl, k1.base hz, by rw [hsb]; exact HW0.out.trans ((HW.out.trans (k2.mono HW.out.size)).mono (Nat.le_of_lt hsb0))⟩
end Go.Proofs.Ytomoldfgnbjliaa
