/- The laws' own same, with questions. -/
import Derived.Test.YtomoldfgnbjliaaAxs
import Derived.Test.YtomoldfgnbjliaaAxt
namespace Go.Proofs.Ytomoldfgnbjliaa
open Go.RowKit Go.Sort Go.Shelf
/-- a question -/
structure Qn where
  a : Int
  b : Int
  c : Int
  p : BitVec 32
  wa : (Lit.int .i64 a).wf = true
  wb : (Lit.int .i64 b).wf = true
  wc : (Lit.int .i64 c).wf = true
def At4 (w : World) (g o : Nat) (x : Qn) : Prop :=
  w.cell? ⟨g, o, none⟩ = some (.int .i64 x.a) ∧ w.cell? ⟨g, o + 1, none⟩ = some (.int .i64 x.b) ∧ w.cell? ⟨g, o + 2, none⟩ = some (.int .i64 x.c) ∧ w.cell? ⟨g, o + 3, none⟩ = some (.int .u32 (vI x.p))
def RowQ (w : World) (g o : Nat) (L : List Qn) : Prop := ∀ i x, L[i]? = some x → At4 w g (o + i * 4) x
/-- the value is a slice of the questions L -/
def Ques (w : World) (v : Value) (L : List Qn) : Prop :=
  ∃ ao cap, v = .slice ao L.length cap ∧ L.length ≤ cap ∧ (L ≠ [] → ∃ g o, ao = some ⟨g, o, none⟩ ∧ RowQ w g o L)
theorem At4.lt {w : World} {g o : Nat} {x : Qn} (h : At4 w g o x) : g < w.heap.size := World.block_lt_of_cell? w ⟨g, o, none⟩ h.1
theorem At4.keep {w w' : World} {g o : Nat} {x : Qn} (h : At4 w g o x) (hb : w'.heap[g]? = w.heap[g]?) : At4 w' g o x := by
  obtain ⟨h1, h2, h3, h4⟩ := h
  exact ⟨(World.cell?_of_block hb).trans h1, (World.cell?_of_block hb).trans h2, (World.cell?_of_block hb).trans h3, (World.cell?_of_block hb).trans h4⟩
theorem RowQ.at {w : World} {g o : Nat} {L : List Qn} (h : RowQ w g o L) {i : Nat} (hi : i < L.length) : At4 w g (o + i * 4) L[i] := h i L[i] (List.getElem?_eq_getElem hi)
theorem RowQ.lt {w : World} {g o : Nat} {L : List Qn} (h : RowQ w g o L) (hl : L ≠ []) : g < w.heap.size := (h.at (List.length_pos_iff.2 hl)).lt
theorem Ques.form {w : World} {v : Value} {L : List Qn} (h : Ques w v L) : ∃ ao cap, v = .slice ao L.length cap := by
  obtain ⟨ao, cap, rfl, _⟩ := h
  exact ⟨ao, cap, rfl⟩
theorem Ques.keep {w w' : World} {v : Value} {L : List Qn} (h : Ques w v L) (hb : Below w.heap.size w w') : Ques w' v L := by
  obtain ⟨ao, cap, rfl, hc, hr⟩ := h
  refine ⟨ao, cap, rfl, hc, fun hl => ?_⟩
  obtain ⟨g, o, rfl, hR⟩ := hr hl
  exact ⟨g, o, rfl, fun i x hi => (hR i x hi).keep (hb.block g (hR.lt hl))⟩
inductive SpB where
  | val (v : Value)
  | ints (l : List Int)
def SpB.ok : SpB → Value → World → Prop
  | .val u, v, _ => v = u
  | .ints l, v, w => Ints w v l
theorem SpB.keep {s : SpB} {v : Value} {w w' : World} (h : s.ok v w) (hb : Below w.heap.size w w') : s.ok v w' := by
  cases s with
  | val u => exact h
  | ints l => exact Ints.keep h hb
def sbSpecs (g xb : Nat) (ve vv : Value) (x : Qn) (TL SL : List Int) : List SpB := [.val (.pointer (some ⟨g, 0, none⟩)), .val (.pointer (some ⟨xb, 0, none⟩)), .val (.int .i64 x.a), .val (.pointer (some ⟨xb, 2, none⟩)), .val (.int .i64 x.c), .val (.pointer (some ⟨xb, 3, none⟩)), .val (.int .u32 (vI x.p)), .ints TL, .val (.agg #[ve, vv]), .val (.pointer (some ⟨xb, 0, none⟩)), .val (.int .i64 x.a), .val (.pointer (some ⟨xb, 2, none⟩)), .val (.int .i64 x.c), .val (.pointer (some ⟨xb, 3, none⟩)), .val (.int .u32 (vI x.p)), .ints TL, .val (.bool true), .val (.bool false), .val (.bool false), .val (.pointer (some ⟨g, 0, none⟩)), .val (.pointer (some ⟨xb, 1, none⟩)), .val (.int .i64 x.b), .val (.pointer (some ⟨xb, 2, none⟩)), .val (.int .i64 x.c), .val (.pointer (some ⟨xb, 3, none⟩)), .val (.int .u32 (vI x.p)), .ints SL, .val (.agg #[ve, vv]), .val (.pointer (some ⟨xb, 1, none⟩)), .val (.int .i64 x.b), .val (.pointer (some ⟨xb, 2, none⟩)), .val (.int .i64 x.c), .val (.pointer (some ⟨xb, 3, none⟩)), .val (.int .u32 (vI x.p)), .ints SL, .val (.bool true), .val (.bool false), .val (.bool false)]
set_option maxRecDepth 100000 in
set_option maxHeartbeats 8000000 in
theorem lsameq_c {w : World} {g : Nat} {ML : List E} {vs : List Bool} {ve0 vv0 : Value} (hT : TabS w g ML vs) (hs : Strict ML) (hne : NE ML) (hl : ML.length ≤ 10000) (hv : vs.length ≤ 1000) (hE : Ents w ve0 ML) (hV : Bools w vv0 vs) {vq : Value} {qs : List Qn} (hQ : Ques w vq qs) (hnq : qs.length ≤ 10000) :
    Calls Try.prog 12 #[.pointer (some ⟨g, 0, none⟩), .agg #[ve0, vv0], vq] w fun e w' => e = .returned (.bool true) ∧ Below w.heap.size w w' := by
  obtain ⟨ae, ce, rfl⟩ := hE.form
  obtain ⟨aq, cq, rfl⟩ := hQ.form
  obtain ⟨m, hm⟩ : ∃ m, qs.length = m := ⟨_, rfl⟩
  obtain ⟨av, cv, rfl⟩ := hV.form
  have HB := Lib.hid (Blk.new w 30 #[.slice ae ML.length ce, .slice av vs.length cv])
  have hA : Below w.heap.size w (w.alloc (.cells #[.slice ae ML.length ce, .slice av vs.length cv] 30)) := (Below.refl _ w).alloc (Nat.le_refl _) _
  have HT := Lib.hid (hT.keep hA)
  have HE := Lib.hid (hE.keep hA)
  have HV := Lib.hid (hV.keep hA)
  have HQ := Lib.hid (hQ.keep hA)
  have HA := Lib.hid hA
  have HST := Lib.hid hs
  have HNE := Lib.hid hne
  have HLE := Lib.hid hl
  have HVE := Lib.hid hv
  have HM := Lib.hid hm
  have hmI : (m : Int) ≤ 10000 := by omega
  rw [hm]
  clear hT hs hne hE hV hA hl hv hQ hm hnq
  go_enter Try.func12, Try.ntmps12
  go_upto_region 1 with (fail)
  generalize w.alloc (.cells #[.slice ae ML.length ce, .slice av vs.length cv] 30) = W at *
  go_cut [39] from 15 to 39 (fun v39 w' => v39 = .bool false ∧ Hid (Kp W w'))
  case first =>
    rename_i J2 K2 hJ2 hK2
    refine wp_region_obs (fun i v w2 => SpA.ok ((saSpecs g w.heap.size (.slice ae ML.length ce) (.slice av vs.length cv) ML (V0 vs ML)).getD i (.val undef)) v w2) (by kernel_rfl) (by kernel_rfl) (fun i v w w' h hb => SpA.keep h hb) ?_ ?_
    · skip
      refine ⟨⟨trivial, fun A v hK hF => ?_⟩, ?_⟩
      · skip
        have f0 : A.tmps[0]?.getD undef = .pointer (some ⟨g, 0, none⟩) := fact_none (hF 0) (by kernel_rfl)
        unfold Gives
        go_simp
        exact gives_val (Below.refl _ _) rfl
      refine ⟨⟨trivial, fun A v hK hF => ?_⟩, ?_⟩
      · skip
        have f15 : A.tmps[15]?.getD undef = .pointer (some ⟨g, 0, none⟩) := fact_some (hF 15) (j := 0) (by kernel_rfl) (by kernel_rfl)
        unfold Gives
        go_simp
        exact gives_val (Below.refl _ _) rfl
      refine ⟨⟨trivial, fun A v hK hF => ?_⟩, ?_⟩
      · skip
        have f16 : A.tmps[16]?.getD undef = .bool false := fact_some (hF 16) (j := 1) (by kernel_rfl) (by kernel_rfl)
        unfold Gives
        go_simp
        exact gives_val (Below.refl _ _) rfl
      refine ⟨⟨fun _ _ h => h, fun A v hK hF => ?_⟩, ?_⟩
      · skip
        have f0 : A.tmps[0]?.getD undef = .pointer (some ⟨g, 0, none⟩) := fact_none (hF 0) (by kernel_rfl)
        unfold Gives
        go_simp
        exact gives_val (Below.refl _ _) rfl
      refine ⟨⟨fun _ _ h => h, fun A v hK hF => ?_⟩, ?_⟩
      · skip
        have f18 : A.tmps[18]?.getD undef = .pointer (some ⟨g, 0, none⟩) := fact_some (hF 18) (j := 3) (by kernel_rfl) (by kernel_rfl)
        unfold Gives
        go_simp
        exact gives_enter ((len_c (HT.out.keep hK)).mono fun e w2 ⟨he, hb⟩ => ⟨_, he, hb ▸ Below.refl _ _, rfl⟩)
      refine ⟨⟨fun _ _ h => h, fun A v hK hF => ?_⟩, ?_⟩
      · skip
        have f4 : A.tmps[4]?.getD undef = .pointer (some ⟨w.heap.size, 0, none⟩) := fact_none (hF 4) (by kernel_rfl)
        obtain ⟨b0, b1⟩ : v.cell? ⟨w.heap.size, 0, none⟩ = some (.slice ae ML.length ce) ∧ v.cell? ⟨w.heap.size, 1, none⟩ = some (.slice av vs.length cv) := ⟨(hK.blk HB.out).cell 0, (hK.blk HB.out).cell 1⟩
        unfold Gives
        go_simp
        exact gives_val (Below.refl _ _) rfl
      refine ⟨⟨fun _ _ h => h, fun A v hK hF => ?_⟩, ?_⟩
      · skip
        have f20 : A.tmps[20]?.getD undef = .agg #[.slice ae ML.length ce, .slice av vs.length cv] := fact_some (hF 20) (j := 5) (by kernel_rfl) (by kernel_rfl)
        unfold Gives
        go_simp
        exact gives_enter ((rlen_c (HE.out.keep hK)).mono fun e w2 ⟨he, hb⟩ => ⟨_, he, hb, rfl⟩)
      refine ⟨⟨fun _ _ h => h, fun A v hK hF => ?_⟩, ?_⟩
      · skip
        have f19 : A.tmps[19]?.getD undef = .int .i64 ML.length := fact_some (hF 19) (j := 4) (by kernel_rfl) (by kernel_rfl)
        have f21 : A.tmps[21]?.getD undef = .int .i64 ML.length := fact_some (hF 21) (j := 6) (by kernel_rfl) (by kernel_rfl)
        unfold Gives
        go_simp
        exact gives_val (Below.refl _ _) rfl
      refine ⟨⟨trivial, fun A v hK hF => ?_⟩, ?_⟩
      · skip
        have f17 : A.tmps[17]?.getD undef = .bool false := fact_some (hF 17) (j := 2) (by kernel_rfl) (by kernel_rfl)
        have f22 : A.tmps[22]?.getD undef = .bool false := fact_some (hF 22) (j := 7) (by kernel_rfl) (by kernel_rfl)
        unfold Gives
        go_simp
        exact gives_val (Below.refl _ _) rfl
      refine ⟨⟨trivial, fun A v hK hF => ?_⟩, ?_⟩
      · skip
        have f23 : A.tmps[23]?.getD undef = .bool false := fact_some (hF 23) (j := 8) (by kernel_rfl) (by kernel_rfl)
        unfold Gives
        go_simp
        exact gives_val (Below.refl _ _) rfl
      refine ⟨⟨fun _ _ h => h, fun A v hK hF => ?_⟩, ?_⟩
      · skip
        have f0 : A.tmps[0]?.getD undef = .pointer (some ⟨g, 0, none⟩) := fact_none (hF 0) (by kernel_rfl)
        unfold Gives
        go_simp
        exact gives_val (Below.refl _ _) rfl
      refine ⟨⟨fun _ _ h => h, fun A v hK hF => ?_⟩, ?_⟩
      · skip
        have f25 : A.tmps[25]?.getD undef = .pointer (some ⟨g, 0, none⟩) := fact_some (hF 25) (j := 10) (by kernel_rfl) (by kernel_rfl)
        unfold Gives
        go_simp
        exact gives_enter ((entries_c (HT.out.keep hK) HLE.out).mono fun e w2 ⟨v2, he, hO, hb⟩ => ⟨v2, he, hb, hO.ents⟩)
      refine ⟨⟨fun _ _ h => h, fun A v hK hF => ?_⟩, ?_⟩
      · skip
        have f4 : A.tmps[4]?.getD undef = .pointer (some ⟨w.heap.size, 0, none⟩) := fact_none (hF 4) (by kernel_rfl)
        unfold Gives
        go_simp
        exact gives_val (Below.refl _ _) rfl
      refine ⟨⟨fun _ _ h => h, fun A v hK hF => ?_⟩, ?_⟩
      · skip
        have f27 : A.tmps[27]?.getD undef = .pointer (some ⟨w.heap.size, 0, none⟩) := fact_some (hF 27) (j := 12) (by kernel_rfl) (by kernel_rfl)
        have b0 : v.cell? ⟨w.heap.size, 0, none⟩ = some (.slice ae ML.length ce) := (hK.blk HB.out).cell 0
        unfold Gives
        go_simp
        exact gives_val (Below.refl _ _) rfl
      refine ⟨⟨fun _ _ h => h, fun A v hK hF => ?_⟩, ?_⟩
      · skip
        have s26 : Ents v (A.tmps[26]?.getD undef) ML := fact_some (hF 26) (j := 11) (by kernel_rfl) (by kernel_rfl)
        obtain ⟨a26, c26, f26⟩ := s26.form
        rw [f26] at s26
        have f28 : A.tmps[28]?.getD undef = .slice ae ML.length ce := fact_some (hF 28) (j := 13) (by kernel_rfl) (by kernel_rfl)
        unfold Gives
        go_simp
        exact gives_enter ((same_c _ _ ML ML v s26 (HE.out.keep hK) HLE.out).mono fun e w2 ⟨he, hb⟩ => ⟨_, by rw [he, decide_eq_true rfl], hb, rfl⟩)
      refine ⟨⟨fun _ _ h => h, fun A v hK hF => ?_⟩, ?_⟩
      · skip
        have f29 : A.tmps[29]?.getD undef = .bool true := fact_some (hF 29) (j := 14) (by kernel_rfl) (by kernel_rfl)
        unfold Gives
        go_simp
        exact gives_val (Below.refl _ _) rfl
      refine ⟨⟨trivial, fun A v hK hF => ?_⟩, ?_⟩
      · skip
        have f24 : A.tmps[24]?.getD undef = .bool false := fact_some (hF 24) (j := 9) (by kernel_rfl) (by kernel_rfl)
        have f30 : A.tmps[30]?.getD undef = .bool false := fact_some (hF 30) (j := 15) (by kernel_rfl) (by kernel_rfl)
        unfold Gives
        go_simp
        exact gives_val (Below.refl _ _) rfl
      refine ⟨⟨trivial, fun A v hK hF => ?_⟩, ?_⟩
      · skip
        have f31 : A.tmps[31]?.getD undef = .bool false := fact_some (hF 31) (j := 16) (by kernel_rfl) (by kernel_rfl)
        unfold Gives
        go_simp
        exact gives_val (Below.refl _ _) rfl
      refine ⟨⟨fun _ _ h => h, fun A v hK hF => ?_⟩, ?_⟩
      · skip
        have f0 : A.tmps[0]?.getD undef = .pointer (some ⟨g, 0, none⟩) := fact_none (hF 0) (by kernel_rfl)
        unfold Gives
        go_simp
        exact gives_val (Below.refl _ _) rfl
      refine ⟨⟨fun _ _ h => h, fun A v hK hF => ?_⟩, ?_⟩
      · skip
        have f33 : A.tmps[33]?.getD undef = .pointer (some ⟨g, 0, none⟩) := fact_some (hF 33) (j := 18) (by kernel_rfl) (by kernel_rfl)
        unfold Gives
        go_simp
        exact gives_enter ((visible_c (HT.out.keep hK) HLE.out HVE.out HST.out HNE.out).mono fun e w2 ⟨v2, he, hO, hb⟩ => ⟨v2, he, hb, hO.ents⟩)
      refine ⟨⟨fun _ _ h => h, fun A v hK hF => ?_⟩, ?_⟩
      · skip
        have f4 : A.tmps[4]?.getD undef = .pointer (some ⟨w.heap.size, 0, none⟩) := fact_none (hF 4) (by kernel_rfl)
        obtain ⟨b0, b1⟩ : v.cell? ⟨w.heap.size, 0, none⟩ = some (.slice ae ML.length ce) ∧ v.cell? ⟨w.heap.size, 1, none⟩ = some (.slice av vs.length cv) := ⟨(hK.blk HB.out).cell 0, (hK.blk HB.out).cell 1⟩
        unfold Gives
        go_simp
        exact gives_val (Below.refl _ _) rfl
      refine ⟨⟨fun _ _ h => h, fun A v hK hF => ?_⟩, ?_⟩
      · skip
        have f35 : A.tmps[35]?.getD undef = .agg #[.slice ae ML.length ce, .slice av vs.length cv] := fact_some (hF 35) (j := 20) (by kernel_rfl) (by kernel_rfl)
        unfold Gives
        go_simp
        exact gives_enter ((rvis_c (HE.out.keep hK) (HV.out.keep hK) HLE.out HVE.out).mono fun e w2 ⟨v2, he, hO, hb⟩ => ⟨v2, he, hb, hO.ents⟩)
      refine ⟨⟨fun _ _ h => h, fun A v hK hF => ?_⟩, ?_⟩
      · skip
        have s34 : Ents v (A.tmps[34]?.getD undef) (V0 vs ML) := fact_some (hF 34) (j := 19) (by kernel_rfl) (by kernel_rfl)
        obtain ⟨a34, c34, f34⟩ := s34.form
        rw [f34] at s34
        have s36 : Ents v (A.tmps[36]?.getD undef) (V0 vs ML) := fact_some (hF 36) (j := 21) (by kernel_rfl) (by kernel_rfl)
        obtain ⟨a36, c36, f36⟩ := s36.form
        rw [f36] at s36
        unfold Gives
        go_simp
        exact gives_enter ((same_c _ _ (V0 vs ML) (V0 vs ML) v s34 s36 (Nat.le_trans (V0_lenO vs ML) HLE.out)).mono fun e w2 ⟨he, hb⟩ => ⟨_, by rw [he, decide_eq_true rfl], hb, rfl⟩)
      refine ⟨⟨fun _ _ h => h, fun A v hK hF => ?_⟩, ?_⟩
      · skip
        have f37 : A.tmps[37]?.getD undef = .bool true := fact_some (hF 37) (j := 22) (by kernel_rfl) (by kernel_rfl)
        unfold Gives
        go_simp
        exact gives_val (Below.refl _ _) rfl
      refine ⟨⟨trivial, fun A v hK hF => ?_⟩, ?_⟩
      · skip
        have f32 : A.tmps[32]?.getD undef = .bool false := fact_some (hF 32) (j := 17) (by kernel_rfl) (by kernel_rfl)
        have f38 : A.tmps[38]?.getD undef = .bool false := fact_some (hF 38) (j := 23) (by kernel_rfl) (by kernel_rfl)
        unfold Gives
        go_simp
        exact gives_val (Below.refl _ _) rfl
      exact trivial
    · intro a v hK hsz hdf hF
      refine hK2 _ _ (Met.intro (hJ2 _ _ ?_))
      exact ⟨a.tmps[15]?.getD undef, a.tmps[16]?.getD undef, a.tmps[17]?.getD undef, a.tmps[18]?.getD undef, a.tmps[19]?.getD undef, a.tmps[20]?.getD undef, a.tmps[21]?.getD undef, a.tmps[22]?.getD undef, a.tmps[23]?.getD undef, a.tmps[24]?.getD undef, a.tmps[25]?.getD undef, a.tmps[26]?.getD undef, a.tmps[27]?.getD undef, a.tmps[28]?.getD undef, a.tmps[29]?.getD undef, a.tmps[30]?.getD undef, a.tmps[31]?.getD undef, a.tmps[32]?.getD undef, a.tmps[33]?.getD undef, a.tmps[34]?.getD undef, a.tmps[35]?.getD undef, a.tmps[36]?.getD undef, a.tmps[37]?.getD undef, a.tmps[38]?.getD undef, a.tmps[39]?.getD undef, ⟨(fact_end (hF 39) (j := 24) (by kernel_rfl) : SpA.ok (.val (.bool false)) _ _), Lib.hid hK⟩, end_cut 15 39 hsz hdf hF (by kernel_rfl)⟩
  case rest =>
    obtain ⟨rfl, HKw⟩ := hcut
    have HK : Hid (Below w.heap.size w wc) := Lib.hid (HA.out.trans (Below.mono HKw.out HA.out.size))
    have HTc := Lib.hid (HT.out.keep HKw.out)
    have HEc := Lib.hid (HE.out.keep HKw.out)
    have HVc := Lib.hid (HV.out.keep HKw.out)
    have HBc := Lib.hid (HKw.out.blk HB.out)
    have HQc := Lib.hid (HQ.out.keep HKw.out)
    clear HB HT HE HV HKw HA HQ
    go_wp2_with fail
    go_loopw [7] (fun vi wr => ∃ i : Nat, i ≤ m ∧ vi = .int .i64 i ∧ Hid (Below wc.heap.size wc wr)) (fun vi _ => m - (intOf vi).toNat)
    case atStart => exact ⟨0, Nat.zero_le _, rfl, Lib.hid (Below.refl _ _)⟩
    case round =>
      obtain ⟨i, hi, rfl, HW⟩ := hrel
      by_cases hlt : i < m
      · have hltL : i < qs.length := by rw [HM.out]; exact hlt
        obtain ⟨ao', cap', hao, hcp, hr⟩ := HQc.out
        obtain ⟨b, o, rfl, hR⟩ := hr (by rintro rfl; simp at hltL)
        obtain ⟨rfl, -, rfl⟩ : aq = some ⟨b, o, none⟩ ∧ True ∧ cq = cap' := by
          simp only [Value.slice.injEq] at hao
          exact ⟨hao.1, trivial, hao.2.2⟩
        have hA : At4 wr b (o + i * 4) qs[i] := (hR.at hltL).keep (HW.out.block b (hR.lt (by rintro rfl; simp at hltL)))
        have hltI : (i : Int) < (m : Int) := by omega
        have hcI : (m : Int) ≤ (cq : Int) := by have := HM.out; omega
        generalize qs[i] = x at *
        obtain ⟨q0, q1, q2, q3⟩ := hA
        clear hao hcp hr hR
        go_upto_region 7 with (fail)
        have hal : Below wr.heap.size wr (wr.alloc (.cells #[.int .i64 x.a, .int .i64 x.b, .int .i64 x.c, .int .u32 (vI x.p)] 48)) := (Below.refl _ wr).alloc (Nat.le_refl _) _
        have HX1 := Lib.hid (Blk.new wr 48 #[.int .i64 x.a, .int .i64 x.b, .int .i64 x.c, .int .u32 (vI x.p)])
        have HW1 : Hid (Below wc.heap.size wc (wr.alloc (.cells #[.int .i64 x.a, .int .i64 x.b, .int .i64 x.c, .int .u32 (vI x.p)] 48))) := Lib.hid (HW.out.trans (hal.mono HW.out.size))
        clear hal q0 q1 q2 q3
        generalize wr.alloc (.cells #[.int .i64 x.a, .int .i64 x.b, .int .i64 x.c, .int .u32 (vI x.p)] 48) = w1 at *
        generalize wr.heap.size = xb at *
        have HFD : Hid (∀ u, Below wc.heap.size wc u → Calls Try.prog 20 #[.pointer (some ⟨g, 0, none⟩), .int .i64 x.a, .int .i64 x.b, .int .i64 x.c] u (fun e w' => e = .returned (.tuple #[.int .u32 (vI (fin ((V0 vs ML).filter (P3 x.a x.b x.c))).p), .int .u32 (vI (fin ((V0 vs ML).filter (P3 x.a x.b x.c))).q), .int .u32 (vI (fin ((V0 vs ML).filter (P3 x.a x.b x.c))).r)]) ∧ Below u.heap.size u w')) := Lib.hid fun u hu => find_c (HTc.out.keep hu) HLE.out HVE.out HST.out HNE.out x.a x.b x.c x.wa x.wb x.wc
        have HRF : Hid (∀ u, Below wc.heap.size wc u → Calls Try.prog 34 #[.agg #[.slice ae ML.length ce, .slice av vs.length cv], .int .i64 x.a, .int .i64 x.b, .int .i64 x.c] u (fun e w' => e = .returned (.tuple #[.int .u32 (vI (fin ((V0 vs ML).filter (P3 x.a x.b x.c))).p), .int .u32 (vI (fin ((V0 vs ML).filter (P3 x.a x.b x.c))).q), .int .u32 (vI (fin ((V0 vs ML).filter (P3 x.a x.b x.c))).r)]) ∧ Below u.heap.size u w')) := Lib.hid fun u hu => rfind_c (HEc.out.keep hu) (HVc.out.keep hu) HLE.out HVE.out x.a x.b x.c
        generalize fin ((V0 vs ML).filter (P3 x.a x.b x.c)) = F at *
        obtain ⟨x0, x1, x2⟩ : w1.cell? ⟨xb, 0, none⟩ = some (.int .i64 x.a) ∧ w1.cell? ⟨xb, 1, none⟩ = some (.int .i64 x.b) ∧ w1.cell? ⟨xb, 2, none⟩ = some (.int .i64 x.c) := ⟨HX1.out.cell 0, HX1.out.cell 1, HX1.out.cell 2⟩
        go_upto_region 9 with (first
          | (go_at_call 20
             refine (HFD.out _ HW1.out).mono ?_
             rintro e w2 ⟨rfl, hb⟩
             have HW2 := Lib.hid (HW1.out.trans (Below.mono hb HW1.out.size))
             have HX2 := Lib.hid (Blk.keep HX1.out hb)
             clear hb x0 x1 x2
             obtain ⟨x0, x1, x2⟩ : w2.cell? ⟨xb, 0, none⟩ = some (.int .i64 x.a) ∧ w2.cell? ⟨xb, 1, none⟩ = some (.int .i64 x.b) ∧ w2.cell? ⟨xb, 2, none⟩ = some (.int .i64 x.c) := ⟨HX2.out.cell 0, HX2.out.cell 1, HX2.out.cell 2⟩
             have HBt := Blk.keep HBc.out HW2.out
             obtain ⟨s0, s1⟩ : w2.cell? ⟨w.heap.size, 0, none⟩ = some (.slice ae ML.length ce) ∧ w2.cell? ⟨w.heap.size, 1, none⟩ = some (.slice av vs.length cv) := ⟨HBt.cell 0, HBt.cell 1⟩
             clear HBt)
          | (go_at_call 34
             refine (HRF.out _ HW2.out).mono ?_
             rintro e w3 ⟨rfl, hb⟩
             have HW3 := Lib.hid (HW2.out.trans (Below.mono hb HW2.out.size))
             have HX3 := Lib.hid (Blk.keep HX2.out hb)
             clear hb x0 x1 x2 s0 s1))
        go_upto_region 11 with (fail)
        have HTL0 : (tgtL x.p ((V0 vs ML).filter (PT x.a x.c))).length ≤ 10000 := Nat.le_trans (tgt_len _ _) (Nat.le_trans (List.length_filter_le _ _) (Nat.le_trans (V0_lenO vs ML) HLE.out))
        have HSL0 : (srcL x.p ((V0 vs ML).filter (PS x.b x.c))).length ≤ 10000 := Nat.le_trans (src_len _ _) (Nat.le_trans (List.length_filter_le _ _) (Nat.le_trans (V0_lenO vs ML) HLE.out))
        have HTG : Hid (∀ u, Kp w3 u → Calls Try.prog 22 #[.pointer (some ⟨g, 0, none⟩), .int .i64 x.a, .int .i64 x.c, .int .u32 (vI x.p)] u (IntsOut u (tgtL x.p ((V0 vs ML).filter (PT x.a x.c))))) := Lib.hid fun u hu => targets_c (HTc.out.keep (HW3.out.trans (Below.mono hu HW3.out.size))) HLE.out HVE.out HST.out HNE.out x.a x.c x.p x.wa x.wc
        have HSG : Hid (∀ u, Kp w3 u → Calls Try.prog 23 #[.pointer (some ⟨g, 0, none⟩), .int .i64 x.b, .int .i64 x.c, .int .u32 (vI x.p)] u (IntsOut u (srcL x.p ((V0 vs ML).filter (PS x.b x.c))))) := Lib.hid fun u hu => sources_c (HTc.out.keep (HW3.out.trans (Below.mono hu HW3.out.size))) HLE.out HVE.out HST.out HNE.out x.b x.c x.p x.wb x.wc
        have HRT : Hid (∀ u, Kp w3 u → Calls Try.prog 35 #[.agg #[.slice ae ML.length ce, .slice av vs.length cv], .int .i64 x.a, .int .i64 x.c, .int .u32 (vI x.p)] u (IntsOut u (tgtL x.p ((V0 vs ML).filter (PT x.a x.c))))) := Lib.hid fun u hu => rtgt_c (HEc.out.keep (HW3.out.trans (Below.mono hu HW3.out.size))) (HVc.out.keep (HW3.out.trans (Below.mono hu HW3.out.size))) HLE.out HVE.out x.a x.c x.p
        have HRS : Hid (∀ u, Kp w3 u → Calls Try.prog 36 #[.agg #[.slice ae ML.length ce, .slice av vs.length cv], .int .i64 x.b, .int .i64 x.c, .int .u32 (vI x.p)] u (IntsOut u (srcL x.p ((V0 vs ML).filter (PS x.b x.c))))) := Lib.hid fun u hu => rsrc_c (HEc.out.keep (HW3.out.trans (Below.mono hu HW3.out.size))) (HVc.out.keep (HW3.out.trans (Below.mono hu HW3.out.size))) HLE.out HVE.out x.b x.c x.p
        generalize tgtL x.p ((V0 vs ML).filter (PT x.a x.c)) = TL at *
        generalize srcL x.p ((V0 vs ML).filter (PS x.b x.c)) = SL at *
        have HTL := Lib.hid HTL0
        have HSL := Lib.hid HSL0
        have HBS : Hid (Blk w3 w.heap.size 30 #[.slice ae ML.length ce, .slice av vs.length cv]) := Lib.hid (Blk.keep HBc.out HW3.out)
        clear HTL0 HSL0 HFD HRF HTc HEc HVc HQc
        go_cut [124] from 87 to 124 (fun v124 w' => v124 = .bool false ∧ Hid (Kp w3 w'))
        case first =>
          rename_i J3 K3 hJ3 hK3
          refine wp_region_obs (fun i v w2 => SpB.ok ((sbSpecs g xb (.slice ae ML.length ce) (.slice av vs.length cv) x TL SL).getD i (.val undef)) v w2) (by kernel_rfl) (by kernel_rfl) (fun i v w w' h hb => SpB.keep h hb) ?_ ?_
          · skip
            refine ⟨⟨trivial, fun A v hK hF => ?_⟩, ?_⟩
            · skip
              have f0 : A.tmps[0]?.getD undef = .pointer (some ⟨g, 0, none⟩) := fact_none (hF 0) (by kernel_rfl)
              unfold Gives
              go_simp
              exact gives_val (Below.refl _ _) rfl
            refine ⟨⟨trivial, fun A v hK hF => ?_⟩, ?_⟩
            · skip
              have f8 : A.tmps[8]?.getD undef = .pointer (some ⟨xb, 0, none⟩) := fact_none (hF 8) (by kernel_rfl)
              unfold Gives
              go_simp
              exact gives_val (Below.refl _ _) rfl
            refine ⟨⟨trivial, fun A v hK hF => ?_⟩, ?_⟩
            · skip
              have f88 : A.tmps[88]?.getD undef = .pointer (some ⟨xb, 0, none⟩) := fact_some (hF 88) (j := 1) (by kernel_rfl) (by kernel_rfl)
              have b0 : v.cell? ⟨xb, 0, none⟩ = some (.int .i64 x.a) := (hK.blk HX3.out).cell 0
              unfold Gives
              go_simp
              exact gives_val (Below.refl _ _) rfl
            refine ⟨⟨trivial, fun A v hK hF => ?_⟩, ?_⟩
            · skip
              have f8 : A.tmps[8]?.getD undef = .pointer (some ⟨xb, 0, none⟩) := fact_none (hF 8) (by kernel_rfl)
              unfold Gives
              go_simp
              exact gives_val (Below.refl _ _) rfl
            refine ⟨⟨trivial, fun A v hK hF => ?_⟩, ?_⟩
            · skip
              have f90 : A.tmps[90]?.getD undef = .pointer (some ⟨xb, 2, none⟩) := fact_some (hF 90) (j := 3) (by kernel_rfl) (by kernel_rfl)
              have b0 : v.cell? ⟨xb, 2, none⟩ = some (.int .i64 x.c) := (hK.blk HX3.out).cell 2
              unfold Gives
              go_simp
              exact gives_val (Below.refl _ _) rfl
            refine ⟨⟨trivial, fun A v hK hF => ?_⟩, ?_⟩
            · skip
              have f8 : A.tmps[8]?.getD undef = .pointer (some ⟨xb, 0, none⟩) := fact_none (hF 8) (by kernel_rfl)
              unfold Gives
              go_simp
              exact gives_val (Below.refl _ _) rfl
            refine ⟨⟨trivial, fun A v hK hF => ?_⟩, ?_⟩
            · skip
              have f92 : A.tmps[92]?.getD undef = .pointer (some ⟨xb, 3, none⟩) := fact_some (hF 92) (j := 5) (by kernel_rfl) (by kernel_rfl)
              have b0 : v.cell? ⟨xb, 3, none⟩ = some (.int .u32 (vI x.p)) := (hK.blk HX3.out).cell 3
              unfold Gives
              go_simp
              exact gives_val (Below.refl _ _) rfl
            refine ⟨⟨trivial, fun A v hK hF => ?_⟩, ?_⟩
            · skip
              have f87 : A.tmps[87]?.getD undef = .pointer (some ⟨g, 0, none⟩) := fact_some (hF 87) (j := 0) (by kernel_rfl) (by kernel_rfl)
              have f89 : A.tmps[89]?.getD undef = .int .i64 x.a := fact_some (hF 89) (j := 2) (by kernel_rfl) (by kernel_rfl)
              have f91 : A.tmps[91]?.getD undef = .int .i64 x.c := fact_some (hF 91) (j := 4) (by kernel_rfl) (by kernel_rfl)
              have f93 : A.tmps[93]?.getD undef = .int .u32 (vI x.p) := fact_some (hF 93) (j := 6) (by kernel_rfl) (by kernel_rfl)
              unfold Gives
              go_simp
              exact gives_enter ((HTG.out v hK).mono fun e w2 ⟨v2, he, hO, hb⟩ => ⟨v2, he, hb, hO.ints⟩)
            refine ⟨⟨trivial, fun A v hK hF => ?_⟩, ?_⟩
            · skip
              have f4 : A.tmps[4]?.getD undef = .pointer (some ⟨w.heap.size, 0, none⟩) := fact_none (hF 4) (by kernel_rfl)
              obtain ⟨b0, b1⟩ : v.cell? ⟨w.heap.size, 0, none⟩ = some (.slice ae ML.length ce) ∧ v.cell? ⟨w.heap.size, 1, none⟩ = some (.slice av vs.length cv) := ⟨(hK.blk HBS.out).cell 0, (hK.blk HBS.out).cell 1⟩
              unfold Gives
              go_simp
              exact gives_val (Below.refl _ _) rfl
            refine ⟨⟨trivial, fun A v hK hF => ?_⟩, ?_⟩
            · skip
              have f8 : A.tmps[8]?.getD undef = .pointer (some ⟨xb, 0, none⟩) := fact_none (hF 8) (by kernel_rfl)
              unfold Gives
              go_simp
              exact gives_val (Below.refl _ _) rfl
            refine ⟨⟨trivial, fun A v hK hF => ?_⟩, ?_⟩
            · skip
              have f96 : A.tmps[96]?.getD undef = .pointer (some ⟨xb, 0, none⟩) := fact_some (hF 96) (j := 9) (by kernel_rfl) (by kernel_rfl)
              have b0 : v.cell? ⟨xb, 0, none⟩ = some (.int .i64 x.a) := (hK.blk HX3.out).cell 0
              unfold Gives
              go_simp
              exact gives_val (Below.refl _ _) rfl
            refine ⟨⟨trivial, fun A v hK hF => ?_⟩, ?_⟩
            · skip
              have f8 : A.tmps[8]?.getD undef = .pointer (some ⟨xb, 0, none⟩) := fact_none (hF 8) (by kernel_rfl)
              unfold Gives
              go_simp
              exact gives_val (Below.refl _ _) rfl
            refine ⟨⟨trivial, fun A v hK hF => ?_⟩, ?_⟩
            · skip
              have f98 : A.tmps[98]?.getD undef = .pointer (some ⟨xb, 2, none⟩) := fact_some (hF 98) (j := 11) (by kernel_rfl) (by kernel_rfl)
              have b0 : v.cell? ⟨xb, 2, none⟩ = some (.int .i64 x.c) := (hK.blk HX3.out).cell 2
              unfold Gives
              go_simp
              exact gives_val (Below.refl _ _) rfl
            refine ⟨⟨trivial, fun A v hK hF => ?_⟩, ?_⟩
            · skip
              have f8 : A.tmps[8]?.getD undef = .pointer (some ⟨xb, 0, none⟩) := fact_none (hF 8) (by kernel_rfl)
              unfold Gives
              go_simp
              exact gives_val (Below.refl _ _) rfl
            refine ⟨⟨trivial, fun A v hK hF => ?_⟩, ?_⟩
            · skip
              have f100 : A.tmps[100]?.getD undef = .pointer (some ⟨xb, 3, none⟩) := fact_some (hF 100) (j := 13) (by kernel_rfl) (by kernel_rfl)
              have b0 : v.cell? ⟨xb, 3, none⟩ = some (.int .u32 (vI x.p)) := (hK.blk HX3.out).cell 3
              unfold Gives
              go_simp
              exact gives_val (Below.refl _ _) rfl
            refine ⟨⟨trivial, fun A v hK hF => ?_⟩, ?_⟩
            · skip
              have f95 : A.tmps[95]?.getD undef = .agg #[.slice ae ML.length ce, .slice av vs.length cv] := fact_some (hF 95) (j := 8) (by kernel_rfl) (by kernel_rfl)
              have f97 : A.tmps[97]?.getD undef = .int .i64 x.a := fact_some (hF 97) (j := 10) (by kernel_rfl) (by kernel_rfl)
              have f99 : A.tmps[99]?.getD undef = .int .i64 x.c := fact_some (hF 99) (j := 12) (by kernel_rfl) (by kernel_rfl)
              have f101 : A.tmps[101]?.getD undef = .int .u32 (vI x.p) := fact_some (hF 101) (j := 14) (by kernel_rfl) (by kernel_rfl)
              unfold Gives
              go_simp
              exact gives_enter ((HRT.out v hK).mono fun e w2 ⟨v2, he, hO, hb⟩ => ⟨v2, he, hb, hO.ints⟩)
            refine ⟨⟨trivial, fun A v hK hF => ?_⟩, ?_⟩
            · skip
              have s94 : Ints v (A.tmps[94]?.getD undef) TL := fact_some (hF 94) (j := 7) (by kernel_rfl) (by kernel_rfl)
              obtain ⟨a94, c94, f94⟩ := s94.form
              rw [f94] at s94
              have s102 : Ints v (A.tmps[102]?.getD undef) TL := fact_some (hF 102) (j := 15) (by kernel_rfl) (by kernel_rfl)
              obtain ⟨a102, c102, f102⟩ := s102.form
              rw [f102] at s102
              unfold Gives
              go_simp
              exact gives_enter ((ints_c _ _ TL TL v s94 s102 HTL.out).mono fun e w2 ⟨he, hb⟩ => ⟨_, by rw [he, decide_eq_true rfl], hb, rfl⟩)
            refine ⟨⟨trivial, fun A v hK hF => ?_⟩, ?_⟩
            · skip
              have f103 : A.tmps[103]?.getD undef = .bool true := fact_some (hF 103) (j := 16) (by kernel_rfl) (by kernel_rfl)
              unfold Gives
              go_simp
              exact gives_val (Below.refl _ _) rfl
            refine ⟨⟨trivial, fun A v hK hF => ?_⟩, ?_⟩
            · skip
              have f104 : A.tmps[104]?.getD undef = .bool false := fact_some (hF 104) (j := 17) (by kernel_rfl) (by kernel_rfl)
              unfold Gives
              go_simp
              exact gives_val (Below.refl _ _) rfl
            refine ⟨⟨fun _ _ h => h, fun A v hK hF => ?_⟩, ?_⟩
            · skip
              have f0 : A.tmps[0]?.getD undef = .pointer (some ⟨g, 0, none⟩) := fact_none (hF 0) (by kernel_rfl)
              unfold Gives
              go_simp
              exact gives_val (Below.refl _ _) rfl
            refine ⟨⟨fun _ _ h => h, fun A v hK hF => ?_⟩, ?_⟩
            · skip
              have f8 : A.tmps[8]?.getD undef = .pointer (some ⟨xb, 0, none⟩) := fact_none (hF 8) (by kernel_rfl)
              unfold Gives
              go_simp
              exact gives_val (Below.refl _ _) rfl
            refine ⟨⟨fun _ _ h => h, fun A v hK hF => ?_⟩, ?_⟩
            · skip
              have f107 : A.tmps[107]?.getD undef = .pointer (some ⟨xb, 1, none⟩) := fact_some (hF 107) (j := 20) (by kernel_rfl) (by kernel_rfl)
              have b0 : v.cell? ⟨xb, 1, none⟩ = some (.int .i64 x.b) := (hK.blk HX3.out).cell 1
              unfold Gives
              go_simp
              exact gives_val (Below.refl _ _) rfl
            refine ⟨⟨fun _ _ h => h, fun A v hK hF => ?_⟩, ?_⟩
            · skip
              have f8 : A.tmps[8]?.getD undef = .pointer (some ⟨xb, 0, none⟩) := fact_none (hF 8) (by kernel_rfl)
              unfold Gives
              go_simp
              exact gives_val (Below.refl _ _) rfl
            refine ⟨⟨fun _ _ h => h, fun A v hK hF => ?_⟩, ?_⟩
            · skip
              have f109 : A.tmps[109]?.getD undef = .pointer (some ⟨xb, 2, none⟩) := fact_some (hF 109) (j := 22) (by kernel_rfl) (by kernel_rfl)
              have b0 : v.cell? ⟨xb, 2, none⟩ = some (.int .i64 x.c) := (hK.blk HX3.out).cell 2
              unfold Gives
              go_simp
              exact gives_val (Below.refl _ _) rfl
            refine ⟨⟨fun _ _ h => h, fun A v hK hF => ?_⟩, ?_⟩
            · skip
              have f8 : A.tmps[8]?.getD undef = .pointer (some ⟨xb, 0, none⟩) := fact_none (hF 8) (by kernel_rfl)
              unfold Gives
              go_simp
              exact gives_val (Below.refl _ _) rfl
            refine ⟨⟨fun _ _ h => h, fun A v hK hF => ?_⟩, ?_⟩
            · skip
              have f111 : A.tmps[111]?.getD undef = .pointer (some ⟨xb, 3, none⟩) := fact_some (hF 111) (j := 24) (by kernel_rfl) (by kernel_rfl)
              have b0 : v.cell? ⟨xb, 3, none⟩ = some (.int .u32 (vI x.p)) := (hK.blk HX3.out).cell 3
              unfold Gives
              go_simp
              exact gives_val (Below.refl _ _) rfl
            refine ⟨⟨fun _ _ h => h, fun A v hK hF => ?_⟩, ?_⟩
            · skip
              have f106 : A.tmps[106]?.getD undef = .pointer (some ⟨g, 0, none⟩) := fact_some (hF 106) (j := 19) (by kernel_rfl) (by kernel_rfl)
              have f108 : A.tmps[108]?.getD undef = .int .i64 x.b := fact_some (hF 108) (j := 21) (by kernel_rfl) (by kernel_rfl)
              have f110 : A.tmps[110]?.getD undef = .int .i64 x.c := fact_some (hF 110) (j := 23) (by kernel_rfl) (by kernel_rfl)
              have f112 : A.tmps[112]?.getD undef = .int .u32 (vI x.p) := fact_some (hF 112) (j := 25) (by kernel_rfl) (by kernel_rfl)
              unfold Gives
              go_simp
              exact gives_enter ((HSG.out v hK).mono fun e w2 ⟨v2, he, hO, hb⟩ => ⟨v2, he, hb, hO.ints⟩)
            refine ⟨⟨fun _ _ h => h, fun A v hK hF => ?_⟩, ?_⟩
            · skip
              have f4 : A.tmps[4]?.getD undef = .pointer (some ⟨w.heap.size, 0, none⟩) := fact_none (hF 4) (by kernel_rfl)
              obtain ⟨b0, b1⟩ : v.cell? ⟨w.heap.size, 0, none⟩ = some (.slice ae ML.length ce) ∧ v.cell? ⟨w.heap.size, 1, none⟩ = some (.slice av vs.length cv) := ⟨(hK.blk HBS.out).cell 0, (hK.blk HBS.out).cell 1⟩
              unfold Gives
              go_simp
              exact gives_val (Below.refl _ _) rfl
            refine ⟨⟨fun _ _ h => h, fun A v hK hF => ?_⟩, ?_⟩
            · skip
              have f8 : A.tmps[8]?.getD undef = .pointer (some ⟨xb, 0, none⟩) := fact_none (hF 8) (by kernel_rfl)
              unfold Gives
              go_simp
              exact gives_val (Below.refl _ _) rfl
            refine ⟨⟨fun _ _ h => h, fun A v hK hF => ?_⟩, ?_⟩
            · skip
              have f115 : A.tmps[115]?.getD undef = .pointer (some ⟨xb, 1, none⟩) := fact_some (hF 115) (j := 28) (by kernel_rfl) (by kernel_rfl)
              have b0 : v.cell? ⟨xb, 1, none⟩ = some (.int .i64 x.b) := (hK.blk HX3.out).cell 1
              unfold Gives
              go_simp
              exact gives_val (Below.refl _ _) rfl
            refine ⟨⟨fun _ _ h => h, fun A v hK hF => ?_⟩, ?_⟩
            · skip
              have f8 : A.tmps[8]?.getD undef = .pointer (some ⟨xb, 0, none⟩) := fact_none (hF 8) (by kernel_rfl)
              unfold Gives
              go_simp
              exact gives_val (Below.refl _ _) rfl
            refine ⟨⟨fun _ _ h => h, fun A v hK hF => ?_⟩, ?_⟩
            · skip
              have f117 : A.tmps[117]?.getD undef = .pointer (some ⟨xb, 2, none⟩) := fact_some (hF 117) (j := 30) (by kernel_rfl) (by kernel_rfl)
              have b0 : v.cell? ⟨xb, 2, none⟩ = some (.int .i64 x.c) := (hK.blk HX3.out).cell 2
              unfold Gives
              go_simp
              exact gives_val (Below.refl _ _) rfl
            refine ⟨⟨fun _ _ h => h, fun A v hK hF => ?_⟩, ?_⟩
            · skip
              have f8 : A.tmps[8]?.getD undef = .pointer (some ⟨xb, 0, none⟩) := fact_none (hF 8) (by kernel_rfl)
              unfold Gives
              go_simp
              exact gives_val (Below.refl _ _) rfl
            refine ⟨⟨fun _ _ h => h, fun A v hK hF => ?_⟩, ?_⟩
            · skip
              have f119 : A.tmps[119]?.getD undef = .pointer (some ⟨xb, 3, none⟩) := fact_some (hF 119) (j := 32) (by kernel_rfl) (by kernel_rfl)
              have b0 : v.cell? ⟨xb, 3, none⟩ = some (.int .u32 (vI x.p)) := (hK.blk HX3.out).cell 3
              unfold Gives
              go_simp
              exact gives_val (Below.refl _ _) rfl
            refine ⟨⟨fun _ _ h => h, fun A v hK hF => ?_⟩, ?_⟩
            · skip
              have f114 : A.tmps[114]?.getD undef = .agg #[.slice ae ML.length ce, .slice av vs.length cv] := fact_some (hF 114) (j := 27) (by kernel_rfl) (by kernel_rfl)
              have f116 : A.tmps[116]?.getD undef = .int .i64 x.b := fact_some (hF 116) (j := 29) (by kernel_rfl) (by kernel_rfl)
              have f118 : A.tmps[118]?.getD undef = .int .i64 x.c := fact_some (hF 118) (j := 31) (by kernel_rfl) (by kernel_rfl)
              have f120 : A.tmps[120]?.getD undef = .int .u32 (vI x.p) := fact_some (hF 120) (j := 33) (by kernel_rfl) (by kernel_rfl)
              unfold Gives
              go_simp
              exact gives_enter ((HRS.out v hK).mono fun e w2 ⟨v2, he, hO, hb⟩ => ⟨v2, he, hb, hO.ints⟩)
            refine ⟨⟨fun _ _ h => h, fun A v hK hF => ?_⟩, ?_⟩
            · skip
              have s113 : Ints v (A.tmps[113]?.getD undef) SL := fact_some (hF 113) (j := 26) (by kernel_rfl) (by kernel_rfl)
              obtain ⟨a113, c113, f113⟩ := s113.form
              rw [f113] at s113
              have s121 : Ints v (A.tmps[121]?.getD undef) SL := fact_some (hF 121) (j := 34) (by kernel_rfl) (by kernel_rfl)
              obtain ⟨a121, c121, f121⟩ := s121.form
              rw [f121] at s121
              unfold Gives
              go_simp
              exact gives_enter ((ints_c _ _ SL SL v s113 s121 HSL.out).mono fun e w2 ⟨he, hb⟩ => ⟨_, by rw [he, decide_eq_true rfl], hb, rfl⟩)
            refine ⟨⟨fun _ _ h => h, fun A v hK hF => ?_⟩, ?_⟩
            · skip
              have f122 : A.tmps[122]?.getD undef = .bool true := fact_some (hF 122) (j := 35) (by kernel_rfl) (by kernel_rfl)
              unfold Gives
              go_simp
              exact gives_val (Below.refl _ _) rfl
            refine ⟨⟨trivial, fun A v hK hF => ?_⟩, ?_⟩
            · skip
              have f105 : A.tmps[105]?.getD undef = .bool false := fact_some (hF 105) (j := 18) (by kernel_rfl) (by kernel_rfl)
              have f123 : A.tmps[123]?.getD undef = .bool false := fact_some (hF 123) (j := 36) (by kernel_rfl) (by kernel_rfl)
              unfold Gives
              go_simp
              exact gives_val (Below.refl _ _) rfl
            exact trivial
          · intro a v hK hsz hdf hF
            refine hK3 _ _ (Met.intro (hJ3 _ _ ?_))
            exact ⟨a.tmps[87]?.getD undef, a.tmps[88]?.getD undef, a.tmps[89]?.getD undef, a.tmps[90]?.getD undef, a.tmps[91]?.getD undef, a.tmps[92]?.getD undef, a.tmps[93]?.getD undef, a.tmps[94]?.getD undef, a.tmps[95]?.getD undef, a.tmps[96]?.getD undef, a.tmps[97]?.getD undef, a.tmps[98]?.getD undef, a.tmps[99]?.getD undef, a.tmps[100]?.getD undef, a.tmps[101]?.getD undef, a.tmps[102]?.getD undef, a.tmps[103]?.getD undef, a.tmps[104]?.getD undef, a.tmps[105]?.getD undef, a.tmps[106]?.getD undef, a.tmps[107]?.getD undef, a.tmps[108]?.getD undef, a.tmps[109]?.getD undef, a.tmps[110]?.getD undef, a.tmps[111]?.getD undef, a.tmps[112]?.getD undef, a.tmps[113]?.getD undef, a.tmps[114]?.getD undef, a.tmps[115]?.getD undef, a.tmps[116]?.getD undef, a.tmps[117]?.getD undef, a.tmps[118]?.getD undef, a.tmps[119]?.getD undef, a.tmps[120]?.getD undef, a.tmps[121]?.getD undef, a.tmps[122]?.getD undef, a.tmps[123]?.getD undef, a.tmps[124]?.getD undef, ⟨(fact_end (hF 124) (j := 37) (by kernel_rfl) : SpB.ok (.val (.bool false)) _ _), Lib.hid hK⟩, end_cut 87 124 hsz hdf hF (by kernel_rfl)⟩
        case rest =>
          obtain ⟨rfl, HK3⟩ := hcut
          go_wp2_with fail
          exact ⟨⟨i + 1, by omega, by go_num, Lib.hid (HW3.out.trans (Below.mono HK3.out HW3.out.size))⟩, by simp [intOf]; omega⟩
      · obtain rfl : i = m := by omega
        go_wp2_with fail
        go_ret
        exact ⟨rfl, HK.out.trans (HW.out.mono HK.out.size)⟩
end Go.Proofs.Ytomoldfgnbjliaa
