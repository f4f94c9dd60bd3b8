/- The laws' own same, without questions. -/
import Derived.Test.YtomoldfgnbjliaaAwd
import Derived.Test.YtomoldfgnbjliaaAxd
import Derived.Test.YtomoldfgnbjliaaAxb
import Derived.Test.YtomoldfgnbjliaaPh
import Derived.Deep.DeepCutAuto
namespace Go.Proofs.Ytomoldfgnbjliaa
open Go.RowKit Go.Sort Go.Shelf
/-- what a slot holds, whatever the order -/
inductive SpA where
  | val (v : Value)
  | ents (l : List E)
def SpA.ok : SpA → Value → World → Prop
  | .val u, v, _ => v = u
  | .ents l, v, w => Ents w v l
theorem SpA.keep {s : SpA} {v : Value} {w w' : World} (h : s.ok v w) (hb : Below w.heap.size w w') : s.ok v w' := by
  cases s with
  | val u => exact h
  | ents l => exact Ents.keep h hb
theorem gives_val {P : Program} {w w' : World} {u : Value} {φ : Value → World → Prop} (hb : Below w.heap.size w w') (h : φ u w') : GivesR P w φ (.ok (.value u) w') := ⟨hb, h⟩
theorem gives_enter {P : Program} {w : World} {f : FuncId} {args : Array Value} {φ : Value → World → Prop} (h : Calls P f args w fun e w'' => ∃ v, e = .returned v ∧ Below w.heap.size w w'' ∧ φ v w'') : GivesR P w φ (.ok (.enter f args) w) := ⟨rfl, h⟩
theorem fact_none {ops : Array Oper} {n t : Nat} {Φ : Nat → Value → World → Prop} {a0 A : Act} {o : Oper} {w : World} (h : factAt ops n Φ a0 o A w t) (hs : srcOf ops n t = none) : A.tmps[t]?.getD undef = a0.eval (.tmp t) := by
  unfold factAt at h; rw [hs] at h; simpa [Act.eval] using h
theorem fact_some {ops : Array Oper} {n t j : Nat} {Φ : Nat → Value → World → Prop} {a0 A : Act} {o : Oper} {w : World} (h : factAt ops n Φ a0 o A w t) (hs : srcOf ops n t = some j) (hw : waitsOn o j = true) : Φ j (A.tmps[t]?.getD undef) w := by
  unfold factAt at h; rw [hs] at h; have h2 := h hw; rwa [show A.eval (.tmp t) = A.tmps[t]?.getD undef by simp [Act.eval]] at h2
def obsL (P : Program) (ops : Array Oper) (n : Nat) (W : World) (a0 : Act) (Φ : Nat → Value → World → Prop) : Nat → List Oper → Prop
  | _, [] => True
  | k, o :: r => obOf P ops n W a0 Φ k o ∧ obsL P ops n W a0 Φ (k + 1) r
theorem obs_at {P : Program} {ops : Array Oper} {n : Nat} {W : World} {a0 : Act} {Φ : Nat → Value → World → Prop} : ∀ {l : List Oper} {k : Nat}, obsL P ops n W a0 Φ k l → ∀ i o, l[i]? = some o → obOf P ops n W a0 Φ (k + i) o
  | [], _, _, i, o, h => by simp at h
  | x :: l, k, h, 0, o, ho => by
    obtain rfl : x = o := by simpa using ho
    exact h.1
  | x :: l, k, h, i + 1, o, ho => by
    have := obs_at h.2 i o (by simpa using ho)
    rwa [show k + (i + 1) = k + 1 + i by omega]
theorem wp_region_obs {P : Program} {id : Nat} {Q : Exit → Act → World → Prop} {a0 : Act} {W : World} {l : List Oper} (Φ : Nat → Value → World → Prop) (hm : P.follows .mixedOrders = true)
    (hB : phiB l.toArray l.toArray.size a0.tmps.size = true) (hst : ∀ i v w w', Φ i v w → Below w.heap.size w w' → Φ i v w')
    (ob : obsL P l.toArray l.toArray.size W a0 Φ 0 l)
    (h : ∀ a w, Kp W w → a.tmps.size = a0.tmps.size → a.defers = a0.defers → (∀ t, factEnd l.toArray l.toArray.size Φ a0 a w t) → Q .normal a w) : (Code.region id l.toArray true).wp P Q a0 W :=
  wp_region_phi Φ hm hB hst (fun i o _ ho => by have := obs_at ob i o (by simpa using ho); rwa [Nat.zero_add] at this) h
/-- the slots from lo to hi as they are now, the others as they were -/
def cutL (a : Act) (lo hi : Nat) : Nat → List Value → List Value
  | _, [] => []
  | t, v :: l => (bif Nat.ble lo t && Nat.ble t hi then a.tmps[t]?.getD undef else v) :: cutL a lo hi (t + 1) l
theorem cutL_eq (a : Act) (lo hi : Nat) : ∀ (l : List Value) (t : Nat) (m : List Value), m.length = l.length → (∀ k (h : k < m.length), a.tmps[t + k]? = some m[k]) → (∀ k (h : k < l.length) (h' : k < m.length), (Nat.ble lo (t + k) && Nat.ble (t + k) hi) = false → m[k] = l[k]) → m = cutL a lo hi t l
  | [], _, m, hm, _, _ => List.eq_nil_of_length_eq_zero hm
  | v :: l, t, [], hm, _, _ => by simp at hm
  | v :: l, t, x :: m, hm, hg, hs => by
    have h0 := hg 0 (by simp)
    unfold cutL
    congr 1
    · cases hb : (Nat.ble lo t && Nat.ble t hi)
      · exact hs 0 (by simp) (by simp) hb
      · simp only [cond_true]
        have h0' : a.tmps[t]? = some x := h0
        rw [h0']; rfl
    · refine cutL_eq a lo hi l (t + 1) m (by simpa using hm) (fun k h => ?_) (fun k h h' hb => ?_)
      · have := hg (k + 1) (by simpa using h)
        rwa [show t + (k + 1) = t + 1 + k by omega] at this
      · have := hs (k + 1) (by simpa using h) (by simpa using h') (by rwa [show t + (k + 1) = t + 1 + k by omega])
        simpa using this
theorem act_ext {a : Act} {t : Array Value} {d : List Deferred} (h1 : a.tmps = t) (h2 : a.defers = d) : a = { tmps := t, defers := d } := by subst h1 h2; rfl
theorem end_cut {ops : Array Oper} {n : Nat} {Φ : Nat → Value → World → Prop} {a0 a : Act} {w : World} (lo hi : Nat) (hs : a.tmps.size = a0.tmps.size) (hd : a.defers = a0.defers) (hF : ∀ t, factEnd ops n Φ a0 a w t)
    (hB : ((List.range a0.tmps.size).all fun t => (Nat.ble lo t && Nat.ble t hi) || (srcOf ops n t).isNone) = true) : a = { tmps := (cutL a lo hi 0 a0.tmps.toList).toArray, defers := a0.defers } := by
  have e : a.tmps = (cutL a lo hi 0 a0.tmps.toList).toArray := by
    have e2 : a.tmps.toList = cutL a lo hi 0 a0.tmps.toList := by
      refine cutL_eq a lo hi _ 0 _ (by simpa using hs) (fun k h => ?_) (fun k h h' hb => ?_)
      · have h2 : k < a.tmps.size := by simpa using h
        rw [Nat.zero_add, Array.getElem?_eq_getElem h2]
        simp
      · rw [Nat.zero_add] at hb
        have h1 : k < a0.tmps.size := by simpa using h
        have h2 : k < a.tmps.size := by simpa using h'
        have := List.all_eq_true.1 hB k (List.mem_range.2 h1)
        rw [hb, Bool.false_or] at this
        have hn : srcOf ops n k = none := by
          cases hc : srcOf ops n k with
          | none => rfl
          | some j => rw [hc] at this; cases this
        have hk := hF k
        unfold factEnd at hk
        rw [hn] at hk
        have hk2 : a.tmps[k]?.getD undef = a0.tmps[k]?.getD undef := by simpa [Act.eval] using hk
        rw [Array.getElem?_eq_getElem h1, Array.getElem?_eq_getElem h2] at hk2
        simpa using hk2
    rw [← e2]
  exact act_ext e hd
theorem fact_end {ops : Array Oper} {n t j : Nat} {Φ : Nat → Value → World → Prop} {a0 a : Act} {w : World} (h : factEnd ops n Φ a0 a w t) (hs : srcOf ops n t = some j) : Φ j (a.tmps[t]?.getD undef) w := by
  unfold factEnd at h; rw [hs] at h; rwa [show a.eval (.tmp t) = a.tmps[t]?.getD undef by simp [Act.eval]] at h
theorem V0_lenO (vs : List Bool) (L : List E) : (V0 vs L).length ≤ L.length := Nat.le_trans (M_len _) (seenL_len _ _)
def saSpecs (g sb : Nat) (ve vv : Value) (ML S : List E) : List SpA := [.val (.pointer (some ⟨g, 0, none⟩)), .val (.bool false), .val (.bool false), .val (.pointer (some ⟨g, 0, none⟩)), .val (.int .i64 ML.length), .val (.agg #[ve, vv]), .val (.int .i64 ML.length), .val (.bool false), .val (.bool false), .val (.bool false), .val (.pointer (some ⟨g, 0, none⟩)), .ents ML, .val (.pointer (some ⟨sb, 0, none⟩)), .val ve, .val (.bool true), .val (.bool false), .val (.bool false), .val (.bool false), .val (.pointer (some ⟨g, 0, none⟩)), .ents S, .val (.agg #[ve, vv]), .ents S, .val (.bool true), .val (.bool false), .val (.bool false)]
set_option maxRecDepth 100000 in
set_option maxHeartbeats 8000000 in
theorem lsame0_c {w : World} {g : Nat} {ML : List E} {vs : List Bool} {ve0 vv0 : Value} (hT : TabS w g ML vs) (hs : Strict ML) (hne : NE ML) (hl : ML.length ≤ 10000) (hv : vs.length ≤ 1000) (hE : Ents w ve0 ML) (hV : Bools w vv0 vs) :
    Calls Try.prog 12 #[.pointer (some ⟨g, 0, none⟩), .agg #[ve0, vv0], .slice none 0 0] w fun e w' => e = .returned (.bool true) ∧ Below w.heap.size w w' := by
  obtain ⟨ae, ce, rfl⟩ := hE.form
  obtain ⟨av, cv, rfl⟩ := hV.form
  have HB := Lib.hid (Blk.new w 30 #[.slice ae ML.length ce, .slice av vs.length cv])
  have hA : Below w.heap.size w (w.alloc (.cells #[.slice ae ML.length ce, .slice av vs.length cv] 30)) := (Below.refl _ w).alloc (Nat.le_refl _) _
  have HT := Lib.hid (hT.keep hA)
  have HE := Lib.hid (hE.keep hA)
  have HV := Lib.hid (hV.keep hA)
  have HA := Lib.hid hA
  have HST := Lib.hid hs
  have HNE := Lib.hid hne
  have HLE := Lib.hid hl
  have HVE := Lib.hid hv
  clear hT hs hne hE hV hA hl hv
  go_enter Try.func12, Try.ntmps12
  go_upto_region 1 with (fail)
  generalize w.alloc (.cells #[.slice ae ML.length ce, .slice av vs.length cv] 30) = W at *
  go_cut [39] from 15 to 39 (fun v39 w' => v39 = .bool false ∧ Hid (Kp W w'))
  case first =>
    rename_i J2 K2 hJ2 hK2
    refine wp_region_obs (fun i v w2 => SpA.ok ((saSpecs g w.heap.size (.slice ae ML.length ce) (.slice av vs.length cv) ML (V0 vs ML)).getD i (.val undef)) v w2) (by kernel_rfl) (by kernel_rfl) (fun i v w w' h hb => SpA.keep h hb) ?_ ?_
    · skip
      refine ⟨⟨trivial, fun A v hK hF => ?_⟩, ?_⟩
      · skip
        have f0 : A.tmps[0]?.getD undef = .pointer (some ⟨g, 0, none⟩) := fact_none (hF 0) (by kernel_rfl)
        unfold Gives
        go_simp
        exact gives_val (Below.refl _ _) rfl
      refine ⟨⟨trivial, fun A v hK hF => ?_⟩, ?_⟩
      · skip
        have f15 : A.tmps[15]?.getD undef = .pointer (some ⟨g, 0, none⟩) := fact_some (hF 15) (j := 0) (by kernel_rfl) (by kernel_rfl)
        unfold Gives
        go_simp
        exact gives_val (Below.refl _ _) rfl
      refine ⟨⟨trivial, fun A v hK hF => ?_⟩, ?_⟩
      · skip
        have f16 : A.tmps[16]?.getD undef = .bool false := fact_some (hF 16) (j := 1) (by kernel_rfl) (by kernel_rfl)
        unfold Gives
        go_simp
        exact gives_val (Below.refl _ _) rfl
      refine ⟨⟨fun _ _ h => h, fun A v hK hF => ?_⟩, ?_⟩
      · skip
        have f0 : A.tmps[0]?.getD undef = .pointer (some ⟨g, 0, none⟩) := fact_none (hF 0) (by kernel_rfl)
        unfold Gives
        go_simp
        exact gives_val (Below.refl _ _) rfl
      refine ⟨⟨fun _ _ h => h, fun A v hK hF => ?_⟩, ?_⟩
      · skip
        have f18 : A.tmps[18]?.getD undef = .pointer (some ⟨g, 0, none⟩) := fact_some (hF 18) (j := 3) (by kernel_rfl) (by kernel_rfl)
        unfold Gives
        go_simp
        exact gives_enter ((len_c (HT.out.keep hK)).mono fun e w2 ⟨he, hb⟩ => ⟨_, he, hb ▸ Below.refl _ _, rfl⟩)
      refine ⟨⟨fun _ _ h => h, fun A v hK hF => ?_⟩, ?_⟩
      · skip
        have f4 : A.tmps[4]?.getD undef = .pointer (some ⟨w.heap.size, 0, none⟩) := fact_none (hF 4) (by kernel_rfl)
        obtain ⟨b0, b1⟩ : v.cell? ⟨w.heap.size, 0, none⟩ = some (.slice ae ML.length ce) ∧ v.cell? ⟨w.heap.size, 1, none⟩ = some (.slice av vs.length cv) := ⟨(hK.blk HB.out).cell 0, (hK.blk HB.out).cell 1⟩
        unfold Gives
        go_simp
        exact gives_val (Below.refl _ _) rfl
      refine ⟨⟨fun _ _ h => h, fun A v hK hF => ?_⟩, ?_⟩
      · skip
        have f20 : A.tmps[20]?.getD undef = .agg #[.slice ae ML.length ce, .slice av vs.length cv] := fact_some (hF 20) (j := 5) (by kernel_rfl) (by kernel_rfl)
        unfold Gives
        go_simp
        exact gives_enter ((rlen_c (HE.out.keep hK)).mono fun e w2 ⟨he, hb⟩ => ⟨_, he, hb, rfl⟩)
      refine ⟨⟨fun _ _ h => h, fun A v hK hF => ?_⟩, ?_⟩
      · skip
        have f19 : A.tmps[19]?.getD undef = .int .i64 ML.length := fact_some (hF 19) (j := 4) (by kernel_rfl) (by kernel_rfl)
        have f21 : A.tmps[21]?.getD undef = .int .i64 ML.length := fact_some (hF 21) (j := 6) (by kernel_rfl) (by kernel_rfl)
        unfold Gives
        go_simp
        exact gives_val (Below.refl _ _) rfl
      refine ⟨⟨trivial, fun A v hK hF => ?_⟩, ?_⟩
      · skip
        have f17 : A.tmps[17]?.getD undef = .bool false := fact_some (hF 17) (j := 2) (by kernel_rfl) (by kernel_rfl)
        have f22 : A.tmps[22]?.getD undef = .bool false := fact_some (hF 22) (j := 7) (by kernel_rfl) (by kernel_rfl)
        unfold Gives
        go_simp
        exact gives_val (Below.refl _ _) rfl
      refine ⟨⟨trivial, fun A v hK hF => ?_⟩, ?_⟩
      · skip
        have f23 : A.tmps[23]?.getD undef = .bool false := fact_some (hF 23) (j := 8) (by kernel_rfl) (by kernel_rfl)
        unfold Gives
        go_simp
        exact gives_val (Below.refl _ _) rfl
      refine ⟨⟨fun _ _ h => h, fun A v hK hF => ?_⟩, ?_⟩
      · skip
        have f0 : A.tmps[0]?.getD undef = .pointer (some ⟨g, 0, none⟩) := fact_none (hF 0) (by kernel_rfl)
        unfold Gives
        go_simp
        exact gives_val (Below.refl _ _) rfl
      refine ⟨⟨fun _ _ h => h, fun A v hK hF => ?_⟩, ?_⟩
      · skip
        have f25 : A.tmps[25]?.getD undef = .pointer (some ⟨g, 0, none⟩) := fact_some (hF 25) (j := 10) (by kernel_rfl) (by kernel_rfl)
        unfold Gives
        go_simp
        exact gives_enter ((entries_c (HT.out.keep hK) HLE.out).mono fun e w2 ⟨v2, he, hO, hb⟩ => ⟨v2, he, hb, hO.ents⟩)
      refine ⟨⟨fun _ _ h => h, fun A v hK hF => ?_⟩, ?_⟩
      · skip
        have f4 : A.tmps[4]?.getD undef = .pointer (some ⟨w.heap.size, 0, none⟩) := fact_none (hF 4) (by kernel_rfl)
        unfold Gives
        go_simp
        exact gives_val (Below.refl _ _) rfl
      refine ⟨⟨fun _ _ h => h, fun A v hK hF => ?_⟩, ?_⟩
      · skip
        have f27 : A.tmps[27]?.getD undef = .pointer (some ⟨w.heap.size, 0, none⟩) := fact_some (hF 27) (j := 12) (by kernel_rfl) (by kernel_rfl)
        have b0 : v.cell? ⟨w.heap.size, 0, none⟩ = some (.slice ae ML.length ce) := (hK.blk HB.out).cell 0
        unfold Gives
        go_simp
        exact gives_val (Below.refl _ _) rfl
      refine ⟨⟨fun _ _ h => h, fun A v hK hF => ?_⟩, ?_⟩
      · skip
        have s26 : Ents v (A.tmps[26]?.getD undef) ML := fact_some (hF 26) (j := 11) (by kernel_rfl) (by kernel_rfl)
        obtain ⟨a26, c26, f26⟩ := s26.form
        rw [f26] at s26
        have f28 : A.tmps[28]?.getD undef = .slice ae ML.length ce := fact_some (hF 28) (j := 13) (by kernel_rfl) (by kernel_rfl)
        unfold Gives
        go_simp
        exact gives_enter ((same_c _ _ ML ML v s26 (HE.out.keep hK) HLE.out).mono fun e w2 ⟨he, hb⟩ => ⟨_, by rw [he, decide_eq_true rfl], hb, rfl⟩)
      refine ⟨⟨fun _ _ h => h, fun A v hK hF => ?_⟩, ?_⟩
      · skip
        have f29 : A.tmps[29]?.getD undef = .bool true := fact_some (hF 29) (j := 14) (by kernel_rfl) (by kernel_rfl)
        unfold Gives
        go_simp
        exact gives_val (Below.refl _ _) rfl
      refine ⟨⟨trivial, fun A v hK hF => ?_⟩, ?_⟩
      · skip
        have f24 : A.tmps[24]?.getD undef = .bool false := fact_some (hF 24) (j := 9) (by kernel_rfl) (by kernel_rfl)
        have f30 : A.tmps[30]?.getD undef = .bool false := fact_some (hF 30) (j := 15) (by kernel_rfl) (by kernel_rfl)
        unfold Gives
        go_simp
        exact gives_val (Below.refl _ _) rfl
      refine ⟨⟨trivial, fun A v hK hF => ?_⟩, ?_⟩
      · skip
        have f31 : A.tmps[31]?.getD undef = .bool false := fact_some (hF 31) (j := 16) (by kernel_rfl) (by kernel_rfl)
        unfold Gives
        go_simp
        exact gives_val (Below.refl _ _) rfl
      refine ⟨⟨fun _ _ h => h, fun A v hK hF => ?_⟩, ?_⟩
      · skip
        have f0 : A.tmps[0]?.getD undef = .pointer (some ⟨g, 0, none⟩) := fact_none (hF 0) (by kernel_rfl)
        unfold Gives
        go_simp
        exact gives_val (Below.refl _ _) rfl
      refine ⟨⟨fun _ _ h => h, fun A v hK hF => ?_⟩, ?_⟩
      · skip
        have f33 : A.tmps[33]?.getD undef = .pointer (some ⟨g, 0, none⟩) := fact_some (hF 33) (j := 18) (by kernel_rfl) (by kernel_rfl)
        unfold Gives
        go_simp
        exact gives_enter ((visible_c (HT.out.keep hK) HLE.out HVE.out HST.out HNE.out).mono fun e w2 ⟨v2, he, hO, hb⟩ => ⟨v2, he, hb, hO.ents⟩)
      refine ⟨⟨fun _ _ h => h, fun A v hK hF => ?_⟩, ?_⟩
      · skip
        have f4 : A.tmps[4]?.getD undef = .pointer (some ⟨w.heap.size, 0, none⟩) := fact_none (hF 4) (by kernel_rfl)
        obtain ⟨b0, b1⟩ : v.cell? ⟨w.heap.size, 0, none⟩ = some (.slice ae ML.length ce) ∧ v.cell? ⟨w.heap.size, 1, none⟩ = some (.slice av vs.length cv) := ⟨(hK.blk HB.out).cell 0, (hK.blk HB.out).cell 1⟩
        unfold Gives
        go_simp
        exact gives_val (Below.refl _ _) rfl
      refine ⟨⟨fun _ _ h => h, fun A v hK hF => ?_⟩, ?_⟩
      · skip
        have f35 : A.tmps[35]?.getD undef = .agg #[.slice ae ML.length ce, .slice av vs.length cv] := fact_some (hF 35) (j := 20) (by kernel_rfl) (by kernel_rfl)
        unfold Gives
        go_simp
        exact gives_enter ((rvis_c (HE.out.keep hK) (HV.out.keep hK) HLE.out HVE.out).mono fun e w2 ⟨v2, he, hO, hb⟩ => ⟨v2, he, hb, hO.ents⟩)
      refine ⟨⟨fun _ _ h => h, fun A v hK hF => ?_⟩, ?_⟩
      · skip
        have s34 : Ents v (A.tmps[34]?.getD undef) (V0 vs ML) := fact_some (hF 34) (j := 19) (by kernel_rfl) (by kernel_rfl)
        obtain ⟨a34, c34, f34⟩ := s34.form
        rw [f34] at s34
        have s36 : Ents v (A.tmps[36]?.getD undef) (V0 vs ML) := fact_some (hF 36) (j := 21) (by kernel_rfl) (by kernel_rfl)
        obtain ⟨a36, c36, f36⟩ := s36.form
        rw [f36] at s36
        unfold Gives
        go_simp
        exact gives_enter ((same_c _ _ (V0 vs ML) (V0 vs ML) v s34 s36 (Nat.le_trans (V0_lenO vs ML) HLE.out)).mono fun e w2 ⟨he, hb⟩ => ⟨_, by rw [he, decide_eq_true rfl], hb, rfl⟩)
      refine ⟨⟨fun _ _ h => h, fun A v hK hF => ?_⟩, ?_⟩
      · skip
        have f37 : A.tmps[37]?.getD undef = .bool true := fact_some (hF 37) (j := 22) (by kernel_rfl) (by kernel_rfl)
        unfold Gives
        go_simp
        exact gives_val (Below.refl _ _) rfl
      refine ⟨⟨trivial, fun A v hK hF => ?_⟩, ?_⟩
      · skip
        have f32 : A.tmps[32]?.getD undef = .bool false := fact_some (hF 32) (j := 17) (by kernel_rfl) (by kernel_rfl)
        have f38 : A.tmps[38]?.getD undef = .bool false := fact_some (hF 38) (j := 23) (by kernel_rfl) (by kernel_rfl)
        unfold Gives
        go_simp
        exact gives_val (Below.refl _ _) rfl
      exact trivial
    · intro a v hK hsz hdf hF
      refine hK2 _ _ (Met.intro (hJ2 _ _ ?_))
      exact ⟨a.tmps[15]?.getD undef, a.tmps[16]?.getD undef, a.tmps[17]?.getD undef, a.tmps[18]?.getD undef, a.tmps[19]?.getD undef, a.tmps[20]?.getD undef, a.tmps[21]?.getD undef, a.tmps[22]?.getD undef, a.tmps[23]?.getD undef, a.tmps[24]?.getD undef, a.tmps[25]?.getD undef, a.tmps[26]?.getD undef, a.tmps[27]?.getD undef, a.tmps[28]?.getD undef, a.tmps[29]?.getD undef, a.tmps[30]?.getD undef, a.tmps[31]?.getD undef, a.tmps[32]?.getD undef, a.tmps[33]?.getD undef, a.tmps[34]?.getD undef, a.tmps[35]?.getD undef, a.tmps[36]?.getD undef, a.tmps[37]?.getD undef, a.tmps[38]?.getD undef, a.tmps[39]?.getD undef, ⟨(fact_end (hF 39) (j := 24) (by kernel_rfl) : SpA.ok (.val (.bool false)) _ _), Lib.hid hK⟩, end_cut 15 39 hsz hdf hF (by kernel_rfl)⟩
  case rest =>
    obtain ⟨rfl, HKw⟩ := hcut
    have HK : Hid (Below w.heap.size w wc) := Lib.hid (HA.out.trans (Below.mono HKw.out HA.out.size))
    clear HB HT HE HV HKw HA
    go_wp2_with fail
    go_loopw [7] (fun vi wr => vi = .int .i64 0 ∧ wr = wc) (fun _ _ => 0)
    case atStart => exact ⟨rfl, rfl⟩
    case round =>
      obtain ⟨rfl, rfl⟩ := hrel
      go_wp2_with fail
      go_ret
      exact ⟨rfl, HK.out⟩
end Go.Proofs.Ytomoldfgnbjliaa
