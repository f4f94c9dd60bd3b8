/- Targets, Sources, Copy. -/
import Derived.Test.YtomoldfgnbjliaaAvq
namespace Go.Proofs.Ytomoldfgnbjliaa
open Go.RowKit Go.Sort Go.Shelf Go.Maps Go.WideMaps Go.ChangeShapes
def OwnI (w : World) (B : Nat) (v : Value) (zs : List Int) : Prop := w.ownsRow B 3 1 v zs.length (zs.map (Value.int .i64))
theorem OwnI.nil (w : World) (B : Nat) : OwnI w B (.slice none 0 0) [] := World.ownsRow_nil _ _ _ _
/-- the value is a slice of the numbers zs -/
def Ints (w : World) (v : Value) (zs : List Int) : Prop :=
  ∃ ao cap, v = .slice ao zs.length cap ∧ zs.length ≤ cap ∧ (zs ≠ [] → ∃ g o, ao = some ⟨g, o, none⟩ ∧ ∀ i z, zs[i]? = some z → w.cell? ⟨g, o + i, none⟩ = some (.int .i64 z))
theorem Ints.form {w : World} {v : Value} {zs : List Int} (h : Ints w v zs) : ∃ ao cap, v = .slice ao zs.length cap := by
  obtain ⟨ao, cap, rfl, _⟩ := h
  exact ⟨ao, cap, rfl⟩
theorem Ints.keep {w w' : World} {v : Value} {zs : List Int} (h : Ints w v zs) (hb : Below w.heap.size w w') : Ints w' v zs := by
  obtain ⟨ao, cap, rfl, hc, hr⟩ := h
  refine ⟨ao, cap, rfl, hc, fun hl => ?_⟩
  obtain ⟨g, o, rfl, hR⟩ := hr hl
  obtain ⟨b0, r, rfl⟩ := List.exists_cons_of_ne_nil hl
  have h0 := hR 0 b0 rfl
  have hlt : g < w.heap.size := World.block_lt_of_cell? w ⟨g, o + 0, none⟩ h0
  exact ⟨g, o, rfl, fun i z hi => (World.cell?_of_block (hb.block g hlt)).trans (hR i z hi)⟩
theorem OwnI.ints {w : World} {B : Nat} {v : Value} {zs : List Int} (h : OwnI w B v zs) : Ints w v zs := by
  rcases h.2 with ⟨h1, h2⟩ | ⟨g, cap, cur, h1, _, h3, h4, _, _, _⟩
  · rw [List.eq_nil_of_length_eq_zero h2, h1]; exact ⟨none, 0, rfl, Nat.le_refl _, fun h => absurd rfl h⟩
  · refine ⟨_, cap, h1, h4, fun _ => ⟨g, 0, rfl, fun i b hi => ?_⟩⟩
    have := World.ownsRow.cells h (g := g) (by rw [h1]; rfl) i (.int .i64 b) (by simp [hi])
    rwa [show (⟨g, 0, none⟩ : Addr).add i = ⟨g, 0 + i, none⟩ by unfold Addr.add; split <;> simp_all] at this
theorem OwnI.below {w w' : World} {B : Nat} {v : Value} {L : List Int} (h : OwnI w B v L) (hb : Below w.heap.size w w') : OwnI w' B v L :=
  World.ownsRow.kept (row := none) h ⟨hb.os, hb.tape, hb.output, hb.size, fun k hk _ => hb.block k hk⟩ (by cases v.ownBlock <;> simp)
theorem OwnI.base {w : World} {B B' : Nat} {v : Value} {L : List Int} (h : OwnI w B v L) (hb : B' ≤ B) : OwnI w B' v L := by
  refine ⟨h.1, ?_⟩
  rcases h.2 with hn | ⟨g, cap, cur, hv, hbg, rest⟩
  · exact .inl hn
  · exact .inr ⟨g, cap, cur, hv, Nat.le_trans hb hbg, rest⟩
/-- appending a number -/
theorem wpList_append_I {w : World} {ops : Array Oper} {rest : List Oper} {o : Oper} {a : Act} {Q : Exit → Act → World → Prop} (hgd : o.guard = none) (s x : Operand)
    (ho : o.op = .call { callee := .builtin .append, args := #[s, x], argTypes := #[58, 58] }) (B : Nat) (v : Value) (L : List Int) (hs : a.eval s = v) (hown : OwnI w B v L)
    (g : Nat) (y : Int) (hx : a.eval x = .slice (some ⟨g, 0, none⟩) 1 1) (hy : Blk w g 3 #[.int .i64 y]) (hl : L.length ≤ 1000000) (hb : B ≤ w.heap.size)
    (h : ∀ v' w', OwnI w' B v' (L ++ [y]) → w.grownBy w' v.ownBlock → wpList Try.prog ops Q rest (a.put o.dst v') w') :
    wpList Try.prog ops Q (o :: rest) a w := by
  obtain ⟨i0, hinf, hz0, hz1, hz2⟩ := info_parts infoI
  refine wpList_append_lies w hgd s x 58 ho B 3 i0 _ 1 8 Try.underlying58 hinf hz0 hz1 hz2 rfl (by decide) v L.length (L.map (Value.int .i64)) hs hown ⟨g, 0, none⟩ 1 1 [.int .i64 y] hx rfl
    (World.news_of_block hy) (by intro u hu; simp at hu; subst hu; rfl) (by decide) (by unfold maxLen; omega) (by omega) hb _ rfl ?_
  intro g' cap w' h1 h2 h3 _
  refine h _ w' ?_ h2
  unfold OwnI
  rw [List.length_append, List.map_append]
  exact h1
def allowP (pm : BitVec 32) (x : E) : Bool := (x.a &&& pm) == pm
def tgtL (pm : BitVec 32) (S : List E) : List Int := (S.filter (allowP pm)).map fun x => x.t
def srcL (pm : BitVec 32) (S : List E) : List Int := (S.filter (allowP pm)).map fun x => x.s
theorem tgt_yes {pm : BitVec 32} {S : List E} {x : E} (h : allowP pm x = true) : tgtL pm (S ++ [x]) = tgtL pm S ++ [x.t] := by unfold tgtL; simp [h]
theorem tgt_no {pm : BitVec 32} {S : List E} {x : E} (h : allowP pm x = false) : tgtL pm (S ++ [x]) = tgtL pm S := by unfold tgtL; simp [h]
theorem src_yes {pm : BitVec 32} {S : List E} {x : E} (h : allowP pm x = true) : srcL pm (S ++ [x]) = srcL pm S ++ [x.s] := by unfold srcL; simp [h]
theorem src_no {pm : BitVec 32} {S : List E} {x : E} (h : allowP pm x = false) : srcL pm (S ++ [x]) = srcL pm S := by unfold srcL; simp [h]
theorem tgt_len (pm : BitVec 32) (S : List E) : (tgtL pm S).length ≤ S.length := by unfold tgtL; rw [List.length_map]; exact List.length_filter_le _ _
theorem src_len (pm : BitVec 32) (S : List E) : (srcL pm S).length ≤ S.length := by unfold srcL; rw [List.length_map]; exact List.length_filter_le _ _
theorem allow_eq (pm : BitVec 32) (x : E) : (vI (x.a &&& pm) == vI pm) = allowP pm x := by
  unfold allowP
  rw [Bool.eq_iff_iff, beq_iff_eq, beq_iff_eq]
  exact ⟨fun h => vI_inj h, fun h => by rw [h]⟩
/-- what Targets and Sources leave -/
def IntsOut (w : World) (zs : List Int) (e : Ending) (w' : World) : Prop := ∃ v, e = .returned v ∧ OwnI w' w.heap.size v zs ∧ Below w.heap.size w w'
section
variable {w : World} {g : Nat} {L : List E} {vs : List Bool}
set_option maxRecDepth 100000 in
set_option maxHeartbeats 4000000 in
theorem targets_c (h : TabS w g L vs) (hl : L.length ≤ 10000) (hn : vs.length ≤ 1000) (hs : Strict L) (hne : NE L) (a c : Int) (pm : BitVec 32) (wa : (Lit.int .i64 a).wf = true) (wc : (Lit.int .i64 c).wf = true) :
    Calls Try.prog 22 #[.pointer (some ⟨g, 0, none⟩), .int .i64 a, .int .i64 c, .int .u32 (vI pm)] w (IntsOut w (tgtL pm ((V0 vs L).filter (PT a c)))) := by
  obtain ⟨ve, vv, m1, m2, m3, h1, h2, h3, h4, h5, h6⟩ := h
  have HMd := Lib.hid (made_yes h1)
  have HFi := Lib.hid (find2_c ve L m2 a c wa wc hl w h2 h5)
  have hSe : ∀ w1 v1, Below w.heap.size w w1 → Ents w1 v1 (L.filter (PT a c)) → Calls Try.prog 40 #[.pointer (some ⟨g, 0, none⟩), v1] w1 (ListOut w1 ((V0 vs L).filter (PT a c))) := fun w1 v1 hb he => by
    have := seen_c (Blk.keep h1 hb) (h3.keep hb) hn he (Nat.le_trans (List.length_filter_le _ _) hl)
    rw [seen_fold (filt_strict hs _) (filt_ne hne _), V0_filter _ (PT_eq a c) (fun x => rfl)] at this
    exact this
  have HSe := Lib.hid hSe
  have h1l : ((V0 vs L).filter (PT a c)).length ≤ 10000 := Nat.le_trans (List.length_filter_le _ _) (Nat.le_trans (M_len _) (Nat.le_trans (seenL_len _ _) hl))
  generalize (V0 vs L).filter (PT a c) = S at *
  obtain ⟨-, -, -, -, -, z5, z6, z7, z8⟩ := TabB.cells h1
  clear h1 h2 h3 h4 h5 h6 hSe wa wc
  go_enter Try.func22, Try.ntmps22
  go_wp2_with (first
    | (go_at_call 37; refine HMd.out.mono ?_; rintro e w' ⟨rfl, rfl⟩)
    | (go_at_call 42; refine HFi.out.mono ?_; rintro e w1 ⟨v1, rfl, k1, k2⟩; have K1 := Lib.hid k1.ents; have K2 := Lib.hid k2; clear k1 k2)
    | (go_at_call 40; refine (HSe.out _ _ K2.out K1.out).mono ?_; rintro e w2 ⟨v2, rfl, k1, k2⟩; have K3 := Lib.hid k1.ents; have K4 := Lib.hid (K2.out.trans (k2.mono K2.out.size)); obtain ⟨a2, c2, rfl⟩ := k1.isSl; clear k1 k2))
  clear HMd HFi HSe z5 z6 z7 z8 K1 K2
  obtain ⟨n, hN⟩ : ∃ n, S.length = n := ⟨_, rfl⟩
  have HN := Lib.hid hN
  have hk := K3.out
  rw [hN] at h1l hk ⊢
  have HE := Lib.hid hk
  have hcI : (n : Int) ≤ (c2 : Int) := by
    obtain ⟨ao', cap', e, hc, _⟩ := hk
    obtain ⟨-, -, rfl⟩ : a2 = ao' ∧ True ∧ c2 = cap' := by
      simp only [Value.slice.injEq] at e
      exact ⟨e.1, trivial, e.2.2⟩
    omega
  have hlI : (n : Int) ≤ 10000 := by omega
  clear hN hk K3
  go_loopw [26, 9] (fun vi va wr => ∃ (i : Nat) (v : Value), i ≤ n ∧ vi = .int .i64 i ∧ v = va ∧ Hid (OwnI wr w2.heap.size v (tgtL pm (S.take i))) ∧ Hid (Below w2.heap.size w2 wr)) (fun vi _ _ => n - (intOf vi).toNat)
  case atStart => exact ⟨0, _, Nat.zero_le _, rfl, rfl, Lib.hid (OwnI.nil _ _), Lib.hid (Below.refl _ _)⟩
  case round =>
    obtain ⟨i, v, hi, rfl, rfl, HO, HW⟩ := hrel
    by_cases hlt : i < n
    · have hltL : i < S.length := by rw [HN.out]; exact hlt
      obtain ⟨ao', cap', hao, -, hr⟩ := HE.out
      obtain ⟨b, o, rfl, hR⟩ := hr (by rintro rfl; simp at hltL)
      obtain ⟨rfl, -, rfl⟩ : a2 = some ⟨b, o, none⟩ ∧ True ∧ c2 = cap' := by
        simp only [Value.slice.injEq] at hao
        exact ⟨hao.1, trivial, hao.2.2⟩
      have hA : At7 wr b (o + i * 7) S[i] := (hR.at hltL).keep (HW.out.block b (hR.lt (by rintro rfl; simp at hltL)))
      have hts := take_snoc' S i hltL
      obtain ⟨x, hx⟩ : ∃ x, S[i] = x := ⟨_, rfl⟩
      rw [hx] at hA hts
      have HTS := Lib.hid hts
      obtain ⟨a0, a1, a2, a3, a4, a5, a6⟩ := hA
      have hltI : (i : Int) < (n : Int) := by omega
      have HWx := Lib.hid (HW.out.alloc HW.out.size (.cells #[.int .i64 x.s, .int .i64 x.t, .int .i64 x.c, .int .i64 x.d, .int .u32 (vI x.a), .int .u32 (vI x.b), .int .u32 (vI x.e)] 39))
      have HOx := Lib.hid (HO.out.below ((Below.refl _ wr).alloc (Nat.le_refl _) (.cells #[.int .i64 x.s, .int .i64 x.t, .int .i64 x.c, .int .i64 x.d, .int .u32 (vI x.a), .int .u32 (vI x.b), .int .u32 (vI x.e)] 39)))
      have ha := vI_and x.a pm
      have he := allow_eq pm x
      have hlen : (tgtL pm (S.take i)).length ≤ 10000 := Nat.le_trans (tgt_len _ _) (by rw [List.length_take]; omega)
      clear hx hao hr hR hts
      cases hal : allowP pm x with
      | true =>
        rw [hal] at he
        have HAL := Lib.hid hal
        clear hal
        go_wp2_with (first | (at_builtin; refine wpList_append_I (by rfl) _ _ (by rfl) w2.heap.size v (tgtL pm (S.take i)) (by rfl) (HOx.out.below ((Below.refl _ _).alloc (Nat.le_refl _) _)) (wr.heap.size + 1) x.t (by rfl) (Blk.here (by simp)) (by omega) (by have := HW.out.size; simp; omega) ?_; intro v' w4 h1 h2; have H1 := Lib.hid h1; have H2 := Lib.hid h2; clear h1 h2) | fail)
        refine ⟨⟨i + 1, v', by omega, by go_num, rfl, Lib.hid ?_, Lib.hid ?_⟩, by simp [intOf]; omega⟩
        · rw [HTS.out, tgt_yes HAL.out]; exact H1.out
        · exact (HWx.out.alloc HWx.out.size _).grown H2.out (by have := HW.out.size; simp; omega) (fun k e => (World.ownsRow.lt HO.out k e).1)
      | false =>
        rw [hal] at he
        have HAL := Lib.hid hal
        clear hal
        go_wp2_with fail
        exact ⟨⟨i + 1, v, by omega, by go_num, rfl, Lib.hid (by rw [HTS.out, tgt_no HAL.out]; exact HOx.out), HWx⟩, by simp [intOf]; omega⟩
    · obtain rfl : i = n := by omega
      go_wp2_with fail
      go_ret
      have h1 := HO.out
      rw [← HN.out, List.take_length] at h1
      exact ⟨v, rfl, h1.base K4.out.size, K4.out.trans (HW.out.mono K4.out.size)⟩
set_option maxRecDepth 100000 in
set_option maxHeartbeats 4000000 in
theorem sources_c (h : TabS w g L vs) (hl : L.length ≤ 10000) (hn : vs.length ≤ 1000) (hs : Strict L) (hne : NE L) (a c : Int) (pm : BitVec 32) (wa : (Lit.int .i64 a).wf = true) (wc : (Lit.int .i64 c).wf = true) :
    Calls Try.prog 23 #[.pointer (some ⟨g, 0, none⟩), .int .i64 a, .int .i64 c, .int .u32 (vI pm)] w (IntsOut w (srcL pm ((V0 vs L).filter (PS a c)))) := by
  obtain ⟨ve, vv, m1, m2, m3, h1, h2, h3, h4, h5, h6⟩ := h
  have HMd := Lib.hid (made_yes h1)
  have HFi := Lib.hid (find2_c ve L m3 a c wa wc hl w h2 h6)
  have hSe : ∀ w1 v1, Below w.heap.size w w1 → Ents w1 v1 (L.filter (PS a c)) → Calls Try.prog 40 #[.pointer (some ⟨g, 0, none⟩), v1] w1 (ListOut w1 ((V0 vs L).filter (PS a c))) := fun w1 v1 hb he => by
    have := seen_c (Blk.keep h1 hb) (h3.keep hb) hn he (Nat.le_trans (List.length_filter_le _ _) hl)
    rw [seen_fold (filt_strict hs _) (filt_ne hne _), V0_filter _ (PS_eq a c) (fun x => rfl)] at this
    exact this
  have HSe := Lib.hid hSe
  have h1l : ((V0 vs L).filter (PS a c)).length ≤ 10000 := Nat.le_trans (List.length_filter_le _ _) (Nat.le_trans (M_len _) (Nat.le_trans (seenL_len _ _) hl))
  generalize (V0 vs L).filter (PS a c) = S at *
  obtain ⟨-, -, -, -, -, z5, z6, z7, z8⟩ := TabB.cells h1
  clear h1 h2 h3 h4 h5 h6 hSe wa wc
  go_enter Try.func23, Try.ntmps23
  go_wp2_with (first
    | (go_at_call 37; refine HMd.out.mono ?_; rintro e w' ⟨rfl, rfl⟩)
    | (go_at_call 42; refine HFi.out.mono ?_; rintro e w1 ⟨v1, rfl, k1, k2⟩; have K1 := Lib.hid k1.ents; have K2 := Lib.hid k2; clear k1 k2)
    | (go_at_call 40; refine (HSe.out _ _ K2.out K1.out).mono ?_; rintro e w2 ⟨v2, rfl, k1, k2⟩; have K3 := Lib.hid k1.ents; have K4 := Lib.hid (K2.out.trans (k2.mono K2.out.size)); obtain ⟨a2, c2, rfl⟩ := k1.isSl; clear k1 k2))
  clear HMd HFi HSe z5 z6 z7 z8 K1 K2
  obtain ⟨n, hN⟩ : ∃ n, S.length = n := ⟨_, rfl⟩
  have HN := Lib.hid hN
  have hk := K3.out
  rw [hN] at h1l hk ⊢
  have HE := Lib.hid hk
  have hcI : (n : Int) ≤ (c2 : Int) := by
    obtain ⟨ao', cap', e, hc, _⟩ := hk
    obtain ⟨-, -, rfl⟩ : a2 = ao' ∧ True ∧ c2 = cap' := by
      simp only [Value.slice.injEq] at e
      exact ⟨e.1, trivial, e.2.2⟩
    omega
  have hlI : (n : Int) ≤ 10000 := by omega
  clear hN hk K3
  go_loopw [26, 9] (fun vi va wr => ∃ (i : Nat) (v : Value), i ≤ n ∧ vi = .int .i64 i ∧ v = va ∧ Hid (OwnI wr w2.heap.size v (srcL pm (S.take i))) ∧ Hid (Below w2.heap.size w2 wr)) (fun vi _ _ => n - (intOf vi).toNat)
  case atStart => exact ⟨0, _, Nat.zero_le _, rfl, rfl, Lib.hid (OwnI.nil _ _), Lib.hid (Below.refl _ _)⟩
  case round =>
    obtain ⟨i, v, hi, rfl, rfl, HO, HW⟩ := hrel
    by_cases hlt : i < n
    · have hltL : i < S.length := by rw [HN.out]; exact hlt
      obtain ⟨ao', cap', hao, -, hr⟩ := HE.out
      obtain ⟨b, o, rfl, hR⟩ := hr (by rintro rfl; simp at hltL)
      obtain ⟨rfl, -, rfl⟩ : a2 = some ⟨b, o, none⟩ ∧ True ∧ c2 = cap' := by
        simp only [Value.slice.injEq] at hao
        exact ⟨hao.1, trivial, hao.2.2⟩
      have hA : At7 wr b (o + i * 7) S[i] := (hR.at hltL).keep (HW.out.block b (hR.lt (by rintro rfl; simp at hltL)))
      have hts := take_snoc' S i hltL
      obtain ⟨x, hx⟩ : ∃ x, S[i] = x := ⟨_, rfl⟩
      rw [hx] at hA hts
      have HTS := Lib.hid hts
      obtain ⟨a0, a1, a2, a3, a4, a5, a6⟩ := hA
      have hltI : (i : Int) < (n : Int) := by omega
      have HWx := Lib.hid (HW.out.alloc HW.out.size (.cells #[.int .i64 x.s, .int .i64 x.t, .int .i64 x.c, .int .i64 x.d, .int .u32 (vI x.a), .int .u32 (vI x.b), .int .u32 (vI x.e)] 39))
      have HOx := Lib.hid (HO.out.below ((Below.refl _ wr).alloc (Nat.le_refl _) (.cells #[.int .i64 x.s, .int .i64 x.t, .int .i64 x.c, .int .i64 x.d, .int .u32 (vI x.a), .int .u32 (vI x.b), .int .u32 (vI x.e)] 39)))
      have ha := vI_and x.a pm
      have he := allow_eq pm x
      have hlen : (srcL pm (S.take i)).length ≤ 10000 := Nat.le_trans (src_len _ _) (by rw [List.length_take]; omega)
      clear hx hao hr hR hts
      cases hal : allowP pm x with
      | true =>
        rw [hal] at he
        have HAL := Lib.hid hal
        clear hal
        go_wp2_with (first | (at_builtin; refine wpList_append_I (by rfl) _ _ (by rfl) w2.heap.size v (srcL pm (S.take i)) (by rfl) (HOx.out.below ((Below.refl _ _).alloc (Nat.le_refl _) _)) (wr.heap.size + 1) x.s (by rfl) (Blk.here (by simp)) (by omega) (by have := HW.out.size; simp; omega) ?_; intro v' w4 h1 h2; have H1 := Lib.hid h1; have H2 := Lib.hid h2; clear h1 h2) | fail)
        refine ⟨⟨i + 1, v', by omega, by go_num, rfl, Lib.hid ?_, Lib.hid ?_⟩, by simp [intOf]; omega⟩
        · rw [HTS.out, src_yes HAL.out]; exact H1.out
        · exact (HWx.out.alloc HWx.out.size _).grown H2.out (by have := HW.out.size; simp; omega) (fun k e => (World.ownsRow.lt HO.out k e).1)
      | false =>
        rw [hal] at he
        have HAL := Lib.hid hal
        clear hal
        go_wp2_with fail
        exact ⟨⟨i + 1, v, by omega, by go_num, rfl, Lib.hid (by rw [HTS.out, src_no HAL.out]; exact HOx.out), HWx⟩, by simp [intOf]; omega⟩
    · obtain rfl : i = n := by omega
      go_wp2_with fail
      go_ret
      have h1 := HO.out
      rw [← HN.out, List.take_length] at h1
      exact ⟨v, rfl, h1.base K4.out.size, K4.out.trans (HW.out.mono K4.out.size)⟩
set_option maxRecDepth 100000 in
set_option maxHeartbeats 1000000 in
/-- Copy: another table, and this one as it was -/
theorem copy_c (h : TabS w g L vs) (hl : L.length ≤ 10000) (hn : vs.length ≤ 1000) (hm : M L = L) :
    Calls Try.prog 15 #[.pointer (some ⟨g, 0, none⟩)] w fun e w' => ∃ k, e = .returned (.pointer (some ⟨k, 0, none⟩)) ∧ TabS w' k L vs ∧ w.heap.size ≤ k ∧ Below w.heap.size w w' := by
  have HT := Lib.hid h
  obtain ⟨ve, vv, m1, m2, m3, h1, h2, h3, -⟩ := h
  have HMd := Lib.hid (made_yes h1)
  have hN := new_c ve L hl w h2
  rw [hm] at hN
  have HN := Lib.hid hN
  have HB := Lib.hid h1
  have HV := Lib.hid h3
  obtain ⟨ae, ce, rfl⟩ := h2.form
  obtain ⟨ab, cb, rfl⟩ := h3.form
  obtain ⟨-, y1, y2, -⟩ := TabB.cells h1
  clear h1 h2 h3 hN
  go_enter Try.func15, Try.ntmps15
  go_wp2_with (first
    | (go_at_call 37; refine HMd.out.mono ?_; rintro e w' ⟨rfl, rfl⟩)
    | (go_at_call 10; refine HN.out.mono ?_; rintro e w1 ⟨k, rfl, k1, k2, k3⟩; have K1 := Lib.hid k1; have K2 := Lib.hid k2; have K3 := Lib.hid k3; have y3 := (TabB.cells (Blk.keep HB.out k3)).2.2.1; clear k1 k2 k3)
    | (go_at_call 13; refine (activate_c K1.out (HV.out.keep K3.out) hn).mono ?_; rintro e w2 ⟨rfl, j1, j2⟩; have J1 := Lib.hid j1; have J2 := Lib.hid j2; clear j1 j2))
  go_ret
  exact ⟨k, rfl, J1.out, K2.out, K3.out.grown J2.out K3.out.size (fun q e => by cases e; exact K2.out)⟩
end
end Go.Proofs.Ytomoldfgnbjliaa
