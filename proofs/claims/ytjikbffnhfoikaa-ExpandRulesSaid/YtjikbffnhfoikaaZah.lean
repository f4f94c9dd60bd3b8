/- Ezr Ezs Ezq Ezx Ezu Ezv -/
import Derived.Test.YtjikbffnhfoikaaZag
import Derived.Deep.DeepCutAuto
/- The reference's Rule: the pairs lie in a row that the call has made. -/
namespace Go.Proofs.Ytjikbffnhfoikaa
open Go.RowKit Go.Sort Go.Maps
set_option maxRecDepth 100000 in
set_option maxHeartbeats 8000000 in
theorem rrule_o (r : Ru) (w : World) : Calls Try.prog 12 #[.agg #[.int .i64 r.k, .int .u64 r.src.a, .int .u64 r.src.b, .int .u64 r.src.c, .int .u64 r.src.d, .int .u64 r.tgt.a, .int .u64 r.tgt.b, .int .u64 r.tgt.c, .int .u64 r.tgt.d, .bool r.self, .int .i64 r.cl, .int .u32 (vI r.pm), .int .i64 r.cd]] w fun e w' => ∃ v, e = .returned v ∧ OwnP w' (w.heap.size + 1) v (prs r) ∧ Below w.heap.size w w' := by
  have HX0 : Hid (BoxR (w.alloc (.cells #[.int .i64 r.k, .int .u64 r.src.a, .int .u64 r.src.b, .int .u64 r.src.c, .int .u64 r.src.d, .int .u64 r.tgt.a, .int .u64 r.tgt.b, .int .u64 r.tgt.c, .int .u64 r.tgt.d, .bool r.self, .int .i64 r.cl, .int .u32 (vI r.pm), .int .i64 r.cd] 27)) w.heap.size r) := Lib.hid (Blk.new w _ _)
  have HB0 : Hid (Below w.heap.size w (w.alloc (.cells #[.int .i64 r.k, .int .u64 r.src.a, .int .u64 r.src.b, .int .u64 r.src.c, .int .u64 r.src.d, .int .u64 r.tgt.a, .int .u64 r.tgt.b, .int .u64 r.tgt.c, .int .u64 r.tgt.d, .bool r.self, .int .i64 r.cl, .int .u32 (vI r.pm), .int .i64 r.cd] 27))) := Lib.hid ((Below.refl _ _).alloc (Nat.le_refl _) _)
  have HS0 : Hid (w.heap.size + 1 ≤ (w.alloc (.cells #[.int .i64 r.k, .int .u64 r.src.a, .int .u64 r.src.b, .int .u64 r.src.c, .int .u64 r.src.d, .int .u64 r.tgt.a, .int .u64 r.tgt.b, .int .u64 r.tgt.c, .int .u64 r.tgt.d, .bool r.self, .int .i64 r.cl, .int .u32 (vI r.pm), .int .i64 r.cd] 27)).heap.size) := Lib.hid (by simp)
  go_enter Try.func12, Try.ntmps12
  go_wp2_with fail
  generalize w.alloc (.cells #[.int .i64 r.k, .int .u64 r.src.a, .int .u64 r.src.b, .int .u64 r.src.c, .int .u64 r.src.d, .int .u64 r.tgt.a, .int .u64 r.tgt.b, .int .u64 r.tgt.c, .int .u64 r.tgt.d, .bool r.self, .int .i64 r.cl, .int .u32 (vI r.pm), .int .i64 r.cd] 27) = W0 at *
  generalize hgx : w.heap.size = gx at *
  go_loopw [3, 4] (fun v3 vj wr => ∃ (j : Nat) (vv : Value), vv = v3 ∧ j ≤ 256 ∧ vj = .int .i64 j ∧ Hid (OwnP wr (gx + 1) vv (prN r j)) ∧ Hid (BoxR wr gx r) ∧ Hid (Below gx w wr) ∧ Hid (gx + 1 ≤ wr.heap.size)) (fun _ vj _ => 256 - (intOf vj).toNat)
  case atStart => exact ⟨0, _, rfl, Nat.zero_le _, rfl, Lib.hid (OwnP.nil _ _), HX0, HB0, HS0⟩
  case round =>
    obtain ⟨j, v, rfl, hj, rfl, HO, HX, HB, HS⟩ := hrel
    by_cases hjlt : j < 256
    · have hjlt' : (j : Int) < 256 := by omega
      obtain ⟨B1, hB1⟩ : ∃ B, hasS r.src j = B := ⟨_, rfl⟩
      have HHS : Hid (∀ u, Calls Try.prog 28 #[.agg #[.int .u64 r.src.a, .int .u64 r.src.b, .int .u64 r.src.c, .int .u64 r.src.d], .int .i64 j] u fun e w' => e = .returned (.bool B1) ∧ Below u.heap.size u w') := Lib.hid fun u => by
        have h := rhas_c r.src.a r.src.b r.src.c r.src.d j u
        have e : hasB r.src.a r.src.b r.src.c r.src.d j = B1 := hB1
        rw [e] at h; exact h
      have HB1 := Lib.hid hB1
      have HLJ := Lib.hid (prN_len r hj)
      clear hB1
      go_wp2_with fail
      go_loopw [3, 5] (fun v3 vi wr2 => ∃ (k : Nat) (vv : Value), vv = v3 ∧ k ≤ 256 ∧ vi = .int .i64 k ∧ (k = 0 ∨ B1 = true) ∧ Hid (OwnP wr2 (gx + 1) vv (prN r j ++ tgN r j k)) ∧ Hid (BoxR wr2 gx r) ∧ Hid (Below gx w wr2) ∧ Hid (gx + 1 ≤ wr2.heap.size)) (fun _ vi _ => 256 - (intOf vi).toNat)
      case atStart => exact ⟨0, _, rfl, Nat.zero_le _, rfl, .inl rfl, Lib.hid (by show OwnP wr (gx + 1) _ (prN r j ++ []); rw [List.append_nil]; exact HO.out), HX, HB, HS⟩
      case round =>
        obtain ⟨k, v, rfl, hk, rfl, hk0, HO, HX, HB, HS⟩ := hrel
        obtain ⟨x0, x1, x2, x3, x4, x5, x6, x7, x8, x9, x10, x11, x12⟩ := BoxR.cells HX.out
        by_cases hklt : k < 256
        · have hklt' : (k : Int) < 256 := by omega
          cases B1
          · have HE : Hid (OwnP wr (gx + 1) v (prN r (j + 1))) := Lib.hid (by
              rw [prN_no HB1.out]
              rcases hk0 with rfl | h
              · have h1 := HO.out
                rwa [show tgN r j 0 = [] from rfl, List.append_nil] at h1
              · cases h)
            go_wp2_with (go_at_call 28; refine (HHS.out _).mono ?_; rintro e w5 ⟨rfl, hb5⟩; have HO5 := Lib.hid (HE.out.below hb5); have HX5 : Hid (BoxR w5 gx r) := Lib.hid (Blk.keep HX.out hb5); have HB5 := Lib.hid (HB.out.trans (hb5.mono (by have := HS.out; omega))); have HS5 : Hid (gx + 1 ≤ w5.heap.size) := Lib.hid (Nat.le_trans HS.out hb5.size); clear hb5)
            go_roundw
            case rel => exact ⟨j + 1, _, rfl, hjlt, by go_num, HO5, HX5, HB5, HS5⟩
            case measure => simp [intOf]; omega
          · obtain ⟨B2, hB2⟩ : ∃ B, hasS r.tgt k = B := ⟨_, rfl⟩
            have HHT : Hid (∀ u, Calls Try.prog 28 #[.agg #[.int .u64 r.tgt.a, .int .u64 r.tgt.b, .int .u64 r.tgt.c, .int .u64 r.tgt.d], .int .i64 k] u fun e w' => e = .returned (.bool B2) ∧ Below u.heap.size u w') := Lib.hid fun u => by
              have h := rhas_c r.tgt.a r.tgt.b r.tgt.c r.tgt.d k u
              have e : hasB r.tgt.a r.tgt.b r.tgt.c r.tgt.d k = B2 := hB2
              rw [e] at h; exact h
            have HB2 := Lib.hid hB2
            have HQL : Hid ((prN r j ++ tgN r j k).length ≤ 70000) := Lib.hid (by have h1 := HLJ.out; have h2 := tgN_len r j k; rw [List.length_append]; omega)
            have HPB : Hid (prB r j k = (B2 || (r.self && decide ((j : Int) = (k : Int))))) := Lib.hid (by unfold prB; rw [hB2])
            clear hB2
            go_upto_region 8 with (go_at_call 28; refine (HHS.out _).mono ?_; rintro e w5 ⟨rfl, hb5⟩; have HO5 := Lib.hid (HO.out.below hb5); have HX5 : Hid (BoxR w5 gx r) := Lib.hid (Blk.keep HX.out hb5); have HB5 := Lib.hid (HB.out.trans (hb5.mono (by have := HS.out; omega))); have HS5 : Hid (gx + 1 ≤ w5.heap.size) := Lib.hid (Nat.le_trans HS.out hb5.size); clear hb5)
            clear HO HX HB HS x0 x1 x2 x3 x4 x5 x6 x7 x8 x9 x10 x11 x12
            obtain ⟨y0, y1, y2, y3, y4, y5, y6, y7, y8, y9, y10, y11, y12⟩ := BoxR.cells HX5.out
            have HZF : Hid (∀ u, Below w5.heap.size w5 u → BoxR u gx r) := Lib.hid fun u h => Blk.keep HX5.out h
            by_cases hp : prB r j k = true
            · have HT : Hid (prN r j ++ tgN r j (k + 1) = (prN r j ++ tgN r j k) ++ [((j : Int), (k : Int))]) := Lib.hid (by rw [tgN_yes hp, List.append_assoc])
              generalize hQ : prN r j ++ tgN r j k = Q at *
              clear hQ
              rw [HPB.out] at hp
              cases B2
              · have hs : r.self = true := by revert hp; cases r.self <;> simp
                have hjk : (j : Int) = (k : Int) := by revert hp; rw [hs]; simp
                have hjk2 : ((j : Int) == (k : Int)) = true := by simpa using hjk
                rw [hs] at y9
                have Hhs := Lib.hid hs
                clear hp hjk hs
                go_wp2_with (first
                  | (go_at_call 28; refine (HHT.out _).mono ?_; rintro e w6 ⟨rfl, hb6⟩; have hz := (BoxR.cells (HZF.out _ hb6)).2.2.2.2.2.2.2.2.2.1; rw [Hhs.out] at hz; have HO6 := Lib.hid (HO5.out.below hb6); have HX6 : Hid (BoxR w6 gx r) := Lib.hid (HZF.out _ hb6); have HB6 := Lib.hid (HB5.out.trans (hb6.mono (by have := HS5.out; omega))); have HS6 : Hid (gx + 1 ≤ w6.heap.size) := Lib.hid (Nat.le_trans HS5.out hb6.size); clear hb6)
                  | (at_builtin; refine wpList_append_P (by rfl) _ _ (by rfl) (gx + 1) v Q Q.length rfl (by rfl) (HO6.out.below ((Below.refl _ w6).alloc (Nat.le_refl _) _)) w6.heap.size (j, k) (by rfl) (Blk.new _ _ _) (by have := HQL.out; omega) (by have := HS6.out; simp; omega) ?_; intro g' cap' w8 h1 h2 h3; have H1 := Lib.hid h1; have H2 := Lib.hid h2; clear h1 h2 h3))
                have hba : Below w6.heap.size w6 (w6.alloc (.cells #[.int .i64 j, .int .i64 k] 63)) := (Below.refl _ w6).alloc (Nat.le_refl _) _
                have hOa := HO6.out.below hba
                have HX8 : Hid (BoxR w8 gx r) := Lib.hid (BoxR.grown (Blk.keep HX6.out hba) hOa H2.out)
                have HB8 : Hid (Below gx w w8) := Lib.hid ((HB6.out.trans (hba.mono (by have := HS6.out; omega))).grown H2.out (by have := HS6.out; have := hba.size; omega) (fun q e => by have := (hOa.own q e).1; omega))
                have HS8 : Hid (gx + 1 ≤ w8.heap.size) := Lib.hid (by have := HS6.out; have := hba.size; have := H2.out.size; omega)
                go_wp2_with fail
                go_roundw
                case rel => exact ⟨k + 1, _, rfl, hklt, by go_num, .inr (by trivial), Lib.hid (by rw [HT.out]; simpa using H1.out), HX8, HB8, HS8⟩
                case measure => simp [intOf]; omega
              · clear hp
                go_wp2_with (first
                  | (go_at_call 28; refine (HHT.out _).mono ?_; rintro e w6 ⟨rfl, hb6⟩; skip; have HO6 := Lib.hid (HO5.out.below hb6); have HX6 : Hid (BoxR w6 gx r) := Lib.hid (HZF.out _ hb6); have HB6 := Lib.hid (HB5.out.trans (hb6.mono (by have := HS5.out; omega))); have HS6 : Hid (gx + 1 ≤ w6.heap.size) := Lib.hid (Nat.le_trans HS5.out hb6.size); clear hb6)
                  | (at_builtin; refine wpList_append_P (by rfl) _ _ (by rfl) (gx + 1) v Q Q.length rfl (by rfl) (HO6.out.below ((Below.refl _ w6).alloc (Nat.le_refl _) _)) w6.heap.size (j, k) (by rfl) (Blk.new _ _ _) (by have := HQL.out; omega) (by have := HS6.out; simp; omega) ?_; intro g' cap' w8 h1 h2 h3; have H1 := Lib.hid h1; have H2 := Lib.hid h2; clear h1 h2 h3))
                have hba : Below w6.heap.size w6 (w6.alloc (.cells #[.int .i64 j, .int .i64 k] 63)) := (Below.refl _ w6).alloc (Nat.le_refl _) _
                have hOa := HO6.out.below hba
                have HX8 : Hid (BoxR w8 gx r) := Lib.hid (BoxR.grown (Blk.keep HX6.out hba) hOa H2.out)
                have HB8 : Hid (Below gx w w8) := Lib.hid ((HB6.out.trans (hba.mono (by have := HS6.out; omega))).grown H2.out (by have := HS6.out; have := hba.size; omega) (fun q e => by have := (hOa.own q e).1; omega))
                have HS8 : Hid (gx + 1 ≤ w8.heap.size) := Lib.hid (by have := HS6.out; have := hba.size; have := H2.out.size; omega)
                go_wp2_with fail
                go_roundw
                case rel => exact ⟨k + 1, _, rfl, hklt, by go_num, .inr (by trivial), Lib.hid (by rw [HT.out]; simpa using H1.out), HX8, HB8, HS8⟩
                case measure => simp [intOf]; omega
            · have HT : Hid (prN r j ++ tgN r j (k + 1) = (prN r j ++ tgN r j k)) := Lib.hid (by rw [tgN_no (by simpa using hp)])
              generalize hQ : prN r j ++ tgN r j k = Q at *
              clear hQ
              rw [HPB.out] at hp
              cases B2
              · rcases Bool.eq_false_or_eq_true r.self with hs | hs
                · have hjk : ¬ (j : Int) = (k : Int) := by intro e; apply hp; rw [hs, decide_eq_true e]; rfl
                  have hjk2 : ((j : Int) == (k : Int)) = false := by simpa using hjk
                  rw [hs] at y9
                  have Hhs := Lib.hid hs
                  clear hp hjk hs
                  go_wp2_with (go_at_call 28; refine (HHT.out _).mono ?_; rintro e w6 ⟨rfl, hb6⟩; have hz := (BoxR.cells (HZF.out _ hb6)).2.2.2.2.2.2.2.2.2.1; rw [Hhs.out] at hz; have HO6 := Lib.hid (HO5.out.below hb6); have HX6 : Hid (BoxR w6 gx r) := Lib.hid (HZF.out _ hb6); have HB6 := Lib.hid (HB5.out.trans (hb6.mono (by have := HS5.out; omega))); have HS6 : Hid (gx + 1 ≤ w6.heap.size) := Lib.hid (Nat.le_trans HS5.out hb6.size); clear hb6)
                  go_roundw
                  case rel => exact ⟨k + 1, _, rfl, hklt, by go_num, .inr (by trivial), Lib.hid (by rw [HT.out]; exact HO6.out), HX6, HB6, HS6⟩
                  case measure => simp [intOf]; omega
                · rw [hs] at y9
                  have Hhs := Lib.hid hs
                  clear hp hs
                  go_wp2_with (go_at_call 28; refine (HHT.out _).mono ?_; rintro e w6 ⟨rfl, hb6⟩; have hz := (BoxR.cells (HZF.out _ hb6)).2.2.2.2.2.2.2.2.2.1; rw [Hhs.out] at hz; have HO6 := Lib.hid (HO5.out.below hb6); have HX6 : Hid (BoxR w6 gx r) := Lib.hid (HZF.out _ hb6); have HB6 := Lib.hid (HB5.out.trans (hb6.mono (by have := HS5.out; omega))); have HS6 : Hid (gx + 1 ≤ w6.heap.size) := Lib.hid (Nat.le_trans HS5.out hb6.size); clear hb6)
                  go_roundw
                  case rel => exact ⟨k + 1, _, rfl, hklt, by go_num, .inr (by trivial), Lib.hid (by rw [HT.out]; exact HO6.out), HX6, HB6, HS6⟩
                  case measure => simp [intOf]; omega
              · exact absurd rfl hp
        · obtain rfl : k = 256 := by omega
          have HE : Hid (OwnP wr (gx + 1) v (prN r (j + 1))) := Lib.hid (by
            rcases hk0 with h | h
            · cases h
            · rw [prN_yes (HB1.out.trans h), ← tgN_all]; exact HO.out)
          go_wp2_with fail
          go_roundw
          case rel => exact ⟨j + 1, _, rfl, hjlt, by go_num, HE, HX, HB, HS⟩
          case measure => simp [intOf]; omega
    · obtain rfl : j = 256 := by omega
      have hO : OwnP wr (gx + 1) v (prs r) := HO.out
      go_wp2_with fail
      go_ret
      exact ⟨_, rfl, by rw [hgx]; exact hO, by rw [hgx]; exact HB.out⟩
end Go.Proofs.Ytjikbffnhfoikaa
/- The reference's Entries. -/
namespace Go.Proofs.Ytjikbffnhfoikaa
open Go.RowKit Go.Sort Go.Maps
/-- in a region whose n-th operation appends to vo -/
def eC (n B : Nat) (O : List E) (vo : Value) (W : World) (d : Nat → Bool) (w : World) : Prop := Below B W w ∧ W.heap.size ≤ w.heap.size ∧ (d n = false → OwnE w B vo O)
def eRel (n : Nat) (vo : Value) (j : Nat) (w w' : World) : Prop := (j = n → w.grownBy w' vo.ownBlock) ∧ (j ≠ n → Below w.heap.size w w')
theorem eRel_other {n : Nat} {vo : Value} {j : Nat} {w w' : World} (h : j ≠ n) : eRel n vo j w w' = Below w.heap.size w w' := by
  unfold eRel
  exact propext ⟨fun k => k.2 h, fun k => ⟨fun e => absurd e h, fun _ => k⟩⟩
theorem eRel.of {n : Nat} {vo : Value} {j : Nat} {w w' : World} (h : j ≠ n) (hb : Below w.heap.size w w') : eRel n vo j w w' := by rw [eRel_other h]; exact hb
theorem eRel_this {n : Nat} {vo : Value} {w w' : World} : eRel n vo n w w' = w.grownBy w' vo.ownBlock := by
  unfold eRel
  exact propext ⟨fun k => k.1 rfl, fun k => ⟨fun _ => k, fun e => absurd rfl e⟩⟩
theorem eRel_box {n : Nat} {vo : Value} {j : Nat} {w w' : World} {g : Nat} {y : E} (hr : eRel n vo j w w') (h2 : vo.ownBlock ≠ some g) (h3 : Box w g y) : Box w' g y := by
  by_cases hj : j = n
  · subst hj
    rw [eRel_this] at hr
    exact (World.grownBy.block hr g h3.lt (fun e => h2 e.symm)).trans h3
  · rw [eRel_other hj] at hr
    exact Blk.keep h3 hr
theorem eC_step {n B : Nat} {O : List E} {vo : Value} {W : World} (hB : B ≤ W.heap.size) (i : Nat) (d : Nat → Bool) (w w' : World) (hd : d i = false) (h : eC n B O vo W d w) (hr : eRel n vo i w w') : eC n B O vo W (fun j => if j = i then true else d j) w' := by
  obtain ⟨h1, h2, h3⟩ := h
  by_cases hi : i = n
  · subst hi
    rw [eRel_this] at hr
    exact ⟨below_grownB h1 (h3 hd) hr (by omega), Nat.le_trans h2 hr.size, fun h => by simp at h⟩
  · rw [eRel_other hi] at hr
    exact ⟨below_step h1 hr (by omega), Nat.le_trans h2 hr.size, fun h => by
      have h : (if n = i then true else d n) = false := h
      rw [if_neg (Ne.symm hi)] at h
      exact (h3 h).below hr⟩
theorem OwnP.grownE {w w' : World} {b B : Nat} {vp vo : Value} {S : List (Int × Int)} {O : List E} (h : OwnP w b vp S) (ho : OwnE w B vo O) (hg : w.grownBy w' vo.ownBlock) : OwnP w' b vp S := by
  refine h.kept hg ?_
  cases hv : vp.ownBlock with
  | none => exact .inl rfl
  | some q =>
    refine .inr fun e => ?_
    rcases h.2 with ⟨h1, _⟩ | ⟨g, cap, cur, h1, _, h3, _⟩
    · rw [h1] at hv; simp [Value.ownBlock] at hv
    · rcases ho.2 with ⟨k1, _⟩ | ⟨g', cap', cur', k1, _, k3, _⟩
      · rw [k1] at e; simp [Value.ownBlock] at e
      · rw [h1] at hv
        rw [k1] at e
        obtain rfl : g = q := by simpa [Value.ownBlock] using hv
        obtain rfl : g = g' := by simpa [Value.ownBlock] using e
        rw [h3] at k3
        simp at k3
theorem Blk.keep2 {w w' : World} {g B : Nat} {t : TypeId} {cs : Array Value} (h : Blk w g t cs) (hg : g < B) (hb : Below B w w') : Blk w' g t cs := (hb.block g hg).trans h
theorem OwnP.pair {w : World} {b : Nat} {gq n cq : Nat} {S : List (Int × Int)} (h : OwnP w b (.slice (some ⟨gq, 0, none⟩) n cq) S) {k : Nat} (hk : k < S.length) : AtP w gq (k * 2) S[k] := by
  obtain ⟨ao, cap, e, _, hr⟩ := h.prs
  obtain ⟨g, o, rfl, hR⟩ := hr (by rintro rfl; simp at hk)
  rcases h.2 with ⟨h1, _⟩ | ⟨g', cap', cur, h1, _⟩
  · simp at h1
  · simp only [Value.slice.injEq, Option.some.injEq, Addr.mk.injEq, and_true] at e h1
    obtain ⟨⟨rfl, rfl⟩, _, _⟩ := e
    have := hR.at hk
    rwa [Nat.zero_add] at this
theorem allE_snoc (L : List Ru) (r : Ru) : allE (L ++ [r]) = allE L ++ entsR r := by unfold allE; rw [List.flatMap_append]; simp
def enPhi (B N i k gp g o gq n cq cap len : Nat) (O : List E) (y : E) (r : Ru) (p : Int × Int) (vo : Value) (q : Nat) (v : Value) (w : World) : Prop := match q with
  | 0 => v = vo
  | 1 => v = .pointer (some ⟨gp, 9, none⟩)
  | 2 => v = .slice (some ⟨g, o, none⟩) len cap
  | 3 => v = .int .i64 i
  | 4 => v = .pointer (some ⟨g, o + i * 13, none⟩)
  | 5 => v = .agg #[.int .i64 r.k, .int .u64 r.src.a, .int .u64 r.src.b, .int .u64 r.src.c, .int .u64 r.src.d, .int .u64 r.tgt.a, .int .u64 r.tgt.b, .int .u64 r.tgt.c, .int .u64 r.tgt.d, .bool r.self, .int .i64 r.cl, .int .u32 (vI r.pm), .int .i64 r.cd]
  | 6 => v = .slice (some ⟨gq, 0, none⟩) n cq
  | 7 => v = .int .i64 k
  | 8 => v = .pointer (some ⟨gq, k * 2, none⟩)
  | 9 => v = .agg #[.int .i64 p.1, .int .i64 p.2]
  | 10 => v = .agg #[.int .i64 y.s, .int .i64 y.t, .int .i64 y.c, .int .i64 y.d, .int .u32 (vI y.a), .int .u32 (vI y.b), .int .u32 (vI y.e)]
  | 11 => ∃ g, v = .slice (some ⟨g, 0, none⟩) 1 1 ∧ vo.ownBlock ≠ some g ∧ Box w g y
  | 12 => ∃ g c, v = .slice (some ⟨g, 0, none⟩) (N + 1) c ∧ OwnE w B (.slice (some ⟨g, 0, none⟩) (N + 1) c) (O ++ [y])
  | 13 => ∃ g c, v = .slice (some ⟨g, 0, none⟩) (N + 1) c ∧ OwnE w B (.slice (some ⟨g, 0, none⟩) (N + 1) c) (O ++ [y])
  | _ => True
theorem enPhi_keep {B N i k gp g o gq n cq cap len : Nat} {O : List E} {y : E} {r : Ru} {p : Int × Int} {vo : Value} (q j : Nat) (v : Value) (w w' : World) (hij : q ≠ j) (hb : (q, j) ∉ [(13, 12)]) (h : enPhi B N i k gp g o gq n cq cap len O y r p vo q v w) (hr : eRel 12 vo j w w') : enPhi B N i k gp g o gq n cq cap len O y r p vo q v w' := by
  match q, h with
  | 0, h | 1, h | 2, h | 3, h | 4, h | 5, h | 6, h | 7, h | 8, h | 9, h | 10, h => exact h
  | 11, ⟨g, h1, h2, h3⟩ => exact ⟨g, h1, h2, eRel_box hr h2 h3⟩
  | 12, ⟨g, c, h1, h2⟩ => exact ⟨g, c, h1, by rw [eRel_other (Ne.symm hij)] at hr; exact h2.below hr⟩
  | 13, ⟨g, c, h1, h2⟩ =>
    refine ⟨g, c, h1, ?_⟩
    by_cases hj : j = 12
    · subst hj; exact absurd (by simp) hb
    · rw [eRel_other hj] at hr; exact h2.below hr
  | (_ + 14), _ => trivial
set_option maxRecDepth 100000 in
set_option maxHeartbeats 16000000 in
theorem rentries_c (pu0 pu1 pu2 pu3 pu4 pu5 pu6 pu7 pu8 pu10 pu11 pu12 pu13 pu14 pu15 pu16 v : Value) (L : List Ru) (hl : L.length ≤ 100000) (hN : (allE L).length ≤ 100000) (w : World) (hE : Rus w v L) :
    Calls Try.prog 15 #[.agg #[pu0, pu1, pu2, pu3, pu4, pu5, pu6, pu7, pu8, v, pu10, pu11, pu12, pu13, pu14, pu15, pu16]] w fun e w' => ∃ v', e = .returned v' ∧ Ents w' v' (M (allE L)) ∧ Below w.heap.size w w' := by
  have hb0 : Below w.heap.size w (w.alloc (.cells #[pu0, pu1, pu2, pu3, pu4, pu5, pu6, pu7, pu8, v, pu10, pu11, pu12, pu13, pu14, pu15, pu16] 50)) := (Below.refl _ _).alloc (Nat.le_refl _) _
  have HP0 : Hid (Blk (w.alloc (.cells #[pu0, pu1, pu2, pu3, pu4, pu5, pu6, pu7, pu8, v, pu10, pu11, pu12, pu13, pu14, pu15, pu16] 50)) w.heap.size 50 #[pu0, pu1, pu2, pu3, pu4, pu5, pu6, pu7, pu8, v, pu10, pu11, pu12, pu13, pu14, pu15, pu16]) := Lib.hid (Blk.new w _ _)
  have HB0 := Lib.hid hb0
  obtain ⟨ao, cap, rfl, hcap, hr0⟩ := hE
  have hr1 : L ≠ [] → ∃ g o, ao = some ⟨g, o, none⟩ ∧ g < w.heap.size ∧ RowR (w.alloc (.cells #[pu0, pu1, pu2, pu3, pu4, pu5, pu6, pu7, pu8, .slice ao L.length cap, pu10, pu11, pu12, pu13, pu14, pu15, pu16] 50)) g o L := fun h => by
    obtain ⟨g, o, e, hR⟩ := hr0 h
    exact ⟨g, o, e, hR.lt h, hR.keep (hb0.block g (hR.lt h))⟩
  have HR1 := Lib.hid hr1
  have HGPS : Hid (w.heap.size < (w.alloc (.cells #[pu0, pu1, pu2, pu3, pu4, pu5, pu6, pu7, pu8, .slice ao L.length cap, pu10, pu11, pu12, pu13, pu14, pu15, pu16] 50)).heap.size) := Lib.hid (by simp)
  clear hb0 hr0 hr1
  have hlI : (L.length : Int) ≤ 100000 := by omega
  go_enter Try.func15, Try.ntmps15
  go_upto_region 1 with fail
  generalize w.alloc (.cells #[pu0, pu1, pu2, pu3, pu4, pu5, pu6, pu7, pu8, .slice ao L.length cap, pu10, pu11, pu12, pu13, pu14, pu15, pu16] 50) = W at *
  generalize hgp : w.heap.size = gp at *
  have hp9 := HP0.out.cell 9
  go_wp2_with fail
  obtain ⟨B, hB⟩ : ∃ B, W.heap.size = B := ⟨_, rfl⟩
  rw [hB] at HGPS
  go_loopw [3, 4] (fun v3 v4 wr => ∃ (i : Nat) (vo : Value), vo = v3 ∧ i ≤ L.length ∧ v4 = .int .i64 i ∧ Hid (OwnE wr B vo (allE (L.take i))) ∧ Hid (Below B W wr) ∧ Hid (B ≤ wr.heap.size)) (fun _ v4 _ => L.length - (intOf v4).toNat)
  case atStart => exact ⟨0, _, rfl, Nat.zero_le _, rfl, Lib.hid (by rw [List.take_zero]; exact OwnE.nil _ _), Lib.hid (Below.refl _ _), Lib.hid (by rw [hB]; exact Nat.le_refl _)⟩
  case round =>
    obtain ⟨i, vo, rfl, hi, rfl, HO, HB, HS⟩ := hrel
    have hq9 := (Blk.keep2 HP0.out HGPS.out HB.out).cell 9
    by_cases hlt : i < L.length
    · have hlt' : (i : Int) < (L.length : Int) := by omega
      obtain ⟨r, hx⟩ : ∃ x, L[i] = x := ⟨_, rfl⟩
      obtain ⟨g, o, rfl, hg, hR⟩ := HR1.out (by rintro rfl; simp at hlt)
      have hA := hR.at hlt
      rw [hx] at hA
      have HAW := Lib.hid hA
      obtain ⟨x0, x1, x2, x3, x4, x5, x6, x7, x8, x9, x10, x11, x12⟩ := (hA.keep (HB.out.block g (by have := HGPS.out; omega))).facts
      have HGR : Hid (g < B) := Lib.hid (by have := HGPS.out; omega)
      have HX : Hid (allE (L.take (i + 1)) = allE (L.take i) ++ entsR r) := Lib.hid (by rw [List.take_succ_eq_append_getElem hlt, hx, allE_snoc])
      have HLN : Hid ((allE (L.take i)).length + (prs r).length ≤ 100000) := Lib.hid (by
        have e : allE L = allE (L.take (i + 1)) ++ allE (L.drop (i + 1)) := by
          have : L = L.take (i + 1) ++ L.drop (i + 1) := (List.take_append_drop _ _).symm
          conv => lhs; rw [this]
          unfold allE
          rw [List.flatMap_append]
        rw [e, HX.out] at hN
        simp only [List.length_append] at hN
        have : (entsR r).length = (prs r).length := by unfold entsR; rw [List.length_map]
        omega)
      clear hx hR hA hN
      generalize allE (L.take i) = O0 at *
      go_upto_region 7 with (go_at_call 12; refine (rrule_o r _).mono ?_; rintro e w1 ⟨vp, rfl, hP, hb1⟩; have HPR := Lib.hid hP; have HO1 := Lib.hid (HO.out.below hb1); have HB1 := Lib.hid (below_step HB.out hb1 HS.out); have HS1 : Hid (B ≤ w1.heap.size) := Lib.hid (Nat.le_trans HS.out hb1.size); clear hP hb1)
      clear x0 x1 x2 x3 x4 x5 x6 x7 x8 x9 x10 x11 x12 hq9 HO HB HS
      generalize wr.heap.size + 1 = bp at *
      obtain ⟨n, hn⟩ : ∃ n, (prs r).length = n := ⟨_, rfl⟩
      have hvp : ∃ A c, vp = .slice A n c := by obtain ⟨A, c, e⟩ := HPR.out.isSl; exact ⟨A, c, by rw [e, hn]⟩
      obtain ⟨aq, cq, rfl⟩ := hvp
      have HNN := Lib.hid hn
      rw [hn] at HLN
      have hnI : (n : Int) ≤ 100000 := by have := HLN.out; omega
      clear hn
      go_loopw [3, 6] (fun v3 v6 wr2 => ∃ (k : Nat) (vo : Value), vo = v3 ∧ k ≤ n ∧ v6 = .int .i64 k ∧ Hid (OwnE wr2 B vo (O0 ++ ((prs r).take k).map (entR r))) ∧ Hid (OwnP wr2 bp (.slice aq n cq) (prs r)) ∧ Hid (Below B W wr2) ∧ Hid (B ≤ wr2.heap.size)) (fun _ v6 _ => n - (intOf v6).toNat)
      case atStart => exact ⟨0, _, rfl, Nat.zero_le _, rfl, Lib.hid (by simpa using HO1.out), HPR, HB1, HS1⟩
      case round =>
        obtain ⟨k, vo, rfl, hk, rfl, HO, HPP, HBB, HSS⟩ := hrel
        by_cases hkn : k < n
        · have hkn' : (k : Int) < (n : Int) := by omega
          have hkl : k < (prs r).length := by rw [HNN.out]; exact hkn
          obtain ⟨gq, rfl⟩ : ∃ gq, aq = some ⟨gq, 0, none⟩ := by
            obtain ⟨gq, cc, e, _⟩ := HPP.out.block (by rintro e; rw [e] at hkl; simp at hkl)
            simp only [Value.slice.injEq] at e
            exact ⟨gq, e.1⟩
          obtain ⟨p, hp⟩ : ∃ p, (prs r)[k] = p := ⟨_, rfl⟩
          obtain ⟨y, hy⟩ : ∃ y, entR r p = y := ⟨_, rfl⟩
          have hpm : p ∈ prs r := by rw [← hp]; exact List.getElem_mem hkl
          obtain ⟨hin1, hin2⟩ := prs_in hpm
          have HEN : Hid (∀ u, Calls Try.prog 31 #[.agg #[.int .i64 r.k, .int .u64 r.src.a, .int .u64 r.src.b, .int .u64 r.src.c, .int .u64 r.src.d, .int .u64 r.tgt.a, .int .u64 r.tgt.b, .int .u64 r.tgt.c, .int .u64 r.tgt.d, .bool r.self, .int .i64 r.cl, .int .u32 (vI r.pm), .int .i64 r.cd], .agg #[.int .i64 p.1, .int .i64 p.2]] u fun e w' => e = .returned (.agg #[.int .i64 y.s, .int .i64 y.t, .int .i64 y.c, .int .i64 y.d, .int .u32 (vI y.a), .int .u32 (vI y.b), .int .u32 (vI y.e)]) ∧ Below u.heap.size u w') := Lib.hid fun u => by rw [← hy]; exact rentry_c r p (w64_in hin1) (w64_in hin2) u
          have HPK : Hid (∀ u, OwnP u bp (.slice (some ⟨gq, 0, none⟩) n cq) (prs r) → AtP u gq (k * 2) p) := Lib.hid fun u h => by rw [← hp]; exact h.pair hkl
          have HTK : Hid (((prs r).take (k + 1)).map (entR r) = ((prs r).take k).map (entR r) ++ [y]) := Lib.hid (by rw [List.take_succ_eq_append_getElem hkl, List.map_append, hp, ← hy]; rfl)
          have HKL : Hid ((((prs r).take k).map (entR r)).length = k) := Lib.hid (by rw [List.length_map, List.length_take]; omega)
          clear hp hy hpm hin1 hin2 hkl
          have HP := HP0
          have HGP : Hid (gp < B) := HGPS
          obtain ⟨O, hO⟩ : ∃ O, O0 ++ ((prs r).take k).map (entR r) = O := ⟨_, rfl⟩
          have HOO := Lib.hid hO
          rw [hO] at HO
          have HOW : Hid (∀ q, vo.ownBlock = some q → q < wr.heap.size) := Lib.hid fun q e => (World.ownsRow.lt HO.out q e).2
          obtain ⟨N, hN⟩ : ∃ N, O.length = N := ⟨_, rfl⟩
          have hNl : N ≤ 200000 := by have h1 := HKL.out; have h2 := HLN.out; rw [← hN, ← hO, List.length_append, h1]; omega
          have HN := Lib.hid hN
          have HBW : Hid (Below B W wr) := HBB
          have HBS : Hid (B ≤ wr.heap.size) := HSS
          have HP : Hid (Blk wr gp 50 #[pu0, pu1, pu2, pu3, pu4, pu5, pu6, pu7, pu8, .slice (some ⟨g, o, none⟩) L.length cap, pu10, pu11, pu12, pu13, pu14, pu15, pu16]) := Lib.hid (Blk.keep2 HP0.out HGPS.out HBB.out)
          have HAR : Hid (AtR wr g (o + i * 13) r) := Lib.hid (HAW.out.keep (HBB.out.block g HGR.out))
          clear hO hN
          go_upto_region 9 with fail
          refine wp_region_gen (fun d u => eC 12 B O vo wr d u ∧ OwnP u bp (.slice (some ⟨gq, 0, none⟩) n cq) (prs r)) (eRel 12 vo) (enPhi B N i k gp g o gq n cq cap L.length O y r p vo) (by kernel_rfl) (by kernel_rfl) ⟨⟨(Below.refl _ _).drew, Nat.le_refl _, fun _ => HO.out.below (Below.refl _ _).drew⟩, HPP.out.below (Below.refl _ _).drew⟩ ?_ [(13, 12)] (by kernel_rfl) enPhi_keep ?_ ?_
          · rintro q d u pu2 hd ⟨h1, h2⟩ hr
            refine ⟨eC_step HBS.out q d u pu2 hd h1 hr, ?_⟩
            by_cases hq : q = 12
            · subst hq
              rw [eRel_this] at hr
              exact h2.grownE (h1.2.2 hd) hr
            · rw [eRel_other hq] at hr
              exact h2.below hr
          · refine ⟨⟨trivial, fun A v d hd hC hF hW K Q hk => ?_⟩, ⟨trivial, fun A v d hd hC hF hW K Q hk => ?_⟩, ⟨trivial, fun A v d hd hC hF hW K Q hk => ?_⟩, ⟨trivial, fun A v d hd hC hF hW K Q hk => ?_⟩, ⟨trivial, fun A v d hd hC hF hW K Q hk => ?_⟩, ⟨trivial, fun A v d hd hC hF hW K Q hk => ?_⟩, ⟨trivial, fun A v d hd hC hF hW K Q hk => ?_⟩, ⟨trivial, fun A v d hd hC hF hW K Q hk => ?_⟩, ⟨trivial, fun A v d hd hC hF hW K Q hk => ?_⟩, ⟨trivial, fun A v d hd hC hF hW K Q hk => ?_⟩, ⟨trivial, fun A v d hd hC hF hW K Q hk => ?_⟩, ⟨trivial, fun A v d hd hC hF hW K Q hk => ?_⟩, ⟨trivial, fun A v d hd hC hF hW K Q hk => ?_⟩, ⟨trivial, fun A v d hd hC hF hW K Q hk => ?_⟩, trivial⟩
            · have f3 : A.tmps[3]?.getD undef = vo := fg_old (hF 3) (j := 13) (by kernel_rfl) (by kernel_rfl)
              refine Giv.wp ?_ hk
              unfold Giv
              go_simp
              exact giv_val (eRel.of (by decide) (Below.refl _ _)) rfl
            · have f1 : A.tmps[1]?.getD undef = .pointer (some ⟨gp, 0, none⟩) := fg_none (hF 1) (by kernel_rfl)
              refine Giv.wp ?_ hk
              unfold Giv
              go_simp
              exact giv_val (eRel.of (by decide) (Below.refl _ _)) rfl
            · have f27 : A.tmps[27]?.getD undef = .pointer (some ⟨gp, 9, none⟩) := fg_some (hF 27) (j := 1) (by kernel_rfl) (by kernel_rfl)
              have hp9 := (Blk.keep2 HP.out HGP.out hC.1.1).cell 9
              refine Giv.wp ?_ hk
              unfold Giv
              go_simp
              exact giv_val (eRel.of (by decide) (Below.refl _ _)) rfl
            · have f4 : A.tmps[4]?.getD undef = .int .i64 i := fg_none (hF 4) (by kernel_rfl)
              refine Giv.wp ?_ hk
              unfold Giv
              go_simp
              exact giv_val (eRel.of (by decide) (Below.refl _ _)) rfl
            · have f28 : A.tmps[28]?.getD undef = .slice (some ⟨g, o, none⟩) L.length cap := fg_some (hF 28) (j := 2) (by kernel_rfl) (by kernel_rfl)
              have f29 : A.tmps[29]?.getD undef = .int .i64 i := fg_some (hF 29) (j := 3) (by kernel_rfl) (by kernel_rfl)
              have hiI : (i : Int) < (L.length : Int) := by omega
              refine Giv.wp ?_ hk
              unfold Giv
              go_simp
              exact giv_val (eRel.of (by decide) (Below.refl _ _)) rfl
            · have f30 : A.tmps[30]?.getD undef = .pointer (some ⟨g, o + i * 13, none⟩) := fg_some (hF 30) (j := 4) (by kernel_rfl) (by kernel_rfl)
              obtain ⟨x0, x1, x2, x3, x4, x5, x6, x7, x8, x9, x10, x11, x12⟩ := (HAR.out.keep (hC.1.1.block g HGR.out)).facts
              refine Giv.wp ?_ hk
              unfold Giv
              go_simp
              exact giv_val (eRel.of (by decide) (Below.refl _ _)) rfl
            · have f5 : A.tmps[5]?.getD undef = .slice (some ⟨gq, 0, none⟩) n cq := fg_none (hF 5) (by kernel_rfl)
              refine Giv.wp ?_ hk
              unfold Giv
              go_simp
              exact giv_val (eRel.of (by decide) (Below.refl _ _)) rfl
            · have f6 : A.tmps[6]?.getD undef = .int .i64 k := fg_none (hF 6) (by kernel_rfl)
              refine Giv.wp ?_ hk
              unfold Giv
              go_simp
              exact giv_val (eRel.of (by decide) (Below.refl _ _)) rfl
            · have f32 : A.tmps[32]?.getD undef = .slice (some ⟨gq, 0, none⟩) n cq := fg_some (hF 32) (j := 6) (by kernel_rfl) (by kernel_rfl)
              have f33 : A.tmps[33]?.getD undef = .int .i64 k := fg_some (hF 33) (j := 7) (by kernel_rfl) (by kernel_rfl)
              have hkI : (k : Int) < (n : Int) := by omega
              have hz : (0 : Nat) + k * 2 = k * 2 := Nat.zero_add _
              refine Giv.wp ?_ hk
              unfold Giv
              go_simp
              exact giv_val (eRel.of (by decide) (Below.refl _ _)) rfl
            · have f34 : A.tmps[34]?.getD undef = .pointer (some ⟨gq, k * 2, none⟩) := fg_some (hF 34) (j := 8) (by kernel_rfl) (by kernel_rfl)
              obtain ⟨d0, d1⟩ := (HPK.out v hC.2).facts
              refine Giv.wp ?_ hk
              unfold Giv
              go_simp
              exact giv_val (eRel.of (by decide) (Below.refl _ _)) rfl
            · have f31 : A.tmps[31]?.getD undef = .agg #[.int .i64 r.k, .int .u64 r.src.a, .int .u64 r.src.b, .int .u64 r.src.c, .int .u64 r.src.d, .int .u64 r.tgt.a, .int .u64 r.tgt.b, .int .u64 r.tgt.c, .int .u64 r.tgt.d, .bool r.self, .int .i64 r.cl, .int .u32 (vI r.pm), .int .i64 r.cd] := fg_some (hF 31) (j := 5) (by kernel_rfl) (by kernel_rfl)
              have f35 : A.tmps[35]?.getD undef = .agg #[.int .i64 p.1, .int .i64 p.2] := fg_some (hF 35) (j := 9) (by kernel_rfl) (by kernel_rfl)
              refine Giv.wp ?_ hk
              unfold Giv
              go_simp
              exact giv_enter ((HEN.out v).mono fun e w2 ⟨he, hb⟩ => ⟨_, he, eRel.of (by decide) hb, rfl⟩)
            · have f36 : A.tmps[36]?.getD undef = .agg #[.int .i64 y.s, .int .i64 y.t, .int .i64 y.c, .int .i64 y.d, .int .u32 (vI y.a), .int .u32 (vI y.b), .int .u32 (vI y.e)] := fg_some (hF 36) (j := 10) (by kernel_rfl) (by kernel_rfl)
              refine Giv.wp ?_ hk
              unfold Giv
              go_simp
              exact giv_val (eRel.of (by decide) ((Below.refl _ _).alloc (Nat.le_refl _) _)) ⟨_, rfl, fun e => by have := HOW.out _ e; have := hC.1.2.1; omega, Blk.new _ _ _⟩
            · have f26 : A.tmps[26]?.getD undef = vo := fg_some (hF 26) (j := 0) (by kernel_rfl) (by kernel_rfl)
              obtain ⟨gb, f37, hgb, hbb⟩ := (fg_some (hF 37) (j := 11) (by kernel_rfl) (by kernel_rfl) : ∃ g, (A.tmps[37]?.getD undef) = .slice (some ⟨g, 0, none⟩) 1 1 ∧ vo.ownBlock ≠ some g ∧ Box v g y)
              exact wp_append_E _ _ rfl B vo O N HN.out (by simpa [Act.eval] using f26) (hC.1.2.2 hd) gb y (by simpa [Act.eval] using f37) hbb (by omega) (by have := hC.1.2.1; have := HBS.out; omega) fun g c w2 h1 h2 h3 => hk _ _ (show eRel 12 vo 12 _ _ from by rw [eRel_this]; exact h2) ⟨g, c, rfl, h1⟩
            · obtain ⟨g5, c5, f38, h5⟩ := (fg_some (hF 38) (j := 12) (by kernel_rfl) (by kernel_rfl) : ∃ g c, (A.tmps[38]?.getD undef) = .slice (some ⟨g, 0, none⟩) (N + 1) c ∧ OwnE v B (.slice (some ⟨g, 0, none⟩) (N + 1) c) (O ++ [y]))
              refine Giv.wp ?_ hk
              unfold Giv
              go_simp
              exact giv_val (eRel.of (by decide) (Below.refl _ _)) ⟨g5, c5, rfl, h5⟩
          intro a W9 d hd hC hsz hdf hF hW
          have ha := end_gen [false, false, false, true, false, false, false, false, false, false, false, false, false, false, false, false, false, false, false, false, false, false, false, false, false, false, true, true, true, true, true, true, true, true, true, true, true, true, true, false, false] hsz hdf hF (by kernel_rfl)
          obtain ⟨g8, c8, f3, h8⟩ := (fe_some (hF 3) (j := 13) (by kernel_rfl) : ∃ g c, (a.tmps[3]?.getD undef) = .slice (some ⟨g, 0, none⟩) (N + 1) c ∧ OwnE W9 B (.slice (some ⟨g, 0, none⟩) (N + 1) c) (O ++ [y]))
          rw [ha]
          clear ha hF hW
          simp only [cutM_yes, cutM_no, cutM_nil, Nat.reduceAdd]
          rw [f3]
          have H8 : Hid (OwnE W9 B (.slice (some ⟨g8, 0, none⟩) (N + 1) c8) (O0 ++ ((prs r).take (k + 1)).map (entR r))) := Lib.hid (by rw [HTK.out, ← List.append_assoc, HOO.out]; exact h8)
          have HP8 := Lib.hid hC.2
          have HB8 : Hid (Below B W W9) := Lib.hid (HBW.out.trans hC.1.1)
          have HS8 : Hid (B ≤ W9.heap.size) := Lib.hid (Nat.le_trans HBS.out hC.1.2.1)
          clear hC hsz hdf hd h8 f3
          go_wp2_with fail
          go_roundw
          case rel => exact ⟨k + 1, _, rfl, hkn, by go_num, H8, HP8, HB8, HS8⟩
          case measure => simp [intOf]; omega
        · have hkn' : ¬ (k : Int) < (n : Int) := by omega
          have HE : Hid (OwnE wr B vo (allE (L.take (i + 1)))) := Lib.hid (by
            have h := HO.out
            rw [List.take_of_length_le (by rw [HNN.out]; omega)] at h
            rw [HX.out]; exact h)
          go_wp2_with fail
          go_roundw
          case rel => exact ⟨i + 1, _, rfl, hlt, by go_num, HE, HBB, HSS⟩
          case measure => simp [intOf]; omega
    · have hiL : i = L.length := by omega
      have hlt' : ¬ (i : Int) < (L.length : Int) := by omega
      have HOA : Hid (OwnE wr B vo (allE L)) := Lib.hid (by have := HO.out; rwa [hiL, List.take_length] at this)
      go_wp2_with (go_at_call 32; refine (runion_c vo (allE L) hN _ HOA.out.ents).mono ?_; rintro e w4 ⟨v4, rfl, hS, hb4⟩; have HS4 := Lib.hid hS; have HB4 := Lib.hid hb4)
      go_ret
      exact ⟨_, rfl, HS4.out, by first | exact (HB0.out.trans (HB.out.mono (by have := HGPS.out; omega))).trans (HB4.out.mono (by have := HGPS.out; have := HS.out; omega)) | (rw [hgp]; exact (HB0.out.trans (HB.out.mono (by have := HGPS.out; omega))).trans (HB4.out.mono (by have := HGPS.out; have := HS.out; omega)))⟩
end Go.Proofs.Ytjikbffnhfoikaa
/- few. -/
namespace Go.Proofs.Ytjikbffnhfoikaa
open Go.RowKit Go.Sort Go.Maps
def sumN (L : List Ru) : Nat := (L.map fun r => (elS r.src).length * ((elS r.tgt).length + 1)).sum
def fewB (L : List Ru) : Bool := decide (L.length ≤ 40) && decide (sumN L ≤ 400)
theorem count_or (p q : Int → Bool) : ∀ l : List Int, (l.filter fun x => p x || q x).length ≤ (l.filter p).length + (l.filter q).length
  | [] => by simp
  | x :: r => by
    have ih := count_or p q r
    rw [List.filter_cons, List.filter_cons, List.filter_cons]
    cases p x <;> cases q x <;> simp <;> omega
theorem count_one (b : Bool) (s : Int) : ∀ l : List Int, l.Pairwise (· < ·) → (l.filter fun t => b && decide (s = t)).length ≤ 1
  | [], _ => by simp
  | x :: r, h => by
    obtain ⟨h1, h2⟩ := List.pairwise_cons.1 h
    have ih := count_one b s r h2
    rw [List.filter_cons]
    split
    · rename_i e
      have e2 : s = x := by
        simp only [Bool.and_eq_true, decide_eq_true_eq] at e
        exact e.2
      have : r.filter (fun t => b && decide (s = t)) = [] := by
        rw [List.filter_eq_nil_iff]
        intro y hy
        have := h1 y hy
        simp only [Bool.and_eq_true, decide_eq_true_eq, not_and]
        intro _ e3
        omega
      rw [this]; simp
    · exact ih
theorem tgs_le (r : Ru) (s : Int) : (tgs r s).length ≤ (elS r.tgt).length + 1 := by
  have h := count_or (hasS r.tgt) (fun t => r.self && decide (s = t)) (below 256)
  have h2 := count_one r.self s (below 256) (below_pair 256)
  have e : (tgs r s).length = ((below 256).filter fun x => hasS r.tgt x || (r.self && decide (s = x))).length := rfl
  have e2 : (elS r.tgt).length = ((below 256).filter (hasS r.tgt)).length := rfl
  omega
theorem prK_le (r : Ru) : ∀ l : List Int, (prK r l).length ≤ l.length * ((elS r.tgt).length + 1)
  | [] => by simp [prK]
  | s :: l => by
    have ih := prK_le r l
    have h := tgs_le r s
    have e : prK r (s :: l) = ((tgs r s).map fun t => (s, t)) ++ prK r l := rfl
    rw [e, List.length_append, List.length_map, List.length_cons, Nat.succ_mul]
    omega
theorem allE_le : ∀ L : List Ru, (allE L).length ≤ sumN L
  | [] => by simp [allE]
  | r :: L => by
    have ih := allE_le L
    have h := prK_le r (srs r)
    have e : allE (r :: L) = entsR r ++ allE L := rfl
    have e2 : (entsR r).length = (prK r (srs r)).length := by unfold entsR; rw [List.length_map]; rfl
    have e3 : sumN (r :: L) = (elS r.src).length * ((elS r.tgt).length + 1) + sumN L := by simp [sumN]
    rw [e, List.length_append, e3, e2]
    have : (elS r.src).length = (srs r).length := rfl
    rw [this]
    omega
theorem fewB_le {L : List Ru} (h : fewB L = true) : L.length ≤ 40 ∧ (allE L).length ≤ 400 := by
  unfold fewB at h
  simp only [Bool.and_eq_true, decide_eq_true_eq] at h
  exact ⟨h.1, Nat.le_trans (allE_le L) h.2⟩
theorem elS_le (s : S4) : (elS s).length ≤ 256 := by
  have h : (elS s).length ≤ (below 256).length := List.length_filter_le _ _
  simpa [below] using h
theorem rcountS_c (s : S4) (w : World) : Calls Try.prog 30 #[.agg #[.int .u64 s.a, .int .u64 s.b, .int .u64 s.c, .int .u64 s.d]] w fun e w' => e = .returned (.int .i64 ((elS s).length)) ∧ Below w.heap.size w w' := rcount_c s.a s.b s.c s.d w
theorem sumN_take {L : List Ru} {i : Nat} (h : i < L.length) {r : Ru} (hr : L[i] = r) : sumN (L.take (i + 1)) = sumN (L.take i) + (elS r.src).length * ((elS r.tgt).length + 1) := by
  unfold sumN
  rw [List.take_succ_eq_append_getElem h, hr, List.map_append, List.sum_append]
  simp
theorem sumN_bound (L : List Ru) (i : Nat) : sumN (L.take i) ≤ i * 65792 := by
  induction i with
  | zero => simp [sumN]
  | succ i ih =>
    rcases Nat.lt_or_ge i L.length with h | h
    · rw [sumN_take h rfl]
      have h1 := elS_le L[i].src
      have h2 := elS_le L[i].tgt
      have h3 : (elS L[i].src).length * ((elS L[i].tgt).length + 1) ≤ 65792 := Nat.mul_le_mul h1 (Nat.succ_le_succ h2)
      rw [Nat.succ_mul]
      exact Nat.add_le_add ih h3
    · have e : L.take (i + 1) = L.take i := by rw [List.take_of_length_le (by omega), List.take_of_length_le h]
      rw [e, Nat.succ_mul]
      exact Nat.le_add_right_of_le ih
set_option maxRecDepth 100000 in
set_option maxHeartbeats 8000000 in
theorem few_c (u0 u1 u2 u3 u4 u5 u6 u7 u8 u10 u11 u12 u13 u14 u15 u16 v : Value) (L : List Ru) (w : World) (hE : Rus w v L) (hL : L.length ≤ maxLen) :
    Calls Try.prog 14 #[.agg #[u0, u1, u2, u3, u4, u5, u6, u7, u8, v, u10, u11, u12, u13, u14, u15, u16]] w fun e w' => e = .returned (.bool (fewB L)) ∧ Below w.heap.size w w' := by
  have hb0 : Below w.heap.size w (w.alloc (.cells #[u0, u1, u2, u3, u4, u5, u6, u7, u8, v, u10, u11, u12, u13, u14, u15, u16] 50)) := (Below.refl _ _).alloc (Nat.le_refl _) _
  have HE0 := Lib.hid (hE.keep hb0)
  have HP0 : Hid (Blk (w.alloc (.cells #[u0, u1, u2, u3, u4, u5, u6, u7, u8, v, u10, u11, u12, u13, u14, u15, u16] 50)) w.heap.size 50 #[u0, u1, u2, u3, u4, u5, u6, u7, u8, v, u10, u11, u12, u13, u14, u15, u16]) := Lib.hid (Blk.new w _ _)
  have HB0 := Lib.hid hb0
  obtain ⟨ao, cap, rfl, hcap, -⟩ := hE
  clear hb0
  unfold maxLen at hL
  have hlI : (L.length : Int) ≤ 9223372036854775807 := by omega
  go_enter Try.func14, Try.ntmps14
  go_upto_region 1 with fail
  generalize w.alloc (.cells #[u0, u1, u2, u3, u4, u5, u6, u7, u8, .slice ao L.length cap, u10, u11, u12, u13, u14, u15, u16] 50) = W at *
  generalize hgp : w.heap.size = gp at *
  have hp9 := HP0.out.cell 9
  by_cases h40 : 40 < L.length
  · have h40I : (40 : Int) < (L.length : Int) := by omega
    have hfb : fewB L = false := by unfold fewB; rw [decide_eq_false (by omega), Bool.false_and]
    have HFB := Lib.hid hfb
    clear hfb
    go_wp2_with fail
    go_ret
    exact ⟨ret_bool HFB.out.symm, by first | exact HB0.out | (rw [hgp]; exact HB0.out)⟩
  · have h40I : ¬ (40 : Int) < (L.length : Int) := by omega
    go_wp2_with fail
    go_loopw [3, 12] (fun v3 vi wr => ∃ i : Nat, i ≤ L.length ∧ vi = .int .i64 i ∧ v3 = .int .i64 (sumN (L.take i)) ∧ Hid (Below W.heap.size W wr)) (fun _ vi _ => L.length - (intOf vi).toNat)
    case atStart => exact ⟨0, Nat.zero_le _, rfl, rfl, Lib.hid (Below.refl _ _)⟩
    case round =>
      obtain ⟨i, hi, rfl, rfl, HB⟩ := hrel
      by_cases hlt : i < L.length
      · have hlt' : (i : Int) < (L.length : Int) := by omega
        obtain ⟨r, hx⟩ : ∃ x, L[i] = x := ⟨_, rfl⟩
        obtain ⟨ao', cap', e, _, hr⟩ := HE0.out
        obtain ⟨g, o, hao, hR⟩ := hr (by rintro rfl; simp at hlt)
        simp only [Value.slice.injEq] at e
        obtain ⟨rfl, -, rfl⟩ := e
        subst hao
        have hA := hR.at hlt
        rw [hx] at hA
        have HA := Lib.hid hA
        have HSM := Lib.hid (sumN_take hlt hx)
        have hsb := sumN_bound L i
        have hs1 := elS_le r.src
        have hs2 := elS_le r.tgt
        clear hx hr hR hA
        generalize hq1 : (elS r.src).length = q1 at *
        generalize hq2 : (elS r.tgt).length = q2 at *
        generalize sumN (L.take i) = s0 at *
        have HQ1 : Hid (∀ u, Calls Try.prog 30 #[.agg #[.int .u64 r.src.a, .int .u64 r.src.b, .int .u64 r.src.c, .int .u64 r.src.d]] u fun e w' => e = .returned (.int .i64 q1) ∧ Below u.heap.size u w') := Lib.hid fun u => by rw [← hq1]; exact rcountS_c r.src u
        have HQ2 : Hid (∀ u, Calls Try.prog 30 #[.agg #[.int .u64 r.tgt.a, .int .u64 r.tgt.b, .int .u64 r.tgt.c, .int .u64 r.tgt.d]] u fun e w' => e = .returned (.int .i64 q2) ∧ Below u.heap.size u w') := Lib.hid fun u => by rw [← hq2]; exact rcountS_c r.tgt u
        clear hq1 hq2
        have hm0 := Nat.mul_le_mul hs1 (Nat.succ_le_succ hs2)
        obtain ⟨m, hm⟩ : ∃ m : Nat, m = q1 * (q2 + 1) := ⟨_, rfl⟩
        have hmI : (q1 : Int) * ((q2 : Int) + 1) = (m : Int) := by rw [hm]; simp
        have hmle : m ≤ 65792 := by rw [hm]; exact hm0
        have hq2I : (q2 : Int) ≤ 256 := by omega
        have hs0I : (s0 : Int) ≤ 2631680 := by omega
        have hmI2 : (m : Int) ≤ 65792 := by omega
        have HMM := Lib.hid hm
        clear hm hm0 hmle hsb hs1 hs2
        go_upto_region 7 with fail
        refine wp_region_kt 18 (by kernel_rfl) (by kernel_rfl) ?_
        simp only [List.take_succ_cons, List.take_zero, List.drop_succ_cons, List.drop_zero]
        repeat (first
            | go_big_quiet_skip
            | (go_big_quiet_want
               go_big_quiet_op
               first
                 | go_big_quiet_on
                 | (apply Exists.intro
                    refine ⟨fun w1 hC => ?_, ?_⟩
                    · first
                        | (go_at_call 30; first | with_reducible exact hC.call (HQ1.out _) | with_reducible exact hC.call (HQ2.out _))
                        | (go_simp; exact ⟨rfl, rfl⟩)
                        | (have p9 := (Blk.keep (Blk.keep HP0.out HB.out) hC).cell 9; go_simp; exact rfl)
                        | (obtain ⟨x0, x1, x2, x3, x4, x5, x6, x7, x8, x9, x10, x11, x12⟩ := ((HA.out.keep (HB.out.block g HA.out.lt)).keep (hC.block g (HA.out.keep (HB.out.block g HA.out.lt)).lt)).facts; go_simp; exact rfl)
                    go_big_quiet_on)))
        refine wpQuiet_nil ?_
        intro W3 hC
        have HBx := Lib.hid (HB.out.trans (hC.mono HB.out.size))
        clear hC HB
        go_wp2_with fail
        go_roundw
        case rel => exact ⟨i + 1, hlt, by go_num, by rw [HSM.out, ← HMM.out, Int.natCast_add], HBx⟩
        case measure => simp [intOf]; omega
      · have hiL : i = L.length := by omega
        have hlt' : ¬ (i : Int) < (L.length : Int) := by omega
        have HS : Hid (sumN (L.take i) = sumN L) := Lib.hid (by rw [hiL, List.take_length])
        have hfb : fewB L = decide (sumN L ≤ 400) := by unfold fewB; rw [decide_eq_true (by omega), Bool.true_and]
        have HFB := Lib.hid hfb
        clear hfb
        go_wp2_with fail
        go_ret
        exact ⟨ret_bool (by rw [HFB.out]; exact decide_eq_decide.2 (by omega)), by first | exact HB0.out.trans (HB.out.mono (by have := HB0.out.size; omega)) | (rw [hgp]; exact HB0.out.trans (HB.out.mono (by have := HB0.out.size; omega)))⟩
end Go.Proofs.Ytjikbffnhfoikaa
/- A policy is loaded whole. -/
namespace Go.Proofs.Ytjikbffnhfoikaa
open Go.RowKit Go.Sort Go.Maps
set_option maxRecDepth 100000 in
set_option maxHeartbeats 4000000 in
theorem loadAt_pol {b0 b1 b2 b3 b4 b5 b6 b7 b8 b9 b10 b11 b12 b13 b14 b15 b16 : Value} {gp : Nat} {u : World} (h : Blk u gp 50 #[b0, b1, b2, b3, b4, b5, b6, b7, b8, b9, b10, b11, b12, b13, b14, b15, b16]) : (Instr.loadAt 50 (.pointer (some ⟨gp, 0, none⟩))).run Try.prog u = .ok (.agg #[b0, b1, b2, b3, b4, b5, b6, b7, b8, b9, b10, b11, b12, b13, b14, b15, b16]) u := by
  have hp := h.cell
  have p0 := hp 0
  have p1 := hp 1
  have p2 := hp 2
  have p3 := hp 3
  have p4 := hp 4
  have p5 := hp 5
  have p6 := hp 6
  have p7 := hp 7
  have p8 := hp 8
  have p9 := hp 9
  have p10 := hp 10
  have p11 := hp 11
  have p12 := hp 12
  have p13 := hp 13
  have p14 := hp 14
  have p15 := hp 15
  have p16 := hp 16
  clear hp h
  go_simp
theorem wpList_load_pol {b0 b1 b2 b3 b4 b5 b6 b7 b8 b9 b10 b11 b12 b13 b14 b15 b16 : Value} {gp : Nat} {w : World} {ops : Array Oper} {rest : List Oper} {o : Oper} {a : Act} {Q : Exit → Act → World → Prop} (hw : Region.wanted o (yielded ops a.tmps) = true) (x : Operand) (ho : o.op = .load 50 x)
    (hx : a.eval x = .pointer (some ⟨gp, 0, none⟩)) (h : Blk w gp 50 #[b0, b1, b2, b3, b4, b5, b6, b7, b8, b9, b10, b11, b12, b13, b14, b15, b16]) (hK : wpList Try.prog ops Q rest (a.put o.dst (.agg #[b0, b1, b2, b3, b4, b5, b6, b7, b8, b9, b10, b11, b12, b13, b14, b15, b16])) w) : wpList Try.prog ops Q (o :: rest) a w := by
  unfold wpList
  rw [if_pos hw]
  refine .inl ?_
  have hl := loadAt_pol h
  unfold Oper.wp execOp
  simp only [ho, hx, Sem.run_bind, hl, Result.andThen_ok]
  exact hK
theorem load_op {b0 b1 b2 b3 b4 b5 b6 b7 b8 b9 b10 b11 b12 b13 b14 b15 b16 : Value} {gp : Nat} {u : World} (h : Blk u gp 50 #[b0, b1, b2, b3, b4, b5, b6, b7, b8, b9, b10, b11, b12, b13, b14, b15, b16]) (A : Act) (t : Nat) (ft : A.tmps[t]?.getD undef = .pointer (some ⟨gp, 0, none⟩)) (o : Oper) (ho : o.op = .load 50 (.tmp t)) :
    (execOp A.eval o).run Try.prog u = .ok (.value (.agg #[b0, b1, b2, b3, b4, b5, b6, b7, b8, b9, b10, b11, b12, b13, b14, b15, b16])) u := by
  have hl := loadAt_pol h
  have hx : A.eval (.tmp t) = .pointer (some ⟨gp, 0, none⟩) := by rw [← ft]; simp [Act.eval]
  unfold execOp
  simp only [ho, hx, Sem.run_bind, hl, Result.andThen_ok]
  rfl
end Go.Proofs.Ytjikbffnhfoikaa
/- The reference's Never, plain. -/
namespace Go.Proofs.Ytjikbffnhfoikaa
open Go.RowKit Go.Sort Go.Maps
def nB (r : Ru) (e : E) : Bool := decide (r.k = 4) && (decide (r.cl = e.c) && (hasS r.src e.s && prB r e.s e.t))
def badR (L : List Ru) (e : E) : BitVec 32 := L.foldl (fun b r => if nB r e = true then b ||| r.pm else b) 0#32
theorem badR_snoc (L : List Ru) (r : Ru) (e : E) : badR (L ++ [r]) e = if nB r e = true then badR L e ||| r.pm else badR L e := by
  unfold badR
  rw [List.foldl_append]
  rfl
/-- the entry with the cond 0 -/
def at0 (e : E) : E := { e with d := 0, wf := ⟨e.wf.1, e.wf.2.1, e.wf.2.2.1, by decide⟩ }
theorem badF_con {F : List E} {e : E} (hs : Strict F) (hd : ∀ y ∈ F, y.d = 0) : badF F e = (con (at0 e) F).p := by
  induction F with
  | nil => rfl
  | cons x r ih =>
    obtain ⟨h1, h2⟩ := List.pairwise_cons.1 hs
    have hx := hd x (by simp)
    rw [badF_cons]
    by_cases h : eqC x e
    · rw [if_pos h]
      have hP : eqP x (at0 e) := ⟨h.1, h.2.1, h.2.2, hx⟩
      rw [con_head hs hP]
      rfl
    · rw [if_neg h]
      have hP : ¬ eqP x (at0 e) := fun k => h ⟨k.1, k.2.1, k.2.2.1⟩
      simp only [con, if_neg hP]
      exact ih h2 fun y hy => hd y (by simp [hy])
theorem con_badR (e : E) : ∀ L : List Ru, (conR (at0 e) (nevR L)).p = badR L e := by
  intro L
  rw [← List.reverse_reverse L]
  generalize L.reverse = R
  induction R with
  | nil => rfl
  | cons r R ih =>
    rw [List.reverse_cons, nevR_snoc, badR_snoc, conR_append]
    by_cases h4 : r.k = 4
    · rw [if_pos h4]
      have e1 : conR (at0 e) [asA r] = orV (if mB (asA r) (at0 e) = true then vR (asA r) else zV) zV := rfl
      have e2 : mB (asA r) (at0 e) = (decide (r.cl = e.c) && (hasS r.src e.s && prB r e.s e.t)) := by
        show (decide (r.cl = e.c) && (decide ((0 : Int) = 0) && (hasS r.src e.s && prB r e.s e.t))) = _
        simp
      have e3 : nB r e = (decide (r.cl = e.c) && (hasS r.src e.s && prB r e.s e.t)) := by unfold nB; rw [decide_eq_true h4, Bool.true_and]
      rw [e1, e2, e3, orV_z]
      by_cases hb : (decide (r.cl = e.c) && (hasS r.src e.s && prB r e.s e.t)) = true
      · rw [if_pos hb, if_pos hb]
        show (conR (at0 e) (nevR R.reverse)).p ||| r.pm = _
        rw [ih]
      · rw [if_neg hb, if_neg hb, orV_z]
        exact ih
    · rw [if_neg h4]
      have e3 : nB r e = false := by unfold nB; rw [decide_eq_false h4, Bool.false_and]
      have e1 : conR (at0 e) [] = zV := rfl
      rw [e1, e3, orV_z, if_neg (by simp)]
      exact ih
theorem bad_same (L : List Ru) (e : E) : badF (M (allE (nevR L))) e = badR L e := by
  rw [badF_con (M_strict _) nev_d, M_con, con_all, con_badR]
end Go.Proofs.Ytjikbffnhfoikaa
/- The reference's Never. -/
namespace Go.Proofs.Ytjikbffnhfoikaa
open Go.RowKit Go.Sort Go.Maps
theorem At7.inB {w w' : World} {g o B : Nat} {x : E} (h : At7 w g o x) (hg : g < B) (hb : Below B w w') : At7 w' g o x := h.keep (hb.block g hg)
set_option maxRecDepth 100000 in
set_option maxHeartbeats 16000000 in
theorem rnever_c (pu0 pu1 pu2 pu3 pu4 pu5 pu6 pu7 pu8 pu10 pu11 pu12 pu13 pu14 pu15 pu16 v : Value) (L : List Ru) (hl : L.length ≤ 100000) (hN : (allE L).length ≤ 100000) (w : World) (hE : Rus w v L) :
    Calls Try.prog 22 #[.agg #[pu0, pu1, pu2, pu3, pu4, pu5, pu6, pu7, pu8, v, pu10, pu11, pu12, pu13, pu14, pu15, pu16]] w fun e w' => ∃ v', e = .returned v' ∧ Ents w' v' (nevE (M (allE (nevR L))) (M (allE L))) ∧ Below w.heap.size w w' := by
  have hb0 : Below w.heap.size w (w.alloc (.cells #[pu0, pu1, pu2, pu3, pu4, pu5, pu6, pu7, pu8, v, pu10, pu11, pu12, pu13, pu14, pu15, pu16] 50)) := (Below.refl _ _).alloc (Nat.le_refl _) _
  have HP0 : Hid (Blk (w.alloc (.cells #[pu0, pu1, pu2, pu3, pu4, pu5, pu6, pu7, pu8, v, pu10, pu11, pu12, pu13, pu14, pu15, pu16] 50)) w.heap.size 50 #[pu0, pu1, pu2, pu3, pu4, pu5, pu6, pu7, pu8, v, pu10, pu11, pu12, pu13, pu14, pu15, pu16]) := Lib.hid (Blk.new w _ _)
  have HB0 := Lib.hid hb0
  have HE0 := Lib.hid (hE.keep hb0)
  obtain ⟨ao, cap, rfl, hcap, -⟩ := hE
  have HGPS : Hid (w.heap.size < (w.alloc (.cells #[pu0, pu1, pu2, pu3, pu4, pu5, pu6, pu7, pu8, .slice ao L.length cap, pu10, pu11, pu12, pu13, pu14, pu15, pu16] 50)).heap.size) := Lib.hid (by simp)
  clear hb0
  have hlI : (L.length : Int) ≤ 100000 := by omega
  go_enter Try.func22, Try.ntmps22
  go_upto_region 1 with fail
  generalize w.alloc (.cells #[pu0, pu1, pu2, pu3, pu4, pu5, pu6, pu7, pu8, .slice ao L.length cap, pu10, pu11, pu12, pu13, pu14, pu15, pu16] 50) = W0 at *
  generalize hgp : w.heap.size = gp at *
  have hp := HP0.out.cell
  have p0 := hp 0
  have p1 := hp 1
  have p2 := hp 2
  have p3 := hp 3
  have p4 := hp 4
  have p5 := hp 5
  have p6 := hp 6
  have p7 := hp 7
  have p8 := hp 8
  have p9 := hp 9
  have p10 := hp 10
  have p11 := hp 11
  have p12 := hp 12
  have p13 := hp 13
  have p14 := hp 14
  have p15 := hp 15
  have p16 := hp 16
  clear hp
  go_upto_region 2 with (go_at_call 15; refine (rentries_c _ _ _ _ _ _ _ _ _ _ _ _ _ _ _ _ _ L hl hN _ HE0.out).mono ?_; rintro e W ⟨vl, rfl, hEn, hb1⟩; have HEn := Lib.hid hEn; have HE1 := Lib.hid (HE0.out.keep hb1); have HP1 := Lib.hid (HP0.out.keep hb1); have HB1 := Lib.hid (HB0.out.trans (hb1.mono (by have := HB0.out.size; omega))); have HG1 : Hid (gp < W.heap.size) := Lib.hid (by have := hb1.size; have := HGPS.out; omega); clear hEn hb1)
  clear p0 p1 p2 p3 p4 p5 p6 p7 p8 p9 p10 p11 p12 p13 p14 p15 p16 HP0 HB0 HE0 HGPS
  obtain ⟨F, hF⟩ : ∃ F, M (allE (nevR L)) = F := ⟨_, rfl⟩
  have HBS : Hid (∀ e, badF F e = badR L e) := Lib.hid fun e => by rw [← hF]; exact bad_same L e
  have HFF := Lib.hid hF
  obtain ⟨l, hl2⟩ : ∃ l, M (allE L) = l := ⟨_, rfl⟩
  have HLL := Lib.hid hl2
  have hll : l.length ≤ 100000 := by rw [← hl2]; exact Nat.le_trans (M_len _) hN
  rw [hl2] at HEn
  clear hF hl2 hN
  obtain ⟨al, cl, rfl, hcl, hrl⟩ := HEn.out
  have HRL := Lib.hid hrl
  have hllI : (l.length : Int) ≤ 100000 := by omega
  clear hrl
  go_wp2_with fail
  go_loopw [4, 5] (fun v4 v5 wr => ∃ (i : Nat) (vo : Value), vo = v4 ∧ i ≤ l.length ∧ v5 = .int .i64 i ∧ Hid (OwnE wr W.heap.size vo (nevE F (l.take i))) ∧ Hid (Below W.heap.size W wr)) (fun _ v5 _ => l.length - (intOf v5).toNat)
  case atStart => exact ⟨0, _, rfl, Nat.zero_le _, rfl, Lib.hid (by rw [List.take_zero]; exact OwnE.nil _ _), Lib.hid (Below.refl _ _)⟩
  case round =>
    obtain ⟨i, vo, rfl, hi, rfl, HO, HB⟩ := hrel
    by_cases hlt : i < l.length
    · have hlt' : (i : Int) < (l.length : Int) := by omega
      obtain ⟨x, hx⟩ : ∃ x, l[i] = x := ⟨_, rfl⟩
      obtain ⟨g, o, rfl, hR⟩ := HRL.out (by rintro rfl; simp at hlt)
      have hA := hR.at hlt
      rw [hx] at hA
      have HGX : Hid (g < W.heap.size) := Lib.hid hA.lt
      have HAX := Lib.hid hA
      have HX : Hid (nevE F (l.take (i + 1)) = nevE F (l.take i) ++ nvE F x) := Lib.hid (by rw [List.take_succ_eq_append_getElem hlt, hx, nevE_snoc])
      have HNL : Hid ((nevE F (l.take i)).length ≤ 100000) := Lib.hid (by have h1 := nevE_len F (l.take i); rw [List.length_take] at h1; omega)
      clear hx hR hA
      generalize nevE F (l.take i) = O at *
      generalize wr = V at *
      go_wp2_with fail
      go_loopw [6, 7] (fun v6 v7 wr2 => ∃ k : Nat, k ≤ L.length ∧ v7 = .int .i64 k ∧ v6 = .int .u32 (vI (badR (L.take k) x)) ∧ Hid (Below V.heap.size V wr2)) (fun _ v7 _ => L.length - (intOf v7).toNat)
      case atStart => exact ⟨0, Nat.zero_le _, rfl, rfl, Lib.hid (Below.refl _ _)⟩
      case round =>
        obtain ⟨k, hk, rfl, rfl, HB2⟩ := hrel
        have HBW : Hid (Below W.heap.size W wr) := Lib.hid (HB.out.trans (HB2.out.mono HB.out.size))
        have HPW := Lib.hid (Blk.keep2 HP1.out HG1.out HBW.out)
        have HAW : Hid (At7 wr g (o + i * 7) x) := Lib.hid (HAX.out.inB HGX.out HBW.out)
        have HEW : Hid (Rus wr (.slice ao L.length cap) L) := Lib.hid (HE1.out.keep HBW.out)
        have hp9 := HPW.out.cell 9
        by_cases hkn : k < L.length
        · have hkn' : (k : Int) < (L.length : Int) := by omega
          obtain ⟨r, hx⟩ : ∃ x, L[k] = x := ⟨_, rfl⟩
          obtain ⟨ao', cap', e, _, hr⟩ := HEW.out
          obtain ⟨gr, or, hao, hR⟩ := hr (by rintro rfl; simp at hkn)
          simp only [Value.slice.injEq] at e
          obtain ⟨rfl, -, rfl⟩ := e
          subst hao
          have hA := hR.at hkn
          rw [hx] at hA
          obtain ⟨x0, x1, x2, x3, x4, x5, x6, x7, x8, x9, x10, x11, x12⟩ := hA.facts
          have HBD : Hid (badR (L.take (k + 1)) x = if nB r x = true then badR (L.take k) x ||| r.pm else badR (L.take k) x) := Lib.hid (by rw [List.take_succ_eq_append_getElem hkn, hx, badR_snoc])
          have hb2 := (Below.refl wr.heap.size wr).alloc (Nat.le_refl _) (.cells #[.int .i64 r.k, .int .u64 r.src.a, .int .u64 r.src.b, .int .u64 r.src.c, .int .u64 r.src.d, .int .u64 r.tgt.a, .int .u64 r.tgt.b, .int .u64 r.tgt.c, .int .u64 r.tgt.d, .bool r.self, .int .i64 r.cl, .int .u32 (vI r.pm), .int .i64 r.cd] 27)
          have HBU := Lib.hid (HB2.out.trans (hb2.mono HB2.out.size))
          have HAU := Lib.hid (HAW.out.keep (hb2.block g HAW.out.lt))
          have HRU := Lib.hid (Blk.new wr 27 #[.int .i64 r.k, .int .u64 r.src.a, .int .u64 r.src.b, .int .u64 r.src.c, .int .u64 r.src.d, .int .u64 r.tgt.a, .int .u64 r.tgt.b, .int .u64 r.tgt.c, .int .u64 r.tgt.d, .bool r.self, .int .i64 r.cl, .int .u32 (vI r.pm), .int .i64 r.cd])
          clear hx hr hR hA hb2
          generalize badR (L.take k) x = bb at *
          go_upto_region 11 with fail
          clear x0 x1 x2 x3 x4 x5 x6 x7 x8 x9 x10 x11 x12 hp9 HPW HAW HEW HBW HB2
          generalize wr.alloc (.cells #[.int .i64 r.k, .int .u64 r.src.a, .int .u64 r.src.b, .int .u64 r.src.c, .int .u64 r.src.d, .int .u64 r.tgt.a, .int .u64 r.tgt.b, .int .u64 r.tgt.c, .int .u64 r.tgt.d, .bool r.self, .int .i64 r.cl, .int .u32 (vI r.pm), .int .i64 r.cd] 27) = U at *
          generalize wr.heap.size = gx at *
          obtain ⟨P, hP⟩ : ∃ P, prB r x.s x.t = P := ⟨_, rfl⟩
          have HPP := Lib.hid hP
          clear hP
          have HHS : Hid (∀ u, Calls Try.prog 28 #[.agg #[.int .u64 r.tgt.a, .int .u64 r.tgt.b, .int .u64 r.tgt.c, .int .u64 r.tgt.d], .int .i64 x.t] u fun e w' => e = .returned (.bool (hasS r.tgt x.t)) ∧ Below u.heap.size u w') := Lib.hid fun u => rhas_c r.tgt.a r.tgt.b r.tgt.c r.tgt.d x.t u
          have HPV : Hid (P = (hasS r.tgt x.t || (r.self && decide (x.s = x.t)))) := Lib.hid HPP.out.symm
          have hiI : (i : Int) < (l.length : Int) := hlt'
          go_cut [9] from 31 to 55 (fun v9 wx => v9 = .bool P ∧ Hid (Below U.heap.size U wx))
          case first =>
            generalize hasS r.tgt x.t = B1 at *
            cases B1 with
            | true =>
              have HE : Hid (P = true) := Lib.hid (by rw [HPV.out]; rfl)
              refine wp_region_kp (by kernel_rfl) (by kernel_rfl) ?_
              repeat (first
                  | go_big_quiet_skip
                  | (go_big_quiet_want
                     go_big_quiet_op
                     first
                       | go_big_quiet_on
                       | (apply Exists.intro
                          refine ⟨fun w1 hC => ?_, ?_⟩
                          · first
                              | (go_at_call 28; with_reducible exact hC.call (HHS.out _))
                              | (go_simp; exact ⟨rfl, rfl⟩)
                              | (obtain ⟨y0, y1, y2, y3, y4, y5, y6, y7, y8, y9, y10, y11, y12⟩ := BoxR.cells (hC.blk HRU.out); go_simp; exact rfl)
                              | (obtain ⟨d0, d1, d2, d3, d4, d5, d6⟩ := HAU.out.keep (hC.block g HAU.out.lt); go_simp; exact rfl)
                          go_big_quiet_on)))
              refine wpQuiet_nil ?_
              intro W3 hC
              have HC := Lib.hid hC
              clear hC
              go_wp2_with fail
              go_meet
              exact ⟨by rw [HE.out], Lib.hid HC.out⟩
            | false =>
              obtain ⟨sf, hsf⟩ : ∃ b, r.self = b := ⟨_, rfl⟩
              have HSF : Hid (BoxR U gx { r with self := sf }) := Lib.hid (by rw [← hsf]; exact HRU.out)
              rw [hsf] at HPV
              clear hsf
              cases sf with
              | false =>
                have HE : Hid (P = false) := Lib.hid (by rw [HPV.out]; rfl)
                refine wp_region_kp (by kernel_rfl) (by kernel_rfl) ?_
                repeat (first
                    | go_big_quiet_skip
                    | (go_big_quiet_want
                       go_big_quiet_op
                       first
                         | go_big_quiet_on
                         | (apply Exists.intro
                            refine ⟨fun w1 hC => ?_, ?_⟩
                            · first
                                | (go_at_call 28; with_reducible exact hC.call (HHS.out _))
                                | (go_simp; exact ⟨rfl, rfl⟩)
                                | (obtain ⟨y0, y1, y2, y3, y4, y5, y6, y7, y8, y9, y10, y11, y12⟩ := BoxR.cells (hC.blk HSF.out); go_simp; exact rfl)
                                | (obtain ⟨d0, d1, d2, d3, d4, d5, d6⟩ := HAU.out.keep (hC.block g HAU.out.lt); go_simp; exact rfl)
                            go_big_quiet_on)))
                refine wpQuiet_nil ?_
                intro W3 hC
                have HC := Lib.hid hC
                clear hC
                go_wp2_with fail
                go_meet
                exact ⟨by rw [HE.out], Lib.hid HC.out⟩
              | true =>
                by_cases hst : x.s = x.t
                · have hsb : (x.s == x.t) = true := by simpa using hst
                  have HE : Hid (P = true) := Lib.hid (by rw [HPV.out, decide_eq_true hst]; rfl)
                  clear hst
                  refine wp_region_kp (by kernel_rfl) (by kernel_rfl) ?_
                  repeat (first
                      | go_big_quiet_skip
                      | (go_big_quiet_want
                         go_big_quiet_op
                         first
                           | go_big_quiet_on
                           | (apply Exists.intro
                              refine ⟨fun w1 hC => ?_, ?_⟩
                              · first
                                  | (go_at_call 28; with_reducible exact hC.call (HHS.out _))
                                  | (go_simp; exact ⟨rfl, rfl⟩)
                                  | (obtain ⟨y0, y1, y2, y3, y4, y5, y6, y7, y8, y9, y10, y11, y12⟩ := BoxR.cells (hC.blk HSF.out); go_simp; exact rfl)
                                  | (obtain ⟨d0, d1, d2, d3, d4, d5, d6⟩ := HAU.out.keep (hC.block g HAU.out.lt); go_simp; exact rfl)
                              go_big_quiet_on)))
                  refine wpQuiet_nil ?_
                  intro W3 hC
                  have HC := Lib.hid hC
                  clear hC
                  go_wp2_with fail
                  go_meet
                  exact ⟨by rw [HE.out], Lib.hid HC.out⟩
                · have hsb : (x.s == x.t) = false := by simpa using hst
                  have HE : Hid (P = false) := Lib.hid (by rw [HPV.out, decide_eq_false hst]; rfl)
                  clear hst
                  refine wp_region_kp (by kernel_rfl) (by kernel_rfl) ?_
                  repeat (first
                      | go_big_quiet_skip
                      | (go_big_quiet_want
                         go_big_quiet_op
                         first
                           | go_big_quiet_on
                           | (apply Exists.intro
                              refine ⟨fun w1 hC => ?_, ?_⟩
                              · first
                                  | (go_at_call 28; with_reducible exact hC.call (HHS.out _))
                                  | (go_simp; exact ⟨rfl, rfl⟩)
                                  | (obtain ⟨y0, y1, y2, y3, y4, y5, y6, y7, y8, y9, y10, y11, y12⟩ := BoxR.cells (hC.blk HSF.out); go_simp; exact rfl)
                                  | (obtain ⟨d0, d1, d2, d3, d4, d5, d6⟩ := HAU.out.keep (hC.block g HAU.out.lt); go_simp; exact rfl)
                              go_big_quiet_on)))
                  refine wpQuiet_nil ?_
                  intro W3 hC
                  have HC := Lib.hid hC
                  clear hC
                  go_wp2_with fail
                  go_meet
                  exact ⟨by rw [HE.out], Lib.hid HC.out⟩
          case rest =>
          obtain ⟨rfl, HC1⟩ := hcut
          have HRC : Hid (BoxR wc gx r) := Lib.hid (Blk.keep HRU.out HC1.out)
          have HAC : Hid (At7 wc g (o + i * 7) x) := Lib.hid (HAU.out.keep (HC1.out.block g HAU.out.lt))
          have HBC : Hid (Below V.heap.size V wc) := Lib.hid (HBU.out.trans (HC1.out.mono HBU.out.size))
          have HHS2 : Hid (∀ u, Calls Try.prog 28 #[.agg #[.int .u64 r.src.a, .int .u64 r.src.b, .int .u64 r.src.c, .int .u64 r.src.d], .int .i64 x.s] u fun e w' => e = .returned (.bool (hasS r.src x.s)) ∧ Below u.heap.size u w') := Lib.hid fun u => rhas_c r.src.a r.src.b r.src.c r.src.d x.s u
          have HNB : Hid (nB r x = (decide (r.k = 4) && (decide (r.cl = x.c) && (hasS r.src x.s && P)))) := Lib.hid (by unfold nB; rw [HPP.out])
          obtain ⟨q, hq⟩ : ∃ q, nB r x = q := ⟨_, rfl⟩
          have HQ := Lib.hid hq
          rw [hq] at HBD HNB
          clear hq HRU HAU HBU HC1 HHS HPV
          go_upto_region 12 with fail
          go_cut [81] from 56 to 81 (fun v81 wx => v81 = .bool q ∧ Hid (Below wc.heap.size wc wx))
          case first =>
            by_cases h4 : r.k = 4
            · have h4b : (r.k == 4) = true := by simpa using h4
              rw [decide_eq_true h4, Bool.true_and] at HNB
              clear h4
              by_cases hc : r.cl = x.c
              · have hcb : (r.cl == x.c) = true := by simpa using hc
                rw [decide_eq_true hc, Bool.true_and] at HNB
                clear hc
                generalize hasS r.src x.s = B2 at *
                cases B2 with
                | true =>
                  have HE : Hid (q = P) := Lib.hid (by rw [HNB.out]; rfl)
                  refine wp_region_kp (by kernel_rfl) (by kernel_rfl) ?_
                  repeat (first
                      | go_big_quiet_skip
                      | (go_big_quiet_want
                         go_big_quiet_op
                         first
                           | go_big_quiet_on
                           | (apply Exists.intro
                              refine ⟨fun w1 hC => ?_, ?_⟩
                              · first
                                  | (go_at_call 28; with_reducible exact hC.call (HHS2.out _))
                                  | (go_simp; exact ⟨rfl, rfl⟩)
                                  | (obtain ⟨y0, y1, y2, y3, y4, y5, y6, y7, y8, y9, y10, y11, y12⟩ := BoxR.cells (hC.blk HRC.out); go_simp; exact rfl)
                                  | (obtain ⟨d0, d1, d2, d3, d4, d5, d6⟩ := HAC.out.keep (hC.block g HAC.out.lt); go_simp; exact rfl)
                              go_big_quiet_on)))
                  refine wpQuiet_nil ?_
                  intro W3 hC
                  have HC := Lib.hid hC
                  clear hC
                  go_wp2_with fail
                  go_meet
                  exact ⟨by rw [HE.out], Lib.hid HC.out⟩
                | false =>
                  have HE : Hid (q = false) := Lib.hid (by rw [HNB.out]; rfl)
                  refine wp_region_kp (by kernel_rfl) (by kernel_rfl) ?_
                  repeat (first
                      | go_big_quiet_skip
                      | (go_big_quiet_want
                         go_big_quiet_op
                         first
                           | go_big_quiet_on
                           | (apply Exists.intro
                              refine ⟨fun w1 hC => ?_, ?_⟩
                              · first
                                  | (go_at_call 28; with_reducible exact hC.call (HHS2.out _))
                                  | (go_simp; exact ⟨rfl, rfl⟩)
                                  | (obtain ⟨y0, y1, y2, y3, y4, y5, y6, y7, y8, y9, y10, y11, y12⟩ := BoxR.cells (hC.blk HRC.out); go_simp; exact rfl)
                                  | (obtain ⟨d0, d1, d2, d3, d4, d5, d6⟩ := HAC.out.keep (hC.block g HAC.out.lt); go_simp; exact rfl)
                              go_big_quiet_on)))
                  refine wpQuiet_nil ?_
                  intro W3 hC
                  have HC := Lib.hid hC
                  clear hC
                  go_wp2_with fail
                  go_meet
                  exact ⟨by rw [HE.out], Lib.hid HC.out⟩
              · have hcb : (r.cl == x.c) = false := by simpa using hc
                have HE : Hid (q = false) := Lib.hid (by rw [HNB.out, decide_eq_false hc]; rfl)
                clear hc
                refine wp_region_kp (by kernel_rfl) (by kernel_rfl) ?_
                repeat (first
                    | go_big_quiet_skip
                    | (go_big_quiet_want
                       go_big_quiet_op
                       first
                         | go_big_quiet_on
                         | (apply Exists.intro
                            refine ⟨fun w1 hC => ?_, ?_⟩
                            · first
                                | (go_at_call 28; with_reducible exact hC.call (HHS2.out _))
                                | (go_simp; exact ⟨rfl, rfl⟩)
                                | (obtain ⟨y0, y1, y2, y3, y4, y5, y6, y7, y8, y9, y10, y11, y12⟩ := BoxR.cells (hC.blk HRC.out); go_simp; exact rfl)
                                | (obtain ⟨d0, d1, d2, d3, d4, d5, d6⟩ := HAC.out.keep (hC.block g HAC.out.lt); go_simp; exact rfl)
                            go_big_quiet_on)))
                refine wpQuiet_nil ?_
                intro W3 hC
                have HC := Lib.hid hC
                clear hC
                go_wp2_with fail
                go_meet
                exact ⟨by rw [HE.out], Lib.hid HC.out⟩
            · have h4b : (r.k == 4) = false := by simpa using h4
              have HE : Hid (q = false) := Lib.hid (by rw [HNB.out, decide_eq_false h4]; rfl)
              clear h4
              refine wp_region_kp (by kernel_rfl) (by kernel_rfl) ?_
              repeat (first
                  | go_big_quiet_skip
                  | (go_big_quiet_want
                     go_big_quiet_op
                     first
                       | go_big_quiet_on
                       | (apply Exists.intro
                          refine ⟨fun w1 hC => ?_, ?_⟩
                          · first
                              | (go_at_call 28; with_reducible exact hC.call (HHS2.out _))
                              | (go_simp; exact ⟨rfl, rfl⟩)
                              | (obtain ⟨y0, y1, y2, y3, y4, y5, y6, y7, y8, y9, y10, y11, y12⟩ := BoxR.cells (hC.blk HRC.out); go_simp; exact rfl)
                              | (obtain ⟨d0, d1, d2, d3, d4, d5, d6⟩ := HAC.out.keep (hC.block g HAC.out.lt); go_simp; exact rfl)
                          go_big_quiet_on)))
              refine wpQuiet_nil ?_
              intro W3 hC
              have HC := Lib.hid hC
              clear hC
              go_wp2_with fail
              go_meet
              exact ⟨by rw [HE.out], Lib.hid HC.out⟩
          case rest =>
          obtain ⟨rfl, HC2⟩ := hcut
          have HRD := Lib.hid (Blk.keep HRC.out HC2.out)
          have HBE := Lib.hid (HBC.out.trans (HC2.out.mono HBC.out.size))
          clear HRC HAC HBC HC2 HHS2 HNB
          cases q with
          | true =>
            have ho := vI_or bb r.pm
            have z11 := (BoxR.cells HRD.out).2.2.2.2.2.2.2.2.2.2.2.1
            go_wp2_with fail
            go_roundw
            case rel => exact ⟨k + 1, hkn, by go_num, by rw [HBD.out]; rfl, HBE⟩
            case measure => simp [intOf]; omega
          | false =>
            go_wp2_with fail
            go_roundw
            case rel => exact ⟨k + 1, hkn, by go_num, by rw [HBD.out]; rfl, HBE⟩
            case measure => simp [intOf]; omega
        · have hkL : k = L.length := by omega
          have hkn' : ¬ (k : Int) < (L.length : Int) := by omega
          have HBB : Hid (badR (L.take k) x = badF F x) := Lib.hid (by rw [hkL, List.take_length]; exact (HBS.out x).symm)
          have HV : Hid (nvE F x = if x.a &&& badF F x = 0#32 then [] else [reE x ⟨x.a &&& badF F x, 0#32, 0#32⟩]) := Lib.hid rfl
          rw [HBB.out]
          generalize badF F x = bb at *
          have HOW := Lib.hid (HO.out.below HB2.out)
          have ha := vI_and x.a bb
          have hAt := HAW.out
          obtain ⟨d0, d1, d2, d3, d4, d5, d6⟩ := hAt
          obtain ⟨y, hy⟩ : ∃ y, reE x ⟨x.a &&& bb, 0#32, 0#32⟩ = y := ⟨_, rfl⟩
          by_cases hz : x.a &&& bb = 0#32
          · have hn : (vI (x.a &&& bb) != 0) = false := by rw [hz]; rfl
            rw [if_pos hz] at HV
            have HZ := Lib.hid hz
            clear hz
            have HBN : Hid (Below W.heap.size W (wr.alloc (.cells #[.int .i64 x.s, .int .i64 x.t, .int .i64 x.c, .int .i64 x.d, .int .u32 (vI (x.a &&& bb)), .int .u32 0, .int .u32 0] 61))) := Lib.hid (HBW.out.alloc HBW.out.size _)
            have HON : Hid (OwnE (wr.alloc (.cells #[.int .i64 x.s, .int .i64 x.t, .int .i64 x.c, .int .i64 x.d, .int .u32 (vI (x.a &&& bb)), .int .u32 0, .int .u32 0] 61)) W.heap.size vo O) := Lib.hid (HOW.out.below ((Below.refl _ _).alloc (Nat.le_refl _) _))
            go_wp2_with fail
            go_roundw
            case rel => exact ⟨i + 1, _, rfl, hlt, by go_num, Lib.hid (by rw [HX.out, HV.out, List.append_nil]; exact HON.out), HBN⟩
            case measure => simp [intOf]; omega
          · have hn : (vI (x.a &&& bb) != 0) = true := by
              have : vI (x.a &&& bb) ≠ 0 := fun e => hz (vI_inj (e.trans vI_zero.symm))
              simpa using this
            rw [if_neg hz, hy] at HV
            have HZ := Lib.hid hz
            have HYY := Lib.hid hy
            clear hz hy
            have HBN : Hid (Below W.heap.size W (wr.alloc (.cells #[.int .i64 x.s, .int .i64 x.t, .int .i64 x.c, .int .i64 x.d, .int .u32 (vI (x.a &&& bb)), .int .u32 0, .int .u32 0] 61))) := Lib.hid (HBW.out.alloc HBW.out.size _)
            have HON : Hid (OwnE (wr.alloc (.cells #[.int .i64 x.s, .int .i64 x.t, .int .i64 x.c, .int .i64 x.d, .int .u32 (vI (x.a &&& bb)), .int .u32 0, .int .u32 0] 61)) W.heap.size vo O) := Lib.hid (HOW.out.below ((Below.refl _ _).alloc (Nat.le_refl _) _))
            go_wp2_with (at_builtin; refine wpList_append_E (by rfl) _ _ (by rfl) W.heap.size vo O O.length rfl (by rfl) (HON.out.below ((Below.refl _ _).alloc (Nat.le_refl _) _)) (wr.heap.size + 1) y (by rfl) (by
                have h := Blk.new (wr.alloc (.cells #[.int .i64 x.s, .int .i64 x.t, .int .i64 x.c, .int .i64 x.d, .int .u32 (vI (x.a &&& bb)), .int .u32 0, .int .u32 0] 61)) 61 #[.int .i64 x.s, .int .i64 x.t, .int .i64 x.c, .int .i64 x.d, .int .u32 (vI (x.a &&& bb)), .int .u32 0, .int .u32 0]
                rw [World.size_alloc] at h
                rw [← HYY.out]; exact h) (by have := HNL.out; omega) (by have := HBW.out.size; simp; omega) ?_; intro g' cap' w6 h1 h2 h3; have H1 := Lib.hid h1; have H2 := Lib.hid h2; clear h1 h2 h3)
            have HB6 : Hid (Below W.heap.size W w6) := Lib.hid ((HBN.out.alloc HBN.out.size _).grown H2.out (by have := HBN.out.size; rw [World.size_alloc]; omega) (fun k e => (World.ownsRow.lt HOW.out k e).1))
            go_wp2_with fail
            go_roundw
            case rel => exact ⟨i + 1, _, rfl, hlt, by go_num, Lib.hid (by rw [HX.out, HV.out]; exact H1.out), HB6⟩
            case measure => simp [intOf]; omega
    · have hiL : i = l.length := by omega
      have hlt' : ¬ (i : Int) < (l.length : Int) := by omega
      have HOA : Hid (OwnE wr W.heap.size vo (nevE F l)) := Lib.hid (by have := HO.out; rwa [hiL, List.take_length] at this)
      go_wp2_with fail
      go_ret
      exact ⟨_, rfl, by rw [HFF.out, HLL.out]; exact HOA.out.ents, by first | exact HB1.out.trans (HB.out.mono (by have := HG1.out; omega)) | (rw [hgp]; exact HB1.out.trans (HB.out.mono (by have := HG1.out; omega)))⟩
end Go.Proofs.Ytjikbffnhfoikaa
