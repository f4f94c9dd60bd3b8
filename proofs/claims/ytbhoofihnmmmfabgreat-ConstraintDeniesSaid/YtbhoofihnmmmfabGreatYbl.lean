/- Part of the proof: Cyp. No conditions. -/
import Derived.Test.YtbhoofihnmmmfabGreatYbk
namespace Go.Proofs.YtbhoofihnmmmfabGreat
open Go.RowKit Go
def aw1 (W0 : World) (k : Nat) (v : Value) (u : World) : Prop := match k with
 | 0 => ∃ gf gd, PolS gf gd u v
 | 1 => ∃ g, v = .pointer (some ⟨g, 0, none⟩) ∧ W0.heap.size ≤ g ∧ Blk u g 39 #[.slice none 0 0, .slice none 0 0, .slice none 0 0, .slice none 0 0, .slice none 0 0, .slice none 0 0, .slice none 0 0, .slice none 0 0, .slice none 0 0, .slice none 0 0, .slice none 0 0, .slice none 0 0, .slice none 0 0, .slice none 0 0, .slice none 0 0, .slice none 0 0, .slice none 0 0]
 | _ => True
theorem aw1_keep {W0 : World} {k : Nat} {v : Value} {u u' : World} (h : aw1 W0 k v u) (hb : Below u.heap.size u u') : aw1 W0 k v u' := by
 unfold aw1 at h ⊢
 split at h
 · obtain ⟨gf, gd, h⟩ := h
   exact ⟨gf, gd, h.keep hb⟩
 · obtain ⟨g, h1, h2, h3⟩ := h
   exact ⟨g, h1, h2, h3.keep hb⟩
 · trivial
def awC (V RX : Value) (code : Int) (m : Nat) (cs : List Value) (W0 : World) (k : Nat) (v : Value) (u : World) : Prop := match k with
 | 0 => Lst u v 9 m cs
 | 1 => ∃ p, v = .agg #[.int .i64 9, .int .i64 2, .int .i64 0, .int .i64 0, p, .int .u64 0, .int .u64 0, .int .u64 0, .int .u64 0, .slice none 0 0] ∧ Lst u p 9 m cs
 | 2 => v = V
 | 3 => v = .tuple #[RX, .int .i64 code]
 | 4 => v = .tuple #[RX, .int .i64 code]
 | 5 => v = RX
 | 6 => v = .int .i64 code
 | 7 => ∃ g, v = .pointer (some ⟨g, 0, none⟩) ∧ W0.heap.size ≤ g ∧ Blk u g 55 #[.int .i64 0, .int .i64 0, .int .i64 0, .int .i64 0, .slice none 0 0, .int .u64 0, .int .u64 0, .int .u64 0, .int .u64 0, .slice none 0 0]
 | _ => True
theorem awC_keep {V RX : Value} {code : Int} {m : Nat} {cs : List Value} {W0 : World} {k : Nat} {v : Value} {u u' : World} (h : awC V RX code m cs W0 k v u) (hb : Below u.heap.size u u') : awC V RX code m cs W0 k v u' := by
 unfold awC at h ⊢
 split at h
 · exact h.keep hb
 · obtain ⟨p, e, h⟩ := h
   exact ⟨p, e, h.keep hb⟩
 iterate 5 exact h
 · obtain ⟨g, h1, h2, h3⟩ := h
   exact ⟨g, h1, h2, h3.keep hb⟩
 · trivial
theorem blk_ne {u : World} {g g0 : Nat} {T P : TypeId} {cs cs0 : Array Value} (h : Blk u g T cs) (hR : Blk u g0 P cs0) (hne : T ≠ P) : g ≠ g0 := fun e => by
 subst e
 unfold Blk at h hR
 rw [h] at hR
 simp only [Option.some.injEq, Obj.cells.injEq] at hR
 exact hne hR.2.1
def aw7 (W0 : World) (k : Nat) (v : Value) (u : World) : Prop := match k with
 | 0 => v = .agg #[.int .i64 0, .int .i64 1, .int .i64 0, .int .i64 0, .int .u64 0, .int .i64 0, .int .u64 0]
 | 1 => v = .agg #[.int .i64 0, .int .i64 0, .int .i64 2, .int .i64 0, .int .u64 0, .int .i64 0, .int .u64 0]
 | 2 => v = .agg #[.int .i64 0, .int .i64 1, .int .i64 0, .int .i64 0, .int .u64 0, .int .i64 0, .int .u64 0, .int .i64 0, .int .i64 0, .int .i64 2, .int .i64 0, .int .u64 0, .int .i64 0, .int .u64 0, .int .i64 0, .int .i64 0, .int .i64 0, .int .i64 0, .int .u64 0, .int .i64 0, .int .u64 0]
 | 3 => ∃ g, v = .pointer (some ⟨g, 0, none⟩) ∧ W0.heap.size ≤ g ∧ Blk u g 48 #[.int .i64 0, .int .i64 0, .int .i64 0, .int .i64 0, .int .u64 0, .int .i64 0, .int .u64 0, .int .i64 0, .int .i64 0, .int .i64 0, .int .i64 0, .int .u64 0, .int .i64 0, .int .u64 0, .int .i64 0, .int .i64 0, .int .i64 0, .int .i64 0, .int .u64 0, .int .i64 0, .int .u64 0]
 | _ => True
theorem aw7_keep {W0 : World} {k : Nat} {v : Value} {u u' : World} (h : aw7 W0 k v u) (hb : Below u.heap.size u u') : aw7 W0 k v u' := by
 unfold aw7 at h ⊢
 split at h
 iterate 3 exact h
 · obtain ⟨g, h1, h2, h3⟩ := h
   exact ⟨g, h1, h2, h3.keep hb⟩
 · trivial
def sqV (L : List Value) (k : Nat) (v : Value) : Prop := match L[k]? with | some x => v = x | none => True
def aw8L (v0 v1 v2 v3 v4 v5 v6 v8 v9 v10 v14 : Value) (_ g8 gk : Nat) : List Value := [.agg #[v0, v1, v2, v3, v4, v5, v6, .slice none 0 0, v8, v9, v10, .slice none 0 0, .slice none 0 0, .slice (some ⟨gk, 0, none⟩) 1 1, v14, .slice none 0 0, .slice none 0 0], .pointer (some ⟨g8, 0, none⟩), .agg #[.int .i64 0, .int .i64 1, .int .i64 0, .int .i64 0, .int .u64 0, .int .i64 0, .int .u64 0], .pointer (some ⟨g8, 7, none⟩), .agg #[.int .i64 0, .int .i64 0, .int .i64 2, .int .i64 0, .int .u64 0, .int .i64 0, .int .u64 0], .tuple #[.int .u32 2, .int .i64 0], .tuple #[.int .u32 2, .int .i64 0], .int .u32 2, .int .i64 0]
def aw9L (v0 v1 v2 v3 v4 v5 v6 v8 v9 v10 v14 : Value) (g2 _ gk : Nat) : List Value := [.pointer (some ⟨g2, 5, none⟩), .agg #[.int .u64 5, .int .u64 0, .int .u64 0, .int .u64 0], .agg #[.int .u64 5, .int .u64 0, .int .u64 0, .int .u64 0], .bool true, .bool true, .int .i64 0, .bool true, .bool true, .bool true, .int .i64 11, .bool true, .bool true, .bool true, .agg #[.int .i64 8, .int .i64 1, .int .i64 0, .int .i64 6, .slice none 0 0, .int .u64 0, .int .u64 0, .int .u64 0, .int .u64 0, .slice none 0 0], .agg #[.int .i64 0, .int .i64 1, .int .i64 0, .int .i64 0, .int .u64 0, .int .i64 0, .int .u64 0, .int .i64 0, .int .i64 0, .int .i64 2, .int .i64 0, .int .u64 0, .int .i64 0, .int .u64 0, .int .i64 0, .int .i64 0, .int .i64 0, .int .i64 0, .int .u64 0, .int .i64 0, .int .u64 0], .bool false, .bool true, .bool true, .bool true, .agg #[.int .i64 8, .int .i64 3, .int .i64 2, .int .i64 8, .slice none 0 0, .int .u64 0, .int .u64 0, .int .u64 0, .int .u64 0, .slice none 0 0], .agg #[.int .i64 0, .int .i64 1, .int .i64 0, .int .i64 0, .int .u64 0, .int .i64 0, .int .u64 0, .int .i64 0, .int .i64 0, .int .i64 2, .int .i64 0, .int .u64 0, .int .i64 0, .int .u64 0, .int .i64 0, .int .i64 0, .int .i64 0, .int .i64 0, .int .u64 0, .int .i64 0, .int .u64 0], .bool true, .bool true, .bool true, .int .u32 2, .bool true, .bool true, .bool true, .int .i64 0, .bool true, .bool true, .bool true, .agg #[.int .i64 8, .int .i64 1, .int .i64 0, .int .i64 6, .slice none 0 0, .int .u64 0, .int .u64 0, .int .u64 0, .int .u64 0, .slice none 0 0], .bool true, .bool true, .bool true, .agg #[.int .i64 8, .int .i64 1, .int .i64 0, .int .i64 6, .slice none 0 0, .int .u64 0, .int .u64 0, .int .u64 0, .int .u64 0, .slice none 0 0], .agg #[v0, v1, v2, v3, v4, v5, v6, .slice none 0 0, v8, v9, v10, .slice none 0 0, .slice none 0 0, .slice (some ⟨gk, 0, none⟩) 1 1, v14, .slice none 0 0, .slice none 0 0], .int .i64 0, .bool true, .bool true]
set_option maxRecDepth 100000 in
set_option maxHeartbeats 64000000 in
theorem awake_c (w : World) : Calls Tryz.prog 5 #[] w fun e w' => e = .returned (.bool true) ∧ Below w.heap.size w w' := by
 go_enter Tryz.func5, Tryz.ntmps5
 go_upto_region 1 with fail
 refine wp_region_sqt 2 (aw1 w) (by decide) (by kernel_rfl) (fun k v u u2 h hb => aw1_keep h hb) ?_ ?_
 · refine ⟨⟨trivial, fun A u hK hF => ?_⟩, ⟨trivial, fun A u hK hF => ?_⟩, trivial⟩
   · unfold Gives
     go_simp
     exact gives_enter ((sample_c u).mono fun e w2 ⟨v, gf, gd, he, hp, _, _, hb⟩ => ⟨v, he, hb, gf, gd, hp⟩)
   · unfold Gives
     go_simp
     exact gives_val ((Below.refl _ _).alloc (Nat.le_refl _) _) ⟨_, rfl, hK.size, Blk.new _ _ _⟩
 intro a0 W2 hC hsz hdf hF
 have ha := end_mask [false, true, false, false, false, false, false, false, false, false, false, true, false, false, false, false, false, false, false, false, false, false, false, false, false, false, false, false, false, false, false, false, false, false, false, false, false, false, false, false, false, false, false, false, false, false, false, false, false, false, false, false, false, false, false, false, false, false, false, false, false, false, false, false, false, false, false, false, false, false, false, false, false, false, false, false, false, false, false, false, false, false, false, false, false] hsz hdf hF (by kernel_rfl)
 obtain ⟨gf, gd, v0, v1, v2, v3, v4, v5, v6, v8, v9, v10, v14, e11, hrest⟩ : ∃ gf gd, PolS gf gd W2 (a0.tmps[11]?.getD undef) := fact_end (hF 11) (j := 0) (by kernel_rfl)
 obtain ⟨gp, e1, hgp, hb1⟩ : ∃ g, a0.tmps[1]?.getD undef = .pointer (some ⟨g, 0, none⟩) ∧ w.heap.size ≤ g ∧ Blk W2 g 39 #[.slice none 0 0, .slice none 0 0, .slice none 0 0, .slice none 0 0, .slice none 0 0, .slice none 0 0, .slice none 0 0, .slice none 0 0, .slice none 0 0, .slice none 0 0, .slice none 0 0, .slice none 0 0, .slice none 0 0, .slice none 0 0, .slice none 0 0, .slice none 0 0, .slice none 0 0] := fact_end (hF 1) (j := 1) (by kernel_rfl)
 rw [ha]
 clear ha hF hsz hdf
 simp only [cutM_yes, cutM_no, cutM_nil, Nat.reduceAdd]
 rw [e11, e1]
 clear e11 e1
 have one : ∀ x ∈ ([v0, v1, v2, v3, v4, v5, v6, .slice none 0 0, v8, v9, v10, .slice none 0 0, .slice none 0 0, .slice none 0 0, v14, .slice none 0 0, .slice none 0 0] : List Value), x.oneCell' = true := by
  obtain ⟨⟨_, -, g, rfl, -⟩, ⟨_, rfl, -⟩, ⟨_, rfl, -⟩, ⟨_, rfl, -⟩, ⟨_, rfl, -⟩, ⟨_, rfl, -⟩, ⟨_, rfl, -⟩, ⟨_, rfl, -⟩, ⟨_, rfl, -⟩, ⟨_, rfl, -⟩, ⟨_, rfl, -⟩⟩ := hrest
  intro x hx
  simp only [List.mem_cons, List.not_mem_nil, or_false] at hx
  rcases hx with rfl | rfl | rfl | rfl | rfl | rfl | rfl | rfl | rfl | rfl | rfl | rfl | rfl | rfl | rfl | rfl | rfl <;> rfl
 refine wpList_store_row (by rfl) _ _ rfl rfl (by rfl) [v0, v1, v2, v3, v4, v5, v6, .slice none 0 0, v8, v9, v10, .slice none 0 0, .slice none 0 0, .slice none 0 0, v14, .slice none 0 0, .slice none 0 0] (.agg #[v0, v1, v2, v3, v4, v5, v6, .slice none 0 0, v8, v9, v10, .slice none 0 0, .slice none 0 0, .slice none 0 0, v14, .slice none 0 0, .slice none 0 0]) (by rfl) rfl (size_pol _) hb1 rfl one ?_
 have HP0 : Hid (Blk (W2.setRow gp [v0, v1, v2, v3, v4, v5, v6, .slice none 0 0, v8, v9, v10, .slice none 0 0, .slice none 0 0, .slice none 0 0, v14, .slice none 0 0, .slice none 0 0].toArray) gp 39 #[v0, v1, v2, v3, v4, v5, v6, .slice none 0 0, v8, v9, v10, .slice none 0 0, .slice none 0 0, .slice none 0 0, v14, .slice none 0 0, .slice none 0 0]) := Lib.hid (hb1.row [v0, v1, v2, v3, v4, v5, v6, .slice none 0 0, v8, v9, v10, .slice none 0 0, .slice none 0 0, .slice none 0 0, v14, .slice none 0 0, .slice none 0 0])
 have HB0 : Hid (Below w.heap.size w (W2.setRow gp [v0, v1, v2, v3, v4, v5, v6, .slice none 0 0, v8, v9, v10, .slice none 0 0, .slice none 0 0, .slice none 0 0, v14, .slice none 0 0, .slice none 0 0].toArray)) := Lib.hid (below_row hC hgp _)
 obtain ⟨-, h1, h2, -⟩ := hrest
 have HT0 : Hid (SlR 3 CTy (W2.setRow gp [v0, v1, v2, v3, v4, v5, v6, .slice none 0 0, v8, v9, v10, .slice none 0 0, .slice none 0 0, .slice none 0 0, v14, .slice none 0 0, .slice none 0 0].toArray) v1 tysS) := Lib.hid (tysS_mem (h1.other hb1 (by decide) _))
 have HA0 : Hid (SlR 5 CAt (W2.setRow gp [v0, v1, v2, v3, v4, v5, v6, .slice none 0 0, v8, v9, v10, .slice none 0 0, .slice none 0 0, .slice none 0 0, v14, .slice none 0 0, .slice none 0 0].toArray) v2 atsS) := Lib.hid (atsS_mem (h2.other hb1 (by decide) _))
 have HGP : Hid (w.heap.size ≤ gp) := Lib.hid hgp
 clear one hb1 hgp hC h1 h2
 generalize W2.setRow gp [v0, v1, v2, v3, v4, v5, v6, .slice none 0 0, v8, v9, v10, .slice none 0 0, .slice none 0 0, .slice none 0 0, v14, .slice none 0 0, .slice none 0 0].toArray = U0 at *
 generalize (Value.agg #[v0, v1, v2, v3, v4, v5, v6, .slice none 0 0, v8, v9, v10, .slice none 0 0, .slice none 0 0, .slice none 0 0, v14, .slice none 0 0, .slice none 0 0]) = PV11
 go_upto_region 2 with fail
 refine wp_region_sqt 8 (awC (.agg #[v0, v1, v2, v3, v4, v5, v6, .slice none 0 0, v8, v9, v10, .slice none 0 0, .slice none 0 0, .slice none 0 0, v14, .slice none 0 0, .slice none 0 0]) (.agg #[.int .i64 9, .int .i64 2, .int .i64 0, .int .i64 0, .slice none 0 0, .int .u64 5, .int .u64 0, .int .u64 0, .int .u64 0, .slice none 0 0]) 0 2 (nmE1.map Value.string) U0) (by decide) (by kernel_rfl) (fun k v u u2 h hb => awC_keep h hb) ?_ ?_
 · refine ⟨⟨trivial, fun A u hK hF => ?_⟩, ⟨trivial, fun A u hK hF => ?_⟩, ⟨trivial, fun A u hK hF => ?_⟩, ⟨trivial, fun A u hK hF => ?_⟩, ⟨trivial, fun A u hK hF => ?_⟩, ⟨trivial, fun A u hK hF => ?_⟩, ⟨trivial, fun A u hK hF => ?_⟩, ⟨trivial, fun A u hK hF => ?_⟩, trivial⟩
   · unfold Gives
     go_simp
     exact gives_val ((Below.refl _ _).alloc (Nat.le_refl _) _) ⟨_, rfl, Blk.new _ _ _⟩
   · obtain ⟨g1, f1, h1⟩ := (fact_some (hF 13) (j := 0) (by kernel_rfl) (by kernel_rfl) : Lst u (A.tmps[13]?.getD undef) 9 2 (nmE1.map Value.string))
     unfold Gives
     go_simp
     exact gives_val (Below.refl _ _) ⟨_, rfl, _, rfl, h1⟩
   · have f1 : A.tmps[1]?.getD undef = .pointer (some ⟨gp, 0, none⟩) := fact_none (hF 1) (by kernel_rfl)
     unfold Gives
     rw [run_load (.tmp 1) rfl (by rw [← f1]; simp [Act.eval]) (loadAt_blk [v0, v1, v2, v3, v4, v5, v6, .slice none 0 0, v8, v9, v10, .slice none 0 0, .slice none 0 0, .slice none 0 0, v14, .slice none 0 0, .slice none 0 0] (agg_pol _) (size_pol _) (Blk.keep HP0.out hK))]
     exact gives_val (Below.refl _ _) rfl
   · obtain ⟨p, f1, h1⟩ := (fact_some (hF 14) (j := 1) (by kernel_rfl) (by kernel_rfl) : ∃ p, A.tmps[14]?.getD undef = .agg #[.int .i64 9, .int .i64 2, .int .i64 0, .int .i64 0, p, .int .u64 0, .int .u64 0, .int .u64 0, .int .u64 0, .slice none 0 0] ∧ Lst u p 9 2 (nmE1.map Value.string))
     have f2 : A.tmps[15]?.getD undef = .agg #[v0, v1, v2, v3, v4, v5, v6, .slice none 0 0, v8, v9, v10, .slice none 0 0, .slice none 0 0, .slice none 0 0, v14, .slice none 0 0, .slice none 0 0] := fact_some (hF 15) (j := 2) (by kernel_rfl) (by kernel_rfl)
     have hk : Below U0.heap.size U0 u := hK
     unfold Gives
     go_simp
     exact gives_enter ((compile_yes v0 v1 v2 v3 v4 v5 v6 (.slice none 0 0) v8 v9 v10 (.slice none 0 0) (.slice none 0 0) (.slice none 0 0) v14 (.slice none 0 0) (.slice none 0 0) tysS atsS p (.slice none 0 0) nmE1 ⟨5, 0, 0, 0⟩ u (HT0.out.keep (fun hg k => CTy.keep hk hg k) hk) (HA0.out.keep (fun hg k => CAt.keep hk hg k) hk) (by decide) (by decide) (xv_in (lst_strs h1) tx1 (by unfold maxLen; decide)) (by unfold maxLen; decide) (by decide) ex_m1 (by decide)).mono fun e w2 ⟨he, hb⟩ => ⟨_, he, hb, rfl⟩)
   · have f1 : A.tmps[16]?.getD undef = .tuple #[.agg #[.int .i64 9, .int .i64 2, .int .i64 0, .int .i64 0, .slice none 0 0, .int .u64 5, .int .u64 0, .int .u64 0, .int .u64 0, .slice none 0 0], .int .i64 0] := fact_some (hF 16) (j := 3) (by kernel_rfl) (by kernel_rfl)
     unfold Gives
     go_simp
     exact gives_val (Below.refl _ _) rfl
   · have f1 : A.tmps[12]?.getD undef = .tuple #[.agg #[.int .i64 9, .int .i64 2, .int .i64 0, .int .i64 0, .slice none 0 0, .int .u64 5, .int .u64 0, .int .u64 0, .int .u64 0, .slice none 0 0], .int .i64 0] := fact_some (hF 12) (j := 4) (by kernel_rfl) (by kernel_rfl)
     unfold Gives
     go_simp
     exact gives_val (Below.refl _ _) rfl
   · have f1 : A.tmps[12]?.getD undef = .tuple #[.agg #[.int .i64 9, .int .i64 2, .int .i64 0, .int .i64 0, .slice none 0 0, .int .u64 5, .int .u64 0, .int .u64 0, .int .u64 0, .slice none 0 0], .int .i64 0] := fact_some (hF 12) (j := 4) (by kernel_rfl) (by kernel_rfl)
     unfold Gives
     go_simp
     exact gives_val (Below.refl _ _) rfl
   · unfold Gives
     go_simp
     exact gives_val ((Below.refl _ _).alloc (Nat.le_refl _) _) ⟨_, rfl, hK.size, Blk.new _ _ _⟩
 intro a0 W2 hC hsz hdf hF
 have ha := end_mask [false, false, true, false, false, false, false, false, false, false, false, false, true, true, true, true, true, true, true, false, false, false, false, false, false, false, false, false, false, false, false, false, false, false, false, false, false, false, false, false, false, false, false, false, false, false, false, false, false, false, false, false, false, false, false, false, false, false, false, false, false, false, false, false, false, false, false, false, false, false, false, false, false, false, false, false, false, false, false, false, false, false, false, false, false] hsz hdf hF (by kernel_rfl)
 have e5 : a0.tmps[17]?.getD undef = .agg #[.int .i64 9, .int .i64 2, .int .i64 0, .int .i64 0, .slice none 0 0, .int .u64 5, .int .u64 0, .int .u64 0, .int .u64 0, .slice none 0 0] := fact_end (hF 17) (j := 5) (by kernel_rfl)
 have e6 : a0.tmps[18]?.getD undef = .int .i64 0 := fact_end (hF 18) (j := 6) (by kernel_rfl)
 obtain ⟨g2, e7, hg, hb⟩ : ∃ g, a0.tmps[2]?.getD undef = .pointer (some ⟨g, 0, none⟩) ∧ U0.heap.size ≤ g ∧ Blk W2 g 55 #[.int .i64 0, .int .i64 0, .int .i64 0, .int .i64 0, .slice none 0 0, .int .u64 0, .int .u64 0, .int .u64 0, .int .u64 0, .slice none 0 0] := fact_end (hF 2) (j := 7) (by kernel_rfl)
 rw [ha]
 clear ha hF hsz hdf
 simp only [cutM_yes, cutM_no, cutM_nil, Nat.reduceAdd]
 rw [e5, e6, e7]
 clear e5 e6 e7
 generalize a0.tmps[13]?.getD undef = s13
 generalize a0.tmps[14]?.getD undef = s14
 generalize a0.tmps[15]?.getD undef = s15
 generalize a0.tmps[16]?.getD undef = s16
 generalize a0.tmps[12]?.getD undef = s12
 refine wpList_store_row (by rfl) _ _ rfl rfl (by rfl) [.int .i64 9, .int .i64 2, .int .i64 0, .int .i64 0, .slice none 0 0, .int .u64 5, .int .u64 0, .int .u64 0, .int .u64 0, .slice none 0 0] (.agg #[.int .i64 9, .int .i64 2, .int .i64 0, .int .i64 0, .slice none 0 0, .int .u64 5, .int .u64 0, .int .u64 0, .int .u64 0, .slice none 0 0]) (by rfl) rfl (size_expr _) hb rfl (by intro x hx; simp only [List.mem_cons, List.not_mem_nil, or_false] at hx; rcases hx with rfl | rfl | rfl | rfl | rfl | rfl | rfl | rfl | rfl | rfl <;> rfl) ?_
 have HX2 : Hid (Blk (W2.setRow g2 [.int .i64 9, .int .i64 2, .int .i64 0, .int .i64 0, .slice none 0 0, .int .u64 5, .int .u64 0, .int .u64 0, .int .u64 0, .slice none 0 0].toArray) g2 55 #[.int .i64 9, .int .i64 2, .int .i64 0, .int .i64 0, .slice none 0 0, .int .u64 5, .int .u64 0, .int .u64 0, .int .u64 0, .slice none 0 0]) := Lib.hid (hb.row _)
 have hk : Below U0.heap.size U0 (W2.setRow g2 [.int .i64 9, .int .i64 2, .int .i64 0, .int .i64 0, .slice none 0 0, .int .u64 5, .int .u64 0, .int .u64 0, .int .u64 0, .slice none 0 0].toArray) := below_row hC hg _
 have HB1 := Lib.hid (HB0.out.trans (hk.mono HB0.out.size))
 have HP1 := Lib.hid (HP0.out.keep hk)
 have HT1 := Lib.hid (HT0.out.keep (fun hg k => CTy.keep hk hg k) hk)
 have HA1 := Lib.hid (HA0.out.keep (fun hg k => CAt.keep hk hg k) hk)
 generalize W2.setRow g2 [.int .i64 9, .int .i64 2, .int .i64 0, .int .i64 0, .slice none 0 0, .int .u64 5, .int .u64 0, .int .u64 0, .int .u64 0, .slice none 0 0].toArray = U1 at *
 clear hC hg hb hk HP0 HT0 HA0 HB0
 go_upto_region 3 with fail
 refine wp_region_sqt 8 (awC (.agg #[v0, v1, v2, v3, v4, v5, v6, .slice none 0 0, v8, v9, v10, .slice none 0 0, .slice none 0 0, .slice none 0 0, v14, .slice none 0 0, .slice none 0 0]) (.agg #[.int .i64 0, .int .i64 0, .int .i64 0, .int .i64 0, .slice none 0 0, .int .u64 0, .int .u64 0, .int .u64 0, .int .u64 0, .slice none 0 0]) 11 1 (nmE2.map Value.string) U1) (by decide) (by kernel_rfl) (fun k v u u2 h hb => awC_keep h hb) ?_ ?_
 · refine ⟨⟨trivial, fun A u hK hF => ?_⟩, ⟨trivial, fun A u hK hF => ?_⟩, ⟨trivial, fun A u hK hF => ?_⟩, ⟨trivial, fun A u hK hF => ?_⟩, ⟨trivial, fun A u hK hF => ?_⟩, ⟨trivial, fun A u hK hF => ?_⟩, ⟨trivial, fun A u hK hF => ?_⟩, ⟨trivial, fun A u hK hF => ?_⟩, trivial⟩
   · unfold Gives
     go_simp
     exact gives_val ((Below.refl _ _).alloc (Nat.le_refl _) _) ⟨_, rfl, Blk.new _ _ _⟩
   · obtain ⟨g1, f1, h1⟩ := (fact_some (hF 20) (j := 0) (by kernel_rfl) (by kernel_rfl) : Lst u (A.tmps[20]?.getD undef) 9 1 (nmE2.map Value.string))
     unfold Gives
     go_simp
     exact gives_val (Below.refl _ _) ⟨_, rfl, _, rfl, h1⟩
   · have f1 : A.tmps[1]?.getD undef = .pointer (some ⟨gp, 0, none⟩) := fact_none (hF 1) (by kernel_rfl)
     unfold Gives
     rw [run_load (.tmp 1) rfl (by rw [← f1]; simp [Act.eval]) (loadAt_blk [v0, v1, v2, v3, v4, v5, v6, .slice none 0 0, v8, v9, v10, .slice none 0 0, .slice none 0 0, .slice none 0 0, v14, .slice none 0 0, .slice none 0 0] (agg_pol _) (size_pol _) (Blk.keep HP1.out hK))]
     exact gives_val (Below.refl _ _) rfl
   · obtain ⟨p, f1, h1⟩ := (fact_some (hF 21) (j := 1) (by kernel_rfl) (by kernel_rfl) : ∃ p, A.tmps[21]?.getD undef = .agg #[.int .i64 9, .int .i64 2, .int .i64 0, .int .i64 0, p, .int .u64 0, .int .u64 0, .int .u64 0, .int .u64 0, .slice none 0 0] ∧ Lst u p 9 1 (nmE2.map Value.string))
     have f2 : A.tmps[22]?.getD undef = .agg #[v0, v1, v2, v3, v4, v5, v6, .slice none 0 0, v8, v9, v10, .slice none 0 0, .slice none 0 0, .slice none 0 0, v14, .slice none 0 0, .slice none 0 0] := fact_some (hF 22) (j := 2) (by kernel_rfl) (by kernel_rfl)
     have hk : Below U1.heap.size U1 u := hK
     unfold Gives
     go_simp
     exact gives_enter ((compile_none v0 v1 v2 v3 v4 v5 v6 (.slice none 0 0) v8 v9 v10 (.slice none 0 0) (.slice none 0 0) (.slice none 0 0) v14 (.slice none 0 0) (.slice none 0 0) tysS atsS p (.slice none 0 0) nmE2 u (HT1.out.keep (fun hg k => CTy.keep hk hg k) hk) (HA1.out.keep (fun hg k => CAt.keep hk hg k) hk) (by decide) (by decide) (xv_in (lst_strs h1) tx2 (by unfold maxLen; decide)) (by unfold maxLen; decide) (by decide) ex_m2).mono fun e w2 ⟨he, hb⟩ => ⟨_, he, hb, rfl⟩)
   · have f1 : A.tmps[23]?.getD undef = .tuple #[.agg #[.int .i64 0, .int .i64 0, .int .i64 0, .int .i64 0, .slice none 0 0, .int .u64 0, .int .u64 0, .int .u64 0, .int .u64 0, .slice none 0 0], .int .i64 11] := fact_some (hF 23) (j := 3) (by kernel_rfl) (by kernel_rfl)
     unfold Gives
     go_simp
     exact gives_val (Below.refl _ _) rfl
   · have f1 : A.tmps[19]?.getD undef = .tuple #[.agg #[.int .i64 0, .int .i64 0, .int .i64 0, .int .i64 0, .slice none 0 0, .int .u64 0, .int .u64 0, .int .u64 0, .int .u64 0, .slice none 0 0], .int .i64 11] := fact_some (hF 19) (j := 4) (by kernel_rfl) (by kernel_rfl)
     unfold Gives
     go_simp
     exact gives_val (Below.refl _ _) rfl
   · have f1 : A.tmps[19]?.getD undef = .tuple #[.agg #[.int .i64 0, .int .i64 0, .int .i64 0, .int .i64 0, .slice none 0 0, .int .u64 0, .int .u64 0, .int .u64 0, .int .u64 0, .slice none 0 0], .int .i64 11] := fact_some (hF 19) (j := 4) (by kernel_rfl) (by kernel_rfl)
     unfold Gives
     go_simp
     exact gives_val (Below.refl _ _) rfl
   · unfold Gives
     go_simp
     exact gives_val ((Below.refl _ _).alloc (Nat.le_refl _) _) ⟨_, rfl, hK.size, Blk.new _ _ _⟩
 intro a0 W2 hC hsz hdf hF
 have ha := end_mask [false, false, false, false, true, false, false, false, false, false, false, false, false, false, false, false, false, false, false, true, true, true, true, true, true, true, false, false, false, false, false, false, false, false, false, false, false, false, false, false, false, false, false, false, false, false, false, false, false, false, false, false, false, false, false, false, false, false, false, false, false, false, false, false, false, false, false, false, false, false, false, false, false, false, false, false, false, false, false, false, false, false, false, false, false] hsz hdf hF (by kernel_rfl)
 have e5 : a0.tmps[24]?.getD undef = .agg #[.int .i64 0, .int .i64 0, .int .i64 0, .int .i64 0, .slice none 0 0, .int .u64 0, .int .u64 0, .int .u64 0, .int .u64 0, .slice none 0 0] := fact_end (hF 24) (j := 5) (by kernel_rfl)
 have e6 : a0.tmps[25]?.getD undef = .int .i64 11 := fact_end (hF 25) (j := 6) (by kernel_rfl)
 obtain ⟨g4, e7, hg, hb⟩ : ∃ g, a0.tmps[4]?.getD undef = .pointer (some ⟨g, 0, none⟩) ∧ U1.heap.size ≤ g ∧ Blk W2 g 55 #[.int .i64 0, .int .i64 0, .int .i64 0, .int .i64 0, .slice none 0 0, .int .u64 0, .int .u64 0, .int .u64 0, .int .u64 0, .slice none 0 0] := fact_end (hF 4) (j := 7) (by kernel_rfl)
 rw [ha]
 clear ha hF hsz hdf
 simp only [cutM_yes, cutM_no, cutM_nil, Nat.reduceAdd]
 rw [e5, e6, e7]
 clear e5 e6 e7
 generalize a0.tmps[20]?.getD undef = s20
 generalize a0.tmps[21]?.getD undef = s21
 generalize a0.tmps[22]?.getD undef = s22
 generalize a0.tmps[23]?.getD undef = s23
 generalize a0.tmps[19]?.getD undef = s19
 refine wpList_store_row (by rfl) _ _ rfl rfl (by rfl) [.int .i64 0, .int .i64 0, .int .i64 0, .int .i64 0, .slice none 0 0, .int .u64 0, .int .u64 0, .int .u64 0, .int .u64 0, .slice none 0 0] (.agg #[.int .i64 0, .int .i64 0, .int .i64 0, .int .i64 0, .slice none 0 0, .int .u64 0, .int .u64 0, .int .u64 0, .int .u64 0, .slice none 0 0]) (by rfl) rfl (size_expr _) hb rfl (by intro x hx; simp only [List.mem_cons, List.not_mem_nil, or_false] at hx; rcases hx with rfl | rfl | rfl | rfl | rfl | rfl | rfl | rfl | rfl | rfl <;> rfl) ?_
 have HX4 : Hid (Blk (W2.setRow g4 [.int .i64 0, .int .i64 0, .int .i64 0, .int .i64 0, .slice none 0 0, .int .u64 0, .int .u64 0, .int .u64 0, .int .u64 0, .slice none 0 0].toArray) g4 55 #[.int .i64 0, .int .i64 0, .int .i64 0, .int .i64 0, .slice none 0 0, .int .u64 0, .int .u64 0, .int .u64 0, .int .u64 0, .slice none 0 0]) := Lib.hid (hb.row _)
 have hk : Below U1.heap.size U1 (W2.setRow g4 [.int .i64 0, .int .i64 0, .int .i64 0, .int .i64 0, .slice none 0 0, .int .u64 0, .int .u64 0, .int .u64 0, .int .u64 0, .slice none 0 0].toArray) := below_row hC hg _
 have HB2 := Lib.hid (HB1.out.trans (hk.mono HB1.out.size))
 have HP2 := Lib.hid (HP1.out.keep hk)
 have HT2 := Lib.hid (HT1.out.keep (fun hg k => CTy.keep hk hg k) hk)
 have HA2 := Lib.hid (HA1.out.keep (fun hg k => CAt.keep hk hg k) hk)
 have HX2 := Lib.hid (HX2.out.keep hk)
 generalize W2.setRow g4 [.int .i64 0, .int .i64 0, .int .i64 0, .int .i64 0, .slice none 0 0, .int .u64 0, .int .u64 0, .int .u64 0, .int .u64 0, .slice none 0 0].toArray = U2 at *
 clear hC hg hb hk HP1 HT1 HA1 HB1
 go_upto_region 6 with fail
 have H6 : Hid (Blk ((U2.alloc (.cells #[.int .i64 8, .int .i64 1, .int .i64 0, .int .i64 6, .slice none 0 0, .int .u64 0, .int .u64 0, .int .u64 0, .int .u64 0, .slice none 0 0] 55)).alloc (.cells #[.int .i64 8, .int .i64 3, .int .i64 2, .int .i64 8, .slice none 0 0, .int .u64 0, .int .u64 0, .int .u64 0, .int .u64 0, .slice none 0 0] 55)) U2.heap.size 55 #[.int .i64 8, .int .i64 1, .int .i64 0, .int .i64 6, .slice none 0 0, .int .u64 0, .int .u64 0, .int .u64 0, .int .u64 0, .slice none 0 0]) := Lib.hid ((Blk.new U2 _ _).alloc _)
 have H7 : Hid (Blk ((U2.alloc (.cells #[.int .i64 8, .int .i64 1, .int .i64 0, .int .i64 6, .slice none 0 0, .int .u64 0, .int .u64 0, .int .u64 0, .int .u64 0, .slice none 0 0] 55)).alloc (.cells #[.int .i64 8, .int .i64 3, .int .i64 2, .int .i64 8, .slice none 0 0, .int .u64 0, .int .u64 0, .int .u64 0, .int .u64 0, .slice none 0 0] 55)) (U2.heap.size + 1) 55 #[.int .i64 8, .int .i64 3, .int .i64 2, .int .i64 8, .slice none 0 0, .int .u64 0, .int .u64 0, .int .u64 0, .int .u64 0, .slice none 0 0]) := Lib.hid (two_new' _ _ _ _)
 have HB6 : Hid (Below w.heap.size w ((U2.alloc (.cells #[.int .i64 8, .int .i64 1, .int .i64 0, .int .i64 6, .slice none 0 0, .int .u64 0, .int .u64 0, .int .u64 0, .int .u64 0, .slice none 0 0] 55)).alloc (.cells #[.int .i64 8, .int .i64 3, .int .i64 2, .int .i64 8, .slice none 0 0, .int .u64 0, .int .u64 0, .int .u64 0, .int .u64 0, .slice none 0 0] 55))) := Lib.hid (((HB2.out.alloc HB2.out.size _)).alloc (by have := HB2.out.size; simp; omega) _)
 have HX6 := Lib.hid ((HX2.out.alloc (.cells #[.int .i64 8, .int .i64 1, .int .i64 0, .int .i64 6, .slice none 0 0, .int .u64 0, .int .u64 0, .int .u64 0, .int .u64 0, .slice none 0 0] 55)).alloc (.cells #[.int .i64 8, .int .i64 3, .int .i64 2, .int .i64 8, .slice none 0 0, .int .u64 0, .int .u64 0, .int .u64 0, .int .u64 0, .slice none 0 0] 55))
 have HP6 := Lib.hid ((HP2.out.alloc (.cells #[.int .i64 8, .int .i64 1, .int .i64 0, .int .i64 6, .slice none 0 0, .int .u64 0, .int .u64 0, .int .u64 0, .int .u64 0, .slice none 0 0] 55)).alloc (.cells #[.int .i64 8, .int .i64 3, .int .i64 2, .int .i64 8, .slice none 0 0, .int .u64 0, .int .u64 0, .int .u64 0, .int .u64 0, .slice none 0 0] 55))
 clear HX2 HP2 HT2 HA2 HB2
 generalize (U2.alloc (.cells #[.int .i64 8, .int .i64 1, .int .i64 0, .int .i64 6, .slice none 0 0, .int .u64 0, .int .u64 0, .int .u64 0, .int .u64 0, .slice none 0 0] 55)).alloc (.cells #[.int .i64 8, .int .i64 3, .int .i64 2, .int .i64 8, .slice none 0 0, .int .u64 0, .int .u64 0, .int .u64 0, .int .u64 0, .slice none 0 0] 55) = U6 at *
 generalize U2.heap.size + 1 = g7 at *
 generalize U2.heap.size = g6 at *
 have hc := H6.out.cell
 have r0 := hc 0
 have r1 := hc 1
 have r2 := hc 2
 have r3 := hc 3
 have r4 := hc 4
 have r5 := hc 5
 have r6 := hc 6
 have r7 := hc 7
 have r8 := hc 8
 have r9 := hc 9
 clear hc
 have hpa : ∀ o, (U6.alloc o).cell? ⟨gp, 13, none⟩ = some (.slice none 0 0) := fun o => (HP6.out.alloc o).cell 13
 have hpf : ∀ o, (U6.alloc o).frozen? ⟨gp, 13, none⟩ = false := fun o => (HP6.out.alloc o).frozen 13
 go_upto_region 7 with fail
 clear r0 r1 r2 r3 r4 r5 r6 r7 r8 r9 hpa hpf
 have hn6 : g6 ≠ gp := blk_ne H6.out HP6.out (by decide)
 have hn7 : g7 ≠ gp := blk_ne H7.out HP6.out (by decide)
 have hnx : g2 ≠ gp := blk_ne HX6.out HP6.out (by decide)
 have hnk : U6.heap.size ≠ gp := fun e => by have := HP6.out.lt; omega
 have HK7 : Hid (Blk ((U6.alloc (.cells #[.int .i64 1, .int .u32 2, .bool false, .int .i64 8, .int .i64 1, .int .i64 0, .int .i64 6, .slice none 0 0, .int .u64 0, .int .u64 0, .int .u64 0, .int .u64 0, .slice none 0 0] 71)).setCell ⟨gp, 13, none⟩ (.slice (some ⟨U6.heap.size, 0, none⟩) 1 1)) U6.heap.size 71 #[.int .i64 1, .int .u32 2, .bool false, .int .i64 8, .int .i64 1, .int .i64 0, .int .i64 6, .slice none 0 0, .int .u64 0, .int .u64 0, .int .u64 0, .int .u64 0, .slice none 0 0]) := Lib.hid ((Blk.new U6 _ _).far (p := ⟨gp, 13, none⟩) hnk _)
 have HP7 : Hid (Blk ((U6.alloc (.cells #[.int .i64 1, .int .u32 2, .bool false, .int .i64 8, .int .i64 1, .int .i64 0, .int .i64 6, .slice none 0 0, .int .u64 0, .int .u64 0, .int .u64 0, .int .u64 0, .slice none 0 0] 71)).setCell ⟨gp, 13, none⟩ (.slice (some ⟨U6.heap.size, 0, none⟩) 1 1)) gp 39 #[v0, v1, v2, v3, v4, v5, v6, .slice none 0 0, v8, v9, v10, .slice none 0 0, .slice none 0 0, .slice (some ⟨U6.heap.size, 0, none⟩) 1 1, v14, .slice none 0 0, .slice none 0 0]) := Lib.hid ((HP6.out.alloc _).set 13 _)
 have H67 := Lib.hid ((H6.out.alloc (.cells #[.int .i64 1, .int .u32 2, .bool false, .int .i64 8, .int .i64 1, .int .i64 0, .int .i64 6, .slice none 0 0, .int .u64 0, .int .u64 0, .int .u64 0, .int .u64 0, .slice none 0 0] 71)).far (p := ⟨gp, 13, none⟩) hn6 (.slice (some ⟨U6.heap.size, 0, none⟩) 1 1))
 have H77 := Lib.hid ((H7.out.alloc (.cells #[.int .i64 1, .int .u32 2, .bool false, .int .i64 8, .int .i64 1, .int .i64 0, .int .i64 6, .slice none 0 0, .int .u64 0, .int .u64 0, .int .u64 0, .int .u64 0, .slice none 0 0] 71)).far (p := ⟨gp, 13, none⟩) hn7 (.slice (some ⟨U6.heap.size, 0, none⟩) 1 1))
 have HX7 := Lib.hid ((HX6.out.alloc (.cells #[.int .i64 1, .int .u32 2, .bool false, .int .i64 8, .int .i64 1, .int .i64 0, .int .i64 6, .slice none 0 0, .int .u64 0, .int .u64 0, .int .u64 0, .int .u64 0, .slice none 0 0] 71)).far (p := ⟨gp, 13, none⟩) hnx (.slice (some ⟨U6.heap.size, 0, none⟩) 1 1))
 have HB7 : Hid (Below w.heap.size w ((U6.alloc (.cells #[.int .i64 1, .int .u32 2, .bool false, .int .i64 8, .int .i64 1, .int .i64 0, .int .i64 6, .slice none 0 0, .int .u64 0, .int .u64 0, .int .u64 0, .int .u64 0, .slice none 0 0] 71)).setCell ⟨gp, 13, none⟩ (.slice (some ⟨U6.heap.size, 0, none⟩) 1 1))) := Lib.hid (below_set1 (HB6.out.alloc HB6.out.size _) HGP.out 13 _)
 clear hn6 hn7 hnx hnk H6 H7 HX6 HP6 HB6
 generalize (U6.alloc (.cells #[.int .i64 1, .int .u32 2, .bool false, .int .i64 8, .int .i64 1, .int .i64 0, .int .i64 6, .slice none 0 0, .int .u64 0, .int .u64 0, .int .u64 0, .int .u64 0, .slice none 0 0] 71)).setCell ⟨gp, 13, none⟩ (.slice (some ⟨U6.heap.size, 0, none⟩) 1 1) = U7 at *
 generalize U6.heap.size = gk at *
 refine wp_region_sqt 4 (aw7 U7) (by decide) (by kernel_rfl) (fun k v u u2 h hb => aw7_keep h hb) ?_ ?_
 · refine ⟨⟨trivial, fun A u hK hF => ?_⟩, ⟨trivial, fun A u hK hF => ?_⟩, ⟨trivial, fun A u hK hF => ?_⟩, ⟨trivial, fun A u hK hF => ?_⟩, trivial⟩
   · unfold Gives
     go_simp
     exact gives_enter ((init_c u).mono fun e w2 ⟨he, hb⟩ => ⟨_, he, hb, rfl⟩)
   · unfold Gives
     go_simp
     exact gives_enter ((file_c u).mono fun e w2 ⟨he, hb⟩ => ⟨_, he, hb, rfl⟩)
   · have f32 : A.tmps[32]?.getD undef = .agg #[.int .i64 0, .int .i64 1, .int .i64 0, .int .i64 0, .int .u64 0, .int .i64 0, .int .u64 0] := fact_some (hF 32) (j := 0) (by kernel_rfl) (by kernel_rfl)
     have f33 : A.tmps[33]?.getD undef = .agg #[.int .i64 0, .int .i64 0, .int .i64 2, .int .i64 0, .int .u64 0, .int .i64 0, .int .u64 0] := fact_some (hF 33) (j := 1) (by kernel_rfl) (by kernel_rfl)
     unfold Gives
     go_simp
     exact gives_val (Below.refl _ _) rfl
   · unfold Gives
     go_simp
     exact gives_val ((Below.refl _ _).alloc (Nat.le_refl _) _) ⟨_, rfl, hK.size, Blk.new _ _ _⟩
 intro a0 W2 hC hsz hdf hF
 have ha := end_mask [false, false, false, false, false, false, false, false, true, false, false, false, false, false, false, false, false, false, false, false, false, false, false, false, false, false, false, false, false, false, false, false, true, true, true, false, false, false, false, false, false, false, false, false, false, false, false, false, false, false, false, false, false, false, false, false, false, false, false, false, false, false, false, false, false, false, false, false, false, false, false, false, false, false, false, false, false, false, false, false, false, false, false, false, false] hsz hdf hF (by kernel_rfl)
 have e34 : a0.tmps[34]?.getD undef = .agg #[.int .i64 0, .int .i64 1, .int .i64 0, .int .i64 0, .int .u64 0, .int .i64 0, .int .u64 0, .int .i64 0, .int .i64 0, .int .i64 2, .int .i64 0, .int .u64 0, .int .i64 0, .int .u64 0, .int .i64 0, .int .i64 0, .int .i64 0, .int .i64 0, .int .u64 0, .int .i64 0, .int .u64 0] := fact_end (hF 34) (j := 2) (by kernel_rfl)
 obtain ⟨g8, e8, hg, hb⟩ : ∃ g, a0.tmps[8]?.getD undef = .pointer (some ⟨g, 0, none⟩) ∧ U7.heap.size ≤ g ∧ Blk W2 g 48 #[.int .i64 0, .int .i64 0, .int .i64 0, .int .i64 0, .int .u64 0, .int .i64 0, .int .u64 0, .int .i64 0, .int .i64 0, .int .i64 0, .int .i64 0, .int .u64 0, .int .i64 0, .int .u64 0, .int .i64 0, .int .i64 0, .int .i64 0, .int .i64 0, .int .u64 0, .int .i64 0, .int .u64 0] := fact_end (hF 8) (j := 3) (by kernel_rfl)
 rw [ha]
 clear ha hF hsz hdf
 simp only [cutM_yes, cutM_no, cutM_nil, Nat.reduceAdd]
 rw [e34, e8]
 clear e34 e8
 generalize a0.tmps[32]?.getD undef = s32
 generalize a0.tmps[33]?.getD undef = s33
 refine wpList_store_row (by rfl) _ _ rfl rfl (by rfl) [.int .i64 0, .int .i64 1, .int .i64 0, .int .i64 0, .int .u64 0, .int .i64 0, .int .u64 0, .int .i64 0, .int .i64 0, .int .i64 2, .int .i64 0, .int .u64 0, .int .i64 0, .int .u64 0, .int .i64 0, .int .i64 0, .int .i64 0, .int .i64 0, .int .u64 0, .int .i64 0, .int .u64 0] (.agg #[.int .i64 0, .int .i64 1, .int .i64 0, .int .i64 0, .int .u64 0, .int .i64 0, .int .u64 0, .int .i64 0, .int .i64 0, .int .i64 2, .int .i64 0, .int .u64 0, .int .i64 0, .int .u64 0, .int .i64 0, .int .i64 0, .int .i64 0, .int .i64 0, .int .u64 0, .int .i64 0, .int .u64 0]) (by rfl) rfl (size_case' _) hb rfl (by intro x hx; simp only [List.mem_cons, List.not_mem_nil, or_false] at hx; rcases hx with rfl | rfl | rfl | rfl | rfl | rfl | rfl | rfl | rfl | rfl | rfl | rfl | rfl | rfl | rfl | rfl | rfl | rfl | rfl | rfl | rfl <;> rfl) ?_
 have H8 : Hid (Blk (W2.setRow g8 [.int .i64 0, .int .i64 1, .int .i64 0, .int .i64 0, .int .u64 0, .int .i64 0, .int .u64 0, .int .i64 0, .int .i64 0, .int .i64 2, .int .i64 0, .int .u64 0, .int .i64 0, .int .u64 0, .int .i64 0, .int .i64 0, .int .i64 0, .int .i64 0, .int .u64 0, .int .i64 0, .int .u64 0].toArray) g8 48 #[.int .i64 0, .int .i64 1, .int .i64 0, .int .i64 0, .int .u64 0, .int .i64 0, .int .u64 0, .int .i64 0, .int .i64 0, .int .i64 2, .int .i64 0, .int .u64 0, .int .i64 0, .int .u64 0, .int .i64 0, .int .i64 0, .int .i64 0, .int .i64 0, .int .u64 0, .int .i64 0, .int .u64 0]) := Lib.hid (hb.row _)
 have HQ : Hid (Kp U7 (W2.setRow g8 [.int .i64 0, .int .i64 1, .int .i64 0, .int .i64 0, .int .u64 0, .int .i64 0, .int .u64 0, .int .i64 0, .int .i64 0, .int .i64 2, .int .i64 0, .int .u64 0, .int .i64 0, .int .u64 0, .int .i64 0, .int .i64 0, .int .i64 0, .int .i64 0, .int .u64 0, .int .i64 0, .int .u64 0].toArray)) := Lib.hid (below_row hC hg _)
 clear hb hg hC
 generalize (Value.agg #[.int .i64 0, .int .i64 1, .int .i64 0, .int .i64 0, .int .u64 0, .int .i64 0, .int .u64 0, .int .i64 0, .int .i64 0, .int .i64 2, .int .i64 0, .int .u64 0, .int .i64 0, .int .u64 0, .int .i64 0, .int .i64 0, .int .i64 0, .int .i64 0, .int .u64 0, .int .i64 0, .int .u64 0]) = PV34
 generalize W2.setRow g8 [.int .i64 0, .int .i64 1, .int .i64 0, .int .i64 0, .int .u64 0, .int .i64 0, .int .u64 0, .int .i64 0, .int .i64 0, .int .i64 2, .int .i64 0, .int .u64 0, .int .i64 0, .int .u64 0, .int .i64 0, .int .i64 0, .int .i64 0, .int .i64 0, .int .u64 0, .int .i64 0, .int .u64 0].toArray = U8 at *
 go_upto_region 8 with fail
 have HP8 := Lib.hid (HP7.out.keep HQ.out)
 have HK8 := Lib.hid (HK7.out.keep HQ.out)
 have H68 := Lib.hid (H67.out.keep HQ.out)
 have H78 := Lib.hid (H77.out.keep HQ.out)
 have HX8 := Lib.hid (HX7.out.keep HQ.out)
 have HB8 := Lib.hid (HB7.out.trans (Below.mono HQ.out HB7.out.size))
 clear HP7 HK7 H67 H77 HX7 HB7 HQ
 have HDN : Hid (∀ u, Kp U8 u → Calls Tryz.prog 6 #[.agg #[v0, v1, v2, v3, v4, v5, v6, .slice none 0 0, v8, v9, v10, .slice none 0 0, .slice none 0 0, .slice (some ⟨gk, 0, none⟩) 1 1, v14, .slice none 0 0, .slice none 0 0], .int .i64 1, .agg #[.int .i64 0, .int .i64 1, .int .i64 0, .int .i64 0, .int .u64 0, .int .i64 0, .int .u64 0], .agg #[.int .i64 0, .int .i64 0, .int .i64 2, .int .i64 0, .int .u64 0, .int .i64 0, .int .u64 0]] u fun e w' => e = .returned (.tuple #[.int .u32 2, .int .i64 0]) ∧ Below u.heap.size u w') := Lib.hid fun u hu => by
  have hk := HK8.out.keep hu
  have hx := (xv_roles u).at (g := 0) (t := 0)
  have hL : SlR 13 CCo u (.slice (some ⟨gk, 0, none⟩) 1 1) [⟨1, 2, false, rolesX⟩] := by
   refine ⟨_, _, rfl, Nat.le_refl _, fun _ => ⟨gk, 0, rfl, hk.lt, fun i hi => ?_⟩⟩
   match i, hi with
   | 0, _ => exact ⟨hk.cell 0, hk.cell 1, hk.cell 2, by
      show XAt u gk 3 rolesX
      unfold rolesX XAt
      exact ⟨hk.cell 3, hk.cell 4, hk.cell 5, hk.cell 6, ⟨_, hk.cell 7, Strs.nil⟩, hk.cell 8, hk.cell 9, hk.cell 10, hk.cell 11, ⟨none, 0, hk.cell 12, Nat.le_refl _, fun h => absurd rfl h⟩, (xv_roles u).wf⟩, (⟨by decide, by decide⟩ : I64 1), (⟨by decide, by decide⟩ : U32 2)⟩
  have h := denied_c v0 v1 v2 v3 v4 v5 v6 (.slice none 0 0) v8 v9 v10 (.slice none 0 0) (.slice none 0 0) (.slice (some ⟨gk, 0, none⟩) 1 1) v14 (.slice none 0 0) (.slice none 0 0) 1 cxI cxF [⟨1, 2, false, rolesX⟩] u hL (by unfold maxLen; decide)
  rw [ex_dn] at h
  exact h
 have HE1 : Hid (∀ u, Kp U8 u → Calls Tryz.prog 17 #[.agg #[.int .i64 8, .int .i64 1, .int .i64 0, .int .i64 6, .slice none 0 0, .int .u64 0, .int .u64 0, .int .u64 0, .int .u64 0, .slice none 0 0], .agg #[.int .i64 0, .int .i64 1, .int .i64 0, .int .i64 0, .int .u64 0, .int .i64 0, .int .u64 0, .int .i64 0, .int .i64 0, .int .i64 2, .int .i64 0, .int .u64 0, .int .i64 0, .int .u64 0, .int .i64 0, .int .i64 0, .int .i64 0, .int .i64 0, .int .u64 0, .int .i64 0, .int .u64 0]] u fun e w' => e = .returned (.bool false) ∧ Below u.heap.size u w') := Lib.hid fun u _ => by
  have h := eval_c rolesX _ _ ⟨cxI, cxF, nocx⟩ u (xv_roles u)
  rw [ex_ro] at h
  exact h
 have HE2 : Hid (∀ u, Kp U8 u → Calls Tryz.prog 17 #[.agg #[.int .i64 8, .int .i64 3, .int .i64 2, .int .i64 8, .slice none 0 0, .int .u64 0, .int .u64 0, .int .u64 0, .int .u64 0, .slice none 0 0], .agg #[.int .i64 0, .int .i64 1, .int .i64 0, .int .i64 0, .int .u64 0, .int .i64 0, .int .u64 0, .int .i64 0, .int .i64 0, .int .i64 2, .int .i64 0, .int .u64 0, .int .i64 0, .int .u64 0, .int .i64 0, .int .i64 0, .int .i64 0, .int .i64 0, .int .u64 0, .int .i64 0, .int .u64 0]] u fun e w' => e = .returned (.bool true) ∧ Below u.heap.size u w') := Lib.hid fun u _ => by
  have h := eval_c levelsX _ _ ⟨cxI, cxF, nocx⟩ u (xv_levels u)
  rw [ex_le] at h
  exact h
 have HMN : Hid (∀ u, Kp U8 u → Calls Tryz.prog 18 #[.agg #[.int .i64 8, .int .i64 1, .int .i64 0, .int .i64 6, .slice none 0 0, .int .u64 0, .int .u64 0, .int .u64 0, .int .u64 0, .slice none 0 0], .int .i64 6] u fun e w' => e = .returned (.bool true) ∧ Below u.heap.size u w') := Lib.hid fun u _ => by
  have h := mentions_c 6 15 rolesX _ _ u ex_sm (xv_roles u)
  rw [ex_mn] at h
  exact h
 have HCK : Hid (∀ u, Kp U8 u → Calls Tryz.prog 19 #[.agg #[.int .i64 8, .int .i64 1, .int .i64 0, .int .i64 6, .slice none 0 0, .int .u64 0, .int .u64 0, .int .u64 0, .int .u64 0, .slice none 0 0], .agg #[v0, v1, v2, v3, v4, v5, v6, .slice none 0 0, v8, v9, v10, .slice none 0 0, .slice none 0 0, .slice (some ⟨gk, 0, none⟩) 1 1, v14, .slice none 0 0, .slice none 0 0], .bool false] u fun e w' => e = .returned (.int .i64 0) ∧ Below u.heap.size u w') := Lib.hid fun u _ => by
  have h := check_leaf rolesX _ _ v0 v1 v2 v3 v4 v5 v6 (.slice none 0 0) v8 v9 v10 (.slice none 0 0) (.slice none 0 0) (.slice (some ⟨gk, 0, none⟩) 1 1) v14 (.slice none 0 0) (.slice none 0 0) false u (xv_roles u) rfl (by decide)
  rw [show (if false = true then (15 : Int) else 10) = 10 from rfl, ex_ck] at h
  exact h
 refine wp_region_sqt 9 (fun k v _ => sqV (aw8L v0 v1 v2 v3 v4 v5 v6 v8 v9 v10 v14 g2 g8 gk) k v) (by decide) (by kernel_rfl) (fun k v u u2 h _ => h) ?_ ?_
 · refine ⟨⟨trivial, fun A u hK hF => ?_⟩, ⟨trivial, fun A u hK hF => ?_⟩, ⟨trivial, fun A u hK hF => ?_⟩, ⟨trivial, fun A u hK hF => ?_⟩, ⟨trivial, fun A u hK hF => ?_⟩, ⟨trivial, fun A u hK hF => ?_⟩, ⟨trivial, fun A u hK hF => ?_⟩, ⟨trivial, fun A u hK hF => ?_⟩, ⟨trivial, fun A u hK hF => ?_⟩, trivial⟩
   · have f1 : A.tmps[1]?.getD undef = .pointer (some ⟨gp, 0, none⟩) := fact_none (hF 1) (by kernel_rfl)
     unfold Gives
     rw [run_load (.tmp 1) rfl (by rw [← f1]; simp [Act.eval]) (loadAt_blk [v0, v1, v2, v3, v4, v5, v6, .slice none 0 0, v8, v9, v10, .slice none 0 0, .slice none 0 0, .slice (some ⟨gk, 0, none⟩) 1 1, v14, .slice none 0 0, .slice none 0 0] (agg_pol _) (size_pol _) (Blk.keep HP8.out hK))]
     exact gives_val (Below.refl _ _) rfl
   · have f8 : A.tmps[8]?.getD undef = .pointer (some ⟨g8, 0, none⟩) := fact_none (hF 8) (by kernel_rfl)
     unfold Gives
     go_simp
     exact gives_val (Below.refl _ _) rfl
   · have f37 : A.tmps[37]?.getD undef = .pointer (some ⟨g8, 0, none⟩) := fact_some (hF 37) (j := 1) (by kernel_rfl) (by kernel_rfl)
     have m := (Blk.keep H8.out hK).cell
     have m0 := m 0
     have m1 := m 1
     have m2 := m 2
     have m3 := m 3
     have m4 := m 4
     have m5 := m 5
     have m6 := m 6
     have m7 := m 7
     have m8 := m 8
     have m9 := m 9
     have m10 := m 10
     have m11 := m 11
     have m12 := m 12
     have m13 := m 13
     clear m
     unfold Gives
     go_simp
     exact gives_val (Below.refl _ _) rfl
   · have f8 : A.tmps[8]?.getD undef = .pointer (some ⟨g8, 0, none⟩) := fact_none (hF 8) (by kernel_rfl)
     unfold Gives
     go_simp
     exact gives_val (Below.refl _ _) rfl
   · have f39 : A.tmps[39]?.getD undef = .pointer (some ⟨g8, 7, none⟩) := fact_some (hF 39) (j := 3) (by kernel_rfl) (by kernel_rfl)
     have m := (Blk.keep H8.out hK).cell
     have m0 := m 0
     have m1 := m 1
     have m2 := m 2
     have m3 := m 3
     have m4 := m 4
     have m5 := m 5
     have m6 := m 6
     have m7 := m 7
     have m8 := m 8
     have m9 := m 9
     have m10 := m 10
     have m11 := m 11
     have m12 := m 12
     have m13 := m 13
     clear m
     unfold Gives
     go_simp
     exact gives_val (Below.refl _ _) rfl
   · have f36 : A.tmps[36]?.getD undef = .agg #[v0, v1, v2, v3, v4, v5, v6, .slice none 0 0, v8, v9, v10, .slice none 0 0, .slice none 0 0, .slice (some ⟨gk, 0, none⟩) 1 1, v14, .slice none 0 0, .slice none 0 0] := fact_some (hF 36) (j := 0) (by kernel_rfl) (by kernel_rfl)
     have f38 : A.tmps[38]?.getD undef = .agg #[.int .i64 0, .int .i64 1, .int .i64 0, .int .i64 0, .int .u64 0, .int .i64 0, .int .u64 0] := fact_some (hF 38) (j := 2) (by kernel_rfl) (by kernel_rfl)
     have f40 : A.tmps[40]?.getD undef = .agg #[.int .i64 0, .int .i64 0, .int .i64 2, .int .i64 0, .int .u64 0, .int .i64 0, .int .u64 0] := fact_some (hF 40) (j := 4) (by kernel_rfl) (by kernel_rfl)
     unfold Gives
     go_simp
     exact gives_enter ((HDN.out u hK).mono fun e w2 ⟨he, hb⟩ => ⟨_, he, hb, rfl⟩)
   · have f41 : A.tmps[41]?.getD undef = .tuple #[.int .u32 2, .int .i64 0] := fact_some (hF 41) (j := 5) (by kernel_rfl) (by kernel_rfl)
     unfold Gives
     go_simp
     exact gives_val (Below.refl _ _) rfl
   · have f35 : A.tmps[35]?.getD undef = .tuple #[.int .u32 2, .int .i64 0] := fact_some (hF 35) (j := 6) (by kernel_rfl) (by kernel_rfl)
     unfold Gives
     go_simp
     exact gives_val (Below.refl _ _) rfl
   · have f35 : A.tmps[35]?.getD undef = .tuple #[.int .u32 2, .int .i64 0] := fact_some (hF 35) (j := 6) (by kernel_rfl) (by kernel_rfl)
     unfold Gives
     go_simp
     exact gives_val (Below.refl _ _) rfl
 intro a0 U9 hC9 hsz hdf hF
 have ha := end_mask [false, false, false, false, false, false, false, false, false, false, false, false, false, false, false, false, false, false, false, false, false, false, false, false, false, false, false, false, false, false, false, false, false, false, false, true, true, true, true, true, true, true, true, true, false, false, false, false, false, false, false, false, false, false, false, false, false, false, false, false, false, false, false, false, false, false, false, false, false, false, false, false, false, false, false, false, false, false, false, false, false, false, false, false, false] hsz hdf hF (by kernel_rfl)
 have e42 : a0.tmps[42]?.getD undef = .int .u32 2 := fact_end (hF 42) (j := 7) (by kernel_rfl)
 have e43 : a0.tmps[43]?.getD undef = .int .i64 0 := fact_end (hF 43) (j := 8) (by kernel_rfl)
 rw [ha]
 clear ha hF hsz hdf
 simp only [cutM_yes, cutM_no, cutM_nil, Nat.reduceAdd]
 rw [e42, e43]
 clear e42 e43
 generalize a0.tmps[36]?.getD undef = s36
 generalize a0.tmps[37]?.getD undef = s37
 generalize a0.tmps[38]?.getD undef = s38
 generalize a0.tmps[39]?.getD undef = s39
 generalize a0.tmps[40]?.getD undef = s40
 generalize a0.tmps[41]?.getD undef = s41
 generalize a0.tmps[35]?.getD undef = s35
 have HC9 : Hid (Kp U8 U9) := Lib.hid hC9
 clear hC9
 go_upto_region 9 with fail
 have HP9 := Lib.hid (HP8.out.keep HC9.out)
 have H69 := Lib.hid (H68.out.keep HC9.out)
 have H79 := Lib.hid (H78.out.keep HC9.out)
 have H89 := Lib.hid (H8.out.keep HC9.out)
 have HX9 := Lib.hid (HX8.out.keep HC9.out)
 have HS9 : Hid (∀ u, Kp U9 u → Kp U8 u) := Lib.hid (fun u h => Kp.step HC9.out h)
 refine wp_region_sqt 41 (fun k v _ => sqV (aw9L v0 v1 v2 v3 v4 v5 v6 v8 v9 v10 v14 g2 g8 gk) k v) (by decide) (by kernel_rfl) (fun k v u u2 h _ => h) ?_ ?_
 · refine ⟨⟨trivial, fun A u hK hF => ?_⟩, ⟨trivial, fun A u hK hF => ?_⟩, ⟨trivial, fun A u hK hF => ?_⟩, ⟨trivial, fun A u hK hF => ?_⟩, ⟨trivial, fun A u hK hF => ?_⟩, ⟨fun _ _ h => h, fun A u hK hF => ?_⟩, ⟨fun _ _ h => h, fun A u hK hF => ?_⟩, ⟨trivial, fun A u hK hF => ?_⟩, ⟨trivial, fun A u hK hF => ?_⟩, ⟨fun _ _ h => h, fun A u hK hF => ?_⟩, ⟨fun _ _ h => h, fun A u hK hF => ?_⟩, ⟨trivial, fun A u hK hF => ?_⟩, ⟨trivial, fun A u hK hF => ?_⟩, ⟨fun _ _ h => h, fun A u hK hF => ?_⟩, ⟨fun _ _ h => h, fun A u hK hF => ?_⟩, ⟨fun _ _ h => h, fun A u hK hF => ?_⟩, ⟨fun _ _ h => h, fun A u hK hF => ?_⟩, ⟨trivial, fun A u hK hF => ?_⟩, ⟨trivial, fun A u hK hF => ?_⟩, ⟨fun _ _ h => h, fun A u hK hF => ?_⟩, ⟨fun _ _ h => h, fun A u hK hF => ?_⟩, ⟨fun _ _ h => h, fun A u hK hF => ?_⟩, ⟨trivial, fun A u hK hF => ?_⟩, ⟨trivial, fun A u hK hF => ?_⟩, ⟨fun _ _ h => h, fun A u hK hF => ?_⟩, ⟨fun _ _ h => h, fun A u hK hF => ?_⟩, ⟨trivial, fun A u hK hF => ?_⟩, ⟨trivial, fun A u hK hF => ?_⟩, ⟨fun _ _ h => h, fun A u hK hF => ?_⟩, ⟨fun _ _ h => h, fun A u hK hF => ?_⟩, ⟨trivial, fun A u hK hF => ?_⟩, ⟨trivial, fun A u hK hF => ?_⟩, ⟨fun _ _ h => h, fun A u hK hF => ?_⟩, ⟨fun _ _ h => h, fun A u hK hF => ?_⟩, ⟨trivial, fun A u hK hF => ?_⟩, ⟨trivial, fun A u hK hF => ?_⟩, ⟨fun _ _ h => h, fun A u hK hF => ?_⟩, ⟨fun _ _ h => h, fun A u hK hF => ?_⟩, ⟨fun _ _ h => h, fun A u hK hF => ?_⟩, ⟨fun _ _ h => h, fun A u hK hF => ?_⟩, ⟨trivial, fun A u hK hF => ?_⟩, trivial⟩
   · have f2 : A.tmps[2]?.getD undef = .pointer (some ⟨g2, 0, none⟩) := fact_none (hF 2) (by kernel_rfl)
     unfold Gives
     go_simp
     exact gives_val (Below.refl _ _) rfl
   · have f44 : A.tmps[44]?.getD undef = .pointer (some ⟨g2, 5, none⟩) := fact_some (hF 44) (j := 0) (by kernel_rfl) (by kernel_rfl)
     have m := (Blk.keep HX9.out hK).cell
     have m5 := m 5
     have m6 := m 6
     have m7 := m 7
     have m8 := m 8
     clear m
     unfold Gives
     go_simp
     exact gives_val (Below.refl _ _) rfl
   · unfold Gives
     go_simp
     exact gives_val (Below.refl _ _) rfl
   · have f45 : A.tmps[45]?.getD undef = .agg #[.int .u64 5, .int .u64 0, .int .u64 0, .int .u64 0] := fact_some (hF 45) (j := 1) (by kernel_rfl) (by kernel_rfl)
     have f46 : A.tmps[46]?.getD undef = .agg #[.int .u64 5, .int .u64 0, .int .u64 0, .int .u64 0] := fact_some (hF 46) (j := 2) (by kernel_rfl) (by kernel_rfl)
     unfold Gives
     go_simp
     exact gives_val (Below.refl _ _) rfl
   · have f47 : A.tmps[47]?.getD undef = .bool true := fact_some (hF 47) (j := 3) (by kernel_rfl) (by kernel_rfl)
     unfold Gives
     go_simp
     exact gives_val (Below.refl _ _) rfl
   · have f3 : A.tmps[3]?.getD undef = .int .i64 0 := fact_none (hF 3) (by kernel_rfl)
     unfold Gives
     go_simp
     exact gives_val (Below.refl _ _) rfl
   · have f49 : A.tmps[49]?.getD undef = .int .i64 0 := fact_some (hF 49) (j := 5) (by kernel_rfl) (by kernel_rfl)
     unfold Gives
     go_simp
     exact gives_val (Below.refl _ _) rfl
   · have f48 : A.tmps[48]?.getD undef = .bool true := fact_some (hF 48) (j := 4) (by kernel_rfl) (by kernel_rfl)
     have f50 : A.tmps[50]?.getD undef = .bool true := fact_some (hF 50) (j := 6) (by kernel_rfl) (by kernel_rfl)
     unfold Gives
     go_simp
     exact gives_val (Below.refl _ _) rfl
   · have f51 : A.tmps[51]?.getD undef = .bool true := fact_some (hF 51) (j := 7) (by kernel_rfl) (by kernel_rfl)
     unfold Gives
     go_simp
     exact gives_val (Below.refl _ _) rfl
   · have f5 : A.tmps[5]?.getD undef = .int .i64 11 := fact_none (hF 5) (by kernel_rfl)
     unfold Gives
     go_simp
     exact gives_val (Below.refl _ _) rfl
   · have f53 : A.tmps[53]?.getD undef = .int .i64 11 := fact_some (hF 53) (j := 9) (by kernel_rfl) (by kernel_rfl)
     unfold Gives
     go_simp
     exact gives_val (Below.refl _ _) rfl
   · have f52 : A.tmps[52]?.getD undef = .bool true := fact_some (hF 52) (j := 8) (by kernel_rfl) (by kernel_rfl)
     have f54 : A.tmps[54]?.getD undef = .bool true := fact_some (hF 54) (j := 10) (by kernel_rfl) (by kernel_rfl)
     unfold Gives
     go_simp
     exact gives_val (Below.refl _ _) rfl
   · have f55 : A.tmps[55]?.getD undef = .bool true := fact_some (hF 55) (j := 11) (by kernel_rfl) (by kernel_rfl)
     unfold Gives
     go_simp
     exact gives_val (Below.refl _ _) rfl
   · have f6 : A.tmps[6]?.getD undef = .pointer (some ⟨g6, 0, none⟩) := fact_none (hF 6) (by kernel_rfl)
     unfold Gives
     rw [run_load (.tmp 6) rfl (by rw [← f6]; simp [Act.eval]) (loadAt_blk [.int .i64 8, .int .i64 1, .int .i64 0, .int .i64 6, .slice none 0 0, .int .u64 0, .int .u64 0, .int .u64 0, .int .u64 0, .slice none 0 0] (agg_expr _) (size_expr _) (Blk.keep H69.out hK))]
     exact gives_val (Below.refl _ _) rfl
   · have f8 : A.tmps[8]?.getD undef = .pointer (some ⟨g8, 0, none⟩) := fact_none (hF 8) (by kernel_rfl)
     unfold Gives
     rw [run_load (.tmp 8) rfl (by rw [← f8]; simp [Act.eval]) (loadAt_blk [.int .i64 0, .int .i64 1, .int .i64 0, .int .i64 0, .int .u64 0, .int .i64 0, .int .u64 0, .int .i64 0, .int .i64 0, .int .i64 2, .int .i64 0, .int .u64 0, .int .i64 0, .int .u64 0, .int .i64 0, .int .i64 0, .int .i64 0, .int .i64 0, .int .u64 0, .int .i64 0, .int .u64 0] (agg_case _) (size_case' _) (Blk.keep H89.out hK))]
     exact gives_val (Below.refl _ _) rfl
   · have f57 : A.tmps[57]?.getD undef = .agg #[.int .i64 8, .int .i64 1, .int .i64 0, .int .i64 6, .slice none 0 0, .int .u64 0, .int .u64 0, .int .u64 0, .int .u64 0, .slice none 0 0] := fact_some (hF 57) (j := 13) (by kernel_rfl) (by kernel_rfl)
     have f58 : A.tmps[58]?.getD undef = .agg #[.int .i64 0, .int .i64 1, .int .i64 0, .int .i64 0, .int .u64 0, .int .i64 0, .int .u64 0, .int .i64 0, .int .i64 0, .int .i64 2, .int .i64 0, .int .u64 0, .int .i64 0, .int .u64 0, .int .i64 0, .int .i64 0, .int .i64 0, .int .i64 0, .int .u64 0, .int .i64 0, .int .u64 0] := fact_some (hF 58) (j := 14) (by kernel_rfl) (by kernel_rfl)
     unfold Gives
     go_simp
     exact gives_enter ((HE1.out u (HS9.out _ hK)).mono fun e w2 ⟨he, hb⟩ => ⟨_, he, hb, rfl⟩)
   · have f59 : A.tmps[59]?.getD undef = .bool false := fact_some (hF 59) (j := 15) (by kernel_rfl) (by kernel_rfl)
     unfold Gives
     go_simp
     exact gives_val (Below.refl _ _) rfl
   · have f56 : A.tmps[56]?.getD undef = .bool true := fact_some (hF 56) (j := 12) (by kernel_rfl) (by kernel_rfl)
     have f60 : A.tmps[60]?.getD undef = .bool true := fact_some (hF 60) (j := 16) (by kernel_rfl) (by kernel_rfl)
     unfold Gives
     go_simp
     exact gives_val (Below.refl _ _) rfl
   · have f61 : A.tmps[61]?.getD undef = .bool true := fact_some (hF 61) (j := 17) (by kernel_rfl) (by kernel_rfl)
     unfold Gives
     go_simp
     exact gives_val (Below.refl _ _) rfl
   · have f7 : A.tmps[7]?.getD undef = .pointer (some ⟨g7, 0, none⟩) := fact_none (hF 7) (by kernel_rfl)
     unfold Gives
     rw [run_load (.tmp 7) rfl (by rw [← f7]; simp [Act.eval]) (loadAt_blk [.int .i64 8, .int .i64 3, .int .i64 2, .int .i64 8, .slice none 0 0, .int .u64 0, .int .u64 0, .int .u64 0, .int .u64 0, .slice none 0 0] (agg_expr _) (size_expr _) (Blk.keep H79.out hK))]
     exact gives_val (Below.refl _ _) rfl
   · have f8 : A.tmps[8]?.getD undef = .pointer (some ⟨g8, 0, none⟩) := fact_none (hF 8) (by kernel_rfl)
     unfold Gives
     rw [run_load (.tmp 8) rfl (by rw [← f8]; simp [Act.eval]) (loadAt_blk [.int .i64 0, .int .i64 1, .int .i64 0, .int .i64 0, .int .u64 0, .int .i64 0, .int .u64 0, .int .i64 0, .int .i64 0, .int .i64 2, .int .i64 0, .int .u64 0, .int .i64 0, .int .u64 0, .int .i64 0, .int .i64 0, .int .i64 0, .int .i64 0, .int .u64 0, .int .i64 0, .int .u64 0] (agg_case _) (size_case' _) (Blk.keep H89.out hK))]
     exact gives_val (Below.refl _ _) rfl
   · have f63 : A.tmps[63]?.getD undef = .agg #[.int .i64 8, .int .i64 3, .int .i64 2, .int .i64 8, .slice none 0 0, .int .u64 0, .int .u64 0, .int .u64 0, .int .u64 0, .slice none 0 0] := fact_some (hF 63) (j := 19) (by kernel_rfl) (by kernel_rfl)
     have f64 : A.tmps[64]?.getD undef = .agg #[.int .i64 0, .int .i64 1, .int .i64 0, .int .i64 0, .int .u64 0, .int .i64 0, .int .u64 0, .int .i64 0, .int .i64 0, .int .i64 2, .int .i64 0, .int .u64 0, .int .i64 0, .int .u64 0, .int .i64 0, .int .i64 0, .int .i64 0, .int .i64 0, .int .u64 0, .int .i64 0, .int .u64 0] := fact_some (hF 64) (j := 20) (by kernel_rfl) (by kernel_rfl)
     unfold Gives
     go_simp
     exact gives_enter ((HE2.out u (HS9.out _ hK)).mono fun e w2 ⟨he, hb⟩ => ⟨_, he, hb, rfl⟩)
   · have f62 : A.tmps[62]?.getD undef = .bool true := fact_some (hF 62) (j := 18) (by kernel_rfl) (by kernel_rfl)
     have f65 : A.tmps[65]?.getD undef = .bool true := fact_some (hF 65) (j := 21) (by kernel_rfl) (by kernel_rfl)
     unfold Gives
     go_simp
     exact gives_val (Below.refl _ _) rfl
   · have f66 : A.tmps[66]?.getD undef = .bool true := fact_some (hF 66) (j := 22) (by kernel_rfl) (by kernel_rfl)
     unfold Gives
     go_simp
     exact gives_val (Below.refl _ _) rfl
   · have f9 : A.tmps[9]?.getD undef = .int .u32 2 := fact_none (hF 9) (by kernel_rfl)
     unfold Gives
     go_simp
     exact gives_val (Below.refl _ _) rfl
   · have f68 : A.tmps[68]?.getD undef = .int .u32 2 := fact_some (hF 68) (j := 24) (by kernel_rfl) (by kernel_rfl)
     unfold Gives
     go_simp
     exact gives_val (Below.refl _ _) rfl
   · have f67 : A.tmps[67]?.getD undef = .bool true := fact_some (hF 67) (j := 23) (by kernel_rfl) (by kernel_rfl)
     have f69 : A.tmps[69]?.getD undef = .bool true := fact_some (hF 69) (j := 25) (by kernel_rfl) (by kernel_rfl)
     unfold Gives
     go_simp
     exact gives_val (Below.refl _ _) rfl
   · have f70 : A.tmps[70]?.getD undef = .bool true := fact_some (hF 70) (j := 26) (by kernel_rfl) (by kernel_rfl)
     unfold Gives
     go_simp
     exact gives_val (Below.refl _ _) rfl
   · have f10 : A.tmps[10]?.getD undef = .int .i64 0 := fact_none (hF 10) (by kernel_rfl)
     unfold Gives
     go_simp
     exact gives_val (Below.refl _ _) rfl
   · have f72 : A.tmps[72]?.getD undef = .int .i64 0 := fact_some (hF 72) (j := 28) (by kernel_rfl) (by kernel_rfl)
     unfold Gives
     go_simp
     exact gives_val (Below.refl _ _) rfl
   · have f71 : A.tmps[71]?.getD undef = .bool true := fact_some (hF 71) (j := 27) (by kernel_rfl) (by kernel_rfl)
     have f73 : A.tmps[73]?.getD undef = .bool true := fact_some (hF 73) (j := 29) (by kernel_rfl) (by kernel_rfl)
     unfold Gives
     go_simp
     exact gives_val (Below.refl _ _) rfl
   · have f74 : A.tmps[74]?.getD undef = .bool true := fact_some (hF 74) (j := 30) (by kernel_rfl) (by kernel_rfl)
     unfold Gives
     go_simp
     exact gives_val (Below.refl _ _) rfl
   · have f6 : A.tmps[6]?.getD undef = .pointer (some ⟨g6, 0, none⟩) := fact_none (hF 6) (by kernel_rfl)
     unfold Gives
     rw [run_load (.tmp 6) rfl (by rw [← f6]; simp [Act.eval]) (loadAt_blk [.int .i64 8, .int .i64 1, .int .i64 0, .int .i64 6, .slice none 0 0, .int .u64 0, .int .u64 0, .int .u64 0, .int .u64 0, .slice none 0 0] (agg_expr _) (size_expr _) (Blk.keep H69.out hK))]
     exact gives_val (Below.refl _ _) rfl
   · have f76 : A.tmps[76]?.getD undef = .agg #[.int .i64 8, .int .i64 1, .int .i64 0, .int .i64 6, .slice none 0 0, .int .u64 0, .int .u64 0, .int .u64 0, .int .u64 0, .slice none 0 0] := fact_some (hF 76) (j := 32) (by kernel_rfl) (by kernel_rfl)
     unfold Gives
     go_simp
     exact gives_enter ((HMN.out u (HS9.out _ hK)).mono fun e w2 ⟨he, hb⟩ => ⟨_, he, hb, rfl⟩)
   · have f75 : A.tmps[75]?.getD undef = .bool true := fact_some (hF 75) (j := 31) (by kernel_rfl) (by kernel_rfl)
     have f77 : A.tmps[77]?.getD undef = .bool true := fact_some (hF 77) (j := 33) (by kernel_rfl) (by kernel_rfl)
     unfold Gives
     go_simp
     exact gives_val (Below.refl _ _) rfl
   · have f78 : A.tmps[78]?.getD undef = .bool true := fact_some (hF 78) (j := 34) (by kernel_rfl) (by kernel_rfl)
     unfold Gives
     go_simp
     exact gives_val (Below.refl _ _) rfl
   · have f6 : A.tmps[6]?.getD undef = .pointer (some ⟨g6, 0, none⟩) := fact_none (hF 6) (by kernel_rfl)
     unfold Gives
     rw [run_load (.tmp 6) rfl (by rw [← f6]; simp [Act.eval]) (loadAt_blk [.int .i64 8, .int .i64 1, .int .i64 0, .int .i64 6, .slice none 0 0, .int .u64 0, .int .u64 0, .int .u64 0, .int .u64 0, .slice none 0 0] (agg_expr _) (size_expr _) (Blk.keep H69.out hK))]
     exact gives_val (Below.refl _ _) rfl
   · have f1 : A.tmps[1]?.getD undef = .pointer (some ⟨gp, 0, none⟩) := fact_none (hF 1) (by kernel_rfl)
     unfold Gives
     rw [run_load (.tmp 1) rfl (by rw [← f1]; simp [Act.eval]) (loadAt_blk [v0, v1, v2, v3, v4, v5, v6, .slice none 0 0, v8, v9, v10, .slice none 0 0, .slice none 0 0, .slice (some ⟨gk, 0, none⟩) 1 1, v14, .slice none 0 0, .slice none 0 0] (agg_pol _) (size_pol _) (Blk.keep HP9.out hK))]
     exact gives_val (Below.refl _ _) rfl
   · have f80 : A.tmps[80]?.getD undef = .agg #[.int .i64 8, .int .i64 1, .int .i64 0, .int .i64 6, .slice none 0 0, .int .u64 0, .int .u64 0, .int .u64 0, .int .u64 0, .slice none 0 0] := fact_some (hF 80) (j := 36) (by kernel_rfl) (by kernel_rfl)
     have f81 : A.tmps[81]?.getD undef = .agg #[v0, v1, v2, v3, v4, v5, v6, .slice none 0 0, v8, v9, v10, .slice none 0 0, .slice none 0 0, .slice (some ⟨gk, 0, none⟩) 1 1, v14, .slice none 0 0, .slice none 0 0] := fact_some (hF 81) (j := 37) (by kernel_rfl) (by kernel_rfl)
     unfold Gives
     go_simp
     exact gives_enter ((HCK.out u (HS9.out _ hK)).mono fun e w2 ⟨he, hb⟩ => ⟨_, he, hb, rfl⟩)
   · have f82 : A.tmps[82]?.getD undef = .int .i64 0 := fact_some (hF 82) (j := 38) (by kernel_rfl) (by kernel_rfl)
     unfold Gives
     go_simp
     exact gives_val (Below.refl _ _) rfl
   · have f79 : A.tmps[79]?.getD undef = .bool true := fact_some (hF 79) (j := 35) (by kernel_rfl) (by kernel_rfl)
     have f83 : A.tmps[83]?.getD undef = .bool true := fact_some (hF 83) (j := 39) (by kernel_rfl) (by kernel_rfl)
     unfold Gives
     go_simp
     exact gives_val (Below.refl _ _) rfl
 intro a0 W10 hC hsz hdf hF
 have ha := end_mask [false, false, false, false, false, false, false, false, false, false, false, false, false, false, false, false, false, false, false, false, false, false, false, false, false, false, false, false, false, false, false, false, false, false, false, false, false, false, false, false, false, false, false, false, true, true, true, true, true, true, true, true, true, true, true, true, true, true, true, true, true, true, true, true, true, true, true, true, true, true, true, true, true, true, true, true, true, true, true, true, true, true, true, true, true] hsz hdf hF (by kernel_rfl)
 have e84 : a0.tmps[84]?.getD undef = .bool true := fact_end (hF 84) (j := 40) (by kernel_rfl)
 rw [ha]
 clear ha hF hsz hdf
 simp only [cutM_yes, cutM_no, cutM_nil, Nat.reduceAdd]
 rw [e84]
 clear e84
 generalize a0.tmps[44]?.getD undef = s44
 generalize a0.tmps[45]?.getD undef = s45
 generalize a0.tmps[46]?.getD undef = s46
 generalize a0.tmps[47]?.getD undef = s47
 generalize a0.tmps[48]?.getD undef = s48
 generalize a0.tmps[49]?.getD undef = s49
 generalize a0.tmps[50]?.getD undef = s50
 generalize a0.tmps[51]?.getD undef = s51
 generalize a0.tmps[52]?.getD undef = s52
 generalize a0.tmps[53]?.getD undef = s53
 generalize a0.tmps[54]?.getD undef = s54
 generalize a0.tmps[55]?.getD undef = s55
 generalize a0.tmps[56]?.getD undef = s56
 generalize a0.tmps[57]?.getD undef = s57
 generalize a0.tmps[58]?.getD undef = s58
 generalize a0.tmps[59]?.getD undef = s59
 generalize a0.tmps[60]?.getD undef = s60
 generalize a0.tmps[61]?.getD undef = s61
 generalize a0.tmps[62]?.getD undef = s62
 generalize a0.tmps[63]?.getD undef = s63
 generalize a0.tmps[64]?.getD undef = s64
 generalize a0.tmps[65]?.getD undef = s65
 generalize a0.tmps[66]?.getD undef = s66
 generalize a0.tmps[67]?.getD undef = s67
 generalize a0.tmps[68]?.getD undef = s68
 generalize a0.tmps[69]?.getD undef = s69
 generalize a0.tmps[70]?.getD undef = s70
 generalize a0.tmps[71]?.getD undef = s71
 generalize a0.tmps[72]?.getD undef = s72
 generalize a0.tmps[73]?.getD undef = s73
 generalize a0.tmps[74]?.getD undef = s74
 generalize a0.tmps[75]?.getD undef = s75
 generalize a0.tmps[76]?.getD undef = s76
 generalize a0.tmps[77]?.getD undef = s77
 generalize a0.tmps[78]?.getD undef = s78
 generalize a0.tmps[79]?.getD undef = s79
 generalize a0.tmps[80]?.getD undef = s80
 generalize a0.tmps[81]?.getD undef = s81
 generalize a0.tmps[82]?.getD undef = s82
 generalize a0.tmps[83]?.getD undef = s83
 have HCC := Lib.hid (HB8.out.trans (Below.mono (Kp.step HC9.out hC) HB8.out.size))
 clear hC
 go_wp2_with fail
 go_ret
 exact ⟨rfl, HCC.out⟩
end Go.Proofs.YtbhoofihnmmmfabGreat
