/- Part of the proof: Pny Pdc. No conditions. -/
import Derived.Test.YtbhoofihnmmmfabGreatYbn
import Derived.Test.YtbhoofihnmmmfabGreatYbo
import Derived.Test.YtbhoofihnmmmfabGreatYbp
import Derived.Test.YtbhoofihnmmmfabGreatYbq
import Derived.Test.YtbhoofihnmmmfabGreatYbr
import Derived.Test.YtbhoofihnmmmfabGreatYbs
import Derived.Test.YtbhoofihnmmmfabGreatYbh
import Derived.Test.YtbhoofihnmmmfabGreatYbm
namespace Go.Proofs.YtbhoofihnmmmfabGreat
open Go.RowKit Go
theorem fst_all : ∀ {L : List Int}, fstE L = 0 → ∀ x ∈ L, x = 0
 | [], _, x, hx => by cases hx
 | y :: r, h, x, hx => by
   rw [fstE] at h
   by_cases hy : y = 0
   · rw [if_neg (by simpa using hy)] at h
     rcases List.mem_cons.1 hx with rfl | hx
     · exact hy
     · exact fst_all h x hx
   · rw [if_pos hy] at h; exact absurd h hy
theorem SlR.ints {u : World} {g : Nat} {ty : TypeId} {L : List Int} (h : Blk u g ty (L.map (Value.int .i64 ·)).toArray) : SlR 1 (fun w g o x => w.cell? ⟨g, o, none⟩ = some (.int .i64 x)) u (.slice (some ⟨g, 0, none⟩) L.length L.length) L :=
 ⟨_, _, rfl, Nat.le_refl _, fun _ => ⟨g, 0, rfl, h.lt, fun i hi => by show u.cell? ⟨g, 0 + i * 1, none⟩ = _; rw [Nat.zero_add, Nat.mul_one, h.cell i]; simp [hi]⟩⟩
def ckPhi (q : PV) (_p : PP) : Nat → Value → World → Prop
 | 0, v, _ => v = q.val
 | 1, v, _ => ∃ c : Int, v = .int .i64 c
 | 2, v, _ => v = q.val
 | 3, v, _ => ∃ c : Int, v = .int .i64 c
 | 4, v, _ => v = q.val
 | 5, v, _ => ∃ c : Int, v = .int .i64 c
 | 6, v, w => ∃ (h : Nat) (x0 x1 x2 : Int), v = .slice (some ⟨h, 0, none⟩) 3 3 ∧ Blk w h 65 #[.int .i64 x0, .int .i64 x1, .int .i64 x2]
 | 7, v, _ => ∃ c : Int, v = .int .i64 c
 | _, _, _ => True
theorem ckPhi_keep {q : PV} {p : PP} : ∀ {k : Nat} {v : Value} {w w' : World}, ckPhi q p k v w → Below w.heap.size w w' → ckPhi q p k v w'
 | 0, _, _, _, h, _ => h
 | 1, _, _, _, h, _ => h
 | 2, _, _, _, h, _ => h
 | 3, _, _, _, h, _ => h
 | 4, _, _, _, h, _ => h
 | 5, _, _, _, h, _ => h
 | 6, _, _, _, ⟨h, x0, x1, x2, e, b⟩, hb => ⟨h, x0, x1, x2, e, b.keep hb⟩
 | 7, _, _, _, h, _ => h
 | _ + 8, _, _, _, _, _ => trivial
def ckPsi (q : PV) (p : PP) : Nat → Value → World → Prop
 | 0, v, _ => v = q.val
 | 1, v, _ => ∃ c : Int, v = .int .i64 c
 | 2, v, _ => v = q.val
 | 3, v, _ => ∃ c : Int, v = .int .i64 c
 | 4, v, _ => v = q.val
 | 5, v, _ => ∃ c : Int, v = .int .i64 c
 | 6, v, _ => v = q.val
 | 7, v, _ => ∃ c : Int, v = .int .i64 c
 | 8, v, _ => v = q.val
 | 9, v, _ => ∃ c : Int, v = .int .i64 c
 | 10, v, _ => v = q.val
 | 11, v, _ => ∃ c : Int, v = .int .i64 c ∧ (c = 0 → CosOK p)
 | 12, v, _ => v = q.val
 | 13, v, _ => ∃ c : Int, v = .int .i64 c
 | 14, v, _ => v = q.val
 | 15, v, _ => ∃ c : Int, v = .int .i64 c
 | 16, v, w => ∃ (h : Nat) (x0 x1 x2 x3 x4 x5 x6 x7 : Int), v = .slice (some ⟨h, 0, none⟩) 8 8 ∧ Blk w h 65 #[.int .i64 x0, .int .i64 x1, .int .i64 x2, .int .i64 x3, .int .i64 x4, .int .i64 x5, .int .i64 x6, .int .i64 x7] ∧ (x5 = 0 → CosOK p)
 | 17, v, _ => ∃ c : Int, v = .int .i64 c ∧ (c = 0 → CosOK p)
 | _, _, _ => True
theorem ckPsi_keep {q : PV} {p : PP} : ∀ {k : Nat} {v : Value} {w w' : World}, ckPsi q p k v w → Below w.heap.size w w' → ckPsi q p k v w'
 | 0, _, _, _, h, _ => h
 | 1, _, _, _, h, _ => h
 | 2, _, _, _, h, _ => h
 | 3, _, _, _, h, _ => h
 | 4, _, _, _, h, _ => h
 | 5, _, _, _, h, _ => h
 | 6, _, _, _, h, _ => h
 | 7, _, _, _, h, _ => h
 | 8, _, _, _, h, _ => h
 | 9, _, _, _, h, _ => h
 | 10, _, _, _, h, _ => h
 | 11, _, _, _, h, _ => h
 | 12, _, _, _, h, _ => h
 | 13, _, _, _, h, _ => h
 | 14, _, _, _, h, _ => h
 | 15, _, _, _, h, _ => h
 | 16, _, _, _, ⟨h, x0, x1, x2, x3, x4, x5, x6, x7, e, b, f⟩, hb => ⟨h, x0, x1, x2, x3, x4, x5, x6, x7, e, b.keep hb, f⟩
 | 17, _, _, _, h, _ => h
 | _ + 18, _, _, _, _, _ => trivial
set_option maxRecDepth 100000 in
set_option maxHeartbeats 16000000 in
theorem nCheck_c (q : PV) (p : PP) (w : World) (hP : PolV w q p) (hsm : SmP p) : Calls Tryz.prog 12 #[q.val] w fun e w' => ∃ v, e = .returned v ∧ COut p w.heap.size w w' v := by
 have HSM := Lib.hid hsm
 obtain ⟨W, ZW⟩ : ∃ v, Hid ((w.alloc (.cells #[q.v0, q.v1, q.v2, q.v3, q.v4, q.v5, q.v6, q.v7, q.v8, q.v9, q.v10, q.v11, q.v12, q.v13, q.v14, q.v15, q.v16] 39)) = v) := ⟨_, Lib.hid rfl⟩
 have HB : Hid (Below w.heap.size w W) := by cases ZW.out; exact Lib.hid ((Below.refl _ _).alloc (Nat.le_refl _) _)
 have HX0 : Hid (Blk W (w.heap.size) 39 #[q.v0, q.v1, q.v2, q.v3, q.v4, q.v5, q.v6, q.v7, q.v8, q.v9, q.v10, q.v11, q.v12, q.v13, q.v14, q.v15, q.v16]) := by cases ZW.out; exact Lib.hid (Blk.here (by simp))
 have HQ : Hid (PolV W q p) := by cases ZW.out; exact Lib.hid (hP.keep HB.out)
 have HLE : Hid (w.heap.size ≤ W.heap.size) := by cases ZW.out; exact Lib.hid HB.out.size
 try unfold PV.val
 go_enter Tryz.func12, Tryz.ntmps12
 go_upto_region 1 with fail
 rw [ZW.out]
 generalize hg0 : w.heap.size = g0 at *
 generalize Value.agg #[q.v0, q.v1, q.v2, q.v3, q.v4, q.v5, q.v6, q.v7, q.v8, q.v9, q.v10, q.v11, q.v12, q.v13, q.v14, q.v15, q.v16] = P0
 clear hP
 have HXC : Hid (∀ u, Kp W u → Blk u g0 39 #[q.v0, q.v1, q.v2, q.v3, q.v4, q.v5, q.v6, q.v7, q.v8, q.v9, q.v10, q.v11, q.v12, q.v13, q.v14, q.v15, q.v16]) := Lib.hid (fun u hu => HX0.out.keep hu)
 have HQC : Hid (∀ u, Kp W u → PolV u q p) := Lib.hid (fun u hu => HQ.out.keep hu)
 refine wp_region_phit 8 (ckPhi q p) (by kernel_rfl) (by decide) (by kernel_rfl) (by kernel_rfl) (by kernel_rfl) (fun k v u u2 h hb => ckPhi_keep h hb) ?_ ?_
 · refine ⟨⟨trivial, fun A u hK hF => ?_⟩, ⟨trivial, fun A u hK hF => ?_⟩, ⟨trivial, fun A u hK hF => ?_⟩, ⟨trivial, fun A u hK hF => ?_⟩, ⟨trivial, fun A u hK hF => ?_⟩, ⟨trivial, fun A u hK hF => ?_⟩, ⟨trivial, fun A u hK hF => ?_⟩, ⟨trivial, fun A u hK hF => ?_⟩, trivial⟩
   · have f1 : A.tmps[1]?.getD undef = .pointer (some ⟨g0, 0, none⟩) := fact_none (hF 1) (by kernel_rfl)
     unfold Gives
     rw [run_load (t := 39) (.tmp 1) rfl (by simpa [Act.eval] using f1) (loadAt_pol (HXC.out u hK))]
     exact gives_val (Below.refl _ _) rfl
   · have f4 : A.tmps[4]?.getD undef = q.val := fact_some (hF 4) (j := 0) (by kernel_rfl) (by kernel_rfl)
     unfold Gives
     go_simp
     exact gives_enter ((nclasses_c q p u (HQC.out u hK) HSM.out).mono fun e w2 h => ⟨_, h.1, h.2, _, rfl⟩)
   · have f1 : A.tmps[1]?.getD undef = .pointer (some ⟨g0, 0, none⟩) := fact_none (hF 1) (by kernel_rfl)
     unfold Gives
     rw [run_load (t := 39) (.tmp 1) rfl (by simpa [Act.eval] using f1) (loadAt_pol (HXC.out u hK))]
     exact gives_val (Below.refl _ _) rfl
   · have f6 : A.tmps[6]?.getD undef = q.val := fact_some (hF 6) (j := 2) (by kernel_rfl) (by kernel_rfl)
     unfold Gives
     go_simp
     exact gives_enter ((ntypes_c q p u (HQC.out u hK) HSM.out).mono fun e w2 h => by obtain ⟨c, h1, h2⟩ := h; exact ⟨_, h1, h2, c, rfl⟩)
   · have f1 : A.tmps[1]?.getD undef = .pointer (some ⟨g0, 0, none⟩) := fact_none (hF 1) (by kernel_rfl)
     unfold Gives
     rw [run_load (t := 39) (.tmp 1) rfl (by simpa [Act.eval] using f1) (loadAt_pol (HXC.out u hK))]
     exact gives_val (Below.refl _ _) rfl
   · have f8 : A.tmps[8]?.getD undef = q.val := fact_some (hF 8) (j := 4) (by kernel_rfl) (by kernel_rfl)
     unfold Gives
     go_simp
     exact gives_enter ((nroles_c q p u (HQC.out u hK) HSM.out).mono fun e w2 h => by obtain ⟨c, h1, h2⟩ := h; exact ⟨_, h1, h2, c, rfl⟩)
   · obtain ⟨y5, f5⟩ : ∃ c : Int, A.tmps[5]?.getD undef = .int .i64 c := fact_some (hF 5) (j := 1) (by kernel_rfl) (by kernel_rfl)
     obtain ⟨y7, f7⟩ : ∃ c : Int, A.tmps[7]?.getD undef = .int .i64 c := fact_some (hF 7) (j := 3) (by kernel_rfl) (by kernel_rfl)
     obtain ⟨y9, f9⟩ : ∃ c : Int, A.tmps[9]?.getD undef = .int .i64 c := fact_some (hF 9) (j := 5) (by kernel_rfl) (by kernel_rfl)
     unfold Gives
     go_simp
     exact gives_val ((Below.refl _ _).alloc (Nat.le_refl _) _) ⟨_, y5, y7, y9, rfl, Blk.new _ _ _⟩
   · obtain ⟨h, y5, y7, y9, f10, hb⟩ : ∃ (h : Nat) (y5 y7 y9 : Int), A.tmps[10]?.getD undef = .slice (some ⟨h, 0, none⟩) 3 3 ∧ Blk u h 65 #[.int .i64 y5, .int .i64 y7, .int .i64 y9] := fact_some (hF 10) (j := 6) (by kernel_rfl) (by kernel_rfl)
     have HS := Lib.hid (SlR.ints (L := [y5, y7, y9]) hb)
     clear hb
     unfold Gives
     go_simp
     exact gives_enter ((nfirst_c _ [y5, y7, y9] u HS.out (by unfold maxLen; simp)).mono fun e w2 h => ⟨_, h.1, by rw [h.2]; exact Below.refl _ _, _, rfl⟩)
 intro a W1 hC hsz hdf hF
 have ha := end_mask [false, false, false, false, true, true, true, true, true, true, true, true, false, false, false, false, false, false, false, false, false, false, false, false, false, false, false, false, false, false, false, false, false] hsz hdf hF (by kernel_rfl)
 obtain ⟨c1, f11⟩ : ∃ c : Int, a.tmps[11]?.getD undef = .int .i64 c := fact_end (hF 11) (j := 7) (by kernel_rfl)
 rw [ha]
 clear ha hF
 simp only [cutM_yes, cutM_no, cutM_nil, Nat.reduceAdd]
 rw [f11]
 clear f11
 generalize a.tmps[4]?.getD undef = s4
 generalize a.tmps[5]?.getD undef = s5
 generalize a.tmps[6]?.getD undef = s6
 generalize a.tmps[7]?.getD undef = s7
 generalize a.tmps[8]?.getD undef = s8
 generalize a.tmps[9]?.getD undef = s9
 generalize a.tmps[10]?.getD undef = s10
 clear hsz hdf
 have HK1 : Hid (Kp W W1) := Lib.hid hC
 have HF1 := Lib.hid (HB.out.trans (Below.mono hC HLE.out))
 clear hC HXC HQC
 by_cases h0 : c1 = 0
 · subst h0
   go_upto_region 4 with fail
   have HXC : Hid (∀ u, Kp W1 u → Blk u g0 39 #[q.v0, q.v1, q.v2, q.v3, q.v4, q.v5, q.v6, q.v7, q.v8, q.v9, q.v10, q.v11, q.v12, q.v13, q.v14, q.v15, q.v16]) := Lib.hid (fun u hu => HX0.out.keep (kp_trans HK1.out hu))
   have HQC : Hid (∀ u, Kp W1 u → PolV u q p) := Lib.hid (fun u hu => HQ.out.keep (kp_trans HK1.out hu))
   refine wp_region_phit 18 (ckPsi q p) (by kernel_rfl) (by decide) (by kernel_rfl) (by kernel_rfl) (by kernel_rfl) (fun k v u u2 h hb => ckPsi_keep h hb) ?_ ?_
   · refine ⟨⟨trivial, fun A u hK hF => ?_⟩, ⟨trivial, fun A u hK hF => ?_⟩, ⟨trivial, fun A u hK hF => ?_⟩, ⟨trivial, fun A u hK hF => ?_⟩, ⟨trivial, fun A u hK hF => ?_⟩, ⟨trivial, fun A u hK hF => ?_⟩, ⟨trivial, fun A u hK hF => ?_⟩, ⟨trivial, fun A u hK hF => ?_⟩, ⟨trivial, fun A u hK hF => ?_⟩, ⟨trivial, fun A u hK hF => ?_⟩, ⟨trivial, fun A u hK hF => ?_⟩, ⟨trivial, fun A u hK hF => ?_⟩, ⟨trivial, fun A u hK hF => ?_⟩, ⟨trivial, fun A u hK hF => ?_⟩, ⟨trivial, fun A u hK hF => ?_⟩, ⟨trivial, fun A u hK hF => ?_⟩, ⟨trivial, fun A u hK hF => ?_⟩, ⟨trivial, fun A u hK hF => ?_⟩, trivial⟩
     · have f1 : A.tmps[1]?.getD undef = .pointer (some ⟨g0, 0, none⟩) := fact_none (hF 1) (by kernel_rfl)
       unfold Gives
       rw [run_load (t := 39) (.tmp 1) rfl (by simpa [Act.eval] using f1) (loadAt_pol (HXC.out u hK))]
       exact gives_val (Below.refl _ _) rfl
     · have f15 : A.tmps[15]?.getD undef = q.val := fact_some (hF 15) (j := 0) (by kernel_rfl) (by kernel_rfl)
       unfold Gives
       go_simp
       exact gives_enter ((nusers_c q p u (HQC.out u hK) HSM.out).mono fun e w2 h => by obtain ⟨c, h1, h2⟩ := h; exact ⟨_, h1, h2, c, rfl⟩)
     · have f1 : A.tmps[1]?.getD undef = .pointer (some ⟨g0, 0, none⟩) := fact_none (hF 1) (by kernel_rfl)
       unfold Gives
       rw [run_load (t := 39) (.tmp 1) rfl (by simpa [Act.eval] using f1) (loadAt_pol (HXC.out u hK))]
       exact gives_val (Below.refl _ _) rfl
     · have f17 : A.tmps[17]?.getD undef = q.val := fact_some (hF 17) (j := 2) (by kernel_rfl) (by kernel_rfl)
       unfold Gives
       go_simp
       exact gives_enter ((nothers_c q p u (HQC.out u hK) HSM.out).mono fun e w2 h => by obtain ⟨c, h1, h2⟩ := h; exact ⟨_, h1, h2, c, rfl⟩)
     · have f1 : A.tmps[1]?.getD undef = .pointer (some ⟨g0, 0, none⟩) := fact_none (hF 1) (by kernel_rfl)
       unfold Gives
       rw [run_load (t := 39) (.tmp 1) rfl (by simpa [Act.eval] using f1) (loadAt_pol (HXC.out u hK))]
       exact gives_val (Below.refl _ _) rfl
     · have f19 : A.tmps[19]?.getD undef = q.val := fact_some (hF 19) (j := 4) (by kernel_rfl) (by kernel_rfl)
       unfold Gives
       go_simp
       exact gives_enter ((nrules_c q p u (HQC.out u hK) HSM.out).mono fun e w2 h => by obtain ⟨c, h1, h2⟩ := h; exact ⟨_, h1, h2, c, rfl⟩)
     · have f1 : A.tmps[1]?.getD undef = .pointer (some ⟨g0, 0, none⟩) := fact_none (hF 1) (by kernel_rfl)
       unfold Gives
       rw [run_load (t := 39) (.tmp 1) rfl (by simpa [Act.eval] using f1) (loadAt_pol (HXC.out u hK))]
       exact gives_val (Below.refl _ _) rfl
     · have f21 : A.tmps[21]?.getD undef = q.val := fact_some (hF 21) (j := 6) (by kernel_rfl) (by kernel_rfl)
       unfold Gives
       go_simp
       exact gives_enter ((ntrans_c q p u (HQC.out u hK) HSM.out).mono fun e w2 h => by obtain ⟨c, h1, h2⟩ := h; exact ⟨_, h1, h2, c, rfl⟩)
     · have f1 : A.tmps[1]?.getD undef = .pointer (some ⟨g0, 0, none⟩) := fact_none (hF 1) (by kernel_rfl)
       unfold Gives
       rw [run_load (t := 39) (.tmp 1) rfl (by simpa [Act.eval] using f1) (loadAt_pol (HXC.out u hK))]
       exact gives_val (Below.refl _ _) rfl
     · have f23 : A.tmps[23]?.getD undef = q.val := fact_some (hF 23) (j := 8) (by kernel_rfl) (by kernel_rfl)
       unfold Gives
       go_simp
       exact gives_enter ((nchanges_c q p u (HQC.out u hK) HSM.out).mono fun e w2 h => by obtain ⟨c, h1, h2⟩ := h; exact ⟨_, h1, h2, c, rfl⟩)
     · have f1 : A.tmps[1]?.getD undef = .pointer (some ⟨g0, 0, none⟩) := fact_none (hF 1) (by kernel_rfl)
       unfold Gives
       rw [run_load (t := 39) (.tmp 1) rfl (by simpa [Act.eval] using f1) (loadAt_pol (HXC.out u hK))]
       exact gives_val (Below.refl _ _) rfl
     · have f25 : A.tmps[25]?.getD undef = q.val := fact_some (hF 25) (j := 10) (by kernel_rfl) (by kernel_rfl)
       unfold Gives
       go_simp
       exact gives_enter ((nconstraints_c q p u (HQC.out u hK) HSM.out).mono fun e w2 h => by obtain ⟨v, h1, c, h2, h3, h4⟩ := h; exact ⟨v, h1, h4, c, h2, h3⟩)
     · have f1 : A.tmps[1]?.getD undef = .pointer (some ⟨g0, 0, none⟩) := fact_none (hF 1) (by kernel_rfl)
       unfold Gives
       rw [run_load (t := 39) (.tmp 1) rfl (by simpa [Act.eval] using f1) (loadAt_pol (HXC.out u hK))]
       exact gives_val (Below.refl _ _) rfl
     · have f27 : A.tmps[27]?.getD undef = q.val := fact_some (hF 27) (j := 12) (by kernel_rfl) (by kernel_rfl)
       unfold Gives
       go_simp
       exact gives_enter ((nlabels_c q p u (HQC.out u hK) HSM.out).mono fun e w2 h => by obtain ⟨c, h1, h2⟩ := h; exact ⟨_, h1, h2, c, rfl⟩)
     · have f1 : A.tmps[1]?.getD undef = .pointer (some ⟨g0, 0, none⟩) := fact_none (hF 1) (by kernel_rfl)
       unfold Gives
       rw [run_load (t := 39) (.tmp 1) rfl (by simpa [Act.eval] using f1) (loadAt_pol (HXC.out u hK))]
       exact gives_val (Below.refl _ _) rfl
     · have f29 : A.tmps[29]?.getD undef = q.val := fact_some (hF 29) (j := 14) (by kernel_rfl) (by kernel_rfl)
       unfold Gives
       go_simp
       exact gives_enter ((nasserts_c q p u (HQC.out u hK) HSM.out).mono fun e w2 h => by obtain ⟨c, h1, h2⟩ := h; exact ⟨_, h1, h2, c, rfl⟩)
     · obtain ⟨y16, f16⟩ : ∃ c : Int, A.tmps[16]?.getD undef = .int .i64 c := fact_some (hF 16) (j := 1) (by kernel_rfl) (by kernel_rfl)
       obtain ⟨y18, f18⟩ : ∃ c : Int, A.tmps[18]?.getD undef = .int .i64 c := fact_some (hF 18) (j := 3) (by kernel_rfl) (by kernel_rfl)
       obtain ⟨y20, f20⟩ : ∃ c : Int, A.tmps[20]?.getD undef = .int .i64 c := fact_some (hF 20) (j := 5) (by kernel_rfl) (by kernel_rfl)
       obtain ⟨y22, f22⟩ : ∃ c : Int, A.tmps[22]?.getD undef = .int .i64 c := fact_some (hF 22) (j := 7) (by kernel_rfl) (by kernel_rfl)
       obtain ⟨y24, f24⟩ : ∃ c : Int, A.tmps[24]?.getD undef = .int .i64 c := fact_some (hF 24) (j := 9) (by kernel_rfl) (by kernel_rfl)
       obtain ⟨y26, f26, hfk⟩ : ∃ c : Int, A.tmps[26]?.getD undef = .int .i64 c ∧ (c = 0 → CosOK p) := fact_some (hF 26) (j := 11) (by kernel_rfl) (by kernel_rfl)
       obtain ⟨y28, f28⟩ : ∃ c : Int, A.tmps[28]?.getD undef = .int .i64 c := fact_some (hF 28) (j := 13) (by kernel_rfl) (by kernel_rfl)
       obtain ⟨y30, f30⟩ : ∃ c : Int, A.tmps[30]?.getD undef = .int .i64 c := fact_some (hF 30) (j := 15) (by kernel_rfl) (by kernel_rfl)
       have HFK := Lib.hid hfk
       clear hfk
       unfold Gives
       go_simp
       exact gives_val ((Below.refl _ _).alloc (Nat.le_refl _) _) ⟨_, y16, y18, y20, y22, y24, y26, y28, y30, rfl, Blk.new _ _ _, HFK.out⟩
     · obtain ⟨h, y16, y18, y20, y22, y24, y26, y28, y30, f31, hb, hfk⟩ : ∃ (h : Nat) (y16 y18 y20 y22 y24 y26 y28 y30 : Int), A.tmps[31]?.getD undef = .slice (some ⟨h, 0, none⟩) 8 8 ∧ Blk u h 65 #[.int .i64 y16, .int .i64 y18, .int .i64 y20, .int .i64 y22, .int .i64 y24, .int .i64 y26, .int .i64 y28, .int .i64 y30] ∧ (y26 = 0 → CosOK p) := fact_some (hF 31) (j := 16) (by kernel_rfl) (by kernel_rfl)
       have HS := Lib.hid (SlR.ints (L := [y16, y18, y20, y22, y24, y26, y28, y30]) hb)
       clear hb
       have HFK := Lib.hid hfk
       clear hfk
       unfold Gives
       go_simp
       exact gives_enter ((nfirst_c _ [y16, y18, y20, y22, y24, y26, y28, y30] u HS.out (by unfold maxLen; simp)).mono fun e w2 h => ⟨_, h.1, by rw [h.2]; exact Below.refl _ _, _, rfl, fun h0 => HFK.out (fst_all h0 _ (by simp))⟩)
   intro a W4 hC hsz hdf hF
   have ha := end_mask [false, false, false, false, false, false, false, false, false, false, false, false, false, false, false, true, true, true, true, true, true, true, true, true, true, true, true, true, true, true, true, true, true] hsz hdf hF (by kernel_rfl)
   obtain ⟨c4, f32, hfk⟩ : ∃ c : Int, a.tmps[32]?.getD undef = .int .i64 c ∧ (c = 0 → CosOK p) := fact_end (hF 32) (j := 17) (by kernel_rfl)
   have HFK := Lib.hid hfk
   clear hfk
   rw [ha]
   clear ha hF
   simp only [cutM_yes, cutM_no, cutM_nil, Nat.reduceAdd]
   rw [f32]
   clear f32
   generalize a.tmps[15]?.getD undef = s15
   generalize a.tmps[16]?.getD undef = s16
   generalize a.tmps[17]?.getD undef = s17
   generalize a.tmps[18]?.getD undef = s18
   generalize a.tmps[19]?.getD undef = s19
   generalize a.tmps[20]?.getD undef = s20
   generalize a.tmps[21]?.getD undef = s21
   generalize a.tmps[22]?.getD undef = s22
   generalize a.tmps[23]?.getD undef = s23
   generalize a.tmps[24]?.getD undef = s24
   generalize a.tmps[25]?.getD undef = s25
   generalize a.tmps[26]?.getD undef = s26
   generalize a.tmps[27]?.getD undef = s27
   generalize a.tmps[28]?.getD undef = s28
   generalize a.tmps[29]?.getD undef = s29
   generalize a.tmps[30]?.getD undef = s30
   generalize a.tmps[31]?.getD undef = s31
   clear hsz hdf
   have HF4 := Lib.hid (HB.out.trans (Below.mono (kp_trans HK1.out hC) HLE.out))
   clear hC
   go_wp2_with fail
   go_ret
   first | exact ⟨_, rfl, HFK.out, HF4.out⟩ | exact ⟨_, rfl, ⟨_, rfl, HFK.out, HF4.out⟩⟩ | (rw [hg0]; first | exact ⟨_, rfl, HFK.out, HF4.out⟩ | exact ⟨_, rfl, ⟨_, rfl, HFK.out, HF4.out⟩⟩)
 · have hb : (c1 == 0) = false := by simpa using h0
   have hb2 : (c1 != 0) = true := by simpa using h0
   go_wp2_with fail
   go_ret
   first | exact ⟨_, rfl, (fun h => absurd h h0), HF1.out⟩ | exact ⟨_, rfl, ⟨_, rfl, (fun h => absurd h h0), HF1.out⟩⟩ | (rw [hg0]; first | exact ⟨_, rfl, (fun h => absurd h h0), HF1.out⟩ | exact ⟨_, rfl, ⟨_, rfl, (fun h => absurd h h0), HF1.out⟩⟩)
open Go.RowKit Go
/-- what fits says -/
def FitsOut (p : PP) (x : X) (B : Nat) (w w' : World) (v : Value) : Prop := ∃ b : Bool, v = .bool b ∧ (b = true → SmP p ∧ CosOK p ∧ smX 15 x = true) ∧ Below B w w'
def SmOut (p : PP) (w w' : World) (v : Value) : Prop := ∃ b : Bool, v = .bool b ∧ (b = true → SmP p) ∧ Below w.heap.size w w'
set_option maxRecDepth 100000 in
set_option maxHeartbeats 16000000 in
theorem fits_c (q : PV) (p : PP) (x : X) (vn vk : Value) (w : World) (hP : PolV w q p) (hpl : PLen p) (hV : XV w vn vk x) : Calls Tryz.prog 4 #[q.val, .agg #[.int .i64 x.op, .int .i64 x.a, .int .i64 x.r, .int .i64 x.b, vn, .int .u64 x.st.a, .int .u64 x.st.b, .int .u64 x.st.c, .int .u64 x.st.d, vk]] w fun e w' => ∃ v, e = .returned v ∧ FitsOut p x w.heap.size w w' v := by
 obtain ⟨ao, cap, ak, ck, rfl, rfl⟩ := hV.form
 have HPL := Lib.hid hpl
 obtain ⟨W, ZW⟩ : ∃ v, Hid (((w.alloc (.cells #[q.v0, q.v1, q.v2, q.v3, q.v4, q.v5, q.v6, q.v7, q.v8, q.v9, q.v10, q.v11, q.v12, q.v13, q.v14, q.v15, q.v16] 39)).alloc (.cells #[.int .i64 x.op, .int .i64 x.a, .int .i64 x.r, .int .i64 x.b, .slice ao x.ns.length cap, .int .u64 x.st.a, .int .u64 x.st.b, .int .u64 x.st.c, .int .u64 x.st.d, .slice ak x.ks.length ck] 55)) = v) := ⟨_, Lib.hid rfl⟩
 have HB : Hid (Below w.heap.size w W) := by cases ZW.out; exact Lib.hid (((Below.refl _ _).alloc (Nat.le_refl _) _).alloc (by first | (simp; done) | (simp; omega)) _)
 have HX0 : Hid (Blk W (w.heap.size) 39 #[q.v0, q.v1, q.v2, q.v3, q.v4, q.v5, q.v6, q.v7, q.v8, q.v9, q.v10, q.v11, q.v12, q.v13, q.v14, q.v15, q.v16]) := by cases ZW.out; exact Lib.hid ((Blk.here (by simp)).alloc _)
 have HX1 : Hid (Blk W (w.heap.size + 1) 55 #[.int .i64 x.op, .int .i64 x.a, .int .i64 x.r, .int .i64 x.b, .slice ao x.ns.length cap, .int .u64 x.st.a, .int .u64 x.st.b, .int .u64 x.st.c, .int .u64 x.st.d, .slice ak x.ks.length ck]) := by cases ZW.out; exact Lib.hid (Blk.here (by simp))
 have HQ : Hid (PolV W q p) := by cases ZW.out; exact Lib.hid (hP.keep HB.out)
 have HVX := Lib.hid (hV.keep HB.out)
 clear hV hP
 have HLE : Hid (w.heap.size ≤ W.heap.size) := by cases ZW.out; exact Lib.hid HB.out.size
 try unfold PV.val
 go_enter Tryz.func4, Tryz.ntmps4
 go_upto_region 1 with fail
 rw [ZW.out]
 generalize w.heap.size + 1 = g1 at *
 generalize hg0 : w.heap.size = g0 at *
 generalize Value.agg #[q.v0, q.v1, q.v2, q.v3, q.v4, q.v5, q.v6, q.v7, q.v8, q.v9, q.v10, q.v11, q.v12, q.v13, q.v14, q.v15, q.v16] = P0
 have HXC : Hid (∀ u, Kp W u → XC u g1 0 x.op x.a x.r x.b ao x.ns.length cap x.st ak x.ks.length ck) := Lib.hid (fun u hu => XC.of_blk (HX1.out.keep hu))
 obtain ⟨sx, hsx⟩ : ∃ z, smX 15 x = z := ⟨_, rfl⟩
 have HSX := Lib.hid hsx
 have HS1 : Hid (Calls Tryz.prog 10 #[.agg #[.int .i64 x.op, .int .i64 x.a, .int .i64 x.r, .int .i64 x.b, .slice ao x.ns.length cap, .int .u64 x.st.a, .int .u64 x.st.b, .int .u64 x.st.c, .int .u64 x.st.d, .slice ak x.ks.length ck], .int .i64 15] W fun e w' => e = .returned (.bool sx) ∧ Below W.heap.size W w') := Lib.hid (by rw [← hsx]; exact small_c 15 x _ _ W (by decide) HVX.out)
 clear hsx
 refine wp_region_lit ?_
 refine wpList_load (t := 55) (by rfl) (.tmp 3) rfl rfl (loadAt_expr (HXC.out W Kp.rfl')) ?_
 refine wpList_enter (v := .bool sx) (by rfl) (by first | (go_simp; done) | (go_simp; exact ⟨rfl, rfl⟩)) HS1.out (fun V1 hC1 => ?_)
 have HK1 : Hid (Kp W V1) := Lib.hid hC1
 clear hC1
 have HF1 := Lib.hid (HB.out.trans (Below.mono HK1.out HLE.out))
 refine wpList_val (by rfl) ?_
 go_simp
 refine ⟨_, _, ⟨rfl, rfl⟩, ?_⟩
 cases sx
 · go_wp2_with fail
   go_ret
   first | exact ⟨_, rfl, ⟨false, rfl, (fun h => by cases h), by first | exact HF1.out | (rw [hg0]; exact HF1.out)⟩⟩ | exact ⟨false, rfl, (fun h => by cases h), by first | exact HF1.out | (rw [hg0]; exact HF1.out)⟩
 · refine wpList_load (t := 39) (by rfl) (.tmp 2) rfl rfl (loadAt_pol (HX0.out.keep HK1.out)) ?_
   have HS2 : Hid (Calls Tryz.prog 11 #[q.val] V1 fun e w' => ∃ v, e = .returned v ∧ SmOut p V1 w' v) := Lib.hid ((nSmall_c q p V1 (HQ.out.keep HK1.out) HPL.out).mono fun e w2 h => by obtain ⟨b, h1, h2, h3⟩ := h; exact ⟨_, h1, b, rfl, h2, h3⟩)
   refine wpList_enterE (by rfl) (by first | (go_simp; done) | (go_simp; exact ⟨rfl, rfl⟩)) HS2.out ?_
   rintro _ V2 ⟨b2, rfl, hb2, hC2⟩
   have HB2F := Lib.hid hb2
   have HK2 : Hid (Kp W V2) := Lib.hid (kp_trans HK1.out hC2)
   have HF2 := Lib.hid (HB.out.trans (Below.mono HK2.out HLE.out))
   clear hb2 hC2
   refine wpList_val (by rfl) ?_
   go_simp
   refine ⟨_, _, ⟨rfl, rfl⟩, ?_⟩
   refine wpList_val (by rfl) ?_
   go_simp
   refine ⟨_, _, ⟨rfl, rfl⟩, ?_⟩
   cases b2
   · go_wp2_with fail
     go_ret
     first | exact ⟨_, rfl, ⟨false, rfl, (fun h => by cases h), by first | exact HF2.out | (rw [hg0]; exact HF2.out)⟩⟩ | exact ⟨false, rfl, (fun h => by cases h), by first | exact HF2.out | (rw [hg0]; exact HF2.out)⟩
   · refine wpList_load (t := 39) (by rfl) (.tmp 2) rfl rfl (loadAt_pol (HX0.out.keep HK2.out)) ?_
     have HS3 : Hid (Calls Tryz.prog 12 #[q.val] V2 fun e w' => ∃ v, e = .returned v ∧ COut p V2.heap.size V2 w' v) := Lib.hid (nCheck_c q p V2 (HQ.out.keep HK2.out) (HB2F.out rfl))
     refine wpList_enterE (by rfl) (by first | (go_simp; done) | (go_simp; exact ⟨rfl, rfl⟩)) HS3.out ?_
     rintro _ V3 ⟨c3, rfl, hc3, hC3⟩
     have HC3F := Lib.hid hc3
     have HK3 : Hid (Kp W V3) := Lib.hid (kp_trans HK2.out hC3)
     have HF3 := Lib.hid (HB.out.trans (Below.mono HK3.out HLE.out))
     clear hc3 hC3
     by_cases h0 : c3 = 0
     · subst h0
       go_wp2_with fail
       go_ret
       have HFIT := Lib.hid (And.intro (HB2F.out (by first | rfl | trivial)) (And.intro (HC3F.out (by first | rfl | trivial)) HSX.out))
       first | exact ⟨_, rfl, ⟨true, rfl, (fun _ => HFIT.out), by first | exact HF3.out | (rw [hg0]; exact HF3.out)⟩⟩ | exact ⟨true, rfl, (fun _ => HFIT.out), by first | exact HF3.out | (rw [hg0]; exact HF3.out)⟩
     · have q0 : (c3 == 0) = false := by simpa using h0
       go_wp2_with fail
       go_ret
       first | exact ⟨_, rfl, ⟨false, rfl, (fun h => by cases h), by first | exact HF3.out | (rw [hg0]; exact HF3.out)⟩⟩ | exact ⟨false, rfl, (fun h => by cases h), by first | exact HF3.out | (rw [hg0]; exact HF3.out)⟩
end Go.Proofs.YtbhoofihnmmmfabGreat
