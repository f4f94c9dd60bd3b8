/- indexBy: the places of entries by a key. -/
import Derived.Test.YtomoldfgnbjliaaAvj
import Derived.Deep.RegionHeld3
import Derived.Deep.RegionHeldLaw
namespace Go.Proofs.Ytomoldfgnbjliaa
open Go.RowKit Go.Sort Go.Shelf Go.Maps Go.WideMaps Go.ChangeShapes
def kf3 (x : E) : List Int := [x.s, x.t, x.c]
theorem kf3_ok (x : E) : (kf3 x).length = 3 ∧ WfK (kf3 x) := ⟨rfl, by
  intro z hz
  simp only [kf3, List.mem_cons, List.not_mem_nil, or_false] at hz
  obtain ⟨h1, h2, h3, h4⟩ := x.wf
  rcases hz with rfl | rfl | rfl
  · exact wf64 h1
  · exact wf64 h2
  · exact wf64 h3⟩
theorem infoI : (Try.prog.info? 3).map (fun i => (i.zero, i.size, i.bytes)) = some (some (.int .i64 0), 1, 8) := by kernel_rfl
set_option maxRecDepth 100000 in
set_option maxHeartbeats 4000000 in
theorem index3_c (v : Value) (L : List E) (hl : L.length ≤ 10000) (w : World) (hE : Ents w v L) :
    Calls Try.prog 26 #[v, .func (.func 27) #[] #[]] w fun e w' => ∃ b, e = .returned (.agg #[v, .map (some b)]) ∧ Grp 64 3 kf3 w' b L ∧ w.heap.size ≤ b ∧ Below w.heap.size w w' := by
  obtain ⟨i0, hinf, hz0, hz1, hz2⟩ := info_parts infoI
  have HE := Lib.hid hE
  obtain ⟨ao, cap, rfl, hcap, -⟩ := hE
  obtain ⟨n, hN⟩ : ∃ n, L.length = n := ⟨_, rfl⟩
  have HN := Lib.hid hN
  rw [hN] at hl hcap ⊢
  have hHE := HE.out
  rw [hN] at hHE
  have HE := Lib.hid hHE
  clear hN hHE
  have hlI : (n : Int) ≤ 10000 := by omega
  have hcI : (n : Int) ≤ (cap : Int) := by omega
  have hmm := @run_makeMap Try.prog
  go_enter Try.func26, Try.ntmps26
  go_wp2_with fail
  clear hmm
  obtain ⟨b, hb⟩ : ∃ b, w.heap.size + 1 = b := ⟨_, rfl⟩
  obtain ⟨W1, hW1⟩ : ∃ W1, (w.alloc (.cells #[.slice none 0 0, .map none] 51)).alloc (.map #[] 0) = W1 := ⟨_, rfl⟩
  have HG0 : Hid (Grp 64 3 kf3 W1 b (L.take 0)) := Lib.hid (by
    have h := World.ownsGroups_made (H := Unit) (w.alloc (.cells #[.slice none 0 0, .map none] 51)) Try.prog 64 3 .i64
    rw [World.size_alloc, hb, hW1] at h
    exact ⟨_, h, DI.nil _ _⟩)
  have HRB : Hid (Blk W1 w.heap.size 51 #[.slice none 0 0, .map none]) := Lib.hid (by rw [← hW1]; exact (Blk.new w _ _).alloc _)
  have HW1 : Hid (Below w.heap.size w W1) := Lib.hid (by rw [← hW1]; exact ((Below.refl _ w).alloc (Nat.le_refl _) _).alloc (by simp) _)
  have hs1 : W1.heap.size = b + 1 := by rw [← hW1, ← hb]; simp
  rw [hb, hW1]
  have HS1 := Lib.hid hs1
  have HB := Lib.hid hb
  clear hW1 hs1 hb
  go_loopw [12] (fun vi wr => ∃ i : Nat, i ≤ n ∧ vi = .int .i64 i ∧ Hid (Grp 64 3 kf3 wr b (L.take i)) ∧ Hid (Below b W1 wr)) (fun vi _ => n - (intOf vi).toNat)
  case atStart => exact ⟨0, Nat.zero_le _, rfl, HG0, Lib.hid (Below.refl _ _)⟩
  case round =>
    obtain ⟨i, hi, rfl, HG, HW⟩ := hrel
    by_cases hlt : i < n
    · have hltL : i < L.length := by rw [HN.out]; exact hlt
      obtain ⟨ao', cap', hao, -, hr⟩ := HE.out
      obtain ⟨g, o, rfl, hR⟩ := hr (by rintro rfl; simp at hltL)
      obtain ⟨rfl, -, rfl⟩ : ao = some ⟨g, o, none⟩ ∧ True ∧ cap = cap' := by
        simp only [Value.slice.injEq] at hao
        exact ⟨hao.1, trivial, hao.2.2⟩
      have hgw : g < w.heap.size := hR.lt (by rintro rfl; simp at hltL)
      have hA : At7 wr g (o + i * 7) L[i] := (hR.at hltL).keep ((HW.out.block g (by have := HB.out; omega)).trans (HW1.out.block g hgw))
      have hts := take_snoc' L i hltL
      obtain ⟨x, hx⟩ : ∃ x, L[i] = x := ⟨_, rfl⟩
      rw [hx] at hA hts
      have HTS := Lib.hid hts
      obtain ⟨a0, a1, a2, a3, a4, a5, a6⟩ := hA
      have hltI : (i : Int) < (n : Int) := by omega
      have HGa := Lib.hid (HG.out.keep ((Below.refl _ wr).alloc (Nat.le_refl _) (.cells #[.int .i64 x.s, .int .i64 x.t, .int .i64 x.c, .int .i64 x.d, .int .u32 (vI x.a), .int .u32 (vI x.b), .int .u32 (vI x.e)] 39)))
      have HWa := Lib.hid (HW.out.alloc (by have := HW.out.size; have := HS1.out; omega) (.cells #[.int .i64 x.s, .int .i64 x.t, .int .i64 x.c, .int .i64 x.d, .int .u32 (vI x.a), .int .u32 (vI x.b), .int .u32 (vI x.e)] 39))
      clear hx hao hr hR hts HG
      go_wp2_with (go_at_call 27; refine (caseOf_c x _).mono ?_; rintro e w1 ⟨rfl, hb1⟩; have HB1 := Lib.hid hb1; clear hb1)
      have HGb := Lib.hid ((HGa.out.keep HB1.out).keep ((Below.refl _ w1).alloc (Nat.le_refl _) (.cells #[.int .i64 x.s, .int .i64 x.t, .int .i64 x.c] 64)))
      have HWb : Hid (Below b W1 (w1.alloc (.cells #[.int .i64 x.s, .int .i64 x.t, .int .i64 x.c] 64))) := Lib.hid ((HWa.out.trans (HB1.out.mono (by have := HWa.out.size; have := HS1.out; omega))).alloc (by have := HWa.out.size; have := HB1.out.size; have := HS1.out; omega) _)
      have HKB := Lib.hid (Blk.new w1 64 #[.int .i64 x.s, .int .i64 x.t, .int .i64 x.c])
      generalize w1.alloc (.cells #[.int .i64 x.s, .int .i64 x.t, .int .i64 x.c] 64) = w2 at *
      generalize hkb : w1.heap.size = kb at *
      clear hkb HGa HWa HB1 a0 a1 a2 a3 a4 a5 a6 HW
      obtain ⟨D, hown, hDI⟩ := HGb.out
      have hlen : (L.take i).length = i := by rw [List.length_take]; omega
      rw [hlen] at hown
      have hkey := kt3.keyOf (kf3 x) (kf3_ok x).1 (kf3_ok x).2
      have hownd : (w2.drew).ownsGroups Try.prog 64 (b + 1) 3 .i64 b i D := groups_keep hown ((Below.refl _ _).drew)
      obtain ⟨u, zs, hlk1, hat, hoi, hzl, hback⟩ := hownd.at kt3.K Try.underlying49 (Try.zeroValue58 _) (by unfold maxLen; omega) hkey
      have hlk2 := lookup_same kt3.K Try.underlying49 hownd (w' := (w2.alloc (.cells #[.int .i64 (i : Int)] 3)).drew) (Below.heap_alloc _ _ b (groups_lt hownd)) hkey hlk1
      have hzs : numsOf (D.atKey (kl (kf3 x)) .nil) = zs := by rw [hat]; exact numsOf_row hoi
      have hbz : b + 1 ≤ w2.heap.size := by have := groups_lt hown; omega
      have hkn : some kb ≠ u.ownBlock := fun e => by
        rcases hoi.1.2 with ⟨hv, _⟩ | ⟨g', cp, cur, hv, _, hh, _⟩
        · rw [hv] at e; cases e
        · rw [hv] at e
          obtain rfl : kb = g' := by simpa [Value.ownBlock] using e
          have hK := HKB.out
          unfold Blk at hK
          have hh' : w2.heap[kb]? = some (.cells cur 3 (0, 0)) := hh
          rw [hK] at hh'
          simp only [Option.some.injEq, Obj.cells.injEq] at hh'
          exact absurd hh'.2.1 (by decide)
      have HKF : Hid (∀ w5, ((w2.alloc (.cells #[.int .i64 (i : Int)] 3)).drew).grownBy w5 u.ownBlock → w5.cell? ⟨kb, 0, none⟩ = some (.int .i64 x.s) ∧ w5.cell? ⟨kb, 1, none⟩ = some (.int .i64 x.t) ∧ w5.cell? ⟨kb, 2, none⟩ = some (.int .i64 x.c)) := Lib.hid (fun w5 hg => by
        have hB := Blk.alloc (show Blk w2 kb _ _ from HKB.out) (.cells #[.int .i64 (i : Int)] 3)
        have hB5 : Blk w5 kb _ _ := (hg.block kb hB.lt hkn).trans hB
        exact ⟨hB5.cell 0, hB5.cell 1, hB5.cell 2⟩)
      have HMU : Hid (∀ w5 g' cap', ((w2.alloc (.cells #[.int .i64 (i : Int)] 3)).drew).grownBy w5 u.ownBlock → w5.ownsRow (b + 1) 3 1 (.slice (some ⟨g', 0, none⟩) (zs.length + 1) cap') (zs.length + 1) (zs.map (Value.int .i64) ++ [.int .i64 (i : Int)]) →
          (u.ownBlock = some g' ∨ g' = ((w2.alloc (.cells #[.int .i64 (i : Int)] 3)).drew).heap.size) →
          ∃ w6, (Instr.mapUpdate 49 (.map (some b)) (.agg #[.int .i64 x.s, .int .i64 x.t, .int .i64 x.c]) (.slice (some ⟨g', 0, none⟩) (zs.length + 1) cap')).run Try.prog w5 = .ok () w6 ∧ Hid (Grp 64 3 kf3 w6 b (L.take (i + 1))) ∧ Hid (Below b W1 w6) ∧ (w6.cell? ⟨kb, 0, none⟩ = some (.int .i64 x.s) ∧ w6.cell? ⟨kb, 1, none⟩ = some (.int .i64 x.t) ∧ w6.cell? ⟨kb, 2, none⟩ = some (.int .i64 x.c))) := Lib.hid (fun w5 g' cap' hg ho hloc => by
        have hgr : (w2.drew).grownBy w5 u.ownBlock := (World.grownBy_alloc (w2.drew) _ _).trans hg
        have hoi' := hoi.appended ho (wf64 (by omega) : (Lit.int .i64 (i : Int)).wf = true)
        obtain ⟨w6, r1, r2, r3⟩ := hback w5 _ _ hgr hoi' (by simp; omega) (by
          rcases hloc with h | h
          · exact .inl (by rw [h]; rfl)
          · exact .inr ⟨g', rfl, by rw [h]; simp⟩)
        refine ⟨w6, r1, Lib.hid ?_, Lib.hid ?_, ?_⟩
        · rw [HTS.out]
          refine ⟨D.put (kl (kf3 x)) (rowDatum .i64 (.slice (some ⟨g', 0, none⟩) (zs.length + 1) cap') (zs ++ [(i : Int)])), ?_, ?_⟩
          · rw [List.length_append, hlen]
            exact r2
          · have h1 := hoi'
            rw [show (i : Int) = ((L.take i).length : Int) by rw [hlen]] at h1 ⊢
            exact DI.step kt3 kf3_ok hDI x hzs h1
        · exact RowKit.Below.groups (HWb.out.trans (Below.refl _ _).drew) hoi hgr r3 (by show b ≤ w2.heap.size; omega) (by omega) (Nat.le_refl _)
        · have hB := Blk.alloc (show Blk w2 kb _ _ from HKB.out) (.cells #[.int .i64 (i : Int)] 3)
          have hB5 : Blk w5 kb _ _ := (hg.block kb hB.lt hkn).trans hB
          have hkb : some kb ≠ some b := fun e => by
            cases e
            obtain ⟨es, clock, hm, _⟩ := hown
            have hK := HKB.out
            unfold Blk at hK
            rw [hK] at hm; cases hm
          have hB6 : Blk w6 kb _ _ := (r3.block kb hB5.lt hkb).trans hB5
          exact ⟨hB6.cell 0, hB6.cell 1, hB6.cell 2⟩)
      have q0 : w2.cell? ⟨kb, 0, none⟩ = some (.int .i64 x.s) := HKB.out.cell 0
      have q1 : w2.cell? ⟨kb, 1, none⟩ = some (.int .i64 x.t) := HKB.out.cell 1
      have q2 : w2.cell? ⟨kb, 2, none⟩ = some (.int .i64 x.c) := HKB.out.cell 2
      have HDI := Lib.hid hDI
      have HHat := Lib.hid hat
      have HOI := Lib.hid hoi
      have HZL := Lib.hid hzl
      have HBK := Lib.hid hback
      have HZS := Lib.hid hzs
      have HLEN := Lib.hid hlen
      have HOWN := Lib.hid hown
      clear hDI hat hoi hzl hback hzs hlen hown hownd hkey
      change (Instr.lookup _ _ (.agg #[.int .i64 x.s, .int .i64 x.t, .int .i64 x.c]) _).run _ _ = _ at hlk1
      change (Instr.lookup _ _ (.agg #[.int .i64 x.s, .int .i64 x.t, .int .i64 x.c]) _).run _ _ = _ at hlk2
      go_region_held_law (fun w' => w'.cell? ⟨kb, 0, none⟩ = some (.int .i64 x.s) ∧ w'.cell? ⟨kb, 1, none⟩ = some (.int .i64 x.t) ∧ w'.cell? ⟨kb, 2, none⟩ = some (.int .i64 x.c)) (first | go_keep | exact HKF.out _ hgrow5 | exact HS6)
        ((refine step_append_lies _ (by rfl) _ _ _ (by rfl) (b + 1) 3 i0 (.int .i64 0) 1 8 Try.underlying58 hinf hz0 hz1 hz2 rfl (by decide) u zs.length (zs.map (Value.int .i64)) (by rfl) (HOI.out.1.alloc _) ⟨w2.heap.size, 0, none⟩ 1 1 [.int .i64 (i : Int)] (by rfl) (by rfl) (cell_one_new _ _ _) (by simp [Value.oneCell']) (by decide) (by have := HZL.out; unfold maxLen; omega) (by have := HZL.out; omega) (by simp; omega) _ rfl ?_; intro g' cap' w5 hown5 hgrow5 hat5 hlt5; obtain ⟨w6, hrun6, H6, HB6, HS6⟩ := HMU.out w5 g' cap' hgrow5 hown5 hat5))
      all_goals
        go_wp2_with fail
        exact ⟨⟨i + 1, by omega, by go_num, H6, HB6⟩, by simp [intOf]; omega⟩
    · obtain rfl : i = n := by omega
      have hrb : Blk wr w.heap.size 51 #[.slice none 0 0, .map none] := HRB.out.below HW.out (by have := HB.out; omega)
      have y0 := hrb.cell 0
      have y1 := hrb.cell 1
      have y2 := hrb.frozen 0
      have y3 := hrb.frozen 1
      have hG : Hid (Grp 64 3 kf3 wr b L) := Lib.hid (by have := HG.out; rwa [← HN.out, List.take_length] at this)
      have HRB2 := Lib.hid hrb
      clear hrb
      go_wp2_with fail
      have hB2 := (HRB2.out.set 0 (.slice ao i cap)).set 1 (.map (some b))
      have z0 : ((wr.setCell ⟨w.heap.size, 0, none⟩ (.slice ao i cap)).setCell ⟨w.heap.size, 1, none⟩ (.map (some b))).cell? ⟨w.heap.size, 0, none⟩ = some (.slice ao i cap) := hB2.cell 0
      have z1 : ((wr.setCell ⟨w.heap.size, 0, none⟩ (.slice ao i cap)).setCell ⟨w.heap.size, 1, none⟩ (.map (some b))).cell? ⟨w.heap.size, 1, none⟩ = some (.map (some b)) := hB2.cell 1
      have hbl : Below w.heap.size w wr := HW1.out.trans (HW.out.mono (by have := HB.out; omega))
      have hgb : wr.grownBy ((wr.setCell ⟨w.heap.size, 0, none⟩ (.slice ao i cap)).setCell ⟨w.heap.size, 1, none⟩ (.map (some b))) (some w.heap.size) :=
        ⟨rfl, rfl, rfl, by simp [World.setCell], fun k hk hne => (Below.heap_setCell _ _ _ k (by rintro rfl; exact hne rfl)).trans (Below.heap_setCell _ _ _ k (by rintro rfl; exact hne rfl))⟩
      refine bodyPost_ret (v := .agg #[.slice ao i cap, .map (some b)]) (by simp [results, Try.results26, go_sem, z0, z1]) rfl ⟨b, rfl, hG.out.keepT (by decide) HRB2.out hgb, by have := HB.out; omega, (hbl.setCell (by simp) _).setCell (by simp) _⟩
end Go.Proofs.Ytomoldfgnbjliaa
