/- join: an entry behind ascending entries. -/
import Derived.Test.YtomoldfgnbjliaaAvd
import Derived.Deep.DeepCutAuto
namespace Go.Proofs.Ytomoldfgnbjliaa
open Go.RowKit Go.Sort
/-- what join leaves -/
def JoinOut (w : World) (B : Nat) (v : Value) (L : List E) (e : Ending) (w' : World) : Prop :=
  ∃ v', e = .returned v' ∧ OwnE w' B v' L ∧ w.grownBy w' v.ownBlock ∧ (v'.ownBlock = v.ownBlock ∨ ∃ g, v'.ownBlock = some g ∧ w.heap.size ≤ g)
theorem join_grow {w w2 w3 : World} {B : Nat} {v : Value} {L : List E} {g' cap k : Nat} (hown : OwnE w3 B (.slice (some ⟨g', 0, none⟩) k cap) L) (h1 : Below w.heap.size w w2) (h2 : w2.grownBy w3 v.ownBlock) (h3 : v.ownBlock = some g' ∨ g' = w2.heap.size) :
    JoinOut w B v L (.returned (.slice (some ⟨g', 0, none⟩) k cap)) w3 := by
  refine ⟨_, rfl, hown, ⟨h2.os.trans h1.os, h2.tape.trans h1.tape, h2.output.trans h1.output, Nat.le_trans h1.size h2.size, fun k hk hne => (h2.block k (Nat.lt_of_lt_of_le hk h1.size) hne).trans (h1.block k hk)⟩, ?_⟩
  rcases h3 with h3 | h3
  · exact .inl (by rw [h3]; rfl)
  · exact .inr ⟨g', rfl, by rw [h3]; exact h1.size⟩
theorem compareB_c (x y : E) (w : World) : Calls Try.prog 45 #[.agg #[.int .i64 x.s, .int .i64 x.t, .int .i64 x.c, .int .i64 x.d, .int .u32 (vI x.a), .int .u32 (vI x.b), .int .u32 (vI x.e)], .agg #[.int .i64 y.s, .int .i64 y.t, .int .i64 y.c, .int .i64 y.d, .int .u32 (vI y.a), .int .u32 (vI y.b), .int .u32 (vI y.e)]] w fun e w' => e = .returned (.int .i64 (cmpE x y)) ∧ Below w.heap.size w w' := (compare_c x y w).mono fun _ _ ⟨h, k⟩ => ⟨h, k.below⟩
section
variable {w : World} {B : Nat}
set_option maxRecDepth 100000 in
set_option maxHeartbeats 4000000 in
theorem join_nil_c {v : Value} (x : E) (hown : OwnE w B v []) (hB : B ≤ w.heap.size) :
    Calls Try.prog 46 #[v, .agg #[.int .i64 x.s, .int .i64 x.t, .int .i64 x.c, .int .i64 x.d, .int .u32 (vI x.a), .int .u32 (vI x.b), .int .u32 (vI x.e)]] w (JoinOut w B v (join [] x)) := by
  obtain ⟨ao, cap, rfl⟩ := hown.isSl
  simp only [List.length_nil] at hown ⊢
  have HO := Lib.hid hown
  clear hown
  go_enter Try.func46, Try.ntmps46
  go_wp2_with fail
  have HB := Lib.hid (Blk.new w 39 #[.int .i64 x.s, .int .i64 x.t, .int .i64 x.c, .int .i64 x.d, .int .u32 (vI x.a), .int .u32 (vI x.b), .int .u32 (vI x.e)])
  have HW : Hid (Below w.heap.size w (w.alloc (.cells #[.int .i64 x.s, .int .i64 x.t, .int .i64 x.c, .int .i64 x.d, .int .u32 (vI x.a), .int .u32 (vI x.b), .int .u32 (vI x.e)] 39))) := Lib.hid ((Below.refl _ _).alloc (Nat.le_refl _) _)
  have hsz : (w.alloc (.cells #[.int .i64 x.s, .int .i64 x.t, .int .i64 x.c, .int .i64 x.d, .int .u32 (vI x.a), .int .u32 (vI x.b), .int .u32 (vI x.e)] 39)).heap.size = w.heap.size + 1 := by simp
  have HZ := Lib.hid hsz
  clear hsz
  generalize w.alloc (.cells #[.int .i64 x.s, .int .i64 x.t, .int .i64 x.c, .int .i64 x.d, .int .u32 (vI x.a), .int .u32 (vI x.b), .int .u32 (vI x.e)] 39) = w2 at *
  refine wp_region_d (by kernel_rfl) (by kernel_rfl) ?_
  repeat (first
      | go_big_quiet_skip
      | (go_big_quiet_want
         go_big_quiet_op
         first
           | go_big_quiet_on
           | (apply Exists.intro
              refine ⟨fun w1 hC => ?_, ?_⟩
              · first
                  | (obtain ⟨n, rfl⟩ := hC; go_simp; exact rfl)
                  | (go_simp; exact ⟨rfl, rfl⟩)
              go_big_quiet_on)))
  refine wpQuiet_nil ?_
  intro W' hC
  obtain ⟨nd, rfl⟩ := hC
  have HB2 := Lib.hid (HB.out.drewN nd)
  have HW2 : Hid (Below w.heap.size w (w2.drewN nd)) := Lib.hid (HW.out.trans ⟨rfl, rfl, rfl, Nat.le_refl _, fun _ _ => rfl⟩)
  obtain ⟨c0, c1, c2, c3, c4, c5, c6⟩ := (show Box (w2.drewN nd) w.heap.size x from HB2.out).cells
  generalize w2.drewN nd = w3 at *
  clear HB HW HZ
  go_wp2_with (first | (at_builtin; refine wpList_append_E (by rfl) _ _ (by rfl) B (.slice ao 0 cap) [] 0 (by rfl) (by rfl) (HO.out.below (HW2.out.alloc HW2.out.size _)) w3.heap.size x (by rfl) (Blk.new _ _ _) (by simp) (by have := HW2.out.size; simp; omega) ?_; intro g' cap' w4 h1 h2 h3; have H1 := Lib.hid h1; have H2 := Lib.hid h2; have H3 := Lib.hid h3; clear h1 h2 h3) | fail)
  go_ret
  exact join_grow (L := [x]) H1.out (HW2.out.alloc HW2.out.size _) H2.out H3.out
set_option maxRecDepth 100000 in
set_option maxHeartbeats 4000000 in
theorem join_far_c {g n cap : Nat} {m : List E} (y x : E) (he : ¬ eqP y x) (hm : m.length = n) (hn : n ≤ 100000) (hown : OwnE w B (.slice (some ⟨g, 0, none⟩) (n + 1) cap) (m ++ [y])) (hB : B ≤ w.heap.size) :
    Calls Try.prog 46 #[.slice (some ⟨g, 0, none⟩) (n + 1) cap, .agg #[.int .i64 x.s, .int .i64 x.t, .int .i64 x.c, .int .i64 x.d, .int .u32 (vI x.a), .int .u32 (vI x.b), .int .u32 (vI x.e)]] w (JoinOut w B (.slice (some ⟨g, 0, none⟩) (n + 1) cap) (join (m ++ [y]) x)) := by
  obtain ⟨hA0, hf0, hg0, hcap, hBg, -⟩ := hown.last hm
  have HA0 := Lib.hid hA0
  have HO := Lib.hid hown
  have HM := Lib.hid hm
  have HE := Lib.hid he
  have hn1 : (n : Int) ≤ 100000 := by omega
  have hq : ((n : Int) + 1 == 0) = false := by simp; omega
  have hcapI : (n : Int) + 1 ≤ (cap : Int) := by omega
  obtain ⟨C, hC⟩ : ∃ C, cmpE y x = C := ⟨_, rfl⟩
  have HC := Lib.hid hC
  have hz1 : (C == 0) = false := by rw [← hC]; simpa using fun h => he (cmpE_eq.1 h)
  have hz2 : (C != 0) = true := by rw [bne, hz1]; rfl
  have HX : Hid (∀ w1, Calls Try.prog 45 #[.agg #[.int .i64 y.s, .int .i64 y.t, .int .i64 y.c, .int .i64 y.d, .int .u32 (vI y.a), .int .u32 (vI y.b), .int .u32 (vI y.e)], .agg #[.int .i64 x.s, .int .i64 x.t, .int .i64 x.c, .int .i64 x.d, .int .u32 (vI x.a), .int .u32 (vI x.b), .int .u32 (vI x.e)]] w1 fun e w' => e = .returned (.int .i64 C) ∧ Below w1.heap.size w1 w') := Lib.hid (fun w1 => by rw [← hC]; exact compareB_c y x w1)
  clear hown hA0 hm hf0 he hC
  go_enter Try.func46, Try.ntmps46
  go_wp2_with fail
  have HB := Lib.hid (Blk.new w 39 #[.int .i64 x.s, .int .i64 x.t, .int .i64 x.c, .int .i64 x.d, .int .u32 (vI x.a), .int .u32 (vI x.b), .int .u32 (vI x.e)])
  have HW : Hid (Below w.heap.size w (w.alloc (.cells #[.int .i64 x.s, .int .i64 x.t, .int .i64 x.c, .int .i64 x.d, .int .u32 (vI x.a), .int .u32 (vI x.b), .int .u32 (vI x.e)] 39))) := Lib.hid ((Below.refl _ _).alloc (Nat.le_refl _) _)
  generalize w.alloc (.cells #[.int .i64 x.s, .int .i64 x.t, .int .i64 x.c, .int .i64 x.d, .int .u32 (vI x.a), .int .u32 (vI x.b), .int .u32 (vI x.e)] 39) = w2 at *
  have HA2 : Hid (At7 w2 g (n * 7) y) := Lib.hid (HA0.out.keep (HW.out.block g hg0))
  have hg2 : g < w2.heap.size := HA2.out.lt
  refine wp_region_kp (by kernel_rfl) (by kernel_rfl) ?_
  repeat (first
      | go_big_quiet_skip
      | (go_big_quiet_want
         go_big_quiet_op
         first
           | go_big_quiet_on
           | (apply Exists.intro
              refine ⟨fun w1 hC => ?_, ?_⟩
              · first
                  | (go_at_call 45; with_reducible exact hC.call (HX.out _))
                  | (obtain ⟨b0, b1, b2, b3, b4, b5, b6⟩ := (show Box w1 w.heap.size x from hC.blk HB.out).cells; obtain ⟨d0, d1, d2, d3, d4, d5, d6⟩ := HA2.out.keep (hC.block g hg2); go_simp; exact rfl)
                  | (go_simp; exact ⟨rfl, rfl⟩)
              go_big_quiet_on)))
  refine wpQuiet_nil ?_
  intro w3 hK
  have HB3 : Hid (Box w3 w.heap.size x) := Lib.hid (hK.blk HB.out)
  have HW3 : Hid (Below w.heap.size w w3) := Lib.hid (HW.out.trans (hK.mono HW.out.size))
  have HO3 : Hid (OwnE w3 B (.slice (some ⟨g, 0, none⟩) (n + 1) cap) (m ++ [y])) := Lib.hid (HO.out.below HW3.out)
  have hlt3 : w.heap.size ≤ w3.heap.size := HW3.out.size
  obtain ⟨b0, b1, b2, b3, b4, b5, b6⟩ := HB3.out.cells
  clear hK HB HW HA2 HO HX hg2 HA0
  go_wp2_with (first | (at_builtin; refine wpList_append_E (by rfl) _ _ (by rfl) B (.slice (some ⟨g, 0, none⟩) (n + 1) cap) (m ++ [y]) (n + 1) (by have := HM.out; simp; omega) (by rfl) (HO3.out.below ((Below.refl _ _).alloc (Nat.le_refl _) _)) w3.heap.size x (by rfl) (Blk.new _ _ _) (by omega) (by simp; omega) ?_; intro g' cap' w4 h1 h2 h3; have H1 := Lib.hid h1; have H2 := Lib.hid h2; have H3 := Lib.hid h3; clear h1 h2 h3) | fail)
  go_ret
  have e : join (m ++ [y]) x = m ++ [y] ++ [x] := by rw [join_snoc, if_neg HE.out, List.append_assoc]; rfl
  rw [e]
  exact join_grow H1.out (HW3.out.alloc HW3.out.size _) H2.out H3.out
set_option maxRecDepth 100000 in
set_option maxHeartbeats 4000000 in
theorem join_near_c {g n cap : Nat} {m : List E} (y x : E) (he : eqP y x) (hm : m.length = n) (hn : n ≤ 100000) (hown : OwnE w B (.slice (some ⟨g, 0, none⟩) (n + 1) cap) (m ++ [y])) :
    Calls Try.prog 46 #[.slice (some ⟨g, 0, none⟩) (n + 1) cap, .agg #[.int .i64 x.s, .int .i64 x.t, .int .i64 x.c, .int .i64 x.d, .int .u32 (vI x.a), .int .u32 (vI x.b), .int .u32 (vI x.e)]] w (JoinOut w B (.slice (some ⟨g, 0, none⟩) (n + 1) cap) (join (m ++ [y]) x)) := by
  obtain ⟨hA0, hf0, hg0, hcap, hBg, -⟩ := hown.last hm
  have HA0 := Lib.hid hA0
  have HO := Lib.hid hown
  have HM := Lib.hid hm
  have HE := Lib.hid he
  have hn1 : (n : Int) ≤ 100000 := by omega
  have hq : ((n : Int) + 1 == 0) = false := by simp; omega
  have hcapI : (n : Int) + 1 ≤ (cap : Int) := by omega
  obtain ⟨C, hC⟩ : ∃ C, cmpE y x = C := ⟨_, rfl⟩
  have HC := Lib.hid hC
  have hz1 : (C == 0) = true := by rw [← hC]; simpa using cmpE_eq.2 he
  have hz2 : (C != 0) = false := by rw [bne, hz1]; rfl
  have HX : Hid (∀ w1, Calls Try.prog 45 #[.agg #[.int .i64 y.s, .int .i64 y.t, .int .i64 y.c, .int .i64 y.d, .int .u32 (vI y.a), .int .u32 (vI y.b), .int .u32 (vI y.e)], .agg #[.int .i64 x.s, .int .i64 x.t, .int .i64 x.c, .int .i64 x.d, .int .u32 (vI x.a), .int .u32 (vI x.b), .int .u32 (vI x.e)]] w1 fun e w' => e = .returned (.int .i64 C) ∧ Below w1.heap.size w1 w') := Lib.hid (fun w1 => by rw [← hC]; exact compareB_c y x w1)
  clear hown hA0 hm hf0 he hC
  go_enter Try.func46, Try.ntmps46
  go_wp2_with fail
  have HB := Lib.hid (Blk.new w 39 #[.int .i64 x.s, .int .i64 x.t, .int .i64 x.c, .int .i64 x.d, .int .u32 (vI x.a), .int .u32 (vI x.b), .int .u32 (vI x.e)])
  have HW : Hid (Below w.heap.size w (w.alloc (.cells #[.int .i64 x.s, .int .i64 x.t, .int .i64 x.c, .int .i64 x.d, .int .u32 (vI x.a), .int .u32 (vI x.b), .int .u32 (vI x.e)] 39))) := Lib.hid ((Below.refl _ _).alloc (Nat.le_refl _) _)
  generalize w.alloc (.cells #[.int .i64 x.s, .int .i64 x.t, .int .i64 x.c, .int .i64 x.d, .int .u32 (vI x.a), .int .u32 (vI x.b), .int .u32 (vI x.e)] 39) = w2 at *
  have HA2 : Hid (At7 w2 g (n * 7) y) := Lib.hid (HA0.out.keep (HW.out.block g hg0))
  have hg2 : g < w2.heap.size := HA2.out.lt
  refine wp_region_kp (by kernel_rfl) (by kernel_rfl) ?_
  repeat (first
      | go_big_quiet_skip
      | (go_big_quiet_want
         go_big_quiet_op
         first
           | go_big_quiet_on
           | (apply Exists.intro
              refine ⟨fun w1 hC => ?_, ?_⟩
              · first
                  | (go_at_call 45; with_reducible exact hC.call (HX.out _))
                  | (obtain ⟨b0, b1, b2, b3, b4, b5, b6⟩ := (show Box w1 w.heap.size x from hC.blk HB.out).cells; obtain ⟨d0, d1, d2, d3, d4, d5, d6⟩ := HA2.out.keep (hC.block g hg2); go_simp; exact rfl)
                  | (go_simp; exact ⟨rfl, rfl⟩)
              go_big_quiet_on)))
  refine wpQuiet_nil ?_
  intro w3 hK
  have HB3 : Hid (Box w3 w.heap.size x) := Lib.hid (hK.blk HB.out)
  have HW3 : Hid (Below w.heap.size w w3) := Lib.hid (HW.out.trans (hK.mono HW.out.size))
  have HO3 : Hid (OwnE w3 B (.slice (some ⟨g, 0, none⟩) (n + 1) cap) (m ++ [y])) := Lib.hid (HO.out.below HW3.out)
  have hlt3 : w.heap.size ≤ w3.heap.size := HW3.out.size
  obtain ⟨b0, b1, b2, b3, b4, b5, b6⟩ := HB3.out.cells
  clear hK HB HW HA2 HO HX hg2 HA0
  have ho1 := vI_or y.a x.a
  have ho2 := vI_or y.b x.b
  have ho3 := vI_or y.e x.e
  have HG3 : Hid (w.grownBy w3 (some g)) := Lib.hid ⟨HW3.out.os, HW3.out.tape, HW3.out.output, HW3.out.size, fun k hk _ => HW3.out.block k hk⟩
  clear b0 b1 b2 b3 b4 b5 b6
  obtain ⟨⟨d0, d1, d2, d3, d4, d5, d6⟩, hfr, hgl, -⟩ := HO3.out.last HM.out
  obtain ⟨b0, b1, b2, b3, b4, b5, b6⟩ := HB3.out.cells
  have HFR := Lib.hid hfr
  clear hfr
  go_upto_region 4 with (fail)
  refine wp_region_dt 9 (by kernel_rfl) (by kernel_rfl) ?_
  simp only [List.take_succ_cons, List.take_zero, List.drop_succ_cons, List.drop_zero]
  repeat (first
      | go_big_quiet_skip
      | (go_big_quiet_want
         go_big_quiet_op
         first
           | go_big_quiet_on
           | (apply Exists.intro
              refine ⟨fun w1 hC => ?_, ?_⟩
              · first
                  | (obtain ⟨nn, rfl⟩ := hC; go_simp; exact rfl)
                  | (go_simp; exact ⟨rfl, rfl⟩)
              go_big_quiet_on)))
  refine wpQuiet_nil ?_
  intro W' hC'
  obtain ⟨nd, rfl⟩ := hC'
  have hfz : (w3.drewN nd).frozen? ⟨g, n * 7 + 4, none⟩ = false := HFR.out _
  have HO4 : Hid (OwnE ((w3.drewN nd).setCell ⟨g, n * 7 + 4, none⟩ (.int .u32 (vI (y.a ||| x.a)))) B (.slice (some ⟨g, 0, none⟩) (n + 1) cap) (m ++ [{ y with a := y.a ||| x.a }])) :=
    Lib.hid (OwnE.set1 (y := y) 4 _ (by decide) (fun j hj => by match j, hj with | 0, _ => rfl | 1, _ => rfl | 2, _ => rfl | 3, _ => rfl | 4, _ => rfl | 5, _ => rfl | 6, _ => rfl) HM.out HO3.out)
  have HB4 : Hid (Box ((w3.drewN nd).setCell ⟨g, n * 7 + 4, none⟩ (.int .u32 (vI (y.a ||| x.a)))) w.heap.size x) := Lib.hid ((HB3.out.drewN nd).far (p := ⟨g, n * 7 + 4, none⟩) (by simp only; omega) _)
  have HG4 : Hid (w.grownBy ((w3.drewN nd).setCell ⟨g, n * 7 + 4, none⟩ (.int .u32 (vI (y.a ||| x.a)))) (some g)) := Lib.hid ⟨HG3.out.os, HG3.out.tape, HG3.out.output, by simpa [World.setCell] using HG3.out.size, fun q hq hne => (Below.heap_setCell (w3.drewN nd) ⟨g, n * 7 + 4, none⟩ _ q (by rintro rfl; exact hne rfl)).trans (HG3.out.block q hq hne)⟩
  go_upto_region 5 with (fail)
  generalize (w3.drewN nd).setCell ⟨g, n * 7 + 4, none⟩ (.int .u32 (vI (y.a ||| x.a))) = w4 at *
  clear HO3 HB3 HG3 HFR hfz hgl d0 d1 d2 d3 d4 d5 d6 b0 b1 b2 b3 b4 b5 b6
  obtain ⟨⟨d0, d1, d2, d3, d4, d5, d6⟩, hfr, hgl, -⟩ := HO4.out.last HM.out
  obtain ⟨b0, b1, b2, b3, b4, b5, b6⟩ := HB4.out.cells
  have HFR := Lib.hid hfr
  clear hfr
  go_upto_region 5 with (fail)
  refine wp_region_dt 9 (by kernel_rfl) (by kernel_rfl) ?_
  simp only [List.take_succ_cons, List.take_zero, List.drop_succ_cons, List.drop_zero]
  repeat (first
      | go_big_quiet_skip
      | (go_big_quiet_want
         go_big_quiet_op
         first
           | go_big_quiet_on
           | (apply Exists.intro
              refine ⟨fun w1 hC => ?_, ?_⟩
              · first
                  | (obtain ⟨nn, rfl⟩ := hC; go_simp; exact rfl)
                  | (go_simp; exact ⟨rfl, rfl⟩)
              go_big_quiet_on)))
  refine wpQuiet_nil ?_
  intro W' hC'
  obtain ⟨nd, rfl⟩ := hC'
  have hfz : (w4.drewN nd).frozen? ⟨g, n * 7 + 5, none⟩ = false := HFR.out _
  have HO5 : Hid (OwnE ((w4.drewN nd).setCell ⟨g, n * 7 + 5, none⟩ (.int .u32 (vI (y.b ||| x.b)))) B (.slice (some ⟨g, 0, none⟩) (n + 1) cap) (m ++ [{ y with a := y.a ||| x.a, b := y.b ||| x.b }])) :=
    Lib.hid (OwnE.set1 (y := { y with a := y.a ||| x.a }) 5 _ (by decide) (fun j hj => by match j, hj with | 0, _ => rfl | 1, _ => rfl | 2, _ => rfl | 3, _ => rfl | 4, _ => rfl | 5, _ => rfl | 6, _ => rfl) HM.out HO4.out)
  have HB5 : Hid (Box ((w4.drewN nd).setCell ⟨g, n * 7 + 5, none⟩ (.int .u32 (vI (y.b ||| x.b)))) w.heap.size x) := Lib.hid ((HB4.out.drewN nd).far (p := ⟨g, n * 7 + 5, none⟩) (by simp only; omega) _)
  have HG5 : Hid (w.grownBy ((w4.drewN nd).setCell ⟨g, n * 7 + 5, none⟩ (.int .u32 (vI (y.b ||| x.b)))) (some g)) := Lib.hid ⟨HG4.out.os, HG4.out.tape, HG4.out.output, by simpa [World.setCell] using HG4.out.size, fun q hq hne => (Below.heap_setCell (w4.drewN nd) ⟨g, n * 7 + 5, none⟩ _ q (by rintro rfl; exact hne rfl)).trans (HG4.out.block q hq hne)⟩
  go_upto_region 6 with (fail)
  generalize (w4.drewN nd).setCell ⟨g, n * 7 + 5, none⟩ (.int .u32 (vI (y.b ||| x.b))) = w5 at *
  clear HO4 HB4 HG4 HFR hfz hgl d0 d1 d2 d3 d4 d5 d6 b0 b1 b2 b3 b4 b5 b6
  obtain ⟨⟨d0, d1, d2, d3, d4, d5, d6⟩, hfr, hgl, -⟩ := HO5.out.last HM.out
  obtain ⟨b0, b1, b2, b3, b4, b5, b6⟩ := HB5.out.cells
  have HFR := Lib.hid hfr
  clear hfr
  go_upto_region 6 with (fail)
  refine wp_region_dt 9 (by kernel_rfl) (by kernel_rfl) ?_
  simp only [List.take_succ_cons, List.take_zero, List.drop_succ_cons, List.drop_zero]
  repeat (first
      | go_big_quiet_skip
      | (go_big_quiet_want
         go_big_quiet_op
         first
           | go_big_quiet_on
           | (apply Exists.intro
              refine ⟨fun w1 hC => ?_, ?_⟩
              · first
                  | (obtain ⟨nn, rfl⟩ := hC; go_simp; exact rfl)
                  | (go_simp; exact ⟨rfl, rfl⟩)
              go_big_quiet_on)))
  refine wpQuiet_nil ?_
  intro W' hC'
  obtain ⟨nd, rfl⟩ := hC'
  have hfz : (w5.drewN nd).frozen? ⟨g, n * 7 + 6, none⟩ = false := HFR.out _
  have HO6 : Hid (OwnE ((w5.drewN nd).setCell ⟨g, n * 7 + 6, none⟩ (.int .u32 (vI (y.e ||| x.e)))) B (.slice (some ⟨g, 0, none⟩) (n + 1) cap) (m ++ [orE y x])) :=
    Lib.hid (OwnE.set1 (y := { y with a := y.a ||| x.a, b := y.b ||| x.b }) 6 _ (by decide) (fun j hj => by match j, hj with | 0, _ => rfl | 1, _ => rfl | 2, _ => rfl | 3, _ => rfl | 4, _ => rfl | 5, _ => rfl | 6, _ => rfl) HM.out HO5.out)
  have HB6 : Hid (Box ((w5.drewN nd).setCell ⟨g, n * 7 + 6, none⟩ (.int .u32 (vI (y.e ||| x.e)))) w.heap.size x) := Lib.hid ((HB5.out.drewN nd).far (p := ⟨g, n * 7 + 6, none⟩) (by simp only; omega) _)
  have HG6 : Hid (w.grownBy ((w5.drewN nd).setCell ⟨g, n * 7 + 6, none⟩ (.int .u32 (vI (y.e ||| x.e)))) (some g)) := Lib.hid ⟨HG5.out.os, HG5.out.tape, HG5.out.output, by simpa [World.setCell] using HG5.out.size, fun q hq hne => (Below.heap_setCell (w5.drewN nd) ⟨g, n * 7 + 6, none⟩ _ q (by rintro rfl; exact hne rfl)).trans (HG5.out.block q hq hne)⟩
  go_upto_region 7 with (fail)
  generalize (w5.drewN nd).setCell ⟨g, n * 7 + 6, none⟩ (.int .u32 (vI (y.e ||| x.e))) = w6 at *
  clear HO5 HB5 HG5 HFR hfz hgl d0 d1 d2 d3 d4 d5 d6 b0 b1 b2 b3 b4 b5 b6
  go_wp2_with fail
  go_ret
  have e : join (m ++ [y]) x = m ++ [orE y x] := by rw [join_snoc, if_pos HE.out]
  rw [e]
  exact ⟨_, rfl, HO6.out, HG6.out, .inl rfl⟩
theorem join_c {v : Value} {L : List E} (x : E) (hn : L.length ≤ 100000) (hown : OwnE w B v L) (hB : B ≤ w.heap.size) :
    Calls Try.prog 46 #[v, .agg #[.int .i64 x.s, .int .i64 x.t, .int .i64 x.c, .int .i64 x.d, .int .u32 (vI x.a), .int .u32 (vI x.b), .int .u32 (vI x.e)]] w (JoinOut w B v (join L x)) := by
  rcases snoc_of L with rfl | ⟨m, y, rfl⟩
  · exact join_nil_c x hown hB
  · have hl : (m ++ [y]).length = m.length + 1 := by simp
    rcases hown.form with ⟨_, h1⟩ | ⟨g, cap, cur, rfl, _⟩
    · simp at h1
    · rw [hl] at hown hn ⊢
      by_cases he : eqP y x
      · exact join_near_c y x he rfl (by omega) hown
      · exact join_far_c y x he rfl (by omega) hown hB
end
end Go.Proofs.Ytomoldfgnbjliaa
