/- The reference's Source. -/
import Derived.Test.YthjebccidcichaaLvr
import Derived.Test.YthjebccidcichaaLrs
import Derived.Test.YthjebccidcichaaLvj
import Derived.Deep.DeepCutAuto
namespace Go.Proofs.Ythjebccidcichaa
open Go.RowKit
def Src8 (X1 : ByteArray) (L1 : List Sp) (W : World) (v8 : Value) (wx : World) : Prop :=
  ∃ g8 v1, v8 = .pointer (some ⟨g8, 0, none⟩) ∧ W.heap.size ≤ g8 ∧ Blk wx g8 52 #[.string X1, v1, .string ⟨#[]⟩, .slice none 0 0] ∧ Spans wx v1 L1 ∧ Kp W wx
set_option maxRecDepth 100000 in
set_option maxHeartbeats 4000000 in
theorem rsource_c (s : Int) (c : Nat) (s2 : Int) (c2 : Nat) (v u : Value) (l m : List ByteArray) (w : World) (h1 : c < U64) (h3 : c2 < U64) (hV : Strs w v l) (hU : Strs w u m) (hF : Few l) (hG : Few m) :
    Calls Try.prog 40 #[.agg #[.int .i64 s, .int .u64 c, .int .i64 s2, .int .u64 c2], v, u] w (SourceOut l m s c s2 c2 w) := by
  obtain ⟨ao, cap, rfl, _⟩ := id hV
  obtain ⟨ao2, cap2, rfl, _⟩ := id hU
  have HP := Lib.hid (fun W (hW : Kp w W) => rproper_b _ _ l m W (hV.keep hW) (hU.keep hW) hF hG)
  have HC := Lib.hid (fun W => rcheckRange_c s c s2 c2 l.length m.length W h1 h3)
  obtain ⟨hB1, hB2, hW0, hfr⟩ := two_box w 26 52 #[.int .i64 s, .int .u64 c, .int .i64 s2, .int .u64 c2] #[.string ⟨#[]⟩, .slice none 0 0, .string ⟨#[]⟩, .slice none 0 0]
  clear hfr
  have HS := Lib.hid hB1
  cases hp : proper l m
  · have hE : srcE l m s c s2 c2 = 2 := if_pos hp
    have hSO : ∀ w', Below w.heap.size w w' → SourceOut l m s c s2 c2 w (.returned (.tuple #[.agg #[.string ⟨#[]⟩, .slice none 0 0, .string ⟨#[]⟩, .slice none 0 0], .int .i64 2])) w' := fun w' hb => by
      refine ⟨.slice none 0 0, .slice none 0 0, ?_, ?_, ?_, hb⟩
      · unfold srcLo srcHi srcL; rw [hE]; rfl
      · unfold srcLo srcL; rw [hE]; exact Spans.nil
      · unfold srcHi srcL; rw [hE]; exact Spans.nil
    rw [hp] at HP
    have HSO := Lib.hid hSO
    clear hp hE hSO hV hU HC HS
    go_enter Try.func40, Try.ntmps40
    go_wp2_with fail
    refine (HP.out _ hW0).mono ?_
    rintro e w2 ⟨rfl, hb2⟩
    have hC := Kp.step (W := w) hW0 hb2
    have q2 := hB2.keep hb2
    obtain ⟨z0, z1, z2, z3, z4, z5, z6, z7⟩ := q2.cells4
    go_wp2_with fail
    obtain ⟨r0, r1, r2, r3⟩ := (q2.set4 (.string ⟨#[]⟩) (.slice none 0 0) (.string ⟨#[]⟩) (.slice none 0 0)).box4
    exact bodyPost_ret (v := .tuple #[.agg #[.string ⟨#[]⟩, .slice none 0 0, .string ⟨#[]⟩, .slice none 0 0], .int .i64 2]) (by simp [results, Try.results40, go_sem, r0, r1, r2, r3]) rfl (HSO.out _ (below_set4 hC (Nat.le_succ _) _ _ _ _))
  · cases hr : rngB s c s2 c2 l.length m.length
    · have hE : srcE l m s c s2 c2 = 18 := by unfold srcE; rw [hp, hr]; rfl
      have hSO : ∀ w', Below w.heap.size w w' → SourceOut l m s c s2 c2 w (.returned (.tuple #[.agg #[.string ⟨#[]⟩, .slice none 0 0, .string ⟨#[]⟩, .slice none 0 0], .int .i64 18])) w' := fun w' hb => by
        refine ⟨.slice none 0 0, .slice none 0 0, ?_, ?_, ?_, hb⟩
        · unfold srcLo srcHi srcL; rw [hE]; rfl
        · unfold srcLo srcL; rw [hE]; exact Spans.nil
        · unfold srcHi srcL; rw [hE]; exact Spans.nil
      rw [hp] at HP
      unfold rngB at hr
      rw [hr] at HC
      have HSO := Lib.hid hSO
      clear hp hr hE hSO hV hU HS
      go_enter Try.func40, Try.ntmps40
      go_wp2_with fail
      refine (HP.out _ hW0).mono ?_
      rintro e w2 ⟨rfl, hb2⟩
      have hC := Kp.step (W := w) hW0 hb2
      have q1 := hB1.keep hb2
      have q2 := hB2.keep hb2
      obtain ⟨y0, y1, y2, y3⟩ := q1.box4
      clear hb2
      go_wp2_with fail
      refine (HC.out _).mono ?_
      rintro e w3 ⟨rfl, hb3⟩
      have hC3 := Kp.step hC hb3
      have q3 := q2.keep hb3
      obtain ⟨z0, z1, z2, z3, z4, z5, z6, z7⟩ := q3.cells4
      go_wp2_with fail
      obtain ⟨r0, r1, r2, r3⟩ := (q3.set4 (.string ⟨#[]⟩) (.slice none 0 0) (.string ⟨#[]⟩) (.slice none 0 0)).box4
      exact bodyPost_ret (v := .tuple #[.agg #[.string ⟨#[]⟩, .slice none 0 0, .string ⟨#[]⟩, .slice none 0 0], .int .i64 18]) (by simp [results, Try.results40, go_sem, r0, r1, r2, r3]) rfl (HSO.out _ (below_set4 hC3 (Nat.le_succ _) _ _ _ _))
    · have hE : srcE l m s c s2 c2 = 0 := by unfold srcE; rw [hp, hr]; rfl
      obtain ⟨k1, k2, _⟩ := rngB_parts hr
      obtain ⟨a1, a2, a3⟩ := chkL_bits h1 k1
      obtain ⟨b1, b2, b3⟩ := chkL_bits h3 k2
      obtain ⟨pl, pm⟩ := proper_len hp
      have HN1 := Lib.hid (fun W (hW : Kp w W) => rspans_c s c _ m W h1 (hU.keep hW) pm (fun k hk => by have := a3 k hk; omega))
      have HN2 := Lib.hid (fun W (hW : Kp w W) => rspans_c s2 c2 _ m W h3 (hU.keep hW) pm (fun k hk => by have := b3 k hk; omega))
      obtain ⟨n, rfl⟩ : ∃ n : Nat, s = n := ⟨s.toNat, by omega⟩
      obtain ⟨n2, rfl⟩ : ∃ n : Nat, s2 = n := ⟨s2.toNat, by omega⟩
      have hn : n < l.length := by omega
      have hn2 : n2 < l.length := by omega
      obtain ⟨ao', cap', hv, hr0⟩ := hV
      cases hv
      obtain ⟨gn, on, rfl, hrow⟩ := hr0 (by rintro rfl; simp at hn)
      have hgn : gn < w.heap.size := hrow.lt (by omega)
      have HNM : Hid (∀ W, Kp w W → ∀ i (h : i < l.length), W.cell? ⟨gn, on + i, none⟩ = some (.string (nmAt l i))) := Lib.hid fun W hW i h => by
        rw [nmAt_lt h]; exact (hrow.keep (hW.block gn hgn)) i h
      have en : Int.toNat (↑on + ↑n) = on + n := by omega
      have en2 : Int.toNat (↑on + ↑n2) = on + n2 := by omega
      have hni : (n : Int) < (l.length : Int) := by omega
      have hni2 : (n2 : Int) < (l.length : Int) := by omega
      have hSO : ∀ w' v1 v2, Below w.heap.size w w' → Spans w' v1 (spansL m c) → Spans w' v2 (srcHi l m n c n2 c2).2 → SourceOut l m n c n2 c2 w (.returned (.tuple #[.agg #[.string (nmAt l (n : Int).toNat), v1, .string (srcHi l m n c n2 c2).1, v2], .int .i64 0])) w' := fun w' v1 v2 hb g1 g2 => by
        refine ⟨v1, v2, ?_, ?_, g2, hb⟩
        · rw [hE]; unfold srcLo srcL; rw [hE]; rfl
        · unfold srcLo srcL; rw [hE]; exact g1
      rw [hp] at HP
      have hr' := hr
      unfold rngB at hr'
      rw [hr'] at HC
      obtain ⟨X1, hX1⟩ : ∃ X, nmAt l n = X := ⟨_, rfl⟩
      rw [show (n : Int).toNat = n from rfl, hX1] at hSO
      have HX1 := Lib.hid hX1
      have HSO := Lib.hid hSO
      have he0 : ((n2 : Int) = (n : Int) ∧ c2 = c) ∨ ¬ ((n2 : Int) = (n : Int) ∧ c2 = c) := Classical.em _
      go_enter Try.func40, Try.ntmps40
      go_wp2_with fail
      refine (HP.out _ hW0).mono ?_
      rintro e w2 ⟨rfl, hb2⟩
      have hC := Kp.step (W := w) hW0 hb2
      have q1 := hB1.keep hb2
      have q2 := hB2.keep hb2
      obtain ⟨y0, y1, y2, y3⟩ := q1.box4
      clear hb2
      go_wp2_with fail
      refine (HC.out _).mono ?_
      rintro e w3 ⟨rfl, hb3⟩
      have hC3 := Kp.step hC hb3
      have HQ3 := Lib.hid (q1.keep hb3)
      have HQ4 := Lib.hid (q2.keep hb3)
      clear q1 q2 hb3 hC y0 y1 y2 y3
      go_wp2_with fail
      have HSK : Hid (∀ w', Kp w3 w' → w'.cell? ⟨w.heap.size, 0, none⟩ = some (.int .i64 n) ∧ w'.cell? ⟨w.heap.size, 1, none⟩ = some (.int .u64 c) ∧ w'.cell? ⟨gn, on + n, none⟩ = some (.string X1)) := Lib.hid fun w' h => by
        obtain ⟨a0, a1, _, _⟩ := (h.blk HQ3.out).box4
        exact ⟨a0, a1, by have := HNM.out w' (Below.trans hC3 (Below.mono h hC3.size)) n hn; rwa [HX1.out] at this⟩
      have HN3 : Hid (∀ W, Kp w3 W → Calls Try.prog 54 #[.agg #[.int .i64 n, .int .u64 c], .slice ao2 m.length cap2] W (RSpansOut m c W)) := Lib.hid fun W hW => HN1.out W (Below.trans hC3 (Below.mono hW hC3.size))
      clear HN1
      go_cut [8] (fun v8 wx => Src8 X1 (spansL m c) w3 v8 wx)
      case first =>
        clear HN2 HSO HNM HQ4
        go_region_held3 (fun w' => w'.cell? ⟨w.heap.size, 0, none⟩ = some (.int .i64 n) ∧ w'.cell? ⟨w.heap.size, 1, none⟩ = some (.int .u64 c) ∧ w'.cell? ⟨gn, on + n, none⟩ = some (.string X1))
          ((refine HSK.out _ ?_; repeat (first | exact Kp.rfl' | assumption | refine Kp.drew ?_ | refine Kp.alloc ?_ _ | refine below_set4 ?_ (Nat.le_refl _) _ _ _ _)))
          ((go_at_call 54; refine (HN3.out _ (by repeat (first | exact Kp.rfl' | assumption | refine Kp.drew ?_ | refine Kp.alloc ?_ _))).mono ?_; rintro e w5 ⟨v1, rfl, hS5, hb5⟩; obtain ⟨ao5, cap5, rfl, hdrop⟩ := id hS5; clear hdrop
            have hC5 : Kp w3 w5 := Kp.step (by repeat (first | exact Kp.rfl' | assumption | refine Kp.drew ?_ | refine Kp.alloc ?_ _)) hb5
            first
              | (have T4 : Blk w5 w3.heap.size 52 #[.string ⟨#[]⟩, .slice none 0 0, .string ⟨#[]⟩, .slice none 0 0] := Blk.keep (w := (w3.alloc (.cells #[.string ⟨#[]⟩, .slice none 0 0, .string ⟨#[]⟩, .slice none 0 0] 52)).drew) (Blk.new w3 _ _) hb5
                 obtain ⟨t0, t1, t2, t3, t4, t5, t6, t7⟩ := T4.cells4)
              | (have T4 : Blk w5 w3.heap.size 52 #[.string ⟨#[]⟩, .slice none 0 0, .string ⟨#[]⟩, .slice none 0 0] := Blk.keep (w := (w3.drew.alloc (.cells #[.string ⟨#[]⟩, .slice none 0 0, .string ⟨#[]⟩, .slice none 0 0] 52))) (Blk.new w3.drew _ _) hb5
                 obtain ⟨t0, t1, t2, t3, t4, t5, t6, t7⟩ := T4.cells4)
              | skip))
        all_goals
          go_wp2_with fail
          go_meet
          first
            | exact ⟨w5.heap.size, _, rfl, hC5.size, Blk.new w5 _ _, hS5.keep ((Below.refl _ _).alloc (Nat.le_refl _) _), hC5.alloc _⟩
            | exact ⟨w3.heap.size, _, rfl, Nat.le_refl _, T4.set4 _ _ _ _, hS5.set4 T4 _ _ _ _, below_set4 hC5 (Nat.le_refl _) _ _ _ _⟩
      case rest =>
        obtain ⟨g8, v1, rfl, hg8, q8, hS8, hKc⟩ := hcut
        have HN4 : Hid (∀ W, Kp w3 W → Calls Try.prog 54 #[.agg #[.int .i64 n2, .int .u64 c2], .slice ao2 m.length cap2] W (RSpansOut m c2 W)) := Lib.hid fun W hW => HN2.out W (Below.trans hC3 (Below.mono hW hC3.size))
        have HR3 := Lib.hid (hKc.blk HQ3.out)
        have HR4 := Lib.hid (hKc.blk HQ4.out)
        have hCc : Below w.heap.size w wc := Below.trans hC3 (Below.mono hKc hC3.size)
        have hge : w.heap.size + 1 < g8 := Nat.lt_of_lt_of_le HQ4.out.lt hg8
        obtain ⟨ao1, cap1, rfl, hdrop⟩ := id hS8
        clear hdrop
        obtain ⟨y0, y1, y2, y3⟩ := HR3.out.box4
        obtain ⟨z0, z1, z2, z3, z4, z5, z6, z7⟩ := HR4.out.cells4
        obtain ⟨x0, x1, x2, x3, x4, x5, x6, x7⟩ := q8.cells4
        have HQ8 := Lib.hid q8
        have HS8 := Lib.hid hS8
        clear q8 hS8 HN2 HN3 HSK
        by_cases he : (n2 : Int) = (n : Int) ∧ c2 = c
        · have hHi : srcHi l m n c n2 c2 = (⟨#[]⟩, []) := by unfold srcHi srcL; rw [if_neg (by simp [he])]
          rw [hHi] at HSO
          obtain ⟨e1, rfl⟩ := he
          obtain rfl : n2 = n := by omega
          clear HN4 HNM hHi
          go_wp2_with fail
          obtain ⟨r0, r1, r2, r3⟩ := (HR4.out.set4 (.string X1) (.slice ao1 (spansL m c2).length cap1) (.string ⟨#[]⟩) (.slice none 0 0)).box4
          exact bodyPost_ret (v := .tuple #[.agg #[.string X1, .slice ao1 (spansL m c2).length cap1, .string ⟨#[]⟩, .slice none 0 0], .int .i64 0]) (by simp [results, Try.results40, go_sem, r0, r1, r2, r3]) rfl (HSO.out _ _ _ (below_set4 hCc (Nat.le_succ _) _ _ _ _) (HS8.out.set4 HR4.out _ _ _ _) Spans.nil)
        · have hHi : srcHi l m n c n2 c2 = (nmAt l n2, spansL m c2) := by unfold srcHi srcL; rw [if_pos (by rw [hE]; exact decide_eq_true ⟨rfl, he⟩)]; rfl
          rw [hHi] at HSO
          obtain ⟨X2, hX2⟩ : ∃ X, nmAt l n2 = X := ⟨_, rfl⟩
          rw [hX2] at HSO
          have HX2 := Lib.hid hX2
          have hne : (¬ (n2 : Int) = (n : Int) ∧ ((n2 : Int) == (n : Int)) = false) ∨ (n2 = n ∧ ¬ c2 = c ∧ ((c2 : Int) == (c : Int)) = false) := by
            by_cases h : n2 = n
            · have hcc : ¬ c2 = c := fun h2 => he ⟨by omega, h2⟩
              exact .inr ⟨h, hcc, by simp; omega⟩
            · exact .inl ⟨by omega, by simp; omega⟩
          have HSK : Hid (∀ w', Kp w3 w' → w'.cell? ⟨w.heap.size, 2, none⟩ = some (.int .i64 n2) ∧ w'.cell? ⟨w.heap.size, 3, none⟩ = some (.int .u64 c2) ∧ w'.cell? ⟨gn, on + n2, none⟩ = some (.string X2)) := Lib.hid fun w' h => by
            obtain ⟨_, _, a0, a1⟩ := (h.blk HQ3.out).box4
            exact ⟨a0, a1, by have := HNM.out w' (Below.trans hC3 (Below.mono h hC3.size)) n2 hn2; rwa [HX2.out] at this⟩
          have HKd : Kp w3 wc.drew := hKc.drew
          clear he hHi hX2 HNM
          rcases hne with ⟨hn1, hnb⟩ | ⟨rfl, hn1, hnb⟩
          all_goals
            go_wp2_with fail
            go_region_held3 (fun w' => w'.cell? ⟨w.heap.size, 2, none⟩ = some (.int .i64 n2) ∧ w'.cell? ⟨w.heap.size, 3, none⟩ = some (.int .u64 c2) ∧ w'.cell? ⟨gn, on + n2, none⟩ = some (.string X2))
              ((refine HSK.out _ ?_; repeat (first | assumption | refine Kp.drew ?_ | refine Kp.alloc ?_ _ | refine (Below.setCell ?_ (p := ⟨g8, 3, none⟩) hg8 _ : Below _ _ _) | refine (Below.setCell ?_ (p := ⟨g8, 2, none⟩) hg8 _ : Below _ _ _))))
              ((go_at_call 54; refine (HN4.out _ (by assumption)).mono ?_; rintro e w5 ⟨v2, rfl, hS5, hb5⟩; obtain ⟨ao5, cap5, rfl, hdrop⟩ := id hS5; clear hdrop
                have hC5 : Kp w3 w5 := Kp.step (by assumption) hb5
                have T8 := Blk.keep (w := wc.drew) HQ8.out hb5
                obtain ⟨t0, t1, t2, t3, t4, t5, t6, t7⟩ := T8.cells4))
            all_goals
              have R8 := Blk.keep (w := wc.drew) HR4.out hb5
              have S8 := Spans.keep (w := wc.drew) HS8.out hb5
              have HCX : Below w.heap.size w w5 := Below.trans hC3 (Below.mono hC5 hC3.size)
              have p8 := (R8.far (p := ⟨g8, 2, none⟩) (Nat.ne_of_lt hge) (.string X2)).far (p := ⟨g8, 3, none⟩) (Nat.ne_of_lt hge) (.slice ao5 (spansL m c2).length cap5)
              have p7 : Blk ((w5.setCell ⟨g8, 2, none⟩ (.string X2)).setCell ⟨g8, 3, none⟩ (.slice ao5 (spansL m c2).length cap5)) g8 52 #[.string X1, .slice ao1 (spansL m c).length cap1, .string X2, .slice ao5 (spansL m c2).length cap5] := by simpa using (T8.set 2 (.string X2)).set 3 (.slice ao5 (spansL m c2).length cap5)
              have pS8 := S8.set22 T8 (.string X2) (.slice ao5 (spansL m c2).length cap5)
              have pS9 := hS5.set22 T8 (.string X2) (.slice ao5 (spansL m c2).length cap5)
              have pC : Kp w ((w5.setCell ⟨g8, 2, none⟩ (.string X2)).setCell ⟨g8, 3, none⟩ (.slice ao5 (spansL m c2).length cap5)) := (Below.setCell HCX (p := ⟨g8, 2, none⟩) (by simp only; omega) _).setCell (p := ⟨g8, 3, none⟩) (by simp only; omega) _
              clear z0 z1 z2 z3 z4 z5 z6 z7 x0 x1 x2 x3 x4 x5 x6 x7 y0 y1 y2 y3 t0 t1 t2 t3 t4 t5 t6 t7
              obtain ⟨d0, d1, d2, d3, d4, d5, d6, d7⟩ := p7.cells4
              obtain ⟨f0, f1, f2, f3, f4, f5, f6, f7⟩ := p8.cells4
              have HP8 := Lib.hid p8
              have HS8' := Lib.hid pS8
              have HS9 := Lib.hid pS9
              have HPC := Lib.hid pC
              clear p7 p8 pS8 pS9 pC R8 S8 T8 hS5 hb5 hC5
              go_wp2_with fail
              obtain ⟨r0, r1, r2, r3⟩ := (HP8.out.set4 (.string X1) (.slice ao1 (spansL m c).length cap1) (.string X2) (.slice ao5 (spansL m c2).length cap5)).box4
              exact bodyPost_ret (v := .tuple #[.agg #[.string X1, .slice ao1 (spansL m c).length cap1, .string X2, .slice ao5 (spansL m c2).length cap5], .int .i64 0]) (by simp [results, Try.results40, go_sem, r0, r1, r2, r3]) rfl (HSO.out _ _ _ (below_set4 HPC.out (Nat.le_succ _) _ _ _ _) (HS8'.out.set4 HP8.out _ _ _ _) (HS9.out.set4 HP8.out _ _ _ _))
end Go.Proofs.Ythjebccidcichaa
