/- The law OctetSets, walked. -/
import Derived.Test.YtohmlmbolilbbaaOla
import Derived.Deep.RegionHeld3
namespace Go.Proofs.Ytohmlmbolilbbaa
open Go.RowKit
theorem list_four {l : List Int} (h : l.length = 4) : ∃ a b c d, l = [a, b, c, d] := by
  match l, h with
  | [a, b, c, d], _ => exact ⟨a, b, c, d, rfl⟩
theorem encS_all {xs : List Int} : AllB (encS xs) := by
  unfold encS
  refine (code_all _).app ?_
  intro x hx
  obtain ⟨y, _, hy⟩ := List.mem_flatMap.1 hx
  exact code_all _ x hy
theorem decS_all {l : List Int} (h : AllB l) : AllB (decS l).2.2 := by
  unfold decS
  split
  · exact AllB.nil
  · split
    · exact AllB.nil
    · unfold setR
      split
      · exact AllB.nil
      · split
        · exact AllB.nil
        · exact decP_all _ _ (h.drop _)
theorem decP_short : ∀ (i : Nat) (l : List Int) {n : Nat}, l.length ≤ n → (decP i l).2.2.length ≤ n
  | 0, l, n, h => h
  | i + 1, l, n, h => by
    rw [decP]
    split
    · simp
    · split
      · simp
      · have := decP_short i l h
        simp only [List.length_drop]
        omega
theorem decS_short {l : List Int} {n : Nat} (h : l.length ≤ n) : (decS l).2.2.length ≤ n := by
  unfold decS
  split
  · simp
  · split
    · simp
    · unfold setR
      split
      · simp
      · split
        · simp
        · exact decP_short _ _ (by rw [List.length_drop]; omega)
theorem mem12 {w : World} {g1 g2 g3 : Nat} {t1 t2 t3 : TypeId} {a b c d e f g h i j k l : Value} (h1 : Blk w g1 t1 #[a, b, c, d]) (h2 : Blk w g2 t2 #[e, f, g, h]) (h3 : Blk w g3 t3 #[i, j, k, l]) :
    w.cell? ⟨g1, 0, none⟩ = some a ∧ w.cell? ⟨g1, 1, none⟩ = some b ∧ w.cell? ⟨g1, 2, none⟩ = some c ∧ w.cell? ⟨g1, 3, none⟩ = some d ∧ w.cell? ⟨g2, 0, none⟩ = some e ∧ w.cell? ⟨g2, 1, none⟩ = some f ∧ w.cell? ⟨g2, 2, none⟩ = some g ∧ w.cell? ⟨g2, 3, none⟩ = some h ∧ w.cell? ⟨g3, 0, none⟩ = some i ∧ w.cell? ⟨g3, 1, none⟩ = some j ∧ w.cell? ⟨g3, 2, none⟩ = some k ∧ w.cell? ⟨g3, 3, none⟩ = some l :=
  ⟨h1.cell 0, h1.cell 1, h1.cell 2, h1.cell 3, h2.cell 0, h2.cell 1, h2.cell 2, h2.cell 3, h3.cell 0, h3.cell 1, h3.cell 2, h3.cell 3⟩
set_option maxRecDepth 100000 in
set_option maxHeartbeats 8000000 in
theorem lsets_c (v : Value) (l : List Int) (x0 x1 x2 x3 : Int) (w : World) (hB : Byts w v l) (hx : ∀ x ∈ [x0, x1, x2, x3], 0 ≤ x ∧ x < 18446744073709551616) (hn : l.length ≤ 9223372036854775807) :
    Calls Try.prog 5 #[v, .agg #[.int .u64 x0, .int .u64 x1, .int .u64 x2, .int .u64 x3]] w fun e w' => e = .returned (.bool true) ∧ Below w.heap.size w w' := by
  have HX := Lib.hid hx
  clear hx
  by_cases h : (400 : Int) < (l.length : Int)
  · have hS := short_c _ l _ (hB.alloc (.cells #[.int .u64 x0, .int .u64 x1, .int .u64 x2, .int .u64 x3] 40)) (by omega)
    rw [decide_eq_false (by omega)] at hS
    go_enter Try.func5, Try.ntmps5
    go_wp2_with (first
      | (go_at_call 10; refine hS.mono ?_; rintro e w1 ⟨rfl, rfl⟩)
      | (go_at_call 11; refine (awake_c _).mono ?_; rintro e w2 ⟨rfl, hb2⟩))
    go_ret
    exact ⟨rfl, ((Below.refl _ _).alloc (Nat.le_refl _) _).trans (hb2.mono (by simp))⟩
  · have hS := fun w (hB : Byts w v l) => short_c _ l w hB (by omega)
    rw [decide_eq_true (by omega)] at hS
    have hl : l.length ≤ 400 := by omega
    have hall := hB.all
    have hset : ∃ y0 y1 y2 y3 R E, AllB R ∧ R.length ≤ 400 ∧ (∀ w, Byts w v l → Hid (Calls Try.prog 25 #[v] w fun e w' => ∃ vr, e = .returned (.tuple #[.agg #[.int .u64 y0, .int .u64 y1, .int .u64 y2, .int .u64 y3], vr, .int .i64 E]) ∧ Byts w' vr R ∧ Below w.heap.size w w')) ∧
        (∀ w, Byts w v l → Hid (Calls Try.prog 26 #[v] w fun e w' => ∃ vr, e = .returned (.tuple #[.agg #[.int .u64 y0, .int .u64 y1, .int .u64 y2, .int .u64 y3], vr, .int .i64 E]) ∧ Byts w' vr R ∧ Below w.heap.size w w')) := by
      obtain ⟨y0, y1, y2, y3, hy⟩ := list_four (decS_len (l := l))
      refine ⟨y0, y1, y2, y3, (decS l).2.2, (decS l).1, decS_all hall, decS_short hl, fun w hB => Lib.hid ?_, fun w hB => Lib.hid ?_⟩
      · have h := set_c v l w hB (by omega)
        rw [hy] at h
        exact h
      · have h := rSet_c v l w hB (by omega)
        rw [hy] at h
        exact h
    obtain ⟨y0, y1, y2, y3, R, E, hR, hRl, H1, H2⟩ := hset
    have HP1 := fun w (hB : Byts w v l) => Lib.hid (putSet_c v l x0 x1 x2 x3 w hB HX.out (by omega))
    have HP2 := fun w (hB : Byts w v l) => Lib.hid (rPutSet_c v l x0 x1 x2 x3 w hB HX.out (by omega))
    have hpl : (l ++ encS [x0, x1, x2, x3]).length ≤ 1000 := by have := encS_len (xs := [x0, x1, x2, x3]) rfl HX.out; rw [List.length_append]; omega
    have hpa : AllB (l ++ encS [x0, x1, x2, x3]) := hall.app encS_all
    generalize l ++ encS [x0, x1, x2, x3] = P1 at *
    clear h hn HX
    go_enter Try.func5, Try.ntmps5
    go_wp2_with fail
    have hK : Blk (w.alloc (.cells #[.int .u64 x0, .int .u64 x1, .int .u64 x2, .int .u64 x3] 40)) w.heap.size _ _ := Blk.new w 40 #[.int .u64 x0, .int .u64 x1, .int .u64 x2, .int .u64 x3]
    replace hB := hB.alloc (.cells #[.int .u64 x0, .int .u64 x1, .int .u64 x2, .int .u64 x3] 40)
    have hb : Below w.heap.size w (w.alloc (.cells #[.int .u64 x0, .int .u64 x1, .int .u64 x2, .int .u64 x3] 40)) := (Below.refl _ _).alloc (Nat.le_refl _) _
    generalize w.alloc (.cells #[.int .u64 x0, .int .u64 x1, .int .u64 x2, .int .u64 x3] 40) = wa at *
    obtain ⟨g0, hg0⟩ : ∃ g, w.heap.size = g := ⟨_, rfl⟩
    rw [hg0] at hK
    rw [hg0]
    refine (hS wa hB).mono ?_
    rintro e wb ⟨rfl, rfl⟩
    go_wp2_with fail
    refine ((H1 wb hB).out).mono ?_
    rintro e w1 ⟨v1, rfl, hV1, hk⟩
    replace hB := hB.keep hk
    replace hK := hK.keep hk
    replace hb := hb.trans (hk.mono hb.size)
    clear hk
    go_wp2_with fail
    have hM : Blk (w1.alloc (.cells #[.int .u64 y0, .int .u64 y1, .int .u64 y2, .int .u64 y3] 40)) w1.heap.size _ _ := Blk.new w1 40 #[.int .u64 y0, .int .u64 y1, .int .u64 y2, .int .u64 y3]
    replace hB := hB.alloc (.cells #[.int .u64 y0, .int .u64 y1, .int .u64 y2, .int .u64 y3] 40)
    replace hK := hK.alloc (.cells #[.int .u64 y0, .int .u64 y1, .int .u64 y2, .int .u64 y3] 40)
    replace hV1 := hV1.alloc (.cells #[.int .u64 y0, .int .u64 y1, .int .u64 y2, .int .u64 y3] 40)
    replace hb := hb.alloc hb.size (.cells #[.int .u64 y0, .int .u64 y1, .int .u64 y2, .int .u64 y3] 40)
    obtain ⟨g1, hg1⟩ : ∃ g, w1.heap.size = g := ⟨_, rfl⟩
    rw [hg1] at hM
    simp only [hg1]
    generalize w1.alloc (.cells #[.int .u64 y0, .int .u64 y1, .int .u64 y2, .int .u64 y3] 40) = w1a at *
    clear hg1
    refine ((H2 w1a hB).out).mono ?_
    rintro e w2 ⟨v2, rfl, hV2, hk⟩
    replace hB := hB.keep hk
    replace hK := hK.keep hk
    replace hV1 := hV1.keep hk
    replace hM := hM.keep hk
    replace hb := hb.trans (hk.mono hb.size)
    clear hk
    go_wp2_with fail
    have hN : Blk (w2.alloc (.cells #[.int .u64 y0, .int .u64 y1, .int .u64 y2, .int .u64 y3] 40)) w2.heap.size _ _ := Blk.new w2 40 #[.int .u64 y0, .int .u64 y1, .int .u64 y2, .int .u64 y3]
    replace hB := hB.alloc (.cells #[.int .u64 y0, .int .u64 y1, .int .u64 y2, .int .u64 y3] 40)
    replace hK := hK.alloc (.cells #[.int .u64 y0, .int .u64 y1, .int .u64 y2, .int .u64 y3] 40)
    replace hV1 := hV1.alloc (.cells #[.int .u64 y0, .int .u64 y1, .int .u64 y2, .int .u64 y3] 40)
    replace hM := hM.alloc (.cells #[.int .u64 y0, .int .u64 y1, .int .u64 y2, .int .u64 y3] 40)
    replace hV2 := hV2.alloc (.cells #[.int .u64 y0, .int .u64 y1, .int .u64 y2, .int .u64 y3] 40)
    replace hb := hb.alloc hb.size (.cells #[.int .u64 y0, .int .u64 y1, .int .u64 y2, .int .u64 y3] 40)
    obtain ⟨g2, hg2⟩ : ∃ g, w2.heap.size = g := ⟨_, rfl⟩
    rw [hg2] at hN
    simp only [hg2]
    generalize w2.alloc (.cells #[.int .u64 y0, .int .u64 y1, .int .u64 y2, .int .u64 y3] 40) = w2a at *
    clear hg2
    have HB := Lib.hid hB
    have HV1 := Lib.hid hV1
    have HV2 := Lib.hid hV2
    have HK := Lib.hid hK
    have HM := Lib.hid hM
    have HN := Lib.hid hN
    clear hB hV1 hV2 hK hM hN
    have hRk : R.length ≤ 1000000000000 := by omega
    have hPk : P1.length ≤ 1000000000000 := by omega
    have hC0 : Kp w2a w2a.drew := Kp.rfl'.drew
    obtain ⟨k00, k01, k02, k03, k10, k11, k12, k13, k20, k21, k22, k23⟩ := mem12 HK.out HM.out HN.out
    go_region_held3 (fun w' => w'.cell? ⟨g0, 0, none⟩ = some (.int .u64 x0) ∧ w'.cell? ⟨g0, 1, none⟩ = some (.int .u64 x1) ∧ w'.cell? ⟨g0, 2, none⟩ = some (.int .u64 x2) ∧ w'.cell? ⟨g0, 3, none⟩ = some (.int .u64 x3) ∧ w'.cell? ⟨g1, 0, none⟩ = some (.int .u64 y0) ∧ w'.cell? ⟨g1, 1, none⟩ = some (.int .u64 y1) ∧ w'.cell? ⟨g1, 2, none⟩ = some (.int .u64 y2) ∧ w'.cell? ⟨g1, 3, none⟩ = some (.int .u64 y3) ∧ w'.cell? ⟨g2, 0, none⟩ = some (.int .u64 y0) ∧ w'.cell? ⟨g2, 1, none⟩ = some (.int .u64 y1) ∧ w'.cell? ⟨g2, 2, none⟩ = some (.int .u64 y2) ∧ w'.cell? ⟨g2, 3, none⟩ = some (.int .u64 y3)) (exact mem12 (Kp.blk (by assumption) HK.out) (Kp.blk (by assumption) HM.out) (Kp.blk (by assumption) HN.out))
      (first
        | (go_at_call 27; refine (HP1 _ (HB.out.keep (by assumption))).out.mono ?_; rintro e w5 ⟨v5, rfl, ho5, hb5⟩; obtain ⟨a5, n5, c5, rfl⟩ := ho5.isSliceN; have hB5 := ho5.byts hpa; have hC2 := Kp.step (by assumption) hb5; clear ho5)
        | (go_at_call 28; refine (HP2 _ (HB.out.keep (by assumption))).out.mono ?_; rintro e w6 ⟨v6, rfl, ho6, hb6⟩; obtain ⟨a6, n6, c6, rfl⟩ := ho6.isSliceN; have hB6 := ho6.byts hpa; have hC2 := Kp.step (by assumption) hb6; clear ho6)
        | (go_at_call 16; (with_reducible refine (same_c v1 v2 R R _ ?_ ?_ hRk hRk).mono ?_); (exact HV1.out.keep (by assumption)); (exact HV2.out.keep (by assumption)); rintro e w8 ⟨rfl, hb8⟩; rw [sameI_self]; have hC2 := Kp.step (by assumption) hb8; clear hb8)
        | (go_at_call 16; (with_reducible refine (same_c (.slice a5 n5 c5) (.slice a6 n6 c6) P1 P1 _ ?_ ?_ hPk hPk).mono ?_); (first | exact hB5 | exact hB5.keep (by assumption)); (first | exact hB6 | exact hB6.keep (by assumption)); rintro e w7 ⟨rfl, hb7⟩; rw [sameI_self]; have hC2 := Kp.step (by assumption) hb7; clear hb7)
        | (go_at_call 11; refine (awake_c _).mono ?_; rintro e w9 ⟨rfl, hb9⟩; have hC2 := Kp.step (by assumption) hb9; clear hb9))
    all_goals
      go_wp2_with fail
      go_ret
      exact ⟨rfl, hb.trans (Below.mono (by assumption) hb.size)⟩
end Go.Proofs.Ytohmlmbolilbbaa
