/- What names mean together: types of the reference. Condition: at most a million names. -/
import Derived.Test.YtbkejoheefnmiaaNsg
import Derived.Deep.DeepCutAuto
namespace Go.Proofs.Ytbkejoheefnmiaa
open Go.RowKit
attribute [local go_sem ↓] Go.wp_at_zero Go.wp_at_succ
/-- behind a call whose set goes into a new variable, and whose bool into a slot -/
def CutS (Y : S4) (b : Bool) (w : World) (v8 v9 : Value) (wx : World) : Prop := ∃ g, v8 = .pointer (some ⟨g, 0, none⟩) ∧ v9 = .bool b ∧ w.heap.size ≤ g ∧ Quad wx g Y.a Y.b Y.c Y.d ∧ Kp w wx
set_option maxRecDepth 100000 in
set_option maxHeartbeats 4000000 in
theorem rtypes_c (vT vA : Value) (fS : ByteArray → S4) (fB : ByteArray → Bool) (v : Value) (l : List ByteArray) (w : World) (hS : Strs w v l) (hn : l.length ≤ 1000000)
    (hF : ∀ n W, Kp w W → Calls Try.prog 52 #[.string n, .agg #[vT, vA]] W (SetOut (fS n) (fB n) W)) :
    Calls Try.prog 40 #[v, .agg #[vT, vA]] w (SetOut (unS fS fB l) (unB fB l) w) := by
  obtain ⟨ao, cap, rfl, hr⟩ := hS
  obtain ⟨B, hB⟩ : ∃ B, unB fB l = B := ⟨_, rfl⟩
  obtain ⟨S, hS⟩ : ∃ S, unS fS fB l = S := ⟨_, rfl⟩
  rw [hB, hS]
  have HB := Lib.hid hB
  have HS := Lib.hid hS
  clear hB hS
  have HF := Lib.hid hF
  clear hF
  have hW : Below w.heap.size w (((w.alloc (.cells #[vT, vA] 25)).alloc (.cells #[.int .u64 0, .int .u64 0, .int .u64 0, .int .u64 0] 35)).alloc (.cells #[.int .u64 0, .int .u64 0, .int .u64 0, .int .u64 0] 35)) := (((Below.refl _ _).alloc (Nat.le_refl _) _).alloc (by simp) _).alloc (by simp; omega) _
  have hE : Blk (((w.alloc (.cells #[vT, vA] 25)).alloc (.cells #[.int .u64 0, .int .u64 0, .int .u64 0, .int .u64 0] 35)).alloc (.cells #[.int .u64 0, .int .u64 0, .int .u64 0, .int .u64 0] 35)) w.heap.size 25 #[vT, vA] := ((Blk.new w _ _).alloc _).alloc _
  have hQ1 : Quad (((w.alloc (.cells #[vT, vA] 25)).alloc (.cells #[.int .u64 0, .int .u64 0, .int .u64 0, .int .u64 0] 35)).alloc (.cells #[.int .u64 0, .int .u64 0, .int .u64 0, .int .u64 0] 35)) (w.heap.size + 1) 0 0 0 0 := by
    have := (Quad.new (w.alloc (.cells #[vT, vA] 25)) 0 0 0 0).alloc (.cells #[.int .u64 0, .int .u64 0, .int .u64 0, .int .u64 0] 35)
    rwa [show (w.alloc (.cells #[vT, vA] 25)).heap.size = w.heap.size + 1 by simp] at this
  have hQ2 : Quad (((w.alloc (.cells #[vT, vA] 25)).alloc (.cells #[.int .u64 0, .int .u64 0, .int .u64 0, .int .u64 0] 35)).alloc (.cells #[.int .u64 0, .int .u64 0, .int .u64 0, .int .u64 0] 35)) (w.heap.size + 2) 0 0 0 0 := by
    have := Quad.new ((w.alloc (.cells #[vT, vA] 25)).alloc (.cells #[.int .u64 0, .int .u64 0, .int .u64 0, .int .u64 0] 35)) 0 0 0 0
    rwa [show ((w.alloc (.cells #[vT, vA] 25)).alloc (.cells #[.int .u64 0, .int .u64 0, .int .u64 0, .int .u64 0] 35)).heap.size = w.heap.size + 2 by simp] at this
  have HW := Lib.hid hW
  have HE := Lib.hid hE
  have HQ1 := Lib.hid hQ1
  have HQ2 := Lib.hid hQ2
  clear hW hQ1 hQ2 hE
  go_enter Try.func40, Try.ntmps40
  go_wp2_with fail
  generalize (((w.alloc (.cells #[vT, vA] 25)).alloc (.cells #[.int .u64 0, .int .u64 0, .int .u64 0, .int .u64 0] 35)).alloc (.cells #[.int .u64 0, .int .u64 0, .int .u64 0, .int .u64 0] 35)) = W at *
  go_loopw [7] (fun vi wr => ∃ i : Nat, i ≤ l.length ∧ vi = .int .i64 i ∧ Hid (∀ k (_ : k < i) (h' : k < l.length), fB l[k] = true) ∧ Hid (Kb (w.heap.size + 2) W wr) ∧ ∃ X : S4, Hid (unF fS (l.take i) = X) ∧ Hid (Quad wr (w.heap.size + 2) X.a X.b X.c X.d)) (fun vi _ => l.length - (intOf vi).toNat)
  case atStart => exact ⟨0, Nat.zero_le _, rfl, Lib.hid fun k h => absurd h (by omega), Lib.hid Kb.rfl', S4.zero, Lib.hid rfl, HQ2⟩
  case round =>
    obtain ⟨i, hi, rfl, HN, HK, X, HX, HQ⟩ := hrel
    have HKw : Hid (Kp w wr) := Lib.hid ((But.mono HK.out HW.out.size |> But.trans (But.of_below HW.out)).to_below (by omega))
    have HQ1r : Hid (Quad wr (w.heap.size + 1) 0 0 0 0) := Lib.hid (HK.out.blk HQ1.out (Nat.ne_of_lt (Nat.lt_succ_self _)))
    by_cases hlt : i < l.length
    · have hlt' : (i : Int) < (l.length : Int) := by omega
      have hi0 : (0 : Int) ≤ (i : Int) := by omega
      obtain ⟨g, o, rfl, hR⟩ := hr (by rintro rfl; simp at hlt)
      have q := hR.keep (HKw.out.block g (hR.lt (by omega))) i hlt
      obtain ⟨x, hx⟩ : ∃ x, l[i] = x := ⟨_, rfl⟩
      rw [hx] at q
      have HFx := Lib.hid (fun W (h : Kp wr W) => HF.out x W (Kp.step HKw.out h))
      obtain ⟨Y, hY⟩ : ∃ Y, fS x = Y := ⟨_, rfl⟩
      obtain ⟨b, hb⟩ : ∃ b, fB x = b := ⟨_, rfl⟩
      rw [hY, hb] at HFx
      have hEr := HK.out.blk HE.out (by omega)
      have hgr : g < wr.heap.size := by
        rcases Nat.lt_or_ge g wr.heap.size with h | h
        · exact h
        · simp [World.cell?, Array.getElem?_eq_none h] at q
      have HSK : Hid (∀ w', Kp wr w' → w'.cell? ⟨g, o + i, none⟩ = some (.string x) ∧ w'.cell? ⟨w.heap.size, 0, none⟩ = some vT ∧ w'.cell? ⟨w.heap.size, 1, none⟩ = some vA) := Lib.hid fun w' h =>
        ⟨(World.cell?_of_block (h.block g hgr)).trans q, (h.blk hEr).two⟩
      have HHX := Lib.hid hx
      have HHY := Lib.hid hY
      have HHb := Lib.hid hb
      clear hx hY hb hEr q hgr
      go_wp2_with fail
      go_cut [8, 9] (fun v8 v9 wx => CutS Y b wr v8 v9 wx)
      case first =>
        clear HX HN HQ HK HQ1r HQ1 HQ2 HE HB HS HHX HHY HHb HF
        go_region_held3 (fun w' => w'.cell? ⟨g, o + i, none⟩ = some (.string x) ∧ w'.cell? ⟨w.heap.size, 0, none⟩ = some vT ∧ w'.cell? ⟨w.heap.size, 1, none⟩ = some vA)
          ((refine HSK.out _ ?_; repeat (first | exact Kp.rfl' | assumption | refine Kp.drew ?_ | refine Kp.alloc ?_ _ | refine below_set4 ?_ (Nat.le_refl _) _ _ _ _)))
          ((go_at_call 52; refine (HFx.out _ (by repeat (first | exact Kp.rfl' | assumption | refine Kp.drew ?_ | refine Kp.alloc ?_ _))).mono ?_; rintro e w5 ⟨rfl, hb5⟩
            have hC5 : Kp wr w5 := Kp.step (by repeat (first | exact Kp.rfl' | assumption | refine Kp.drew ?_ | refine Kp.alloc ?_ _)) hb5
            first
              | (have T4 : Quad w5 wr.heap.size 0 0 0 0 := Quad.keep (w := (wr.alloc (.cells #[.int .u64 0, .int .u64 0, .int .u64 0, .int .u64 0] 35)).drew) (Quad.new wr _ _ _ _) hb5
                 obtain ⟨t0, t1, t2, t3, t4, t5, t6, t7⟩ := T4.facts)
              | (have T4 : Quad w5 wr.heap.size 0 0 0 0 := Quad.keep (w := (wr.drew.alloc (.cells #[.int .u64 0, .int .u64 0, .int .u64 0, .int .u64 0] 35))) (Quad.new wr.drew _ _ _ _) hb5
                 obtain ⟨t0, t1, t2, t3, t4, t5, t6, t7⟩ := T4.facts)
              | skip))
        all_goals
          go_wp2_with fail
          go_meet
          first
            | exact ⟨w5.heap.size, rfl, rfl, hC5.size, Quad.new w5 _ _ _ _, hC5.alloc _⟩
            | exact ⟨wr.heap.size, rfl, rfl, Nat.le_refl _, T4.set4 _ _ _ _, below_set4 hC5 (Nat.le_refl _) _ _ _ _⟩
      case rest =>
        obtain ⟨g8, rfl, rfl, hg8, q8, hKc⟩ := hcut
        have hne1 : w.heap.size + 1 < g8 := Nat.lt_of_lt_of_le HQ1r.out.lt hg8
        have hne2 : w.heap.size + 2 < g8 := Nat.lt_of_lt_of_le HQ.out.lt hg8
        have HBel : Hid (Kp w wc) := Lib.hid (Kp.step HKw.out hKc)
        have hQ1c : Quad wc (w.heap.size + 1) 0 0 0 0 := HQ1r.out.keep hKc
        have hQc := HQ.out.keep hKc
        cases b
        · obtain ⟨e1, e2⟩ := un_no (fS := fS) (fB := fB) hlt (by rw [HHX.out]; exact HHb.out)
          obtain rfl : false = B := by rw [← HB.out, e1]
          obtain rfl : S4.zero = S := by rw [← HS.out, e2]
          obtain ⟨c0, c1, c2, c3, f0, f1, f2, f3⟩ := hQ1c.facts
          obtain ⟨r0, r1, r2, r3⟩ := quad_box (hQ1c.set4 0 0 0 0)
          clear e1 e2 HN HX hQ1c hQc q8 HSK
          go_wp2_with fail
          exact bodyPost_ret (v := .tuple #[.agg #[.int .u64 0, .int .u64 0, .int .u64 0, .int .u64 0], .bool false]) (by simp [results, Try.results40, go_sem, r0, r1, r2, r3]) rfl ⟨rfl, below_set4 HBel.out (Nat.le_succ _) _ _ _ _⟩
        · have HN2 : Hid (∀ k (_ : k < i + 1) (h' : k < l.length), fB l[k] = true) := Lib.hid fun k hk h => by
            rcases Nat.lt_or_ge k i with h' | h'
            · exact HN.out k h' h
            · obtain rfl : k = i := by omega
              rw [HHX.out]; exact HHb.out
          have HX2 : Hid (unF fS (l.take (i + 1)) = X.or Y) := Lib.hid (by rw [unF_snoc fS hlt, HX.out, HHX.out, HHY.out])
          have HK2 : Hid (Kb (w.heap.size + 2) W wc) := Lib.hid (HK.out.step hKc)
          obtain ⟨c0, c1, c2, c3⟩ := quad_box hQc
          obtain ⟨d0, d1, d2, d3⟩ := quad_box q8
          have HQQ := Lib.hid hQc
          clear HN HX hQ1c hQc q8 HSK HHX HHY HHb
          go_wp2_with fail
          refine (runion_c _ _ _ _ _ _ _ _ _).mono ?_
          rintro e w3 ⟨rfl, hb3⟩
          have hQ := HQQ.out.keep hb3
          have HK3 := Lib.hid (HK2.out.step hb3)
          clear c0 c1 c2 c3 d0 d1 d2 d3
          obtain ⟨c0, c1, c2, c3, f0, f1, f2, f3⟩ := hQ.facts
          have HQ4 := Lib.hid (hQ.set4 (X.or Y).a (X.or Y).b (X.or Y).c (X.or Y).d)
          clear hb3 hQ
          go_wp2_with fail
          go_roundw
          case rel => exact ⟨i + 1, hlt, by go_num, HN2, Lib.hid ((((HK3.out.set _ _).set _ _).set _ _).set _ _), X.or Y, HX2, HQ4⟩
          case measure => simp [intOf]; omega
    · obtain rfl : i = l.length := by omega
      obtain ⟨e1, e2⟩ := un_yes (fS := fS) (fB := fB) fun k h => HN.out k h h
      obtain rfl : true = B := by rw [← HB.out, e1]
      obtain rfl : X = S := by rw [← HS.out, e2, ← HX.out, List.take_length]
      clear HN e1 e2 HX
      obtain ⟨c0, c1, c2, c3⟩ := quad_box HQ.out
      obtain ⟨d0, d1, d2, d3, f0, f1, f2, f3⟩ := HQ1r.out.facts
      obtain ⟨r0, r1, r2, r3⟩ := quad_box (HQ1r.out.set4 X.a X.b X.c X.d)
      go_wp2_with fail
      exact bodyPost_ret (v := .tuple #[.agg #[.int .u64 X.a, .int .u64 X.b, .int .u64 X.c, .int .u64 X.d], .bool true]) (by simp [results, Try.results40, go_sem, r0, r1, r2, r3]) rfl ⟨rfl, below_set4 HKw.out (Nat.le_succ _) _ _ _ _⟩
end Go.Proofs.Ytbkejoheefnmiaa
