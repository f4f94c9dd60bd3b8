/- What a set of names means in a list: Listed of the program. Condition: at most a million names, types, attributes and aliases. -/
import Derived.Test.YtbkejoheefnmiaaNsp
import Derived.Test.YtbkejoheefnmiaaNsq
import Derived.Test.YtbkejoheefnmiaaNsh
namespace Go.Proofs.Ytbkejoheefnmiaa
open Go.RowKit
attribute [local go_sem ↓] Go.wp_at_zero Go.wp_at_succ
theorem strs_take {w : World} {ao : Option Addr} {cap : Nat} {L : List ByteArray} (m : Nat) (hm : m ≤ L.length) (h : Strs w (.slice ao L.length cap) L) : Strs w (.slice ao m cap) (L.take m) := by
  obtain ⟨ao2, cap2, e, hr⟩ := h
  cases e
  refine ⟨ao, cap, by rw [List.length_take, Nat.min_eq_left hm], fun hne => ?_⟩
  have h1 : L ≠ [] := by rintro rfl; simp at hne
  obtain ⟨g, o, rfl, hR⟩ := hr h1
  refine ⟨g, o, rfl, fun k hk => ?_⟩
  have hk' : k < L.length := by rw [List.length_take] at hk; omega
  rw [List.getElem_take]
  exact hR k hk'
set_option maxRecDepth 100000 in
set_option maxHeartbeats 8000000 in
theorem Listed_p (al no sf : Bool) (vN vE : Value) (ao : Option Addr) (cap : Nat) (N E L : List ByteArray) (w : World) (hN : Strs w vN N) (hE : Strs w vE E) (hL : Strs w (.slice ao L.length cap) L) (hcap : L.length ≤ cap) (hcp : 0 < cap) (hn : N.length ≤ 1000000) (hn2 : E.length ≤ 1000000) (hn3 : L.length ≤ 1000000) :
    Calls Try.prog 16 #[.agg #[.bool al, .bool no, .bool sf, vN, vE], .slice ao L.length cap] w (ErrOut (meanS al no ((min L.length 256 : Nat) : Int) (numS L) (numB L 256) N E) (errI (meanB (numB L 256) N E) 11) w) := by
  have hW : Kp w ((w.alloc (.cells #[.bool al, .bool no, .bool sf, vN, vE] 29)).alloc (.cells #[.int .u64 0, .int .u64 0, .int .u64 0, .int .u64 0] 35)) := ((Below.refl _ _).alloc (Nat.le_refl _) _).alloc (by simp) _
  have hNS : Blk ((w.alloc (.cells #[.bool al, .bool no, .bool sf, vN, vE] 29)).alloc (.cells #[.int .u64 0, .int .u64 0, .int .u64 0, .int .u64 0] 35)) w.heap.size 29 #[.bool al, .bool no, .bool sf, vN, vE] := (Blk.new w _ _).alloc _
  have s1 : (w.alloc (.cells #[.bool al, .bool no, .bool sf, vN, vE] 29)).heap.size = w.heap.size + 1 := by simp
  have hQ4 : Quad ((w.alloc (.cells #[.bool al, .bool no, .bool sf, vN, vE] 29)).alloc (.cells #[.int .u64 0, .int .u64 0, .int .u64 0, .int .u64 0] 35)) (w.heap.size + 1) 0 0 0 0 := by
    rw [← s1]; exact Quad.new (w.alloc (.cells #[.bool al, .bool no, .bool sf, vN, vE] 29)) 0 0 0 0
  have HQ4 := Lib.hid hQ4
  clear hQ4
  clear s1
  have HM0 := Lib.hid (fun (m : Nat) (hm : m ≤ L.length) W' (h : Kp ((w.alloc (.cells #[.bool al, .bool no, .bool sf, vN, vE] 29)).alloc (.cells #[.int .u64 0, .int .u64 0, .int .u64 0, .int .u64 0] 35)) W') => listed_c al no sf vN vE (.slice ao m cap) N E (L.take m) W' (hN.keep (Below.trans hW (Below.mono h hW.size))) (hE.keep (Below.trans hW (Below.mono h hW.size))) ((strs_take m hm hL).keep (Below.trans hW (Below.mono h hW.size))) hn hn2 (by rw [List.length_take]; omega))
  have HZ : Hid ((meanB (numB L 256) N E) = false → S4.zero = (meanS al no ((min L.length 256 : Nat) : Int) (numS L) (numB L 256) N E)) := Lib.hid fun h => (meanS_zero h).symm
  obtain ⟨hm1, hm2⟩ := mean_take al no L N E 256
  obtain ⟨S, hS⟩ : ∃ S, (meanS al no ((min L.length 256 : Nat) : Int) (numS L) (numB L 256) N E) = S := ⟨_, rfl⟩
  obtain ⟨B, hB⟩ : ∃ B, (meanB (numB L 256) N E) = B := ⟨_, rfl⟩
  rw [hS] at hm1
  rw [hB] at hm2
  have HM : Hid (∀ (m : Nat), m = min L.length 256 → ∀ W', Kp ((w.alloc (.cells #[.bool al, .bool no, .bool sf, vN, vE] 29)).alloc (.cells #[.int .u64 0, .int .u64 0, .int .u64 0, .int .u64 0] 35)) W' → Calls Try.prog 42 #[.agg #[.bool al, .bool no, .bool sf, vN, vE], .slice ao m cap] W' (SetOut S B W')) := Lib.hid fun m hm W' h => by
    have := HM0.out m (by omega) W' h
    rw [hm, show L.take (min L.length 256) = L.take 256 by rw [List.take_eq_take_iff]; omega, hm1, hm2] at this
    rw [hm]; exact this
  rw [hS, hB] at HZ ⊢
  clear hS hB hm1 hm2 HM0
  have HNS := Lib.hid hNS
  have HW := Lib.hid hW
  clear hW hNS hN hE hL
  have hcase : (L.length : Int) ≤ 256 ∧ min L.length 256 = L.length ∨ ¬ (L.length : Int) ≤ 256 ∧ min L.length 256 = 256 := by omega
  have hcap' : (L.length : Int) ≤ (cap : Int) := by omega
  have hpos : (0 : Int) ≤ (L.length : Int) := by omega
  go_enter Try.func16, Try.ntmps16
  go_wp2_with fail
  generalize ((w.alloc (.cells #[.bool al, .bool no, .bool sf, vN, vE] 29)).alloc (.cells #[.int .u64 0, .int .u64 0, .int .u64 0, .int .u64 0] 35)) = W at *
  have HSK : Hid (∀ w', Kp W w' → w'.cell? ⟨w.heap.size, 0, none⟩ = some (.bool al) ∧ w'.cell? ⟨w.heap.size, 1, none⟩ = some (.bool no) ∧ w'.cell? ⟨w.heap.size, 2, none⟩ = some (.bool sf) ∧ w'.cell? ⟨w.heap.size, 3, none⟩ = some vN ∧ w'.cell? ⟨w.heap.size, 4, none⟩ = some vE) := Lib.hid fun w' h => by
    obtain ⟨a0, a1, a2, a3, a4⟩ := (h.blk HNS.out).five
    exact ⟨a0, a1, a2, a3, a4⟩
  go_cut [6, 7] (fun v6 v7 wx => CutS S B W v6 v7 wx)
  case first =>
    clear HZ HNS HW
    rcases hcase with ⟨hle, hmm⟩ | ⟨hle, hmm⟩
    all_goals
      have HF := Lib.hid (HM.out _ hmm.symm)
      have hc2 : ((256 : Nat) : Int) ≤ (cap : Int) ∨ (L.length : Int) ≤ 256 := by omega
      have hc3 : (256 : Int) ≤ (cap : Int) ∨ (L.length : Int) ≤ 256 := by omega
      clear hmm HM
    · clear hc2 hc3
      have hcp' : (0 : Int) < (cap : Int) := by omega
      have hmin : ((256 : Int) < (L.length : Int)) = False := eq_false (by omega)
      have hcN : (L.length ≤ cap) = True := eq_true hcap
      go_region_held3 (fun w' => w'.cell? ⟨w.heap.size, 0, none⟩ = some (.bool al) ∧ w'.cell? ⟨w.heap.size, 1, none⟩ = some (.bool no) ∧ w'.cell? ⟨w.heap.size, 2, none⟩ = some (.bool sf) ∧ w'.cell? ⟨w.heap.size, 3, none⟩ = some vN ∧ w'.cell? ⟨w.heap.size, 4, none⟩ = some vE)
        ((refine HSK.out _ ?_; repeat (first | exact Kp.rfl' | assumption | refine Kp.drew ?_ | refine Kp.alloc ?_ _ | refine below_set4 ?_ (Nat.le_refl _) _ _ _ _)))
        ((go_at_call 42; refine (HF.out _ (by repeat (first | exact Kp.rfl' | assumption | refine Kp.drew ?_ | refine Kp.alloc ?_ _))).mono ?_; rintro e w5 ⟨rfl, hb5⟩
          have hC5 : Kp W w5 := Kp.step (by repeat (first | exact Kp.rfl' | assumption | refine Kp.drew ?_ | refine Kp.alloc ?_ _)) hb5
          first
            | (have hbx : Below ((W.alloc (.cells #[.int .u64 0, .int .u64 0, .int .u64 0, .int .u64 0] 35)).drew).heap.size ((W.alloc (.cells #[.int .u64 0, .int .u64 0, .int .u64 0, .int .u64 0] 35)).drew) w5 := by with_reducible exact hb5
               have T4 : Quad w5 W.heap.size 0 0 0 0 := Quad.keep (w := (W.alloc (.cells #[.int .u64 0, .int .u64 0, .int .u64 0, .int .u64 0] 35)).drew) (Quad.new W _ _ _ _) hbx
               clear hbx
               obtain ⟨t0, t1, t2, t3, t4, t5, t6, t7⟩ := T4.facts)
            | (have hbx : Below ((W.drew.alloc (.cells #[.int .u64 0, .int .u64 0, .int .u64 0, .int .u64 0] 35))).heap.size ((W.drew.alloc (.cells #[.int .u64 0, .int .u64 0, .int .u64 0, .int .u64 0] 35))) w5 := by with_reducible exact hb5
               have T4 : Quad w5 W.heap.size 0 0 0 0 := Quad.keep (w := (W.drew.alloc (.cells #[.int .u64 0, .int .u64 0, .int .u64 0, .int .u64 0] 35))) (Quad.new W.drew _ _ _ _) hbx
               clear hbx
               obtain ⟨t0, t1, t2, t3, t4, t5, t6, t7⟩ := T4.facts)
            | skip))
      all_goals
        go_wp2_with fail
        go_meet
        first
          | exact ⟨W.heap.size, rfl, rfl, Nat.le_refl _, T4.set4 _ _ _ _, below_set4 hC5 (Nat.le_refl _) _ _ _ _⟩
          | exact ⟨w5.heap.size, rfl, rfl, hC5.size, Quad.new w5 _ _ _ _, hC5.alloc _⟩
    · have hc4 : (256 : Int) ≤ (cap : Int) := by omega
      clear hc2 hc3
      go_region_held3 (fun w' => w'.cell? ⟨w.heap.size, 0, none⟩ = some (.bool al) ∧ w'.cell? ⟨w.heap.size, 1, none⟩ = some (.bool no) ∧ w'.cell? ⟨w.heap.size, 2, none⟩ = some (.bool sf) ∧ w'.cell? ⟨w.heap.size, 3, none⟩ = some vN ∧ w'.cell? ⟨w.heap.size, 4, none⟩ = some vE)
        ((refine HSK.out _ ?_; repeat (first | exact Kp.rfl' | assumption | refine Kp.drew ?_ | refine Kp.alloc ?_ _ | refine below_set4 ?_ (Nat.le_refl _) _ _ _ _)))
        ((go_at_call 42; refine (HF.out _ (by repeat (first | exact Kp.rfl' | assumption | refine Kp.drew ?_ | refine Kp.alloc ?_ _))).mono ?_; rintro e w5 ⟨rfl, hb5⟩
          have hC5 : Kp W w5 := Kp.step (by repeat (first | exact Kp.rfl' | assumption | refine Kp.drew ?_ | refine Kp.alloc ?_ _)) hb5
          first
            | (have hbx : Below ((W.alloc (.cells #[.int .u64 0, .int .u64 0, .int .u64 0, .int .u64 0] 35)).drew).heap.size ((W.alloc (.cells #[.int .u64 0, .int .u64 0, .int .u64 0, .int .u64 0] 35)).drew) w5 := by with_reducible exact hb5
               have T4 : Quad w5 W.heap.size 0 0 0 0 := Quad.keep (w := (W.alloc (.cells #[.int .u64 0, .int .u64 0, .int .u64 0, .int .u64 0] 35)).drew) (Quad.new W _ _ _ _) hbx
               clear hbx
               obtain ⟨t0, t1, t2, t3, t4, t5, t6, t7⟩ := T4.facts)
            | (have hbx : Below ((W.drew.alloc (.cells #[.int .u64 0, .int .u64 0, .int .u64 0, .int .u64 0] 35))).heap.size ((W.drew.alloc (.cells #[.int .u64 0, .int .u64 0, .int .u64 0, .int .u64 0] 35))) w5 := by with_reducible exact hb5
               have T4 : Quad w5 W.heap.size 0 0 0 0 := Quad.keep (w := (W.drew.alloc (.cells #[.int .u64 0, .int .u64 0, .int .u64 0, .int .u64 0] 35))) (Quad.new W.drew _ _ _ _) hbx
               clear hbx
               obtain ⟨t0, t1, t2, t3, t4, t5, t6, t7⟩ := T4.facts)
            | skip))
      all_goals
        go_wp2_with fail
        go_meet
        first
          | exact ⟨W.heap.size, rfl, rfl, Nat.le_refl _, T4.set4 _ _ _ _, below_set4 hC5 (Nat.le_refl _) _ _ _ _⟩
          | exact ⟨w5.heap.size, rfl, rfl, hC5.size, Quad.new w5 _ _ _ _, hC5.alloc _⟩
  case rest =>
    obtain ⟨g8, rfl, rfl, hg8, q8, hKc⟩ := hcut
    have hQc := HQ4.out.keep hKc
    have HB := Lib.hid (Kp.step HW.out hKc)
    have hne := Nat.lt_of_lt_of_le HQ4.out.lt hg8
    have HQc := Lib.hid hQc
    have HQ8 := Lib.hid q8
    obtain ⟨c0, c1, c2, c3, f0, f1, f2, f3⟩ := hQc.facts
    obtain ⟨d0, d1, d2, d3⟩ := quad_box q8
    clear hQc q8 HSK
    cases B
    all_goals go_wp2_with fail
    · obtain rfl := HZ.out (by simp)
      obtain ⟨r0, r1, r2, r3⟩ := quad_box (HQc.out.set4 0 0 0 0)
      exact bodyPost_ret (v := .tuple #[.agg #[.int .u64 0, .int .u64 0, .int .u64 0, .int .u64 0], .int .i64 11]) (by simp [results, Try.results16, go_sem, r0, r1, r2, r3]) rfl ⟨rfl, below_set4 HB.out (by omega) _ _ _ _⟩
    · obtain ⟨r0, r1, r2, r3⟩ := quad_box (HQc.out.set4 (S).a (S).b (S).c (S).d)
      exact bodyPost_ret (v := .tuple #[.agg #[.int .u64 (S).a, .int .u64 (S).b, .int .u64 (S).c, .int .u64 (S).d], .int .i64 0]) (by simp [results, Try.results16, go_sem, r0, r1, r2, r3]) rfl ⟨rfl, below_set4 HB.out (by omega) _ _ _ _⟩
set_option maxRecDepth 100000 in
set_option maxHeartbeats 8000000 in
theorem Listed_z (al no sf : Bool) (vN vE : Value) (ao : Option Addr) (N E : List ByteArray) (w : World) (hN : Strs w vN N) (hE : Strs w vE E) (hL : Strs w (.slice ao 0 0) []) (hn : N.length ≤ 1000000) (hn2 : E.length ≤ 1000000) :
    Calls Try.prog 16 #[.agg #[.bool al, .bool no, .bool sf, vN, vE], .slice ao 0 0] w (ErrOut (meanS al no ((min ([] : List ByteArray).length 256 : Nat) : Int) (numS []) (numB [] 256) N E) (errI (meanB (numB [] 256) N E) 11) w) := by
  have hW : Kp w ((w.alloc (.cells #[.bool al, .bool no, .bool sf, vN, vE] 29)).alloc (.cells #[.int .u64 0, .int .u64 0, .int .u64 0, .int .u64 0] 35)) := ((Below.refl _ _).alloc (Nat.le_refl _) _).alloc (by simp) _
  have hNS : Blk ((w.alloc (.cells #[.bool al, .bool no, .bool sf, vN, vE] 29)).alloc (.cells #[.int .u64 0, .int .u64 0, .int .u64 0, .int .u64 0] 35)) w.heap.size 29 #[.bool al, .bool no, .bool sf, vN, vE] := (Blk.new w _ _).alloc _
  have s1 : (w.alloc (.cells #[.bool al, .bool no, .bool sf, vN, vE] 29)).heap.size = w.heap.size + 1 := by simp
  have hQ4 : Quad ((w.alloc (.cells #[.bool al, .bool no, .bool sf, vN, vE] 29)).alloc (.cells #[.int .u64 0, .int .u64 0, .int .u64 0, .int .u64 0] 35)) (w.heap.size + 1) 0 0 0 0 := by
    rw [← s1]; exact Quad.new (w.alloc (.cells #[.bool al, .bool no, .bool sf, vN, vE] 29)) 0 0 0 0
  have HQ4 := Lib.hid hQ4
  clear hQ4
  clear s1
  have HZ : Hid ((meanB (numB [] 256) N E) = false → S4.zero = (meanS al no ((min ([] : List ByteArray).length 256 : Nat) : Int) (numS []) (numB [] 256) N E)) := Lib.hid fun h => (meanS_zero h).symm
  obtain ⟨hm1, hm2⟩ := mean_take al no [] N E 256
  rw [List.take_nil] at hm1 hm2
  obtain ⟨S, hS⟩ : ∃ S, (meanS al no ((min ([] : List ByteArray).length 256 : Nat) : Int) (numS []) (numB [] 256) N E) = S := ⟨_, rfl⟩
  obtain ⟨B, hB⟩ : ∃ B, (meanB (numB [] 256) N E) = B := ⟨_, rfl⟩
  rw [hS] at hm1
  rw [hB] at hm2
  have HF : Hid (∀ W', Kp ((w.alloc (.cells #[.bool al, .bool no, .bool sf, vN, vE] 29)).alloc (.cells #[.int .u64 0, .int .u64 0, .int .u64 0, .int .u64 0] 35)) W' → Calls Try.prog 42 #[.agg #[.bool al, .bool no, .bool sf, vN, vE], .slice ao 0 0] W' (SetOut S B W')) := Lib.hid fun W' h => by
    have := listed_c al no sf vN vE (.slice ao 0 0) N E [] W' (hN.keep (Below.trans hW (Below.mono h hW.size))) (hE.keep (Below.trans hW (Below.mono h hW.size))) (hL.keep (Below.trans hW (Below.mono h hW.size))) hn hn2 (by simp)
    rw [hm1, hm2] at this
    exact this
  rw [hS, hB] at HZ ⊢
  clear hS hB hm1 hm2
  have HNS := Lib.hid hNS
  have HW := Lib.hid hW
  clear hW hNS hN hE hL
  go_enter Try.func16, Try.ntmps16
  go_wp2_with fail
  generalize ((w.alloc (.cells #[.bool al, .bool no, .bool sf, vN, vE] 29)).alloc (.cells #[.int .u64 0, .int .u64 0, .int .u64 0, .int .u64 0] 35)) = W at *
  have HSK : Hid (∀ w', Kp W w' → w'.cell? ⟨w.heap.size, 0, none⟩ = some (.bool al) ∧ w'.cell? ⟨w.heap.size, 1, none⟩ = some (.bool no) ∧ w'.cell? ⟨w.heap.size, 2, none⟩ = some (.bool sf) ∧ w'.cell? ⟨w.heap.size, 3, none⟩ = some vN ∧ w'.cell? ⟨w.heap.size, 4, none⟩ = some vE) := Lib.hid fun w' h => by
    obtain ⟨a0, a1, a2, a3, a4⟩ := (h.blk HNS.out).five
    exact ⟨a0, a1, a2, a3, a4⟩
  go_cut [6, 7] (fun v6 v7 wx => CutS S B W v6 v7 wx)
  case first =>
    clear HZ HNS HW
    go_region_held3 (fun w' => w'.cell? ⟨w.heap.size, 0, none⟩ = some (.bool al) ∧ w'.cell? ⟨w.heap.size, 1, none⟩ = some (.bool no) ∧ w'.cell? ⟨w.heap.size, 2, none⟩ = some (.bool sf) ∧ w'.cell? ⟨w.heap.size, 3, none⟩ = some vN ∧ w'.cell? ⟨w.heap.size, 4, none⟩ = some vE)
      ((refine HSK.out _ ?_; repeat (first | exact Kp.rfl' | assumption | refine Kp.drew ?_ | refine Kp.alloc ?_ _ | refine below_set4 ?_ (Nat.le_refl _) _ _ _ _)))
      ((go_at_call 42; refine (HF.out _ (by repeat (first | exact Kp.rfl' | assumption | refine Kp.drew ?_ | refine Kp.alloc ?_ _))).mono ?_; rintro e w5 ⟨rfl, hb5⟩
        have hC5 : Kp W w5 := Kp.step (by repeat (first | exact Kp.rfl' | assumption | refine Kp.drew ?_ | refine Kp.alloc ?_ _)) hb5
        first
          | (have hbx : Below ((W.alloc (.cells #[.int .u64 0, .int .u64 0, .int .u64 0, .int .u64 0] 35)).drew).heap.size ((W.alloc (.cells #[.int .u64 0, .int .u64 0, .int .u64 0, .int .u64 0] 35)).drew) w5 := by with_reducible exact hb5
             have T4 : Quad w5 W.heap.size 0 0 0 0 := Quad.keep (w := (W.alloc (.cells #[.int .u64 0, .int .u64 0, .int .u64 0, .int .u64 0] 35)).drew) (Quad.new W _ _ _ _) hbx
             clear hbx
             obtain ⟨t0, t1, t2, t3, t4, t5, t6, t7⟩ := T4.facts)
          | (have hbx : Below ((W.drew.alloc (.cells #[.int .u64 0, .int .u64 0, .int .u64 0, .int .u64 0] 35))).heap.size ((W.drew.alloc (.cells #[.int .u64 0, .int .u64 0, .int .u64 0, .int .u64 0] 35))) w5 := by with_reducible exact hb5
             have T4 : Quad w5 W.heap.size 0 0 0 0 := Quad.keep (w := (W.drew.alloc (.cells #[.int .u64 0, .int .u64 0, .int .u64 0, .int .u64 0] 35))) (Quad.new W.drew _ _ _ _) hbx
             clear hbx
             obtain ⟨t0, t1, t2, t3, t4, t5, t6, t7⟩ := T4.facts)
          | skip))
    all_goals
      go_wp2_with fail
      go_meet
      first
        | exact ⟨W.heap.size, rfl, rfl, Nat.le_refl _, T4.set4 _ _ _ _, below_set4 hC5 (Nat.le_refl _) _ _ _ _⟩
        | exact ⟨w5.heap.size, rfl, rfl, hC5.size, Quad.new w5 _ _ _ _, hC5.alloc _⟩
  case rest =>
    obtain ⟨g8, rfl, rfl, hg8, q8, hKc⟩ := hcut
    have hQc := HQ4.out.keep hKc
    have HB := Lib.hid (Kp.step HW.out hKc)
    have hne := Nat.lt_of_lt_of_le HQ4.out.lt hg8
    have HQc := Lib.hid hQc
    have HQ8 := Lib.hid q8
    obtain ⟨c0, c1, c2, c3, f0, f1, f2, f3⟩ := hQc.facts
    obtain ⟨d0, d1, d2, d3⟩ := quad_box q8
    clear hQc q8 HSK
    cases B
    all_goals go_wp2_with fail
    · obtain rfl := HZ.out (by simp)
      obtain ⟨r0, r1, r2, r3⟩ := quad_box (HQc.out.set4 0 0 0 0)
      exact bodyPost_ret (v := .tuple #[.agg #[.int .u64 0, .int .u64 0, .int .u64 0, .int .u64 0], .int .i64 11]) (by simp [results, Try.results16, go_sem, r0, r1, r2, r3]) rfl ⟨rfl, below_set4 HB.out (by omega) _ _ _ _⟩
    · obtain ⟨r0, r1, r2, r3⟩ := quad_box (HQc.out.set4 (S).a (S).b (S).c (S).d)
      exact bodyPost_ret (v := .tuple #[.agg #[.int .u64 (S).a, .int .u64 (S).b, .int .u64 (S).c, .int .u64 (S).d], .int .i64 0]) (by simp [results, Try.results16, go_sem, r0, r1, r2, r3]) rfl ⟨rfl, below_set4 HB.out (by omega) _ _ _ _⟩
theorem Listed_c (al no sf : Bool) (vN vE : Value) (ao : Option Addr) (cap : Nat) (N E L : List ByteArray) (w : World) (hN : Strs w vN N) (hE : Strs w vE E) (hL : Strs w (.slice ao L.length cap) L) (hcap : L.length ≤ cap) (hn : N.length ≤ 1000000) (hn2 : E.length ≤ 1000000) (hn3 : L.length ≤ 1000000) :
    Calls Try.prog 16 #[.agg #[.bool al, .bool no, .bool sf, vN, vE], .slice ao L.length cap] w (ErrOut (meanS al no ((min L.length 256 : Nat) : Int) (numS L) (numB L 256) N E) (errI (meanB (numB L 256) N E) 11) w) := by
  rcases Nat.eq_zero_or_pos cap with rfl | hcp
  · obtain rfl : L = [] := List.eq_nil_of_length_eq_zero (by omega)
    exact Listed_z al no sf vN vE ao N E w hN hE hL hn hn2
  · exact Listed_p al no sf vN vE ao cap N E L w hN hE hL hcap hcp hn hn2 hn3
end Go.Proofs.Ytbkejoheefnmiaa
