/- What a set of names means in a list: Perms of the program. Condition: at most a million names, types, attributes and aliases. -/
import Derived.Test.YtbkejoheefnmiaaNsr
namespace Go.Proofs.Ytbkejoheefnmiaa
open Go.RowKit
attribute [local go_sem ↓] Go.wp_at_zero Go.wp_at_succ
set_option maxRecDepth 100000 in
set_option maxHeartbeats 8000000 in
theorem Perms_p (al no sf : Bool) (vN vE : Value) (nm : ByteArray) (ao : Option Addr) (cap : Nat) (N E L : List ByteArray) (w : World) (hN : Strs w vN N) (hE : Strs w vE E) (hL : Strs w (.slice ao L.length cap) L) (hcap : L.length ≤ cap) (hcp : 0 < cap) (hn : N.length ≤ 1000000) (hn2 : E.length ≤ 1000000) (hn3 : L.length ≤ 1000000) :
    Calls Try.prog 20 #[.agg #[.bool al, .bool no, .bool sf, vN, vE], .agg #[.string nm, .slice ao L.length cap]] w fun e w' => e = .returned (.tuple #[.int .u32 (permI (meanB (numB L 32) N E) (meanS al no ((min L.length 32 : Nat) : Int) (numS L) (numB L 32) N E).a), .int .i64 (errI (meanB (numB L 32) N E) 21)]) ∧ Below w.heap.size w w' := by
  have hW : Kp w ((w.alloc (.cells #[.bool al, .bool no, .bool sf, vN, vE] 29)).alloc (.cells #[.string nm, .slice ao L.length cap] 44)) := ((Below.refl _ _).alloc (Nat.le_refl _) _).alloc (by simp) _
  have hNS : Blk ((w.alloc (.cells #[.bool al, .bool no, .bool sf, vN, vE] 29)).alloc (.cells #[.string nm, .slice ao L.length cap] 44)) w.heap.size 29 #[.bool al, .bool no, .bool sf, vN, vE] := (Blk.new w _ _).alloc _
  have s1 : (w.alloc (.cells #[.bool al, .bool no, .bool sf, vN, vE] 29)).heap.size = w.heap.size + 1 := by simp
  have hCL : Blk ((w.alloc (.cells #[.bool al, .bool no, .bool sf, vN, vE] 29)).alloc (.cells #[.string nm, .slice ao L.length cap] 44)) (w.heap.size + 1) 44 #[.string nm, .slice ao L.length cap] := by
    rw [← s1]; exact Blk.new (w.alloc (.cells #[.bool al, .bool no, .bool sf, vN, vE] 29)) _ _
  have HCL := Lib.hid hCL
  clear hCL
  clear s1
  have HM0 := Lib.hid (fun (m : Nat) (hm : m ≤ L.length) W' (h : Kp ((w.alloc (.cells #[.bool al, .bool no, .bool sf, vN, vE] 29)).alloc (.cells #[.string nm, .slice ao L.length cap] 44)) W') => listed_c al no sf vN vE (.slice ao m cap) N E (L.take m) W' (hN.keep (Below.trans hW (Below.mono h hW.size))) (hE.keep (Below.trans hW (Below.mono h hW.size))) ((strs_take m hm hL).keep (Below.trans hW (Below.mono h hW.size))) hn hn2 (by rw [List.length_take]; omega))
  have HZ : Hid ((meanB (numB L 32) N E) = false → S4.zero = (meanS al no ((min L.length 32 : Nat) : Int) (numS L) (numB L 32) N E)) := Lib.hid fun h => (meanS_zero h).symm
  obtain ⟨hm1, hm2⟩ := mean_take al no L N E 32
  obtain ⟨S, hS⟩ : ∃ S, (meanS al no ((min L.length 32 : Nat) : Int) (numS L) (numB L 32) N E) = S := ⟨_, rfl⟩
  obtain ⟨B, hB⟩ : ∃ B, (meanB (numB L 32) N E) = B := ⟨_, rfl⟩
  rw [hS] at hm1
  rw [hB] at hm2
  have HM : Hid (∀ (m : Nat), m = min L.length 32 → ∀ W', Kp ((w.alloc (.cells #[.bool al, .bool no, .bool sf, vN, vE] 29)).alloc (.cells #[.string nm, .slice ao L.length cap] 44)) W' → Calls Try.prog 42 #[.agg #[.bool al, .bool no, .bool sf, vN, vE], .slice ao m cap] W' (SetOut S B W')) := Lib.hid fun m hm W' h => by
    have := HM0.out m (by omega) W' h
    rw [hm, show L.take (min L.length 32) = L.take 32 by rw [List.take_eq_take_iff]; omega, hm1, hm2] at this
    rw [hm]; exact this
  rw [hS, hB] at HZ ⊢
  clear hS hB hm1 hm2 HM0
  have HNS := Lib.hid hNS
  have HW := Lib.hid hW
  clear hW hNS hN hE hL
  have hcase : (L.length : Int) ≤ 32 ∧ min L.length 32 = L.length ∨ ¬ (L.length : Int) ≤ 32 ∧ min L.length 32 = 32 := by omega
  have hcap' : (L.length : Int) ≤ (cap : Int) := by omega
  have hpos : (0 : Int) ≤ (L.length : Int) := by omega
  go_enter Try.func20, Try.ntmps20
  go_wp2_with fail
  generalize ((w.alloc (.cells #[.bool al, .bool no, .bool sf, vN, vE] 29)).alloc (.cells #[.string nm, .slice ao L.length cap] 44)) = W at *
  have HSK : Hid (∀ w', Kp W w' → w'.cell? ⟨w.heap.size, 0, none⟩ = some (.bool al) ∧ w'.cell? ⟨w.heap.size, 1, none⟩ = some (.bool no) ∧ w'.cell? ⟨w.heap.size, 2, none⟩ = some (.bool sf) ∧ w'.cell? ⟨w.heap.size, 3, none⟩ = some vN ∧ w'.cell? ⟨w.heap.size, 4, none⟩ = some vE ∧ w'.cell? ⟨w.heap.size + 1, 1, none⟩ = some (.slice ao L.length cap)) := Lib.hid fun w' h => by
    obtain ⟨a0, a1, a2, a3, a4⟩ := (h.blk HNS.out).five
    exact ⟨a0, a1, a2, a3, a4, ((h.blk HCL.out).two).2⟩
  go_cut [6, 7] (fun v6 v7 wx => CutS S B W v6 v7 wx)
  case first =>
    clear HZ HNS HW
    rcases hcase with ⟨hle, hmm⟩ | ⟨hle, hmm⟩
    all_goals
      have HF := Lib.hid (HM.out _ hmm.symm)
      have hc2 : ((32 : Nat) : Int) ≤ (cap : Int) ∨ (L.length : Int) ≤ 32 := by omega
      have hc3 : (32 : Int) ≤ (cap : Int) ∨ (L.length : Int) ≤ 32 := by omega
      clear hmm HM
    · clear hc2 hc3
      have hcp' : (0 : Int) < (cap : Int) := by omega
      have hmin : ((32 : Int) < (L.length : Int)) = False := eq_false (by omega)
      have hcN : (L.length ≤ cap) = True := eq_true hcap
      go_region_held3 (fun w' => w'.cell? ⟨w.heap.size, 0, none⟩ = some (.bool al) ∧ w'.cell? ⟨w.heap.size, 1, none⟩ = some (.bool no) ∧ w'.cell? ⟨w.heap.size, 2, none⟩ = some (.bool sf) ∧ w'.cell? ⟨w.heap.size, 3, none⟩ = some vN ∧ w'.cell? ⟨w.heap.size, 4, none⟩ = some vE ∧ w'.cell? ⟨w.heap.size + 1, 1, none⟩ = some (.slice ao L.length cap))
        ((refine HSK.out _ ?_; repeat (first | exact Kp.rfl' | assumption | refine Kp.drew ?_ | refine Kp.alloc ?_ _ | refine below_set4 ?_ (Nat.le_refl _) _ _ _ _)))
        ((go_at_call 42; refine (HF.out _ (by repeat (first | exact Kp.rfl' | assumption | refine Kp.drew ?_ | refine Kp.alloc ?_ _))).mono ?_; rintro e w5 ⟨rfl, hb5⟩
          have hC5 : Kp W w5 := Kp.step (by repeat (first | exact Kp.rfl' | assumption | refine Kp.drew ?_ | refine Kp.alloc ?_ _)) hb5
          first
            | (have hbx : Below ((W.alloc (.cells #[.int .u64 0, .int .u64 0, .int .u64 0, .int .u64 0] 35)).drew).heap.size ((W.alloc (.cells #[.int .u64 0, .int .u64 0, .int .u64 0, .int .u64 0] 35)).drew) w5 := by with_reducible exact hb5
               have T4 : Quad w5 W.heap.size 0 0 0 0 := Quad.keep (w := (W.alloc (.cells #[.int .u64 0, .int .u64 0, .int .u64 0, .int .u64 0] 35)).drew) (Quad.new W _ _ _ _) hbx
               clear hbx
               obtain ⟨t0, t1, t2, t3, t4, t5, t6, t7⟩ := T4.facts)
            | (have hbx : Below ((W.drew.alloc (.cells #[.int .u64 0, .int .u64 0, .int .u64 0, .int .u64 0] 35))).heap.size ((W.drew.alloc (.cells #[.int .u64 0, .int .u64 0, .int .u64 0, .int .u64 0] 35))) w5 := by with_reducible exact hb5
               have T4 : Quad w5 W.heap.size 0 0 0 0 := Quad.keep (w := (W.drew.alloc (.cells #[.int .u64 0, .int .u64 0, .int .u64 0, .int .u64 0] 35))) (Quad.new W.drew _ _ _ _) hbx
               clear hbx
               obtain ⟨t0, t1, t2, t3, t4, t5, t6, t7⟩ := T4.facts)
            | skip))
      all_goals
        go_wp2_with fail
        go_meet
        first
          | exact ⟨W.heap.size, rfl, rfl, Nat.le_refl _, T4.set4 _ _ _ _, below_set4 hC5 (Nat.le_refl _) _ _ _ _⟩
          | exact ⟨w5.heap.size, rfl, rfl, hC5.size, Quad.new w5 _ _ _ _, hC5.alloc _⟩
    · have hc4 : (32 : Int) ≤ (cap : Int) := by omega
      clear hc2 hc3
      go_region_held3 (fun w' => w'.cell? ⟨w.heap.size, 0, none⟩ = some (.bool al) ∧ w'.cell? ⟨w.heap.size, 1, none⟩ = some (.bool no) ∧ w'.cell? ⟨w.heap.size, 2, none⟩ = some (.bool sf) ∧ w'.cell? ⟨w.heap.size, 3, none⟩ = some vN ∧ w'.cell? ⟨w.heap.size, 4, none⟩ = some vE ∧ w'.cell? ⟨w.heap.size + 1, 1, none⟩ = some (.slice ao L.length cap))
        ((refine HSK.out _ ?_; repeat (first | exact Kp.rfl' | assumption | refine Kp.drew ?_ | refine Kp.alloc ?_ _ | refine below_set4 ?_ (Nat.le_refl _) _ _ _ _)))
        ((go_at_call 42; refine (HF.out _ (by repeat (first | exact Kp.rfl' | assumption | refine Kp.drew ?_ | refine Kp.alloc ?_ _))).mono ?_; rintro e w5 ⟨rfl, hb5⟩
          have hC5 : Kp W w5 := Kp.step (by repeat (first | exact Kp.rfl' | assumption | refine Kp.drew ?_ | refine Kp.alloc ?_ _)) hb5
          first
            | (have hbx : Below ((W.alloc (.cells #[.int .u64 0, .int .u64 0, .int .u64 0, .int .u64 0] 35)).drew).heap.size ((W.alloc (.cells #[.int .u64 0, .int .u64 0, .int .u64 0, .int .u64 0] 35)).drew) w5 := by with_reducible exact hb5
               have T4 : Quad w5 W.heap.size 0 0 0 0 := Quad.keep (w := (W.alloc (.cells #[.int .u64 0, .int .u64 0, .int .u64 0, .int .u64 0] 35)).drew) (Quad.new W _ _ _ _) hbx
               clear hbx
               obtain ⟨t0, t1, t2, t3, t4, t5, t6, t7⟩ := T4.facts)
            | (have hbx : Below ((W.drew.alloc (.cells #[.int .u64 0, .int .u64 0, .int .u64 0, .int .u64 0] 35))).heap.size ((W.drew.alloc (.cells #[.int .u64 0, .int .u64 0, .int .u64 0, .int .u64 0] 35))) w5 := by with_reducible exact hb5
               have T4 : Quad w5 W.heap.size 0 0 0 0 := Quad.keep (w := (W.drew.alloc (.cells #[.int .u64 0, .int .u64 0, .int .u64 0, .int .u64 0] 35))) (Quad.new W.drew _ _ _ _) hbx
               clear hbx
               obtain ⟨t0, t1, t2, t3, t4, t5, t6, t7⟩ := T4.facts)
            | skip))
      all_goals
        go_wp2_with fail
        go_meet
        first
          | exact ⟨W.heap.size, rfl, rfl, Nat.le_refl _, T4.set4 _ _ _ _, below_set4 hC5 (Nat.le_refl _) _ _ _ _⟩
          | exact ⟨w5.heap.size, rfl, rfl, hC5.size, Quad.new w5 _ _ _ _, hC5.alloc _⟩
  case rest =>
    obtain ⟨g8, rfl, rfl, hg8, q8, hKc⟩ := hcut
    have HB := Lib.hid (Kp.step HW.out hKc)
    obtain ⟨d0, d1, d2, d3⟩ := quad_box q8
    clear q8 HSK
    cases B
    all_goals
      go_wp2_with fail
      go_ret2
      exact ⟨rfl, HB.out⟩
set_option maxRecDepth 100000 in
set_option maxHeartbeats 8000000 in
theorem Perms_z (al no sf : Bool) (vN vE : Value) (nm : ByteArray) (ao : Option Addr) (N E : List ByteArray) (w : World) (hN : Strs w vN N) (hE : Strs w vE E) (hL : Strs w (.slice ao 0 0) []) (hn : N.length ≤ 1000000) (hn2 : E.length ≤ 1000000) :
    Calls Try.prog 20 #[.agg #[.bool al, .bool no, .bool sf, vN, vE], .agg #[.string nm, .slice ao 0 0]] w fun e w' => e = .returned (.tuple #[.int .u32 (permI (meanB (numB [] 32) N E) (meanS al no ((min ([] : List ByteArray).length 32 : Nat) : Int) (numS []) (numB [] 32) N E).a), .int .i64 (errI (meanB (numB [] 32) N E) 21)]) ∧ Below w.heap.size w w' := by
  have hW : Kp w ((w.alloc (.cells #[.bool al, .bool no, .bool sf, vN, vE] 29)).alloc (.cells #[.string nm, .slice ao 0 0] 44)) := ((Below.refl _ _).alloc (Nat.le_refl _) _).alloc (by simp) _
  have hNS : Blk ((w.alloc (.cells #[.bool al, .bool no, .bool sf, vN, vE] 29)).alloc (.cells #[.string nm, .slice ao 0 0] 44)) w.heap.size 29 #[.bool al, .bool no, .bool sf, vN, vE] := (Blk.new w _ _).alloc _
  have s1 : (w.alloc (.cells #[.bool al, .bool no, .bool sf, vN, vE] 29)).heap.size = w.heap.size + 1 := by simp
  have hCL : Blk ((w.alloc (.cells #[.bool al, .bool no, .bool sf, vN, vE] 29)).alloc (.cells #[.string nm, .slice ao 0 0] 44)) (w.heap.size + 1) 44 #[.string nm, .slice ao 0 0] := by
    rw [← s1]; exact Blk.new (w.alloc (.cells #[.bool al, .bool no, .bool sf, vN, vE] 29)) _ _
  have HCL := Lib.hid hCL
  clear hCL
  clear s1
  have HZ : Hid ((meanB (numB [] 32) N E) = false → S4.zero = (meanS al no ((min ([] : List ByteArray).length 32 : Nat) : Int) (numS []) (numB [] 32) N E)) := Lib.hid fun h => (meanS_zero h).symm
  obtain ⟨hm1, hm2⟩ := mean_take al no [] N E 32
  rw [List.take_nil] at hm1 hm2
  obtain ⟨S, hS⟩ : ∃ S, (meanS al no ((min ([] : List ByteArray).length 32 : Nat) : Int) (numS []) (numB [] 32) N E) = S := ⟨_, rfl⟩
  obtain ⟨B, hB⟩ : ∃ B, (meanB (numB [] 32) N E) = B := ⟨_, rfl⟩
  rw [hS] at hm1
  rw [hB] at hm2
  have HF : Hid (∀ W', Kp ((w.alloc (.cells #[.bool al, .bool no, .bool sf, vN, vE] 29)).alloc (.cells #[.string nm, .slice ao 0 0] 44)) W' → Calls Try.prog 42 #[.agg #[.bool al, .bool no, .bool sf, vN, vE], .slice ao 0 0] W' (SetOut S B W')) := Lib.hid fun W' h => by
    have := listed_c al no sf vN vE (.slice ao 0 0) N E [] W' (hN.keep (Below.trans hW (Below.mono h hW.size))) (hE.keep (Below.trans hW (Below.mono h hW.size))) (hL.keep (Below.trans hW (Below.mono h hW.size))) hn hn2 (by simp)
    rw [hm1, hm2] at this
    exact this
  rw [hS, hB] at HZ ⊢
  clear hS hB hm1 hm2
  have HNS := Lib.hid hNS
  have HW := Lib.hid hW
  clear hW hNS hN hE hL
  go_enter Try.func20, Try.ntmps20
  go_wp2_with fail
  generalize ((w.alloc (.cells #[.bool al, .bool no, .bool sf, vN, vE] 29)).alloc (.cells #[.string nm, .slice ao 0 0] 44)) = W at *
  have HSK : Hid (∀ w', Kp W w' → w'.cell? ⟨w.heap.size, 0, none⟩ = some (.bool al) ∧ w'.cell? ⟨w.heap.size, 1, none⟩ = some (.bool no) ∧ w'.cell? ⟨w.heap.size, 2, none⟩ = some (.bool sf) ∧ w'.cell? ⟨w.heap.size, 3, none⟩ = some vN ∧ w'.cell? ⟨w.heap.size, 4, none⟩ = some vE ∧ w'.cell? ⟨w.heap.size + 1, 1, none⟩ = some (.slice ao 0 0)) := Lib.hid fun w' h => by
    obtain ⟨a0, a1, a2, a3, a4⟩ := (h.blk HNS.out).five
    exact ⟨a0, a1, a2, a3, a4, ((h.blk HCL.out).two).2⟩
  go_cut [6, 7] (fun v6 v7 wx => CutS S B W v6 v7 wx)
  case first =>
    clear HZ HNS HW
    go_region_held3 (fun w' => w'.cell? ⟨w.heap.size, 0, none⟩ = some (.bool al) ∧ w'.cell? ⟨w.heap.size, 1, none⟩ = some (.bool no) ∧ w'.cell? ⟨w.heap.size, 2, none⟩ = some (.bool sf) ∧ w'.cell? ⟨w.heap.size, 3, none⟩ = some vN ∧ w'.cell? ⟨w.heap.size, 4, none⟩ = some vE ∧ w'.cell? ⟨w.heap.size + 1, 1, none⟩ = some (.slice ao 0 0))
      ((refine HSK.out _ ?_; repeat (first | exact Kp.rfl' | assumption | refine Kp.drew ?_ | refine Kp.alloc ?_ _ | refine below_set4 ?_ (Nat.le_refl _) _ _ _ _)))
      ((go_at_call 42; refine (HF.out _ (by repeat (first | exact Kp.rfl' | assumption | refine Kp.drew ?_ | refine Kp.alloc ?_ _))).mono ?_; rintro e w5 ⟨rfl, hb5⟩
        have hC5 : Kp W w5 := Kp.step (by repeat (first | exact Kp.rfl' | assumption | refine Kp.drew ?_ | refine Kp.alloc ?_ _)) hb5
        first
          | (have hbx : Below ((W.alloc (.cells #[.int .u64 0, .int .u64 0, .int .u64 0, .int .u64 0] 35)).drew).heap.size ((W.alloc (.cells #[.int .u64 0, .int .u64 0, .int .u64 0, .int .u64 0] 35)).drew) w5 := by with_reducible exact hb5
             have T4 : Quad w5 W.heap.size 0 0 0 0 := Quad.keep (w := (W.alloc (.cells #[.int .u64 0, .int .u64 0, .int .u64 0, .int .u64 0] 35)).drew) (Quad.new W _ _ _ _) hbx
             clear hbx
             obtain ⟨t0, t1, t2, t3, t4, t5, t6, t7⟩ := T4.facts)
          | (have hbx : Below ((W.drew.alloc (.cells #[.int .u64 0, .int .u64 0, .int .u64 0, .int .u64 0] 35))).heap.size ((W.drew.alloc (.cells #[.int .u64 0, .int .u64 0, .int .u64 0, .int .u64 0] 35))) w5 := by with_reducible exact hb5
             have T4 : Quad w5 W.heap.size 0 0 0 0 := Quad.keep (w := (W.drew.alloc (.cells #[.int .u64 0, .int .u64 0, .int .u64 0, .int .u64 0] 35))) (Quad.new W.drew _ _ _ _) hbx
             clear hbx
             obtain ⟨t0, t1, t2, t3, t4, t5, t6, t7⟩ := T4.facts)
          | skip))
    all_goals
      go_wp2_with fail
      go_meet
      first
        | exact ⟨W.heap.size, rfl, rfl, Nat.le_refl _, T4.set4 _ _ _ _, below_set4 hC5 (Nat.le_refl _) _ _ _ _⟩
        | exact ⟨w5.heap.size, rfl, rfl, hC5.size, Quad.new w5 _ _ _ _, hC5.alloc _⟩
  case rest =>
    obtain ⟨g8, rfl, rfl, hg8, q8, hKc⟩ := hcut
    have HB := Lib.hid (Kp.step HW.out hKc)
    obtain ⟨d0, d1, d2, d3⟩ := quad_box q8
    clear q8 HSK
    cases B
    all_goals
      go_wp2_with fail
      go_ret2
      exact ⟨rfl, HB.out⟩
theorem Perms_c (al no sf : Bool) (vN vE : Value) (nm : ByteArray) (ao : Option Addr) (cap : Nat) (N E L : List ByteArray) (w : World) (hN : Strs w vN N) (hE : Strs w vE E) (hL : Strs w (.slice ao L.length cap) L) (hcap : L.length ≤ cap) (hn : N.length ≤ 1000000) (hn2 : E.length ≤ 1000000) (hn3 : L.length ≤ 1000000) :
    Calls Try.prog 20 #[.agg #[.bool al, .bool no, .bool sf, vN, vE], .agg #[.string nm, .slice ao L.length cap]] w fun e w' => e = .returned (.tuple #[.int .u32 (permI (meanB (numB L 32) N E) (meanS al no ((min L.length 32 : Nat) : Int) (numS L) (numB L 32) N E).a), .int .i64 (errI (meanB (numB L 32) N E) 21)]) ∧ Below w.heap.size w w' := by
  rcases Nat.eq_zero_or_pos cap with rfl | hcp
  · obtain rfl : L = [] := List.eq_nil_of_length_eq_zero (by omega)
    exact Perms_z al no sf vN vE nm ao N E w hN hE hL hn hn2
  · exact Perms_p al no sf vN vE nm ao cap N E L w hN hE hL hcap hcp hn hn2 hn3
end Go.Proofs.Ytbkejoheefnmiaa
