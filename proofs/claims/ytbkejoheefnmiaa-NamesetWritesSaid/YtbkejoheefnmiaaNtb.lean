/- The examples of sets of names: means of the laws. Condition: at most a million names, types, attributes and aliases. -/
import Derived.Test.YtbkejoheefnmiaaNta
import Derived.Test.YtbkejoheefnmiaaNsm
import Derived.Test.YtbkejoheefnmiaaNsh
namespace Go.Proofs.Ytbkejoheefnmiaa
open Go.RowKit
attribute [local go_sem ↓] Go.wp_at_zero Go.wp_at_succ
/-- behind a call whose set goes into a new variable, and whose error into a slot -/
def CutE (Y : S4) (w : World) (v5 v6 : Value) (wx : World) : Prop := ∃ g, v5 = .pointer (some ⟨g, 0, none⟩) ∧ v6 = .int .i64 0 ∧ w.heap.size ≤ g ∧ Quad wx g Y.a Y.b Y.c Y.d ∧ Kp w wx
set_option maxRecDepth 100000 in
set_option maxHeartbeats 8000000 in
theorem means_c (al no sf : Bool) (vN vE : Value) (N E : List ByteArray) (A : Option Addr) (l : List Int) (cap : Nat) (w : World) (hN : Strs w vN N) (hE : Strs w vE E) (hl : Ints w A l) (hn : N.length ≤ 1000000) (hn2 : E.length ≤ 1000000) (hn3 : l.length ≤ 1000000)
    (hB : meanB (oneB sTs sAs) N E = true) (hS : meanS al no sTs.length (oneS sTs sAs) (oneB sTs sAs) N E = ofS l) :
    Calls Try.prog 31 #[.agg #[.bool al, .bool no, .bool sf, vN, vE], .slice A l.length cap] w fun e w' => e = .returned (.bool true) ∧ Below w.heap.size w w' := by
  have hW : Kp w (w.alloc (.cells #[.bool al, .bool no, .bool sf, vN, vE] 29)) := (Below.refl _ _).alloc (Nat.le_refl _) _
  have hNS : Blk (w.alloc (.cells #[.bool al, .bool no, .bool sf, vN, vE] 29)) w.heap.size 29 #[.bool al, .bool no, .bool sf, vN, vE] := Blk.new w _ _
  have hTC := fun (vT vA : Value) W (h : Kp w W) (hT : Tys W vT sTs) (hA : Ats W vA sAs) => types_c al no sf vN vE vT vA N E sTs sAs W (hN.keep h) (hE.keep h) hT hA hn hn2 (by decide) (by decide) (by decide)
  have hOF := fun W (h : Kp w W) => rof_c A l cap W (hl.below h) (by unfold maxLen; omega)
  rw [hB] at hTC
  obtain ⟨S, hS2⟩ : ∃ S, meanS al no sTs.length (oneS sTs sAs) (oneB sTs sAs) N E = S := ⟨_, rfl⟩
  rw [hS2] at hTC hS
  have HOF0 : Hid (∀ W, Kp w W → Calls Try.prog 32 #[.slice A l.length cap] W fun e w' => e = .returned (.agg #[.int .u64 (S).a, .int .u64 (S).b, .int .u64 (S).c, .int .u64 (S).d]) ∧ Below W.heap.size W w') := Lib.hid fun W h => by
    rw [hS]; exact hOF W h
  have HTC := Lib.hid hTC
  have HNS := Lib.hid hNS
  have HW := Lib.hid hW
  clear hTC hOF hS hS2 hB hNS hW hN hE hl
  go_enter Try.func31, Try.ntmps31
  go_wp2_with fail
  generalize (w.alloc (.cells #[.bool al, .bool no, .bool sf, vN, vE] 29)) = W at *
  have HSK : Hid (∀ w', Kp W w' → w'.cell? ⟨w.heap.size, 0, none⟩ = some (.bool al) ∧ w'.cell? ⟨w.heap.size, 1, none⟩ = some (.bool no) ∧ w'.cell? ⟨w.heap.size, 2, none⟩ = some (.bool sf) ∧ w'.cell? ⟨w.heap.size, 3, none⟩ = some vN ∧ w'.cell? ⟨w.heap.size, 4, none⟩ = some vE) := Lib.hid fun w' h => (h.blk HNS.out).five
  have HTW : Hid (∀ (vT vA : Value) W', Kp W W' → Tys W' vT sTs → Ats W' vA sAs → Calls Try.prog 14 #[.agg #[.bool al, .bool no, .bool sf, vN, vE], .agg #[vT, vA]] W' (ErrOut S 0 W')) := Lib.hid fun vT vA W' h hT hA => HTC.out vT vA W' (Below.trans HW.out (Below.mono h HW.out.size)) hT hA
  go_cut [5, 6] (fun v5 v6 wx => CutE S W v5 v6 wx)
  case first =>
    clear HTC HNS HOF0 HW
    go_region_held3 (fun w' => w'.cell? ⟨w.heap.size, 0, none⟩ = some (.bool al) ∧ w'.cell? ⟨w.heap.size, 1, none⟩ = some (.bool no) ∧ w'.cell? ⟨w.heap.size, 2, none⟩ = some (.bool sf) ∧ w'.cell? ⟨w.heap.size, 3, none⟩ = some vN ∧ w'.cell? ⟨w.heap.size, 4, none⟩ = some vE)
      ((refine HSK.out _ ?_; repeat (first | exact Kp.rfl' | assumption | refine Kp.drew ?_ | refine Kp.alloc ?_ _ | refine below_set4 ?_ (Nat.le_refl _) _ _ _ _ | refine below_set4 ?_ (Kp.size (by assumption)) _ _ _ _)))
      (first
        | (go_at_call 30; refine (sample_c _).mono ?_; rintro e w5 ⟨vT, vA, rfl, hT5, hA5, hb5⟩
           have hC5 : Kp W w5 := Kp.step (by repeat (first | exact Kp.rfl' | assumption | refine Kp.drew ?_ | refine Kp.alloc ?_ _)) hb5
           first
             | (have hbx : Below ((W.alloc (.cells #[.int .u64 0, .int .u64 0, .int .u64 0, .int .u64 0] 35)).drew).heap.size ((W.alloc (.cells #[.int .u64 0, .int .u64 0, .int .u64 0, .int .u64 0] 35)).drew) w5 := by with_reducible exact hb5
                have T4 : Quad w5 W.heap.size 0 0 0 0 := Quad.keep (w := (W.alloc (.cells #[.int .u64 0, .int .u64 0, .int .u64 0, .int .u64 0] 35)).drew) (Quad.new W _ _ _ _) hbx
                clear hbx)
             | (have hbx : Below (W.drew.alloc (.cells #[.int .u64 0, .int .u64 0, .int .u64 0, .int .u64 0] 35)).heap.size (W.drew.alloc (.cells #[.int .u64 0, .int .u64 0, .int .u64 0, .int .u64 0] 35)) w5 := by with_reducible exact hb5
                have T4 : Quad w5 W.heap.size 0 0 0 0 := Quad.keep (w := W.drew.alloc (.cells #[.int .u64 0, .int .u64 0, .int .u64 0, .int .u64 0] 35)) (Quad.new W.drew _ _ _ _) hbx
                clear hbx)
             | skip)
        | (go_at_call 14; refine (HTW.out _ _ _ (by repeat (first | exact Kp.rfl' | assumption | refine Kp.drew ?_ | refine Kp.alloc ?_ _)) (by first | exact hT5 | exact hT5.keep ((Below.refl _ _).alloc (Nat.le_refl _) _)) (by first | exact hA5 | exact hA5.keep ((Below.refl _ _).alloc (Nat.le_refl _) _))).mono ?_; rintro e w6 ⟨rfl, hb6⟩
           have hC6 : Kp W w6 := Kp.step (by repeat (first | exact Kp.rfl' | assumption | refine Kp.drew ?_ | refine Kp.alloc ?_ _)) hb6
           first
             | (have T6 := Quad.keep T4 hb6
                obtain ⟨t0, t1, t2, t3, t4, t5, t6, t7⟩ := T6.facts)
             | (have hbx : Below (w5.alloc (.cells #[.int .u64 0, .int .u64 0, .int .u64 0, .int .u64 0] 35)).heap.size (w5.alloc (.cells #[.int .u64 0, .int .u64 0, .int .u64 0, .int .u64 0] 35)) w6 := by with_reducible exact hb6
                have T7 : Quad w6 w5.heap.size 0 0 0 0 := Quad.keep (w := w5.alloc (.cells #[.int .u64 0, .int .u64 0, .int .u64 0, .int .u64 0] 35)) (Quad.new w5 _ _ _ _) hbx
                clear hbx
                obtain ⟨t0, t1, t2, t3, t4, t5, t6, t7⟩ := T7.facts)
             | skip))
    all_goals
      go_wp2_with fail
      go_meet
      first
        | exact ⟨W.heap.size, rfl, rfl, Nat.le_refl _, T6.set4 _ _ _ _, below_set4 hC6 (Nat.le_refl _) _ _ _ _⟩
        | exact ⟨w5.heap.size, rfl, rfl, hC5.size, T7.set4 _ _ _ _, below_set4 hC6 hC5.size _ _ _ _⟩
        | exact ⟨w6.heap.size, rfl, rfl, hC6.size, Quad.new w6 _ _ _ _, hC6.alloc _⟩
  case rest =>
    obtain ⟨g8, rfl, rfl, hg8, q8, hKc⟩ := hcut
    have HB := Lib.hid (Kp.step HW.out hKc)
    have HQ8 := Lib.hid q8
    have HOF := Lib.hid (fun W' (h : Kp wc W') => HOF0.out W' (Kp.step HB.out h))
    clear q8 HSK HTW HTC HOF0
    go_wp2_with fail
    refine wp_region_kp (by kernel_rfl) (by kernel_rfl) ?_
    repeat (first
      | go_big_quiet_skip
      | (go_big_quiet_want
         go_big_quiet_op
         first
           | go_big_quiet_on
           | (apply Exists.intro
              refine ⟨fun w1 hC => ?_, ?_⟩
              · first
                  | (go_at_call 32; with_reducible exact hC.call (HOF.out _ hC))
                  | (obtain ⟨c0, c1, c2, c3⟩ := quad_box (HQ8.out.keep hC); go_simp; exact rfl)
                  | (go_simp; exact ⟨rfl, rfl⟩)
              go_big_quiet_on)))
    refine wpQuiet_nil ?_
    intro W' hC
    go_wp2_with fail
    go_ret
    exact ⟨rfl, Kp.step HB.out hC⟩
end Go.Proofs.Ytbkejoheefnmiaa
