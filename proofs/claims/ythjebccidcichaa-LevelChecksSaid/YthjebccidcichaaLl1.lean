/- The law LevelChecks, walked. -/
import Derived.Test.YthjebccidcichaaLvy
namespace Go.Proofs.Ythjebccidcichaa
open Go.RowKit
theorem check_b (s : Int) (c : Nat) (sens cats : Int) (w : World) :
    Calls Try.prog 12 #[.agg #[.int .i64 s, .int .u64 c], .int .i64 sens, .int .i64 cats] w fun e w' => e = .returned (.bool (chkL s c sens cats)) ∧ Below w.heap.size w w' := check_c s c sens cats w
set_option maxRecDepth 100000 in
set_option maxHeartbeats 8000000 in
theorem lchecks_c (s : Int) (c : Nat) (s2 : Int) (c2 : Nat) (sens cats : Int) (w : World) (h1 : c < U64) (h3 : c2 < U64) :
    Calls Try.prog 3 #[.agg #[.int .i64 s, .int .u64 c, .int .i64 s2, .int .u64 c2], .int .i64 sens, .int .i64 cats] w fun e w' => e = .returned (.bool true) ∧ Below w.heap.size w w' := by
  have hB := Blk.new w 26 #[.int .i64 s, .int .u64 c, .int .i64 s2, .int .u64 c2]
  have hW : Kp w (w.alloc (.cells #[.int .i64 s, .int .u64 c, .int .i64 s2, .int .u64 c2] 26)) := Kp.rfl'.alloc _
  have hC1 := fun W => check_b s c sens cats W
  have hC2 := fun W => rcheck_c s c sens cats W h1
  have hR1 := fun W => checkRange_c s c s2 c2 sens cats W h1 h3
  have hR2 := fun W => rcheckRange_c s c s2 c2 sens cats W h1 h3
  obtain ⟨K, hK⟩ : ∃ K, chkL s c sens cats = K := ⟨_, rfl⟩
  rw [hK] at hC1 hC2
  obtain ⟨M, hM⟩ : ∃ K, (chkL s c sens cats && (chkL s2 c2 sens cats && domL s2 c2 s c)) = K := ⟨_, rfl⟩
  rw [hM] at hR1 hR2
  clear hK hM
  have hKK : (K == K) = true := by simp
  have hMM : (M == M) = true := by simp
  go_enter Try.func3, Try.ntmps3
  go_wp2_with fail
  generalize w.alloc (.cells #[.int .i64 s, .int .u64 c, .int .i64 s2, .int .u64 c2] 26) = W at *
  have HB := Lib.hid hB
  have HW := Lib.hid hW
  have HC1 := Lib.hid (fun W1 (_ : Kp W W1) => hC1 W1)
  have HC2 := Lib.hid (fun W1 (_ : Kp W W1) => hC2 W1)
  have HR1 := Lib.hid (fun W1 (_ : Kp W W1) => hR1 W1)
  have HR2 := Lib.hid (fun W1 (_ : Kp W W1) => hR2 W1)
  have HA := Lib.hid (fun W1 (_ : Kp W W1) => awake_c W1)
  clear hB hW hC1 hC2 hR1 hR2
  refine wp_region_kp (by kernel_rfl) (by kernel_rfl) ?_
  repeat (first
    | go_big_quiet_skip
    | (go_big_quiet_want
       go_big_quiet_op
       first
         | go_big_quiet_on
         | (apply Exists.intro
            refine ⟨fun w1 hC => ?_, ?_⟩
            · first
                | (go_at_call 12; with_reducible exact hC.call (HC1.out _ hC))
                | (go_at_call 13; with_reducible exact hC.call (HC2.out _ hC))
                | (go_at_call 14; with_reducible exact hC.call (HR1.out _ hC))
                | (go_at_call 15; with_reducible exact hC.call (HR2.out _ hC))
                | (go_at_call 16; with_reducible exact hC.call (HA.out _ hC))
                | (obtain ⟨p0, p1, p2, p3⟩ := (hC.blk HB.out).box4; go_simp; exact rfl)
                | (go_simp; exact ⟨rfl, rfl⟩)
            go_big_quiet_on)))
  refine wpQuiet_nil ?_
  intro W' hC
  go_wp2_with fail
  go_ret
  exact ⟨by first | rfl | simp, HW.out.trans (Below.mono hC HW.out.size)⟩
end Go.Proofs.Ythjebccidcichaa
