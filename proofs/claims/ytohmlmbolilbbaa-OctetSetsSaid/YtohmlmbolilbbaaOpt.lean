/- The statements' own check of examples (awake), walked. -/
import Derived.Test.YtohmlmbolilbbaaOps
namespace Go.Proofs.Ytohmlmbolilbbaa
open Go.RowKit
set_option maxRecDepth 100000 in
set_option maxHeartbeats 16000000 in
theorem awake_c (w : World) : Calls Try.prog 11 #[] w fun e w' => e = .returned (.bool true) ∧ Below w.heap.size w w' := by
  go_enter Try.func11, Try.ntmps11
  go_wp2_with fail
  refine (aw_pn w).mono ?_
  rintro e w1 ⟨a1, n1, c1, rfl, hA, hk⟩
  have hb := hk
  clear hk
  go_wp2_with fail
  refine (aw_n1 w1 _ (by first | rfl | simp)).mono ?_
  rintro e w2 ⟨vr, rfl, hR, hk⟩
  replace hA := hA.keep hk
  replace hb := hb.trans (hk.mono hb.size)
  clear hk
  go_wp2_with fail
  refine (aw_n2 w2 _ (by first | rfl | simp)).mono ?_
  rintro e w3 ⟨v3, rfl, _, hk⟩
  replace hA := hA.keep hk
  replace hR := hR.keep hk
  replace hb := hb.trans (hk.mono hb.size)
  clear hk
  go_wp2_with fail
  refine (aw_n3 w3 _ (by first | rfl | simp)).mono ?_
  rintro e w4 ⟨v4, rfl, _, hk⟩
  replace hA := hA.keep hk
  replace hR := hR.keep hk
  replace hb := hb.trans (hk.mono hb.size)
  clear hk
  go_wp2_with fail
  refine (aw_t1 w4 _ (by first | rfl | simp)).mono ?_
  rintro e w5 ⟨v5, rfl, hk⟩
  replace hA := hA.keep hk
  replace hR := hR.keep hk
  replace hb := hb.trans (hk.mono hb.size)
  clear hk
  go_wp2_with fail
  refine (aw_ps w5).mono ?_
  rintro e w6 ⟨a6, n6, c6, rfl, hS, hk⟩
  replace hA := hA.keep hk
  replace hR := hR.keep hk
  replace hb := hb.trans (hk.mono hb.size)
  clear hk
  go_wp2_with fail
  refine (aw_st w6 _ hS).mono ?_
  rintro e w7 ⟨v7, rfl, hk⟩
  replace hA := hA.keep hk
  replace hR := hR.keep hk
  replace hS := hS.keep hk
  replace hb := hb.trans (hk.mono hb.size)
  clear hk
  go_wp2_with fail
  have hT : Blk (w7.alloc (.cells #[.int .u64 1, .int .u64 1, .int .u64 0, .int .u64 0] 40)) w7.heap.size _ _ := Blk.new w7 40 #[.int .u64 1, .int .u64 1, .int .u64 0, .int .u64 0]
  replace hA := hA.alloc (.cells #[.int .u64 1, .int .u64 1, .int .u64 0, .int .u64 0] 40)
  replace hR := hR.alloc (.cells #[.int .u64 1, .int .u64 1, .int .u64 0, .int .u64 0] 40)
  replace hS := hS.alloc (.cells #[.int .u64 1, .int .u64 1, .int .u64 0, .int .u64 0] 40)
  replace hb := hb.alloc hb.size (.cells #[.int .u64 1, .int .u64 1, .int .u64 0, .int .u64 0] 40)
  obtain ⟨t, ht⟩ : ∃ t, w7.heap.size = t := ⟨_, rfl⟩
  have hz : (w7.alloc (.cells #[.int .u64 1, .int .u64 1, .int .u64 0, .int .u64 0] 40)).heap.size = t + 1 := by simp [ht]
  rw [ht] at hT
  simp only [ht]
  generalize w7.alloc (.cells #[.int .u64 1, .int .u64 1, .int .u64 0, .int .u64 0] 40) = w8 at *
  clear ht
  go_wp2_with fail
  refine (aw_se w8 _ (by simp [hz])).mono ?_
  rintro e w9 ⟨a9, n9, c9, rfl, hE, hk⟩
  replace hA := hA.keep hk
  replace hR := hR.keep hk
  replace hS := hS.keep hk
  replace hT := hT.keep hk
  replace hb := hb.trans (hk.mono hb.size)
  clear hk
  clear hz
  go_wp2_with fail
  refine (aw_op w9 _ hE).mono ?_
  rintro e w10 ⟨v10, rfl, hO, hk⟩
  replace hA := hA.keep hk
  replace hR := hR.keep hk
  replace hS := hS.keep hk
  replace hT := hT.keep hk
  replace hE := hE.keep hk
  replace hb := hb.trans (hk.mono hb.size)
  clear hk
  go_wp2_with fail
  refine (aw_sg w10 _ (by first | rfl | simp)).mono ?_
  rintro e w11 ⟨v11, rfl, hk⟩
  replace hA := hA.keep hk
  replace hR := hR.keep hk
  replace hS := hS.keep hk
  replace hT := hT.keep hk
  replace hE := hE.keep hk
  replace hO := hO.keep hk
  replace hb := hb.trans (hk.mono hb.size)
  clear hk
  go_wp2_with fail
  refine (aw_eqa w11 _ rfl _ hA).mono ?_
  rintro e w12 ⟨rfl, hk⟩
  replace hR := hR.keep hk
  replace hS := hS.keep hk
  replace hT := hT.keep hk
  replace hE := hE.keep hk
  replace hO := hO.keep hk
  clear hA
  replace hb := hb.trans (hk.mono hb.size)
  clear hk
  go_wp2_with fail
  refine (aw_eqb w12 _ rfl _ hR).mono ?_
  rintro e w13 ⟨rfl, hk⟩
  replace hS := hS.keep hk
  replace hT := hT.keep hk
  replace hE := hE.keep hk
  replace hO := hO.keep hk
  clear hR
  replace hb := hb.trans (hk.mono hb.size)
  clear hk
  go_wp2_with fail
  refine (aw_eqc w13 _ rfl _ hS).mono ?_
  rintro e w14 ⟨rfl, hk⟩
  replace hT := hT.keep hk
  replace hE := hE.keep hk
  replace hO := hO.keep hk
  clear hS
  replace hb := hb.trans (hk.mono hb.size)
  clear hk
  obtain ⟨t0, t1, t2, t3⟩ := mem4 hT
  go_wp2_with fail
  refine (aw_sum w14 _ rfl).mono ?_
  rintro e w15 ⟨rfl, hk⟩
  replace hE := hE.keep hk
  replace hO := hO.keep hk
  clear hT
  replace hb := hb.trans (hk.mono hb.size)
  clear hk
  clear t0 t1 t2 t3
  go_wp2_with fail
  refine (aw_eqd w15 _ rfl _ hE).mono ?_
  rintro e w16 ⟨rfl, hk⟩
  replace hO := hO.keep hk
  clear hE
  replace hb := hb.trans (hk.mono hb.size)
  clear hk
  go_wp2_with fail
  refine (aw_eqe w16 _ rfl _ hO).mono ?_
  rintro e w17 ⟨rfl, hk⟩
  clear hO
  replace hb := hb.trans (hk.mono hb.size)
  clear hk
  go_wp2_with fail
  refine (aw_psg w17).mono ?_
  rintro e w18 ⟨a12, n12, c12, rfl, hP, hk⟩
  replace hb := hb.trans (hk.mono hb.size)
  clear hk
  go_wp2_with fail
  refine (aw_eqf w18 _ rfl _ hP).mono ?_
  rintro e w19 ⟨rfl, hk⟩
  clear hP
  replace hb := hb.trans (hk.mono hb.size)
  clear hk
  go_wp2_with fail
  refine (aw_pt w19).mono ?_
  rintro e w20 ⟨a13, n13, c13, rfl, hQ, hk⟩
  replace hb := hb.trans (hk.mono hb.size)
  clear hk
  go_wp2_with fail
  refine (aw_eqg w20 _ rfl _ hQ).mono ?_
  rintro e w21 ⟨rfl, hk⟩
  clear hQ
  replace hb := hb.trans (hk.mono hb.size)
  clear hk
  go_wp2_with fail
  go_ret
  exact ⟨rfl, hb⟩
end Go.Proofs.Ytohmlmbolilbbaa
