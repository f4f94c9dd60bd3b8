/- The laws' own examples (awake): they hold, and nothing that was there is changed. -/
import Derived.Test.YtbkejoheefnmiaaNtf
namespace Go.Proofs.Ytbkejoheefnmiaa
open Go.RowKit
theorem gives_val {P : Program} {w w' : World} {u : Value} {φ : Value → World → Prop} (hb : Below w.heap.size w w') (h : φ u w') : GivesR P w φ (.ok (.value u) w') := ⟨hb, h⟩
theorem gives_enter {P : Program} {w : World} {f : FuncId} {args : Array Value} {φ : Value → World → Prop} (h : Calls P f args w fun e w'' => ∃ v, e = .returned v ∧ Below w.heap.size w w'' ∧ φ v w'') : GivesR P w φ (.ok (.enter f args) w) := ⟨rfl, h⟩
theorem quad_at {w : World} {g : Nat} {a b c d : Int} (hg : g = w.heap.size) : Quad (w.alloc (.cells #[.int .u64 a, .int .u64 b, .int .u64 c, .int .u64 d] 35)) g a b c d := by subst hg; exact Quad.new w a b c d
theorem blk_at {w : World} {g : Nat} {t : TypeId} {cs : Array Value} (hg : g = w.heap.size) : Blk (w.alloc (.cells cs t)) g t cs := Blk.here hg
theorem cls_nil {w : World} : Cls w (.slice none 0 0) [] := ⟨none, 0, rfl, Nat.le_refl _, fun h => absurd rfl h⟩
set_option maxRecDepth 100000 in
set_option maxHeartbeats 16000000 in
theorem awake_c (w : World) : Calls Try.prog 9 #[] w fun e w' => e = .returned (.bool true) ∧ Below w.heap.size w w' := by
  obtain ⟨S1, hS1⟩ : ∃ S, meanS false false sTs.length (oneS sTs sAs) (oneB sTs sAs) [⟨#[101]⟩] [] = S := ⟨_, rfl⟩
  go_enter Try.func9, Try.ntmps9
  have HP1 : Hid (Kp w (w.alloc (.cells #[.string ⟨#[101]⟩] 9))) := Lib.hid (Kp.rfl'.alloc _)
  have HSe : Hid (Strs (w.alloc (.cells #[.string ⟨#[101]⟩] 9)) (.slice (some ⟨w.heap.size, 0, none⟩) 1 1) [⟨#[101]⟩]) := Lib.hid ((strs_new1 ⟨#[101]⟩ (by simp) : Strs (w.alloc (.cells #[.string ⟨#[101]⟩] 9)) (.slice (some ⟨w.heap.size, 0, none⟩) 1 1) [⟨#[101]⟩]))
  have HC1 : Hid (Calls Try.prog 30 #[] (w.alloc (.cells #[.string ⟨#[101]⟩] 9)) (SampleOut (w.alloc (.cells #[.string ⟨#[101]⟩] 9)))) := Lib.hid (by
    exact sample_c _)
  go_wp2_with fail
  refine HC1.out.mono ?_
  rintro e w1 ⟨vT, vA, rfl, hT, hA, hb⟩
  have HS1 : Hid (Kp w w1) := Lib.hid (Kp.step HP1.out hb)
  replace HSe := Lib.hid (HSe.out.keep hb)
  have HK := HS1
  clear hb HP1 HC1 HS1 
  have HTY := Lib.hid hT
  have HAT := Lib.hid hA
  obtain ⟨aoT, capT, rfl, -⟩ := id hT
  obtain ⟨aoA, capA, rfl, -⟩ := id hA
  clear hT hA
  have HP2 : Hid (Kp w1 w1) := Lib.hid (Kp.rfl')
  have HC2 : Hid (Calls Try.prog 14 #[.agg #[.bool false, .bool false, .bool false, .slice (some ⟨w.heap.size, 0, none⟩) 1 1, (.slice none 0 0)], .agg #[.slice aoT sTs.length capT, .slice aoA sAs.length capA]] w1 (fun e w' => e = .returned (.tuple #[.agg #[.int .u64 (S1).a, .int .u64 (S1).b, .int .u64 (S1).c, .int .u64 (S1).d], .int .i64 11]) ∧ Below w1.heap.size w1 w')) := Lib.hid (by
    rw [← hS1]; have h := types_c false false false _ _ _ _ [⟨#[101]⟩] [] sTs sAs w1 HSe.out Strs.nil HTY.out HAT.out (by simp) (by simp) (by decide) (by decide) (by decide); rw [awE] at h; exact h)
  go_wp2_with fail
  refine HC2.out.mono ?_
  rintro e w2 ⟨rfl, hb⟩
  have HS2 : Hid (Kp w1 w2) := Lib.hid (Kp.step HP2.out hb)
  replace HSe := Lib.hid (HSe.out.keep HS2.out)
  replace HK := Lib.hid (Kp.step HK.out HS2.out)
  clear hb HP2 HC2 HS2 
  clear HSe HTY HAT
  have HP3 : Hid (Kp w2 ((((w2.alloc (.cells #[.int .u64 (S1).a, .int .u64 (S1).b, .int .u64 (S1).c, .int .u64 (S1).d] 35)).alloc (.cells #[.string ⟨#[114, 101, 97, 100]⟩, .string ⟨#[119, 114, 105, 116, 101]⟩] 9)).alloc (.cells #[.string ⟨#[]⟩, .slice (some ⟨w2.heap.size + 1, 0, none⟩) 2 2] 44)).alloc (.cells #[.string ⟨#[114, 101, 97, 100]⟩] 9))) := Lib.hid ((((Kp.rfl'.alloc _).alloc _).alloc _).alloc _)
  have HRW : Hid (Strs ((((w2.alloc (.cells #[.int .u64 (S1).a, .int .u64 (S1).b, .int .u64 (S1).c, .int .u64 (S1).d] 35)).alloc (.cells #[.string ⟨#[114, 101, 97, 100]⟩, .string ⟨#[119, 114, 105, 116, 101]⟩] 9)).alloc (.cells #[.string ⟨#[]⟩, .slice (some ⟨w2.heap.size + 1, 0, none⟩) 2 2] 44)).alloc (.cells #[.string ⟨#[114, 101, 97, 100]⟩] 9)) (.slice (some ⟨w2.heap.size + 1, 0, none⟩) 2 2) [⟨#[114, 101, 97, 100]⟩, ⟨#[119, 114, 105, 116, 101]⟩]) := Lib.hid ((strs_new2 ⟨#[114, 101, 97, 100]⟩ ⟨#[119, 114, 105, 116, 101]⟩ (by simp) : Strs ((w2.alloc (.cells #[.int .u64 (S1).a, .int .u64 (S1).b, .int .u64 (S1).c, .int .u64 (S1).d] 35)).alloc (.cells #[.string ⟨#[114, 101, 97, 100]⟩, .string ⟨#[119, 114, 105, 116, 101]⟩] 9)) (.slice (some ⟨w2.heap.size + 1, 0, none⟩) 2 2) [⟨#[114, 101, 97, 100]⟩, ⟨#[119, 114, 105, 116, 101]⟩]).keep ((Kp.rfl'.alloc _).alloc _))
  have HCL : Hid (Blk ((((w2.alloc (.cells #[.int .u64 (S1).a, .int .u64 (S1).b, .int .u64 (S1).c, .int .u64 (S1).d] 35)).alloc (.cells #[.string ⟨#[114, 101, 97, 100]⟩, .string ⟨#[119, 114, 105, 116, 101]⟩] 9)).alloc (.cells #[.string ⟨#[]⟩, .slice (some ⟨w2.heap.size + 1, 0, none⟩) 2 2] 44)).alloc (.cells #[.string ⟨#[114, 101, 97, 100]⟩] 9)) (w2.heap.size + 1 + 1) 44 #[.string ⟨#[]⟩, .slice (some ⟨w2.heap.size + 1, 0, none⟩) 2 2]) := Lib.hid ((blk_at (by simp) : Blk (((w2.alloc (.cells #[.int .u64 (S1).a, .int .u64 (S1).b, .int .u64 (S1).c, .int .u64 (S1).d] 35)).alloc (.cells #[.string ⟨#[114, 101, 97, 100]⟩, .string ⟨#[119, 114, 105, 116, 101]⟩] 9)).alloc (.cells #[.string ⟨#[]⟩, .slice (some ⟨w2.heap.size + 1, 0, none⟩) 2 2] 44)) (w2.heap.size + 1 + 1) 44 #[.string ⟨#[]⟩, .slice (some ⟨w2.heap.size + 1, 0, none⟩) 2 2]).alloc _)
  have HSr : Hid (Strs ((((w2.alloc (.cells #[.int .u64 (S1).a, .int .u64 (S1).b, .int .u64 (S1).c, .int .u64 (S1).d] 35)).alloc (.cells #[.string ⟨#[114, 101, 97, 100]⟩, .string ⟨#[119, 114, 105, 116, 101]⟩] 9)).alloc (.cells #[.string ⟨#[]⟩, .slice (some ⟨w2.heap.size + 1, 0, none⟩) 2 2] 44)).alloc (.cells #[.string ⟨#[114, 101, 97, 100]⟩] 9)) (.slice (some ⟨w2.heap.size + 1 + 1 + 1, 0, none⟩) 1 1) [⟨#[114, 101, 97, 100]⟩]) := Lib.hid ((strs_new1 ⟨#[114, 101, 97, 100]⟩ (by simp) : Strs ((((w2.alloc (.cells #[.int .u64 (S1).a, .int .u64 (S1).b, .int .u64 (S1).c, .int .u64 (S1).d] 35)).alloc (.cells #[.string ⟨#[114, 101, 97, 100]⟩, .string ⟨#[119, 114, 105, 116, 101]⟩] 9)).alloc (.cells #[.string ⟨#[]⟩, .slice (some ⟨w2.heap.size + 1, 0, none⟩) 2 2] 44)).alloc (.cells #[.string ⟨#[114, 101, 97, 100]⟩] 9)) (.slice (some ⟨w2.heap.size + 1 + 1 + 1, 0, none⟩) 1 1) [⟨#[114, 101, 97, 100]⟩]))
  have HC3 : Hid (Calls Try.prog 20 #[.agg #[.bool true, .bool false, .bool false, (.slice none 0 0), .slice (some ⟨w2.heap.size + 1 + 1 + 1, 0, none⟩) 1 1], .agg #[.string ⟨#[]⟩, .slice (some ⟨w2.heap.size + 1, 0, none⟩) 2 2]] ((((w2.alloc (.cells #[.int .u64 (S1).a, .int .u64 (S1).b, .int .u64 (S1).c, .int .u64 (S1).d] 35)).alloc (.cells #[.string ⟨#[114, 101, 97, 100]⟩, .string ⟨#[119, 114, 105, 116, 101]⟩] 9)).alloc (.cells #[.string ⟨#[]⟩, .slice (some ⟨w2.heap.size + 1, 0, none⟩) 2 2] 44)).alloc (.cells #[.string ⟨#[114, 101, 97, 100]⟩] 9)) (fun e w' => e = .returned (.tuple #[.int .u32 2, .int .i64 0]) ∧ Below ((((w2.alloc (.cells #[.int .u64 (S1).a, .int .u64 (S1).b, .int .u64 (S1).c, .int .u64 (S1).d] 35)).alloc (.cells #[.string ⟨#[114, 101, 97, 100]⟩, .string ⟨#[119, 114, 105, 116, 101]⟩] 9)).alloc (.cells #[.string ⟨#[]⟩, .slice (some ⟨w2.heap.size + 1, 0, none⟩) 2 2] 44)).alloc (.cells #[.string ⟨#[114, 101, 97, 100]⟩] 9)).heap.size ((((w2.alloc (.cells #[.int .u64 (S1).a, .int .u64 (S1).b, .int .u64 (S1).c, .int .u64 (S1).d] 35)).alloc (.cells #[.string ⟨#[114, 101, 97, 100]⟩, .string ⟨#[119, 114, 105, 116, 101]⟩] 9)).alloc (.cells #[.string ⟨#[]⟩, .slice (some ⟨w2.heap.size + 1, 0, none⟩) 2 2] 44)).alloc (.cells #[.string ⟨#[114, 101, 97, 100]⟩] 9)) w')) := Lib.hid (by
    have h := Perms_c true false false (.slice none 0 0) (.slice (some ⟨w2.heap.size + 1 + 1 + 1, 0, none⟩) 1 1) ⟨#[]⟩ (some ⟨w2.heap.size + 1, 0, none⟩) 2 [] [⟨#[114, 101, 97, 100]⟩] rw2 ((((w2.alloc (.cells #[.int .u64 (S1).a, .int .u64 (S1).b, .int .u64 (S1).c, .int .u64 (S1).d] 35)).alloc (.cells #[.string ⟨#[114, 101, 97, 100]⟩, .string ⟨#[119, 114, 105, 116, 101]⟩] 9)).alloc (.cells #[.string ⟨#[]⟩, .slice (some ⟨w2.heap.size + 1, 0, none⟩) 2 2] 44)).alloc (.cells #[.string ⟨#[114, 101, 97, 100]⟩] 9)) Strs.nil HSr.out HRW.out (by decide) (by simp) (by simp) (by decide); rw [awP1, awP2] at h; exact h)
  go_wp2_with fail
  refine HC3.out.mono ?_
  rintro e w3 ⟨rfl, hb⟩
  have HS3 : Hid (Kp w2 w3) := Lib.hid (Kp.step HP3.out hb)
  replace HRW := Lib.hid (HRW.out.keep hb)
  replace HCL := Lib.hid (HCL.out.keep hb)
  replace HSr := Lib.hid (HSr.out.keep hb)
  replace HK := Lib.hid (Kp.step HK.out HS3.out)
  clear hb HP3 HC3 HS3 
  clear HSr
  have HP4 : Hid (Kp w3 w3) := Lib.hid (Kp.rfl')
  have HC4 : Hid (Calls Try.prog 30 #[] w3 (SampleOut w3)) := Lib.hid (by
    exact sample_c _)
  go_wp2_with fail
  refine HC4.out.mono ?_
  rintro e w4 ⟨vT, vA, rfl, hT, hA, hb⟩
  have HS4 : Hid (Kp w3 w4) := Lib.hid (Kp.step HP4.out hb)
  replace HRW := Lib.hid (HRW.out.keep HS4.out)
  replace HCL := Lib.hid (HCL.out.keep HS4.out)
  replace HK := Lib.hid (Kp.step HK.out HS4.out)
  clear hb HP4 HC4 HS4 
  have HTY := Lib.hid hT
  have HAT := Lib.hid hA
  obtain ⟨aoT, capT, rfl, -⟩ := id hT
  obtain ⟨aoA, capA, rfl, -⟩ := id hA
  clear hT hA
  have HP5 : Hid (Kp w4 w4) := Lib.hid (Kp.rfl')
  have HC5 : Hid (Calls Try.prog 10 #[.string ⟨#[120]⟩, .agg #[.slice aoT sTs.length capT, .slice aoA sAs.length capA]] w4 (fun e w' => e = .returned (.tuple #[.int .i64 0, .bool true]) ∧ Below w4.heap.size w4 w')) := Lib.hid (by
    have h := type_c _ (.slice aoA sAs.length capA) sTs ⟨#[120]⟩ w4 HTY.out (by decide) (by decide); rw [awT1, awT2] at h; exact h)
  go_wp2_with fail
  refine HC5.out.mono ?_
  rintro e w5 ⟨rfl, hb⟩
  have HS5 : Hid (Kp w4 w5) := Lib.hid (Kp.step HP5.out hb)
  replace HRW := Lib.hid (HRW.out.keep HS5.out)
  replace HCL := Lib.hid (HCL.out.keep HS5.out)
  replace HK := Lib.hid (Kp.step HK.out HS5.out)
  clear hb HP5 HC5 HS5 
  clear HTY HAT
  have HP6 : Hid (Kp w5 w5) := Lib.hid (Kp.rfl')
  have HC6 : Hid (Calls Try.prog 30 #[] w5 (SampleOut w5)) := Lib.hid (by
    exact sample_c _)
  go_wp2_with fail
  refine HC6.out.mono ?_
  rintro e w6 ⟨vT, vA, rfl, hT, hA, hb⟩
  have HS6 : Hid (Kp w5 w6) := Lib.hid (Kp.step HP6.out hb)
  replace HRW := Lib.hid (HRW.out.keep HS6.out)
  replace HCL := Lib.hid (HCL.out.keep HS6.out)
  replace HK := Lib.hid (Kp.step HK.out HS6.out)
  clear hb HP6 HC6 HS6 
  have HTY := Lib.hid hT
  have HAT := Lib.hid hA
  obtain ⟨aoT, capT, rfl, -⟩ := id hT
  obtain ⟨aoA, capA, rfl, -⟩ := id hA
  clear hT hA
  have HP7 : Hid (Kp w6 w6) := Lib.hid (Kp.rfl')
  have HC7 : Hid (Calls Try.prog 12 #[.string ⟨#[100]⟩, .agg #[.slice aoT sTs.length capT, .slice aoA sAs.length capA]] w6 (fun e w' => e = .returned (.tuple #[.agg #[.int .u64 (ofI [1, 2] 0), .int .u64 (ofI [1, 2] 1), .int .u64 (ofI [1, 2] 2), .int .u64 (ofI [1, 2] 3)], .bool true]) ∧ Below w6.heap.size w6 w')) := Lib.hid (by
    have h := attribute_c _ _ sTs sAs ⟨#[100]⟩ w6 HTY.out HAT.out (by decide) (by decide); rw [awA1, awA2] at h; exact h)
  go_wp2_with fail
  refine HC7.out.mono ?_
  rintro e w7 ⟨rfl, hb⟩
  have HS7 : Hid (Kp w6 w7) := Lib.hid (Kp.step HP7.out hb)
  replace HRW := Lib.hid (HRW.out.keep HS7.out)
  replace HCL := Lib.hid (HCL.out.keep HS7.out)
  replace HK := Lib.hid (Kp.step HK.out HS7.out)
  clear hb HP7 HC7 HS7 
  clear HTY HAT
  have HP8 : Hid (Kp w7 (((w7.alloc (.cells #[.int .u64 (ofI [1, 2] 0), .int .u64 (ofI [1, 2] 1), .int .u64 (ofI [1, 2] 2), .int .u64 (ofI [1, 2] 3)] 35)).alloc (.cells #[.string ⟨#[113]⟩] 9)).alloc (.cells #[.string ⟨#[112]⟩, .string ⟨#[113]⟩, .string ⟨#[114]⟩] 9))) := Lib.hid (((Kp.rfl'.alloc _).alloc _).alloc _)
  have HQ8 : Hid (Quad (((w7.alloc (.cells #[.int .u64 (ofI [1, 2] 0), .int .u64 (ofI [1, 2] 1), .int .u64 (ofI [1, 2] 2), .int .u64 (ofI [1, 2] 3)] 35)).alloc (.cells #[.string ⟨#[113]⟩] 9)).alloc (.cells #[.string ⟨#[112]⟩, .string ⟨#[113]⟩, .string ⟨#[114]⟩] 9)) (w7.heap.size) (ofI [1, 2] 0) (ofI [1, 2] 1) (ofI [1, 2] 2) (ofI [1, 2] 3)) := Lib.hid (((quad_at (by simp) : Quad (w7.alloc (.cells #[.int .u64 (ofI [1, 2] 0), .int .u64 (ofI [1, 2] 1), .int .u64 (ofI [1, 2] 2), .int .u64 (ofI [1, 2] 3)] 35)) (w7.heap.size) (ofI [1, 2] 0) (ofI [1, 2] 1) (ofI [1, 2] 2) (ofI [1, 2] 3)).alloc _).alloc _)
  have HSq : Hid (Strs (((w7.alloc (.cells #[.int .u64 (ofI [1, 2] 0), .int .u64 (ofI [1, 2] 1), .int .u64 (ofI [1, 2] 2), .int .u64 (ofI [1, 2] 3)] 35)).alloc (.cells #[.string ⟨#[113]⟩] 9)).alloc (.cells #[.string ⟨#[112]⟩, .string ⟨#[113]⟩, .string ⟨#[114]⟩] 9)) (.slice (some ⟨w7.heap.size + 1, 0, none⟩) 1 1) [⟨#[113]⟩]) := Lib.hid ((strs_new1 ⟨#[113]⟩ (by simp) : Strs ((w7.alloc (.cells #[.int .u64 (ofI [1, 2] 0), .int .u64 (ofI [1, 2] 1), .int .u64 (ofI [1, 2] 2), .int .u64 (ofI [1, 2] 3)] 35)).alloc (.cells #[.string ⟨#[113]⟩] 9)) (.slice (some ⟨w7.heap.size + 1, 0, none⟩) 1 1) [⟨#[113]⟩]).keep (Kp.rfl'.alloc _))
  have HPQ : Hid (Strs (((w7.alloc (.cells #[.int .u64 (ofI [1, 2] 0), .int .u64 (ofI [1, 2] 1), .int .u64 (ofI [1, 2] 2), .int .u64 (ofI [1, 2] 3)] 35)).alloc (.cells #[.string ⟨#[113]⟩] 9)).alloc (.cells #[.string ⟨#[112]⟩, .string ⟨#[113]⟩, .string ⟨#[114]⟩] 9)) (.slice (some ⟨w7.heap.size + 1 + 1, 0, none⟩) 3 3) [⟨#[112]⟩, ⟨#[113]⟩, ⟨#[114]⟩]) := Lib.hid ((strs_new3 ⟨#[112]⟩ ⟨#[113]⟩ ⟨#[114]⟩ (by simp) : Strs (((w7.alloc (.cells #[.int .u64 (ofI [1, 2] 0), .int .u64 (ofI [1, 2] 1), .int .u64 (ofI [1, 2] 2), .int .u64 (ofI [1, 2] 3)] 35)).alloc (.cells #[.string ⟨#[113]⟩] 9)).alloc (.cells #[.string ⟨#[112]⟩, .string ⟨#[113]⟩, .string ⟨#[114]⟩] 9)) (.slice (some ⟨w7.heap.size + 1 + 1, 0, none⟩) 3 3) [⟨#[112]⟩, ⟨#[113]⟩, ⟨#[114]⟩]))
  have HC8 : Hid (Calls Try.prog 16 #[.agg #[.bool false, .bool true, .bool false, .slice (some ⟨w7.heap.size + 1, 0, none⟩) 1 1, (.slice none 0 0)], .slice (some ⟨w7.heap.size + 1 + 1, 0, none⟩) 3 3] (((w7.alloc (.cells #[.int .u64 (ofI [1, 2] 0), .int .u64 (ofI [1, 2] 1), .int .u64 (ofI [1, 2] 2), .int .u64 (ofI [1, 2] 3)] 35)).alloc (.cells #[.string ⟨#[113]⟩] 9)).alloc (.cells #[.string ⟨#[112]⟩, .string ⟨#[113]⟩, .string ⟨#[114]⟩] 9)) (fun e w' => e = .returned (.tuple #[.agg #[.int .u64 (ofI [0, 2] 0), .int .u64 (ofI [0, 2] 1), .int .u64 (ofI [0, 2] 2), .int .u64 (ofI [0, 2] 3)], .int .i64 0]) ∧ Below (((w7.alloc (.cells #[.int .u64 (ofI [1, 2] 0), .int .u64 (ofI [1, 2] 1), .int .u64 (ofI [1, 2] 2), .int .u64 (ofI [1, 2] 3)] 35)).alloc (.cells #[.string ⟨#[113]⟩] 9)).alloc (.cells #[.string ⟨#[112]⟩, .string ⟨#[113]⟩, .string ⟨#[114]⟩] 9)).heap.size (((w7.alloc (.cells #[.int .u64 (ofI [1, 2] 0), .int .u64 (ofI [1, 2] 1), .int .u64 (ofI [1, 2] 2), .int .u64 (ofI [1, 2] 3)] 35)).alloc (.cells #[.string ⟨#[113]⟩] 9)).alloc (.cells #[.string ⟨#[112]⟩, .string ⟨#[113]⟩, .string ⟨#[114]⟩] 9)) w')) := Lib.hid (by
    have h := Listed_c false true false (.slice (some ⟨w7.heap.size + 1, 0, none⟩) 1 1) (.slice none 0 0) (some ⟨w7.heap.size + 1 + 1, 0, none⟩) 3 [⟨#[113]⟩] [] pqr (((w7.alloc (.cells #[.int .u64 (ofI [1, 2] 0), .int .u64 (ofI [1, 2] 1), .int .u64 (ofI [1, 2] 2), .int .u64 (ofI [1, 2] 3)] 35)).alloc (.cells #[.string ⟨#[113]⟩] 9)).alloc (.cells #[.string ⟨#[112]⟩, .string ⟨#[113]⟩, .string ⟨#[114]⟩] 9)) HSq.out Strs.nil HPQ.out (by decide) (by simp) (by simp) (by decide); rw [awL1, awL2] at h; exact h)
  go_wp2_with fail
  refine HC8.out.mono ?_
  rintro e w8 ⟨rfl, hb⟩
  have HS8 : Hid (Kp w7 w8) := Lib.hid (Kp.step HP8.out hb)
  replace HRW := Lib.hid (HRW.out.keep HS8.out)
  replace HCL := Lib.hid (HCL.out.keep HS8.out)
  replace HQ8 := Lib.hid (HQ8.out.keep hb)
  replace HSq := Lib.hid (HSq.out.keep hb)
  replace HPQ := Lib.hid (HPQ.out.keep hb)
  replace HK := Lib.hid (Kp.step HK.out HS8.out)
  clear hb HP8 HC8 HS8 
  clear HSq HPQ
  have HP9 : Hid (Kp w8 (((w8.alloc (.cells #[.int .u64 (ofI [0, 2] 0), .int .u64 (ofI [0, 2] 1), .int .u64 (ofI [0, 2] 2), .int .u64 (ofI [0, 2] 3)] 35)).alloc (.cells #[.string ⟨#[102, 105, 108, 101]⟩] 9)).alloc (.cells #[.string ⟨#[100, 105, 114]⟩, .slice none 0 0, .string ⟨#[102, 105, 108, 101]⟩, .slice none 0 0] 44))) := Lib.hid (((Kp.rfl'.alloc _).alloc _).alloc _)
  have HQ10 : Hid (Quad (((w8.alloc (.cells #[.int .u64 (ofI [0, 2] 0), .int .u64 (ofI [0, 2] 1), .int .u64 (ofI [0, 2] 2), .int .u64 (ofI [0, 2] 3)] 35)).alloc (.cells #[.string ⟨#[102, 105, 108, 101]⟩] 9)).alloc (.cells #[.string ⟨#[100, 105, 114]⟩, .slice none 0 0, .string ⟨#[102, 105, 108, 101]⟩, .slice none 0 0] 44)) (w8.heap.size) (ofI [0, 2] 0) (ofI [0, 2] 1) (ofI [0, 2] 2) (ofI [0, 2] 3)) := Lib.hid (((quad_at (by simp) : Quad (w8.alloc (.cells #[.int .u64 (ofI [0, 2] 0), .int .u64 (ofI [0, 2] 1), .int .u64 (ofI [0, 2] 2), .int .u64 (ofI [0, 2] 3)] 35)) (w8.heap.size) (ofI [0, 2] 0) (ofI [0, 2] 1) (ofI [0, 2] 2) (ofI [0, 2] 3)).alloc _).alloc _)
  have HSf : Hid (Strs (((w8.alloc (.cells #[.int .u64 (ofI [0, 2] 0), .int .u64 (ofI [0, 2] 1), .int .u64 (ofI [0, 2] 2), .int .u64 (ofI [0, 2] 3)] 35)).alloc (.cells #[.string ⟨#[102, 105, 108, 101]⟩] 9)).alloc (.cells #[.string ⟨#[100, 105, 114]⟩, .slice none 0 0, .string ⟨#[102, 105, 108, 101]⟩, .slice none 0 0] 44)) (.slice (some ⟨w8.heap.size + 1, 0, none⟩) 1 1) [⟨#[102, 105, 108, 101]⟩]) := Lib.hid ((strs_new1 ⟨#[102, 105, 108, 101]⟩ (by simp) : Strs ((w8.alloc (.cells #[.int .u64 (ofI [0, 2] 0), .int .u64 (ofI [0, 2] 1), .int .u64 (ofI [0, 2] 2), .int .u64 (ofI [0, 2] 3)] 35)).alloc (.cells #[.string ⟨#[102, 105, 108, 101]⟩] 9)) (.slice (some ⟨w8.heap.size + 1, 0, none⟩) 1 1) [⟨#[102, 105, 108, 101]⟩]).keep (Kp.rfl'.alloc _))
  have HDF : Hid (Cls (((w8.alloc (.cells #[.int .u64 (ofI [0, 2] 0), .int .u64 (ofI [0, 2] 1), .int .u64 (ofI [0, 2] 2), .int .u64 (ofI [0, 2] 3)] 35)).alloc (.cells #[.string ⟨#[102, 105, 108, 101]⟩] 9)).alloc (.cells #[.string ⟨#[100, 105, 114]⟩, .slice none 0 0, .string ⟨#[102, 105, 108, 101]⟩, .slice none 0 0] 44)) (.slice (some ⟨w8.heap.size + 1 + 1, 0, none⟩) 2 2) dfl) := Lib.hid ((cls_new2 ⟨#[100, 105, 114]⟩ ⟨#[102, 105, 108, 101]⟩ (by simp)))
  have HC9 : Hid (Calls Try.prog 18 #[.agg #[.bool false, .bool false, .bool false, .slice (some ⟨w8.heap.size + 1, 0, none⟩) 1 1, (.slice none 0 0)], .slice (some ⟨w8.heap.size + 1 + 1, 0, none⟩) 2 2] (((w8.alloc (.cells #[.int .u64 (ofI [0, 2] 0), .int .u64 (ofI [0, 2] 1), .int .u64 (ofI [0, 2] 2), .int .u64 (ofI [0, 2] 3)] 35)).alloc (.cells #[.string ⟨#[102, 105, 108, 101]⟩] 9)).alloc (.cells #[.string ⟨#[100, 105, 114]⟩, .slice none 0 0, .string ⟨#[102, 105, 108, 101]⟩, .slice none 0 0] 44)) (fun e w' => e = .returned (.tuple #[.agg #[.int .u64 (ofI [1] 0), .int .u64 (ofI [1] 1), .int .u64 (ofI [1] 2), .int .u64 (ofI [1] 3)], .int .i64 0]) ∧ Below (((w8.alloc (.cells #[.int .u64 (ofI [0, 2] 0), .int .u64 (ofI [0, 2] 1), .int .u64 (ofI [0, 2] 2), .int .u64 (ofI [0, 2] 3)] 35)).alloc (.cells #[.string ⟨#[102, 105, 108, 101]⟩] 9)).alloc (.cells #[.string ⟨#[100, 105, 114]⟩, .slice none 0 0, .string ⟨#[102, 105, 108, 101]⟩, .slice none 0 0] 44)).heap.size (((w8.alloc (.cells #[.int .u64 (ofI [0, 2] 0), .int .u64 (ofI [0, 2] 1), .int .u64 (ofI [0, 2] 2), .int .u64 (ofI [0, 2] 3)] 35)).alloc (.cells #[.string ⟨#[102, 105, 108, 101]⟩] 9)).alloc (.cells #[.string ⟨#[100, 105, 114]⟩, .slice none 0 0, .string ⟨#[102, 105, 108, 101]⟩, .slice none 0 0] 44)) w')) := Lib.hid (by
    have h := Classes_c false false false (.slice (some ⟨w8.heap.size + 1, 0, none⟩) 1 1) (.slice none 0 0) (.slice (some ⟨w8.heap.size + 1 + 1, 0, none⟩) 2 2) [⟨#[102, 105, 108, 101]⟩] [] dfl (((w8.alloc (.cells #[.int .u64 (ofI [0, 2] 0), .int .u64 (ofI [0, 2] 1), .int .u64 (ofI [0, 2] 2), .int .u64 (ofI [0, 2] 3)] 35)).alloc (.cells #[.string ⟨#[102, 105, 108, 101]⟩] 9)).alloc (.cells #[.string ⟨#[100, 105, 114]⟩, .slice none 0 0, .string ⟨#[102, 105, 108, 101]⟩, .slice none 0 0] 44)) HSf.out Strs.nil HDF.out (by simp) (by simp) (by decide); rw [awC1, awC2] at h; exact h)
  go_wp2_with fail
  refine HC9.out.mono ?_
  rintro e w9 ⟨rfl, hb⟩
  have HS9 : Hid (Kp w8 w9) := Lib.hid (Kp.step HP9.out hb)
  replace HRW := Lib.hid (HRW.out.keep HS9.out)
  replace HCL := Lib.hid (HCL.out.keep HS9.out)
  replace HQ8 := Lib.hid (HQ8.out.keep HS9.out)
  replace HQ10 := Lib.hid (HQ10.out.keep hb)
  replace HSf := Lib.hid (HSf.out.keep hb)
  replace HDF := Lib.hid (HDF.out.keep hb)
  replace HK := Lib.hid (Kp.step HK.out HS9.out)
  clear hb HP9 HC9 HS9 
  clear HSf HDF
  have HP10 : Hid (Kp w9 ((w9.alloc (.cells #[.int .u64 (ofI [1] 0), .int .u64 (ofI [1] 1), .int .u64 (ofI [1] 2), .int .u64 (ofI [1] 3)] 35)).alloc (.cells #[.string ⟨#[108, 105, 110, 107]⟩] 9))) := Lib.hid ((Kp.rfl'.alloc _).alloc _)
  have HQ12 : Hid (Quad ((w9.alloc (.cells #[.int .u64 (ofI [1] 0), .int .u64 (ofI [1] 1), .int .u64 (ofI [1] 2), .int .u64 (ofI [1] 3)] 35)).alloc (.cells #[.string ⟨#[108, 105, 110, 107]⟩] 9)) (w9.heap.size) (ofI [1] 0) (ofI [1] 1) (ofI [1] 2) (ofI [1] 3)) := Lib.hid ((quad_at (by simp) : Quad (w9.alloc (.cells #[.int .u64 (ofI [1] 0), .int .u64 (ofI [1] 1), .int .u64 (ofI [1] 2), .int .u64 (ofI [1] 3)] 35)) (w9.heap.size) (ofI [1] 0) (ofI [1] 1) (ofI [1] 2) (ofI [1] 3)).alloc _)
  have HSl : Hid (Strs ((w9.alloc (.cells #[.int .u64 (ofI [1] 0), .int .u64 (ofI [1] 1), .int .u64 (ofI [1] 2), .int .u64 (ofI [1] 3)] 35)).alloc (.cells #[.string ⟨#[108, 105, 110, 107]⟩] 9)) (.slice (some ⟨w9.heap.size + 1, 0, none⟩) 1 1) [⟨#[108, 105, 110, 107]⟩]) := Lib.hid ((strs_new1 ⟨#[108, 105, 110, 107]⟩ (by simp) : Strs ((w9.alloc (.cells #[.int .u64 (ofI [1] 0), .int .u64 (ofI [1] 1), .int .u64 (ofI [1] 2), .int .u64 (ofI [1] 3)] 35)).alloc (.cells #[.string ⟨#[108, 105, 110, 107]⟩] 9)) (.slice (some ⟨w9.heap.size + 1, 0, none⟩) 1 1) [⟨#[108, 105, 110, 107]⟩]))
  have HC10 : Hid (Calls Try.prog 18 #[.agg #[.bool false, .bool false, .bool false, .slice (some ⟨w9.heap.size + 1, 0, none⟩) 1 1, (.slice none 0 0)], (.slice none 0 0)] ((w9.alloc (.cells #[.int .u64 (ofI [1] 0), .int .u64 (ofI [1] 1), .int .u64 (ofI [1] 2), .int .u64 (ofI [1] 3)] 35)).alloc (.cells #[.string ⟨#[108, 105, 110, 107]⟩] 9)) (fun e w' => e = .returned (.tuple #[.agg #[.int .u64 (ofI [] 0), .int .u64 (ofI [] 1), .int .u64 (ofI [] 2), .int .u64 (ofI [] 3)], .int .i64 20]) ∧ Below ((w9.alloc (.cells #[.int .u64 (ofI [1] 0), .int .u64 (ofI [1] 1), .int .u64 (ofI [1] 2), .int .u64 (ofI [1] 3)] 35)).alloc (.cells #[.string ⟨#[108, 105, 110, 107]⟩] 9)).heap.size ((w9.alloc (.cells #[.int .u64 (ofI [1] 0), .int .u64 (ofI [1] 1), .int .u64 (ofI [1] 2), .int .u64 (ofI [1] 3)] 35)).alloc (.cells #[.string ⟨#[108, 105, 110, 107]⟩] 9)) w')) := Lib.hid (by
    have h := Classes_c false false false (.slice (some ⟨w9.heap.size + 1, 0, none⟩) 1 1) (.slice none 0 0) (.slice none 0 0) [⟨#[108, 105, 110, 107]⟩] [] [] ((w9.alloc (.cells #[.int .u64 (ofI [1] 0), .int .u64 (ofI [1] 1), .int .u64 (ofI [1] 2), .int .u64 (ofI [1] 3)] 35)).alloc (.cells #[.string ⟨#[108, 105, 110, 107]⟩] 9)) HSl.out Strs.nil cls_nil (by simp) (by simp) (by decide); rw [awC3, awC4] at h; exact h)
  go_wp2_with fail
  refine HC10.out.mono ?_
  rintro e w10 ⟨rfl, hb⟩
  have HS10 : Hid (Kp w9 w10) := Lib.hid (Kp.step HP10.out hb)
  replace HRW := Lib.hid (HRW.out.keep HS10.out)
  replace HCL := Lib.hid (HCL.out.keep HS10.out)
  replace HQ8 := Lib.hid (HQ8.out.keep HS10.out)
  replace HQ10 := Lib.hid (HQ10.out.keep HS10.out)
  replace HQ12 := Lib.hid (HQ12.out.keep hb)
  replace HSl := Lib.hid (HSl.out.keep hb)
  replace HK := Lib.hid (Kp.step HK.out HS10.out)
  clear hb HP10 HC10 HS10 
  clear HSl
  have HP11 : Hid (Kp w10 (w10.alloc (.cells #[.int .u64 (ofI [] 0), .int .u64 (ofI [] 1), .int .u64 (ofI [] 2), .int .u64 (ofI [] 3)] 35))) := Lib.hid (Kp.rfl'.alloc _)
  replace HQ8 := Lib.hid (HQ8.out.keep HP11.out)
  replace HQ10 := Lib.hid (HQ10.out.keep HP11.out)
  replace HQ12 := Lib.hid (HQ12.out.keep HP11.out)
  replace HCL := Lib.hid (HCL.out.keep HP11.out)
  replace HRW := Lib.hid (HRW.out.keep HP11.out)
  replace HK := Lib.hid (Kp.step HK.out HP11.out)
  go_wp2_with fail
  generalize w10.alloc (.cells #[.int .u64 (ofI [] 0), .int .u64 (ofI [] 1), .int .u64 (ofI [] 2), .int .u64 (ofI [] 3)] 35) = W at *
  clear HP11 hS1
  refine wp_region_obs (fun i v w => Spec.ok ((awSpecs (.slice (some ⟨w2.heap.size + 1, 0, none⟩) 2 2)).getD i (.val undef)) v w) (by kernel_rfl) (by kernel_rfl) (fun i v w w' h hb => Spec.keep h hb) ?_ ?_
  · refine ⟨⟨trivial, fun A v hK hF => ?_⟩, ?_⟩
    · unfold Gives
      go_simp
      exact gives_val ((Below.refl _ _).alloc (Nat.le_refl _) _) (show Spec.ok (.strs [⟨#[97]⟩, ⟨#[100]⟩]) _ _ from ⟨_, _, rfl, strs_new2 ⟨#[97]⟩ ⟨#[100]⟩ rfl⟩)
    refine ⟨⟨trivial, fun A v hK hF => ?_⟩, ?_⟩
    · obtain ⟨a64, c64, f64, s64⟩ : ∃ ao cap, A.tmps[64]?.getD undef = .slice ao 2 cap ∧ Strs v (.slice ao 2 cap) [⟨#[97]⟩, ⟨#[100]⟩] := fact_some (hF 64) (j := 0) (by kernel_rfl) (by kernel_rfl)
      unfold Gives
      go_simp
      exact gives_val (Below.refl _ _) (show Spec.ok (.ns false false [⟨#[97]⟩, ⟨#[100]⟩] []) _ _ from ⟨_, _, _, _, rfl, s64, Strs.nil⟩)
    refine ⟨⟨trivial, fun A v hK hF => ?_⟩, ?_⟩
    · unfold Gives
      go_simp
      exact gives_val ((Below.refl _ _).alloc (Nat.le_refl _) _) (show Spec.ok (.ints [0, 1, 2]) _ _ from ⟨_, rfl, ints_at [0, 1, 2] rfl⟩)
    refine ⟨⟨trivial, fun A v hK hF => ?_⟩, ?_⟩
    · obtain ⟨a65, c65, b65, d65, f65, s65, r65⟩ : ∃ aN cN aE cE, A.tmps[65]?.getD undef = .agg #[.bool false, .bool false, .bool false, .slice aN 2 cN, .slice aE 0 cE] ∧ Strs v (.slice aN 2 cN) [⟨#[97]⟩, ⟨#[100]⟩] ∧ Strs v (.slice aE 0 cE) [] := fact_some (hF 65) (j := 1) (by kernel_rfl) (by kernel_rfl)
      obtain ⟨a66, f66, s66⟩ : ∃ ao, A.tmps[66]?.getD undef = .slice ao 3 3 ∧ Ints v ao [0, 1, 2] := fact_some (hF 66) (j := 2) (by kernel_rfl) (by kernel_rfl)
      unfold Gives
      go_simp
      exact gives_enter ((means_c false false false (.slice a65 2 c65) (.slice b65 0 d65) [⟨#[97]⟩, ⟨#[100]⟩] [] a66 [0, 1, 2] 3 v s65 r65 s66 (by simp) (by simp) (by simp) mb0 mn0).mono fun e w'' ⟨he, hb⟩ => ⟨_, he, hb, rfl⟩)
    refine ⟨⟨trivial, fun A v hK hF => ?_⟩, ?_⟩
    · have f67 : A.tmps[67]?.getD undef = .bool true := fact_some (hF 67) (j := 3) (by kernel_rfl) (by kernel_rfl)
      unfold Gives
      go_simp
      exact gives_val (Below.refl _ _) rfl
    refine ⟨⟨fun _ _ h => h, fun A v hK hF => ?_⟩, ?_⟩
    · unfold Gives
      go_simp
      exact gives_val ((Below.refl _ _).alloc (Nat.le_refl _) _) (show Spec.ok (.strs [⟨#[100]⟩]) _ _ from ⟨_, _, rfl, strs_new1 ⟨#[100]⟩ rfl⟩)
    refine ⟨⟨fun _ _ h => h, fun A v hK hF => ?_⟩, ?_⟩
    · obtain ⟨a69, c69, f69, s69⟩ : ∃ ao cap, A.tmps[69]?.getD undef = .slice ao 1 cap ∧ Strs v (.slice ao 1 cap) [⟨#[100]⟩] := fact_some (hF 69) (j := 5) (by kernel_rfl) (by kernel_rfl)
      unfold Gives
      go_simp
      exact gives_val (Below.refl _ _) (show Spec.ok (.ns true false [] [⟨#[100]⟩]) _ _ from ⟨_, _, _, _, rfl, Strs.nil, s69⟩)
    refine ⟨⟨fun _ _ h => h, fun A v hK hF => ?_⟩, ?_⟩
    · unfold Gives
      go_simp
      exact gives_val ((Below.refl _ _).alloc (Nat.le_refl _) _) (show Spec.ok (.ints [0]) _ _ from ⟨_, rfl, ints_at [0] rfl⟩)
    refine ⟨⟨fun _ _ h => h, fun A v hK hF => ?_⟩, ?_⟩
    · obtain ⟨a70, c70, b70, d70, f70, s70, r70⟩ : ∃ aN cN aE cE, A.tmps[70]?.getD undef = .agg #[.bool true, .bool false, .bool false, .slice aN 0 cN, .slice aE 1 cE] ∧ Strs v (.slice aN 0 cN) [] ∧ Strs v (.slice aE 1 cE) [⟨#[100]⟩] := fact_some (hF 70) (j := 6) (by kernel_rfl) (by kernel_rfl)
      obtain ⟨a71, f71, s71⟩ : ∃ ao, A.tmps[71]?.getD undef = .slice ao 1 1 ∧ Ints v ao [0] := fact_some (hF 71) (j := 7) (by kernel_rfl) (by kernel_rfl)
      unfold Gives
      go_simp
      exact gives_enter ((means_c true false false (.slice a70 0 c70) (.slice b70 1 d70) [] [⟨#[100]⟩] a71 [0] 1 v s70 r70 s71 (by simp) (by simp) (by simp) mb1 mn1).mono fun e w'' ⟨he, hb⟩ => ⟨_, he, hb, rfl⟩)
    refine ⟨⟨trivial, fun A v hK hF => ?_⟩, ?_⟩
    · have f68 : A.tmps[68]?.getD undef = .bool true := fact_some (hF 68) (j := 4) (by kernel_rfl) (by kernel_rfl)
      have f72 : A.tmps[72]?.getD undef = .bool true := fact_some (hF 72) (j := 8) (by kernel_rfl) (by kernel_rfl)
      unfold Gives
      go_simp
      exact gives_val (Below.refl _ _) rfl
    refine ⟨⟨trivial, fun A v hK hF => ?_⟩, ?_⟩
    · have f73 : A.tmps[73]?.getD undef = .bool true := fact_some (hF 73) (j := 9) (by kernel_rfl) (by kernel_rfl)
      unfold Gives
      go_simp
      exact gives_val (Below.refl _ _) rfl
    refine ⟨⟨fun _ _ h => h, fun A v hK hF => ?_⟩, ?_⟩
    · unfold Gives
      go_simp
      exact gives_val ((Below.refl _ _).alloc (Nat.le_refl _) _) (show Spec.ok (.strs [⟨#[100]⟩]) _ _ from ⟨_, _, rfl, strs_new1 ⟨#[100]⟩ rfl⟩)
    refine ⟨⟨fun _ _ h => h, fun A v hK hF => ?_⟩, ?_⟩
    · obtain ⟨a75, c75, f75, s75⟩ : ∃ ao cap, A.tmps[75]?.getD undef = .slice ao 1 cap ∧ Strs v (.slice ao 1 cap) [⟨#[100]⟩] := fact_some (hF 75) (j := 11) (by kernel_rfl) (by kernel_rfl)
      unfold Gives
      go_simp
      exact gives_val (Below.refl _ _) (show Spec.ok (.ns false true [⟨#[100]⟩] []) _ _ from ⟨_, _, _, _, rfl, s75, Strs.nil⟩)
    refine ⟨⟨fun _ _ h => h, fun A v hK hF => ?_⟩, ?_⟩
    · unfold Gives
      go_simp
      exact gives_val ((Below.refl _ _).alloc (Nat.le_refl _) _) (show Spec.ok (.ints [0]) _ _ from ⟨_, rfl, ints_at [0] rfl⟩)
    refine ⟨⟨fun _ _ h => h, fun A v hK hF => ?_⟩, ?_⟩
    · obtain ⟨a76, c76, b76, d76, f76, s76, r76⟩ : ∃ aN cN aE cE, A.tmps[76]?.getD undef = .agg #[.bool false, .bool true, .bool false, .slice aN 1 cN, .slice aE 0 cE] ∧ Strs v (.slice aN 1 cN) [⟨#[100]⟩] ∧ Strs v (.slice aE 0 cE) [] := fact_some (hF 76) (j := 12) (by kernel_rfl) (by kernel_rfl)
      obtain ⟨a77, f77, s77⟩ : ∃ ao, A.tmps[77]?.getD undef = .slice ao 1 1 ∧ Ints v ao [0] := fact_some (hF 77) (j := 13) (by kernel_rfl) (by kernel_rfl)
      unfold Gives
      go_simp
      exact gives_enter ((means_c false true false (.slice a76 1 c76) (.slice b76 0 d76) [⟨#[100]⟩] [] a77 [0] 1 v s76 r76 s77 (by simp) (by simp) (by simp) mb2 mn2).mono fun e w'' ⟨he, hb⟩ => ⟨_, he, hb, rfl⟩)
    refine ⟨⟨trivial, fun A v hK hF => ?_⟩, ?_⟩
    · have f74 : A.tmps[74]?.getD undef = .bool true := fact_some (hF 74) (j := 10) (by kernel_rfl) (by kernel_rfl)
      have f78 : A.tmps[78]?.getD undef = .bool true := fact_some (hF 78) (j := 14) (by kernel_rfl) (by kernel_rfl)
      unfold Gives
      go_simp
      exact gives_val (Below.refl _ _) rfl
    refine ⟨⟨trivial, fun A v hK hF => ?_⟩, ?_⟩
    · have f79 : A.tmps[79]?.getD undef = .bool true := fact_some (hF 79) (j := 15) (by kernel_rfl) (by kernel_rfl)
      unfold Gives
      go_simp
      exact gives_val (Below.refl _ _) rfl
    refine ⟨⟨fun _ _ h => h, fun A v hK hF => ?_⟩, ?_⟩
    · unfold Gives
      go_simp
      exact gives_val ((Below.refl _ _).alloc (Nat.le_refl _) _) (show Spec.ok (.strs [⟨#[100]⟩]) _ _ from ⟨_, _, rfl, strs_new1 ⟨#[100]⟩ rfl⟩)
    refine ⟨⟨fun _ _ h => h, fun A v hK hF => ?_⟩, ?_⟩
    · unfold Gives
      go_simp
      exact gives_val ((Below.refl _ _).alloc (Nat.le_refl _) _) (show Spec.ok (.strs [⟨#[99]⟩]) _ _ from ⟨_, _, rfl, strs_new1 ⟨#[99]⟩ rfl⟩)
    refine ⟨⟨fun _ _ h => h, fun A v hK hF => ?_⟩, ?_⟩
    · obtain ⟨a81, c81, f81, s81⟩ : ∃ ao cap, A.tmps[81]?.getD undef = .slice ao 1 cap ∧ Strs v (.slice ao 1 cap) [⟨#[100]⟩] := fact_some (hF 81) (j := 17) (by kernel_rfl) (by kernel_rfl)
      obtain ⟨a82, c82, f82, s82⟩ : ∃ ao cap, A.tmps[82]?.getD undef = .slice ao 1 cap ∧ Strs v (.slice ao 1 cap) [⟨#[99]⟩] := fact_some (hF 82) (j := 18) (by kernel_rfl) (by kernel_rfl)
      unfold Gives
      go_simp
      exact gives_val (Below.refl _ _) (show Spec.ok (.ns false false [⟨#[100]⟩] [⟨#[99]⟩]) _ _ from ⟨_, _, _, _, rfl, s81, s82⟩)
    refine ⟨⟨fun _ _ h => h, fun A v hK hF => ?_⟩, ?_⟩
    · unfold Gives
      go_simp
      exact gives_val ((Below.refl _ _).alloc (Nat.le_refl _) _) (show Spec.ok (.ints [1]) _ _ from ⟨_, rfl, ints_at [1] rfl⟩)
    refine ⟨⟨fun _ _ h => h, fun A v hK hF => ?_⟩, ?_⟩
    · obtain ⟨a83, c83, b83, d83, f83, s83, r83⟩ : ∃ aN cN aE cE, A.tmps[83]?.getD undef = .agg #[.bool false, .bool false, .bool false, .slice aN 1 cN, .slice aE 1 cE] ∧ Strs v (.slice aN 1 cN) [⟨#[100]⟩] ∧ Strs v (.slice aE 1 cE) [⟨#[99]⟩] := fact_some (hF 83) (j := 19) (by kernel_rfl) (by kernel_rfl)
      obtain ⟨a84, f84, s84⟩ : ∃ ao, A.tmps[84]?.getD undef = .slice ao 1 1 ∧ Ints v ao [1] := fact_some (hF 84) (j := 20) (by kernel_rfl) (by kernel_rfl)
      unfold Gives
      go_simp
      exact gives_enter ((means_c false false false (.slice a83 1 c83) (.slice b83 1 d83) [⟨#[100]⟩] [⟨#[99]⟩] a84 [1] 1 v s83 r83 s84 (by simp) (by simp) (by simp) mb3 mn3).mono fun e w'' ⟨he, hb⟩ => ⟨_, he, hb, rfl⟩)
    refine ⟨⟨trivial, fun A v hK hF => ?_⟩, ?_⟩
    · have f80 : A.tmps[80]?.getD undef = .bool true := fact_some (hF 80) (j := 16) (by kernel_rfl) (by kernel_rfl)
      have f85 : A.tmps[85]?.getD undef = .bool true := fact_some (hF 85) (j := 21) (by kernel_rfl) (by kernel_rfl)
      unfold Gives
      go_simp
      exact gives_val (Below.refl _ _) rfl
    refine ⟨⟨trivial, fun A v hK hF => ?_⟩, ?_⟩
    · have f86 : A.tmps[86]?.getD undef = .bool true := fact_some (hF 86) (j := 22) (by kernel_rfl) (by kernel_rfl)
      unfold Gives
      go_simp
      exact gives_val (Below.refl _ _) rfl
    refine ⟨⟨fun _ _ h => h, fun A v hK hF => ?_⟩, ?_⟩
    · unfold Gives
      go_simp
      exact gives_val ((Below.refl _ _).alloc (Nat.le_refl _) _) (show Spec.ok (.strs [⟨#[97]⟩]) _ _ from ⟨_, _, rfl, strs_new1 ⟨#[97]⟩ rfl⟩)
    refine ⟨⟨fun _ _ h => h, fun A v hK hF => ?_⟩, ?_⟩
    · obtain ⟨a88, c88, f88, s88⟩ : ∃ ao cap, A.tmps[88]?.getD undef = .slice ao 1 cap ∧ Strs v (.slice ao 1 cap) [⟨#[97]⟩] := fact_some (hF 88) (j := 24) (by kernel_rfl) (by kernel_rfl)
      unfold Gives
      go_simp
      exact gives_val (Below.refl _ _) (show Spec.ok (.ns false false [] [⟨#[97]⟩]) _ _ from ⟨_, _, _, _, rfl, Strs.nil, s88⟩)
    refine ⟨⟨fun _ _ h => h, fun A v hK hF => ?_⟩, ?_⟩
    · obtain ⟨a89, c89, b89, d89, f89, s89, r89⟩ : ∃ aN cN aE cE, A.tmps[89]?.getD undef = .agg #[.bool false, .bool false, .bool false, .slice aN 0 cN, .slice aE 1 cE] ∧ Strs v (.slice aN 0 cN) [] ∧ Strs v (.slice aE 1 cE) [⟨#[97]⟩] := fact_some (hF 89) (j := 25) (by kernel_rfl) (by kernel_rfl)
      unfold Gives
      go_simp
      exact gives_enter ((means_c false false false (.slice a89 0 c89) (.slice b89 1 d89) [] [⟨#[97]⟩] none [] 0 v s89 r89 (fun i hi => absurd hi (by simp)) (by simp) (by simp) (by simp) mb4 mn4).mono fun e w'' ⟨he, hb⟩ => ⟨_, he, hb, rfl⟩)
    refine ⟨⟨trivial, fun A v hK hF => ?_⟩, ?_⟩
    · have f87 : A.tmps[87]?.getD undef = .bool true := fact_some (hF 87) (j := 23) (by kernel_rfl) (by kernel_rfl)
      have f90 : A.tmps[90]?.getD undef = .bool true := fact_some (hF 90) (j := 26) (by kernel_rfl) (by kernel_rfl)
      unfold Gives
      go_simp
      exact gives_val (Below.refl _ _) rfl
    refine ⟨⟨trivial, fun A v hK hF => ?_⟩, ?_⟩
    · have f91 : A.tmps[91]?.getD undef = .bool true := fact_some (hF 91) (j := 27) (by kernel_rfl) (by kernel_rfl)
      unfold Gives
      go_simp
      exact gives_val (Below.refl _ _) rfl
    refine ⟨⟨fun _ _ h => h, fun A v hK hF => ?_⟩, ?_⟩
    · unfold Gives
      go_simp
      exact gives_val ((Below.refl _ _).alloc (Nat.le_refl _) _) (show Spec.ok (.strs [⟨#[97]⟩]) _ _ from ⟨_, _, rfl, strs_new1 ⟨#[97]⟩ rfl⟩)
    refine ⟨⟨fun _ _ h => h, fun A v hK hF => ?_⟩, ?_⟩
    · obtain ⟨a93, c93, f93, s93⟩ : ∃ ao cap, A.tmps[93]?.getD undef = .slice ao 1 cap ∧ Strs v (.slice ao 1 cap) [⟨#[97]⟩] := fact_some (hF 93) (j := 29) (by kernel_rfl) (by kernel_rfl)
      unfold Gives
      go_simp
      exact gives_val (Below.refl _ _) (show Spec.ok (.ns false true [] [⟨#[97]⟩]) _ _ from ⟨_, _, _, _, rfl, Strs.nil, s93⟩)
    refine ⟨⟨fun _ _ h => h, fun A v hK hF => ?_⟩, ?_⟩
    · unfold Gives
      go_simp
      exact gives_val ((Below.refl _ _).alloc (Nat.le_refl _) _) (show Spec.ok (.ints [0, 1, 2]) _ _ from ⟨_, rfl, ints_at [0, 1, 2] rfl⟩)
    refine ⟨⟨fun _ _ h => h, fun A v hK hF => ?_⟩, ?_⟩
    · obtain ⟨a94, c94, b94, d94, f94, s94, r94⟩ : ∃ aN cN aE cE, A.tmps[94]?.getD undef = .agg #[.bool false, .bool true, .bool false, .slice aN 0 cN, .slice aE 1 cE] ∧ Strs v (.slice aN 0 cN) [] ∧ Strs v (.slice aE 1 cE) [⟨#[97]⟩] := fact_some (hF 94) (j := 30) (by kernel_rfl) (by kernel_rfl)
      obtain ⟨a95, f95, s95⟩ : ∃ ao, A.tmps[95]?.getD undef = .slice ao 3 3 ∧ Ints v ao [0, 1, 2] := fact_some (hF 95) (j := 31) (by kernel_rfl) (by kernel_rfl)
      unfold Gives
      go_simp
      exact gives_enter ((means_c false true false (.slice a94 0 c94) (.slice b94 1 d94) [] [⟨#[97]⟩] a95 [0, 1, 2] 3 v s94 r94 s95 (by simp) (by simp) (by simp) mb5 mn5).mono fun e w'' ⟨he, hb⟩ => ⟨_, he, hb, rfl⟩)
    refine ⟨⟨trivial, fun A v hK hF => ?_⟩, ?_⟩
    · have f92 : A.tmps[92]?.getD undef = .bool true := fact_some (hF 92) (j := 28) (by kernel_rfl) (by kernel_rfl)
      have f96 : A.tmps[96]?.getD undef = .bool true := fact_some (hF 96) (j := 32) (by kernel_rfl) (by kernel_rfl)
      unfold Gives
      go_simp
      exact gives_val (Below.refl _ _) rfl
    refine ⟨⟨trivial, fun A v hK hF => ?_⟩, ?_⟩
    · have f97 : A.tmps[97]?.getD undef = .bool true := fact_some (hF 97) (j := 33) (by kernel_rfl) (by kernel_rfl)
      unfold Gives
      go_simp
      exact gives_val (Below.refl _ _) rfl
    refine ⟨⟨fun _ _ h => h, fun A v hK hF => ?_⟩, ?_⟩
    · have f2 : A.tmps[2]?.getD undef = .int .i64 11 := fact_none (hF 2) (by kernel_rfl)
      unfold Gives
      go_simp
      exact gives_val (Below.refl _ _) rfl
    refine ⟨⟨fun _ _ h => h, fun A v hK hF => ?_⟩, ?_⟩
    · have f99 : A.tmps[99]?.getD undef = .int .i64 11 := fact_some (hF 99) (j := 35) (by kernel_rfl) (by kernel_rfl)
      unfold Gives
      go_simp
      exact gives_val (Below.refl _ _) rfl
    refine ⟨⟨trivial, fun A v hK hF => ?_⟩, ?_⟩
    · have f98 : A.tmps[98]?.getD undef = .bool true := fact_some (hF 98) (j := 34) (by kernel_rfl) (by kernel_rfl)
      have f100 : A.tmps[100]?.getD undef = .bool true := fact_some (hF 100) (j := 36) (by kernel_rfl) (by kernel_rfl)
      unfold Gives
      go_simp
      exact gives_val (Below.refl _ _) rfl
    refine ⟨⟨trivial, fun A v hK hF => ?_⟩, ?_⟩
    · have f101 : A.tmps[101]?.getD undef = .bool true := fact_some (hF 101) (j := 37) (by kernel_rfl) (by kernel_rfl)
      unfold Gives
      go_simp
      exact gives_val (Below.refl _ _) rfl
    refine ⟨⟨fun _ _ h => h, fun A v hK hF => ?_⟩, ?_⟩
    · have f4 : A.tmps[4]?.getD undef = .int .u32 2 := fact_none (hF 4) (by kernel_rfl)
      unfold Gives
      go_simp
      exact gives_val (Below.refl _ _) rfl
    refine ⟨⟨fun _ _ h => h, fun A v hK hF => ?_⟩, ?_⟩
    · have f103 : A.tmps[103]?.getD undef = .int .u32 2 := fact_some (hF 103) (j := 39) (by kernel_rfl) (by kernel_rfl)
      unfold Gives
      go_simp
      exact gives_val (Below.refl _ _) rfl
    refine ⟨⟨trivial, fun A v hK hF => ?_⟩, ?_⟩
    · have f102 : A.tmps[102]?.getD undef = .bool true := fact_some (hF 102) (j := 38) (by kernel_rfl) (by kernel_rfl)
      have f104 : A.tmps[104]?.getD undef = .bool true := fact_some (hF 104) (j := 40) (by kernel_rfl) (by kernel_rfl)
      unfold Gives
      go_simp
      exact gives_val (Below.refl _ _) rfl
    refine ⟨⟨trivial, fun A v hK hF => ?_⟩, ?_⟩
    · have f105 : A.tmps[105]?.getD undef = .bool true := fact_some (hF 105) (j := 41) (by kernel_rfl) (by kernel_rfl)
      unfold Gives
      go_simp
      exact gives_val (Below.refl _ _) rfl
    refine ⟨⟨fun _ _ h => h, fun A v hK hF => ?_⟩, ?_⟩
    · have f5 : A.tmps[5]?.getD undef = .int .i64 0 := fact_none (hF 5) (by kernel_rfl)
      unfold Gives
      go_simp
      exact gives_val (Below.refl _ _) rfl
    refine ⟨⟨fun _ _ h => h, fun A v hK hF => ?_⟩, ?_⟩
    · have f107 : A.tmps[107]?.getD undef = .int .i64 0 := fact_some (hF 107) (j := 43) (by kernel_rfl) (by kernel_rfl)
      unfold Gives
      go_simp
      exact gives_val (Below.refl _ _) rfl
    refine ⟨⟨trivial, fun A v hK hF => ?_⟩, ?_⟩
    · have f106 : A.tmps[106]?.getD undef = .bool true := fact_some (hF 106) (j := 42) (by kernel_rfl) (by kernel_rfl)
      have f108 : A.tmps[108]?.getD undef = .bool true := fact_some (hF 108) (j := 44) (by kernel_rfl) (by kernel_rfl)
      unfold Gives
      go_simp
      exact gives_val (Below.refl _ _) rfl
    refine ⟨⟨trivial, fun A v hK hF => ?_⟩, ?_⟩
    · have f109 : A.tmps[109]?.getD undef = .bool true := fact_some (hF 109) (j := 45) (by kernel_rfl) (by kernel_rfl)
      unfold Gives
      go_simp
      exact gives_val (Below.refl _ _) rfl
    refine ⟨⟨fun _ _ h => h, fun A v hK hF => ?_⟩, ?_⟩
    · have f6 : A.tmps[6]?.getD undef = .int .i64 0 := fact_none (hF 6) (by kernel_rfl)
      unfold Gives
      go_simp
      exact gives_val (Below.refl _ _) rfl
    refine ⟨⟨fun _ _ h => h, fun A v hK hF => ?_⟩, ?_⟩
    · have f111 : A.tmps[111]?.getD undef = .int .i64 0 := fact_some (hF 111) (j := 47) (by kernel_rfl) (by kernel_rfl)
      unfold Gives
      go_simp
      exact gives_val (Below.refl _ _) rfl
    refine ⟨⟨trivial, fun A v hK hF => ?_⟩, ?_⟩
    · have f110 : A.tmps[110]?.getD undef = .bool true := fact_some (hF 110) (j := 46) (by kernel_rfl) (by kernel_rfl)
      have f112 : A.tmps[112]?.getD undef = .bool true := fact_some (hF 112) (j := 48) (by kernel_rfl) (by kernel_rfl)
      unfold Gives
      go_simp
      exact gives_val (Below.refl _ _) rfl
    refine ⟨⟨trivial, fun A v hK hF => ?_⟩, ?_⟩
    · have f113 : A.tmps[113]?.getD undef = .bool true := fact_some (hF 113) (j := 49) (by kernel_rfl) (by kernel_rfl)
      unfold Gives
      go_simp
      exact gives_val (Below.refl _ _) rfl
    refine ⟨⟨fun _ _ h => h, fun A v hK hF => ?_⟩, ?_⟩
    · have f7 : A.tmps[7]?.getD undef = .bool true := fact_none (hF 7) (by kernel_rfl)
      unfold Gives
      go_simp
      exact gives_val (Below.refl _ _) rfl
    refine ⟨⟨trivial, fun A v hK hF => ?_⟩, ?_⟩
    · have f114 : A.tmps[114]?.getD undef = .bool true := fact_some (hF 114) (j := 50) (by kernel_rfl) (by kernel_rfl)
      have f115 : A.tmps[115]?.getD undef = .bool true := fact_some (hF 115) (j := 51) (by kernel_rfl) (by kernel_rfl)
      unfold Gives
      go_simp
      exact gives_val (Below.refl _ _) rfl
    refine ⟨⟨trivial, fun A v hK hF => ?_⟩, ?_⟩
    · have f116 : A.tmps[116]?.getD undef = .bool true := fact_some (hF 116) (j := 52) (by kernel_rfl) (by kernel_rfl)
      unfold Gives
      go_simp
      exact gives_val (Below.refl _ _) rfl
    refine ⟨⟨fun _ _ h => h, fun A v hK hF => ?_⟩, ?_⟩
    · have f8 : A.tmps[8]?.getD undef = .pointer (some ⟨w7.heap.size, 0, none⟩) := fact_none (hF 8) (by kernel_rfl)
      obtain ⟨q0, q1, q2, q3⟩ := quad_box (HQ8.out.keep hK)
      unfold Gives
      go_simp
      exact gives_val (Below.refl _ _) rfl
    refine ⟨⟨fun _ _ h => h, fun A v hK hF => ?_⟩, ?_⟩
    · unfold Gives
      go_simp
      exact gives_val ((Below.refl _ _).alloc (Nat.le_refl _) _) (show Spec.ok (.ints [1, 2]) _ _ from ⟨_, rfl, ints_at [1, 2] rfl⟩)
    refine ⟨⟨fun _ _ h => h, fun A v hK hF => ?_⟩, ?_⟩
    · obtain ⟨a119, f119, s119⟩ : ∃ ao, A.tmps[119]?.getD undef = .slice ao 2 2 ∧ Ints v ao [1, 2] := fact_some (hF 119) (j := 55) (by kernel_rfl) (by kernel_rfl)
      unfold Gives
      go_simp
      exact gives_enter ((rof_c a119 [1, 2] 2 v s119 (by unfold maxLen; decide)).mono fun e w'' ⟨he, hb⟩ => ⟨_, he, hb, rfl⟩)
    refine ⟨⟨fun _ _ h => h, fun A v hK hF => ?_⟩, ?_⟩
    · have f118 : A.tmps[118]?.getD undef = .agg #[.int .u64 (ofI [1, 2] 0), .int .u64 (ofI [1, 2] 1), .int .u64 (ofI [1, 2] 2), .int .u64 (ofI [1, 2] 3)] := fact_some (hF 118) (j := 54) (by kernel_rfl) (by kernel_rfl)
      have f120 : A.tmps[120]?.getD undef = .agg #[.int .u64 (ofI [1, 2] 0), .int .u64 (ofI [1, 2] 1), .int .u64 (ofI [1, 2] 2), .int .u64 (ofI [1, 2] 3)] := fact_some (hF 120) (j := 56) (by kernel_rfl) (by kernel_rfl)
      unfold Gives
      go_simp
      exact gives_val (Below.refl _ _) rfl
    refine ⟨⟨trivial, fun A v hK hF => ?_⟩, ?_⟩
    · have f117 : A.tmps[117]?.getD undef = .bool true := fact_some (hF 117) (j := 53) (by kernel_rfl) (by kernel_rfl)
      have f121 : A.tmps[121]?.getD undef = .bool true := fact_some (hF 121) (j := 57) (by kernel_rfl) (by kernel_rfl)
      unfold Gives
      go_simp
      exact gives_val (Below.refl _ _) rfl
    refine ⟨⟨trivial, fun A v hK hF => ?_⟩, ?_⟩
    · have f122 : A.tmps[122]?.getD undef = .bool true := fact_some (hF 122) (j := 58) (by kernel_rfl) (by kernel_rfl)
      unfold Gives
      go_simp
      exact gives_val (Below.refl _ _) rfl
    refine ⟨⟨fun _ _ h => h, fun A v hK hF => ?_⟩, ?_⟩
    · have f9 : A.tmps[9]?.getD undef = .bool true := fact_none (hF 9) (by kernel_rfl)
      unfold Gives
      go_simp
      exact gives_val (Below.refl _ _) rfl
    refine ⟨⟨trivial, fun A v hK hF => ?_⟩, ?_⟩
    · have f123 : A.tmps[123]?.getD undef = .bool true := fact_some (hF 123) (j := 59) (by kernel_rfl) (by kernel_rfl)
      have f124 : A.tmps[124]?.getD undef = .bool true := fact_some (hF 124) (j := 60) (by kernel_rfl) (by kernel_rfl)
      unfold Gives
      go_simp
      exact gives_val (Below.refl _ _) rfl
    refine ⟨⟨trivial, fun A v hK hF => ?_⟩, ?_⟩
    · have f125 : A.tmps[125]?.getD undef = .bool true := fact_some (hF 125) (j := 61) (by kernel_rfl) (by kernel_rfl)
      unfold Gives
      go_simp
      exact gives_val (Below.refl _ _) rfl
    refine ⟨⟨fun _ _ h => h, fun A v hK hF => ?_⟩, ?_⟩
    · have f10 : A.tmps[10]?.getD undef = .pointer (some ⟨w8.heap.size, 0, none⟩) := fact_none (hF 10) (by kernel_rfl)
      obtain ⟨q0, q1, q2, q3⟩ := quad_box (HQ10.out.keep hK)
      unfold Gives
      go_simp
      exact gives_val (Below.refl _ _) rfl
    refine ⟨⟨fun _ _ h => h, fun A v hK hF => ?_⟩, ?_⟩
    · unfold Gives
      go_simp
      exact gives_val ((Below.refl _ _).alloc (Nat.le_refl _) _) (show Spec.ok (.ints [0, 2]) _ _ from ⟨_, rfl, ints_at [0, 2] rfl⟩)
    refine ⟨⟨fun _ _ h => h, fun A v hK hF => ?_⟩, ?_⟩
    · obtain ⟨a128, f128, s128⟩ : ∃ ao, A.tmps[128]?.getD undef = .slice ao 2 2 ∧ Ints v ao [0, 2] := fact_some (hF 128) (j := 64) (by kernel_rfl) (by kernel_rfl)
      unfold Gives
      go_simp
      exact gives_enter ((rof_c a128 [0, 2] 2 v s128 (by unfold maxLen; decide)).mono fun e w'' ⟨he, hb⟩ => ⟨_, he, hb, rfl⟩)
    refine ⟨⟨fun _ _ h => h, fun A v hK hF => ?_⟩, ?_⟩
    · have f127 : A.tmps[127]?.getD undef = .agg #[.int .u64 (ofI [0, 2] 0), .int .u64 (ofI [0, 2] 1), .int .u64 (ofI [0, 2] 2), .int .u64 (ofI [0, 2] 3)] := fact_some (hF 127) (j := 63) (by kernel_rfl) (by kernel_rfl)
      have f129 : A.tmps[129]?.getD undef = .agg #[.int .u64 (ofI [0, 2] 0), .int .u64 (ofI [0, 2] 1), .int .u64 (ofI [0, 2] 2), .int .u64 (ofI [0, 2] 3)] := fact_some (hF 129) (j := 65) (by kernel_rfl) (by kernel_rfl)
      unfold Gives
      go_simp
      exact gives_val (Below.refl _ _) rfl
    refine ⟨⟨trivial, fun A v hK hF => ?_⟩, ?_⟩
    · have f126 : A.tmps[126]?.getD undef = .bool true := fact_some (hF 126) (j := 62) (by kernel_rfl) (by kernel_rfl)
      have f130 : A.tmps[130]?.getD undef = .bool true := fact_some (hF 130) (j := 66) (by kernel_rfl) (by kernel_rfl)
      unfold Gives
      go_simp
      exact gives_val (Below.refl _ _) rfl
    refine ⟨⟨trivial, fun A v hK hF => ?_⟩, ?_⟩
    · have f131 : A.tmps[131]?.getD undef = .bool true := fact_some (hF 131) (j := 67) (by kernel_rfl) (by kernel_rfl)
      unfold Gives
      go_simp
      exact gives_val (Below.refl _ _) rfl
    refine ⟨⟨fun _ _ h => h, fun A v hK hF => ?_⟩, ?_⟩
    · have f11 : A.tmps[11]?.getD undef = .int .i64 0 := fact_none (hF 11) (by kernel_rfl)
      unfold Gives
      go_simp
      exact gives_val (Below.refl _ _) rfl
    refine ⟨⟨fun _ _ h => h, fun A v hK hF => ?_⟩, ?_⟩
    · have f133 : A.tmps[133]?.getD undef = .int .i64 0 := fact_some (hF 133) (j := 69) (by kernel_rfl) (by kernel_rfl)
      unfold Gives
      go_simp
      exact gives_val (Below.refl _ _) rfl
    refine ⟨⟨trivial, fun A v hK hF => ?_⟩, ?_⟩
    · have f132 : A.tmps[132]?.getD undef = .bool true := fact_some (hF 132) (j := 68) (by kernel_rfl) (by kernel_rfl)
      have f134 : A.tmps[134]?.getD undef = .bool true := fact_some (hF 134) (j := 70) (by kernel_rfl) (by kernel_rfl)
      unfold Gives
      go_simp
      exact gives_val (Below.refl _ _) rfl
    refine ⟨⟨trivial, fun A v hK hF => ?_⟩, ?_⟩
    · have f135 : A.tmps[135]?.getD undef = .bool true := fact_some (hF 135) (j := 71) (by kernel_rfl) (by kernel_rfl)
      unfold Gives
      go_simp
      exact gives_val (Below.refl _ _) rfl
    refine ⟨⟨fun _ _ h => h, fun A v hK hF => ?_⟩, ?_⟩
    · have f12 : A.tmps[12]?.getD undef = .pointer (some ⟨w9.heap.size, 0, none⟩) := fact_none (hF 12) (by kernel_rfl)
      obtain ⟨q0, q1, q2, q3⟩ := quad_box (HQ12.out.keep hK)
      unfold Gives
      go_simp
      exact gives_val (Below.refl _ _) rfl
    refine ⟨⟨fun _ _ h => h, fun A v hK hF => ?_⟩, ?_⟩
    · unfold Gives
      go_simp
      exact gives_val ((Below.refl _ _).alloc (Nat.le_refl _) _) (show Spec.ok (.ints [1]) _ _ from ⟨_, rfl, ints_at [1] rfl⟩)
    refine ⟨⟨fun _ _ h => h, fun A v hK hF => ?_⟩, ?_⟩
    · obtain ⟨a138, f138, s138⟩ : ∃ ao, A.tmps[138]?.getD undef = .slice ao 1 1 ∧ Ints v ao [1] := fact_some (hF 138) (j := 74) (by kernel_rfl) (by kernel_rfl)
      unfold Gives
      go_simp
      exact gives_enter ((rof_c a138 [1] 1 v s138 (by unfold maxLen; decide)).mono fun e w'' ⟨he, hb⟩ => ⟨_, he, hb, rfl⟩)
    refine ⟨⟨fun _ _ h => h, fun A v hK hF => ?_⟩, ?_⟩
    · have f137 : A.tmps[137]?.getD undef = .agg #[.int .u64 (ofI [1] 0), .int .u64 (ofI [1] 1), .int .u64 (ofI [1] 2), .int .u64 (ofI [1] 3)] := fact_some (hF 137) (j := 73) (by kernel_rfl) (by kernel_rfl)
      have f139 : A.tmps[139]?.getD undef = .agg #[.int .u64 (ofI [1] 0), .int .u64 (ofI [1] 1), .int .u64 (ofI [1] 2), .int .u64 (ofI [1] 3)] := fact_some (hF 139) (j := 75) (by kernel_rfl) (by kernel_rfl)
      unfold Gives
      go_simp
      exact gives_val (Below.refl _ _) rfl
    refine ⟨⟨trivial, fun A v hK hF => ?_⟩, ?_⟩
    · have f136 : A.tmps[136]?.getD undef = .bool true := fact_some (hF 136) (j := 72) (by kernel_rfl) (by kernel_rfl)
      have f140 : A.tmps[140]?.getD undef = .bool true := fact_some (hF 140) (j := 76) (by kernel_rfl) (by kernel_rfl)
      unfold Gives
      go_simp
      exact gives_val (Below.refl _ _) rfl
    refine ⟨⟨trivial, fun A v hK hF => ?_⟩, ?_⟩
    · have f141 : A.tmps[141]?.getD undef = .bool true := fact_some (hF 141) (j := 77) (by kernel_rfl) (by kernel_rfl)
      unfold Gives
      go_simp
      exact gives_val (Below.refl _ _) rfl
    refine ⟨⟨fun _ _ h => h, fun A v hK hF => ?_⟩, ?_⟩
    · have f13 : A.tmps[13]?.getD undef = .int .i64 0 := fact_none (hF 13) (by kernel_rfl)
      unfold Gives
      go_simp
      exact gives_val (Below.refl _ _) rfl
    refine ⟨⟨fun _ _ h => h, fun A v hK hF => ?_⟩, ?_⟩
    · have f143 : A.tmps[143]?.getD undef = .int .i64 0 := fact_some (hF 143) (j := 79) (by kernel_rfl) (by kernel_rfl)
      unfold Gives
      go_simp
      exact gives_val (Below.refl _ _) rfl
    refine ⟨⟨trivial, fun A v hK hF => ?_⟩, ?_⟩
    · have f142 : A.tmps[142]?.getD undef = .bool true := fact_some (hF 142) (j := 78) (by kernel_rfl) (by kernel_rfl)
      have f144 : A.tmps[144]?.getD undef = .bool true := fact_some (hF 144) (j := 80) (by kernel_rfl) (by kernel_rfl)
      unfold Gives
      go_simp
      exact gives_val (Below.refl _ _) rfl
    refine ⟨⟨trivial, fun A v hK hF => ?_⟩, ?_⟩
    · have f145 : A.tmps[145]?.getD undef = .bool true := fact_some (hF 145) (j := 81) (by kernel_rfl) (by kernel_rfl)
      unfold Gives
      go_simp
      exact gives_val (Below.refl _ _) rfl
    refine ⟨⟨fun _ _ h => h, fun A v hK hF => ?_⟩, ?_⟩
    · have f15 : A.tmps[15]?.getD undef = .int .i64 20 := fact_none (hF 15) (by kernel_rfl)
      unfold Gives
      go_simp
      exact gives_val (Below.refl _ _) rfl
    refine ⟨⟨fun _ _ h => h, fun A v hK hF => ?_⟩, ?_⟩
    · have f147 : A.tmps[147]?.getD undef = .int .i64 20 := fact_some (hF 147) (j := 83) (by kernel_rfl) (by kernel_rfl)
      unfold Gives
      go_simp
      exact gives_val (Below.refl _ _) rfl
    refine ⟨⟨trivial, fun A v hK hF => ?_⟩, ?_⟩
    · have f146 : A.tmps[146]?.getD undef = .bool true := fact_some (hF 146) (j := 82) (by kernel_rfl) (by kernel_rfl)
      have f148 : A.tmps[148]?.getD undef = .bool true := fact_some (hF 148) (j := 84) (by kernel_rfl) (by kernel_rfl)
      unfold Gives
      go_simp
      exact gives_val (Below.refl _ _) rfl
    refine ⟨⟨trivial, fun A v hK hF => ?_⟩, ?_⟩
    · have f149 : A.tmps[149]?.getD undef = .bool true := fact_some (hF 149) (j := 85) (by kernel_rfl) (by kernel_rfl)
      unfold Gives
      go_simp
      exact gives_val (Below.refl _ _) rfl
    refine ⟨⟨fun _ _ h => h, fun A v hK hF => ?_⟩, ?_⟩
    · unfold Gives
      go_simp
      exact gives_val ((Below.refl _ _).alloc (Nat.le_refl _) _) (show Spec.ok (.ints [0, 2, 9]) _ _ from ⟨_, rfl, ints_at [0, 2, 9] rfl⟩)
    refine ⟨⟨fun _ _ h => h, fun A v hK hF => ?_⟩, ?_⟩
    · obtain ⟨a151, f151, s151⟩ : ∃ ao, A.tmps[151]?.getD undef = .slice ao 3 3 ∧ Ints v ao [0, 2, 9] := fact_some (hF 151) (j := 87) (by kernel_rfl) (by kernel_rfl)
      unfold Gives
      go_simp
      exact gives_enter ((rof_c a151 [0, 2, 9] 3 v s151 (by unfold maxLen; decide)).mono fun e w'' ⟨he, hb⟩ => ⟨_, he, hb, rfl⟩)
    refine ⟨⟨fun _ _ h => h, fun A v hK hF => ?_⟩, ?_⟩
    · unfold Gives
      go_simp
      refine gives_enter ((sample_c v).mono ?_)
      rintro e w2 ⟨vT, vA, rfl, hT, hA, hb⟩
      obtain ⟨aoT, capT, rfl, -⟩ := id hT
      obtain ⟨aoA, capA, rfl, -⟩ := id hA
      exact ⟨_, rfl, hb, (show Spec.ok .env _ _ from ⟨_, _, _, _, rfl, hT, hA⟩)⟩
    refine ⟨⟨fun _ _ h => h, fun A v hK hF => ?_⟩, ?_⟩
    · obtain ⟨a153, c153, b153, d153, f153, s153, r153⟩ : ∃ aT cT aA cA, A.tmps[153]?.getD undef = .agg #[.slice aT sTs.length cT, .slice aA sAs.length cA] ∧ Tys v (.slice aT sTs.length cT) sTs ∧ Ats v (.slice aA sAs.length cA) sAs := fact_some (hF 153) (j := 89) (by kernel_rfl) (by kernel_rfl)
      unfold Gives
      go_simp
      exact gives_val (Below.refl _ _) (show Spec.ok .tys _ _ from ⟨_, _, rfl, s153⟩)
    refine ⟨⟨fun _ _ h => h, fun A v hK hF => ?_⟩, ?_⟩
    · have f152 : A.tmps[152]?.getD undef = .agg #[.int .u64 (ofI [0, 2, 9] 0), .int .u64 (ofI [0, 2, 9] 1), .int .u64 (ofI [0, 2, 9] 2), .int .u64 (ofI [0, 2, 9] 3)] := fact_some (hF 152) (j := 88) (by kernel_rfl) (by kernel_rfl)
      obtain ⟨a154, c154, f154, s154⟩ : ∃ aT cT, A.tmps[154]?.getD undef = .slice aT sTs.length cT ∧ Tys v (.slice aT sTs.length cT) sTs := fact_some (hF 154) (j := 90) (by kernel_rfl) (by kernel_rfl)
      unfold Gives
      go_simp
      refine gives_enter ((Names_c (ofS [0, 2, 9]) _ sTs v s154 (by decide) (of_U [0, 2, 9])).mono ?_)
      rintro e w2 ⟨vN, rfl, ho, hb⟩
      rw [awN] at ho
      obtain ⟨aoN, capN, rfl, -, hNS⟩ := ho.strs
      exact ⟨_, rfl, hb, (show Spec.ok (.nms [⟨#[97]⟩, ⟨#[99]⟩]) _ _ from ⟨_, _, rfl, hNS⟩)⟩
    refine ⟨⟨fun _ _ h => h, fun A v hK hF => ?_⟩, ?_⟩
    · obtain ⟨a155, c155, f155, s155⟩ : ∃ aN cN, A.tmps[155]?.getD undef = .agg #[.bool false, .bool false, .bool false, .slice aN 2 cN, .slice none 0 0] ∧ Strs v (.slice aN 2 cN) [⟨#[97]⟩, ⟨#[99]⟩] := fact_some (hF 155) (j := 91) (by kernel_rfl) (by kernel_rfl)
      unfold Gives
      go_simp
      exact gives_val (Below.refl _ _) (show Spec.ok (.strs [⟨#[97]⟩, ⟨#[99]⟩]) _ _ from ⟨_, _, rfl, s155⟩)
    refine ⟨⟨fun _ _ h => h, fun A v hK hF => ?_⟩, ?_⟩
    · unfold Gives
      go_simp
      exact gives_val ((Below.refl _ _).alloc (Nat.le_refl _) _) (show Spec.ok (.strs [⟨#[97]⟩, ⟨#[99]⟩]) _ _ from ⟨_, _, rfl, strs_new2 ⟨#[97]⟩ ⟨#[99]⟩ rfl⟩)
    refine ⟨⟨fun _ _ h => h, fun A v hK hF => ?_⟩, ?_⟩
    · obtain ⟨a156, c156, f156, s156⟩ : ∃ ao cap, A.tmps[156]?.getD undef = .slice ao 2 cap ∧ Strs v (.slice ao 2 cap) [⟨#[97]⟩, ⟨#[99]⟩] := fact_some (hF 156) (j := 92) (by kernel_rfl) (by kernel_rfl)
      obtain ⟨a157, c157, f157, s157⟩ : ∃ ao cap, A.tmps[157]?.getD undef = .slice ao 2 cap ∧ Strs v (.slice ao 2 cap) [⟨#[97]⟩, ⟨#[99]⟩] := fact_some (hF 157) (j := 93) (by kernel_rfl) (by kernel_rfl)
      unfold Gives
      go_simp
      have h := same_c _ _ [⟨#[97]⟩, ⟨#[99]⟩] [⟨#[97]⟩, ⟨#[99]⟩] v s156 s157 (by simp)
      rw [sameS_self] at h
      exact gives_enter (h.mono fun e w'' ⟨he, hb⟩ => ⟨_, he, hb, rfl⟩)
    refine ⟨⟨trivial, fun A v hK hF => ?_⟩, ?_⟩
    · have f150 : A.tmps[150]?.getD undef = .bool true := fact_some (hF 150) (j := 86) (by kernel_rfl) (by kernel_rfl)
      have f158 : A.tmps[158]?.getD undef = .bool true := fact_some (hF 158) (j := 94) (by kernel_rfl) (by kernel_rfl)
      unfold Gives
      go_simp
      exact gives_val (Below.refl _ _) rfl
    refine ⟨⟨trivial, fun A v hK hF => ?_⟩, ?_⟩
    · have f159 : A.tmps[159]?.getD undef = .bool true := fact_some (hF 159) (j := 95) (by kernel_rfl) (by kernel_rfl)
      unfold Gives
      go_simp
      exact gives_val (Below.refl _ _) rfl
    refine ⟨⟨fun _ _ h => h, fun A v hK hF => ?_⟩, ?_⟩
    · have f3 : A.tmps[3]?.getD undef = .pointer (some ⟨w2.heap.size + 1 + 1, 0, none⟩) := fact_none (hF 3) (by kernel_rfl)
      obtain ⟨q0, q1⟩ := (HCL.out.keep hK).two
      unfold Gives
      go_simp
      exact gives_val (Below.refl _ _) rfl
    refine ⟨⟨fun _ _ h => h, fun A v hK hF => ?_⟩, ?_⟩
    · have f161 : A.tmps[161]?.getD undef = .agg #[.string ⟨#[]⟩, .slice (some ⟨w2.heap.size + 1, 0, none⟩) 2 2] := fact_some (hF 161) (j := 97) (by kernel_rfl) (by kernel_rfl)
      unfold Gives
      go_simp
      refine gives_enter ((Vector_c 6 ⟨#[]⟩ (.slice (some ⟨w2.heap.size + 1, 0, none⟩) 2 2) rw2 v (HRW.out.keep hK) (by decide) (by decide) (by decide)).mono ?_)
      rintro e w2 ⟨vV, rfl, ho, hb⟩
      rw [awV] at ho
      obtain ⟨aoV, capV, rfl, -, hVS⟩ := ho.strs
      exact ⟨_, rfl, hb, (show Spec.ok (.strs [⟨#[119, 114, 105, 116, 101]⟩]) _ _ from ⟨_, _, rfl, hVS⟩)⟩
    refine ⟨⟨fun _ _ h => h, fun A v hK hF => ?_⟩, ?_⟩
    · unfold Gives
      go_simp
      exact gives_val ((Below.refl _ _).alloc (Nat.le_refl _) _) (show Spec.ok (.strs [⟨#[119, 114, 105, 116, 101]⟩]) _ _ from ⟨_, _, rfl, strs_new1 ⟨#[119, 114, 105, 116, 101]⟩ rfl⟩)
    refine ⟨⟨fun _ _ h => h, fun A v hK hF => ?_⟩, ?_⟩
    · obtain ⟨a162, c162, f162, s162⟩ : ∃ ao cap, A.tmps[162]?.getD undef = .slice ao 1 cap ∧ Strs v (.slice ao 1 cap) [⟨#[119, 114, 105, 116, 101]⟩] := fact_some (hF 162) (j := 98) (by kernel_rfl) (by kernel_rfl)
      obtain ⟨a163, c163, f163, s163⟩ : ∃ ao cap, A.tmps[163]?.getD undef = .slice ao 1 cap ∧ Strs v (.slice ao 1 cap) [⟨#[119, 114, 105, 116, 101]⟩] := fact_some (hF 163) (j := 99) (by kernel_rfl) (by kernel_rfl)
      unfold Gives
      go_simp
      have h := same_c _ _ [⟨#[119, 114, 105, 116, 101]⟩] [⟨#[119, 114, 105, 116, 101]⟩] v s162 s163 (by simp)
      rw [sameS_self] at h
      exact gives_enter (h.mono fun e w'' ⟨he, hb⟩ => ⟨_, he, hb, rfl⟩)
    refine ⟨⟨trivial, fun A v hK hF => ?_⟩, ?_⟩
    · have f160 : A.tmps[160]?.getD undef = .bool true := fact_some (hF 160) (j := 96) (by kernel_rfl) (by kernel_rfl)
      have f164 : A.tmps[164]?.getD undef = .bool true := fact_some (hF 164) (j := 100) (by kernel_rfl) (by kernel_rfl)
      unfold Gives
      go_simp
      exact gives_val (Below.refl _ _) rfl
    refine ⟨⟨trivial, fun A v hK hF => ?_⟩, ?_⟩
    · have f165 : A.tmps[165]?.getD undef = .bool true := fact_some (hF 165) (j := 101) (by kernel_rfl) (by kernel_rfl)
      unfold Gives
      go_simp
      exact gives_val (Below.refl _ _) rfl
    exact trivial
  · intro a v hK hsz hdf hF
    have f0 : a.eval (.tmp 0) = .bool true := by
      have h := hF 0
      unfold factEnd at h
      rw [show srcOf _ _ 0 = some 102 from by kernel_rfl] at h
      exact h
    have f1 : a.tmps[0]?.getD undef = .bool true := by simpa [Act.eval] using f0
    have HB := Lib.hid (Kp.step HK.out hK)
    clear hF f1 HQ8 HQ10 HQ12 HCL HRW HK hK
    refine (by assumption : ∀ (a : Act) (w : World), Code.wp Try.prog Code.ret _ a w → _) a v ?_
    have hfin : Ending.returned (a.tmps.getD 0 undef) = .returned (.bool true) ∧ Below w.heap.size w v := ⟨by
      show Ending.returned (a.eval (.tmp 0)) = _
      rw [f0], HB.out⟩
    refine wp_ret ?_
    show bodyPost Try.prog Try.f9 (fun e w' => e = .returned (.bool true) ∧ Below w.heap.size w w') Exit.ret a v
    exact bodyPost_ret (results_tmp (fn := Try.f9) (t := 0) rfl a.tmps _ _) hdf hfin
end Go.Proofs.Ytbkejoheefnmiaa
