/- awake: the examples of the chapter, run. -/
import Derived.Test.YthjebccidcichaaLvx
namespace Go.Proofs.Ythjebccidcichaa
open Go.RowKit
theorem Blk.strs {w : World} {g cap : Nat} {t : TypeId} {cs : Array Value} {L : List ByteArray} (h : Blk w g t cs) (hc : cs = (L.map Value.string).toArray) : Strs w (.slice (some ⟨g, 0, none⟩) L.length cap) L := by
  subst hc
  refine ⟨_, _, rfl, fun _ => ⟨g, 0, rfl, fun k hk => ?_⟩⟩
  rw [Nat.zero_add, h.cell]
  simp [hk]
set_option maxRecDepth 100000 in
set_option maxHeartbeats 8000000 in
theorem awake_c (w : World) :
    Calls Try.prog 16 #[] w fun e w' => e = .returned (.bool true) ∧ Below w.heap.size w w' := by
  obtain ⟨hB1, hB2, hW0, hz⟩ := two_box w 9 9 #[.string ⟨#[115, 48]⟩, .string ⟨#[115, 49]⟩] #[.string ⟨#[99, 48]⟩, .string ⟨#[99, 49]⟩, .string ⟨#[99, 50]⟩, .string ⟨#[99, 51]⟩, .string ⟨#[99, 52]⟩, .string ⟨#[99, 53]⟩]
  have hV : Strs _ (.slice (some ⟨w.heap.size, 0, none⟩) 2 2) exS := hB1.strs (L := exS) rfl
  have hU : Strs _ (.slice (some ⟨w.heap.size + 1, 0, none⟩) 6 6) exC := hB2.strs (L := exC) rfl
  have q3 := Blk.new ((w.alloc (.cells #[.string ⟨#[115, 48]⟩, .string ⟨#[115, 49]⟩] 9)).alloc (.cells #[.string ⟨#[99, 48]⟩, .string ⟨#[99, 49]⟩, .string ⟨#[99, 50]⟩, .string ⟨#[99, 51]⟩, .string ⟨#[99, 52]⟩, .string ⟨#[99, 53]⟩] 9)) 26 #[.int .i64 0, .int .u64 2, .int .i64 1, .int .u64 23]
  rw [hz] at q3
  have hW1 := hW0.alloc (by omega) (.cells #[.int .i64 0, .int .u64 2, .int .i64 1, .int .u64 23] 26)
  have hbb : Below ((w.alloc (.cells #[.string ⟨#[115, 48]⟩, .string ⟨#[115, 49]⟩] 9)).alloc (.cells #[.string ⟨#[99, 48]⟩, .string ⟨#[99, 49]⟩, .string ⟨#[99, 50]⟩, .string ⟨#[99, 51]⟩, .string ⟨#[99, 52]⟩, .string ⟨#[99, 53]⟩] 9)).heap.size _ _ := (Below.refl _ _).alloc (Nat.le_refl _) (.cells #[.int .i64 0, .int .u64 2, .int .i64 1, .int .u64 23] 26)
  replace hV := hV.keep hbb
  replace hU := hU.keep hbb
  clear hB1 hB2 hW0 hz hbb
  have hT := fun W hv hu => ltext_c 0 2 1 23 (.slice (some ⟨w.heap.size, 0, none⟩) 2 2) (.slice (some ⟨w.heap.size + 1, 0, none⟩) 6 6) exS exC W (by decide) (by decide) hv hu ex_few.1 ex_few.2
  have hP1 := fun W hv hu => parse_c [115, 49, 58, 99, 51, 46, 99, 52, 44, 99, 48, 44, 99, 49] (.slice (some ⟨w.heap.size, 0, none⟩) 2 2) (.slice (some ⟨w.heap.size + 1, 0, none⟩) 6 6) exS exC W (by decide) hv hu ex_few.1 ex_few.2
  have hP2 := fun W hv hu => parse_c [115, 48, 58, 99, 50, 46, 99, 49] (.slice (some ⟨w.heap.size, 0, none⟩) 2 2) (.slice (some ⟨w.heap.size + 1, 0, none⟩) 6 6) exS exC W (by decide) hv hu ex_few.1 ex_few.2
  have hP3 := fun W hv hu => parse_c [115, 48, 58] (.slice (some ⟨w.heap.size, 0, none⟩) 2 2) (.slice (some ⟨w.heap.size + 1, 0, none⟩) 6 6) exS exC W (by decide) hv hu ex_few.1 ex_few.2
  rw [ex_txt, ex_srcE] at hT
  rw [ex_p1.1, ex_p1.2] at hP1
  rw [ex_p2.1, ex_p2.2] at hP2
  rw [ex_p3.1, ex_p3.2] at hP3
  have HT := Lib.hid hT
  have HP1 := Lib.hid hP1
  have HP2 := Lib.hid hP2
  have HP3 := Lib.hid hP3
  have HR : Hid (∀ W, Calls Try.prog 18 #[.agg #[.int .i64 0, .int .u64 2], .agg #[.int .i64 1, .int .u64 1]] W fun e w' => e = .returned (.int .i64 4) ∧ Below W.heap.size W w') := Lib.hid fun W => relation_c 0 2 1 1 W (by decide) (by decide)
  have HJ : Hid (∀ W, Calls Try.prog 21 #[.agg #[.int .i64 0, .int .u64 2], .agg #[.int .i64 1, .int .u64 1]] W fun e w' => e = .returned (.agg #[.int .i64 1, .int .u64 3]) ∧ Below W.heap.size W w') := Lib.hid fun W => join_c 0 2 1 1 W (by decide) (by decide)
  have HM : Hid (∀ W, Calls Try.prog 22 #[.agg #[.int .i64 0, .int .u64 2], .agg #[.int .i64 1, .int .u64 1]] W fun e w' => e = .returned (.agg #[.int .i64 0, .int .u64 0]) ∧ Below W.heap.size W w') := Lib.hid fun W => meet_c 0 2 1 1 W (by decide) (by decide)
  have HC : Hid (∀ W, Calls Try.prog 14 #[.agg #[.int .i64 0, .int .u64 2, .int .i64 1, .int .u64 23], .int .i64 2, .int .i64 6] W fun e w' => e = .returned (.bool true) ∧ Below W.heap.size W w') := Lib.hid fun W => checkRange_c 0 2 1 23 2 6 W (by decide) (by decide)
  have HK : Hid (∀ W, Calls Try.prog 12 #[.agg #[.int .i64 0, .int .u64 2], .int .i64 2, .int .i64 1] W fun e w' => e = .returned (.bool false) ∧ Below W.heap.size W w') := Lib.hid fun W => check_c 0 2 2 1 W
  have HV := Lib.hid hV
  have HU := Lib.hid hU
  have HQ3 := Lib.hid q3
  clear hT hP1 hP2 hP3 hV hU q3
  go_enter Try.func16, Try.ntmps16
  go_wp2_with fail
  refine (HT.out _ HV.out HU.out).mono ?_
  rintro e w1 ⟨rfl, hb⟩
  have hC := hW1.trans (hb.mono hW1.size)
  have HV := Lib.hid (HV.out.keep hb)
  have HU := Lib.hid (HU.out.keep hb)
  have HQ3 := Lib.hid (HQ3.out.keep hb)
  clear hb HT hW1
  go_wp2_with fail
  refine (HP1.out _ HV.out HU.out).mono ?_
  rintro e v1 ⟨rfl, hb⟩
  have hbb : Below v1.heap.size v1 (v1.alloc (.cells #[.int .i64 1, .int .u64 27, .int .i64 1, .int .u64 27] 26)) := (Below.refl _ _).alloc (Nat.le_refl _) _
  replace hC := (hC.trans (hb.mono hC.size)).trans (hbb.mono (hC.trans (hb.mono hC.size)).size)
  have HV := Lib.hid ((HV.out.keep hb).keep hbb)
  have HU := Lib.hid ((HU.out.keep hb).keep hbb)
  have HQ3 := Lib.hid ((HQ3.out.keep hb).keep hbb)
  have HQ6 := Lib.hid (Blk.new v1 26 #[.int .i64 1, .int .u64 27, .int .i64 1, .int .u64 27])
  clear hb hbb HP1
  go_wp2_with fail
  refine (HP2.out _ HV.out HU.out).mono ?_
  rintro e v2 ⟨rfl, hb⟩
  have hbb : Below v2.heap.size v2 (v2.alloc (.cells #[.int .i64 0, .int .u64 0, .int .i64 0, .int .u64 0] 26)) := (Below.refl _ _).alloc (Nat.le_refl _) _
  replace hC := (hC.trans (hb.mono hC.size)).trans (hbb.mono (hC.trans (hb.mono hC.size)).size)
  have HV := Lib.hid ((HV.out.keep hb).keep hbb)
  have HU := Lib.hid ((HU.out.keep hb).keep hbb)
  have HQ3 := Lib.hid ((HQ3.out.keep hb).keep hbb)
  have HQ6 := Lib.hid ((HQ6.out.keep hb).keep hbb)
  clear hb hbb HP2
  go_wp2_with fail
  refine (HP3.out _ HV.out HU.out).mono ?_
  rintro e v3 ⟨rfl, hb⟩
  have hbb : Below v3.heap.size v3 (v3.alloc (.cells #[.int .i64 0, .int .u64 0, .int .i64 0, .int .u64 0] 26)) := (Below.refl _ _).alloc (Nat.le_refl _) _
  replace hC := (hC.trans (hb.mono hC.size)).trans (hbb.mono (hC.trans (hb.mono hC.size)).size)
  have HV := Lib.hid ((HV.out.keep hb).keep hbb)
  have HU := Lib.hid ((HU.out.keep hb).keep hbb)
  have HQ3 := Lib.hid ((HQ3.out.keep hb).keep hbb)
  have HQ6 := Lib.hid ((HQ6.out.keep hb).keep hbb)
  clear hb hbb HP3
  obtain ⟨b12, b13, hW5, hz⟩ := two_box (v3.alloc (.cells #[.int .i64 0, .int .u64 0, .int .i64 0, .int .u64 0] 26)) 24 24 #[.int .i64 0, .int .u64 2] #[.int .i64 1, .int .u64 1]
  have HQ12 := Lib.hid b12
  have HQ13 := Lib.hid b13
  have HQ3 := Lib.hid (HQ3.out.keep hW5)
  have HQ6 := Lib.hid (HQ6.out.keep hW5)
  replace hC := hC.trans (hW5.mono hC.size)
  obtain ⟨y0, y1, y2, y3⟩ := HQ6.out.box4
  have hsz : (v3.alloc (.cells #[.int .i64 0, .int .u64 0, .int .i64 0, .int .u64 0] 26)).heap.size = v3.heap.size + 1 := by simp
  rw [hsz] at HQ12 HQ13
  clear b12 b13 hW5 hz HV HU
  go_wp2_with fail
  refine (HR.out _).mono ?_
  rintro e u0 ⟨rfl, hb⟩
  replace hC := hC.trans (hb.mono hC.size)
  have HQ3 := Lib.hid (HQ3.out.keep hb)
  have HQ12 := Lib.hid (HQ12.out.keep hb)
  have HQ13 := Lib.hid (HQ13.out.keep hb)
  obtain ⟨y0, y1, y2, y3⟩ := HQ3.out.box4
  obtain ⟨z0, z1⟩ := HQ12.out.box2
  obtain ⟨x0, x1⟩ := HQ13.out.box2
  clear hb HR
  go_wp2_with fail
  refine (HJ.out _).mono ?_
  rintro e u1 ⟨rfl, hb⟩
  replace hC := hC.trans (hb.mono hC.size)
  have HQ3 := Lib.hid (HQ3.out.keep hb)
  have HQ12 := Lib.hid (HQ12.out.keep hb)
  have HQ13 := Lib.hid (HQ13.out.keep hb)
  obtain ⟨y0, y1, y2, y3⟩ := HQ3.out.box4
  obtain ⟨z0, z1⟩ := HQ12.out.box2
  obtain ⟨x0, x1⟩ := HQ13.out.box2
  clear hb HJ
  go_wp2_with fail
  refine (HM.out _).mono ?_
  rintro e u2 ⟨rfl, hb⟩
  replace hC := hC.trans (hb.mono hC.size)
  have HQ3 := Lib.hid (HQ3.out.keep hb)
  have HQ12 := Lib.hid (HQ12.out.keep hb)
  have HQ13 := Lib.hid (HQ13.out.keep hb)
  obtain ⟨y0, y1, y2, y3⟩ := HQ3.out.box4
  obtain ⟨z0, z1⟩ := HQ12.out.box2
  obtain ⟨x0, x1⟩ := HQ13.out.box2
  clear hb HM
  go_wp2_with fail
  refine (HC.out _).mono ?_
  rintro e u3 ⟨rfl, hb⟩
  replace hC := hC.trans (hb.mono hC.size)
  have HQ3 := Lib.hid (HQ3.out.keep hb)
  have HQ12 := Lib.hid (HQ12.out.keep hb)
  have HQ13 := Lib.hid (HQ13.out.keep hb)
  obtain ⟨y0, y1, y2, y3⟩ := HQ3.out.box4
  obtain ⟨z0, z1⟩ := HQ12.out.box2
  obtain ⟨x0, x1⟩ := HQ13.out.box2
  clear hb HC
  go_wp2_with fail
  refine (HK.out _).mono ?_
  rintro e u4 ⟨rfl, hb⟩
  replace hC := hC.trans (hb.mono hC.size)
  have HQ3 := Lib.hid (HQ3.out.keep hb)
  have HQ12 := Lib.hid (HQ12.out.keep hb)
  have HQ13 := Lib.hid (HQ13.out.keep hb)
  obtain ⟨y0, y1, y2, y3⟩ := HQ3.out.box4
  obtain ⟨z0, z1⟩ := HQ12.out.box2
  obtain ⟨x0, x1⟩ := HQ13.out.box2
  clear hb HK
  go_wp2_with fail
  go_ret
  exact ⟨rfl, hC⟩
end Go.Proofs.Ythjebccidcichaa
