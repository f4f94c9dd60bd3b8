/- same. -/
import Derived.Test.YtcainohglmgdpaaRvj
namespace Go.Proofs.Ytcainohglmgdpaa
open Go.RowKit Go.Maps Go.WideElems Go.WideMaps Go.WideShapes Go.Sort Go.Shelf
def sPhi (g : Nat) (a : Option Addr) (n c : Nat) (S : RS) (k : Nat) (v : Value) (wq : World) : Prop := match k with
  | 0 => v = .int .i64 S.al
  | 1 => v = .int .i64 S.al
  | 2 => v = .bool false
  | 3 => v = .bool false
  | 4 => v = .int .i64 S.dr
  | 5 => v = .int .i64 S.dr
  | 6 => v = .bool false
  | 7 => v = .bool false
  | 8 => v = .bool false
  | 9 => v = .pointer (some ⟨g, 0, none⟩)
  | 10 => Rows' RSt wq v (S.L.map Bk.k)
  | 11 => v = .agg #[.int .i64 S.b, .int .i64 S.i, .int .i64 S.n, .int .i64 S.t, .slice a n c, .int .i64 S.al, .int .i64 S.dr]
  | 12 => Rows' RSt wq v (S.L.map Bk.k)
  | 13 => v = .bool true
  | 14 => v = .bool false
  | 15 => v = .bool false
  | _ => True
theorem sPhi_keep {g n c k : Nat} {a : Option Addr} {S : RS} {v : Value} {u u2 : World} (h : sPhi g a n c S k v u) (hb : Below u.heap.size u u2) : sPhi g a n c S k v u2 := by
  match k, h with
  | 0, h => exact h
  | 1, h => exact h
  | 2, h => exact h
  | 3, h => exact h
  | 4, h => exact h
  | 5, h => exact h
  | 6, h => exact h
  | 7, h => exact h
  | 8, h => exact h
  | 9, h => exact h
  | 10, h => exact Rows'.below (show Rows' RSt u v (S.L.map Bk.k) from h) hb
  | 11, h => exact h
  | 12, h => exact Rows'.below (show Rows' RSt u v (S.L.map Bk.k) from h) hb
  | 13, h => exact h
  | 14, h => exact h
  | 15, h => exact h
  | _ + 16, _ => exact trivial
section
variable {w w' : World} {g m B : Nat} {S : RS} {a a1 : Option Addr} {n c n1 c1 : Nat} {e : Int}
set_option maxRecDepth 100000 in
set_option maxHeartbeats 8000000 in
theorem same_c {L : List Ev} (h : Rows' RBk w (.slice a n c) S.L) (hl : Lim w g m S) (hS : S.Ok e) (hn : n1 ≤ 60) (hE : OkE L) (hL : Rows' REv w (.slice a1 n1 c1) L) :
    Calls Try.prog 13 #[.pointer (some ⟨g, 0, none⟩), .agg #[.int .i64 S.b, .int .i64 S.i, .int .i64 S.n, .int .i64 S.t, .slice a n c, .int .i64 S.al, .int .i64 S.dr], .slice a1 n1 c1] w fun r w' => r = .returned (.bool true) ∧ Below w.heap.size w w' := by
  have hsl : S.L.length ≤ 1024 := by have h1 := hS.len; have h2 := hS.n1; omega
  have HR := Lib.hid h
  have HLM := Lib.hid hl
  have HOK := Lib.hid hS
  have HE := Lib.hid hE
  have HL := Lib.hid hL
  have HN : Hid (n1 = L.length ∧ n1 ≤ 60) := Lib.hid ⟨rows_len hL, hn⟩
  have HTX : Hid (∀ v u w1, Rows' RSt w1 v (S.L.map Bk.k) → Rows' RSt w1 u (S.L.map Bk.k) → Calls Try.prog 21 #[v, u] w1 fun e w' => e = .returned (.bool true) ∧ Below w1.heap.size w1 w') := Lib.hid fun v u w1 h1 h2 => by
    have := texts_c v u _ _ w1 h1 h2 (by rw [List.length_map]; omega) (by rw [List.length_map]; omega)
    rwa [sameS_self] at this
  clear h hl hS hn hE hL hsl
  have HB : Hid (Below w.heap.size w (w.alloc (.cells #[.int .i64 S.b, .int .i64 S.i, .int .i64 S.n, .int .i64 S.t, .slice a n c, .int .i64 S.al, .int .i64 S.dr] 29))) := Lib.hid ((Below.refl _ _).alloc (Nat.le_refl _) _)
  have HX : Hid (Blk (w.alloc (.cells #[.int .i64 S.b, .int .i64 S.i, .int .i64 S.n, .int .i64 S.t, .slice a n c, .int .i64 S.al, .int .i64 S.dr] 29)) w.heap.size 29 #[.int .i64 S.b, .int .i64 S.i, .int .i64 S.n, .int .i64 S.t, .slice a n c, .int .i64 S.al, .int .i64 S.dr]) := Lib.hid (Blk.new _ _ _)
  go_enter Try.func13, Try.ntmps13
  go_upto_region 1 with fail
  generalize w.alloc (.cells #[.int .i64 S.b, .int .i64 S.i, .int .i64 S.n, .int .i64 S.t, .slice a n c, .int .i64 S.al, .int .i64 S.dr] 29) = W at *
  have HLW := Lib.hid (HLM.out.keep HB.out)
  have HT1 := Lib.hid (total_c HLW.out)
  have HT2 := Lib.hid fun w1 => rtotal_c (S := S) (.slice a n c) w1
  generalize hp : w.heap.size = p at HX
  have HP := Lib.hid hp
  clear hp
  go_upto_region 4 with (go_at_call 17; with_reducible refine HT1.out.mono ?_; rintro r W1 ⟨rfl, hb⟩; have HX1 := Lib.hid (HX.out.keep hb); have HB1 := Lib.hid (HB.out.trans (hb.mono HB.out.size)); clear hb)
  clear HX HB HT1 HLW
  obtain ⟨x0, x1, x2, x3, x4, x5, x6⟩ := HX1.out.cells7
  go_upto_region 5 with (go_at_call 23; with_reducible refine (HT2.out _).mono ?_; rintro r W2 ⟨rfl, hb⟩; have HX2 := Lib.hid (HX1.out.keep hb); have HB2 := Lib.hid (HB1.out.trans (hb.mono HB1.out.size)); clear hb)
  clear x0 x1 x2 x3 x4 x5 x6 HX1 HB1 HT2
  have HLM2 := Lib.hid (HLM.out.keep HB2.out)
  have HR2 := Lib.hid (HR.out.below HB2.out)
  have HLK := Lib.hid fun w1 (h1 : Kp W2 w1) => lkeys_c (HLM2.out.keep h1) HOK.out
  have HRK := Lib.hid fun w1 (h1 : Kp W2 w1) => rkeys_c (HR2.out.below h1) HOK.out
  refine wp_region_obs (sPhi g a n c S) (by kernel_rfl) (by kernel_rfl) (fun k v u u2 h hb => sPhi_keep h hb) ?_ ?_
  · refine ⟨⟨trivial, fun A uw hK hF => ?_⟩, ⟨trivial, fun A uw hK hF => ?_⟩, ⟨trivial, fun A uw hK hF => ?_⟩, ⟨trivial, fun A uw hK hF => ?_⟩, ⟨fun v w h => h, fun A uw hK hF => ?_⟩, ⟨fun v w h => h, fun A uw hK hF => ?_⟩, ⟨fun v w h => h, fun A uw hK hF => ?_⟩, ⟨trivial, fun A uw hK hF => ?_⟩, ⟨trivial, fun A uw hK hF => ?_⟩, ⟨fun v w h => h, fun A uw hK hF => ?_⟩, ⟨fun v w h => h, fun A uw hK hF => ?_⟩, ⟨fun v w h => h, fun A uw hK hF => ?_⟩, ⟨fun v w h => h, fun A uw hK hF => ?_⟩, ⟨fun v w h => h, fun A uw hK hF => ?_⟩, ⟨fun v w h => h, fun A uw hK hF => ?_⟩, ⟨trivial, fun A uw hK hF => ?_⟩, trivial⟩
    · have f7 : A.tmps[7]?.getD undef = .int .i64 S.al := fact_none (hF 7) (by kernel_rfl)
      unfold Gives
      go_simp
      exact gives_val (Below.refl _ _) (by first | rfl | simp)
    · have f9 : A.tmps[9]?.getD undef = .int .i64 S.al := fact_none (hF 9) (by kernel_rfl)
      unfold Gives
      go_simp
      exact gives_val (Below.refl _ _) (by first | rfl | simp)
    · have f24 : A.tmps[24]?.getD undef = .int .i64 S.al := fact_some (hF 24) (j := 0) (by kernel_rfl) (by kernel_rfl)
      have f25 : A.tmps[25]?.getD undef = .int .i64 S.al := fact_some (hF 25) (j := 1) (by kernel_rfl) (by kernel_rfl)
      unfold Gives
      go_simp
      exact gives_val (Below.refl _ _) (by first | rfl | simp)
    · have f26 : A.tmps[26]?.getD undef = .bool false := fact_some (hF 26) (j := 2) (by kernel_rfl) (by kernel_rfl)
      unfold Gives
      go_simp
      exact gives_val (Below.refl _ _) (by first | rfl | simp)
    · have f8 : A.tmps[8]?.getD undef = .int .i64 S.dr := fact_none (hF 8) (by kernel_rfl)
      unfold Gives
      go_simp
      exact gives_val (Below.refl _ _) (by first | rfl | simp)
    · have f10 : A.tmps[10]?.getD undef = .int .i64 S.dr := fact_none (hF 10) (by kernel_rfl)
      unfold Gives
      go_simp
      exact gives_val (Below.refl _ _) (by first | rfl | simp)
    · have f28 : A.tmps[28]?.getD undef = .int .i64 S.dr := fact_some (hF 28) (j := 4) (by kernel_rfl) (by kernel_rfl)
      have f29 : A.tmps[29]?.getD undef = .int .i64 S.dr := fact_some (hF 29) (j := 5) (by kernel_rfl) (by kernel_rfl)
      unfold Gives
      go_simp
      exact gives_val (Below.refl _ _) (by first | rfl | simp)
    · have f27 : A.tmps[27]?.getD undef = .bool false := fact_some (hF 27) (j := 3) (by kernel_rfl) (by kernel_rfl)
      have f30 : A.tmps[30]?.getD undef = .bool false := fact_some (hF 30) (j := 6) (by kernel_rfl) (by kernel_rfl)
      unfold Gives
      go_simp
      exact gives_val (Below.refl _ _) (by first | rfl | simp)
    · have f31 : A.tmps[31]?.getD undef = .bool false := fact_some (hF 31) (j := 7) (by kernel_rfl) (by kernel_rfl)
      unfold Gives
      go_simp
      exact gives_val (Below.refl _ _) (by first | rfl | simp)
    · have f0 : A.tmps[0]?.getD undef = .pointer (some ⟨g, 0, none⟩) := fact_none (hF 0) (by kernel_rfl)
      unfold Gives
      go_simp
      exact gives_val (Below.refl _ _) (by first | rfl | simp)
    · have f33 : A.tmps[33]?.getD undef = .pointer (some ⟨g, 0, none⟩) := fact_some (hF 33) (j := 9) (by kernel_rfl) (by kernel_rfl)
      unfold Gives
      go_simp
      exact gives_enter ((HLK.out uw hK).mono fun _ _ ⟨v1, he, ho, hb⟩ => ⟨_, he, hb, ho.rows⟩)
    · have f4 : A.tmps[4]?.getD undef = .pointer (some ⟨p, 0, none⟩) := fact_none (hF 4) (by kernel_rfl)
      obtain ⟨x0, x1, x2, x3, x4, x5, x6⟩ := (HX2.out.keep hK).cells7
      unfold Gives
      go_simp
      exact gives_val (Below.refl _ _) (by first | rfl | simp)
    · have f35 : A.tmps[35]?.getD undef = .agg #[.int .i64 S.b, .int .i64 S.i, .int .i64 S.n, .int .i64 S.t, .slice a n c, .int .i64 S.al, .int .i64 S.dr] := fact_some (hF 35) (j := 11) (by kernel_rfl) (by kernel_rfl)
      unfold Gives
      go_simp
      exact gives_enter ((HRK.out uw hK).mono fun _ _ ⟨v1, he, ho, hb⟩ => ⟨_, he, hb, ho.rows⟩)
    · obtain ⟨v34, f34, hr34⟩ : ∃ v, A.tmps[34]?.getD undef = v ∧ Rows' RSt uw v (S.L.map Bk.k) := ⟨_, rfl, fact_some (hF 34) (j := 10) (by kernel_rfl) (by kernel_rfl)⟩
      obtain ⟨v36, f36, hr36⟩ : ∃ v, A.tmps[36]?.getD undef = v ∧ Rows' RSt uw v (S.L.map Bk.k) := ⟨_, rfl, fact_some (hF 36) (j := 12) (by kernel_rfl) (by kernel_rfl)⟩
      unfold Gives
      go_simp
      exact gives_enter ((HTX.out _ _ uw hr34 hr36).mono fun _ _ ⟨he, hb⟩ => ⟨_, he, hb, rfl⟩)
    · have f37 : A.tmps[37]?.getD undef = .bool true := fact_some (hF 37) (j := 13) (by kernel_rfl) (by kernel_rfl)
      unfold Gives
      go_simp
      exact gives_val (Below.refl _ _) (by first | rfl | simp)
    · have f32 : A.tmps[32]?.getD undef = .bool false := fact_some (hF 32) (j := 8) (by kernel_rfl) (by kernel_rfl)
      have f38 : A.tmps[38]?.getD undef = .bool false := fact_some (hF 38) (j := 14) (by kernel_rfl) (by kernel_rfl)
      unfold Gives
      go_simp
      exact gives_val (Below.refl _ _) (by first | rfl | simp)
  intro a0 W3 hC3 hsz hdf hF
  have ha := end_cut 24 39 hsz hdf hF (by kernel_rfl)
  have f39 : a0.tmps[39]?.getD undef = .bool false := fact_end (hF 39) (j := 15) (by kernel_rfl)
  rw [ha]
  clear ha hF
  simp only [cutL_cons, cutL_nil, Nat.reduceAdd, Nat.reduceLeDiff, and_true, true_and, and_false, false_and, if_true, if_false]
  rw [f39]
  clear f39 hsz hdf
  have HX3 := Lib.hid (HX2.out.keep hC3)
  have HB3 := Lib.hid (HB2.out.trans (Below.mono hC3 HB2.out.size))
  have HLM3 := Lib.hid (HLM2.out.keep hC3)
  clear hC3 HX2 HB2 HR2 HLK HRK HTX HLM2
  go_wp2_with fail
  go_loopw [11] (fun vi wr => ∃ (j : Nat), j ≤ n1 ∧ vi = .int .i64 j ∧ Hid (Lim wr g m S) ∧ Hid (Blk wr p 29 #[.int .i64 S.b, .int .i64 S.i, .int .i64 S.n, .int .i64 S.t, .slice a n c, .int .i64 S.al, .int .i64 S.dr]) ∧ Hid (Below w.heap.size w wr)) (fun vi _ => n1 - (intOf vi).toNat)
  case atStart => exact ⟨0, Nat.zero_le _, rfl, HLM3, HX3, HB3⟩
  case round =>
    obtain ⟨j, hj, rfl, HLMr, HX, HB⟩ := hrel
    by_cases hlt : j < n1
    · have hlt' : (j : Int) < (n1 : Int) := by omega
      have hj60 : j ≤ 60 := by have := HN.out; omega
      have hjl : j < L.length := by have := HN.out; omega
      obtain ⟨ge, oe, rfl, -, hn1c, hev⟩ := ev_at HL.out hjl
      have hks := HE.out _ (List.getElem_mem hjl)
      generalize L[j] = x at hev hks
      have HEV : Hid (∀ w1, Kp wr w1 → w1.cell? ⟨ge, oe + j * 2, none⟩ = some (.string x.k) ∧ w1.cell? ⟨ge, oe + j * 2 + 1, none⟩ = some (.int .i64 x.n)) := Lib.hid fun w1 h1 => hev w1 (HB.out.trans (Below.mono h1 HB.out.size))
      have HLL := Lib.hid fun w1 (h1 : Kp wr w1) => lLeft_c x.n (HLMr.out.keep h1) HOK.out hks.1
      have HRL := Lib.hid fun w1 (h1 : Kp wr w1) => rleft_c (s := x.k) x.n (HR.out.below (HB.out.trans (Below.mono h1 HB.out.size))) HOK.out
      have HLD : Hid (∀ w1, Kp wr w1 → Calls Try.prog 18 #[.pointer (some ⟨g, 0, none⟩), .string x.k] w1 fun r w' => r = Ending.returned (.int .i64 (droppedR S x.k)) ∧ Below w1.heap.size w1 w') := Lib.hid fun w1 h1 => (dropped_c (HLMr.out.keep h1) hks.1).mono fun r w2 h => ⟨h.1, by rw [h.2]; exact Below.refl _ _⟩
      have HRD := Lib.hid fun w1 (h1 : Kp wr w1) => rdropped_c x.k (HR.out.below (HB.out.trans (Below.mono h1 HB.out.size))) HOK.out
      clear hev hks hjl
      generalize leftR S x.k (timeR S x.n) = l0 at *
      generalize droppedR S x.k = d0 at *
      go_upto_region 10 with fail
      refine wp_region_kp (by kernel_rfl) (by kernel_rfl) ?_
      repeat (first
        | go_big_quiet_skip
        | (go_big_quiet_want
           first
             | (go_big_quiet_op
                first
                  | go_big_quiet_on
                  | (apply Exists.intro
                     refine ⟨fun w1 hC => ?_, ?_⟩
                     · first
                         | (go_at_call 16; with_reducible exact hC.call (HLL.out w1 hC))
                         | (go_at_call 25; with_reducible exact hC.call (HRL.out w1 hC))
                         | (go_at_call 18; with_reducible exact hC.call (HLD.out w1 hC))
                         | (go_at_call 26; with_reducible exact hC.call (HRD.out w1 hC))
                         | (obtain ⟨q0, q1⟩ := HEV.out w1 hC; go_simp; first | exact rfl | exact ⟨rfl, rfl⟩)
                         | (obtain ⟨x0, x1, x2, x3, x4, x5, x6⟩ := (HX.out.keep hC).cells7; go_simp; first | exact rfl | exact ⟨rfl, rfl⟩)
                         | exact rfl
                         | (go_simp; exact ⟨rfl, rfl⟩)
                     go_big_quiet_on))))
      refine wpQuiet_nil ?_
      intro W5 hC5
      have HX5 := Lib.hid (HX.out.keep hC5)
      have HB5 := Lib.hid (HB.out.trans (Below.mono hC5 HB.out.size))
      have HL5 := Lib.hid (HLMr.out.keep hC5)
      clear hC5
      go_wp2_with fail
      go_roundw
      case rel => exact ⟨j + 1, hlt, by go_num, HL5, HX5, HB5⟩
      case measure => simp [intOf]; omega
    · obtain rfl : j = n1 := by omega
      go_wp2_with fail
      go_ret
      exact ⟨rfl, HB.out⟩
end
end Go.Proofs.Ytcainohglmgdpaa
