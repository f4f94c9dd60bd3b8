/- The reference's Left. -/
import Derived.Test.YtcainohglmgdpaaRvh
namespace Go.Proofs.Ytcainohglmgdpaa
open Go.RowKit Go.Maps Go.WideElems Go.WideMaps Go.WideShapes Go.Sort Go.Shelf
def lPhi (p m : Nat) (S : RS) (a : Option Addr) (c : Nat) (t : Int) (k : Nat) (v : Value) (_ : World) : Prop := match k with
  | 0 => v = .pointer (some ⟨p, 4, none⟩)
  | 1 => v = .slice a S.L.length c
  | 2 => v = .int .i64 S.L.length
  | 3 => v = .pointer (some ⟨p, 2, none⟩)
  | 4 => v = .int .i64 S.n
  | 5 => v = .bool true
  | 6 => v = .bool true
  | 7 => v = .agg #[.int .i64 S.b, .int .i64 S.i, .int .i64 S.n, .int .i64 S.t, .slice a S.L.length c, .int .i64 S.al, .int .i64 S.dr]
  | 8 => v = .int .i64 t
  | 9 => ∃ a2 c2, v = .agg #[.int .i64 S.b, .int .i64 S.i, .int .i64 S.n, .int .i64 S.t, .slice a2 m c2, .int .i64 S.al, .int .i64 S.dr]
  | 10 => ∃ a2 c2, v = .slice a2 m c2
  | 11 => v = .int .i64 m
  | 12 => v = .pointer (some ⟨p, 2, none⟩)
  | 13 => v = .int .i64 S.n
  | 14 => v = .bool (decide (S.n ≤ (m : Int)))
  | 15 => v = .bool (decide (S.n ≤ (m : Int)))
  | _ => True
section
variable {w w' : World} {g m B : Nat} {S : RS} {a : Option Addr} {n c : Nat} {e : Int}
set_option maxRecDepth 100000 in
set_option maxHeartbeats 8000000 in
theorem rleft_c {s : ByteArray} (now : Int) (h : Rows' RBk w (.slice a n c) S.L) (hS : S.Ok e) :
    Calls Try.prog 25 #[.agg #[.int .i64 S.b, .int .i64 S.i, .int .i64 S.n, .int .i64 S.t, .slice a n c, .int .i64 S.al, .int .i64 S.dr], .string s, .int .i64 now] w fun r w' => r = .returned (.int .i64 (leftR S s (timeR S now))) ∧ Below w.heap.size w w' := by
  obtain rfl := rows_len h
  have ht := timeR_ok hS now
  have HRES := Lib.hid (rleft_eq hS s (timeR S now))
  have hsl : S.L.length ≤ 1024 := by have h1 := hS.len; have h2 := hS.n1; omega
  have HCL := Lib.hid fun w1 => clock_c (S := S) (.slice a S.L.length c) now w1
  have HFI := Lib.hid fun x (hx : x ∈ S.L) w => rfilled_c (x := x) (.slice a S.L.length c) hS (hS.bk x hx) ht.1 ht.2 w
  have HFG := Lib.hid fun w1 (h1 : Rows' RBk w1 (.slice a S.L.length c) S.L) => forget_c h1 hS ht.1 ht.2
  have HFD := Lib.hid fun w1 (h1 : Rows' RBk w1 (.slice a S.L.length c) S.L) => find_c (S := S) s h1 (by omega)
  have HR := Lib.hid h
  generalize timeR S now = t at *
  generalize leftR S s t = res at *
  clear h hS ht
  have HB : Hid (Below w.heap.size w (w.alloc (.cells #[.int .i64 S.b, .int .i64 S.i, .int .i64 S.n, .int .i64 S.t, .slice a S.L.length c, .int .i64 S.al, .int .i64 S.dr] 29))) := Lib.hid ((Below.refl _ _).alloc (Nat.le_refl _) _)
  have HX : Hid (Blk (w.alloc (.cells #[.int .i64 S.b, .int .i64 S.i, .int .i64 S.n, .int .i64 S.t, .slice a S.L.length c, .int .i64 S.al, .int .i64 S.dr] 29)) w.heap.size 29 #[.int .i64 S.b, .int .i64 S.i, .int .i64 S.n, .int .i64 S.t, .slice a S.L.length c, .int .i64 S.al, .int .i64 S.dr]) := Lib.hid (Blk.new _ _ _)
  go_enter Try.func25, Try.ntmps25
  go_upto_region 1 with fail
  generalize w.alloc (.cells #[.int .i64 S.b, .int .i64 S.i, .int .i64 S.n, .int .i64 S.t, .slice a S.L.length c, .int .i64 S.al, .int .i64 S.dr] 29) = W at *
  obtain ⟨p, hp⟩ : ∃ p, w.heap.size = p := ⟨_, rfl⟩
  have HRW := Lib.hid (HR.out.below HB.out)
  have HP := Lib.hid hp
  rw [hp] at HX HB ⊢
  clear hp HR
  obtain ⟨x0, x1, x2, x3, x4, x5, x6⟩ := HX.out.cells7
  go_upto_region 2 with (go_at_call 35; with_reducible refine (HCL.out W).mono ?_; rintro r W1 ⟨rfl, hb⟩; have HX1 := Lib.hid (HX.out.keep hb); have HR1 := Lib.hid (HRW.out.below hb); have HB1 := Lib.hid (HB.out.trans (hb.mono (by have := HX.out.lt; omega))); clear hb)
  clear x0 x1 x2 x3 x4 x5 x6 HX HB HCL HRW
  obtain ⟨x0, x1, x2, x3, x4, x5, x6⟩ := HX1.out.cells7
  have HF := Lib.hid (HFD.out W1 HR1.out)
  cases hf : findB S.L s with
  | some x =>
    obtain ⟨i, hi, hix, hil⟩ := idxB_some hf
    rw [hi] at HF
    have HFC := Lib.hid (HFI.out x (findB_mem hf).1)
    obtain ⟨g, o, rfl, -, hc, hev⟩ := bk_at HR1.out hil
    have hxe : S.L[i] = x := by rw [List.getElem?_eq_getElem hil] at hix; exact Option.some.inj hix
    rw [hxe] at hev
    have HEV := Lib.hid hev
    have hin : (i : Int) < (S.L.length : Int) := by omega
    have hi0 : i ≤ 1024 := by omega
    have HV : Hid (res = (fillB S.b S.i x t).l) := Lib.hid (by rw [HRES.out, hf])
    clear hf hi hix hev hxe HFI HFG HFD HRES
    generalize fillB S.b S.i x t = y at *
    go_upto_region 4 with (go_at_call 37; with_reducible refine HF.out.mono ?_; rintro r W2 ⟨rfl, hb⟩; have HB2 := Lib.hid (HB1.out.trans (hb.mono (by have := HX1.out.lt; omega))); have HX2 := Lib.hid (HX1.out.keep hb); have HKW := Lib.hid hb; clear hb)
    have HEV2 : Hid (∀ w1, Kp W2 w1 → w1.cell? ⟨g, o + i * 4, none⟩ = some (.string x.k) ∧ w1.cell? ⟨g, o + i * 4 + 1, none⟩ = some (.int .i64 x.l) ∧ w1.cell? ⟨g, o + i * 4 + 2, none⟩ = some (.int .i64 x.c) ∧ w1.cell? ⟨g, o + i * 4 + 3, none⟩ = some (.int .i64 x.d)) := Lib.hid (fun w1 h1 => HEV.out w1 (HKW.out.trans (Below.mono h1 HKW.out.size)))
    clear x0 x1 x2 x3 x4 x5 x6 HX1 HB1 HEV HF
    refine wp_region_kp (by kernel_rfl) (by kernel_rfl) ?_
    repeat (first
      | go_big_quiet_skip
      | (go_big_quiet_want
         first
           | (go_big_quiet_op
              first
                | go_big_quiet_on
                | (apply Exists.intro
                   refine ⟨fun w1 hC => ?_, ?_⟩
                   · first
                       | (go_at_call 38; with_reducible exact hC.call (HFC.out w1))
                       | (obtain ⟨q0, q1, q2, q3⟩ := HEV2.out w1 hC; go_simp; first | exact rfl | exact ⟨rfl, rfl⟩)
                       | (obtain ⟨x0, x1, x2, x3, x4, x5, x6⟩ := (HX2.out.keep hC).cells7; go_simp; first | exact rfl | exact ⟨rfl, rfl⟩)
                       | exact rfl
                       | (go_simp; exact ⟨rfl, rfl⟩)
                   go_big_quiet_on))))
    refine wpQuiet_nil ?_
    intro W5 hC5
    have HB5 := Lib.hid (HB2.out.trans (Below.mono hC5 (by have := HX2.out.lt; omega)))
    clear hC5
    go_wp2_with fail
    go_ret
    exact ⟨by rw [HV.out]; rfl, by rw [HP.out]; exact HB5.out⟩
  | none =>
    rw [idxB_none hf] at HF
    have HV : Hid (res = if S.n ≤ (S.L.length : Int) ∧ S.n ≤ ((keepL S t).length : Int) then 0 else S.b) := Lib.hid (by rw [HRES.out, hf])
    clear hf HFI HFD HRES
    go_upto_region 5 with (go_at_call 37; with_reducible refine HF.out.mono ?_; rintro r W2 ⟨rfl, hb⟩; have HB2 := Lib.hid (HB1.out.trans (hb.mono (by have := HX1.out.lt; omega))); have HX2 := Lib.hid (HX1.out.keep hb); have HR2 := Lib.hid (HR1.out.below hb); clear hb)
    clear x0 x1 x2 x3 x4 x5 x6 HX1 HB1 HF HR1
    by_cases hge : S.n ≤ (S.L.length : Int)
    · generalize hM : (keepL S t).length = m at *
      have HFG : Hid (∀ w1, Rows' RBk w1 (.slice a S.L.length c) S.L → Calls Try.prog 39 #[.agg #[.int .i64 S.b, .int .i64 S.i, .int .i64 S.n, .int .i64 S.t, .slice a S.L.length c, .int .i64 S.al, .int .i64 S.dr], .int .i64 t] w1 fun r w' => ∃ a2 c2, r = .returned (.agg #[.int .i64 S.b, .int .i64 S.i, .int .i64 S.n, .int .i64 S.t, .slice a2 m c2, .int .i64 S.al, .int .i64 S.dr]) ∧ Below w1.heap.size w1 w') := Lib.hid fun w1 h1 => (HFG.out w1 h1).mono fun r w2 ⟨v1, he, ho, hb⟩ => by
        obtain ⟨a2, c2, rfl⟩ := ho.isSl
        rw [hM] at he
        exact ⟨a2, c2, he, hb⟩
      clear hM
      refine wp_region_obs (lPhi p m S a c t) (by kernel_rfl) (by kernel_rfl) (fun k v u u2 h hb => h) ?_ ?_
      · refine ⟨⟨trivial, fun A u hK hF => ?_⟩, ⟨trivial, fun A u hK hF => ?_⟩, ⟨trivial, fun A u hK hF => ?_⟩, ⟨trivial, fun A u hK hF => ?_⟩, ⟨trivial, fun A u hK hF => ?_⟩, ⟨trivial, fun A u hK hF => ?_⟩, ⟨trivial, fun A u hK hF => ?_⟩, ⟨fun v w h => h, fun A u hK hF => ?_⟩, ⟨fun v w h => h, fun A u hK hF => ?_⟩, ⟨fun v w h => h, fun A u hK hF => ?_⟩, ⟨fun v w h => h, fun A u hK hF => ?_⟩, ⟨fun v w h => h, fun A u hK hF => ?_⟩, ⟨fun v w h => h, fun A u hK hF => ?_⟩, ⟨fun v w h => h, fun A u hK hF => ?_⟩, ⟨fun v w h => h, fun A u hK hF => ?_⟩, ⟨trivial, fun A u hK hF => ?_⟩, trivial⟩
        · have f3 : A.tmps[3]?.getD undef = .pointer (some ⟨p, 0, none⟩) := fact_none (hF 3) (by kernel_rfl)
          unfold Gives
          go_simp
          exact gives_val (Below.refl _ _) (by first | rfl | simp)
        · have f26 : A.tmps[26]?.getD undef = .pointer (some ⟨p, 4, none⟩) := fact_some (hF 26) (j := 0) (by kernel_rfl) (by kernel_rfl)
          obtain ⟨x0, x1, x2, x3, x4, x5, x6⟩ := (HX2.out.keep hK).cells7
          unfold Gives
          go_simp
          exact gives_val (Below.refl _ _) (by first | rfl | simp)
        · have f27 : A.tmps[27]?.getD undef = .slice a S.L.length c := fact_some (hF 27) (j := 1) (by kernel_rfl) (by kernel_rfl)
          unfold Gives
          go_simp
          exact gives_val (Below.refl _ _) (by first | rfl | simp)
        · have f3 : A.tmps[3]?.getD undef = .pointer (some ⟨p, 0, none⟩) := fact_none (hF 3) (by kernel_rfl)
          unfold Gives
          go_simp
          exact gives_val (Below.refl _ _) (by first | rfl | simp)
        · have f29 : A.tmps[29]?.getD undef = .pointer (some ⟨p, 2, none⟩) := fact_some (hF 29) (j := 3) (by kernel_rfl) (by kernel_rfl)
          obtain ⟨x0, x1, x2, x3, x4, x5, x6⟩ := (HX2.out.keep hK).cells7
          unfold Gives
          go_simp
          exact gives_val (Below.refl _ _) (by first | rfl | simp)
        · have f28 : A.tmps[28]?.getD undef = .int .i64 S.L.length := fact_some (hF 28) (j := 2) (by kernel_rfl) (by kernel_rfl)
          have f30 : A.tmps[30]?.getD undef = .int .i64 S.n := fact_some (hF 30) (j := 4) (by kernel_rfl) (by kernel_rfl)
          unfold Gives
          go_simp
          exact gives_val (Below.refl _ _) (by first | rfl | (simp; exact hge))
        · have f31 : A.tmps[31]?.getD undef = .bool true := fact_some (hF 31) (j := 5) (by kernel_rfl) (by kernel_rfl)
          unfold Gives
          go_simp
          exact gives_val (Below.refl _ _) (by first | rfl | simp)
        · have f3 : A.tmps[3]?.getD undef = .pointer (some ⟨p, 0, none⟩) := fact_none (hF 3) (by kernel_rfl)
          obtain ⟨x0, x1, x2, x3, x4, x5, x6⟩ := (HX2.out.keep hK).cells7
          unfold Gives
          go_simp
          exact gives_val (Below.refl _ _) (by first | rfl | simp)
        · have f7 : A.tmps[7]?.getD undef = .int .i64 t := fact_none (hF 7) (by kernel_rfl)
          unfold Gives
          go_simp
          exact gives_val (Below.refl _ _) (by first | rfl | simp)
        · have f33 : A.tmps[33]?.getD undef = .agg #[.int .i64 S.b, .int .i64 S.i, .int .i64 S.n, .int .i64 S.t, .slice a S.L.length c, .int .i64 S.al, .int .i64 S.dr] := fact_some (hF 33) (j := 7) (by kernel_rfl) (by kernel_rfl)
          have f34 : A.tmps[34]?.getD undef = .int .i64 t := fact_some (hF 34) (j := 8) (by kernel_rfl) (by kernel_rfl)
          unfold Gives
          go_simp
          exact gives_enter ((HFG.out u (HR2.out.below hK)).mono fun _ _ ⟨a2, c2, he, hb⟩ => ⟨_, he, hb, a2, c2, rfl⟩)
        · obtain ⟨a2, c2, f35⟩ : ∃ a2 c2, A.tmps[35]?.getD undef = .agg #[.int .i64 S.b, .int .i64 S.i, .int .i64 S.n, .int .i64 S.t, .slice a2 m c2, .int .i64 S.al, .int .i64 S.dr] := fact_some (hF 35) (j := 9) (by kernel_rfl) (by kernel_rfl)
          unfold Gives
          go_simp
          exact gives_val (Below.refl _ _) ⟨a2, c2, rfl⟩
        · obtain ⟨a2, c2, f36⟩ : ∃ a2 c2, A.tmps[36]?.getD undef = .slice a2 m c2 := fact_some (hF 36) (j := 10) (by kernel_rfl) (by kernel_rfl)
          unfold Gives
          go_simp
          exact gives_val (Below.refl _ _) (by first | rfl | simp)
        · have f3 : A.tmps[3]?.getD undef = .pointer (some ⟨p, 0, none⟩) := fact_none (hF 3) (by kernel_rfl)
          unfold Gives
          go_simp
          exact gives_val (Below.refl _ _) (by first | rfl | simp)
        · have f38 : A.tmps[38]?.getD undef = .pointer (some ⟨p, 2, none⟩) := fact_some (hF 38) (j := 12) (by kernel_rfl) (by kernel_rfl)
          obtain ⟨x0, x1, x2, x3, x4, x5, x6⟩ := (HX2.out.keep hK).cells7
          unfold Gives
          go_simp
          exact gives_val (Below.refl _ _) (by first | rfl | simp)
        · have f37 : A.tmps[37]?.getD undef = .int .i64 m := fact_some (hF 37) (j := 11) (by kernel_rfl) (by kernel_rfl)
          have f39 : A.tmps[39]?.getD undef = .int .i64 S.n := fact_some (hF 39) (j := 13) (by kernel_rfl) (by kernel_rfl)
          unfold Gives
          go_simp
          exact gives_val (Below.refl _ _) (by first | rfl | simp)
        · have f32 : A.tmps[32]?.getD undef = .bool true := fact_some (hF 32) (j := 6) (by kernel_rfl) (by kernel_rfl)
          have f40 : A.tmps[40]?.getD undef = .bool (decide (S.n ≤ (m : Int))) := fact_some (hF 40) (j := 14) (by kernel_rfl) (by kernel_rfl)
          unfold Gives
          go_simp
          exact gives_val (Below.refl _ _) (by first | rfl | simp)
      intro a0 W3 hC3 hsz hdf hF
      have ha := end_cut 26 41 hsz hdf hF (by kernel_rfl)
      have f41 : a0.tmps[41]?.getD undef = .bool (decide (S.n ≤ (m : Int))) := fact_end (hF 41) (j := 15) (by kernel_rfl)
      rw [ha]
      clear ha hF
      simp only [cutL_cons, cutL_nil, Nat.reduceAdd, Nat.reduceLeDiff, and_true, true_and, and_false, false_and, if_true, if_false]
      rw [f41]
      clear f41 hsz hdf
      have HX3 := Lib.hid (HX2.out.keep hC3)
      have HB3 := Lib.hid (HB2.out.trans (Below.mono hC3 (by have := HX2.out.lt; omega)))
      clear hC3 HX2 HB2 HR2 HFG
      obtain ⟨x0, x1, x2, x3, x4, x5, x6⟩ := HX3.out.cells7
      by_cases hm : S.n ≤ (m : Int)
      · rw [decide_eq_true hm]
        go_wp2_with fail
        go_ret
        exact ⟨by rw [HV.out, if_pos ⟨by omega, by omega⟩]; rfl, by rw [HP.out]; exact HB3.out⟩
      · rw [decide_eq_false hm]
        go_wp2_with fail
        go_ret
        exact ⟨by rw [HV.out, if_neg (by omega)]; rfl, by rw [HP.out]; exact HB3.out⟩
    · have hlt : (S.L.length : Int) < S.n := by omega
      refine wp_region_kp (by kernel_rfl) (by kernel_rfl) ?_
      repeat (first
        | go_big_quiet_skip
        | (go_big_quiet_want
           first
             | (go_big_quiet_op
                first
                  | go_big_quiet_on
                  | (apply Exists.intro
                     refine ⟨fun w1 hC => ?_, ?_⟩
                     · first
                         | (obtain ⟨x0, x1, x2, x3, x4, x5, x6⟩ := (HX2.out.keep hC).cells7; go_simp; first | exact rfl | exact ⟨rfl, rfl⟩)
                         | exact rfl
                         | (go_simp; exact ⟨rfl, rfl⟩)
                     go_big_quiet_on))))
      refine wpQuiet_nil ?_
      intro W5 hC5
      have HX5 := Lib.hid (HX2.out.keep hC5)
      have HB5 := Lib.hid (HB2.out.trans (Below.mono hC5 (by have := HX2.out.lt; omega)))
      clear hC5
      obtain ⟨x0, x1, x2, x3, x4, x5, x6⟩ := HX5.out.cells7
      go_wp2_with fail
      go_ret
      exact ⟨by rw [HV.out, if_neg (by omega)]; rfl, by rw [HP.out]; exact HB5.out⟩
end
end Go.Proofs.Ytcainohglmgdpaa
