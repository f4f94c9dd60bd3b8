/- Part of the proof: Cyl. No conditions. -/
import Derived.Test.YtbhoofihnmmmfabGreatYaw
namespace Go.Proofs.YtbhoofihnmmmfabGreat
open Go.RowKit Go
structure PCo where
 (cl pm : Int) (vd : Bool) (e : X)
def CCo (w : World) (g o : Nat) (x : PCo) : Prop := w.cell? ⟨g, o, none⟩ = some (.int .i64 x.cl) ∧ w.cell? ⟨g, o + 1, none⟩ = some (.int .u32 x.pm) ∧ w.cell? ⟨g, o + 2, none⟩ = some (.bool x.vd) ∧ XAt w g (o + 3) x.e ∧ I64 x.cl ∧ U32 x.pm
theorem CCo.keep {w w' : World} (hb : Below w.heap.size w w') {g o : Nat} {x : PCo} (hg : g < w.heap.size) (h : CCo w g o x) : CCo w' g o x := by
 obtain ⟨h0, h1, h2, h3, hw⟩ := h
 exact ⟨(hb.cell (p := ⟨g, o, none⟩) hg).trans h0, (hb.cell (p := ⟨g, o + 1, none⟩) hg).trans h1, (hb.cell (p := ⟨g, o + 2, none⟩) hg).trans h2, XAt.keep hb hg h3, hw⟩
def zcl : Lv := ⟨0, 0, by decide⟩
def nocx : Cx := ⟨0, 0, 0, zcl, zcl⟩
/-- what constraints forbid, from the i-th on -/
def dnL (ev : X → Bool) (cl : Int) : Nat → List PCo → Int → Int → Int × Int
 | _, [], d, f => (d, f)
 | i, x :: r, d, f => if x.vd = true ∨ x.cl ≠ cl ∨ ev x.e = true then dnL ev cl (i + 1) r d f else dnL ev cl (i + 1) r (bits .or .u32 d x.pm) (if f = -1 then (i : Int) else f)
set_option maxRecDepth 100000 in
set_option maxHeartbeats 32000000 in
theorem denied_c (b0 b1 b2 b3 b4 b5 b6 b7 b8 b9 b10 b11 b12 b13 b14 b15 b16 : Value) (cl : Int) (s t : Cx) (L : List PCo) (w : World) (hL : SlR 13 CCo w b13 L) (hl : L.length ≤ maxLen) :
 Calls Tryz.prog 6 #[.agg #[b0, b1, b2, b3, b4, b5, b6, b7, b8, b9, b10, b11, b12, b13, b14, b15, b16], .int .i64 cl, .agg #[.int .i64 s.u, .int .i64 s.ro, .int .i64 s.ty, .int .i64 s.lo.s, .int .u64 s.lo.c, .int .i64 s.hi.s, .int .u64 s.hi.c], .agg #[.int .i64 t.u, .int .i64 t.ro, .int .i64 t.ty, .int .i64 t.lo.s, .int .u64 t.lo.c, .int .i64 t.hi.s, .int .u64 t.hi.c]] w fun e w' => e = .returned (.tuple #[.int .u32 (dnL (evX ⟨s, t, nocx⟩) cl 0 L 0 (-1)).1, .int .i64 (dnL (evX ⟨s, t, nocx⟩) cl 0 L 0 (-1)).2]) ∧ Below w.heap.size w w' := by
 obtain ⟨R, hR⟩ : ∃ R, dnL (evX ⟨s, t, nocx⟩) cl 0 L 0 (-1) = R := ⟨_, rfl⟩
 rw [hR]
 have HR0 := Lib.hid hR
 obtain ⟨ak, ck, rfl, -, -⟩ := id hL
 obtain ⟨W, ZW⟩ : ∃ v, Hid ((((w.alloc (.cells #[b0, b1, b2, b3, b4, b5, b6, b7, b8, b9, b10, b11, b12, .slice ak L.length ck, b14, b15, b16] 39)).alloc (.cells #[.int .i64 s.u, .int .i64 s.ro, .int .i64 s.ty, .int .i64 s.lo.s, .int .u64 s.lo.c, .int .i64 s.hi.s, .int .u64 s.hi.c] 46)).alloc (.cells #[.int .i64 t.u, .int .i64 t.ro, .int .i64 t.ty, .int .i64 t.lo.s, .int .u64 t.lo.c, .int .i64 t.hi.s, .int .u64 t.hi.c] 46)) = v) := ⟨_, Lib.hid rfl⟩
 have HB : Hid (Below w.heap.size w W) := by cases ZW.out; exact Lib.hid ((((Below.refl _ _).alloc (Nat.le_refl _) _).alloc (by simp) _).alloc (by simp; omega) _)
 have HP : Hid (Blk W w.heap.size 39 #[b0, b1, b2, b3, b4, b5, b6, b7, b8, b9, b10, b11, b12, .slice ak L.length ck, b14, b15, b16]) := by cases ZW.out; exact Lib.hid (((Blk.new w _ _).alloc _).alloc _)
 have HCS : Hid (Blk W (w.heap.size + 1) 46 #[.int .i64 s.u, .int .i64 s.ro, .int .i64 s.ty, .int .i64 s.lo.s, .int .u64 s.lo.c, .int .i64 s.hi.s, .int .u64 s.hi.c]) := by cases ZW.out; exact Lib.hid ((two_new' _ _ _ _).alloc _)
 have HCT : Hid (Blk W (w.heap.size + 1 + 1) 46 #[.int .i64 t.u, .int .i64 t.ro, .int .i64 t.ty, .int .i64 t.lo.s, .int .u64 t.lo.c, .int .i64 t.hi.s, .int .u64 t.hi.c]) := by cases ZW.out; exact Lib.hid (three_new' _ _ _ _ _)
 have HL := Lib.hid (hL.keep (fun hg k => CCo.keep HB.out hg k) HB.out)
 have hkI : (L.length : Int) ≤ 9223372036854775807 := by unfold maxLen at hl; omega
 clear hL hl hR
 go_enter Tryz.func6, Tryz.ntmps6
 go_upto_region 1 with fail
 rw [ZW.out]
 have HLE : Hid (w.heap.size ≤ W.heap.size) := Lib.hid HB.out.size
 generalize w.heap.size + 1 + 1 = gt at *
 generalize w.heap.size + 1 = gs at *
 generalize hgp : w.heap.size = gp at *
 have hp := HP.out.cell
 have p13 := hp 13
 clear hp
 go_wp2_with fail
 go_loopw [10, 11, 12, 13, 17] (fun v10 v11 v12 v13 v17 wr => ∃ (i : Nat) (d f : Int), i ≤ L.length ∧ v10 = .int .u32 d ∧ v11 = .int .i64 f ∧ v17 = .int .i64 i ∧ Hid (dnL (evX ⟨s, t, nocx⟩) cl i (L.drop i) d f = R) ∧ Hid (Kp W wr)) (fun _ _ _ _ v17 _ => L.length - (intOf v17).toNat)
 case atStart => exact ⟨0, 0, -1, Nat.zero_le _, rfl, rfl, rfl, Lib.hid (by rw [List.drop_zero]; exact HR0.out), Lib.hid Kp.rfl'⟩
 case round =>
  clear p13
  obtain ⟨i, d, f, hi, rfl, rfl, rfl, HM, HK⟩ := hrel
  have HBK : Hid (Below gp w wr) := Lib.hid (kpb HB.out HLE.out HK.out)
  by_cases hlt : i < L.length
  · have hlt' : (i : Int) < (L.length : Int) := by omega
    obtain ⟨y, hy⟩ : ∃ y, L[i] = y := ⟨_, rfl⟩
    have HD : Hid (L.drop i = y :: L.drop (i + 1)) := Lib.hid (by rw [List.drop_eq_getElem_cons hlt, hy])
    rw [HD.out] at HM
    obtain ⟨g, o, rfl, hg, hRow⟩ := HL.out.row hlt
    have hA := hRow i hlt
    rw [hy] at hA
    have HCO := Lib.hid (hA.keep HK.out hg)
    have HG : Hid (g < wr.heap.size) := Lib.hid (Nat.lt_of_lt_of_le hg (Below.size HK.out))
    obtain ⟨c0, c1, c2, hx3, -, -⟩ := HCO.out
    obtain ⟨ao, cap, ak2, ck2, hxc, hxv⟩ := hx3.xv
    have HXC := Lib.hid hxc
    have r13 := (HP.out.keep HK.out).cell 13
    have HEV : Hid (∀ u, Kp wr u → Calls Tryz.prog 17 #[.agg #[.int .i64 (y.e).op, .int .i64 (y.e).a, .int .i64 (y.e).r, .int .i64 (y.e).b, .slice ao y.e.ns.length cap, .int .u64 (y.e).st.a, .int .u64 (y.e).st.b, .int .u64 (y.e).st.c, .int .u64 (y.e).st.d, .slice ak2 y.e.ks.length ck2], .agg #[.int .i64 s.u, .int .i64 s.ro, .int .i64 s.ty, .int .i64 s.lo.s, .int .u64 s.lo.c, .int .i64 s.hi.s, .int .u64 s.hi.c, .int .i64 t.u, .int .i64 t.ro, .int .i64 t.ty, .int .i64 t.lo.s, .int .u64 t.lo.c, .int .i64 t.hi.s, .int .u64 t.hi.c, .int .i64 0, .int .i64 0, .int .i64 0, .int .i64 0, .int .u64 0, .int .i64 0, .int .u64 0]] u fun e w' => e = .returned (.bool (evX ⟨s, t, nocx⟩ y.e)) ∧ Below u.heap.size u w') := Lib.hid fun u hu => eval_c y.e _ _ ⟨s, t, nocx⟩ u (hxv.keep hu)
    have HM2 : Hid ((if y.vd = true ∨ y.cl ≠ cl ∨ evX ⟨s, t, nocx⟩ y.e = true then dnL (evX ⟨s, t, nocx⟩) cl (i + 1) (L.drop (i + 1)) d f else dnL (evX ⟨s, t, nocx⟩) cl (i + 1) (L.drop (i + 1)) (bits .or .u32 d y.pm) (if f = -1 then (i : Int) else f)) = R) := Lib.hid HM.out
    generalize evX ⟨s, t, nocx⟩ y.e = ev at *
    obtain ⟨vd, hvd⟩ : ∃ vd, y.vd = vd := ⟨_, rfl⟩
    rw [hvd] at c2 HM2
    have HVD := Lib.hid hvd
    clear HM HD hg hRow hA hy hx3 hxc hxv hvd
    cases vd with
    | true =>
      rw [if_pos (.inl rfl)] at HM2
      go_upto_region 6 with fail
      refine wp_region_kp (by kernel_rfl) (by kernel_rfl) ?_
      repeat (first
       | go_big_quiet_skip
       | (go_big_quiet_want
          go_big_quiet_op
          first
           | go_big_quiet_on
           | (apply Exists.intro
              refine ⟨fun w1 hC => ?_, ?_⟩
              · first
                 | (go_at_call 17; with_reducible exact hC.call (HEV.out _ hC))
                 | exact rfl
                 | (go_simp; exact ⟨rfl, rfl⟩)
                 | (obtain ⟨d0, d1, d2, -, -, -⟩ := HCO.out.keep hC HG.out; rw [HVD.out] at d2; obtain ⟨z0, z1, z2, z3, z4, z5, z6, z7, z8, z9⟩ := (HXC.out.keep (Below.block hC g HG.out)).cells; have ms := (Blk.keep (Blk.keep HCS.out HK.out) hC).cell; have mt := (Blk.keep (Blk.keep HCT.out HK.out) hC).cell; have ms0 := ms 0; have mt0 := mt 0; have ms1 := ms 1; have mt1 := mt 1; have ms2 := ms 2; have mt2 := mt 2; have ms3 := ms 3; have mt3 := mt 3; have ms4 := ms 4; have mt4 := mt 4; have ms5 := ms 5; have mt5 := mt 5; have ms6 := ms 6; have mt6 := mt 6; clear ms mt; go_simp; exact rfl)
              go_big_quiet_on)))
      refine wpQuiet_nil ?_
      intro W6 hC
      have HK6 : Hid (Kp W W6) := Lib.hid (Kp.step HK.out hC)
      clear hC
      go_wp2_with fail
      go_roundw
      case rel => exact ⟨i + 1, d, f, hlt, rfl, rfl, by go_num, HM2, HK6⟩
      case measure => simp [intOf]; omega
    | false =>
      by_cases hcl : y.cl = cl
      · have qc : (y.cl != cl) = false := by simpa using hcl
        cases ev with
        | true =>
          rw [if_pos (.inr (.inr rfl))] at HM2
          clear hcl
          go_upto_region 6 with fail
          refine wp_region_kp (by kernel_rfl) (by kernel_rfl) ?_
          repeat (first
           | go_big_quiet_skip
           | (go_big_quiet_want
              go_big_quiet_op
              first
               | go_big_quiet_on
               | (apply Exists.intro
                  refine ⟨fun w1 hC => ?_, ?_⟩
                  · first
                     | (go_at_call 17; with_reducible exact hC.call (HEV.out _ hC))
                     | exact rfl
                     | (go_simp; exact ⟨rfl, rfl⟩)
                     | (obtain ⟨d0, d1, d2, -, -, -⟩ := HCO.out.keep hC HG.out; rw [HVD.out] at d2; obtain ⟨z0, z1, z2, z3, z4, z5, z6, z7, z8, z9⟩ := (HXC.out.keep (Below.block hC g HG.out)).cells; have ms := (Blk.keep (Blk.keep HCS.out HK.out) hC).cell; have mt := (Blk.keep (Blk.keep HCT.out HK.out) hC).cell; have ms0 := ms 0; have mt0 := mt 0; have ms1 := ms 1; have mt1 := mt 1; have ms2 := ms 2; have mt2 := mt 2; have ms3 := ms 3; have mt3 := mt 3; have ms4 := ms 4; have mt4 := mt 4; have ms5 := ms 5; have mt5 := mt 5; have ms6 := ms 6; have mt6 := mt 6; clear ms mt; go_simp; exact rfl)
                  go_big_quiet_on)))
          refine wpQuiet_nil ?_
          intro W6 hC
          have HK6 : Hid (Kp W W6) := Lib.hid (Kp.step HK.out hC)
          clear hC
          go_wp2_with fail
          go_roundw
          case rel => exact ⟨i + 1, d, f, hlt, rfl, rfl, by go_num, HM2, HK6⟩
          case measure => simp [intOf]; omega
        | false =>
          rw [if_neg (by simp [hcl])] at HM2
          clear hcl
          by_cases hf : f = -1
          · rw [if_pos hf] at HM2
            have qf : (f == -1) = true := by simpa using hf
            clear hf
            go_upto_region 6 with fail
            refine wp_region_kp (by kernel_rfl) (by kernel_rfl) ?_
            repeat (first
             | go_big_quiet_skip
             | (go_big_quiet_want
                go_big_quiet_op
                first
                 | go_big_quiet_on
                 | (apply Exists.intro
                    refine ⟨fun w1 hC => ?_, ?_⟩
                    · first
                       | (go_at_call 17; with_reducible exact hC.call (HEV.out _ hC))
                       | exact rfl
                       | (go_simp; exact ⟨rfl, rfl⟩)
                       | (obtain ⟨d0, d1, d2, -, -, -⟩ := HCO.out.keep hC HG.out; rw [HVD.out] at d2; obtain ⟨z0, z1, z2, z3, z4, z5, z6, z7, z8, z9⟩ := (HXC.out.keep (Below.block hC g HG.out)).cells; have ms := (Blk.keep (Blk.keep HCS.out HK.out) hC).cell; have mt := (Blk.keep (Blk.keep HCT.out HK.out) hC).cell; have ms0 := ms 0; have mt0 := mt 0; have ms1 := ms 1; have mt1 := mt 1; have ms2 := ms 2; have mt2 := mt 2; have ms3 := ms 3; have mt3 := mt 3; have ms4 := ms 4; have mt4 := mt 4; have ms5 := ms 5; have mt5 := mt 5; have ms6 := ms 6; have mt6 := mt 6; clear ms mt; go_simp; exact rfl)
                    go_big_quiet_on)))
            refine wpQuiet_nil ?_
            intro W6 hC
            have HK6 : Hid (Kp W W6) := Lib.hid (Kp.step HK.out hC)
            obtain ⟨d0, d1, d2, -, -, -⟩ := HCO.out.keep hC HG.out
            clear hC
            go_wp2_with fail
            go_roundw
            case rel => exact ⟨i + 1, _, _, hlt, rfl, rfl, by go_num, HM2, HK6⟩
            case measure => simp [intOf]; omega
          · rw [if_neg hf] at HM2
            have qf : (f == -1) = false := by simpa using hf
            clear hf
            go_upto_region 6 with fail
            refine wp_region_kp (by kernel_rfl) (by kernel_rfl) ?_
            repeat (first
             | go_big_quiet_skip
             | (go_big_quiet_want
                go_big_quiet_op
                first
                 | go_big_quiet_on
                 | (apply Exists.intro
                    refine ⟨fun w1 hC => ?_, ?_⟩
                    · first
                       | (go_at_call 17; with_reducible exact hC.call (HEV.out _ hC))
                       | exact rfl
                       | (go_simp; exact ⟨rfl, rfl⟩)
                       | (obtain ⟨d0, d1, d2, -, -, -⟩ := HCO.out.keep hC HG.out; rw [HVD.out] at d2; obtain ⟨z0, z1, z2, z3, z4, z5, z6, z7, z8, z9⟩ := (HXC.out.keep (Below.block hC g HG.out)).cells; have ms := (Blk.keep (Blk.keep HCS.out HK.out) hC).cell; have mt := (Blk.keep (Blk.keep HCT.out HK.out) hC).cell; have ms0 := ms 0; have mt0 := mt 0; have ms1 := ms 1; have mt1 := mt 1; have ms2 := ms 2; have mt2 := mt 2; have ms3 := ms 3; have mt3 := mt 3; have ms4 := ms 4; have mt4 := mt 4; have ms5 := ms 5; have mt5 := mt 5; have ms6 := ms 6; have mt6 := mt 6; clear ms mt; go_simp; exact rfl)
                    go_big_quiet_on)))
            refine wpQuiet_nil ?_
            intro W6 hC
            have HK6 : Hid (Kp W W6) := Lib.hid (Kp.step HK.out hC)
            obtain ⟨d0, d1, d2, -, -, -⟩ := HCO.out.keep hC HG.out
            clear hC
            go_wp2_with fail
            go_roundw
            case rel => exact ⟨i + 1, _, _, hlt, rfl, rfl, by go_num, HM2, HK6⟩
            case measure => simp [intOf]; omega
      · have qc : (y.cl != cl) = true := by simpa using hcl
        rw [if_pos (.inr (.inl hcl))] at HM2
        clear hcl
        go_upto_region 6 with fail
        refine wp_region_kp (by kernel_rfl) (by kernel_rfl) ?_
        repeat (first
         | go_big_quiet_skip
         | (go_big_quiet_want
            go_big_quiet_op
            first
             | go_big_quiet_on
             | (apply Exists.intro
                refine ⟨fun w1 hC => ?_, ?_⟩
                · first
                   | (go_at_call 17; with_reducible exact hC.call (HEV.out _ hC))
                   | exact rfl
                   | (go_simp; exact ⟨rfl, rfl⟩)
                   | (obtain ⟨d0, d1, d2, -, -, -⟩ := HCO.out.keep hC HG.out; rw [HVD.out] at d2; obtain ⟨z0, z1, z2, z3, z4, z5, z6, z7, z8, z9⟩ := (HXC.out.keep (Below.block hC g HG.out)).cells; have ms := (Blk.keep (Blk.keep HCS.out HK.out) hC).cell; have mt := (Blk.keep (Blk.keep HCT.out HK.out) hC).cell; have ms0 := ms 0; have mt0 := mt 0; have ms1 := ms 1; have mt1 := mt 1; have ms2 := ms 2; have mt2 := mt 2; have ms3 := ms 3; have mt3 := mt 3; have ms4 := ms 4; have mt4 := mt 4; have ms5 := ms 5; have mt5 := mt 5; have ms6 := ms 6; have mt6 := mt 6; clear ms mt; go_simp; exact rfl)
                go_big_quiet_on)))
        refine wpQuiet_nil ?_
        intro W6 hC
        have HK6 : Hid (Kp W W6) := Lib.hid (Kp.step HK.out hC)
        clear hC
        go_wp2_with fail
        go_roundw
        case rel => exact ⟨i + 1, d, f, hlt, rfl, rfl, by go_num, HM2, HK6⟩
        case measure => simp [intOf]; omega
  · have hlt' : ¬ (i : Int) < (L.length : Int) := by omega
    obtain rfl : (d, f) = R := by
     have := HM.out
     rw [List.drop_of_length_le (by omega)] at this
     exact this
    go_wp2_with fail
    exact bodyPost_ret (v := .tuple #[.int .u32 d, .int .i64 f]) (by simp [results, Tryz.results6, go_sem]) rfl ⟨rfl, by first | exact HBK.out | (rw [hgp]; exact HBK.out)⟩
end Go.Proofs.YtbhoofihnmmmfabGreat
