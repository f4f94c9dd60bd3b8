/- The walk of the law NamesetWrites. -/
import Derived.Test.YtbkejoheefnmiaaNxd
import Derived.Test.YtbkejoheefnmiaaNtc
import Derived.Test.YtbkejoheefnmiaaNsx
import Derived.Test.YtbkejoheefnmiaaNsy
import Derived.Test.YtbkejoheefnmiaaNsz
import Derived.Test.YtbkejoheefnmiaaNss
import Derived.Test.YtbkejoheefnmiaaNsm
import Derived.Test.YtbkejoheefnmiaaNxb
namespace Go.Proofs.Ytbkejoheefnmiaa
open Go.RowKit
theorem fact_end {ops : Array Oper} {n t j : Nat} {Φ : Nat → Value → World → Prop} {a0 a : Act} {w : World} (h : factEnd ops n Φ a0 a w t) (hs : srcOf ops n t = some j) : Φ j (a.tmps[t]?.getD undef) w := by
  unfold factEnd at h; rw [hs] at h; rwa [show a.eval (.tmp t) = a.tmps[t]?.getD undef by simp [Act.eval]] at h
def wr15 (hs g7 : Nat) (aoT : Option Addr) (nT capT : Nat) (x : S4) (xv : Int) (aN : Option Addr) (NM : List ByteArray) (cN : Nat) (aV : Option Addr) (VL : List ByteArray) (cV : Nat) (aoV : Option Addr) (LL : List ByteArray) (capV : Nat) : List Spec := [.val (.pointer (some ⟨g7, 3, none⟩)), .val (.slice aN NM.length cN), .val (.agg #[.int .u64 x.a, .int .u64 x.b, .int .u64 x.c, .int .u64 x.d]), .val (.pointer (some ⟨(hs + 1), 0, none⟩)), .val (.slice aoT nT capT), .nms NM, .strs NM, .val (.bool true), .val (.bool false), .val (.bool false), .val (.pointer (some ⟨g7, 4, none⟩)), .val (.slice none 0 0), .val (.int .i64 0), .val (.bool false), .val (.bool false), .val (.bool false), .val (.pointer (some ⟨g7, 0, none⟩)), .val (.bool false), .val (.bool false), .val (.bool false), .val (.pointer (some ⟨g7, 1, none⟩)), .val (.bool false), .val (.bool false), .val (.bool false), .val (.pointer (some ⟨g7, 2, none⟩)), .val (.bool false), .val (.bool false), .val (.bool false), .val (.slice aV VL.length cV), .val (.int .u32 xv), .val (.agg #[.string ⟨#[]⟩, .slice aoV LL.length capV]), .strs VL, .val (.bool true), .val (.bool false), .val (.bool false)]
set_option maxRecDepth 100000 in
set_option maxHeartbeats 16000000 in
theorem writes_c (x : S4) (xv : Int) (vT vA : Value) (Ts : List TyE) (As : List AtE) (w : World) (hx : x.U) (hv0 : 0 ≤ xv) (hv1 : xv < 4294967296) (hT : Tys w vT Ts) (hA : Ats w vA As) (hn3 : Ts.length ≤ maxLen) (hn4 : As.length ≤ maxLen) (hal : ∀ k (h : k < Ts.length), Ts[k].2.length ≤ maxLen) :
    Calls Try.prog 6 #[.agg #[.int .u64 x.a, .int .u64 x.b, .int .u64 x.c, .int .u64 x.d], .int .u32 xv, .agg #[vT, vA]] w fun e w' => e = .returned (.bool true) ∧ Below w.heap.size w w' := by
  obtain ⟨i0, hinf, hz0, hz1, hz2⟩ := info_parts infoStr
  obtain ⟨aoT, capT, rfl, hr0⟩ := id hT
  have hW : Kp w ((w.alloc (.cells #[.int .u64 x.a, .int .u64 x.b, .int .u64 x.c, .int .u64 x.d] 35)).alloc (.cells #[(.slice aoT Ts.length capT), vA] 25)) := ((Below.refl _ _).alloc (Nat.le_refl _) _).alloc (by simp) _
  have hQ : Quad ((w.alloc (.cells #[.int .u64 x.a, .int .u64 x.b, .int .u64 x.c, .int .u64 x.d] 35)).alloc (.cells #[(.slice aoT Ts.length capT), vA] 25)) w.heap.size x.a x.b x.c x.d := (Quad.new w _ _ _ _).alloc _
  have s1 : (w.alloc (.cells #[.int .u64 x.a, .int .u64 x.b, .int .u64 x.c, .int .u64 x.d] 35)).heap.size = w.heap.size + 1 := by simp
  have hE : Blk ((w.alloc (.cells #[.int .u64 x.a, .int .u64 x.b, .int .u64 x.c, .int .u64 x.d] 35)).alloc (.cells #[(.slice aoT Ts.length capT), vA] 25)) (w.heap.size + 1) 25 #[.slice aoT Ts.length capT, vA] := by rw [← s1]; exact Blk.new (w.alloc (.cells #[.int .u64 x.a, .int .u64 x.b, .int .u64 x.c, .int .u64 x.d] 35)) _ _
  have HF := Lib.hid (few_c false false false (.slice none 0 0) (.slice none 0 0) (.slice aoT Ts.length capT) vA [] [] Ts As ((w.alloc (.cells #[.int .u64 x.a, .int .u64 x.b, .int .u64 x.c, .int .u64 x.d] 35)).alloc (.cells #[(.slice aoT Ts.length capT), vA] 25)) Strs.nil Strs.nil (hT.keep hW) (hA.keep hW) (Nat.zero_le _) (Nat.zero_le _) hn3 hn4 hal)
  obtain ⟨e0, e1⟩ := hE.two
  have HE := Lib.hid hE
  have HQ := Lib.hid hQ
  have HW := Lib.hid hW
  have HT := Lib.hid (hT.keep hW)
  have HA := Lib.hid (hA.keep hW)
  have HXU := Lib.hid hx
  have HV0 := Lib.hid hv0
  have HV1 := Lib.hid hv1
  clear hn3 hn4 hal hE hW hT hA hQ hx hv0 hv1 s1 hr0
  go_enter Try.func6, Try.ntmps6
  go_wp2_with fail
  generalize ((w.alloc (.cells #[.int .u64 x.a, .int .u64 x.b, .int .u64 x.c, .int .u64 x.d] 35)).alloc (.cells #[(.slice aoT Ts.length capT), vA] 25)) = W at *
  refine HF.out.mono ?_
  rintro e w1 ⟨b, rfl, hb, hb1⟩
  have HK1 : Hid (Kp W w1) := Lib.hid hb1
  clear e0 e1 hb1
  cases b
  · clear hb
    go_wp2_with fail
    refine (awake_c _).mono ?_
    rintro e w2 ⟨rfl, hb2⟩
    have HB := Lib.hid (Kp.step HW.out (Kp.step HK1.out hb2))
    clear hb2
    go_wp2_with fail
    go_ret
    exact ⟨rfl, HB.out⟩
  · obtain ⟨_, _, b3, b4, b5⟩ := hb rfl
    have b3' : Ts.length ≤ 1000000 := by omega
    have b4' : As.length ≤ 1000000 := by omega
    have b5' : ∀ k (h : k < Ts.length), Ts[k].2.length ≤ 1000000 := fun k h => by have := b5 k h; omega
    have HL3 := Lib.hid b3'
    have HL4 := Lib.hid b4'
    have HL5 := Lib.hid b5'
    have HN1 := Lib.hid (fun W' (h : Kp W W') => Names_c x (.slice aoT Ts.length capT) Ts W' (HT.out.keep h) HL3.out HXU.out)
    have HRT := Lib.hid (fun n W' (h : Kp W W') => rtype_c (.slice aoT Ts.length capT) vA Ts n W' (HT.out.keep h) HL3.out HL5.out)
    clear b3 b4 b5 b3' b4' b5' hb
    obtain ⟨c0, c1, c2, c3⟩ := quad_box (show Quad w1 w.heap.size x.a x.b x.c x.d from HQ.out.keep HK1.out)
    obtain ⟨e0, e1⟩ := (HK1.out.blk HE.out).two
    go_wp2_with fail
    refine (HN1.out _ HK1.out).mono ?_
    rintro e w2 ⟨vN, rfl, hO, hb⟩
    obtain ⟨NM, hNM⟩ : ∃ K, nmL x (Ts.map (·.1)) (Ts.map (·.1)).length = K := ⟨_, rfl⟩
    rw [hNM] at hO
    have HNM := Lib.hid hNM
    obtain ⟨aN, cN, rfl, hlN, hSN⟩ := hO.strs
    have HK2 := Lib.hid ((Kp.step HK1.out hb).alloc (.cells #[.bool false, .bool false, .bool false, .slice aN NM.length cN, .slice none 0 0] 29))
    have HB7 : Hid (Blk (w2.alloc (.cells #[.bool false, .bool false, .bool false, .slice aN NM.length cN, .slice none 0 0] 29)) w2.heap.size 29 #[.bool false, .bool false, .bool false, .slice aN NM.length cN, .slice none 0 0]) := Lib.hid (Blk.new _ _ _)
    have HSN := Lib.hid (hSN.keep (Kp.rfl'.alloc (.cells #[.bool false, .bool false, .bool false, .slice aN NM.length cN, .slice none 0 0] 29)))
    clear hO hb hSN hNM c0 c1 c2 c3 e0 e1
    obtain ⟨e0, e1⟩ := (HK2.out.blk HE.out).two
    go_wp2_with fail
    obtain ⟨g7, hg7⟩ : ∃ n, w2.heap.size = n := ⟨_, rfl⟩
    rw [hg7] at HB7
    rw [hg7]
    clear hg7
    generalize (w2.alloc (.cells #[.bool false, .bool false, .bool false, .slice aN NM.length cN, .slice none 0 0] 29)) = V at *
    clear e0 e1
    go_loopw [8, 9, 36] (fun v8 v9 vi wr => ∃ (i : Nat) (vv : Value), vv = v8 ∧ v9 = .bool (difB Ts i) ∧ i ≤ Ts.length ∧ vi = .int .i64 i ∧ Hid (Kp V wr) ∧ Hid (OwnS wr V.heap.size vv ((Ts.map (·.1)).take i))) (fun _ _ vi _ => Ts.length - (intOf vi).toNat)
    case atStart => exact ⟨0, _, rfl, by rw [difB_zero]; exact congrArg Value.bool (decide_eq_decide.2 (by omega)), Nat.zero_le _, rfl, Lib.hid Kp.rfl', Lib.hid (by rw [List.take_zero]; exact OwnS.nil)⟩
    case round =>
      obtain ⟨i, v, rfl, rfl, hi, rfl, HK3, HO⟩ := hrel
      have HKW : Hid (Kp W wr) := Lib.hid (Kp.step HK2.out HK3.out)
      by_cases hlt : i < Ts.length
      · have hlt' : (i : Int) < (Ts.length : Int) := by omega
        have hi0 : (0 : Int) ≤ (i : Int) := by omega
        obtain ⟨ao0, cap0, e0', hr⟩ := HT.out
        cases e0'
        obtain ⟨g, o, rfl, hg, hq⟩ := hr (by rintro rfl; simp at hlt)
        obtain ⟨q00, _⟩ := hq i hlt
        obtain ⟨s, hs⟩ : ∃ s, Ts[i].1 = s := ⟨_, rfl⟩
        rw [hs] at q00
        have HQ0 : Hid (∀ W', Kp W W' → W'.cell? ⟨g, o + i * 3, none⟩ = some (.string s)) := Lib.hid fun W' h => (World.cell?_of_block (h.block g hg)).trans q00
        have HDS : Hid (difB Ts (i + 1) = (difB Ts i && decide (tyK Ts s = (i : Int)))) := Lib.hid (by rw [difB_succ hlt, hs])
        have HX : Hid ((Ts.map (·.1)).take (i + 1) = (Ts.map (·.1)).take i ++ [s]) := Lib.hid (by rw [List.take_succ_eq_append_getElem (by simpa using hlt), List.getElem_map, hs])
        obtain ⟨T, hT⟩ : ∃ T, (Ts.map (·.1)).take i = T := ⟨_, rfl⟩
        have hTl : T.length = i := by rw [← hT, List.length_take, List.length_map]; omega
        rw [hT] at HO HX
        have HTL := Lib.hid hTl
        obtain ⟨aoV, capV, rfl⟩ := HO.out.isSl
        have HC1 : Hid (∀ W', Kp wr W' → Calls Try.prog 11 #[.string s, .agg #[.slice (some ⟨g, o, none⟩) Ts.length capT, vA]] W' fun e w' => e = .returned (.tuple #[.int .i64 (tyK Ts s), .bool (tyB Ts s)]) ∧ Below W'.heap.size W' w') := Lib.hid (fun W' h => HRT.out s W' (Kp.step HKW.out h))
        have HEc : Hid (∀ W', Kp wr W' → W'.cell? ⟨w.heap.size + 1, 0, none⟩ = some (.slice (some ⟨g, o, none⟩) Ts.length capT) ∧ W'.cell? ⟨w.heap.size + 1, 1, none⟩ = some vA) := Lib.hid (fun W' h => ((Kp.step HKW.out h).blk HE.out).two)
        have HQc : Hid (∀ W', Kp wr W' → W'.cell? ⟨g, o + i * 3, none⟩ = some (.string s)) := Lib.hid (fun W' h => HQ0.out _ (Kp.step HKW.out h))
        obtain ⟨K, hK⟩ : ∃ K, tyK Ts s = K := ⟨_, rfl⟩
        obtain ⟨B, hB⟩ : ∃ K, tyB Ts s = K := ⟨_, rfl⟩
        obtain ⟨D, hD⟩ : ∃ K, difB Ts i = K := ⟨_, rfl⟩
        rw [hK, hB] at HC1
        rw [hK, hD] at HDS
        rw [hD]
        clear hK hB hD hs q00 hq hr hT hTl
        go_wp2_with fail
        refine wp_region_kp (by kernel_rfl) (by kernel_rfl) ?_
        repeat (first
          | go_big_quiet_skip
          | (go_big_quiet_want
             go_big_quiet_op
             first
               | go_big_quiet_on
               | (apply Exists.intro
                  refine ⟨fun w1 hC => ?_, ?_⟩
                  · first
                      | (go_at_call 11; with_reducible exact hC.call (HC1.out _ hC))
                      | (obtain ⟨e0, e1⟩ := HEc.out _ hC; have q0 := HQc.out _ hC; go_simp; exact rfl)
                      | (go_simp; exact ⟨rfl, rfl⟩)
                  go_big_quiet_on)))
        refine wpQuiet_nil ?_
        intro W' hC

        have HK4 := Lib.hid hC
        have HKV := Lib.hid (Kp.step HK3.out hC)
        replace HO := Lib.hid (HO.out.keep hC)
        have HNX : Hid (∃ D2, D2 = difB Ts (i + 1) ∧ (D = true ∧ K = (i : Int) ∧ D2 = true ∨ D = true ∧ ¬ K = (i : Int) ∧ D2 = false ∨ D = false ∧ D2 = false)) := Lib.hid ⟨_, rfl, by
          rw [HDS.out]
          cases D
          · exact .inr (.inr ⟨rfl, rfl⟩)
          · by_cases h : K = (i : Int)
            · exact .inl ⟨rfl, h, by rw [decide_eq_true h]; rfl⟩
            · exact .inr (.inl ⟨rfl, h, by rw [decide_eq_false h]; rfl⟩)⟩
        obtain ⟨e0, e1⟩ := HEc.out _ hC
        have q0 := HQc.out _ hC
        obtain ⟨D2, hD2, hcs⟩ := HNX.out
        have HD2 := Lib.hid hD2
        clear hC hD2 HDS HNX
        rcases hcs with ⟨rfl, rfl, rfl⟩ | ⟨rfl, hne, rfl⟩ | ⟨rfl, rfl⟩
        all_goals
          go_wp2_with (at_builtin; refine wpList_append_own _ rfl _ _ 27 rfl V.heap.size 9 i0 (.string ⟨#[]⟩) 1 16 Try.underlying27 hinf hz0 hz1 hz2 rfl (by decide) (.slice aoV T.length capV) T.length (T.map Value.string) rfl (HO.out.alloc _) ⟨_, 0, none⟩ 1 1 [.string s] rfl rfl ?c1 ?c2 ?c3 ?c4 ?c5 ?_)
          case c1 => exact one_newS (by simp)
          case c2 => intro u hu; simp at hu; subst hu; rfl
          case c3 => have := HTL.out; have := HL3.out; unfold maxLen; omega
          case c4 => have := HTL.out; have := HL3.out; omega
          case c5 => have := HKV.out.size; simp; omega
          intro v' w3 hown2 hgrow _
          have hlo := HO.out.lt
          have R3 : OwnS w3 V.heap.size v' (T ++ [s]) := by
            unfold OwnS
            simpa using hown2
          have hsz := HKV.out.size
          have B3 : Kp V w3 := (HKV.out.alloc _).grown hgrow (by simp; omega) (fun k e => by have := hlo _ e; omega)
          have HR := Lib.hid R3
          have HB3 := Lib.hid B3
          clear hown2 hgrow hlo hsz R3 B3 e0 e1 q0
          have hL3 := HL3.out
          go_wp2_with fail
          go_roundw
          case rel => exact ⟨i + 1, _, rfl, by rw [← HD2.out]; try first | rfl | simp_all, hlt, by go_num, HB3, Lib.hid (by rw [HX.out]; exact HR.out)⟩
          case measure => simp [intOf]; omega
      · obtain rfl : i = Ts.length := by omega
        have hall : (Ts.map (·.1)).take Ts.length = Ts.map (·.1) := List.take_of_length_le (by simp)
        rw [hall] at HO
        obtain ⟨LL, hLL⟩ : ∃ K, Ts.map (·.1) = K := ⟨_, rfl⟩
        rw [hLL] at HO
        have hlen : LL.length = Ts.length := by rw [← hLL]; simp
        have HLL := Lib.hid hLL
        have HLN := Lib.hid hlen
        obtain ⟨aoV, capV, rfl, hcapV, hSV⟩ := HO.out.strs
        have HSV := Lib.hid hSV
        have HCV := Lib.hid hcapV
        obtain ⟨D, hD⟩ : ∃ K, difB Ts Ts.length = K := ⟨_, rfl⟩
        rw [hD]
        have HD := Lib.hid hD
        clear hall hLL hlen hSV hcapV hD
        go_wp2_with fail
        have HVC := Lib.hid (Vector_c xv ⟨#[]⟩ (.slice aoV LL.length capV) LL (wr.alloc (.cells #[.string ⟨#[]⟩, .slice aoV LL.length capV] 44)) (HSV.out.keep (Kp.rfl'.alloc _)) (by rw [HLN.out]; exact HL3.out) HV0.out HV1.out)
        have HCB : Hid (Blk (wr.alloc (.cells #[.string ⟨#[]⟩, .slice aoV LL.length capV] 44)) wr.heap.size 44 #[.string ⟨#[]⟩, .slice aoV LL.length capV]) := Lib.hid (Blk.new _ _ _)
        have HKC := Lib.hid (HKW.out.alloc (.cells #[.string ⟨#[]⟩, .slice aoV LL.length capV] 44))
        have HKD := Lib.hid (HK3.out.alloc (.cells #[.string ⟨#[]⟩, .slice aoV LL.length capV] 44))
        replace HSV := Lib.hid (HSV.out.keep (Kp.rfl'.alloc (.cells #[.string ⟨#[]⟩, .slice aoV LL.length capV] 44)))
        obtain ⟨gC, hgC⟩ : ∃ n, wr.heap.size = n := ⟨_, rfl⟩
        rw [hgC] at HCB
        rw [hgC]
        clear hgC
        generalize (wr.alloc (.cells #[.string ⟨#[]⟩, .slice aoV LL.length capV] 44)) = U at *
        refine HVC.out.mono ?_
        rintro e w4 ⟨vV, rfl, hO, hb⟩
        obtain ⟨VL, hVL⟩ : ∃ K, vecL xv LL LL.length = K := ⟨_, rfl⟩
        rw [hVL] at hO
        have HVL := Lib.hid hVL
        obtain ⟨aV, cV, rfl, hlV, hSW⟩ := hO.strs
        have HK5 : Hid (Kp U w4) := Lib.hid hb
        have HSW := Lib.hid hSW
        clear hO hb hVL hSW hlV HVC
        go_wp2_with fail
        have HQ4 : Hid (Quad w4 w.heap.size x.a x.b x.c x.d) := Lib.hid ((HQ.out.keep HKC.out).keep HK5.out)
        have HE4 : Hid (Blk w4 (w.heap.size + 1) 25 #[.slice aoT Ts.length capT, vA]) := Lib.hid (HK5.out.blk (HKC.out.blk HE.out))
        have HB74 : Hid (Blk w4 g7 29 #[.bool false, .bool false, .bool false, .slice aN NM.length cN, .slice none 0 0]) := Lib.hid (HK5.out.blk (HKD.out.blk HB7.out))
        have HCB4 : Hid (Blk w4 gC 44 #[.string ⟨#[]⟩, .slice aoV LL.length capV]) := Lib.hid (HK5.out.blk HCB.out)
        have HT4 := Lib.hid ((HT.out.keep HKC.out).keep HK5.out)
        have HSN4 := Lib.hid ((HSN.out.keep HKD.out).keep HK5.out)
        have HSV4 := Lib.hid (HSV.out.keep HK5.out)
        have HSW4 := HSW
        have HNL : Hid (NM.length ≤ 1000000) := Lib.hid (by rw [← HNM.out]; have := nmL_len x (Ts.map (·.1)) (Ts.map (·.1)).length; rw [List.length_map] at *; exact Nat.le_trans this HL3.out)
        have HVLL : Hid (VL.length ≤ 1000000) := Lib.hid (by rw [← HVL.out]; have := vecL_len xv LL LL.length; rw [HLN.out] at *; exact Nat.le_trans this HL3.out)
        have HKW4 : Hid (Kp W w4) := Lib.hid (Kp.step HKC.out HK5.out)
        go_cut [105] from 71 to 105 (fun v105 w' => v105 = .bool false ∧ Hid (Kp w4 w'))
        case first =>
          rename_i J2 K2 hJ2 hK2
          generalize w.heap.size = hs0 at HQ4 HE4 hJ2 ⊢
          refine wp_region_obs (fun i v w => Spec.ok ((wr15 hs0 g7 aoT Ts.length capT x xv aN NM cN aV VL cV aoV LL capV).getD i (.val undef)) v w) (by kernel_rfl) (by kernel_rfl) (fun i v w w' h hb => Spec.keep h hb) ?_ ?_
          · refine ⟨⟨trivial, fun A v hK hF => ?_⟩, ?_⟩
            · have f7 : A.tmps[7]?.getD undef = .pointer (some ⟨g7, 0, none⟩) := fact_none (hF 7) (by kernel_rfl)
              unfold Gives
              go_simp
              exact gives_val (Below.refl _ _) rfl
            refine ⟨⟨trivial, fun A v hK hF => ?_⟩, ?_⟩
            · have f71 : A.tmps[71]?.getD undef = .pointer (some ⟨g7, 3, none⟩) := fact_some (hF 71) (j := 0) (by kernel_rfl) (by kernel_rfl)
              obtain ⟨n0, n1, n2, n3, n4⟩ := (hK.blk HB74.out).five
              unfold Gives
              go_simp
              exact gives_val (Below.refl _ _) rfl
            refine ⟨⟨trivial, fun A v hK hF => ?_⟩, ?_⟩
            · have f3 : A.tmps[3]?.getD undef = .pointer (some ⟨hs0, 0, none⟩) := fact_none (hF 3) (by kernel_rfl)
              obtain ⟨c0, c1, c2, c3⟩ := quad_box (HQ4.out.keep hK)
              unfold Gives
              go_simp
              exact gives_val (Below.refl _ _) rfl
            refine ⟨⟨trivial, fun A v hK hF => ?_⟩, ?_⟩
            · have f5 : A.tmps[5]?.getD undef = .pointer (some ⟨(hs0 + 1), 0, none⟩) := fact_none (hF 5) (by kernel_rfl)
              unfold Gives
              go_simp
              exact gives_val (Below.refl _ _) rfl
            refine ⟨⟨trivial, fun A v hK hF => ?_⟩, ?_⟩
            · have f74 : A.tmps[74]?.getD undef = .pointer (some ⟨(hs0 + 1), 0, none⟩) := fact_some (hF 74) (j := 3) (by kernel_rfl) (by kernel_rfl)
              obtain ⟨e0, e1⟩ := (hK.blk HE4.out).two
              unfold Gives
              go_simp
              exact gives_val (Below.refl _ _) rfl
            refine ⟨⟨trivial, fun A v hK hF => ?_⟩, ?_⟩
            · have f73 : A.tmps[73]?.getD undef = .agg #[.int .u64 x.a, .int .u64 x.b, .int .u64 x.c, .int .u64 x.d] := fact_some (hF 73) (j := 2) (by kernel_rfl) (by kernel_rfl)
              have f75 : A.tmps[75]?.getD undef = .slice aoT Ts.length capT := fact_some (hF 75) (j := 4) (by kernel_rfl) (by kernel_rfl)
              unfold Gives
              go_simp
              refine gives_enter ((rNames_c x _ Ts v (HT4.out.keep hK) HL3.out).mono ?_)
              rintro e w2 ⟨vN2, rfl, ho, hb⟩
              rw [HNM.out] at ho
              obtain ⟨aoN2, capN2, rfl, -, hNS⟩ := ho.strs
              exact ⟨_, rfl, hb, (show Spec.ok (.nms NM) _ _ from ⟨_, _, rfl, hNS⟩)⟩
            refine ⟨⟨trivial, fun A v hK hF => ?_⟩, ?_⟩
            · obtain ⟨a76, c76, f76, s76⟩ : ∃ aN cN, A.tmps[76]?.getD undef = .agg #[.bool false, .bool false, .bool false, .slice aN NM.length cN, .slice none 0 0] ∧ Strs v (.slice aN NM.length cN) NM := fact_some (hF 76) (j := 5) (by kernel_rfl) (by kernel_rfl)
              unfold Gives
              go_simp
              exact gives_val (Below.refl _ _) (show Spec.ok (.strs NM) _ _ from ⟨_, _, rfl, s76⟩)
            refine ⟨⟨trivial, fun A v hK hF => ?_⟩, ?_⟩
            · have f72 : A.tmps[72]?.getD undef = .slice aN NM.length cN := fact_some (hF 72) (j := 1) (by kernel_rfl) (by kernel_rfl)
              obtain ⟨a77, c77, f77, s77⟩ : ∃ ao cap, A.tmps[77]?.getD undef = .slice ao NM.length cap ∧ Strs v (.slice ao NM.length cap) NM := fact_some (hF 77) (j := 6) (by kernel_rfl) (by kernel_rfl)
              unfold Gives
              go_simp
              have h := same_c _ _ NM NM v (HSN4.out.keep hK) s77 HNL.out
              rw [sameS_self] at h
              exact gives_enter (h.mono fun e w'' ⟨he, hb⟩ => ⟨_, he, hb, rfl⟩)
            refine ⟨⟨trivial, fun A v hK hF => ?_⟩, ?_⟩
            · have f78 : A.tmps[78]?.getD undef = .bool true := fact_some (hF 78) (j := 7) (by kernel_rfl) (by kernel_rfl)
              unfold Gives
              go_simp
              exact gives_val (Below.refl _ _) rfl
            refine ⟨⟨trivial, fun A v hK hF => ?_⟩, ?_⟩
            · have f79 : A.tmps[79]?.getD undef = .bool false := fact_some (hF 79) (j := 8) (by kernel_rfl) (by kernel_rfl)
              unfold Gives
              go_simp
              exact gives_val (Below.refl _ _) rfl
            refine ⟨⟨fun _ _ h => h, fun A v hK hF => ?_⟩, ?_⟩
            · have f7 : A.tmps[7]?.getD undef = .pointer (some ⟨g7, 0, none⟩) := fact_none (hF 7) (by kernel_rfl)
              unfold Gives
              go_simp
              exact gives_val (Below.refl _ _) rfl
            refine ⟨⟨fun _ _ h => h, fun A v hK hF => ?_⟩, ?_⟩
            · have f81 : A.tmps[81]?.getD undef = .pointer (some ⟨g7, 4, none⟩) := fact_some (hF 81) (j := 10) (by kernel_rfl) (by kernel_rfl)
              obtain ⟨n0, n1, n2, n3, n4⟩ := (hK.blk HB74.out).five
              unfold Gives
              go_simp
              exact gives_val (Below.refl _ _) rfl
            refine ⟨⟨fun _ _ h => h, fun A v hK hF => ?_⟩, ?_⟩
            · have f82 : A.tmps[82]?.getD undef = .slice none 0 0 := fact_some (hF 82) (j := 11) (by kernel_rfl) (by kernel_rfl)
              unfold Gives
              go_simp
              exact gives_val (Below.refl _ _) rfl
            refine ⟨⟨fun _ _ h => h, fun A v hK hF => ?_⟩, ?_⟩
            · have f83 : A.tmps[83]?.getD undef = .int .i64 0 := fact_some (hF 83) (j := 12) (by kernel_rfl) (by kernel_rfl)
              unfold Gives
              go_simp
              exact gives_val (Below.refl _ _) rfl
            refine ⟨⟨trivial, fun A v hK hF => ?_⟩, ?_⟩
            · have f80 : A.tmps[80]?.getD undef = .bool false := fact_some (hF 80) (j := 9) (by kernel_rfl) (by kernel_rfl)
              have f84 : A.tmps[84]?.getD undef = .bool false := fact_some (hF 84) (j := 13) (by kernel_rfl) (by kernel_rfl)
              unfold Gives
              go_simp
              exact gives_val (Below.refl _ _) rfl
            refine ⟨⟨trivial, fun A v hK hF => ?_⟩, ?_⟩
            · have f85 : A.tmps[85]?.getD undef = .bool false := fact_some (hF 85) (j := 14) (by kernel_rfl) (by kernel_rfl)
              unfold Gives
              go_simp
              exact gives_val (Below.refl _ _) rfl
            refine ⟨⟨fun _ _ h => h, fun A v hK hF => ?_⟩, ?_⟩
            · have f7 : A.tmps[7]?.getD undef = .pointer (some ⟨g7, 0, none⟩) := fact_none (hF 7) (by kernel_rfl)
              unfold Gives
              go_simp
              exact gives_val (Below.refl _ _) rfl
            refine ⟨⟨fun _ _ h => h, fun A v hK hF => ?_⟩, ?_⟩
            · have f87 : A.tmps[87]?.getD undef = .pointer (some ⟨g7, 0, none⟩) := fact_some (hF 87) (j := 16) (by kernel_rfl) (by kernel_rfl)
              obtain ⟨n0, n1, n2, n3, n4⟩ := (hK.blk HB74.out).five
              unfold Gives
              go_simp
              exact gives_val (Below.refl _ _) rfl
            refine ⟨⟨trivial, fun A v hK hF => ?_⟩, ?_⟩
            · have f86 : A.tmps[86]?.getD undef = .bool false := fact_some (hF 86) (j := 15) (by kernel_rfl) (by kernel_rfl)
              have f88 : A.tmps[88]?.getD undef = .bool false := fact_some (hF 88) (j := 17) (by kernel_rfl) (by kernel_rfl)
              unfold Gives
              go_simp
              exact gives_val (Below.refl _ _) rfl
            refine ⟨⟨trivial, fun A v hK hF => ?_⟩, ?_⟩
            · have f89 : A.tmps[89]?.getD undef = .bool false := fact_some (hF 89) (j := 18) (by kernel_rfl) (by kernel_rfl)
              unfold Gives
              go_simp
              exact gives_val (Below.refl _ _) rfl
            refine ⟨⟨fun _ _ h => h, fun A v hK hF => ?_⟩, ?_⟩
            · have f7 : A.tmps[7]?.getD undef = .pointer (some ⟨g7, 0, none⟩) := fact_none (hF 7) (by kernel_rfl)
              unfold Gives
              go_simp
              exact gives_val (Below.refl _ _) rfl
            refine ⟨⟨fun _ _ h => h, fun A v hK hF => ?_⟩, ?_⟩
            · have f91 : A.tmps[91]?.getD undef = .pointer (some ⟨g7, 1, none⟩) := fact_some (hF 91) (j := 20) (by kernel_rfl) (by kernel_rfl)
              obtain ⟨n0, n1, n2, n3, n4⟩ := (hK.blk HB74.out).five
              unfold Gives
              go_simp
              exact gives_val (Below.refl _ _) rfl
            refine ⟨⟨trivial, fun A v hK hF => ?_⟩, ?_⟩
            · have f90 : A.tmps[90]?.getD undef = .bool false := fact_some (hF 90) (j := 19) (by kernel_rfl) (by kernel_rfl)
              have f92 : A.tmps[92]?.getD undef = .bool false := fact_some (hF 92) (j := 21) (by kernel_rfl) (by kernel_rfl)
              unfold Gives
              go_simp
              exact gives_val (Below.refl _ _) rfl
            refine ⟨⟨trivial, fun A v hK hF => ?_⟩, ?_⟩
            · have f93 : A.tmps[93]?.getD undef = .bool false := fact_some (hF 93) (j := 22) (by kernel_rfl) (by kernel_rfl)
              unfold Gives
              go_simp
              exact gives_val (Below.refl _ _) rfl
            refine ⟨⟨fun _ _ h => h, fun A v hK hF => ?_⟩, ?_⟩
            · have f7 : A.tmps[7]?.getD undef = .pointer (some ⟨g7, 0, none⟩) := fact_none (hF 7) (by kernel_rfl)
              unfold Gives
              go_simp
              exact gives_val (Below.refl _ _) rfl
            refine ⟨⟨fun _ _ h => h, fun A v hK hF => ?_⟩, ?_⟩
            · have f95 : A.tmps[95]?.getD undef = .pointer (some ⟨g7, 2, none⟩) := fact_some (hF 95) (j := 24) (by kernel_rfl) (by kernel_rfl)
              obtain ⟨n0, n1, n2, n3, n4⟩ := (hK.blk HB74.out).five
              unfold Gives
              go_simp
              exact gives_val (Below.refl _ _) rfl
            refine ⟨⟨trivial, fun A v hK hF => ?_⟩, ?_⟩
            · have f94 : A.tmps[94]?.getD undef = .bool false := fact_some (hF 94) (j := 23) (by kernel_rfl) (by kernel_rfl)
              have f96 : A.tmps[96]?.getD undef = .bool false := fact_some (hF 96) (j := 25) (by kernel_rfl) (by kernel_rfl)
              unfold Gives
              go_simp
              exact gives_val (Below.refl _ _) rfl
            refine ⟨⟨trivial, fun A v hK hF => ?_⟩, ?_⟩
            · have f97 : A.tmps[97]?.getD undef = .bool false := fact_some (hF 97) (j := 26) (by kernel_rfl) (by kernel_rfl)
              unfold Gives
              go_simp
              exact gives_val (Below.refl _ _) rfl
            refine ⟨⟨fun _ _ h => h, fun A v hK hF => ?_⟩, ?_⟩
            · have f14 : A.tmps[14]?.getD undef = .slice aV VL.length cV := fact_none (hF 14) (by kernel_rfl)
              unfold Gives
              go_simp
              exact gives_val (Below.refl _ _) rfl
            refine ⟨⟨fun _ _ h => h, fun A v hK hF => ?_⟩, ?_⟩
            · have f1 : A.tmps[1]?.getD undef = .int .u32 xv := fact_none (hF 1) (by kernel_rfl)
              unfold Gives
              go_simp
              exact gives_val (Below.refl _ _) rfl
            refine ⟨⟨fun _ _ h => h, fun A v hK hF => ?_⟩, ?_⟩
            · have f13 : A.tmps[13]?.getD undef = .pointer (some ⟨gC, 0, none⟩) := fact_none (hF 13) (by kernel_rfl)
              obtain ⟨k0, k1⟩ := (hK.blk HCB4.out).two
              unfold Gives
              go_simp
              exact gives_val (Below.refl _ _) rfl
            refine ⟨⟨fun _ _ h => h, fun A v hK hF => ?_⟩, ?_⟩
            · have f100 : A.tmps[100]?.getD undef = .int .u32 xv := fact_some (hF 100) (j := 29) (by kernel_rfl) (by kernel_rfl)
              have f101 : A.tmps[101]?.getD undef = .agg #[.string ⟨#[]⟩, .slice aoV LL.length capV] := fact_some (hF 101) (j := 30) (by kernel_rfl) (by kernel_rfl)
              unfold Gives
              go_simp
              refine gives_enter ((rVector_c xv ⟨#[]⟩ _ LL v (HSV4.out.keep hK) (by rw [HLN.out]; exact HL3.out) HV0.out HV1.out).mono ?_)
              rintro e w2 ⟨vN2, rfl, ho, hb⟩
              rw [HVL.out] at ho
              obtain ⟨aoN2, capN2, rfl, -, hNS⟩ := ho.strs
              exact ⟨_, rfl, hb, (show Spec.ok (.strs VL) _ _ from ⟨_, _, rfl, hNS⟩)⟩
            refine ⟨⟨fun _ _ h => h, fun A v hK hF => ?_⟩, ?_⟩
            · have f99 : A.tmps[99]?.getD undef = .slice aV VL.length cV := fact_some (hF 99) (j := 28) (by kernel_rfl) (by kernel_rfl)
              obtain ⟨a102, c102, f102, s102⟩ : ∃ ao cap, A.tmps[102]?.getD undef = .slice ao VL.length cap ∧ Strs v (.slice ao VL.length cap) VL := fact_some (hF 102) (j := 31) (by kernel_rfl) (by kernel_rfl)
              unfold Gives
              go_simp
              have h := same_c _ _ VL VL v (HSW4.out.keep hK) s102 HVLL.out
              rw [sameS_self] at h
              exact gives_enter (h.mono fun e w'' ⟨he, hb⟩ => ⟨_, he, hb, rfl⟩)
            refine ⟨⟨fun _ _ h => h, fun A v hK hF => ?_⟩, ?_⟩
            · have f103 : A.tmps[103]?.getD undef = .bool true := fact_some (hF 103) (j := 32) (by kernel_rfl) (by kernel_rfl)
              unfold Gives
              go_simp
              exact gives_val (Below.refl _ _) rfl
            refine ⟨⟨trivial, fun A v hK hF => ?_⟩, ?_⟩
            · have f98 : A.tmps[98]?.getD undef = .bool false := fact_some (hF 98) (j := 27) (by kernel_rfl) (by kernel_rfl)
              have f104 : A.tmps[104]?.getD undef = .bool false := fact_some (hF 104) (j := 33) (by kernel_rfl) (by kernel_rfl)
              unfold Gives
              go_simp
              exact gives_val (Below.refl _ _) rfl
            exact trivial
          · intro a v hK hsz hdf hF
            refine hK2 _ _ (Met.intro (hJ2 _ _ ?_))
            exact ⟨a.tmps[71]?.getD undef, a.tmps[72]?.getD undef, a.tmps[73]?.getD undef, a.tmps[74]?.getD undef, a.tmps[75]?.getD undef, a.tmps[76]?.getD undef, a.tmps[77]?.getD undef, a.tmps[78]?.getD undef, a.tmps[79]?.getD undef, a.tmps[80]?.getD undef, a.tmps[81]?.getD undef, a.tmps[82]?.getD undef, a.tmps[83]?.getD undef, a.tmps[84]?.getD undef, a.tmps[85]?.getD undef, a.tmps[86]?.getD undef, a.tmps[87]?.getD undef, a.tmps[88]?.getD undef, a.tmps[89]?.getD undef, a.tmps[90]?.getD undef, a.tmps[91]?.getD undef, a.tmps[92]?.getD undef, a.tmps[93]?.getD undef, a.tmps[94]?.getD undef, a.tmps[95]?.getD undef, a.tmps[96]?.getD undef, a.tmps[97]?.getD undef, a.tmps[98]?.getD undef, a.tmps[99]?.getD undef, a.tmps[100]?.getD undef, a.tmps[101]?.getD undef, a.tmps[102]?.getD undef, a.tmps[103]?.getD undef, a.tmps[104]?.getD undef, a.tmps[105]?.getD undef, ⟨(fact_end (hF 105) (j := 34) (by kernel_rfl) : Spec.ok (.val (.bool false)) _ _), Lib.hid hK⟩, end_cut 71 105 hsz hdf hF (by kernel_rfl)⟩
        case rest =>
          obtain ⟨rfl, HKw⟩ := hcut
          have HK6 : Hid (Kp W wc) := Lib.hid (Kp.step HKW4.out HKw.out)
          have HQ5 := Lib.hid (HQ4.out.keep HKw.out)
          have HB75 := Lib.hid (HKw.out.blk HB74.out)
          have HCB5 := Lib.hid (HKw.out.blk HCB4.out)
          have HSN5 := Lib.hid (HSN4.out.keep HKw.out)
          have HSV5 := Lib.hid (HSV4.out.keep HKw.out)
          have HSW5 := Lib.hid (HSW4.out.keep HKw.out)
          clear HKw HQ4 HE4 HB74 HCB4 HT4 HSN4 HSV4 HSW4 HKW4 HSN HSV HSW HB7 HCB HK5 HKC HKD
          cases D
          · go_wp2_with fail
            refine (awake_c _).mono ?_
            rintro e w5 ⟨rfl, hb⟩
            have HB := Lib.hid (Kp.step HW.out (Kp.step HK6.out hb))
            clear hb
            go_wp2_with fail
            go_ret
            exact ⟨rfl, HB.out⟩
          · obtain ⟨SX, hSX⟩ : ∃ K, x.and (allS Ts.length) = K := ⟨_, rfl⟩
            obtain ⟨PX, hPX⟩ : ∃ K, bits .and .u32 xv (IntKind.u32.wrap (allS ((min LL.length 32 : Nat) : Int)).a) = K := ⟨_, rfl⟩
            have HC6 : Hid (∀ W', Kp wc W' → Calls Try.prog 14 #[.agg #[.bool false, .bool false, .bool false, .slice aN NM.length cN, .slice none 0 0], .agg #[.slice aoT Ts.length capT, vA]] W' (ErrOut SX 0 W')) := Lib.hid (fun W' h => by
              have h1 := types_c false false false (.slice aN NM.length cN) (.slice none 0 0) (.slice aoT Ts.length capT) vA NM [] Ts As W' (HSN5.out.keep h) Strs.nil (HT.out.keep (Kp.step HK6.out h)) (HA.out.keep (Kp.step HK6.out h)) HNL.out (Nat.zero_le _) HL3.out HL4.out HL5.out
              obtain ⟨r1, r2⟩ := names_mean As HXU.out HD.out
              rw [HNM.out] at r1 r2
              rw [r1, r2, hSX] at h1
              exact h1)
            have HC7 : Hid (∀ W', Kp wc W' → Calls Try.prog 20 #[.agg #[.bool false, .bool false, .bool false, .slice aV VL.length cV, .slice none 0 0], .agg #[.string ⟨#[]⟩, .slice aoV LL.length capV]] W' fun e w' => e = .returned (.tuple #[.int .u32 PX, .int .i64 0]) ∧ Below W'.heap.size W' w') := Lib.hid (fun W' h => by
              have h1 := Perms_c false false false (.slice aV VL.length cV) (.slice none 0 0) ⟨#[]⟩ aoV capV VL [] LL W' (HSW5.out.keep h) Strs.nil (HSV5.out.keep h) HCV.out HVLL.out (Nat.zero_le _) (by rw [HLN.out]; exact HL3.out)
              obtain ⟨r1, r2⟩ := vec_mean HV0.out HV1.out HD.out HLL.out.symm
              rw [HVL.out] at r1 r2
              rw [r1, r2, hPX] at h1
              exact h1)
            have HSX := Lib.hid hSX
            have HPX := Lib.hid hPX
            clear hSX hPX
            obtain ⟨n0, n1, n2, n3, n4⟩ := HB75.out.five
            obtain ⟨e0, e1⟩ := (HK6.out.blk HE.out).two
            go_wp2_with fail
            refine (HC6.out _ Kp.rfl').mono ?_
            rintro e w5 ⟨rfl, hb⟩
            have HA1 : Hid (Kp wc (w5.alloc (.cells #[.int .u64 SX.a, .int .u64 SX.b, .int .u64 SX.c, .int .u64 SX.d] 35))) := Lib.hid (Kp.alloc hb _)
            have HT1 := Lib.hid (Quad.new w5 SX.a SX.b SX.c SX.d)
            clear hb n0 n1 n2 n3 n4 e0 e1
            obtain ⟨k0, k1⟩ := (HA1.out.blk HCB5.out).two
            go_wp2_with fail
            refine (HC7.out _ HA1.out).mono ?_
            rintro e w6 ⟨rfl, hb⟩
            have HA2 := Lib.hid (Kp.step HA1.out hb)
            have HT2 := Lib.hid (HT1.out.keep hb)
            clear hb k0 k1
            obtain ⟨AX, hAX⟩ : ∃ K, allS (Ts.length : Int) = K := ⟨_, rfl⟩
            have HAX := Lib.hid hAX
            clear hAX
            rcases Nat.lt_or_ge 32 Ts.length with hm | hm
            · have hm1 : (32 : Int) < (Ts.length : Int) := by omega
              have hm2 : ¬ (Ts.length : Int) < 32 := by omega
              have hm3 : ¬ (Ts.length : Int) ≤ 32 := by omega
              have HPM : Hid (bits .and .u32 xv (IntKind.u32.wrap (allS 32).a) = PX) := Lib.hid (by rw [← HPX.out, HLN.out, Nat.min_eq_right (Nat.le_of_lt hm)]; rfl)
              obtain ⟨B, hB⟩ : ∃ K, allS 32 = K := ⟨_, rfl⟩
              have HC8 : Hid (Calls Try.prog 27 #[.int .i64 32] w6 fun e w' => e = .returned (.agg #[.int .u64 B.a, .int .u64 B.b, .int .u64 B.c, .int .u64 B.d]) ∧ Below w6.heap.size w6 w') := Lib.hid (by rw [← hB]; exact rallS_c 32 w6 (by decide) (by decide))
              rw [hB] at HPM
              have hL3 := HL3.out
              have hLN := HLN.out
              clear hm hB
              go_wp2_with fail
              refine HC8.out.mono ?_
              rintro e w7 ⟨rfl, hb⟩
              have HA3 : Hid (Kp wc w7) := Lib.hid (Kp.step HA2.out hb)
              have HT3 := Lib.hid (HT2.out.keep hb)
              have HQ7 := Lib.hid (HQ5.out.keep HA3.out)
              have HE7 := Lib.hid ((Kp.step HK6.out HA3.out).blk HE.out)
              have HKE := Lib.hid (Kp.step HW.out (Kp.step HK6.out HA3.out))
              clear hb
              have ix : ∀ w, (Instr.index 35 (.agg #[.int .u64 B.a, .int .u64 B.b, .int .u64 B.c, .int .u64 B.d]) (.int .i64 0)).run Try.prog w = .ok (.int .u64 B.a) w := fun _ => by kernel_rfl
              go_wp2_with fail
              have HAL : Hid (∀ W', Kp w7 W' → Calls Try.prog 27 #[.int .i64 Ts.length] W' fun e w' => e = .returned (.agg #[.int .u64 AX.a, .int .u64 AX.b, .int .u64 AX.c, .int .u64 AX.d]) ∧ Below W'.heap.size W' w') := Lib.hid (fun W' _ => by rw [← HAX.out]; exact rallS_c Ts.length W' (by omega) (by omega))
              have HME : Hid (∀ W', Kp w7 W' → Calls Try.prog 28 #[.agg #[.int .u64 x.a, .int .u64 x.b, .int .u64 x.c, .int .u64 x.d], .agg #[.int .u64 AX.a, .int .u64 AX.b, .int .u64 AX.c, .int .u64 AX.d]] W' fun e w' => e = .returned (.agg #[.int .u64 SX.a, .int .u64 SX.b, .int .u64 SX.c, .int .u64 SX.d]) ∧ Below W'.heap.size W' w') := Lib.hid (fun W' _ => by rw [← HSX.out, HAX.out]; exact rmeet_c x.a x.b x.c x.d AX.a AX.b AX.c AX.d W')
              have HAW : Hid (∀ W', Kp w7 W' → Calls Try.prog 9 #[] W' fun e w' => e = .returned (.bool true) ∧ Below W'.heap.size W' w') := Lib.hid (fun W' _ => awake_c W')
              have hpm : bits .and .u32 xv (B.a % 4294967296) = PX := by have h := HPM.out; rwa [show IntKind.u32.wrap B.a = B.a % 4294967296 by simp [IntKind.wrap, IntKind.bits, IntKind.signed]] at h
              refine wp_region_kp (by kernel_rfl) (by kernel_rfl) ?_
              repeat (first
                | go_big_quiet_skip
                | (go_big_quiet_want
                   go_big_quiet_op
                   first
                     | go_big_quiet_on
                     | (apply Exists.intro
                        refine ⟨fun w1 hC => ?_, ?_⟩
                        · first
                            | (go_at_call 27; with_reducible exact hC.call (HAL.out _ hC))
                            | (go_at_call 28; with_reducible exact hC.call (HME.out _ hC))
                            | (go_at_call 9; with_reducible exact hC.call (HAW.out _ hC))
                            | (obtain ⟨e0, e1⟩ := (hC.blk HE7.out).two; obtain ⟨c0, c1, c2, c3⟩ := quad_box (HQ7.out.keep hC); obtain ⟨d0, d1, d2, d3⟩ := quad_box (HT3.out.keep hC); go_simp; exact rfl)
                            | (go_simp; exact ⟨rfl, rfl⟩)
                        go_big_quiet_on)))
              refine wpQuiet_nil ?_
              intro W' hC
              have HB := Lib.hid (Kp.step HKE.out hC)
              clear hC
              go_wp2_with fail
              go_ret
              exact ⟨rfl, HB.out⟩
            · have hm1 : ¬ (32 : Int) < (Ts.length : Int) := by omega
              have hm3 : (Ts.length : Int) ≤ 32 := by omega
              have HPM : Hid (bits .and .u32 xv (IntKind.u32.wrap (allS (Ts.length : Int)).a) = PX) := Lib.hid (by rw [← HPX.out, HLN.out, Nat.min_eq_left (by omega)])
              obtain ⟨B, hB⟩ : ∃ K, allS (Ts.length : Int) = K := ⟨_, rfl⟩
              have HC8 : Hid (Calls Try.prog 27 #[.int .i64 Ts.length] w6 fun e w' => e = .returned (.agg #[.int .u64 B.a, .int .u64 B.b, .int .u64 B.c, .int .u64 B.d]) ∧ Below w6.heap.size w6 w') := Lib.hid (by rw [← hB]; exact rallS_c Ts.length w6 (by omega) (by have := HL3.out; omega))
              rw [hB] at HPM
              have hL3 := HL3.out
              have hLN := HLN.out
              clear hm hB
              go_wp2_with fail
              refine HC8.out.mono ?_
              rintro e w7 ⟨rfl, hb⟩
              have HA3 : Hid (Kp wc w7) := Lib.hid (Kp.step HA2.out hb)
              have HT3 := Lib.hid (HT2.out.keep hb)
              have HQ7 := Lib.hid (HQ5.out.keep HA3.out)
              have HE7 := Lib.hid ((Kp.step HK6.out HA3.out).blk HE.out)
              have HKE := Lib.hid (Kp.step HW.out (Kp.step HK6.out HA3.out))
              clear hb
              have ix : ∀ w, (Instr.index 35 (.agg #[.int .u64 B.a, .int .u64 B.b, .int .u64 B.c, .int .u64 B.d]) (.int .i64 0)).run Try.prog w = .ok (.int .u64 B.a) w := fun _ => by kernel_rfl
              go_wp2_with fail
              have HAL : Hid (∀ W', Kp w7 W' → Calls Try.prog 27 #[.int .i64 Ts.length] W' fun e w' => e = .returned (.agg #[.int .u64 AX.a, .int .u64 AX.b, .int .u64 AX.c, .int .u64 AX.d]) ∧ Below W'.heap.size W' w') := Lib.hid (fun W' _ => by rw [← HAX.out]; exact rallS_c Ts.length W' (by omega) (by omega))
              have HME : Hid (∀ W', Kp w7 W' → Calls Try.prog 28 #[.agg #[.int .u64 x.a, .int .u64 x.b, .int .u64 x.c, .int .u64 x.d], .agg #[.int .u64 AX.a, .int .u64 AX.b, .int .u64 AX.c, .int .u64 AX.d]] W' fun e w' => e = .returned (.agg #[.int .u64 SX.a, .int .u64 SX.b, .int .u64 SX.c, .int .u64 SX.d]) ∧ Below W'.heap.size W' w') := Lib.hid (fun W' _ => by rw [← HSX.out, HAX.out]; exact rmeet_c x.a x.b x.c x.d AX.a AX.b AX.c AX.d W')
              have HAW : Hid (∀ W', Kp w7 W' → Calls Try.prog 9 #[] W' fun e w' => e = .returned (.bool true) ∧ Below W'.heap.size W' w') := Lib.hid (fun W' _ => awake_c W')
              have hpm : bits .and .u32 xv (B.a % 4294967296) = PX := by have h := HPM.out; rwa [show IntKind.u32.wrap B.a = B.a % 4294967296 by simp [IntKind.wrap, IntKind.bits, IntKind.signed]] at h
              refine wp_region_kp (by kernel_rfl) (by kernel_rfl) ?_
              repeat (first
                | go_big_quiet_skip
                | (go_big_quiet_want
                   go_big_quiet_op
                   first
                     | go_big_quiet_on
                     | (apply Exists.intro
                        refine ⟨fun w1 hC => ?_, ?_⟩
                        · first
                            | (go_at_call 27; with_reducible exact hC.call (HAL.out _ hC))
                            | (go_at_call 28; with_reducible exact hC.call (HME.out _ hC))
                            | (go_at_call 9; with_reducible exact hC.call (HAW.out _ hC))
                            | (obtain ⟨e0, e1⟩ := (hC.blk HE7.out).two; obtain ⟨c0, c1, c2, c3⟩ := quad_box (HQ7.out.keep hC); obtain ⟨d0, d1, d2, d3⟩ := quad_box (HT3.out.keep hC); go_simp; exact rfl)
                            | (go_simp; exact ⟨rfl, rfl⟩)
                        go_big_quiet_on)))
              refine wpQuiet_nil ?_
              intro W' hC
              have HB := Lib.hid (Kp.step HKE.out hC)
              clear hC
              go_wp2_with fail
              go_ret
              exact ⟨rfl, HB.out⟩
end Go.Proofs.Ytbkejoheefnmiaa
