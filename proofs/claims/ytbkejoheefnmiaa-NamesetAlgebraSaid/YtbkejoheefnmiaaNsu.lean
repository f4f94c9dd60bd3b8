/- What a set of names means among classes: Classes of the program. Condition: at most a million names, types, attributes and aliases. -/
import Derived.Test.YtbkejoheefnmiaaNst
import Derived.Test.YtbkejoheefnmiaaNsp
namespace Go.Proofs.Ytbkejoheefnmiaa
open Go.RowKit
set_option maxRecDepth 100000 in
set_option maxHeartbeats 8000000 in
theorem Classes_c (al no sf : Bool) (vN vE vL : Value) (N E L : List ByteArray) (w : World) (hN : Strs w vN N) (hE : Strs w vE E) (hL : Cls w vL L) (hn : N.length ≤ 1000000) (hn2 : E.length ≤ 1000000) (hn3 : L.length ≤ 1000000) :
    Calls Try.prog 18 #[.agg #[.bool al, .bool no, .bool sf, vN, vE], vL] w (ErrOut (meanS al no ((min L.length 256 : Nat) : Int) (numS L) (numB L 256) N E) (errI (meanB (numB L 256) N E) 20) w) := by
  obtain ⟨i0, hinf, hz0, hz1, hz2⟩ := info_parts infoStr
  have hW : Kp w ((w.alloc (.cells #[.bool al, .bool no, .bool sf, vN, vE] 29)).alloc (.cells #[.int .u64 0, .int .u64 0, .int .u64 0, .int .u64 0] 35)) := ((Below.refl _ _).alloc (Nat.le_refl _) _).alloc (by simp) _
  have hNS : Blk ((w.alloc (.cells #[.bool al, .bool no, .bool sf, vN, vE] 29)).alloc (.cells #[.int .u64 0, .int .u64 0, .int .u64 0, .int .u64 0] 35)) w.heap.size 29 #[.bool al, .bool no, .bool sf, vN, vE] := (Blk.new w _ _).alloc _
  have s1 : (w.alloc (.cells #[.bool al, .bool no, .bool sf, vN, vE] 29)).heap.size = w.heap.size + 1 := by simp
  have hQ4 : Quad ((w.alloc (.cells #[.bool al, .bool no, .bool sf, vN, vE] 29)).alloc (.cells #[.int .u64 0, .int .u64 0, .int .u64 0, .int .u64 0] 35)) (w.heap.size + 1) 0 0 0 0 := by
    rw [← s1]; exact Quad.new (w.alloc (.cells #[.bool al, .bool no, .bool sf, vN, vE] 29)) 0 0 0 0
  clear s1
  have HM0 := Lib.hid (fun v W' (h : Kp w W') (hS : Strs W' v (L.take 256)) => listed_c al no sf vN vE v N E (L.take 256) W' (hN.keep h) (hE.keep h) hS hn hn2 (by rw [List.length_take]; omega))
  have HZ : Hid ((meanB (numB L 256) N E) = false → S4.zero = (meanS al no ((min L.length 256 : Nat) : Int) (numS L) (numB L 256) N E)) := Lib.hid fun h => (meanS_zero h).symm
  obtain ⟨hm1, hm2⟩ := mean_take al no L N E 256
  obtain ⟨S, hS⟩ : ∃ S, (meanS al no ((min L.length 256 : Nat) : Int) (numS L) (numB L 256) N E) = S := ⟨_, rfl⟩
  obtain ⟨B, hB⟩ : ∃ B, (meanB (numB L 256) N E) = B := ⟨_, rfl⟩
  rw [hS] at hm1
  rw [hB] at hm2
  rw [hm1, hm2] at HM0
  rw [hS, hB] at HZ ⊢
  clear hS hB hm1 hm2
  obtain ⟨ao, cap, rfl, hcap, hr⟩ := hL
  have HNS := Lib.hid hNS
  have HQ4 := Lib.hid hQ4
  have HW := Lib.hid hW
  clear hQ4 hW hNS hN hE
  by_cases hle : (L.length : Int) ≤ 256
  · have hml : L.take 256 = L.take L.length := by rw [List.take_length, List.take_of_length_le (by omega)]
    rw [hml] at HM0
    clear hml
    have hmL : L.length ≤ L.length := by omega
    go_enter Try.func18, Try.ntmps18
    go_wp2_with fail
    generalize ((w.alloc (.cells #[.bool al, .bool no, .bool sf, vN, vE] 29)).alloc (.cells #[.int .u64 0, .int .u64 0, .int .u64 0, .int .u64 0] 35)) = W at *
    go_loopw [6, 17] (fun v6 vi wr => ∃ (i : Nat) (vv : Value), vv = v6 ∧ i ≤ L.length ∧ vi = .int .i64 i ∧ Hid (Kp W wr) ∧ Hid (OwnS wr W.heap.size vv (L.take i))) (fun _ vi _ => L.length - (intOf vi).toNat)
    case atStart => exact ⟨0, _, rfl, Nat.zero_le _, rfl, Lib.hid Kp.rfl', Lib.hid (by rw [List.take_zero]; exact OwnS.nil)⟩
    case round =>
      obtain ⟨i, v, rfl, hi, rfl, HK, HO⟩ := hrel
      have HB0 := Lib.hid (Kp.step HW.out HK.out)
      by_cases hlt0 : i < L.length
      · have hlt : i < L.length := by omega
        have hlt' : (i : Int) < (L.length : Int) := by omega
        obtain ⟨g, o, rfl, hg, hq⟩ := hr (by rintro rfl; simp at hlt)
        obtain ⟨q0, ua, un, uc, q1⟩ := hq i hlt
        have hblk := HB0.out.block g hg
        rw [← World.cell?_of_block hblk] at q0 q1
        obtain ⟨x, hx⟩ : ∃ x, L[i] = x := ⟨_, rfl⟩
        rw [hx] at q0
        have HX : Hid (L.take (i + 1) = L.take i ++ [x]) := Lib.hid (by rw [List.take_succ_eq_append_getElem hlt, hx])
        obtain ⟨T, hT⟩ : ∃ T, L.take i = T := ⟨_, rfl⟩
        have hTl : T.length = i := by rw [← hT, List.length_take]; omega
        rw [hT] at HO HX
        have HT := Lib.hid hTl
        obtain ⟨aoT, capT, rfl⟩ := HO.out.isSl
        clear hx hq hblk hT hTl hg
        go_wp2_with (at_builtin; refine wpList_append_own _ rfl _ _ 27 rfl W.heap.size 9 i0 (.string ⟨#[]⟩) 1 16 Try.underlying27 hinf hz0 hz1 hz2 rfl (by decide) (.slice aoT T.length capT) T.length (T.map Value.string) rfl ((HO.out.alloc _).alloc _) ⟨_, 0, none⟩ 1 1 [.string x] rfl rfl ?c1 ?c2 ?c3 ?c4 ?c5 ?_)
        case c1 => exact one_newS (by simp)
        case c2 => intro u hu; simp at hu; subst hu; rfl
        case c3 => have := HT.out; unfold maxLen; omega
        case c4 => have := HT.out; omega
        case c5 => have := HK.out.size; simp; omega
        · intro v' w3 hown2 hgrow _
          have hlo := HO.out.lt
          have R3 : OwnS w3 W.heap.size v' (T ++ [x]) := by
            unfold OwnS
            simpa using hown2
          have hsz := HK.out.size
          have B3 : Below W.heap.size W w3 := ((HK.out.alloc _).alloc _).grown hgrow (by simp; omega) (fun k e => by have := hlo _ e; omega)
          have HR := Lib.hid R3
          have HB3 := Lib.hid B3
          clear hown2 hgrow hlo hsz R3 B3
          go_wp2_with fail
          go_roundw
          case rel => exact ⟨i + 1, _, rfl, by omega, by go_num, HB3, Lib.hid (by rw [HX.out]; exact HR.out)⟩
          case measure => simp [intOf]; omega
      · obtain rfl : i = L.length := by omega
        obtain ⟨ao2, cap2, e, _, hS2⟩ := HO.out.strs
        subst e
        have HC := Lib.hid (HM0.out _ wr HB0.out hS2)
        have hNS := HK.out.blk HNS.out
        obtain ⟨y0, y1, y2, y3, y4⟩ := hNS.five
        have HQ5 := Lib.hid (HQ4.out.keep HK.out)
        obtain ⟨n2, hn2'⟩ : ∃ n, (L.take L.length).length = n := ⟨_, rfl⟩
        rw [hn2'] at HC ⊢
        clear HO hS2 HM0 hr hNS hn2'
        cases B
        all_goals
          go_wp2_with fail
          refine HC.out.mono ?_
          rintro e w2 ⟨rfl, hb2⟩
          have hQ := (HQ5.out.keep hb2).alloc (.cells #[.int .u64 (S).a, .int .u64 (S).b, .int .u64 (S).c, .int .u64 (S).d] 35)
          have HB := Lib.hid (Kp.alloc (Kp.step HB0.out hb2) (.cells #[.int .u64 (S).a, .int .u64 (S).b, .int .u64 (S).c, .int .u64 (S).d] 35))
          obtain ⟨c0, c1, c2, c3, f0, f1, f2, f3⟩ := hQ.facts
          have HQ := Lib.hid hQ
          clear hb2 hQ y0 y1 y2 y3 y4
          go_wp2_with fail
        · obtain rfl := HZ.out (by simp)
          obtain ⟨r0, r1, r2, r3⟩ := quad_box (HQ.out.set4 0 0 0 0)
          exact bodyPost_ret (v := .tuple #[.agg #[.int .u64 0, .int .u64 0, .int .u64 0, .int .u64 0], .int .i64 20]) (by simp [results, Try.results18, go_sem, r0, r1, r2, r3]) rfl ⟨rfl, below_set4 HB.out (by omega) _ _ _ _⟩
        · obtain ⟨r0, r1, r2, r3⟩ := quad_box (HQ.out.set4 (S).a (S).b (S).c (S).d)
          exact bodyPost_ret (v := .tuple #[.agg #[.int .u64 (S).a, .int .u64 (S).b, .int .u64 (S).c, .int .u64 (S).d], .int .i64 0]) (by simp [results, Try.results18, go_sem, r0, r1, r2, r3]) rfl ⟨rfl, below_set4 HB.out (by omega) _ _ _ _⟩
  · have hml : L.take 256 = L.take 256 := rfl
    have hc5 : (256 : Int) ≤ (cap : Int) := by omega
    rw [hml] at HM0
    clear hml
    have hmL : 256 ≤ L.length := by omega
    go_enter Try.func18, Try.ntmps18
    go_wp2_with fail
    generalize ((w.alloc (.cells #[.bool al, .bool no, .bool sf, vN, vE] 29)).alloc (.cells #[.int .u64 0, .int .u64 0, .int .u64 0, .int .u64 0] 35)) = W at *
    go_loopw [6, 17] (fun v6 vi wr => ∃ (i : Nat) (vv : Value), vv = v6 ∧ i ≤ 256 ∧ vi = .int .i64 i ∧ Hid (Kp W wr) ∧ Hid (OwnS wr W.heap.size vv (L.take i))) (fun _ vi _ => 256 - (intOf vi).toNat)
    case atStart => exact ⟨0, _, rfl, Nat.zero_le _, rfl, Lib.hid Kp.rfl', Lib.hid (by rw [List.take_zero]; exact OwnS.nil)⟩
    case round =>
      obtain ⟨i, v, rfl, hi, rfl, HK, HO⟩ := hrel
      have HB0 := Lib.hid (Kp.step HW.out HK.out)
      by_cases hlt0 : i < 256
      · have hlt : i < L.length := by omega
        have hlt' : (i : Int) < 256 := by omega
        obtain ⟨g, o, rfl, hg, hq⟩ := hr (by rintro rfl; simp at hlt)
        obtain ⟨q0, ua, un, uc, q1⟩ := hq i hlt
        have hblk := HB0.out.block g hg
        rw [← World.cell?_of_block hblk] at q0 q1
        obtain ⟨x, hx⟩ : ∃ x, L[i] = x := ⟨_, rfl⟩
        rw [hx] at q0
        have HX : Hid (L.take (i + 1) = L.take i ++ [x]) := Lib.hid (by rw [List.take_succ_eq_append_getElem hlt, hx])
        obtain ⟨T, hT⟩ : ∃ T, L.take i = T := ⟨_, rfl⟩
        have hTl : T.length = i := by rw [← hT, List.length_take]; omega
        rw [hT] at HO HX
        have HT := Lib.hid hTl
        obtain ⟨aoT, capT, rfl⟩ := HO.out.isSl
        clear hx hq hblk hT hTl hg
        go_wp2_with (at_builtin; refine wpList_append_own _ rfl _ _ 27 rfl W.heap.size 9 i0 (.string ⟨#[]⟩) 1 16 Try.underlying27 hinf hz0 hz1 hz2 rfl (by decide) (.slice aoT T.length capT) T.length (T.map Value.string) rfl ((HO.out.alloc _).alloc _) ⟨_, 0, none⟩ 1 1 [.string x] rfl rfl ?c1 ?c2 ?c3 ?c4 ?c5 ?_)
        case c1 => exact one_newS (by simp)
        case c2 => intro u hu; simp at hu; subst hu; rfl
        case c3 => have := HT.out; unfold maxLen; omega
        case c4 => have := HT.out; omega
        case c5 => have := HK.out.size; simp; omega
        · intro v' w3 hown2 hgrow _
          have hlo := HO.out.lt
          have R3 : OwnS w3 W.heap.size v' (T ++ [x]) := by
            unfold OwnS
            simpa using hown2
          have hsz := HK.out.size
          have B3 : Below W.heap.size W w3 := ((HK.out.alloc _).alloc _).grown hgrow (by simp; omega) (fun k e => by have := hlo _ e; omega)
          have HR := Lib.hid R3
          have HB3 := Lib.hid B3
          clear hown2 hgrow hlo hsz R3 B3
          go_wp2_with fail
          go_roundw
          case rel => exact ⟨i + 1, _, rfl, by omega, by go_num, HB3, Lib.hid (by rw [HX.out]; exact HR.out)⟩
          case measure => simp [intOf]; omega
      · obtain rfl : i = 256 := by omega
        obtain ⟨ao2, cap2, e, _, hS2⟩ := HO.out.strs
        subst e
        have HC := Lib.hid (HM0.out _ wr HB0.out hS2)
        have hNS := HK.out.blk HNS.out
        obtain ⟨y0, y1, y2, y3, y4⟩ := hNS.five
        have HQ5 := Lib.hid (HQ4.out.keep HK.out)
        obtain ⟨n2, hn2'⟩ : ∃ n, (L.take 256).length = n := ⟨_, rfl⟩
        rw [hn2'] at HC ⊢
        clear HO hS2 HM0 hr hNS hn2'
        cases B
        all_goals
          go_wp2_with fail
          refine HC.out.mono ?_
          rintro e w2 ⟨rfl, hb2⟩
          have hQ := (HQ5.out.keep hb2).alloc (.cells #[.int .u64 (S).a, .int .u64 (S).b, .int .u64 (S).c, .int .u64 (S).d] 35)
          have HB := Lib.hid (Kp.alloc (Kp.step HB0.out hb2) (.cells #[.int .u64 (S).a, .int .u64 (S).b, .int .u64 (S).c, .int .u64 (S).d] 35))
          obtain ⟨c0, c1, c2, c3, f0, f1, f2, f3⟩ := hQ.facts
          have HQ := Lib.hid hQ
          clear hb2 hQ y0 y1 y2 y3 y4
          go_wp2_with fail
        · obtain rfl := HZ.out (by simp)
          obtain ⟨r0, r1, r2, r3⟩ := quad_box (HQ.out.set4 0 0 0 0)
          exact bodyPost_ret (v := .tuple #[.agg #[.int .u64 0, .int .u64 0, .int .u64 0, .int .u64 0], .int .i64 20]) (by simp [results, Try.results18, go_sem, r0, r1, r2, r3]) rfl ⟨rfl, below_set4 HB.out (by omega) _ _ _ _⟩
        · obtain ⟨r0, r1, r2, r3⟩ := quad_box (HQ.out.set4 (S).a (S).b (S).c (S).d)
          exact bodyPost_ret (v := .tuple #[.agg #[.int .u64 (S).a, .int .u64 (S).b, .int .u64 (S).c, .int .u64 (S).d], .int .i64 0]) (by simp [results, Try.results18, go_sem, r0, r1, r2, r3]) rfl ⟨rfl, below_set4 HB.out (by omega) _ _ _ _⟩
end Go.Proofs.Ytbkejoheefnmiaa
