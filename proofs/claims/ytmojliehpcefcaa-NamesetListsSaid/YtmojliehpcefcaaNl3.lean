/- The walk of the law NamesetLists. -/
import Derived.Test.YtmojliehpcefcaaNte
import Derived.Test.YtmojliehpcefcaaNtc
import Derived.Test.YtmojliehpcefcaaNss
import Derived.Test.YtmojliehpcefcaaNsu
namespace Go.Proofs.Ytmojliehpcefcaa
open Go.RowKit
theorem infoCls : (Try.prog.info? 44).map (fun i => (i.zero, i.size, i.bytes)) = some (some (.agg #[.string ⟨#[]⟩, .slice none 0 0]), 2, 40) := by kernel_rfl
def two (x : ByteArray) : List Value := [.string x, .slice none 0 0]
/-- a row of classes of their names alone that a call owns -/
def OwnC (w : World) (base : Nat) (v : Value) (l : List ByteArray) : Prop := w.ownsRow base 44 2 v l.length (l.flatMap two)
theorem OwnC.nil {w : World} {base : Nat} : OwnC w base (.slice none 0 0) [] := World.ownsRow_nil _ _ _ _
theorem OwnC.alloc {w : World} {base : Nat} {v : Value} {l : List ByteArray} (h : OwnC w base v l) (o : Obj) : OwnC (w.alloc o) base v l := World.ownsRow.alloc h o
theorem OwnC.lt {w : World} {base : Nat} {v : Value} {l : List ByteArray} (h : OwnC w base v l) : ∀ k, v.ownBlock = some k → base ≤ k ∧ k < w.heap.size := World.ownsRow.lt h
theorem flat_two : ∀ (xs : List ByteArray) (k : Nat) (h : k < xs.length), (xs.flatMap two)[k * 2]? = some (.string xs[k]) ∧ (xs.flatMap two)[k * 2 + 1]? = some (.slice none 0 0)
  | [], _, h => absurd h (by simp)
  | x :: xs, 0, _ => by simp [two]
  | x :: xs, k + 1, h => by
    have := flat_two xs k (by simpa using h)
    have e1 : ((x :: xs).flatMap two)[(k + 1) * 2]? = (xs.flatMap two)[k * 2]? := by
      rw [show (k + 1) * 2 = k * 2 + 1 + 1 by omega]
      simp [two]
    have e2 : ((x :: xs).flatMap two)[(k + 1) * 2 + 1]? = (xs.flatMap two)[k * 2 + 1]? := by
      rw [show (k + 1) * 2 + 1 = k * 2 + 1 + 1 + 1 by omega]
      simp [two]
    rw [e1, e2]
    simpa using this
theorem OwnC.cls {w : World} {base : Nat} {v : Value} {l : List ByteArray} (h : OwnC w base v l) : Cls w v l := by
  rcases h.2 with ⟨hv, hn⟩ | ⟨g, cap, cur, hv, hg, hh, hnc, hcm, hsz, htake⟩
  · obtain rfl := List.eq_nil_of_length_eq_zero hn
    rw [hv]; exact cls_nil
  · refine ⟨some ⟨g, 0, none⟩, cap, hv, hnc, fun _ => ⟨g, 0, rfl, ?_, fun k hk => ?_⟩⟩
    · rcases Nat.lt_or_ge g w.heap.size with hlt | hge
      · exact hlt
      · rw [Array.getElem?_eq_none hge] at hh; cases hh
    · obtain ⟨f1, f2⟩ := flat_two l k hk
      rw [Nat.zero_add, cell_of_row w g _ cur _ _ hh, cell_of_row w g _ cur _ _ hh]
      rw [← htake, List.getElem?_take_of_lt (by omega)] at f1 f2
      exact ⟨by simpa using f1, none, 0, 0, by simpa using f2⟩
theorem two_newC {w : World} {t : TypeId} {x : ByteArray} {g : Nat} (hg : g = w.heap.size) : ∀ j u, [Value.string x, Value.slice none 0 0][j]? = some u → (w.alloc (.cells #[.string x, .slice none 0 0] t)).cell? ((⟨g, 0, none⟩ : Addr).add j) = some u := fun j u h => by
  subst hg
  have e := (Blk.new w t #[.string x, .slice none 0 0]).cell j
  rw [show (⟨w.heap.size, 0, none⟩ : Addr).add j = ⟨w.heap.size, j, none⟩ by simp [Addr.add]; exact Eq.symm, e]
  simpa using h
theorem tys_nil {w : World} : Tys w (.slice none 0 0) [] := ⟨none, 0, rfl, fun h => absurd rfl h⟩
theorem ats_nil {w : World} : Ats w (.slice none 0 0) [] := ⟨none, 0, rfl, fun h => absurd rfl h⟩
set_option maxRecDepth 100000 in
set_option maxHeartbeats 16000000 in
theorem lists_c (al no sf : Bool) (vN vE : Value) (N E : List ByteArray) (ao : Option Addr) (cap : Nat) (L : List ByteArray) (w : World) (hN : Strs w vN N) (hE : Strs w vE E) (hL : Strs w (.slice ao L.length cap) L) (hcap : L.length ≤ cap) (hn : N.length ≤ maxLen) (hn2 : E.length ≤ maxLen) (hn3 : L.length ≤ maxLen) :
    Calls Try.prog 5 #[.agg #[.bool al, .bool no, .bool sf, vN, vE], .slice ao L.length cap] w fun e w' => e = .returned (.bool true) ∧ Below w.heap.size w w' := by
  obtain ⟨i0, hinf, hz0, hz1, hz2⟩ := info_parts infoCls
  have hW : Kp w (w.alloc (.cells #[.bool al, .bool no, .bool sf, vN, vE] 29)) := (Below.refl _ _).alloc (Nat.le_refl _) _
  have hNS : Blk (w.alloc (.cells #[.bool al, .bool no, .bool sf, vN, vE] 29)) w.heap.size 29 #[.bool al, .bool no, .bool sf, vN, vE] := Blk.new w _ _
  have HF := Lib.hid (few_c al no sf vN vE (.slice none 0 0) (.slice none 0 0) N E [] [] (w.alloc (.cells #[.bool al, .bool no, .bool sf, vN, vE] 29)) (hN.keep hW) (hE.keep hW) tys_nil ats_nil hn hn2 (Nat.zero_le _) (Nat.zero_le _) (fun k h => absurd h (by simp)))
  obtain ⟨y0, y1, y2, y3, y4⟩ := hNS.five
  have HNS := Lib.hid hNS
  have HW := Lib.hid hW
  have HN := Lib.hid (hN.keep hW)
  have HE := Lib.hid (hE.keep hW)
  have HL := Lib.hid (hL.keep hW)
  unfold maxLen at hn3
  clear hn hn2 hNS hW hN hE hL
  have hcase : (300 : Int) < (L.length : Int) ∨ ¬ (300 : Int) < (L.length : Int) := by omega
  go_enter Try.func5, Try.ntmps5
  go_wp2_with fail
  generalize (w.alloc (.cells #[.bool al, .bool no, .bool sf, vN, vE] 29)) = W at *
  refine HF.out.mono ?_
  rintro e w1 ⟨b, rfl, hb, hb1⟩
  have HK1 : Hid (Kp W w1) := Lib.hid hb1
  clear y0 y1 y2 y3 y4 hb1
  have hbc : b = false ∨ b = true ∧ (300 : Int) < (L.length : Int) ∨ b = true ∧ ¬ (300 : Int) < (L.length : Int) := by
    cases b
    · exact .inl rfl
    · rcases hcase with h | h
      · exact .inr (.inl ⟨rfl, by omega⟩)
      · exact .inr (.inr ⟨rfl, by omega⟩)
  clear hcase
  rcases hbc with rfl | ⟨rfl, h3⟩ | ⟨rfl, h3⟩
  · clear hb
    go_wp2_with fail
    refine (awake_c _).mono ?_
    rintro e w2 ⟨rfl, hb2⟩
    have HB := Lib.hid (Kp.step HW.out (Kp.step HK1.out hb2))
    clear hb2
    go_wp2_with fail
    go_ret
    exact ⟨rfl, HB.out⟩
  · clear hb
    go_wp2_with fail
    refine (awake_c _).mono ?_
    rintro e w2 ⟨rfl, hb2⟩
    have HB := Lib.hid (Kp.step HW.out (Kp.step HK1.out hb2))
    clear hb2
    go_wp2_with fail
    go_ret
    exact ⟨rfl, HB.out⟩
  · obtain ⟨a1, a2, _⟩ := hb rfl
    have a1' : N.length ≤ 1000000 := by omega
    have a2' : E.length ≤ 1000000 := by omega
    have a3' : L.length ≤ 1000000 := by omega
    have HC1 := Lib.hid (fun W' (h : Kp W W') => Listed_c al no sf vN vE ao cap N E L W' (HN.out.keep h) (HE.out.keep h) (HL.out.keep h) hcap a1' a2' a3')
    have HC2 := Lib.hid (fun W' (h : Kp W W') => rListed_c al no sf vN vE _ N E L W' (HN.out.keep h) (HE.out.keep h) (HL.out.keep h) a1' a2' a3')
    have HC3 := Lib.hid (fun v W' (h : Kp W W') (hc : Cls W' v L) => Classes_c al no sf vN vE v N E L W' (HN.out.keep h) (HE.out.keep h) hc a1' a2' a3')
    have HC4 := Lib.hid (fun v W' (h : Kp W W') (hc : Cls W' v L) => rClasses_c al no sf vN vE v N E L W' (HN.out.keep h) (HE.out.keep h) hc a1' a2' a3')
    have HC5 := Lib.hid (fun W' (h : Kp W W') => Perms_c al no sf vN vE ⟨#[]⟩ ao cap N E L W' (HN.out.keep h) (HE.out.keep h) (HL.out.keep h) hcap a1' a2' a3')
    have HC6 := Lib.hid (fun W' (h : Kp W W') => rPerms_c al no sf vN vE _ ⟨#[]⟩ N E L W' (HN.out.keep h) (HE.out.keep h) (HL.out.keep h) a1' a2' a3')
    obtain ⟨S, hS⟩ : ∃ K, (meanS al no ((min L.length 256 : Nat) : Int) (numS L) (numB L 256) N E) = K := ⟨_, rfl⟩
    obtain ⟨F1, hF1⟩ : ∃ K, errI (meanB (numB L 256) N E) 11 = K := ⟨_, rfl⟩
    obtain ⟨F2, hF2⟩ : ∃ K, errI (meanB (numB L 256) N E) 20 = K := ⟨_, rfl⟩
    obtain ⟨F3, hF3⟩ : ∃ K, errI (meanB (numB L 32) N E) 21 = K := ⟨_, rfl⟩
    obtain ⟨X, hX⟩ : ∃ K, permI (meanB (numB L 32) N E) (meanS al no ((min L.length 32 : Nat) : Int) (numS L) (numB L 32) N E).a = K := ⟨_, rfl⟩
    rw [hS, hF1] at HC1 HC2
    rw [hS, hF2] at HC3 HC4
    rw [hX, hF3] at HC5 HC6
    clear hS hF1 hF2 hF3 hX hb a1 a2 a1' a2'
    obtain ⟨ao2, cap2, e2, hr⟩ := HL.out
    cases e2
    go_wp2_with fail
    go_loopw [5, 31] (fun v5 vi wr => ∃ (i : Nat) (vv : Value), vv = v5 ∧ i ≤ L.length ∧ vi = .int .i64 i ∧ Hid (Kp W wr) ∧ Hid (OwnC wr W.heap.size vv (L.take i))) (fun _ vi _ => L.length - (intOf vi).toNat)
    case atStart => exact ⟨0, _, rfl, Nat.zero_le _, rfl, HK1, Lib.hid (by rw [List.take_zero]; exact OwnC.nil)⟩
    case round =>
      clear HK1
      obtain ⟨i, v, rfl, hi, rfl, HK1, HO⟩ := hrel
      by_cases hlt : i < L.length
      · have hlt' : (i : Int) < (L.length : Int) := by omega
        obtain ⟨g, o, rfl, hR⟩ := hr (by rintro rfl; simp at hlt)
        have q0 := hR.keep (HK1.out.block g (hR.lt (by omega))) i hlt
        obtain ⟨x, hx⟩ : ∃ x, L[i] = x := ⟨_, rfl⟩
        rw [hx] at q0
        have HX : Hid (L.take (i + 1) = L.take i ++ [x]) := Lib.hid (by rw [List.take_succ_eq_append_getElem hlt, hx])
        obtain ⟨T, hT⟩ : ∃ T, L.take i = T := ⟨_, rfl⟩
        have hTl : T.length = i := by rw [← hT, List.length_take]; omega
        rw [hT] at HO HX
        have HT := Lib.hid hTl
        obtain ⟨aoT, capT, rfl, -⟩ := id HO.out.cls
        clear hx hT hTl
        go_wp2_with (at_builtin; refine wpList_append_own _ rfl _ _ 42 rfl W.heap.size 44 i0 (.agg #[.string ⟨#[]⟩, .slice none 0 0]) 2 40 Try.underlying42 hinf hz0 hz1 hz2 rfl (by decide) (.slice aoT T.length capT) T.length (T.flatMap two) rfl (HO.out.alloc _) ⟨_, 0, none⟩ 1 1 [.string x, .slice none 0 0] rfl rfl ?c1 ?c2 ?c3 ?c4 ?c5 ?_)
        case c1 => exact two_newC (by simp)
        case c2 => intro u hu; simp at hu; rcases hu with rfl | rfl <;> rfl
        case c3 => have := HT.out; unfold maxLen; omega
        case c4 => have := HT.out; omega
        case c5 => have := HK1.out.size; simp; omega
        · intro v' w3 hown2 hgrow _
          have hlo := HO.out.lt
          have R3 : OwnC w3 W.heap.size v' (T ++ [x]) := by
            unfold OwnC
            simpa [two] using hown2
          have hsz := HK1.out.size
          have B3 : Below W.heap.size W w3 := (HK1.out.alloc _).grown hgrow (by simp; omega) (fun k e => by have := hlo _ e; omega)
          have HR := Lib.hid R3
          have HB3 := Lib.hid B3
          clear hown2 hgrow hlo hsz R3 B3
          go_wp2_with fail
          go_roundw
          case rel => exact ⟨i + 1, _, rfl, by omega, by go_num, HB3, Lib.hid (by rw [HX.out]; exact HR.out)⟩
          case measure => simp [intOf]; omega
      · obtain rfl : i = L.length := by omega
        have HCL := Lib.hid (show Cls wr v L by have := HO.out.cls; rwa [List.take_length] at this)
        have HKr : Hid (Kp wr wr) := Lib.hid Kp.rfl'
        obtain ⟨aoC, capC, rfl, -⟩ := id HCL.out
        clear HO hr
        obtain ⟨y0, y1, y2, y3, y4⟩ := (HK1.out.blk HNS.out).five
        go_wp2_with fail
        refine (HC1.out _ HK1.out).mono ?_
        rintro e w2 ⟨rfl, hb⟩
        have HK2 := Lib.hid ((Kp.step HK1.out hb).alloc (.cells #[.int .u64 (S).a, .int .u64 (S).b, .int .u64 (S).c, .int .u64 (S).d] 35))
        have HR2 := Lib.hid ((Kp.step HKr.out hb).alloc (.cells #[.int .u64 (S).a, .int .u64 (S).b, .int .u64 (S).c, .int .u64 (S).d] 35))
        have HQ1 := Lib.hid (Quad.new w2 (S).a (S).b (S).c (S).d)
        clear hb y0 y1 y2 y3 y4
        obtain ⟨y0, y1, y2, y3, y4⟩ := (HK2.out.blk HNS.out).five
        go_wp2_with fail
        refine (HC2.out _ HK2.out).mono ?_
        rintro e w3 ⟨rfl, hb⟩
        have HK3 := Lib.hid ((Kp.step HK2.out hb).alloc (.cells #[.int .u64 (S).a, .int .u64 (S).b, .int .u64 (S).c, .int .u64 (S).d] 35))
        have HR3 := Lib.hid ((Kp.step HR2.out hb).alloc (.cells #[.int .u64 (S).a, .int .u64 (S).b, .int .u64 (S).c, .int .u64 (S).d] 35))
        replace HQ1 := Lib.hid ((HQ1.out.keep hb).alloc (.cells #[.int .u64 (S).a, .int .u64 (S).b, .int .u64 (S).c, .int .u64 (S).d] 35))
        have HQ2 := Lib.hid (Quad.new w3 (S).a (S).b (S).c (S).d)
        clear hb y0 y1 y2 y3 y4
        obtain ⟨y0, y1, y2, y3, y4⟩ := (HK3.out.blk HNS.out).five
        go_wp2_with fail
        refine (HC3.out _ _ HK3.out (HCL.out.keep HR3.out)).mono ?_
        rintro e w4 ⟨rfl, hb⟩
        have HK4 := Lib.hid ((Kp.step HK3.out hb).alloc (.cells #[.int .u64 (S).a, .int .u64 (S).b, .int .u64 (S).c, .int .u64 (S).d] 35))
        have HR4 := Lib.hid ((Kp.step HR3.out hb).alloc (.cells #[.int .u64 (S).a, .int .u64 (S).b, .int .u64 (S).c, .int .u64 (S).d] 35))
        replace HQ1 := Lib.hid ((HQ1.out.keep hb).alloc (.cells #[.int .u64 (S).a, .int .u64 (S).b, .int .u64 (S).c, .int .u64 (S).d] 35))
        replace HQ2 := Lib.hid ((HQ2.out.keep hb).alloc (.cells #[.int .u64 (S).a, .int .u64 (S).b, .int .u64 (S).c, .int .u64 (S).d] 35))
        have HQ3 := Lib.hid (Quad.new w4 (S).a (S).b (S).c (S).d)
        clear hb y0 y1 y2 y3 y4
        obtain ⟨y0, y1, y2, y3, y4⟩ := (HK4.out.blk HNS.out).five
        go_wp2_with fail
        refine (HC4.out _ _ HK4.out (HCL.out.keep HR4.out)).mono ?_
        rintro e w5 ⟨rfl, hb⟩
        have HK5 := Lib.hid ((Kp.step HK4.out hb).alloc (.cells #[.int .u64 (S).a, .int .u64 (S).b, .int .u64 (S).c, .int .u64 (S).d] 35))
        replace HQ1 := Lib.hid ((HQ1.out.keep hb).alloc (.cells #[.int .u64 (S).a, .int .u64 (S).b, .int .u64 (S).c, .int .u64 (S).d] 35))
        replace HQ2 := Lib.hid ((HQ2.out.keep hb).alloc (.cells #[.int .u64 (S).a, .int .u64 (S).b, .int .u64 (S).c, .int .u64 (S).d] 35))
        replace HQ3 := Lib.hid ((HQ3.out.keep hb).alloc (.cells #[.int .u64 (S).a, .int .u64 (S).b, .int .u64 (S).c, .int .u64 (S).d] 35))
        have HQ4 := Lib.hid (Quad.new w5 (S).a (S).b (S).c (S).d)
        clear hb y0 y1 y2 y3 y4
        obtain ⟨y0, y1, y2, y3, y4⟩ := (HK5.out.blk HNS.out).five
        go_wp2_with fail
        refine (HC5.out _ HK5.out).mono ?_
        rintro e w6 ⟨rfl, hb⟩
        have HK6 := Lib.hid (Kp.step HK5.out hb)
        replace HQ1 := Lib.hid (HQ1.out.keep hb)
        replace HQ2 := Lib.hid (HQ2.out.keep hb)
        replace HQ3 := Lib.hid (HQ3.out.keep hb)
        replace HQ4 := Lib.hid (HQ4.out.keep hb)
        clear hb y0 y1 y2 y3 y4
        obtain ⟨y0, y1, y2, y3, y4⟩ := (HK6.out.blk HNS.out).five
        go_wp2_with fail
        refine (HC6.out _ HK6.out).mono ?_
        rintro e w7 ⟨rfl, hb⟩
        have HK7 := Lib.hid (Kp.step HK6.out hb)
        obtain ⟨c0, c1, c2, c3⟩ := quad_box (HQ1.out.keep hb)
        obtain ⟨d0, d1, d2, d3⟩ := quad_box (HQ2.out.keep hb)
        obtain ⟨f0, f1, f2, f3⟩ := quad_box (HQ3.out.keep hb)
        obtain ⟨g0, g1, g2, g3⟩ := quad_box (HQ4.out.keep hb)
        clear hb y0 y1 y2 y3 y4
        go_wp2_with fail
        refine (awake_c _).mono ?_
        rintro e w8 ⟨rfl, hb⟩
        have HB := Lib.hid (Kp.step HW.out (Kp.step HK7.out hb))
        clear hb c0 c1 c2 c3 d0 d1 d2 d3 f0 f1 f2 f3 g0 g1 g2 g3
        go_wp2_with fail
        go_ret
        exact ⟨rfl, HB.out⟩
end Go.Proofs.Ytmojliehpcefcaa
