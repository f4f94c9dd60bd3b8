/- The names that a set lists: Names of the reference. Condition: at most a million names, types, attributes and aliases. -/
import Derived.Test.YtbkejoheefnmiaaNsv
import Derived.Test.YtbkejoheefnmiaaNsw
import Derived.Deep.RegionLaw
import Derived.Deep.AppendLies
namespace Go.Proofs.Ytbkejoheefnmiaa
open Go.RowKit
theorem OwnS.set {w : World} {base g : Nat} {v : Value} {l : List ByteArray} (h : OwnS w base v l) (hg : v.ownBlock ≠ some g) (i : Nat) (u : Value) : OwnS (w.setCell ⟨g, i, none⟩ u) base v l := by
  refine ⟨h.1, ?_⟩
  rcases h.2 with h2 | ⟨k, cap, cur, rfl, hk, hh, r⟩
  · exact .inl h2
  · refine .inr ⟨k, cap, cur, rfl, hk, (Below.heap_setCell w ⟨g, i, none⟩ u k ?_).trans hh, r⟩
    exact fun e => hg (by simp [Value.ownBlock, e])
theorem Blk.grown {w w' : World} {g : Nat} {t : TypeId} {cs : Array Value} {row : Option Nat} (h : Blk w g t cs) (hg : w.grownBy w' row) (hn : row ≠ some g) : Blk w' g t cs := (hg.block g h.lt (fun e => hn e.symm)).trans h
theorem below_set5 {B g : Nat} {a w : World} (h : Below B a w) (hg : B ≤ g) (x y z u v : Value) : Below B a (((((w.setCell ⟨g, 0, none⟩ x).setCell ⟨g, 1, none⟩ y).setCell ⟨g, 2, none⟩ z).setCell ⟨g, 3, none⟩ u).setCell ⟨g, 4, none⟩ v) :=
  ((((h.setCell (p := ⟨g, 0, none⟩) hg _).setCell (p := ⟨g, 1, none⟩) hg _).setCell (p := ⟨g, 2, none⟩) hg _).setCell (p := ⟨g, 3, none⟩) hg _).setCell (p := ⟨g, 4, none⟩) hg _
theorem OwnS.set5 {w : World} {base g : Nat} {v : Value} {l : List ByteArray} (h : OwnS w base v l) (hg : v.ownBlock ≠ some g) (x y z u t : Value) : OwnS (((((w.setCell ⟨g, 0, none⟩ x).setCell ⟨g, 1, none⟩ y).setCell ⟨g, 2, none⟩ z).setCell ⟨g, 3, none⟩ u).setCell ⟨g, 4, none⟩ t) base v l :=
  ((((h.set hg 0 x).set hg 1 y).set hg 2 z).set hg 3 u).set hg 4 t
theorem Blk.set5 {w : World} {g : Nat} {t : TypeId} {a b c d e : Value} (h : Blk w g t #[a, b, c, d, e]) (x y z u v : Value) : Blk (((((w.setCell ⟨g, 0, none⟩ x).setCell ⟨g, 1, none⟩ y).setCell ⟨g, 2, none⟩ z).setCell ⟨g, 3, none⟩ u).setCell ⟨g, 4, none⟩ v) g t #[x, y, z, u, v] := by
  simpa using ((((h.set 0 x).set 1 y).set 2 z).set 3 u).set 4 v
def NamesOut (x : S4) (L : List ByteArray) (w : World) (e : Ending) (w' : World) : Prop := ∃ v, e = .returned (.agg #[.bool false, .bool false, .bool false, v, .slice none 0 0]) ∧ OwnS w' w.heap.size v (nmL x L L.length) ∧ Below w.heap.size w w'
set_option maxRecDepth 100000 in
set_option maxHeartbeats 8000000 in
theorem rNames_c (x : S4) (vT : Value) (Ts : List TyE) (w : World) (hT : Tys w vT Ts) (hn3 : Ts.length ≤ 1000000) :
    Calls Try.prog 25 #[.agg #[.int .u64 x.a, .int .u64 x.b, .int .u64 x.c, .int .u64 x.d], vT] w (NamesOut x (Ts.map (·.1)) w) := by
  obtain ⟨i0, hinf, hz0, hz1, hz2⟩ := info_parts infoStr
  obtain ⟨ao, cap, rfl, hr⟩ := hT
  have hW : Kp w (((w.alloc (.cells #[.int .u64 x.a, .int .u64 x.b, .int .u64 x.c, .int .u64 x.d] 35)).alloc (.cells #[.bool false, .bool false, .bool false, .slice none 0 0, .slice none 0 0] 29)).alloc (.cells #[.bool false, .bool false, .bool false, .slice none 0 0, .slice none 0 0] 29)) := (((Below.refl _ _).alloc (Nat.le_refl _) _).alloc (by simp) _).alloc (by simp; omega) _
  have s1 : (w.alloc (.cells #[.int .u64 x.a, .int .u64 x.b, .int .u64 x.c, .int .u64 x.d] 35)).heap.size = w.heap.size + 1 := by simp
  have s2 : ((w.alloc (.cells #[.int .u64 x.a, .int .u64 x.b, .int .u64 x.c, .int .u64 x.d] 35)).alloc (.cells #[.bool false, .bool false, .bool false, .slice none 0 0, .slice none 0 0] 29)).heap.size = w.heap.size + 1 + 1 := by simp
  have hQ : Quad (((w.alloc (.cells #[.int .u64 x.a, .int .u64 x.b, .int .u64 x.c, .int .u64 x.d] 35)).alloc (.cells #[.bool false, .bool false, .bool false, .slice none 0 0, .slice none 0 0] 29)).alloc (.cells #[.bool false, .bool false, .bool false, .slice none 0 0, .slice none 0 0] 29)) w.heap.size x.a x.b x.c x.d := ((Quad.new w x.a x.b x.c x.d).alloc _).alloc _
  have hB4 : Blk (((w.alloc (.cells #[.int .u64 x.a, .int .u64 x.b, .int .u64 x.c, .int .u64 x.d] 35)).alloc (.cells #[.bool false, .bool false, .bool false, .slice none 0 0, .slice none 0 0] 29)).alloc (.cells #[.bool false, .bool false, .bool false, .slice none 0 0, .slice none 0 0] 29)) (w.heap.size + 1) 29 #[.bool false, .bool false, .bool false, .slice none 0 0, .slice none 0 0] := by
    rw [← s1]; exact (Blk.new (w.alloc (.cells #[.int .u64 x.a, .int .u64 x.b, .int .u64 x.c, .int .u64 x.d] 35)) _ _).alloc _
  have hB5 : Blk (((w.alloc (.cells #[.int .u64 x.a, .int .u64 x.b, .int .u64 x.c, .int .u64 x.d] 35)).alloc (.cells #[.bool false, .bool false, .bool false, .slice none 0 0, .slice none 0 0] 29)).alloc (.cells #[.bool false, .bool false, .bool false, .slice none 0 0, .slice none 0 0] 29)) (w.heap.size + 1 + 1) 29 #[.bool false, .bool false, .bool false, .slice none 0 0, .slice none 0 0] := by
    rw [← s2]; exact Blk.new ((w.alloc (.cells #[.int .u64 x.a, .int .u64 x.b, .int .u64 x.c, .int .u64 x.d] 35)).alloc (.cells #[.bool false, .bool false, .bool false, .slice none 0 0, .slice none 0 0] 29)) _ _
  clear s1 s2
  have HQ := Lib.hid hQ
  have HB4 := Lib.hid hB4
  have HB5 := Lib.hid hB5
  have HW := Lib.hid hW
  have hln : (Ts.map (·.1)).length = Ts.length := by simp
  have HLN := Lib.hid hln
  clear hW hQ hB4 hB5 hln
  go_enter Try.func25, Try.ntmps25
  go_wp2_with fail
  generalize (((w.alloc (.cells #[.int .u64 x.a, .int .u64 x.b, .int .u64 x.c, .int .u64 x.d] 35)).alloc (.cells #[.bool false, .bool false, .bool false, .slice none 0 0, .slice none 0 0] 29)).alloc (.cells #[.bool false, .bool false, .bool false, .slice none 0 0, .slice none 0 0] 29)) = W at *
  go_loopw [6] (fun vi wr => ∃ (i : Nat) (v : Value), i ≤ Ts.length ∧ vi = .int .i64 i ∧ Hid (Kb (w.heap.size + 1 + 1) W wr) ∧ Hid (Blk wr (w.heap.size + 1 + 1) 29 #[.bool false, .bool false, .bool false, v, .slice none 0 0]) ∧ Hid (OwnS wr W.heap.size v (nmL x (Ts.map (·.1)) i))) (fun vi _ => Ts.length - (intOf vi).toNat)
  case atStart => exact ⟨0, _, Nat.zero_le _, rfl, Lib.hid Kb.rfl', HB5, Lib.hid OwnS.nil⟩
  case round =>
    obtain ⟨i, v, hi, rfl, HK, HB, HO⟩ := hrel
    have HKw : Hid (Kp w wr) := Lib.hid ((But.mono HK.out HW.out.size |> But.trans (But.of_below HW.out)).to_below (by omega))
    by_cases hlt : i < Ts.length
    · have hlt' : (i : Int) < (Ts.length : Int) := by omega
      have hi0 : (0 : Int) ≤ (i : Int) := by omega
      obtain ⟨g, o, rfl, hg, hq⟩ := hr (by rintro rfl; simp at hlt)
      obtain ⟨q00, _⟩ := hq i hlt
      obtain ⟨s, hs⟩ : ∃ s, Ts[i].1 = s := ⟨_, rfl⟩
      rw [hs] at q00
      have HQ0 : Hid (∀ W', Kp w W' → W'.cell? ⟨g, o + i * 3, none⟩ = some (.string s)) := Lib.hid fun W' h => (World.cell?_of_block (h.block g hg)).trans q00
      have q0 := HQ0.out _ HKw.out
      clear q00
      have hsx := nmL_succ x (L := Ts.map (·.1)) (i := i) (by simpa using hlt)
      rw [List.getElem_map, hs] at hsx
      have hTl := nmL_len x (Ts.map (·.1)) i
      obtain ⟨T, hT⟩ : ∃ T, nmL x (Ts.map (·.1)) i = T := ⟨_, rfl⟩
      rw [hT] at HO hTl hsx
      have hA1 : T.length + 1 ≤ maxLen := by unfold maxLen; omega
      have hA2 : (T.length + 1) * 16 ≤ 140737488355328 := by omega
      have HAA := Lib.hid hA1
      have HSX := Lib.hid hsx
      have HQr := Lib.hid (HK.out.blk HQ.out (by omega))
      obtain ⟨aoT, capT, rfl⟩ := HO.out.isSl
      have HRN := Lib.hid (rhas_c x.a x.b x.c x.d i wr)
      obtain ⟨c0, c1, c2, c3⟩ := quad_box (show Quad wr w.heap.size x.a x.b x.c x.d from HQr.out)
      clear hT hTl hsx hs hq hg hA1
      cases hb : hasS x i
      · have HX : Hid (nmL x (Ts.map (·.1)) (i + 1) = T) := Lib.hid (by have := HSX.out; rw [hb] at this; simpa using this)
        unfold hasS at hb
        rw [hb] at HRN
        clear hb
        go_wp2_with fail
        refine HRN.out.mono ?_
        rintro e w2 ⟨rfl, hb2⟩
        have HK2 := Lib.hid (HK.out.step hb2)
        have HB2 := Lib.hid (HB.out.keep hb2)
        have HO2 := Lib.hid (HO.out.keep hb2)
        clear hb2 c0 c1 c2 c3 q0
        go_wp2_with fail
        go_roundw
        case rel => exact ⟨i + 1, _, by omega, by go_num, HK2, HB2, Lib.hid (by rw [HX.out]; exact HO2.out)⟩
        case measure => simp [intOf]; omega
      · have HX : Hid (nmL x (Ts.map (·.1)) (i + 1) = T ++ [s]) := Lib.hid (by have := HSX.out; rw [hb] at this; simpa using this)
        unfold hasS at hb
        rw [hb] at HRN
        clear hb
        go_wp2_with fail
        refine HRN.out.mono ?_
        rintro e w2 ⟨rfl, hb2⟩
        have HK2 := Lib.hid (HK.out.step hb2)
        have HB2 := Lib.hid (HB.out.keep hb2)
        have HO0 := HO
        replace HO := Lib.hid (HO.out.keep hb2)
        have q1 := HQ0.out _ (Kp.step HKw.out hb2)
        clear hb2 c0 c1 c2 c3 q0 HO0
        obtain ⟨b0, b1, b2, b3, b4⟩ := HB2.out.five
        obtain ⟨bb0, bb1, bb2, bb3, bb4⟩ := (HB2.out.alloc (.cells #[.string s] 9)).five
        have hA3 : W.heap.size ≤ ((w2.alloc (.cells #[.string s] 9)).drew).heap.size := by
          have := HK2.out.size; show W.heap.size ≤ (w2.alloc (.cells #[.string s] 9)).heap.size; simp; omega
        have HA3 := Lib.hid hA3
        have hA1 := HAA.out
        clear hA3
        go_wp2_with fail
        have hA3 := HA3.out
        go_region_law ((refine step_append_lies _ (by rfl) _ _ _ (by rfl) W.heap.size 9 i0 _ 1 16 Try.underlying27 hinf hz0 hz1 hz2 rfl (by omega) (.slice aoT T.length capT) T.length (T.map Value.string) (by rfl) (World.ownsRow.drew (HO.out.alloc _)) ⟨w2.heap.size, 0, none⟩ 1 1 [.string s] (by rfl) (by rfl) (World.news_of_block (cs := #[.string s]) (t := 9) (fr := (0, 0)) (heap_alloc_new w2 _)) (by simp [Value.oneCell']) (by omega) hA1 hA2 hA3 (w2.heap.size + 1) (by simp) ?_; intro gg cap3 w3 hown3 hgrow3 hat3 hlt3; have hB3 := Blk.grown (w := (w2.alloc (.cells #[.string s] 9)).drew) (HB2.out.alloc _) hgrow3 (fun e => absurd (HO.out.lt _ e).1 (by have := HB5.out.lt; omega)); obtain ⟨k0, k1, k2, k3, k4⟩ := hB3.five; have kf := hB3.frozen 3))
        all_goals
          have hlo := HO.out.lt
          have R3 : OwnS w3 W.heap.size (.slice (some ⟨gg, 0, none⟩) (T.length + 1) cap3) (T ++ [s]) := by
            unfold OwnS
            simpa using hown3
          have hgg := (R3.lt gg rfl).1
          have h5 := HB5.out.lt
          have B3 : Below W.heap.size ((w2.alloc (.cells #[.string s] 9)).drew) w3 := (Below.refl _ _).grown hgrow3 hA3 (fun k e => (hlo _ e).1)
          have HK3 : Hid (Kb (w.heap.size + 1 + 1) W (w3.setCell ⟨w.heap.size + 1 + 1, 3, none⟩ (.slice (some ⟨gg, 0, none⟩) (T.length + 1) cap3))) := Lib.hid (Kb.set (But.below ((HK2.out.alloc (.cells #[.string s] 9)).drew) B3) 3 _)
          have HR := Lib.hid (R3.set (g := w.heap.size + 1 + 1) (by simp [Value.ownBlock]; omega) 3 (.slice (some ⟨gg, 0, none⟩) (T.length + 1) cap3))
          have HB3 : Hid (Blk (w3.setCell ⟨w.heap.size + 1 + 1, 3, none⟩ (.slice (some ⟨gg, 0, none⟩) (T.length + 1) cap3)) (w.heap.size + 1 + 1) 29 #[.bool false, .bool false, .bool false, .slice (some ⟨gg, 0, none⟩) (T.length + 1) cap3, .slice none 0 0]) := Lib.hid (by simpa using hB3.set 3 (.slice (some ⟨gg, 0, none⟩) (T.length + 1) cap3))
          clear hlo hgg h5 B3 R3 hown3 hgrow3 hB3 k0 k1 k2 k3 k4 kf bb0 bb1 bb2 bb3 bb4 b0 b1 b2 b3 b4 q1 hA3 hA1 hA2 hat3 hlt3
          go_wp2_with fail
          go_roundw
          case rel => exact ⟨i + 1, _, by omega, by go_num, HK3, HB3, Lib.hid (by rw [HX.out]; exact HR.out)⟩
          case measure => simp [intOf]; omega
    · obtain rfl : i = Ts.length := by omega
      have hB5 := HB.out
      obtain ⟨b0, b1, b2, b3, b4⟩ := hB5.five
      have HB4r := Lib.hid (HK.out.blk HB4.out (by omega))
      obtain ⟨d0, d1, d2, d3, d4⟩ := (show Blk wr (w.heap.size + 1) 29 #[.bool false, .bool false, .bool false, .slice none 0 0, .slice none 0 0] from HB4r.out).five
      have f0 := HB4r.out.frozen 0
      have f1 := HB4r.out.frozen 1
      have f2 := HB4r.out.frozen 2
      have f3 := HB4r.out.frozen 3
      have f4 := HB4r.out.frozen 4
      obtain ⟨aoT, capT, rfl⟩ := HO.out.isSl
      have HB0 := Lib.hid (below_set5 HKw.out (g := w.heap.size + 1) (by omega) (.bool false) (.bool false) (.bool false) (.slice aoT (nmL x (Ts.map (·.1)) Ts.length).length capT) (.slice none 0 0))
      have h5 := HB5.out.lt
      have HO5 : Hid (OwnS _ w.heap.size (.slice aoT (nmL x (Ts.map (·.1)) Ts.length).length capT) (nmL x (Ts.map (·.1)) (Ts.map (·.1)).length)) := Lib.hid (OwnS.mono (OwnS.set5 (g := w.heap.size + 1) (by rw [HLN.out]; exact HO.out) (fun e => absurd (HO.out.lt _ e).1 (by omega)) (.bool false) (.bool false) (.bool false) (.slice aoT (nmL x (Ts.map (·.1)) Ts.length).length capT) (.slice none 0 0)) HW.out.size)
      have HR5 := Lib.hid (Blk.set5 HB4r.out (.bool false) (.bool false) (.bool false) (.slice aoT (nmL x (Ts.map (·.1)) Ts.length).length capT) (.slice none 0 0))
      obtain ⟨n0, hn0⟩ : ∃ T, (nmL x (Ts.map (·.1)) Ts.length).length = T := ⟨_, rfl⟩
      rw [hn0] at HB0 HO5 HR5 b3
      clear hB5 hn0 h5
      go_wp2_with fail
      obtain ⟨r0, r1, r2, r3, r4⟩ := HR5.out.five
      exact bodyPost_ret (v := .agg #[.bool false, .bool false, .bool false, .slice aoT n0 capT, .slice none 0 0]) (by simp [results, Try.results25, go_sem, r0, r1, r2, r3, r4]) rfl ⟨_, rfl, HO5.out, HB0.out⟩
end Go.Proofs.Ytbkejoheefnmiaa
