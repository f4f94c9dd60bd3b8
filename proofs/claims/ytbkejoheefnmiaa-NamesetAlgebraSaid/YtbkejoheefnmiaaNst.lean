/- What a set of names means among classes: Classes of the reference. Condition: at most a million names, types, attributes and aliases. -/
import Derived.Test.YtbkejoheefnmiaaNsq
import Derived.OwnWalk
namespace Go.Proofs.Ytbkejoheefnmiaa
open Go.RowKit
/-- a row of texts that a call owns -/
def OwnS (w : World) (base : Nat) (v : Value) (l : List ByteArray) : Prop := w.ownsRow base 9 1 v l.length (l.map Value.string)
section
variable {w w' : World} {base : Nat} {v : Value} {l : List ByteArray}
theorem OwnS.nil : OwnS w base (.slice none 0 0) [] := World.ownsRow_nil _ _ _ _
theorem OwnS.mono {base' : Nat} (h : OwnS w base v l) (hb : base' ≤ base) : OwnS w base' v l := ⟨h.1, h.2.imp id (fun ⟨g, r1, r2, r3, r4, r5⟩ => ⟨g, r1, r2, r3, Nat.le_trans hb r4, r5⟩)⟩
theorem OwnS.keep (h : OwnS w base v l) (hb : Below w.heap.size w w') : OwnS w' base v l := by
  refine ⟨h.1, ?_⟩
  rcases h.2 with h2 | ⟨g, cap, cur, hv, hg, hh, r⟩
  · exact .inl h2
  · have hlt : g < w.heap.size := by
      rcases Nat.lt_or_ge g w.heap.size with hlt | hge
      · exact hlt
      · rw [Array.getElem?_eq_none hge] at hh; cases hh
    exact .inr ⟨g, cap, cur, hv, hg, (hb.block g hlt).trans hh, r⟩
theorem OwnS.alloc (h : OwnS w base v l) (o : Obj) : OwnS (w.alloc o) base v l := World.ownsRow.alloc h o
theorem OwnS.lt (h : OwnS w base v l) : ∀ k, v.ownBlock = some k → base ≤ k ∧ k < w.heap.size := World.ownsRow.lt h
theorem OwnS.strs (h : OwnS w base v l) : ∃ ao cap, v = .slice ao l.length cap ∧ l.length ≤ cap ∧ Strs w v l := by
  rcases h.2 with ⟨hv, hn⟩ | ⟨g, cap, cur, hv, hg, hh, hnc, hcm, hsz, htake⟩
  · obtain rfl := List.eq_nil_of_length_eq_zero hn
    exact ⟨none, 0, hv, Nat.le_refl _, by rw [hv]; exact Strs.nil⟩
  · refine ⟨some ⟨g, 0, none⟩, cap, hv, hnc, some ⟨g, 0, none⟩, cap, hv, fun _ => ⟨g, 0, rfl, fun k hk => ?_⟩⟩
    have hx : (l.map Value.string)[k]? = some (.string l[k]) := by simp [hk]
    rw [Nat.zero_add, cell_of_row w g k cur _ _ hh]
    rw [← htake, List.getElem?_take_of_lt (by omega)] at hx
    simpa using hx
theorem OwnS.isSl (h : OwnS w base v l) : ∃ ao cap, v = .slice ao l.length cap := by
  obtain ⟨ao, cap, e, _⟩ := h.strs
  exact ⟨ao, cap, e⟩
theorem one_newS {t : TypeId} {x : ByteArray} {g : Nat} (hg : g = w.heap.size) : ∀ j u, [Value.string x][j]? = some u → (w.alloc (.cells #[.string x] t)).cell? ((⟨g, 0, none⟩ : Addr).add j) = some u := fun j u h => by
  subst hg; exact cell_one_new _ _ _ j u h
end
theorem infoStr : (Try.prog.info? 9).map (fun i => (i.zero, i.size, i.bytes)) = some (some (.string ⟨#[]⟩), 1, 16) := by kernel_rfl
/-- a slice of classes that reads as these names -/
def Cls (w : World) (v : Value) (l : List ByteArray) : Prop := ∃ ao cap, v = .slice ao l.length cap ∧ l.length ≤ cap ∧ (l ≠ [] → ∃ g o, ao = some ⟨g, o, none⟩ ∧ g < w.heap.size ∧ ∀ k (h : k < l.length), w.cell? ⟨g, o + k * 2, none⟩ = some (.string l[k]) ∧ ∃ a n c, w.cell? ⟨g, o + k * 2 + 1, none⟩ = some (.slice a n c))
theorem Cls.keep {w w' : World} {v : Value} {l : List ByteArray} (h : Cls w v l) (hb : Below w.heap.size w w') : Cls w' v l := by
  obtain ⟨ao, cap, rfl, hc, hr⟩ := h
  refine ⟨ao, cap, rfl, hc, fun hl => ?_⟩
  obtain ⟨g, o, rfl, hg, hR⟩ := hr hl
  refine ⟨g, o, rfl, Nat.lt_of_lt_of_le hg hb.size, fun k hk => ?_⟩
  obtain ⟨h0, a, n, c, h1⟩ := hR k hk
  exact ⟨(World.cell?_of_block (hb.block g hg)).trans h0, a, n, c, (World.cell?_of_block (hb.block g hg)).trans h1⟩
set_option maxRecDepth 100000 in
set_option maxHeartbeats 8000000 in
theorem rClasses_c (al no sf : Bool) (vN vE vL : Value) (N E L : List ByteArray) (w : World) (hN : Strs w vN N) (hE : Strs w vE E) (hL : Cls w vL L) (hn : N.length ≤ 1000000) (hn2 : E.length ≤ 1000000) (hn3 : L.length ≤ 1000000) :
    Calls Try.prog 19 #[.agg #[.bool al, .bool no, .bool sf, vN, vE], vL] w (ErrOut (meanS al no ((min L.length 256 : Nat) : Int) (numS L) (numB L 256) N E) (errI (meanB (numB L 256) N E) 20) w) := by
  obtain ⟨i0, hinf, hz0, hz1, hz2⟩ := info_parts infoStr
  have hW : Kp w ((w.alloc (.cells #[.bool al, .bool no, .bool sf, vN, vE] 29)).alloc (.cells #[.int .u64 0, .int .u64 0, .int .u64 0, .int .u64 0] 35)) := ((Below.refl _ _).alloc (Nat.le_refl _) _).alloc (by simp) _
  have hNS : Blk ((w.alloc (.cells #[.bool al, .bool no, .bool sf, vN, vE] 29)).alloc (.cells #[.int .u64 0, .int .u64 0, .int .u64 0, .int .u64 0] 35)) w.heap.size 29 #[.bool al, .bool no, .bool sf, vN, vE] := (Blk.new w _ _).alloc _
  have s1 : (w.alloc (.cells #[.bool al, .bool no, .bool sf, vN, vE] 29)).heap.size = w.heap.size + 1 := by simp
  have hQ4 : Quad ((w.alloc (.cells #[.bool al, .bool no, .bool sf, vN, vE] 29)).alloc (.cells #[.int .u64 0, .int .u64 0, .int .u64 0, .int .u64 0] 35)) (w.heap.size + 1) 0 0 0 0 := by
    rw [← s1]; exact Quad.new (w.alloc (.cells #[.bool al, .bool no, .bool sf, vN, vE] 29)) 0 0 0 0
  clear s1
  have HM := Lib.hid (fun v W' (h : Kp w W') (hS : Strs W' v L) => rlisted_c al no sf vN vE v N E L 256 W' (hN.keep h) (hE.keep h) hS hn hn2 hn3 (Nat.le_refl _))
  have HZ : Hid ((meanB (numB L 256) N E) = false → S4.zero = (meanS al no ((min L.length 256 : Nat) : Int) (numS L) (numB L 256) N E)) := Lib.hid fun h => (meanS_zero h).symm
  obtain ⟨S, hS⟩ : ∃ S, (meanS al no ((min L.length 256 : Nat) : Int) (numS L) (numB L 256) N E) = S := ⟨_, rfl⟩
  obtain ⟨B, hB⟩ : ∃ B, (meanB (numB L 256) N E) = B := ⟨_, rfl⟩
  rw [hS, hB] at HM HZ ⊢
  clear hS hB
  obtain ⟨ao, cap, rfl, _, hr⟩ := hL
  have HNS := Lib.hid hNS
  have HQ4 := Lib.hid hQ4
  have HW := Lib.hid hW
  clear hQ4 hW hNS hN hE
  go_enter Try.func19, Try.ntmps19
  go_wp2_with fail
  generalize ((w.alloc (.cells #[.bool al, .bool no, .bool sf, vN, vE] 29)).alloc (.cells #[.int .u64 0, .int .u64 0, .int .u64 0, .int .u64 0] 35)) = W at *
  go_loopw [6, 7] (fun v6 vi wr => ∃ (i : Nat) (vv : Value), vv = v6 ∧ i ≤ L.length ∧ vi = .int .i64 i ∧ Hid (Kp W wr) ∧ Hid (OwnS wr W.heap.size vv (L.take i))) (fun _ vi _ => L.length - (intOf vi).toNat)
  case atStart => exact ⟨0, _, rfl, Nat.zero_le _, rfl, Lib.hid Kp.rfl', Lib.hid (by rw [List.take_zero]; exact OwnS.nil)⟩
  case round =>
    obtain ⟨i, v, rfl, hi, rfl, HK, HO⟩ := hrel
    have HB0 := Lib.hid (Kp.step HW.out HK.out)
    by_cases hlt : i < L.length
    · have hlt' : (i : Int) < (L.length : Int) := by omega
      obtain ⟨g, o, rfl, hg, hq⟩ := hr (by rintro rfl; simp at hlt)
      obtain ⟨q0, ua, un, uc, q1⟩ := hq i hlt
      have hblk := HB0.out.block g hg
      rw [← World.cell?_of_block hblk] at q0
      obtain ⟨x, hx⟩ : ∃ x, L[i] = x := ⟨_, rfl⟩
      rw [hx] at q0
      have HX : Hid (L.take (i + 1) = L.take i ++ [x]) := Lib.hid (by rw [List.take_succ_eq_append_getElem hlt, hx])
      obtain ⟨T, hT⟩ : ∃ T, L.take i = T := ⟨_, rfl⟩
      have hTl : T.length = i := by rw [← hT, List.length_take]; omega
      rw [hT] at HO HX
      have HT := Lib.hid hTl
      obtain ⟨aoT, capT, rfl⟩ := HO.out.isSl
      clear hx hq hblk q1 hT hTl hg
      go_wp2_with (at_builtin; refine wpList_append_own _ rfl _ _ 27 rfl W.heap.size 9 i0 (.string ⟨#[]⟩) 1 16 Try.underlying27 hinf hz0 hz1 hz2 rfl (by decide) (.slice aoT T.length capT) T.length (T.map Value.string) rfl (HO.out.alloc _) ⟨_, 0, none⟩ 1 1 [.string x] rfl rfl ?c1 ?c2 ?c3 ?c4 ?c5 ?_)
      case c1 => exact one_newS (by simp)
      case c2 => intro u hu; simp at hu; subst hu; rfl
      case c3 => have := HT.out; unfold maxLen; omega
      case c4 => have := HT.out; omega
      case c5 => have := HK.out.size; simp; omega
      · intro v' w3 hown2 hgrow _
        have hlo := HO.out.lt
        have R3 : OwnS w3 W.heap.size v' (T ++ [x]) := by
          unfold OwnS
          simpa using hown2
        have hsz := HK.out.size
        have B3 : Below W.heap.size W w3 := (HK.out.alloc _).grown hgrow (by simp; omega) (fun k e => by have := hlo _ e; omega)
        have HR := Lib.hid R3
        have HB3 := Lib.hid B3
        clear hown2 hgrow hlo hsz R3 B3
        go_wp2_with fail
        go_roundw
        case rel => exact ⟨i + 1, _, rfl, by omega, by go_num, HB3, Lib.hid (by rw [HX.out]; exact HR.out)⟩
        case measure => simp [intOf]; omega
    · obtain rfl : i = L.length := by omega
      have HO2 : Hid (OwnS wr W.heap.size v L) := Lib.hid (by have := HO.out; rwa [List.take_length] at this)
      obtain ⟨ao2, cap2, e, _, hS2⟩ := HO2.out.strs
      subst e
      have HC := Lib.hid (HM.out _ wr HB0.out hS2)
      have hNS := HK.out.blk HNS.out
      obtain ⟨y0, y1, y2, y3, y4⟩ := hNS.five
      have HQ5 := Lib.hid (HQ4.out.keep HK.out)
      clear HO HO2 hS2 HM hr hNS
      cases B
      all_goals
        go_wp2_with fail
        refine HC.out.mono ?_
        rintro e w2 ⟨rfl, hb2⟩
        have hQ := (HQ5.out.keep hb2).alloc (.cells #[.int .u64 (S).a, .int .u64 (S).b, .int .u64 (S).c, .int .u64 (S).d] 35)
        have HB := Lib.hid (Kp.alloc (Kp.step HB0.out hb2) (.cells #[.int .u64 (S).a, .int .u64 (S).b, .int .u64 (S).c, .int .u64 (S).d] 35))
        obtain ⟨c0, c1, c2, c3, f0, f1, f2, f3⟩ := hQ.facts
        have HQ := Lib.hid hQ
        clear hb2 hQ y0 y1 y2 y3 y4
        go_wp2_with fail
      · obtain rfl := HZ.out (by simp)
        obtain ⟨r0, r1, r2, r3⟩ := quad_box (HQ.out.set4 0 0 0 0)
        exact bodyPost_ret (v := .tuple #[.agg #[.int .u64 0, .int .u64 0, .int .u64 0, .int .u64 0], .int .i64 20]) (by simp [results, Try.results19, go_sem, r0, r1, r2, r3]) rfl ⟨rfl, below_set4 HB.out (by omega) _ _ _ _⟩
      · obtain ⟨r0, r1, r2, r3⟩ := quad_box (HQ.out.set4 (S).a (S).b (S).c (S).d)
        exact bodyPost_ret (v := .tuple #[.agg #[.int .u64 (S).a, .int .u64 (S).b, .int .u64 (S).c, .int .u64 (S).d], .int .i64 0]) (by simp [results, Try.results19, go_sem, r0, r1, r2, r3]) rfl ⟨rfl, below_set4 HB.out (by omega) _ _ _ _⟩
end Go.Proofs.Ytbkejoheefnmiaa
