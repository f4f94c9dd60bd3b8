/- With of the reference. -/
import Derived.Test.YtbcbhgclgakljaaGdi
namespace Go.Proofs.Ytbcbhgclgakljaa
open Go.RowKit Go.Maps
structure Ty3 where
  n : ByteArray
  a : Option Addr
  an : Nat
  ac : Nat
  pm : Bool
def cells3 (x : Ty3) : List Value := [.string x.n, .slice x.a x.an x.ac, .bool x.pm]
def RT3 : RowT Ty3 := ⟨99, 46, cells3, 3, 48, .agg #[.string { data := #[] }, .slice none 0 0, .bool false], fun _ => rfl, by decide, (by intro x u hu; simp only [cells3, List.mem_cons, List.not_mem_nil, or_false] at hu; rcases hu with rfl | rfl | rfl <;> rfl), Try.underlying46, by kernel_rfl, rfl, by decide⟩
def toTz (x : Ty3) : Tz := ⟨x.n, x.an, x.pm⟩
theorem Own.toZ {w : World} {B : Nat} {v : Value} {Q : List Ty3} (h : Own RT3 w B v Q) : RowZ w B v (Q.map toTz) := by
  rcases h.form with ⟨h1, rfl⟩ | ⟨g', cap, cur, e, h2, hb, h4, h5, h6, hr⟩
  · exact .inl ⟨rfl, _, _, h1⟩
  · refine .inr ⟨g', cap, cur, by rw [List.length_map]; exact e, by rw [List.length_map]; omega, by omega, hb, fun i x hx => ?_⟩
    rw [List.getElem?_map] at hx
    cases hq : Q[i]? with
    | none => rw [hq] at hx; cases hx
    | some q =>
      rw [hq] at hx
      obtain rfl := Option.some.inj hx
      have := hr i q hq
      exact ⟨this 0 (by decide), ⟨_, this 1 (by decide), _, _, rfl⟩, this 2 (by decide)⟩
/-- what With of the reference has made of the first i types -/
def QT (L : List Int) (T : List Tz) (Q : List Ty3) (i : Nat) : Prop := Q.length = i ∧ ∀ j, j < i → (Q.map toTz)[j]? = (T[j]?).map (fun x => (⟨x.n, x.an, inL L j⟩ : Tz))
theorem QT.start (L : List Int) (T : List Tz) : QT L T [] 0 := ⟨rfl, fun _ hj => absurd hj (Nat.not_lt_zero _)⟩
theorem QT.step {L : List Int} {T : List Tz} {Q : List Ty3} {i : Nat} {x : Tz} {a : Option Addr} {c : Nat} (h : QT L T Q i) (hx : T[i]? = some x) : QT L T (Q ++ [⟨x.n, a, x.an, c, inL L i⟩]) (i + 1) := by
  refine ⟨by rw [List.length_append, h.1]; rfl, fun j hj => ?_⟩
  rw [List.map_append]
  by_cases e : j = i
  · subst e
    rw [List.getElem?_append_right (by rw [List.length_map, h.1]; exact Nat.le_refl _), List.length_map, h.1, Nat.sub_self, hx]
    rfl
  · rw [List.getElem?_append_left (by rw [List.length_map, h.1]; omega)]
    exact h.2 j (by omega)
theorem QT.whole {L : List Int} {T : List Tz} {Q : List Ty3} (h : QT L T Q T.length) : PZ (fun j _ => inL L j) T (Q.map toTz) := by
  intro j
  by_cases hj : j < T.length
  · exact h.2 j hj
  · rw [List.getElem?_eq_none (by rw [List.length_map, h.1]; omega), List.getElem?_eq_none (by omega)]
    rfl
theorem RowZ.farC {w : World} {B g j : Nat} {v u : Value} {T : List Tz} (h : RowZ w B v T) (hg : g < B) : RowZ (w.setCell ⟨g, j, none⟩ u) B v T := by
  rcases h with h | ⟨g', c', cs, h1, h2, h3, h4, h5⟩
  · exact .inl h
  · exact .inr ⟨g', c', cs, h1, h2, h3, h4.far (p := ⟨g, j, none⟩) (by show g' ≠ g; omega) _, h5⟩
set_option maxRecDepth 100000 in
set_option maxHeartbeats 16000000 in
theorem rwithG {w : World} (T : List Tz) (L : List Int) (a0 a1 a2 a3 a4 a5 a6 a7 a8 a9 a10 a11 a12 a13 a14 a15 a16 : Option Addr) (n n0 n2 n3 n4 n5 n6 n7 n8 n9 n10 n11 n12 n13 n14 n15 n16 c0 c1 c2 c3 c4 c5 c6 c7 c8 c9 c10 c11 c12 c13 c14 c15 c16 : Nat) (al : Option Addr) (m cl : Nat) (h : RdZ w (.slice a1 n c1) T) (hl : n ≤ 1000) (hi : Rows' RIn w (.slice al m cl) L) (hm : m = L.length) (hml : m ≤ 1000) :
    Calls Try.prog 20 #[.agg #[.slice a0 n0 c0, .slice a1 n c1, .slice a2 n2 c2, .slice a3 n3 c3, .slice a4 n4 c4, .slice a5 n5 c5, .slice a6 n6 c6, .slice a7 n7 c7, .slice a8 n8 c8, .slice a9 n9 c9, .slice a10 n10 c10, .slice a11 n11 c11, .slice a12 n12 c12, .slice a13 n13 c13, .slice a14 n14 c14, .slice a15 n15 c15, .slice a16 n16 c16], .slice al m cl] w fun e w' => ∃ b1 e1 Tc, e = .returned (.agg #[.slice a0 n0 c0, .slice b1 n e1, .slice a2 n2 c2, .slice a3 n3 c3, .slice a4 n4 c4, .slice a5 n5 c5, .slice a6 n6 c6, .slice a7 n7 c7, .slice a8 n8 c8, .slice a9 n9 c9, .slice a10 n10 c10, .slice a11 n11 c11, .slice a12 n12 c12, .slice a13 n13 c13, .slice a14 n14 c14, .slice a15 n15 c15, .slice a16 n16 c16]) ∧ RowZ w' w.heap.size (.slice b1 n e1) Tc ∧ PZ (fun j _ => inL L j) T Tc ∧ Below w.heap.size w w' := by
  have HB : Hid (Below w.heap.size w ((w.alloc (.cells #[.slice a0 n0 c0, .slice a1 n c1, .slice a2 n2 c2, .slice a3 n3 c3, .slice a4 n4 c4, .slice a5 n5 c5, .slice a6 n6 c6, .slice a7 n7 c7, .slice a8 n8 c8, .slice a9 n9 c9, .slice a10 n10 c10, .slice a11 n11 c11, .slice a12 n12 c12, .slice a13 n13 c13, .slice a14 n14 c14, .slice a15 n15 c15, .slice a16 n16 c16] 62)).alloc (.cells #[.slice none 0 0, .slice none 0 0, .slice none 0 0, .slice none 0 0, .slice none 0 0, .slice none 0 0, .slice none 0 0, .slice none 0 0, .slice none 0 0, .slice none 0 0, .slice none 0 0, .slice none 0 0, .slice none 0 0, .slice none 0 0, .slice none 0 0, .slice none 0 0, .slice none 0 0] 62))) := Lib.hid (((Below.refl _ _).alloc (Nat.le_refl _) _).alloc (by simp) _)
  have HP : Hid (Blk ((w.alloc (.cells #[.slice a0 n0 c0, .slice a1 n c1, .slice a2 n2 c2, .slice a3 n3 c3, .slice a4 n4 c4, .slice a5 n5 c5, .slice a6 n6 c6, .slice a7 n7 c7, .slice a8 n8 c8, .slice a9 n9 c9, .slice a10 n10 c10, .slice a11 n11 c11, .slice a12 n12 c12, .slice a13 n13 c13, .slice a14 n14 c14, .slice a15 n15 c15, .slice a16 n16 c16] 62)).alloc (.cells #[.slice none 0 0, .slice none 0 0, .slice none 0 0, .slice none 0 0, .slice none 0 0, .slice none 0 0, .slice none 0 0, .slice none 0 0, .slice none 0 0, .slice none 0 0, .slice none 0 0, .slice none 0 0, .slice none 0 0, .slice none 0 0, .slice none 0 0, .slice none 0 0, .slice none 0 0] 62)) w.heap.size 62 #[.slice a0 n0 c0, .slice a1 n c1, .slice a2 n2 c2, .slice a3 n3 c3, .slice a4 n4 c4, .slice a5 n5 c5, .slice a6 n6 c6, .slice a7 n7 c7, .slice a8 n8 c8, .slice a9 n9 c9, .slice a10 n10 c10, .slice a11 n11 c11, .slice a12 n12 c12, .slice a13 n13 c13, .slice a14 n14 c14, .slice a15 n15 c15, .slice a16 n16 c16]) := Lib.hid ((Blk.here rfl).alloc _)
  have HQ : Hid (Blk ((w.alloc (.cells #[.slice a0 n0 c0, .slice a1 n c1, .slice a2 n2 c2, .slice a3 n3 c3, .slice a4 n4 c4, .slice a5 n5 c5, .slice a6 n6 c6, .slice a7 n7 c7, .slice a8 n8 c8, .slice a9 n9 c9, .slice a10 n10 c10, .slice a11 n11 c11, .slice a12 n12 c12, .slice a13 n13 c13, .slice a14 n14 c14, .slice a15 n15 c15, .slice a16 n16 c16] 62)).alloc (.cells #[.slice none 0 0, .slice none 0 0, .slice none 0 0, .slice none 0 0, .slice none 0 0, .slice none 0 0, .slice none 0 0, .slice none 0 0, .slice none 0 0, .slice none 0 0, .slice none 0 0, .slice none 0 0, .slice none 0 0, .slice none 0 0, .slice none 0 0, .slice none 0 0, .slice none 0 0] 62)) (w.heap.size + 1) 62 #[.slice none 0 0, .slice none 0 0, .slice none 0 0, .slice none 0 0, .slice none 0 0, .slice none 0 0, .slice none 0 0, .slice none 0 0, .slice none 0 0, .slice none 0 0, .slice none 0 0, .slice none 0 0, .slice none 0 0, .slice none 0 0, .slice none 0 0, .slice none 0 0, .slice none 0 0]) := Lib.hid (Blk.here (by simp))
  have HR := Lib.hid (h.below HB.out)
  have HI := Lib.hid (hi.below HB.out)
  have HN := Lib.hid h.cap.1
  have hcI : (n : Int) ≤ (c1 : Int) := by have := h.cap.2; omega
  have HG : Hid (w.heap.size ≤ w.heap.size + 1 ∧ w.heap.size ≠ w.heap.size + 1) := Lib.hid (by omega)
  have HM := Lib.hid hm
  have HML := Lib.hid hml
  clear h hi hm hml
  go_enter Try.func20, Try.ntmps20
  go_upto_region 1 with fail
  generalize (w.alloc (.cells #[.slice a0 n0 c0, .slice a1 n c1, .slice a2 n2 c2, .slice a3 n3 c3, .slice a4 n4 c4, .slice a5 n5 c5, .slice a6 n6 c6, .slice a7 n7 c7, .slice a8 n8 c8, .slice a9 n9 c9, .slice a10 n10 c10, .slice a11 n11 c11, .slice a12 n12 c12, .slice a13 n13 c13, .slice a14 n14 c14, .slice a15 n15 c15, .slice a16 n16 c16] 62)).alloc (.cells #[.slice none 0 0, .slice none 0 0, .slice none 0 0, .slice none 0 0, .slice none 0 0, .slice none 0 0, .slice none 0 0, .slice none 0 0, .slice none 0 0, .slice none 0 0, .slice none 0 0, .slice none 0 0, .slice none 0 0, .slice none 0 0, .slice none 0 0, .slice none 0 0, .slice none 0 0] 62) = w0 at *
  generalize w.heap.size + 1 = g4 at *
  generalize hgx : w.heap.size = g2 at *
  have c1x := HP.out.cell 1
  simp only [List.getElem?_toArray, List.getElem?_cons_zero, List.getElem?_cons_succ] at c1x
  go_wp2_with fail
  clear c1x
  go_loopw [6, 5, 7] (fun vi vl _ wr => ∃ (i : Nat) (tl : Option Addr) (kl : Nat) (Q : List Ty3), i ≤ n ∧ vi = .int .i64 i ∧ vl = .slice tl i kl ∧ Hid (Own RT3 wr w0.heap.size (.slice tl i kl) Q) ∧ Hid (QT L T Q i) ∧ Hid (Below w0.heap.size w0 wr)) (fun vi _ _ _ => n - (intOf vi).toNat)
  case atStart => exact ⟨0, none, 0, [], Nat.zero_le _, rfl, rfl, Lib.hid (Own.nil _ _), Lib.hid (QT.start _ _), Lib.hid (Below.refl _ _)⟩
  case round =>
    obtain ⟨i, tl, kl, Q, hi, rfl, rfl, HO, HT, HW⟩ := hrel
    have c1y := (HP.out.keep HW.out).cell 1
    simp only [List.getElem?_toArray, List.getElem?_cons_zero, List.getElem?_cons_succ] at c1y
    by_cases hlt : i < n
    · have hltI : (i : Int) < (n : Int) := by omega
      have hx : T[i]? = some (T[i]'(by rw [← HN.out]; exact hlt)) := List.getElem?_eq_getElem _
      generalize T[i]'(by rw [← HN.out]; exact hlt) = x at hx
      obtain ⟨g, o, rfl⟩ := HR.out.some (by rintro rfl; simp at hx)
      obtain ⟨xa, xc, y0, y1, y2⟩ := (HR.out.below HW.out).at hx
      have HX := Lib.hid hx
      clear hx
      go_upto_region 6 with fail
      have HBA : Hid (Below wr.heap.size wr (wr.alloc (.cells #[.string x.n, .slice xa x.an xc, .bool x.pm] 99))) := Lib.hid ((Below.refl _ _).alloc (Nat.le_refl _) _)
      have HX1 := Lib.hid (Blk.new wr 99 #[.string x.n, .slice xa x.an xc, .bool x.pm])
      have HW2 : Hid (Below w0.heap.size w0 (wr.alloc (.cells #[.string x.n, .slice xa x.an xc, .bool x.pm] 99))) := Lib.hid (HW.out.trans (HBA.out.mono HW.out.size))
      clear y0 y1 y2 c1y
      generalize wr.alloc (.cells #[.string x.n, .slice xa x.an xc, .bool x.pm] 99) = w2 at *
      have HG5 : Hid (w0.heap.size ≤ wr.heap.size) := Lib.hid HW.out.size
      go_upto_region 7 with (first | (go_at_call 44; refine (rhas_c al m cl L i (HI.out.below HW2.out) HM.out HML.out).mono ?_; rintro e w3 ⟨rfl, h3⟩; have H3 := Lib.hid h3; clear h3; obtain ⟨d1, d2⟩ := slotB (HX1.out.keep H3.out) (i := 2) rfl) | fail)
      clear d1 d2
      have HB4 : Hid (Below wr.heap.size wr (w3.setCell ⟨wr.heap.size, 2, none⟩ (.bool (inL L i)))) := Lib.hid ((HBA.out.trans (H3.out.mono HBA.out.size)).setCell (p := ⟨wr.heap.size, 2, none⟩) (Nat.le_refl _) _)
      have HX4 : Hid (Blk (w3.setCell ⟨wr.heap.size, 2, none⟩ (.bool (inL L i))) wr.heap.size 99 #[.string x.n, .slice xa x.an xc, .bool (inL L i)]) := Lib.hid ((HX1.out.keep H3.out).set _ _)
      clear H3 HX1 HBA HW2
      generalize w3.setCell ⟨wr.heap.size, 2, none⟩ (.bool (inL L i)) = w4 at *
      have HO4 := Lib.hid (HO.out.below HB4.out)
      have HW4 := Lib.hid (HW.out.trans (HB4.out.mono HW.out.size))
      have y0 := HX4.out.cell 0
      have y1 := HX4.out.cell 1
      have y2 := HX4.out.cell 2
      simp only [List.getElem?_toArray, List.getElem?_cons_zero, List.getElem?_cons_succ] at y0 y1 y2
      have HL4 : Hid (Q.length = i) := Lib.hid HT.out.1
      have HBS : Hid (Below w4.heap.size w4 (w4.alloc (.cells #[.string x.n, .slice xa x.an xc, .bool (inL L i)] 99))) := Lib.hid ((Below.refl _ _).alloc (Nat.le_refl _) _)
      have HO5 := Lib.hid (HO4.out.below HBS.out)
      have HY : Hid ((w4.alloc (.cells #[.string x.n, .slice xa x.an xc, .bool (inL L i)] 99)).heap[w4.heap.size]? = some (.cells (RT3.c ⟨x.n, xa, x.an, xc, inL L i⟩).toArray RT3.te (0, 0))) := Lib.hid (Blk.new w4 99 #[.string x.n, .slice xa x.an xc, .bool (inL L i)])
      have HG1 : Hid (w0.heap.size ≤ w4.heap.size) := Lib.hid HW4.out.size
      have HLL : Hid (i ≤ 1000000) := Lib.hid (by omega)
      go_wp2_with (at_builtin; refine wpList_append_one RT3 rfl _ _ rfl w0.heap.size (.slice tl i kl) Q i HL4.out rfl HO5.out w4.heap.size ⟨x.n, xa, x.an, xc, inL L i⟩ rfl HY.out HLL.out (Nat.le_trans HG1.out HBS.out.size) ?_; intro ga ca w5 h1 h2 h3; have H1 := Lib.hid h1; have H2 := Lib.hid h2; clear h1 h2 h3)
      exact ⟨⟨i + 1, some ⟨ga, 0, none⟩, ca, _, by omega, by go_num, rfl, H1, Lib.hid (HT.out.step HX.out), Lib.hid ((HW4.out.trans (HBS.out.mono HW4.out.size)).grown H2.out (Nat.le_trans HG1.out HBS.out.size) (fun k hk => (HO5.out.lt k hk).1))⟩, by simp [intOf]; omega⟩
    · obtain rfl : i = n := by omega
      obtain ⟨d1, d2⟩ := slotB (HP.out.keep HW.out) (i := 1) rfl
      go_upto_region 9 with fail
      clear d1 d2 c1y
      have HPk : Hid (Blk (wr.setCell ⟨g2, 1, none⟩ (.slice tl i kl)) g2 62 #[.slice a0 n0 c0, .slice tl i kl, .slice a2 n2 c2, .slice a3 n3 c3, .slice a4 n4 c4, .slice a5 n5 c5, .slice a6 n6 c6, .slice a7 n7 c7, .slice a8 n8 c8, .slice a9 n9 c9, .slice a10 n10 c10, .slice a11 n11 c11, .slice a12 n12 c12, .slice a13 n13 c13, .slice a14 n14 c14, .slice a15 n15 c15, .slice a16 n16 c16]) := Lib.hid ((HP.out.keep HW.out).set _ _)
      have HQk : Hid (Blk (wr.setCell ⟨g2, 1, none⟩ (.slice tl i kl)) g4 62 #[.slice none 0 0, .slice none 0 0, .slice none 0 0, .slice none 0 0, .slice none 0 0, .slice none 0 0, .slice none 0 0, .slice none 0 0, .slice none 0 0, .slice none 0 0, .slice none 0 0, .slice none 0 0, .slice none 0 0, .slice none 0 0, .slice none 0 0, .slice none 0 0, .slice none 0 0]) := Lib.hid ((HQ.out.keep HW.out).far (p := ⟨g2, 1, none⟩) (Ne.symm HG.out.2) _)
      have HBk : Hid (Below g2 w (wr.setCell ⟨g2, 1, none⟩ (.slice tl i kl))) := Lib.hid ((HB.out.trans (HW.out.mono (Nat.le_of_lt HP.out.lt))).setCell (p := ⟨g2, 1, none⟩) (Nat.le_refl _) _)
      have HOk : Hid (RowZ (wr.setCell ⟨g2, 1, none⟩ (.slice tl i kl)) w0.heap.size (.slice tl i kl) (Q.map toTz)) := Lib.hid (HO.out.toZ.farC HP.out.lt)
      have HTE : Hid (PZ (fun j _ => inL L j) T (Q.map toTz)) := Lib.hid (QT.whole (by have := HT.out; rwa [HN.out] at this))
      generalize wr.setCell ⟨g2, 1, none⟩ (.slice tl i kl) = w6 at *
      refine wp_region_lit ?_
      refine wpList_load (by rfl) (.tmp 2) rfl rfl (loadAt_blk [.slice a0 n0 c0, .slice tl i kl, .slice a2 n2 c2, .slice a3 n3 c3, .slice a4 n4 c4, .slice a5 n5 c5, .slice a6 n6 c6, .slice a7 n7 c7, .slice a8 n8 c8, .slice a9 n9 c9, .slice a10 n10 c10, .slice a11 n11 c11, .slice a12 n12 c12, .slice a13 n13 c13, .slice a14 n14 c14, .slice a15 n15 c15, .slice a16 n16 c16] (agg_pol _) (size_pol _) HPk.out) ?_
      simp only [Act.put, List.setIfInBounds_toArray, List.set_cons_succ, List.set_cons_zero]
      refine wpList_store_row (by rfl) _ _ rfl rfl (by rfl) [.slice a0 n0 c0, .slice tl i kl, .slice a2 n2 c2, .slice a3 n3 c3, .slice a4 n4 c4, .slice a5 n5 c5, .slice a6 n6 c6, .slice a7 n7 c7, .slice a8 n8 c8, .slice a9 n9 c9, .slice a10 n10 c10, .slice a11 n11 c11, .slice a12 n12 c12, .slice a13 n13 c13, .slice a14 n14 c14, .slice a15 n15 c15, .slice a16 n16 c16] (.agg #[.slice a0 n0 c0, .slice tl i kl, .slice a2 n2 c2, .slice a3 n3 c3, .slice a4 n4 c4, .slice a5 n5 c5, .slice a6 n6 c6, .slice a7 n7 c7, .slice a8 n8 c8, .slice a9 n9 c9, .slice a10 n10 c10, .slice a11 n11 c11, .slice a12 n12 c12, .slice a13 n13 c13, .slice a14 n14 c14, .slice a15 n15 c15, .slice a16 n16 c16]) (by rfl) rfl (size_pol _) HQk.out rfl (one_sl rfl) ?_
      have HQ7 : Hid (Blk (w6.setRow g4 [.slice a0 n0 c0, .slice tl i kl, .slice a2 n2 c2, .slice a3 n3 c3, .slice a4 n4 c4, .slice a5 n5 c5, .slice a6 n6 c6, .slice a7 n7 c7, .slice a8 n8 c8, .slice a9 n9 c9, .slice a10 n10 c10, .slice a11 n11 c11, .slice a12 n12 c12, .slice a13 n13 c13, .slice a14 n14 c14, .slice a15 n15 c15, .slice a16 n16 c16].toArray) g4 62 [.slice a0 n0 c0, .slice tl i kl, .slice a2 n2 c2, .slice a3 n3 c3, .slice a4 n4 c4, .slice a5 n5 c5, .slice a6 n6 c6, .slice a7 n7 c7, .slice a8 n8 c8, .slice a9 n9 c9, .slice a10 n10 c10, .slice a11 n11 c11, .slice a12 n12 c12, .slice a13 n13 c13, .slice a14 n14 c14, .slice a15 n15 c15, .slice a16 n16 c16].toArray) := Lib.hid (HQk.out.row _)
      have HB7 : Hid (Below g2 w (w6.setRow g4 [.slice a0 n0 c0, .slice tl i kl, .slice a2 n2 c2, .slice a3 n3 c3, .slice a4 n4 c4, .slice a5 n5 c5, .slice a6 n6 c6, .slice a7 n7 c7, .slice a8 n8 c8, .slice a9 n9 c9, .slice a10 n10 c10, .slice a11 n11 c11, .slice a12 n12 c12, .slice a13 n13 c13, .slice a14 n14 c14, .slice a15 n15 c15, .slice a16 n16 c16].toArray)) := Lib.hid (below_row HBk.out HG.out.1 _)
      have HO7 := Lib.hid (HOk.out.row (cs := [.slice a0 n0 c0, .slice tl i kl, .slice a2 n2 c2, .slice a3 n3 c3, .slice a4 n4 c4, .slice a5 n5 c5, .slice a6 n6 c6, .slice a7 n7 c7, .slice a8 n8 c8, .slice a9 n9 c9, .slice a10 n10 c10, .slice a11 n11 c11, .slice a12 n12 c12, .slice a13 n13 c13, .slice a14 n14 c14, .slice a15 n15 c15, .slice a16 n16 c16].toArray) HQ.out.lt)
      generalize w6.setRow g4 [.slice a0 n0 c0, .slice tl i kl, .slice a2 n2 c2, .slice a3 n3 c3, .slice a4 n4 c4, .slice a5 n5 c5, .slice a6 n6 c6, .slice a7 n7 c7, .slice a8 n8 c8, .slice a9 n9 c9, .slice a10 n10 c10, .slice a11 n11 c11, .slice a12 n12 c12, .slice a13 n13 c13, .slice a14 n14 c14, .slice a15 n15 c15, .slice a16 n16 c16].toArray = w7 at *
      go_wp2_with fail
      refine bodyPost_ret (v := .agg #[.slice a0 n0 c0, .slice tl i kl, .slice a2 n2 c2, .slice a3 n3 c3, .slice a4 n4 c4, .slice a5 n5 c5, .slice a6 n6 c6, .slice a7 n7 c7, .slice a8 n8 c8, .slice a9 n9 c9, .slice a10 n10 c10, .slice a11 n11 c11, .slice a12 n12 c12, .slice a13 n13 c13, .slice a14 n14 c14, .slice a15 n15 c15, .slice a16 n16 c16]) (blk_ret [.slice a0 n0 c0, .slice tl i kl, .slice a2 n2 c2, .slice a3 n3 c3, .slice a4 n4 c4, .slice a5 n5 c5, .slice a6 n6 c6, .slice a7 n7 c7, .slice a8 n8 c8, .slice a9 n9 c9, .slice a10 n10 c10, .slice a11 n11 c11, .slice a12 n12 c12, .slice a13 n13 c13, .slice a14 n14 c14, .slice a15 n15 c15, .slice a16 n16 c16] rfl rfl (agg_pol _) (size_pol _) HQ7.out) rfl ⟨tl, kl, Q.map toTz, rfl, ?_, HTE.out, ?_⟩
      · exact HO7.out.base (by rw [hgx]; exact Nat.le_of_lt HP.out.lt)
      · rw [hgx]; exact HB7.out
end Go.Proofs.Ytbcbhgclgakljaa
