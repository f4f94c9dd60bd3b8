/- What a set of names means in a list: the function literal in listed, and listed of the program. Condition: at most a million names, types, attributes and aliases. -/
import Derived.Test.YtbkejoheefnmiaaNsj
import Derived.Test.YtbkejoheefnmiaaNso
namespace Go.Proofs.Ytbkejoheefnmiaa
open Go.RowKit
set_option maxRecDepth 100000 in
set_option maxHeartbeats 4000000 in
theorem find_l (gl : Nat) (vL : Value) (L : List ByteArray) (n : ByteArray) (w : World) (hE0 : Blk w gl 27 #[vL]) (hL : Strs w vL L) (hn : L.length ≤ 1000000) :
    Calls Try.prog 54 #[.string n, .pointer (some ⟨gl, 0, none⟩)] w (SetOut (numS L n) (numB L L.length n) w) := by
  have hW : Kp w (w.alloc (.cells #[.int .u64 0, .int .u64 0, .int .u64 0, .int .u64 0] 35)) := (Below.refl _ _).alloc (Nat.le_refl _) _
  have hE : Blk (w.alloc (.cells #[.int .u64 0, .int .u64 0, .int .u64 0, .int .u64 0] 35)) gl 27 #[vL] := hE0.alloc _
  have hQ : Quad (w.alloc (.cells #[.int .u64 0, .int .u64 0, .int .u64 0, .int .u64 0] 35)) w.heap.size 0 0 0 0 := Quad.new w 0 0 0 0
  have HIX := Lib.hid (index_c vL L n (w.alloc (.cells #[.int .u64 0, .int .u64 0, .int .u64 0, .int .u64 0] 35)) (hL.keep hW) (by omega))
  have hkl := idxI_lo L n
  have hB : numB L L.length n = decide (0 ≤ idxI L n) := by
    unfold numB
    rw [Bool.eq_iff_iff]
    simp only [decide_eq_true_eq]
    omega
  unfold numS
  rw [hB]
  clear hB
  obtain ⟨K, hK⟩ : ∃ K, idxI L n = K := ⟨_, rfl⟩
  rw [hK] at HIX hkl
  rw [hK]
  clear hK
  have hk0 : -1 ≤ K := by omega
  have hk1 : K ≤ 1000000 := by omega
  clear hkl hE0 hL
  have HW := Lib.hid hW
  have HQ := Lib.hid hQ
  have y0 := hE.cell 0
  clear hQ hW hE
  have hOf := fun W => of_c (some ⟨(W : World).heap.size, 0, none⟩) [K] 1 (W.alloc (.cells #[.int .i64 K] 3)) (by
    have := Blk.new W 3 #[.int .i64 K]
    intro i hi
    obtain rfl : i = 0 := by simpa using hi
    exact ⟨W.heap.size, 0, rfl, this.cell 0, this.lt⟩) (by unfold maxLen; simp)
  have hOf1 := hOf (w.alloc (.cells #[.int .u64 0, .int .u64 0, .int .u64 0, .int .u64 0] 35))
  have hs1 : (w.alloc (.cells #[.int .u64 0, .int .u64 0, .int .u64 0, .int .u64 0] 35)).heap.size = w.heap.size + 1 := by simp
  rw [hs1] at hOf1
  have HOF := Lib.hid hOf1
  clear hOf hOf1 hs1
  have hd : decide (0 ≤ K) = true ∨ decide (0 ≤ K) = false := by cases decide (0 ≤ K) <;> simp
  simp only [List.getElem?_toArray, List.getElem?_cons_zero] at y0
  go_enter Try.func54, Try.ntmps54
  go_wp2_with fail
  refine HIX.out.mono ?_
  rintro e w2 ⟨rfl, rfl⟩
  go_wp2_with fail
  refine HOF.out.mono ?_
  rintro e w3 ⟨rfl, hb3⟩
  have hQ3 := (HQ.out.alloc (.cells #[.int .i64 K] 3)).keep hb3
  have HB := Lib.hid (Kp.step (HW.out.alloc (.cells #[.int .i64 K] 3)) hb3)
  obtain ⟨c0, c1, c2, c3, f0, f1, f2, f3⟩ := hQ3.facts
  have HQ3 := Lib.hid hQ3
  clear hb3 hQ3 y0
  go_wp2_with fail
  obtain ⟨r0, r1, r2, r3⟩ := quad_box (HQ3.out.set4 (ofI [K] 0) (ofI [K] 1) (ofI [K] 2) (ofI [K] 3))
  exact bodyPost_ret (v := .tuple #[.agg #[.int .u64 (ofI [K] 0), .int .u64 (ofI [K] 1), .int .u64 (ofI [K] 2), .int .u64 (ofI [K] 3)], .bool (decide (0 ≤ K))]) (by simp [results, Try.results54, go_sem, r0, r1, r2, r3]) rfl ⟨rfl, below_set4 HB.out (Nat.le_refl _) _ _ _ _⟩
set_option maxRecDepth 100000 in
set_option maxHeartbeats 8000000 in
theorem listed_c (al no sf : Bool) (vN vE vL : Value) (N E L : List ByteArray) (w : World) (hN : Strs w vN N) (hE : Strs w vE E) (hL : Strs w vL L) (hn : N.length ≤ 1000000) (hn2 : E.length ≤ 1000000) (hn3 : L.length ≤ 1000000) :
    Calls Try.prog 42 #[.agg #[.bool al, .bool no, .bool sf, vN, vE], vL] w (SetOut (meanS al no L.length (numS L) (numB L L.length) N E) (meanB (numB L L.length) N E) w) := by
  have hW : Kp w (((w.alloc (.cells #[.bool al, .bool no, .bool sf, vN, vE] 29)).alloc (.cells #[vL] 27)).alloc (.cells #[.int .u64 0, .int .u64 0, .int .u64 0, .int .u64 0] 35)) := (((Below.refl _ _).alloc (Nat.le_refl _) _).alloc (by simp) _).alloc (by simp; omega) _
  have hNS : Blk (((w.alloc (.cells #[.bool al, .bool no, .bool sf, vN, vE] 29)).alloc (.cells #[vL] 27)).alloc (.cells #[.int .u64 0, .int .u64 0, .int .u64 0, .int .u64 0] 35)) w.heap.size 29 #[.bool al, .bool no, .bool sf, vN, vE] := ((Blk.new w _ _).alloc _).alloc _
  have s1 : (w.alloc (.cells #[.bool al, .bool no, .bool sf, vN, vE] 29)).heap.size = w.heap.size + 1 := by simp
  have s2 : ((w.alloc (.cells #[.bool al, .bool no, .bool sf, vN, vE] 29)).alloc (.cells #[vL] 27)).heap.size = w.heap.size + 1 + 1 := by simp
  have hEN : Blk (((w.alloc (.cells #[.bool al, .bool no, .bool sf, vN, vE] 29)).alloc (.cells #[vL] 27)).alloc (.cells #[.int .u64 0, .int .u64 0, .int .u64 0, .int .u64 0] 35)) (w.heap.size + 1) 27 #[vL] := by
    rw [← s1]; exact (Blk.new (w.alloc (.cells #[.bool al, .bool no, .bool sf, vN, vE] 29)) _ _).alloc _
  have hQ4 : Quad (((w.alloc (.cells #[.bool al, .bool no, .bool sf, vN, vE] 29)).alloc (.cells #[vL] 27)).alloc (.cells #[.int .u64 0, .int .u64 0, .int .u64 0, .int .u64 0] 35)) (w.heap.size + 1 + 1) 0 0 0 0 := by
    rw [← s2]; exact Quad.new ((w.alloc (.cells #[.bool al, .bool no, .bool sf, vN, vE] 29)).alloc (.cells #[vL] 27)) 0 0 0 0
  clear s1 s2
  have HM := Lib.hid (meaning_l (w.heap.size + 1) (numS L) (numB L L.length) al no sf vN vE N E L.length (((w.alloc (.cells #[.bool al, .bool no, .bool sf, vN, vE] 29)).alloc (.cells #[vL] 27)).alloc (.cells #[.int .u64 0, .int .u64 0, .int .u64 0, .int .u64 0] 35)) (hN.keep hW) (hE.keep hW) hn hn2 (by omega) (by omega) (fun n W' h => find_l (w.heap.size + 1) vL L n W' (h.blk hEN) (hL.keep (Below.trans hW (Below.mono h hW.size))) hn3))
  obtain ⟨S, hS⟩ : ∃ S, meanS al no L.length (numS L) (numB L L.length) N E = S := ⟨_, rfl⟩
  obtain ⟨B, hB⟩ : ∃ B, meanB (numB L L.length) N E = B := ⟨_, rfl⟩
  rw [hS, hB] at HM ⊢
  clear hS hB
  obtain ⟨ao, cap, rfl, -⟩ := hL
  obtain ⟨y0, y1, y2, y3, y4⟩ := hNS.five
  have e0 := hEN.cell 0
  simp only [List.getElem?_toArray, List.getElem?_cons_zero] at e0
  have HQ4 := Lib.hid hQ4
  have HW := Lib.hid hW
  clear hQ4 hW hNS hEN hN hE
  go_enter Try.func42, Try.ntmps42
  go_wp2_with fail
  refine HM.out.mono ?_
  rintro e w2 ⟨rfl, hb2⟩
  have hQ := HQ4.out.keep hb2
  have HB := Lib.hid (Kp.step HW.out hb2)
  obtain ⟨c0, c1, c2, c3, f0, f1, f2, f3⟩ := hQ.facts
  have HQ := Lib.hid hQ
  clear hb2 hQ y0 y1 y2 y3 y4 e0
  go_wp2_with fail
  obtain ⟨r0, r1, r2, r3⟩ := quad_box (HQ.out.set4 (S).a (S).b (S).c (S).d)
  exact bodyPost_ret (v := .tuple #[.agg #[.int .u64 (S).a, .int .u64 (S).b, .int .u64 (S).c, .int .u64 (S).d], .bool B]) (by simp [results, Try.results42, go_sem, r0, r1, r2, r3]) rfl ⟨rfl, below_set4 HB.out (by omega) _ _ _ _⟩
end Go.Proofs.Ytbkejoheefnmiaa
