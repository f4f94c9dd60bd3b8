/- Permissive of any policy, on both sides; has. -/
import Derived.Test.YtbcbhgclgakljaaGdh
namespace Go.Proofs.Ytbcbhgclgakljaa
open Go.RowKit Go.Maps
def toTy (x : Tz) : Ty := ⟨x.n, x.pm⟩
/-- the numbers of the marked types below i -/
def prz (T : List Tz) (i : Nat) : List Int := prm (T.map toTy) i
theorem prz_step {T : List Tz} {i : Nat} {x : Tz} (hx : T[i]? = some x) : prz T (i + 1) = if x.pm then prz T i ++ [(i : Int)] else prz T i := prm_step (x := toTy x) (by rw [List.getElem?_map, hx]; rfl)
theorem prz_len (T : List Tz) (i : Nat) : (prz T i).length ≤ i := prm_len _ _
theorem RdZ.at {w : World} {g o n c i : Nat} {T : List Tz} {x : Tz} (h : RdZ w (.slice (some ⟨g, o, none⟩) n c) T) (hx : T[i]? = some x) : ∃ a ca, w.cell? ⟨g, o + i * 3, none⟩ = some (.string x.n) ∧ w.cell? ⟨g, o + i * 3 + 1, none⟩ = some (.slice a x.an ca) ∧ w.cell? ⟨g, o + i * 3 + 2, none⟩ = some (.bool x.pm) := by
  obtain ⟨ao, c', e, _, h3⟩ := h
  obtain ⟨g', o', e2, _, h6⟩ := h3 (by rintro rfl; simp at hx)
  simp only [Value.slice.injEq] at e
  obtain ⟨e1, _, _⟩ := e
  rw [e2] at e1
  simp only [Option.some.injEq, Addr.mk.injEq] at e1
  obtain ⟨rfl, rfl, _⟩ := e1
  obtain ⟨k0, ⟨va, k1, a, ca, rfl⟩, k2⟩ := h6 i x hx
  exact ⟨a, ca, k0, k1, k2⟩
theorem RdZ.some {w : World} {ao : Option Addr} {n c : Nat} {T : List Tz} (h : RdZ w (.slice ao n c) T) (hn : T ≠ []) : ∃ g o, ao = Option.some ⟨g, o, none⟩ := by
  obtain ⟨ao', c', e, _, h3⟩ := h
  obtain ⟨g', o', e2, _, _⟩ := h3 hn
  simp only [Value.slice.injEq] at e
  exact ⟨g', o', e.1.trans e2⟩
theorem RdZ.cap {w : World} {ao : Option Addr} {n c : Nat} {T : List Tz} (h : RdZ w (.slice ao n c) T) : n = T.length ∧ n ≤ c := by
  obtain ⟨ao', c', e, h2, h3⟩ := h
  simp only [Value.slice.injEq] at e
  obtain ⟨_, rfl, rfl⟩ := e
  exact ⟨rfl, h2⟩
set_option maxRecDepth 100000 in
set_option maxHeartbeats 8000000 in
theorem rhas_c {w : World} (ao : Option Addr) (m cl : Nat) (L : List Int) (j : Nat) (hi : Rows' RIn w (.slice ao m cl) L) (hm : m = L.length) (hml : m ≤ 1000) :
    Calls Try.prog 44 #[.slice ao m cl, .int .i64 j] w fun e w' => e = .returned (.bool (inL L j)) ∧ Below w.heap.size w w' := by
  have HI := Lib.hid hi
  have HM := Lib.hid hm
  have hmI : (m : Int) ≤ (cl : Int) := by
    obtain ⟨_, _, e, hc, _⟩ := hi.form
    simp only [Value.slice.injEq] at e
    rw [hm, e.2.2]; omega
  clear hi hm
  go_enter Try.func44, Try.ntmps44
  go_wp2_with fail
  go_loopw [5] (fun vi wr => ∃ i : Nat, i ≤ m ∧ vi = .int .i64 i ∧ Hid (∀ k : Nat, k < i → L[k]? ≠ some (j : Int)) ∧ wr = w) (fun vi _ => m - (intOf vi).toNat)
  case atStart => exact ⟨0, Nat.zero_le _, rfl, Lib.hid (fun k hk => absurd hk (Nat.not_lt_zero _)), rfl⟩
  case round =>
    obtain ⟨i, hi, rfl, HK, rfl⟩ := hrel
    by_cases hlt : i < m
    · have hltI : (i : Int) < (m : Int) := by omega
      have hltC : (i : Int) < (cl : Int) := by omega
      have hx : L[i]? = some (L[i]'(by rw [← HM.out]; exact hlt)) := List.getElem?_eq_getElem _
      generalize L[i]'(by rw [← HM.out]; exact hlt) = x at hx
      obtain ⟨gl, ol, cl', e2, _⟩ := HI.out.some (by rintro rfl; simp at hx)
      simp only [Value.slice.injEq] at e2
      obtain ⟨rfl, _, rfl⟩ := e2
      have d0 := HI.out.at1 rfl hx
      have HX := Lib.hid hx
      clear hx
      by_cases hxj : x = (j : Int)
      · subst hxj
        go_wp2_with fail
        go_ret
        refine ⟨?_, Below.refl _ _⟩
        have : (j : Int) ∈ L := List.mem_of_getElem? HX.out
        simp [inL, this]
      · have hne : (x == (j : Int)) = false := by simp [hxj]
        go_wp2_with fail
        refine ⟨⟨i + 1, by omega, by go_num, Lib.hid (fun k hk => ?_), by first | trivial | exact rfl⟩, by simp [intOf]; omega⟩
        by_cases e : k = i
        · subst e
          rw [HX.out]
          simpa using hxj
        · exact HK.out k (by omega)
    · obtain rfl : i = m := by omega
      go_wp2_with fail
      go_ret
      refine ⟨?_, Below.refl _ _⟩
      have : ¬ (j : Int) ∈ L := by
        intro hin
        obtain ⟨k, hk, e⟩ := List.getElem_of_mem hin
        exact HK.out k (by rw [HM.out]; exact hk) (by rw [List.getElem?_eq_getElem hk, e])
      simp [inL, this]
set_option maxRecDepth 100000 in
set_option maxHeartbeats 16000000 in
theorem permG {w : World} (T : List Tz) (a0 a1 a2 a3 a4 a5 a6 a7 a8 a9 a10 a11 a12 a13 a14 a15 a16 : Option Addr) (n n0 n2 n3 n4 n5 n6 n7 n8 n9 n10 n11 n12 n13 n14 n15 n16 c0 c1 c2 c3 c4 c5 c6 c7 c8 c9 c10 c11 c12 c13 c14 c15 c16 : Nat) (h : RdZ w (.slice a1 n c1) T) (hl : n ≤ 1000) :
    Calls Try.prog 21 #[.agg #[.slice a0 n0 c0, .slice a1 n c1, .slice a2 n2 c2, .slice a3 n3 c3, .slice a4 n4 c4, .slice a5 n5 c5, .slice a6 n6 c6, .slice a7 n7 c7, .slice a8 n8 c8, .slice a9 n9 c9, .slice a10 n10 c10, .slice a11 n11 c11, .slice a12 n12 c12, .slice a13 n13 c13, .slice a14 n14 c14, .slice a15 n15 c15, .slice a16 n16 c16]] w fun e w' => ∃ v', e = .returned v' ∧ Own RIn w' w.heap.size v' (prz T n) ∧ Below w.heap.size w w' := by
  have HB : Hid (Below w.heap.size w (w.alloc (.cells #[.slice a0 n0 c0, .slice a1 n c1, .slice a2 n2 c2, .slice a3 n3 c3, .slice a4 n4 c4, .slice a5 n5 c5, .slice a6 n6 c6, .slice a7 n7 c7, .slice a8 n8 c8, .slice a9 n9 c9, .slice a10 n10 c10, .slice a11 n11 c11, .slice a12 n12 c12, .slice a13 n13 c13, .slice a14 n14 c14, .slice a15 n15 c15, .slice a16 n16 c16] 62))) := Lib.hid ((Below.refl _ _).alloc (Nat.le_refl _) _)
  have HP : Hid (Blk (w.alloc (.cells #[.slice a0 n0 c0, .slice a1 n c1, .slice a2 n2 c2, .slice a3 n3 c3, .slice a4 n4 c4, .slice a5 n5 c5, .slice a6 n6 c6, .slice a7 n7 c7, .slice a8 n8 c8, .slice a9 n9 c9, .slice a10 n10 c10, .slice a11 n11 c11, .slice a12 n12 c12, .slice a13 n13 c13, .slice a14 n14 c14, .slice a15 n15 c15, .slice a16 n16 c16] 62)) w.heap.size 62 #[.slice a0 n0 c0, .slice a1 n c1, .slice a2 n2 c2, .slice a3 n3 c3, .slice a4 n4 c4, .slice a5 n5 c5, .slice a6 n6 c6, .slice a7 n7 c7, .slice a8 n8 c8, .slice a9 n9 c9, .slice a10 n10 c10, .slice a11 n11 c11, .slice a12 n12 c12, .slice a13 n13 c13, .slice a14 n14 c14, .slice a15 n15 c15, .slice a16 n16 c16]) := Lib.hid (Blk.here rfl)
  have HR := Lib.hid (h.below HB.out)
  have HN := Lib.hid h.cap.1
  have hcI : (n : Int) ≤ (c1 : Int) := by have := h.cap.2; omega
  clear h
  go_enter Try.func21, Try.ntmps21
  go_upto_region 1 with fail
  generalize w.alloc (.cells #[.slice a0 n0 c0, .slice a1 n c1, .slice a2 n2 c2, .slice a3 n3 c3, .slice a4 n4 c4, .slice a5 n5 c5, .slice a6 n6 c6, .slice a7 n7 c7, .slice a8 n8 c8, .slice a9 n9 c9, .slice a10 n10 c10, .slice a11 n11 c11, .slice a12 n12 c12, .slice a13 n13 c13, .slice a14 n14 c14, .slice a15 n15 c15, .slice a16 n16 c16] 62) = w0 at *
  generalize hgx : w.heap.size = g1 at *
  have c1x := HP.out.cell 1
  simp only [List.getElem?_toArray, List.getElem?_cons_zero, List.getElem?_cons_succ] at c1x
  go_wp2_with fail
  clear c1x
  go_loopw [9, 3] (fun vi vl wr => ∃ (i : Nat) (al : Option Addr) (ln cl : Nat), i ≤ n ∧ vi = .int .i64 i ∧ vl = .slice al ln cl ∧ Hid (Own RIn wr w0.heap.size (.slice al ln cl) (prz T i)) ∧ Hid (Below w0.heap.size w0 wr)) (fun vi _ _ => n - (intOf vi).toNat)
  case atStart => exact ⟨0, none, 0, 0, Nat.zero_le _, rfl, rfl, Lib.hid (Own.nil _ _), Lib.hid (Below.refl _ _)⟩
  case round =>
    obtain ⟨i, al, ln, cl, hi, rfl, rfl, HO, HW⟩ := hrel
    by_cases hlt : i < n
    · have hltI : (i : Int) < (n : Int) := by omega
      have hx : T[i]? = some (T[i]'(by rw [← HN.out]; exact hlt)) := List.getElem?_eq_getElem _
      generalize T[i]'(by rw [← HN.out]; exact hlt) = x at hx
      obtain ⟨g, o, rfl⟩ := HR.out.some (by rintro rfl; simp at hx)
      obtain ⟨xa, xc, y0, y1, y2⟩ := (HR.out.below HW.out).at hx
      have HST := Lib.hid (prz_step hx)
      have hlen : ln = (prz T i).length := by obtain ⟨_, _, e⟩ := HO.out.isSl; simp only [Value.slice.injEq] at e; exact e.2.1
      have HLN := Lib.hid hlen
      have HPL := Lib.hid (prz_len T i)
      clear hx hlen
      go_upto_region 5 with fail
      clear y0 y1 y2
      have hba : Below wr.heap.size wr (wr.alloc (.cells #[.string x.n, .slice xa x.an xc, .bool x.pm] 99)) := (Below.refl _ _).alloc (Nat.le_refl _) _
      have HX := Lib.hid (Blk.new wr 99 #[.string x.n, .slice xa x.an xc, .bool x.pm])
      have HO2 := Lib.hid (HO.out.below hba)
      have HW2 : Hid (Below w0.heap.size w0 (wr.alloc (.cells #[.string x.n, .slice xa x.an xc, .bool x.pm] 99))) := Lib.hid (HW.out.trans (hba.mono HW.out.size))
      clear hba
      generalize wr.alloc (.cells #[.string x.n, .slice xa x.an xc, .bool x.pm] 99) = w2 at *
      generalize wr.heap.size = g5 at *
      have y2 := HX.out.cell 2
      simp only [List.getElem?_toArray, List.getElem?_cons_zero, List.getElem?_cons_succ] at y2
      cases hp : x.pm
      · rw [hp] at y2 HST
        go_wp2_with fail
        refine ⟨⟨i + 1, al, ln, cl, by omega, by go_num, rfl, Lib.hid ?_, HW2⟩, by simp [intOf]; omega⟩
        rw [HST.out]
        exact HO2.out
      · rw [hp] at y2 HST
        have HBS : Hid (Below w2.heap.size w2 (w2.alloc (.cells #[.int .i64 i] 3))) := Lib.hid ((Below.refl _ _).alloc (Nat.le_refl _) _)
        have HO3 := Lib.hid (HO2.out.below HBS.out)
        have HY : Hid ((w2.alloc (.cells #[.int .i64 i] 3)).heap[w2.heap.size]? = some (.cells (RIn.c (i : Int)).toArray RIn.te (0, 0))) := Lib.hid (Blk.new w2 3 #[.int .i64 i])
        have HG1 : Hid (w0.heap.size ≤ w2.heap.size) := Lib.hid HW2.out.size
        have HLL : Hid (ln ≤ 1000000) := Lib.hid (by rw [HLN.out]; have := HPL.out; omega)
        go_wp2_with (at_builtin; refine wpList_append_one RIn rfl _ _ rfl w0.heap.size (.slice al ln cl) (prz T i) ln HLN.out.symm rfl HO3.out w2.heap.size (i : Int) rfl HY.out HLL.out (Nat.le_trans HG1.out HBS.out.size) ?_; intro ga ca w3 h1 h2 h3; have H1 := Lib.hid h1; have H2 := Lib.hid h2; clear h1 h2 h3)
        refine ⟨⟨i + 1, some ⟨ga, 0, none⟩, ln + 1, ca, by omega, by go_num, rfl, Lib.hid ?_, Lib.hid ?_⟩, by simp [intOf]; omega⟩
        · rw [HST.out]
          exact H1.out
        · exact (HW2.out.trans (HBS.out.mono HW2.out.size)).grown H2.out (Nat.le_trans HG1.out HBS.out.size) (fun k hk => (HO3.out.lt k hk).1)
    · obtain rfl : i = n := by omega
      go_wp2_with fail
      go_ret
      refine ⟨_, rfl, HO.out.base (by rw [hgx]; exact Nat.le_of_lt HP.out.lt), by rw [hgx]; exact HB.out.trans (HW.out.mono (Nat.le_of_lt HP.out.lt))⟩
set_option maxRecDepth 100000 in
set_option maxHeartbeats 16000000 in
theorem rpermG {w : World} (T : List Tz) (a0 a1 a2 a3 a4 a5 a6 a7 a8 a9 a10 a11 a12 a13 a14 a15 a16 : Option Addr) (n n0 n2 n3 n4 n5 n6 n7 n8 n9 n10 n11 n12 n13 n14 n15 n16 c0 c1 c2 c3 c4 c5 c6 c7 c8 c9 c10 c11 c12 c13 c14 c15 c16 : Nat) (h : RdZ w (.slice a1 n c1) T) (hl : n ≤ 1000) :
    Calls Try.prog 23 #[.agg #[.slice a0 n0 c0, .slice a1 n c1, .slice a2 n2 c2, .slice a3 n3 c3, .slice a4 n4 c4, .slice a5 n5 c5, .slice a6 n6 c6, .slice a7 n7 c7, .slice a8 n8 c8, .slice a9 n9 c9, .slice a10 n10 c10, .slice a11 n11 c11, .slice a12 n12 c12, .slice a13 n13 c13, .slice a14 n14 c14, .slice a15 n15 c15, .slice a16 n16 c16]] w fun e w' => ∃ v', e = .returned v' ∧ Own RIn w' w.heap.size v' (prz T n) ∧ Below w.heap.size w w' := by
  have HB : Hid (Below w.heap.size w (w.alloc (.cells #[.slice a0 n0 c0, .slice a1 n c1, .slice a2 n2 c2, .slice a3 n3 c3, .slice a4 n4 c4, .slice a5 n5 c5, .slice a6 n6 c6, .slice a7 n7 c7, .slice a8 n8 c8, .slice a9 n9 c9, .slice a10 n10 c10, .slice a11 n11 c11, .slice a12 n12 c12, .slice a13 n13 c13, .slice a14 n14 c14, .slice a15 n15 c15, .slice a16 n16 c16] 62))) := Lib.hid ((Below.refl _ _).alloc (Nat.le_refl _) _)
  have HP : Hid (Blk (w.alloc (.cells #[.slice a0 n0 c0, .slice a1 n c1, .slice a2 n2 c2, .slice a3 n3 c3, .slice a4 n4 c4, .slice a5 n5 c5, .slice a6 n6 c6, .slice a7 n7 c7, .slice a8 n8 c8, .slice a9 n9 c9, .slice a10 n10 c10, .slice a11 n11 c11, .slice a12 n12 c12, .slice a13 n13 c13, .slice a14 n14 c14, .slice a15 n15 c15, .slice a16 n16 c16] 62)) w.heap.size 62 #[.slice a0 n0 c0, .slice a1 n c1, .slice a2 n2 c2, .slice a3 n3 c3, .slice a4 n4 c4, .slice a5 n5 c5, .slice a6 n6 c6, .slice a7 n7 c7, .slice a8 n8 c8, .slice a9 n9 c9, .slice a10 n10 c10, .slice a11 n11 c11, .slice a12 n12 c12, .slice a13 n13 c13, .slice a14 n14 c14, .slice a15 n15 c15, .slice a16 n16 c16]) := Lib.hid (Blk.here rfl)
  have HR := Lib.hid (h.below HB.out)
  have HN := Lib.hid h.cap.1
  have hcI : (n : Int) ≤ (c1 : Int) := by have := h.cap.2; omega
  clear h
  go_enter Try.func23, Try.ntmps23
  go_upto_region 1 with fail
  generalize w.alloc (.cells #[.slice a0 n0 c0, .slice a1 n c1, .slice a2 n2 c2, .slice a3 n3 c3, .slice a4 n4 c4, .slice a5 n5 c5, .slice a6 n6 c6, .slice a7 n7 c7, .slice a8 n8 c8, .slice a9 n9 c9, .slice a10 n10 c10, .slice a11 n11 c11, .slice a12 n12 c12, .slice a13 n13 c13, .slice a14 n14 c14, .slice a15 n15 c15, .slice a16 n16 c16] 62) = w0 at *
  generalize hgx : w.heap.size = g1 at *
  have c1x := HP.out.cell 1
  simp only [List.getElem?_toArray, List.getElem?_cons_zero, List.getElem?_cons_succ] at c1x
  go_wp2_with fail
  clear c1x
  go_loopw [4, 3] (fun vi vl wr => ∃ (i : Nat) (al : Option Addr) (ln cl : Nat), i ≤ n ∧ vi = .int .i64 i ∧ vl = .slice al ln cl ∧ Hid (Own RIn wr w0.heap.size (.slice al ln cl) (prz T i)) ∧ Hid (Below w0.heap.size w0 wr)) (fun vi _ _ => n - (intOf vi).toNat)
  case atStart => exact ⟨0, none, 0, 0, Nat.zero_le _, rfl, rfl, Lib.hid (Own.nil _ _), Lib.hid (Below.refl _ _)⟩
  case round =>
    obtain ⟨i, al, ln, cl, hi, rfl, rfl, HO, HW⟩ := hrel
    have c1y := (HP.out.keep HW.out).cell 1
    simp only [List.getElem?_toArray, List.getElem?_cons_zero, List.getElem?_cons_succ] at c1y
    by_cases hlt : i < n
    · have hltI : (i : Int) < (n : Int) := by omega
      have hx : T[i]? = some (T[i]'(by rw [← HN.out]; exact hlt)) := List.getElem?_eq_getElem _
      generalize T[i]'(by rw [← HN.out]; exact hlt) = x at hx
      obtain ⟨g, o, rfl⟩ := HR.out.some (by rintro rfl; simp at hx)
      obtain ⟨xa, xc, y0, y1, y2⟩ := (HR.out.below HW.out).at hx
      have HST := Lib.hid (prz_step hx)
      have hlen : ln = (prz T i).length := by obtain ⟨_, _, e⟩ := HO.out.isSl; simp only [Value.slice.injEq] at e; exact e.2.1
      have HLN := Lib.hid hlen
      have HPL := Lib.hid (prz_len T i)
      have HO2 := Lib.hid HO.out
      have HW2 := Lib.hid HW.out
      clear hx hlen y0 y1
      generalize hwr : wr = w2 at *
      cases hp : x.pm
      · rw [hp] at y2 HST
        go_wp2_with fail
        refine ⟨⟨i + 1, al, ln, cl, by omega, by go_num, rfl, Lib.hid ?_, HW2⟩, by simp [intOf]; omega⟩
        rw [HST.out]
        exact HO2.out
      · rw [hp] at y2 HST
        have HBS : Hid (Below w2.heap.size w2 (w2.alloc (.cells #[.int .i64 i] 3))) := Lib.hid ((Below.refl _ _).alloc (Nat.le_refl _) _)
        have HO3 := Lib.hid (HO2.out.below HBS.out)
        have HY : Hid ((w2.alloc (.cells #[.int .i64 i] 3)).heap[w2.heap.size]? = some (.cells (RIn.c (i : Int)).toArray RIn.te (0, 0))) := Lib.hid (Blk.new w2 3 #[.int .i64 i])
        have HG1 : Hid (w0.heap.size ≤ w2.heap.size) := Lib.hid HW2.out.size
        have HLL : Hid (ln ≤ 1000000) := Lib.hid (by rw [HLN.out]; have := HPL.out; omega)
        go_wp2_with (at_builtin; refine wpList_append_one RIn rfl _ _ rfl w0.heap.size (.slice al ln cl) (prz T i) ln HLN.out.symm rfl HO3.out w2.heap.size (i : Int) rfl HY.out HLL.out (Nat.le_trans HG1.out HBS.out.size) ?_; intro ga ca w3 h1 h2 h3; have H1 := Lib.hid h1; have H2 := Lib.hid h2; clear h1 h2 h3)
        refine ⟨⟨i + 1, some ⟨ga, 0, none⟩, ln + 1, ca, by omega, by go_num, rfl, Lib.hid ?_, Lib.hid ?_⟩, by simp [intOf]; omega⟩
        · rw [HST.out]
          exact H1.out
        · exact (HW2.out.trans (HBS.out.mono HW2.out.size)).grown H2.out (Nat.le_trans HG1.out HBS.out.size) (fun k hk => (HO3.out.lt k hk).1)
    · obtain rfl : i = n := by omega
      go_wp2_with fail
      go_ret
      refine ⟨_, rfl, HO.out.base (by rw [hgx]; exact Nat.le_of_lt HP.out.lt), by rw [hgx]; exact HB.out.trans (HW.out.mono (Nat.le_of_lt HP.out.lt))⟩
end Go.Proofs.Ytbcbhgclgakljaa
