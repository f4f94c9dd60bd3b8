/- The reference of a cache: its state, its small functions, the place of a key. -/
import Derived.Test.YtbcbhgclgakljaaKcx
namespace Go.Proofs.Ytbcbhgclgakljaa
open Go.RowKit Go.Maps Go.WideElems Go.WideShapes
def stC (s : CS) (vk vd : Value) : Array Value := #[.int .i64 s.size, .int .i64 s.seq, vk, vd, .int .i64 s.hits, .int .i64 s.misses, .int .i64 s.evicted, .int .i64 s.resets]
/-- a state's two lists in memory -/
structure SR (w : World) (s : CS) (vk vd : Value) : Prop where
  k : Rows' RK w vk (keysK s.L)
  d : Rows' RD w vd (s.L.map (·.2))
  fk : vk = .slice none 0 0 ∨ ∃ g c, vk = .slice (some ⟨g, 0, none⟩) s.L.length c
  fd : vd = .slice none 0 0 ∨ ∃ g c, vd = .slice (some ⟨g, 0, none⟩) s.L.length c
def ixK (L : List En) (k : K3) : Nat := L.findIdx (fun p => decide (p.1 = k))
def idxK (L : List En) (k : K3) : Int := if ixK L k < L.length then (ixK L k : Int) else -1
section
variable {w w' : World} {s : CS} {vk vd : Value}
theorem SR.below (h : SR w s vk vd) (hb : Below w.heap.size w w') : SR w' s vk vd := ⟨h.k.below hb, h.d.below hb, h.fk, h.fd⟩
theorem SR.len (h : SR w s vk vd) : ∃ ao cap, vk = .slice ao s.L.length cap := by
  obtain ⟨ao, cap, e, _⟩ := h.k.form
  exact ⟨ao, cap, by rw [e]; unfold keysK; rw [List.length_map]⟩
theorem Blk.st {g : Nat} {t : TypeId} {a0 a1 a2 a3 a4 a5 a6 a7 : Value} (h : Blk w g t #[a0, a1, a2, a3, a4, a5, a6, a7]) :
    w.cell? ⟨g, 0, none⟩ = some a0 ∧ w.cell? ⟨g, 1, none⟩ = some a1 ∧ w.cell? ⟨g, 2, none⟩ = some a2 ∧ w.cell? ⟨g, 3, none⟩ = some a3 ∧ w.cell? ⟨g, 4, none⟩ = some a4 ∧ w.cell? ⟨g, 5, none⟩ = some a5 ∧ w.cell? ⟨g, 6, none⟩ = some a6 ∧ w.cell? ⟨g, 7, none⟩ = some a7 :=
  ⟨h.cell 0, h.cell 1, h.cell 2, h.cell 3, h.cell 4, h.cell 5, h.cell 6, h.cell 7⟩
set_option maxRecDepth 100000 in
set_option maxHeartbeats 8000000 in
theorem rseq_c (s : CS) (vk vd : Value) (w : World) : Calls Try.prog 42 #[.agg #[.int .i64 s.size, .int .i64 s.seq, vk, vd, .int .i64 s.hits, .int .i64 s.misses, .int .i64 s.evicted, .int .i64 s.resets]] w fun e w' => e = .returned (.int .i64 s.seq) ∧ Below w.heap.size w w' := by
  have HB : Hid (Below w.heap.size w (w.alloc (.cells #[.int .i64 s.size, .int .i64 s.seq, vk, vd, .int .i64 s.hits, .int .i64 s.misses, .int .i64 s.evicted, .int .i64 s.resets] 29))) := Lib.hid ((Below.refl _ _).alloc (Nat.le_refl _) _)
  go_enter Try.func42, Try.ntmps42
  go_wp2_with fail
  go_ret
  exact ⟨rfl, HB.out⟩
set_option maxRecDepth 100000 in
set_option maxHeartbeats 8000000 in
theorem rlen_c (s : CS) (ao : Option Addr) (cap : Nat) (vd : Value) (w : World) : Calls Try.prog 41 #[.agg #[.int .i64 s.size, .int .i64 s.seq, .slice ao s.L.length cap, vd, .int .i64 s.hits, .int .i64 s.misses, .int .i64 s.evicted, .int .i64 s.resets]] w fun e w' => e = .returned (.int .i64 s.L.length) ∧ Below w.heap.size w w' := by
  have HB : Hid (Below w.heap.size w (w.alloc (.cells #[.int .i64 s.size, .int .i64 s.seq, .slice ao s.L.length cap, vd, .int .i64 s.hits, .int .i64 s.misses, .int .i64 s.evicted, .int .i64 s.resets] 29))) := Lib.hid ((Below.refl _ _).alloc (Nat.le_refl _) _)
  generalize s.L.length = n at *
  go_enter Try.func41, Try.ntmps41
  go_wp2_with fail
  go_ret
  exact ⟨rfl, HB.out⟩
set_option maxRecDepth 100000 in
set_option maxHeartbeats 8000000 in
theorem rstats_c (s : CS) (vk vd : Value) (w : World) : Calls Try.prog 40 #[.agg #[.int .i64 s.size, .int .i64 s.seq, vk, vd, .int .i64 s.hits, .int .i64 s.misses, .int .i64 s.evicted, .int .i64 s.resets]] w fun e w' => e = .returned (.tuple #[.int .i64 s.hits, .int .i64 s.misses, .int .i64 s.evicted, .int .i64 s.resets]) ∧ Below w.heap.size w w' := by
  have HB : Hid (Below w.heap.size w (w.alloc (.cells #[.int .i64 s.size, .int .i64 s.seq, vk, vd, .int .i64 s.hits, .int .i64 s.misses, .int .i64 s.evicted, .int .i64 s.resets] 29))) := Lib.hid ((Below.refl _ _).alloc (Nat.le_refl _) _)
  have HN : Hid (Blk (w.alloc (.cells #[.int .i64 s.size, .int .i64 s.seq, vk, vd, .int .i64 s.hits, .int .i64 s.misses, .int .i64 s.evicted, .int .i64 s.resets] 29)) w.heap.size 29 #[.int .i64 s.size, .int .i64 s.seq, vk, vd, .int .i64 s.hits, .int .i64 s.misses, .int .i64 s.evicted, .int .i64 s.resets]) := Lib.hid (Blk.new _ _ _)
  go_enter Try.func40, Try.ntmps40
  go_upto_region 1 with fail
  generalize w.alloc (.cells #[.int .i64 s.size, .int .i64 s.seq, vk, vd, .int .i64 s.hits, .int .i64 s.misses, .int .i64 s.evicted, .int .i64 s.resets] 29) = W at *
  generalize hgx : w.heap.size = gx at *
  refine wp_region_kp (by kernel_rfl) (by kernel_rfl) ?_
  repeat (first
    | go_big_quiet_skip
    | (go_big_quiet_want
       first
         | (go_big_quiet_op
            first
              | go_big_quiet_on
              | (apply Exists.intro
                 refine ⟨fun w1 hC => ?_, ?_⟩
                 · first
                     | (obtain ⟨c0, c1, c2, c3, c4, c5, c6, c7⟩ := (HN.out.keep hC).cells8; go_simp; exact ⟨rfl, rfl⟩)
                     | (obtain ⟨c0, c1, c2, c3, c4, c5, c6, c7⟩ := (HN.out.keep hC).cells8; go_simp; exact rfl)
                     | exact rfl
                     | (go_simp; exact ⟨rfl, rfl⟩)
                 go_big_quiet_on))))
  refine wpQuiet_nil ?_
  intro W1 hC1
  have HB1 : Hid (Below gx w W1) := Lib.hid (HB.out.trans (Below.mono hC1 (by have := HB.out.size; omega)))
  clear hC1
  go_wp2_with fail
  refine bodyPost_ret (v := .tuple #[.int .i64 s.hits, .int .i64 s.misses, .int .i64 s.evicted, .int .i64 s.resets]) (by simp [results, Try.results40, go_sem]) rfl ?_
  exact ⟨rfl, by rw [hgx]; exact HB1.out⟩
set_option maxRecDepth 100000 in
set_option maxHeartbeats 8000000 in
theorem rfirst_c (k : Int) (w : World) (h1 : 1 ≤ k) (h2 : k ≤ 1024) : Calls Try.prog 11 #[.int .i64 k] w fun e w' => e = .returned (.tuple #[.agg #[.int .i64 k, .int .i64 0, .slice none 0 0, .slice none 0 0, .int .i64 0, .int .i64 0, .int .i64 0, .int .i64 0], .bool true]) ∧ Below w.heap.size w w' := by
  have h3 : ¬ k < 1 := by omega
  have h4 : ¬ 1024 < k := by omega
  go_enter Try.func11, Try.ntmps11
  go_wp2_with fail
  obtain ⟨c0, c1, c2, c3, c4, c5, c6, c7⟩ := (Blk.new w 29 #[.int .i64 k, .int .i64 0, .slice none 0 0, .slice none 0 0, .int .i64 0, .int .i64 0, .int .i64 0, .int .i64 0]).cells8
  have hb : Below w.heap.size w (w.alloc (.cells #[.int .i64 k, .int .i64 0, .slice none 0 0, .slice none 0 0, .int .i64 0, .int .i64 0, .int .i64 0, .int .i64 0] 29)) := (Below.refl _ _).alloc (Nat.le_refl _) _
  generalize w.alloc (.cells #[.int .i64 k, .int .i64 0, .slice none 0 0, .slice none 0 0, .int .i64 0, .int .i64 0, .int .i64 0, .int .i64 0] 29) = W at *
  generalize hgx : w.heap.size = gx at *
  refine bodyPost_ret (v := .tuple #[.agg #[.int .i64 k, .int .i64 0, .slice none 0 0, .slice none 0 0, .int .i64 0, .int .i64 0, .int .i64 0, .int .i64 0], .bool true]) (by simp [results, Try.results11, go_sem, c0, c1, c2, c3, c4, c5, c6, c7]) rfl ?_
  exact ⟨rfl, by first | exact hb | (rw [hgx]; exact hb)⟩
set_option maxRecDepth 100000 in
set_option maxHeartbeats 8000000 in
theorem rfirst_out (k : Int) (w : World) (h : k < 1 ∨ 1024 < k) : Calls Try.prog 11 #[.int .i64 k] w fun e w' => ∃ v, e = .returned (.tuple #[v, .bool false]) ∧ Below w.heap.size w w' := by
  rcases h with h | h
  · go_enter Try.func11, Try.ntmps11
    go_wp2_with fail
    obtain ⟨c0, c1, c2, c3, c4, c5, c6, c7⟩ := (Blk.new w 29 #[.int .i64 0, .int .i64 0, .slice none 0 0, .slice none 0 0, .int .i64 0, .int .i64 0, .int .i64 0, .int .i64 0]).cells8
    have hb : Below w.heap.size w (w.alloc (.cells #[.int .i64 0, .int .i64 0, .slice none 0 0, .slice none 0 0, .int .i64 0, .int .i64 0, .int .i64 0, .int .i64 0] 29)) := (Below.refl _ _).alloc (Nat.le_refl _) _
    generalize w.alloc (.cells #[.int .i64 0, .int .i64 0, .slice none 0 0, .slice none 0 0, .int .i64 0, .int .i64 0, .int .i64 0, .int .i64 0] 29) = W at *
    generalize hgx : w.heap.size = gx at *
    refine bodyPost_ret (v := .tuple #[.agg #[.int .i64 0, .int .i64 0, .slice none 0 0, .slice none 0 0, .int .i64 0, .int .i64 0, .int .i64 0, .int .i64 0], .bool false]) (by simp [results, Try.results11, go_sem, c0, c1, c2, c3, c4, c5, c6, c7]) rfl ?_
    have hb2 : Below w.heap.size w W := by first | exact hb | (rw [hgx]; exact hb)
    first | exact ⟨_, rfl, hb⟩ | exact ⟨_, rfl, hb2⟩ | exact ⟨⟨_, rfl⟩, hb⟩ | exact ⟨⟨_, rfl⟩, hb2⟩
  · have h3 : ¬ k < 1 := by omega
    go_enter Try.func11, Try.ntmps11
    go_wp2_with fail
    obtain ⟨c0, c1, c2, c3, c4, c5, c6, c7⟩ := (Blk.new w 29 #[.int .i64 0, .int .i64 0, .slice none 0 0, .slice none 0 0, .int .i64 0, .int .i64 0, .int .i64 0, .int .i64 0]).cells8
    have hb : Below w.heap.size w (w.alloc (.cells #[.int .i64 0, .int .i64 0, .slice none 0 0, .slice none 0 0, .int .i64 0, .int .i64 0, .int .i64 0, .int .i64 0] 29)) := (Below.refl _ _).alloc (Nat.le_refl _) _
    generalize w.alloc (.cells #[.int .i64 0, .int .i64 0, .slice none 0 0, .slice none 0 0, .int .i64 0, .int .i64 0, .int .i64 0, .int .i64 0] 29) = W at *
    generalize hgx : w.heap.size = gx at *
    refine bodyPost_ret (v := .tuple #[.agg #[.int .i64 0, .int .i64 0, .slice none 0 0, .slice none 0 0, .int .i64 0, .int .i64 0, .int .i64 0, .int .i64 0], .bool false]) (by simp [results, Try.results11, go_sem, c0, c1, c2, c3, c4, c5, c6, c7]) rfl ?_
    have hb2 : Below w.heap.size w W := by first | exact hb | (rw [hgx]; exact hb)
    first | exact ⟨_, rfl, hb⟩ | exact ⟨_, rfl, hb2⟩ | exact ⟨⟨_, rfl⟩, hb⟩ | exact ⟨⟨_, rfl⟩, hb2⟩
theorem ix_bound (L : List En) (k : K3) {i : Nat} (h : ∀ j, j < i → ∀ p, L[j]? = some p → p.1 ≠ k) {p : En} (hp : L[i]? = some p) (e : p.1 = k) : idxK L k = (i : Int) := by
  have hi := (List.getElem?_eq_some_iff.1 hp).1
  have hx : ixK L k = i := by
    unfold ixK
    rw [List.findIdx_eq hi]
    refine ⟨?_, fun j hj => ?_⟩
    · rw [(List.getElem?_eq_some_iff.1 hp).2]; simpa using e
    · have := h j hj (L[j]) (List.getElem?_eq_getElem _)
      simpa using this
  unfold idxK
  rw [hx, if_pos hi]
theorem ix_none (L : List En) (k : K3) (h : ∀ j, j < L.length → ∀ p, L[j]? = some p → p.1 ≠ k) : idxK L k = -1 := by
  unfold idxK
  rw [if_neg]
  unfold ixK
  intro hlt
  have := List.findIdx_getElem (w := hlt)
  have h2 := h _ hlt _ (List.getElem?_eq_getElem hlt)
  simp only [decide_eq_true_eq] at this
  exact h2 this
set_option maxRecDepth 100000 in
set_option maxHeartbeats 8000000 in
theorem rindex_n (s : CS) (ao : Option Addr) (n cap : Nat) (vd : Value) (k : K3) (w : World) (h : SR w s (.slice ao n cap) vd) (hn : s.L.length = n) (hl : n ≤ 100000) : Calls Try.prog 53 #[.agg #[.int .i64 s.size, .int .i64 s.seq, .slice ao n cap, vd, .int .i64 s.hits, .int .i64 s.misses, .int .i64 s.evicted, .int .i64 s.resets], .agg #[.int .i64 k.a, .int .i64 k.b, .int .i64 k.c]] w fun e w' => e = .returned (.int .i64 (idxK s.L k)) ∧ Below w.heap.size w w' := by
  have HB : Hid (Below w.heap.size w ((w.alloc (.cells #[.int .i64 s.size, .int .i64 s.seq, .slice ao n cap, vd, .int .i64 s.hits, .int .i64 s.misses, .int .i64 s.evicted, .int .i64 s.resets] 29)).alloc (.cells #[.int .i64 k.a, .int .i64 k.b, .int .i64 k.c] 84))) := Lib.hid (((Below.refl _ _).alloc (Nat.le_refl _) _).alloc (by simp) _)
  have HN : Hid (Blk ((w.alloc (.cells #[.int .i64 s.size, .int .i64 s.seq, .slice ao n cap, vd, .int .i64 s.hits, .int .i64 s.misses, .int .i64 s.evicted, .int .i64 s.resets] 29)).alloc (.cells #[.int .i64 k.a, .int .i64 k.b, .int .i64 k.c] 84)) w.heap.size 29 #[.int .i64 s.size, .int .i64 s.seq, .slice ao n cap, vd, .int .i64 s.hits, .int .i64 s.misses, .int .i64 s.evicted, .int .i64 s.resets]) := Lib.hid ((Blk.here rfl).alloc _)
  have HV : Hid (Blk ((w.alloc (.cells #[.int .i64 s.size, .int .i64 s.seq, .slice ao n cap, vd, .int .i64 s.hits, .int .i64 s.misses, .int .i64 s.evicted, .int .i64 s.resets] 29)).alloc (.cells #[.int .i64 k.a, .int .i64 k.b, .int .i64 k.c] 84)) (w.heap.size + 1) 84 #[.int .i64 k.a, .int .i64 k.b, .int .i64 k.c]) := Lib.hid (Blk.here (by simp))
  have HR := Lib.hid (h.below HB.out)
  have HNN := Lib.hid hn
  obtain ⟨_, _, e0, hcap, _⟩ := h.k.form
  have hcI : (n : Int) ≤ (cap : Int) := by simp only [Value.slice.injEq] at e0; obtain ⟨_, e2, e3⟩ := e0; omega
  clear h hn e0 hcap
  obtain ⟨res, hres⟩ : ∃ res, idxK s.L k = res := ⟨_, rfl⟩
  have HRES := Lib.hid hres
  rw [hres]
  clear hres
  go_enter Try.func53, Try.ntmps53
  go_upto_region 1 with fail
  generalize ((w.alloc (.cells #[.int .i64 s.size, .int .i64 s.seq, .slice ao n cap, vd, .int .i64 s.hits, .int .i64 s.misses, .int .i64 s.evicted, .int .i64 s.resets] 29)).alloc (.cells #[.int .i64 k.a, .int .i64 k.b, .int .i64 k.c] 84)) = W at *
  generalize w.heap.size + 1 = gk at *
  generalize hgx : w.heap.size = gx at *
  obtain ⟨c0, c1, c2, c3, c4, c5, c6, c7⟩ := HN.out.cells8
  go_wp2_with fail
  clear c0 c1 c2 c3 c4 c5 c6 c7
  go_loopw [5] (fun vi wr => ∃ i : Nat, i ≤ n ∧ vi = .int .i64 i ∧ Hid (∀ j, j < i → ∀ p, s.L[j]? = some p → p.1 ≠ k) ∧ Hid (Below W.heap.size W wr)) (fun vi _ => n - (intOf vi).toNat)
  case atStart => exact ⟨0, Nat.zero_le _, rfl, Lib.hid (fun j hj => by omega), Lib.hid (Below.refl _ _)⟩
  case round =>
    obtain ⟨i, hi, rfl, HI, HW⟩ := hrel
    obtain ⟨c0, c1, c2, c3, c4, c5, c6, c7⟩ := (HN.out.keep HW.out).cells8
    by_cases hlt : i < n
    · have hL : s.L[i]? = some (s.L[i]'(by rw [HNN.out]; exact hlt)) := List.getElem?_eq_getElem _
      generalize s.L[i]'(by rw [HNN.out]; exact hlt) = p at hL
      have hK : (keysK s.L)[i]? = some p.1 := by unfold keysK; rw [List.getElem?_map, hL]; rfl
      obtain ⟨g, o, cap', e1, _⟩ := HR.out.k.some3 (by intro e; rw [e] at hK; simp at hK)
      simp only [Value.slice.injEq] at e1
      obtain ⟨rfl, _, rfl⟩ := e1
      have hltI : (i : Int) < (n : Int) := by omega
      have HX : Hid (∀ u, Kp wr u → (u.cell? ⟨g, o + i * 3, none⟩ = some (.int .i64 p.1.a) ∧ u.cell? ⟨g, o + i * 3 + 1, none⟩ = some (.int .i64 p.1.b) ∧ u.cell? ⟨g, o + i * 3 + 2, none⟩ = some (.int .i64 p.1.c)) ∧ (u.cell? ⟨gk, 0, none⟩ = some (.int .i64 k.a) ∧ u.cell? ⟨gk, 1, none⟩ = some (.int .i64 k.b) ∧ u.cell? ⟨gk, 2, none⟩ = some (.int .i64 k.c)) ∧ u.cell? ⟨gx, 2, none⟩ = some (.slice (some ⟨g, o, none⟩) n cap)) := Lib.hid (fun u hu => by
        have hb := HW.out.trans (Below.mono hu HW.out.size)
        have hv := HV.out.keep hb
        exact ⟨(HR.out.k.below hb).at3 rfl hK, ⟨hv.cell 0, hv.cell 1, hv.cell 2⟩, (HN.out.keep hb).cell 2⟩)
      have HQ : Hid (∀ u, (binOp .eql 84 (.agg #[.int .i64 p.1.a, .int .i64 p.1.b, .int .i64 p.1.c]) (.agg #[.int .i64 k.a, .int .i64 k.b, .int .i64 k.c])).run Try.prog u = .ok (.bool (sameK p.1 k)) u) := Lib.hid (eqlK p.1 k)
      have HL := Lib.hid hL
      clear hL hK
      go_upto_region 4 with fail
      clear c0 c1 c2 c3 c4 c5 c6 c7
      refine wp_region_kp (by kernel_rfl) (by kernel_rfl) ?_
      repeat (first
        | go_big_quiet_skip
        | (go_big_quiet_want
           first
             | (go_big_quiet_op
                first
                  | go_big_quiet_on
                  | (apply Exists.intro
                     refine ⟨fun w1 hC => ?_, ?_⟩
                     · first
                         | (obtain ⟨⟨a0, a1, a2⟩, ⟨b0, b1, b2⟩, b3⟩ := HX.out w1 hC; go_simp; exact ⟨rfl, rfl⟩)
                         | (obtain ⟨⟨a0, a1, a2⟩, ⟨b0, b1, b2⟩, b3⟩ := HX.out w1 hC; go_simp; exact rfl)
                         | (have hq := HQ.out w1; go_simp; exact ⟨rfl, rfl⟩)
                         | exact rfl
                         | (go_simp; exact ⟨rfl, rfl⟩)
                     go_big_quiet_on))))
      refine wpQuiet_nil ?_
      intro W1 hC1
      have HW1 : Hid (Below W.heap.size W W1) := Lib.hid (HW.out.trans (Below.mono hC1 HW.out.size))
      clear hC1
      cases hxy : sameK p.1 k
      · go_wp2_with fail
        refine ⟨⟨i + 1, by omega, by go_num, Lib.hid (fun j hj q hq => ?_), HW1⟩, by simp [intOf]; omega⟩
        by_cases e : j = i
        · subst e
          rw [HL.out] at hq
          simp only [Option.some.injEq] at hq
          subst hq
          simpa [sameK] using hxy
        · exact HI.out j (by omega) q hq
      · have hr := ix_bound s.L k HI.out HL.out (by simpa [sameK] using hxy)
        rw [HRES.out] at hr
        subst hr
        go_wp2_with fail
        go_ret
        exact ⟨rfl, by rw [hgx]; exact HB.out.trans (HW1.out.mono (by have := HB.out.size; omega))⟩
    · obtain rfl : i = n := by omega
      have hr := ix_none s.L k (fun j hj => HI.out j (by rw [← HNN.out]; exact hj))
      rw [HRES.out] at hr
      subst hr
      go_wp2_with fail
      go_ret
      exact ⟨rfl, by rw [hgx]; exact HB.out.trans (HW.out.mono (by have := HB.out.size; omega))⟩
theorem rindex_c (s : CS) (vk vd : Value) (k : K3) (w : World) (h : SR w s vk vd) (hl : s.L.length ≤ 100000) : Calls Try.prog 53 #[.agg #[.int .i64 s.size, .int .i64 s.seq, vk, vd, .int .i64 s.hits, .int .i64 s.misses, .int .i64 s.evicted, .int .i64 s.resets], .agg #[.int .i64 k.a, .int .i64 k.b, .int .i64 k.c]] w fun e w' => e = .returned (.int .i64 (idxK s.L k)) ∧ Below w.heap.size w w' := by
  obtain ⟨ao, cap, rfl⟩ := h.len
  exact rindex_n s ao s.L.length cap vd k w h rfl hl
end
end Go.Proofs.Ytbcbhgclgakljaa
