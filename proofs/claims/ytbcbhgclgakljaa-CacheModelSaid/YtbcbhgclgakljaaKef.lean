/- The reference's without. -/
import Derived.Test.YtbcbhgclgakljaaKee
namespace Go.Proofs.Ytbcbhgclgakljaa
open Go.RowKit Go.Maps Go.WideElems Go.WideShapes
section
variable {α : Type} {R : RowT α} {w : World} {L : List α} {g o n cap : Nat}
theorem Rows'.take (h : Rows' R w (.slice (some ⟨g, o, none⟩) n cap) L) {i : Nat} (hi : i ≤ n) : Rows' R w (.slice (some ⟨g, o, none⟩) i cap) (L.take i) := by
  obtain ⟨_, _, e, hc, hr⟩ := h.form
  simp only [Value.slice.injEq] at e
  obtain ⟨rfl, hn, rfl⟩ := e
  have hl : (L.take i).length = i := by rw [List.length_take]; omega
  refine ⟨⟨_, cap, by rw [hl], by omega, fun hne => ?_⟩⟩
  obtain ⟨g', o', e2, hg, hR⟩ := hr (by rintro rfl; simp at hne)
  refine ⟨g', o', e2, hg, fun j x hx k u hu => hR j x ?_ k u hu⟩
  rw [List.getElem?_take] at hx
  split at hx
  · exact hx
  · cases hx
theorem Rows'.drop (h : Rows' R w (.slice (some ⟨g, o, none⟩) n cap) L) {i : Nat} (hi : i ≤ n) : Rows' R w (.slice (some ⟨g, o + i * R.sz, none⟩) (n - i) (cap - i)) (L.drop i) := by
  obtain ⟨_, _, e, hc, hr⟩ := h.form
  simp only [Value.slice.injEq] at e
  obtain ⟨rfl, hn, rfl⟩ := e
  have hl : (L.drop i).length = n - i := by rw [List.length_drop]; omega
  refine ⟨⟨_, cap - i, by rw [hl], by omega, fun hne => ?_⟩⟩
  obtain ⟨g', o', e2, hg, hR⟩ := hr (by rintro rfl; simp at hne)
  simp only [Option.some.injEq, Addr.mk.injEq] at e2
  obtain ⟨rfl, rfl, _⟩ := e2
  refine ⟨g, o + i * R.sz, rfl, hg, fun j x hx k u hu => ?_⟩
  rw [List.getElem?_drop] at hx
  have := hR (i + j) x hx k u hu
  rw [Nat.add_mul] at this
  rw [← this]
  congr 2
  omega
theorem Rows'.dropIf (h : Rows' R w (.slice (some ⟨g, 0, none⟩) n cap) L) {i sz : Nat} (hi : i + 1 ≤ n) (hs : sz = R.sz) : Rows' R w (.slice (if cap = i + 1 then some ⟨g, 0, none⟩ else some ⟨g, (i + 1) * sz, none⟩) (n - (i + 1)) (cap - (i + 1))) (L.drop (i + 1)) := by
  have h2 := h.drop hi
  split
  · rename_i e
    obtain ⟨_, _, e0, hc, _⟩ := h.form
    simp only [Value.slice.injEq] at e0
    obtain ⟨_, hn, hc'⟩ := e0
    have hd : L.drop (i + 1) = [] := List.drop_eq_nil_of_le (by omega)
    rw [hd]
    exact ⟨⟨_, _, by rw [show n - (i + 1) = ([] : List α).length by simp; omega], by simp, fun hne => absurd rfl hne⟩⟩
  · rw [hs]
    simpa using h2
end
structure WS (w wc : World) (g3 g6 g7 B : Nat) (s : CS) (c3 z : Array Value) (vk vd : Value) (lk : List K3) (ld : List Dc) : Prop where
  y : Blk wc g7 29 (stA s vk vd)
  s' : Blk wc g3 29 c3
  z' : Blk wc g6 29 z
  k : Own RK wc B vk lk
  d : Own RD wc B vd ld
  b : Below w.heap.size w wc
  hb : B ≤ wc.heap.size
  n3 : g3 ≠ g7
  n6 : g6 ≠ g7
  l3 : g3 < B
  l6 : g6 < B
  l7 : g7 < B
  m7 : w.heap.size ≤ g7
  mB : w.heap.size ≤ B
section
variable {w wc w2 : World} {g3 g6 g7 B : Nat} {s : CS} {c3 z : Array Value} {vk vd v2 : Value} {lk lk2 : List K3} {ld ld2 : List Dc}
theorem WS.keep (h : WS w wc g3 g6 g7 B s c3 z vk vd lk ld) (hb : Below wc.heap.size wc w2) : WS w w2 g3 g6 g7 B s c3 z vk vd lk ld :=
  ⟨h.y.keep hb, h.s'.keep hb, h.z'.keep hb, h.k.below hb, h.d.below hb, h.b.trans (hb.mono h.b.size), Nat.le_trans h.hb hb.size, h.n3, h.n6, h.l3, h.l6, h.l7, h.m7, h.mB⟩
theorem WS.yk (h : WS w wc g3 g6 g7 B s c3 z vk vd lk ld) (hg : wc.grownBy w2 vk.ownBlock) : Blk w2 g7 29 (stA s vk vd) := h.y.grown hg (fun e => by have := (h.k.lt _ e).1; have := h.l7; omega)
theorem WS.yd (h : WS w wc g3 g6 g7 B s c3 z vk vd lk ld) (hg : wc.grownBy w2 vd.ownBlock) : Blk w2 g7 29 (stA s vk vd) := h.y.grown hg (fun e => by have := (h.d.lt _ e).1; have := h.l7; omega)
theorem WS.putk (h : WS w wc g3 g6 g7 B s c3 z vk vd lk ld) (h1 : Own RK w2 B v2 lk2) (hg : wc.grownBy w2 vk.ownBlock) : WS w (w2.setCell ⟨g7, 2, none⟩ v2) g3 g6 g7 B s c3 z v2 vd lk2 ld := by
  have hr : ∀ g, vk.ownBlock = some g → B ≤ g := fun g e => (h.k.lt g e).1
  have hsz : wc.heap.size ≤ w2.heap.size := by obtain ⟨_, _, _, h4, _⟩ := hg; exact h4
  refine ⟨by simpa [stA] using (h.yk hg).set 2 v2, (h.s'.grown hg (fun e => by have := hr _ e; have := h.l3; omega)).far (p := ⟨g7, 2, none⟩) h.n3 _, (h.z'.grown hg (fun e => by have := hr _ e; have := h.l6; omega)).far (p := ⟨g7, 2, none⟩) h.n6 _, own_cell h1 h.l7, own_cell (h.d.kept hg (own_ne h.d h.k (by decide))) h.l7, ?_, ?_, h.n3, h.n6, h.l3, h.l6, h.l7, h.m7, h.mB⟩
  · exact (h.b.trans (grown_below hg (by have := h.b.size; omega) (fun g e => by have := hr g e; have := h.mB; omega))).setCell (p := ⟨g7, 2, none⟩) h.m7 _
  · have := h.hb; simp [World.setCell]; omega
theorem WS.putd (h : WS w wc g3 g6 g7 B s c3 z vk vd lk ld) (h1 : Own RD w2 B v2 ld2) (hg : wc.grownBy w2 vd.ownBlock) : WS w (w2.setCell ⟨g7, 3, none⟩ v2) g3 g6 g7 B s c3 z vk v2 lk ld2 := by
  have hr : ∀ g, vd.ownBlock = some g → B ≤ g := fun g e => (h.d.lt g e).1
  have hsz : wc.heap.size ≤ w2.heap.size := by obtain ⟨_, _, _, h4, _⟩ := hg; exact h4
  refine ⟨by simpa [stA] using (h.yd hg).set 3 v2, (h.s'.grown hg (fun e => by have := hr _ e; have := h.l3; omega)).far (p := ⟨g7, 3, none⟩) h.n3 _, (h.z'.grown hg (fun e => by have := hr _ e; have := h.l6; omega)).far (p := ⟨g7, 3, none⟩) h.n6 _, own_cell (h.k.kept hg (own_ne h.k h.d (by decide))) h.l7, own_cell h1 h.l7, ?_, ?_, h.n3, h.n6, h.l3, h.l6, h.l7, h.m7, h.mB⟩
  · exact (h.b.trans (grown_below hg (by have := h.b.size; omega) (fun g e => by have := hr g e; have := h.mB; omega))).setCell (p := ⟨g7, 3, none⟩) h.m7 _
  · have := h.hb; simp [World.setCell]; omega
end
set_option maxRecDepth 100000 in
set_option maxHeartbeats 16000000 in
theorem rwithout_n (s : CS) (ga gb n cap cbp i : Nat) (w : World) (h : SR w s (.slice (some ⟨ga, 0, none⟩) n cap) (.slice (some ⟨gb, 0, none⟩) n cbp)) (hn : s.L.length = n) (hl : n ≤ 50000) (hi : i < n) :
    Calls Try.prog 55 #[.agg #[.int .i64 s.size, .int .i64 s.seq, .slice (some ⟨ga, 0, none⟩) n cap, .slice (some ⟨gb, 0, none⟩) n cbp, .int .i64 s.hits, .int .i64 s.misses, .int .i64 s.evicted, .int .i64 s.resets], .int .i64 i] w fun e w' => ∃ vk' vd', e = .returned (.agg #[.int .i64 s.size, .int .i64 s.seq, vk', vd', .int .i64 s.hits, .int .i64 s.misses, .int .i64 s.evicted, .int .i64 s.resets]) ∧ SR w' { s with L := s.L.eraseIdx i } vk' vd' ∧ Below w.heap.size w w' ∧ Own RK w' w.heap.size vk' (keysK (s.L.eraseIdx i)) ∧ Own RD w' w.heap.size vd' ((s.L.eraseIdx i).map (·.2)) := by
  have HB : Hid (Below w.heap.size w (((w.alloc (.cells #[.int .i64 s.size, .int .i64 s.seq, .slice (some ⟨ga, 0, none⟩) n cap, .slice (some ⟨gb, 0, none⟩) n cbp, .int .i64 s.hits, .int .i64 s.misses, .int .i64 s.evicted, .int .i64 s.resets] 29)).alloc (.cells #[.int .i64 0, .int .i64 0, .slice none 0 0, .slice none 0 0, .int .i64 0, .int .i64 0, .int .i64 0, .int .i64 0] 29)).alloc (.cells #[.int .i64 s.size, .int .i64 s.seq, .slice none 0 0, .slice none 0 0, .int .i64 s.hits, .int .i64 s.misses, .int .i64 s.evicted, .int .i64 s.resets] 29))) := Lib.hid (((((Below.refl _ _).alloc (Nat.le_refl _) _).alloc (by simp) _).alloc (by simp; omega) _))
  have HS : Hid (Blk (((w.alloc (.cells #[.int .i64 s.size, .int .i64 s.seq, .slice (some ⟨ga, 0, none⟩) n cap, .slice (some ⟨gb, 0, none⟩) n cbp, .int .i64 s.hits, .int .i64 s.misses, .int .i64 s.evicted, .int .i64 s.resets] 29)).alloc (.cells #[.int .i64 0, .int .i64 0, .slice none 0 0, .slice none 0 0, .int .i64 0, .int .i64 0, .int .i64 0, .int .i64 0] 29)).alloc (.cells #[.int .i64 s.size, .int .i64 s.seq, .slice none 0 0, .slice none 0 0, .int .i64 s.hits, .int .i64 s.misses, .int .i64 s.evicted, .int .i64 s.resets] 29)) w.heap.size 29 #[.int .i64 s.size, .int .i64 s.seq, .slice (some ⟨ga, 0, none⟩) n cap, .slice (some ⟨gb, 0, none⟩) n cbp, .int .i64 s.hits, .int .i64 s.misses, .int .i64 s.evicted, .int .i64 s.resets]) := Lib.hid (((Blk.here rfl).alloc _).alloc _)
  have HZ : Hid (Blk (((w.alloc (.cells #[.int .i64 s.size, .int .i64 s.seq, .slice (some ⟨ga, 0, none⟩) n cap, .slice (some ⟨gb, 0, none⟩) n cbp, .int .i64 s.hits, .int .i64 s.misses, .int .i64 s.evicted, .int .i64 s.resets] 29)).alloc (.cells #[.int .i64 0, .int .i64 0, .slice none 0 0, .slice none 0 0, .int .i64 0, .int .i64 0, .int .i64 0, .int .i64 0] 29)).alloc (.cells #[.int .i64 s.size, .int .i64 s.seq, .slice none 0 0, .slice none 0 0, .int .i64 s.hits, .int .i64 s.misses, .int .i64 s.evicted, .int .i64 s.resets] 29)) (w.heap.size + 1) 29 #[.int .i64 0, .int .i64 0, .slice none 0 0, .slice none 0 0, .int .i64 0, .int .i64 0, .int .i64 0, .int .i64 0]) := Lib.hid ((Blk.here (by simp)).alloc _)
  have HY : Hid (Blk (((w.alloc (.cells #[.int .i64 s.size, .int .i64 s.seq, .slice (some ⟨ga, 0, none⟩) n cap, .slice (some ⟨gb, 0, none⟩) n cbp, .int .i64 s.hits, .int .i64 s.misses, .int .i64 s.evicted, .int .i64 s.resets] 29)).alloc (.cells #[.int .i64 0, .int .i64 0, .slice none 0 0, .slice none 0 0, .int .i64 0, .int .i64 0, .int .i64 0, .int .i64 0] 29)).alloc (.cells #[.int .i64 s.size, .int .i64 s.seq, .slice none 0 0, .slice none 0 0, .int .i64 s.hits, .int .i64 s.misses, .int .i64 s.evicted, .int .i64 s.resets] 29)) (w.heap.size + 1 + 1) 29 #[.int .i64 s.size, .int .i64 s.seq, .slice none 0 0, .slice none 0 0, .int .i64 s.hits, .int .i64 s.misses, .int .i64 s.evicted, .int .i64 s.resets]) := Lib.hid (Blk.here (by simp))
  have HR0 := Lib.hid h
  have HNN := Lib.hid hn
  have hne36 : w.heap.size ≠ w.heap.size + 1 := by omega
  have hne37 : w.heap.size ≠ w.heap.size + 1 + 1 := by omega
  have hne67 : w.heap.size + 1 ≠ w.heap.size + 1 + 1 := by omega
  have HG6 : Hid (w.heap.size ≤ w.heap.size + 1) := Lib.hid (by omega)
  have HG7 : Hid (w.heap.size ≤ w.heap.size + 1 + 1) := Lib.hid (by omega)
  obtain ⟨_, _, e0, hc1, _⟩ := h.k.form
  have hcap : n ≤ cap := by simp only [Value.slice.injEq] at e0; obtain ⟨_, e2, e3⟩ := e0; omega
  obtain ⟨_, _, e0', hc2, _⟩ := h.d.form
  have hcbp : n ≤ cbp := by simp only [Value.slice.injEq] at e0'; obtain ⟨_, e2, e3⟩ := e0'; omega
  clear h hn e0 hc1 e0' hc2
  have hi0 : (0 : Int) ≤ (i : Int) := by omega
  have hi1 : (i : Int) ≤ (cap : Int) := by omega
  have hi2 : (i : Int) ≤ (cbp : Int) := by omega
  have hi3 : (i : Int) + 1 ≤ (n : Int) := by omega
  have hi4 : (n : Int) ≤ (cap : Int) := by omega
  have hi5 : (n : Int) ≤ (cbp : Int) := by omega
  go_enter Try.func55, Try.ntmps55
  go_upto_region 3 with fail
  generalize (((w.alloc (.cells #[.int .i64 s.size, .int .i64 s.seq, .slice (some ⟨ga, 0, none⟩) n cap, .slice (some ⟨gb, 0, none⟩) n cbp, .int .i64 s.hits, .int .i64 s.misses, .int .i64 s.evicted, .int .i64 s.resets] 29)).alloc (.cells #[.int .i64 0, .int .i64 0, .slice none 0 0, .slice none 0 0, .int .i64 0, .int .i64 0, .int .i64 0, .int .i64 0] 29)).alloc (.cells #[.int .i64 s.size, .int .i64 s.seq, .slice none 0 0, .slice none 0 0, .int .i64 s.hits, .int .i64 s.misses, .int .i64 s.evicted, .int .i64 s.resets] 29)) = W at *
  generalize w.heap.size + 1 + 1 = g7 at *
  generalize w.heap.size + 1 = g6 at *
  generalize hgx : w.heap.size = g3 at *
  have HX : Hid (WS w W g3 g6 g7 W.heap.size s #[.int .i64 s.size, .int .i64 s.seq, .slice (some ⟨ga, 0, none⟩) n cap, .slice (some ⟨gb, 0, none⟩) n cbp, .int .i64 s.hits, .int .i64 s.misses, .int .i64 s.evicted, .int .i64 s.resets] #[.int .i64 0, .int .i64 0, .slice none 0 0, .slice none 0 0, .int .i64 0, .int .i64 0, .int .i64 0, .int .i64 0] (.slice none 0 0) (.slice none 0 0) [] []) := Lib.hid ⟨HY.out, HS.out, HZ.out, Own.nil _ _, Own.nil _ _, (by first | exact HB.out | (rw [hgx]; exact HB.out)), Nat.le_refl _, hne37, hne67, HS.out.lt, HZ.out.lt, HY.out.lt, (by first | exact HG7.out | (rw [hgx]; exact HG7.out)), (by have := HB.out.size; omega)⟩
  generalize W.heap.size = B at *
  obtain ⟨nk, hnk⟩ : ∃ nk, ([] ++ (keysK s.L).take i : List K3).length = nk := ⟨_, rfl⟩
  have HNK := Lib.hid hnk
  clear hnk
  obtain ⟨nk2, hnk⟩ : ∃ nk, ([] ++ (keysK s.L).take i ++ (keysK s.L).drop (i + 1) : List K3).length = nk := ⟨_, rfl⟩
  have HNK2 := Lib.hid hnk
  clear hnk
  obtain ⟨nd, hnk⟩ : ∃ nk, ([] ++ (s.L.map (·.2)).take i : List Dc).length = nk := ⟨_, rfl⟩
  have HND := Lib.hid hnk
  clear hnk
  obtain ⟨nd2, hnk⟩ : ∃ nk, ([] ++ (s.L.map (·.2)).take i ++ (s.L.map (·.2)).drop (i + 1) : List Dc).length = nk := ⟨_, rfl⟩
  have HND2 := Lib.hid hnk
  clear hnk
  clear HB HS HZ HY
  refine wp_region_kt 6 (by kernel_rfl) (by kernel_rfl) ?_
  simp only [List.take_succ_cons, List.take_zero, List.drop_succ_cons, List.drop_zero]
  repeat (first
    | go_big_quiet_skip
    | (go_big_quiet_want
       first
         | (go_big_quiet_op
            first
              | go_big_quiet_on
              | (apply Exists.intro
                 refine ⟨fun w1 hC => ?_, ?_⟩
                 · first
                     | (obtain ⟨y0, y1, y2, y3, y4, y5, y6, y7⟩ := Blk.cells8 (show Blk w1 g7 29 (stA s _ _) from HX.out.y.keep hC); obtain ⟨c0, c1, c2, c3, c4, c5, c6, c7⟩ := (HX.out.s'.keep hC).cells8; go_simp; exact ⟨rfl, rfl⟩)
                     | (obtain ⟨y0, y1, y2, y3, y4, y5, y6, y7⟩ := Blk.cells8 (show Blk w1 g7 29 (stA s _ _) from HX.out.y.keep hC); obtain ⟨c0, c1, c2, c3, c4, c5, c6, c7⟩ := (HX.out.s'.keep hC).cells8; go_simp; exact rfl)
                     | exact rfl
                     | (go_simp; exact ⟨rfl, rfl⟩)
                 go_big_quiet_on))))
  refine wpQuiet_nil ?_
  intro W9 hC9
  have HX9 := Lib.hid (HX.out.keep hC9)
  clear hC9 HX
  at_builtin
  refine wpList_append_row RK rfl _ _ rfl B (.slice none 0 0) ([]) rfl HX9.out.k (.slice (some ⟨ga, 0, none⟩) i cap) _ rfl ((HR0.out.below HX9.out.b).k.take (by omega)) (.inr ⟨ga, 0, cap, by rw [List.length_take]; simp only [keysK, List.length_map]; congr 1; have := HNN.out; omega⟩) (by simp; have := HNN.out; simp [keysK]; omega) HX9.out.hb ?_
  intro v2 w2 h1 h2
  have HOW := Lib.hid h1
  have HGW := Lib.hid h2
  clear h1 h2
  obtain ⟨a1, a1c, hv2⟩ := HOW.out.isSl
  rw [HNK.out] at hv2
  subst hv2
  have hy2 := HX9.out.yk HGW.out
  have f2 := hy2.frozen 2
  have e2 := hy2.cell 2
  simp only [stA, List.getElem?_toArray, List.getElem?_cons_zero, List.getElem?_cons_succ] at e2
  clear hy2
  go_upto_region 4 with fail
  have HX := Lib.hid (HX9.out.putk HOW.out HGW.out)
  generalize w2.setCell ⟨g7, 2, none⟩ (.slice a1 nk a1c) = w3 at *
  clear HX9 HOW HGW f2 e2
  refine wp_region_kt 7 (by kernel_rfl) (by kernel_rfl) ?_
  simp only [List.take_succ_cons, List.take_zero, List.drop_succ_cons, List.drop_zero]
  repeat (first
    | go_big_quiet_skip
    | (go_big_quiet_want
       first
         | (go_big_quiet_op
            first
              | go_big_quiet_on
              | (apply Exists.intro
                 refine ⟨fun w1 hC => ?_, ?_⟩
                 · first
                     | (obtain ⟨y0, y1, y2, y3, y4, y5, y6, y7⟩ := Blk.cells8 (show Blk w1 g7 29 (stA s _ _) from HX.out.y.keep hC); obtain ⟨c0, c1, c2, c3, c4, c5, c6, c7⟩ := (HX.out.s'.keep hC).cells8; go_simp; exact ⟨rfl, rfl⟩)
                     | (obtain ⟨y0, y1, y2, y3, y4, y5, y6, y7⟩ := Blk.cells8 (show Blk w1 g7 29 (stA s _ _) from HX.out.y.keep hC); obtain ⟨c0, c1, c2, c3, c4, c5, c6, c7⟩ := (HX.out.s'.keep hC).cells8; go_simp; exact rfl)
                     | exact rfl
                     | (go_simp; exact ⟨rfl, rfl⟩)
                 go_big_quiet_on))))
  refine wpQuiet_nil ?_
  intro W9 hC9
  have HX9 := Lib.hid (HX.out.keep hC9)
  clear hC9 HX
  at_builtin
  trace_state
  refine wpList_append_row RK rfl _ _ rfl B (.slice a1 nk a1c) (([] ++ (keysK s.L).take i)) rfl HX9.out.k (.slice (if cap = i + 1 then some ⟨ga, 0, none⟩ else some ⟨ga, (i + 1) * 3, none⟩) (n - (i + 1)) (cap - (i + 1))) _ rfl ((HR0.out.below HX9.out.b).k.dropIf (by omega) rfl) (.inr (by refine ⟨ga, if cap = i + 1 then 0 else (i + 1) * 3, cap - (i + 1), ?_⟩; rw [List.length_drop]; simp only [keysK, List.length_map]; rw [HNN.out]; split <;> rfl)) (by simp; have := HNN.out; simp [keysK]; omega) HX9.out.hb ?_
  intro v2 w2 h1 h2
  have HOW := Lib.hid h1
  have HGW := Lib.hid h2
  clear h1 h2
  obtain ⟨a2, a2c, hv2⟩ := HOW.out.isSl
  rw [HNK2.out] at hv2
  subst hv2
  have hy2 := HX9.out.yk HGW.out
  have f2 := hy2.frozen 2
  have e2 := hy2.cell 2
  simp only [stA, List.getElem?_toArray, List.getElem?_cons_zero, List.getElem?_cons_succ] at e2
  clear hy2
  go_upto_region 5 with fail
  have HX := Lib.hid (HX9.out.putk HOW.out HGW.out)
  generalize w2.setCell ⟨g7, 2, none⟩ (.slice a2 nk2 a2c) = w3 at *
  clear HX9 HOW HGW f2 e2
  refine wp_region_kt 6 (by kernel_rfl) (by kernel_rfl) ?_
  simp only [List.take_succ_cons, List.take_zero, List.drop_succ_cons, List.drop_zero]
  repeat (first
    | go_big_quiet_skip
    | (go_big_quiet_want
       first
         | (go_big_quiet_op
            first
              | go_big_quiet_on
              | (apply Exists.intro
                 refine ⟨fun w1 hC => ?_, ?_⟩
                 · first
                     | (obtain ⟨y0, y1, y2, y3, y4, y5, y6, y7⟩ := Blk.cells8 (show Blk w1 g7 29 (stA s _ _) from HX.out.y.keep hC); obtain ⟨c0, c1, c2, c3, c4, c5, c6, c7⟩ := (HX.out.s'.keep hC).cells8; go_simp; exact ⟨rfl, rfl⟩)
                     | (obtain ⟨y0, y1, y2, y3, y4, y5, y6, y7⟩ := Blk.cells8 (show Blk w1 g7 29 (stA s _ _) from HX.out.y.keep hC); obtain ⟨c0, c1, c2, c3, c4, c5, c6, c7⟩ := (HX.out.s'.keep hC).cells8; go_simp; exact rfl)
                     | exact rfl
                     | (go_simp; exact ⟨rfl, rfl⟩)
                 go_big_quiet_on))))
  refine wpQuiet_nil ?_
  intro W9 hC9
  have HX9 := Lib.hid (HX.out.keep hC9)
  clear hC9 HX
  at_builtin
  refine wpList_append_row RD rfl _ _ rfl B (.slice none 0 0) ([]) rfl HX9.out.d (.slice (some ⟨gb, 0, none⟩) i cbp) _ rfl ((HR0.out.below HX9.out.b).d.take (by omega)) (.inr ⟨gb, 0, cbp, by rw [List.length_take]; simp only [keysK, List.length_map]; congr 1; have := HNN.out; omega⟩) (by simp; have := HNN.out; simp [keysK]; omega) HX9.out.hb ?_
  intro v2 w2 h1 h2
  have HOW := Lib.hid h1
  have HGW := Lib.hid h2
  clear h1 h2
  obtain ⟨b1, b1c, hv2⟩ := HOW.out.isSl
  rw [HND.out] at hv2
  subst hv2
  have hy2 := HX9.out.yd HGW.out
  have f2 := hy2.frozen 3
  have e2 := hy2.cell 3
  simp only [stA, List.getElem?_toArray, List.getElem?_cons_zero, List.getElem?_cons_succ] at e2
  clear hy2
  go_upto_region 6 with fail
  have HX := Lib.hid (HX9.out.putd HOW.out HGW.out)
  generalize w2.setCell ⟨g7, 3, none⟩ (.slice b1 nd b1c) = w3 at *
  clear HX9 HOW HGW f2 e2
  refine wp_region_kt 7 (by kernel_rfl) (by kernel_rfl) ?_
  simp only [List.take_succ_cons, List.take_zero, List.drop_succ_cons, List.drop_zero]
  repeat (first
    | go_big_quiet_skip
    | (go_big_quiet_want
       first
         | (go_big_quiet_op
            first
              | go_big_quiet_on
              | (apply Exists.intro
                 refine ⟨fun w1 hC => ?_, ?_⟩
                 · first
                     | (obtain ⟨y0, y1, y2, y3, y4, y5, y6, y7⟩ := Blk.cells8 (show Blk w1 g7 29 (stA s _ _) from HX.out.y.keep hC); obtain ⟨c0, c1, c2, c3, c4, c5, c6, c7⟩ := (HX.out.s'.keep hC).cells8; go_simp; exact ⟨rfl, rfl⟩)
                     | (obtain ⟨y0, y1, y2, y3, y4, y5, y6, y7⟩ := Blk.cells8 (show Blk w1 g7 29 (stA s _ _) from HX.out.y.keep hC); obtain ⟨c0, c1, c2, c3, c4, c5, c6, c7⟩ := (HX.out.s'.keep hC).cells8; go_simp; exact rfl)
                     | exact rfl
                     | (go_simp; exact ⟨rfl, rfl⟩)
                 go_big_quiet_on))))
  refine wpQuiet_nil ?_
  intro W9 hC9
  have HX9 := Lib.hid (HX.out.keep hC9)
  clear hC9 HX
  at_builtin
  trace_state
  refine wpList_append_row RD rfl _ _ rfl B (.slice b1 nd b1c) (([] ++ (s.L.map (·.2)).take i)) rfl HX9.out.d (.slice (if cbp = i + 1 then some ⟨gb, 0, none⟩ else some ⟨gb, (i + 1) * 5, none⟩) (n - (i + 1)) (cbp - (i + 1))) _ rfl ((HR0.out.below HX9.out.b).d.dropIf (by omega) rfl) (.inr (by refine ⟨gb, if cbp = i + 1 then 0 else (i + 1) * 5, cbp - (i + 1), ?_⟩; rw [List.length_drop]; simp only [keysK, List.length_map]; rw [HNN.out]; split <;> rfl)) (by simp; have := HNN.out; simp [keysK]; omega) HX9.out.hb ?_
  intro v2 w2 h1 h2
  have HOW := Lib.hid h1
  have HGW := Lib.hid h2
  clear h1 h2
  obtain ⟨b2, b2c, hv2⟩ := HOW.out.isSl
  rw [HND2.out] at hv2
  subst hv2
  have hy2 := HX9.out.yd HGW.out
  have f2 := hy2.frozen 3
  have e2 := hy2.cell 3
  simp only [stA, List.getElem?_toArray, List.getElem?_cons_zero, List.getElem?_cons_succ] at e2
  clear hy2
  go_upto_region 7 with fail
  have HX := Lib.hid (HX9.out.putd HOW.out HGW.out)
  generalize w2.setCell ⟨g7, 3, none⟩ (.slice b2 nd2 b2c) = w3 at *
  clear HX9 HOW HGW f2 e2
  obtain ⟨y0, y1, y2, y3, y4, y5, y6, y7⟩ := Blk.cells8 (show Blk w3 g7 29 (stA s _ _) from HX.out.y)
  obtain ⟨z0, z1, z2, z3, z4, z5, z6, z7⟩ := HX.out.z'.cells8
  obtain ⟨f0, f1, f2, f3, f4, f5, f6, f7⟩ := HX.out.z'.fro8
  go_wp2_with fail
  all_goals
    have hb := HX.out.z'.set8 (.int .i64 s.size) (.int .i64 s.seq) (.slice a2 nk2 a2c) (.slice b2 nd2 b2c) (.int .i64 s.hits) (.int .i64 s.misses) (.int .i64 s.evicted) (.int .i64 s.resets)
    have ha := apart_set8 w3 g6 (.int .i64 s.size) (.int .i64 s.seq) (.slice a2 nk2 a2c) (.slice b2 nd2 b2c) (.int .i64 s.hits) (.int .i64 s.misses) (.int .i64 s.evicted) (.int .i64 s.resets)
    have HL6 := HX.out.l6
    have hv6 : Own RK (set8 w3 g6 (.int .i64 s.size) (.int .i64 s.seq) (.slice a2 nk2 a2c) (.slice b2 nd2 b2c) (.int .i64 s.hits) (.int .i64 s.misses) (.int .i64 s.evicted) (.int .i64 s.resets)) B (.slice a2 nk2 a2c) ([] ++ (keysK s.L).take i ++ (keysK s.L).drop (i + 1)) := HX.out.k.blocks fun j h1 h2 => ha.block j h2 (by omega)
    have hu6 : Own RD (set8 w3 g6 (.int .i64 s.size) (.int .i64 s.seq) (.slice a2 nk2 a2c) (.slice b2 nd2 b2c) (.int .i64 s.hits) (.int .i64 s.misses) (.int .i64 s.evicted) (.int .i64 s.resets)) B (.slice b2 nd2 b2c) ([] ++ (s.L.map (·.2)).take i ++ (s.L.map (·.2)).drop (i + 1)) := HX.out.d.blocks fun j h1 h2 => ha.block j h2 (by omega)
    unfold set8 at hb ha hv6 hu6
    generalize (((((((w3.setCell ⟨g6, 0, none⟩ (.int .i64 s.size)).setCell ⟨g6, 1, none⟩ (.int .i64 s.seq)).setCell ⟨g6, 2, none⟩ (.slice a2 nk2 a2c)).setCell ⟨g6, 3, none⟩ (.slice b2 nd2 b2c)).setCell ⟨g6, 4, none⟩ (.int .i64 s.hits)).setCell ⟨g6, 5, none⟩ (.int .i64 s.misses)).setCell ⟨g6, 6, none⟩ (.int .i64 s.evicted)).setCell ⟨g6, 7, none⟩ (.int .i64 s.resets) = w6 at *
    obtain ⟨q0, q1, q2, q3, q4, q5, q6, q7⟩ := hb.cells8
    have hbw : Below w.heap.size w w6 := HX.out.b.trans (ha.below HX.out.b.size (fun j e => by have := HG6.out; omega))
    refine bodyPost_ret (v := .agg #[.int .i64 s.size, .int .i64 s.seq, .slice a2 nk2 a2c, .slice b2 nd2 b2c, .int .i64 s.hits, .int .i64 s.misses, .int .i64 s.evicted, .int .i64 s.resets]) (by simp [results, Try.results55, go_sem, q0, q1, q2, q3, q4, q5, q6, q7]) rfl ?_
    have ek : [] ++ (keysK s.L).take i ++ (keysK s.L).drop (i + 1) = keysK (s.L.eraseIdx i) := by unfold keysK; rw [List.eraseIdx_eq_take_drop_succ, List.map_append, List.map_take, List.map_drop]; rfl
    have ed : [] ++ (s.L.map (·.2)).take i ++ (s.L.map (·.2)).drop (i + 1) = (s.L.eraseIdx i).map (·.2) := by rw [List.eraseIdx_eq_take_drop_succ, List.map_append, List.map_take, List.map_drop]; rfl
    have hlk := HNK2.out
    have hld := HND2.out
    rw [ek] at hv6 hlk
    rw [ed] at hu6 hld
    refine ⟨_, _, rfl, ⟨hv6.rows, hu6.rows, ?_, ?_⟩, by first | exact hbw | (rw [← hgx]; exact hbw), hv6.base (by have := HX.out.mB; omega), hu6.base (by have := HX.out.mB; omega)⟩
    · exact own_first hv6 (by rw [← hlk]; unfold keysK; simp)
    · exact own_first hu6 (by rw [← hld]; simp)
theorem rwithout_c (s : CS) (vk vd : Value) (i : Nat) (w : World) (h : SR w s vk vd) (hl : s.L.length ≤ 50000) (hi : i < s.L.length) :
    Calls Try.prog 55 #[.agg #[.int .i64 s.size, .int .i64 s.seq, vk, vd, .int .i64 s.hits, .int .i64 s.misses, .int .i64 s.evicted, .int .i64 s.resets], .int .i64 i] w fun e w' => ∃ vk' vd', e = .returned (.agg #[.int .i64 s.size, .int .i64 s.seq, vk', vd', .int .i64 s.hits, .int .i64 s.misses, .int .i64 s.evicted, .int .i64 s.resets]) ∧ SR w' { s with L := s.L.eraseIdx i } vk' vd' ∧ Below w.heap.size w w' ∧ Own RK w' w.heap.size vk' (keysK (s.L.eraseIdx i)) ∧ Own RD w' w.heap.size vd' ((s.L.eraseIdx i).map (·.2)) := by
  obtain ⟨_, _, e1, _⟩ := h.k.form
  obtain ⟨_, _, e2, _⟩ := h.d.form
  have l1 : (keysK s.L).length = s.L.length := by unfold keysK; rw [List.length_map]
  rw [l1] at e1
  rw [List.length_map] at e2
  rcases h.fk with e | ⟨ga, ca, e⟩
  · rw [e1] at e; simp only [Value.slice.injEq] at e; omega
  · rcases h.fd with e' | ⟨gb, cb, e'⟩
    · rw [e2] at e'; simp only [Value.slice.injEq] at e'; omega
    · subst e e'
      exact rwithout_n s ga gb s.L.length ca cb i w h rfl hl hi
end Go.Proofs.Ytbcbhgclgakljaa
