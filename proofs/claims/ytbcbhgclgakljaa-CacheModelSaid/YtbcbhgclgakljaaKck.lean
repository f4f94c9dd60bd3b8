/- Find, Insert, Reset, Copy of a cache that is none of New's; Find of one that is. -/
import Derived.Test.YtbcbhgclgakljaaKcj
namespace Go.Proofs.Ytbcbhgclgakljaa
open Go.RowKit Go.Maps Go.WideElems Go.WideShapes
section
variable {w w' : World} {F G : Nat → Prop} {c o r m : Nat} {s : CS} {S : List Lk}
set_option maxRecDepth 100000 in
set_option maxHeartbeats 4000000 in
theorem find_bad {v : Value} (k : K3) (h : Bad w v) : Calls Try.prog 28 #[v, .int .i64 k.a, .int .i64 k.b, .int .i64 k.c] w fun e w' => e = .returned (.tuple #[.agg #[.int .u32 0, .int .u32 0, .int .u32 0, .bool false, .int .i64 0], .bool false]) ∧ Below w.heap.size w w' := by
  have HB : Hid (Below w.heap.size w (w.alloc (.cells #[.int .u32 0, .int .u32 0, .int .u32 0, .bool false, .int .i64 0] 39))) := Lib.hid ((Below.refl _ _).alloc (Nat.le_refl _) _)
  have HV : Hid (Blk (w.alloc (.cells #[.int .u32 0, .int .u32 0, .int .u32 0, .bool false, .int .i64 0] 39)) w.heap.size 39 #[.int .u32 0, .int .u32 0, .int .u32 0, .bool false, .int .i64 0]) := Lib.hid (Blk.new _ _ _)
  have HM := Lib.hid (made_bad (h.keep HB.out))
  clear h
  go_enter Try.func28, Try.ntmps28
  go_upto_region 2 with (go_at_call 46; refine HM.out.mono ?_; rintro e w1 ⟨rfl, rfl⟩)
  generalize w.alloc (.cells #[.int .u32 0, .int .u32 0, .int .u32 0, .bool false, .int .i64 0] 39) = W at *
  generalize hgx : w.heap.size = gx at *
  obtain ⟨r0, r1, r2, r3, r4, f0, f1, f2, f3, f4⟩ := HV.out.cells5
  have HF : Hid (Below gx w (((((W.setCell ⟨gx, 0, none⟩ (.int .u32 0)).setCell ⟨gx, 1, none⟩ (.int .u32 0)).setCell ⟨gx, 2, none⟩ (.int .u32 0)).setCell ⟨gx, 3, none⟩ (.bool false)).setCell ⟨gx, 4, none⟩ (.int .i64 0))) := Lib.hid (by
    have h1 : Apart (fun _ => False) w W := Apart.of (by rw [hgx]; exact HB.out)
    rw [← hgx]
    exact (apart_set5 h1 (.inr (by rw [hgx]; exact Nat.le_refl _)) _ _ _ _ _).to_below)
  have HS := Lib.hid (HV.out.set5 (.int .u32 0) (.int .u32 0) (.int .u32 0) (.bool false) (.int .i64 0))
  go_wp2_with fail
  clear r0 r1 r2 r3 r4 f0 f1 f2 f3 f4
  generalize ((((W.setCell ⟨gx, 0, none⟩ (.int .u32 0)).setCell ⟨gx, 1, none⟩ (.int .u32 0)).setCell ⟨gx, 2, none⟩ (.int .u32 0)).setCell ⟨gx, 3, none⟩ (.bool false)).setCell ⟨gx, 4, none⟩ (.int .i64 0) = W5 at *
  obtain ⟨r0, r1, r2, r3, r4, _⟩ := HS.out.cells5
  refine bodyPost_ret (v := .tuple #[.agg #[.int .u32 0, .int .u32 0, .int .u32 0, .bool false, .int .i64 0], .bool false]) (by simp [results, Try.results28, go_sem, r0, r1, r2, r3, r4]) rfl ⟨rfl, by rw [hgx]; exact HF.out⟩
set_option maxRecDepth 100000 in
set_option maxHeartbeats 4000000 in
theorem insert_bad {v : Value} (k : K3) (d : Dc) (h : Bad w v) : Calls Try.prog 27 #[v, .int .i64 k.a, .int .i64 k.b, .int .i64 k.c, .agg #[.int .u32 d.al, .int .u32 d.aa, .int .u32 d.ad, .bool d.pm, .int .i64 d.sq]] w fun e w' => e = .returned (.int .i64 1) ∧ Below w.heap.size w w' := by
  have HB : Hid (Below w.heap.size w (w.alloc (.cells #[.int .u32 d.al, .int .u32 d.aa, .int .u32 d.ad, .bool d.pm, .int .i64 d.sq] 39))) := Lib.hid ((Below.refl _ _).alloc (Nat.le_refl _) _)
  have HM := Lib.hid (made_bad (h.keep HB.out))
  clear h
  go_enter Try.func27, Try.ntmps27
  go_wp2_with (go_at_call 46; refine HM.out.mono ?_; rintro e w1 ⟨rfl, rfl⟩)
  go_ret
  exact ⟨rfl, HB.out⟩
end
theorem look_en {S : List Lk} {k : K3} (h : hasK (S.map Lk.en) k = false) : lookK (S.map Lk.en) k = none := by
  rw [hasK_look] at h
  simpa using h
section
variable {w w' : World} {F G : Nat → Prop} {c o r m : Nat} {s : CS} {S : List Lk}
set_option maxRecDepth 100000 in
set_option maxHeartbeats 8000000 in
theorem find_in {S1 S2 : List Lk} {x : Lk} (hM : CF w F c s) (hb : Blk w c 89 #[.pointer (some ⟨c, 0, none⟩), .int .i64 s.size, .int .i64 s.seq, .pointer (some ⟨o, 0, none⟩), .int .i64 s.hits, .int .i64 s.misses, .int .i64 s.evicted, .int .i64 s.resets])
    (ho : Ord w o r m (S1 ++ x :: S2)) (hc : F c) (hOF : ∀ j, Of o r m (S1 ++ x :: S2) j → F j) (hLT : ∀ k, F k → k < w.heap.size) (hh : 0 ≤ s.hits) (hh2 : s.hits ≤ 1000000) :
    Calls Try.prog 28 #[.pointer (some ⟨c, 0, none⟩), .int .i64 x.k.a, .int .i64 x.k.b, .int .i64 x.k.c] w fun e w' => e = .returned (.tuple #[.agg #[.int .u32 x.d.al, .int .u32 x.d.aa, .int .u32 x.d.ad, .bool x.d.pm, .int .i64 x.d.sq], .bool true]) ∧
      Blk w' c 89 #[.pointer (some ⟨c, 0, none⟩), .int .i64 s.size, .int .i64 s.seq, .pointer (some ⟨o, 0, none⟩), .int .i64 (s.hits + 1), .int .i64 s.misses, .int .i64 s.evicted, .int .i64 s.resets] ∧ Ord w' o r m (x :: (S1 ++ S2)) ∧ Apart F w w' := by
  have HB : Hid (Below w.heap.size w (w.alloc (.cells #[.int .u32 0, .int .u32 0, .int .u32 0, .bool false, .int .i64 0] 39))) := Lib.hid ((Below.refl _ _).alloc (Nat.le_refl _) _)
  have HV : Hid (Blk (w.alloc (.cells #[.int .u32 0, .int .u32 0, .int .u32 0, .bool false, .int .i64 0] 39)) w.heap.size 39 #[.int .u32 0, .int .u32 0, .int .u32 0, .bool false, .int .i64 0]) := Lib.hid (Blk.new _ _ _)
  have HM := Lib.hid (made_c (hM.keep HB.out))
  have HC := Lib.hid (hb.keep HB.out)
  have HU := Lib.hid (use_in (ho.keep HB.out))
  have HOF := Lib.hid hOF
  have HLT := Lib.hid hLT
  have HCN := Lib.hid (c_ne hb ho)
  have HFC := Lib.hid hc
  clear hM hb ho hc hOF hLT
  go_enter Try.func28, Try.ntmps28
  go_upto_region 3 with (go_at_call 46; refine HM.out.mono ?_; rintro e w1 ⟨rfl, rfl⟩)
  generalize w.alloc (.cells #[.int .u32 0, .int .u32 0, .int .u32 0, .bool false, .int .i64 0] 39) = W at *
  generalize hgx : w.heap.size = gx at *
  obtain ⟨c0, c1, c2, c3, c4, c5, c6, c7⟩ := HC.out.cells8
  go_upto_region 4 with (go_at_call 51; refine HU.out.mono ?_; rintro e w2 ⟨rfl, ho2, ha2⟩; have HO2 := Lib.hid ho2; have HA2 := Lib.hid ha2; clear ho2 ha2)
  clear c0 c1 c2 c3 c4 c5 c6 c7
  have HB3 : Hid (Below w2.heap.size w2 (w2.alloc (.cells #[.int .u32 x.d.al, .int .u32 x.d.aa, .int .u32 x.d.ad, .bool x.d.pm, .int .i64 x.d.sq] 39))) := Lib.hid ((Below.refl _ _).alloc (Nat.le_refl _) _)
  have HD3 : Hid (Blk (w2.alloc (.cells #[.int .u32 x.d.al, .int .u32 x.d.aa, .int .u32 x.d.ad, .bool x.d.pm, .int .i64 x.d.sq] 39)) w2.heap.size 39 #[.int .u32 x.d.al, .int .u32 x.d.aa, .int .u32 x.d.ad, .bool x.d.pm, .int .i64 x.d.sq]) := Lib.hid (Blk.new _ _ _)
  have HC3 := Lib.hid ((HA2.out.blk HC.out (fun e => HCN.out _ e rfl)).keep HB3.out)
  have hgl : gx < W.heap.size := HV.out.lt
  have HV3 := Lib.hid ((HA2.out.blk HV.out (fun e => by have := HLT.out _ (HOF.out _ e); omega)).keep HB3.out)
  have HO3 := Lib.hid (HO2.out.keep HB3.out)
  have hA3 : Apart F w w2 := (Apart.of (by rw [hgx]; exact HB.out)).trans HA2.out (fun k hk => .inl (HOF.out k hk))
  have HA3 := Lib.hid (hA3.then HB3.out)
  have hgz : W.heap.size ≤ w2.heap.size := HA2.out.size
  clear hA3
  generalize w2.alloc (.cells #[.int .u32 x.d.al, .int .u32 x.d.aa, .int .u32 x.d.ad, .bool x.d.pm, .int .i64 x.d.sq] 39) = W3 at *
  generalize w2.heap.size = gz at *
  obtain ⟨c0, c1, c2, c3, c4, c5, c6, c7⟩ := HC3.out.cells8
  have f4 := HC3.out.frozen 4
  have hcl : c < gx := by have := HLT.out c HFC.out; omega
  have HC5 : Hid (Blk (W3.setCell ⟨c, 4, none⟩ (.int .i64 (s.hits + 1))) c 89 #[.pointer (some ⟨c, 0, none⟩), .int .i64 s.size, .int .i64 s.seq, .pointer (some ⟨o, 0, none⟩), .int .i64 (s.hits + 1), .int .i64 s.misses, .int .i64 s.evicted, .int .i64 s.resets]) := Lib.hid (by simpa using HC3.out.set 4 (.int .i64 (s.hits + 1)))
  have HV5 := Lib.hid (HV3.out.far (p := ⟨c, 4, none⟩) (by simp; omega) (.int .i64 (s.hits + 1)))
  have HD5 := Lib.hid (HD3.out.far (p := ⟨c, 4, none⟩) (by simp; omega) (.int .i64 (s.hits + 1)))
  have hA5 : Apart (fun k => k = c) W3 (W3.setCell ⟨c, 4, none⟩ (.int .i64 (s.hits + 1))) := Apart.setCell (F := fun k => k = c) (p := ⟨c, 4, none⟩) Apart.refl (.inl rfl) _
  have HO5 := Lib.hid (HO3.out.apart hA5 (c_ne HC3.out HO3.out))
  have HA5 := Lib.hid (HA3.out.trans hA5 (fun k hk => .inl (by subst hk; exact HFC.out)))
  clear hA5 HD3 HV3 HC3 HO3 HA3 HO2 HA2 HV HC HB3
  go_upto_region 7 with fail
  clear c0 c1 c2 c3 c4 c5 c6 c7 f4
  generalize W3.setCell ⟨c, 4, none⟩ (.int .i64 (s.hits + 1)) = W5 at *
  obtain ⟨d0, d1, d2, d3, d4, _⟩ := HD5.out.cells5
  obtain ⟨r0, r1, r2, r3, r4, f0, f1, f2, f3, f4⟩ := HV5.out.cells5
  have hA6 : Apart (fun k => k = gx) W5 (((((W5.setCell ⟨gx, 0, none⟩ (.int .u32 x.d.al)).setCell ⟨gx, 1, none⟩ (.int .u32 x.d.aa)).setCell ⟨gx, 2, none⟩ (.int .u32 x.d.ad)).setCell ⟨gx, 3, none⟩ (.bool x.d.pm)).setCell ⟨gx, 4, none⟩ (.int .i64 x.d.sq)) := apart_set5 (G := fun k => k = gx) (g := gx) Apart.refl (.inl rfl) _ _ _ _ _
  have HS := Lib.hid (HV5.out.set5 (.int .u32 x.d.al) (.int .u32 x.d.aa) (.int .u32 x.d.ad) (.bool x.d.pm) (.int .i64 x.d.sq))
  have hOf : ∀ k, Of o r m (x :: (S1 ++ S2)) k → Of o r m (S1 ++ x :: S2) k := by
    rintro k (h | h | h | ⟨y, hy, rfl⟩)
    · exact .inl h
    · exact .inr (.inl h)
    · exact .inr (.inr (.inl h))
    · exact .inr (.inr (.inr ⟨y, List.perm_middle.mem_iff.2 hy, rfl⟩))
  have HO6 := Lib.hid (HO5.out.apart hA6 (fun k hk e => by have := HLT.out k (HOF.out k (hOf k hk)); omega))
  have HC6 := Lib.hid (hA6.blk HC5.out (by omega))
  have HA6 := Lib.hid (HA5.out.trans hA6 (fun k hk => .inr (by subst hk; omega)))
  clear hA6 hOf HV5 HD5 HO5 HC5 HA5
  go_wp2_with fail
  clear r0 r1 r2 r3 r4 f0 f1 f2 f3 f4 d0 d1 d2 d3 d4
  generalize ((((W5.setCell ⟨gx, 0, none⟩ (.int .u32 x.d.al)).setCell ⟨gx, 1, none⟩ (.int .u32 x.d.aa)).setCell ⟨gx, 2, none⟩ (.int .u32 x.d.ad)).setCell ⟨gx, 3, none⟩ (.bool x.d.pm)).setCell ⟨gx, 4, none⟩ (.int .i64 x.d.sq) = W6 at *
  obtain ⟨r0, r1, r2, r3, r4, _⟩ := HS.out.cells5
  refine bodyPost_ret (v := .tuple #[.agg #[.int .u32 x.d.al, .int .u32 x.d.aa, .int .u32 x.d.ad, .bool x.d.pm, .int .i64 x.d.sq], .bool true]) (by simp [results, Try.results28, go_sem, r0, r1, r2, r3, r4]) rfl ⟨rfl, HC6.out, HO6.out, HA6.out⟩
set_option maxRecDepth 100000 in
set_option maxHeartbeats 8000000 in
theorem find_no {k : K3} (hM : CF w F c s) (hb : Blk w c 89 #[.pointer (some ⟨c, 0, none⟩), .int .i64 s.size, .int .i64 s.seq, .pointer (some ⟨o, 0, none⟩), .int .i64 s.hits, .int .i64 s.misses, .int .i64 s.evicted, .int .i64 s.resets])
    (ho : Ord w o r m S) (hc : F c) (hOF : ∀ j, Of o r m S j → F j) (hLT : ∀ k, F k → k < w.heap.size) (wk : WK k) (hk : hasK (S.map Lk.en) k = false) (hh : 0 ≤ s.misses) (hh2 : s.misses ≤ 1000000) :
    Calls Try.prog 28 #[.pointer (some ⟨c, 0, none⟩), .int .i64 k.a, .int .i64 k.b, .int .i64 k.c] w fun e w' => e = .returned (.tuple #[.agg #[.int .u32 0, .int .u32 0, .int .u32 0, .bool false, .int .i64 0], .bool false]) ∧
      Blk w' c 89 #[.pointer (some ⟨c, 0, none⟩), .int .i64 s.size, .int .i64 s.seq, .pointer (some ⟨o, 0, none⟩), .int .i64 s.hits, .int .i64 (s.misses + 1), .int .i64 s.evicted, .int .i64 s.resets] ∧ Ord w' o r m S ∧ Apart F w w' := by
  have HB : Hid (Below w.heap.size w (w.alloc (.cells #[.int .u32 0, .int .u32 0, .int .u32 0, .bool false, .int .i64 0] 39))) := Lib.hid ((Below.refl _ _).alloc (Nat.le_refl _) _)
  have HV : Hid (Blk (w.alloc (.cells #[.int .u32 0, .int .u32 0, .int .u32 0, .bool false, .int .i64 0] 39)) w.heap.size 39 #[.int .u32 0, .int .u32 0, .int .u32 0, .bool false, .int .i64 0]) := Lib.hid (Blk.new _ _ _)
  have HM := Lib.hid (made_c (hM.keep HB.out))
  have HC := Lib.hid (hb.keep HB.out)
  have HU := Lib.hid (use_out k (ho.keep HB.out) wk hk)
  have HO := Lib.hid (ho.keep HB.out)
  have HOF := Lib.hid hOF
  have HLT := Lib.hid hLT
  have HCN := Lib.hid (c_ne hb ho)
  have HFC := Lib.hid hc
  clear hM hb ho hc hOF hLT wk hk
  go_enter Try.func28, Try.ntmps28
  go_upto_region 3 with (go_at_call 46; refine HM.out.mono ?_; rintro e w1 ⟨rfl, rfl⟩)
  generalize w.alloc (.cells #[.int .u32 0, .int .u32 0, .int .u32 0, .bool false, .int .i64 0] 39) = W at *
  generalize hgx : w.heap.size = gx at *
  obtain ⟨c0, c1, c2, c3, c4, c5, c6, c7⟩ := HC.out.cells8
  go_upto_region 4 with (go_at_call 51; refine HU.out.mono ?_; rintro e w2 ⟨rfl, hb2⟩; have HB2 := Lib.hid hb2; clear hb2)
  clear c0 c1 c2 c3 c4 c5 c6 c7
  have HB3 : Hid (Below W.heap.size W (w2.alloc (.cells #[.int .u32 0, .int .u32 0, .int .u32 0, .bool false, .int .i64 0] 39))) := Lib.hid (HB2.out.alloc HB2.out.size _)
  have HD3 : Hid (Blk (w2.alloc (.cells #[.int .u32 0, .int .u32 0, .int .u32 0, .bool false, .int .i64 0] 39)) w2.heap.size 39 #[.int .u32 0, .int .u32 0, .int .u32 0, .bool false, .int .i64 0]) := Lib.hid (Blk.new _ _ _)
  have HC3 := Lib.hid (HC.out.keep HB3.out)
  have hgl : gx < W.heap.size := HV.out.lt
  have HV3 := Lib.hid (HV.out.keep HB3.out)
  have HO3 := Lib.hid (HO.out.keep HB3.out)
  have HA3 : Hid (Apart F w (w2.alloc (.cells #[.int .u32 0, .int .u32 0, .int .u32 0, .bool false, .int .i64 0] 39))) := Lib.hid ((Apart.of (by rw [hgx]; exact HB.out)).then HB3.out)
  have hgz : W.heap.size ≤ w2.heap.size := HB2.out.size
  generalize w2.alloc (.cells #[.int .u32 0, .int .u32 0, .int .u32 0, .bool false, .int .i64 0] 39) = W3 at *
  generalize w2.heap.size = gz at *
  obtain ⟨c0, c1, c2, c3, c4, c5, c6, c7⟩ := HC3.out.cells8
  have f5 := HC3.out.frozen 5
  have hcl : c < gx := by have := HLT.out c HFC.out; omega
  have HC5 : Hid (Blk (W3.setCell ⟨c, 5, none⟩ (.int .i64 (s.misses + 1))) c 89 #[.pointer (some ⟨c, 0, none⟩), .int .i64 s.size, .int .i64 s.seq, .pointer (some ⟨o, 0, none⟩), .int .i64 s.hits, .int .i64 (s.misses + 1), .int .i64 s.evicted, .int .i64 s.resets]) := Lib.hid (by simpa using HC3.out.set 5 (.int .i64 (s.misses + 1)))
  have HV5 := Lib.hid (HV3.out.far (p := ⟨c, 5, none⟩) (by simp; omega) (.int .i64 (s.misses + 1)))
  have HD5 := Lib.hid (HD3.out.far (p := ⟨c, 5, none⟩) (by simp; omega) (.int .i64 (s.misses + 1)))
  have hA5 : Apart (fun k => k = c) W3 (W3.setCell ⟨c, 5, none⟩ (.int .i64 (s.misses + 1))) := Apart.setCell (F := fun k => k = c) (p := ⟨c, 5, none⟩) Apart.refl (.inl rfl) _
  have HO5 := Lib.hid (HO3.out.apart hA5 (c_ne HC3.out HO3.out))
  have HA5 := Lib.hid (HA3.out.trans hA5 (fun k hk => .inl (by subst hk; exact HFC.out)))
  clear hA5 HD3 HV3 HC3 HO3 HA3 HO HV HC HB3 HB2
  go_upto_region 7 with fail
  clear c0 c1 c2 c3 c4 c5 c6 c7 f5
  generalize W3.setCell ⟨c, 5, none⟩ (.int .i64 (s.misses + 1)) = W5 at *
  obtain ⟨d0, d1, d2, d3, d4, _⟩ := HD5.out.cells5
  obtain ⟨r0, r1, r2, r3, r4, f0, f1, f2, f3, f4⟩ := HV5.out.cells5
  have hA6 : Apart (fun k => k = gx) W5 (((((W5.setCell ⟨gx, 0, none⟩ (.int .u32 0)).setCell ⟨gx, 1, none⟩ (.int .u32 0)).setCell ⟨gx, 2, none⟩ (.int .u32 0)).setCell ⟨gx, 3, none⟩ (.bool false)).setCell ⟨gx, 4, none⟩ (.int .i64 0)) := apart_set5 (G := fun k => k = gx) (g := gx) Apart.refl (.inl rfl) _ _ _ _ _
  have HS := Lib.hid (HV5.out.set5 (.int .u32 0) (.int .u32 0) (.int .u32 0) (.bool false) (.int .i64 0))
  have HO6 := Lib.hid (HO5.out.apart hA6 (fun k hk e => by have := HLT.out k (HOF.out k hk); omega))
  have HC6 := Lib.hid (hA6.blk HC5.out (by omega))
  have HA6 := Lib.hid (HA5.out.trans hA6 (fun k hk => .inr (by subst hk; omega)))
  clear hA6 HV5 HD5 HO5 HC5 HA5
  go_wp2_with fail
  clear r0 r1 r2 r3 r4 f0 f1 f2 f3 f4 d0 d1 d2 d3 d4
  generalize ((((W5.setCell ⟨gx, 0, none⟩ (.int .u32 0)).setCell ⟨gx, 1, none⟩ (.int .u32 0)).setCell ⟨gx, 2, none⟩ (.int .u32 0)).setCell ⟨gx, 3, none⟩ (.bool false)).setCell ⟨gx, 4, none⟩ (.int .i64 0) = W6 at *
  obtain ⟨r0, r1, r2, r3, r4, _⟩ := HS.out.cells5
  refine bodyPost_ret (v := .tuple #[.agg #[.int .u32 0, .int .u32 0, .int .u32 0, .bool false, .int .i64 0], .bool false]) (by simp [results, Try.results28, go_sem, r0, r1, r2, r3, r4]) rfl ⟨rfl, HC6.out, HO6.out, HA6.out⟩
end
def valD (d : Dc) : Value := .agg #[.int .u32 d.al, .int .u32 d.aa, .int .u32 d.ad, .bool d.pm, .int .i64 d.sq]
/-- Find, whether the key is there or not -/
theorem find_c {w : World} {F : Nat → Prop} {c : Nat} {s : CS} {n : Nat} (k : K3) (h : CF w F c s) (hs : Sm n s) (hn : n ≤ 1000000) (wk : WK k) :
    Calls Try.prog 28 #[.pointer (some ⟨c, 0, none⟩), .int .i64 k.a, .int .i64 k.b, .int .i64 k.c] w fun e w' => e = .returned (.tuple #[valD (gotC s k), .bool (isC s k)]) ∧ CTo w w' F c (findC s k) := by
  have h0 := h
  obtain ⟨o, r, m, S, h1, h2, h3, h4, h5, h6⟩ := h
  cases hk : hasK (S.map Lk.en) k
  · have hl := look_en hk
    rw [h3] at hl
    refine (find_no h0 h1 h2 h4 h5 h6 wk hk hs.m.1 (by have := hs.m.2; omega)).mono ?_
    rintro e w' ⟨rfl, hb, ho, ha⟩
    unfold gotC isC findC
    rw [hl]
    exact ⟨rfl, CTo.mk h4 hb ho h3 (fun j hj => .inl (h5 j hj)) ha⟩
  · obtain ⟨S1, x, S2, rfl, rfl⟩ := hasK_split hk
    have hl := look_split h2.kd
    have hd := del_split h2.kd
    rw [h3] at hl hd
    refine (find_in h0 h1 h2 h4 h5 h6 hs.h.1 (by have := hs.h.2; omega)).mono ?_
    rintro e w' ⟨rfl, hb, ho, ha⟩
    unfold gotC isC findC
    rw [hl]
    refine ⟨rfl, CTo.mk h4 hb ho ?_ (fun j hj => .inl (h5 j ?_)) ha⟩
    · simp only
      rw [hd]
      rfl
    · rcases hj with h | h | h | ⟨y, hy, rfl⟩
      · exact .inl h
      · exact .inr (.inl h)
      · exact .inr (.inr (.inl h))
      · exact .inr (.inr (.inr ⟨y, List.perm_middle.mem_iff.2 hy, rfl⟩))
end Go.Proofs.Ytbcbhgclgakljaa
