/- The reference's used. -/
import Derived.Test.YtbcbhgclgakljaaKed
namespace Go.Proofs.Ytbcbhgclgakljaa
open Go.RowKit Go.Maps Go.WideElems Go.WideShapes
theorem uC.blk {w1 w : World} {gy : Nat} {s : CS} {k : K3} {dc : Dc} {vd : Value} {d : Nat → Bool} (h : uC w1 gy s k dc vd d w) : ∃ v u, Blk w gy 29 (stA s v u) := by
  cases h7 : d 7 with
  | false => obtain ⟨v, _, h2⟩ := h.y h7; exact ⟨_, _, h2⟩
  | true => obtain ⟨v, u, _, _, h3⟩ := h.y2 h7; exact ⟨_, _, h3⟩
theorem uP_mkN {w1 w : World} {i : Nat} {k : K3} {dc : Dc} {u : Value} {val : Nat → Option Value} (h1 : i ≠ 1) (h3 : i ≠ 3) (hy : val i = none) : uP w1 k dc val i u w := by
  unfold uP
  rw [if_neg h1, if_neg h3]
  intro y hz
  rw [hy] at hz
  cases hz
theorem Blk.grown {w w' : World} {g : Nat} {t : TypeId} {cs : Array Value} {row : Option Nat} (h : Blk w g t cs) (hg : w.grownBy w' row) (hne : row ≠ some g) : Blk w' g t cs := by
  obtain ⟨_, _, _, _, hb⟩ := hg
  exact (hb g h.lt (fun e => hne e.symm)).trans h
theorem grown_below {w w' : World} {B : Nat} {row : Option Nat} (hg : w.grownBy w' row) (hB : B ≤ w.heap.size) (hr : ∀ g, row = some g → B ≤ g) : Below B w w' := by
  obtain ⟨h1, h2, h3, h4, hb⟩ := hg
  exact ⟨h1, h2, h3, h4, fun i hi => hb i (by omega) (fun e => by have := hr i e.symm; omega)⟩
theorem fk_row {w : World} {s : CS} {vk vd : Value} (h : SR w s vk vd) : vk = .slice none 0 0 ∨ ∃ g o c, vk = .slice (some ⟨g, o, none⟩) (keysK s.L).length c := by
  rcases h.fk with h | ⟨g, c, h⟩
  · exact .inl h
  · exact .inr ⟨g, 0, c, by rw [h]; unfold keysK; rw [List.length_map]⟩
theorem fd_row {w : World} {s : CS} {vk vd : Value} (h : SR w s vk vd) : vd = .slice none 0 0 ∨ ∃ g o c, vd = .slice (some ⟨g, o, none⟩) (s.L.map (·.2)).length c := by
  rcases h.fd with h | ⟨g, c, h⟩
  · exact .inl h
  · exact .inr ⟨g, 0, c, by rw [h, List.length_map]⟩
theorem own_ne {α β : Type} {R : RowT α} {R' : RowT β} {w : World} {B : Nat} {v v' : Value} {L : List α} {L' : List β} (h : Own R w B v L) (h' : Own R' w B v' L') (ht : R.te ≠ R'.te) : v.ownBlock = none ∨ v.ownBlock ≠ v'.ownBlock := by
  rcases h.form with ⟨rfl, _⟩ | ⟨g, cap, cur, rfl, _, hg, _⟩
  · exact .inl rfl
  · rcases h'.form with ⟨rfl, _⟩ | ⟨g', cap', cur', rfl, _, hg', _⟩
    · exact .inr (by simp [Value.ownBlock])
    · refine .inr (fun e => ht ?_)
      have e : g = g' := by simpa [Value.ownBlock] using e
      subst e
      rw [hg] at hg'
      simp only [Option.some.injEq, Obj.cells.injEq] at hg'
      exact hg'.2.1
theorem own_cell {α : Type} {R : RowT α} {w : World} {B g i : Nat} {v x : Value} {L : List α} (h : Own R w B v L) (hg : g < B) : Own R (w.setCell ⟨g, i, none⟩ x) B v L := h.blocks fun j h1 _ => Below.heap_setCell w _ x j (by simp; omega)
theorem own_first {α : Type} {R : RowT α} {w : World} {B n m c : Nat} {ad : Option Addr} {L : List α} (h : Own R w B (.slice ad n c) L) (hn : n = m) : Value.slice ad n c = .slice none 0 0 ∨ ∃ g c', Value.slice ad n c = .slice (some ⟨g, 0, none⟩) m c' := by
  rcases h.form with ⟨e, _⟩ | ⟨g, cap, cur, e, _⟩
  · exact .inl e
  · refine .inr ⟨g, c, ?_⟩
    simp only [Value.slice.injEq] at e
    rw [e.1, hn]
def usV (g7 : Nat) (k : K3) (d : Dc) : Nat → Option Value
  | 0 => some (.agg #[.int .i64 k.a, .int .i64 k.b, .int .i64 k.c])
  | 2 => some (.agg #[.int .u32 d.al, .int .u32 d.aa, .int .u32 d.ad, .bool d.pm, .int .i64 d.sq])
  | 4 => some (.pointer (some ⟨g7, 2, none⟩))
  | 6 => some (.pointer (some ⟨g7, 3, none⟩))
  | _ => none
set_option maxRecDepth 100000 in
set_option maxHeartbeats 16000000 in
theorem rused_n (s : CS) (ao bo : Option Addr) (n cap cbp : Nat) (k : K3) (d : Dc) (w : World) (h : SR w s (.slice ao n cap) (.slice bo n cbp)) (hn : s.L.length = n) (hl : n ≤ 50000) :
    Calls Try.prog 54 #[.agg #[.int .i64 s.size, .int .i64 s.seq, .slice ao n cap, .slice bo n cbp, .int .i64 s.hits, .int .i64 s.misses, .int .i64 s.evicted, .int .i64 s.resets], .agg #[.int .i64 k.a, .int .i64 k.b, .int .i64 k.c], .agg #[.int .u32 d.al, .int .u32 d.aa, .int .u32 d.ad, .bool d.pm, .int .i64 d.sq]] w fun e w' => ∃ vk' vd', e = .returned (.agg #[.int .i64 s.size, .int .i64 s.seq, vk', vd', .int .i64 s.hits, .int .i64 s.misses, .int .i64 s.evicted, .int .i64 s.resets]) ∧ SR w' { s with L := (k, d) :: s.L } vk' vd' ∧ Below w.heap.size w w' ∧ Own RK w' w.heap.size vk' (k :: keysK s.L) ∧ Own RD w' w.heap.size vd' (d :: s.L.map (·.2)) := by
  have HB : Hid (Below w.heap.size w (((((w.alloc (.cells #[.int .i64 s.size, .int .i64 s.seq, .slice ao n cap, .slice bo n cbp, .int .i64 s.hits, .int .i64 s.misses, .int .i64 s.evicted, .int .i64 s.resets] 29)).alloc (.cells #[.int .i64 k.a, .int .i64 k.b, .int .i64 k.c] 84)).alloc (.cells #[.int .u32 d.al, .int .u32 d.aa, .int .u32 d.ad, .bool d.pm, .int .i64 d.sq] 39)).alloc (.cells #[.int .i64 0, .int .i64 0, .slice none 0 0, .slice none 0 0, .int .i64 0, .int .i64 0, .int .i64 0, .int .i64 0] 29)).alloc (.cells #[.int .i64 s.size, .int .i64 s.seq, .slice ao n cap, .slice bo n cbp, .int .i64 s.hits, .int .i64 s.misses, .int .i64 s.evicted, .int .i64 s.resets] 29))) := Lib.hid (((((((Below.refl _ _).alloc (Nat.le_refl _) _).alloc (by simp) _).alloc (by simp; omega) _).alloc (by simp; omega) _).alloc (by simp; omega) _))
  have HS : Hid (Blk (((((w.alloc (.cells #[.int .i64 s.size, .int .i64 s.seq, .slice ao n cap, .slice bo n cbp, .int .i64 s.hits, .int .i64 s.misses, .int .i64 s.evicted, .int .i64 s.resets] 29)).alloc (.cells #[.int .i64 k.a, .int .i64 k.b, .int .i64 k.c] 84)).alloc (.cells #[.int .u32 d.al, .int .u32 d.aa, .int .u32 d.ad, .bool d.pm, .int .i64 d.sq] 39)).alloc (.cells #[.int .i64 0, .int .i64 0, .slice none 0 0, .slice none 0 0, .int .i64 0, .int .i64 0, .int .i64 0, .int .i64 0] 29)).alloc (.cells #[.int .i64 s.size, .int .i64 s.seq, .slice ao n cap, .slice bo n cbp, .int .i64 s.hits, .int .i64 s.misses, .int .i64 s.evicted, .int .i64 s.resets] 29)) w.heap.size 29 #[.int .i64 s.size, .int .i64 s.seq, .slice ao n cap, .slice bo n cbp, .int .i64 s.hits, .int .i64 s.misses, .int .i64 s.evicted, .int .i64 s.resets]) := Lib.hid (((((Blk.here rfl).alloc _).alloc _).alloc _).alloc _)
  have HK : Hid (Blk (((((w.alloc (.cells #[.int .i64 s.size, .int .i64 s.seq, .slice ao n cap, .slice bo n cbp, .int .i64 s.hits, .int .i64 s.misses, .int .i64 s.evicted, .int .i64 s.resets] 29)).alloc (.cells #[.int .i64 k.a, .int .i64 k.b, .int .i64 k.c] 84)).alloc (.cells #[.int .u32 d.al, .int .u32 d.aa, .int .u32 d.ad, .bool d.pm, .int .i64 d.sq] 39)).alloc (.cells #[.int .i64 0, .int .i64 0, .slice none 0 0, .slice none 0 0, .int .i64 0, .int .i64 0, .int .i64 0, .int .i64 0] 29)).alloc (.cells #[.int .i64 s.size, .int .i64 s.seq, .slice ao n cap, .slice bo n cbp, .int .i64 s.hits, .int .i64 s.misses, .int .i64 s.evicted, .int .i64 s.resets] 29)) (w.heap.size + 1) 84 #[.int .i64 k.a, .int .i64 k.b, .int .i64 k.c]) := Lib.hid ((((Blk.here (by simp)).alloc _).alloc _).alloc _)
  have HDb : Hid (Blk (((((w.alloc (.cells #[.int .i64 s.size, .int .i64 s.seq, .slice ao n cap, .slice bo n cbp, .int .i64 s.hits, .int .i64 s.misses, .int .i64 s.evicted, .int .i64 s.resets] 29)).alloc (.cells #[.int .i64 k.a, .int .i64 k.b, .int .i64 k.c] 84)).alloc (.cells #[.int .u32 d.al, .int .u32 d.aa, .int .u32 d.ad, .bool d.pm, .int .i64 d.sq] 39)).alloc (.cells #[.int .i64 0, .int .i64 0, .slice none 0 0, .slice none 0 0, .int .i64 0, .int .i64 0, .int .i64 0, .int .i64 0] 29)).alloc (.cells #[.int .i64 s.size, .int .i64 s.seq, .slice ao n cap, .slice bo n cbp, .int .i64 s.hits, .int .i64 s.misses, .int .i64 s.evicted, .int .i64 s.resets] 29)) (w.heap.size + 1 + 1) 39 #[.int .u32 d.al, .int .u32 d.aa, .int .u32 d.ad, .bool d.pm, .int .i64 d.sq]) := Lib.hid (((Blk.here (by simp)).alloc _).alloc _)
  have HZ : Hid (Blk (((((w.alloc (.cells #[.int .i64 s.size, .int .i64 s.seq, .slice ao n cap, .slice bo n cbp, .int .i64 s.hits, .int .i64 s.misses, .int .i64 s.evicted, .int .i64 s.resets] 29)).alloc (.cells #[.int .i64 k.a, .int .i64 k.b, .int .i64 k.c] 84)).alloc (.cells #[.int .u32 d.al, .int .u32 d.aa, .int .u32 d.ad, .bool d.pm, .int .i64 d.sq] 39)).alloc (.cells #[.int .i64 0, .int .i64 0, .slice none 0 0, .slice none 0 0, .int .i64 0, .int .i64 0, .int .i64 0, .int .i64 0] 29)).alloc (.cells #[.int .i64 s.size, .int .i64 s.seq, .slice ao n cap, .slice bo n cbp, .int .i64 s.hits, .int .i64 s.misses, .int .i64 s.evicted, .int .i64 s.resets] 29)) (w.heap.size + 1 + 1 + 1) 29 #[.int .i64 0, .int .i64 0, .slice none 0 0, .slice none 0 0, .int .i64 0, .int .i64 0, .int .i64 0, .int .i64 0]) := Lib.hid ((Blk.here (by simp)).alloc _)
  have HY : Hid (Blk (((((w.alloc (.cells #[.int .i64 s.size, .int .i64 s.seq, .slice ao n cap, .slice bo n cbp, .int .i64 s.hits, .int .i64 s.misses, .int .i64 s.evicted, .int .i64 s.resets] 29)).alloc (.cells #[.int .i64 k.a, .int .i64 k.b, .int .i64 k.c] 84)).alloc (.cells #[.int .u32 d.al, .int .u32 d.aa, .int .u32 d.ad, .bool d.pm, .int .i64 d.sq] 39)).alloc (.cells #[.int .i64 0, .int .i64 0, .slice none 0 0, .slice none 0 0, .int .i64 0, .int .i64 0, .int .i64 0, .int .i64 0] 29)).alloc (.cells #[.int .i64 s.size, .int .i64 s.seq, .slice ao n cap, .slice bo n cbp, .int .i64 s.hits, .int .i64 s.misses, .int .i64 s.evicted, .int .i64 s.resets] 29)) (w.heap.size + 1 + 1 + 1 + 1) 29 #[.int .i64 s.size, .int .i64 s.seq, .slice ao n cap, .slice bo n cbp, .int .i64 s.hits, .int .i64 s.misses, .int .i64 s.evicted, .int .i64 s.resets]) := Lib.hid (Blk.here (by simp))
  have HR := Lib.hid (h.below HB.out)
  have HR0 := Lib.hid h
  have HNN := Lib.hid hn
  have hne36 : w.heap.size ≠ w.heap.size + 1 + 1 + 1 := by omega
  have hne37 : w.heap.size ≠ w.heap.size + 1 + 1 + 1 + 1 := by omega
  have hne67 : w.heap.size + 1 + 1 + 1 ≠ w.heap.size + 1 + 1 + 1 + 1 := by omega
  have HNE : Hid (w.heap.size + 1 ≠ w.heap.size + 1 + 1 + 1 + 1 ∧ w.heap.size + 1 + 1 ≠ w.heap.size + 1 + 1 + 1 + 1) := Lib.hid (by omega)
  have HG6 : Hid (w.heap.size ≤ w.heap.size + 1 + 1 + 1) := Lib.hid (by omega)
  have HG7 : Hid (w.heap.size ≤ w.heap.size + 1 + 1 + 1 + 1) := Lib.hid (by omega)
  clear h hn
  go_enter Try.func54, Try.ntmps54
  go_upto_region 2 with fail
  generalize (((((w.alloc (.cells #[.int .i64 s.size, .int .i64 s.seq, .slice ao n cap, .slice bo n cbp, .int .i64 s.hits, .int .i64 s.misses, .int .i64 s.evicted, .int .i64 s.resets] 29)).alloc (.cells #[.int .i64 k.a, .int .i64 k.b, .int .i64 k.c] 84)).alloc (.cells #[.int .u32 d.al, .int .u32 d.aa, .int .u32 d.ad, .bool d.pm, .int .i64 d.sq] 39)).alloc (.cells #[.int .i64 0, .int .i64 0, .slice none 0 0, .slice none 0 0, .int .i64 0, .int .i64 0, .int .i64 0, .int .i64 0] 29)).alloc (.cells #[.int .i64 s.size, .int .i64 s.seq, .slice ao n cap, .slice bo n cbp, .int .i64 s.hits, .int .i64 s.misses, .int .i64 s.evicted, .int .i64 s.resets] 29)) = W at *
  generalize w.heap.size + 1 + 1 + 1 + 1 = g7 at *
  generalize w.heap.size + 1 + 1 + 1 = g6 at *
  generalize w.heap.size + 1 + 1 = g5 at *
  generalize w.heap.size + 1 = g4 at *
  generalize hgx : w.heap.size = g3 at *
  have HLT := Lib.hid HY.out.lt
  refine wp_region_lnk (uC W g7 s k d (.slice bo n cbp)) (uR W g7 k d) (uP W k d (usV g7 k d)) (fun _ => none) (by kernel_rfl) (by kernel_rfl) (by kernel_rfl) ⟨Apart.of (Below.refl _ _).drew, fun _ => ⟨.slice ao n cap, fun h => by simp at h, HY.out.drew⟩, fun h => by simp at h⟩ (uC_step HLT.out) [] (by kernel_rfl) (fun _ _ _ _ _ _ _ h hr => uP_keep HLT.out h hr) ?_ ?_
  · skip
    refine ⟨⟨trivial, fun A v dd hd hC hF hW K Q hk => ?_⟩, ⟨trivial, fun A v dd hd hC hF hW K Q hk => ?_⟩, ⟨trivial, fun A v dd hd hC hF hW K Q hk => ?_⟩, ⟨trivial, fun A v dd hd hC hF hW K Q hk => ?_⟩, ⟨trivial, fun A v dd hd hC hF hW K Q hk => ?_⟩, ⟨trivial, fun A v dd hd hC hF hW K Q hk => ?_⟩, ⟨trivial, fun A v dd hd hC hF hW K Q hk => ?_⟩, ⟨trivial, fun A v dd hd hC hF hW K Q hk => ?_⟩, trivial⟩
    · have f4 : A.tmps[4]?.getD undef = .pointer (some ⟨g4, 0, none⟩) := fg_none (hF 4) (by kernel_rfl)
      obtain ⟨y0, y1, y2⟩ : v.cell? ⟨g4, 0, none⟩ = some (.int .i64 k.a) ∧ v.cell? ⟨g4, 1, none⟩ = some (.int .i64 k.b) ∧ v.cell? ⟨g4, 2, none⟩ = some (.int .i64 k.c) := by have hb4 := hC.b.blk HK.out HNE.out.1; exact ⟨hb4.cell 0, hb4.cell 1, hb4.cell 2⟩
      refine Giv.wp (φ := uP W k d (usV g7 k d) 0) ?_ hk
      unfold Giv
      go_simp
      exact giv_val (P := Try.prog) (by unfold uR; rw [if_neg (by decide), if_neg (by decide), if_neg (by decide), if_neg (by decide)]) (uP_mk (by decide) (by decide) rfl)
    · have f9 : A.tmps[9]?.getD undef = .agg #[.int .i64 k.a, .int .i64 k.b, .int .i64 k.c] := uP_val (fg_some (hF 9) (j := 0) (by kernel_rfl) (by kernel_rfl)) (by decide) (by decide) rfl
      refine Giv.wp (φ := uP W k d (usV g7 k d) 1) ?_ hk
      unfold Giv
      go_simp
      exact giv_val (P := Try.prog) (by unfold uR; rw [if_pos rfl]; rfl) (by unfold uP; rw [if_pos rfl]; exact ⟨⟨_, rfl⟩, (own_one RK v k).base hC.b.size⟩)
    · have f5 : A.tmps[5]?.getD undef = .pointer (some ⟨g5, 0, none⟩) := fg_none (hF 5) (by kernel_rfl)
      obtain ⟨y0, y1, y2, y3, y4, _⟩ := (hC.b.blk HDb.out HNE.out.2).cells5
      refine Giv.wp (φ := uP W k d (usV g7 k d) 2) ?_ hk
      unfold Giv
      go_simp
      exact giv_val (P := Try.prog) (by unfold uR; rw [if_neg (by decide), if_neg (by decide), if_neg (by decide), if_neg (by decide)]) (uP_mk (by decide) (by decide) rfl)
    · have f11 : A.tmps[11]?.getD undef = .agg #[.int .u32 d.al, .int .u32 d.aa, .int .u32 d.ad, .bool d.pm, .int .i64 d.sq] := uP_val (fg_some (hF 11) (j := 2) (by kernel_rfl) (by kernel_rfl)) (by decide) (by decide) rfl
      refine Giv.wp (φ := uP W k d (usV g7 k d) 3) ?_ hk
      unfold Giv
      go_simp
      exact giv_val (P := Try.prog) (by unfold uR; rw [if_neg (by decide), if_pos rfl]; rfl) (by unfold uP; rw [if_neg (by decide), if_pos rfl]; exact ⟨⟨_, rfl⟩, (own_one RD v d).base hC.b.size⟩)
    · have f7 : A.tmps[7]?.getD undef = .pointer (some ⟨g7, 0, none⟩) := fg_none (hF 7) (by kernel_rfl)
      refine Giv.wp (φ := uP W k d (usV g7 k d) 4) ?_ hk
      unfold Giv
      go_simp
      exact giv_val (P := Try.prog) (by unfold uR; rw [if_neg (by decide), if_neg (by decide), if_neg (by decide), if_neg (by decide)]) (uP_mk (by decide) (by decide) rfl)
    · have f13 : A.tmps[13]?.getD undef = .pointer (some ⟨g7, 2, none⟩) := uP_val (fg_some (hF 13) (j := 4) (by kernel_rfl) (by kernel_rfl)) (by decide) (by decide) rfl
      have hp10 := fg_some (hF 10) (j := 1) (by kernel_rfl) (by kernel_rfl)
      unfold uP at hp10
      rw [if_pos rfl] at hp10
      obtain ⟨⟨gg, f10⟩, hown⟩ := hp10
      rw [f10] at hown
      obtain ⟨q1, q2, hby⟩ := hC.blk
      have hc := hby.cell 2
      have hf := hby.frozen 2
      simp only [stA, List.getElem?_toArray, List.getElem?_cons_zero, List.getElem?_cons_succ] at hc
      refine Giv.wp (φ := uP W k d (usV g7 k d) 5) ?_ hk
      unfold Giv
      go_simp
      first | exact giv_skip (P := Try.prog) (by unfold uR; rw [if_neg (by decide), if_neg (by decide), if_pos rfl]; exact ⟨_, hown, rfl⟩) (uP_mkN (by decide) (by decide) rfl) | exact giv_val (P := Try.prog) (by unfold uR; rw [if_neg (by decide), if_neg (by decide), if_pos rfl]; exact ⟨_, hown, rfl⟩) (uP_mkN (by decide) (by decide) rfl)
    · have f7 : A.tmps[7]?.getD undef = .pointer (some ⟨g7, 0, none⟩) := fg_none (hF 7) (by kernel_rfl)
      refine Giv.wp (φ := uP W k d (usV g7 k d) 6) ?_ hk
      unfold Giv
      go_simp
      exact giv_val (P := Try.prog) (by unfold uR; rw [if_neg (by decide), if_neg (by decide), if_neg (by decide), if_neg (by decide)]) (uP_mk (by decide) (by decide) rfl)
    · have f14 : A.tmps[14]?.getD undef = .pointer (some ⟨g7, 3, none⟩) := uP_val (fg_some (hF 14) (j := 6) (by kernel_rfl) (by kernel_rfl)) (by decide) (by decide) rfl
      have hp12 := fg_some (hF 12) (j := 3) (by kernel_rfl) (by kernel_rfl)
      unfold uP at hp12
      rw [if_neg (by decide), if_pos rfl] at hp12
      obtain ⟨⟨gg, f12⟩, hown⟩ := hp12
      rw [f12] at hown
      obtain ⟨q1, q2, hby⟩ := hC.blk
      have hc := hby.cell 3
      have hf := hby.frozen 3
      simp only [stA, List.getElem?_toArray, List.getElem?_cons_zero, List.getElem?_cons_succ] at hc
      refine Giv.wp (φ := uP W k d (usV g7 k d) 7) ?_ hk
      unfold Giv
      go_simp
      first | exact giv_skip (P := Try.prog) (by unfold uR; rw [if_neg (by decide), if_neg (by decide), if_neg (by decide), if_pos rfl]; exact ⟨_, hown, rfl⟩) (uP_mkN (by decide) (by decide) rfl) | exact giv_val (P := Try.prog) (by unfold uR; rw [if_neg (by decide), if_neg (by decide), if_neg (by decide), if_pos rfl]; exact ⟨_, hown, rfl⟩) (uP_mkN (by decide) (by decide) rfl)
  · intro a0 W9 dd hsd hC hsz hdf hF hL
    obtain ⟨v, u, hv, hu, hy9⟩ := hC.y2 (hsd 7 (by decide))
    have HV := Lib.hid (hv (hsd 5 (by decide)))
    have HU := Lib.hid hu
    have HY9 := Lib.hid hy9
    have HA9 := Lib.hid hC.b
    have ha := end_gen [false, false, false, false, false, false, false, false, false, true, true, true, true, true, true] hsz hdf hF (by kernel_rfl)
    rw [ha]
    clear ha hF hL hsd hC hv hu hy9
    simp only [cutM_yes, cutM_no, cutM_nil, Nat.reduceAdd]
    generalize a0.tmps[9]?.getD undef = s9
    generalize a0.tmps[10]?.getD undef = s10
    generalize a0.tmps[11]?.getD undef = s11
    generalize a0.tmps[12]?.getD undef = s12
    generalize a0.tmps[13]?.getD undef = s13
    generalize a0.tmps[14]?.getD undef = s14
    clear hsz hdf
    have hbw : Below w.heap.size w W9 := by rw [hgx]; exact HB.out.trans (HA9.out.below (by have := HB.out.size; omega) (fun j e => by have := HG7.out; omega))
    have HBW := Lib.hid hbw
    have HS9 := Lib.hid (HA9.out.blk HS.out hne37)
    have HZ9 := Lib.hid (HA9.out.blk HZ.out hne67)
    have hsz9 : W.heap.size ≤ W9.heap.size := HA9.out.size
    obtain ⟨va, vc, rfl⟩ := HV.out.isSl
    obtain ⟨ua, uc, rfl⟩ := HU.out.isSl
    clear hbw
    obtain ⟨c0, c1, c2, c3, c4, c5, c6, c7⟩ := HS9.out.cells8
    obtain ⟨y0, y1, y2, y3, y4, y5, y6, y7⟩ := Blk.cells8 (show Blk W9 g7 29 (stA s _ _) from HY9.out)
    go_upto_region 3 with fail
    obtain ⟨nk, hlk⟩ : ∃ nk, ([k] ++ keysK s.L).length = nk := ⟨_, rfl⟩
    obtain ⟨nd, hld⟩ : ∃ nd, ([d] ++ s.L.map (·.2)).length = nd := ⟨_, rfl⟩
    have HLKN := Lib.hid hlk
    have HLDN := Lib.hid hld
    clear hlk hld
    have HLK : Hid ([k].length + (keysK s.L).length ≤ 100000) := Lib.hid (by unfold keysK; have := HNN.out; simp; omega)
    have HLD : Hid ([d].length + (s.L.map (·.2)).length ≤ 100000) := Lib.hid (by have := HNN.out; simp; omega)
    go_upto_region 4 with (first | (at_builtin; refine wpList_append_row RK rfl _ _ rfl W.heap.size (.slice va 1 vc) [k] rfl HV.out (.slice ao n cap) (keysK s.L) rfl (HR0.out.below HBW.out).k (fk_row HR0.out) HLK.out hsz9 ?_; intro v2 w2 h1 h2; have HV2 := Lib.hid h1; have HG2 := Lib.hid h2; clear h1 h2; have hno : (Value.slice va 1 vc).ownBlock ≠ some g7 := (fun e => by have := (HV.out.lt _ e).1; have := HLT.out; omega); have HY2 := Lib.hid (HY9.out.grown HG2.out hno); have f2 := HY2.out.frozen 2; have e2 := HY2.out.cell 2; simp only [stA, List.getElem?_toArray, List.getElem?_cons_zero, List.getElem?_cons_succ] at e2; obtain ⟨va2, vc2, hv2⟩ := HV2.out.isSl; rw [HLKN.out] at hv2; subst hv2) | fail)
    have hne9 : (Value.slice ua 1 uc).ownBlock = none ∨ (Value.slice ua 1 uc).ownBlock ≠ (Value.slice va 1 vc).ownBlock := own_ne HU.out HV.out (by decide)
    have HU2 := Lib.hid (HU.out.kept HG2.out hne9)
    have hv9 : ∀ g, (Value.slice va 1 vc).ownBlock = some g → W.heap.size ≤ g := fun g e => (HV.out.lt g e).1
    have HS2 := Lib.hid (HS9.out.grown HG2.out (fun e => by have := hv9 _ e; have := HS.out.lt; omega))
    have HZ2 := Lib.hid (HZ9.out.grown HG2.out (fun e => by have := hv9 _ e; have := HZ.out.lt; omega))
    have HB2 : Hid (Below g3 w w2) := Lib.hid (by have h1 := HBW.out; rw [hgx] at h1; exact h1.trans (grown_below HG2.out (by have := HB.out.size; omega) (fun g e => by have := hv9 g e; have := HB.out.size; omega)))
    have hz2 : W.heap.size ≤ w2.heap.size := by obtain ⟨_, _, _, h4, _⟩ := HG2.out; omega
    have HY3 : Hid (Blk (w2.setCell ⟨g7, 2, none⟩ (.slice va2 nk vc2)) g7 29 (stA s (.slice va2 nk vc2) (.slice ua 1 uc))) := Lib.hid (by simpa [stA] using HY2.out.set 2 (.slice va2 nk vc2))
    have HV3 : Hid (Own RK (w2.setCell ⟨g7, 2, none⟩ (.slice va2 nk vc2)) W.heap.size (.slice va2 nk vc2) ([k] ++ keysK s.L)) := Lib.hid (own_cell HV2.out HLT.out)
    have HU3 : Hid (Own RD (w2.setCell ⟨g7, 2, none⟩ (.slice va2 nk vc2)) W.heap.size (.slice ua 1 uc) [d]) := Lib.hid (own_cell HU2.out HLT.out)
    have HS3 : Hid (Blk (w2.setCell ⟨g7, 2, none⟩ (.slice va2 nk vc2)) g3 29 #[.int .i64 s.size, .int .i64 s.seq, .slice ao n cap, .slice bo n cbp, .int .i64 s.hits, .int .i64 s.misses, .int .i64 s.evicted, .int .i64 s.resets]) := Lib.hid (HS2.out.far (p := ⟨g7, 2, none⟩) hne37 _)
    have HZ3 : Hid (Blk (w2.setCell ⟨g7, 2, none⟩ (.slice va2 nk vc2)) g6 29 #[.int .i64 0, .int .i64 0, .slice none 0 0, .slice none 0 0, .int .i64 0, .int .i64 0, .int .i64 0, .int .i64 0]) := Lib.hid (HZ2.out.far (p := ⟨g7, 2, none⟩) hne67 _)
    have HB3 : Hid (Below g3 w (w2.setCell ⟨g7, 2, none⟩ (.slice va2 nk vc2))) := Lib.hid (HB2.out.setCell (p := ⟨g7, 2, none⟩) HG7.out _)
    have hz3 : W.heap.size ≤ (w2.setCell ⟨g7, 2, none⟩ (.slice va2 nk vc2)).heap.size := by simpa [World.setCell] using hz2
    generalize w2.setCell ⟨g7, 2, none⟩ (.slice va2 nk vc2) = w3 at *
    clear c0 c1 c2 c3 c4 c5 c6 c7 y0 y1 y2 y3 y4 y5 y6 y7 f2 e2 hno hne9 hv9 hz2
    obtain ⟨c0, c1, c2, c3, c4, c5, c6, c7⟩ := HS3.out.cells8
    obtain ⟨y0, y1, y2, y3, y4, y5, y6, y7⟩ := Blk.cells8 (show Blk w3 g7 29 (stA s _ _) from HY3.out)
    have HBW3 : Hid (Below w.heap.size w w3) := Lib.hid (by rw [hgx]; exact HB3.out)
    go_upto_region 5 with (first | (at_builtin; refine wpList_append_row RD rfl _ _ rfl W.heap.size (.slice ua 1 uc) [d] rfl HU3.out (.slice bo n cbp) (s.L.map (·.2)) rfl (HR0.out.below HBW3.out).d (fd_row HR0.out) HLD.out hz3 ?_; intro v4 w4 h1 h2; have HU4 := Lib.hid h1; have HG4 := Lib.hid h2; clear h1 h2; have hno : (Value.slice ua 1 uc).ownBlock ≠ some g7 := (fun e => by have := (HU3.out.lt _ e).1; have := HLT.out; omega); have HY4 := Lib.hid (HY3.out.grown HG4.out hno); have f3 := HY4.out.frozen 3; have e3 := HY4.out.cell 3; simp only [stA, List.getElem?_toArray, List.getElem?_cons_zero, List.getElem?_cons_succ] at e3; obtain ⟨ua2, uc2, hv2⟩ := HU4.out.isSl; rw [HLDN.out] at hv2; subst hv2) | fail)
    have hne9 : (Value.slice va2 nk vc2).ownBlock = none ∨ (Value.slice va2 nk vc2).ownBlock ≠ (Value.slice ua 1 uc).ownBlock := own_ne HV3.out HU3.out (by decide)
    have HV4 := Lib.hid (HV3.out.kept HG4.out hne9)
    have hv9 : ∀ g, (Value.slice ua 1 uc).ownBlock = some g → W.heap.size ≤ g := fun g e => (HU3.out.lt g e).1
    have HZ4 := Lib.hid (HZ3.out.grown HG4.out (fun e => by have := hv9 _ e; have := HZ.out.lt; omega))
    have HB4 : Hid (Below g3 w w4) := Lib.hid (HB3.out.trans (grown_below HG4.out (by have := HB3.out.size; omega) (fun g e => by have := hv9 g e; have := HB.out.size; omega)))
    have HY5 : Hid (Blk (w4.setCell ⟨g7, 3, none⟩ (.slice ua2 nd uc2)) g7 29 (stA s (.slice va2 nk vc2) (.slice ua2 nd uc2))) := Lib.hid (by simpa [stA] using HY4.out.set 3 (.slice ua2 nd uc2))
    have HV5 : Hid (Own RK (w4.setCell ⟨g7, 3, none⟩ (.slice ua2 nd uc2)) W.heap.size (.slice va2 nk vc2) ([k] ++ keysK s.L)) := Lib.hid (own_cell HV4.out HLT.out)
    have HU5 : Hid (Own RD (w4.setCell ⟨g7, 3, none⟩ (.slice ua2 nd uc2)) W.heap.size (.slice ua2 nd uc2) ([d] ++ s.L.map (·.2))) := Lib.hid (own_cell HU4.out HLT.out)
    have HZ5 : Hid (Blk (w4.setCell ⟨g7, 3, none⟩ (.slice ua2 nd uc2)) g6 29 #[.int .i64 0, .int .i64 0, .slice none 0 0, .slice none 0 0, .int .i64 0, .int .i64 0, .int .i64 0, .int .i64 0]) := Lib.hid (HZ4.out.far (p := ⟨g7, 3, none⟩) hne67 _)
    have HB5 : Hid (Below g3 w (w4.setCell ⟨g7, 3, none⟩ (.slice ua2 nd uc2))) := Lib.hid (HB4.out.setCell (p := ⟨g7, 3, none⟩) HG7.out _)
    generalize w4.setCell ⟨g7, 3, none⟩ (.slice ua2 nd uc2) = w5 at *
    clear c0 c1 c2 c3 c4 c5 c6 c7 y0 y1 y2 y3 y4 y5 y6 y7 f3 e3 hno hne9 hv9
    obtain ⟨y0, y1, y2, y3, y4, y5, y6, y7⟩ := Blk.cells8 (show Blk w5 g7 29 (stA s _ _) from HY5.out)
    obtain ⟨z0, z1, z2, z3, z4, z5, z6, z7⟩ := HZ5.out.cells8
    obtain ⟨f0, f1, f2, f3, f4, f5, f6, f7⟩ := HZ5.out.fro8
    go_wp2_with fail
    have hb := HZ5.out.set8 (.int .i64 s.size) (.int .i64 s.seq) (.slice va2 nk vc2) (.slice ua2 nd uc2) (.int .i64 s.hits) (.int .i64 s.misses) (.int .i64 s.evicted) (.int .i64 s.resets)
    have ha := apart_set8 w5 g6 (.int .i64 s.size) (.int .i64 s.seq) (.slice va2 nk vc2) (.slice ua2 nd uc2) (.int .i64 s.hits) (.int .i64 s.misses) (.int .i64 s.evicted) (.int .i64 s.resets)
    have HL6 := HZ.out.lt
    have hv6 : Own RK (set8 w5 g6 (.int .i64 s.size) (.int .i64 s.seq) (.slice va2 nk vc2) (.slice ua2 nd uc2) (.int .i64 s.hits) (.int .i64 s.misses) (.int .i64 s.evicted) (.int .i64 s.resets)) W.heap.size (.slice va2 nk vc2) ([k] ++ keysK s.L) := HV5.out.blocks fun j h1 h2 => ha.block j h2 (by omega)
    have hu6 : Own RD (set8 w5 g6 (.int .i64 s.size) (.int .i64 s.seq) (.slice va2 nk vc2) (.slice ua2 nd uc2) (.int .i64 s.hits) (.int .i64 s.misses) (.int .i64 s.evicted) (.int .i64 s.resets)) W.heap.size (.slice ua2 nd uc2) ([d] ++ s.L.map (·.2)) := HU5.out.blocks fun j h1 h2 => ha.block j h2 (by omega)
    unfold set8 at hb ha hv6 hu6
    generalize (((((((w5.setCell ⟨g6, 0, none⟩ (.int .i64 s.size)).setCell ⟨g6, 1, none⟩ (.int .i64 s.seq)).setCell ⟨g6, 2, none⟩ (.slice va2 nk vc2)).setCell ⟨g6, 3, none⟩ (.slice ua2 nd uc2)).setCell ⟨g6, 4, none⟩ (.int .i64 s.hits)).setCell ⟨g6, 5, none⟩ (.int .i64 s.misses)).setCell ⟨g6, 6, none⟩ (.int .i64 s.evicted)).setCell ⟨g6, 7, none⟩ (.int .i64 s.resets) = w6 at *
    obtain ⟨q0, q1, q2, q3, q4, q5, q6, q7⟩ := hb.cells8
    have hbw : Below w.heap.size w w6 := by rw [hgx]; exact HB5.out.trans (ha.below (by have := HB5.out.size; omega) (fun j e => by have := HG6.out; omega))
    refine bodyPost_ret (v := .agg #[.int .i64 s.size, .int .i64 s.seq, .slice va2 nk vc2, .slice ua2 nd uc2, .int .i64 s.hits, .int .i64 s.misses, .int .i64 s.evicted, .int .i64 s.resets]) (by simp [results, Try.results54, go_sem, q0, q1, q2, q3, q4, q5, q6, q7]) rfl ?_
    have hBB := HB.out.size
    refine ⟨_, _, rfl, ⟨hv6.rows, hu6.rows, ?_, ?_⟩, by first | exact hbw | (rw [← hgx]; exact hbw), hv6.base (by omega), hu6.base (by omega)⟩
    · exact own_first hv6 (by rw [← HLKN.out]; unfold keysK; simp)
    · exact own_first hu6 (by rw [← HLDN.out]; simp)
theorem rused_c (s : CS) (vk vd : Value) (k : K3) (d : Dc) (w : World) (h : SR w s vk vd) (hl : s.L.length ≤ 50000) :
    Calls Try.prog 54 #[.agg #[.int .i64 s.size, .int .i64 s.seq, vk, vd, .int .i64 s.hits, .int .i64 s.misses, .int .i64 s.evicted, .int .i64 s.resets], .agg #[.int .i64 k.a, .int .i64 k.b, .int .i64 k.c], .agg #[.int .u32 d.al, .int .u32 d.aa, .int .u32 d.ad, .bool d.pm, .int .i64 d.sq]] w fun e w' => ∃ vk' vd', e = .returned (.agg #[.int .i64 s.size, .int .i64 s.seq, vk', vd', .int .i64 s.hits, .int .i64 s.misses, .int .i64 s.evicted, .int .i64 s.resets]) ∧ SR w' { s with L := (k, d) :: s.L } vk' vd' ∧ Below w.heap.size w w' ∧ Own RK w' w.heap.size vk' (k :: keysK s.L) ∧ Own RD w' w.heap.size vd' (d :: s.L.map (·.2)) := by
  obtain ⟨ao, cap, e1, _⟩ := h.k.form
  obtain ⟨bo, cbp, e2, _⟩ := h.d.form
  have l1 : (keysK s.L).length = s.L.length := by unfold keysK; rw [List.length_map]
  rw [l1] at e1
  rw [List.length_map] at e2
  subst e1 e2
  exact rused_n s ao bo s.L.length cap cbp k d w h rfl hl
end Go.Proofs.Ytbcbhgclgakljaa
