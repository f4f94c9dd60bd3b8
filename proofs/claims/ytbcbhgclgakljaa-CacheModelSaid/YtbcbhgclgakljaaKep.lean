/- The law CacheModel: agree. -/
import Derived.Test.YtbcbhgclgakljaaKeo
namespace Go.Proofs.Ytbcbhgclgakljaa
open Go.RowKit Go.Maps Go.WideElems Go.WideShapes
def aP (s : CS) (val : Nat → Option Value) (i : Nat) (u : Value) (w : World) : Prop :=
  if i = 34 then ∃ a k e, u = .slice a k e ∧ Rows' RK w (.slice a k e) (keysK s.L) else ∀ y, val i = some y → u = y
section
variable {w w' : World} {i : Nat} {s : CS} {val : Nat → Option Value} {u y : Value}
theorem aP_keep (h : aP s val i u w) (hb : Below w.heap.size w w') : aP s val i u w' := by
  unfold aP at h ⊢
  split
  · rename_i e
    rw [if_pos e] at h
    obtain ⟨a, k, e, h1, h2⟩ := h
    exact ⟨a, k, e, h1, h2.below hb⟩
  · rename_i e
    rwa [if_neg e] at h
theorem aP_val (h : aP s val i u w) (h1 : i ≠ 34) (hy : val i = some y) : u = y := by
  unfold aP at h
  rw [if_neg h1] at h
  exact h y hy
theorem aP_mk (h1 : i ≠ 34) (hy : val i = some u) : aP s val i u w := by
  unfold aP
  rw [if_neg h1]
  intro y hz
  rw [hy] at hz
  simpa using hz
theorem aP_row (h : aP s val 34 u w) : ∃ a k e, u = .slice a k e ∧ Rows' RK w (.slice a k e) (keysK s.L) := by
  unfold aP at h
  rwa [if_pos rfl] at h
end
def agV (s : CS) (ao bo : Option Addr) (n cap cbp c g3 : Nat) : Nat → Option Value
  | 0 => some (.int .i64 s.hits)
  | 1 => some (.int .i64 s.hits)
  | 2 => some (.bool true)
  | 3 => some (.bool true)
  | 4 => some (.int .i64 s.misses)
  | 5 => some (.int .i64 s.misses)
  | 6 => some (.bool true)
  | 7 => some (.bool true)
  | 8 => some (.bool true)
  | 9 => some (.int .i64 s.evicted)
  | 10 => some (.int .i64 s.evicted)
  | 11 => some (.bool true)
  | 12 => some (.bool true)
  | 13 => some (.bool true)
  | 14 => some (.int .i64 s.resets)
  | 15 => some (.int .i64 s.resets)
  | 16 => some (.bool true)
  | 17 => some (.bool true)
  | 18 => some (.bool true)
  | 19 => some (.pointer (some ⟨c, 0, none⟩))
  | 20 => some (.int .i64 n)
  | 21 => some (.agg #[.int .i64 s.size, .int .i64 s.seq, .slice ao n cap, .slice bo n cbp, .int .i64 s.hits, .int .i64 s.misses, .int .i64 s.evicted, .int .i64 s.resets])
  | 22 => some (.int .i64 n)
  | 23 => some (.bool true)
  | 24 => some (.bool true)
  | 25 => some (.bool true)
  | 26 => some (.pointer (some ⟨c, 0, none⟩))
  | 27 => some (.int .i64 s.seq)
  | 28 => some (.agg #[.int .i64 s.size, .int .i64 s.seq, .slice ao n cap, .slice bo n cbp, .int .i64 s.hits, .int .i64 s.misses, .int .i64 s.evicted, .int .i64 s.resets])
  | 29 => some (.int .i64 s.seq)
  | 30 => some (.bool true)
  | 31 => some (.bool true)
  | 32 => some (.bool true)
  | 33 => some (.pointer (some ⟨c, 0, none⟩))
  | 35 => some (.pointer (some ⟨g3, 2, none⟩))
  | 36 => some (.slice ao n cap)
  | 37 => some (.bool true)
  | 38 => some (.bool true)
  | 39 => some (.bool true)
  | _ => none
set_option maxRecDepth 100000 in
set_option maxHeartbeats 16000000 in
theorem agree_n {w0 w : World} {B c m n cap cbp : Nat} {s : CS} {ao bo : Option Addr} (h : At w0 w (fun _ => False) c m s) (hr : OS w B s (.slice ao n cap) (.slice bo n cbp)) (hn : s.L.length = n) :
    Calls Try.prog 13 #[.pointer (some ⟨c, 0, none⟩), .agg #[.int .i64 s.size, .int .i64 s.seq, .slice ao n cap, .slice bo n cbp, .int .i64 s.hits, .int .i64 s.misses, .int .i64 s.evicted, .int .i64 s.resets]] w fun e w' => e = .returned (.bool true) ∧ Below w.heap.size w w' := by
  have HB0 : Hid (Below w.heap.size w (w.alloc (.cells #[.int .i64 s.size, .int .i64 s.seq, .slice ao n cap, .slice bo n cbp, .int .i64 s.hits, .int .i64 s.misses, .int .i64 s.evicted, .int .i64 s.resets] 29))) := Lib.hid ((Below.refl _ _).alloc (Nat.le_refl _) _)
  have HS0 : Hid (Blk (w.alloc (.cells #[.int .i64 s.size, .int .i64 s.seq, .slice ao n cap, .slice bo n cbp, .int .i64 s.hits, .int .i64 s.misses, .int .i64 s.evicted, .int .i64 s.resets] 29)) w.heap.size 29 #[.int .i64 s.size, .int .i64 s.seq, .slice ao n cap, .slice bo n cbp, .int .i64 s.hits, .int .i64 s.misses, .int .i64 s.evicted, .int .i64 s.resets]) := Lib.hid (Blk.here rfl)
  have HA0 := Lib.hid (h.keep HB0.out)
  have HR0 := Lib.hid (hr.below HB0.out)
  have HNN := Lib.hid hn
  have HLK : Hid ((keysK s.L).length ≤ 100000) := Lib.hid (by unfold keysK; have := h.len; rw [List.length_map]; omega)
  clear h hr hn
  go_enter Try.func13, Try.ntmps13
  go_upto_region 1 with fail
  generalize (w.alloc (.cells #[.int .i64 s.size, .int .i64 s.seq, .slice ao n cap, .slice bo n cbp, .int .i64 s.hits, .int .i64 s.misses, .int .i64 s.evicted, .int .i64 s.resets] 29)) = W at *
  generalize hg3 : w.heap.size = g3 at *
  go_upto_region 2 with (first | (go_at_call 30; refine (stats_at HA0.out).mono ?_; rintro e w2 ⟨rfl, hb⟩; have HB2 := Lib.hid hb; clear hb) | fail)
  have HS2 := Lib.hid (HS0.out.keep HB2.out)
  obtain ⟨c0, c1, c2, c3, c4, c5, c6, c7⟩ := HS2.out.cells8
  go_upto_region 3 with (first | (go_at_call 40; refine (rstats_c s _ _ _).mono ?_; rintro e w3 ⟨rfl, hb⟩; have HB3 := Lib.hid hb; clear hb) | fail)
  clear c0 c1 c2 c3 c4 c5 c6 c7
  have HS := Lib.hid (HS2.out.keep HB3.out)
  have HA := Lib.hid ((HA0.out.keep HB2.out).keep HB3.out)
  have HRK := Lib.hid ((HR0.out.below HB2.out).below HB3.out).sr.k
  have HBB : Hid (Below g3 w w3) := Lib.hid ((HB0.out.trans (HB2.out.mono (by have := HB0.out.size; omega))).trans (HB3.out.mono (by have := HB0.out.size; have := HB2.out.size; omega)))
  generalize w3 = W3 at *
  refine wp_region_lnk (fun _ w => Below W3.heap.size W3 w) (fun _ w w' => Below w.heap.size w w') (aP s (agV s ao bo n cap cbp c g3)) (fun _ => none) (by kernel_rfl) (by kernel_rfl) (by kernel_rfl) (Below.refl _ _).drew (fun _ _ _ _ _ hC hr => hC.trans (hr.mono hC.size)) [] (by kernel_rfl) (fun _ _ _ _ _ _ _ h hr => aP_keep h hr) ?_ ?_
  · skip
    refine ⟨⟨trivial, fun A v d hd hC hF hW K Q hk => ?_⟩, ⟨trivial, fun A v d hd hC hF hW K Q hk => ?_⟩, ⟨trivial, fun A v d hd hC hF hW K Q hk => ?_⟩, ⟨trivial, fun A v d hd hC hF hW K Q hk => ?_⟩, ⟨fun v w h => aP_val h (by decide) rfl, fun A v d hd hC hF hW K Q hk => ?_⟩, ⟨fun v w h => aP_val h (by decide) rfl, fun A v d hd hC hF hW K Q hk => ?_⟩, ⟨fun v w h => aP_val h (by decide) rfl, fun A v d hd hC hF hW K Q hk => ?_⟩, ⟨trivial, fun A v d hd hC hF hW K Q hk => ?_⟩, ⟨trivial, fun A v d hd hC hF hW K Q hk => ?_⟩, ⟨fun v w h => aP_val h (by decide) rfl, fun A v d hd hC hF hW K Q hk => ?_⟩, ⟨fun v w h => aP_val h (by decide) rfl, fun A v d hd hC hF hW K Q hk => ?_⟩, ⟨fun v w h => aP_val h (by decide) rfl, fun A v d hd hC hF hW K Q hk => ?_⟩, ⟨trivial, fun A v d hd hC hF hW K Q hk => ?_⟩, ⟨trivial, fun A v d hd hC hF hW K Q hk => ?_⟩, ⟨fun v w h => aP_val h (by decide) rfl, fun A v d hd hC hF hW K Q hk => ?_⟩, ⟨fun v w h => aP_val h (by decide) rfl, fun A v d hd hC hF hW K Q hk => ?_⟩, ⟨fun v w h => aP_val h (by decide) rfl, fun A v d hd hC hF hW K Q hk => ?_⟩, ⟨trivial, fun A v d hd hC hF hW K Q hk => ?_⟩, ⟨trivial, fun A v d hd hC hF hW K Q hk => ?_⟩, ⟨fun v w h => aP_val h (by decide) rfl, fun A v d hd hC hF hW K Q hk => ?_⟩, ⟨fun v w h => aP_val h (by decide) rfl, fun A v d hd hC hF hW K Q hk => ?_⟩, ⟨fun v w h => aP_val h (by decide) rfl, fun A v d hd hC hF hW K Q hk => ?_⟩, ⟨fun v w h => aP_val h (by decide) rfl, fun A v d hd hC hF hW K Q hk => ?_⟩, ⟨fun v w h => aP_val h (by decide) rfl, fun A v d hd hC hF hW K Q hk => ?_⟩, ⟨trivial, fun A v d hd hC hF hW K Q hk => ?_⟩, ⟨trivial, fun A v d hd hC hF hW K Q hk => ?_⟩, ⟨fun v w h => aP_val h (by decide) rfl, fun A v d hd hC hF hW K Q hk => ?_⟩, ⟨fun v w h => aP_val h (by decide) rfl, fun A v d hd hC hF hW K Q hk => ?_⟩, ⟨fun v w h => aP_val h (by decide) rfl, fun A v d hd hC hF hW K Q hk => ?_⟩, ⟨fun v w h => aP_val h (by decide) rfl, fun A v d hd hC hF hW K Q hk => ?_⟩, ⟨fun v w h => aP_val h (by decide) rfl, fun A v d hd hC hF hW K Q hk => ?_⟩, ⟨trivial, fun A v d hd hC hF hW K Q hk => ?_⟩, ⟨trivial, fun A v d hd hC hF hW K Q hk => ?_⟩, ⟨fun v w h => aP_val h (by decide) rfl, fun A v d hd hC hF hW K Q hk => ?_⟩, ⟨fun v w h => aP_val h (by decide) rfl, fun A v d hd hC hF hW K Q hk => ?_⟩, ⟨fun v w h => aP_val h (by decide) rfl, fun A v d hd hC hF hW K Q hk => ?_⟩, ⟨fun v w h => aP_val h (by decide) rfl, fun A v d hd hC hF hW K Q hk => ?_⟩, ⟨fun v w h => aP_val h (by decide) rfl, fun A v d hd hC hF hW K Q hk => ?_⟩, ⟨trivial, fun A v d hd hC hF hW K Q hk => ?_⟩, ⟨trivial, fun A v d hd hC hF hW K Q hk => ?_⟩, trivial⟩
    · have f5 : A.tmps[5]?.getD undef = .int .i64 s.hits := fg_none (hF 5) (by kernel_rfl)
      refine Giv.wp (φ := aP s (agV s ao bo n cap cbp c g3) 0) ?_ hk
      unfold Giv
      go_simp
      exact giv_val (P := Try.prog) (Below.refl _ _) (aP_mk (by decide) rfl)
    · have f9 : A.tmps[9]?.getD undef = .int .i64 s.hits := fg_none (hF 9) (by kernel_rfl)
      refine Giv.wp (φ := aP s (agV s ao bo n cap cbp c g3) 1) ?_ hk
      unfold Giv
      go_simp
      exact giv_val (P := Try.prog) (Below.refl _ _) (aP_mk (by decide) rfl)
    · have f27 : A.tmps[27]?.getD undef = .int .i64 s.hits := aP_val (fg_some (hF 27) (j := 0) (by kernel_rfl) (by kernel_rfl)) (by decide) rfl
      have f28 : A.tmps[28]?.getD undef = .int .i64 s.hits := aP_val (fg_some (hF 28) (j := 1) (by kernel_rfl) (by kernel_rfl)) (by decide) rfl
      refine Giv.wp (φ := aP s (agV s ao bo n cap cbp c g3) 2) ?_ hk
      unfold Giv
      go_simp
      exact giv_val (P := Try.prog) (Below.refl _ _) (aP_mk (by decide) rfl)
    · have f29 : A.tmps[29]?.getD undef = .bool true := aP_val (fg_some (hF 29) (j := 2) (by kernel_rfl) (by kernel_rfl)) (by decide) rfl
      refine Giv.wp (φ := aP s (agV s ao bo n cap cbp c g3) 3) ?_ hk
      unfold Giv
      go_simp
      exact giv_val (P := Try.prog) (Below.refl _ _) (aP_mk (by decide) rfl)
    · have f6 : A.tmps[6]?.getD undef = .int .i64 s.misses := fg_none (hF 6) (by kernel_rfl)
      refine Giv.wp (φ := aP s (agV s ao bo n cap cbp c g3) 4) ?_ hk
      unfold Giv
      go_simp
      exact giv_val (P := Try.prog) (Below.refl _ _) (aP_mk (by decide) rfl)
    · have f10 : A.tmps[10]?.getD undef = .int .i64 s.misses := fg_none (hF 10) (by kernel_rfl)
      refine Giv.wp (φ := aP s (agV s ao bo n cap cbp c g3) 5) ?_ hk
      unfold Giv
      go_simp
      exact giv_val (P := Try.prog) (Below.refl _ _) (aP_mk (by decide) rfl)
    · have f31 : A.tmps[31]?.getD undef = .int .i64 s.misses := aP_val (fg_some (hF 31) (j := 4) (by kernel_rfl) (by kernel_rfl)) (by decide) rfl
      have f32 : A.tmps[32]?.getD undef = .int .i64 s.misses := aP_val (fg_some (hF 32) (j := 5) (by kernel_rfl) (by kernel_rfl)) (by decide) rfl
      refine Giv.wp (φ := aP s (agV s ao bo n cap cbp c g3) 6) ?_ hk
      unfold Giv
      go_simp
      exact giv_val (P := Try.prog) (Below.refl _ _) (aP_mk (by decide) rfl)
    · have f30 : A.tmps[30]?.getD undef = .bool true := aP_val (fg_some (hF 30) (j := 3) (by kernel_rfl) (by kernel_rfl)) (by decide) rfl
      have f33 : A.tmps[33]?.getD undef = .bool true := aP_val (fg_some (hF 33) (j := 6) (by kernel_rfl) (by kernel_rfl)) (by decide) rfl
      refine Giv.wp (φ := aP s (agV s ao bo n cap cbp c g3) 7) ?_ hk
      unfold Giv
      go_simp
      exact giv_val (P := Try.prog) (Below.refl _ _) (aP_mk (by decide) rfl)
    · have f34 : A.tmps[34]?.getD undef = .bool true := aP_val (fg_some (hF 34) (j := 7) (by kernel_rfl) (by kernel_rfl)) (by decide) rfl
      refine Giv.wp (φ := aP s (agV s ao bo n cap cbp c g3) 8) ?_ hk
      unfold Giv
      go_simp
      exact giv_val (P := Try.prog) (Below.refl _ _) (aP_mk (by decide) rfl)
    · have f7 : A.tmps[7]?.getD undef = .int .i64 s.evicted := fg_none (hF 7) (by kernel_rfl)
      refine Giv.wp (φ := aP s (agV s ao bo n cap cbp c g3) 9) ?_ hk
      unfold Giv
      go_simp
      exact giv_val (P := Try.prog) (Below.refl _ _) (aP_mk (by decide) rfl)
    · have f11 : A.tmps[11]?.getD undef = .int .i64 s.evicted := fg_none (hF 11) (by kernel_rfl)
      refine Giv.wp (φ := aP s (agV s ao bo n cap cbp c g3) 10) ?_ hk
      unfold Giv
      go_simp
      exact giv_val (P := Try.prog) (Below.refl _ _) (aP_mk (by decide) rfl)
    · have f36 : A.tmps[36]?.getD undef = .int .i64 s.evicted := aP_val (fg_some (hF 36) (j := 9) (by kernel_rfl) (by kernel_rfl)) (by decide) rfl
      have f37 : A.tmps[37]?.getD undef = .int .i64 s.evicted := aP_val (fg_some (hF 37) (j := 10) (by kernel_rfl) (by kernel_rfl)) (by decide) rfl
      refine Giv.wp (φ := aP s (agV s ao bo n cap cbp c g3) 11) ?_ hk
      unfold Giv
      go_simp
      exact giv_val (P := Try.prog) (Below.refl _ _) (aP_mk (by decide) rfl)
    · have f35 : A.tmps[35]?.getD undef = .bool true := aP_val (fg_some (hF 35) (j := 8) (by kernel_rfl) (by kernel_rfl)) (by decide) rfl
      have f38 : A.tmps[38]?.getD undef = .bool true := aP_val (fg_some (hF 38) (j := 11) (by kernel_rfl) (by kernel_rfl)) (by decide) rfl
      refine Giv.wp (φ := aP s (agV s ao bo n cap cbp c g3) 12) ?_ hk
      unfold Giv
      go_simp
      exact giv_val (P := Try.prog) (Below.refl _ _) (aP_mk (by decide) rfl)
    · have f39 : A.tmps[39]?.getD undef = .bool true := aP_val (fg_some (hF 39) (j := 12) (by kernel_rfl) (by kernel_rfl)) (by decide) rfl
      refine Giv.wp (φ := aP s (agV s ao bo n cap cbp c g3) 13) ?_ hk
      unfold Giv
      go_simp
      exact giv_val (P := Try.prog) (Below.refl _ _) (aP_mk (by decide) rfl)
    · have f8 : A.tmps[8]?.getD undef = .int .i64 s.resets := fg_none (hF 8) (by kernel_rfl)
      refine Giv.wp (φ := aP s (agV s ao bo n cap cbp c g3) 14) ?_ hk
      unfold Giv
      go_simp
      exact giv_val (P := Try.prog) (Below.refl _ _) (aP_mk (by decide) rfl)
    · have f12 : A.tmps[12]?.getD undef = .int .i64 s.resets := fg_none (hF 12) (by kernel_rfl)
      refine Giv.wp (φ := aP s (agV s ao bo n cap cbp c g3) 15) ?_ hk
      unfold Giv
      go_simp
      exact giv_val (P := Try.prog) (Below.refl _ _) (aP_mk (by decide) rfl)
    · have f41 : A.tmps[41]?.getD undef = .int .i64 s.resets := aP_val (fg_some (hF 41) (j := 14) (by kernel_rfl) (by kernel_rfl)) (by decide) rfl
      have f42 : A.tmps[42]?.getD undef = .int .i64 s.resets := aP_val (fg_some (hF 42) (j := 15) (by kernel_rfl) (by kernel_rfl)) (by decide) rfl
      refine Giv.wp (φ := aP s (agV s ao bo n cap cbp c g3) 16) ?_ hk
      unfold Giv
      go_simp
      exact giv_val (P := Try.prog) (Below.refl _ _) (aP_mk (by decide) rfl)
    · have f40 : A.tmps[40]?.getD undef = .bool true := aP_val (fg_some (hF 40) (j := 13) (by kernel_rfl) (by kernel_rfl)) (by decide) rfl
      have f43 : A.tmps[43]?.getD undef = .bool true := aP_val (fg_some (hF 43) (j := 16) (by kernel_rfl) (by kernel_rfl)) (by decide) rfl
      refine Giv.wp (φ := aP s (agV s ao bo n cap cbp c g3) 17) ?_ hk
      unfold Giv
      go_simp
      exact giv_val (P := Try.prog) (Below.refl _ _) (aP_mk (by decide) rfl)
    · have f44 : A.tmps[44]?.getD undef = .bool true := aP_val (fg_some (hF 44) (j := 17) (by kernel_rfl) (by kernel_rfl)) (by decide) rfl
      refine Giv.wp (φ := aP s (agV s ao bo n cap cbp c g3) 18) ?_ hk
      unfold Giv
      go_simp
      exact giv_val (P := Try.prog) (Below.refl _ _) (aP_mk (by decide) rfl)
    · have f0 : A.tmps[0]?.getD undef = .pointer (some ⟨c, 0, none⟩) := fg_none (hF 0) (by kernel_rfl)
      refine Giv.wp (φ := aP s (agV s ao bo n cap cbp c g3) 19) ?_ hk
      unfold Giv
      go_simp
      exact giv_val (P := Try.prog) (Below.refl _ _) (aP_mk (by decide) rfl)
    · have f46 : A.tmps[46]?.getD undef = .pointer (some ⟨c, 0, none⟩) := aP_val (fg_some (hF 46) (j := 19) (by kernel_rfl) (by kernel_rfl)) (by decide) rfl
      have hcl := len_at (HA.out.keep hC)
      rw [HNN.out] at hcl
      refine Giv.wp (φ := aP s (agV s ao bo n cap cbp c g3) 20) ?_ hk
      unfold Giv
      go_simp
      exact giv_enter (P := Try.prog) (hcl.mono fun e w2 ⟨he, hw⟩ => ⟨_, he, (by rw [hw]; exact Below.refl _ _), aP_mk (by decide) rfl⟩)
    · have f3 : A.tmps[3]?.getD undef = .pointer (some ⟨g3, 0, none⟩) := fg_none (hF 3) (by kernel_rfl)
      obtain ⟨y0, y1, y2, y3, y4, y5, y6, y7⟩ := (HS.out.keep hC).cells8
      refine Giv.wp (φ := aP s (agV s ao bo n cap cbp c g3) 21) ?_ hk
      unfold Giv
      go_simp
      exact giv_val (P := Try.prog) (Below.refl _ _) (aP_mk (by decide) rfl)
    · have f48 : A.tmps[48]?.getD undef = .agg #[.int .i64 s.size, .int .i64 s.seq, .slice ao n cap, .slice bo n cbp, .int .i64 s.hits, .int .i64 s.misses, .int .i64 s.evicted, .int .i64 s.resets] := aP_val (fg_some (hF 48) (j := 21) (by kernel_rfl) (by kernel_rfl)) (by decide) rfl
      have hrl := rlen_c s ao cap (.slice bo n cbp) v
      rw [HNN.out] at hrl
      refine Giv.wp (φ := aP s (agV s ao bo n cap cbp c g3) 22) ?_ hk
      unfold Giv
      go_simp
      exact giv_enter (P := Try.prog) (hrl.mono fun e w2 ⟨he, hb⟩ => ⟨_, he, hb, aP_mk (by decide) rfl⟩)
    · have f47 : A.tmps[47]?.getD undef = .int .i64 n := aP_val (fg_some (hF 47) (j := 20) (by kernel_rfl) (by kernel_rfl)) (by decide) rfl
      have f49 : A.tmps[49]?.getD undef = .int .i64 n := aP_val (fg_some (hF 49) (j := 22) (by kernel_rfl) (by kernel_rfl)) (by decide) rfl
      refine Giv.wp (φ := aP s (agV s ao bo n cap cbp c g3) 23) ?_ hk
      unfold Giv
      go_simp
      exact giv_val (P := Try.prog) (Below.refl _ _) (aP_mk (by decide) rfl)
    · have f45 : A.tmps[45]?.getD undef = .bool true := aP_val (fg_some (hF 45) (j := 18) (by kernel_rfl) (by kernel_rfl)) (by decide) rfl
      have f50 : A.tmps[50]?.getD undef = .bool true := aP_val (fg_some (hF 50) (j := 23) (by kernel_rfl) (by kernel_rfl)) (by decide) rfl
      refine Giv.wp (φ := aP s (agV s ao bo n cap cbp c g3) 24) ?_ hk
      unfold Giv
      go_simp
      exact giv_val (P := Try.prog) (Below.refl _ _) (aP_mk (by decide) rfl)
    · have f51 : A.tmps[51]?.getD undef = .bool true := aP_val (fg_some (hF 51) (j := 24) (by kernel_rfl) (by kernel_rfl)) (by decide) rfl
      refine Giv.wp (φ := aP s (agV s ao bo n cap cbp c g3) 25) ?_ hk
      unfold Giv
      go_simp
      exact giv_val (P := Try.prog) (Below.refl _ _) (aP_mk (by decide) rfl)
    · have f0 : A.tmps[0]?.getD undef = .pointer (some ⟨c, 0, none⟩) := fg_none (hF 0) (by kernel_rfl)
      refine Giv.wp (φ := aP s (agV s ao bo n cap cbp c g3) 26) ?_ hk
      unfold Giv
      go_simp
      exact giv_val (P := Try.prog) (Below.refl _ _) (aP_mk (by decide) rfl)
    · have f53 : A.tmps[53]?.getD undef = .pointer (some ⟨c, 0, none⟩) := aP_val (fg_some (hF 53) (j := 26) (by kernel_rfl) (by kernel_rfl)) (by decide) rfl
      refine Giv.wp (φ := aP s (agV s ao bo n cap cbp c g3) 27) ?_ hk
      unfold Giv
      go_simp
      exact giv_enter (P := Try.prog) ((seq_at (HA.out.keep hC)).mono fun e w2 ⟨he, hw⟩ => ⟨_, he, (by rw [hw]; exact Below.refl _ _), aP_mk (by decide) rfl⟩)
    · have f3 : A.tmps[3]?.getD undef = .pointer (some ⟨g3, 0, none⟩) := fg_none (hF 3) (by kernel_rfl)
      obtain ⟨y0, y1, y2, y3, y4, y5, y6, y7⟩ := (HS.out.keep hC).cells8
      refine Giv.wp (φ := aP s (agV s ao bo n cap cbp c g3) 28) ?_ hk
      unfold Giv
      go_simp
      exact giv_val (P := Try.prog) (Below.refl _ _) (aP_mk (by decide) rfl)
    · have f55 : A.tmps[55]?.getD undef = .agg #[.int .i64 s.size, .int .i64 s.seq, .slice ao n cap, .slice bo n cbp, .int .i64 s.hits, .int .i64 s.misses, .int .i64 s.evicted, .int .i64 s.resets] := aP_val (fg_some (hF 55) (j := 28) (by kernel_rfl) (by kernel_rfl)) (by decide) rfl
      refine Giv.wp (φ := aP s (agV s ao bo n cap cbp c g3) 29) ?_ hk
      unfold Giv
      go_simp
      exact giv_enter (P := Try.prog) ((rseq_c s (.slice ao n cap) (.slice bo n cbp) v).mono fun e w2 ⟨he, hb⟩ => ⟨_, he, hb, aP_mk (by decide) rfl⟩)
    · have f54 : A.tmps[54]?.getD undef = .int .i64 s.seq := aP_val (fg_some (hF 54) (j := 27) (by kernel_rfl) (by kernel_rfl)) (by decide) rfl
      have f56 : A.tmps[56]?.getD undef = .int .i64 s.seq := aP_val (fg_some (hF 56) (j := 29) (by kernel_rfl) (by kernel_rfl)) (by decide) rfl
      refine Giv.wp (φ := aP s (agV s ao bo n cap cbp c g3) 30) ?_ hk
      unfold Giv
      go_simp
      exact giv_val (P := Try.prog) (Below.refl _ _) (aP_mk (by decide) rfl)
    · have f52 : A.tmps[52]?.getD undef = .bool true := aP_val (fg_some (hF 52) (j := 25) (by kernel_rfl) (by kernel_rfl)) (by decide) rfl
      have f57 : A.tmps[57]?.getD undef = .bool true := aP_val (fg_some (hF 57) (j := 30) (by kernel_rfl) (by kernel_rfl)) (by decide) rfl
      refine Giv.wp (φ := aP s (agV s ao bo n cap cbp c g3) 31) ?_ hk
      unfold Giv
      go_simp
      exact giv_val (P := Try.prog) (Below.refl _ _) (aP_mk (by decide) rfl)
    · have f58 : A.tmps[58]?.getD undef = .bool true := aP_val (fg_some (hF 58) (j := 31) (by kernel_rfl) (by kernel_rfl)) (by decide) rfl
      refine Giv.wp (φ := aP s (agV s ao bo n cap cbp c g3) 32) ?_ hk
      unfold Giv
      go_simp
      exact giv_val (P := Try.prog) (Below.refl _ _) (aP_mk (by decide) rfl)
    · have f0 : A.tmps[0]?.getD undef = .pointer (some ⟨c, 0, none⟩) := fg_none (hF 0) (by kernel_rfl)
      refine Giv.wp (φ := aP s (agV s ao bo n cap cbp c g3) 33) ?_ hk
      unfold Giv
      go_simp
      exact giv_val (P := Try.prog) (Below.refl _ _) (aP_mk (by decide) rfl)
    · have f60 : A.tmps[60]?.getD undef = .pointer (some ⟨c, 0, none⟩) := aP_val (fg_some (hF 60) (j := 33) (by kernel_rfl) (by kernel_rfl)) (by decide) rfl
      refine Giv.wp (φ := aP s (agV s ao bo n cap cbp c g3) 34) ?_ hk
      unfold Giv
      go_simp
      exact giv_enter (P := Try.prog) ((keys_at (HA.out.keep hC)).mono fun e w2 ⟨vk, he, ho, hb⟩ => by obtain ⟨a, k, rfl⟩ := ho.isSl; exact ⟨_, he, hb, (by unfold aP; rw [if_pos rfl]; exact ⟨_, _, _, rfl, ho.rows⟩)⟩)
    · have f3 : A.tmps[3]?.getD undef = .pointer (some ⟨g3, 0, none⟩) := fg_none (hF 3) (by kernel_rfl)
      refine Giv.wp (φ := aP s (agV s ao bo n cap cbp c g3) 35) ?_ hk
      unfold Giv
      go_simp
      exact giv_val (P := Try.prog) (Below.refl _ _) (aP_mk (by decide) rfl)
    · have f62 : A.tmps[62]?.getD undef = .pointer (some ⟨g3, 2, none⟩) := aP_val (fg_some (hF 62) (j := 35) (by kernel_rfl) (by kernel_rfl)) (by decide) rfl
      obtain ⟨y0, y1, y2, y3, y4, y5, y6, y7⟩ := (HS.out.keep hC).cells8
      refine Giv.wp (φ := aP s (agV s ao bo n cap cbp c g3) 36) ?_ hk
      unfold Giv
      go_simp
      exact giv_val (P := Try.prog) (Below.refl _ _) (aP_mk (by decide) rfl)
    · obtain ⟨ak, nk, ck, f61, hrow⟩ := aP_row (fg_some (hF 61) (j := 34) (by kernel_rfl) (by kernel_rfl))
      have f63 : A.tmps[63]?.getD undef = .slice ao n cap := aP_val (fg_some (hF 63) (j := 36) (by kernel_rfl) (by kernel_rfl)) (by decide) rfl
      refine Giv.wp (φ := aP s (agV s ao bo n cap cbp c g3) 37) ?_ hk
      unfold Giv
      go_simp
      exact giv_enter (P := Try.prog) ((sameKeys_c _ _ (keysK s.L) (keysK s.L) hrow (HRK.out.below hC) HLK.out).mono fun e w2 ⟨he, hb⟩ => ⟨_, he, hb, aP_mk (by decide) (by simp [agV])⟩)
    · have f59 : A.tmps[59]?.getD undef = .bool true := aP_val (fg_some (hF 59) (j := 32) (by kernel_rfl) (by kernel_rfl)) (by decide) rfl
      have f64 : A.tmps[64]?.getD undef = .bool true := aP_val (fg_some (hF 64) (j := 37) (by kernel_rfl) (by kernel_rfl)) (by decide) rfl
      refine Giv.wp (φ := aP s (agV s ao bo n cap cbp c g3) 38) ?_ hk
      unfold Giv
      go_simp
      exact giv_val (P := Try.prog) (Below.refl _ _) (aP_mk (by decide) rfl)
    · have f65 : A.tmps[65]?.getD undef = .bool true := aP_val (fg_some (hF 65) (j := 38) (by kernel_rfl) (by kernel_rfl)) (by decide) rfl
      refine Giv.wp (φ := aP s (agV s ao bo n cap cbp c g3) 39) ?_ hk
      unfold Giv
      go_simp
      exact giv_val (P := Try.prog) (Below.refl _ _) (aP_mk (by decide) rfl)
  · intro a0 W9 d hsd hC hsz hdf hF hL
    have ha := end_gen [false, false, false, false, true, false, false, false, false, false, false, false, false, false, false, false, false, false, false, false, false, false, false, false, false, false, false, true, true, true, true, true, true, true, true, true, true, true, true, true, true, true, true, true, true, true, true, true, true, true, true, true, true, true, true, true, true, true, true, true, true, true, true, true, true, true] hsz hdf hF (by kernel_rfl)
    have f4 : a0.tmps[4]?.getD undef = .bool true := aP_val (fe_some (hF 4) (j := 39) (by kernel_rfl)) (by decide) rfl
    have HB9 := Lib.hid (HBB.out.trans (hC.mono (by have := HBB.out.size; omega)))
    rw [ha]
    clear ha hF hL hC hsd
    simp only [cutM_yes, cutM_no, cutM_nil, Nat.reduceAdd]
    rw [f4]
    clear f4
    generalize a0.tmps[27]?.getD undef = s27
    generalize a0.tmps[28]?.getD undef = s28
    generalize a0.tmps[29]?.getD undef = s29
    generalize a0.tmps[30]?.getD undef = s30
    generalize a0.tmps[31]?.getD undef = s31
    generalize a0.tmps[32]?.getD undef = s32
    generalize a0.tmps[33]?.getD undef = s33
    generalize a0.tmps[34]?.getD undef = s34
    generalize a0.tmps[35]?.getD undef = s35
    generalize a0.tmps[36]?.getD undef = s36
    generalize a0.tmps[37]?.getD undef = s37
    generalize a0.tmps[38]?.getD undef = s38
    generalize a0.tmps[39]?.getD undef = s39
    generalize a0.tmps[40]?.getD undef = s40
    generalize a0.tmps[41]?.getD undef = s41
    generalize a0.tmps[42]?.getD undef = s42
    generalize a0.tmps[43]?.getD undef = s43
    generalize a0.tmps[44]?.getD undef = s44
    generalize a0.tmps[45]?.getD undef = s45
    generalize a0.tmps[46]?.getD undef = s46
    generalize a0.tmps[47]?.getD undef = s47
    generalize a0.tmps[48]?.getD undef = s48
    generalize a0.tmps[49]?.getD undef = s49
    generalize a0.tmps[50]?.getD undef = s50
    generalize a0.tmps[51]?.getD undef = s51
    generalize a0.tmps[52]?.getD undef = s52
    generalize a0.tmps[53]?.getD undef = s53
    generalize a0.tmps[54]?.getD undef = s54
    generalize a0.tmps[55]?.getD undef = s55
    generalize a0.tmps[56]?.getD undef = s56
    generalize a0.tmps[57]?.getD undef = s57
    generalize a0.tmps[58]?.getD undef = s58
    generalize a0.tmps[59]?.getD undef = s59
    generalize a0.tmps[60]?.getD undef = s60
    generalize a0.tmps[61]?.getD undef = s61
    generalize a0.tmps[62]?.getD undef = s62
    generalize a0.tmps[63]?.getD undef = s63
    generalize a0.tmps[64]?.getD undef = s64
    generalize a0.tmps[65]?.getD undef = s65
    clear hsz hdf
    go_wp2_with fail
    go_ret
    exact ⟨rfl, by first | exact HB9.out | (rw [hg3]; exact HB9.out)⟩
theorem agree_c {w0 w : World} {B c m : Nat} {s : CS} {vk vd : Value} (h : At w0 w (fun _ => False) c m s) (hr : OS w B s vk vd) :
    Calls Try.prog 13 #[.pointer (some ⟨c, 0, none⟩), .agg #[.int .i64 s.size, .int .i64 s.seq, vk, vd, .int .i64 s.hits, .int .i64 s.misses, .int .i64 s.evicted, .int .i64 s.resets]] w fun e w' => e = .returned (.bool true) ∧ Below w.heap.size w w' := by
  obtain ⟨ao, bo, cap, cbp, rfl, rfl⟩ := hr.sr.forms
  exact agree_n h hr rfl
end Go.Proofs.Ytbcbhgclgakljaa
