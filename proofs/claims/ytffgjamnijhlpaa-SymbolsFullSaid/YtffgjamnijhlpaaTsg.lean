/- The scanner of package token: mark. -/
import Derived.Test.YtffgjamnijhlpaaTsf
namespace Go.Proofs.Ytffgjamnijhlpaa
open Go.RowKit
theorem cells4 {w : World} {g : Nat} {t : TypeId} {a b c d : Value} (h : Blk w g t #[a, b, c, d]) :
    w.cell? ⟨g, 0, none⟩ = some a ∧ w.cell? ⟨g, 1, none⟩ = some b ∧ w.cell? ⟨g, 2, none⟩ = some c ∧ w.cell? ⟨g, 3, none⟩ = some d ∧
    w.frozen? ⟨g, 0, none⟩ = false ∧ w.frozen? ⟨g, 1, none⟩ = false ∧ w.frozen? ⟨g, 2, none⟩ = false ∧ w.frozen? ⟨g, 3, none⟩ = false :=
  ⟨h.cell 0, h.cell 1, h.cell 2, h.cell 3, h.frozen 0, h.frozen 1, h.frozen 2, h.frozen 3⟩
theorem set44_but {B sb : Nat} {a W : World} (h : But B sb a W) {g g' : Nat} (hg : B ≤ g) (hg' : B ≤ g') (a0 a1 a2 a3 b0 b1 b2 b3 : Value) : But B sb a (set44 W g g' a0 a1 a2 a3 b0 b1 b2 b3) :=
  (((((((h.setCell (p := ⟨g, 0, none⟩) (.inr hg) _).setCell (p := ⟨g, 1, none⟩) (.inr hg) _).setCell (p := ⟨g, 2, none⟩) (.inr hg) _).setCell (p := ⟨g, 3, none⟩) (.inr hg) _).setCell (p := ⟨g', 0, none⟩) (.inr hg') _).setCell (p := ⟨g', 1, none⟩) (.inr hg') _).setCell (p := ⟨g', 2, none⟩) (.inr hg') _).setCell (p := ⟨g', 3, none⟩) (.inr hg') _
theorem set44_far {W : World} {sb g g' i : Nat} {s : ByteArray} {l k : Int} (h : Scn W sb s i l k) (hg : sb ≠ g) (hg' : sb ≠ g') (a0 a1 a2 a3 b0 b1 b2 b3 : Value) : Scn (set44 W g g' a0 a1 a2 a3 b0 b1 b2 b3) sb s i l k :=
  (((((((Blk.far h (p := ⟨g, 0, none⟩) hg a0).far (p := ⟨g, 1, none⟩) hg a1).far (p := ⟨g, 2, none⟩) hg a2).far (p := ⟨g, 3, none⟩) hg a3).far (p := ⟨g', 0, none⟩) hg' b0).far (p := ⟨g', 1, none⟩) hg' b1).far (p := ⟨g', 2, none⟩) hg' b2).far (p := ⟨g', 3, none⟩) hg' b3
theorem mkN_le (c d : Int) : mkN c d ≤ 2 := by unfold mkN; split <;> (try split) <;> omega
theorem mkN_bd {s : ByteArray} {j : Nat} (_hj : j < s.size) : j + mkN (chI s j) (chI s (j + 1)) ≤ s.size := by
  unfold mkN
  split
  · rename_i h
    have hm := of_decide_eq_true h
    by_cases hh : j + 1 < s.size
    · omega
    · rw [chI_ge hh] at hm
      omega
  · split <;> omega
/-- the outcome of mark -/
def MarkOut (s : ByteArray) (j : Nat) (p : Int × Int) (sb : Nat) (w : World) (e : Ending) (w' : World) : Prop :=
  ∃ n code, n = mkN (chI s j) (chI s (j + 1)) ∧ code = terr 4 (s.extract j (j + n)) ∧
    e = .returned (.tuple #[.agg #[.int .i64 (zi code 4), .string (zs code (s.extract j (j + n))), .int .i64 (zi code p.1), .int .i64 (zi code p.2)], .agg #[.int .i64 code, .int .i64 (zn code p.1), .int .i64 (zn code p.2), .string ⟨#[]⟩]]) ∧
    Scn w' sb s (j + n) (adv s j p n).1 (adv s j p n).2 ∧ But w.heap.size sb w w'
set_option maxRecDepth 100000 in
set_option maxHeartbeats 4000000 in
theorem mark_c (s : ByteArray) (j sb : Nat) (p : Int × Int) (w : World) (hs : Scn w sb s j p.1 p.2) (hj : j < s.size) (hm : s.size ≤ 9223372036854775807)
    (hl : 0 ≤ p.1) (hl' : p.1 + (s.size : Int) - (j : Int) ≤ 9223372036854775807) (hk : 0 ≤ p.2) (hk' : p.2 + (s.size : Int) - (j : Int) ≤ 9223372036854775807) :
    Calls Try.prog 60 #[.pointer (some ⟨sb, 0, none⟩), .agg #[.string s, .int .i64 j, .int .i64 p.1, .int .i64 p.2]] w (MarkOut s j p sb w) := by
  obtain ⟨l, k⟩ := p
  simp only at hs hl hl' hk hk'
  have hN := mkN_le (chI s j) (chI s (j + 1))
  have hNb := mkN_bd (s := s) hj
  have hadv := fun n => adv_bd s j (l, k) hl hk n
  obtain ⟨n, hn⟩ : ∃ n, n = mkN (chI s j) (chI s (j + 1)) := ⟨_, rfl⟩
  rw [← hn] at hN hNb
  have HNe := Lib.hid hn
  have j0 : (j : Int) ≤ (s.size : Int) := by omega
  have ML : Hid (∀ w, Calls Try.prog 75 #[.string (s.extract j s.size)] w fun e w' => e = .returned (.int .i64 (n : Int)) ∧ w' = w) := fun w => by
    have h := ml_c (s.extract j s.size) w (by simp; omega)
    rwa [chI_extract s j 0 (by omega), chI_extract s j 1 (by omega), Nat.add_zero, ← hn] at h
  clear hn
  have HAdv := Lib.hid hadv
  clear hadv
  go_enter Try.func60, Try.ntmps60
  go_wp2
  obtain ⟨hS, B0, B1, B2, hB⟩ := three_new hs #[.string s, .int .i64 j, .int .i64 l, .int .i64 k] #[.int .i64 0, .string { data := #[] }, .int .i64 0, .int .i64 0] #[.int .i64 0, .int .i64 0, .int .i64 0, .string { data := #[] }]
  generalize ((w.alloc (.cells #[.string s, .int .i64 j, .int .i64 l, .int .i64 k] 86)).alloc (.cells #[.int .i64 0, .string { data := #[] }, .int .i64 0, .int .i64 0] 82)).alloc (.cells #[.int .i64 0, .int .i64 0, .int .i64 0, .string { data := #[] }] 88) = W at *
  obtain ⟨c0, c1, c2, c3, _⟩ := hS.facts
  go_quiet ((go_at_call 75; exact Calls.quiet_of_same (ML.out _)))
  have hn3 : n = 0 ∨ n = 1 ∨ n = 2 := by omega
  have hlt := hs.lt
  clear c0 c1 c2 c3 ML
  have hS' : Scn (W.drewN nq) sb s j l k := hS
  have hBt : But W.heap.size sb W (W.drewN nq) := But.of_below (below_drewN (Below.refl _ _) _)
  have hz := B2.lt
  generalize hWW : W.drewN nq = W0 at *
  clear hWW hS
  obtain ⟨tx, htx⟩ : ∃ t, s.extract j (j + n) = t := ⟨_, rfl⟩
  obtain ⟨code, hcode⟩ : ∃ c, terr 4 tx = c := ⟨_, rfl⟩
  have HC := Lib.hid hcode
  have HT : Hid (ttext 4 s j (j + n) = tx) := by show ttext 4 s j (j + n) = tx; rw [← htx]; simp [ttext]
  have HX := Lib.hid htx
  clear hcode htx
  rcases hn3 with rfl | rfl | rfl
  · go_wp2
    refine wp_loop_rounds 1 ?_
    rw [rounds_succ]
    obtain ⟨x0, x1, x2, x3, _⟩ := cells4 (hBt.blk B0 B0.lt (by omega))
    go_wp2_with fail
    refine (tok_c 4 (by omega) s (j + 0) j sb _ _ l k _ hS' (by omega) hNb hm (by omega) code _ HT.out HC.out).mono ?_
    rintro e w9 ⟨rfl, hb9⟩
    have E1 := (hBt.blk B1 B1.lt (by omega)).keep hb9
    have E2 := (hBt.blk B2 B2.lt (by omega)).keep hb9
    obtain ⟨y0, y1, y2, y3, f0, f1, f2, f3⟩ := cells4 E1
    obtain ⟨z0, z1, z2, z3, g0, g1, g2, g3⟩ := cells4 E2
    have hS9 := Scn.keep hS' hb9
    have hq := hBt.size
    have hB9 := (hBt.below (hb9.mono hq))
    go_wp2
    have q := set44_blk (W := w9) (g := w.heap.size + 1) (g' := w.heap.size + 1 + 1) E1 E2 (by omega) (.int .i64 (zi code 4)) (.string (zs code tx)) (.int .i64 (zi code l)) (.int .i64 (zi code k)) (.int .i64 code) (.int .i64 (zn code l)) (.int .i64 (zn code k)) (.string ⟨#[]⟩)
    have r := set44_but (But.trans (But.of_below hB) (hB9.mono (by have := hB.size; omega))) (g := w.heap.size + 1) (g' := w.heap.size + 1 + 1) (by omega) (by omega) (.int .i64 (zi code 4)) (.string (zs code tx)) (.int .i64 (zi code l)) (.int .i64 (zi code k)) (.int .i64 code) (.int .i64 (zn code l)) (.int .i64 (zn code k)) (.string ⟨#[]⟩)
    have v := set44_far hS9 (g := w.heap.size + 1) (g' := w.heap.size + 1 + 1) (by omega) (by omega) (.int .i64 (zi code 4)) (.string (zs code tx)) (.int .i64 (zi code l)) (.int .i64 (zi code k)) (.int .i64 code) (.int .i64 (zn code l)) (.int .i64 (zn code k)) (.string ⟨#[]⟩)
    unfold set44 at q r v
    exact bodyPost_ret (v := .tuple #[.agg #[.int .i64 (zi code 4), .string (zs code tx), .int .i64 (zi code l), .int .i64 (zi code k)], .agg #[.int .i64 code, .int .i64 (zn code l), .int .i64 (zn code k), .string ⟨#[]⟩]])
      (two_ret Try.results60 rfl rfl q.1 q.2) rfl ⟨0, code, HNe.out, by rw [HX.out]; exact HC.out.symm, by rw [HX.out], v, r⟩
  · go_wp2
    refine wp_loop_rounds 2 ?_
    rw [rounds_succ]
    go_wp2_with fail
    refine (step_c s (j + 0) sb _ _ _ hS' (by omega) hm ?_ ?_ ?_ ?_).mono ?_
    iterate 4 (have := HAdv.out 0; (try simp only [adv] at this); omega)
    rintro e w1 ⟨rfl, hS', hb'⟩
    have hBt := hBt.trans (hb'.mono hBt.size)
    clear hb'
    go_wp2_with fail
    rw [rounds_succ]
    obtain ⟨x0, x1, x2, x3, _⟩ := cells4 (hBt.blk B0 B0.lt (by omega))
    go_wp2_with fail
    refine (tok_c 4 (by omega) s (j + 1) j sb _ _ l k _ hS' (by omega) hNb hm (by omega) code _ HT.out HC.out).mono ?_
    rintro e w9 ⟨rfl, hb9⟩
    have E1 := (hBt.blk B1 B1.lt (by omega)).keep hb9
    have E2 := (hBt.blk B2 B2.lt (by omega)).keep hb9
    obtain ⟨y0, y1, y2, y3, f0, f1, f2, f3⟩ := cells4 E1
    obtain ⟨z0, z1, z2, z3, g0, g1, g2, g3⟩ := cells4 E2
    have hS9 := Scn.keep hS' hb9
    have hq := hBt.size
    have hB9 := (hBt.below (hb9.mono hq))
    go_wp2
    have q := set44_blk (W := w9) (g := w.heap.size + 1) (g' := w.heap.size + 1 + 1) E1 E2 (by omega) (.int .i64 (zi code 4)) (.string (zs code tx)) (.int .i64 (zi code l)) (.int .i64 (zi code k)) (.int .i64 code) (.int .i64 (zn code l)) (.int .i64 (zn code k)) (.string ⟨#[]⟩)
    have r := set44_but (But.trans (But.of_below hB) (hB9.mono (by have := hB.size; omega))) (g := w.heap.size + 1) (g' := w.heap.size + 1 + 1) (by omega) (by omega) (.int .i64 (zi code 4)) (.string (zs code tx)) (.int .i64 (zi code l)) (.int .i64 (zi code k)) (.int .i64 code) (.int .i64 (zn code l)) (.int .i64 (zn code k)) (.string ⟨#[]⟩)
    have v := set44_far hS9 (g := w.heap.size + 1) (g' := w.heap.size + 1 + 1) (by omega) (by omega) (.int .i64 (zi code 4)) (.string (zs code tx)) (.int .i64 (zi code l)) (.int .i64 (zi code k)) (.int .i64 code) (.int .i64 (zn code l)) (.int .i64 (zn code k)) (.string ⟨#[]⟩)
    unfold set44 at q r v
    exact bodyPost_ret (v := .tuple #[.agg #[.int .i64 (zi code 4), .string (zs code tx), .int .i64 (zi code l), .int .i64 (zi code k)], .agg #[.int .i64 code, .int .i64 (zn code l), .int .i64 (zn code k), .string ⟨#[]⟩]])
      (two_ret Try.results60 rfl rfl q.1 q.2) rfl ⟨1, code, HNe.out, by rw [HX.out]; exact HC.out.symm, by rw [HX.out], v, r⟩
  · go_wp2
    refine wp_loop_rounds 3 ?_
    rw [rounds_succ]
    go_wp2_with fail
    refine (step_c s (j + 0) sb _ _ _ hS' (by omega) hm ?_ ?_ ?_ ?_).mono ?_
    iterate 4 (have := HAdv.out 0; (try simp only [adv] at this); omega)
    rintro e w1 ⟨rfl, hS', hb'⟩
    have hBt := hBt.trans (hb'.mono hBt.size)
    clear hb'
    go_wp2_with fail
    rw [rounds_succ]
    go_wp2_with fail
    refine (step_c s (j + 1) sb _ _ _ hS' (by omega) hm ?_ ?_ ?_ ?_).mono ?_
    iterate 4 (have := HAdv.out 1; (try simp only [adv] at this); omega)
    rintro e w2 ⟨rfl, hS', hb'⟩
    have hBt := hBt.trans (hb'.mono hBt.size)
    clear hb'
    go_wp2_with fail
    rw [rounds_succ]
    obtain ⟨x0, x1, x2, x3, _⟩ := cells4 (hBt.blk B0 B0.lt (by omega))
    go_wp2_with fail
    refine (tok_c 4 (by omega) s (j + 2) j sb _ _ l k _ hS' (by omega) hNb hm (by omega) code _ HT.out HC.out).mono ?_
    rintro e w9 ⟨rfl, hb9⟩
    have E1 := (hBt.blk B1 B1.lt (by omega)).keep hb9
    have E2 := (hBt.blk B2 B2.lt (by omega)).keep hb9
    obtain ⟨y0, y1, y2, y3, f0, f1, f2, f3⟩ := cells4 E1
    obtain ⟨z0, z1, z2, z3, g0, g1, g2, g3⟩ := cells4 E2
    have hS9 := Scn.keep hS' hb9
    have hq := hBt.size
    have hB9 := (hBt.below (hb9.mono hq))
    go_wp2
    have q := set44_blk (W := w9) (g := w.heap.size + 1) (g' := w.heap.size + 1 + 1) E1 E2 (by omega) (.int .i64 (zi code 4)) (.string (zs code tx)) (.int .i64 (zi code l)) (.int .i64 (zi code k)) (.int .i64 code) (.int .i64 (zn code l)) (.int .i64 (zn code k)) (.string ⟨#[]⟩)
    have r := set44_but (But.trans (But.of_below hB) (hB9.mono (by have := hB.size; omega))) (g := w.heap.size + 1) (g' := w.heap.size + 1 + 1) (by omega) (by omega) (.int .i64 (zi code 4)) (.string (zs code tx)) (.int .i64 (zi code l)) (.int .i64 (zi code k)) (.int .i64 code) (.int .i64 (zn code l)) (.int .i64 (zn code k)) (.string ⟨#[]⟩)
    have v := set44_far hS9 (g := w.heap.size + 1) (g' := w.heap.size + 1 + 1) (by omega) (by omega) (.int .i64 (zi code 4)) (.string (zs code tx)) (.int .i64 (zi code l)) (.int .i64 (zi code k)) (.int .i64 code) (.int .i64 (zn code l)) (.int .i64 (zn code k)) (.string ⟨#[]⟩)
    unfold set44 at q r v
    exact bodyPost_ret (v := .tuple #[.agg #[.int .i64 (zi code 4), .string (zs code tx), .int .i64 (zi code l), .int .i64 (zi code k)], .agg #[.int .i64 code, .int .i64 (zn code l), .int .i64 (zn code k), .string ⟨#[]⟩]])
      (two_ret Try.results60 rfl rfl q.1 q.2) rfl ⟨2, code, HNe.out, by rw [HX.out]; exact HC.out.symm, by rw [HX.out], v, r⟩
end Go.Proofs.Ytffgjamnijhlpaa
