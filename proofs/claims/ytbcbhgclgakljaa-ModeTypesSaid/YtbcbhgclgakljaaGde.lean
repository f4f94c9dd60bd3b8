/- Expressions, classes, types and constraints copied with what is inside. -/
import Derived.Test.YtbcbhgclgakljaaGdd
namespace Go.Proofs.Ytbcbhgclgakljaa
open Go.RowKit Go.Maps
theorem at_of {cs l : List Value} {off k j : Nat} {v : Value} (e : (cs.drop off).take k = l) (hj : l[j]? = some v) : cs[off + j]? = some v := by
  subst e
  rw [List.getElem?_take] at hj
  split at hj
  · rwa [List.getElem?_drop] at hj
  · cases hj
theorem take_at {xs : List Value} {i sz k : Nat} (hk : k < sz) : ((xs.drop (i * sz)).take sz)[k]? = xs[i * sz + k]? := by
  rw [List.getElem?_take, if_pos hk, List.getElem?_drop]
theorem set_at {cs : Array Value} {i k : Nat} {v : Value} (h : i ≠ k) : (cs.setIfInBounds i v)[k]? = cs[k]? := by
  rw [Array.getElem?_setIfInBounds, if_neg h]
/-- a list of so many elements -/
def SlN (v : Value) (n : Nat) : Prop := ∃ a c, v = .slice a n c
theorem Sl.n {sz by' n : Nat} {w : World} {v : Value} {xs : List Value} (h : Sl sz by' w v n xs) : SlN v n := by
  obtain ⟨a, c, h, _⟩ := h.isSl
  exact ⟨a, c, h⟩
theorem OutE.n {sz B n : Nat} {X : Nat → Array Value → Prop} {te : TypeId} {v : Value} {w : World} (h : OutE sz X B te n v w) : SlN v n := by
  rcases h with ⟨h1, a, c, h2⟩ | ⟨g, c, _, h2, _⟩
  · exact ⟨a, c, by rw [h1, h2]⟩
  · exact ⟨_, _, h2⟩
theorem cells_str : Try.prog.cellsOf 9 = 1 := by kernel_rfl
theorem bytes_str : Try.prog.bytesOf 9 = 16 := by kernel_rfl
theorem cells_strs : Try.prog.cellsOf 51 = 1 := by kernel_rfl
theorem cells_exprs : Try.prog.cellsOf 52 = 1 := by kernel_rfl
theorem cells_expr : Try.prog.cellsOf 144 = 10 := by kernel_rfl
theorem bytes_expr : Try.prog.bytesOf 144 = 112 := by kernel_rfl
theorem cov_str : covB Try.prog 5 9 = true := by kernel_rfl
theorem cov_expr : covB Try.prog 5 144 = true := by kernel_rfl
section
variable {H : Type} {enc : TypeId × Value → H}
set_option maxRecDepth 100000 in
set_option maxHeartbeats 8000000 in
theorem inside_n (W0 : World) : ∀ (fuel : Nat) {w : World} {g j : Nat} {t : TypeId} (cs : Array Value) (l : List Value), Good enc Try.prog W0 fuel 144 l → Below W0.heap.size W0 w → W0.heap.size ≤ g → Blk w g t cs → (∀ k, k < 10 → cs[j + k]? = l[k]?) →
    Calls Try.prog 66 #[.pointer (some ⟨g, j, none⟩)] w fun e w' => e = .returned (.tuple #[]) ∧ ∃ cs', Blk w' g t cs' ∧ cs'.size = cs.size ∧ (∀ k, (k < j ∨ j + 10 ≤ k) → cs'[k]? = cs[k]?) ∧ Bt g w w' := by
  intro fuel
  induction fuel using Nat.strongRecOn with
  | _ fuel ih =>
  intro w g j t cs l hg hb hgB hblk hcs
  obtain ⟨k, hk, h4, _⟩ := Good.fld Try.underlying144 hg (i := 4) rfl
  obtain ⟨k2, hk2, h6, _⟩ := Good.fld Try.underlying144 hg (i := 6) rfl
  obtain rfl : k2 = k := by omega
  change Good enc _ W0 k2 51 ((l.drop 4).take (Try.prog.cellsOf 51)) at h4
  change Good enc _ W0 k2 52 ((l.drop 9).take (Try.prog.cellsOf 52)) at h6
  rw [cells_strs] at h4
  rw [cells_exprs] at h6
  obtain ⟨v4, n4, xs4, _, e4, S4, _, _⟩ := Good.sl Try.underlying51 cells_str (by decide) bytes_str cov_str h4
  obtain ⟨v9, n9, xs9, q, e9, S9, hq, G9⟩ := Good.sl Try.underlying52 cells_expr (by decide) bytes_expr cov_expr h6
  have c4 : cs[j + 4]? = some v4 := by rw [hcs 4 (by decide)]; exact at_of e4 (j := 0) rfl
  have c9 : cs[j + 9]? = some v9 := by rw [hcs 9 (by decide)]; exact at_of e9 (j := 0) rfl
  have HB := Lib.hid hblk
  have HC4 := Lib.hid c4
  have HC9 := Lib.hid c9
  have HS4 := Lib.hid (cloneStr_c (S4.below hb))
  have HGB := Lib.hid hgB
  have HBW := Lib.hid hb
  have HE : Hid (∀ u, Below W0.heap.size W0 u → Calls Try.prog 65 #[v9, .func (.func 66) #[] #[]] u fun e w' => ∃ v', e = .returned v' ∧ OutE 10 (fun _ _ => True) u.heap.size 144 n9 v' w' ∧ Below u.heap.size u w') := Lib.hid (fun u hu => by
    refine eachExpr_c (fun _ _ => True) (fun _ _ _ _ h => h) (S9.below hu) ?_
    intro i hi u2 g2 cs2 hg2 hb2 hblk2 hx2
    have hqk : k2 = q + 1 := by rcases hq with h | h; omega; exact h
    have hin := ih q (by omega) (w := u2) (g := g2) (j := i * 10) cs2 _ (G9 i hi) (hu.trans (hb2.mono hu.size)) (Nat.le_trans hu.size hg2) hblk2 (fun k hk => by rw [take_at hk]; exact hx2 k hk)
    refine hin.mono ?_
    rintro e w' ⟨rfl, cs', h1, h2, h3, h5⟩
    exact ⟨rfl, cs', h1, h2, h3, h5, trivial⟩)
  obtain ⟨a4, q4, rfl, _⟩ := S4.isSl
  obtain ⟨a9, q9, rfl, _⟩ := S9.isSl
  obtain ⟨d1, d2⟩ := slotB hblk c4
  clear ih hg hb hgB hcs h4 h6 e4 e9 S4 S9 G9 hq c4 c9 hblk
  go_enter Try.func66, Try.ntmps66
  go_upto_region 1 with (first | (go_at_call 58; refine HS4.out.mono ?_; rintro e w2 ⟨v2, rfl, h2, h3⟩; have H3 := Lib.hid h3; obtain ⟨a2, c2, rfl⟩ := owns_sl h2; obtain ⟨e1, e2⟩ := slotB (HB.out.keep H3.out) HC4.out; clear d1 d2 h2 h3) | fail)
  clear e1 e2
  have HB3 : Hid (Blk (w2.setCell ⟨g, j + 4, none⟩ (.slice a2 n4 c2)) g t (cs.setIfInBounds (j + 4) (.slice a2 n4 c2))) := Lib.hid ((HB.out.keep H3.out).set _ _)
  have HT3 : Hid (Bt g w (w2.setCell ⟨g, j + 4, none⟩ (.slice a2 n4 c2))) := Lib.hid ((Bt.of H3.out).set _)
  have HC3 : Hid ((cs.setIfInBounds (j + 4) (.slice a2 n4 c2))[j + 9]? = some (.slice a9 n9 q9)) := Lib.hid (by rw [set_at (by omega)]; exact HC9.out)
  generalize w2.setCell ⟨g, j + 4, none⟩ (.slice a2 n4 c2) = w3 at *
  have HE3 := Lib.hid (HE.out w3 (HT3.out.below HBW.out HGB.out))
  obtain ⟨d1, d2⟩ := slotB HB3.out HC3.out
  go_wp2_with (first | (go_at_call 65; refine HE3.out.mono ?_; rintro e w4 ⟨v4, rfl, h2, h3⟩; have H4 := Lib.hid h3; obtain ⟨a4', c4', rfl⟩ := h2.n; obtain ⟨e1, e2⟩ := slotB (HB3.out.keep H4.out) HC3.out; clear d1 d2 h2 h3) | fail)
  refine bodyPost_end (v := .tuple #[]) (by simp [results, Try.results66, go_sem]) rfl ⟨rfl, _, (HB3.out.keep H4.out).set _ _, by simp, fun k hk => ?_, (HT3.out.trans (Bt.of H4.out)).set _⟩
  rw [set_at (by omega), set_at (by omega)]
end
end Go.Proofs.Ytbcbhgclgakljaa
