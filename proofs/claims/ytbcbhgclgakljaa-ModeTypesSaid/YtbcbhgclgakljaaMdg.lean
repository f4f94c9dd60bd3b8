/- Rows of types; slices.Clone and each of them. -/
import Derived.Test.YtbcbhgclgakljaaMdf
namespace Go.Proofs.Ytbcbhgclgakljaa
open Go.RowKit Go.Maps
structure Ty where
  n : ByteArray
  pm : Bool
def cellsT (x : Ty) : List Value := [.string x.n, .slice none 0 0, .bool x.pm]
def RTy : RowT Ty := ⟨99, 46, cellsT, 3, 48, .agg #[.string { data := #[] }, .slice none 0 0, .bool false], fun _ => rfl, by decide, (by intro x u hu; simp only [cellsT, List.mem_cons, List.not_mem_nil, or_false] at hu; rcases hu with rfl | rfl | rfl <;> rfl), Try.underlying46, by kernel_rfl, rfl, by decide⟩
def RIn : RowT Int := ⟨3, 63, fun x => [.int .i64 x], 1, 8, .int .i64 0, fun _ => rfl, by decide, (by intro x u hu; simp only [List.mem_cons, List.not_mem_nil, or_false] at hu; subst hu; rfl), Try.underlying63, by kernel_rfl, rfl, by decide⟩
set_option maxRecDepth 100000 in
set_option maxHeartbeats 4000000 in
theorem cloneTypes_c (w : World) (T : List Ty) (g o n c : Nat) (h : Rows' RTy w (.slice (some ⟨g, o, none⟩) n c) T) (hn : n = T.length) (hl : n ≤ 1000) :
    Calls Try.prog 80 #[.slice (some ⟨g, o, none⟩) n c] w fun e w' => ∃ v', e = .returned v' ∧ Own RTy w' w.heap.size v' T ∧ Below w.heap.size w w' := by
  have q : ∀ (u : World) (a : Option Addr) (n c n' c' : Nat), (binOp .eql 46 (.slice a n c) (.slice none n' c')).run Try.prog u = .ok (.bool a.isNone) u := fun u a n c n' c' => Lib.run_eql_slice_nil u _ _ a n c n' c' Try.underlying46
  have HH := Lib.hid h
  have HN := Lib.hid hn
  have HOWN : Hid (Own RTy (w.alloc (.cells #[] 99)) w.heap.size (.slice (some ⟨w.heap.size, 0, none⟩) 0 0) []) := Lib.hid (World.ownsRow_made w #[] 0 (Nat.le_refl _) (Nat.zero_le _) rfl)
  have HH2 := Lib.hid (h.below ((Below.refl w.heap.size w).alloc (Nat.le_refl _) (.cells #[] 99)))
  have HL : Hid (([] : List Ty).length + T.length ≤ 100000) := Lib.hid (by simp; omega)
  have HA : Hid (Below w.heap.size w (w.alloc (.cells #[] 99))) := Lib.hid ((Below.refl _ _).alloc (Nat.le_refl _) _)
  clear h hn
  go_enter Try.func80, Try.ntmps80
  go_wp2_with (at_builtin; refine wpList_append_row RTy rfl _ _ rfl w.heap.size (.slice (some ⟨w.heap.size, 0, none⟩) 0 0) [] rfl HOWN.out (.slice (some ⟨g, o, none⟩) n c) T rfl HH2.out (.inr ⟨g, o, c, by rw [HN.out]⟩) HL.out HA.out.size ?_; intro v2 w2 h1 h2; have H1 := Lib.hid h1; have H2 := Lib.hid h2; clear h1 h2; obtain ⟨a2, k2, rfl⟩ := H1.out.isSl)
  go_ret
  refine ⟨_, rfl, by simpa using H1.out, HA.out.grown H2.out (by simp) (by intro k hk; simp [Value.ownBlock] at hk; omega)⟩
set_option maxRecDepth 100000 in
set_option maxHeartbeats 4000000 in
theorem policy2_c {w : World} {g j : Nat} {t : TypeId} {cs : Array Value} (hb : Blk w g t cs) (h : cs[j + 1]? = some (.slice none 0 0)) :
    Calls Try.prog 60 #[.pointer (some ⟨g, j, none⟩)] w fun e w' => e = .returned (.tuple #[]) ∧ Below w.heap.size w w' := by
  have hc : w.cell? ⟨g, j + 1, none⟩ = some (.slice none 0 0) := by rw [hb.cell, h]
  have hf : w.frozen? ⟨g, j + 1, none⟩ = false := hb.frozen _
  have HS := Lib.hid (same_cell hb h)
  clear h hb
  go_enter Try.func60, Try.ntmps60
  go_wp2_with (first | (go_at_call 58; refine (cloneStr_nil _).mono ?_; rintro e w2 ⟨rfl, rfl⟩) | fail)
  refine bodyPost_end (v := .tuple #[]) (by simp [results, Try.results60, go_sem]) rfl ⟨rfl, HS.out⟩
set_option maxRecDepth 100000 in
set_option maxHeartbeats 8000000 in
theorem eachTypes_c (w : World) (T : List Ty) (g o n c : Nat) (h : Rows' RTy w (.slice (some ⟨g, o, none⟩) n c) T) (hn : n = T.length) (hl : n ≤ 1000) (h0 : 0 < n) :
    Calls Try.prog 59 #[.slice (some ⟨g, o, none⟩) n c, .func (.func 60) #[] #[]] w fun e w' => ∃ g2 c2, e = .returned (.slice (some ⟨g2, 0, none⟩) n c2) ∧ Own RTy w' w.heap.size (.slice (some ⟨g2, 0, none⟩) n c2) T ∧ Below w.heap.size w w' := by
  have HC := Lib.hid (cloneTypes_c w T g o n c h hn hl)
  have HN := Lib.hid hn
  clear h hn
  go_enter Try.func59, Try.ntmps59
  go_upto_region 2 with (first | (go_at_call 80; refine HC.out.mono ?_; rintro e w2 ⟨v2, rfl, h1, h2⟩; have H1 := Lib.hid h1; have H2 := Lib.hid h2; clear h1 h2; rcases H1.out.form with ⟨_, e0⟩ | ⟨g2, c2, cur, e1, _, hbl, hcap, _, hsz, hcur⟩; exact absurd (by rw [HN.out, e0]; rfl : n = 0) (by omega); rw [← HN.out] at e1; subst e1) | fail)
  have HBL : Hid (Blk w2 g2 99 cur) := Lib.hid hbl
  have HCUR := Lib.hid hcur
  have hcapN : (n : Int) ≤ (c2 : Int) := by rw [← HN.out] at hcap; omega
  clear hbl hcur hsz hcap
  go_wp2_with fail
  go_loopw [10] (fun vi wr => ∃ i : Nat, i ≤ n ∧ vi = .int .i64 i ∧ Hid (Below w2.heap.size w2 wr)) (fun vi _ => n - (intOf vi).toNat)
  case atStart => exact ⟨0, Nat.zero_le _, rfl, Lib.hid (Below.refl _ _)⟩
  case round =>
    obtain ⟨i, hi, rfl, HW⟩ := hrel
    by_cases hlt : i < n
    · have hltI : (i : Int) < (n : Int) := by omega
      have hx : T[i]? = some (T[i]'(by rw [← HN.out]; exact hlt)) := List.getElem?_eq_getElem _
      generalize T[i]'(by rw [← HN.out]; exact hlt) = x at hx
      have HP := Lib.hid (policy2_c (w := wr) (g := g2) (j := i * 3) (HBL.out.keep HW.out) (HCUR.out i x hx 1 (by decide)))
      clear hx
      go_wp2_with (go_at_call 60; refine HP.out.mono ?_; rintro e w3 ⟨rfl, hb3⟩; have HB3 := Lib.hid hb3; clear hb3)
      exact ⟨⟨i + 1, by omega, by go_num, Lib.hid (HW.out.trans (HB3.out.mono HW.out.size))⟩, by simp [intOf]; omega⟩
    · obtain rfl : i = n := by omega
      go_wp2_with fail
      go_ret
      exact ⟨_, _, rfl, H1.out.below HW.out, H2.out.trans (HW.out.mono H2.out.size)⟩
end Go.Proofs.Ytbcbhgclgakljaa
