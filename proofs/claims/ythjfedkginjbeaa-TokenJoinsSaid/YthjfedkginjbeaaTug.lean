/- The statements' own check of examples, walked. -/
import Derived.Test.YthjfedkginjbeaaTuf
import Derived.Test.YthjfedkginjbeaaTsn
import Derived.Test.YthjfedkginjbeaaTsm
namespace Go.Proofs.Ythjfedkginjbeaa
open Go.RowKit
def Tk.toI (t : Tk) : TI := ⟨(t.kind : Int), t.text, t.line, t.col⟩
theorem flat4 : ∀ (l : List Tk) (i : Nat) (t : Tk), l[i]? = some t → ∀ j, j < 4 → (l.flatMap Tk.cells)[i * 4 + j]? = t.cells[j]?
  | [], i, t, h, j, hj => by simp at h
  | u :: r, 0, t, h, j, hj => by
    simp at h
    subst h
    have e : ((u :: r).flatMap Tk.cells) = u.cells ++ r.flatMap Tk.cells := by simp
    rw [e, List.getElem?_append_left (by simp [Tk.cells]; omega)]
    simp
  | u :: r, i + 1, t, h, j, hj => by
    have e : ((u :: r).flatMap Tk.cells) = u.cells ++ r.flatMap Tk.cells := by simp
    have hu : u.cells.length = 4 := rfl
    rw [e, List.getElem?_append_right (by omega), hu, show (i + 1) * 4 + j - 4 = i * 4 + j by omega]
    exact flat4 r i t (by simpa using h) j hj
theorem OwnT.toks {w : World} {base : Nat} {v : Value} {l : List Tk} (h : OwnT w base v l) : Toks w v (l.map Tk.toI) := by
  rcases h.2 with ⟨hv, h0⟩ | ⟨g, cap, cur, hv, _, hh, hc, _, hs, ht⟩
  · have hl : l = [] := List.eq_nil_of_length_eq_zero h0
    subst hl
    exact ⟨none, 0, by simpa using hv, Nat.zero_le _, fun hn => absurd rfl hn⟩
  · refine ⟨some ⟨g, 0, none⟩, cap, by simpa using hv, by simpa using hc, fun _ => ⟨g, 0, rfl, ?_⟩⟩
    intro i t hi
    rw [List.getElem?_map] at hi
    obtain ⟨u, hu, rfl⟩ := Option.map_eq_some_iff.1 hi
    have hil : i < l.length := by
      rcases Nat.lt_or_ge i l.length with h' | h'
      · exact h'
      · rw [List.getElem?_eq_none h'] at hu; cases hu
    have hcell : ∀ j, j < 4 → w.cell? ⟨g, 0 + i * 4 + j, none⟩ = u.cells[j]? := by
      intro j hj
      rw [cell_of_row w g (0 + i * 4 + j) cur _ _ hh, ← flat4 l i u hu j hj, ← ht, Nat.zero_add]
      rw [List.getElem?_take, if_pos (by omega)]
      simp
    exact ⟨hcell 0 (by omega), hcell 1 (by omega), hcell 2 (by omega), hcell 3 (by omega)⟩
/-- Scan, with its list as plain tokens -/
theorem scan_t (s : ByteArray) (w : World) (hm : s.size ≤ 65536) :
    Calls Try.prog 14 #[.string s] w fun e w' => ∃ v, e = .returned (.tuple #[v, faultV s (scF s (s.size + 1) 0 []).1]) ∧ Toks w' v ((scF s (s.size + 1) 0 []).2.map Tk.toI) ∧ Below w.heap.size w w' := by
  refine (scan_c s w hm).mono ?_
  rintro e w' ⟨v, ho, rfl, hb⟩
  exact ⟨v, rfl, ho.toks, hb⟩
def S1 : ByteArray := ⟨#[97, 108, 108, 111, 119, 32, 97, 95, 116, 32, 115, 101, 108, 102, 59]⟩
def S2 : ByteArray := ⟨#[97, 32, 61, 98]⟩
def L1 : List TI := [⟨1, ⟨#[97, 108, 108, 111, 119]⟩, 1, 1⟩, ⟨1, ⟨#[97, 95, 116]⟩, 1, 7⟩, ⟨1, ⟨#[115, 101, 108, 102]⟩, 1, 11⟩, ⟨4, ⟨#[59]⟩, 1, 15⟩, ⟨0, ⟨#[]⟩, 1, 16⟩]
def L3 : List TI := [⟨1, ⟨#[97]⟩, 0, 0⟩, ⟨4, ⟨#[123]⟩, 0, 0⟩, ⟨3, ⟨#[120, 32, 121]⟩, 0, 0⟩]
set_option maxRecDepth 100000 in
theorem scan_1 : (scF S1 (S1.size + 1) 0 []).1 = none ∧ (scF S1 (S1.size + 1) 0 []).2.map Tk.toI = L1 := ⟨by kernel_rfl, by kernel_rfl⟩
set_option maxRecDepth 100000 in
theorem scan_2 : faultV S2 (scF S2 (S2.size + 1) 0 []).1 = .agg #[.int .i64 9, .int .i64 1, .int .i64 3, .string ⟨#[]⟩] := by kernel_rfl
set_option maxRecDepth 100000 in
theorem text_1 : textR L3 = (⟨#[97, 32, 123, 32, 34, 120, 32, 121, 34]⟩, 0) := by kernel_rfl
theorem aw_kw : isKw ⟨#[115, 101, 108, 102]⟩ = true := by kernel_rfl
theorem aw_i1 : identB ⟨#[115, 101, 108, 102]⟩ = false := by kernel_rfl
theorem aw_i2 : identB ⟨#[108, 105, 110, 107]⟩ = true := by kernel_rfl
theorem aw_p1 : (posI ⟨#[97, 10, 98]⟩ 2).1 = 2 := by kernel_rfl
theorem aw_p2 : (posI ⟨#[97, 10, 98]⟩ 2).2 = 1 := by kernel_rfl
theorem scan_a (w : World) : Calls Try.prog 14 #[.string ⟨#[97, 108, 108, 111, 119, 32, 97, 95, 116, 32, 115, 101, 108, 102, 59]⟩] w fun e w' => ∃ g o cap, e = .returned (.tuple #[.slice (some ⟨g, o, none⟩) 5 cap, .agg #[.int .i64 0, .int .i64 0, .int .i64 0, .string ⟨#[]⟩]]) ∧ Row w' g o L1 ∧ g < w'.heap.size ∧ Below w.heap.size w w' := by
  refine (scan_t S1 w (by decide)).mono ?_
  rintro e w' ⟨v, rfl, hT, hb⟩
  rw [scan_1.1]
  rw [scan_1.2] at hT
  obtain ⟨ao, cap, rfl, _, hr⟩ := hT
  obtain ⟨g, o, rfl, hR⟩ := hr (by simp [L1])
  exact ⟨g, o, cap, rfl, hR, hR.lt (by simp [L1]), hb⟩
theorem scan_b (w : World) : Calls Try.prog 14 #[.string ⟨#[97, 32, 61, 98]⟩] w fun e w' => ∃ v, e = .returned (.tuple #[v, .agg #[.int .i64 9, .int .i64 1, .int .i64 3, .string ⟨#[]⟩]]) ∧ Below w.heap.size w w' := by
  refine (scan_t S2 w (by decide)).mono ?_
  rintro e w' ⟨v, rfl, hT, hb⟩
  rw [scan_2]
  exact ⟨v, rfl, hb⟩
theorem row12 {w : World} {g : Nat} (h : Blk w g 34 #[.int .i64 1, .string ⟨#[97]⟩, .int .i64 0, .int .i64 0, .int .i64 4, .string ⟨#[123]⟩, .int .i64 0, .int .i64 0, .int .i64 3, .string ⟨#[120, 32, 121]⟩, .int .i64 0, .int .i64 0]) : Toks w (.slice (some ⟨g, 0, none⟩) 3 3) L3 := by
  refine ⟨_, _, rfl, Nat.le_refl _, fun _ => ⟨g, 0, rfl, ?_⟩⟩
  intro i t ht
  rw [h.cell, h.cell, h.cell, h.cell]
  match i, ht with
  | 0, ht => simp [L3] at ht; subst ht; exact ⟨rfl, rfl, rfl, rfl⟩
  | 1, ht => simp [L3] at ht; subst ht; exact ⟨rfl, rfl, rfl, rfl⟩
  | 2, ht => simp [L3] at ht; subst ht; exact ⟨rfl, rfl, rfl, rfl⟩
  | n + 3, ht => simp [L3] at ht
theorem text_a (w : World) (g : Nat) (hT : Toks w (.slice (some ⟨g, 0, none⟩) 3 3) L3) : Calls Try.prog 24 #[.slice (some ⟨g, 0, none⟩) 3 3] w fun e w' => e = .returned (.tuple #[.string ⟨#[97, 32, 123, 32, 34, 120, 32, 121, 34]⟩, .int .i64 0]) ∧ Below w.heap.size w w' := by
  refine (text_c _ L3 w (by decide) hT (by intro t ht; simp [L3] at ht; rcases ht with rfl | rfl | rfl <;> decide)).mono ?_
  rintro e w' ⟨rfl, hb⟩
  rw [text_1]
  exact ⟨rfl, hb⟩
set_option maxRecDepth 100000 in
set_option maxHeartbeats 8000000 in
theorem awake_c (w : World) : Calls Try.prog 13 #[] w fun e w' => e = .returned (.bool true) ∧ Below w.heap.size w w' := by
  go_enter Try.func13, Try.ntmps13
  go_wp2_with fail
  refine (scan_a w).mono ?_
  rintro e w2 ⟨g, o, cap, rfl, hR, hg, hb2⟩
  have HR := Lib.hid hR
  clear hR
  go_wp2_with fail
  have F2 : Blk (w2.alloc (.cells #[.int .i64 0, .int .i64 0, .int .i64 0, .string ⟨#[]⟩] 28)) w2.heap.size _ _ := Blk.new w2 _ _
  have hg2 : g < (w2.alloc (.cells #[.int .i64 0, .int .i64 0, .int .i64 0, .string ⟨#[]⟩] 28)).heap.size := by simp; omega
  have HR2 : Hid (Row (w2.alloc (.cells #[.int .i64 0, .int .i64 0, .int .i64 0, .string ⟨#[]⟩] 28)) g o L1) := Lib.hid (HR.out.keep (Below.heap_alloc w2 _ g hg))
  have hb3 := hb2.alloc hb2.size (.cells #[.int .i64 0, .int .i64 0, .int .i64 0, .string ⟨#[]⟩] 28)
  have hs2 := hb2.size
  refine (scan_b _).mono ?_
  obtain ⟨f2, hf2⟩ : ∃ f, w2.heap.size = f := ⟨_, rfl⟩
  rw [hf2] at F2 hs2
  simp only [hf2]
  generalize w2.alloc (.cells #[.int .i64 0, .int .i64 0, .int .i64 0, .string ⟨#[]⟩] 28) = W3 at *
  clear HR hg hb2 hf2 w2
  rintro e w3 ⟨v3, rfl, hb4⟩
  have F3 := F2.keep hb4
  have hf2 := F2.lt
  have HR3 : Hid (Row w3 g o L1) := Lib.hid (HR2.out.keep (hb4.block g hg2))
  have hb5 := hb3.trans (hb4.mono hb3.size)
  have hs4 := hb4.size
  clear HR2 F2
  go_wp2_with fail
  refine (text_a _ _ (row12 (Blk.here (by simp)))).mono ?_
  rintro e w4 ⟨rfl, hb6⟩
  have hs6 := hb6.size
  simp at hs6
  have F4 := ((F3.alloc (.cells #[.int .i64 9, .int .i64 1, .int .i64 3, .string ⟨#[]⟩] 28)).alloc (.cells #[.int .i64 1, .string ⟨#[97]⟩, .int .i64 0, .int .i64 0, .int .i64 4, .string ⟨#[123]⟩, .int .i64 0, .int .i64 0, .int .i64 3, .string ⟨#[120, 32, 121]⟩, .int .i64 0, .int .i64 0] 34)).keep hb6
  have G4 : Blk w4 w3.heap.size 28 #[.int .i64 9, .int .i64 1, .int .i64 3, .string ⟨#[]⟩] := ((Blk.new w3 28 #[.int .i64 9, .int .i64 1, .int .i64 3, .string ⟨#[]⟩]).alloc (.cells #[.int .i64 1, .string ⟨#[97]⟩, .int .i64 0, .int .i64 0, .int .i64 4, .string ⟨#[123]⟩, .int .i64 0, .int .i64 0, .int .i64 3, .string ⟨#[120, 32, 121]⟩, .int .i64 0, .int .i64 0] 34)).keep hb6
  have HR4 : Row w4 g o L1 := ((HR3.out.keep (Below.heap_alloc w3 (.cells #[.int .i64 9, .int .i64 1, .int .i64 3, .string ⟨#[]⟩] 28) g (by omega))).keep (Below.heap_alloc _ (.cells #[.int .i64 1, .string ⟨#[97]⟩, .int .i64 0, .int .i64 0, .int .i64 4, .string ⟨#[123]⟩, .int .i64 0, .int .i64 0, .int .i64 3, .string ⟨#[120, 32, 121]⟩, .int .i64 0, .int .i64 0] 34) g (by simp; omega))).keep (hb6.block g (by simp; omega))
  have hb7 := ((hb5.alloc (by omega) (.cells #[.int .i64 9, .int .i64 1, .int .i64 3, .string ⟨#[]⟩] 28)).alloc (by simp; omega) (.cells #[.int .i64 1, .string ⟨#[97]⟩, .int .i64 0, .int .i64 0, .int .i64 4, .string ⟨#[123]⟩, .int .i64 0, .int .i64 0, .int .i64 3, .string ⟨#[120, 32, 121]⟩, .int .i64 0, .int .i64 0] 34)).trans (hb6.mono (by simp; omega))
  obtain ⟨a0, a1, a2, a3⟩ := HR4 1 _ rfl
  obtain ⟨b0, b1, b2, b3⟩ := HR4 4 _ rfl
  simp only [Nat.one_mul, Nat.reduceMul, Nat.reduceAdd, Nat.add_assoc] at a0 a1 a2 a3 b0 b1 b2 b3
  obtain ⟨x0, x1, x2, x3, _⟩ := cells4 F4
  obtain ⟨y0, y1, y2, y3, _⟩ := cells4 G4
  clear HR4 HR3 F3 hb6
  go_wp2_with fail
  refine (kw_c _ _).mono ?_
  rintro e w5 ⟨rfl, rfl⟩
  rw [aw_kw]
  clear a0 a1 a2 a3 b0 b1 b2 b3 x0 x1 x2 x3 y0 y1 y2 y3 F4 G4
  go_wp2_with fail
  refine (identifier_c _ _ (by decide)).mono ?_
  rintro e w6 ⟨rfl, hb8⟩
  rw [aw_i1]
  go_wp2_with fail
  refine (identifier_c _ _ (by decide)).mono ?_
  rintro e w7 ⟨rfl, hb9⟩
  rw [aw_i2]
  go_wp2_with fail
  refine (loc_in ⟨#[97, 10, 98]⟩ 2 _ (by decide) (by decide)).mono ?_
  rintro e w8 ⟨rfl, hb10⟩
  rw [aw_p1, aw_p2]
  go_wp2_with fail
  go_ret
  exact ⟨rfl, hb7.trans (((hb8.trans (hb9.mono hb8.size)).trans (hb10.mono (Nat.le_trans hb8.size hb9.size))).mono hb7.size)⟩
end Go.Proofs.Ythjfedkginjbeaa
