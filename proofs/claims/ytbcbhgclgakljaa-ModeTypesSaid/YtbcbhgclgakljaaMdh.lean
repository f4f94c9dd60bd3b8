/- A policy with types alone copied. -/
import Derived.Test.YtbcbhgclgakljaaMdg
namespace Go.Proofs.Ytbcbhgclgakljaa
open Go.RowKit Go.Maps
theorem own_blocks {α : Type} {R : RowT α} {w w' : World} {B : Nat} {v : Value} {L : List α} (h : Own R w B v L) (hs : ∀ g, B ≤ g → g < w.heap.size → w'.heap[g]? = w.heap[g]?) : Own R w' B v L := by
  refine ⟨h.1, ?_⟩
  rcases h.2 with hn | ⟨g, cap, cur, hv, hbg, hg, rest⟩
  · exact .inl hn
  · exact .inr ⟨g, cap, cur, hv, hbg, (hs g hbg (Blk.lt (show Blk w g _ cur from hg))).trans hg, rest⟩
theorem own_far {α : Type} {R : RowT α} {w : World} {B : Nat} {v : Value} {L : List α} (h : Own R w B v L) {p : Addr} (hp : p.block < B) (x : Value) : Own R (w.setCell p x) B v L := own_blocks h fun g h1 _ => Below.heap_setCell w p x g (by omega)
theorem own_row {α : Type} {R : RowT α} {w : World} {B g : Nat} {v : Value} {L : List α} {cs : Array Value} (h : Own R w B v L) (hp : g < B) : Own R (w.setRow g cs) B v L := own_blocks h fun j h1 _ => setRow_other w g j cs (by omega)
theorem agg_pol (w : World) : (isAgg 62).run Try.prog w = .ok true w := by go_simp
theorem size_pol (w : World) : (sizeOf 62).run Try.prog w = .ok 17 w := by go_simp
theorem one_pol (a : Option Addr) (n c : Nat) : ∀ x ∈ ([.slice none 0 0, (.slice a n c), .slice none 0 0, .slice none 0 0, .slice none 0 0, .slice none 0 0, .slice none 0 0, .slice none 0 0, .slice none 0 0, .slice none 0 0, .slice none 0 0, .slice none 0 0, .slice none 0 0, .slice none 0 0, .slice none 0 0, .slice none 0 0, .slice none 0 0] : List Value), x.oneCell' = true := by
  intro x hx
  simp only [List.mem_cons, List.not_mem_nil, or_false] at hx
  rcases hx with rfl | rfl | rfl | rfl | rfl | rfl | rfl | rfl | rfl | rfl | rfl | rfl | rfl | rfl | rfl | rfl | rfl <;> rfl
set_option maxRecDepth 100000 in
set_option maxHeartbeats 16000000 in
theorem clonePol_c (w : World) (T : List Ty) (g o n c : Nat) (h : Rows' RTy w (.slice (some ⟨g, o, none⟩) n c) T) (hn : n = T.length) (hl : n ≤ 1000) (h0 : 0 < n) :
    Calls Try.prog 43 #[.agg #[.slice none 0 0, (.slice (some ⟨g, o, none⟩) n c), .slice none 0 0, .slice none 0 0, .slice none 0 0, .slice none 0 0, .slice none 0 0, .slice none 0 0, .slice none 0 0, .slice none 0 0, .slice none 0 0, .slice none 0 0, .slice none 0 0, .slice none 0 0, .slice none 0 0, .slice none 0 0, .slice none 0 0]] w fun e w' => ∃ g2 c2, e = .returned (.agg #[.slice none 0 0, (.slice (some ⟨g2, 0, none⟩) n c2), .slice none 0 0, .slice none 0 0, .slice none 0 0, .slice none 0 0, .slice none 0 0, .slice none 0 0, .slice none 0 0, .slice none 0 0, .slice none 0 0, .slice none 0 0, .slice none 0 0, .slice none 0 0, .slice none 0 0, .slice none 0 0, .slice none 0 0]) ∧ Own RTy w' w.heap.size (.slice (some ⟨g2, 0, none⟩) n c2) T ∧ Below w.heap.size w w' := by
  have HB0 : Hid (Below w.heap.size w ((w.alloc (.cells #[.slice none 0 0, (.slice (some ⟨g, o, none⟩) n c), .slice none 0 0, .slice none 0 0, .slice none 0 0, .slice none 0 0, .slice none 0 0, .slice none 0 0, .slice none 0 0, .slice none 0 0, .slice none 0 0, .slice none 0 0, .slice none 0 0, .slice none 0 0, .slice none 0 0, .slice none 0 0, .slice none 0 0] 62)).alloc (.cells #[.slice none 0 0, (.slice none 0 0), .slice none 0 0, .slice none 0 0, .slice none 0 0, .slice none 0 0, .slice none 0 0, .slice none 0 0, .slice none 0 0, .slice none 0 0, .slice none 0 0, .slice none 0 0, .slice none 0 0, .slice none 0 0, .slice none 0 0, .slice none 0 0, .slice none 0 0] 62))) := Lib.hid (((Below.refl _ _).alloc (Nat.le_refl _) _).alloc (by simp) _)
  have HP0 : Hid (Blk ((w.alloc (.cells #[.slice none 0 0, (.slice (some ⟨g, o, none⟩) n c), .slice none 0 0, .slice none 0 0, .slice none 0 0, .slice none 0 0, .slice none 0 0, .slice none 0 0, .slice none 0 0, .slice none 0 0, .slice none 0 0, .slice none 0 0, .slice none 0 0, .slice none 0 0, .slice none 0 0, .slice none 0 0, .slice none 0 0] 62)).alloc (.cells #[.slice none 0 0, (.slice none 0 0), .slice none 0 0, .slice none 0 0, .slice none 0 0, .slice none 0 0, .slice none 0 0, .slice none 0 0, .slice none 0 0, .slice none 0 0, .slice none 0 0, .slice none 0 0, .slice none 0 0, .slice none 0 0, .slice none 0 0, .slice none 0 0, .slice none 0 0] 62)) w.heap.size 62 #[.slice none 0 0, (.slice (some ⟨g, o, none⟩) n c), .slice none 0 0, .slice none 0 0, .slice none 0 0, .slice none 0 0, .slice none 0 0, .slice none 0 0, .slice none 0 0, .slice none 0 0, .slice none 0 0, .slice none 0 0, .slice none 0 0, .slice none 0 0, .slice none 0 0, .slice none 0 0, .slice none 0 0]) := Lib.hid ((Blk.here rfl).alloc _)
  have HQ0 : Hid (Blk ((w.alloc (.cells #[.slice none 0 0, (.slice (some ⟨g, o, none⟩) n c), .slice none 0 0, .slice none 0 0, .slice none 0 0, .slice none 0 0, .slice none 0 0, .slice none 0 0, .slice none 0 0, .slice none 0 0, .slice none 0 0, .slice none 0 0, .slice none 0 0, .slice none 0 0, .slice none 0 0, .slice none 0 0, .slice none 0 0] 62)).alloc (.cells #[.slice none 0 0, (.slice none 0 0), .slice none 0 0, .slice none 0 0, .slice none 0 0, .slice none 0 0, .slice none 0 0, .slice none 0 0, .slice none 0 0, .slice none 0 0, .slice none 0 0, .slice none 0 0, .slice none 0 0, .slice none 0 0, .slice none 0 0, .slice none 0 0, .slice none 0 0] 62)) (w.heap.size + 1) 62 #[.slice none 0 0, (.slice none 0 0), .slice none 0 0, .slice none 0 0, .slice none 0 0, .slice none 0 0, .slice none 0 0, .slice none 0 0, .slice none 0 0, .slice none 0 0, .slice none 0 0, .slice none 0 0, .slice none 0 0, .slice none 0 0, .slice none 0 0, .slice none 0 0, .slice none 0 0]) := Lib.hid (Blk.here (by simp))
  have HR0 := Lib.hid (h.below HB0.out)
  have hne : w.heap.size + 1 ≠ w.heap.size := by omega
  have HG : Hid (w.heap.size ≤ w.heap.size + 1) := Lib.hid (by omega)
  have HN := Lib.hid hn
  clear h hn
  go_enter Try.func43, Try.ntmps43
  go_upto_region 1 with fail
  generalize (w.alloc (.cells #[.slice none 0 0, (.slice (some ⟨g, o, none⟩) n c), .slice none 0 0, .slice none 0 0, .slice none 0 0, .slice none 0 0, .slice none 0 0, .slice none 0 0, .slice none 0 0, .slice none 0 0, .slice none 0 0, .slice none 0 0, .slice none 0 0, .slice none 0 0, .slice none 0 0, .slice none 0 0, .slice none 0 0] 62)).alloc (.cells #[.slice none 0 0, (.slice none 0 0), .slice none 0 0, .slice none 0 0, .slice none 0 0, .slice none 0 0, .slice none 0 0, .slice none 0 0, .slice none 0 0, .slice none 0 0, .slice none 0 0, .slice none 0 0, .slice none 0 0, .slice none 0 0, .slice none 0 0, .slice none 0 0, .slice none 0 0] 62) = w0 at *
  generalize w.heap.size + 1 = g2 at *
  generalize hgx : w.heap.size = g1 at *
  have c0 := HP0.out.cell 0
  have f0 := HP0.out.frozen 0
  simp only [List.getElem?_toArray, List.getElem?_cons_zero] at c0
  go_upto_region 2 with (first | (go_at_call 56; refine (eachClass_nil _ _).mono ?_; rintro e w9 ⟨rfl, rfl⟩) | fail)
  clear c0 f0
  try generalize w9 = w0 at *
  have hs := same_cell (j := 0) (v := .slice none 0 0) HP0.out rfl
  have HP1 := Lib.hid (HP0.out.keep hs)
  have HQ1 := Lib.hid (HQ0.out.keep hs)
  have HB1 : Hid (Below g1 w _) := Lib.hid (HB0.out.trans (hs.mono (by have := HP0.out.lt; omega)))
  have HR1 := Lib.hid (HR0.out.below hs)
  clear HR0
  clear hs HP0 HQ0 HB0
  generalize w0.setCell ⟨g1, 0, none⟩ (.slice none 0 0) = w1 at *
  have c1 := HP1.out.cell 1
  have f1 := HP1.out.frozen 1
  simp only [List.getElem?_toArray, List.getElem?_cons_zero, List.getElem?_cons_succ] at c1
  go_upto_region 3 with (first | (go_at_call 59; refine (eachTypes_c _ T g o n c HR1.out HN.out hl h0).mono ?_; rintro e w2 ⟨gt, ct, rfl, h1, h2⟩; have HO := Lib.hid h1; have HB := Lib.hid h2; clear h1 h2; have c1' := HP1.out.keep HB.out |>.cell 1; have f1' := (HP1.out.keep HB.out).frozen 1; simp only [List.getElem?_toArray, List.getElem?_cons_zero, List.getElem?_cons_succ] at c1') | fail)
  clear c1 f1 c1' f1'
  have HP2 : Hid (Blk (w2.setCell ⟨g1, 1, none⟩ (.slice (some ⟨gt, 0, none⟩) n ct)) g1 62 #[.slice none 0 0, (.slice (some ⟨gt, 0, none⟩) n ct), .slice none 0 0, .slice none 0 0, .slice none 0 0, .slice none 0 0, .slice none 0 0, .slice none 0 0, .slice none 0 0, .slice none 0 0, .slice none 0 0, .slice none 0 0, .slice none 0 0, .slice none 0 0, .slice none 0 0, .slice none 0 0, .slice none 0 0]) := Lib.hid (by simpa using (HP1.out.keep HB.out).set 1 (.slice (some ⟨gt, 0, none⟩) n ct))
  have HQ2 := Lib.hid ((HQ1.out.keep HB.out).far (p := ⟨g1, 1, none⟩) hne (.slice (some ⟨gt, 0, none⟩) n ct))
  have HB2 : Hid (Below g1 w (w2.setCell ⟨g1, 1, none⟩ (.slice (some ⟨gt, 0, none⟩) n ct))) := Lib.hid ((HB1.out.trans (HB.out.mono (by have := HP1.out.lt; omega))).setCell (p := ⟨g1, 1, none⟩) (Nat.le_refl _) _)
  have HO2 : Hid (Own RTy (w2.setCell ⟨g1, 1, none⟩ (.slice (some ⟨gt, 0, none⟩) n ct)) w1.heap.size (.slice (some ⟨gt, 0, none⟩) n ct) T) := Lib.hid (own_far HO.out (p := ⟨g1, 1, none⟩) HP1.out.lt _)
  have HGB : Hid (g2 < w1.heap.size) := Lib.hid HQ1.out.lt
  have HLE : Hid (g1 ≤ w1.heap.size) := Lib.hid (Nat.le_of_lt HP1.out.lt)
  clear HP1 HQ1 HB1 HB HO HR1
  generalize w1.heap.size = b1 at *
  generalize w2.setCell ⟨g1, 1, none⟩ (.slice (some ⟨gt, 0, none⟩) n ct) = w2 at *
  have c2 := HP2.out.cell 2
  have f2 := HP2.out.frozen 2
  simp only [List.getElem?_toArray, List.getElem?_cons_zero, List.getElem?_cons_succ] at c2
  go_upto_region 4 with (first | (go_at_call 61; refine (cloneAttr_nil _).mono ?_; rintro e w9 ⟨rfl, rfl⟩) | fail)
  clear c2 f2
  try generalize w9 = w2 at *
  have hs := same_cell (j := 2) (v := .slice none 0 0) HP2.out rfl
  have HP3 := Lib.hid (HP2.out.keep hs)
  have HQ3 := Lib.hid (HQ2.out.keep hs)
  have HB3 : Hid (Below g1 w _) := Lib.hid (HB2.out.trans (hs.mono (by have := HP2.out.lt; omega)))
  have HO3 := Lib.hid (HO2.out.below hs)
  clear HO2
  clear hs HP2 HQ2 HB2
  generalize w2.setCell ⟨g1, 2, none⟩ (.slice none 0 0) = w3 at *
  have c3 := HP3.out.cell 3
  have f3 := HP3.out.frozen 3
  simp only [List.getElem?_toArray, List.getElem?_cons_zero, List.getElem?_cons_succ] at c3
  go_upto_region 5 with (first | (go_at_call 62; refine (cloneRole_nil _).mono ?_; rintro e w9 ⟨rfl, rfl⟩) | fail)
  clear c3 f3
  try generalize w9 = w3 at *
  have hs := same_cell (j := 3) (v := .slice none 0 0) HP3.out rfl
  have HP4 := Lib.hid (HP3.out.keep hs)
  have HQ4 := Lib.hid (HQ3.out.keep hs)
  have HB4 : Hid (Below g1 w _) := Lib.hid (HB3.out.trans (hs.mono (by have := HP3.out.lt; omega)))
  have HO4 := Lib.hid (HO3.out.below hs)
  clear HO3
  clear hs HP3 HQ3 HB3
  generalize w3.setCell ⟨g1, 3, none⟩ (.slice none 0 0) = w4 at *
  have c4 := HP4.out.cell 4
  have f4 := HP4.out.frozen 4
  simp only [List.getElem?_toArray, List.getElem?_cons_zero, List.getElem?_cons_succ] at c4
  go_upto_region 6 with (first | (go_at_call 63; refine (cloneUser_nil _).mono ?_; rintro e w9 ⟨rfl, rfl⟩) | fail)
  clear c4 f4
  try generalize w9 = w4 at *
  have hs := same_cell (j := 4) (v := .slice none 0 0) HP4.out rfl
  have HP5 := Lib.hid (HP4.out.keep hs)
  have HQ5 := Lib.hid (HQ4.out.keep hs)
  have HB5 : Hid (Below g1 w _) := Lib.hid (HB4.out.trans (hs.mono (by have := HP4.out.lt; omega)))
  have HO5 := Lib.hid (HO4.out.below hs)
  clear HO4
  clear hs HP4 HQ4 HB4
  generalize w4.setCell ⟨g1, 4, none⟩ (.slice none 0 0) = w5 at *
  have c5 := HP5.out.cell 5
  have f5 := HP5.out.frozen 5
  simp only [List.getElem?_toArray, List.getElem?_cons_zero, List.getElem?_cons_succ] at c5
  go_upto_region 7 with (first | (go_at_call 64; refine (cloneBool_nil _).mono ?_; rintro e w9 ⟨rfl, rfl⟩) | fail)
  clear c5 f5
  try generalize w9 = w5 at *
  have hs := same_cell (j := 5) (v := .slice none 0 0) HP5.out rfl
  have HP6 := Lib.hid (HP5.out.keep hs)
  have HQ6 := Lib.hid (HQ5.out.keep hs)
  have HB6 : Hid (Below g1 w _) := Lib.hid (HB5.out.trans (hs.mono (by have := HP5.out.lt; omega)))
  have HO6 := Lib.hid (HO5.out.below hs)
  clear HO5
  clear hs HP5 HQ5 HB5
  generalize w5.setCell ⟨g1, 5, none⟩ (.slice none 0 0) = w6 at *
  have c6 := HP6.out.cell 6
  have f6 := HP6.out.frozen 6
  simp only [List.getElem?_toArray, List.getElem?_cons_zero, List.getElem?_cons_succ] at c6
  go_upto_region 8 with (first | (go_at_call 58; refine (cloneStr_nil _).mono ?_; rintro e w9 ⟨rfl, rfl⟩) | fail)
  clear c6 f6
  try generalize w9 = w6 at *
  have hs := same_cell (j := 6) (v := .slice none 0 0) HP6.out rfl
  have HP7 := Lib.hid (HP6.out.keep hs)
  have HQ7 := Lib.hid (HQ6.out.keep hs)
  have HB7 : Hid (Below g1 w _) := Lib.hid (HB6.out.trans (hs.mono (by have := HP6.out.lt; omega)))
  have HO7 := Lib.hid (HO6.out.below hs)
  clear HO6
  clear hs HP6 HQ6 HB6
  generalize w6.setCell ⟨g1, 6, none⟩ (.slice none 0 0) = w7 at *
  have c7 := HP7.out.cell 7
  have f7 := HP7.out.frozen 7
  simp only [List.getElem?_toArray, List.getElem?_cons_zero, List.getElem?_cons_succ] at c7
  go_upto_region 9 with (first | (go_at_call 58; refine (cloneStr_nil _).mono ?_; rintro e w9 ⟨rfl, rfl⟩) | fail)
  clear c7 f7
  try generalize w9 = w7 at *
  have hs := same_cell (j := 7) (v := .slice none 0 0) HP7.out rfl
  have HP8 := Lib.hid (HP7.out.keep hs)
  have HQ8 := Lib.hid (HQ7.out.keep hs)
  have HB8 : Hid (Below g1 w _) := Lib.hid (HB7.out.trans (hs.mono (by have := HP7.out.lt; omega)))
  have HO8 := Lib.hid (HO7.out.below hs)
  clear HO7
  clear hs HP7 HQ7 HB7
  generalize w7.setCell ⟨g1, 7, none⟩ (.slice none 0 0) = w8 at *
  have c8 := HP8.out.cell 8
  have f8 := HP8.out.frozen 8
  simp only [List.getElem?_toArray, List.getElem?_cons_zero, List.getElem?_cons_succ] at c8
  go_upto_region 10 with (first | (go_at_call 65; refine (eachExpr_nil _ _).mono ?_; rintro e w9 ⟨rfl, rfl⟩) | fail)
  clear c8 f8
  try generalize w9 = w8 at *
  have hs := same_cell (j := 8) (v := .slice none 0 0) HP8.out rfl
  have HP9 := Lib.hid (HP8.out.keep hs)
  have HQ9 := Lib.hid (HQ8.out.keep hs)
  have HB9 : Hid (Below g1 w _) := Lib.hid (HB8.out.trans (hs.mono (by have := HP8.out.lt; omega)))
  have HO9 := Lib.hid (HO8.out.below hs)
  clear HO8
  clear hs HP8 HQ8 HB8
  generalize w8.setCell ⟨g1, 8, none⟩ (.slice none 0 0) = w9 at *
  have c9 := HP9.out.cell 9
  have f9 := HP9.out.frozen 9
  simp only [List.getElem?_toArray, List.getElem?_cons_zero, List.getElem?_cons_succ] at c9
  go_upto_region 11 with (first | (go_at_call 67; refine (cloneRule_nil _).mono ?_; rintro e w9 ⟨rfl, rfl⟩) | fail)
  clear c9 f9
  try generalize w9 = w9 at *
  have hs := same_cell (j := 9) (v := .slice none 0 0) HP9.out rfl
  have HP10 := Lib.hid (HP9.out.keep hs)
  have HQ10 := Lib.hid (HQ9.out.keep hs)
  have HB10 : Hid (Below g1 w _) := Lib.hid (HB9.out.trans (hs.mono (by have := HP9.out.lt; omega)))
  have HO10 := Lib.hid (HO9.out.below hs)
  clear HO9
  clear hs HP9 HQ9 HB9
  generalize w9.setCell ⟨g1, 9, none⟩ (.slice none 0 0) = w10 at *
  have c10 := HP10.out.cell 10
  have f10 := HP10.out.frozen 10
  simp only [List.getElem?_toArray, List.getElem?_cons_zero, List.getElem?_cons_succ] at c10
  go_upto_region 12 with (first | (go_at_call 68; refine (cloneTrans_nil _).mono ?_; rintro e w9 ⟨rfl, rfl⟩) | fail)
  clear c10 f10
  try generalize w9 = w10 at *
  have hs := same_cell (j := 10) (v := .slice none 0 0) HP10.out rfl
  have HP11 := Lib.hid (HP10.out.keep hs)
  have HQ11 := Lib.hid (HQ10.out.keep hs)
  have HB11 : Hid (Below g1 w _) := Lib.hid (HB10.out.trans (hs.mono (by have := HP10.out.lt; omega)))
  have HO11 := Lib.hid (HO10.out.below hs)
  clear HO10
  clear hs HP10 HQ10 HB10
  generalize w10.setCell ⟨g1, 10, none⟩ (.slice none 0 0) = w11 at *
  have c11 := HP11.out.cell 11
  have f11 := HP11.out.frozen 11
  simp only [List.getElem?_toArray, List.getElem?_cons_zero, List.getElem?_cons_succ] at c11
  go_upto_region 13 with (first | (go_at_call 69; refine (cloneRoleTrans_nil _).mono ?_; rintro e w9 ⟨rfl, rfl⟩) | fail)
  clear c11 f11
  try generalize w9 = w11 at *
  have hs := same_cell (j := 11) (v := .slice none 0 0) HP11.out rfl
  have HP12 := Lib.hid (HP11.out.keep hs)
  have HQ12 := Lib.hid (HQ11.out.keep hs)
  have HB12 : Hid (Below g1 w _) := Lib.hid (HB11.out.trans (hs.mono (by have := HP11.out.lt; omega)))
  have HO12 := Lib.hid (HO11.out.below hs)
  clear HO11
  clear hs HP11 HQ11 HB11
  generalize w11.setCell ⟨g1, 11, none⟩ (.slice none 0 0) = w12 at *
  have c12 := HP12.out.cell 12
  have f12 := HP12.out.frozen 12
  simp only [List.getElem?_toArray, List.getElem?_cons_zero, List.getElem?_cons_succ] at c12
  go_upto_region 14 with (first | (go_at_call 70; refine (cloneRangeTrans_nil _).mono ?_; rintro e w9 ⟨rfl, rfl⟩) | fail)
  clear c12 f12
  try generalize w9 = w12 at *
  have hs := same_cell (j := 12) (v := .slice none 0 0) HP12.out rfl
  have HP13 := Lib.hid (HP12.out.keep hs)
  have HQ13 := Lib.hid (HQ12.out.keep hs)
  have HB13 : Hid (Below g1 w _) := Lib.hid (HB12.out.trans (hs.mono (by have := HP12.out.lt; omega)))
  have HO13 := Lib.hid (HO12.out.below hs)
  clear HO12
  clear hs HP12 HQ12 HB12
  generalize w12.setCell ⟨g1, 12, none⟩ (.slice none 0 0) = w13 at *
  have c13 := HP13.out.cell 13
  have f13 := HP13.out.frozen 13
  simp only [List.getElem?_toArray, List.getElem?_cons_zero, List.getElem?_cons_succ] at c13
  go_upto_region 15 with (first | (go_at_call 71; refine (eachConstraint_nil _ _).mono ?_; rintro e w9 ⟨rfl, rfl⟩) | fail)
  clear c13 f13
  try generalize w9 = w13 at *
  have hs := same_cell (j := 13) (v := .slice none 0 0) HP13.out rfl
  have HP14 := Lib.hid (HP13.out.keep hs)
  have HQ14 := Lib.hid (HQ13.out.keep hs)
  have HB14 : Hid (Below g1 w _) := Lib.hid (HB13.out.trans (hs.mono (by have := HP13.out.lt; omega)))
  have HO14 := Lib.hid (HO13.out.below hs)
  clear HO13
  clear hs HP13 HQ13 HB13
  generalize w13.setCell ⟨g1, 13, none⟩ (.slice none 0 0) = w14 at *
  have c14 := HP14.out.cell 14
  have f14 := HP14.out.frozen 14
  simp only [List.getElem?_toArray, List.getElem?_cons_zero, List.getElem?_cons_succ] at c14
  go_upto_region 16 with (first | (go_at_call 73; refine (cloneInitialSid_nil _).mono ?_; rintro e w9 ⟨rfl, rfl⟩) | fail)
  clear c14 f14
  try generalize w9 = w14 at *
  have hs := same_cell (j := 14) (v := .slice none 0 0) HP14.out rfl
  have HP15 := Lib.hid (HP14.out.keep hs)
  have HQ15 := Lib.hid (HQ14.out.keep hs)
  have HB15 : Hid (Below g1 w _) := Lib.hid (HB14.out.trans (hs.mono (by have := HP14.out.lt; omega)))
  have HO15 := Lib.hid (HO14.out.below hs)
  clear HO14
  clear hs HP14 HQ14 HB14
  generalize w14.setCell ⟨g1, 14, none⟩ (.slice none 0 0) = w15 at *
  have c15 := HP15.out.cell 15
  have f15 := HP15.out.frozen 15
  simp only [List.getElem?_toArray, List.getElem?_cons_zero, List.getElem?_cons_succ] at c15
  go_upto_region 17 with (first | (go_at_call 74; refine (cloneFileRule_nil _).mono ?_; rintro e w9 ⟨rfl, rfl⟩) | fail)
  clear c15 f15
  try generalize w9 = w15 at *
  have hs := same_cell (j := 15) (v := .slice none 0 0) HP15.out rfl
  have HP16 := Lib.hid (HP15.out.keep hs)
  have HQ16 := Lib.hid (HQ15.out.keep hs)
  have HB16 : Hid (Below g1 w _) := Lib.hid (HB15.out.trans (hs.mono (by have := HP15.out.lt; omega)))
  have HO16 := Lib.hid (HO15.out.below hs)
  clear HO15
  clear hs HP15 HQ15 HB15
  generalize w15.setCell ⟨g1, 15, none⟩ (.slice none 0 0) = w16 at *
  have c16 := HP16.out.cell 16
  have f16 := HP16.out.frozen 16
  simp only [List.getElem?_toArray, List.getElem?_cons_zero, List.getElem?_cons_succ] at c16
  go_upto_region 18 with (first | (go_at_call 75; refine (cloneAssert_nil _).mono ?_; rintro e w9 ⟨rfl, rfl⟩) | fail)
  clear c16 f16
  try generalize w9 = w16 at *
  have hs := same_cell (j := 16) (v := .slice none 0 0) HP16.out rfl
  have HP17 := Lib.hid (HP16.out.keep hs)
  have HQ17 := Lib.hid (HQ16.out.keep hs)
  have HB17 : Hid (Below g1 w _) := Lib.hid (HB16.out.trans (hs.mono (by have := HP16.out.lt; omega)))
  have HO17 := Lib.hid (HO16.out.below hs)
  clear HO16
  clear hs HP16 HQ16 HB16
  generalize w16.setCell ⟨g1, 16, none⟩ (.slice none 0 0) = w17 at *
  refine wp_region_lit ?_
  refine wpList_load (by rfl) (.tmp 1) rfl rfl (loadAt_blk [.slice none 0 0, (.slice (some ⟨gt, 0, none⟩) n ct), .slice none 0 0, .slice none 0 0, .slice none 0 0, .slice none 0 0, .slice none 0 0, .slice none 0 0, .slice none 0 0, .slice none 0 0, .slice none 0 0, .slice none 0 0, .slice none 0 0, .slice none 0 0, .slice none 0 0, .slice none 0 0, .slice none 0 0] (agg_pol _) (size_pol _) HP17.out) ?_
  simp only [Act.put, List.setIfInBounds_toArray, List.set_cons_succ, List.set_cons_zero]
  refine wpList_store_row (by rfl) _ _ rfl rfl (by rfl) [.slice none 0 0, (.slice (some ⟨gt, 0, none⟩) n ct), .slice none 0 0, .slice none 0 0, .slice none 0 0, .slice none 0 0, .slice none 0 0, .slice none 0 0, .slice none 0 0, .slice none 0 0, .slice none 0 0, .slice none 0 0, .slice none 0 0, .slice none 0 0, .slice none 0 0, .slice none 0 0, .slice none 0 0] (.agg #[.slice none 0 0, (.slice (some ⟨gt, 0, none⟩) n ct), .slice none 0 0, .slice none 0 0, .slice none 0 0, .slice none 0 0, .slice none 0 0, .slice none 0 0, .slice none 0 0, .slice none 0 0, .slice none 0 0, .slice none 0 0, .slice none 0 0, .slice none 0 0, .slice none 0 0, .slice none 0 0, .slice none 0 0]) (by rfl) rfl (size_pol _) HQ17.out rfl (one_pol _ _ _) ?_
  have HQ : Hid (Blk (w17.setRow g2 [.slice none 0 0, (.slice (some ⟨gt, 0, none⟩) n ct), .slice none 0 0, .slice none 0 0, .slice none 0 0, .slice none 0 0, .slice none 0 0, .slice none 0 0, .slice none 0 0, .slice none 0 0, .slice none 0 0, .slice none 0 0, .slice none 0 0, .slice none 0 0, .slice none 0 0, .slice none 0 0, .slice none 0 0].toArray) g2 62 [.slice none 0 0, (.slice (some ⟨gt, 0, none⟩) n ct), .slice none 0 0, .slice none 0 0, .slice none 0 0, .slice none 0 0, .slice none 0 0, .slice none 0 0, .slice none 0 0, .slice none 0 0, .slice none 0 0, .slice none 0 0, .slice none 0 0, .slice none 0 0, .slice none 0 0, .slice none 0 0, .slice none 0 0].toArray) := Lib.hid (HQ17.out.row _)
  have HB : Hid (Below g1 w (w17.setRow g2 [.slice none 0 0, (.slice (some ⟨gt, 0, none⟩) n ct), .slice none 0 0, .slice none 0 0, .slice none 0 0, .slice none 0 0, .slice none 0 0, .slice none 0 0, .slice none 0 0, .slice none 0 0, .slice none 0 0, .slice none 0 0, .slice none 0 0, .slice none 0 0, .slice none 0 0, .slice none 0 0, .slice none 0 0].toArray)) := Lib.hid (below_row HB17.out HG.out _)
  have HO := Lib.hid (own_row HO17.out (cs := [.slice none 0 0, (.slice (some ⟨gt, 0, none⟩) n ct), .slice none 0 0, .slice none 0 0, .slice none 0 0, .slice none 0 0, .slice none 0 0, .slice none 0 0, .slice none 0 0, .slice none 0 0, .slice none 0 0, .slice none 0 0, .slice none 0 0, .slice none 0 0, .slice none 0 0, .slice none 0 0, .slice none 0 0].toArray) HGB.out)
  generalize w17.setRow g2 [.slice none 0 0, (.slice (some ⟨gt, 0, none⟩) n ct), .slice none 0 0, .slice none 0 0, .slice none 0 0, .slice none 0 0, .slice none 0 0, .slice none 0 0, .slice none 0 0, .slice none 0 0, .slice none 0 0, .slice none 0 0, .slice none 0 0, .slice none 0 0, .slice none 0 0, .slice none 0 0, .slice none 0 0].toArray = w18 at *
  go_wp2_with fail
  refine bodyPost_ret (v := .agg #[.slice none 0 0, (.slice (some ⟨gt, 0, none⟩) n ct), .slice none 0 0, .slice none 0 0, .slice none 0 0, .slice none 0 0, .slice none 0 0, .slice none 0 0, .slice none 0 0, .slice none 0 0, .slice none 0 0, .slice none 0 0, .slice none 0 0, .slice none 0 0, .slice none 0 0, .slice none 0 0, .slice none 0 0]) (blk_ret [.slice none 0 0, (.slice (some ⟨gt, 0, none⟩) n ct), .slice none 0 0, .slice none 0 0, .slice none 0 0, .slice none 0 0, .slice none 0 0, .slice none 0 0, .slice none 0 0, .slice none 0 0, .slice none 0 0, .slice none 0 0, .slice none 0 0, .slice none 0 0, .slice none 0 0, .slice none 0 0, .slice none 0 0] rfl rfl (agg_pol _) (size_pol _) HQ.out) rfl ⟨gt, ct, rfl, ?_, ?_⟩
  · exact HO.out.base (by rw [hgx]; exact HLE.out)
  · rw [hgx]; exact HB.out
end Go.Proofs.Ytbcbhgclgakljaa
