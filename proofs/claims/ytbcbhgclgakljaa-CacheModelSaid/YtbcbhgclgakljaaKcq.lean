/- awake: the chapter's examples. -/
import Derived.Test.YtbcbhgclgakljaaKcp
namespace Go.Proofs.Ytbcbhgclgakljaa
open Go.RowKit Go.Maps Go.WideElems Go.WideShapes
theorem Own.stay {α : Type} {R : RowT α} {w w' : World} {B : Nat} {v : Value} {L : List α} (h : Own R w B v L) (hs : ∀ g, v.ownBlock = some g → w'.heap[g]? = w.heap[g]?) : Own R w' B v L := by
  refine ⟨h.1, ?_⟩
  rcases h.2 with hn | ⟨g, cap, cur, rfl, hg, hh, rest⟩
  · exact .inl hn
  · exact .inr ⟨g, cap, cur, rfl, hg, (hs g rfl).trans hh, rest⟩
theorem wk_lit {a b c : Int} (h : decide (-9223372036854775808 ≤ a ∧ a ≤ 9223372036854775807 ∧ -9223372036854775808 ≤ b ∧ b ≤ 9223372036854775807 ∧ -9223372036854775808 ≤ c ∧ c ≤ 9223372036854775807) = true) : WK ⟨a, b, c⟩ := by
  have := of_decide_eq_true h
  exact ⟨⟨this.1, this.2.1⟩, ⟨this.2.2.1, this.2.2.2.1⟩, ⟨this.2.2.2.2.1, this.2.2.2.2.2⟩⟩
def a1 : CS := ⟨2, 0, 0, 0, 0, 0, [(⟨1, 1, 1⟩, ⟨1, 0, 0, false, 0⟩)]⟩
def a2 : CS := ⟨2, 0, 0, 0, 0, 0, [(⟨2, 2, 2⟩, ⟨2, 0, 0, false, 0⟩), (⟨1, 1, 1⟩, ⟨1, 0, 0, false, 0⟩)]⟩
def a3 : CS := ⟨2, 0, 1, 0, 0, 0, [(⟨1, 1, 1⟩, ⟨1, 0, 0, false, 0⟩), (⟨2, 2, 2⟩, ⟨2, 0, 0, false, 0⟩)]⟩
def a4 : CS := ⟨2, 0, 1, 0, 1, 0, [(⟨3, 3, 3⟩, ⟨3, 0, 0, false, 0⟩), (⟨1, 1, 1⟩, ⟨1, 0, 0, false, 0⟩)]⟩
def a5 : CS := ⟨2, 0, 1, 1, 1, 0, [(⟨3, 3, 3⟩, ⟨3, 0, 0, false, 0⟩), (⟨1, 1, 1⟩, ⟨1, 0, 0, false, 0⟩)]⟩
def a6 : CS := ⟨2, 5, 1, 1, 1, 1, []⟩
theorem eqPN (g : Nat) (w : World) : (binOp .eql 24 (.pointer (some ⟨g, 0, none⟩)) (.pointer none)).run Try.prog w = .ok (.bool false) w := by
  have h : ∀ d : Nat, (Op.equalIn (d + 1) 24 (.pointer (some ⟨g, 0, none⟩)) (.pointer none)).run Try.prog w = .ok false w := fun d => by
    simp [Op.equalIn, run_underlying Try.underlying24, sizeOf, typeInfo]
  simp only [binOp]
  simp [Op.equal, Op.maxDepth, h 9999]
section
variable {w0 w w' : World} {G : Nat → Prop} {c : Nat}
theorem aw1 (h : At w0 w G c 0 (newC 2)) : Calls Try.prog 27 #[.pointer (some ⟨c, 0, none⟩), .int .i64 1, .int .i64 1, .int .i64 1, .agg #[.int .u32 1, .int .u32 0, .int .u32 0, .bool false, .int .i64 0]] w fun e w' => e = .returned (.int .i64 0) ∧ At w0 w' G c 1 a1 ∧ Stay G w w' := by
  have := insert_at ⟨1, 1, 1⟩ ⟨1, 0, 0, false, 0⟩ h (by decide) (wk_lit (by decide))
  rw [show insC (newC 2) ⟨1, 1, 1⟩ ⟨1, 0, 0, false, 0⟩ = a1 from rfl, show staleE (Dc.mk 1 0 0 false 0).sq (newC 2).seq = 0 from rfl] at this
  exact this
theorem aw2 (h : At w0 w G c 1 a1) : Calls Try.prog 27 #[.pointer (some ⟨c, 0, none⟩), .int .i64 2, .int .i64 2, .int .i64 2, .agg #[.int .u32 2, .int .u32 0, .int .u32 0, .bool false, .int .i64 0]] w fun e w' => e = .returned (.int .i64 0) ∧ At w0 w' G c 2 a2 ∧ Stay G w w' := by
  have := insert_at ⟨2, 2, 2⟩ ⟨2, 0, 0, false, 0⟩ h (by decide) (wk_lit (by decide))
  rw [show insC a1 ⟨2, 2, 2⟩ ⟨2, 0, 0, false, 0⟩ = a2 from rfl, show staleE (Dc.mk 2 0 0 false 0).sq a1.seq = 0 from rfl] at this
  exact this
theorem aw3 (h : At w0 w G c 2 a2) : Calls Try.prog 28 #[.pointer (some ⟨c, 0, none⟩), .int .i64 1, .int .i64 1, .int .i64 1] w fun e w' => e = .returned (.tuple #[.agg #[.int .u32 1, .int .u32 0, .int .u32 0, .bool false, .int .i64 0], .bool true]) ∧ At w0 w' G c 3 a3 ∧ Stay G w w' := by
  have := find_at ⟨1, 1, 1⟩ h (by decide) (wk_lit (by decide))
  rw [show findC a2 ⟨1, 1, 1⟩ = a3 from rfl, show gotC a2 ⟨1, 1, 1⟩ = ⟨1, 0, 0, false, 0⟩ from rfl, show isC a2 ⟨1, 1, 1⟩ = true from rfl] at this
  exact this
theorem aw4 (h : At w0 w G c 3 a3) : Calls Try.prog 27 #[.pointer (some ⟨c, 0, none⟩), .int .i64 3, .int .i64 3, .int .i64 3, .agg #[.int .u32 3, .int .u32 0, .int .u32 0, .bool false, .int .i64 0]] w fun e w' => e = .returned (.int .i64 0) ∧ At w0 w' G c 4 a4 ∧ Stay G w w' := by
  have := insert_at ⟨3, 3, 3⟩ ⟨3, 0, 0, false, 0⟩ h (by decide) (wk_lit (by decide))
  rw [show insC a3 ⟨3, 3, 3⟩ ⟨3, 0, 0, false, 0⟩ = a4 from rfl, show staleE (Dc.mk 3 0 0 false 0).sq a3.seq = 0 from rfl] at this
  exact this
theorem aw5 (h : At w0 w G c 4 a4) : Calls Try.prog 28 #[.pointer (some ⟨c, 0, none⟩), .int .i64 2, .int .i64 2, .int .i64 2] w fun e w' => e = .returned (.tuple #[.agg #[.int .u32 0, .int .u32 0, .int .u32 0, .bool false, .int .i64 0], .bool false]) ∧ At w0 w' G c 5 a5 ∧ Stay G w w' := by
  have := find_at ⟨2, 2, 2⟩ h (by decide) (wk_lit (by decide))
  rw [show findC a4 ⟨2, 2, 2⟩ = a5 from rfl, show gotC a4 ⟨2, 2, 2⟩ = ⟨0, 0, 0, false, 0⟩ from rfl, show isC a4 ⟨2, 2, 2⟩ = false from rfl] at this
  exact this
theorem aw6 (h : At w0 w G c 5 a5) : Calls Try.prog 31 #[.pointer (some ⟨c, 0, none⟩), .int .i64 5] w fun e w' => e = .returned (.int .i64 0) ∧ At w0 w' G c 6 a6 ∧ Stay G w w' := by
  have := reset_at 5 h (by decide)
  rw [show resC a5 5 = a6 from rfl, show staleE 5 a5.seq = 0 from rfl] at this
  exact this
theorem aw7 (h : At w0 w G c 6 a6) : Calls Try.prog 27 #[.pointer (some ⟨c, 0, none⟩), .int .i64 1, .int .i64 1, .int .i64 1, .agg #[.int .u32 0, .int .u32 0, .int .u32 0, .bool false, .int .i64 4]] w fun e w' => e = .returned (.int .i64 24) ∧ At w0 w' G c 7 a6 ∧ Stay G w w' := by
  have := insert_at ⟨1, 1, 1⟩ ⟨0, 0, 0, false, 4⟩ h (by decide) (wk_lit (by decide))
  rw [show insC a6 ⟨1, 1, 1⟩ ⟨0, 0, 0, false, 4⟩ = a6 from rfl, show staleE (Dc.mk 0 0 0 false 4).sq a6.seq = 24 from rfl] at this
  exact this
theorem aw8 (h : At w0 w G c 7 a6) : Calls Try.prog 31 #[.pointer (some ⟨c, 0, none⟩), .int .i64 4] w fun e w' => e = .returned (.int .i64 24) ∧ At w0 w' G c 8 a6 ∧ Stay G w w' := by
  have := reset_at 4 h (by decide)
  rw [show resC a6 4 = a6 from rfl, show staleE 4 a6.seq = 24 from rfl] at this
  exact this
theorem rows_two {g : Nat} {x y : K3} (h : Blk w g 84 #[.int .i64 x.a, .int .i64 x.b, .int .i64 x.c, .int .i64 y.a, .int .i64 y.b, .int .i64 y.c]) : Rows' RK w (.slice (some ⟨g, 0, none⟩) 2 2) [x, y] := by
  refine ⟨⟨_, 2, rfl, Nat.le_refl _, fun _ => ⟨g, 0, rfl, h.lt, fun i z hz k u hu => ?_⟩⟩⟩
  have hk : k < 3 := by
    have := (List.getElem?_eq_some_iff.1 hu).1
    exact this
  match i, hz with
  | 0, hz =>
    obtain rfl : x = z := by simpa using hz
    match k, hu with
    | 0, hu => rw [← hu]; exact h.cell 0
    | 1, hu => rw [← hu]; exact h.cell 1
    | 2, hu => rw [← hu]; exact h.cell 2
  | 1, hz =>
    obtain rfl : y = z := by simpa using hz
    match k, hu with
    | 0, hu => rw [← hu]; exact h.cell 3
    | 1, hu => rw [← hu]; exact h.cell 4
    | 2, hu => rw [← hu]; exact h.cell 5
  | i + 2, hz => simp at hz
set_option maxRecDepth 100000 in
set_option maxHeartbeats 16000000 in
theorem awake_c (w : World) : Calls Try.prog 9 #[] w fun e w' => e = .returned (.bool true) ∧ Below w.heap.size w w' := by
  have hq := fun (c : Nat) (u : World) => eqPN c u
  go_enter Try.func9, Try.ntmps9
  go_upto_region 2 with (first | (go_at_call 10; refine (new_at 2 _ (by decide) (by decide)).mono ?_; rintro e w1 ⟨c, rfl, h1⟩; have H1 := Lib.hid h1; clear h1) | fail)
  have hq := hq c
  go_upto_region 5 with (first | (go_at_call 27; refine (aw1 H1.out).mono ?_; rintro e w2 ⟨rfl, h2, _⟩; have H2 := Lib.hid h2; clear h2) | fail)
  go_upto_region 6 with (first | (go_at_call 27; refine (aw2 H2.out).mono ?_; rintro e w3 ⟨rfl, h3, _⟩; have H3 := Lib.hid h3; clear h3) | fail)
  go_upto_region 7 with (first | (go_at_call 28; refine (aw3 H3.out).mono ?_; rintro e w4 ⟨rfl, h4, _⟩; have H4 := Lib.hid h4; clear h4) | fail)
  have HB5 : Hid (Below w4.heap.size w4 (w4.alloc (.cells #[.int .u32 1, .int .u32 0, .int .u32 0, .bool false, .int .i64 0] 39))) := Lib.hid ((Below.refl _ _).alloc (Nat.le_refl _) _)
  have HD5 : Hid (Blk (w4.alloc (.cells #[.int .u32 1, .int .u32 0, .int .u32 0, .bool false, .int .i64 0] 39)) w4.heap.size 39 #[.int .u32 1, .int .u32 0, .int .u32 0, .bool false, .int .i64 0]) := Lib.hid (Blk.new _ _ _)
  generalize w4.alloc (.cells #[.int .u32 1, .int .u32 0, .int .u32 0, .bool false, .int .i64 0] 39) = W5 at *
  generalize hgd : w4.heap.size = gd at *
  have H5 : Hid (At w W5 (fun k => k = gd) c 3 a3) := Lib.hid (H4.out.more (by rw [hgd]; exact HB5.out) (fun k hk => .inr ⟨by rw [hgd, hk]; exact Nat.le_refl _, by rw [hk]; exact HD5.out.lt⟩))
  go_upto_region 8 with (first | (go_at_call 27; refine (aw4 H5.out).mono ?_; rintro e w6 ⟨rfl, h6, s6⟩; have H6 := Lib.hid h6; have HD6 := Lib.hid (s6.blk rfl HD5.out); clear h6 s6) | fail)
  go_upto_region 9 with (first | (go_at_call 29; refine (keys_at H6.out).mono ?_; rintro e w7 ⟨vk, rfl, hk7, hb7⟩; have HK7 := Lib.hid hk7; have HD7 := Lib.hid (HD6.out.keep hb7); have H7 : Hid (At w w7 (fun k => k = gd ∨ vk.ownBlock = some k) c 4 a4) := Lib.hid (H6.out.more hb7 (fun k hk => hk.elim .inl (fun e => .inr (hk7.lt k e)))); obtain ⟨ao, cap, rfl⟩ := hk7.isSl; clear hk7 hb7) | fail)
  go_upto_region 10 with (first | (go_at_call 28; refine (aw5 H7.out).mono ?_; rintro e w8 ⟨rfl, h8, s8⟩; have H8 := Lib.hid h8; have HD8 := Lib.hid (s8.blk (.inl rfl) HD7.out); have HK8 := Lib.hid (HK7.out.stay (fun g e => s8 g (.inr e))); clear h8 s8) | fail)
  have HB9 : Hid (Below w8.heap.size w8 (w8.alloc (.cells #[.int .u32 0, .int .u32 0, .int .u32 0, .bool false, .int .i64 0] 39))) := Lib.hid ((Below.refl _ _).alloc (Nat.le_refl _) _)
  have H9 := Lib.hid (H8.out.keep HB9.out)
  have HD9 := Lib.hid (HD8.out.keep HB9.out)
  have HK9 := Lib.hid (HK8.out.below HB9.out)
  generalize w8.alloc (.cells #[.int .u32 0, .int .u32 0, .int .u32 0, .bool false, .int .i64 0] 39) = W9 at *
  generalize w8.heap.size = g8 at *
  clear H1 H2 H3 H4 H5 H6 H7 H8 HD5 HD6 HD7 HD8 HK7 HK8 HB5 HB9
  go_upto_region 11 with (first | (go_at_call 30; refine (stats_at H9.out).mono ?_; rintro e w10 ⟨rfl, hb10⟩; have HA := Lib.hid (H9.out.keep hb10); have HDA := Lib.hid (HD9.out.keep hb10); have HKA := Lib.hid (HK9.out.below hb10); clear hb10) | fail)
  go_upto_region 12 with (first | (go_at_call 31; refine (aw6 HA.out).mono ?_; rintro e w11 ⟨rfl, h11, s11⟩; have HB := Lib.hid h11; have HDB := Lib.hid (s11.blk (.inl rfl) HDA.out); have HKB := Lib.hid (HKA.out.stay (fun g e => s11 g (.inr e))); clear h11 s11) | fail)
  go_upto_region 13 with (first | (go_at_call 27; refine (aw7 HB.out).mono ?_; rintro e w12 ⟨rfl, h12, s12⟩; have HC := Lib.hid h12; have HDC := Lib.hid (s12.blk (.inl rfl) HDB.out); have HKC := Lib.hid (HKB.out.stay (fun g e => s12 g (.inr e))); clear h12 s12) | fail)
  go_upto_region 14 with (first | (go_at_call 31; refine (aw8 HC.out).mono ?_; rintro e w13 ⟨rfl, h13, s13⟩; have HE := Lib.hid h13; have HDE := Lib.hid (s13.blk (.inl rfl) HDC.out); have HKE := Lib.hid (HKC.out.stay (fun g e => s13 g (.inr e))); clear h13 s13) | fail)
  clear H9 HD9 HK9 HA HDA HKA HB HDB HKB HC HDC HKC
  obtain ⟨d0, d1, d2, d3, d4, _⟩ := HDE.out.cells5
  go_upto_region 16 with fail
  clear d0 d1 d2 d3 d4
  have HBF : Hid (Below w13.heap.size w13 (w13.alloc (.cells #[.int .i64 3, .int .i64 3, .int .i64 3, .int .i64 1, .int .i64 1, .int .i64 1] 84))) := Lib.hid ((Below.refl _ _).alloc (Nat.le_refl _) _)
  have HX : Hid (Blk (w13.alloc (.cells #[.int .i64 3, .int .i64 3, .int .i64 3, .int .i64 1, .int .i64 1, .int .i64 1] 84)) w13.heap.size 84 #[.int .i64 3, .int .i64 3, .int .i64 3, .int .i64 1, .int .i64 1, .int .i64 1]) := Lib.hid (Blk.new _ _ _)
  have HS := Lib.hid (sameKeys_c _ _ _ _ (HKE.out.below HBF.out).rows (rows_two (x := ⟨3, 3, 3⟩) (y := ⟨1, 1, 1⟩) HX.out) (by decide))
  rw [show decide (keysK a4.L = [⟨3, 3, 3⟩, ⟨1, 1, 1⟩]) = true from rfl] at HS
  have HF : Hid (∀ u, Below (w13.alloc (.cells #[.int .i64 3, .int .i64 3, .int .i64 3, .int .i64 1, .int .i64 1, .int .i64 1] 84)).heap.size (w13.alloc (.cells #[.int .i64 3, .int .i64 3, .int .i64 3, .int .i64 1, .int .i64 1, .int .i64 1] 84)) u → At w u (fun _ => False) c 8 a6) := Lib.hid (fun u hu => ((HE.out.keep HBF.out).keep hu).drop (fun _ h => h.elim))
  clear HE HKE HDE HX HBF
  go_wp2_with (first
    | (go_at_call 32; refine HS.out.mono ?_; rintro e w14 ⟨rfl, h14⟩; have HG := Lib.hid (HF.out _ h14); clear h14 HS HF)
    | fail)
  go_at_call 33
  refine (len_at HG.out).mono ?_
  rintro e w15 ⟨rfl, rfl⟩
  go_wp2_with fail
  go_at_call 34
  refine (seq_at HG.out).mono ?_
  rintro e w15 ⟨rfl, rfl⟩
  go_wp2_with fail
  go_at_call 10
  refine (new_out 0 _ (.inl (by decide))).mono ?_
  rintro e w15 ⟨rfl, rfl⟩
  go_wp2_with fail
  go_at_call 10
  refine (new_out 1025 _ (.inr (by decide))).mono ?_
  rintro e w15 ⟨rfl, rfl⟩
  go_wp2_with fail
  go_ret
  exact ⟨rfl, HG.out.b⟩
end
end Go.Proofs.Ytbcbhgclgakljaa
