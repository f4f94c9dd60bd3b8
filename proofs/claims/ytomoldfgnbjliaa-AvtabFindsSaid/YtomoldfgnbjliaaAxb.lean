/- The laws' own sample. -/
import Derived.Test.YtomoldfgnbjliaaAxa
namespace Go.Proofs.Ytomoldfgnbjliaa
open Go.RowKit Go.Sort Go.Shelf
def a1 : E := ⟨0, 1, 0, 0, 1#32, 0#32, 0#32, by decide⟩
def a2 : E := ⟨0, 1, 0, 1, 2#32, 0#32, 0#32, by decide⟩
def a3 : E := ⟨0, 1, 0, 0, 4#32, 0#32, 0#32, by decide⟩
def MA : List E := M [a1, a2, a3]
theorem ma_len : MA.length = 2 := by decide +kernel
theorem ma_f1 : fin ((V0 [] MA).filter (P3 0 1 0)) = ⟨5#32, 0#32, 0#32⟩ := by rfl
theorem ma_f2 : fin ((V0 [true] MA).filter (P3 0 1 0)) = ⟨7#32, 0#32, 0#32⟩ := by rfl
theorem ma_t1 : tgtL 2#32 ((V0 [] MA).filter (PT 0 0)) = [] := by rfl
theorem ma_t2 : tgtL 2#32 ((V0 [true] MA).filter (PT 0 0)) = [1] := by rfl
theorem ma_s2 : srcL 1#32 ((V0 [true] MA).filter (PS 1 0)) = [0] := by rfl
theorem sample_ents (w : World) : Ents (w.alloc (.cells #[.int .i64 0, .int .i64 1, .int .i64 0, .int .i64 0, .int .u32 1, .int .u32 0, .int .u32 0, .int .i64 0, .int .i64 1, .int .i64 0, .int .i64 1, .int .u32 2, .int .u32 0, .int .u32 0, .int .i64 0, .int .i64 1, .int .i64 0, .int .i64 0, .int .u32 4, .int .u32 0, .int .u32 0] 39))
    (.slice (some ⟨w.heap.size, 0, none⟩) 3 3) [a1, a2, a3] := by
  have c := (Blk.new w 39 #[.int .i64 0, .int .i64 1, .int .i64 0, .int .i64 0, .int .u32 1, .int .u32 0, .int .u32 0, .int .i64 0, .int .i64 1, .int .i64 0, .int .i64 1, .int .u32 2, .int .u32 0, .int .u32 0, .int .i64 0, .int .i64 1, .int .i64 0, .int .i64 0, .int .u32 4, .int .u32 0, .int .u32 0]).cell
  refine ⟨_, 3, rfl, Nat.le_refl _, fun _ => ⟨w.heap.size, 0, rfl, fun i x hi => ?_⟩⟩
  match i, hi with
  | 0, hi =>
    obtain rfl : a1 = x := by simpa using hi
    exact ⟨c 0, c 1, c 2, c 3, c 4, c 5, c 6⟩
  | 1, hi =>
    obtain rfl : a2 = x := by simpa using hi
    exact ⟨c 7, c 8, c 9, c 10, c 11, c 12, c 13⟩
  | 2, hi =>
    obtain rfl : a3 = x := by simpa using hi
    exact ⟨c 14, c 15, c 16, c 17, c 18, c 19, c 20⟩
  | n + 3, hi => simp at hi
theorem sample_bools (w : World) : Bools (w.alloc (.cells #[.bool true] 4)) (.slice (some ⟨w.heap.size, 0, none⟩) 1 1) [true] := by
  have c := (Blk.new w 4 #[.bool true]).cell
  refine ⟨_, 1, rfl, Nat.le_refl _, fun _ => ⟨w.heap.size, 0, rfl, fun i x hi => ?_⟩⟩
  match i, hi with
  | 0, hi =>
    obtain rfl : true = x := by simpa using hi
    exact c 0
  | n + 1, hi => simp at hi
theorem one_ints (z : Int) (w : World) : Ints (w.alloc (.cells #[.int .i64 z] 3)) (.slice (some ⟨w.heap.size, 0, none⟩) 1 1) [z] := by
  have c := (Blk.new w 3 #[.int .i64 z]).cell
  refine ⟨_, 1, rfl, Nat.le_refl _, fun _ => ⟨w.heap.size, 0, rfl, fun i x hi => ?_⟩⟩
  match i, hi with
  | 0, hi =>
    obtain rfl : z = x := by simpa using hi
    exact c 0
  | n + 1, hi => simp at hi
section
variable {w : World} {g : Nat}
theorem sm : Strict MA := M_strict _
theorem nm : NE MA := M_ne _
theorem ml : MA.length ≤ 10000 := by rw [ma_len]; decide
theorem s_len {vs : List Bool} (h : TabS w g MA vs) : Calls Try.prog 21 #[.pointer (some ⟨g, 0, none⟩)] w fun e w' => e = .returned (.int .i64 2) ∧ w = w' := by
  have := len_c h
  rw [ma_len] at this
  exact this
theorem s_find1 (h : TabS w g MA []) : Calls Try.prog 20 #[.pointer (some ⟨g, 0, none⟩), .int .i64 0, .int .i64 1, .int .i64 0] w fun e w' => e = .returned (.tuple #[.int .u32 5, .int .u32 0, .int .u32 0]) ∧ Below w.heap.size w w' := by
  have := find_c h ml (by decide) sm nm 0 1 0 (by decide) (by decide) (by decide)
  rw [ma_f1] at this
  exact this
theorem s_find2 (h : TabS w g MA [true]) : Calls Try.prog 20 #[.pointer (some ⟨g, 0, none⟩), .int .i64 0, .int .i64 1, .int .i64 0] w fun e w' => e = .returned (.tuple #[.int .u32 7, .int .u32 0, .int .u32 0]) ∧ Below w.heap.size w w' := by
  have := find_c h ml (by decide) sm nm 0 1 0 (by decide) (by decide) (by decide)
  rw [ma_f2] at this
  exact this
theorem s_tgt1 (h : TabS w g MA []) : Calls Try.prog 22 #[.pointer (some ⟨g, 0, none⟩), .int .i64 0, .int .i64 0, .int .u32 2] w (IntsOut w []) := by
  have := targets_c h ml (by decide) sm nm 0 0 2#32 (by decide) (by decide)
  rw [ma_t1] at this
  exact this
theorem s_tgt2 (h : TabS w g MA [true]) : Calls Try.prog 22 #[.pointer (some ⟨g, 0, none⟩), .int .i64 0, .int .i64 0, .int .u32 2] w (IntsOut w [1]) := by
  have := targets_c h ml (by decide) sm nm 0 0 2#32 (by decide) (by decide)
  rw [ma_t2] at this
  exact this
theorem s_src2 (h : TabS w g MA [true]) : Calls Try.prog 23 #[.pointer (some ⟨g, 0, none⟩), .int .i64 1, .int .i64 0, .int .u32 1] w (IntsOut w [0]) := by
  have := sources_c h ml (by decide) sm nm 1 0 1#32 (by decide) (by decide)
  rw [ma_s2] at this
  exact this
theorem grown_below {w' : World} {B : Nat} (h : w.grownBy w' (some g)) (hB : B ≤ w.heap.size) (hg : B ≤ g) : Below B w w' :=
  ⟨h.os, h.tape, h.output, h.size, fun k hk => h.block k (Nat.lt_of_lt_of_le hk hB) (fun e => by
    have : k = g := by simpa using e
    omega)⟩
end
set_option maxRecDepth 100000 in
set_option maxHeartbeats 4000000 in
theorem alive_c (W : World) : Calls Try.prog 9 #[] W fun e w' => e = .returned (.bool true) ∧ Below W.heap.size W w' := by
  have HAll : ∀ (w : World) o, Below w.heap.size w (w.alloc o) := fun w o => (Below.refl _ w).alloc (Nat.le_refl _) o
  have HA := Lib.hid HAll
  clear HAll
  go_enter Try.func9, Try.ntmps9
  go_wp2_with (first
    | (go_at_call 10
       refine (new_c _ [a1, a2, a3] (by decide) _ (sample_ents _)).mono ?_
       rintro e w1 ⟨g, rfl, hT, hg, hb⟩
       have HT1 : Hid (TabS w1 g MA []) := Lib.hid hT
       have HB1 := Lib.hid ((HA.out W _).trans (hb.mono (HA.out W _).size))
       have HG := Lib.hid (Nat.le_trans (HA.out W _).size hg)
       clear hT hg hb)
    | (go_at_call 21; refine (s_len HT1.out).mono ?_; rintro e w' ⟨rfl, rfl⟩)
    | (go_at_call 20
       refine (s_find2 HT4.out).mono ?_
       rintro e w5 ⟨rfl, hb⟩
       have HT5 := Lib.hid (HT4.out.keep hb)
       have HB5 := Lib.hid (HB4.out.trans (hb.mono HB4.out.size))
       have HO5 := Lib.hid hb
       clear hb)
    | (go_at_call 20
       refine (s_find1 HT1.out).mono ?_
       rintro e w2 ⟨rfl, hb⟩
       have HT2 := Lib.hid (HT1.out.keep hb)
       have HB2 := Lib.hid (HB1.out.trans (hb.mono HB1.out.size))
       clear hb)
    | (go_at_call 22
       refine (s_tgt2 HT5.out).mono ?_
       rintro e w6 ⟨v, rfl, hO, hb⟩
       have HT6 := Lib.hid (HT5.out.keep hb)
       have HB6 := Lib.hid (HB5.out.trans (hb.mono HB5.out.size))
       have HI6 := Lib.hid hO.ints
       obtain ⟨ao, cap, rfl⟩ := hO.ints.form
       clear hb hO)
    | (go_at_call 22
       refine (s_tgt1 HT2.out).mono ?_
       rintro e w3 ⟨v, rfl, hO, hb⟩
       have HT3 := Lib.hid (HT2.out.keep hb)
       have HB3 := Lib.hid (HB2.out.trans (hb.mono HB2.out.size))
       obtain ⟨ao3, cap3, rfl⟩ := hO.ints.form
       clear hb hO)
    | (go_at_call 13
       refine (activate_c (HT3.out.keep (HA.out _ _)) (sample_bools _) (by decide)).mono ?_
       rintro e w4 ⟨rfl, hT, hgr⟩
       have HT4 := Lib.hid hT
       have HB4 := Lib.hid ((HB3.out.trans ((HA.out w3 _).mono HB3.out.size)).trans (grown_below hgr (Nat.le_trans HB3.out.size (HA.out w3 _).size) HG.out))
       clear hT hgr)
    | (go_at_call 23
       refine (s_src2 HT7.out).mono ?_
       rintro e w8 ⟨v, rfl, hO, hb⟩
       have HB8 := Lib.hid (HB7.out.trans (hb.mono HB7.out.size))
       have HI8 := Lib.hid hO.ints
       obtain ⟨ao8, cap8, rfl⟩ := hO.ints.form
       clear hb hO)
    | (go_at_call 24
       refine (ints_c _ _ _ _ _ (HI8.out.keep (HA.out _ _)) (one_ints 0 _) (by decide)).mono ?_
       rintro e w9 ⟨rfl, hb⟩
       have HB9 := Lib.hid ((HB8.out.trans ((HA.out w8 _).mono HB8.out.size)).trans (hb.mono (Nat.le_trans HB8.out.size (HA.out w8 _).size)))
       clear hb)
    | (go_at_call 24
       refine (ints_c _ _ _ _ _ (HI6.out.keep (HA.out _ _)) (one_ints 1 _) (by decide)).mono ?_
       rintro e w7 ⟨rfl, hb⟩
       have HT7 := Lib.hid ((HT6.out.keep (HA.out _ _)).keep hb)
       have HB7 := Lib.hid ((HB6.out.trans ((HA.out w6 _).mono HB6.out.size)).trans (hb.mono (Nat.le_trans HB6.out.size (HA.out w6 _).size)))
       clear hb))
  go_ret
  exact ⟨rfl, HB9.out⟩
end Go.Proofs.Ytomoldfgnbjliaa
