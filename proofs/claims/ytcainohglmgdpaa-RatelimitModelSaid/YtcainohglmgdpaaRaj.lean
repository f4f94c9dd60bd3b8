/- Room is made: the keys with full buckets are forgotten. -/
import Derived.Test.YtcainohglmgdpaaRai
namespace Go.Proofs.Ytcainohglmgdpaa
open Go.RowKit Go.Maps Go.WideElems Go.WideMaps Go.WideShapes Go.Sort
theorem ok_filter {S : RS} {e : Int} (h : S.Ok e) (p : Bk → Bool) : ({ S with L := S.L.filter p } : RS).Ok e := by
  refine { h with st := h.st.filter _, len := ?_, bk := fun x hx => h.bk x (List.mem_filter.1 hx).1 }
  have := List.length_filter_le p S.L
  have hl := h.len
  show ((S.L.filter p).length : Int) ≤ S.n
  omega
/-- what is left in the map when left is still to come -/
def remL (S : RS) (left : Lit → Bool) : List Bk := S.L.filter fun x => left (keyS x.k) || !fullB S.b S.i x S.t
theorem remL_start {S : RS} {left : Lit → Bool} (h : ∀ s, left (keyS s) = hasB S.L s) : remL S left = S.L := by
  unfold remL
  rw [List.filter_eq_self]
  intro x hx
  rw [h, hasB_iff.2 ⟨x, hx, rfl⟩]; rfl
theorem remL_end {S : RS} {left : Lit → Bool} (h : ∀ k, left k = false) : remL S left = S.L.filter fun x => !fullB S.b S.i x S.t := by
  unfold remL
  congr 1
  funext x
  rw [h]; rfl
theorem strict_key {L : List Bk} (h : strict L) {x y : Bk} (hx : x ∈ L) (hy : y ∈ L) (e : y.k = x.k) : y = x := by
  have h1 := findB_of_mem h hx
  have h2 := findB_of_mem h hy
  rw [e, h1] at h2
  simpa using h2.symm
theorem remL_keep {S : RS} {left : Lit → Bool} (hs : strict S.L) {x : Bk} (hx : x ∈ S.L) (hf : fullB S.b S.i x S.t = false) : remL S (fun z => left z && !z.sameKey (keyS x.k)) = remL S left := by
  unfold remL
  refine List.filter_congr fun y hy => ?_
  simp only [keyS_same]
  by_cases e : y.k = x.k
  · obtain rfl := strict_key hs hx hy e
    rw [hf]; simp
  · simp [e]
theorem remL_drop {S : RS} {left : Lit → Bool} (hs : strict S.L) {x : Bk} (hx : x ∈ S.L) (hf : fullB S.b S.i x S.t = true) : remL S (fun z => left z && !z.sameKey (keyS x.k)) = (remL S left).filter fun y => !decide (y.k = x.k) := by
  unfold remL
  rw [List.filter_filter]
  refine List.filter_congr fun y hy => ?_
  simp only [keyS_same]
  by_cases e : y.k = x.k
  · obtain rfl := strict_key hs hx hy e
    rw [hf]; simp
  · simp [e]
section
variable {w w' : World} {g m r cnt : Nat} {S : RS} {L : List Bk} {left : Lit → Bool} {F : Nat → Prop} {e : Int}
set_option maxRecDepth 100000 in
set_option maxHeartbeats 8000000 in
theorem makeRoom_c (h : Lim w g m S) (hS : S.Ok e) :
    Calls Try.prog 43 #[.pointer (some ⟨g, 0, none⟩)] w fun r w' => r = .returned (.tuple #[]) ∧ Lim w' g m (makeR S) ∧ Apart (Fl g m) w w' := by
  have HC := Lib.hid h
  have HF : Hid (∀ p, ∀ x ∈ S.L, ∀ w1, Lim w1 g m { S with L := S.L.filter p } → Calls Try.prog 47 #[.pointer (some ⟨g, 0, none⟩), .agg #[.int .i64 x.l, .int .i64 x.c, .int .i64 x.d], .int .i64 S.t] w1 fun e w' => e = .returned (.bool (fullB S.b S.i x S.t)) ∧ Below w1.heap.size w1 w') :=
    Lib.hid fun p x hx w1 h1 => full_c (S := { S with L := S.L.filter p }) h1 (ok_filter hS p) (hS.bk x hx) (Int.le_refl _) hS.t1
  have HST := Lib.hid hS.st
  clear h hS
  go_enter Try.func43, Try.ntmps43
  go_upto_region 0 with fail
  refine wp_region_kp (by kernel_rfl) (by kernel_rfl) ?_
  repeat (first
    | go_big_quiet_skip
    | (go_big_quiet_want
       first
         | (go_big_quiet_op
            first
              | go_big_quiet_on
              | (apply Exists.intro
                 refine ⟨fun w1 hC => ?_, ?_⟩
                 · first
                     | (obtain ⟨c0, c1, c2, c3, c4, c5, c6, c7⟩ := (HC.out.keep hC).cells; go_simp; first | exact rfl | exact ⟨rfl, rfl⟩)
                     | (have hl := fun ty => (HC.out.keep hC).mp.len ty; go_simp; first | exact rfl | exact ⟨rfl, rfl⟩)
                     | exact rfl
                     | (go_simp; exact ⟨rfl, rfl⟩)
                 go_big_quiet_on))))
  refine wpQuiet_nil ?_
  intro W1 hC1
  have HL1 := Lib.hid (HC.out.keep hC1)
  have HB1 : Hid (Below w.heap.size w W1) := Lib.hid hC1
  clear hC1
  by_cases hlen : (S.L.length : Int) < S.n
  · have HR : Hid (makeR S = S) := Lib.hid (by unfold makeR; rw [if_pos hlen])
    go_wp2_with fail
    refine bodyPost_ret (v := .tuple #[]) (by simp [results, Try.results43, go_sem]) rfl ⟨rfl, by rw [HR.out]; exact HL1.out, Apart.of HB1.out⟩
  · have HR : Hid (makeR S = { S with L := S.L.filter fun x => !fullB S.b S.i x S.t }) := Lib.hid (by unfold makeR; rw [if_neg hlen])
    obtain ⟨c0, c1, c2, c3, c4, c5, c6, c7⟩ := HL1.out.cells
    go_wp2_with (at_range; refine wpList_range_M rfl _ rfl rfl HL1.out.mp ?_; intro w0 left0 cnt0 hl0 hrg0 hg0 hs0)
    have HRN := Lib.hid hrg0
    have HLF := Lib.hid hl0
    have HB2 : Hid (Below w.heap.size w w0) := Lib.hid (HB1.out.grown hg0 HB1.out.size (fun k e => by cases e))
    have HL2 : Hid (Blk w0 g 47 (limC g m S)) := Lib.hid (HL1.out.blk.keep ⟨hg0.os, hg0.tape, hg0.output, hg0.size, fun k hk => hg0.block k hk (by simp)⟩)
    have HW1 : Hid (w.heap.size ≤ W1.heap.size) := Lib.hid HB1.out.size
    clear hrg0 hg0 hs0 hl0 HB1 HL1 c0 c1 c2 c3 c4 c5 c6 c7
    generalize W1.heap.size = r at *
    go_loopw [2] (fun _ w2 => ∃ (left : Lit → Bool) (cnt : Nat), Hid (Rn w2 m r (remL S left) left cnt) ∧ Hid (Blk w2 g 47 (limC g m S)) ∧ Hid (Apart (Fl g m) w w2)) (fun _ w2 => w2.rangeLeft m r)
    case atStart => exact ⟨left0, cnt0, Lib.hid (by rw [remL_start HLF.out]; exact HRN.out), HL2, Lib.hid (Apart.of HB2.out)⟩
    case round =>
      obtain ⟨left, cnt, HRN, HL, HA⟩ := hrel
      go_wp2_with (at_next; refine wpList_next_M rfl _ rfl rfl HRN.out ?_ ?_)
      · intro hl0
        have HE := Lib.hid (remL_end (S := S) hl0)
        clear hl0
        go_wp2_with fail
        exact bodyPost_end (v := .tuple #[]) (by simp [results, Try.results43, go_sem]) rfl ⟨rfl, by rw [HR.out, ← HE.out]; exact ⟨HL.out, HRN.out.mp⟩, HA.out⟩
      · intro x w3 cnt3 hx hxl hlk hrg hlt hgr hsz hen
        have HRN3 := Lib.hid hrg
        have hrl := HRN.out.lt
        have HA3 : Hid (Apart (fun k => k = r) wr w3) := Lib.hid (Apart.refl.grown hgr (fun k e => .inl (by simpa using e.symm)))
        have HGR : Hid (g ≠ r) := Lib.hid (by
          intro e
          subst e
          obtain ⟨D, n, h, _⟩ := HRN.out
          obtain ⟨es, clock, since, seen, c0, _, _, _, _, hr, _⟩ := h
          have := HL.out
          unfold Blk at this
          rw [this] at hr
          cases hr)
        have HL3 := Lib.hid (HA3.out.blk HL.out HGR.out)
        have HA3' : Hid (Apart (Fl g m) w w3) := Lib.hid (HA.out.trans HA3.out (fun k hk => .inr (by subst hk; exact HW1.out)))
        have HX := Lib.hid (List.mem_filter.1 (show x ∈ S.L.filter _ from hx)).1
        have HXM := Lib.hid hx
        have HXL := Lib.hid hxl
        have HB4 : Hid (Below w3.heap.size w3 (w3.alloc (.cells #[.int .i64 x.l, .int .i64 x.c, .int .i64 x.d] 61))) := Lib.hid ((Below.refl _ _).alloc (Nat.le_refl _) _)
        have HX4 : Hid (Blk (w3.alloc (.cells #[.int .i64 x.l, .int .i64 x.c, .int .i64 x.d] 61)) w3.heap.size 61 #[.int .i64 x.l, .int .i64 x.c, .int .i64 x.d]) := Lib.hid (Blk.new _ _ _)
        have HL4 := Lib.hid (HL3.out.keep HB4.out)
        have HRN4 := Lib.hid (HRN3.out.below HB4.out)
        have HA4 := Lib.hid (HA3'.out.then HB4.out)
        clear hrg hgr hlk hrl HA3 HB4 HL3 HA3' HRN3 hx hxl hsz
        go_upto_region 4 with fail
        generalize w3.alloc (.cells #[.int .i64 x.l, .int .i64 x.c, .int .i64 x.d] 61) = W4 at *
        generalize w3.heap.size = p4 at *
        have HF4 : Hid (∀ w1, Kp W4 w1 → Calls Try.prog 47 #[.pointer (some ⟨g, 0, none⟩), .agg #[.int .i64 x.l, .int .i64 x.c, .int .i64 x.d], .int .i64 S.t] w1 fun e w' => e = .returned (.bool (fullB S.b S.i x S.t)) ∧ Below w1.heap.size w1 w') :=
          Lib.hid fun w1 hC => HF.out (fun y => left (keyS y.k) || !fullB S.b S.i y S.t) x HX.out w1 ⟨HL4.out.keep hC, HRN4.out.mp.keep hC⟩
        refine wp_region_kp (by kernel_rfl) (by kernel_rfl) ?_
        repeat (first
          | go_big_quiet_skip
          | (go_big_quiet_want
             first
               | (go_big_quiet_op
                  first
                    | go_big_quiet_on
                    | (apply Exists.intro
                       refine ⟨fun w1 hC => ?_, ?_⟩
                       · first
                           | (go_at_call 47; with_reducible exact hC.call (HF4.out w1 hC))
                           | (obtain ⟨x0, x1, x2, g0, g1, g2⟩ := (HX4.out.keep hC).cells3; go_simp; first | exact rfl | exact ⟨rfl, rfl⟩)
                           | (have c4 : w1.cell? ⟨g, 4, none⟩ = some (.int .i64 S.t) := (HL4.out.keep hC).cell 4; go_simp; first | exact rfl | exact ⟨rfl, rfl⟩)
                           | exact rfl
                           | (go_simp; exact ⟨rfl, rfl⟩)
                       go_big_quiet_on))))
        refine wpQuiet_nil ?_
        intro W5 hC5
        have HL5 := Lib.hid (HL4.out.keep hC5)
        have HRN5 := Lib.hid (HRN4.out.below hC5)
        have HA5 := Lib.hid (HA4.out.then hC5)
        clear hC5 HL4 HRN4 HA4 HX4 HF4
        cases hfull : fullB S.b S.i x S.t
        · go_wp2_with fail
          go_roundw
          case rel => exact ⟨_, cnt3, Lib.hid (by rw [remL_keep HST.out HX.out hfull]; exact HRN5.out), HL5, HA5⟩
          case measure => rw [HRN5.out.left_eq, HRN.out.left_eq]; exact hlt
        · have c5 : W5.cell? ⟨g, 5, none⟩ = some (.map (some m)) := HL5.out.cell 5
          go_wp2_with (at_delete; refine wpList_delete_M rfl _ _ rfl rfl (HST.out.filter _) HRN5.out x HXM.out HXL.out rfl ?_; intro w6 cnt6 hrg6 hle6 hg6)
          have HRN6 : Hid (Rn w6 m r (remL S fun z => left z && !z.sameKey (keyS x.k)) (fun z => left z && !z.sameKey (keyS x.k)) cnt6) := Lib.hid (by
            rw [Maps.strike_twice] at hrg6
            rw [remL_drop HST.out HX.out hfull]
            exact hrg6)
          have HA6 : Hid (Apart (fun k => k = m) W5 w6) := Lib.hid (Apart.refl.grown hg6 (fun k e => .inl (by simpa using e.symm)))
          have HGM : Hid (g ≠ m) := Lib.hid (by obtain ⟨D, h2, _⟩ := HRN5.out.mp; exact HL5.out.ne_map h2)
          have HL6 := Lib.hid (HA6.out.blk HL5.out HGM.out)
          have HA7 := Lib.hid (HA5.out.trans HA6.out (fun k hk => .inl (.inr hk)))
          clear hrg6 hg6
          simp only [Act.put]
          go_roundw
          case rel => exact ⟨_, cnt6, HRN6, HL6, HA7⟩
          case measure => rw [HRN6.out.left_eq, HRN.out.left_eq]; omega
end
end Go.Proofs.Ytcainohglmgdpaa
