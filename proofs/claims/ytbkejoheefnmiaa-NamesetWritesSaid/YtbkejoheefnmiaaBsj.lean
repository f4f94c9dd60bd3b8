/- Contracts of List of package bitset and of its reference, and of the reference's Count and Ints. Condition: words are uint64s. -/
import Derived.Test.YtbkejoheefnmiaaBsi
import Derived.OwnWalk
namespace Go.Proofs.Ytbkejoheefnmiaa
open Go.RowKit
/-- the elements below k, ascending -/
def elems (x0 x1 x2 x3 : Int) (k : Nat) : List Int := (below k).filter (hasB x0 x1 x2 x3)
theorem elems_le (x0 x1 x2 x3 : Int) (k : Nat) : (elems x0 x1 x2 x3 k).length ≤ k := by
  have h := List.length_filter_le (hasB x0 x1 x2 x3) (below k)
  have e : (below k).length = k := by simp [below]
  unfold elems
  omega
theorem below_succ (k : Nat) : below (k + 1) = below k ++ [(k : Int)] := by unfold below; rw [List.range_succ, List.map_append]; rfl
theorem elems_hit {x0 x1 x2 x3 : Int} {k : Nat} (h : hasB x0 x1 x2 x3 k = true) : elems x0 x1 x2 x3 (k + 1) = elems x0 x1 x2 x3 k ++ [(k : Int)] := by
  unfold elems; rw [below_succ, List.filter_append]; simp [h]
theorem elems_miss {x0 x1 x2 x3 : Int} {k : Nat} (h : hasB x0 x1 x2 x3 k = false) : elems x0 x1 x2 x3 (k + 1) = elems x0 x1 x2 x3 k := by
  unfold elems; rw [below_succ, List.filter_append]; simp [h]
/-- a slice of ints of the call's own -/
def Own (w : World) (base : Nat) (v : Value) (l : List Int) : Prop := w.ownsRow base 3 1 v l.length (l.map (Value.int .i64))
theorem Own.below {w w' : World} {base : Nat} {v : Value} {l : List Int} (h : Own w base v l) (hb : Below w.heap.size w w') : Own w' base v l := by
  refine ⟨h.1, ?_⟩
  rcases h.2 with h2 | ⟨g, cap, cur, hv, hg, hh, r⟩
  · exact .inl h2
  · have hlt : g < w.heap.size := by
      rcases Nat.lt_or_ge g w.heap.size with hlt | hge
      · exact hlt
      · rw [Array.getElem?_eq_none hge] at hh; cases hh
    exact .inr ⟨g, cap, cur, hv, hg, (hb.block g hlt).trans hh, r⟩
/-- .. as a slice that lies in memory -/
theorem Own.ints {w : World} {base : Nat} {v : Value} {l : List Int} (h : Own w base v l) : ∃ A cap, v = .slice A l.length cap ∧ Ints w A l := by
  rcases h.2 with ⟨hv, hn⟩ | ⟨g, cap, cur, hv, hg, hh, hnc, hcm, hsz, htake⟩
  · exact ⟨none, 0, by rw [hv, hn], fun i hi => absurd hi (by omega)⟩
  · refine ⟨some ⟨g, 0, none⟩, cap, hv, fun i hi => ⟨g, 0, rfl, ?_, ?_⟩⟩
    · have hx : (l.map (Value.int .i64))[i]? = some (.int .i64 (l.getD i 0)) := by simp [hi]
      rw [Nat.zero_add, cell_of_row w g i cur _ _ hh]
      rw [← htake, List.getElem?_take_of_lt (by omega)] at hx
      simpa using hx
    · rcases Nat.lt_or_ge g w.heap.size with hlt | hge
      · exact hlt
      · rw [Array.getElem?_eq_none hge] at hh; cases hh
theorem Try.infoInt : (Try.prog.info? 3).map (fun i => (i.zero, i.size, i.bytes)) = some (some (.int .i64 0), 1, 8) := by kernel_rfl
/-- the outcome of List -/
def ListOut (x0 x1 x2 x3 : Int) (w : World) (e : Ending) (w' : World) : Prop := ∃ v, Own w' w.heap.size v (elems x0 x1 x2 x3 256) ∧ e = .returned v ∧ Below w.heap.size w w'
theorem one_new {w : World} {t : TypeId} {u : Value} : ∀ j x, [u][j]? = some x → (w.alloc (.cells #[u] t)).cell? ((⟨w.heap.size, 0, none⟩ : Addr).add j) = some x := fun j x h => cell_one_new _ _ _ j x h
set_option maxRecDepth 100000 in
set_option maxHeartbeats 2000000 in
theorem list_c (x0 x1 x2 x3 : Int) (w : World) (h0 : U64 x0) (h1 : U64 x1) (h2 : U64 x2) (h3 : U64 x3) :
    Calls Try.prog 44 #[.agg #[.int .u64 x0, .int .u64 x1, .int .u64 x2, .int .u64 x3]] w (ListOut x0 x1 x2 x3 w) := by
  obtain ⟨i0, hi, hz0, hz1, hz2⟩ := info_parts Try.infoInt
  go_enter Try.func44, Try.ntmps44
  have hN := onesI_le x0 x1 x2 x3
  have hC : onesI x0 x1 x2 x3 = ((pc 64 x0.toNat + pc 64 x1.toNat + pc 64 x2.toNat + pc 64 x3.toNat : Nat) : Int) := rfl
  obtain ⟨N, hNe⟩ : ∃ N, N = pc 64 x0.toNat + pc 64 x1.toNat + pc 64 x2.toNat + pc 64 x3.toNat := ⟨_, rfl⟩
  rw [← hNe] at hC
  clear hNe
  have HC := Lib.hid hC
  have hN2 : N ≤ 256 := by omega
  clear hC hN
  go_wp2_with (first
    | (go_at_call 56; refine (count_c _ _ _ _ _ h0 h1 h2 h3).mono ?_; rintro e w0 ⟨rfl, hb0⟩; rw [HC.out])
    | (at_make; refine wpList_make_own _ rfl _ _ 72 rfl (w.heap.size + 1) 3 i0 (.int .i64 0) 1 Try.underlying72 hi hz0 hz1 _ _ _ N rfl rfl rfl ?d1 ?d2 ?d3 ?_))
  case d1 => rw [hz2]; omega
  case d2 => unfold maxLen; omega
  case d3 => have := hb0.size; simpa using this
  intro wm hmade hgm
  have hb1 : Below w.heap.size w wm := (((Below.refl _ _).alloc (Nat.le_refl _) _).trans (hb0.mono (by simp))).grown hgm (by have := hb0.size; simp at this; omega) (fun _ h => by cases h)
  have hq1 : Quad wm w.heap.size x0 x1 x2 x3 := (hgm.block w.heap.size (by have := hb0.size; simp at this; omega) (by simp)).trans (Quad.below (Quad.new w x0 x1 x2 x3) hb0 (by simp))
  clear hgm
  go_wp2
  go_loopw [3, 8] (fun v i wr => ∃ (k : Nat) (vv : Value), vv = v ∧ k ≤ 256 ∧ i = .int .i64 k ∧ Own wr (w.heap.size + 1) vv (elems x0 x1 x2 x3 k) ∧ Quad wr w.heap.size x0 x1 x2 x3 ∧ Below w.heap.size w wr)
    (fun _ i _ => 256 - (intOf i).toNat)
  case atStart => exact ⟨0, _, rfl, by omega, rfl, hmade, hq1, hb1⟩
  case round =>
    obtain ⟨k, v, rfl, hk, rfl, hown, hs, hb⟩ := hrel
    obtain ⟨c0, c1, c2, c3, _⟩ := hs.facts
    have hle := elems_le x0 x1 x2 x3 k
    by_cases hlt : k < 256
    · cases hh : hasB x0 x1 x2 x3 k
      · have H := Lib.hid hh
        clear hh
        go_wp2_with (go_at_call 57; refine (has_c _ _ _ _ _ _).mono ?_; rintro e w' ⟨rfl, hb'⟩; rw [H.out])
        go_roundw
        case rel => exact ⟨k + 1, _, rfl, by omega, by go_num, by rw [elems_miss H.out]; exact hown.below hb', hs.below hb' hs.lt, hb.trans (hb'.mono hb.size)⟩
        case measure => simp [intOf]; omega
      · have H := Lib.hid hh
        clear hh
        go_wp2_with (first
          | (go_at_call 57; refine (has_c _ _ _ _ _ _).mono ?_; rintro e w' ⟨rfl, hb'⟩; rw [H.out]; have hown' := hown.below hb'; have hsz' := hb'.size; have hsl := hs.lt)
          | (at_builtin; refine wpList_append_own _ rfl _ _ 72 rfl (w.heap.size + 1) 3 i0 (.int .i64 0) 1 8 Try.underlying72 hi hz0 hz1 hz2 rfl (by decide) _ _ _ rfl (World.ownsRow.alloc hown' _) ⟨_, 0, none⟩ 1 1 [.int .i64 k] rfl rfl ?c1 ?c2 ?c3 ?c4 ?c5 ?_))
        case c1 => exact one_new
        case c2 => intro u hu; simp at hu; subst hu; rfl
        case c3 => unfold maxLen; omega
        case c4 => omega
        case c5 => simp; omega
        · intro v' w1 hown2 hgrow _
          have R : Own w1 (w.heap.size + 1) v' (elems x0 x1 x2 x3 (k + 1)) := by
            rw [elems_hit H.out]
            unfold Own
            simpa using hown2
          have hlo : ∀ g, v.ownBlock = some g → w.heap.size + 1 ≤ g := fun g hg => (World.ownsRow.lt hown g hg).1
          have B1 := (((hb.trans (hb'.mono hb.size)).alloc (Nat.le_trans hb.size hb'.size) _).grown hgrow (by simp; omega) (fun g hg => by have := hlo g hg; omega))
          have S1 : Quad w1 w.heap.size x0 x1 x2 x3 := by
            refine (hgrow.block w.heap.size (by simp; omega) (fun e => ?_)).trans ((hs.below hb' hs.lt).alloc _)
            have := hlo _ e.symm
            omega
          clear hown2 hgrow hown'
          go_wp2
          go_roundw
          case rel => exact ⟨k + 1, _, rfl, by omega, by go_num, R, S1, B1⟩
          case measure => simp [intOf]; omega
    · obtain rfl : k = 256 := by omega
      go_wp2
      go_ret
      exact ⟨v, ⟨hown.1, hown.2.imp id (fun ⟨g, r1, r2, r3, r4, r5⟩ => ⟨g, r1, r2, r3, Nat.le_of_succ_le r4, r5⟩)⟩, rfl, hb⟩
theorem getD_of {l : List Int} {k : Nat} (h : k < l.length) : l.getD k 0 = l[k] := by simp [h]
theorem list_ne {a b : List Int} {k : Nat} (ha : k < a.length) (hb : k < b.length) (h : a[k] ≠ b[k]) : decide (a = b) = false := by
  refine decide_eq_false fun e => h ?_
  subst e
  rfl
theorem list_eq {a b : List Int} (hl : a.length = b.length) (h : ∀ i (ha : i < a.length) (hb : i < b.length), a[i] = b[i]) : a = b := List.ext_getElem hl h
end Go.Proofs.Ytbkejoheefnmiaa
