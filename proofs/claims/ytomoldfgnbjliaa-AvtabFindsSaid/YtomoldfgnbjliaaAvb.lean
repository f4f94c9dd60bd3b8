/- Entries in memory; the comparison of entries. -/
import Derived.Test.YtomoldfgnbjliaaPh
import Derived.Test.YtomoldfgnbjliaaQt
import Derived.Test.YtomoldfgnbjliaaAva
import Derived.Test.YtomoldfgnbjliaaAvs
import Derived.LoopTactic
import Derived.Deep.LoopGhost
import Derived.Deep.AppendLies
import Derived.Maps.AppendAt
namespace Go.Proofs.Ytomoldfgnbjliaa
open Go.RowKit Go.Sort
/-- a vector as a number -/
def vI (x : BitVec 32) : Int := (x.toNat : Int)
theorem vI_lo (x : BitVec 32) : 0 ≤ vI x := Int.natCast_nonneg _
theorem vI_hi (x : BitVec 32) : vI x < 4294967296 := by have := x.isLt; unfold vI; omega
theorem vI_inj {x y : BitVec 32} (h : vI x = vI y) : x = y := by
  unfold vI at h
  exact BitVec.eq_of_toNat_eq (by omega)
theorem vI_zero : vI 0#32 = 0 := rfl
theorem wrap_nat32 (n : Nat) (h : n < 4294967296) : IntKind.u32.wrap (n : Int) = n := by
  have w : IntKind.u32.wrap (n : Int) = (n : Int) % 4294967296 := by simp [IntKind.wrap, IntKind.bits, IntKind.signed]
  rw [w]; omega
theorem vI_or (x y : BitVec 32) : bits .or .u32 (vI x) (vI y) = vI (x ||| y) := by
  show IntKind.u32.wrap ((BitVec.ofInt 32 (vI x) ||| BitVec.ofInt 32 (vI y)).toNat : Int) = _
  have e : ∀ z : BitVec 32, BitVec.ofInt 32 (vI z) = z := fun z => by
    apply BitVec.eq_of_toNat_eq
    unfold vI
    rw [BitVec.toNat_ofInt]
    have := z.isLt
    omega
  rw [e, e, wrap_nat32 _ (BitVec.isLt _)]
  rfl
theorem vI_and (x y : BitVec 32) : bits .and .u32 (vI x) (vI y) = vI (x &&& y) := by
  show IntKind.u32.wrap ((BitVec.ofInt 32 (vI x) &&& BitVec.ofInt 32 (vI y)).toNat : Int) = _
  have e : ∀ z : BitVec 32, BitVec.ofInt 32 (vI z) = z := fun z => by
    apply BitVec.eq_of_toNat_eq
    unfold vI
    rw [BitVec.toNat_ofInt]
    have := z.isLt
    omega
  rw [e, e, wrap_nat32 _ (BitVec.isLt _)]
  rfl
theorem vI_wf (x : BitVec 32) : (Lit.int .u32 (vI x)).wf = true := by
  have h1 := vI_lo x; have h2 := vI_hi x
  show (decide (0 ≤ vI x) && decide (vI x ≤ 4294967295)) = true
  simp only [Bool.and_eq_true, decide_eq_true_eq]; omega
def cellsE (x : E) : List Value := [.int .i64 x.s, .int .i64 x.t, .int .i64 x.c, .int .i64 x.d, .int .u32 (vI x.a), .int .u32 (vI x.b), .int .u32 (vI x.e)]
theorem cellsE_len (x : E) : (cellsE x).length = 7 := rfl
theorem cellsE_one (x : E) : ∀ v ∈ cellsE x, v.oneCell' = true := by
  intro v hv
  simp only [cellsE, List.mem_cons, List.not_mem_nil, or_false] at hv
  rcases hv with rfl | rfl | rfl | rfl | rfl | rfl | rfl <;> rfl
/-- the seven cells of an entry from o on -/
def At7 (w : World) (g o : Nat) (x : E) : Prop :=
  w.cell? ⟨g, o, none⟩ = some (.int .i64 x.s) ∧ w.cell? ⟨g, o + 1, none⟩ = some (.int .i64 x.t) ∧ w.cell? ⟨g, o + 2, none⟩ = some (.int .i64 x.c) ∧ w.cell? ⟨g, o + 3, none⟩ = some (.int .i64 x.d) ∧
  w.cell? ⟨g, o + 4, none⟩ = some (.int .u32 (vI x.a)) ∧ w.cell? ⟨g, o + 5, none⟩ = some (.int .u32 (vI x.b)) ∧ w.cell? ⟨g, o + 6, none⟩ = some (.int .u32 (vI x.e))
def RowE (w : World) (g o : Nat) (L : List E) : Prop := ∀ i x, L[i]? = some x → At7 w g (o + i * 7) x
/-- the value is a slice of the entries L -/
def Ents (w : World) (v : Value) (L : List E) : Prop :=
  ∃ ao cap, v = .slice ao L.length cap ∧ L.length ≤ cap ∧ (L ≠ [] → ∃ g o, ao = some ⟨g, o, none⟩ ∧ RowE w g o L)
theorem At7.lt {w : World} {g o : Nat} {x : E} (h : At7 w g o x) : g < w.heap.size := by
  have := h.1
  rcases Nat.lt_or_ge g w.heap.size with h' | h'
  · exact h'
  · simp [World.cell?, Array.getElem?_eq_none h'] at this
theorem At7.keep {w w' : World} {g o : Nat} {x : E} (h : At7 w g o x) (hb : w'.heap[g]? = w.heap[g]?) : At7 w' g o x := by
  have e : ∀ k, w'.cell? ⟨g, k, none⟩ = w.cell? ⟨g, k, none⟩ := fun k => World.cell?_of_block hb
  unfold At7
  rw [e, e, e, e, e, e, e]
  exact h
theorem RowE.lt {w : World} {g o : Nat} {L : List E} (h : RowE w g o L) (hl : L ≠ []) : g < w.heap.size := by
  obtain ⟨t, r, rfl⟩ := List.exists_cons_of_ne_nil hl
  exact (h 0 t rfl).lt
theorem RowE.keep {w w' : World} {g o : Nat} {L : List E} (h : RowE w g o L) (hb : w'.heap[g]? = w.heap[g]?) : RowE w' g o L := fun i x hx => (h i x hx).keep hb
theorem Ents.keep {w w' : World} {v : Value} {L : List E} (h : Ents w v L) (hb : Below w.heap.size w w') : Ents w' v L := by
  obtain ⟨ao, cap, rfl, hc, hr⟩ := h
  refine ⟨ao, cap, rfl, hc, fun hl => ?_⟩
  obtain ⟨g, o, rfl, hR⟩ := hr hl
  exact ⟨g, o, rfl, hR.keep (hb.block g (hR.lt hl))⟩
theorem Ents.nil {w : World} : Ents w (.slice none 0 0) [] := ⟨none, 0, rfl, Nat.le_refl _, fun h => absurd rfl h⟩
theorem Ents.form {w : World} {v : Value} {L : List E} (h : Ents w v L) : ∃ ao cap, v = .slice ao L.length cap := by
  obtain ⟨ao, cap, rfl, _⟩ := h
  exact ⟨ao, cap, rfl⟩
theorem RowE.at {w : World} {g o : Nat} {L : List E} (h : RowE w g o L) {i : Nat} (hi : i < L.length) : At7 w g (o + i * 7) L[i] := h i L[i] (List.getElem?_eq_getElem hi)
/-- an entry in a block of its own -/
def Box (w : World) (g : Nat) (x : E) : Prop := Blk w g 39 #[.int .i64 x.s, .int .i64 x.t, .int .i64 x.c, .int .i64 x.d, .int .u32 (vI x.a), .int .u32 (vI x.b), .int .u32 (vI x.e)]
theorem Box.at7 {w : World} {g : Nat} {x : E} (h : Box w g x) : At7 w g 0 x := by
  have := h.cell
  exact ⟨this 0, this 1, this 2, this 3, this 4, this 5, this 6⟩
theorem Box.cells {w : World} {g : Nat} {x : E} (h : Box w g x) : w.cell? ⟨g, 0, none⟩ = some (.int .i64 x.s) ∧ w.cell? ⟨g, 1, none⟩ = some (.int .i64 x.t) ∧ w.cell? ⟨g, 2, none⟩ = some (.int .i64 x.c) ∧ w.cell? ⟨g, 3, none⟩ = some (.int .i64 x.d) ∧
  w.cell? ⟨g, 4, none⟩ = some (.int .u32 (vI x.a)) ∧ w.cell? ⟨g, 5, none⟩ = some (.int .u32 (vI x.b)) ∧ w.cell? ⟨g, 6, none⟩ = some (.int .u32 (vI x.e)) := by
  have := h.cell
  exact ⟨this 0, this 1, this 2, this 3, this 4, this 5, this 6⟩

def cmpI (x y : Int) : Int := if x < y then -1 else if y < x then 1 else 0
theorem cmpI_lt {x y : Int} (h : x < y) : cmpI x y = -1 := if_pos h
theorem cmpI_gt {x y : Int} (h : y < x) : cmpI x y = 1 := by unfold cmpI; rw [if_neg (by omega), if_pos h]
theorem cmpI_eq {x y : Int} (h : x = y) : cmpI x y = 0 := by unfold cmpI; rw [if_neg (by omega), if_neg (by omega)]
theorem isNaN_c (x : Int) (w : World) : Calls Try.prog 59 #[.int .i64 x] w fun e w' => e = .returned (.bool false) ∧ w = w' := by
  go_enter Try.func59, Try.ntmps59
  go_wp2
  go_ret
  exact ⟨by simp, rfl⟩
theorem compareI_c (x y : Int) (w : World) : Calls Try.prog 53 #[.int .i64 x, .int .i64 y] w fun e w' => e = .returned (.int .i64 (cmpI x y)) ∧ w = w' := by
  obtain ⟨R, hR⟩ : ∃ R, cmpI x y = R := ⟨_, rfl⟩
  rw [hR]
  have HR := Lib.hid hR
  clear hR
  by_cases h1 : x < y
  · go_enter Try.func53, Try.ntmps53
    go_wp2_with (go_at_call 59; refine (isNaN_c _ _).mono ?_; rintro e w' ⟨rfl, rfl⟩)
    go_ret
    exact ⟨by rw [← HR.out, cmpI_lt h1]; rfl, rfl⟩
  · by_cases h2 : y < x
    · go_enter Try.func53, Try.ntmps53
      go_wp2_with (go_at_call 59; refine (isNaN_c _ _).mono ?_; rintro e w' ⟨rfl, rfl⟩)
      go_ret
      exact ⟨by rw [← HR.out, cmpI_gt h2]; rfl, rfl⟩
    · go_enter Try.func53, Try.ntmps53
      go_wp2_with (go_at_call 59; refine (isNaN_c _ _).mono ?_; rintro e w' ⟨rfl, rfl⟩)
      go_ret
      exact ⟨by rw [← HR.out, cmpI_eq (by omega)]; rfl, rfl⟩
/-- the first that is not 0 -/
def orL : List Int → Int
  | [] => 0
  | x :: r => if x = 0 then orL r else x
theorem orL_spec : ∀ (l : List Int) (i : Nat) (hi : i < l.length), (∀ k (h : k < i), l[k] = 0) → l[i] ≠ 0 → orL l = l[i]
  | [], i, hi, _, _ => by simp at hi
  | x :: r, 0, _, _, h => by simp at h; simp [orL, h]
  | x :: r, i + 1, hi, hk, h => by
    have h0 := hk 0 (by omega)
    simp at h0
    have := orL_spec r i (by simpa using hi) (fun k hk' => by have := hk (k + 1) (by omega); simpa using this) (by simpa using h)
    simp [orL, h0, this]
theorem orL_zero : ∀ (l : List Int), (∀ k (h : k < l.length), l[k] = 0) → orL l = 0
  | [], _ => rfl
  | x :: r, h => by
    have h0 := h 0 (by simp)
    simp at h0
    simp [orL, h0, orL_zero r (fun k hk => by have := h (k + 1) (by simp; omega); simpa using this)]
set_option maxRecDepth 100000 in
theorem or_c (g : Nat) (zs : List Int) (w : World) (hn : zs.length ≤ 1000) (hc : ∀ i (h : i < zs.length), w.cell? ⟨g, i, none⟩ = some (.int .i64 zs[i])) :
    Calls Try.prog 52 #[.slice (some ⟨g, 0, none⟩) zs.length zs.length] w fun e w' => e = .returned (.int .i64 (orL zs)) ∧ w = w' := by
  obtain ⟨R, hR⟩ : ∃ R, orL zs = R := ⟨_, rfl⟩
  rw [hR]
  have HC := Lib.hid hc
  have HR := Lib.hid hR
  clear hc hR
  have hn' : (zs.length : Int) ≤ 1000 := by omega
  go_enter Try.func52, Try.ntmps52
  go_wp2_with fail
  go_loop [8] (fun vi => ∃ i : Nat, i ≤ zs.length ∧ vi = .int .i64 i ∧ Hid (∀ k (h : k < i) (h' : k < zs.length), zs[k] = 0)) (fun vi => zs.length - (intOf vi).toNat)
  case atStart => exact ⟨0, Nat.zero_le _, rfl, Lib.hid (fun k h => absurd h (by omega))⟩
  case round =>
    obtain ⟨i, hi, rfl, HA⟩ := hrel
    by_cases hlt : i < zs.length
    · have hcell := HC.out i hlt
      have hlt' : (i : Int) < (zs.length : Int) := by omega
      by_cases hz : zs[i] = 0
      · rw [hz] at hcell
        have HZ := Lib.hid hz
        clear hz
        go_wp2_with fail
        refine ⟨⟨i + 1, hlt, by simp, Lib.hid (fun k h h' => ?_)⟩, by simp [intOf]; omega⟩
        rcases Nat.lt_or_ge k i with hk | hk
        · exact HA.out k hk h'
        · obtain rfl : k = i := by omega
          exact HZ.out
      · have hR0 : zs[i] = R := by rw [← HR.out, orL_spec zs i hlt (fun k hk => HA.out k hk (by omega)) hz]
        have HR0 := Lib.hid hR0
        have hz1 : (zs[i] == (0 : Int)) = false := by simpa using hz
        have hz2 : (zs[i] != (0 : Int)) = true := by simpa using hz
        clear hR0
        go_wp2_with fail
        go_ret
        exact ⟨by rw [← HR0.out]; rfl, rfl⟩
    · obtain rfl : i = zs.length := by omega
      go_wp2_with fail
      go_ret
      exact ⟨by rw [← HR.out, orL_zero zs (fun k h => HA.out k h h)]; rfl, rfl⟩
/-- the class: some draws on -/
def Dr (W w : World) : Prop := ∃ n, w = W.drewN n
theorem Dr.call {P : Program} {f : FuncId} {args : Array Value} {W w : World} {v : Value} (hC : Dr W w)
    (h : Calls P f args w fun e w' => e = .returned v ∧ w = w') : Calls P f args w fun e w'' => e = .returned v ∧ Dr W w'' :=
  h.mono fun _ _ ⟨he, hb⟩ => ⟨he, hb ▸ hC⟩
theorem wp_region_dt {P : Program} {id : Nat} {Q : Exit → Act → World → Prop} {a : Act} {w : World} {l : List Oper} (n : Nat) (hm : P.follows .mixedOrders = true) (hB : Region.lexTailB .any l.toArray n = true)
    (h : wpQuiet P l.toArray (Dr w) (fun a' => ∀ w', Dr w w' → wpList P l.toArray Q (l.drop n) a' w') (l.take n) a) : (Code.region id l.toArray true).wp P Q a w :=
  wp_region_quiet_tail (C := Dr w) n hm hB ⟨1, rfl⟩ h
theorem wp_region_d {P : Program} {id : Nat} {Q : Exit → Act → World → Prop} {a : Act} {w : World} {l : List Oper} (hm : P.follows .mixedOrders = true) (hB : Region.lexB .any l.toArray = true)
    (h : wpQuiet P l.toArray (Dr w) (fun a' => ∀ w', Dr w w' → Q .normal a' w') l a) : (Code.region id l.toArray true).wp P Q a w :=
  wp_region_quiet (C := Dr w) hm hB ⟨1, rfl⟩ (by simpa using h)
def cmpE (x y : E) : Int := orL [cmpI x.s y.s, cmpI x.t y.t, cmpI x.c y.c, cmpI x.d y.d]
/-- what a call that only makes memory leaves: draws, and blocks behind -/
def Gr (w w' : World) : Prop := ∃ q os, w' = grow (w.drewN q) os
theorem Gr.refl (w : World) : Gr w w := ⟨0, #[], by rw [grow_empty]; rfl⟩
theorem Gr.alloc {w w' : World} (h : Gr w w') (o : Obj) : Gr w (w'.alloc o) := by
  obtain ⟨q, os, rfl⟩ := h
  exact ⟨q, os ++ #[o], by rw [alloc_eq_grow, grow_grow]⟩
theorem Gr.drewN {w w' : World} (h : Gr w w') (n : Nat) : Gr w (w'.drewN n) := by
  obtain ⟨q, os, rfl⟩ := h
  exact ⟨q + n, os, by show grow ((w.drewN q).drewN n) os = _; rw [World.drewN_drewN]⟩
theorem Gr.below {w w' : World} (h : Gr w w') : Below w.heap.size w w' := by
  obtain ⟨q, os, rfl⟩ := h
  exact ⟨rfl, rfl, rfl, by simp [grow], fun i hi => by
    show ((w.drewN q).heap ++ os)[i]? = _
    rw [Array.getElem?_append_left (by exact hi)]
    rfl⟩
set_option maxRecDepth 100000 in
set_option maxHeartbeats 4000000 in
theorem compare_c (x y : E) (w : World) : Calls Try.prog 45 #[.agg #[.int .i64 x.s, .int .i64 x.t, .int .i64 x.c, .int .i64 x.d, .int .u32 (vI x.a), .int .u32 (vI x.b), .int .u32 (vI x.e)], .agg #[.int .i64 y.s, .int .i64 y.t, .int .i64 y.c, .int .i64 y.d, .int .u32 (vI y.a), .int .u32 (vI y.b), .int .u32 (vI y.e)]] w fun e w' => e = .returned (.int .i64 (cmpE x y)) ∧ Gr w w' := by
  obtain ⟨R, hR⟩ : ∃ R, cmpE x y = R := ⟨_, rfl⟩
  rw [hR]
  have HR := Lib.hid hR
  clear hR
  obtain ⟨w2, hw2⟩ : ∃ w2, (w.alloc (.cells #[.int .i64 x.s, .int .i64 x.t, .int .i64 x.c, .int .i64 x.d, .int .u32 (vI x.a), .int .u32 (vI x.b), .int .u32 (vI x.e)] 39)).alloc (.cells #[.int .i64 y.s, .int .i64 y.t, .int .i64 y.c, .int .i64 y.d, .int .u32 (vI y.a), .int .u32 (vI y.b), .int .u32 (vI y.e)] 39) = w2 := ⟨_, rfl⟩
  have B1 : Box w2 w.heap.size x := by rw [← hw2]; exact (Blk.new w _ _).alloc _
  have B2 : Box w2 (w.heap.size + 1) y := by
    have h := Blk.new (w.alloc (.cells #[.int .i64 x.s, .int .i64 x.t, .int .i64 x.c, .int .i64 x.d, .int .u32 (vI x.a), .int .u32 (vI x.b), .int .u32 (vI x.e)] 39)) 39 #[.int .i64 y.s, .int .i64 y.t, .int .i64 y.c, .int .i64 y.d, .int .u32 (vI y.a), .int .u32 (vI y.b), .int .u32 (vI y.e)]
    rw [World.size_alloc, hw2] at h; exact h
  have G2 : Gr w w2 := by rw [← hw2]; exact ((Gr.refl w).alloc _).alloc _
  go_enter Try.func45, Try.ntmps45
  go_wp2_with fail
  clear hw2
  obtain ⟨b0, b1, b2, b3, -⟩ := B1.cells
  obtain ⟨d0, d1, d2, d3, -⟩ := B2.cells
  refine wp_region_dt 20 (by kernel_rfl) (by kernel_rfl) ?_
  simp only [List.take_succ_cons, List.take_zero, List.drop_succ_cons, List.drop_zero]
  repeat (first
    | go_big_quiet_skip
    | (go_big_quiet_want
       go_big_quiet_op
       first
         | go_big_quiet_on
         | (apply Exists.intro
            refine ⟨fun w1 hC => ?_, ?_⟩
            · first
                | (go_at_call 53; with_reducible exact hC.call (compareI_c _ _ _))
                | (obtain ⟨n, rfl⟩ := hC; go_simp; exact rfl)
                | (go_simp; exact ⟨rfl, rfl⟩)
            go_big_quiet_on)))
  refine wpQuiet_nil ?_
  intro W' hC
  obtain ⟨nd, rfl⟩ := hC
  obtain ⟨W3, hW3⟩ : ∃ W3, w2.drewN nd = W3 := ⟨_, rfl⟩
  rw [hW3]
  have G3 := G2.drewN nd
  rw [hW3] at G3
  obtain ⟨C1, e1⟩ : ∃ C, cmpI x.s y.s = C := ⟨_, rfl⟩
  obtain ⟨C2, e2⟩ : ∃ C, cmpI x.t y.t = C := ⟨_, rfl⟩
  obtain ⟨C3, e3⟩ : ∃ C, cmpI x.c y.c = C := ⟨_, rfl⟩
  obtain ⟨C4, e4⟩ : ∃ C, cmpI x.d y.d = C := ⟨_, rfl⟩
  rw [e1, e2, e3, e4]
  have HO : Hid (Calls Try.prog 52 #[.slice (some ⟨W3.heap.size, 0, none⟩) 4 4] (W3.alloc (.cells #[.int .i64 C1, .int .i64 C2, .int .i64 C3, .int .i64 C4] 3)) fun e w' => e = .returned (.int .i64 R) ∧ W3.alloc (.cells #[.int .i64 C1, .int .i64 C2, .int .i64 C3, .int .i64 C4] 3) = w') := Lib.hid (by
    have h := or_c W3.heap.size [C1, C2, C3, C4] (W3.alloc (.cells #[.int .i64 C1, .int .i64 C2, .int .i64 C3, .int .i64 C4] 3)) (by simp) (fun i hi => by
      rw [(Blk.new W3 _ _).cell i]
      simp only [List.length_cons, List.length_nil] at hi
      match i, hi with
      | 0, _ => rfl
      | 1, _ => rfl
      | 2, _ => rfl
      | 3, _ => rfl)
    rw [← HR.out, cmpE, e1, e2, e3, e4]
    exact h)
  clear hW3 b0 b1 b2 b3 d0 d1 d2 d3 B1 B2 G2 e1 e2 e3 e4
  go_wp2_with (go_at_call 52; refine HO.out.mono ?_; rintro e w' ⟨rfl, rfl⟩)
  go_ret
  exact ⟨rfl, G3.alloc _⟩
end Go.Proofs.Ytomoldfgnbjliaa
