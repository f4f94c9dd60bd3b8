/- The program's small functions: made, value, active, the keys; the reference's value, visible, Before. -/
import Derived.Test.YtomoldfgnbjliaaAvb
import Derived.WalkLawsBesides
namespace Go.Proofs.Ytomoldfgnbjliaa
open Go.RowKit Go.Sort
/-- the value is a slice of the bools vs -/
def Bools (w : World) (v : Value) (vs : List Bool) : Prop :=
  ∃ ao cap, v = .slice ao vs.length cap ∧ vs.length ≤ cap ∧ (vs ≠ [] → ∃ g o, ao = some ⟨g, o, none⟩ ∧ ∀ i b, vs[i]? = some b → w.cell? ⟨g, o + i, none⟩ = some (.bool b))
theorem Bools.nil {w : World} : Bools w (.slice none 0 0) [] := ⟨none, 0, rfl, Nat.le_refl _, fun h => absurd rfl h⟩
theorem Bools.keepB {w w' : World} {v : Value} {vs : List Bool} (h : Bools w v vs) (hb : ∀ g, g < w.heap.size → (∃ o b, w.cell? ⟨g, o, none⟩ = some (.bool b)) → w'.heap[g]? = w.heap[g]?) : Bools w' v vs := by
  obtain ⟨ao, cap, rfl, hc, hr⟩ := h
  refine ⟨ao, cap, rfl, hc, fun hl => ?_⟩
  obtain ⟨g, o, rfl, hR⟩ := hr hl
  obtain ⟨b0, r, rfl⟩ := List.exists_cons_of_ne_nil hl
  have h0 := hR 0 b0 rfl
  have hlt : g < w.heap.size := World.block_lt_of_cell? w ⟨g, o + 0, none⟩ h0
  refine ⟨g, o, rfl, fun i b hi => ?_⟩
  rw [World.cell?_of_block (hb g hlt ⟨_, _, h0⟩)]
  exact hR i b hi
theorem Bools.keep {w w' : World} {v : Value} {vs : List Bool} (h : Bools w v vs) (hb : Below w.heap.size w w') : Bools w' v vs := h.keepB fun g hg _ => hb.block g hg
/-- the cells of a table that New returned -/
def tabC (g : Nat) (ve vv : Value) (m1 m2 m3 : Nat) : Array Value := #[.pointer (some ⟨g, 0, none⟩), ve, vv, ve, .map (some m1), ve, .map (some m2), ve, .map (some m3)]
def TabB (w : World) (g : Nat) (ve vv : Value) (m1 m2 m3 : Nat) : Prop := Blk w g 56 (tabC g ve vv m1 m2 m3)
section
variable {w : World} {g m1 m2 m3 : Nat} {ve vv : Value}
theorem TabB.cells (h : TabB w g ve vv m1 m2 m3) : w.cell? ⟨g, 0, none⟩ = some (.pointer (some ⟨g, 0, none⟩)) ∧ w.cell? ⟨g, 1, none⟩ = some ve ∧ w.cell? ⟨g, 2, none⟩ = some vv ∧ w.cell? ⟨g, 3, none⟩ = some ve ∧ w.cell? ⟨g, 4, none⟩ = some (.map (some m1)) ∧
    w.cell? ⟨g, 5, none⟩ = some ve ∧ w.cell? ⟨g, 6, none⟩ = some (.map (some m2)) ∧ w.cell? ⟨g, 7, none⟩ = some ve ∧ w.cell? ⟨g, 8, none⟩ = some (.map (some m3)) := by
  have := h.cell
  exact ⟨this 0, this 1, this 2, this 3, this 4, this 5, this 6, this 7, this 8⟩
set_option maxRecDepth 100000 in
theorem infoTab : ∃ j, Try.prog.info? 56 = some j := Option.isSome_iff_exists.1 (by kernel_rfl)
theorem eqPtr (a : Addr) (w : World) : (binOp .eql 27 (.pointer (some a)) (.pointer (some a))).run Try.prog w = .ok (.bool true) w := by
  obtain ⟨j, hj⟩ := infoTab
  exact run_eql_ptr_same w a Try.underlying27 hj
theorem eqNil (a : Addr) (w : World) : (binOp .eql 27 (.pointer none) (.pointer (some a))).run Try.prog w = .ok (.bool false) w := by
  have h : ∀ d : Nat, (Op.equalIn (d + 1) 27 (.pointer none) (.pointer (some a))).run Try.prog w = .ok false w := fun d => by
    simp [Op.equalIn, run_underlying Try.underlying27, sizeOf, typeInfo]
  simp only [binOp]
  simp [Op.equal, Op.maxDepth, h 9999]
set_option maxRecDepth 100000 in
theorem made_yes (h : TabB w g ve vv m1 m2 m3) :
    Calls Try.prog 37 #[.pointer (some ⟨g, 0, none⟩)] w fun e w' => e = .returned (.bool true) ∧ w = w' := by
  obtain ⟨c0, -⟩ := h.cells
  clear h
  have hq := fun w => eqPtr ⟨g, 0, none⟩ w
  go_enter Try.func37, Try.ntmps37
  go_wp2
  go_ret
  exact ⟨rfl, rfl⟩
theorem made_nil :
    Calls Try.prog 37 #[.pointer none] w fun e w' => e = .returned (.bool false) ∧ w = w' := by
  go_enter Try.func37, Try.ntmps37
  go_wp2
  go_ret
  exact ⟨rfl, rfl⟩
set_option maxRecDepth 100000 in
theorem made_zero (h : w.cell? ⟨g, 0, none⟩ = some (.pointer none)) :
    Calls Try.prog 37 #[.pointer (some ⟨g, 0, none⟩)] w fun e w' => e = .returned (.bool false) ∧ w = w' := by
  have hq := fun w => eqNil ⟨g, 0, none⟩ w
  go_enter Try.func37, Try.ntmps37
  go_wp2
  go_ret
  exact ⟨rfl, rfl⟩
set_option maxRecDepth 100000 in
theorem value_c {vs : List Bool} (h : TabB w g ve vv m1 m2 m3) (hv : Bools w vv vs) (k : Nat) (hn : vs.length ≤ 1000) :
    Calls Try.prog 55 #[.pointer (some ⟨g, 0, none⟩), .int .i64 (k : Int)] w fun e w' => e = .returned (.bool (vs.getD k false)) ∧ w = w' := by
  obtain ⟨ao, cap, rfl, hcap, hr⟩ := hv
  obtain ⟨-, -, c2, -⟩ := h.cells
  clear h
  have hn' : (vs.length : Int) ≤ 1000 := by omega
  by_cases hlt : k < vs.length
  · obtain ⟨b, o, rfl, hR⟩ := hr (by rintro rfl; simp at hlt)
    have hc := hR k vs[k] (List.getElem?_eq_getElem hlt)
    have hg : vs.getD k false = vs[k] := by simp [List.getD, List.getElem?_eq_getElem hlt]
    rw [hg]
    have hlt' : (k : Int) < (vs.length : Int) := by omega
    generalize vs[k] = bv at hc ⊢
    clear hg hR hr
    go_enter Try.func55, Try.ntmps55
    go_wp2
    go_ret
    exact ⟨rfl, rfl⟩
  · have hg : vs.getD k false = false := by simp [List.getD, List.getElem?_eq_none (by omega : vs.length ≤ k)]
    rw [hg]
    have hlt' : ¬ (k : Int) < (vs.length : Int) := by omega
    clear hg hr
    go_enter Try.func55, Try.ntmps55
    go_wp2
    go_ret
    exact ⟨rfl, rfl⟩
set_option maxRecDepth 100000 in
theorem active_c {vs : List Bool} (h : TabB w g ve vv m1 m2 m3) (hv : Bools w vv vs) (d : Int) (hd : -9223372036854775808 ≤ d ∧ d ≤ 9223372036854775807) (hn : vs.length ≤ 1000) :
    Calls Try.prog 48 #[.pointer (some ⟨g, 0, none⟩), .int .i64 d] w fun e w' => e = .returned (.bool (vis vs d)) ∧ w = w' := by
  obtain ⟨hd1, hd2⟩ := hd
  rcases Int.lt_trichotomy d 0 with hl | rfl | hl
  · have hp : ¬ 0 < d := by omega
    have HV := Lib.hid (value_c h hv (-(d + 1)).toNat hn)
    have he : ((-(d + 1)).toNat : Int) = -(d + 1) := by omega
    rw [he] at HV
    have hg : vis vs d = !(vs.getD (-(d + 1)).toNat false) := by unfold vis; rw [if_neg hp, if_pos hl]
    rw [hg]
    generalize vs.getD (-(d + 1)).toNat false = bv at HV ⊢
    clear h hv hg he
    go_enter Try.func48, Try.ntmps48
    go_wp2_with (go_at_call 55; refine HV.out.mono ?_; rintro e w' ⟨rfl, rfl⟩)
    go_ret
    exact ⟨rfl, rfl⟩
  · have hg : vis vs 0 = true := rfl
    rw [hg]
    clear h hv hg
    go_enter Try.func48, Try.ntmps48
    go_wp2
    go_ret
    exact ⟨rfl, rfl⟩
  · have HV := Lib.hid (value_c h hv (d - 1).toNat hn)
    have he : ((d - 1).toNat : Int) = d - 1 := by omega
    rw [he] at HV
    have hg : vis vs d = vs.getD (d - 1).toNat false := by unfold vis; rw [if_pos hl]
    rw [hg]
    generalize vs.getD (d - 1).toNat false = bv at HV ⊢
    clear h hv hg he
    go_enter Try.func48, Try.ntmps48
    go_wp2_with (go_at_call 55; refine HV.out.mono ?_; rintro e w' ⟨rfl, rfl⟩)
    go_ret
    exact ⟨rfl, rfl⟩
end
/-! the keys -/
theorem below_a2 {w : World} {o p : Obj} : Below w.heap.size w ((w.alloc o).alloc p) := ((Below.refl _ _).alloc (Nat.le_refl _) _).alloc (by simp) _
theorem caseOf_c (x : E) (w : World) : Calls Try.prog 27 #[.agg #[.int .i64 x.s, .int .i64 x.t, .int .i64 x.c, .int .i64 x.d, .int .u32 (vI x.a), .int .u32 (vI x.b), .int .u32 (vI x.e)]] w fun e w' => e = .returned (.agg #[.int .i64 x.s, .int .i64 x.t, .int .i64 x.c]) ∧ Below w.heap.size w w' := by
  go_enter Try.func27, Try.ntmps27
  go_wp2
  exact bodyPost_ret (v := .agg #[.int .i64 x.s, .int .i64 x.t, .int .i64 x.c]) (by simp [results, Try.results27, go_sem]) rfl ⟨rfl, below_a2⟩
theorem key1_c (x : E) (w : World) : Calls Try.prog 29 #[.agg #[.int .i64 x.s, .int .i64 x.t, .int .i64 x.c, .int .i64 x.d, .int .u32 (vI x.a), .int .u32 (vI x.b), .int .u32 (vI x.e)]] w fun e w' => e = .returned (.agg #[.int .i64 x.s, .int .i64 x.c]) ∧ Below w.heap.size w w' := by
  go_enter Try.func29, Try.ntmps29
  go_wp2
  exact bodyPost_ret (v := .agg #[.int .i64 x.s, .int .i64 x.c]) (by simp [results, Try.results29, go_sem]) rfl ⟨rfl, below_a2⟩
theorem key2_c (x : E) (w : World) : Calls Try.prog 30 #[.agg #[.int .i64 x.s, .int .i64 x.t, .int .i64 x.c, .int .i64 x.d, .int .u32 (vI x.a), .int .u32 (vI x.b), .int .u32 (vI x.e)]] w fun e w' => e = .returned (.agg #[.int .i64 x.t, .int .i64 x.c]) ∧ Below w.heap.size w w' := by
  go_enter Try.func30, Try.ntmps30
  go_wp2
  exact bodyPost_ret (v := .agg #[.int .i64 x.t, .int .i64 x.c]) (by simp [results, Try.results30, go_sem]) rfl ⟨rfl, below_a2⟩
/-! the reference -/
section
variable {w : World} {ve vv : Value} {vs : List Bool}
set_option maxRecDepth 100000 in
theorem rvalue_c (hv : Bools w vv vs) (k : Nat) (hn : vs.length ≤ 1000) :
    Calls Try.prog 54 #[.agg #[ve, vv], .int .i64 (k : Int)] w fun e w' => e = .returned (.bool (vs.getD k false)) ∧ Below w.heap.size w w' := by
  have hv2 := hv.keep ((Below.refl _ w).alloc (Nat.le_refl _) (.cells #[ve, vv] 30))
  obtain ⟨ao, cap, rfl, hcap, hr⟩ := hv2
  clear hv
  have hn' : (vs.length : Int) ≤ 1000 := by omega
  by_cases hlt : k < vs.length
  · obtain ⟨b, o, rfl, hR⟩ := hr (by rintro rfl; simp at hlt)
    have hc := hR k vs[k] (List.getElem?_eq_getElem hlt)
    have hg : vs.getD k false = vs[k] := by simp [List.getD, List.getElem?_eq_getElem hlt]
    rw [hg]
    have hlt' : (k : Int) < (vs.length : Int) := by omega
    generalize vs[k] = bv at hc ⊢
    clear hg hR hr
    go_enter Try.func54, Try.ntmps54
    go_wp2
    go_ret
    exact ⟨rfl, (Below.refl _ _).alloc (Nat.le_refl _) _⟩
  · have hg : vs.getD k false = false := by simp [List.getD, List.getElem?_eq_none (by omega : vs.length ≤ k)]
    rw [hg]
    have hlt' : ¬ (k : Int) < (vs.length : Int) := by omega
    clear hg hr
    go_enter Try.func54, Try.ntmps54
    go_wp2
    go_ret
    exact ⟨rfl, (Below.refl _ _).alloc (Nat.le_refl _) _⟩
set_option maxRecDepth 100000 in
theorem rvisible_c (hv : Bools w vv vs) (d : Int) (hd : -9223372036854775808 ≤ d ∧ d ≤ 9223372036854775807) (hn : vs.length ≤ 1000) :
    Calls Try.prog 47 #[.agg #[ve, vv], .int .i64 d] w fun e w' => e = .returned (.bool (vis vs d)) ∧ Below w.heap.size w w' := by
  obtain ⟨hd1, hd2⟩ := hd
  have hv2 := hv.keep ((Below.refl _ w).alloc (Nat.le_refl _) (.cells #[ve, vv] 30))
  have hb0 : Below w.heap.size w (w.alloc (.cells #[ve, vv] 30)) := (Below.refl _ w).alloc (Nat.le_refl _) _
  rcases Int.lt_trichotomy d 0 with hl | rfl | hl
  · have hp : ¬ 0 < d := by omega
    have HV := Lib.hid (rvalue_c (ve := ve) hv2 (-(d + 1)).toNat hn)
    have he : ((-(d + 1)).toNat : Int) = -(d + 1) := by omega
    rw [he] at HV
    have hg : vis vs d = !(vs.getD (-(d + 1)).toNat false) := by unfold vis; rw [if_neg hp, if_pos hl]
    rw [hg]
    generalize vs.getD (-(d + 1)).toNat false = bv at HV ⊢
    clear hv hv2 hg he
    go_enter Try.func47, Try.ntmps47
    go_wp2_with (go_at_call 54; refine HV.out.mono ?_; rintro e w' ⟨rfl, hb⟩)
    go_ret
    exact ⟨rfl, hb0.trans (hb.mono hb0.size)⟩
  · have hg : vis vs 0 = true := rfl
    rw [hg]
    clear hv hv2 hg
    go_enter Try.func47, Try.ntmps47
    go_wp2
    go_ret
    exact ⟨rfl, hb0⟩
  · have HV := Lib.hid (rvalue_c (ve := ve) hv2 (d - 1).toNat hn)
    have he : ((d - 1).toNat : Int) = d - 1 := by omega
    rw [he] at HV
    have hg : vis vs d = vs.getD (d - 1).toNat false := by unfold vis; rw [if_pos hl]
    rw [hg]
    generalize vs.getD (d - 1).toNat false = bv at HV ⊢
    clear hv hv2 hg he
    go_enter Try.func47, Try.ntmps47
    go_wp2_with (go_at_call 54; refine HV.out.mono ?_; rintro e w' ⟨rfl, hb⟩)
    go_ret
    exact ⟨rfl, hb0.trans (hb.mono hb0.size)⟩
end
set_option maxRecDepth 100000 in
theorem before_c (x y : E) (w : World) : Calls Try.prog 19 #[.agg #[.int .i64 x.s, .int .i64 x.t, .int .i64 x.c, .int .i64 x.d, .int .u32 (vI x.a), .int .u32 (vI x.b), .int .u32 (vI x.e)], .agg #[.int .i64 y.s, .int .i64 y.t, .int .i64 y.c, .int .i64 y.d, .int .u32 (vI y.a), .int .u32 (vI y.b), .int .u32 (vI y.e)]] w fun e w' => e = .returned (.bool (decide (ltP x y))) ∧ Below w.heap.size w w' := by
  obtain ⟨R, hR⟩ : ∃ R, decide (ltP x y) = R := ⟨_, rfl⟩
  rw [hR]
  have HR := Lib.hid hR
  clear hR
  by_cases h1 : x.s = y.s
  · have g1 : (x.s != y.s) = false := by simpa using h1
    by_cases h2 : x.t = y.t
    · have g2 : (x.t != y.t) = false := by simpa using h2
      by_cases h3 : x.c = y.c
      · have g3 : (x.c != y.c) = false := by simpa using h3
        have HR0 : Hid (decide (x.d < y.d) = R) := Lib.hid (by rw [← HR.out]; apply decide_eq_decide.2; unfold ltP; omega)
        clear HR h1 h2 h3
        go_enter Try.func19, Try.ntmps19
        go_wp2
        go_ret
        exact ⟨by rw [← HR0.out]; rfl, below_a2⟩
      · have g3 : (x.c != y.c) = true := by simpa using h3
        have HR0 : Hid (decide (x.c < y.c) = R) := Lib.hid (by rw [← HR.out]; apply decide_eq_decide.2; unfold ltP; omega)
        clear HR h1 h2 h3
        go_enter Try.func19, Try.ntmps19
        go_wp2
        go_ret
        exact ⟨by rw [← HR0.out]; rfl, below_a2⟩
    · have g2 : (x.t != y.t) = true := by simpa using h2
      have HR0 : Hid (decide (x.t < y.t) = R) := Lib.hid (by rw [← HR.out]; apply decide_eq_decide.2; unfold ltP; omega)
      clear HR h1 h2
      go_enter Try.func19, Try.ntmps19
      go_wp2
      go_ret
      exact ⟨by rw [← HR0.out]; rfl, below_a2⟩
  · have g1 : (x.s != y.s) = true := by simpa using h1
    have HR0 : Hid (decide (x.s < y.s) = R) := Lib.hid (by rw [← HR.out]; apply decide_eq_decide.2; unfold ltP; omega)
    clear HR h1
    go_enter Try.func19, Try.ntmps19
    go_wp2
    go_ret
    exact ⟨by rw [← HR0.out]; rfl, below_a2⟩
end Go.Proofs.Ytomoldfgnbjliaa
