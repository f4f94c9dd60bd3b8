/- Part of the proof: Cxc Cxd. No conditions. -/
import Derived.Test.YtbhoofihnmmmfabGreatYab
import Derived.LoopTactic
import Derived.Deep.DeepCutAuto
namespace Go.Proofs.YtbhoofihnmmmfabGreat
open Go.RowKit
theorem tmod5 (a : Int) : -5 < a.tmod 5 ∧ a.tmod 5 < 5 := by
 rcases Int.lt_or_le a 0 with h | h
 · have e : a.tmod 5 = -((-a).tmod 5) := by rw [Int.neg_tmod, Int.neg_neg]
   rw [e, Int.tmod_eq_emod_of_nonneg (by omega)]
   omega
 · rw [Int.tmod_eq_emod_of_nonneg h]
   omega
set_option maxRecDepth 100000 in
theorem sortOf_c (a : Int) (w : World) : Calls Tryz.prog 105 #[.int .i64 a] w fun e w' => e = .returned (.int .i64 (sortA a)) ∧ Below w.heap.size w w' := by
 have hr := tmod5 a
 have hw : IntKind.i64.wrap (a.tmod 5) = a.tmod 5 := IntWalk.i64_in _ (by omega)
 unfold sortA
 by_cases h : 3 < a.tmod 5
 · rw [if_pos h]
   have h2 : ¬ a.tmod 5 ≤ 3 := by omega
   go_enter Tryz.func105, Tryz.ntmps105
   go_wp2
   go_ret
   exact ⟨rfl, Below.refl _ _⟩
 · rw [if_neg h]
   have h2 : a.tmod 5 ≤ 3 := by omega
   go_enter Tryz.func105, Tryz.ntmps105
   go_wp2
   go_ret
   exact ⟨rfl, Below.refl _ _⟩
set_option maxRecDepth 100000 in
set_option maxHeartbeats 4000000 in
theorem hasFields_c (g o : Nat) (a r b : Int) (ao : Option Addr) (n cap : Nat) (s : S4) (w : World) (h1 : w.cell? ⟨g, o + 1, none⟩ = some (.int .i64 a)) (h2 : w.cell? ⟨g, o + 2, none⟩ = some (.int .i64 r)) (h3 : w.cell? ⟨g, o + 3, none⟩ = some (.int .i64 b)) (h4 : w.cell? ⟨g, o + 4, none⟩ = some (.slice ao n cap))
 (h5 : w.cell? ⟨g, o + 5, none⟩ = some (.int .u64 s.a)) (h6 : w.cell? ⟨g, o + 6, none⟩ = some (.int .u64 s.b)) (h7 : w.cell? ⟨g, o + 7, none⟩ = some (.int .u64 s.c)) (h8 : w.cell? ⟨g, o + 8, none⟩ = some (.int .u64 s.d)) :
 Calls Tryz.prog 94 #[.pointer (some ⟨g, o, none⟩)] w fun e w' => e = .returned (.bool (hasF a r b n s)) ∧ Below w.heap.size w w' := by
 unfold hasF isz
 cases q1 : (a == 0)
 · have p1 : (a != 0) = true := by rw [bne, q1]; rfl
   go_enter Tryz.func94, Tryz.ntmps94
   go_wp2
   go_ret
   exact ⟨rfl, Below.refl _ _⟩
 · have p1 : (a != 0) = false := by rw [bne, q1]; rfl
   cases q2 : (r == 0)
   · have p2 : (r != 0) = true := by rw [bne, q2]; rfl
     go_enter Tryz.func94, Tryz.ntmps94
     go_wp2
     go_ret
     exact ⟨rfl, Below.refl _ _⟩
   · have p2 : (r != 0) = false := by rw [bne, q2]; rfl
     cases q3 : (b == 0)
     · have p3 : (b != 0) = true := by rw [bne, q3]; rfl
       go_enter Tryz.func94, Tryz.ntmps94
       go_wp2
       go_ret
       exact ⟨rfl, Below.refl _ _⟩
     · have p3 : (b != 0) = false := by rw [bne, q3]; rfl
       by_cases q4 : 0 < n
       · have p4 : (0 : Int) < (n : Int) := by omega
         rw [decide_eq_true q4]
         go_enter Tryz.func94, Tryz.ntmps94
         go_wp2
         go_ret
         exact ⟨rfl, Below.refl _ _⟩
       · have p4 : ¬ (0 : Int) < (n : Int) := by omega
         rw [decide_eq_false q4]
         cases q5 : same4 s.a s.b s.c s.d 0 0 0 0
         · go_enter Tryz.func94, Tryz.ntmps94
           go_wp2
           go_ret
           exact ⟨rfl, Below.refl _ _⟩
         · go_enter Tryz.func94, Tryz.ntmps94
           go_wp2
           go_ret
           exact ⟨rfl, Below.refl _ _⟩
set_option maxRecDepth 100000 in
set_option maxHeartbeats 4000000 in
theorem membershipError_c (g o : Nat) (a n : Int) (w : World) (h1 : w.cell? ⟨g, o + 1, none⟩ = some (.int .i64 a)) :
 Calls Tryz.prog 96 #[.pointer (some ⟨g, o, none⟩), .int .i64 n] w fun e w' => e = .returned (.int .i64 (memE n a)) ∧ Below w.heap.size w w' := by
 unfold memE
 by_cases q1 : a < 0
 · rw [if_pos (.inl q1)]
   go_enter Tryz.func96, Tryz.ntmps96
   go_wp2
   go_ret
   exact ⟨rfl, Below.refl _ _⟩
 · by_cases q2 : n ≤ a
   · rw [if_pos (.inr q2)]
     go_enter Tryz.func96, Tryz.ntmps96
     go_wp2
     go_ret
     exact ⟨rfl, Below.refl _ _⟩
   · rw [if_neg (by omega)]
     have HS := Lib.hid (sortOf_c a)
     by_cases q3 : sortA a = 3
     · rw [if_pos q3]
       rw [q3] at HS
       clear q3
       go_enter Tryz.func96, Tryz.ntmps96
       go_wp2_with (go_at_call 105; refine (HS.out _).mono ?_; rintro e w1 ⟨rfl, hb1⟩)
       go_ret
       exact ⟨rfl, hb1⟩
     · rw [if_neg q3]
       generalize sortA a = t at *
       have q3' : (t == 3) = false := by simpa using q3
       go_enter Tryz.func96, Tryz.ntmps96
       go_wp2_with (go_at_call 105; refine (HS.out _).mono ?_; rintro e w1 ⟨rfl, hb1⟩)
       go_ret
       exact ⟨rfl, hb1⟩
set_option maxRecDepth 100000 in
set_option maxHeartbeats 8000000 in
theorem comparisonError_c (g o : Nat) (a r b n : Int) (w : World) (h1 : w.cell? ⟨g, o + 1, none⟩ = some (.int .i64 a)) (h2 : w.cell? ⟨g, o + 2, none⟩ = some (.int .i64 r)) (h3 : w.cell? ⟨g, o + 3, none⟩ = some (.int .i64 b)) (hg : g < w.heap.size) :
 Calls Tryz.prog 95 #[.pointer (some ⟨g, o, none⟩), .int .i64 n] w fun e w' => e = .returned (.int .i64 (cmpE n a r b)) ∧ Below w.heap.size w w' := by
 unfold cmpE
 by_cases q0 : a < 0
 · rw [if_pos (by omega)]
   go_enter Tryz.func95, Tryz.ntmps95
   go_wp2
   go_ret
   exact ⟨rfl, Below.refl _ _⟩
 · skip
   by_cases q1 : n ≤ a
   · rw [if_pos (by omega)]
     go_enter Tryz.func95, Tryz.ntmps95
     go_wp2
     go_ret
     exact ⟨rfl, Below.refl _ _⟩
   · skip
     by_cases q2 : b < 0
     · rw [if_pos (by omega)]
       go_enter Tryz.func95, Tryz.ntmps95
       go_wp2
       go_ret
       exact ⟨rfl, Below.refl _ _⟩
     · skip
       by_cases q3 : n ≤ b
       · rw [if_pos (by omega)]
         go_enter Tryz.func95, Tryz.ntmps95
         go_wp2
         go_ret
         exact ⟨rfl, Below.refl _ _⟩
       · skip
         by_cases q4 : r < 0
         · rw [if_pos (by omega)]
           go_enter Tryz.func95, Tryz.ntmps95
           go_wp2
           go_ret
           exact ⟨rfl, Below.refl _ _⟩
         · skip
           by_cases q5 : 4 < r
           · rw [if_pos (by omega)]
             go_enter Tryz.func95, Tryz.ntmps95
             go_wp2
             go_ret
             exact ⟨rfl, Below.refl _ _⟩
           · skip
             rw [if_neg (by omega)]
             obtain ⟨sa, hsa⟩ : ∃ sa, sortA a = sa := ⟨_, rfl⟩
             obtain ⟨sb, hsb⟩ : ∃ sb, sortA b = sb := ⟨_, rfl⟩
             have HA := Lib.hid (sortOf_c a)
             have HB := Lib.hid (sortOf_c b)
             rw [hsa] at HA
             rw [hsb] at HB
             rw [hsa, hsb]
             clear hsa hsb
             by_cases e1 : sa = sb
             · subst e1
               by_cases e2 : sa = 3
               · subst e2
                 rw [if_neg (by omega)]
                 have p1 : ((3 : Int) != 3) = false := rfl
                 go_enter Tryz.func95, Tryz.ntmps95
                 go_upto_region 3 with fail
                 refine wp_region_kp (by kernel_rfl) (by kernel_rfl) ?_
                 repeat (first
                  | go_big_quiet_skip
                  | (go_big_quiet_want
                     go_big_quiet_op
                     first
                      | go_big_quiet_on
                      | (apply Exists.intro
                         refine ⟨fun w1 hC => ?_, ?_⟩
                         · first
                            | (go_at_call 105; with_reducible first | exact hC.call (HA.out _) | exact hC.call (HB.out _))
                            | (go_simp; exact ⟨rfl, rfl⟩)
                            | (have k1 := (World.cell?_of_block (hC.block g hg)).trans h1; have k2 := (World.cell?_of_block (hC.block g hg)).trans h2; have k3 := (World.cell?_of_block (hC.block g hg)).trans h3; go_simp; exact rfl)
                         go_big_quiet_on)))
                 refine wpQuiet_nil ?_
                 intro W1 hC
                 have HC := Lib.hid hC
                 clear hC
                 go_wp2_with fail
                 go_ret
                 exact ⟨rfl, HC.out⟩
               · have p1 : (sa != sa) = false := by simp
                 have p2 : (sa != 3) = true := by simpa using e2
                 by_cases e3 : 1 < r
                 · rw [if_pos (.inr ⟨e2, e3⟩)]
                   go_enter Tryz.func95, Tryz.ntmps95
                   go_upto_region 3 with fail
                   refine wp_region_kp (by kernel_rfl) (by kernel_rfl) ?_
                   repeat (first
                    | go_big_quiet_skip
                    | (go_big_quiet_want
                       go_big_quiet_op
                       first
                        | go_big_quiet_on
                        | (apply Exists.intro
                           refine ⟨fun w1 hC => ?_, ?_⟩
                           · first
                              | (go_at_call 105; with_reducible first | exact hC.call (HA.out _) | exact hC.call (HB.out _))
                              | (go_simp; exact ⟨rfl, rfl⟩)
                              | (have k1 := (World.cell?_of_block (hC.block g hg)).trans h1; have k2 := (World.cell?_of_block (hC.block g hg)).trans h2; have k3 := (World.cell?_of_block (hC.block g hg)).trans h3; go_simp; exact rfl)
                           go_big_quiet_on)))
                   refine wpQuiet_nil ?_
                   intro W1 hC
                   have HC := Lib.hid hC
                   clear hC
                   go_wp2_with fail
                   go_ret
                   exact ⟨rfl, HC.out⟩
                 · rw [if_neg (by omega)]
                   go_enter Tryz.func95, Tryz.ntmps95
                   go_upto_region 3 with fail
                   refine wp_region_kp (by kernel_rfl) (by kernel_rfl) ?_
                   repeat (first
                    | go_big_quiet_skip
                    | (go_big_quiet_want
                       go_big_quiet_op
                       first
                        | go_big_quiet_on
                        | (apply Exists.intro
                           refine ⟨fun w1 hC => ?_, ?_⟩
                           · first
                              | (go_at_call 105; with_reducible first | exact hC.call (HA.out _) | exact hC.call (HB.out _))
                              | (go_simp; exact ⟨rfl, rfl⟩)
                              | (have k1 := (World.cell?_of_block (hC.block g hg)).trans h1; have k2 := (World.cell?_of_block (hC.block g hg)).trans h2; have k3 := (World.cell?_of_block (hC.block g hg)).trans h3; go_simp; exact rfl)
                           go_big_quiet_on)))
                   refine wpQuiet_nil ?_
                   intro W1 hC
                   have HC := Lib.hid hC
                   clear hC
                   go_wp2_with fail
                   go_ret
                   exact ⟨rfl, HC.out⟩
             · rw [if_pos (.inl e1)]
               have p1 : (sa != sb) = true := by simpa using e1
               go_enter Tryz.func95, Tryz.ntmps95
               go_upto_region 3 with fail
               refine wp_region_kp (by kernel_rfl) (by kernel_rfl) ?_
               repeat (first
                | go_big_quiet_skip
                | (go_big_quiet_want
                   go_big_quiet_op
                   first
                    | go_big_quiet_on
                    | (apply Exists.intro
                       refine ⟨fun w1 hC => ?_, ?_⟩
                       · first
                          | (go_at_call 105; with_reducible first | exact hC.call (HA.out _) | exact hC.call (HB.out _))
                          | (go_simp; exact ⟨rfl, rfl⟩)
                          | (have k1 := (World.cell?_of_block (hC.block g hg)).trans h1; have k2 := (World.cell?_of_block (hC.block g hg)).trans h2; have k3 := (World.cell?_of_block (hC.block g hg)).trans h3; go_simp; exact rfl)
                       go_big_quiet_on)))
               refine wpQuiet_nil ?_
               intro W1 hC
               have HC := Lib.hid hC
               clear hC
               go_wp2_with fail
               go_ret
               exact ⟨rfl, HC.out⟩
open Go.RowKit
/-- the cells of an expression -/
structure XC (w : World) (g o : Nat) (op a r b : Int) (ao : Option Addr) (nn cap : Nat) (s : S4) (ak : Option Addr) (m ck : Nat) : Prop where
 cells : w.cell? ⟨g, o, none⟩ = some (.int .i64 op) ∧ w.cell? ⟨g, o + 1, none⟩ = some (.int .i64 a) ∧ w.cell? ⟨g, o + 2, none⟩ = some (.int .i64 r) ∧ w.cell? ⟨g, o + 3, none⟩ = some (.int .i64 b) ∧ w.cell? ⟨g, o + 4, none⟩ = some (.slice ao nn cap) ∧
  w.cell? ⟨g, o + 5, none⟩ = some (.int .u64 s.a) ∧ w.cell? ⟨g, o + 6, none⟩ = some (.int .u64 s.b) ∧ w.cell? ⟨g, o + 7, none⟩ = some (.int .u64 s.c) ∧ w.cell? ⟨g, o + 8, none⟩ = some (.int .u64 s.d) ∧ w.cell? ⟨g, o + 9, none⟩ = some (.slice ak m ck)
theorem XC.keep {w w' : World} {g o : Nat} {op a r b : Int} {ao : Option Addr} {nn cap : Nat} {s : S4} {ak : Option Addr} {m ck : Nat} (h : XC w g o op a r b ao nn cap s ak m ck) (hb : w'.heap[g]? = w.heap[g]?) : XC w' g o op a r b ao nn cap s ak m ck := by
 obtain ⟨h0, h1, h2, h3, h4, h5, h6, h7, h8, h9⟩ := h.cells
 have e : ∀ k, w'.cell? ⟨g, k, none⟩ = w.cell? ⟨g, k, none⟩ := fun k => World.cell?_of_block hb
 exact ⟨(e _).trans h0, (e _).trans h1, (e _).trans h2, (e _).trans h3, (e _).trans h4, (e _).trans h5, (e _).trans h6, (e _).trans h7, (e _).trans h8, (e _).trans h9⟩
theorem XC.of_blk {w : World} {g : Nat} {op a r b : Int} {ao : Option Addr} {nn cap : Nat} {s : S4} {ak : Option Addr} {m ck : Nat} (h : Blk w g 55 #[.int .i64 op, .int .i64 a, .int .i64 r, .int .i64 b, .slice ao nn cap, .int .u64 s.a, .int .u64 s.b, .int .u64 s.c, .int .u64 s.d, .slice ak m ck]) : XC w g 0 op a r b ao nn cap s ak m ck :=
 ⟨h.cell 0, h.cell 1, h.cell 2, h.cell 3, h.cell 4, h.cell 5, h.cell 6, h.cell 7, h.cell 8, h.cell 9⟩
theorem end_mask {ops : Array Oper} {n : Nat} {Φ : Nat → Value → World → Prop} {a0 a : Act} {w : World} (m : List Bool) (hs : a.tmps.size = a0.tmps.size) (hd : a.defers = a0.defers) (hF : ∀ t, factEnd ops n Φ a0 a w t)
 (hB : ((List.range a0.tmps.size).all fun t => m[t]?.getD false || (srcOf ops n t).isNone) = true) : a = { tmps := (cutM a m 0 a0.tmps.toList).toArray, defers := a0.defers } := by
 have e2 : a.tmps.toList = cutM a m 0 a0.tmps.toList := by
  refine cutM_eq a m _ 0 _ (by simpa using hs) (fun k h => ?_) (fun k h h' hb => ?_)
  · have h2 : k < a.tmps.size := by simpa using h
    rw [Nat.zero_add, Array.getElem?_eq_getElem h2]
    simp
  · have h1 : k < a0.tmps.size := by simpa using h
    have h2 : k < a.tmps.size := by simpa using h'
    have := List.all_eq_true.1 hB k (List.mem_range.2 h1)
    rw [hb, Bool.false_or] at this
    have hn : srcOf ops n k = none := by
     cases hc : srcOf ops n k with
     | none => rfl
     | some j => rw [hc] at this; cases this
    have hk := hF k
    unfold factEnd at hk
    rw [hn] at hk
    have hk2 : a.tmps[k]?.getD undef = a0.tmps[k]?.getD undef := by simpa [Act.eval] using hk
    rw [Array.getElem?_eq_getElem h1, Array.getElem?_eq_getElem h2] at hk2
    simpa using hk2
 exact act_ext (by rw [← e2]) hd
theorem Blk.store10 {w : World} {g : Nat} {t : TypeId} {c0 c1 c2 c3 c4 c5 c6 c7 c8 c9 : Value} (h : Blk w g t #[c0, c1, c2, c3, c4, c5, c6, c7, c8, c9]) (v0 v1 v2 v3 v4 v5 v6 v7 v8 v9 : Value) : Blk ((((((((((w.setCell ⟨g, 0, none⟩ v0).setCell ⟨g, 1, none⟩ v1).setCell ⟨g, 2, none⟩ v2).setCell ⟨g, 3, none⟩ v3).setCell ⟨g, 4, none⟩ v4).setCell ⟨g, 5, none⟩ v5).setCell ⟨g, 6, none⟩ v6).setCell ⟨g, 7, none⟩ v7).setCell ⟨g, 8, none⟩ v8).setCell ⟨g, 9, none⟩ v9) g t #[v0, v1, v2, v3, v4, v5, v6, v7, v8, v9] := by
 have k := (Blk.set (Blk.set (Blk.set (Blk.set (Blk.set (Blk.set (Blk.set (Blk.set (Blk.set (Blk.set h 0 v0) 1 v1) 2 v2) 3 v3) 4 v4) 5 v5) 6 v6) 7 v7) 8 v8) 9 v9)
 simp only [List.setIfInBounds_toArray, List.set_cons_zero, List.set_cons_succ] at k
 exact k
theorem below_set1 {B : Nat} {w w' : World} {g : Nat} (h : Below B w w') (hg : B ≤ g) (k : Nat) (u : Value) : Below B w (w'.setCell ⟨g, k, none⟩ u) :=
 ⟨h.os, h.tape, h.output, by have := h.size; simpa [World.setCell] using this, fun j hj => (Below.heap_setCell w' ⟨g, k, none⟩ u j (by show j ≠ g; omega)).trans (h.block j hj)⟩
def oPhi (g o : Nat) (op a r b : Int) (ao : Option Addr) (nn cap : Nat) (s : S4) (ak : Option Addr) (m ck : Nat) (W0 : World) (k : Nat) (v : Value) (u : World) : Prop := match k with
 | 0 => v = .pointer (some ⟨g, o, none⟩)
 | 1 => v = .pointer (some ⟨g, o, none⟩)
 | 2 => v = .agg #[.int .i64 op, .int .i64 a, .int .i64 r, .int .i64 b, .slice ao nn cap, .int .u64 s.a, .int .u64 s.b, .int .u64 s.c, .int .u64 s.d, .slice ak m ck]
 | 3 => ∃ g, v = .pointer (some ⟨g, 0, none⟩) ∧ W0.heap.size ≤ g ∧ Blk u g 55 #[.int .i64 0, .int .i64 0, .int .i64 0, .int .i64 0, .slice none 0 0, .int .u64 0, .int .u64 0, .int .u64 0, .int .u64 0, .slice none 0 0]
 | 4 => v = .int .i64 0
 | _ => True
theorem oPhi_keep {g o : Nat} {op a r b : Int} {ao : Option Addr} {nn cap : Nat} {s : S4} {ak : Option Addr} {m ck : Nat} {W0 : World} {k : Nat} {v : Value} {u u' : World} (h : oPhi g o op a r b ao nn cap s ak m ck W0 k v u) (hb : Below u.heap.size u u') : oPhi g o op a r b ao nn cap s ak m ck W0 k v u' := by
 unfold oPhi at h ⊢
 split at h
 iterate 3 exact h
 · obtain ⟨g, h1, h2, h3⟩ := h
   exact ⟨g, h1, h2, h3.keep hb⟩
 · exact h
 · trivial
end Go.Proofs.YtbhoofihnmmmfabGreat
