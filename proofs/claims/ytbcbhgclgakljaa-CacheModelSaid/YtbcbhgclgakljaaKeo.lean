/- The law CacheModel's step: an insertion; step whole. -/
import Derived.Test.YtbcbhgclgakljaaKen
namespace Go.Proofs.Ytbcbhgclgakljaa
open Go.RowKit Go.Maps Go.WideElems Go.WideShapes
/-! a region in which the reference inserts: its results, a box with the new state -/
def rR (W : World) (B : Nat) (s2 : CS) (i : Nat) (w w' : World) : Prop :=
  if i = 14 then ∃ g vk vd, W.heap.size ≤ g ∧ (∃ a0 a1 a2 a3 a4 a5 a6 a7, Blk w g 29 #[a0, a1, a2, a3, a4, a5, a6, a7]) ∧ OS w B s2 vk vd ∧ w' = st8 w g s2 vk vd
  else Below w.heap.size w w'
def rP (W : World) (B : Nat) (s2 : CS) (er : Int) (val : Nat → Option Value) (i : Nat) (u : Value) (w : World) : Prop :=
  if i = 9 ∨ i = 10 then ∃ ao bo n cap m cbp, u = .tuple #[.agg (stA s2 (.slice ao n cap) (.slice bo m cbp)), .int .i64 er] ∧ OS w B s2 (.slice ao n cap) (.slice bo m cbp)
  else if i = 11 then ∃ ao bo n cap m cbp, u = .agg (stA s2 (.slice ao n cap) (.slice bo m cbp)) ∧ OS w B s2 (.slice ao n cap) (.slice bo m cbp)
  else if i = 13 then ∃ g, u = .pointer (some ⟨g, 0, none⟩) ∧ W.heap.size ≤ g ∧ ∃ a0 a1 a2 a3 a4 a5 a6 a7, Blk w g 29 #[a0, a1, a2, a3, a4, a5, a6, a7]
  else if i = 14 then ∃ g ao bo n cap m cbp, u = .pointer (some ⟨g, 0, none⟩) ∧ W.heap.size ≤ g ∧ Blk w g 29 (stA s2 (.slice ao n cap) (.slice bo m cbp)) ∧ OS w B s2 (.slice ao n cap) (.slice bo m cbp)
  else ∀ y, val i = some y → u = y
section
variable {W w w' : World} {B i j : Nat} {s2 : CS} {er : Int} {val : Nat → Option Value} {u : Value}
theorem rR_below (hr : rR W B s2 i w w') (hW : W.heap.size ≤ w.heap.size) : Below W.heap.size w w' := by
  unfold rR at hr
  split at hr
  · obtain ⟨g, vk, vd, hg, _, _, rfl⟩ := hr
    exact (apart_set8 w g _ _ _ _ _ _ _ _).below hW (fun k e => by have : k = g := e; omega)
  · exact hr.mono hW
theorem rC_step (i : Nat) (d : Nat → Bool) (w w' : World) (_ : d i = false) (hC : Below W.heap.size W w) (hr : rR W B s2 i w w') : Below W.heap.size W w' := hC.trans (rR_below hr hC.size)
theorem rR_os {vk vd : Value} (h : OS w B s2 vk vd) (hr : rR W B s2 j w w') : OS w' B s2 vk vd := by
  unfold rR at hr
  split at hr
  · obtain ⟨g, _, _, _, ⟨_, _, _, _, _, _, _, _, hb⟩, _, rfl⟩ := hr
    exact h.far hb (apart_set8 w g _ _ _ _ _ _ _ _)
  · exact h.below hr
theorem rR_box {g : Nat} (h : ∃ a0 a1 a2 a3 a4 a5 a6 a7, Blk w g 29 #[a0, a1, a2, a3, a4, a5, a6, a7]) (hr : rR W B s2 j w w') : ∃ a0 a1 a2 a3 a4 a5 a6 a7, Blk w' g 29 #[a0, a1, a2, a3, a4, a5, a6, a7] := by
  obtain ⟨a0, a1, a2, a3, a4, a5, a6, a7, hb⟩ := h
  unfold rR at hr
  split at hr
  · obtain ⟨g', vk, vd, _, _, _, rfl⟩ := hr
    by_cases e : g = g'
    · subst e; exact ⟨_, _, _, _, _, _, _, _, hb.set8 _ _ _ _ _ _ _ _⟩
    · exact ⟨_, _, _, _, _, _, _, _, (apart_set8 w g' _ _ _ _ _ _ _ _).blk hb e⟩
  · exact ⟨_, _, _, _, _, _, _, _, hb.keep hr⟩
theorem rP_keep (hij : i ≠ j) (h : rP W B s2 er val i u w) (hr : rR W B s2 j w w') : rP W B s2 er val i u w' := by
  unfold rP at h ⊢
  split
  · rename_i e
    rw [if_pos e] at h
    obtain ⟨_, _, _, _, _, _, h1, h2⟩ := h
    exact ⟨_, _, _, _, _, _, h1, rR_os h2 hr⟩
  · rename_i e
    rw [if_neg e] at h
    split
    · rename_i e
      rw [if_pos e] at h
      obtain ⟨_, _, _, _, _, _, h1, h2⟩ := h
      exact ⟨_, _, _, _, _, _, h1, rR_os h2 hr⟩
    · rename_i e
      rw [if_neg e] at h
      split
      · rename_i e
        rw [if_pos e] at h
        obtain ⟨g, h1, h2, h3⟩ := h
        exact ⟨g, h1, h2, rR_box h3 hr⟩
      · rename_i e
        rw [if_neg e] at h
        split
        · rename_i e
          rw [if_pos e] at h
          obtain ⟨g, _, _, _, _, _, _, h1, h2, h3, h4⟩ := h
          have h5 := rR_os h4 hr
          unfold rR at hr
          rw [if_neg (by omega)] at hr
          exact ⟨g, _, _, _, _, _, _, h1, h2, h3.keep hr, h5⟩
        · rename_i e
          rw [if_neg e] at h
          exact h
theorem rP_val {y : Value} (h : rP W B s2 er val i u w) (h1 : ¬ (i = 9 ∨ i = 10)) (h2 : i ≠ 11) (h3 : i ≠ 13) (h4 : i ≠ 14) (hy : val i = some y) : u = y := by
  unfold rP at h
  rw [if_neg h1, if_neg h2, if_neg h3, if_neg h4] at h
  exact h y hy
theorem rP_mk (h1 : ¬ (i = 9 ∨ i = 10)) (h2 : i ≠ 11) (h3 : i ≠ 13) (h4 : i ≠ 14) (hy : val i = some u) : rP W B s2 er val i u w := by
  unfold rP
  rw [if_neg h1, if_neg h2, if_neg h3, if_neg h4]
  intro y hz
  rw [hy] at hz
  simpa using hz
theorem rR_rfl (h : i ≠ 14) : rR W B s2 i w w := by
  unfold rR
  rw [if_neg h]
  exact Below.refl _ _
theorem rR_of (h : i ≠ 14) (hb : Below w.heap.size w w') : rR W B s2 i w w' := by
  unfold rR
  rw [if_neg h]
  exact hb
theorem rP_two (h : i = 9 ∨ i = 10) {ao bo : Option Addr} {n cap m cbp : Nat} (ho : OS w B s2 (.slice ao n cap) (.slice bo m cbp)) : rP W B s2 er val i (.tuple #[.agg (stA s2 (.slice ao n cap) (.slice bo m cbp)), .int .i64 er]) w := by
  unfold rP
  rw [if_pos h]
  exact ⟨_, _, _, _, _, _, rfl, ho⟩
theorem rP_two' (hi : i = 9 ∨ i = 10) (h : rP W B s2 er val i u w) : ∃ ao bo n cap m cbp, u = .tuple #[.agg (stA s2 (.slice ao n cap) (.slice bo m cbp)), .int .i64 er] ∧ OS w B s2 (.slice ao n cap) (.slice bo m cbp) := by
  unfold rP at h
  rwa [if_pos hi] at h
theorem rP_st (h : rP W B s2 er val 11 u w) : ∃ ao bo n cap m cbp, u = .agg (stA s2 (.slice ao n cap) (.slice bo m cbp)) ∧ OS w B s2 (.slice ao n cap) (.slice bo m cbp) := by
  unfold rP at h
  rwa [if_neg (by decide), if_pos rfl] at h
theorem rP_box (h : rP W B s2 er val 13 u w) : ∃ g, u = .pointer (some ⟨g, 0, none⟩) ∧ W.heap.size ≤ g ∧ ∃ a0 a1 a2 a3 a4 a5 a6 a7, Blk w g 29 #[a0, a1, a2, a3, a4, a5, a6, a7] := by
  unfold rP at h
  rwa [if_neg (by decide), if_neg (by decide), if_pos rfl] at h
theorem rP_full (h : rP W B s2 er val 14 u w) : ∃ g ao bo n cap m cbp, u = .pointer (some ⟨g, 0, none⟩) ∧ W.heap.size ≤ g ∧ Blk w g 29 (stA s2 (.slice ao n cap) (.slice bo m cbp)) ∧ OS w B s2 (.slice ao n cap) (.slice bo m cbp) := by
  unfold rP at h
  rwa [if_neg (by decide), if_neg (by decide), if_neg (by decide), if_pos rfl] at h
end
def sinV (s : CS) (ao bo : Option Addr) (n cap cbp : Nat) (x : Opr) (er : Int) (g5 : Nat) : Nat → Option Value
  | 0 => some (.agg #[.int .i64 s.size, .int .i64 s.seq, .slice ao n cap, .slice bo n cbp, .int .i64 s.hits, .int .i64 s.misses, .int .i64 s.evicted, .int .i64 s.resets])
  | 1 => some (.pointer (some ⟨g5, 1, none⟩))
  | 2 => some (.int .i64 x.k.a)
  | 3 => some (.pointer (some ⟨g5, 2, none⟩))
  | 4 => some (.int .i64 x.k.b)
  | 5 => some (.pointer (some ⟨g5, 3, none⟩))
  | 6 => some (.int .i64 x.k.c)
  | 7 => some (.agg #[.int .u8 x.kind, .int .i64 x.k.a, .int .i64 x.k.b, .int .i64 x.k.c, .int .u32 x.al, .int .i64 x.sq])
  | 8 => some (.agg #[.int .u32 x.al, .int .u32 0, .int .u32 0, .bool false, .int .i64 x.sq])
  | 12 => some (.int .i64 er)
  | 15 => some (.int .i64 er)
  | _ => none
set_option maxRecDepth 100000 in
set_option maxHeartbeats 16000000 in
theorem step_ins {w0 w : World} {B c m n cap cbp : Nat} {s : CS} {ao bo : Option Addr} (x : Opr) (h : At w0 w (fun _ => False) c m s) (hr : OS w B s (.slice ao n cap) (.slice bo n cbp)) (hB : B ≤ w.heap.size) (hm : m ≤ 1000000) (wx : WO x) (hk : x.kind % 3 = 1) :
    Calls Try.prog 12 #[.pointer (some ⟨c, 0, none⟩), .agg #[.int .i64 s.size, .int .i64 s.seq, .slice ao n cap, .slice bo n cbp, .int .i64 s.hits, .int .i64 s.misses, .int .i64 s.evicted, .int .i64 s.resets], .agg #[.int .u8 x.kind, .int .i64 x.k.a, .int .i64 x.k.b, .int .i64 x.k.c, .int .u32 x.al, .int .i64 x.sq]] w fun e w' => ∃ vk' vd', e = .returned (.tuple #[.agg #[.int .i64 (insC s x.k x.d).size, .int .i64 (insC s x.k x.d).seq, vk', vd', .int .i64 (insC s x.k x.d).hits, .int .i64 (insC s x.k x.d).misses, .int .i64 (insC s x.k x.d).evicted, .int .i64 (insC s x.k x.d).resets], .bool true]) ∧ At w0 w' (fun _ => False) c (m + 1) (insC s x.k x.d) ∧ OS w' B (insC s x.k x.d) vk' vd' ∧ StT w w' := by
  have HB : Hid (Below w.heap.size w (((w.alloc (.cells #[.int .i64 s.size, .int .i64 s.seq, .slice ao n cap, .slice bo n cbp, .int .i64 s.hits, .int .i64 s.misses, .int .i64 s.evicted, .int .i64 s.resets] 29)).alloc (.cells #[.int .u8 x.kind, .int .i64 x.k.a, .int .i64 x.k.b, .int .i64 x.k.c, .int .u32 x.al, .int .i64 x.sq] 35)).alloc (.cells #[.int .i64 0, .int .i64 0, .slice none 0 0, .slice none 0 0, .int .i64 0, .int .i64 0, .int .i64 0, .int .i64 0] 29))) := Lib.hid (((((Below.refl _ _).alloc (Nat.le_refl _) _).alloc (by simp) _).alloc (by simp; omega) _))
  have H4 : Hid (Blk (((w.alloc (.cells #[.int .i64 s.size, .int .i64 s.seq, .slice ao n cap, .slice bo n cbp, .int .i64 s.hits, .int .i64 s.misses, .int .i64 s.evicted, .int .i64 s.resets] 29)).alloc (.cells #[.int .u8 x.kind, .int .i64 x.k.a, .int .i64 x.k.b, .int .i64 x.k.c, .int .u32 x.al, .int .i64 x.sq] 35)).alloc (.cells #[.int .i64 0, .int .i64 0, .slice none 0 0, .slice none 0 0, .int .i64 0, .int .i64 0, .int .i64 0, .int .i64 0] 29)) w.heap.size 29 #[.int .i64 s.size, .int .i64 s.seq, .slice ao n cap, .slice bo n cbp, .int .i64 s.hits, .int .i64 s.misses, .int .i64 s.evicted, .int .i64 s.resets]) := Lib.hid (((Blk.here rfl).alloc _).alloc _)
  have H5 : Hid (Blk (((w.alloc (.cells #[.int .i64 s.size, .int .i64 s.seq, .slice ao n cap, .slice bo n cbp, .int .i64 s.hits, .int .i64 s.misses, .int .i64 s.evicted, .int .i64 s.resets] 29)).alloc (.cells #[.int .u8 x.kind, .int .i64 x.k.a, .int .i64 x.k.b, .int .i64 x.k.c, .int .u32 x.al, .int .i64 x.sq] 35)).alloc (.cells #[.int .i64 0, .int .i64 0, .slice none 0 0, .slice none 0 0, .int .i64 0, .int .i64 0, .int .i64 0, .int .i64 0] 29)) (w.heap.size + 1) 35 #[.int .u8 x.kind, .int .i64 x.k.a, .int .i64 x.k.b, .int .i64 x.k.c, .int .u32 x.al, .int .i64 x.sq]) := Lib.hid ((Blk.here (by simp)).alloc _)
  have H6 : Hid (Blk (((w.alloc (.cells #[.int .i64 s.size, .int .i64 s.seq, .slice ao n cap, .slice bo n cbp, .int .i64 s.hits, .int .i64 s.misses, .int .i64 s.evicted, .int .i64 s.resets] 29)).alloc (.cells #[.int .u8 x.kind, .int .i64 x.k.a, .int .i64 x.k.b, .int .i64 x.k.c, .int .u32 x.al, .int .i64 x.sq] 35)).alloc (.cells #[.int .i64 0, .int .i64 0, .slice none 0 0, .slice none 0 0, .int .i64 0, .int .i64 0, .int .i64 0, .int .i64 0] 29)) (w.heap.size + 1 + 1) 29 #[.int .i64 0, .int .i64 0, .slice none 0 0, .slice none 0 0, .int .i64 0, .int .i64 0, .int .i64 0, .int .i64 0]) := Lib.hid (Blk.here (by simp))
  have HT0 : Hid (StT w (((w.alloc (.cells #[.int .i64 s.size, .int .i64 s.seq, .slice ao n cap, .slice bo n cbp, .int .i64 s.hits, .int .i64 s.misses, .int .i64 s.evicted, .int .i64 s.resets] 29)).alloc (.cells #[.int .u8 x.kind, .int .i64 x.k.a, .int .i64 x.k.b, .int .i64 x.k.c, .int .u32 x.al, .int .i64 x.sq] 35)).alloc (.cells #[.int .i64 0, .int .i64 0, .slice none 0 0, .slice none 0 0, .int .i64 0, .int .i64 0, .int .i64 0, .int .i64 0] 29))) := Lib.hid (StT.of HB.out)
  have HGE : Hid (∀ j t cs, Blk w j t cs → j ≠ w.heap.size + 1 + 1) := Lib.hid (fun j t cs hb => by have := hb.lt; omega)
  have HA := Lib.hid (h.keep HB.out)
  have HO := Lib.hid (hr.below HB.out)
  have HNE : Hid (w.heap.size ≠ w.heap.size + 1 + 1 ∧ w.heap.size + 1 ≠ w.heap.size + 1 + 1 ∧ w0.heap.size ≤ w.heap.size + 1 + 1 ∧ B ≤ (((w.alloc (.cells #[.int .i64 s.size, .int .i64 s.seq, .slice ao n cap, .slice bo n cbp, .int .i64 s.hits, .int .i64 s.misses, .int .i64 s.evicted, .int .i64 s.resets] 29)).alloc (.cells #[.int .u8 x.kind, .int .i64 x.k.a, .int .i64 x.k.b, .int .i64 x.k.c, .int .u32 x.al, .int .i64 x.sq] 35)).alloc (.cells #[.int .i64 0, .int .i64 0, .slice none 0 0, .slice none 0 0, .int .i64 0, .int .i64 0, .int .i64 0, .int .i64 0] 29)).heap.size) := Lib.hid (by have := h.b.size; refine ⟨by omega, by omega, by omega, ?_⟩; have := HB.out.size; omega)
  have hk0 := wx.kind.1
  have hk1 := wx.kind.2
  have ht : x.kind.tmod 3 = x.kind % 3 := Int.tmod_eq_emod_of_nonneg hk0
  have hm0 : 0 ≤ x.kind % 3 := by omega
  have hm1 : x.kind % 3 < 3 := by omega
  have HM := Lib.hid hm
  have HWX := Lib.hid wx
  clear h hr hB hm wx
  have HC : Hid (∀ u, Kp (((w.alloc (.cells #[.int .i64 s.size, .int .i64 s.seq, .slice ao n cap, .slice bo n cbp, .int .i64 s.hits, .int .i64 s.misses, .int .i64 s.evicted, .int .i64 s.resets] 29)).alloc (.cells #[.int .u8 x.kind, .int .i64 x.k.a, .int .i64 x.k.b, .int .i64 x.k.c, .int .u32 x.al, .int .i64 x.sq] 35)).alloc (.cells #[.int .i64 0, .int .i64 0, .slice none 0 0, .slice none 0 0, .int .i64 0, .int .i64 0, .int .i64 0, .int .i64 0] 29)) u → Calls Try.prog 27 #[.pointer (some ⟨c, 0, none⟩), .int .i64 x.k.a, .int .i64 x.k.b, .int .i64 x.k.c, .agg #[.int .u32 x.al, .int .u32 0, .int .u32 0, .bool false, .int .i64 x.sq]] u fun e w' => e = .returned (.int .i64 (staleE x.sq s.seq)) ∧ At w0 w' (fun _ => False) c (m + 1) (insC s x.k x.d) ∧ StT u w') := Lib.hid (fun u hu => insert_st x.k x.d (HA.out.keep hu) HM.out HWX.out.k)
  have HRR : Hid (∀ u, StT (((w.alloc (.cells #[.int .i64 s.size, .int .i64 s.seq, .slice ao n cap, .slice bo n cbp, .int .i64 s.hits, .int .i64 s.misses, .int .i64 s.evicted, .int .i64 s.resets] 29)).alloc (.cells #[.int .u8 x.kind, .int .i64 x.k.a, .int .i64 x.k.b, .int .i64 x.k.c, .int .u32 x.al, .int .i64 x.sq] 35)).alloc (.cells #[.int .i64 0, .int .i64 0, .slice none 0 0, .slice none 0 0, .int .i64 0, .int .i64 0, .int .i64 0, .int .i64 0] 29)) u → Calls Try.prog 38 #[.agg #[.int .i64 s.size, .int .i64 s.seq, .slice ao n cap, .slice bo n cbp, .int .i64 s.hits, .int .i64 s.misses, .int .i64 s.evicted, .int .i64 s.resets], .int .i64 x.k.a, .int .i64 x.k.b, .int .i64 x.k.c, .agg #[.int .u32 x.al, .int .u32 0, .int .u32 0, .bool false, .int .i64 x.sq]] u fun e w' => ∃ vk' vd', e = .returned (.tuple #[.agg #[.int .i64 (insC s x.k x.d).size, .int .i64 (insC s x.k x.d).seq, vk', vd', .int .i64 (insC s x.k x.d).hits, .int .i64 (insC s x.k x.d).misses, .int .i64 (insC s x.k x.d).evicted, .int .i64 (insC s x.k x.d).resets], .int .i64 (staleE x.sq s.seq)]) ∧ OS w' B (insC s x.k x.d) vk' vd' ∧ Below u.heap.size u w') := Lib.hid (fun u hu => rinsert_c s _ _ x.k x.d u (HO.out.st hu) (by have h1 := hu.sz; have h2 := HNE.out.2.2.2; exact Nat.le_trans h2 h1) HA.out.ok (by have h1 := HA.out.sm.e; have h2 := HM.out; omega) (by have := HA.out.len; omega))
  generalize staleE x.sq s.seq = er at *
  generalize insC s x.k x.d = s2 at *
  go_enter Try.func12, Try.ntmps12
  go_upto_region 1 with fail
  generalize (((w.alloc (.cells #[.int .i64 s.size, .int .i64 s.seq, .slice ao n cap, .slice bo n cbp, .int .i64 s.hits, .int .i64 s.misses, .int .i64 s.evicted, .int .i64 s.resets] 29)).alloc (.cells #[.int .u8 x.kind, .int .i64 x.k.a, .int .i64 x.k.b, .int .i64 x.k.c, .int .u32 x.al, .int .i64 x.sq] 35)).alloc (.cells #[.int .i64 0, .int .i64 0, .slice none 0 0, .slice none 0 0, .int .i64 0, .int .i64 0, .int .i64 0, .int .i64 0] 29)) = W at *
  generalize w.heap.size + 1 + 1 = g6 at *
  generalize w.heap.size + 1 = g5 at *
  generalize w.heap.size = g4 at *
  obtain ⟨k0, k1, k2, k3, k4, k5⟩ := H5.out.cells6
  generalize x.kind % 3 = j at *
  subst hk
  go_upto_region 7 with fail
  clear k0 k1 k2 k3 k4 k5
  refine wp_region_kt 9 (by kernel_rfl) (by kernel_rfl) ?_
  simp only [List.take_succ_cons, List.take_zero, List.drop_succ_cons, List.drop_zero]
  repeat (first
    | go_big_quiet_skip
    | (go_big_quiet_want
       first
         | (go_big_quiet_op
            first
              | go_big_quiet_on
              | (apply Exists.intro
                 refine ⟨fun w1 hC => ?_, ?_⟩
                 · first
                     | (go_at_call 37; with_reducible exact hC.call (decision_c x _))
                     | (obtain ⟨k0, k1, k2, k3, k4, k5⟩ := (H5.out.keep hC).cells6; go_simp; exact ⟨rfl, rfl⟩)
                     | (obtain ⟨k0, k1, k2, k3, k4, k5⟩ := (H5.out.keep hC).cells6; go_simp; exact rfl)
                     | exact rfl
                     | (go_simp; exact ⟨rfl, rfl⟩)
                 go_big_quiet_on))))
  refine wpQuiet_nil ?_
  intro W2 hC2
  have HC2 := Lib.hid hC2
  clear hC2
  go_upto_region 8 with (first | (go_at_call 27; refine (HC.out _ HC2.out).mono ?_; rintro e w3 ⟨rfl, h2, h3⟩; have HA3 := Lib.hid h2; have HT3 : Hid (StT W w3) := Lib.hid ⟨Nat.le_trans HC2.out.size h3.sz, fun g t cs ht hb => h3.k g t cs ht (hb.keep HC2.out)⟩; clear h2 h3) | fail)
  have H43 := Lib.hid (HT3.out.k _ _ _ oth_st H4.out)
  have H53 := Lib.hid (HT3.out.k _ _ _ oth_op H5.out)
  have H63 := Lib.hid (HT3.out.k _ _ _ oth_st H6.out)
  generalize w3 = W3 at *
  have hst : ∀ {u : World}, Below W3.heap.size W3 u → StT W u := fun hb => ⟨Nat.le_trans HT3.out.sz hb.size, fun g t cs ht h => (HT3.out.k g t cs ht h).keep hb⟩
  refine wp_region_lnk (fun _ w => Below W3.heap.size W3 w) (rR W3 B s2) (rP W3 B s2 er (sinV s ao bo n cap cbp x er g5)) (fun j => if j = 14 then some 14 else none) (by kernel_rfl) (by kernel_rfl) (by kernel_rfl) (Below.refl _ _).drew rC_step [] (by kernel_rfl) (fun _ _ _ _ _ hij _ h hr => rP_keep hij h hr) ?_ ?_
  · skip
    refine ⟨⟨trivial, fun A v d hd hC hF hW K Q hk => ?_⟩, ⟨trivial, fun A v d hd hC hF hW K Q hk => ?_⟩, ⟨trivial, fun A v d hd hC hF hW K Q hk => ?_⟩, ⟨trivial, fun A v d hd hC hF hW K Q hk => ?_⟩, ⟨trivial, fun A v d hd hC hF hW K Q hk => ?_⟩, ⟨trivial, fun A v d hd hC hF hW K Q hk => ?_⟩, ⟨trivial, fun A v d hd hC hF hW K Q hk => ?_⟩, ⟨trivial, fun A v d hd hC hF hW K Q hk => ?_⟩, ⟨trivial, fun A v d hd hC hF hW K Q hk => ?_⟩, ⟨trivial, fun A v d hd hC hF hW K Q hk => ?_⟩, ⟨trivial, fun A v d hd hC hF hW K Q hk => ?_⟩, ⟨trivial, fun A v d hd hC hF hW K Q hk => ?_⟩, ⟨trivial, fun A v d hd hC hF hW K Q hk => ?_⟩, ⟨trivial, fun A v d hd hC hF hW K Q hk => ?_⟩, ⟨trivial, fun A v d hd hC hF hW K Q hk => ?_⟩, ⟨trivial, fun A v d hd hC hF hW K Q hk => ?_⟩, trivial⟩
    · have f4 : A.tmps[4]?.getD undef = .pointer (some ⟨g4, 0, none⟩) := fg_none (hF 4) (by kernel_rfl)
      obtain ⟨y0, y1, y2, y3, y4, y5, y6, y7⟩ := (H43.out.keep hC).cells8
      refine Giv.wp (φ := rP W3 B s2 er (sinV s ao bo n cap cbp x er g5) 0) ?_ hk
      unfold Giv
      go_simp
      exact giv_val (P := Try.prog) (rR_rfl (by decide)) (rP_mk (by decide) (by decide) (by decide) (by decide) rfl)
    · have f5 : A.tmps[5]?.getD undef = .pointer (some ⟨g5, 0, none⟩) := fg_none (hF 5) (by kernel_rfl)
      refine Giv.wp (φ := rP W3 B s2 er (sinV s ao bo n cap cbp x er g5) 1) ?_ hk
      unfold Giv
      go_simp
      exact giv_val (P := Try.prog) (rR_rfl (by decide)) (rP_mk (by decide) (by decide) (by decide) (by decide) rfl)
    · have f70 : A.tmps[70]?.getD undef = .pointer (some ⟨g5, 1, none⟩) := rP_val (fg_some (hF 70) (j := 1) (by kernel_rfl) (by kernel_rfl)) (by decide) (by decide) (by decide) (by decide) rfl
      obtain ⟨y0, y1, y2, y3, y4, y5⟩ := (H53.out.keep hC).cells6
      refine Giv.wp (φ := rP W3 B s2 er (sinV s ao bo n cap cbp x er g5) 2) ?_ hk
      unfold Giv
      go_simp
      exact giv_val (P := Try.prog) (rR_rfl (by decide)) (rP_mk (by decide) (by decide) (by decide) (by decide) rfl)
    · have f5 : A.tmps[5]?.getD undef = .pointer (some ⟨g5, 0, none⟩) := fg_none (hF 5) (by kernel_rfl)
      refine Giv.wp (φ := rP W3 B s2 er (sinV s ao bo n cap cbp x er g5) 3) ?_ hk
      unfold Giv
      go_simp
      exact giv_val (P := Try.prog) (rR_rfl (by decide)) (rP_mk (by decide) (by decide) (by decide) (by decide) rfl)
    · have f72 : A.tmps[72]?.getD undef = .pointer (some ⟨g5, 2, none⟩) := rP_val (fg_some (hF 72) (j := 3) (by kernel_rfl) (by kernel_rfl)) (by decide) (by decide) (by decide) (by decide) rfl
      obtain ⟨y0, y1, y2, y3, y4, y5⟩ := (H53.out.keep hC).cells6
      refine Giv.wp (φ := rP W3 B s2 er (sinV s ao bo n cap cbp x er g5) 4) ?_ hk
      unfold Giv
      go_simp
      exact giv_val (P := Try.prog) (rR_rfl (by decide)) (rP_mk (by decide) (by decide) (by decide) (by decide) rfl)
    · have f5 : A.tmps[5]?.getD undef = .pointer (some ⟨g5, 0, none⟩) := fg_none (hF 5) (by kernel_rfl)
      refine Giv.wp (φ := rP W3 B s2 er (sinV s ao bo n cap cbp x er g5) 5) ?_ hk
      unfold Giv
      go_simp
      exact giv_val (P := Try.prog) (rR_rfl (by decide)) (rP_mk (by decide) (by decide) (by decide) (by decide) rfl)
    · have f74 : A.tmps[74]?.getD undef = .pointer (some ⟨g5, 3, none⟩) := rP_val (fg_some (hF 74) (j := 5) (by kernel_rfl) (by kernel_rfl)) (by decide) (by decide) (by decide) (by decide) rfl
      obtain ⟨y0, y1, y2, y3, y4, y5⟩ := (H53.out.keep hC).cells6
      refine Giv.wp (φ := rP W3 B s2 er (sinV s ao bo n cap cbp x er g5) 6) ?_ hk
      unfold Giv
      go_simp
      exact giv_val (P := Try.prog) (rR_rfl (by decide)) (rP_mk (by decide) (by decide) (by decide) (by decide) rfl)
    · have f5 : A.tmps[5]?.getD undef = .pointer (some ⟨g5, 0, none⟩) := fg_none (hF 5) (by kernel_rfl)
      obtain ⟨y0, y1, y2, y3, y4, y5⟩ := (H53.out.keep hC).cells6
      refine Giv.wp (φ := rP W3 B s2 er (sinV s ao bo n cap cbp x er g5) 7) ?_ hk
      unfold Giv
      go_simp
      exact giv_val (P := Try.prog) (rR_rfl (by decide)) (rP_mk (by decide) (by decide) (by decide) (by decide) rfl)
    · have f76 : A.tmps[76]?.getD undef = .agg #[.int .u8 x.kind, .int .i64 x.k.a, .int .i64 x.k.b, .int .i64 x.k.c, .int .u32 x.al, .int .i64 x.sq] := rP_val (fg_some (hF 76) (j := 7) (by kernel_rfl) (by kernel_rfl)) (by decide) (by decide) (by decide) (by decide) rfl
      refine Giv.wp (φ := rP W3 B s2 er (sinV s ao bo n cap cbp x er g5) 8) ?_ hk
      unfold Giv
      go_simp
      exact giv_enter (P := Try.prog) ((decision_c x v).mono fun e w2 ⟨he, hb⟩ => ⟨_, he, rR_of (by decide) hb, rP_mk (by decide) (by decide) (by decide) (by decide) rfl⟩)
    · have f69 : A.tmps[69]?.getD undef = .agg #[.int .i64 s.size, .int .i64 s.seq, .slice ao n cap, .slice bo n cbp, .int .i64 s.hits, .int .i64 s.misses, .int .i64 s.evicted, .int .i64 s.resets] := rP_val (fg_some (hF 69) (j := 0) (by kernel_rfl) (by kernel_rfl)) (by decide) (by decide) (by decide) (by decide) rfl
      have f71 : A.tmps[71]?.getD undef = .int .i64 x.k.a := rP_val (fg_some (hF 71) (j := 2) (by kernel_rfl) (by kernel_rfl)) (by decide) (by decide) (by decide) (by decide) rfl
      have f73 : A.tmps[73]?.getD undef = .int .i64 x.k.b := rP_val (fg_some (hF 73) (j := 4) (by kernel_rfl) (by kernel_rfl)) (by decide) (by decide) (by decide) (by decide) rfl
      have f75 : A.tmps[75]?.getD undef = .int .i64 x.k.c := rP_val (fg_some (hF 75) (j := 6) (by kernel_rfl) (by kernel_rfl)) (by decide) (by decide) (by decide) (by decide) rfl
      have f77 : A.tmps[77]?.getD undef = .agg #[.int .u32 x.al, .int .u32 0, .int .u32 0, .bool false, .int .i64 x.sq] := rP_val (fg_some (hF 77) (j := 8) (by kernel_rfl) (by kernel_rfl)) (by decide) (by decide) (by decide) (by decide) rfl
      refine Giv.wp (φ := rP W3 B s2 er (sinV s ao bo n cap cbp x er g5) 9) ?_ hk
      unfold Giv
      go_simp
      exact giv_enter (P := Try.prog) ((HRR.out v (hst hC)).mono fun e w2 ⟨vk, vd, he, ho, hb⟩ => by obtain ⟨ao3, bo3, cap3, cbp3, rfl, rfl⟩ := ho.sr.forms; exact ⟨_, he, rR_of (by decide) hb, rP_two (.inl rfl) ho⟩)
    · obtain ⟨ao3, bo3, n3, cap3, m3, cbp3, f78, ho⟩ := rP_two' (by decide) (fg_some (hF 78) (j := 9) (by kernel_rfl) (by kernel_rfl))
      simp only [stA] at f78
      refine Giv.wp (φ := rP W3 B s2 er (sinV s ao bo n cap cbp x er g5) 10) ?_ hk
      unfold Giv
      go_simp
      exact giv_val (P := Try.prog) (rR_rfl (by decide)) (rP_two (.inr rfl) ho)
    · obtain ⟨ao3, bo3, n3, cap3, m3, cbp3, f68, ho⟩ := rP_two' (by decide) (fg_some (hF 68) (j := 10) (by kernel_rfl) (by kernel_rfl))
      simp only [stA] at f68
      refine Giv.wp (φ := rP W3 B s2 er (sinV s ao bo n cap cbp x er g5) 11) ?_ hk
      unfold Giv
      go_simp
      exact giv_val (P := Try.prog) (rR_rfl (by decide)) (by unfold rP; rw [if_neg (by decide), if_pos rfl]; exact ⟨_, _, _, _, _, _, rfl, ho⟩)
    · obtain ⟨ao3, bo3, n3, cap3, m3, cbp3, f68, ho⟩ := rP_two' (by decide) (fg_some (hF 68) (j := 10) (by kernel_rfl) (by kernel_rfl))
      simp only [stA] at f68
      refine Giv.wp (φ := rP W3 B s2 er (sinV s ao bo n cap cbp x er g5) 12) ?_ hk
      unfold Giv
      go_simp
      exact giv_val (P := Try.prog) (rR_rfl (by decide)) (rP_mk (by decide) (by decide) (by decide) (by decide) rfl)
    · refine Giv.wp (φ := rP W3 B s2 er (sinV s ao bo n cap cbp x er g5) 13) ?_ hk
      unfold Giv
      go_simp
      exact giv_val (P := Try.prog) (rR_of (by decide) ((Below.refl _ _).alloc (Nat.le_refl _) _)) (by unfold rP; rw [if_neg (by decide), if_neg (by decide), if_pos rfl]; exact ⟨_, rfl, hC.size, _, _, _, _, _, _, _, _, Blk.new _ _ _⟩)
    · obtain ⟨gb, f14, hgb, a0, a1, a2, a3, a4, a5, a6, a7, hbb⟩ := rP_box (fg_some (hF 14) (j := 13) (by kernel_rfl) (by kernel_rfl))
      obtain ⟨ao3, bo3, n3, cap3, m3, cbp3, f79, ho⟩ := rP_st (fg_some (hF 79) (j := 11) (by kernel_rfl) (by kernel_rfl))
      simp only [stA] at f79
      have e14 : A.eval (.tmp 14) = .pointer (some ⟨gb, 0, none⟩) := by rw [← f14]; simp [Act.eval]
      obtain ⟨z0, z1, z2, z3, z4, z5, z6, z7⟩ := hbb.cells8
      obtain ⟨e0, e1, e2, e3, e4, e5, e6, e7⟩ := hbb.fro8
      refine Giv.wp (φ := fun _ w2 => rP W3 B s2 er (sinV s ao bo n cap cbp x er g5) 14 (A.eval (.tmp 14)) w2) ?_ hk
      rw [e14]
      unfold Giv
      go_simp
      first | exact giv_skip (P := Try.prog) (by unfold rR; rw [if_pos rfl]; exact ⟨gb, _, _, hgb, ⟨_, _, _, _, _, _, _, _, hbb⟩, ho, rfl⟩) (by unfold rP; rw [if_neg (by decide), if_neg (by decide), if_neg (by decide), if_pos rfl]; exact ⟨gb, _, _, _, _, _, _, rfl, hgb, hbb.set8 _ _ _ _ _ _ _ _, ho.far hbb (apart_set8 _ gb _ _ _ _ _ _ _ _)⟩) | exact giv_val (P := Try.prog) (by unfold rR; rw [if_pos rfl]; exact ⟨gb, _, _, hgb, ⟨_, _, _, _, _, _, _, _, hbb⟩, ho, rfl⟩) (by unfold rP; rw [if_neg (by decide), if_neg (by decide), if_neg (by decide), if_pos rfl]; exact ⟨gb, _, _, _, _, _, _, rfl, hgb, hbb.set8 _ _ _ _ _ _ _ _, ho.far hbb (apart_set8 _ gb _ _ _ _ _ _ _ _)⟩)
    · have f80 : A.tmps[80]?.getD undef = .int .i64 er := rP_val (fg_some (hF 80) (j := 12) (by kernel_rfl) (by kernel_rfl)) (by decide) (by decide) (by decide) (by decide) rfl
      refine Giv.wp (φ := rP W3 B s2 er (sinV s ao bo n cap cbp x er g5) 15) ?_ hk
      unfold Giv
      go_simp
      exact giv_val (P := Try.prog) (rR_rfl (by decide)) (rP_mk (by decide) (by decide) (by decide) (by decide) rfl)
  · intro a0 W9 d hsd hC hsz hdf hF hL
    have ha := end_gen [false, false, false, false, false, false, false, false, false, false, false, false, false, false, true, true, false, false, false, false, false, false, false, false, false, false, false, false, false, false, false, false, false, false, false, false, false, false, false, false, false, false, false, false, false, false, false, false, false, false, false, false, false, false, false, false, false, false, false, false, false, false, false, false, false, false, false, false, true, true, true, true, true, true, true, true, true, true, true, true, true] hsz hdf hF (by kernel_rfl)
    have f15 : a0.tmps[15]?.getD undef = .int .i64 er := rP_val (fe_some (hF 15) (j := 15) (by kernel_rfl)) (by decide) (by decide) (by decide) (by decide) rfl
    obtain ⟨g14, ao3, bo3, n3, cap3, m3, cbp3, f14, hg14, hb14, ho14⟩ := rP_full (fl_link hL (j := 14) rfl rfl rfl)
    have HS9 : Hid (Blk W9 g14 29 #[.int .i64 s2.size, .int .i64 s2.seq, .slice ao3 n3 cap3, .slice bo3 m3 cbp3, .int .i64 s2.hits, .int .i64 s2.misses, .int .i64 s2.evicted, .int .i64 s2.resets]) := Lib.hid hb14
    have HO9 := Lib.hid ho14
    have HA9 := Lib.hid (HA3.out.keep hC)
    have HZ9 := Lib.hid (H63.out.keep hC)
    have HT9 := Lib.hid ((HT0.out.trans HT3.out).keep hC)
    rw [ha]
    clear ha hF hL hC hsd hb14 ho14
    simp only [cutM_yes, cutM_no, cutM_nil, Nat.reduceAdd]
    rw [f15, f14]
    clear f15 f14
    generalize a0.tmps[68]?.getD undef = s68
    generalize a0.tmps[69]?.getD undef = s69
    generalize a0.tmps[70]?.getD undef = s70
    generalize a0.tmps[71]?.getD undef = s71
    generalize a0.tmps[72]?.getD undef = s72
    generalize a0.tmps[73]?.getD undef = s73
    generalize a0.tmps[74]?.getD undef = s74
    generalize a0.tmps[75]?.getD undef = s75
    generalize a0.tmps[76]?.getD undef = s76
    generalize a0.tmps[77]?.getD undef = s77
    generalize a0.tmps[78]?.getD undef = s78
    generalize a0.tmps[79]?.getD undef = s79
    generalize a0.tmps[80]?.getD undef = s80
    clear hsz hdf
    obtain ⟨c0, c1, c2, c3, c4, c5, c6, c7⟩ := HS9.out.cells8
    obtain ⟨z0, z1, z2, z3, z4, z5, z6, z7⟩ := HZ9.out.cells8
    obtain ⟨f0, f1, f2, f3, f4, f5, f6, f7⟩ := HZ9.out.fro8
    go_wp2_with fail
    have hb := HZ9.out.set8 (.int .i64 s2.size) (.int .i64 s2.seq) (.slice ao3 n3 cap3) (.slice bo3 m3 cbp3) (.int .i64 s2.hits) (.int .i64 s2.misses) (.int .i64 s2.evicted) (.int .i64 s2.resets)
    have ha := apart_set8 W9 g6 (.int .i64 s2.size) (.int .i64 s2.seq) (.slice ao3 n3 cap3) (.slice bo3 m3 cbp3) (.int .i64 s2.hits) (.int .i64 s2.misses) (.int .i64 s2.evicted) (.int .i64 s2.resets)
    have hA := HA9.out.far oth_st HZ9.out HNE.out.2.2.1 ha
    have hO := HO9.out.far HZ9.out ha
    have hT := HT9.out.far HGE.out ha
    unfold set8 at hb ha hA hO hT
    generalize ((((((((W9.setCell ⟨g6, 0, none⟩ (.int .i64 s2.size)).setCell ⟨g6, 1, none⟩ (.int .i64 s2.seq)).setCell ⟨g6, 2, none⟩ (.slice ao3 n3 cap3)).setCell ⟨g6, 3, none⟩ (.slice bo3 m3 cbp3)).setCell ⟨g6, 4, none⟩ (.int .i64 s2.hits)).setCell ⟨g6, 5, none⟩ (.int .i64 s2.misses)).setCell ⟨g6, 6, none⟩ (.int .i64 s2.evicted)).setCell ⟨g6, 7, none⟩ (.int .i64 s2.resets)) = w6 at *
    obtain ⟨q0, q1, q2, q3, q4, q5, q6, q7⟩ := hb.cells8
    refine bodyPost_ret (v := .tuple #[.agg #[.int .i64 s2.size, .int .i64 s2.seq, .slice ao3 n3 cap3, .slice bo3 m3 cbp3, .int .i64 s2.hits, .int .i64 s2.misses, .int .i64 s2.evicted, .int .i64 s2.resets], .bool true]) (by simp [results, Try.results12, go_sem, q0, q1, q2, q3, q4, q5, q6, q7]) rfl ⟨_, _, rfl, hA, hO, hT⟩
theorem step_c {w0 w : World} {B c m : Nat} {s : CS} {vk vd : Value} (x : Opr) (h : At w0 w (fun _ => False) c m s) (hr : OS w B s vk vd) (hB : B ≤ w.heap.size) (hm : m ≤ 1000000) (wx : WO x) :
    Calls Try.prog 12 #[.pointer (some ⟨c, 0, none⟩), .agg #[.int .i64 s.size, .int .i64 s.seq, vk, vd, .int .i64 s.hits, .int .i64 s.misses, .int .i64 s.evicted, .int .i64 s.resets], .agg #[.int .u8 x.kind, .int .i64 x.k.a, .int .i64 x.k.b, .int .i64 x.k.c, .int .u32 x.al, .int .i64 x.sq]] w fun e w' => ∃ vk' vd', e = .returned (.tuple #[.agg #[.int .i64 (doC s x).size, .int .i64 (doC s x).seq, vk', vd', .int .i64 (doC s x).hits, .int .i64 (doC s x).misses, .int .i64 (doC s x).evicted, .int .i64 (doC s x).resets], .bool true]) ∧ At w0 w' (fun _ => False) c (m + 1) (doC s x) ∧ OS w' B (doC s x) vk' vd' ∧ StT w w' := by
  obtain ⟨ao, bo, cap, cbp, rfl, rfl⟩ := hr.sr.forms
  unfold doC
  by_cases h0 : x.kind % 3 = 0
  · simp only [if_pos h0]
    exact step_find x h hr hB hm wx h0
  · by_cases h1 : x.kind % 3 = 1
    · simp only [if_neg h0, if_pos h1]
      exact step_ins x h hr hB hm wx h1
    · simp only [if_neg h0, if_neg h1]
      exact step_res x h hr hB hm wx ⟨h0, h1⟩
end Go.Proofs.Ytbcbhgclgakljaa
