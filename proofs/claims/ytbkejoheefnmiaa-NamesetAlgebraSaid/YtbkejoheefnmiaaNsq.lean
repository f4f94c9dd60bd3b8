/- What a set of names means in a list: Listed and Perms of the reference. Condition: at most a million names, types, attributes and aliases. -/
import Derived.Test.YtbkejoheefnmiaaNso
namespace Go.Proofs.Ytbkejoheefnmiaa
open Go.RowKit
theorem idxN_take (L : List ByteArray) (m : Nat) (x : ByteArray) : idxN (L.take m) x = min m (idxN L x) := List.findIdx_take
theorem idxN_le (L : List ByteArray) (x : ByteArray) : idxN L x ≤ L.length := List.findIdx_le_length
theorem numB_take (L : List ByteArray) (m : Nat) (x : ByteArray) : numB (L.take m) (L.take m).length x = numB L m x ∧ (numB L m x = true → numS (L.take m) x = numS L x) := by
  have h1 := idxN_take L m x
  have h2 := idxN_le L x
  have h3 : (L.take m).length = min m L.length := List.length_take
  unfold numB numS idxI
  rw [h1, h3]
  constructor
  · rw [Bool.eq_iff_iff]
    simp only [decide_eq_true_eq]
    split <;> split <;> omega
  · intro h
    simp only [decide_eq_true_eq] at h
    have hh : idxN L x < L.length ∧ idxN L x < m := by
      split at h <;> omega
    rw [if_pos hh.1, if_pos (by omega), show min m (idxN L x) = idxN L x by omega]
theorem unF_congr {f f' : ByteArray → S4} : ∀ (l : List ByteArray) (s : S4), (∀ x ∈ l, f x = f' x) → l.foldl (fun s x => s.or (f x)) s = l.foldl (fun s x => s.or (f' x)) s
  | [], _, _ => rfl
  | x :: l, s, h => by
    simp only [List.foldl_cons]
    rw [h x (by simp)]
    exact unF_congr l _ fun y hy => h y (by simp [hy])
theorem un_congr {f f' : ByteArray → S4} {g g' : ByteArray → Bool} (hg : ∀ x, g x = g' x) (hf : ∀ x, g' x = true → f x = f' x) (l : List ByteArray) : unB g l = unB g' l ∧ unS f g l = unS f' g' l := by
  have e : g = g' := funext hg
  subst e
  refine ⟨rfl, ?_⟩
  unfold unS
  cases hb : unB g l
  · rfl
  · simp only [if_true]
    exact unF_congr l _ fun x hx => hf x (List.all_eq_true.1 hb x hx)
theorem mean_take (al no : Bool) (L N E : List ByteArray) (m : Nat) : meanS al no (L.take m).length (numS (L.take m)) (numB (L.take m) (L.take m).length) N E = meanS al no ((min L.length m : Nat) : Int) (numS L) (numB L m) N E ∧ meanB (numB (L.take m) (L.take m).length) N E = meanB (numB L m) N E := by
  obtain ⟨a, b⟩ := un_congr (fun x => (numB_take L m x).1) (fun x => (numB_take L m x).2) N
  obtain ⟨c, d⟩ := un_congr (fun x => (numB_take L m x).1) (fun x => (numB_take L m x).2) E
  unfold meanS meanB
  rw [a, b, c, d, List.length_take, Nat.min_comm]
  exact ⟨rfl, rfl⟩
theorem meanS_zero {al no : Bool} {cnt : Int} {f : ByteArray → S4} {g : ByteArray → Bool} {N E : List ByteArray} (h : meanB g N E = false) : meanS al no cnt f g N E = S4.zero := by
  unfold meanS; rw [show (unB g N && unB g E) = false from h]; rfl
/-- the access vector that a set's first word is -/
def permI (b : Bool) (x : Int) : Int := if b then IntKind.u32.wrap x else 0
set_option maxRecDepth 100000 in
set_option maxHeartbeats 8000000 in
theorem rListed_c (al no sf : Bool) (vN vE vL : Value) (N E L : List ByteArray) (w : World) (hN : Strs w vN N) (hE : Strs w vE E) (hL : Strs w vL L) (hn : N.length ≤ 1000000) (hn2 : E.length ≤ 1000000) (hn3 : L.length ≤ 1000000) :
    Calls Try.prog 17 #[.agg #[.bool al, .bool no, .bool sf, vN, vE], vL] w (ErrOut (meanS al no ((min L.length 256 : Nat) : Int) (numS L) (numB L 256) N E) (errI (meanB (numB L 256) N E) 11) w) := by
  have hW : Kp w ((w.alloc (.cells #[.bool al, .bool no, .bool sf, vN, vE] 29)).alloc (.cells #[.int .u64 0, .int .u64 0, .int .u64 0, .int .u64 0] 35)) := ((Below.refl _ _).alloc (Nat.le_refl _) _).alloc (by simp) _
  have hNS : Blk ((w.alloc (.cells #[.bool al, .bool no, .bool sf, vN, vE] 29)).alloc (.cells #[.int .u64 0, .int .u64 0, .int .u64 0, .int .u64 0] 35)) w.heap.size 29 #[.bool al, .bool no, .bool sf, vN, vE] := (Blk.new w _ _).alloc _
  have s1 : (w.alloc (.cells #[.bool al, .bool no, .bool sf, vN, vE] 29)).heap.size = w.heap.size + 1 := by simp
  have hQ4 : Quad ((w.alloc (.cells #[.bool al, .bool no, .bool sf, vN, vE] 29)).alloc (.cells #[.int .u64 0, .int .u64 0, .int .u64 0, .int .u64 0] 35)) (w.heap.size + 1) 0 0 0 0 := by
    rw [← s1]; exact Quad.new (w.alloc (.cells #[.bool al, .bool no, .bool sf, vN, vE] 29)) 0 0 0 0
  clear s1
  have HM := Lib.hid (rlisted_c al no sf vN vE vL N E L 256 ((w.alloc (.cells #[.bool al, .bool no, .bool sf, vN, vE] 29)).alloc (.cells #[.int .u64 0, .int .u64 0, .int .u64 0, .int .u64 0] 35)) (hN.keep hW) (hE.keep hW) (hL.keep hW) hn hn2 hn3 (Nat.le_refl _))
  have HZ : Hid ((meanB (numB L 256) N E) = false → S4.zero = (meanS al no ((min L.length 256 : Nat) : Int) (numS L) (numB L 256) N E)) := Lib.hid fun h => (meanS_zero h).symm
  obtain ⟨S, hS⟩ : ∃ S, (meanS al no ((min L.length 256 : Nat) : Int) (numS L) (numB L 256) N E) = S := ⟨_, rfl⟩
  obtain ⟨B, hB⟩ : ∃ B, (meanB (numB L 256) N E) = B := ⟨_, rfl⟩
  rw [hS, hB] at HM HZ ⊢
  clear hS hB
  obtain ⟨ao, cap, rfl, -⟩ := hL
  obtain ⟨y0, y1, y2, y3, y4⟩ := hNS.five
  have HQ4 := Lib.hid hQ4
  have HW := Lib.hid hW
  clear hQ4 hW hNS hN hE
  cases B
  all_goals
    go_enter Try.func17, Try.ntmps17
    go_wp2_with fail
    refine HM.out.mono ?_
    rintro e w2 ⟨rfl, hb2⟩
    have hQ := (HQ4.out.keep hb2).alloc (.cells #[.int .u64 (S).a, .int .u64 (S).b, .int .u64 (S).c, .int .u64 (S).d] 35)
    have HB := Lib.hid (Kp.alloc (Kp.step HW.out hb2) (.cells #[.int .u64 (S).a, .int .u64 (S).b, .int .u64 (S).c, .int .u64 (S).d] 35))
    obtain ⟨c0, c1, c2, c3, f0, f1, f2, f3⟩ := hQ.facts
    have HQ := Lib.hid hQ
    clear hb2 hQ y0 y1 y2 y3 y4
    go_wp2_with fail
  · obtain rfl := HZ.out (by simp)
    obtain ⟨r0, r1, r2, r3⟩ := quad_box (HQ.out.set4 0 0 0 0)
    exact bodyPost_ret (v := .tuple #[.agg #[.int .u64 0, .int .u64 0, .int .u64 0, .int .u64 0], .int .i64 11]) (by simp [results, Try.results17, go_sem, r0, r1, r2, r3]) rfl ⟨rfl, below_set4 HB.out (by omega) _ _ _ _⟩
  · obtain ⟨r0, r1, r2, r3⟩ := quad_box (HQ.out.set4 (S).a (S).b (S).c (S).d)
    exact bodyPost_ret (v := .tuple #[.agg #[.int .u64 (S).a, .int .u64 (S).b, .int .u64 (S).c, .int .u64 (S).d], .int .i64 0]) (by simp [results, Try.results17, go_sem, r0, r1, r2, r3]) rfl ⟨rfl, below_set4 HB.out (by omega) _ _ _ _⟩
set_option maxRecDepth 100000 in
set_option maxHeartbeats 8000000 in
theorem rPerms_c (al no sf : Bool) (vN vE vL : Value) (nm : ByteArray) (N E L : List ByteArray) (w : World) (hN : Strs w vN N) (hE : Strs w vE E) (hL : Strs w vL L) (hn : N.length ≤ 1000000) (hn2 : E.length ≤ 1000000) (hn3 : L.length ≤ 1000000) :
    Calls Try.prog 21 #[.agg #[.bool al, .bool no, .bool sf, vN, vE], .agg #[.string nm, vL]] w fun e w' => e = .returned (.tuple #[.int .u32 (permI (meanB (numB L 32) N E) (meanS al no ((min L.length 32 : Nat) : Int) (numS L) (numB L 32) N E).a), .int .i64 (errI (meanB (numB L 32) N E) 21)]) ∧ Below w.heap.size w w' := by
  have hW : Kp w ((w.alloc (.cells #[.bool al, .bool no, .bool sf, vN, vE] 29)).alloc (.cells #[.string nm, vL] 44)) := ((Below.refl _ _).alloc (Nat.le_refl _) _).alloc (by simp) _
  have hNS : Blk ((w.alloc (.cells #[.bool al, .bool no, .bool sf, vN, vE] 29)).alloc (.cells #[.string nm, vL] 44)) w.heap.size 29 #[.bool al, .bool no, .bool sf, vN, vE] := (Blk.new w _ _).alloc _
  have s1 : (w.alloc (.cells #[.bool al, .bool no, .bool sf, vN, vE] 29)).heap.size = w.heap.size + 1 := by simp
  have hCL : Blk ((w.alloc (.cells #[.bool al, .bool no, .bool sf, vN, vE] 29)).alloc (.cells #[.string nm, vL] 44)) (w.heap.size + 1) 44 #[.string nm, vL] := by
    rw [← s1]; exact Blk.new (w.alloc (.cells #[.bool al, .bool no, .bool sf, vN, vE] 29)) _ _
  clear s1
  have HM := Lib.hid (rlisted_c al no sf vN vE vL N E L 32 ((w.alloc (.cells #[.bool al, .bool no, .bool sf, vN, vE] 29)).alloc (.cells #[.string nm, vL] 44)) (hN.keep hW) (hE.keep hW) (hL.keep hW) hn hn2 hn3 (by decide))
  obtain ⟨S, hS⟩ : ∃ S, (meanS al no ((min L.length 32 : Nat) : Int) (numS L) (numB L 32) N E) = S := ⟨_, rfl⟩
  obtain ⟨B, hB⟩ : ∃ B, (meanB (numB L 32) N E) = B := ⟨_, rfl⟩
  rw [hS, hB] at HM ⊢
  clear hS hB
  obtain ⟨ao, cap, rfl, -⟩ := hL
  obtain ⟨y0, y1, y2, y3, y4⟩ := hNS.five
  obtain ⟨e0, e1⟩ := hCL.two
  have HW := Lib.hid hW
  clear hW hNS hN hE hCL
  cases B
  all_goals
    go_enter Try.func21, Try.ntmps21
    go_wp2_with fail
    refine HM.out.mono ?_
    rintro e w2 ⟨rfl, hb2⟩
    have HB := Lib.hid (Kp.alloc (Kp.step HW.out hb2) (.cells #[.int .u64 (S).a, .int .u64 (S).b, .int .u64 (S).c, .int .u64 (S).d] 35))
    clear hb2 y0 y1 y2 y3 y4 e0 e1
    go_wp2_with fail
    go_ret2
    exact ⟨rfl, HB.out⟩
end Go.Proofs.Ytbkejoheefnmiaa
