/- The scanner of package token: tokenError and token. -/
import Derived.Test.YtffgjamnijhlpaaTsb
import Derived.Laws.StructEq
import Derived.Laws.Cover2
import Derived.RegionTactic
import Derived.BigRegion
namespace Go.Proofs.Ytffgjamnijhlpaa
open Go.RowKit
/-- the error of a text of a kind -/
def terr (kind : Nat) (t : ByteArray) : Int :=
  if kind = 1 then (if 32 < t.size then 10 else 0)
  else if kind = 2 then (if 9 < t.size then 3 else if 1 < t.size ∧ chI t 0 = 48 then 9 else 0)
  else if kind = 3 then (if 256 < t.size then 4 else 0)
  else if kind = 4 then (if t.size = 0 then 9 else 0)
  else 0
theorem te0 (t : ByteArray) (w : World) :
    Calls Try.prog 73 #[.int .i64 0, .string t] w fun e w' => e = .returned (.int .i64 0) ∧ w' = w := by
  go_enter Try.func73, Try.ntmps73
  go_wp2
  go_ret
  exact ⟨rfl, rfl⟩
theorem te1y (t : ByteArray) (w : World) (h : (32 : Int) < (t.size : Int)) :
    Calls Try.prog 73 #[.int .i64 1, .string t] w fun e w' => e = .returned (.int .i64 10) ∧ w' = w := by
  go_enter Try.func73, Try.ntmps73
  go_wp2
  go_ret
  exact ⟨rfl, rfl⟩
theorem te1n (t : ByteArray) (w : World) (h : ¬ (32 : Int) < (t.size : Int)) :
    Calls Try.prog 73 #[.int .i64 1, .string t] w fun e w' => e = .returned (.int .i64 0) ∧ w' = w := by
  go_enter Try.func73, Try.ntmps73
  go_wp2
  go_ret
  exact ⟨rfl, rfl⟩
theorem te2a (t : ByteArray) (w : World) (h : (9 : Int) < (t.size : Int)) :
    Calls Try.prog 73 #[.int .i64 2, .string t] w fun e w' => e = .returned (.int .i64 3) ∧ w' = w := by
  go_enter Try.func73, Try.ntmps73
  go_wp2
  go_ret
  exact ⟨rfl, rfl⟩
theorem te2b (t : ByteArray) (w : World) (h : ¬ (9 : Int) < (t.size : Int)) (h1 : (1 : Int) < (t.size : Int)) (h0 : 0 < t.size) (hc : (wrap32 (t[0].toNat : Int) == 48) = true) :
    Calls Try.prog 73 #[.int .i64 2, .string t] w fun e w' => e = .returned (.int .i64 9) ∧ w' = w := by
  go_enter Try.func73, Try.ntmps73
  go_wp2
  go_ret
  exact ⟨rfl, rfl⟩
theorem te2c (t : ByteArray) (w : World) (h : ¬ (9 : Int) < (t.size : Int)) (h1 : (1 : Int) < (t.size : Int)) (h0 : 0 < t.size) (hc : (wrap32 (t[0].toNat : Int) == 48) = false) :
    Calls Try.prog 73 #[.int .i64 2, .string t] w fun e w' => e = .returned (.int .i64 0) ∧ w' = w := by
  go_enter Try.func73, Try.ntmps73
  go_wp2
  go_ret
  exact ⟨rfl, rfl⟩
theorem te2d (t : ByteArray) (w : World) (h : ¬ (9 : Int) < (t.size : Int)) (h1 : ¬ (1 : Int) < (t.size : Int)) :
    Calls Try.prog 73 #[.int .i64 2, .string t] w fun e w' => e = .returned (.int .i64 0) ∧ w' = w := by
  have h2 : decide ((1 : Int) < (t.size : Int)) = false := decide_eq_false h1
  go_enter Try.func73, Try.ntmps73
  go_wp2
  go_ret
  exact ⟨rfl, rfl⟩
theorem te3y (t : ByteArray) (w : World) (h : (256 : Int) < (t.size : Int)) :
    Calls Try.prog 73 #[.int .i64 3, .string t] w fun e w' => e = .returned (.int .i64 4) ∧ w' = w := by
  go_enter Try.func73, Try.ntmps73
  go_wp2
  go_ret
  exact ⟨rfl, rfl⟩
theorem te3n (t : ByteArray) (w : World) (h : ¬ (256 : Int) < (t.size : Int)) :
    Calls Try.prog 73 #[.int .i64 3, .string t] w fun e w' => e = .returned (.int .i64 0) ∧ w' = w := by
  go_enter Try.func73, Try.ntmps73
  go_wp2
  go_ret
  exact ⟨rfl, rfl⟩
theorem te4y (t : ByteArray) (w : World) (h : t.toList.isEmpty = true) :
    Calls Try.prog 73 #[.int .i64 4, .string t] w fun e w' => e = .returned (.int .i64 9) ∧ w' = w := by
  go_enter Try.func73, Try.ntmps73
  go_wp2
  go_ret
  exact ⟨rfl, rfl⟩
theorem te4n (t : ByteArray) (w : World) (h : t.toList.isEmpty = false) :
    Calls Try.prog 73 #[.int .i64 4, .string t] w fun e w' => e = .returned (.int .i64 0) ∧ w' = w := by
  go_enter Try.func73, Try.ntmps73
  go_wp2
  go_ret
  exact ⟨rfl, rfl⟩
theorem empty_iff (t : ByteArray) : t.toList.isEmpty = decide (t.size = 0) := by
  rw [ByteArray.toList_eq]
  obtain ⟨⟨l⟩⟩ := t
  cases l <;> simp [ByteArray.size]
theorem chI0 {t : ByteArray} (h : 0 < t.size) : (wrap32 (t[0].toNat : Int) == 48) = decide (chI t 0 = 48) := by
  rw [chI_lt h, wrap32_u8]
  rfl
theorem te_c (kind : Nat) (hk : kind ≤ 4) (t : ByteArray) (w : World) :
    Calls Try.prog 73 #[.int .i64 (kind : Int), .string t] w fun e w' => e = .returned (.int .i64 (terr kind t)) ∧ w' = w := by
  have hk' : kind = 0 ∨ kind = 1 ∨ kind = 2 ∨ kind = 3 ∨ kind = 4 := by omega
  rcases hk' with rfl | rfl | rfl | rfl | rfl
  · exact te0 t w
  · by_cases h : 32 < t.size
    · have e : terr 1 t = 10 := by simp [terr, h]
      rw [e]
      exact te1y t w (by omega)
    · have e : terr 1 t = 0 := by simp [terr, h]
      rw [e]
      exact te1n t w (by omega)
  · by_cases h : 9 < t.size
    · have e : terr 2 t = 3 := by simp [terr, h]
      rw [e]
      exact te2a t w (by omega)
    · by_cases h1 : 1 < t.size
      · have h0 : 0 < t.size := by omega
        by_cases hc : chI t 0 = 48
        · have e : terr 2 t = 9 := by simp [terr, h, h1, hc]
          rw [e]
          exact te2b t w (by omega) (by omega) h0 (by rw [chI0 h0]; exact decide_eq_true hc)
        · have e : terr 2 t = 0 := by simp [terr, h, hc]
          rw [e]
          exact te2c t w (by omega) (by omega) h0 (by rw [chI0 h0]; exact decide_eq_false hc)
      · have e : terr 2 t = 0 := by simp [terr, h, h1]
        rw [e]
        exact te2d t w (by omega) (by omega)
  · by_cases h : 256 < t.size
    · have e : terr 3 t = 4 := by simp [terr, h]
      rw [e]
      exact te3y t w (by omega)
    · have e : terr 3 t = 0 := by simp [terr, h]
      rw [e]
      exact te3n t w (by omega)
  · by_cases h : t.size = 0
    · have e : terr 4 t = 9 := by simp [terr, h]
      rw [e]
      exact te4y t w (by rw [empty_iff]; exact decide_eq_true h)
    · have e : terr 4 t = 0 := by simp [terr, h]
      rw [e]
      exact te4n t w (by rw [empty_iff]; exact decide_eq_false h)
/-- the text of a token of a kind, from j to i -/
def ttext (kind : Nat) (s : ByteArray) (j i : Nat) : ByteArray := if kind = 3 then (s.extract j i).extract 1 (i - j - 1) else s.extract j i
theorem three_new {w : World} {sb : Nat} {s : ByteArray} {i : Nat} {li ki : Int} (hs : Scn w sb s i li ki) (a b c : Array Value) :
    Scn (((w.alloc (.cells a 86)).alloc (.cells b 82)).alloc (.cells c 88)) sb s i li ki ∧
    Blk (((w.alloc (.cells a 86)).alloc (.cells b 82)).alloc (.cells c 88)) w.heap.size 86 a ∧
    Blk (((w.alloc (.cells a 86)).alloc (.cells b 82)).alloc (.cells c 88)) (w.heap.size + 1) 82 b ∧
    Blk (((w.alloc (.cells a 86)).alloc (.cells b 82)).alloc (.cells c 88)) (w.heap.size + 1 + 1) 88 c ∧
    Below w.heap.size w (((w.alloc (.cells a 86)).alloc (.cells b 82)).alloc (.cells c 88)) :=
  ⟨Blk.alloc (Blk.alloc (Blk.alloc hs _) _) _, (Blk.here rfl).alloc _ |>.alloc _, (Blk.here (by simp)).alloc _, Blk.here (by simp), (((Below.refl _ _).alloc (Nat.le_refl _) _).alloc (by simp) _).alloc (by simp; omega) _⟩
/-- four stores into one block, then four into another -/
def set44 (W : World) (g g' : Nat) (a0 a1 a2 a3 b0 b1 b2 b3 : Value) : World :=
  (((((((W.setCell ⟨g, 0, none⟩ a0).setCell ⟨g, 1, none⟩ a1).setCell ⟨g, 2, none⟩ a2).setCell ⟨g, 3, none⟩ a3).setCell ⟨g', 0, none⟩ b0).setCell ⟨g', 1, none⟩ b1).setCell ⟨g', 2, none⟩ b2).setCell ⟨g', 3, none⟩ b3
theorem set44_blk {W : World} {g g' : Nat} {t t' : TypeId} {x0 x1 x2 x3 y0 y1 y2 y3 : Value} (h : Blk W g t #[x0, x1, x2, x3]) (h' : Blk W g' t' #[y0, y1, y2, y3]) (hne : g ≠ g') (a0 a1 a2 a3 b0 b1 b2 b3 : Value) :
    Blk (set44 W g g' a0 a1 a2 a3 b0 b1 b2 b3) g t #[a0, a1, a2, a3] ∧ Blk (set44 W g g' a0 a1 a2 a3 b0 b1 b2 b3) g' t' #[b0, b1, b2, b3] := by
  have c := (((h.set 0 a0).set 1 a1).set 2 a2).set 3 a3
  have d := ((((h'.far (p := ⟨g, 0, none⟩) (Ne.symm hne) a0).far (p := ⟨g, 1, none⟩) (Ne.symm hne) a1).far (p := ⟨g, 2, none⟩) (Ne.symm hne) a2).far (p := ⟨g, 3, none⟩) (Ne.symm hne) a3)
  have c2 := (((c.far (p := ⟨g', 0, none⟩) hne b0).far (p := ⟨g', 1, none⟩) hne b1).far (p := ⟨g', 2, none⟩) hne b2).far (p := ⟨g', 3, none⟩) hne b3
  have d2 := (((d.set 0 b0).set 1 b1).set 2 b2).set 3 b3
  unfold set44
  exact ⟨by simpa using c2, by simpa using d2⟩
theorem set44_below {B : Nat} {a W : World} (h : Below B a W) {g g' : Nat} (hg : B ≤ g) (hg' : B ≤ g') (a0 a1 a2 a3 b0 b1 b2 b3 : Value) : Below B a (set44 W g g' a0 a1 a2 a3 b0 b1 b2 b3) :=
  (((((((h.setCell (p := ⟨g, 0, none⟩) hg _).setCell (p := ⟨g, 1, none⟩) hg _).setCell (p := ⟨g, 2, none⟩) hg _).setCell (p := ⟨g, 3, none⟩) hg _).setCell (p := ⟨g', 0, none⟩) hg' _).setCell (p := ⟨g', 1, none⟩) hg' _).setCell (p := ⟨g', 2, none⟩) hg' _).setCell (p := ⟨g', 3, none⟩) hg' _
/-- a token and a fault that lie in memory, handed back -/
theorem two_ret {fn : Func} {tmps : Array Value} {t t' : Tmp} {w : World} {g g' : Nat} {a0 a1 a2 a3 b0 b1 b2 b3 : Value} (h : fn.results = #[.cell t 82, .cell t' 88])
    (ht : tmps.getD t undef = .pointer (some ⟨g, 0, none⟩)) (ht' : tmps.getD t' undef = .pointer (some ⟨g', 0, none⟩)) (q : Blk w g 82 #[a0, a1, a2, a3]) (q' : Blk w g' 88 #[b0, b1, b2, b3]) :
    (results fn tmps).run Try.prog w = .ok (.tuple #[.agg #[a0, a1, a2, a3], .agg #[b0, b1, b2, b3]]) w := by
  have c0 := q.cell 0
  have c1 := q.cell 1
  have c2 := q.cell 2
  have c3 := q.cell 3
  have d0 := q'.cell 0
  have d1 := q'.cell 1
  have d2 := q'.cell 2
  have d3 := q'.cell 3
  simp at c0 c1 c2 c3 d0 d1 d2 d3
  have e : tmps[t]?.getD undef = .pointer (some ⟨g, 0, none⟩) := by simpa using ht
  have e' : tmps[t']?.getD undef = .pointer (some ⟨g', 0, none⟩) := by simpa using ht'
  simp [results, h, e, e', go_sem, c0, c1, c2, c3, d0, d1, d2, d3]
set_option maxRecDepth 100000 in
set_option maxHeartbeats 2000000 in
theorem tokA (kind : Nat) (s : ByteArray) (i j sb : Nat) (li ki l k : Int) (w : World) (hk : kind ≤ 4) (h3 : ((kind : Int) == 3) = false) (hs : Scn w sb s i li ki) (hj : j ≤ i) (hi : i ≤ s.size) (_hm : s.size ≤ 9223372036854775807) (hc : Hid (terr kind (s.extract j i) = 0)) :
    Calls Try.prog 55 #[.pointer (some ⟨sb, 0, none⟩), .int .i64 (kind : Int), .agg #[.string s, .int .i64 j, .int .i64 l, .int .i64 k]] w fun e w' => e = .returned (.tuple #[.agg #[.int .i64 (kind : Int), .string (s.extract j i), .int .i64 l, .int .i64 k], .agg #[.int .i64 0, .int .i64 0, .int .i64 0, .string ⟨#[]⟩]]) ∧ Below w.heap.size w w' := by
  have i0 : (j : Int) ≤ (i : Int) := by omega
  have i1 : (i : Int) ≤ (s.size : Int) := by omega
  go_enter Try.func55, Try.ntmps55
  go_wp2
  obtain ⟨hS, B0, B1, B2, hB⟩ := three_new hs #[.string s, .int .i64 j, .int .i64 l, .int .i64 k] #[.int .i64 0, .string { data := #[] }, .int .i64 0, .int .i64 0] #[.int .i64 0, .int .i64 0, .int .i64 0, .string { data := #[] }]
  generalize ((w.alloc (.cells #[.string s, .int .i64 j, .int .i64 l, .int .i64 k] 86)).alloc (.cells #[.int .i64 0, .string { data := #[] }, .int .i64 0, .int .i64 0] 82)).alloc (.cells #[.int .i64 0, .int .i64 0, .int .i64 0, .string { data := #[] }] 88) = W at *
  obtain ⟨c0, c1, c2, c3, _⟩ := hS.facts
  have b1 := B0.cell 1
  have b2 := B0.cell 2
  have b3 := B0.cell 3
  have t0 := B1.cell 0
  have u0 := B2.cell 0
  have t1 := B1.cell 1
  have u1 := B2.cell 1
  have t2 := B1.cell 2
  have u2 := B2.cell 2
  have t3 := B1.cell 3
  have u3 := B2.cell 3
  simp at b1 b2 b3 t0 t1 t2 t3 u0 u1 u2 u3
  have tf0 := B1.frozen 0
  have uf0 := B2.frozen 0
  have tf1 := B1.frozen 1
  have uf1 := B2.frozen 1
  have tf2 := B1.frozen 2
  have uf2 := B2.frozen 2
  have tf3 := B1.frozen 3
  have uf3 := B2.frozen 3
  go_quiet (fail)
  go_wp2_with (go_at_call 73; refine (te_c kind hk _ _).mono ?_; rintro e w' ⟨rfl, rfl⟩; rw [hc.out])
  go_wp2
  have q := set44_blk (W := W.drewN nq) (g := w.heap.size + 1) (g' := w.heap.size + 1 + 1) B1 B2 (by omega) (.int .i64 (kind : Int)) (.string (s.extract j i)) (.int .i64 l) (.int .i64 k) (.int .i64 0) (.int .i64 0) (.int .i64 0) (.string ⟨#[]⟩)
  have hW : Below w.heap.size w (W.drewN nq) := below_drewN hB _
  have hQ := set44_below hW (g := w.heap.size + 1) (g' := w.heap.size + 1 + 1) (by omega) (by omega) (.int .i64 (kind : Int)) (.string (s.extract j i)) (.int .i64 l) (.int .i64 k) (.int .i64 0) (.int .i64 0) (.int .i64 0) (.string ⟨#[]⟩)
  unfold set44 at q hQ
  exact bodyPost_ret (v := .tuple #[.agg #[.int .i64 (kind : Int), .string (s.extract j i), .int .i64 l, .int .i64 k], .agg #[.int .i64 0, .int .i64 0, .int .i64 0, .string ⟨#[]⟩]]) (two_ret Try.results55 rfl rfl q.1 q.2) rfl ⟨rfl, hQ⟩
set_option maxRecDepth 100000 in
set_option maxHeartbeats 2000000 in
theorem tokB (kind : Nat) (code : Int) (s : ByteArray) (i j sb : Nat) (li ki l k : Int) (w : World) (hk : kind ≤ 4) (h3 : ((kind : Int) == 3) = false) (hs : Scn w sb s i li ki) (hj : j ≤ i) (hi : i ≤ s.size) (_hm : s.size ≤ 9223372036854775807) (hc : Hid (terr kind (s.extract j i) = code)) (hn : (code != 0) = true) :
    Calls Try.prog 55 #[.pointer (some ⟨sb, 0, none⟩), .int .i64 (kind : Int), .agg #[.string s, .int .i64 j, .int .i64 l, .int .i64 k]] w fun e w' => e = .returned (.tuple #[.agg #[.int .i64 0, .string ⟨#[]⟩, .int .i64 0, .int .i64 0], .agg #[.int .i64 code, .int .i64 l, .int .i64 k, .string ⟨#[]⟩]]) ∧ Below w.heap.size w w' := by
  have i0 : (j : Int) ≤ (i : Int) := by omega
  have i1 : (i : Int) ≤ (s.size : Int) := by omega
  go_enter Try.func55, Try.ntmps55
  go_wp2
  obtain ⟨hS, B0, B1, B2, hB⟩ := three_new hs #[.string s, .int .i64 j, .int .i64 l, .int .i64 k] #[.int .i64 0, .string { data := #[] }, .int .i64 0, .int .i64 0] #[.int .i64 0, .int .i64 0, .int .i64 0, .string { data := #[] }]
  generalize ((w.alloc (.cells #[.string s, .int .i64 j, .int .i64 l, .int .i64 k] 86)).alloc (.cells #[.int .i64 0, .string { data := #[] }, .int .i64 0, .int .i64 0] 82)).alloc (.cells #[.int .i64 0, .int .i64 0, .int .i64 0, .string { data := #[] }] 88) = W at *
  obtain ⟨c0, c1, c2, c3, _⟩ := hS.facts
  have b1 := B0.cell 1
  have b2 := B0.cell 2
  have b3 := B0.cell 3
  have t0 := B1.cell 0
  have u0 := B2.cell 0
  have t1 := B1.cell 1
  have u1 := B2.cell 1
  have t2 := B1.cell 2
  have u2 := B2.cell 2
  have t3 := B1.cell 3
  have u3 := B2.cell 3
  simp at b1 b2 b3 t0 t1 t2 t3 u0 u1 u2 u3
  have tf0 := B1.frozen 0
  have uf0 := B2.frozen 0
  have tf1 := B1.frozen 1
  have uf1 := B2.frozen 1
  have tf2 := B1.frozen 2
  have uf2 := B2.frozen 2
  have tf3 := B1.frozen 3
  have uf3 := B2.frozen 3
  go_quiet (fail)
  go_wp2_with (go_at_call 73; refine (te_c kind hk _ _).mono ?_; rintro e w' ⟨rfl, rfl⟩; rw [hc.out])
  go_region
  all_goals
    go_wp2
    have q := set44_blk (W := W.drewN (nq + 1)) (g := w.heap.size + 1) (g' := w.heap.size + 1 + 1) B1 B2 (by omega) (.int .i64 0) (.string ⟨#[]⟩) (.int .i64 0) (.int .i64 0) (.int .i64 code) (.int .i64 l) (.int .i64 k) (.string ⟨#[]⟩)
    have hW : Below w.heap.size w (W.drewN (nq + 1)) := below_drewN hB _
    have hQ := set44_below hW (g := w.heap.size + 1) (g' := w.heap.size + 1 + 1) (by omega) (by omega) (.int .i64 0) (.string ⟨#[]⟩) (.int .i64 0) (.int .i64 0) (.int .i64 code) (.int .i64 l) (.int .i64 k) (.string ⟨#[]⟩)
    unfold set44 at q hQ
    exact bodyPost_ret (v := .tuple #[.agg #[.int .i64 0, .string ⟨#[]⟩, .int .i64 0, .int .i64 0], .agg #[.int .i64 code, .int .i64 l, .int .i64 k, .string ⟨#[]⟩]]) (two_ret Try.results55 rfl rfl q.1 q.2) rfl ⟨rfl, hQ⟩
set_option maxRecDepth 100000 in
set_option maxHeartbeats 2000000 in
theorem tokC (s : ByteArray) (i j sb : Nat) (li ki l k : Int) (w : World)  (hs : Scn w sb s i li ki) (hj : j + 2 ≤ i) (hi : i ≤ s.size) (_hm : s.size ≤ 9223372036854775807) (hc : Hid (terr 3 ((s.extract j i).extract 1 (i - j - 1)) = 0)) :
    Calls Try.prog 55 #[.pointer (some ⟨sb, 0, none⟩), .int .i64 3, .agg #[.string s, .int .i64 j, .int .i64 l, .int .i64 k]] w fun e w' => e = .returned (.tuple #[.agg #[.int .i64 3, .string ((s.extract j i).extract 1 (i - j - 1)), .int .i64 l, .int .i64 k], .agg #[.int .i64 0, .int .i64 0, .int .i64 0, .string ⟨#[]⟩]]) ∧ Below w.heap.size w w' := by
  have i0 : (j : Int) ≤ (i : Int) := by omega
  have i1 : (i : Int) ≤ (s.size : Int) := by omega
  have h4 : (1 : Int) ≤ (i : Int) - (j : Int) - 1 := by omega
  go_enter Try.func55, Try.ntmps55
  go_wp2
  obtain ⟨hS, B0, B1, B2, hB⟩ := three_new hs #[.string s, .int .i64 j, .int .i64 l, .int .i64 k] #[.int .i64 0, .string { data := #[] }, .int .i64 0, .int .i64 0] #[.int .i64 0, .int .i64 0, .int .i64 0, .string { data := #[] }]
  generalize ((w.alloc (.cells #[.string s, .int .i64 j, .int .i64 l, .int .i64 k] 86)).alloc (.cells #[.int .i64 0, .string { data := #[] }, .int .i64 0, .int .i64 0] 82)).alloc (.cells #[.int .i64 0, .int .i64 0, .int .i64 0, .string { data := #[] }] 88) = W at *
  obtain ⟨c0, c1, c2, c3, _⟩ := hS.facts
  have b1 := B0.cell 1
  have b2 := B0.cell 2
  have b3 := B0.cell 3
  have t0 := B1.cell 0
  have u0 := B2.cell 0
  have t1 := B1.cell 1
  have u1 := B2.cell 1
  have t2 := B1.cell 2
  have u2 := B2.cell 2
  have t3 := B1.cell 3
  have u3 := B2.cell 3
  simp at b1 b2 b3 t0 t1 t2 t3 u0 u1 u2 u3
  have tf0 := B1.frozen 0
  have uf0 := B2.frozen 0
  have tf1 := B1.frozen 1
  have uf1 := B2.frozen 1
  have tf2 := B1.frozen 2
  have uf2 := B2.frozen 2
  have tf3 := B1.frozen 3
  have uf3 := B2.frozen 3
  go_quiet (fail)
  go_wp2_with (go_at_call 73; refine (te_c 3 (by omega) _ _).mono ?_; rintro e w' ⟨rfl, rfl⟩; rw [hc.out])
  go_wp2
  have q := set44_blk (W := W.drewN nq) (g := w.heap.size + 1) (g' := w.heap.size + 1 + 1) B1 B2 (by omega) (.int .i64 3) (.string ((s.extract j i).extract 1 (i - j - 1))) (.int .i64 l) (.int .i64 k) (.int .i64 0) (.int .i64 0) (.int .i64 0) (.string ⟨#[]⟩)
  have hW : Below w.heap.size w (W.drewN nq) := below_drewN hB _
  have hQ := set44_below hW (g := w.heap.size + 1) (g' := w.heap.size + 1 + 1) (by omega) (by omega) (.int .i64 3) (.string ((s.extract j i).extract 1 (i - j - 1))) (.int .i64 l) (.int .i64 k) (.int .i64 0) (.int .i64 0) (.int .i64 0) (.string ⟨#[]⟩)
  unfold set44 at q hQ
  exact bodyPost_ret (v := .tuple #[.agg #[.int .i64 3, .string ((s.extract j i).extract 1 (i - j - 1)), .int .i64 l, .int .i64 k], .agg #[.int .i64 0, .int .i64 0, .int .i64 0, .string ⟨#[]⟩]]) (two_ret Try.results55 rfl rfl q.1 q.2) rfl ⟨rfl, hQ⟩
set_option maxRecDepth 100000 in
set_option maxHeartbeats 2000000 in
theorem tokD (code : Int) (s : ByteArray) (i j sb : Nat) (li ki l k : Int) (w : World)  (hs : Scn w sb s i li ki) (hj : j + 2 ≤ i) (hi : i ≤ s.size) (_hm : s.size ≤ 9223372036854775807) (hc : Hid (terr 3 ((s.extract j i).extract 1 (i - j - 1)) = code)) (hn : (code != 0) = true) :
    Calls Try.prog 55 #[.pointer (some ⟨sb, 0, none⟩), .int .i64 3, .agg #[.string s, .int .i64 j, .int .i64 l, .int .i64 k]] w fun e w' => e = .returned (.tuple #[.agg #[.int .i64 0, .string ⟨#[]⟩, .int .i64 0, .int .i64 0], .agg #[.int .i64 code, .int .i64 l, .int .i64 k, .string ⟨#[]⟩]]) ∧ Below w.heap.size w w' := by
  have i0 : (j : Int) ≤ (i : Int) := by omega
  have i1 : (i : Int) ≤ (s.size : Int) := by omega
  have h4 : (1 : Int) ≤ (i : Int) - (j : Int) - 1 := by omega
  go_enter Try.func55, Try.ntmps55
  go_wp2
  obtain ⟨hS, B0, B1, B2, hB⟩ := three_new hs #[.string s, .int .i64 j, .int .i64 l, .int .i64 k] #[.int .i64 0, .string { data := #[] }, .int .i64 0, .int .i64 0] #[.int .i64 0, .int .i64 0, .int .i64 0, .string { data := #[] }]
  generalize ((w.alloc (.cells #[.string s, .int .i64 j, .int .i64 l, .int .i64 k] 86)).alloc (.cells #[.int .i64 0, .string { data := #[] }, .int .i64 0, .int .i64 0] 82)).alloc (.cells #[.int .i64 0, .int .i64 0, .int .i64 0, .string { data := #[] }] 88) = W at *
  obtain ⟨c0, c1, c2, c3, _⟩ := hS.facts
  have b1 := B0.cell 1
  have b2 := B0.cell 2
  have b3 := B0.cell 3
  have t0 := B1.cell 0
  have u0 := B2.cell 0
  have t1 := B1.cell 1
  have u1 := B2.cell 1
  have t2 := B1.cell 2
  have u2 := B2.cell 2
  have t3 := B1.cell 3
  have u3 := B2.cell 3
  simp at b1 b2 b3 t0 t1 t2 t3 u0 u1 u2 u3
  have tf0 := B1.frozen 0
  have uf0 := B2.frozen 0
  have tf1 := B1.frozen 1
  have uf1 := B2.frozen 1
  have tf2 := B1.frozen 2
  have uf2 := B2.frozen 2
  have tf3 := B1.frozen 3
  have uf3 := B2.frozen 3
  go_quiet (fail)
  go_wp2_with (go_at_call 73; refine (te_c 3 (by omega) _ _).mono ?_; rintro e w' ⟨rfl, rfl⟩; rw [hc.out])
  go_region
  all_goals
    go_wp2
    have q := set44_blk (W := W.drewN (nq + 1)) (g := w.heap.size + 1) (g' := w.heap.size + 1 + 1) B1 B2 (by omega) (.int .i64 0) (.string ⟨#[]⟩) (.int .i64 0) (.int .i64 0) (.int .i64 code) (.int .i64 l) (.int .i64 k) (.string ⟨#[]⟩)
    have hW : Below w.heap.size w (W.drewN (nq + 1)) := below_drewN hB _
    have hQ := set44_below hW (g := w.heap.size + 1) (g' := w.heap.size + 1 + 1) (by omega) (by omega) (.int .i64 0) (.string ⟨#[]⟩) (.int .i64 0) (.int .i64 0) (.int .i64 code) (.int .i64 l) (.int .i64 k) (.string ⟨#[]⟩)
    unfold set44 at q hQ
    exact bodyPost_ret (v := .tuple #[.agg #[.int .i64 0, .string ⟨#[]⟩, .int .i64 0, .int .i64 0], .agg #[.int .i64 code, .int .i64 l, .int .i64 k, .string ⟨#[]⟩]]) (two_ret Try.results55 rfl rfl q.1 q.2) rfl ⟨rfl, hQ⟩
end Go.Proofs.Ytffgjamnijhlpaa
