/- The reference's Allow. -/
import Derived.Test.YtcainohglmgdpaaRvg
namespace Go.Proofs.Ytcainohglmgdpaa
open Go.RowKit Go.Maps Go.WideElems Go.WideMaps Go.WideShapes Go.Sort Go.Shelf
theorem rallow_allow {S : RS} {e : Int} (h : S.Ok e) (s : ByteArray) (now : Int) : rallow (atR S (timeR S now)) s = allowR S s now := by
  have ht := timeR_ok h now
  rw [rallow_eq (atR_ok h ht.1 ht.2) s]
  rfl
/-- what Allow returns of the reference's state -/
structure AOut (w w' : World) (B : Nat) (S : RS) (t : Int) (T : RS × Bool) (r : Ending) : Prop where
  b : T.1.b = S.b
  i : T.1.i = S.i
  n : T.1.n = S.n
  tt : T.1.t = t
  o : ∃ v', r = .returned (.tuple #[.agg #[.int .i64 S.b, .int .i64 S.i, .int .i64 S.n, .int .i64 t, v', .int .i64 T.1.al, .int .i64 T.1.dr], .bool T.2]) ∧ Own RBk w' B v' T.1.L ∧ Below w.heap.size w w'
def aPhi (p g8 kl c8 i N : Nat) (x y : Bk) (S : RS) (t : Int) (k : Nat) (v : Value) (wq : World) : Prop := match k with
  | 0 => v = .agg #[.int .i64 S.b, .int .i64 S.i, .int .i64 S.n, .int .i64 t, .slice (some ⟨g8, 0, none⟩) kl c8, .int .i64 S.al, .int .i64 S.dr]
  | 1 => v = .pointer (some ⟨p, 4, none⟩)
  | 2 => v = .slice (some ⟨g8, 0, none⟩) kl c8
  | 3 => v = .int .i64 i
  | 4 => v = .pointer (some ⟨g8, i * 4, none⟩)
  | 5 => v = .agg #[.string x.k, .int .i64 x.l, .int .i64 x.c, .int .i64 x.d]
  | 6 => v = .int .i64 t
  | 7 => v = .agg #[.string x.k, .int .i64 y.l, .int .i64 y.c, .int .i64 x.d]
  | 8 => ∃ b, v = .pointer (some ⟨b, 0, none⟩) ∧ N ≤ b ∧ Blk wq b 71 #[.string ⟨#[]⟩, .int .i64 0, .int .i64 0, .int .i64 0]
  | _ => True
theorem aPhi_keep {p g8 kl c8 i N k : Nat} {x y : Bk} {S : RS} {t : Int} {v : Value} {u u2 : World} (h : aPhi p g8 kl c8 i N x y S t k v u) (hb : Below u.heap.size u u2) : aPhi p g8 kl c8 i N x y S t k v u2 := by
  match k, h with
  | 0, h => exact h
  | 1, h => exact h
  | 2, h => exact h
  | 3, h => exact h
  | 4, h => exact h
  | 5, h => exact h
  | 6, h => exact h
  | 7, h => exact h
  | 8, ⟨b, h1, h2, h3⟩ => exact ⟨b, h1, h2, h3.keep hb⟩
  | _ + 9, _ => exact trivial
theorem own_far {w w' : World} {B g n c : Nat} {L : List Bk} {F : Nat → Prop} (h : Own RBk w B (.slice (some ⟨g, 0, none⟩) n c) L) (ha : Apart F w w') (hg : ¬ F g) : Own RBk w' B (.slice (some ⟨g, 0, none⟩) n c) L := by
  refine ⟨h.1, ?_⟩
  rcases h.2 with ⟨hn, _⟩ | ⟨g', cap, cur, hv, hbg, hq, rest⟩
  · cases hn
  · obtain rfl : g = g' := by
      simp only [Value.slice.injEq, Option.some.injEq, Addr.mk.injEq] at hv
      exact hv.1.1
    exact .inr ⟨g, cap, cur, hv, hbg, ha.blk (show Blk w g _ _ from hq) hg, rest⟩
theorem own_at4 {w : World} {B g n c : Nat} {L : List Bk} {i : Nat} {x : Bk} (h : Own RBk w B (.slice (some ⟨g, 0, none⟩) n c) L) (hi : L[i]? = some x) :
    (w.cell? ⟨g, i * 4, none⟩ = some (.string x.k) ∧ w.cell? ⟨g, i * 4 + 1, none⟩ = some (.int .i64 x.l) ∧ w.cell? ⟨g, i * 4 + 2, none⟩ = some (.int .i64 x.c) ∧ w.cell? ⟨g, i * 4 + 3, none⟩ = some (.int .i64 x.d)) ∧
    w.frozen? ⟨g, i * 4, none⟩ = false ∧ w.frozen? ⟨g, i * 4 + 1, none⟩ = false ∧ w.frozen? ⟨g, i * 4 + 2, none⟩ = false ∧ w.frozen? ⟨g, i * 4 + 3, none⟩ = false ∧ B ≤ g := by
  rcases h.form with ⟨e1, _⟩ | ⟨g', cap, cur, e1, hB, hg, hl, hm, hs, hc⟩
  · cases e1
  · simp only [Value.slice.injEq, Option.some.injEq, Addr.mk.injEq] at e1
    obtain ⟨⟨rfl, _⟩, rfl, rfl⟩ := e1
    have hg : Blk w g 71 cur := hg
    have h4 := fun k (hk : k < 4) => (hg.cell (i * 4 + k)).trans (hc i x hi k hk)
    exact ⟨⟨h4 0 (by decide), h4 1 (by decide), h4 2 (by decide), h4 3 (by decide)⟩, hg.frozen _, hg.frozen _, hg.frozen _, hg.frozen _, hB⟩
section
variable {w w' : World} {g m B : Nat} {S : RS} {a : Option Addr} {n c : Nat} {e : Int}
set_option maxRecDepth 100000 in
set_option maxHeartbeats 16000000 in
theorem rallow_c {s : ByteArray} (now : Int) (h : Own RBk w B (.slice a n c) S.L) (hBw : B ≤ w.heap.size) (hS : S.Ok e) (he : e ≤ 1000000) (hs : s.size ≤ maxLen) :
    Calls Try.prog 22 #[.agg #[.int .i64 S.b, .int .i64 S.i, .int .i64 S.n, .int .i64 S.t, .slice a n c, .int .i64 S.al, .int .i64 S.dr], .string s, .int .i64 now] w fun r w' => AOut w w' B S (timeR S now) (allowR S s now) r := by
  have ht := timeR_ok hS now
  have hA := atR_ok hS ht.1 ht.2
  rw [← rallow_allow hS s now]
  have HCL := Lib.hid fun w1 => clock_c (S := S) (.slice a n c) now w1
  have HSA : Hid (0 ≤ S.al ∧ S.al ≤ 1000000 ∧ 0 ≤ S.dr ∧ S.dr ≤ 1000000) := Lib.hid ⟨hS.a0, Int.le_trans hS.a1 he, hS.r0, Int.le_trans hS.r1 he⟩
  generalize timeR S now = t at *
  have hk := known_ok hA s
  have HKN : Hid (∀ w1, Own RBk w1 B (.slice a n c) S.L → B ≤ w1.heap.size → Calls Try.prog 36 #[.agg #[.int .i64 S.b, .int .i64 S.i, .int .i64 S.n, .int .i64 t, .slice a n c, .int .i64 S.al, .int .i64 S.dr], .string s, .int .i64 t] w1 fun r w' => ∃ v', r = .returned (.agg #[.int .i64 S.b, .int .i64 S.i, .int .i64 S.n, .int .i64 t, v', .int .i64 S.al, .int .i64 S.dr]) ∧ Own RBk w' B v' (knownL (atR S t) s t) ∧ Below w1.heap.size w1 w') :=
    Lib.hid fun w1 h1 h2 => known_c (S := atR S t) h1 h2 hA hs
  have HRA : Hid (rallow (atR S t) s = match findB (knownL (atR S t) s t) s with
    | none => ({ atR S t with L := knownL (atR S t) s t, dr := S.dr + 1 }, false)
    | some x => if (fillB S.b S.i x t).l = 0 then ({ atR S t with L := putB { fillB S.b S.i x t with d := (fillB S.b S.i x t).d + 1 } (knownL (atR S t) s t), dr := S.dr + 1 }, false)
      else ({ atR S t with L := putB { fillB S.b S.i x t with l := (fillB S.b S.i x t).l - 1, d := 0 } (knownL (atR S t) s t), al := S.al + 1 }, true)) := Lib.hid rfl
  have HKO : Hid (({ atR S t with L := knownL (atR S t) s t } : RS).Ok e) := Lib.hid hk
  have HFC : Hid (∀ x, x ∈ knownL (atR S t) s t → ∀ (v : Value) w1, Calls Try.prog 38 #[.agg #[.int .i64 S.b, .int .i64 S.i, .int .i64 S.n, .int .i64 t, v, .int .i64 S.al, .int .i64 S.dr], .agg #[.string x.k, .int .i64 x.l, .int .i64 x.c, .int .i64 x.d], .int .i64 t] w1 fun r w' => r = .returned (.agg #[.string x.k, .int .i64 (fillB S.b S.i x t).l, .int .i64 (fillB S.b S.i x t).c, .int .i64 x.d]) ∧ Below w1.heap.size w1 w') := Lib.hid fun x hx v w1 => rfilled_c (S := atR S t) (x := x) (t := t) v hA (hk.bk x hx) (Int.le_refl _) ht.2 w1
  generalize hK : knownL (atR S t) s t = K at *
  have HKL : Hid (K.length ≤ 1024 ∧ strict K) := Lib.hid ⟨by have h1 := HKO.out.len; have h2 := HKO.out.n1; have h1 : (K.length : Int) ≤ S.n := h1; have h2 : S.n ≤ 1024 := h2; omega, HKO.out.st⟩
  have HKB : Hid (∀ x ∈ K, x.Ok S.b t e) := Lib.hid HKO.out.bk
  have HSB : Hid (S.b ≤ 1000000 ∧ 1 ≤ S.b ∧ 1 ≤ S.i) := Lib.hid ⟨hS.b1, hS.b0, hS.i0⟩
  generalize rallow (atR S t) s = T at *
  have HO := Lib.hid h
  have HBW := Lib.hid hBw
  have HE := Lib.hid he
  clear h hBw hS he hs ht hA hk hK
  have HB : Hid (Below w.heap.size w ((w.alloc (.cells #[.int .i64 S.b, .int .i64 S.i, .int .i64 S.n, .int .i64 S.t, .slice a n c, .int .i64 S.al, .int .i64 S.dr] 29)).alloc (.cells #[.int .i64 0, .int .i64 0, .int .i64 0, .int .i64 0, .slice none 0 0, .int .i64 0, .int .i64 0] 29))) := Lib.hid (((Below.refl _ _).alloc (Nat.le_refl _) _).alloc (by simp) _)
  have HX : Hid (Blk ((w.alloc (.cells #[.int .i64 S.b, .int .i64 S.i, .int .i64 S.n, .int .i64 S.t, .slice a n c, .int .i64 S.al, .int .i64 S.dr] 29)).alloc (.cells #[.int .i64 0, .int .i64 0, .int .i64 0, .int .i64 0, .slice none 0 0, .int .i64 0, .int .i64 0] 29)) w.heap.size 29 #[.int .i64 S.b, .int .i64 S.i, .int .i64 S.n, .int .i64 S.t, .slice a n c, .int .i64 S.al, .int .i64 S.dr]) := Lib.hid ((Blk.new w _ _).alloc _)
  have HZ : Hid (Blk ((w.alloc (.cells #[.int .i64 S.b, .int .i64 S.i, .int .i64 S.n, .int .i64 S.t, .slice a n c, .int .i64 S.al, .int .i64 S.dr] 29)).alloc (.cells #[.int .i64 0, .int .i64 0, .int .i64 0, .int .i64 0, .slice none 0 0, .int .i64 0, .int .i64 0] 29)) (w.heap.size + 1) 29 #[.int .i64 0, .int .i64 0, .int .i64 0, .int .i64 0, .slice none 0 0, .int .i64 0, .int .i64 0]) := Lib.hid (by
    have := Blk.new (w.alloc (.cells #[.int .i64 S.b, .int .i64 S.i, .int .i64 S.n, .int .i64 S.t, .slice a n c, .int .i64 S.al, .int .i64 S.dr] 29)) 29 #[.int .i64 0, .int .i64 0, .int .i64 0, .int .i64 0, .slice none 0 0, .int .i64 0, .int .i64 0]
    simpa using this)
  go_enter Try.func22, Try.ntmps22
  go_upto_region 1 with fail
  generalize ((w.alloc (.cells #[.int .i64 S.b, .int .i64 S.i, .int .i64 S.n, .int .i64 S.t, .slice a n c, .int .i64 S.al, .int .i64 S.dr] 29)).alloc (.cells #[.int .i64 0, .int .i64 0, .int .i64 0, .int .i64 0, .slice none 0 0, .int .i64 0, .int .i64 0] 29)) = W at *
  obtain ⟨p, hp⟩ : ∃ p, w.heap.size = p := ⟨_, rfl⟩
  have HP := Lib.hid hp
  have HOW := Lib.hid (HO.out.below HB.out)
  rw [hp] at HX HZ HB HBW ⊢
  clear hp
  obtain ⟨x0, x1, x2, x3, x4, x5, x6⟩ := HX.out.cells7
  go_upto_region 2 with (go_at_call 35; with_reducible refine (HCL.out W).mono ?_; rintro r W1 ⟨rfl, hb⟩; have HX1 := Lib.hid (HX.out.keep hb); have HZ1 := Lib.hid (HZ.out.keep hb); have HO1 := Lib.hid (HOW.out.below hb); have HB1 := Lib.hid (HB.out.trans (hb.mono (by have := HX.out.lt; omega))); clear hb)
  clear x0 x1 x2 x3 x4 x5 x6 HX HZ HOW HO HB HCL
  have f3 := HX1.out.frozen 3
  obtain ⟨x0, x1, x2, x3, x4, x5, x6⟩ := HX1.out.cells7
  have HX2 : Hid (Blk (W1.setCell ⟨p, 3, none⟩ (.int .i64 t)) p 29 #[.int .i64 S.b, .int .i64 S.i, .int .i64 S.n, .int .i64 t, .slice a n c, .int .i64 S.al, .int .i64 S.dr]) := Lib.hid (by simpa using HX1.out.set 3 (.int .i64 t))
  have HA2 : Hid (Apart (fun k => k = p) W1 (W1.setCell ⟨p, 3, none⟩ (.int .i64 t))) := Lib.hid (Apart.setCell (F := fun k => k = p) (p := ⟨p, 3, none⟩) Apart.refl (.inl rfl) _)
  have HZ2 := Lib.hid (HA2.out.blk HZ1.out (by omega))
  have HO2 := Lib.hid (own_apart HO1.out HA2.out (fun k cs hk e => (hk.ne HX1.out (by decide)) e))
  have HB2 : Hid (Below p w (W1.setCell ⟨p, 3, none⟩ (.int .i64 t))) := Lib.hid (HB1.out.setCell (p := ⟨p, 3, none⟩) (Nat.le_refl _) _)
  go_upto_region 3 with fail
  clear f3 x0 x1 x2 x3 x4 x5 x6 HX1 HZ1 HO1 HB1 HA2
  generalize W1.setCell ⟨p, 3, none⟩ (.int .i64 t) = W2 at *
  obtain ⟨x0, x1, x2, x3, x4, x5, x6⟩ := HX2.out.cells7
  have HK2 := Lib.hid (HKN.out W2 HO2.out (by have := HX2.out.lt; have := HBW.out; omega))
  go_upto_region 4 with (go_at_call 36; with_reducible refine HK2.out.mono ?_; rintro r W3 ⟨v3, rfl, ho, hb⟩; obtain ⟨a3, c3, rfl⟩ := ho.isSl; have HX3 := Lib.hid (HX2.out.keep hb); obtain ⟨y0, y1, y2, y3, y4, y5, y6⟩ := HX3.out.cells7; obtain ⟨k0, k1, k2, k3, k4, k5, k6⟩ := HX3.out.frozen7; have HZ3 := Lib.hid (HZ2.out.keep hb); have HO3 := Lib.hid ho; have HB3 := Lib.hid (HB2.out.trans (hb.mono (by have := HX2.out.lt; omega))); clear hb ho)
  clear x0 x1 x2 x3 x4 x5 x6 y0 y1 y2 y3 y4 y5 y6 k0 k1 k2 k3 k4 k5 k6 HX2 HZ2 HO2 HB2 HK2 HKN
  have HX4 := Lib.hid (HX3.out.set7 (.int .i64 S.b) (.int .i64 S.i) (.int .i64 S.n) (.int .i64 t) (.slice a3 K.length c3) (.int .i64 S.al) (.int .i64 S.dr))
  have HA4 := Lib.hid (apart_set7 (F := fun k => k = p) (g := p) (Apart.refl (w := W3)) (.inl rfl) (.int .i64 S.b) (.int .i64 S.i) (.int .i64 S.n) (.int .i64 t) (.slice a3 K.length c3) (.int .i64 S.al) (.int .i64 S.dr))
  have HO4 := Lib.hid (own_apart HO3.out HA4.out (fun k cs hk e => (hk.ne HX3.out (by decide)) e))
  have HZ4 := Lib.hid (HA4.out.blk HZ3.out (by omega))
  have HB4 := Lib.hid (HB3.out.trans (HA4.out.below (B := p) (by have := HX3.out.lt; omega) (fun k hk => by subst hk; exact Nat.le_refl _)))
  clear HX3 HZ3 HO3 HB3 HA4
  generalize ((((((W3.setCell ⟨p, 0, none⟩ (.int .i64 S.b)).setCell ⟨p, 1, none⟩ (.int .i64 S.i)).setCell ⟨p, 2, none⟩ (.int .i64 S.n)).setCell ⟨p, 3, none⟩ (.int .i64 t)).setCell ⟨p, 4, none⟩ (.slice a3 K.length c3)).setCell ⟨p, 5, none⟩ (.int .i64 S.al)).setCell ⟨p, 6, none⟩ (.int .i64 S.dr) = W4 at *
  obtain ⟨x0, x1, x2, x3, x4, x5, x6⟩ := HX4.out.cells7
  have HF4 : Hid (Calls Try.prog 37 #[.agg #[.int .i64 S.b, .int .i64 S.i, .int .i64 S.n, .int .i64 t, .slice a3 K.length c3, .int .i64 S.al, .int .i64 S.dr], .string s] W4 fun r w' => r = .returned (.int .i64 (idxB K s)) ∧ Below W4.heap.size W4 w') := Lib.hid (find_c (S := atR S t) s HO4.out.rows (by have := HKL.out.1; omega))
  cases hf : findB K s with
  | none =>
    rw [idxB_none hf] at HF4
    have HT : Hid (T = ({ atR S t with L := K, dr := S.dr + 1 }, false)) := Lib.hid (by rw [HRA.out, hf])
    clear hf HRA HFC
    go_upto_region 6 with (go_at_call 37; with_reducible refine HF4.out.mono ?_; rintro r W5 ⟨rfl, hb⟩; have HX5 := Lib.hid (HX4.out.keep hb); have HZ5 := Lib.hid (HZ4.out.keep hb); have HO5 := Lib.hid (HO4.out.below hb); have HB5 := Lib.hid (HB4.out.trans (hb.mono (by have := HX4.out.lt; omega))); clear hb)
    clear x0 x1 x2 x3 x4 x5 x6 HX4 HZ4 HO4 HB4 HF4
    obtain ⟨x0, x1, x2, x3, x4, x5, x6⟩ := HX5.out.cells7
    have f6 := HX5.out.frozen 6
    have hw : IntKind.i64.wrap (S.dr + 1) = S.dr + 1 := IntWalk.i64_in _ (by have := HSA.out; omega)
    have HX6 : Hid (Blk (W5.setCell ⟨p, 6, none⟩ (.int .i64 (S.dr + 1))) p 29 #[.int .i64 S.b, .int .i64 S.i, .int .i64 S.n, .int .i64 t, .slice a3 K.length c3, .int .i64 S.al, .int .i64 (S.dr + 1)]) := Lib.hid (by simpa using HX5.out.set 6 (.int .i64 (S.dr + 1)))
    have HA6 : Hid (Apart (fun k => k = p) W5 (W5.setCell ⟨p, 6, none⟩ (.int .i64 (S.dr + 1)))) := Lib.hid (Apart.setCell (F := fun k => k = p) (p := ⟨p, 6, none⟩) Apart.refl (.inl rfl) _)
    have HZ6 := Lib.hid (HA6.out.blk HZ5.out (by omega))
    have HO6 := Lib.hid (own_apart HO5.out HA6.out (fun k cs hk e => (hk.ne HX5.out (by decide)) e))
    have HB6 : Hid (Below p w (W5.setCell ⟨p, 6, none⟩ (.int .i64 (S.dr + 1)))) := Lib.hid (HB5.out.setCell (p := ⟨p, 6, none⟩) (Nat.le_refl _) _)
    go_upto_region 7 with fail
    clear x0 x1 x2 x3 x4 x5 x6 f6 hw HX5 HZ5 HO5 HB5 HA6
    generalize W5.setCell ⟨p, 6, none⟩ (.int .i64 (S.dr + 1)) = W2 at *
    have HX2 := HX6
    have HZ2 := HZ6
    have HO2 := HO6
    have HB2 := HB6
    clear HX6 HZ6 HO6 HB6
    obtain ⟨x0, x1, x2, x3, x4, x5, x6⟩ := HX2.out.cells7
    obtain ⟨z0, z1, z2, z3, z4, z5, z6⟩ := HZ2.out.cells7
    obtain ⟨k0, k1, k2, k3, k4, k5, k6⟩ := HZ2.out.frozen7
    have HZ4 := Lib.hid (HZ2.out.set7 (.int .i64 S.b) (.int .i64 S.i) (.int .i64 S.n) (.int .i64 t) (.slice a3 K.length c3) (.int .i64 S.al) (.int .i64 (S.dr + 1)))
    have HA4 := Lib.hid (apart_set7 (F := fun k => k = p + 1) (g := p + 1) (Apart.refl (w := W2)) (.inl rfl) (.int .i64 S.b) (.int .i64 S.i) (.int .i64 S.n) (.int .i64 t) (.slice a3 K.length c3) (.int .i64 S.al) (.int .i64 (S.dr + 1)))
    have HO4 := Lib.hid (own_apart HO2.out HA4.out (fun k cs hk e => (hk.ne HZ2.out (by decide)) e))
    have HB4 : Hid (Below p w (((((((W2.setCell ⟨p + 1, 0, none⟩ (.int .i64 S.b)).setCell ⟨p + 1, 1, none⟩ (.int .i64 S.i)).setCell ⟨p + 1, 2, none⟩ (.int .i64 S.n)).setCell ⟨p + 1, 3, none⟩ (.int .i64 t)).setCell ⟨p + 1, 4, none⟩ (.slice a3 K.length c3)).setCell ⟨p + 1, 5, none⟩ (.int .i64 S.al)).setCell ⟨p + 1, 6, none⟩ (.int .i64 (S.dr + 1)))) := Lib.hid (HB2.out.trans (HA4.out.below (by have := HX2.out.lt; omega) (fun k hk => by subst hk; omega)))
    go_wp2_with fail
    clear x0 x1 x2 x3 x4 x5 x6 z0 z1 z2 z3 z4 z5 z6 k0 k1 k2 k3 k4 k5 k6
    generalize (((((((W2.setCell ⟨p + 1, 0, none⟩ (.int .i64 S.b)).setCell ⟨p + 1, 1, none⟩ (.int .i64 S.i)).setCell ⟨p + 1, 2, none⟩ (.int .i64 S.n)).setCell ⟨p + 1, 3, none⟩ (.int .i64 t)).setCell ⟨p + 1, 4, none⟩ (.slice a3 K.length c3)).setCell ⟨p + 1, 5, none⟩ (.int .i64 S.al)).setCell ⟨p + 1, 6, none⟩ (.int .i64 (S.dr + 1))) = W4 at *
    obtain ⟨r0, r1, r2, r3, r4, r5, r6⟩ := HZ4.out.cells7
    refine bodyPost_ret (v := .tuple #[.agg #[.int .i64 S.b, .int .i64 S.i, .int .i64 S.n, .int .i64 t, .slice a3 K.length c3, .int .i64 S.al, .int .i64 (S.dr + 1)], .bool false]) (by simp [results, Try.results22, go_sem, r0, r1, r2, r3, r4, r5, r6]) rfl ⟨by rw [HT.out]; rfl, by rw [HT.out]; rfl, by rw [HT.out]; rfl, by rw [HT.out]; rfl, _, by rw [HT.out]; rfl, by rw [HT.out]; exact HO4.out, by rw [HP.out]; exact HB4.out⟩
  | some x =>
    have hx := findB_mem hf
    obtain ⟨i, hi, hix, hil⟩ := idxB_some hf
    rw [hi] at HF4
    have hxk := HKB.out x hx.1
    have HXK : Hid (x.k = s ∧ x ∈ K ∧ 0 ≤ x.d ∧ x.d ≤ e) := Lib.hid ⟨hx.2, hx.1, hxk.d0, hxk.d1⟩
    have HIX := Lib.hid hix
    have HIL := Lib.hid hil
    have hF := fill_ok hxk HSB.out.2.1 HSB.out.2.2 (Int.le_refl t)
    have HY : Hid (0 ≤ (fillB S.b S.i x t).l ∧ (fillB S.b S.i x t).l ≤ S.b ∧ (fillB S.b S.i x t).k = x.k ∧ (fillB S.b S.i x t).d = x.d) := Lib.hid ⟨hF.l0, hF.l1, fill_k, fill_d⟩
    have HF9 := Lib.hid (HFC.out x hx.1)
    have HT : Hid (T = if (fillB S.b S.i x t).l = 0 then ({ atR S t with L := putB { fillB S.b S.i x t with d := (fillB S.b S.i x t).d + 1 } K, dr := S.dr + 1 }, false)
      else ({ atR S t with L := putB { fillB S.b S.i x t with l := (fillB S.b S.i x t).l - 1, d := 0 } K, al := S.al + 1 }, true)) := Lib.hid (by rw [HRA.out, hf])
    clear hf HRA HFC hx hi hix hxk hF
    generalize fillB S.b S.i x t = y at *
    have hik : i ≤ 1024 := by have := HKL.out.1; omega
    go_upto_region 8 with (go_at_call 37; with_reducible refine HF4.out.mono ?_; rintro r W5 ⟨rfl, hb⟩; have HX5 := Lib.hid (HX4.out.keep hb); have HZ5 := Lib.hid (HZ4.out.keep hb); have HO5 := Lib.hid (HO4.out.below hb); have HB5 := Lib.hid (HB4.out.trans (hb.mono (by have := HX4.out.lt; omega))); clear hb)
    clear x0 x1 x2 x3 x4 x5 x6 HX4 HZ4 HO4 HB4 HF4 hil
    -- the list copied
    have HBA : Hid (Below W5.heap.size W5 (W5.alloc (.cells #[] 71))) := Lib.hid ((Below.refl _ _).alloc (Nat.le_refl _) _)
    have HNA : Hid (Own RBk (W5.alloc (.cells #[] 71)) W5.heap.size (.slice (some ⟨W5.heap.size, 0, none⟩) 0 0) []) := Lib.hid (World.ownsRow_made W5 #[] 0 (Nat.le_refl _) (Nat.zero_le _) rfl)
    have HOA := Lib.hid (HO5.out.below HBA.out)
    have HXA := Lib.hid (HX5.out.keep HBA.out)
    have HZA := Lib.hid (HZ5.out.keep HBA.out)
    obtain ⟨x0, x1, x2, x3, x4, x5, x6⟩ := HXA.out.cells7
    have f4 := HXA.out.frozen 4
    have HFM : Hid (∃ g c, a3 = some ⟨g, 0, none⟩ ∧ c3 = c) := Lib.hid (by
      rcases HO5.out.form with ⟨e1, e2⟩ | ⟨g, cap, cur, e1, _⟩
      · have := HIL.out; rw [e2] at this; exact absurd this (Nat.not_lt_zero _)
      · simp only [Value.slice.injEq] at e1
        exact ⟨g, c3, e1.1, rfl⟩)
    obtain ⟨g3, _, rfl, -⟩ := HFM.out
    go_upto_region 9 with (at_builtin; refine wpList_append_row RBk rfl _ _ rfl W5.heap.size (.slice (some ⟨W5.heap.size, 0, none⟩) 0 0) [] rfl HNA.out (.slice (some ⟨g3, 0, none⟩) K.length c3) K rfl HOA.out.rows (.inr ⟨g3, 0, c3, rfl⟩) (by have := HKL.out.1; rw [List.length_nil]; omega) HBA.out.size ?_; intro v8 w8 h1 h2; rw [List.nil_append] at h1; obtain ⟨a8, c8, rfl⟩ := h1.isSl; have H8 := Lib.hid h1; have HX8 := Lib.hid (HXA.out.grown h2 (own_lt_ne HNA.out HX5.out.lt)); have HZ8 := Lib.hid (HZA.out.grown h2 (own_lt_ne HNA.out HZ5.out.lt)); have HB8 := Lib.hid ((HB5.out.trans (HBA.out.mono (by have := HX5.out.lt; omega))).grown h2 (by have := HBA.out.size; have := HX5.out.lt; omega) (fun k e => by have := (HNA.out.lt k e).1; have := HX5.out.lt; omega)); obtain ⟨y0, y1, y2, y3, y4, y5, y6⟩ := HX8.out.cells7; have f8 := HX8.out.frozen 4; have HPW : Hid (p < W5.heap.size ∧ p + 1 < W5.heap.size ∧ W5.heap.size ≤ w8.heap.size) := Lib.hid ⟨HX5.out.lt, HZ5.out.lt, by have := h2.size; have := HBA.out.size; omega⟩; clear h1 h2)
    clear x0 x1 x2 x3 x4 x5 x6 f4 y0 y1 y2 y3 y4 y5 y6 f8 HX5 HZ5 HO5 HB5 HBA HNA HOA HXA HZA HFM
    have HX9 : Hid (Blk (w8.setCell ⟨p, 4, none⟩ (.slice a8 K.length c8)) p 29 #[.int .i64 S.b, .int .i64 S.i, .int .i64 S.n, .int .i64 t, .slice a8 K.length c8, .int .i64 S.al, .int .i64 S.dr]) := Lib.hid (by simpa using HX8.out.set 4 (.slice a8 K.length c8))
    have HA9 : Hid (Apart (fun k => k = p) w8 (w8.setCell ⟨p, 4, none⟩ (.slice a8 K.length c8))) := Lib.hid (Apart.setCell (F := fun k => k = p) (p := ⟨p, 4, none⟩) Apart.refl (.inl rfl) _)
    have HZ9 := Lib.hid (HA9.out.blk HZ8.out (by omega))
    have HO9 := Lib.hid (own_apart H8.out HA9.out (fun k cs hk e => (hk.ne HX8.out (by decide)) e))
    have HB9 : Hid (Below p w (w8.setCell ⟨p, 4, none⟩ (.slice a8 K.length c8))) := Lib.hid (HB8.out.setCell (p := ⟨p, 4, none⟩) (Nat.le_refl _) _)
    clear HX8 HZ8 H8 HB8 HA9
    generalize w8.setCell ⟨p, 4, none⟩ (.slice a8 K.length c8) = W9 at *
    have HPB : Hid (B ≤ W5.heap.size) := Lib.hid (by have := HPW.out; have := HBW.out; omega)
    have HO9 := Lib.hid (HO9.out.base (B' := p + 1 + 1) (by have := HPW.out; omega))
    obtain ⟨g8, o8, rfl, -, hc8, hev⟩ := bk_at HO9.out.rows HIL.out
    obtain rfl : o8 = 0 := by
      rcases HO9.out.form with ⟨e1, _⟩ | ⟨g, cap, cur, e1, _⟩
      · cases e1
      · simp only [Value.slice.injEq, Option.some.injEq, Addr.mk.injEq] at e1
        exact e1.1.2.1
    have hxe : K[i]'HIL.out = x := by have := HIX.out; rw [List.getElem?_eq_getElem HIL.out] at this; exact Option.some.inj this
    rw [hxe, Nat.zero_add] at hev
    have HEV := Lib.hid hev
    have hil2 : (i : Int) < (K.length : Int) := by have := HIL.out; omega
    have hil3 : i < K.length := HIL.out
    have HF9' := Lib.hid fun w1 => HF9.out (.slice (some ⟨g8, 0, none⟩) K.length c8) w1
    clear hev hxe
    refine wp_region_phit 9 (aPhi p g8 K.length c8 i W9.heap.size x y S t) (by kernel_rfl) (by decide) (by kernel_rfl) (by kernel_rfl) (by kernel_rfl) (fun k v u u2 h hb => aPhi_keep h hb) ?_ ?_
    · refine ⟨⟨trivial, fun A u hK hF => ?_⟩, ⟨trivial, fun A u hK hF => ?_⟩, ⟨trivial, fun A u hK hF => ?_⟩, ⟨trivial, fun A u hK hF => ?_⟩, ⟨trivial, fun A u hK hF => ?_⟩, ⟨trivial, fun A u hK hF => ?_⟩, ⟨trivial, fun A u hK hF => ?_⟩, ⟨trivial, fun A u hK hF => ?_⟩, ⟨trivial, fun A u hK hF => ?_⟩, trivial⟩
      · have f3 : A.tmps[3]?.getD undef = .pointer (some ⟨p, 0, none⟩) := fact_none (hF 3) (by kernel_rfl)
        obtain ⟨x0, x1, x2, x3, x4, x5, x6⟩ := (HX9.out.keep hK).cells7
        unfold Gives
        go_simp
        exact gives_val (Below.refl _ _) rfl
      · have f3 : A.tmps[3]?.getD undef = .pointer (some ⟨p, 0, none⟩) := fact_none (hF 3) (by kernel_rfl)
        unfold Gives
        go_simp
        exact gives_val (Below.refl _ _) rfl
      · have f36 : A.tmps[36]?.getD undef = .pointer (some ⟨p, 4, none⟩) := fact_some (hF 36) (j := 1) (by kernel_rfl) (by kernel_rfl)
        obtain ⟨x0, x1, x2, x3, x4, x5, x6⟩ := (HX9.out.keep hK).cells7
        unfold Gives
        go_simp
        exact gives_val (Below.refl _ _) rfl
      · have f9 : A.tmps[9]?.getD undef = .int .i64 i := fact_none (hF 9) (by kernel_rfl)
        unfold Gives
        go_simp
        exact gives_val (Below.refl _ _) rfl
      · have f37 : A.tmps[37]?.getD undef = .slice (some ⟨g8, 0, none⟩) K.length c8 := fact_some (hF 37) (j := 2) (by kernel_rfl) (by kernel_rfl)
        have f38 : A.tmps[38]?.getD undef = .int .i64 i := fact_some (hF 38) (j := 3) (by kernel_rfl) (by kernel_rfl)
        unfold Gives
        go_simp
        exact gives_val (Below.refl _ _) rfl
      · have f39 : A.tmps[39]?.getD undef = .pointer (some ⟨g8, i * 4, none⟩) := fact_some (hF 39) (j := 4) (by kernel_rfl) (by kernel_rfl)
        obtain ⟨q0, q1, q2, q3⟩ := HEV.out u hK
        unfold Gives
        go_simp
        exact gives_val (Below.refl _ _) rfl
      · have f8 : A.tmps[8]?.getD undef = .int .i64 t := fact_none (hF 8) (by kernel_rfl)
        unfold Gives
        go_simp
        exact gives_val (Below.refl _ _) rfl
      · have f35 : A.tmps[35]?.getD undef = .agg #[.int .i64 S.b, .int .i64 S.i, .int .i64 S.n, .int .i64 t, .slice (some ⟨g8, 0, none⟩) K.length c8, .int .i64 S.al, .int .i64 S.dr] := fact_some (hF 35) (j := 0) (by kernel_rfl) (by kernel_rfl)
        have f40 : A.tmps[40]?.getD undef = .agg #[.string x.k, .int .i64 x.l, .int .i64 x.c, .int .i64 x.d] := fact_some (hF 40) (j := 5) (by kernel_rfl) (by kernel_rfl)
        have f41 : A.tmps[41]?.getD undef = .int .i64 t := fact_some (hF 41) (j := 6) (by kernel_rfl) (by kernel_rfl)
        unfold Gives
        go_simp
        exact gives_enter ((HF9'.out u).mono fun _ _ ⟨he, hb⟩ => ⟨_, he, hb, rfl⟩)
      · unfold Gives
        go_simp
        exact gives_val ((Below.refl _ _).alloc (Nat.le_refl _) _) ⟨_, rfl, hK.size, Blk.new _ _ _⟩
    intro a0 W10 hC10 hsz hdf hF
    have ha := end_cut 10 42 hsz hdf hF (by kernel_rfl)
    have f42 : a0.tmps[42]?.getD undef = .agg #[.string x.k, .int .i64 y.l, .int .i64 y.c, .int .i64 x.d] := fact_end (hF 42) (j := 7) (by kernel_rfl)
    obtain ⟨q, f10, hq, hbq⟩ : ∃ q, a0.tmps[10]?.getD undef = .pointer (some ⟨q, 0, none⟩) ∧ W9.heap.size ≤ q ∧ Blk W10 q 71 #[.string ⟨#[]⟩, .int .i64 0, .int .i64 0, .int .i64 0] := fact_end (hF 10) (j := 8) (by kernel_rfl)
    rw [ha]
    clear ha hF
    simp only [cutL_cons, cutL_nil, Nat.reduceAdd, Nat.reduceLeDiff, and_true, true_and, and_false, false_and, if_true, if_false]
    rw [f42, f10]
    clear f42 f10 hsz hdf
    have hps : p + 1 < W9.heap.size := HZ9.out.lt
    have hgs : g8 < W9.heap.size := (HO9.out.lt g8 rfl).2
    have HX10 := Lib.hid (HX9.out.keep hC10)
    have HZ10 := Lib.hid (HZ9.out.keep hC10)
    have HO10 := Lib.hid (HO9.out.below hC10)
    have HB10 := Lib.hid (HB9.out.trans (Below.mono hC10 (by omega)))
    have HQN : Hid (g8 < q ∧ p + 1 < q ∧ p ≤ q) := Lib.hid ⟨by omega, by omega, by omega⟩
    have HBQ := Lib.hid hbq
    clear hC10 HX9 HZ9 HO9 HB9 HF9' HF9 HEV hps hgs hq hbq
    obtain ⟨q0, q1, q2, q3⟩ := HBQ.out.cells4
    have k0 := HBQ.out.frozen 0
    have k1 := HBQ.out.frozen 1
    have k2 := HBQ.out.frozen 2
    have k3 := HBQ.out.frozen 3
    have HQ := Lib.hid (HBQ.out.set4 (.string x.k) (.int .i64 y.l) (.int .i64 y.c) (.int .i64 x.d))
    have HAQ : Hid (Apart (fun k => k = q) W10 ((((W10.setCell ⟨q, 0, none⟩ (.string x.k)).setCell ⟨q, 1, none⟩ (.int .i64 y.l)).setCell ⟨q, 2, none⟩ (.int .i64 y.c)).setCell ⟨q, 3, none⟩ (.int .i64 x.d))) := Lib.hid ((((Apart.setCell (F := fun k => k = q) (p := ⟨q, 0, none⟩) Apart.refl (.inl rfl) _).setCell (p := ⟨q, 1, none⟩) (.inl rfl) _).setCell (p := ⟨q, 2, none⟩) (.inl rfl) _).setCell (p := ⟨q, 3, none⟩) (.inl rfl) _)
    have HX11 := Lib.hid (HAQ.out.blk HX10.out (by have := HQN.out; omega))
    have HZ11 := Lib.hid (HAQ.out.blk HZ10.out (by have := HQN.out; omega))
    have HO11 := Lib.hid (own_far HO10.out HAQ.out (by have := HQN.out; omega))
    have HB11 := Lib.hid (below_set4 HB10.out HQN.out.2.2 (.string x.k) (.int .i64 y.l) (.int .i64 y.c) (.int .i64 x.d))
    go_upto_region 10 with fail
    clear q0 q1 q2 q3 k0 k1 k2 k3 HBQ HX10 HZ10 HO10 HB10 HAQ
    generalize ((((W10.setCell ⟨q, 0, none⟩ (.string x.k)).setCell ⟨q, 1, none⟩ (.int .i64 y.l)).setCell ⟨q, 2, none⟩ (.int .i64 y.c)).setCell ⟨q, 3, none⟩ (.int .i64 x.d)) = W11 at *
    obtain ⟨q0, q1, q2, q3⟩ := HQ.out.cells4
    have f1 := HQ.out.frozen 1
    have f3 := HQ.out.frozen 3
    obtain ⟨x0, x1, x2, x3, x4, x5, x6⟩ := HX11.out.cells7
    have g5 := HX11.out.frozen 5
    have g6 := HX11.out.frozen 6
    have HG8 : Hid (p + 1 + 1 ≤ g8) := Lib.hid (own_at4 HO11.out HIX.out).2.2.2.2.2
    by_cases hz : y.l = 0
    · have HT2 : Hid (T = ({ atR S t with L := K.set i ⟨x.k, 0, y.c, x.d + 1⟩, dr := S.dr + 1 }, false)) := Lib.hid (by
        rw [HT.out, if_pos hz, set_putB (y := ⟨x.k, 0, y.c, x.d + 1⟩) HKL.out.2 HIX.out rfl, HY.out.2.2.1, HY.out.2.2.2, hz])
      have hz1 : (y.l = 0) = True := eq_true hz
      have HQ11 := HQ
      have hw : IntKind.i64.wrap (x.d + 1) = x.d + 1 := IntWalk.i64_in _ (by have := HSA.out; have := HXK.out; have := HY.out; have := HSB.out; have := HE.out; omega)
      go_upto_region 12 with fail
      clear q0 q1 q2 q3 x0 x1 x2 x3 x4 x5 x6 f1 f3 g5 g6
      clear hw
      have HA12 : Hid (Apart (fun k => k = q) W11 (W11.setCell ⟨q, 3, none⟩ (.int .i64 (x.d + 1)))) := Lib.hid (Apart.setCell (F := fun k => k = q) (p := ⟨q, 3, none⟩) Apart.refl (.inl rfl) _)
      have HQ12 : Hid (Blk (W11.setCell ⟨q, 3, none⟩ (.int .i64 (x.d + 1))) q 71 #[.string x.k, .int .i64 y.l, .int .i64 y.c, .int .i64 (x.d + 1)]) := Lib.hid (by simpa using HQ11.out.set 3 (.int .i64 (x.d + 1)))
      have HX12 := Lib.hid (HA12.out.blk HX11.out (by have := HQN.out; omega))
      have HZ12 := Lib.hid (HA12.out.blk HZ11.out (by have := HQN.out; omega))
      have HO12 := Lib.hid (own_far HO11.out HA12.out (by have := HQN.out; omega))
      have HB12 : Hid (Below p w (W11.setCell ⟨q, 3, none⟩ (.int .i64 (x.d + 1)))) := Lib.hid (HB11.out.setCell (p := ⟨q, 3, none⟩) HQN.out.2.2 _)
      clear HQ11 HX11 HZ11 HO11 HB11 HA12 HQ
      generalize W11.setCell ⟨q, 3, none⟩ (.int .i64 (x.d + 1)) = W12 at *
      obtain ⟨q0, q1, q2, q3⟩ := HQ12.out.cells4
      have f1 := HQ12.out.frozen 1
      have f3 := HQ12.out.frozen 3
      obtain ⟨x0, x1, x2, x3, x4, x5, x6⟩ := HX12.out.cells7
      have g5 := HX12.out.frozen 5
      have g6 := HX12.out.frozen 6
      have hw : IntKind.i64.wrap (S.dr + 1) = S.dr + 1 := IntWalk.i64_in _ (by have := HSA.out; have := HXK.out; have := HY.out; have := HSB.out; have := HE.out; omega)
      go_upto_region 13 with fail
      clear q0 q1 q2 q3 x0 x1 x2 x3 x4 x5 x6 f1 f3 g5 g6
      clear hw
      have HA13 : Hid (Apart (fun k => k = p) W12 (W12.setCell ⟨p, 6, none⟩ (.int .i64 (S.dr + 1)))) := Lib.hid (Apart.setCell (F := fun k => k = p) (p := ⟨p, 6, none⟩) Apart.refl (.inl rfl) _)
      have HX13 : Hid (Blk (W12.setCell ⟨p, 6, none⟩ (.int .i64 (S.dr + 1))) p 29 #[.int .i64 S.b, .int .i64 S.i, .int .i64 S.n, .int .i64 t, .slice (some ⟨g8, 0, none⟩) K.length c8, .int .i64 S.al, .int .i64 (S.dr + 1)]) := Lib.hid (by simpa using HX12.out.set 6 (.int .i64 (S.dr + 1)))
      have HQ13 := Lib.hid (HA13.out.blk HQ12.out (by have := HQN.out; omega))
      have HZ13 := Lib.hid (HA13.out.blk HZ12.out (by omega))
      have HO13 := Lib.hid (own_far HO12.out HA13.out (by have := HG8.out; omega))
      have HB13 : Hid (Below p w (W12.setCell ⟨p, 6, none⟩ (.int .i64 (S.dr + 1)))) := Lib.hid (HB12.out.setCell (p := ⟨p, 6, none⟩) (Nat.le_refl _) _)
      clear HQ12 HX12 HZ12 HO12 HB12 HA13
      generalize W12.setCell ⟨p, 6, none⟩ (.int .i64 (S.dr + 1)) = W13 at *
      obtain ⟨q0, q1, q2, q3⟩ := HQ13.out.cells4
      have f1 := HQ13.out.frozen 1
      have f3 := HQ13.out.frozen 3
      obtain ⟨x0, x1, x2, x3, x4, x5, x6⟩ := HX13.out.cells7
      have g5 := HX13.out.frozen 5
      have g6 := HX13.out.frozen 6
      obtain ⟨⟨r0, r1, r2, r3⟩, j0, j1, j2, j3, -⟩ := own_at4 HO13.out HIX.out
      clear f1 f3 g5 g6
      go_upto_region 14 with fail
      clear q0 q1 q2 q3 x0 x1 x2 x3 x4 x5 x6 r0 r1 r2 r3 j0 j1 j2 j3
      have hor := own_set4 (⟨x.k, 0, y.c, (x.d + 1)⟩ : Bk) HO13.out hil3
      dsimp only at hor
      have HO2 : Hid (Own RBk ((((W13.setCell ⟨g8, i * 4, none⟩ (.string x.k)).setCell ⟨g8, i * 4 + 1, none⟩ (.int .i64 0)).setCell ⟨g8, i * 4 + 2, none⟩ (.int .i64 y.c)).setCell ⟨g8, i * 4 + 3, none⟩ (.int .i64 (x.d + 1))) B (.slice (some ⟨g8, 0, none⟩) K.length c8) (K.set i ⟨x.k, 0, y.c, (x.d + 1)⟩)) := Lib.hid (hor.1.base (by have := HBW.out; omega))
      have HAR : Hid (Apart (fun k => k = g8) W13 ((((W13.setCell ⟨g8, i * 4, none⟩ (.string x.k)).setCell ⟨g8, i * 4 + 1, none⟩ (.int .i64 0)).setCell ⟨g8, i * 4 + 2, none⟩ (.int .i64 y.c)).setCell ⟨g8, i * 4 + 3, none⟩ (.int .i64 (x.d + 1)))) := Lib.hid hor.2.1
      have HX2 := Lib.hid (HAR.out.blk HX13.out (by have := HG8.out; omega))
      have HZ2 := Lib.hid (HAR.out.blk HZ13.out (by have := HG8.out; omega))
      have HB2 : Hid (Below p w ((((W13.setCell ⟨g8, i * 4, none⟩ (.string x.k)).setCell ⟨g8, i * 4 + 1, none⟩ (.int .i64 0)).setCell ⟨g8, i * 4 + 2, none⟩ (.int .i64 y.c)).setCell ⟨g8, i * 4 + 3, none⟩ (.int .i64 (x.d + 1)))) := Lib.hid (HB13.out.trans (HAR.out.below (B := p) (by have := HX13.out.lt; omega) (fun k hk => by have := HG8.out; have hk : k = g8 := hk; omega)))
      clear hor HAR HQ13 HX13 HZ13 HO13 HB13
      generalize (((W13.setCell ⟨g8, i * 4, none⟩ (.string x.k)).setCell ⟨g8, i * 4 + 1, none⟩ (.int .i64 0)).setCell ⟨g8, i * 4 + 2, none⟩ (.int .i64 y.c)).setCell ⟨g8, i * 4 + 3, none⟩ (.int .i64 (x.d + 1)) = W2 at *
      obtain ⟨x0, x1, x2, x3, x4, x5, x6⟩ := HX2.out.cells7
      obtain ⟨z0, z1, z2, z3, z4, z5, z6⟩ := HZ2.out.cells7
      obtain ⟨k0, k1, k2, k3, k4, k5, k6⟩ := HZ2.out.frozen7
      have HZ4 := Lib.hid (HZ2.out.set7 (.int .i64 S.b) (.int .i64 S.i) (.int .i64 S.n) (.int .i64 t) (.slice (some ⟨g8, 0, none⟩) K.length c8) (.int .i64 S.al) (.int .i64 (S.dr + 1)))
      have HA4 := Lib.hid (apart_set7 (F := fun k => k = p + 1) (g := p + 1) (Apart.refl (w := W2)) (.inl rfl) (.int .i64 S.b) (.int .i64 S.i) (.int .i64 S.n) (.int .i64 t) (.slice (some ⟨g8, 0, none⟩) K.length c8) (.int .i64 S.al) (.int .i64 (S.dr + 1)))
      have HO4 := Lib.hid (own_apart HO2.out HA4.out (fun k cs hk e => (hk.ne HZ2.out (by decide)) e))
      have HB4 : Hid (Below p w (((((((W2.setCell ⟨p + 1, 0, none⟩ (.int .i64 S.b)).setCell ⟨p + 1, 1, none⟩ (.int .i64 S.i)).setCell ⟨p + 1, 2, none⟩ (.int .i64 S.n)).setCell ⟨p + 1, 3, none⟩ (.int .i64 t)).setCell ⟨p + 1, 4, none⟩ (.slice (some ⟨g8, 0, none⟩) K.length c8)).setCell ⟨p + 1, 5, none⟩ (.int .i64 S.al)).setCell ⟨p + 1, 6, none⟩ (.int .i64 (S.dr + 1)))) := Lib.hid (HB2.out.trans (HA4.out.below (by have := HX2.out.lt; omega) (fun k hk => by subst hk; omega)))
      go_wp2_with fail
      clear x0 x1 x2 x3 x4 x5 x6 z0 z1 z2 z3 z4 z5 z6 k0 k1 k2 k3 k4 k5 k6
      generalize (((((((W2.setCell ⟨p + 1, 0, none⟩ (.int .i64 S.b)).setCell ⟨p + 1, 1, none⟩ (.int .i64 S.i)).setCell ⟨p + 1, 2, none⟩ (.int .i64 S.n)).setCell ⟨p + 1, 3, none⟩ (.int .i64 t)).setCell ⟨p + 1, 4, none⟩ (.slice (some ⟨g8, 0, none⟩) K.length c8)).setCell ⟨p + 1, 5, none⟩ (.int .i64 S.al)).setCell ⟨p + 1, 6, none⟩ (.int .i64 (S.dr + 1))) = W4 at *
      obtain ⟨r0, r1, r2, r3, r4, r5, r6⟩ := HZ4.out.cells7
      refine bodyPost_ret (v := .tuple #[.agg #[.int .i64 S.b, .int .i64 S.i, .int .i64 S.n, .int .i64 t, .slice (some ⟨g8, 0, none⟩) K.length c8, .int .i64 S.al, .int .i64 (S.dr + 1)], .bool false]) (by simp [results, Try.results22, go_sem, r0, r1, r2, r3, r4, r5, r6]) rfl ⟨by rw [HT2.out]; rfl, by rw [HT2.out]; rfl, by rw [HT2.out]; rfl, by rw [HT2.out]; rfl, _, by rw [HT2.out]; rfl, by rw [HT2.out]; exact HO4.out, by rw [HP.out]; exact HB4.out⟩
    · have HT2 : Hid (T = ({ atR S t with L := K.set i ⟨x.k, y.l - 1, y.c, 0⟩, al := S.al + 1 }, true)) := Lib.hid (by
        rw [HT.out, if_neg hz, set_putB (y := ⟨x.k, y.l - 1, y.c, 0⟩) HKL.out.2 HIX.out rfl, HY.out.2.2.1])
      have hz1 : (y.l = 0) = False := eq_false hz
      have HQ11 := HQ
      have hw : IntKind.i64.wrap (y.l - 1) = y.l - 1 := IntWalk.i64_in _ (by have := HSA.out; have := HXK.out; have := HY.out; have := HSB.out; have := HE.out; omega)
      go_upto_region 16 with fail
      clear q0 q1 q2 q3 x0 x1 x2 x3 x4 x5 x6 f1 f3 g5 g6
      clear hw
      have HA12 : Hid (Apart (fun k => k = q) W11 (W11.setCell ⟨q, 1, none⟩ (.int .i64 (y.l - 1)))) := Lib.hid (Apart.setCell (F := fun k => k = q) (p := ⟨q, 1, none⟩) Apart.refl (.inl rfl) _)
      have HQ12 : Hid (Blk (W11.setCell ⟨q, 1, none⟩ (.int .i64 (y.l - 1))) q 71 #[.string x.k, .int .i64 (y.l - 1), .int .i64 y.c, .int .i64 x.d]) := Lib.hid (by simpa using HQ11.out.set 1 (.int .i64 (y.l - 1)))
      have HX12 := Lib.hid (HA12.out.blk HX11.out (by have := HQN.out; omega))
      have HZ12 := Lib.hid (HA12.out.blk HZ11.out (by have := HQN.out; omega))
      have HO12 := Lib.hid (own_far HO11.out HA12.out (by have := HQN.out; omega))
      have HB12 : Hid (Below p w (W11.setCell ⟨q, 1, none⟩ (.int .i64 (y.l - 1)))) := Lib.hid (HB11.out.setCell (p := ⟨q, 1, none⟩) HQN.out.2.2 _)
      clear HQ11 HX11 HZ11 HO11 HB11 HA12 HQ
      generalize W11.setCell ⟨q, 1, none⟩ (.int .i64 (y.l - 1)) = W12 at *
      obtain ⟨q0, q1, q2, q3⟩ := HQ12.out.cells4
      have f1 := HQ12.out.frozen 1
      have f3 := HQ12.out.frozen 3
      obtain ⟨x0, x1, x2, x3, x4, x5, x6⟩ := HX12.out.cells7
      have g5 := HX12.out.frozen 5
      have g6 := HX12.out.frozen 6
      go_upto_region 17 with fail
      clear q0 q1 q2 q3 x0 x1 x2 x3 x4 x5 x6 f1 f3 g5 g6
      have HA13 : Hid (Apart (fun k => k = q) W12 (W12.setCell ⟨q, 3, none⟩ (.int .i64 0))) := Lib.hid (Apart.setCell (F := fun k => k = q) (p := ⟨q, 3, none⟩) Apart.refl (.inl rfl) _)
      have HQ13 : Hid (Blk (W12.setCell ⟨q, 3, none⟩ (.int .i64 0)) q 71 #[.string x.k, .int .i64 (y.l - 1), .int .i64 y.c, .int .i64 0]) := Lib.hid (by simpa using HQ12.out.set 3 (.int .i64 0))
      have HX13 := Lib.hid (HA13.out.blk HX12.out (by have := HQN.out; omega))
      have HZ13 := Lib.hid (HA13.out.blk HZ12.out (by have := HQN.out; omega))
      have HO13 := Lib.hid (own_far HO12.out HA13.out (by have := HQN.out; omega))
      have HB13 : Hid (Below p w (W12.setCell ⟨q, 3, none⟩ (.int .i64 0))) := Lib.hid (HB12.out.setCell (p := ⟨q, 3, none⟩) HQN.out.2.2 _)
      clear HQ12 HX12 HZ12 HO12 HB12 HA13
      generalize W12.setCell ⟨q, 3, none⟩ (.int .i64 0) = W13 at *
      obtain ⟨q0, q1, q2, q3⟩ := HQ13.out.cells4
      have f1 := HQ13.out.frozen 1
      have f3 := HQ13.out.frozen 3
      obtain ⟨x0, x1, x2, x3, x4, x5, x6⟩ := HX13.out.cells7
      have g5 := HX13.out.frozen 5
      have g6 := HX13.out.frozen 6
      have hw : IntKind.i64.wrap (S.al + 1) = S.al + 1 := IntWalk.i64_in _ (by have := HSA.out; have := HXK.out; have := HY.out; have := HSB.out; have := HE.out; omega)
      go_upto_region 18 with fail
      clear q0 q1 q2 q3 x0 x1 x2 x3 x4 x5 x6 f1 f3 g5 g6
      clear hw
      have HA14 : Hid (Apart (fun k => k = p) W13 (W13.setCell ⟨p, 5, none⟩ (.int .i64 (S.al + 1)))) := Lib.hid (Apart.setCell (F := fun k => k = p) (p := ⟨p, 5, none⟩) Apart.refl (.inl rfl) _)
      have HX14 : Hid (Blk (W13.setCell ⟨p, 5, none⟩ (.int .i64 (S.al + 1))) p 29 #[.int .i64 S.b, .int .i64 S.i, .int .i64 S.n, .int .i64 t, .slice (some ⟨g8, 0, none⟩) K.length c8, .int .i64 (S.al + 1), .int .i64 S.dr]) := Lib.hid (by simpa using HX13.out.set 5 (.int .i64 (S.al + 1)))
      have HQ14 := Lib.hid (HA14.out.blk HQ13.out (by have := HQN.out; omega))
      have HZ14 := Lib.hid (HA14.out.blk HZ13.out (by omega))
      have HO14 := Lib.hid (own_far HO13.out HA14.out (by have := HG8.out; omega))
      have HB14 : Hid (Below p w (W13.setCell ⟨p, 5, none⟩ (.int .i64 (S.al + 1)))) := Lib.hid (HB13.out.setCell (p := ⟨p, 5, none⟩) (Nat.le_refl _) _)
      clear HQ13 HX13 HZ13 HO13 HB13 HA14
      generalize W13.setCell ⟨p, 5, none⟩ (.int .i64 (S.al + 1)) = W14 at *
      obtain ⟨q0, q1, q2, q3⟩ := HQ14.out.cells4
      have f1 := HQ14.out.frozen 1
      have f3 := HQ14.out.frozen 3
      obtain ⟨x0, x1, x2, x3, x4, x5, x6⟩ := HX14.out.cells7
      have g5 := HX14.out.frozen 5
      have g6 := HX14.out.frozen 6
      obtain ⟨⟨r0, r1, r2, r3⟩, j0, j1, j2, j3, -⟩ := own_at4 HO14.out HIX.out
      clear f1 f3 g5 g6
      go_upto_region 19 with fail
      clear q0 q1 q2 q3 x0 x1 x2 x3 x4 x5 x6 r0 r1 r2 r3 j0 j1 j2 j3
      have hor := own_set4 (⟨x.k, (y.l - 1), y.c, 0⟩ : Bk) HO14.out hil3
      dsimp only at hor
      have HO2 : Hid (Own RBk ((((W14.setCell ⟨g8, i * 4, none⟩ (.string x.k)).setCell ⟨g8, i * 4 + 1, none⟩ (.int .i64 (y.l - 1))).setCell ⟨g8, i * 4 + 2, none⟩ (.int .i64 y.c)).setCell ⟨g8, i * 4 + 3, none⟩ (.int .i64 0)) B (.slice (some ⟨g8, 0, none⟩) K.length c8) (K.set i ⟨x.k, (y.l - 1), y.c, 0⟩)) := Lib.hid (hor.1.base (by have := HBW.out; omega))
      have HAR : Hid (Apart (fun k => k = g8) W14 ((((W14.setCell ⟨g8, i * 4, none⟩ (.string x.k)).setCell ⟨g8, i * 4 + 1, none⟩ (.int .i64 (y.l - 1))).setCell ⟨g8, i * 4 + 2, none⟩ (.int .i64 y.c)).setCell ⟨g8, i * 4 + 3, none⟩ (.int .i64 0))) := Lib.hid hor.2.1
      have HX2 := Lib.hid (HAR.out.blk HX14.out (by have := HG8.out; omega))
      have HZ2 := Lib.hid (HAR.out.blk HZ14.out (by have := HG8.out; omega))
      have HB2 : Hid (Below p w ((((W14.setCell ⟨g8, i * 4, none⟩ (.string x.k)).setCell ⟨g8, i * 4 + 1, none⟩ (.int .i64 (y.l - 1))).setCell ⟨g8, i * 4 + 2, none⟩ (.int .i64 y.c)).setCell ⟨g8, i * 4 + 3, none⟩ (.int .i64 0))) := Lib.hid (HB14.out.trans (HAR.out.below (B := p) (by have := HX14.out.lt; omega) (fun k hk => by have := HG8.out; have hk : k = g8 := hk; omega)))
      clear hor HAR HQ14 HX14 HZ14 HO14 HB14
      generalize (((W14.setCell ⟨g8, i * 4, none⟩ (.string x.k)).setCell ⟨g8, i * 4 + 1, none⟩ (.int .i64 (y.l - 1))).setCell ⟨g8, i * 4 + 2, none⟩ (.int .i64 y.c)).setCell ⟨g8, i * 4 + 3, none⟩ (.int .i64 0) = W2 at *
      obtain ⟨x0, x1, x2, x3, x4, x5, x6⟩ := HX2.out.cells7
      obtain ⟨z0, z1, z2, z3, z4, z5, z6⟩ := HZ2.out.cells7
      obtain ⟨k0, k1, k2, k3, k4, k5, k6⟩ := HZ2.out.frozen7
      have HZ4 := Lib.hid (HZ2.out.set7 (.int .i64 S.b) (.int .i64 S.i) (.int .i64 S.n) (.int .i64 t) (.slice (some ⟨g8, 0, none⟩) K.length c8) (.int .i64 (S.al + 1)) (.int .i64 S.dr))
      have HA4 := Lib.hid (apart_set7 (F := fun k => k = p + 1) (g := p + 1) (Apart.refl (w := W2)) (.inl rfl) (.int .i64 S.b) (.int .i64 S.i) (.int .i64 S.n) (.int .i64 t) (.slice (some ⟨g8, 0, none⟩) K.length c8) (.int .i64 (S.al + 1)) (.int .i64 S.dr))
      have HO4 := Lib.hid (own_apart HO2.out HA4.out (fun k cs hk e => (hk.ne HZ2.out (by decide)) e))
      have HB4 : Hid (Below p w (((((((W2.setCell ⟨p + 1, 0, none⟩ (.int .i64 S.b)).setCell ⟨p + 1, 1, none⟩ (.int .i64 S.i)).setCell ⟨p + 1, 2, none⟩ (.int .i64 S.n)).setCell ⟨p + 1, 3, none⟩ (.int .i64 t)).setCell ⟨p + 1, 4, none⟩ (.slice (some ⟨g8, 0, none⟩) K.length c8)).setCell ⟨p + 1, 5, none⟩ (.int .i64 (S.al + 1))).setCell ⟨p + 1, 6, none⟩ (.int .i64 S.dr))) := Lib.hid (HB2.out.trans (HA4.out.below (by have := HX2.out.lt; omega) (fun k hk => by subst hk; omega)))
      go_wp2_with fail
      clear x0 x1 x2 x3 x4 x5 x6 z0 z1 z2 z3 z4 z5 z6 k0 k1 k2 k3 k4 k5 k6
      generalize (((((((W2.setCell ⟨p + 1, 0, none⟩ (.int .i64 S.b)).setCell ⟨p + 1, 1, none⟩ (.int .i64 S.i)).setCell ⟨p + 1, 2, none⟩ (.int .i64 S.n)).setCell ⟨p + 1, 3, none⟩ (.int .i64 t)).setCell ⟨p + 1, 4, none⟩ (.slice (some ⟨g8, 0, none⟩) K.length c8)).setCell ⟨p + 1, 5, none⟩ (.int .i64 (S.al + 1))).setCell ⟨p + 1, 6, none⟩ (.int .i64 S.dr)) = W4 at *
      obtain ⟨r0, r1, r2, r3, r4, r5, r6⟩ := HZ4.out.cells7
      refine bodyPost_ret (v := .tuple #[.agg #[.int .i64 S.b, .int .i64 S.i, .int .i64 S.n, .int .i64 t, .slice (some ⟨g8, 0, none⟩) K.length c8, .int .i64 (S.al + 1), .int .i64 S.dr], .bool true]) (by simp [results, Try.results22, go_sem, r0, r1, r2, r3, r4, r5, r6]) rfl ⟨by rw [HT2.out]; rfl, by rw [HT2.out]; rfl, by rw [HT2.out]; rfl, by rw [HT2.out]; rfl, _, by rw [HT2.out]; rfl, by rw [HT2.out]; exact HO4.out, by rw [HP.out]; exact HB4.out⟩
end
end Go.Proofs.Ytcainohglmgdpaa
