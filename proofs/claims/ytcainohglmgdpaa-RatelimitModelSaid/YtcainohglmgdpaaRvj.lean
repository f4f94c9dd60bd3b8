/- play. -/
import Derived.Test.YtcainohglmgdpaaRvi
import Derived.Test.YtcainohglmgdpaaRau
import Derived.Test.YtcainohglmgdpaaPhl
namespace Go.Proofs.Ytcainohglmgdpaa
open Go.RowKit Go.Maps Go.WideElems Go.WideMaps Go.WideShapes Go.Sort Go.Shelf
def playS (S : RS) (L : List Ev) : RS := L.foldl (fun S x => (allowR S x.k x.n).1) S
theorem playS_snoc (S : RS) (L : List Ev) (x : Ev) : playS S (L ++ [x]) = (allowR (playS S L) x.k x.n).1 := by unfold playS; rw [List.foldl_append]; rfl
theorem allowR_fix (S : RS) (s : ByteArray) (now : Int) : (allowR S s now).1.b = S.b ∧ (allowR S s now).1.i = S.i ∧ (allowR S s now).1.n = S.n ∧ (allowR S s now).1.t = timeR S now := by
  unfold allowR dropR permitR takeR makeR
  repeat' split
  all_goals exact ⟨rfl, rfl, rfl, rfl⟩
def pPhi (ge oe n1 c1 j N B : Nat) (a : Option Addr) (n c : Nat) (x : Ev) (S : RS) (t : Int) (T : RS × Bool) (k : Nat) (v : Value) (wq : World) : Prop := match k with
  | 0 => v = .agg #[.int .i64 S.b, .int .i64 S.i, .int .i64 S.n, .int .i64 S.t, .slice a n c, .int .i64 S.al, .int .i64 S.dr]
  | 1 => v = .slice (some ⟨ge, oe, none⟩) n1 c1
  | 2 => v = .int .i64 j
  | 3 => v = .pointer (some ⟨ge, oe + j * 2, none⟩)
  | 4 => v = .pointer (some ⟨ge, oe + j * 2, none⟩)
  | 5 => v = .string x.k
  | 6 => v = .slice (some ⟨ge, oe, none⟩) n1 c1
  | 7 => v = .int .i64 j
  | 8 => v = .pointer (some ⟨ge, oe + j * 2, none⟩)
  | 9 => v = .pointer (some ⟨ge, oe + j * 2 + 1, none⟩)
  | 10 => v = .int .i64 x.n
  | 11 => ∃ u, v = .tuple #[.agg #[.int .i64 S.b, .int .i64 S.i, .int .i64 S.n, .int .i64 t, u, .int .i64 T.1.al, .int .i64 T.1.dr], .bool T.2] ∧ Own RBk wq B u T.1.L
  | 12 => ∃ u, v = .tuple #[.agg #[.int .i64 S.b, .int .i64 S.i, .int .i64 S.n, .int .i64 t, u, .int .i64 T.1.al, .int .i64 T.1.dr], .bool T.2] ∧ Own RBk wq B u T.1.L
  | 13 => ∃ u, v = .agg #[.int .i64 S.b, .int .i64 S.i, .int .i64 S.n, .int .i64 t, u, .int .i64 T.1.al, .int .i64 T.1.dr] ∧ Own RBk wq B u T.1.L
  | 14 => v = .bool T.2
  | 15 => ∃ b, v = .pointer (some ⟨b, 0, none⟩) ∧ N ≤ b ∧ ∃ x0 x1 x2 x3 x4 x5 x6, Blk wq b 29 #[x0, x1, x2, x3, x4, x5, x6]
  | 16 => ∃ b u, v = .pointer (some ⟨b, 0, none⟩) ∧ N ≤ b ∧ Blk wq b 29 #[.int .i64 S.b, .int .i64 S.i, .int .i64 S.n, .int .i64 t, u, .int .i64 T.1.al, .int .i64 T.1.dr] ∧ Own RBk wq B u T.1.L
  | 17 => v = .bool T.2
  | _ => True
def qR (N B : Nat) (S : RS) (t : Int) (T : RS × Bool) (i : Nat) (w w' : World) : Prop :=
  if i = 16 then ∃ b u x0 x1 x2 x3 x4 x5 x6, N ≤ b ∧ Blk w b 29 #[x0, x1, x2, x3, x4, x5, x6] ∧ Apart (fun k => k = b) w w' ∧ Blk w' b 29 #[.int .i64 S.b, .int .i64 S.i, .int .i64 S.n, .int .i64 t, u, .int .i64 T.1.al, .int .i64 T.1.dr] ∧ Own RBk w' B u T.1.L else Below w.heap.size w w'
theorem qR_of {N B i : Nat} {S : RS} {t : Int} {T : RS × Bool} {w w' : World} (h : i ≠ 16) (hb : Below w.heap.size w w') : qR N B S t T i w w' := by unfold qR; rw [if_neg h]; exact hb
theorem qR_fill {N B b : Nat} {u : Value} {S : RS} {t : Int} {T : RS × Bool} {w w' : World} {x0 x1 x2 x3 x4 x5 x6 : Value} (h1 : N ≤ b) (h2 : Blk w b 29 #[x0, x1, x2, x3, x4, x5, x6]) (h3 : Apart (fun k => k = b) w w') (h4 : Blk w' b 29 #[.int .i64 S.b, .int .i64 S.i, .int .i64 S.n, .int .i64 t, u, .int .i64 T.1.al, .int .i64 T.1.dr]) (h5 : Own RBk w' B u T.1.L) : qR N B S t T 16 w w' := by
  unfold qR; rw [if_pos rfl]; exact ⟨b, u, x0, x1, x2, x3, x4, x5, x6, h1, h2, h3, h4, h5⟩
theorem qC_step {w1 : World} {B i : Nat} {S : RS} {t : Int} {T : RS × Bool} {w w' : World} (h : Below w1.heap.size w1 w) (hr : qR w1.heap.size B S t T i w w') : Below w1.heap.size w1 w' := by
  unfold qR at hr
  split at hr
  · obtain ⟨b, u, x0, x1, x2, x3, x4, x5, x6, h1, h2, h3, h4, h5⟩ := hr
    exact h.trans (h3.below h.size (fun k hk => by have hk : k = b := hk; omega))
  · exact h.trans (Below.mono hr h.size)
theorem pPhi_keep {ge oe n1 c1 j N B n c i k2 : Nat} {a : Option Addr} {x : Ev} {S : RS} {t : Int} {T : RS × Bool} {v : Value} {w w' : World} (hij : i ≠ k2) (h : pPhi ge oe n1 c1 j N B a n c x S t T i v w) (hr : qR N B S t T k2 w w') : pPhi ge oe n1 c1 j N B a n c x S t T i v w' := by
  unfold qR at hr
  split at hr
  · rename_i e2
    subst e2
    obtain ⟨b2, u2, y0, y1, y2, y3, y4, y5, y6, hN, hx, ha, hf, ho⟩ := hr
    match i, h with
    | 0, h => exact h
    | 1, h => exact h
    | 2, h => exact h
    | 3, h => exact h
    | 4, h => exact h
    | 5, h => exact h
    | 6, h => exact h
    | 7, h => exact h
    | 8, h => exact h
    | 9, h => exact h
    | 10, h => exact h
    | 11, ⟨u, h1, h2⟩ => exact ⟨u, h1, own_apart h2 ha (fun k cs hk e => (hk.ne hx (by decide)) e)⟩
    | 12, ⟨u, h1, h2⟩ => exact ⟨u, h1, own_apart h2 ha (fun k cs hk e => (hk.ne hx (by decide)) e)⟩
    | 13, ⟨u, h1, h2⟩ => exact ⟨u, h1, own_apart h2 ha (fun k cs hk e => (hk.ne hx (by decide)) e)⟩
    | 14, h => exact h
    | 15, ⟨b, h1, h2, x0, x1, x2, x3, x4, x5, x6, h3⟩ => exact (if e : b = b2 then (by subst e; exact ⟨b, h1, h2, _, _, _, _, _, _, _, hf⟩) else ⟨b, h1, h2, x0, x1, x2, x3, x4, x5, x6, ha.blk h3 e⟩)
    | 16, _ => exact absurd rfl hij
    | 17, h => exact h
    | _ + 18, _ => exact trivial
  · have hb := hr
    match i, h with
    | 0, h => exact h
    | 1, h => exact h
    | 2, h => exact h
    | 3, h => exact h
    | 4, h => exact h
    | 5, h => exact h
    | 6, h => exact h
    | 7, h => exact h
    | 8, h => exact h
    | 9, h => exact h
    | 10, h => exact h
    | 11, ⟨u, h1, h2⟩ => exact ⟨u, h1, h2.below hb⟩
    | 12, ⟨u, h1, h2⟩ => exact ⟨u, h1, h2.below hb⟩
    | 13, ⟨u, h1, h2⟩ => exact ⟨u, h1, h2.below hb⟩
    | 14, h => exact h
    | 15, ⟨b, h1, h2, x0, x1, x2, x3, x4, x5, x6, h3⟩ => exact ⟨b, h1, h2, x0, x1, x2, x3, x4, x5, x6, h3.keep hb⟩
    | 16, ⟨b, u, h1, h2, h3, h4⟩ => exact ⟨b, u, h1, h2, h3.keep hb, h4.below hb⟩
    | 17, h => exact h
    | _ + 18, _ => exact trivial
def rPhi (g ge oe n1 c1 j : Nat) (x : Ev) (ok : Bool) (k : Nat) (v : Value) (_ : World) : Prop := match k with
  | 0 => v = .pointer (some ⟨g, 0, none⟩)
  | 1 => v = .slice (some ⟨ge, oe, none⟩) n1 c1
  | 2 => v = .int .i64 j
  | 3 => v = .pointer (some ⟨ge, oe + j * 2, none⟩)
  | 4 => v = .pointer (some ⟨ge, oe + j * 2, none⟩)
  | 5 => v = .string x.k
  | 6 => v = .slice (some ⟨ge, oe, none⟩) n1 c1
  | 7 => v = .int .i64 j
  | 8 => v = .pointer (some ⟨ge, oe + j * 2, none⟩)
  | 9 => v = .pointer (some ⟨ge, oe + j * 2 + 1, none⟩)
  | 10 => v = .int .i64 x.n
  | 11 => v = .bool ok
  | 12 => v = .bool ok
  | 13 => v = .bool false
  | _ => True
def tR (g m : Nat) (S : RS) (i : Nat) (w w' : World) : Prop := if i = 11 then Lim w' g m S ∧ Apart (Fl g m) w w' else w' = w
def tC (g m : Nat) (S S3 : RS) (w1 : World) (d : Nat → Bool) (w : World) : Prop := Apart (Fl g m) w1 w ∧ (d 11 = false → Lim w g m S) ∧ (d 11 = true → Lim w g m S3)
theorem tR_rfl {g m i : Nat} {S : RS} {w : World} (h : i ≠ 11) : tR g m S i w w := by unfold tR; rw [if_neg h]
theorem tR_call {g m : Nat} {S : RS} {w w' : World} (h : Lim w' g m S) (h2 : Apart (Fl g m) w w') : tR g m S 11 w w' := by unfold tR; rw [if_pos rfl]; exact ⟨h, h2⟩
theorem tC_step {g m i : Nat} {S S3 : RS} {w1 w w' : World} {d : Nat → Bool} (h : tC g m S S3 w1 d w) (hr : tR g m S3 i w w') : tC g m S S3 w1 (fun j => if j = i then true else d j) w' := by
  unfold tR at hr
  split at hr
  · rename_i e
    subst e
    exact ⟨h.1.trans hr.2 (fun _ h => .inl h), fun h2 => by simp at h2, fun _ => hr.1⟩
  · rename_i e
    subst hr
    have e2 : (fun j => if j = i then true else d j) 11 = d 11 := if_neg (fun h => e h.symm)
    exact ⟨h.1, fun h2 => h.2.1 (e2 ▸ h2), fun h2 => h.2.2 (e2 ▸ h2)⟩
theorem ev_cells {B ge oe n1 c1 j : Nat} {L : List Ev} {w0 w : World} (hL : ∀ w', Below B w0 w' → Rows' REv w' (.slice (some ⟨ge, oe, none⟩) n1 c1) L) (hj : j < L.length) (hb : Below B w0 w) : w.cell? ⟨ge, oe + j * 2, none⟩ = some (.string L[j].k) ∧ w.cell? ⟨ge, oe + j * 2 + 1, none⟩ = some (.int .i64 L[j].n) := by
  obtain ⟨g', o', e, _, _, h⟩ := ev_at (hL w hb) hj
  simp only [Option.some.injEq, Addr.mk.injEq] at e
  obtain ⟨rfl, rfl, _⟩ := e
  exact h w (Below.refl _ _)
section
variable {w w' : World} {g m B : Nat} {S : RS} {a a1 : Option Addr} {n c n1 c1 : Nat} {e : Int}
set_option maxRecDepth 100000 in
set_option maxHeartbeats 8000000 in
theorem play_c {L : List Ev} (h : Own RBk w B (.slice a n c) S.L) (hl : Lim w g m S) (hS : S.Ok e) (he : e ≤ 100) (hn : n1 ≤ 60) (hE : OkE L) (hL : ∀ w', Below B w w' → Rows' REv w' (.slice a1 n1 c1) L) (hB : B ≤ w.heap.size) (hg : B ≤ g) (hm : B ≤ m) :
    Calls Try.prog 12 #[.pointer (some ⟨g, 0, none⟩), .agg #[.int .i64 S.b, .int .i64 S.i, .int .i64 S.n, .int .i64 S.t, .slice a n c, .int .i64 S.al, .int .i64 S.dr], .slice a1 n1 c1] w fun r w' => ∃ v', r = .returned (.tuple #[.agg #[.int .i64 (playS S L).b, .int .i64 (playS S L).i, .int .i64 (playS S L).n, .int .i64 (playS S L).t, v', .int .i64 (playS S L).al, .int .i64 (playS S L).dr], .bool true]) ∧ Own RBk w' B v' (playS S L).L ∧ Lim w' g m (playS S L) ∧ Apart (Fl g m) w w' := by
  have HO := Lib.hid h
  have HLM := Lib.hid hl
  have HOK := Lib.hid hS
  have HE := Lib.hid hE
  have HL := Lib.hid hL
  have HBB : Hid (B ≤ w.heap.size ∧ B ≤ g ∧ B ≤ m ∧ e ≤ 100 ∧ n1 ≤ 60) := Lib.hid ⟨hB, hg, hm, he, hn⟩
  have HN : Hid (n1 = L.length) := Lib.hid (rows_len (hL w (Below.refl _ _)))
  clear h hl hS he hn hE hL hB hg hm
  have HB : Hid (Below w.heap.size w ((w.alloc (.cells #[.int .i64 S.b, .int .i64 S.i, .int .i64 S.n, .int .i64 S.t, .slice a n c, .int .i64 S.al, .int .i64 S.dr] 29)).alloc (.cells #[.int .i64 0, .int .i64 0, .int .i64 0, .int .i64 0, .slice none 0 0, .int .i64 0, .int .i64 0] 29))) := Lib.hid (((Below.refl _ _).alloc (Nat.le_refl _) _).alloc (by simp) _)
  have HX : Hid (Blk ((w.alloc (.cells #[.int .i64 S.b, .int .i64 S.i, .int .i64 S.n, .int .i64 S.t, .slice a n c, .int .i64 S.al, .int .i64 S.dr] 29)).alloc (.cells #[.int .i64 0, .int .i64 0, .int .i64 0, .int .i64 0, .slice none 0 0, .int .i64 0, .int .i64 0] 29)) w.heap.size 29 #[.int .i64 S.b, .int .i64 S.i, .int .i64 S.n, .int .i64 S.t, .slice a n c, .int .i64 S.al, .int .i64 S.dr]) := Lib.hid ((Blk.new w _ _).alloc _)
  have HZ : Hid (Blk ((w.alloc (.cells #[.int .i64 S.b, .int .i64 S.i, .int .i64 S.n, .int .i64 S.t, .slice a n c, .int .i64 S.al, .int .i64 S.dr] 29)).alloc (.cells #[.int .i64 0, .int .i64 0, .int .i64 0, .int .i64 0, .slice none 0 0, .int .i64 0, .int .i64 0] 29)) (w.heap.size + 1) 29 #[.int .i64 0, .int .i64 0, .int .i64 0, .int .i64 0, .slice none 0 0, .int .i64 0, .int .i64 0]) := Lib.hid (by
    have := Blk.new (w.alloc (.cells #[.int .i64 S.b, .int .i64 S.i, .int .i64 S.n, .int .i64 S.t, .slice a n c, .int .i64 S.al, .int .i64 S.dr] 29)) 29 #[.int .i64 0, .int .i64 0, .int .i64 0, .int .i64 0, .slice none 0 0, .int .i64 0, .int .i64 0]
    simpa using this)
  go_enter Try.func12, Try.ntmps12
  go_wp2_with fail
  generalize ((w.alloc (.cells #[.int .i64 S.b, .int .i64 S.i, .int .i64 S.n, .int .i64 S.t, .slice a n c, .int .i64 S.al, .int .i64 S.dr] 29)).alloc (.cells #[.int .i64 0, .int .i64 0, .int .i64 0, .int .i64 0, .slice none 0 0, .int .i64 0, .int .i64 0] 29)) = W at *
  have HLW := Lib.hid (HLM.out.keep HB.out)
  have HOW := Lib.hid (HO.out.below HB.out)
  have HPS : Hid (Lim w g m S) := HLM
  have HAW : Hid (Apart (Fl g m) w W) := Lib.hid (Apart.of HB.out)
  have HBP : Hid (B ≤ w.heap.size) := Lib.hid HBB.out.1
  have HW0 := Lib.hid (Nat.le_refl w.heap.size)
  generalize hp : w.heap.size = p at HX HZ HW0 ⊢
  have HP := Lib.hid hp
  clear hp HB HLM HO
  go_loopw [8] (fun vi wr => ∃ (j : Nat) (T : RS) (aj : Option Addr) (nj cj : Nat), j ≤ n1 ∧ vi = .int .i64 j ∧ Hid (T = playS S (L.take j)) ∧ Hid (T.Ok (e + j)) ∧ Hid (Lim wr g m T) ∧ Hid (Blk wr p 29 #[.int .i64 T.b, .int .i64 T.i, .int .i64 T.n, .int .i64 T.t, .slice aj nj cj, .int .i64 T.al, .int .i64 T.dr]) ∧ Hid (Own RBk wr B (.slice aj nj cj) T.L) ∧ Hid (Blk wr (p + 1) 29 #[.int .i64 0, .int .i64 0, .int .i64 0, .int .i64 0, .slice none 0 0, .int .i64 0, .int .i64 0]) ∧ Hid (Apart (Fl g m) w wr)) (fun vi _ => n1 - (intOf vi).toNat)
  case atStart => exact ⟨0, S, a, n, c, Nat.zero_le _, rfl, Lib.hid rfl, Lib.hid (by have := HOK.out; rwa [show e + ((0 : Nat) : Int) = e by omega]), HLW, HX, HOW, HZ, HAW⟩
  case round =>
    obtain ⟨j, S2, aj, nj, cj, hj, rfl, HPL, HOK2, HLM, HX, HO, HZ, HA⟩ := hrel
    obtain ⟨x0, x1, x2, x3, x4, x5, x6⟩ := HX.out.cells7
    by_cases hlt : j < n1
    · have hlt' : (j : Int) < (n1 : Int) := by omega
      have HJ : Hid (j ≤ 60) := Lib.hid (by have := HBB.out; omega)
      have hj60 := HJ.out
      have hjl : j < L.length := by have := HN.out; omega
      have HBR : Hid (Below B w wr) := Lib.hid (fl_below HA.out HBB.out.1 HBB.out.2.1 HBB.out.2.2.1)
      have HLR : Hid (Rows' REv wr (.slice a1 n1 c1) L) := Lib.hid (HL.out wr HBR.out)
      obtain ⟨ge, oe, rfl, -, hn1c, hev⟩ := ev_at HLR.out hjl
      have HTK : Hid (L.take (j + 1) = L.take j ++ [L[j]]) := Lib.hid (by rw [List.take_succ_eq_append_getElem hjl])
      have HEV5 : Hid (∀ w1, Below B w w1 → w1.cell? ⟨ge, oe + j * 2, none⟩ = some (.string L[j].k) ∧ w1.cell? ⟨ge, oe + j * 2 + 1, none⟩ = some (.int .i64 L[j].n)) := Lib.hid fun w1 h1 => ev_cells HL.out hjl h1
      have hks := HE.out _ (List.getElem_mem hjl)
      generalize L[j] = x at hev hks HTK HEV5
      have HKS := Lib.hid hks.1
      have HEV : Hid (∀ w1, Kp wr w1 → w1.cell? ⟨ge, oe + j * 2, none⟩ = some (.string x.k) ∧ w1.cell? ⟨ge, oe + j * 2 + 1, none⟩ = some (.int .i64 x.n)) := Lib.hid fun w1 h1 => hev w1 h1
      have HBS : Hid (B ≤ wr.heap.size) := Lib.hid (by have := HA.out.size; have := HBB.out.1; omega)
      have HAL : Hid (∀ w1, Kp wr w1 → Calls Try.prog 22 #[.agg #[.int .i64 S2.b, .int .i64 S2.i, .int .i64 S2.n, .int .i64 S2.t, .slice aj nj cj, .int .i64 S2.al, .int .i64 S2.dr], .string x.k, .int .i64 x.n] w1 fun r w' => AOut w1 w' B S2 (timeR S2 x.n) (allowR S2 x.k x.n) r) := Lib.hid fun w1 h1 => rallow_c x.n (HO.out.below h1) (Nat.le_trans HBS.out h1.size) HOK2.out (by have := HBB.out; have := HJ.out; omega) HKS.out
      clear hev hks hjl
      go_upto_region 4 with fail
      clear x0 x1 x2 x3 x4 x5 x6
      refine wp_region_lnk (fun _ u => Below wr.heap.size wr u) (qR wr.heap.size B S2 (timeR S2 x.n) (allowR S2 x.k x.n)) (pPhi ge oe n1 c1 j wr.heap.size B aj nj cj x S2 (timeR S2 x.n) (allowR S2 x.k x.n)) (fun q => if q == 16 then some 9 else none) (by kernel_rfl) (by kernel_rfl) (by kernel_rfl) (Below.refl _ _).drew (fun _ _ _ _ _ h hr => qC_step h hr) [] (by kernel_rfl) (fun _ _ _ _ _ hij _ h hr => pPhi_keep hij h hr) ?_ ?_
      · refine ⟨⟨trivial, fun A uw d hd hC hF hW K Q hk => ?_⟩, ⟨trivial, fun A uw d hd hC hF hW K Q hk => ?_⟩, ⟨trivial, fun A uw d hd hC hF hW K Q hk => ?_⟩, ⟨trivial, fun A uw d hd hC hF hW K Q hk => ?_⟩, ⟨trivial, fun A uw d hd hC hF hW K Q hk => ?_⟩, ⟨trivial, fun A uw d hd hC hF hW K Q hk => ?_⟩, ⟨trivial, fun A uw d hd hC hF hW K Q hk => ?_⟩, ⟨trivial, fun A uw d hd hC hF hW K Q hk => ?_⟩, ⟨trivial, fun A uw d hd hC hF hW K Q hk => ?_⟩, ⟨trivial, fun A uw d hd hC hF hW K Q hk => ?_⟩, ⟨trivial, fun A uw d hd hC hF hW K Q hk => ?_⟩, ⟨trivial, fun A uw d hd hC hF hW K Q hk => ?_⟩, ⟨trivial, fun A uw d hd hC hF hW K Q hk => ?_⟩, ⟨trivial, fun A uw d hd hC hF hW K Q hk => ?_⟩, ⟨trivial, fun A uw d hd hC hF hW K Q hk => ?_⟩, ⟨trivial, fun A uw d hd hC hF hW K Q hk => ?_⟩, ⟨trivial, fun A uw d hd hC hF hW K Q hk => ?_⟩, ⟨trivial, fun A uw d hd hC hF hW K Q hk => ?_⟩, trivial⟩
        · have f4 : A.tmps[4]?.getD undef = .pointer (some ⟨p, 0, none⟩) := fg_none (hF 4) (by kernel_rfl)
          obtain ⟨x0, x1, x2, x3, x4, x5, x6⟩ := (HX.out.keep hC).cells7
          refine Giv.wp (φ := (pPhi ge oe n1 c1 j wr.heap.size B aj nj cj x S2 (timeR S2 x.n) (allowR S2 x.k x.n)) 0) ?_ hk
          unfold Giv
          go_simp
          exact giv_val (P := Try.prog) (qR_of (by decide) (Below.refl _ _)) (by first | rfl | simp)
        · have f2 : A.tmps[2]?.getD undef = .slice (some ⟨ge, oe, none⟩) n1 c1 := fg_none (hF 2) (by kernel_rfl)
          refine Giv.wp (φ := (pPhi ge oe n1 c1 j wr.heap.size B aj nj cj x S2 (timeR S2 x.n) (allowR S2 x.k x.n)) 1) ?_ hk
          unfold Giv
          go_simp
          exact giv_val (P := Try.prog) (qR_of (by decide) (Below.refl _ _)) (by first | rfl | simp)
        · have f8 : A.tmps[8]?.getD undef = .int .i64 j := fg_none (hF 8) (by kernel_rfl)
          refine Giv.wp (φ := (pPhi ge oe n1 c1 j wr.heap.size B aj nj cj x S2 (timeR S2 x.n) (allowR S2 x.k x.n)) 2) ?_ hk
          unfold Giv
          go_simp
          exact giv_val (P := Try.prog) (qR_of (by decide) (Below.refl _ _)) (by first | rfl | simp)
        · have f19 : A.tmps[19]?.getD undef = .slice (some ⟨ge, oe, none⟩) n1 c1 := fg_some (hF 19) (j := 1) (by kernel_rfl) (by kernel_rfl)
          have f20 : A.tmps[20]?.getD undef = .int .i64 j := fg_some (hF 20) (j := 2) (by kernel_rfl) (by kernel_rfl)
          refine Giv.wp (φ := (pPhi ge oe n1 c1 j wr.heap.size B aj nj cj x S2 (timeR S2 x.n) (allowR S2 x.k x.n)) 3) ?_ hk
          unfold Giv
          go_simp
          exact giv_val (P := Try.prog) (qR_of (by decide) (Below.refl _ _)) (by first | rfl | simp)
        · have f21 : A.tmps[21]?.getD undef = .pointer (some ⟨ge, oe + j * 2, none⟩) := fg_some (hF 21) (j := 3) (by kernel_rfl) (by kernel_rfl)
          refine Giv.wp (φ := (pPhi ge oe n1 c1 j wr.heap.size B aj nj cj x S2 (timeR S2 x.n) (allowR S2 x.k x.n)) 4) ?_ hk
          unfold Giv
          go_simp
          exact giv_val (P := Try.prog) (qR_of (by decide) (Below.refl _ _)) (by first | rfl | simp)
        · have f22 : A.tmps[22]?.getD undef = .pointer (some ⟨ge, oe + j * 2, none⟩) := fg_some (hF 22) (j := 4) (by kernel_rfl) (by kernel_rfl)
          obtain ⟨q0, q1⟩ := HEV.out uw hC
          refine Giv.wp (φ := (pPhi ge oe n1 c1 j wr.heap.size B aj nj cj x S2 (timeR S2 x.n) (allowR S2 x.k x.n)) 5) ?_ hk
          unfold Giv
          go_simp
          exact giv_val (P := Try.prog) (qR_of (by decide) (Below.refl _ _)) (by first | rfl | simp)
        · have f2 : A.tmps[2]?.getD undef = .slice (some ⟨ge, oe, none⟩) n1 c1 := fg_none (hF 2) (by kernel_rfl)
          refine Giv.wp (φ := (pPhi ge oe n1 c1 j wr.heap.size B aj nj cj x S2 (timeR S2 x.n) (allowR S2 x.k x.n)) 6) ?_ hk
          unfold Giv
          go_simp
          exact giv_val (P := Try.prog) (qR_of (by decide) (Below.refl _ _)) (by first | rfl | simp)
        · have f8 : A.tmps[8]?.getD undef = .int .i64 j := fg_none (hF 8) (by kernel_rfl)
          refine Giv.wp (φ := (pPhi ge oe n1 c1 j wr.heap.size B aj nj cj x S2 (timeR S2 x.n) (allowR S2 x.k x.n)) 7) ?_ hk
          unfold Giv
          go_simp
          exact giv_val (P := Try.prog) (qR_of (by decide) (Below.refl _ _)) (by first | rfl | simp)
        · have f24 : A.tmps[24]?.getD undef = .slice (some ⟨ge, oe, none⟩) n1 c1 := fg_some (hF 24) (j := 6) (by kernel_rfl) (by kernel_rfl)
          have f25 : A.tmps[25]?.getD undef = .int .i64 j := fg_some (hF 25) (j := 7) (by kernel_rfl) (by kernel_rfl)
          refine Giv.wp (φ := (pPhi ge oe n1 c1 j wr.heap.size B aj nj cj x S2 (timeR S2 x.n) (allowR S2 x.k x.n)) 8) ?_ hk
          unfold Giv
          go_simp
          exact giv_val (P := Try.prog) (qR_of (by decide) (Below.refl _ _)) (by first | rfl | simp)
        · have f26 : A.tmps[26]?.getD undef = .pointer (some ⟨ge, oe + j * 2, none⟩) := fg_some (hF 26) (j := 8) (by kernel_rfl) (by kernel_rfl)
          refine Giv.wp (φ := (pPhi ge oe n1 c1 j wr.heap.size B aj nj cj x S2 (timeR S2 x.n) (allowR S2 x.k x.n)) 9) ?_ hk
          unfold Giv
          go_simp
          exact giv_val (P := Try.prog) (qR_of (by decide) (Below.refl _ _)) (by first | rfl | simp)
        · have f27 : A.tmps[27]?.getD undef = .pointer (some ⟨ge, oe + j * 2 + 1, none⟩) := fg_some (hF 27) (j := 9) (by kernel_rfl) (by kernel_rfl)
          obtain ⟨q0, q1⟩ := HEV.out uw hC
          refine Giv.wp (φ := (pPhi ge oe n1 c1 j wr.heap.size B aj nj cj x S2 (timeR S2 x.n) (allowR S2 x.k x.n)) 10) ?_ hk
          unfold Giv
          go_simp
          exact giv_val (P := Try.prog) (qR_of (by decide) (Below.refl _ _)) (by first | rfl | simp)
        · have f18 : A.tmps[18]?.getD undef = .agg #[.int .i64 S2.b, .int .i64 S2.i, .int .i64 S2.n, .int .i64 S2.t, .slice aj nj cj, .int .i64 S2.al, .int .i64 S2.dr] := fg_some (hF 18) (j := 0) (by kernel_rfl) (by kernel_rfl)
          have f23 : A.tmps[23]?.getD undef = .string x.k := fg_some (hF 23) (j := 5) (by kernel_rfl) (by kernel_rfl)
          have f28 : A.tmps[28]?.getD undef = .int .i64 x.n := fg_some (hF 28) (j := 10) (by kernel_rfl) (by kernel_rfl)
          refine Giv.wp (φ := (pPhi ge oe n1 c1 j wr.heap.size B aj nj cj x S2 (timeR S2 x.n) (allowR S2 x.k x.n)) 11) ?_ hk
          unfold Giv
          go_simp
          exact giv_enter (P := Try.prog) ((HAL.out uw hC).mono fun _ _ h => by obtain ⟨u1, he, ho⟩ := h.o; exact ⟨_, he, qR_of (by decide) ho.2, u1, rfl, ho.1⟩)
        · obtain ⟨u1, f29, ho1⟩ : ∃ u, A.tmps[29]?.getD undef = .tuple #[.agg #[.int .i64 S2.b, .int .i64 S2.i, .int .i64 S2.n, .int .i64 (timeR S2 x.n), u, .int .i64 (allowR S2 x.k x.n).1.al, .int .i64 (allowR S2 x.k x.n).1.dr], .bool (allowR S2 x.k x.n).2] ∧ Own RBk uw B u (allowR S2 x.k x.n).1.L := fg_some (hF 29) (j := 11) (by kernel_rfl) (by kernel_rfl)
          refine Giv.wp (φ := (pPhi ge oe n1 c1 j wr.heap.size B aj nj cj x S2 (timeR S2 x.n) (allowR S2 x.k x.n)) 12) ?_ hk
          unfold Giv
          go_simp
          exact giv_val (P := Try.prog) (qR_of (by decide) (Below.refl _ _)) ⟨u1, rfl, ho1⟩
        · obtain ⟨u1, f17, ho1⟩ : ∃ u, A.tmps[17]?.getD undef = .tuple #[.agg #[.int .i64 S2.b, .int .i64 S2.i, .int .i64 S2.n, .int .i64 (timeR S2 x.n), u, .int .i64 (allowR S2 x.k x.n).1.al, .int .i64 (allowR S2 x.k x.n).1.dr], .bool (allowR S2 x.k x.n).2] ∧ Own RBk uw B u (allowR S2 x.k x.n).1.L := fg_some (hF 17) (j := 12) (by kernel_rfl) (by kernel_rfl)
          refine Giv.wp (φ := (pPhi ge oe n1 c1 j wr.heap.size B aj nj cj x S2 (timeR S2 x.n) (allowR S2 x.k x.n)) 13) ?_ hk
          unfold Giv
          go_simp
          exact giv_val (P := Try.prog) (qR_of (by decide) (Below.refl _ _)) ⟨u1, rfl, ho1⟩
        · obtain ⟨u1, f17, ho1⟩ : ∃ u, A.tmps[17]?.getD undef = .tuple #[.agg #[.int .i64 S2.b, .int .i64 S2.i, .int .i64 S2.n, .int .i64 (timeR S2 x.n), u, .int .i64 (allowR S2 x.k x.n).1.al, .int .i64 (allowR S2 x.k x.n).1.dr], .bool (allowR S2 x.k x.n).2] ∧ Own RBk uw B u (allowR S2 x.k x.n).1.L := fg_some (hF 17) (j := 12) (by kernel_rfl) (by kernel_rfl)
          refine Giv.wp (φ := (pPhi ge oe n1 c1 j wr.heap.size B aj nj cj x S2 (timeR S2 x.n) (allowR S2 x.k x.n)) 14) ?_ hk
          unfold Giv
          go_simp
          exact giv_val (P := Try.prog) (qR_of (by decide) (Below.refl _ _)) (by first | rfl | simp)
        · refine Giv.wp (φ := (pPhi ge oe n1 c1 j wr.heap.size B aj nj cj x S2 (timeR S2 x.n) (allowR S2 x.k x.n)) 15) ?_ hk
          unfold Giv
          go_simp
          exact giv_val (P := Try.prog) (qR_of (by decide) ((Below.refl _ _).alloc (Nat.le_refl _) _)) ⟨_, rfl, hC.size, _, _, _, _, _, _, _, Blk.new _ _ _⟩
        · obtain ⟨u1, f30, ho1⟩ : ∃ u, A.tmps[30]?.getD undef = .agg #[.int .i64 S2.b, .int .i64 S2.i, .int .i64 S2.n, .int .i64 (timeR S2 x.n), u, .int .i64 (allowR S2 x.k x.n).1.al, .int .i64 (allowR S2 x.k x.n).1.dr] ∧ Own RBk uw B u (allowR S2 x.k x.n).1.L := fg_some (hF 30) (j := 13) (by kernel_rfl) (by kernel_rfl)
          obtain ⟨a9, n9, c9, rfl⟩ : ∃ a9 n9 c9, u1 = .slice a9 n9 c9 := by obtain ⟨a9, c9, h⟩ := ho1.isSl; exact ⟨_, _, _, h⟩
          obtain ⟨gb, f9, hgb, x0, x1, x2, x3, x4, x5, x6, hbb⟩ : ∃ gb, A.tmps[9]?.getD undef = .pointer (some ⟨gb, 0, none⟩) ∧ wr.heap.size ≤ gb ∧ ∃ x0 x1 x2 x3 x4 x5 x6, Blk uw gb 29 #[x0, x1, x2, x3, x4, x5, x6] := fg_some (hF 9) (j := 15) (by kernel_rfl) (by kernel_rfl)
          have e9 : A.eval (.tmp 9) = .pointer (some ⟨gb, 0, none⟩) := by rw [← f9]; simp [Act.eval]
          obtain ⟨r0, r1, r2, r3, r4, r5, r6⟩ := hbb.cells7
          obtain ⟨z0, z1, z2, z3, z4, z5, z6⟩ := hbb.frozen7
          refine Giv.wp (φ := fun _ w2 => (pPhi ge oe n1 c1 j wr.heap.size B aj nj cj x S2 (timeR S2 x.n) (allowR S2 x.k x.n)) 16 (A.eval (.tmp 9)) w2) ?_ hk
          rw [e9]
          unfold Giv
          go_simp
          have hap := apart_set7 (F := fun k => k = gb) (g := gb) (Apart.refl (w := uw)) (.inl rfl) (.int .i64 S2.b) (.int .i64 S2.i) (.int .i64 S2.n) (.int .i64 (timeR S2 x.n)) (.slice a9 n9 c9) (.int .i64 (allowR S2 x.k x.n).1.al) (.int .i64 (allowR S2 x.k x.n).1.dr)
          have hbf := hbb.set7 (.int .i64 S2.b) (.int .i64 S2.i) (.int .i64 S2.n) (.int .i64 (timeR S2 x.n)) (.slice a9 n9 c9) (.int .i64 (allowR S2 x.k x.n).1.al) (.int .i64 (allowR S2 x.k x.n).1.dr)
          have hof := own_apart ho1 hap (fun k cs hk e => (hk.ne hbb (by decide)) e)
          first | exact giv_skip (P := Try.prog) (qR_fill hgb hbb hap hbf hof) ⟨gb, _, rfl, hgb, hbf, hof⟩ | exact giv_val (P := Try.prog) (qR_fill hgb hbb hap hbf hof) ⟨gb, _, rfl, hgb, hbf, hof⟩
        · have f31 : A.tmps[31]?.getD undef = .bool (allowR S2 x.k x.n).2 := fg_some (hF 31) (j := 14) (by kernel_rfl) (by kernel_rfl)
          refine Giv.wp (φ := (pPhi ge oe n1 c1 j wr.heap.size B aj nj cj x S2 (timeR S2 x.n) (allowR S2 x.k x.n)) 17) ?_ hk
          unfold Giv
          go_simp
          exact giv_val (P := Try.prog) (qR_of (by decide) (Below.refl _ _)) (by first | rfl | simp)
      intro a0 W4 d hd hC4 hsz hdf hF hL
      have ha := end_gen [false, false, false, false, false, false, false, false, false, true, true, false, false, false, false, false, false, true, true, true, true, true, true, true, true, true, true, true, true, true, true, true, false, false, false, false, false, false, false, false, false, false, false, false, false, false, false, false, false] hsz hdf hF (by kernel_rfl)
      have f10 : a0.tmps[10]?.getD undef = .bool (allowR S2 x.k x.n).2 := fe_some (hF 10) (j := 17) (by kernel_rfl)
      obtain ⟨gb, u, f9, hgb, hbb, hbo⟩ : ∃ gb u, a0.tmps[9]?.getD undef = .pointer (some ⟨gb, 0, none⟩) ∧ wr.heap.size ≤ gb ∧ Blk W4 gb 29 #[.int .i64 S2.b, .int .i64 S2.i, .int .i64 S2.n, .int .i64 (timeR S2 x.n), u, .int .i64 (allowR S2 x.k x.n).1.al, .int .i64 (allowR S2 x.k x.n).1.dr] ∧ Own RBk W4 B u (allowR S2 x.k x.n).1.L := fl_link hL (j := 16) rfl rfl rfl
      rw [ha]
      clear ha hF hL hd
      simp only [cutM_yes, cutM_no, cutM_nil, Nat.reduceAdd]
      rw [f10, f9]
      clear f10 f9 hsz hdf
      obtain ⟨a9, n9, c9, rfl⟩ : ∃ a9 n9 c9, u = .slice a9 n9 c9 := by obtain ⟨a9, c9, h⟩ := hbo.isSl; exact ⟨_, _, _, h⟩
      have HLM4 := Lib.hid (HLM.out.keep hC4)
      have HX4 := Lib.hid (HX.out.keep hC4)
      have HZ4 := Lib.hid (HZ.out.keep hC4)
      have HA4 : Hid (Apart (Fl g m) w W4) := Lib.hid (HA.out.trans (show Apart (Fl g m) wr W4 from Apart.of hC4) (fun _ h => .inl h))
      have HBX := Lib.hid hbb
      have HOX := Lib.hid hbo
      have HGB : Hid (g < gb ∧ m < gb ∧ p < gb ∧ p + 1 < gb) := Lib.hid ⟨by have := HLM.out.blk.lt; omega, by have := HLM.out.mp.lt; omega, by have := HX.out.lt; omega, by have := HZ.out.lt; omega⟩
      have HAL5 : Hid (∀ w1, Lim w1 g m S2 → Calls Try.prog 15 #[.pointer (some ⟨g, 0, none⟩), .string x.k, .int .i64 x.n] w1 fun r w' => r = .returned (.bool (allowR S2 x.k x.n).2) ∧ Lim w' g m (allowR S2 x.k x.n).1 ∧ Apart (Fl g m) w1 w') := Lib.hid fun w1 h1 => allow_c x.n h1 HOK2.out (by have := HBB.out; have := HJ.out; omega) HKS.out
      have HEV5 : Hid (∀ w1, Apart (Fl g m) W4 w1 → w1.cell? ⟨ge, oe + j * 2, none⟩ = some (.string x.k) ∧ w1.cell? ⟨ge, oe + j * 2 + 1, none⟩ = some (.int .i64 x.n)) := Lib.hid fun w1 h1 => HEV5.out w1 (fl_below (HA4.out.trans h1 (fun _ h => .inl h)) HBB.out.1 HBB.out.2.1 HBB.out.2.2.1)
      clear hC4 hbb hbo HLM HX HZ HA HAL HEV hgb HO
      generalize hok : (allowR S2 x.k x.n).2 = ok at *
      clear hok
      go_upto_region 5 with fail
      refine wp_region_lnk (tC g m S2 (allowR S2 x.k x.n).1 W4) (tR g m (allowR S2 x.k x.n).1) (rPhi g ge oe n1 c1 j x ok) (fun _ => none) (by kernel_rfl) (by kernel_rfl) (by kernel_rfl) ⟨Apart.of (Below.refl _ _).drew, fun _ => HLM4.out.keep (Below.refl _ _).drew, fun h => by cases h⟩ (fun _ _ _ _ _ h hr => tC_step h hr) [] (by kernel_rfl) (fun i k2 v u u2 _ _ h _ => h) ?_ ?_
      · refine ⟨⟨trivial, fun A uw d hd hC hF hW K Q hk => ?_⟩, ⟨trivial, fun A uw d hd hC hF hW K Q hk => ?_⟩, ⟨trivial, fun A uw d hd hC hF hW K Q hk => ?_⟩, ⟨trivial, fun A uw d hd hC hF hW K Q hk => ?_⟩, ⟨trivial, fun A uw d hd hC hF hW K Q hk => ?_⟩, ⟨trivial, fun A uw d hd hC hF hW K Q hk => ?_⟩, ⟨trivial, fun A uw d hd hC hF hW K Q hk => ?_⟩, ⟨trivial, fun A uw d hd hC hF hW K Q hk => ?_⟩, ⟨trivial, fun A uw d hd hC hF hW K Q hk => ?_⟩, ⟨trivial, fun A uw d hd hC hF hW K Q hk => ?_⟩, ⟨trivial, fun A uw d hd hC hF hW K Q hk => ?_⟩, ⟨trivial, fun A uw d hd hC hF hW K Q hk => ?_⟩, ⟨trivial, fun A uw d hd hC hF hW K Q hk => ?_⟩, ⟨trivial, fun A uw d hd hC hF hW K Q hk => ?_⟩, trivial⟩
        · have f0 : A.tmps[0]?.getD undef = .pointer (some ⟨g, 0, none⟩) := fg_none (hF 0) (by kernel_rfl)
          refine Giv.wp (φ := rPhi g ge oe n1 c1 j x ok 0) ?_ hk
          unfold Giv
          go_simp
          exact giv_val (P := Try.prog) (tR_rfl (by decide)) (by first | rfl | simp)
        · have f2 : A.tmps[2]?.getD undef = .slice (some ⟨ge, oe, none⟩) n1 c1 := fg_none (hF 2) (by kernel_rfl)
          refine Giv.wp (φ := rPhi g ge oe n1 c1 j x ok 1) ?_ hk
          unfold Giv
          go_simp
          exact giv_val (P := Try.prog) (tR_rfl (by decide)) (by first | rfl | simp)
        · have f8 : A.tmps[8]?.getD undef = .int .i64 j := fg_none (hF 8) (by kernel_rfl)
          refine Giv.wp (φ := rPhi g ge oe n1 c1 j x ok 2) ?_ hk
          unfold Giv
          go_simp
          exact giv_val (P := Try.prog) (tR_rfl (by decide)) (by first | rfl | simp)
        · have f33 : A.tmps[33]?.getD undef = .slice (some ⟨ge, oe, none⟩) n1 c1 := fg_some (hF 33) (j := 1) (by kernel_rfl) (by kernel_rfl)
          have f34 : A.tmps[34]?.getD undef = .int .i64 j := fg_some (hF 34) (j := 2) (by kernel_rfl) (by kernel_rfl)
          refine Giv.wp (φ := rPhi g ge oe n1 c1 j x ok 3) ?_ hk
          unfold Giv
          go_simp
          exact giv_val (P := Try.prog) (tR_rfl (by decide)) (by first | rfl | simp)
        · have f35 : A.tmps[35]?.getD undef = .pointer (some ⟨ge, oe + j * 2, none⟩) := fg_some (hF 35) (j := 3) (by kernel_rfl) (by kernel_rfl)
          refine Giv.wp (φ := rPhi g ge oe n1 c1 j x ok 4) ?_ hk
          unfold Giv
          go_simp
          exact giv_val (P := Try.prog) (tR_rfl (by decide)) (by first | rfl | simp)
        · have f36 : A.tmps[36]?.getD undef = .pointer (some ⟨ge, oe + j * 2, none⟩) := fg_some (hF 36) (j := 4) (by kernel_rfl) (by kernel_rfl)
          obtain ⟨q0, q1⟩ := HEV5.out uw hC.1
          refine Giv.wp (φ := rPhi g ge oe n1 c1 j x ok 5) ?_ hk
          unfold Giv
          go_simp
          exact giv_val (P := Try.prog) (tR_rfl (by decide)) (by first | rfl | simp)
        · have f2 : A.tmps[2]?.getD undef = .slice (some ⟨ge, oe, none⟩) n1 c1 := fg_none (hF 2) (by kernel_rfl)
          refine Giv.wp (φ := rPhi g ge oe n1 c1 j x ok 6) ?_ hk
          unfold Giv
          go_simp
          exact giv_val (P := Try.prog) (tR_rfl (by decide)) (by first | rfl | simp)
        · have f8 : A.tmps[8]?.getD undef = .int .i64 j := fg_none (hF 8) (by kernel_rfl)
          refine Giv.wp (φ := rPhi g ge oe n1 c1 j x ok 7) ?_ hk
          unfold Giv
          go_simp
          exact giv_val (P := Try.prog) (tR_rfl (by decide)) (by first | rfl | simp)
        · have f38 : A.tmps[38]?.getD undef = .slice (some ⟨ge, oe, none⟩) n1 c1 := fg_some (hF 38) (j := 6) (by kernel_rfl) (by kernel_rfl)
          have f39 : A.tmps[39]?.getD undef = .int .i64 j := fg_some (hF 39) (j := 7) (by kernel_rfl) (by kernel_rfl)
          refine Giv.wp (φ := rPhi g ge oe n1 c1 j x ok 8) ?_ hk
          unfold Giv
          go_simp
          exact giv_val (P := Try.prog) (tR_rfl (by decide)) (by first | rfl | simp)
        · have f40 : A.tmps[40]?.getD undef = .pointer (some ⟨ge, oe + j * 2, none⟩) := fg_some (hF 40) (j := 8) (by kernel_rfl) (by kernel_rfl)
          refine Giv.wp (φ := rPhi g ge oe n1 c1 j x ok 9) ?_ hk
          unfold Giv
          go_simp
          exact giv_val (P := Try.prog) (tR_rfl (by decide)) (by first | rfl | simp)
        · have f41 : A.tmps[41]?.getD undef = .pointer (some ⟨ge, oe + j * 2 + 1, none⟩) := fg_some (hF 41) (j := 9) (by kernel_rfl) (by kernel_rfl)
          obtain ⟨q0, q1⟩ := HEV5.out uw hC.1
          refine Giv.wp (φ := rPhi g ge oe n1 c1 j x ok 10) ?_ hk
          unfold Giv
          go_simp
          exact giv_val (P := Try.prog) (tR_rfl (by decide)) (by first | rfl | simp)
        · have f32 : A.tmps[32]?.getD undef = .pointer (some ⟨g, 0, none⟩) := fg_some (hF 32) (j := 0) (by kernel_rfl) (by kernel_rfl)
          have f37 : A.tmps[37]?.getD undef = .string x.k := fg_some (hF 37) (j := 5) (by kernel_rfl) (by kernel_rfl)
          have f42 : A.tmps[42]?.getD undef = .int .i64 x.n := fg_some (hF 42) (j := 10) (by kernel_rfl) (by kernel_rfl)
          refine Giv.wp (φ := rPhi g ge oe n1 c1 j x ok 11) ?_ hk
          unfold Giv
          go_simp
          exact giv_enter (P := Try.prog) ((HAL5.out uw (hC.2.1 hd)).mono fun _ _ ⟨he, h1, h2⟩ => ⟨_, he, tR_call h1 h2, rfl⟩)
        · have f10 : A.tmps[10]?.getD undef = .bool ok := fg_none (hF 10) (by kernel_rfl)
          refine Giv.wp (φ := rPhi g ge oe n1 c1 j x ok 12) ?_ hk
          unfold Giv
          go_simp
          exact giv_val (P := Try.prog) (tR_rfl (by decide)) (by first | rfl | simp)
        · have f43 : A.tmps[43]?.getD undef = .bool ok := fg_some (hF 43) (j := 11) (by kernel_rfl) (by kernel_rfl)
          have f44 : A.tmps[44]?.getD undef = .bool ok := fg_some (hF 44) (j := 12) (by kernel_rfl) (by kernel_rfl)
          refine Giv.wp (φ := rPhi g ge oe n1 c1 j x ok 13) ?_ hk
          unfold Giv
          go_simp
          exact giv_val (P := Try.prog) (tR_rfl (by decide)) (by first | rfl | simp)
      intro a1 W5 d hd hC5 hsz hdf hF hL
      have ha := end_gen [false, false, false, false, false, false, false, false, false, false, false, false, false, false, false, false, false, false, false, false, false, false, false, false, false, false, false, false, false, false, false, false, true, true, true, true, true, true, true, true, true, true, true, true, true, true, false, false, false] hsz hdf hF (by kernel_rfl)
      have f45 : a1.tmps[45]?.getD undef = .bool false := fe_some (hF 45) (j := 13) (by kernel_rfl)
      rw [ha]
      clear ha hF hL
      simp only [cutM_yes, cutM_no, cutM_nil, Nat.reduceAdd]
      rw [f45]
      clear f45 hsz hdf
      have HLM5 : Hid (Lim W5 g m (allowR S2 x.k x.n).1) := Lib.hid (hC5.2.2 (hd 11 (by decide)))
      have HA5 : Hid (Apart (Fl g m) W4 W5) := Lib.hid hC5.1
      clear hC5 hd
      have HX5 := Lib.hid (HA5.out.blk HX4.out (fl_not HLM4.out (by decide) p _ HX4.out))
      have HZ5 := Lib.hid (HA5.out.blk HZ4.out (fl_not HLM4.out (by decide) (p + 1) _ HZ4.out))
      have HBX5 := Lib.hid (HA5.out.blk HBX.out (fl_not HLM4.out (by decide) gb _ HBX.out))
      have HO5 := Lib.hid (own_apart HOX.out HA5.out (fun k cs hk => fl_not HLM4.out (by decide) k cs hk))
      have HA6 : Hid (Apart (Fl g m) w W5) := Lib.hid (HA4.out.trans HA5.out (fun _ h => .inl h))
      clear HX4 HZ4 HBX HOX HA5 HLM4 HA4
      obtain ⟨r0, r1, r2, r3, r4, r5, r6⟩ := HBX5.out.cells7
      obtain ⟨x0, x1, x2, x3, x4, x5, x6⟩ := HX5.out.cells7
      obtain ⟨z0, z1, z2, z3, z4, z5, z6⟩ := HX5.out.frozen7
      have HA7 := Lib.hid (apart_set7 (F := fun k => k = p) (g := p) (Apart.refl (w := W5)) (.inl rfl) (.int .i64 S2.b) (.int .i64 S2.i) (.int .i64 S2.n) (.int .i64 (timeR S2 x.n)) (.slice a9 n9 c9) (.int .i64 (allowR S2 x.k x.n).1.al) (.int .i64 (allowR S2 x.k x.n).1.dr))
      have HX6 := Lib.hid (HX5.out.set7 (.int .i64 S2.b) (.int .i64 S2.i) (.int .i64 S2.n) (.int .i64 (timeR S2 x.n)) (.slice a9 n9 c9) (.int .i64 (allowR S2 x.k x.n).1.al) (.int .i64 (allowR S2 x.k x.n).1.dr))
      have HNP : Hid (g ≠ p ∧ m ≠ p) := Lib.hid ⟨fun e => fl_not HLM5.out (by decide) p _ HX5.out (.inl e.symm), fun e => fl_not HLM5.out (by decide) p _ HX5.out (.inr e.symm)⟩
      have HLM6 := Lib.hid (HLM5.out.apart HA7.out HNP.out.1 HNP.out.2)
      have HZ6 := Lib.hid (HA7.out.blk HZ5.out (by omega))
      have HO6 := Lib.hid (own_apart HO5.out HA7.out (fun k cs hk e => (hk.ne HX5.out (by decide)) e))
      have HA8 := Lib.hid (HA6.out.trans HA7.out (fun k hk => .inr (by have hk : k = p := hk; have := HP.out; omega)))
      go_wp2_with fail
      clear x0 x1 x2 x3 x4 x5 x6 r0 r1 r2 r3 r4 r5 r6 z0 z1 z2 z3 z4 z5 z6
      obtain ⟨e1, e2, e3, e4⟩ := allowR_fix S2 x.k x.n
      have HPL3 : Hid ((allowR S2 x.k x.n).1 = playS S (L.take (j + 1))) := Lib.hid (by rw [HTK.out, playS_snoc, ← HPL.out])
      have HOK3 : Hid ((allowR S2 x.k x.n).1.Ok (e + ((j + 1 : Nat) : Int))) := Lib.hid (by have := allowR_ok HOK2.out x.k x.n; rwa [show e + ((j + 1 : Nat) : Int) = e + (j : Int) + 1 by omega])
      go_roundw
      case rel => exact ⟨j + 1, _, a9, n9, c9, hlt, by go_num, HPL3, HOK3, HLM6, by rw [e1, e2, e3, e4]; exact HX6, HO6, HZ6, HA8⟩
      case measure => simp [intOf]; omega
    · obtain rfl : j = n1 := by omega
      have hPS : S2 = playS S L := by have := HPL.out; rwa [HN.out, List.take_length] at this
      obtain ⟨z0, z1, z2, z3, z4, z5, z6⟩ := HZ.out.cells7
      obtain ⟨k0, k1, k2, k3, k4, k5, k6⟩ := HZ.out.frozen7
      have HPS2 := Lib.hid hPS
      clear hPS
      have HZ4 := Lib.hid (HZ.out.set7 (.int .i64 S2.b) (.int .i64 S2.i) (.int .i64 S2.n) (.int .i64 S2.t) (.slice aj nj cj) (.int .i64 S2.al) (.int .i64 S2.dr))
      have HA4 := Lib.hid (apart_set7 (F := fun k => k = p + 1) (g := p + 1) (Apart.refl (w := wr)) (.inl rfl) (.int .i64 S2.b) (.int .i64 S2.i) (.int .i64 S2.n) (.int .i64 S2.t) (.slice aj nj cj) (.int .i64 S2.al) (.int .i64 S2.dr))
      have HO4 := Lib.hid (own_apart HO.out HA4.out (fun k cs hk e => (hk.ne HZ.out (by decide)) e))
      have HL4 := Lib.hid (HLM.out.apart HA4.out (fun e => fl_not HLM.out (by decide) (p + 1) _ HZ.out (.inl e.symm)) (fun e => fl_not HLM.out (by decide) (p + 1) _ HZ.out (.inr e.symm)))
      have HA5 := Lib.hid (HA.out.trans HA4.out (fun k hk => .inr (by have hk : k = p + 1 := hk; have := HP.out; omega)))
      go_wp2_with fail
      clear x0 x1 x2 x3 x4 x5 x6 z0 z1 z2 z3 z4 z5 z6 k0 k1 k2 k3 k4 k5 k6
      generalize (((((((wr.setCell ⟨p + 1, 0, none⟩ (.int .i64 S2.b)).setCell ⟨p + 1, 1, none⟩ (.int .i64 S2.i)).setCell ⟨p + 1, 2, none⟩ (.int .i64 S2.n)).setCell ⟨p + 1, 3, none⟩ (.int .i64 S2.t)).setCell ⟨p + 1, 4, none⟩ (.slice aj nj cj)).setCell ⟨p + 1, 5, none⟩ (.int .i64 S2.al)).setCell ⟨p + 1, 6, none⟩ (.int .i64 S2.dr)) = W4 at *
      obtain ⟨r0, r1, r2, r3, r4, r5, r6⟩ := HZ4.out.cells7
      rw [← HPS2.out]
      refine bodyPost_ret (v := .tuple #[.agg #[.int .i64 S2.b, .int .i64 S2.i, .int .i64 S2.n, .int .i64 S2.t, .slice aj nj cj, .int .i64 S2.al, .int .i64 S2.dr], .bool true]) (by simp [results, Try.results12, go_sem, r0, r1, r2, r3, r4, r5, r6]) rfl ⟨_, rfl, HO4.out, HL4.out, HA5.out⟩
end
end Go.Proofs.Ytcainohglmgdpaa
