/- slices.AppendSeq(nil, slices.Values(l)) of entries: a new slice of the same entries. -/
import Derived.Test.YtomoldfgnbjliaaAvf
import Derived.Shelf.SlIter.Collect
import Derived.Shelf.AbstractIn
import Derived.Shelf.RegionOpen
namespace Go.Proofs.Ytomoldfgnbjliaa
open Go.RowKit Go.Sort Go.Shelf Go.Maps
attribute [local go_sem] Oper.semAt_some
def apAssign : Code := (Code.region 2 #[{ dst := some 5, op := Op.alloc 39, type := 0, pos := "iter.go:51", after := #[], guard := none }, { dst := none, op := Op.store 39 (Operand.tmp 5) (Operand.tmp 7), type := 0, pos := "iter.go:51", after := #[{ on := 0, ground := Ground.data }, { on := 0, ground := Ground.phase }], guard := none }] false)
def apBody : Code := (Code.block 1 (Code.region 3 #[{ dst := some 8, op := Op.load 22 (Operand.tmp 2), type := 22, pos := "iter.go:52", after := #[], guard := none }, { dst := some 9, op := Op.load 39 (Operand.tmp 5), type := 39, pos := "iter.go:52", after := #[], guard := none }, { dst := some 10, op := Op.buildSlice 22 1 #[(0, Operand.tmp 9)], type := 22, pos := "iter.go:52", after := #[{ on := 1, ground := Ground.data }], guard := none }, { dst := some 11, op := Op.call { callee := Callee.builtin Builtin.append, args := #[Operand.tmp 8, Operand.tmp 10], argTypes := #[22, 22] }, type := 22, pos := "iter.go:52", after := #[{ on := 0, ground := Ground.data }, { on := 2, ground := Ground.data }], guard := none }, { dst := none, op := Op.store 22 (Operand.tmp 2) (Operand.tmp 11), type := 0, pos := "iter.go:52", after := #[{ on := 3, ground := Ground.data }, { on := 3, ground := Ground.chain }, { on := 0, ground := Ground.phase }, { on := 1, ground := Ground.phase }, { on := 2, ground := Ground.phase }, { on := 3, ground := Ground.phase }], guard := none }] false))
/-- the loop's record -/
def apRec (fn : FuncId) (sv : Value) (Bs D : Nat) (st : LoopState) (pend : Option Code) : Loop :=
  { state := st, pending := pend, fn, tmps := #[.slice none 0 0, sv, .pointer (some ⟨Bs, 0, none⟩), undef, .slice none 0 0, undef, sv, undef, undef, undef, undef, undef, undef], params := #[7], assign := apAssign, body := apBody, defers := D }
/-- between two rounds -/
structure ApAt (w0 : World) (fn : FuncId) (sv : Value) (Bs l D : Nat) (ss : List E) (W : World) : Prop where
  box : ∃ v, W.heap[Bs]? = some (.cells #[v] 22 (0, 0)) ∧ OwnE W w0.heap.size v ss
  L : W.heap[l]? = some (.loop (apRec fn sv Bs D .ready none))
  K : W.heap[D]? = some (.deferred (some []))
  below : Below w0.heap.size w0 W
theorem ApAt.alloc {w0 W : World} {fn : FuncId} {sv : Value} {Bs l D : Nat} {ss : List E} (h : ApAt w0 fn sv Bs l D ss W) (o : Obj) : ApAt w0 fn sv Bs l D ss (W.alloc o) := by
  obtain ⟨⟨v, h1, h2⟩, h3, h4, h5⟩ := h
  have hlt : ∀ {k : Nat} {p : Obj}, W.heap[k]? = some p → (W.alloc o).heap[k]? = some p := fun {k p} hk => (Below.heap_alloc W o k (Array.getElem?_eq_some_iff.1 hk).1).trans hk
  exact ⟨⟨v, hlt h1, h2.below ((Below.refl _ W).alloc (Nat.le_refl _) o)⟩, hlt h3, hlt h4, h5.alloc h5.size o⟩
theorem ownE_ne {W : World} {B : Nat} {v : Value} {L : List E} (h : OwnE W B v L) {j : Nat} {o : Obj} (hj : W.heap[j]? = some o) (hno : ∀ cur, o ≠ .cells cur 39 (0, 0)) : v.ownBlock = none ∨ v.ownBlock ≠ some j := ownsRow_ne_a h hj hno
theorem wpListIn_append_E {F : Fence} {nn : Nat} {w : World} {ops : Array Oper} {rest : List Oper} {o : Oper} {a : Act} {Q : Exit → Act → World → Prop} (hgd : o.guard = none) (s x : Operand)
    (ho : o.op = .call { callee := .builtin .append, args := #[s, x], argTypes := #[22, 22] }) (B : Nat) (v : Value) (L : List E) (hs : a.eval s = v) (hown : OwnE w B v L)
    (g : Nat) (y : E) (hx : a.eval x = .slice (some ⟨g, 0, none⟩) 1 1) (hy : Box w g y) (hl : L.length ≤ 1000000) (hb : B ≤ w.heap.size)
    (h : ∀ g' cap w', OwnE w' B (.slice (some ⟨g', 0, none⟩) (L.length + 1) cap) (L ++ [y]) → w.grownBy w' v.ownBlock → wpListIn F nn Try.prog ops Q rest (a.put o.dst (.slice (some ⟨g', 0, none⟩) (L.length + 1) cap)) w') :
    wpListIn F nn Try.prog ops Q (o :: rest) a w := by
  obtain ⟨i0, hinf, hz0, hz1, hz2⟩ := info_parts infoE
  refine wpListIn_append_own _ hgd s x 22 ho B 39 i0 _ 7 48 Try.underlying22 hinf hz0 hz1 hz2 rfl (by decide) v L.length (L.flatMap cellsE) hs hown ⟨g, 0, none⟩ 1 1 (cellsE y) hx rfl
    (World.news_of_block hy) (cellsE_one y) (by unfold maxLen; omega) (by omega) hb ?_
  intro v' w' h1 h2 _
  obtain ⟨g', cap, rfl, _⟩ := h1.form (by omega)
  refine h g' cap w' ?_ h2
  unfold OwnE
  rw [List.length_append, List.flatMap_append]
  simpa using h1
set_option maxRecDepth 100000 in
set_option maxHeartbeats 4000000 in
theorem apYield (m : Nat) (w0 : World) (fn : FuncId) (sv : Value) (Bs l D : Nat) (hBl : Bs ≠ l) (hDl : D ≠ l) (hDB : D ≠ Bs) (h0B : w0.heap.size ≤ Bs) (h0l : w0.heap.size ≤ l)
    (N : Nat) (hN : N ≤ 100000) (ss : List E) (x : E) (W : World) (h : ApAt w0 fn sv Bs l D ss W) (hlen : ss.length < N) :
    YieldAt Fence.wide m Try.prog l #[.agg #[.int .i64 x.s, .int .i64 x.t, .int .i64 x.c, .int .i64 x.d, .int .u32 (vI x.a), .int .u32 (vI x.b), .int .u32 (vI x.e)]] W fun e W' => e = .returned (.bool true) ∧ ApAt w0 fn sv Bs l D (ss ++ [x]) W' := by
  have hfn : Fence.wide.fn fn := trivial
  refine ⟨fn, #[.slice none 0 0, sv, .pointer (some ⟨Bs, 0, none⟩), undef, .slice none 0 0, undef, sv, .agg #[.int .i64 x.s, .int .i64 x.t, .int .i64 x.c, .int .i64 x.d, .int .u32 (vI x.a), .int .u32 (vI x.b), .int .u32 (vI x.e)], undef, undef, undef, undef, undef], apAssign, apBody, by simpa [apRec] using run_yield (P := Try.prog) (args := #[.agg #[.int .i64 x.s, .int .i64 x.t, .int .i64 x.c, .int .i64 x.d, .int .u32 (vI x.a), .int .u32 (vI x.b), .int .u32 (vI x.e)]]) h.L rfl, roundIn_of_wpIn hfn ?_⟩
  have HB1 := Lib.hid (Blk.new W 39 #[.int .i64 x.s, .int .i64 x.t, .int .i64 x.c, .int .i64 x.d, .int .u32 (vI x.a), .int .u32 (vI x.b), .int .u32 (vI x.e)])
  replace h := h.alloc (.cells #[.int .i64 x.s, .int .i64 x.t, .int .i64 x.c, .int .i64 x.d, .int .u32 (vI x.a), .int .u32 (vI x.b), .int .u32 (vI x.e)] 39)
  have HH := Lib.hid h
  clear h
  unfold apAssign
  gi_wp2_with gi_round_op_a
  generalize hx0 : W.heap.size = x0 at *
  clear hx0
  generalize W.alloc (.cells #[.int .i64 x.s, .int .i64 x.t, .int .i64 x.c, .int .i64 x.d, .int .u32 (vI x.a), .int .u32 (vI x.b), .int .u32 (vI x.e)] 39) = W1 at *
  have h := HH.out
  obtain ⟨v, hv, hrow⟩ := h.box
  have hl : l < W1.heap.size := (Array.getElem?_eq_some_iff.1 h.L).1
  have hbr := run_beginRound (P := Try.prog) h.L rfl
  obtain ⟨W2, hW2⟩ : ∃ W2, W1.putObj l (.loop { apRec fn sv Bs D .ready none with state := .busy }) = W2 := ⟨_, rfl⟩
  rw [hW2] at hbr
  have hg2 : W1.grownBy W2 (some l) := by rw [← hW2]; exact grownBy_putObj_a _ _ _
  have hv2 : W2.heap[Bs]? = some (.cells #[v] 22 (0, 0)) := by rw [← hW2]; exact (World.putObj_heap_other hBl).trans hv
  have hK2 : W2.heap[D]? = some (.deferred (some [])) := by rw [← hW2]; exact (World.putObj_heap_other hDl).trans h.K
  have hL2 : W2.heap[l]? = some (.loop { apRec fn sv Bs D .ready none with state := .busy }) := by rw [← hW2]; exact World.putObj_heap_same hl
  have hxl : x0 ≠ l := by rintro rfl; have := HB1.out; unfold Blk at this; rw [h.L] at this; cases this
  have hx2 : Box W2 x0 x := by rw [← hW2]; exact (World.putObj_heap_other hxl).trans HB1.out
  have hrow2 : OwnE W2 w0.heap.size v ss := hrow.kept hg2 (ownE_ne hrow h.L (fun cur e => by cases e))
  have hb2 : Below w0.heap.size w0 W2 := h.below.grown hg2 h.below.size (fun k e => by cases e; exact h0l)
  obtain ⟨hc2, hf2⟩ := cell_of_box_a hv2
  obtain ⟨x0c, x1c, x2c, x3c, x4c, x5c, x6c⟩ := hx2.cells
  have hBlt : Bs < W2.heap.size := (Array.getElem?_eq_some_iff.1 hv2).1
  have hl2 : l < W2.heap.size := (Array.getElem?_eq_some_iff.1 hL2).1
  have hDlt : D < W2.heap.size := (Array.getElem?_eq_some_iff.1 hK2).1
  have ne_of : ∀ {j : Nat} {o : Obj}, W2.heap[j]? = some o → (∀ cur, o ≠ .cells cur 39 (0, 0)) → some j ≠ v.ownBlock := fun hj hno => by
    rcases ownE_ne hrow2 hj hno with e | e
    · rw [e]; simp
    · exact fun e' => e e'.symm
  refine ⟨_, hbr, ?_⟩
  clear hbr hW2 h hg2 hv HB1 hx2 hrow hl
  unfold apBody
  gi_wp2_with (first
    | (gi_at_builtin; refine wpListIn_append_E (by rfl) _ _ (by rfl) w0.heap.size v ss (by rfl) (hrow2.below ((Below.refl _ _).alloc (Nat.le_refl _) _)) W2.heap.size x (by rfl) (Blk.new _ _ _) (by omega) (by have := hb2.size; simp; omega) ?_; intro g' cap' w3 h1 h2
       have hv3 : w3.heap[Bs]? = some (.cells #[v] 22 (0, 0)) := (h2.block Bs (by simp; omega) (ne_of hv2 (fun cur e => by cases e))).trans ((Below.heap_alloc _ _ Bs hBlt).trans hv2)
       obtain ⟨hc3, hf3⟩ := cell_of_box_a hv3
       go_frame)
    | gi_round_op_a)
  have hg3 : (W2.alloc (.cells #[.int .i64 x.s, .int .i64 x.t, .int .i64 x.c, .int .i64 x.d, .int .u32 (vI x.a), .int .u32 (vI x.b), .int .u32 (vI x.e)] 39)).grownBy w3 v.ownBlock := h2
  have hL3 : w3.heap[l]? = some (.loop { apRec fn sv Bs D .ready none with state := .busy }) := (hg3.block l (by simp; omega) (ne_of hL2 (fun cur e => by cases e))).trans ((Below.heap_alloc _ _ l hl2).trans hL2)
  have hK3 : w3.heap[D]? = some (.deferred (some [])) := (hg3.block D (by simp; omega) (ne_of hK2 (fun cur e => by cases e))).trans ((Below.heap_alloc _ _ D hDlt).trans hK2)
  obtain ⟨w4, hw4⟩ : ∃ w4, w3.setCell ⟨Bs, 0, none⟩ (.slice (some ⟨g', 0, none⟩) (ss.length + 1) cap') = w4 := ⟨_, rfl⟩
  rw [hw4]
  have hg4 : w3.grownBy w4 (some Bs) := by rw [← hw4]; exact grownBy_setCell0_a _ _ _
  have hv4 : w4.heap[Bs]? = some (.cells #[.slice (some ⟨g', 0, none⟩) (ss.length + 1) cap'] 22 (0, 0)) := by rw [← hw4]; exact heap_setCell_box_a _ hv3
  have hL4 : w4.heap[l]? = some (.loop { apRec fn sv Bs D .ready none with state := .busy }) := (hg4.block l (Array.getElem?_eq_some_iff.1 hL3).1 (fun e => hBl (by cases e; rfl))).trans hL3
  have hK4 : w4.heap[D]? = some (.deferred (some [])) := (hg4.block D (Array.getElem?_eq_some_iff.1 hK3).1 (fun e => hDB (by cases e; rfl))).trans hK3
  have hrow4 : OwnE w4 w0.heap.size (.slice (some ⟨g', 0, none⟩) (ss.length + 1) cap') (ss ++ [x]) := h1.kept hg4 (ownE_ne h1 hv3 (fun cur e => by cases e))
  have hl4 : l < w4.heap.size := (Array.getElem?_eq_some_iff.1 hL4).1
  have hb3 : Below w0.heap.size w0 w3 := (hb2.alloc hb2.size _).grown hg3 (by have := hb2.size; simp; omega) (fun k e => (World.ownsRow.lt hrow2 k e).1)
  have hb4 : Below w0.heap.size w0 w4 := hb3.grown hg4 hb3.size (fun k e => by cases e; exact h0B)
  clear hw4
  refine ⟨_, _, run_endRound none hL4, rfl, ⟨⟨_, (World.putObj_heap_other hBl).trans hv4, ?_⟩, World.putObj_heap_same hl4, (World.putObj_heap_other hDl).trans hK4, hb4.grown (grownBy_putObj_a _ _ _) hb4.size (fun k e => by cases e; exact h0l)⟩⟩
  exact hrow4.kept (grownBy_putObj_a w4 l _) (ownE_ne hrow4 hL4 (fun cur e => by cases e))
/-- slices.Values(s)'s closure: the entries in their order, whatever the rounds keep. -/
theorem values1_in (n : Nat) (hn : 1 ≤ n) (l Bs n0 : Nat) (sv : Value) (Ls : List E) (hl : Ls.length ≤ 100000) (J : List E → World → Prop) (hJa : ∀ pre W o, J pre W → J pre (W.alloc o)) (W : World) (hJb : ∀ pre W', J pre W' → ∀ k, k < n0 → W'.heap[k]? = W.heap[k]?)
    (hY : ∀ pre x W, J pre W → pre.length < Ls.length → YieldAt Fence.wide (n - 1) Try.prog l #[.agg #[.int .i64 x.s, .int .i64 x.t, .int .i64 x.c, .int .i64 x.d, .int .u32 (vI x.a), .int .u32 (vI x.b), .int .u32 (vI x.e)]] W fun e W' => e = .returned (.bool true) ∧ J (pre ++ [x]) W')
    (hBs : Bs < n0) (hc : W.cell? ⟨Bs, 0, none⟩ = some sv) (hE : Ents W sv Ls) (hn0 : Ls ≠ [] → ∀ g o c k, sv = .slice (some ⟨g, o, none⟩) k c → g < n0) (h0 : J [] W) :
    CallsIn Fence.wide n Try.prog 51 #[.func (.yield l) #[] #[], .pointer (some ⟨Bs, 0, none⟩)] W fun e W' => (∃ v, e = .returned v) ∧ J Ls W' := by
  obtain ⟨ao, cap, rfl, hcap, hr⟩ := hE
  refine callsIn_of_wp Try.func51 rfl trivial ?_ rfl
  simp only [Try.ntmps51, List.size_toArray, List.length_cons, List.length_nil, Nat.reduceAdd, Nat.reduceSub, Array.replicate_succ, Array.replicate_zero, List.push_toArray, List.append_toArray, List.nil_append, List.cons_append]
  have hlI : (Ls.length : Int) ≤ 100000 := by omega
  have hcI : (Ls.length : Int) ≤ (cap : Int) := by omega
  obtain ⟨N, hN⟩ : ∃ N, Ls.length = N := ⟨_, rfl⟩
  have HN := Lib.hid hN
  rw [hN] at hc hlI hcI hcap hl hn0 hY
  clear hN
  have HY := Lib.hid hY
  have HJb := Lib.hid hJb
  have HJa := Lib.hid hJa
  have Hn0 := Lib.hid hn0
  have HR := Lib.hid hr
  clear hY hJb hJa hn0 hr
  gi_wp2
  gi_loopw [7] (fun i wr => ∃ k : Nat, k ≤ N ∧ i = .int .i64 k ∧ Hid (J (Ls.take k) wr)) (fun i _ => N - (intOf i).toNat)
  case atStart => exact ⟨0, Nat.zero_le _, rfl, Lib.hid h0⟩
  case round =>
    obtain ⟨k, hk, rfl, HJ⟩ := hrel
    by_cases hlt : k < N
    · have hltL : k < Ls.length := by rw [HN.out]; exact hlt
      obtain ⟨g, o, rfl, hR⟩ := HR.out (by rintro rfl; simp at hltL)
      have hgn : g < n0 := Hn0.out (by rintro rfl; simp at hltL) g o cap N rfl
      have hA : At7 wr g (o + k * 7) Ls[k] := (hR.at hltL).keep (HJb.out _ _ HJ.out g hgn)
      have hbs : wr.cell? ⟨Bs, 0, none⟩ = some (.slice (some ⟨g, o, none⟩) N cap) := (World.cell?_of_block (HJb.out _ _ HJ.out Bs hBs)).trans hc
      have hts := take_snoc' Ls k hltL
      obtain ⟨x, hx⟩ : ∃ x, Ls[k] = x := ⟨_, rfl⟩
      rw [hx] at hA hts
      have HTS := Lib.hid hts
      have hltI : (k : Int) < (N : Int) := by omega
      obtain ⟨a0, a1, a2, a3, a4, a5, a6⟩ := hA
      obtain ⟨fn, tmps, assign, body, hy, hRd⟩ := HY.out _ x (wr.alloc (.cells #[.int .i64 x.s, .int .i64 x.t, .int .i64 x.c, .int .i64 x.d, .int .u32 (vI x.a), .int .u32 (vI x.b), .int .u32 (vI x.e)] 39)) (HJa.out _ _ _ HJ.out) (by rw [List.length_take]; omega)
      clear hts hx hR
      gi_wp2
      refine hRd.mono ?_
      rintro e W3 ⟨rfl, hJ3⟩
      gi_wp2
      go_roundw
      case rel => exact ⟨k + 1, by omega, by simp, Lib.hid (by rw [HTS.out]; exact hJ3)⟩
      case measure => simp [intOf]; omega
    · obtain rfl : k = N := by omega
      gi_wp2
      go_end0
      have := HJ.out
      rw [← HN.out, List.take_length] at this
      exact ⟨⟨_, rfl⟩, this⟩
end Go.Proofs.Ytomoldfgnbjliaa
