/- Part of the proof: Cyq. No conditions. -/
import Derived.Test.YtbhoofihnmmmfabGreatYbl
import Derived.ProofKit
import Derived.OpenShut
import Derived.ChangeOld
import Derived.Deep.Slices
import Derived.Deep.Strs
import Derived.ChangeMaps5
import Derived.Laws.IdiomArrays
namespace Go.Proofs.YtbhoofihnmmmfabGreat
open Go.ChangeShapes Go.WideShapes Go.ChangeAt Go.RowKit
theorem Tryz.laidOut : laidOutB Tryz.prog = true := by kernel_rfl
theorem Tryz.own : ownKnob Tryz.prog.godebug = none := by kernel_rfl
theorem Tryz.cellsInt : Tryz.prog.cellsOf 3 = 1 := by kernel_rfl
theorem Tryz.cellsWord : Tryz.prog.cellsOf 40 = 1 := by kernel_rfl
theorem Tryz.cellsStr : Tryz.prog.cellsOf 9 = 1 := by kernel_rfl
theorem Tryz.cellsStrs : Tryz.prog.cellsOf 28 = 1 := by kernel_rfl
theorem Tryz.cellsXs : Tryz.prog.cellsOf 29 = 1 := by kernel_rfl
theorem Tryz.cellsSet : Tryz.prog.cellsOf 53 = 4 := by kernel_rfl
theorem Tryz.cellsX : Tryz.prog.cellsOf 55 = 10 := by kernel_rfl
theorem Tryz.cellsLv : Tryz.prog.cellsOf 42 = 2 := by kernel_rfl
theorem Tryz.cellsRg : Tryz.prog.cellsOf 44 = 4 := by kernel_rfl
theorem Tryz.cellsCx : Tryz.prog.cellsOf 46 = 7 := by kernel_rfl
theorem Tryz.cellsCa : Tryz.prog.cellsOf 48 = 21 := by kernel_rfl
theorem list2 {α : Type} (l : List α) (h : l.length = 2) : ∃ c0 c1, l = [c0, c1] := by
 match l, h with
 | [c0, c1], _ => exact ⟨c0, c1, rfl⟩
theorem list4 {α : Type} (l : List α) (h : l.length = 4) : ∃ c0 c1 c2 c3, l = [c0, c1, c2, c3] := by
 match l, h with
 | [c0, c1, c2, c3], _ => exact ⟨c0, c1, c2, c3, rfl⟩
theorem list7 {α : Type} (l : List α) (h : l.length = 7) : ∃ c0 c1 c2 c3 c4 c5 c6, l = [c0, c1, c2, c3, c4, c5, c6] := by
 match l, h with
 | [c0, c1, c2, c3, c4, c5, c6], _ => exact ⟨c0, c1, c2, c3, c4, c5, c6, rfl⟩
theorem list10 {α : Type} (l : List α) (h : l.length = 10) : ∃ c0 c1 c2 c3 c4 c5 c6 c7 c8 c9, l = [c0, c1, c2, c3, c4, c5, c6, c7, c8, c9] := by
 match l, h with
 | [c0, c1, c2, c3, c4, c5, c6, c7, c8, c9], _ => exact ⟨c0, c1, c2, c3, c4, c5, c6, c7, c8, c9, rfl⟩
theorem list21 {α : Type} (l : List α) (h : l.length = 21) : ∃ c0 c1 c2 c3 c4 c5 c6 c7 c8 c9 c10 c11 c12 c13 c14 c15 c16 c17 c18 c19 c20, l = [c0, c1, c2, c3, c4, c5, c6, c7, c8, c9, c10, c11, c12, c13, c14, c15, c16, c17, c18, c19, c20] := by
 match l, h with
 | [c0, c1, c2, c3, c4, c5, c6, c7, c8, c9, c10, c11, c12, c13, c14, c15, c16, c17, c18, c19, c20], _ => exact ⟨c0, c1, c2, c3, c4, c5, c6, c7, c8, c9, c10, c11, c12, c13, c14, c15, c16, c17, c18, c19, c20, rfl⟩
theorem i64_of_wf {x : Int} (h : (Lit.int .i64 x).wf = true) : I64 x := by
 have := bounds_i64 h
 exact ⟨this.1, this.2⟩
theorem u64_of_wf {x : Int} (h : (Lit.int .u64 x).wf = true) : U64 x := by
 have := bounds_u64 h
 exact ⟨this.1, this.2⟩
theorem choose_ltX {α : Type} [Inhabited α] {len : Nat} {p : Nat → α → Prop} (h : ∀ i, i < len → ∃ x, p i x) : ∃ V : Nat → α, ∀ i, i < len → p i (V i) := by
 classical
 exact ⟨fun i => if hi : i < len then (h i hi).choose else default, fun i hi => by simp only [hi, dif_pos]; exact (h i hi).choose_spec⟩
instance : Inhabited X := ⟨.mk 0 0 0 0 [] S4.zero []⟩
theorem addr_some {b o : Nat} (j : Nat) : (⟨b, o, none⟩ : Addr).add j = ⟨b, o + j, none⟩ := by unfold Addr.add; split <;> simp_all
theorem XAt_cells {w : World} {vn vk : Value} {x : X} {g o : Nat} (h : XV w vn vk x) (hc : ∀ k v, [.int .i64 x.op, .int .i64 x.a, .int .i64 x.r, .int .i64 x.b, vn, .int .u64 x.st.a, .int .u64 x.st.b, .int .u64 x.st.c, .int .u64 x.st.d, vk][k]? = some v → w.cell? ⟨g, o + k, none⟩ = some v) : XAt w g o x := by
 obtain ⟨h1, ⟨ao, cap, e, hcp, hr⟩, hw⟩ := h
 obtain ⟨op, a, r, b, ns, st, ks⟩ := x
 have h1 : Strs w vn ns := h1
 have e : vk = .slice ao ks.length cap := e
 subst e
 unfold XAt
 exact ⟨hc 0 _ rfl, hc 1 _ rfl, hc 2 _ rfl, hc 3 _ rfl, ⟨vn, hc 4 _ rfl, h1⟩, hc 5 _ rfl, hc 6 _ rfl, hc 7 _ rfl, hc 8 _ rfl, ⟨ao, cap, hc 9 _ rfl, hcp, fun hl => by
  obtain ⟨g', o', e, hg, hR⟩ := hr hl
  exact ⟨g', o', e, hg, XRow_of hR⟩⟩, hw⟩
theorem cell_lt {w : World} {b o : Nat} {v : Value} (h : w.cell? ⟨b, o, none⟩ = some v) : b < w.heap.size := by
 rcases Nat.lt_or_ge b w.heap.size with h' | h'
 · exact h'
 · simp [World.cell?, Array.getElem?_eq_none h'] at h
section
variable {H : Type} {enc : TypeId × Value → H} {W : World} {base : Nat} {sp : Nat → Bool} {held : Bool} {n : Nat} {x : DataW H × List MemPlace}
theorem trod_ss {cs : List Value} (h : DataW.trod enc Tryz.prog W base sp held n 28 cs = some x) : ∃ (v : Value) (l : List ByteArray), cs = [v] ∧ Strs W v l ∧ l.length ≤ maxLen ∧ ∀ s ∈ l, s.size ≤ maxLen := by
 rcases Go.Deep.open_strs Tryz.underlying28 Tryz.underlying9 Tryz.cellsStr h with ⟨hcs, _⟩ | ⟨a, len, cap, m, S, hcs, _, hl, hm, hmm, _, hx⟩
 · exact ⟨_, [], hcs, Strs.nil, Nat.zero_le _, fun s hs => by cases hs⟩
 · have hlm : len ≤ m := by rw [hmm]; split <;> omega
   refine ⟨_, (List.range len).map S, hcs, ⟨some a, cap, by simp, fun hne => ?_⟩, by simp; omega, fun s hs => ?_⟩
   · have h0 : 0 < len := by
      rcases Nat.eq_zero_or_pos len with e | e
      · subst e; simp at hne
      · exact e
     obtain ⟨h10, _⟩ := hx 0 (by omega)
     obtain ⟨b, o, spot⟩ := a
     have hspot : spot = none := by simpa [Addr.add] using World.cell?_spot h10
     subst hspot
     refine ⟨b, o, rfl, fun k hk => ?_⟩
     simp only [List.length_map, List.length_range] at hk
     obtain ⟨h1, _⟩ := hx k (by omega)
     rw [addr_some] at h1
     rw [h1]
     simp
   · obtain ⟨i, hi, rfl⟩ := List.mem_map.1 hs
     exact (hx i (by have := List.mem_range.1 hi; omega)).2
theorem trod_set {cs : List Value} (hl : cs.length = 4) (h : DataW.trod enc Tryz.prog W base sp held n 53 cs = some x) : ∃ s : S4, cs = [.int .u64 s.a, .int .u64 s.b, .int .u64 s.c, .int .u64 s.d] ∧ (U64 s.a ∧ U64 s.b ∧ U64 s.c ∧ U64 s.d) := by
 obtain ⟨c0, c1, c2, c3, rfl⟩ := list4 cs hl
 obtain ⟨y0, y1, y2, y3, m, hx, hy0, hy1, hy2, hy3⟩ := trod_array4 Tryz.underlying53 Tryz.cellsWord h
 obtain ⟨x0, e0, rfl, w0⟩ := DataW.trod_int Tryz.underlying40 hy0
 obtain ⟨x1, e1, rfl, w1⟩ := DataW.trod_int Tryz.underlying40 hy1
 obtain ⟨x2, e2, rfl, w2⟩ := DataW.trod_int Tryz.underlying40 hy2
 obtain ⟨x3, e3, rfl, w3⟩ := DataW.trod_int Tryz.underlying40 hy3
 simp at e0 e1 e2 e3
 subst e0 e1 e2 e3
 exact ⟨⟨x0, x1, x2, x3⟩, rfl, ⟨u64_of_wf w0, u64_of_wf w1, u64_of_wf w2, u64_of_wf w3⟩⟩
theorem trod_lv {cs : List Value} (h : DataW.trod enc Tryz.prog W base sp held n 42 cs = some x) : ∃ l : Lv, cs = [.int .i64 l.s, .int .u64 l.c] := by
 obtain ⟨xs, m, _, _, hl, hlen, hx⟩ := DataW.trod_struct Tryz.underlying42 h
 have h0 := hx 0 _ rfl
 rw [List.getElem?_eq_getElem (show 0 < xs.length by rw [hlen]; decide)] at h0
 have h1 := hx 1 _ rfl
 rw [List.getElem?_eq_getElem (show 1 < xs.length by rw [hlen]; decide)] at h1
 rw [Tryz.cellsLv] at hl
 obtain ⟨c0, c1, rfl⟩ := list2 cs hl
 simp [Tryz.cellsInt, Tryz.cellsWord] at h0 h1
 obtain ⟨s, e0, _, w0⟩ := DataW.trod_int Tryz.underlying3 h0
 obtain ⟨c, e1, _, w1⟩ := DataW.trod_int Tryz.underlying40 h1
 simp at e0 e1
 subst e0 e1
 have b := u64_of_wf w1
 obtain ⟨b1, b2⟩ := b
 obtain ⟨N, rfl⟩ : ∃ N : Nat, c = N := ⟨c.toNat, by omega⟩
 exact ⟨⟨s, N, by omega⟩, rfl⟩
theorem trod_rg {cs : List Value} (h : DataW.trod enc Tryz.prog W base sp held n 44 cs = some x) : ∃ l k : Lv, cs = [.int .i64 l.s, .int .u64 l.c, .int .i64 k.s, .int .u64 k.c] := by
 obtain ⟨xs, m, _, _, hl, hlen, hx⟩ := DataW.trod_struct Tryz.underlying44 h
 have h0 := hx 0 _ rfl
 rw [List.getElem?_eq_getElem (show 0 < xs.length by rw [hlen]; decide)] at h0
 have h1 := hx 1 _ rfl
 rw [List.getElem?_eq_getElem (show 1 < xs.length by rw [hlen]; decide)] at h1
 rw [Tryz.cellsRg] at hl
 obtain ⟨c0, c1, c2, c3, rfl⟩ := list4 cs hl
 simp [Tryz.cellsLv] at h0 h1
 obtain ⟨l, e0⟩ := trod_lv h0
 obtain ⟨k, e1⟩ := trod_lv h1
 simp at e0 e1
 obtain ⟨rfl, rfl⟩ := e0
 obtain ⟨rfl, rfl⟩ := e1
 exact ⟨l, k, rfl⟩
theorem trod_cx {cs : List Value} (h : DataW.trod enc Tryz.prog W base sp held n 46 cs = some x) : ∃ c : Cx, cs = [.int .i64 c.u, .int .i64 c.ro, .int .i64 c.ty, .int .i64 c.lo.s, .int .u64 c.lo.c, .int .i64 c.hi.s, .int .u64 c.hi.c] := by
 obtain ⟨xs, m, _, _, hl, hlen, hx⟩ := DataW.trod_struct Tryz.underlying46 h
 have h0 := hx 0 _ rfl
 rw [List.getElem?_eq_getElem (show 0 < xs.length by rw [hlen]; decide)] at h0
 have h1 := hx 1 _ rfl
 rw [List.getElem?_eq_getElem (show 1 < xs.length by rw [hlen]; decide)] at h1
 have h2 := hx 2 _ rfl
 rw [List.getElem?_eq_getElem (show 2 < xs.length by rw [hlen]; decide)] at h2
 have h3 := hx 3 _ rfl
 rw [List.getElem?_eq_getElem (show 3 < xs.length by rw [hlen]; decide)] at h3
 rw [Tryz.cellsCx] at hl
 obtain ⟨c0, c1, c2, c3, c4, c5, c6, rfl⟩ := list7 cs hl
 simp [Tryz.cellsInt, Tryz.cellsRg] at h0 h1 h2 h3
 obtain ⟨x0, e0, _, w0⟩ := DataW.trod_int Tryz.underlying3 h0
 obtain ⟨x1, e1, _, w1⟩ := DataW.trod_int Tryz.underlying3 h1
 obtain ⟨x2, e2, _, w2⟩ := DataW.trod_int Tryz.underlying3 h2
 obtain ⟨l, k, e3⟩ := trod_rg h3
 simp at e0 e1 e2 e3
 subst e0 e1 e2
 obtain ⟨rfl, rfl, rfl, rfl⟩ := e3
 exact ⟨⟨x0, x1, x2, l, k⟩, rfl⟩
set_option maxRecDepth 100000 in
theorem trod_ca {cs : List Value} (h : DataW.trod enc Tryz.prog W base sp held n 48 cs = some x) : ∃ c : Ca, cs = [.int .i64 c.c1.u, .int .i64 c.c1.ro, .int .i64 c.c1.ty, .int .i64 c.c1.lo.s, .int .u64 c.c1.lo.c, .int .i64 c.c1.hi.s, .int .u64 c.c1.hi.c, .int .i64 c.c2.u, .int .i64 c.c2.ro, .int .i64 c.c2.ty, .int .i64 c.c2.lo.s, .int .u64 c.c2.lo.c, .int .i64 c.c2.hi.s, .int .u64 c.c2.hi.c, .int .i64 c.c3.u, .int .i64 c.c3.ro, .int .i64 c.c3.ty, .int .i64 c.c3.lo.s, .int .u64 c.c3.lo.c, .int .i64 c.c3.hi.s, .int .u64 c.c3.hi.c] := by
 obtain ⟨xs, m, _, _, hl, hlen, hx⟩ := DataW.trod_struct Tryz.underlying48 h
 have h0 := hx 0 _ rfl
 rw [List.getElem?_eq_getElem (show 0 < xs.length by rw [hlen]; decide)] at h0
 have h1 := hx 1 _ rfl
 rw [List.getElem?_eq_getElem (show 1 < xs.length by rw [hlen]; decide)] at h1
 have h2 := hx 2 _ rfl
 rw [List.getElem?_eq_getElem (show 2 < xs.length by rw [hlen]; decide)] at h2
 rw [Tryz.cellsCa] at hl
 obtain ⟨c0, c1, c2, c3, c4, c5, c6, c7, c8, c9, c10, c11, c12, c13, c14, c15, c16, c17, c18, c19, c20, rfl⟩ := list21 cs hl
 simp [Tryz.cellsCx] at h0 h1 h2
 obtain ⟨a, e0⟩ := trod_cx h0
 obtain ⟨b, e1⟩ := trod_cx h1
 obtain ⟨c, e2⟩ := trod_cx h2
 simp at e0 e1 e2
 obtain ⟨rfl, rfl, rfl, rfl, rfl, rfl, rfl⟩ := e0
 obtain ⟨rfl, rfl, rfl, rfl, rfl, rfl, rfl⟩ := e1
 obtain ⟨rfl, rfl, rfl, rfl, rfl, rfl, rfl⟩ := e2
 exact ⟨⟨a, b, c⟩, rfl⟩
set_option maxRecDepth 100000 in
theorem trod_expr : ∀ (N n : Nat) {cs : List Value} {x : DataW H × List MemPlace}, n ≤ N → DataW.trod enc Tryz.prog W base sp held n 55 cs = some x → ∃ (y : X) (vn vk : Value), cs = [.int .i64 y.op, .int .i64 y.a, .int .i64 y.r, .int .i64 y.b, vn, .int .u64 y.st.a, .int .u64 y.st.b, .int .u64 y.st.c, .int .u64 y.st.d, vk] ∧ XV W vn vk y := by
 intro N
 induction N with
 | zero =>
   intro n cs x hn h
   obtain rfl : n = 0 := by omega
   simp [DataW.trod] at h
 | succ N ih =>
   intro n cs x hn h
   obtain ⟨xs, m, rfl, _, hl, hlen, hx⟩ := DataW.trod_struct Tryz.underlying55 h
   have h0 := hx 0 _ rfl
   rw [List.getElem?_eq_getElem (show 0 < xs.length by rw [hlen]; decide)] at h0
   have h1 := hx 1 _ rfl
   rw [List.getElem?_eq_getElem (show 1 < xs.length by rw [hlen]; decide)] at h1
   have h2 := hx 2 _ rfl
   rw [List.getElem?_eq_getElem (show 2 < xs.length by rw [hlen]; decide)] at h2
   have h3 := hx 3 _ rfl
   rw [List.getElem?_eq_getElem (show 3 < xs.length by rw [hlen]; decide)] at h3
   have h4 := hx 4 _ rfl
   rw [List.getElem?_eq_getElem (show 4 < xs.length by rw [hlen]; decide)] at h4
   have h5 := hx 5 _ rfl
   rw [List.getElem?_eq_getElem (show 5 < xs.length by rw [hlen]; decide)] at h5
   have h6 := hx 6 _ rfl
   rw [List.getElem?_eq_getElem (show 6 < xs.length by rw [hlen]; decide)] at h6
   rw [Tryz.cellsX] at hl
   obtain ⟨c0, c1, c2, c3, c4, c5, c6, c7, c8, c9, rfl⟩ := list10 cs hl
   simp [Tryz.cellsInt, Tryz.cellsStrs, Tryz.cellsSet, Tryz.cellsXs] at h0 h1 h2 h3 h4 h5 h6
   obtain ⟨x0, e0, _, w0⟩ := DataW.trod_int Tryz.underlying3 h0
   obtain ⟨x1, e1, _, w1⟩ := DataW.trod_int Tryz.underlying3 h1
   obtain ⟨x2, e2, _, w2⟩ := DataW.trod_int Tryz.underlying3 h2
   obtain ⟨x3, e3, _, w3⟩ := DataW.trod_int Tryz.underlying3 h3
   obtain ⟨vn, ns, e4, hns, hnl, hnt⟩ := trod_ss h4
   obtain ⟨st, e5, hst⟩ := trod_set (by simp) h5
   simp at e0 e1 e2 e3 e4 e5
   subst e0 e1 e2 e3 e4
   obtain ⟨rfl, rfl, rfl, rfl⟩ := e5
   have htx : TxW ns := fun s hs => Nat.le_trans (hnt s hs) (by unfold maxLen; omega)
   rcases DataW.trod_slice Tryz.underlying29 h6 with ⟨e6, _⟩ | ⟨a, len, cap, elems, rest, k, hmk, e6, _, hb, hle, hcap, hel, hx6, _⟩
   · simp at e6
     subst e6
     exact ⟨.mk x0 x1 x2 x3 ns st [], c4, .slice none 0 0, rfl, ⟨hns, SlR.nil, ⟨i64_of_wf w0, i64_of_wf w1, i64_of_wf w2, i64_of_wf w3, htx, hst, hnl, Nat.zero_le _⟩⟩⟩
   · simp at e6
     subst e6
     have each : ∀ i, i < len → ∃ y : X, ∃ b o, a = ⟨b, o, none⟩ ∧ b < W.heap.size ∧ XAt W b (o + i * 10) y := by
      intro i hi
      have hi2 := hx6 i hi
      rw [List.getElem?_eq_getElem (by omega), Option.bind_eq_some_iff] at hi2
      obtain ⟨cs', h1, h2⟩ := hi2
      obtain ⟨y, vn', vk', rfl, hy⟩ := ih k (by omega) h2
      rw [Tryz.cellsX] at h1
      obtain ⟨_, _, hcell⟩ := World.cells?_some h1
      have hj := hx6 0 (by omega)
      rw [List.getElem?_eq_getElem (by omega), Option.bind_eq_some_iff] at hj
      obtain ⟨cs0, h10, h20⟩ := hj
      obtain ⟨y0, vn0, vk0, rfl, _⟩ := ih k (by omega) h20
      rw [Tryz.cellsX] at h10
      obtain ⟨_, _, hcell0⟩ := World.cells?_some h10
      obtain ⟨b, o, spot⟩ := a
      have hspot : spot = none := by
       have g : W.cell? (((⟨b, o, spot⟩ : Addr).add (0 * 10)).add 0) = some (.int .i64 y0.op) := by simpa using hcell0 0 (by omega)
       simpa [Addr.add] using World.cell?_spot g
      subst hspot
      have hc : ∀ k v, [.int .i64 y.op, .int .i64 y.a, .int .i64 y.r, .int .i64 y.b, vn', .int .u64 y.st.a, .int .u64 y.st.b, .int .u64 y.st.c, .int .u64 y.st.d, vk'][k]? = some v → W.cell? ⟨b, o + i * 10 + k, none⟩ = some v := by
       intro k v hk
       have hk10 : k < 10 := by
        rcases Nat.lt_or_ge k 10 with h | h
        · exact h
        · rw [List.getElem?_eq_none (by simpa using h)] at hk; cases hk
       have g := hcell k (by omega)
       rw [Go.Deep.add_add, addr_some] at g
       rw [show o + i * 10 + k = o + (i * 10 + k) by omega, g]
       first | exact hk | (simpa using hk)
      exact ⟨y, b, o, rfl, cell_lt (hc 0 _ rfl), XAt_cells hy hc⟩
     obtain ⟨V, hV⟩ := choose_ltX each
     have hm10 : len ≤ maxLen := by omega
     refine ⟨.mk x0 x1 x2 x3 ns st ((List.range len).map V), c4, .slice (some a) len cap, rfl, ⟨hns, ⟨some a, cap, by simp [X.ks], by simpa [X.ks] using hle, fun hne => ?_⟩, ⟨i64_of_wf w0, i64_of_wf w1, i64_of_wf w2, i64_of_wf w3, htx, hst, hnl, by simpa [X.ks] using hm10⟩⟩⟩
     have hz : 0 < len := by
      rcases Nat.eq_zero_or_pos len with e | e
      · subst e; simp [X.ks] at hne
      · exact e
     obtain ⟨b, o, rfl, hb2, _⟩ := hV 0 hz
     refine ⟨b, o, rfl, hb2, fun i hi => ?_⟩
     have hil : i < len := by simpa [X.ks] using hi
     obtain ⟨b', o', hbo, _, hc⟩ := hV i hil
     cases hbo
     simpa [X.ks] using hc
end
section
variable {H : Type} {enc : TypeId × Value → H} {W : World} {base : Nat} {v : Value} {d : DataW H} {p : List MemPlace}
end
end Go.Proofs.YtbhoofihnmmmfabGreat
