/- Part of the proof: Pdd. No conditions. -/
import Derived.Test.YtbhoofihnmmmfabGreatYbt
import Derived.Test.YtbhoofihnmmmfabGreatYbu
namespace Go.Proofs.YtbhoofihnmmmfabGreat
open Go.ChangeShapes Go.WideShapes Go.ChangeAt Go.RowKit
theorem at_of {cs l : List Value} {off k j : Nat} {v : Value} (e : (cs.drop off).take k = l) (hj : l[j]? = some v) : cs[off + j]? = some v := by
 subst e
 rw [List.getElem?_take] at hj
 split at hj
 · rwa [List.getElem?_drop] at hj
 · cases hj
theorem u32_of_wf {x : Int} (h : (Lit.int .u32 x).wf = true) : U32 x := by
 have := bounds_u32 h
 exact ⟨this.1, this.2⟩
theorem sz_le {s : ByteArray} (h : s.size ≤ maxLen) : s.size ≤ 9223372036854775807 := Nat.le_trans h (by unfold maxLen; omega)
section
variable {H : Type} {enc : TypeId × Value → H} {W : World} {base : Nat} {sp : Nat → Bool} {held : Bool} {n : Nat} {x : DataW H × List MemPlace}
theorem trod_ss2 {cs : List Value} (h : DataW.trod enc Tryz.prog W base sp held n 28 cs = some x) : ∃ (v : Value) (l : List ByteArray), cs = [v] ∧ Strs W v l ∧ l.length ≤ maxLen ∧ TxW l ∧ AddrOK v ∧ CapOK v l.length := by
 obtain ⟨v, l, rfl, hS, hl, ht⟩ := trod_ss h
 refine ⟨v, l, rfl, hS, hl, fun s hs => sz_le (ht s hs), ?_⟩
 rcases DataW.trod_slice Tryz.underlying28 h with ⟨e, _⟩ | ⟨a, len, cap, elems, rest, k, hmk, e, _, hb, hle, hcap, hel, hx6, _⟩
 · cases e
   obtain ⟨ao, c2, e, -⟩ := hS
   simp only [Value.slice.injEq] at e
   obtain ⟨-, e, -⟩ := e
   exact ⟨.inl rfl, none, 0, by rw [← e], by omega⟩
 · cases e
   obtain ⟨ao, c2, e, hr⟩ := hS
   simp only [Value.slice.injEq] at e
   obtain ⟨e1, e2, e3⟩ := e
   exact ⟨.inr ⟨a, len, cap, rfl⟩, some a, cap, by rw [e2], by omega⟩
theorem trod_plv {cs : List Value} (h : DataW.trod enc Tryz.prog W base sp held n 42 cs = some x) : ∃ l : PLv, cs = [.int .i64 l.s, .int .u64 l.c] ∧ I64 l.s ∧ U64 l.c := by
 obtain ⟨xs, m, _, _, hl, hlen, hx⟩ := DataW.trod_struct Tryz.underlying42 h
 have h0 := hx 0 _ rfl
 rw [List.getElem?_eq_getElem (show 0 < xs.length by rw [hlen]; decide)] at h0
 have h1 := hx 1 _ rfl
 rw [List.getElem?_eq_getElem (show 1 < xs.length by rw [hlen]; decide)] at h1
 rw [Tryz.cellsLv] at hl
 obtain ⟨c0, c1, rfl⟩ := list2 cs hl
 simp [Tryz.cellsInt, Tryz.cellsWord] at h0 h1
 obtain ⟨s, e0, _, w0⟩ := DataW.trod_int Tryz.underlying3 h0
 obtain ⟨c, e1, _, w1⟩ := DataW.trod_int Tryz.underlying40 h1
 simp at e0 e1
 subst e0 e1
 exact ⟨⟨s, c⟩, rfl, i64_of_wf w0, u64_of_wf w1⟩
theorem trod_prg {cs : List Value} (h : DataW.trod enc Tryz.prog W base sp held n 44 cs = some x) : ∃ l k : PLv, cs = [.int .i64 l.s, .int .u64 l.c, .int .i64 k.s, .int .u64 k.c] ∧ I64 l.s ∧ U64 l.c ∧ I64 k.s ∧ U64 k.c := by
 obtain ⟨xs, m, _, _, hl, hlen, hx⟩ := DataW.trod_struct Tryz.underlying44 h
 have h0 := hx 0 _ rfl
 rw [List.getElem?_eq_getElem (show 0 < xs.length by rw [hlen]; decide)] at h0
 have h1 := hx 1 _ rfl
 rw [List.getElem?_eq_getElem (show 1 < xs.length by rw [hlen]; decide)] at h1
 rw [Tryz.cellsRg] at hl
 obtain ⟨c0, c1, c2, c3, rfl⟩ := list4 cs hl
 simp [Tryz.cellsLv] at h0 h1
 obtain ⟨l, e0, w0⟩ := trod_plv h0
 obtain ⟨k, e1, w1⟩ := trod_plv h1
 simp at e0 e1
 obtain ⟨rfl, rfl⟩ := e0
 obtain ⟨rfl, rfl⟩ := e1
 exact ⟨l, k, rfl, w0.1, w0.2, w1⟩
theorem trod_pcx {cs : List Value} (h : DataW.trod enc Tryz.prog W base sp held n 46 cs = some x) : ∃ c : PCx, cs = [.int .i64 c.u, .int .i64 c.r, .int .i64 c.t, .int .i64 c.lo.s, .int .u64 c.lo.c, .int .i64 c.hi.s, .int .u64 c.hi.c] ∧ I64 c.u ∧ I64 c.r ∧ I64 c.t ∧ I64 c.lo.s ∧ U64 c.lo.c ∧ I64 c.hi.s ∧ U64 c.hi.c := by
 obtain ⟨xs, m, _, _, hl, hlen, hx⟩ := DataW.trod_struct Tryz.underlying46 h
 have h0 := hx 0 _ rfl
 rw [List.getElem?_eq_getElem (show 0 < xs.length by rw [hlen]; decide)] at h0
 have h1 := hx 1 _ rfl
 rw [List.getElem?_eq_getElem (show 1 < xs.length by rw [hlen]; decide)] at h1
 have h2 := hx 2 _ rfl
 rw [List.getElem?_eq_getElem (show 2 < xs.length by rw [hlen]; decide)] at h2
 have h3 := hx 3 _ rfl
 rw [List.getElem?_eq_getElem (show 3 < xs.length by rw [hlen]; decide)] at h3
 rw [Tryz.cellsCx] at hl
 obtain ⟨c0, c1, c2, c3, c4, c5, c6, rfl⟩ := list7 cs hl
 simp [Tryz.cellsInt, Tryz.cellsRg] at h0 h1 h2 h3
 obtain ⟨x0, e0, _, w0⟩ := DataW.trod_int Tryz.underlying3 h0
 obtain ⟨x1, e1, _, w1⟩ := DataW.trod_int Tryz.underlying3 h1
 obtain ⟨x2, e2, _, w2⟩ := DataW.trod_int Tryz.underlying3 h2
 obtain ⟨l, k, e3, w3⟩ := trod_prg h3
 simp at e0 e1 e2 e3
 subst e0 e1 e2
 obtain ⟨rfl, rfl, rfl, rfl⟩ := e3
 exact ⟨⟨x0, x1, x2, l, k⟩, rfl, i64_of_wf w0, i64_of_wf w1, i64_of_wf w2, w3⟩
/-- what is read of a type stands in its cells -/
def Shape (sz : Nat) (t : TypeId) {α : Type} (C : World → Nat → Nat → α → Prop) (W : World) (base : Nat) (sp : Nat → Bool) (held : Bool) {H : Type} (enc : TypeId × Value → H) : Prop :=
 Tryz.prog.cellsOf t = sz ∧ 0 < sz ∧ ∀ (n : Nat) (cs : List Value) (x : DataW H × List MemPlace), DataW.trod enc Tryz.prog W base sp held n t cs = some x → ∃ y : α, ∀ g o, (∀ k v, cs[k]? = some v → W.cell? ⟨g, o + k, none⟩ = some v) → C W g o y
theorem trod_rows {α : Type} [Inhabited α] {sz : Nat} {t e : TypeId} {C : World → Nat → Nat → α → Prop} (ht : Tryz.prog.underlying t = some (.slice e)) (hC : Shape sz e C W base sp held enc) {cs : List Value}
 (h : DataW.trod enc Tryz.prog W base sp held n t cs = some x) : ∃ (v : Value) (L : List α), cs = [v] ∧ SlR sz C W v L ∧ L.length ≤ maxLen := by
 obtain ⟨hsz, h0, hS⟩ := hC
 rcases DataW.trod_slice ht h with ⟨e6, _⟩ | ⟨a, len, cap, elems, rest, k, hmk, e6, _, hb, hle, hcap, hel, hx6, _⟩
 · exact ⟨_, [], e6, SlR.nil, Nat.zero_le _⟩
 · have each : ∀ i, i < len → ∃ y : α, ∃ b o, a = ⟨b, o, none⟩ ∧ b < W.heap.size ∧ C W b (o + i * sz) y := by
    intro i hi
    have hi2 := hx6 i hi
    rw [List.getElem?_eq_getElem (by omega), Option.bind_eq_some_iff] at hi2
    obtain ⟨cs', h1, h2⟩ := hi2
    obtain ⟨y, hy⟩ := hS k cs' _ h2
    rw [hsz] at h1
    obtain ⟨_, hlen, hcell⟩ := World.cells?_some h1
    have g0 := hcell 0 h0
    obtain ⟨v0, hv0⟩ : ∃ v0, cs'[0]? = some v0 := ⟨cs'[0]'(by omega), List.getElem?_eq_getElem _⟩
    rw [hv0] at g0
    obtain ⟨b, o, spot⟩ := a
    have hspot : spot = none := by
     have hj := hx6 0 (by omega)
     rw [List.getElem?_eq_getElem (by omega), Option.bind_eq_some_iff] at hj
     obtain ⟨cs0, h10, h20⟩ := hj
     rw [hsz] at h10
     obtain ⟨_, hlen0, hcell0⟩ := World.cells?_some h10
     have g1 := hcell0 0 h0
     rw [List.getElem?_eq_getElem (show 0 < cs0.length by omega)] at g1
     simpa [Addr.add] using World.cell?_spot g1
    subst hspot
    have hc : ∀ j v, cs'[j]? = some v → W.cell? ⟨b, o + i * sz + j, none⟩ = some v := by
     intro j v hj
     have hjl : j < sz := by
      rcases Nat.lt_or_ge j sz with h | h
      · exact h
      · rw [List.getElem?_eq_none (by omega)] at hj; cases hj
     have g := hcell j hjl
     rw [Go.Deep.add_add, addr_some] at g
     rw [show o + i * sz + j = o + (i * sz + j) by omega, g, hj]
    exact ⟨y, b, o, rfl, cell_lt (hc 0 _ hv0), hy b (o + i * sz) hc⟩
   obtain ⟨V, hV⟩ := choose_ltX each
   refine ⟨_, (List.range len).map V, e6, ⟨some a, cap, by simp, by simpa using hle, fun hne => ?_⟩, by simp; omega⟩
   have hz : 0 < len := by
    rcases Nat.eq_zero_or_pos len with e | e
    · subst e; simp at hne
    · exact e
   obtain ⟨b, o, rfl, hb2, _⟩ := hV 0 hz
   refine ⟨b, o, rfl, hb2, fun i hi => ?_⟩
   have hil : i < len := by simpa using hi
   obtain ⟨b', o', hbo, _, hc⟩ := hV i hil
   cases hbo
   simpa using hc
instance : Inhabited PCl := ⟨⟨⟨#[]⟩, []⟩⟩
theorem Tryz.cells_PCl : Tryz.prog.cellsOf 86 = 2 := by kernel_rfl
theorem trod_PCl : Shape 2 86 CCl W base sp held enc := by
 refine ⟨Tryz.cells_PCl, by decide, fun n cs x h => ?_⟩
 obtain ⟨xs, m, _, _, hl, hlen, hx⟩ := DataW.trod_struct Tryz.underlying86 h
 rw [Tryz.cells_PCl] at hl
 have z0 := hx 0 _ rfl
 have h0 : DataW.trod enc Tryz.prog W base sp held m 9 ((cs.drop 0).take (Tryz.prog.cellsOf 9)) = some (xs[0]'(by rw [hlen]; decide)) := z0.trans (List.getElem?_eq_getElem _)
 clear z0
 obtain ⟨x0, e0, _, w0⟩ := DataW.trod_string Tryz.underlying9 h0
 have z1 := hx 1 _ rfl
 have h1 : DataW.trod enc Tryz.prog W base sp held m 28 ((cs.drop 1).take (Tryz.prog.cellsOf 28)) = some (xs[1]'(by rw [hlen]; decide)) := z1.trans (List.getElem?_eq_getElem _)
 clear z1
 obtain ⟨v1, x1, e1, s1, l1, t1, a1, k1⟩ := trod_ss2 h1
 exact ⟨⟨x0, x1⟩, fun g o hc => ⟨hc 0 _ (at_of e0 (j := 0) rfl), ⟨v1, hc 1 _ (at_of e1 (j := 0) rfl), s1, k1⟩, sz_le w0, t1⟩⟩
instance : Inhabited PTy := ⟨⟨⟨#[]⟩, [], false⟩⟩
theorem Tryz.cells_PTy : Tryz.prog.cellsOf 82 = 3 := by kernel_rfl
theorem trod_PTy : Shape 3 82 CTyA W base sp held enc := by
 refine ⟨Tryz.cells_PTy, by decide, fun n cs x h => ?_⟩
 obtain ⟨xs, m, _, _, hl, hlen, hx⟩ := DataW.trod_struct Tryz.underlying82 h
 rw [Tryz.cells_PTy] at hl
 have z0 := hx 0 _ rfl
 have h0 : DataW.trod enc Tryz.prog W base sp held m 9 ((cs.drop 0).take (Tryz.prog.cellsOf 9)) = some (xs[0]'(by rw [hlen]; decide)) := z0.trans (List.getElem?_eq_getElem _)
 clear z0
 obtain ⟨x0, e0, _, w0⟩ := DataW.trod_string Tryz.underlying9 h0
 have z1 := hx 1 _ rfl
 have h1 : DataW.trod enc Tryz.prog W base sp held m 28 ((cs.drop 1).take (Tryz.prog.cellsOf 28)) = some (xs[1]'(by rw [hlen]; decide)) := z1.trans (List.getElem?_eq_getElem _)
 clear z1
 obtain ⟨v1, x1, e1, s1, l1, t1, a1, k1⟩ := trod_ss2 h1
 have z2 := hx 2 _ rfl
 have h2 : DataW.trod enc Tryz.prog W base sp held m 4 ((cs.drop 2).take (Tryz.prog.cellsOf 4)) = some (xs[2]'(by rw [hlen]; decide)) := z2.trans (List.getElem?_eq_getElem _)
 clear z2
 obtain ⟨x2, e2, _⟩ := DataW.trod_bool Tryz.underlying4 h2
 exact ⟨⟨x0, x1, x2⟩, fun g o hc => ⟨⟨hc 0 _ (at_of e0 (j := 0) rfl), ⟨v1, hc 1 _ (at_of e1 (j := 0) rfl), s1⟩, hc 2 _ (at_of e2 (j := 0) rfl), sz_le w0, t1, l1⟩, v1, hc 1 _ (at_of e1 (j := 0) rfl), a1, k1⟩⟩
instance : Inhabited PAt := ⟨⟨⟨#[]⟩, S4.zero⟩⟩
theorem Tryz.cells_PAt : Tryz.prog.cellsOf 89 = 5 := by kernel_rfl
theorem trod_PAt : Shape 5 89 CAt W base sp held enc := by
 refine ⟨Tryz.cells_PAt, by decide, fun n cs x h => ?_⟩
 obtain ⟨xs, m, _, _, hl, hlen, hx⟩ := DataW.trod_struct Tryz.underlying89 h
 rw [Tryz.cells_PAt] at hl
 have z0 := hx 0 _ rfl
 have h0 : DataW.trod enc Tryz.prog W base sp held m 9 ((cs.drop 0).take (Tryz.prog.cellsOf 9)) = some (xs[0]'(by rw [hlen]; decide)) := z0.trans (List.getElem?_eq_getElem _)
 clear z0
 obtain ⟨x0, e0, _, w0⟩ := DataW.trod_string Tryz.underlying9 h0
 have z1 := hx 1 _ rfl
 have h1 : DataW.trod enc Tryz.prog W base sp held m 53 ((cs.drop 1).take (Tryz.prog.cellsOf 53)) = some (xs[1]'(by rw [hlen]; decide)) := z1.trans (List.getElem?_eq_getElem _)
 clear z1
 obtain ⟨x1, e1, w1⟩ := trod_set (by rw [List.length_take, List.length_drop, hl, Tryz.cellsSet]; rfl) h1
 exact ⟨⟨x0, x1⟩, fun g o hc => ⟨hc 0 _ (at_of e0 (j := 0) rfl), hc 1 _ (at_of e1 (j := 0) rfl), hc 2 _ (at_of e1 (j := 1) rfl), hc 3 _ (at_of e1 (j := 2) rfl), hc 4 _ (at_of e1 (j := 3) rfl), sz_le w0, w1.1, w1.2.1, w1.2.2.1, w1.2.2.2⟩⟩
instance : Inhabited PRo := ⟨⟨⟨#[]⟩, S4.zero, S4.zero⟩⟩
theorem Tryz.cells_PRo : Tryz.prog.cellsOf 91 = 9 := by kernel_rfl
theorem trod_PRo : Shape 9 91 CRo W base sp held enc := by
 refine ⟨Tryz.cells_PRo, by decide, fun n cs x h => ?_⟩
 obtain ⟨xs, m, _, _, hl, hlen, hx⟩ := DataW.trod_struct Tryz.underlying91 h
 rw [Tryz.cells_PRo] at hl
 have z0 := hx 0 _ rfl
 have h0 : DataW.trod enc Tryz.prog W base sp held m 9 ((cs.drop 0).take (Tryz.prog.cellsOf 9)) = some (xs[0]'(by rw [hlen]; decide)) := z0.trans (List.getElem?_eq_getElem _)
 clear z0
 obtain ⟨x0, e0, _, w0⟩ := DataW.trod_string Tryz.underlying9 h0
 have z1 := hx 1 _ rfl
 have h1 : DataW.trod enc Tryz.prog W base sp held m 53 ((cs.drop 1).take (Tryz.prog.cellsOf 53)) = some (xs[1]'(by rw [hlen]; decide)) := z1.trans (List.getElem?_eq_getElem _)
 clear z1
 obtain ⟨x1, e1, w1⟩ := trod_set (by rw [List.length_take, List.length_drop, hl, Tryz.cellsSet]; rfl) h1
 have z2 := hx 2 _ rfl
 have h2 : DataW.trod enc Tryz.prog W base sp held m 53 ((cs.drop 5).take (Tryz.prog.cellsOf 53)) = some (xs[2]'(by rw [hlen]; decide)) := z2.trans (List.getElem?_eq_getElem _)
 clear z2
 obtain ⟨x2, e2, w2⟩ := trod_set (by rw [List.length_take, List.length_drop, hl, Tryz.cellsSet]; rfl) h2
 exact ⟨⟨x0, x1, x2⟩, fun g o hc => ⟨hc 0 _ (at_of e0 (j := 0) rfl), hc 1 _ (at_of e1 (j := 0) rfl), hc 2 _ (at_of e1 (j := 1) rfl), hc 3 _ (at_of e1 (j := 2) rfl), hc 4 _ (at_of e1 (j := 3) rfl), hc 5 _ (at_of e2 (j := 0) rfl), hc 6 _ (at_of e2 (j := 1) rfl), hc 7 _ (at_of e2 (j := 2) rfl), hc 8 _ (at_of e2 (j := 3) rfl), sz_le w0, w1.1, w1.2.1, w1.2.2.1, w1.2.2.2, w2.1, w2.2.1, w2.2.2.1, w2.2.2.2⟩⟩
instance : Inhabited PUs := ⟨⟨⟨#[]⟩, S4.zero, ⟨0, 0⟩, ⟨0, 0⟩, ⟨0, 0⟩⟩⟩
theorem Tryz.cells_PUs : Tryz.prog.cellsOf 93 = 11 := by kernel_rfl
theorem trod_PUs : Shape 11 93 CUs W base sp held enc := by
 refine ⟨Tryz.cells_PUs, by decide, fun n cs x h => ?_⟩
 obtain ⟨xs, m, _, _, hl, hlen, hx⟩ := DataW.trod_struct Tryz.underlying93 h
 rw [Tryz.cells_PUs] at hl
 have z0 := hx 0 _ rfl
 have h0 : DataW.trod enc Tryz.prog W base sp held m 9 ((cs.drop 0).take (Tryz.prog.cellsOf 9)) = some (xs[0]'(by rw [hlen]; decide)) := z0.trans (List.getElem?_eq_getElem _)
 clear z0
 obtain ⟨x0, e0, _, w0⟩ := DataW.trod_string Tryz.underlying9 h0
 have z1 := hx 1 _ rfl
 have h1 : DataW.trod enc Tryz.prog W base sp held m 53 ((cs.drop 1).take (Tryz.prog.cellsOf 53)) = some (xs[1]'(by rw [hlen]; decide)) := z1.trans (List.getElem?_eq_getElem _)
 clear z1
 obtain ⟨x1, e1, w1⟩ := trod_set (by rw [List.length_take, List.length_drop, hl, Tryz.cellsSet]; rfl) h1
 have z2 := hx 2 _ rfl
 have h2 : DataW.trod enc Tryz.prog W base sp held m 42 ((cs.drop 5).take (Tryz.prog.cellsOf 42)) = some (xs[2]'(by rw [hlen]; decide)) := z2.trans (List.getElem?_eq_getElem _)
 clear z2
 obtain ⟨x2, e2, w2⟩ := trod_plv h2
 have z3 := hx 3 _ rfl
 have h3 : DataW.trod enc Tryz.prog W base sp held m 44 ((cs.drop 7).take (Tryz.prog.cellsOf 44)) = some (xs[3]'(by rw [hlen]; decide)) := z3.trans (List.getElem?_eq_getElem _)
 clear z3
 obtain ⟨x3, y3, e3, w3⟩ := trod_prg h3
 exact ⟨⟨x0, x1, x2, x3, y3⟩, fun g o hc => ⟨hc 0 _ (at_of e0 (j := 0) rfl), hc 1 _ (at_of e1 (j := 0) rfl), hc 2 _ (at_of e1 (j := 1) rfl), hc 3 _ (at_of e1 (j := 2) rfl), hc 4 _ (at_of e1 (j := 3) rfl), hc 5 _ (at_of e2 (j := 0) rfl), hc 6 _ (at_of e2 (j := 1) rfl), hc 7 _ (at_of e3 (j := 0) rfl), hc 8 _ (at_of e3 (j := 1) rfl), hc 9 _ (at_of e3 (j := 2) rfl), hc 10 _ (at_of e3 (j := 3) rfl), sz_le w0, w1.1, w1.2.1, w1.2.2.1, w1.2.2.2, w2.1, w2.2, w3.1, w3.2.1, w3.2.2.1, w3.2.2.2⟩⟩
instance : Inhabited PBo := ⟨⟨⟨#[]⟩, false⟩⟩
theorem Tryz.cells_PBo : Tryz.prog.cellsOf 95 = 2 := by kernel_rfl
theorem trod_PBo : Shape 2 95 CBo W base sp held enc := by
 refine ⟨Tryz.cells_PBo, by decide, fun n cs x h => ?_⟩
 obtain ⟨xs, m, _, _, hl, hlen, hx⟩ := DataW.trod_struct Tryz.underlying95 h
 rw [Tryz.cells_PBo] at hl
 have z0 := hx 0 _ rfl
 have h0 : DataW.trod enc Tryz.prog W base sp held m 9 ((cs.drop 0).take (Tryz.prog.cellsOf 9)) = some (xs[0]'(by rw [hlen]; decide)) := z0.trans (List.getElem?_eq_getElem _)
 clear z0
 obtain ⟨x0, e0, _, w0⟩ := DataW.trod_string Tryz.underlying9 h0
 have z1 := hx 1 _ rfl
 have h1 : DataW.trod enc Tryz.prog W base sp held m 4 ((cs.drop 1).take (Tryz.prog.cellsOf 4)) = some (xs[1]'(by rw [hlen]; decide)) := z1.trans (List.getElem?_eq_getElem _)
 clear z1
 obtain ⟨x1, e1, _⟩ := DataW.trod_bool Tryz.underlying4 h1
 exact ⟨⟨x0, x1⟩, fun g o hc => ⟨hc 0 _ (at_of e0 (j := 0) rfl), hc 1 _ (at_of e1 (j := 0) rfl), sz_le w0⟩⟩
instance : Inhabited PRu := ⟨⟨0, S4.zero, S4.zero, false, 0, 0, 0⟩⟩
theorem Tryz.cells_PRu : Tryz.prog.cellsOf 97 = 13 := by kernel_rfl
theorem trod_PRu : Shape 13 97 CRu W base sp held enc := by
 refine ⟨Tryz.cells_PRu, by decide, fun n cs x h => ?_⟩
 obtain ⟨xs, m, _, _, hl, hlen, hx⟩ := DataW.trod_struct Tryz.underlying97 h
 rw [Tryz.cells_PRu] at hl
 have z0 := hx 0 _ rfl
 have h0 : DataW.trod enc Tryz.prog W base sp held m 3 ((cs.drop 0).take (Tryz.prog.cellsOf 3)) = some (xs[0]'(by rw [hlen]; decide)) := z0.trans (List.getElem?_eq_getElem _)
 clear z0
 obtain ⟨x0, e0, _, w0⟩ := DataW.trod_int Tryz.underlying3 h0
 have z1 := hx 1 _ rfl
 have h1 : DataW.trod enc Tryz.prog W base sp held m 53 ((cs.drop 1).take (Tryz.prog.cellsOf 53)) = some (xs[1]'(by rw [hlen]; decide)) := z1.trans (List.getElem?_eq_getElem _)
 clear z1
 obtain ⟨x1, e1, w1⟩ := trod_set (by rw [List.length_take, List.length_drop, hl, Tryz.cellsSet]; rfl) h1
 have z2 := hx 2 _ rfl
 have h2 : DataW.trod enc Tryz.prog W base sp held m 53 ((cs.drop 5).take (Tryz.prog.cellsOf 53)) = some (xs[2]'(by rw [hlen]; decide)) := z2.trans (List.getElem?_eq_getElem _)
 clear z2
 obtain ⟨x2, e2, w2⟩ := trod_set (by rw [List.length_take, List.length_drop, hl, Tryz.cellsSet]; rfl) h2
 have z3 := hx 3 _ rfl
 have h3 : DataW.trod enc Tryz.prog W base sp held m 4 ((cs.drop 9).take (Tryz.prog.cellsOf 4)) = some (xs[3]'(by rw [hlen]; decide)) := z3.trans (List.getElem?_eq_getElem _)
 clear z3
 obtain ⟨x3, e3, _⟩ := DataW.trod_bool Tryz.underlying4 h3
 have z4 := hx 4 _ rfl
 have h4 : DataW.trod enc Tryz.prog W base sp held m 3 ((cs.drop 10).take (Tryz.prog.cellsOf 3)) = some (xs[4]'(by rw [hlen]; decide)) := z4.trans (List.getElem?_eq_getElem _)
 clear z4
 obtain ⟨x4, e4, _, w4⟩ := DataW.trod_int Tryz.underlying3 h4
 have z5 := hx 5 _ rfl
 have h5 : DataW.trod enc Tryz.prog W base sp held m 57 ((cs.drop 11).take (Tryz.prog.cellsOf 57)) = some (xs[5]'(by rw [hlen]; decide)) := z5.trans (List.getElem?_eq_getElem _)
 clear z5
 obtain ⟨x5, e5, _, w5⟩ := DataW.trod_int Tryz.underlying57 h5
 have z6 := hx 6 _ rfl
 have h6 : DataW.trod enc Tryz.prog W base sp held m 3 ((cs.drop 12).take (Tryz.prog.cellsOf 3)) = some (xs[6]'(by rw [hlen]; decide)) := z6.trans (List.getElem?_eq_getElem _)
 clear z6
 obtain ⟨x6, e6, _, w6⟩ := DataW.trod_int Tryz.underlying3 h6
 exact ⟨⟨x0, x1, x2, x3, x4, x5, x6⟩, fun g o hc => ⟨hc 0 _ (at_of e0 (j := 0) rfl), hc 1 _ (at_of e1 (j := 0) rfl), hc 2 _ (at_of e1 (j := 1) rfl), hc 3 _ (at_of e1 (j := 2) rfl), hc 4 _ (at_of e1 (j := 3) rfl), hc 5 _ (at_of e2 (j := 0) rfl), hc 6 _ (at_of e2 (j := 1) rfl), hc 7 _ (at_of e2 (j := 2) rfl), hc 8 _ (at_of e2 (j := 3) rfl), hc 9 _ (at_of e3 (j := 0) rfl), hc 10 _ (at_of e4 (j := 0) rfl), hc 11 _ (at_of e5 (j := 0) rfl), hc 12 _ (at_of e6 (j := 0) rfl), i64_of_wf w0, w1.1, w1.2.1, w1.2.2.1, w1.2.2.2, w2.1, w2.2.1, w2.2.2.1, w2.2.2.2, i64_of_wf w4, u32_of_wf w5, i64_of_wf w6⟩⟩
instance : Inhabited PTr := ⟨⟨0, S4.zero, S4.zero, 0, ⟨#[]⟩, 0, 0⟩⟩
theorem Tryz.cells_PTr : Tryz.prog.cellsOf 80 = 13 := by kernel_rfl
theorem trod_PTr : Shape 13 80 CTr W base sp held enc := by
 refine ⟨Tryz.cells_PTr, by decide, fun n cs x h => ?_⟩
 obtain ⟨xs, m, _, _, hl, hlen, hx⟩ := DataW.trod_struct Tryz.underlying80 h
 rw [Tryz.cells_PTr] at hl
 have z0 := hx 0 _ rfl
 have h0 : DataW.trod enc Tryz.prog W base sp held m 3 ((cs.drop 0).take (Tryz.prog.cellsOf 3)) = some (xs[0]'(by rw [hlen]; decide)) := z0.trans (List.getElem?_eq_getElem _)
 clear z0
 obtain ⟨x0, e0, _, w0⟩ := DataW.trod_int Tryz.underlying3 h0
 have z1 := hx 1 _ rfl
 have h1 : DataW.trod enc Tryz.prog W base sp held m 53 ((cs.drop 1).take (Tryz.prog.cellsOf 53)) = some (xs[1]'(by rw [hlen]; decide)) := z1.trans (List.getElem?_eq_getElem _)
 clear z1
 obtain ⟨x1, e1, w1⟩ := trod_set (by rw [List.length_take, List.length_drop, hl, Tryz.cellsSet]; rfl) h1
 have z2 := hx 2 _ rfl
 have h2 : DataW.trod enc Tryz.prog W base sp held m 53 ((cs.drop 5).take (Tryz.prog.cellsOf 53)) = some (xs[2]'(by rw [hlen]; decide)) := z2.trans (List.getElem?_eq_getElem _)
 clear z2
 obtain ⟨x2, e2, w2⟩ := trod_set (by rw [List.length_take, List.length_drop, hl, Tryz.cellsSet]; rfl) h2
 have z3 := hx 3 _ rfl
 have h3 : DataW.trod enc Tryz.prog W base sp held m 3 ((cs.drop 9).take (Tryz.prog.cellsOf 3)) = some (xs[3]'(by rw [hlen]; decide)) := z3.trans (List.getElem?_eq_getElem _)
 clear z3
 obtain ⟨x3, e3, _, w3⟩ := DataW.trod_int Tryz.underlying3 h3
 have z4 := hx 4 _ rfl
 have h4 : DataW.trod enc Tryz.prog W base sp held m 9 ((cs.drop 10).take (Tryz.prog.cellsOf 9)) = some (xs[4]'(by rw [hlen]; decide)) := z4.trans (List.getElem?_eq_getElem _)
 clear z4
 obtain ⟨x4, e4, _, w4⟩ := DataW.trod_string Tryz.underlying9 h4
 have z5 := hx 5 _ rfl
 have h5 : DataW.trod enc Tryz.prog W base sp held m 3 ((cs.drop 11).take (Tryz.prog.cellsOf 3)) = some (xs[5]'(by rw [hlen]; decide)) := z5.trans (List.getElem?_eq_getElem _)
 clear z5
 obtain ⟨x5, e5, _, w5⟩ := DataW.trod_int Tryz.underlying3 h5
 have z6 := hx 6 _ rfl
 have h6 : DataW.trod enc Tryz.prog W base sp held m 3 ((cs.drop 12).take (Tryz.prog.cellsOf 3)) = some (xs[6]'(by rw [hlen]; decide)) := z6.trans (List.getElem?_eq_getElem _)
 clear z6
 obtain ⟨x6, e6, _, w6⟩ := DataW.trod_int Tryz.underlying3 h6
 exact ⟨⟨x0, x1, x2, x3, x4, x5, x6⟩, fun g o hc => ⟨hc 0 _ (at_of e0 (j := 0) rfl), hc 1 _ (at_of e1 (j := 0) rfl), hc 2 _ (at_of e1 (j := 1) rfl), hc 3 _ (at_of e1 (j := 2) rfl), hc 4 _ (at_of e1 (j := 3) rfl), hc 5 _ (at_of e2 (j := 0) rfl), hc 6 _ (at_of e2 (j := 1) rfl), hc 7 _ (at_of e2 (j := 2) rfl), hc 8 _ (at_of e2 (j := 3) rfl), hc 9 _ (at_of e3 (j := 0) rfl), hc 10 _ (at_of e4 (j := 0) rfl), hc 11 _ (at_of e5 (j := 0) rfl), hc 12 _ (at_of e6 (j := 0) rfl), i64_of_wf w0, w1.1, w1.2.1, w1.2.2.1, w1.2.2.2, w2.1, w2.2.1, w2.2.2.1, w2.2.2.2, i64_of_wf w3, sz_le w4, i64_of_wf w5, i64_of_wf w6⟩⟩
instance : Inhabited PRt := ⟨⟨S4.zero, S4.zero, 0, 0⟩⟩
theorem Tryz.cells_PRt : Tryz.prog.cellsOf 130 = 10 := by kernel_rfl
theorem trod_PRt : Shape 10 130 CRt W base sp held enc := by
 refine ⟨Tryz.cells_PRt, by decide, fun n cs x h => ?_⟩
 obtain ⟨xs, m, _, _, hl, hlen, hx⟩ := DataW.trod_struct Tryz.underlying130 h
 rw [Tryz.cells_PRt] at hl
 have z0 := hx 0 _ rfl
 have h0 : DataW.trod enc Tryz.prog W base sp held m 53 ((cs.drop 0).take (Tryz.prog.cellsOf 53)) = some (xs[0]'(by rw [hlen]; decide)) := z0.trans (List.getElem?_eq_getElem _)
 clear z0
 obtain ⟨x0, e0, w0⟩ := trod_set (by rw [List.length_take, List.length_drop, hl, Tryz.cellsSet]; rfl) h0
 have z1 := hx 1 _ rfl
 have h1 : DataW.trod enc Tryz.prog W base sp held m 53 ((cs.drop 4).take (Tryz.prog.cellsOf 53)) = some (xs[1]'(by rw [hlen]; decide)) := z1.trans (List.getElem?_eq_getElem _)
 clear z1
 obtain ⟨x1, e1, w1⟩ := trod_set (by rw [List.length_take, List.length_drop, hl, Tryz.cellsSet]; rfl) h1
 have z2 := hx 2 _ rfl
 have h2 : DataW.trod enc Tryz.prog W base sp held m 3 ((cs.drop 8).take (Tryz.prog.cellsOf 3)) = some (xs[2]'(by rw [hlen]; decide)) := z2.trans (List.getElem?_eq_getElem _)
 clear z2
 obtain ⟨x2, e2, _, w2⟩ := DataW.trod_int Tryz.underlying3 h2
 have z3 := hx 3 _ rfl
 have h3 : DataW.trod enc Tryz.prog W base sp held m 3 ((cs.drop 9).take (Tryz.prog.cellsOf 3)) = some (xs[3]'(by rw [hlen]; decide)) := z3.trans (List.getElem?_eq_getElem _)
 clear z3
 obtain ⟨x3, e3, _, w3⟩ := DataW.trod_int Tryz.underlying3 h3
 exact ⟨⟨x0, x1, x2, x3⟩, fun g o hc => ⟨hc 0 _ (at_of e0 (j := 0) rfl), hc 1 _ (at_of e0 (j := 1) rfl), hc 2 _ (at_of e0 (j := 2) rfl), hc 3 _ (at_of e0 (j := 3) rfl), hc 4 _ (at_of e1 (j := 0) rfl), hc 5 _ (at_of e1 (j := 1) rfl), hc 6 _ (at_of e1 (j := 2) rfl), hc 7 _ (at_of e1 (j := 3) rfl), hc 8 _ (at_of e2 (j := 0) rfl), hc 9 _ (at_of e3 (j := 0) rfl), w0.1, w0.2.1, w0.2.2.1, w0.2.2.2, w1.1, w1.2.1, w1.2.2.1, w1.2.2.2, i64_of_wf w2, i64_of_wf w3⟩⟩
instance : Inhabited PRg := ⟨⟨S4.zero, S4.zero, 0, ⟨0, 0⟩, ⟨0, 0⟩⟩⟩
theorem Tryz.cells_PRg : Tryz.prog.cellsOf 132 = 13 := by kernel_rfl
theorem trod_PRg : Shape 13 132 CRg W base sp held enc := by
 refine ⟨Tryz.cells_PRg, by decide, fun n cs x h => ?_⟩
 obtain ⟨xs, m, _, _, hl, hlen, hx⟩ := DataW.trod_struct Tryz.underlying132 h
 rw [Tryz.cells_PRg] at hl
 have z0 := hx 0 _ rfl
 have h0 : DataW.trod enc Tryz.prog W base sp held m 53 ((cs.drop 0).take (Tryz.prog.cellsOf 53)) = some (xs[0]'(by rw [hlen]; decide)) := z0.trans (List.getElem?_eq_getElem _)
 clear z0
 obtain ⟨x0, e0, w0⟩ := trod_set (by rw [List.length_take, List.length_drop, hl, Tryz.cellsSet]; rfl) h0
 have z1 := hx 1 _ rfl
 have h1 : DataW.trod enc Tryz.prog W base sp held m 53 ((cs.drop 4).take (Tryz.prog.cellsOf 53)) = some (xs[1]'(by rw [hlen]; decide)) := z1.trans (List.getElem?_eq_getElem _)
 clear z1
 obtain ⟨x1, e1, w1⟩ := trod_set (by rw [List.length_take, List.length_drop, hl, Tryz.cellsSet]; rfl) h1
 have z2 := hx 2 _ rfl
 have h2 : DataW.trod enc Tryz.prog W base sp held m 3 ((cs.drop 8).take (Tryz.prog.cellsOf 3)) = some (xs[2]'(by rw [hlen]; decide)) := z2.trans (List.getElem?_eq_getElem _)
 clear z2
 obtain ⟨x2, e2, _, w2⟩ := DataW.trod_int Tryz.underlying3 h2
 have z3 := hx 3 _ rfl
 have h3 : DataW.trod enc Tryz.prog W base sp held m 44 ((cs.drop 9).take (Tryz.prog.cellsOf 44)) = some (xs[3]'(by rw [hlen]; decide)) := z3.trans (List.getElem?_eq_getElem _)
 clear z3
 obtain ⟨x3, y3, e3, w3⟩ := trod_prg h3
 exact ⟨⟨x0, x1, x2, x3, y3⟩, fun g o hc => ⟨hc 0 _ (at_of e0 (j := 0) rfl), hc 1 _ (at_of e0 (j := 1) rfl), hc 2 _ (at_of e0 (j := 2) rfl), hc 3 _ (at_of e0 (j := 3) rfl), hc 4 _ (at_of e1 (j := 0) rfl), hc 5 _ (at_of e1 (j := 1) rfl), hc 6 _ (at_of e1 (j := 2) rfl), hc 7 _ (at_of e1 (j := 3) rfl), hc 8 _ (at_of e2 (j := 0) rfl), hc 9 _ (at_of e3 (j := 0) rfl), hc 10 _ (at_of e3 (j := 1) rfl), hc 11 _ (at_of e3 (j := 2) rfl), hc 12 _ (at_of e3 (j := 3) rfl), w0.1, w0.2.1, w0.2.2.1, w0.2.2.2, w1.1, w1.2.1, w1.2.2.1, w1.2.2.2, i64_of_wf w2, w3.1, w3.2.1, w3.2.2.1, w3.2.2.2⟩⟩
instance : Inhabited PCo := ⟨⟨0, 0, false, .mk 0 0 0 0 [] S4.zero []⟩⟩
theorem Tryz.cells_PCo : Tryz.prog.cellsOf 71 = 13 := by kernel_rfl
theorem trod_PCo : Shape 13 71 CCo W base sp held enc := by
 refine ⟨Tryz.cells_PCo, by decide, fun n cs x h => ?_⟩
 obtain ⟨xs, m, _, _, hl, hlen, hx⟩ := DataW.trod_struct Tryz.underlying71 h
 rw [Tryz.cells_PCo] at hl
 have z0 := hx 0 _ rfl
 have h0 : DataW.trod enc Tryz.prog W base sp held m 3 ((cs.drop 0).take (Tryz.prog.cellsOf 3)) = some (xs[0]'(by rw [hlen]; decide)) := z0.trans (List.getElem?_eq_getElem _)
 clear z0
 obtain ⟨x0, e0, _, w0⟩ := DataW.trod_int Tryz.underlying3 h0
 have z1 := hx 1 _ rfl
 have h1 : DataW.trod enc Tryz.prog W base sp held m 57 ((cs.drop 1).take (Tryz.prog.cellsOf 57)) = some (xs[1]'(by rw [hlen]; decide)) := z1.trans (List.getElem?_eq_getElem _)
 clear z1
 obtain ⟨x1, e1, _, w1⟩ := DataW.trod_int Tryz.underlying57 h1
 have z2 := hx 2 _ rfl
 have h2 : DataW.trod enc Tryz.prog W base sp held m 4 ((cs.drop 2).take (Tryz.prog.cellsOf 4)) = some (xs[2]'(by rw [hlen]; decide)) := z2.trans (List.getElem?_eq_getElem _)
 clear z2
 obtain ⟨x2, e2, _⟩ := DataW.trod_bool Tryz.underlying4 h2
 have z3 := hx 3 _ rfl
 have h3 : DataW.trod enc Tryz.prog W base sp held m 55 ((cs.drop 3).take (Tryz.prog.cellsOf 55)) = some (xs[3]'(by rw [hlen]; decide)) := z3.trans (List.getElem?_eq_getElem _)
 clear z3
 obtain ⟨x3, vn3, vk3, e3, w3⟩ := trod_expr m m (Nat.le_refl _) h3
 exact ⟨⟨x0, x1, x2, x3⟩, fun g o hc => ⟨hc 0 _ (at_of e0 (j := 0) rfl), hc 1 _ (at_of e1 (j := 0) rfl), hc 2 _ (at_of e2 (j := 0) rfl), XAt_cells w3 (fun k v hk => by have := hc (3 + k) v (at_of e3 hk); rwa [← Nat.add_assoc] at this), i64_of_wf w0, u32_of_wf w1⟩⟩
instance : Inhabited PSi := ⟨⟨⟨#[]⟩, ⟨0, 0, 0, ⟨0, 0⟩, ⟨0, 0⟩⟩⟩⟩
theorem Tryz.cells_PSi : Tryz.prog.cellsOf 99 = 8 := by kernel_rfl
theorem trod_PSi : Shape 8 99 CSi W base sp held enc := by
 refine ⟨Tryz.cells_PSi, by decide, fun n cs x h => ?_⟩
 obtain ⟨xs, m, _, _, hl, hlen, hx⟩ := DataW.trod_struct Tryz.underlying99 h
 rw [Tryz.cells_PSi] at hl
 have z0 := hx 0 _ rfl
 have h0 : DataW.trod enc Tryz.prog W base sp held m 9 ((cs.drop 0).take (Tryz.prog.cellsOf 9)) = some (xs[0]'(by rw [hlen]; decide)) := z0.trans (List.getElem?_eq_getElem _)
 clear z0
 obtain ⟨x0, e0, _, w0⟩ := DataW.trod_string Tryz.underlying9 h0
 have z1 := hx 1 _ rfl
 have h1 : DataW.trod enc Tryz.prog W base sp held m 46 ((cs.drop 1).take (Tryz.prog.cellsOf 46)) = some (xs[1]'(by rw [hlen]; decide)) := z1.trans (List.getElem?_eq_getElem _)
 clear z1
 obtain ⟨x1, e1, w1⟩ := trod_pcx h1
 exact ⟨⟨x0, x1⟩, fun g o hc => ⟨hc 0 _ (at_of e0 (j := 0) rfl), hc 1 _ (at_of e1 (j := 0) rfl), hc 2 _ (at_of e1 (j := 1) rfl), hc 3 _ (at_of e1 (j := 2) rfl), hc 4 _ (at_of e1 (j := 3) rfl), hc 5 _ (at_of e1 (j := 4) rfl), hc 6 _ (at_of e1 (j := 5) rfl), hc 7 _ (at_of e1 (j := 6) rfl), sz_le w0, w1⟩⟩
instance : Inhabited PFi := ⟨⟨⟨#[]⟩, 0, ⟨0, 0, 0, ⟨0, 0⟩, ⟨0, 0⟩⟩⟩⟩
theorem Tryz.cells_PFi : Tryz.prog.cellsOf 136 = 9 := by kernel_rfl
theorem trod_PFi : Shape 9 136 CFi W base sp held enc := by
 refine ⟨Tryz.cells_PFi, by decide, fun n cs x h => ?_⟩
 obtain ⟨xs, m, _, _, hl, hlen, hx⟩ := DataW.trod_struct Tryz.underlying136 h
 rw [Tryz.cells_PFi] at hl
 have z0 := hx 0 _ rfl
 have h0 : DataW.trod enc Tryz.prog W base sp held m 9 ((cs.drop 0).take (Tryz.prog.cellsOf 9)) = some (xs[0]'(by rw [hlen]; decide)) := z0.trans (List.getElem?_eq_getElem _)
 clear z0
 obtain ⟨x0, e0, _, w0⟩ := DataW.trod_string Tryz.underlying9 h0
 have z1 := hx 1 _ rfl
 have h1 : DataW.trod enc Tryz.prog W base sp held m 3 ((cs.drop 1).take (Tryz.prog.cellsOf 3)) = some (xs[1]'(by rw [hlen]; decide)) := z1.trans (List.getElem?_eq_getElem _)
 clear z1
 obtain ⟨x1, e1, _, w1⟩ := DataW.trod_int Tryz.underlying3 h1
 have z2 := hx 2 _ rfl
 have h2 : DataW.trod enc Tryz.prog W base sp held m 46 ((cs.drop 2).take (Tryz.prog.cellsOf 46)) = some (xs[2]'(by rw [hlen]; decide)) := z2.trans (List.getElem?_eq_getElem _)
 clear z2
 obtain ⟨x2, e2, w2⟩ := trod_pcx h2
 exact ⟨⟨x0, x1, x2⟩, fun g o hc => ⟨hc 0 _ (at_of e0 (j := 0) rfl), hc 1 _ (at_of e1 (j := 0) rfl), hc 2 _ (at_of e2 (j := 0) rfl), hc 3 _ (at_of e2 (j := 1) rfl), hc 4 _ (at_of e2 (j := 2) rfl), hc 5 _ (at_of e2 (j := 3) rfl), hc 6 _ (at_of e2 (j := 4) rfl), hc 7 _ (at_of e2 (j := 5) rfl), hc 8 _ (at_of e2 (j := 6) rfl), sz_le w0, i64_of_wf w1, w2⟩⟩
instance : Inhabited PAs := ⟨⟨⟨#[]⟩, 0, S4.zero, S4.zero⟩⟩
theorem Tryz.cells_PAs : Tryz.prog.cellsOf 143 = 10 := by kernel_rfl
theorem trod_PAs : Shape 10 143 CAs W base sp held enc := by
 refine ⟨Tryz.cells_PAs, by decide, fun n cs x h => ?_⟩
 obtain ⟨xs, m, _, _, hl, hlen, hx⟩ := DataW.trod_struct Tryz.underlying143 h
 rw [Tryz.cells_PAs] at hl
 have z0 := hx 0 _ rfl
 have h0 : DataW.trod enc Tryz.prog W base sp held m 9 ((cs.drop 0).take (Tryz.prog.cellsOf 9)) = some (xs[0]'(by rw [hlen]; decide)) := z0.trans (List.getElem?_eq_getElem _)
 clear z0
 obtain ⟨x0, e0, _, w0⟩ := DataW.trod_string Tryz.underlying9 h0
 have z1 := hx 1 _ rfl
 have h1 : DataW.trod enc Tryz.prog W base sp held m 3 ((cs.drop 1).take (Tryz.prog.cellsOf 3)) = some (xs[1]'(by rw [hlen]; decide)) := z1.trans (List.getElem?_eq_getElem _)
 clear z1
 obtain ⟨x1, e1, _, w1⟩ := DataW.trod_int Tryz.underlying3 h1
 have z2 := hx 2 _ rfl
 have h2 : DataW.trod enc Tryz.prog W base sp held m 53 ((cs.drop 2).take (Tryz.prog.cellsOf 53)) = some (xs[2]'(by rw [hlen]; decide)) := z2.trans (List.getElem?_eq_getElem _)
 clear z2
 obtain ⟨x2, e2, w2⟩ := trod_set (by rw [List.length_take, List.length_drop, hl, Tryz.cellsSet]; rfl) h2
 have z3 := hx 3 _ rfl
 have h3 : DataW.trod enc Tryz.prog W base sp held m 53 ((cs.drop 6).take (Tryz.prog.cellsOf 53)) = some (xs[3]'(by rw [hlen]; decide)) := z3.trans (List.getElem?_eq_getElem _)
 clear z3
 obtain ⟨x3, e3, w3⟩ := trod_set (by rw [List.length_take, List.length_drop, hl, Tryz.cellsSet]; rfl) h3
 exact ⟨⟨x0, x1, x2, x3⟩, fun g o hc => ⟨hc 0 _ (at_of e0 (j := 0) rfl), hc 1 _ (at_of e1 (j := 0) rfl), hc 2 _ (at_of e2 (j := 0) rfl), hc 3 _ (at_of e2 (j := 1) rfl), hc 4 _ (at_of e2 (j := 2) rfl), hc 5 _ (at_of e2 (j := 3) rfl), hc 6 _ (at_of e3 (j := 0) rfl), hc 7 _ (at_of e3 (j := 1) rfl), hc 8 _ (at_of e3 (j := 2) rfl), hc 9 _ (at_of e3 (j := 3) rfl), sz_le w0, i64_of_wf w1, w2.1, w2.2.1, w2.2.2.1, w2.2.2.2, w3.1, w3.2.1, w3.2.2.1, w3.2.2.2⟩⟩
theorem trod_XAt : Shape 10 55 XAt W base sp held enc := by
 refine ⟨Tryz.cellsX, by decide, fun n cs x h => ?_⟩
 obtain ⟨y, vn, vk, rfl, hy⟩ := trod_expr n n (Nat.le_refl _) h
 exact ⟨y, fun g o hc => XAt_cells hy hc⟩
theorem list17 {α : Type} (l : List α) (h : l.length = 17) : ∃ c0 c1 c2 c3 c4 c5 c6 c7 c8 c9 c10 c11 c12 c13 c14 c15 c16, l = [c0, c1, c2, c3, c4, c5, c6, c7, c8, c9, c10, c11, c12, c13, c14, c15, c16] := by
 match l, h with
 | [c0, c1, c2, c3, c4, c5, c6, c7, c8, c9, c10, c11, c12, c13, c14, c15, c16], _ => exact ⟨c0, c1, c2, c3, c4, c5, c6, c7, c8, c9, c10, c11, c12, c13, c14, c15, c16, rfl⟩
theorem Tryz.cellsPol : Tryz.prog.cellsOf 39 = 17 := by kernel_rfl
set_option maxRecDepth 100000 in
theorem trod_pol {cs : List Value} (h : DataW.trod enc Tryz.prog W base sp held n 39 cs = some x) : ∃ (q : PV) (p : PP), cs = [q.v0, q.v1, q.v2, q.v3, q.v4, q.v5, q.v6, q.v7, q.v8, q.v9, q.v10, q.v11, q.v12, q.v13, q.v14, q.v15, q.v16] ∧ PolV W q p ∧ PLen p := by
 obtain ⟨xs, m, _, _, hl, hlen, hx⟩ := DataW.trod_struct Tryz.underlying39 h
 rw [Tryz.cellsPol] at hl
 have z0 := hx 0 _ rfl
 have h0 : DataW.trod enc Tryz.prog W base sp held m 22 ((cs.drop 0).take (Tryz.prog.cellsOf 22)) = some (xs[0]'(by rw [hlen]; decide)) := z0.trans (List.getElem?_eq_getElem _)
 clear z0
 obtain ⟨v0, l0, e0, s0, n0⟩ := trod_rows Tryz.underlying22 trod_PCl h0
 have z1 := hx 1 _ rfl
 have h1 : DataW.trod enc Tryz.prog W base sp held m 23 ((cs.drop 1).take (Tryz.prog.cellsOf 23)) = some (xs[1]'(by rw [hlen]; decide)) := z1.trans (List.getElem?_eq_getElem _)
 clear z1
 obtain ⟨v1, l1, e1, s1, n1⟩ := trod_rows Tryz.underlying23 trod_PTy h1
 have z2 := hx 2 _ rfl
 have h2 : DataW.trod enc Tryz.prog W base sp held m 24 ((cs.drop 2).take (Tryz.prog.cellsOf 24)) = some (xs[2]'(by rw [hlen]; decide)) := z2.trans (List.getElem?_eq_getElem _)
 clear z2
 obtain ⟨v2, l2, e2, s2, n2⟩ := trod_rows Tryz.underlying24 trod_PAt h2
 have z3 := hx 3 _ rfl
 have h3 : DataW.trod enc Tryz.prog W base sp held m 25 ((cs.drop 3).take (Tryz.prog.cellsOf 25)) = some (xs[3]'(by rw [hlen]; decide)) := z3.trans (List.getElem?_eq_getElem _)
 clear z3
 obtain ⟨v3, l3, e3, s3, n3⟩ := trod_rows Tryz.underlying25 trod_PRo h3
 have z4 := hx 4 _ rfl
 have h4 : DataW.trod enc Tryz.prog W base sp held m 26 ((cs.drop 4).take (Tryz.prog.cellsOf 26)) = some (xs[4]'(by rw [hlen]; decide)) := z4.trans (List.getElem?_eq_getElem _)
 clear z4
 obtain ⟨v4, l4, e4, s4, n4⟩ := trod_rows Tryz.underlying26 trod_PUs h4
 have z5 := hx 5 _ rfl
 have h5 : DataW.trod enc Tryz.prog W base sp held m 27 ((cs.drop 5).take (Tryz.prog.cellsOf 27)) = some (xs[5]'(by rw [hlen]; decide)) := z5.trans (List.getElem?_eq_getElem _)
 clear z5
 obtain ⟨v5, l5, e5, s5, n5⟩ := trod_rows Tryz.underlying27 trod_PBo h5
 have z6 := hx 6 _ rfl
 have h6 : DataW.trod enc Tryz.prog W base sp held m 28 ((cs.drop 6).take (Tryz.prog.cellsOf 28)) = some (xs[6]'(by rw [hlen]; decide)) := z6.trans (List.getElem?_eq_getElem _)
 clear z6
 obtain ⟨v6, l6, e6, s6, n6, t6, -, k6⟩ := trod_ss2 h6
 have z7 := hx 7 _ rfl
 have h7 : DataW.trod enc Tryz.prog W base sp held m 28 ((cs.drop 7).take (Tryz.prog.cellsOf 28)) = some (xs[7]'(by rw [hlen]; decide)) := z7.trans (List.getElem?_eq_getElem _)
 clear z7
 obtain ⟨v7, l7, e7, s7, n7, t7, -, k7⟩ := trod_ss2 h7
 have z8 := hx 8 _ rfl
 have h8 : DataW.trod enc Tryz.prog W base sp held m 29 ((cs.drop 8).take (Tryz.prog.cellsOf 29)) = some (xs[8]'(by rw [hlen]; decide)) := z8.trans (List.getElem?_eq_getElem _)
 clear z8
 obtain ⟨v8, l8, e8, s8, n8⟩ := trod_rows Tryz.underlying29 trod_XAt h8
 have z9 := hx 9 _ rfl
 have h9 : DataW.trod enc Tryz.prog W base sp held m 30 ((cs.drop 9).take (Tryz.prog.cellsOf 30)) = some (xs[9]'(by rw [hlen]; decide)) := z9.trans (List.getElem?_eq_getElem _)
 clear z9
 obtain ⟨v9, l9, e9, s9, n9⟩ := trod_rows Tryz.underlying30 trod_PRu h9
 have z10 := hx 10 _ rfl
 have h10 : DataW.trod enc Tryz.prog W base sp held m 31 ((cs.drop 10).take (Tryz.prog.cellsOf 31)) = some (xs[10]'(by rw [hlen]; decide)) := z10.trans (List.getElem?_eq_getElem _)
 clear z10
 obtain ⟨v10, l10, e10, s10, n10⟩ := trod_rows Tryz.underlying31 trod_PTr h10
 have z11 := hx 11 _ rfl
 have h11 : DataW.trod enc Tryz.prog W base sp held m 32 ((cs.drop 11).take (Tryz.prog.cellsOf 32)) = some (xs[11]'(by rw [hlen]; decide)) := z11.trans (List.getElem?_eq_getElem _)
 clear z11
 obtain ⟨v11, l11, e11, s11, n11⟩ := trod_rows Tryz.underlying32 trod_PRt h11
 have z12 := hx 12 _ rfl
 have h12 : DataW.trod enc Tryz.prog W base sp held m 33 ((cs.drop 12).take (Tryz.prog.cellsOf 33)) = some (xs[12]'(by rw [hlen]; decide)) := z12.trans (List.getElem?_eq_getElem _)
 clear z12
 obtain ⟨v12, l12, e12, s12, n12⟩ := trod_rows Tryz.underlying33 trod_PRg h12
 have z13 := hx 13 _ rfl
 have h13 : DataW.trod enc Tryz.prog W base sp held m 34 ((cs.drop 13).take (Tryz.prog.cellsOf 34)) = some (xs[13]'(by rw [hlen]; decide)) := z13.trans (List.getElem?_eq_getElem _)
 clear z13
 obtain ⟨v13, l13, e13, s13, n13⟩ := trod_rows Tryz.underlying34 trod_PCo h13
 have z14 := hx 14 _ rfl
 have h14 : DataW.trod enc Tryz.prog W base sp held m 35 ((cs.drop 14).take (Tryz.prog.cellsOf 35)) = some (xs[14]'(by rw [hlen]; decide)) := z14.trans (List.getElem?_eq_getElem _)
 clear z14
 obtain ⟨v14, l14, e14, s14, n14⟩ := trod_rows Tryz.underlying35 trod_PSi h14
 have z15 := hx 15 _ rfl
 have h15 : DataW.trod enc Tryz.prog W base sp held m 36 ((cs.drop 15).take (Tryz.prog.cellsOf 36)) = some (xs[15]'(by rw [hlen]; decide)) := z15.trans (List.getElem?_eq_getElem _)
 clear z15
 obtain ⟨v15, l15, e15, s15, n15⟩ := trod_rows Tryz.underlying36 trod_PFi h15
 have z16 := hx 16 _ rfl
 have h16 : DataW.trod enc Tryz.prog W base sp held m 37 ((cs.drop 16).take (Tryz.prog.cellsOf 37)) = some (xs[16]'(by rw [hlen]; decide)) := z16.trans (List.getElem?_eq_getElem _)
 clear z16
 obtain ⟨v16, l16, e16, s16, n16⟩ := trod_rows Tryz.underlying37 trod_PAs h16
 obtain ⟨c0, c1, c2, c3, c4, c5, c6, c7, c8, c9, c10, c11, c12, c13, c14, c15, c16, rfl⟩ := list17 cs hl
 obtain rfl : c0 = v0 := Option.some.inj (at_of e0 (j := 0) rfl)
 obtain rfl : c1 = v1 := Option.some.inj (at_of e1 (j := 0) rfl)
 obtain rfl : c2 = v2 := Option.some.inj (at_of e2 (j := 0) rfl)
 obtain rfl : c3 = v3 := Option.some.inj (at_of e3 (j := 0) rfl)
 obtain rfl : c4 = v4 := Option.some.inj (at_of e4 (j := 0) rfl)
 obtain rfl : c5 = v5 := Option.some.inj (at_of e5 (j := 0) rfl)
 obtain rfl : c6 = v6 := Option.some.inj (at_of e6 (j := 0) rfl)
 obtain rfl : c7 = v7 := Option.some.inj (at_of e7 (j := 0) rfl)
 obtain rfl : c8 = v8 := Option.some.inj (at_of e8 (j := 0) rfl)
 obtain rfl : c9 = v9 := Option.some.inj (at_of e9 (j := 0) rfl)
 obtain rfl : c10 = v10 := Option.some.inj (at_of e10 (j := 0) rfl)
 obtain rfl : c11 = v11 := Option.some.inj (at_of e11 (j := 0) rfl)
 obtain rfl : c12 = v12 := Option.some.inj (at_of e12 (j := 0) rfl)
 obtain rfl : c13 = v13 := Option.some.inj (at_of e13 (j := 0) rfl)
 obtain rfl : c14 = v14 := Option.some.inj (at_of e14 (j := 0) rfl)
 obtain rfl : c15 = v15 := Option.some.inj (at_of e15 (j := 0) rfl)
 obtain rfl : c16 = v16 := Option.some.inj (at_of e16 (j := 0) rfl)
 refine ⟨⟨c0, c1, c2, c3, c4, c5, c6, c7, c8, c9, c10, c11, c12, c13, c14, c15, c16⟩, ⟨l0, l1, l2, l3, l4, l5, l6, l7, l8, l9, l10, l11, l12, l13, l14, l15, l16⟩, rfl, ⟨s0, s1, s2, s3, s4, s5, s6, s7, s8, s9, s10, s11, s12, s13, s14, s15, s16, k6, k7, t6, t7⟩, ⟨?_, ?_, ?_, ?_, ?_, ?_, ?_, ?_, ?_, ?_, ?_, ?_, ?_, ?_, ?_, ?_, ?_⟩⟩
 all_goals (show _ ≤ 9223372036854775807; refine Nat.le_trans (by assumption) ?_; unfold maxLen; decide)
end
theorem Tryz.cellsChange : Tryz.prog.cellsOf 50 = 39 := by kernel_rfl
theorem split39 {cs : List Value} (hl : cs.length = 39) : cs = (cs.drop 0).take 17 ++ ((cs.drop 17).take 1 ++ (cs.drop 18).take 21) := by
 have h1 : (cs.drop 18).take 21 = cs.drop 18 := List.take_of_length_le (by simp; omega)
 have h2 : cs.drop 18 = (cs.drop 17).drop 1 := by rw [List.drop_drop]
 rw [h1, h2, List.take_append_drop, List.drop_zero, List.take_append_drop]
section
variable {H : Type} {enc : TypeId × Value → H} {W : World} {base : Nat} {v : Value} {d : DataW H} {p : List MemPlace}
set_option maxRecDepth 100000 in
theorem open_change (hok : Value.okWide Tryz.prog W .any base 50 v) (h : DataW.Trod enc Tryz.prog W 0 (fun _ => true) true 50 v d p) : ∃ (q : PV) (P : PP) (cl : Int) (c : Ca), v = .agg #[q.v0, q.v1, q.v2, q.v3, q.v4, q.v5, q.v6, q.v7, q.v8, q.v9, q.v10, q.v11, q.v12, q.v13, q.v14, q.v15, q.v16, .int .i64 cl, .int .i64 c.c1.u, .int .i64 c.c1.ro, .int .i64 c.c1.ty, .int .i64 c.c1.lo.s, .int .u64 c.c1.lo.c, .int .i64 c.c1.hi.s, .int .u64 c.c1.hi.c, .int .i64 c.c2.u, .int .i64 c.c2.ro, .int .i64 c.c2.ty, .int .i64 c.c2.lo.s, .int .u64 c.c2.lo.c, .int .i64 c.c2.hi.s, .int .u64 c.c2.hi.c, .int .i64 c.c3.u, .int .i64 c.c3.ro, .int .i64 c.c3.ty, .int .i64 c.c3.lo.s, .int .u64 c.c3.lo.c, .int .i64 c.c3.hi.s, .int .u64 c.c3.hi.c] ∧ PolV W q P ∧ PLen P ∧ I64 cl := by
 obtain ⟨⟨cs⟩, rfl, hsz, _⟩ : ∃ cs, v = .agg cs ∧ cs.size = Tryz.prog.cellsOf 50 ∧ Row.okWide Tryz.prog W .any base 50 cs := by
  simpa [Value.okWide, Tryz.underlying50] using hok
 obtain ⟨fuel, hf⟩ := h
 simp only [Value.cells] at hf
 obtain ⟨xs, m, _, _, hl, hlen, hx⟩ := DataW.trod_struct Tryz.underlying50 hf
 rw [Tryz.cellsChange] at hl
 have z0 := hx 0 _ rfl
 have h0 : DataW.trod enc Tryz.prog W 0 (fun _ => true) true m 39 ((cs.drop 0).take (Tryz.prog.cellsOf 39)) = some (xs[0]'(by rw [hlen]; decide)) := z0.trans (List.getElem?_eq_getElem _)
 clear z0
 have z1 := hx 1 _ rfl
 have h1 : DataW.trod enc Tryz.prog W 0 (fun _ => true) true m 3 ((cs.drop 17).take (Tryz.prog.cellsOf 3)) = some (xs[1]'(by rw [hlen]; decide)) := z1.trans (List.getElem?_eq_getElem _)
 clear z1
 have z2 := hx 2 _ rfl
 have h2 : DataW.trod enc Tryz.prog W 0 (fun _ => true) true m 48 ((cs.drop 18).take (Tryz.prog.cellsOf 48)) = some (xs[2]'(by rw [hlen]; decide)) := z2.trans (List.getElem?_eq_getElem _)
 clear z2
 obtain ⟨q, P, e0, hP, hL⟩ := trod_pol h0
 obtain ⟨cl, e1, _, w1⟩ := DataW.trod_int Tryz.underlying3 h1
 obtain ⟨c, e2⟩ := trod_ca h2
 rw [Tryz.cellsPol] at e0
 rw [Tryz.cellsInt] at e1
 rw [Tryz.cellsCa] at e2
 refine ⟨q, P, cl, c, ?_, hP, hL, i64_of_wf w1⟩
 exact congrArg (fun l => Value.agg ⟨l⟩) ((split39 hl).trans (by rw [e0, e1, e2]; rfl))
end
end Go.Proofs.YtbhoofihnmmmfabGreat
