/- Lists of bytes in memory. -/
import Derived.Test.YtohmlmbolilbbaaMm
import Derived.Test.YtohmlmbolilbbaaOpb
import Derived.ArgAppend
import Derived.Deep.AppendLies
import Derived.Deep.Onto
namespace Go.Proofs.Ytohmlmbolilbbaa
open Go.RowKit
/-- from cell o of block g on lie the bytes l -/
def BRow (w : World) (g o : Nat) (l : List Int) : Prop := ∀ k (h : k < l.length), w.cell? ⟨g, o + k, none⟩ = some (.int .u8 l[k])
/-- the value is a slice of the bytes l -/
def Byts (w : World) (v : Value) (l : List Int) : Prop :=
  AllB l ∧ ∃ ao cap, v = .slice ao l.length cap ∧ l.length ≤ cap ∧ (ao = none → cap = 0) ∧ (l ≠ [] → ∃ g o, ao = some ⟨g, o, none⟩ ∧ BRow w g o l)
section
variable {w w' : World} {v : Value} {l : List Int} {g o : Nat}
theorem BRow.lt (h : BRow w g o l) (hl : 0 < l.length) : g < w.heap.size := by
  have := h 0 hl
  rcases Nat.lt_or_ge g w.heap.size with h' | h'
  · exact h'
  · simp [World.cell?, Array.getElem?_eq_none h'] at this
theorem BRow.keep (h : BRow w g o l) (hb : w'.heap[g]? = w.heap[g]?) : BRow w' g o l := fun k hk => (World.cell?_of_block hb).trans (h k hk)
theorem BRow.stay (h : BRow w g o l) (hb : Below w.heap.size w w') : BRow w' g o l := fun k hk =>
  (h.keep (hb.block g (h.lt (by omega)))) k hk
theorem Byts.all (h : Byts w v l) : AllB l := h.1
theorem Byts.nil : Byts w (.slice none 0 0) [] := ⟨AllB.nil, none, 0, rfl, Nat.le_refl _, fun _ => rfl, fun h => absurd rfl h⟩
theorem Byts.keep (h : Byts w v l) (hb : Below w.heap.size w w') : Byts w' v l := by
  obtain ⟨ha, ao, cap, rfl, hc, hn, hr⟩ := h
  refine ⟨ha, ao, cap, rfl, hc, hn, fun hl => ?_⟩
  obtain ⟨g, o, rfl, hR⟩ := hr hl
  exact ⟨g, o, rfl, hR.keep (hb.block g (hR.lt (List.length_pos_iff.2 hl)))⟩
theorem Byts.alloc (h : Byts w v l) (o : Obj) : Byts (w.alloc o) v l := h.keep ((Below.refl _ _).alloc (Nat.le_refl _) o)
theorem Byts.drew (h : Byts w v l) : Byts w.drew v l := h
/-- where they lie -/
theorem Byts.slice {ao : Option Addr} {n cap : Nat} (h : Byts w (.slice ao n cap) l) : l.length = n ∧ n ≤ cap ∧ (ao = none → cap = 0) ∧ (0 < n → ∃ g o, ao = some ⟨g, o, none⟩ ∧ g < w.heap.size ∧ BRow w g o l) := by
  obtain ⟨_, ao', cap', hv, hc, hn, hr⟩ := h
  cases hv
  refine ⟨rfl, hc, hn, fun h0 => ?_⟩
  obtain ⟨g, o, rfl, hR⟩ := hr (List.ne_nil_of_length_pos h0)
  exact ⟨g, o, rfl, hR.lt h0, hR⟩
theorem BRow.drop (h : BRow w g o l) (k : Nat) : BRow w g (o + k) (l.drop k) := fun j hj => by
  rw [List.length_drop] at hj
  rw [Nat.add_assoc, h (k + j) (by omega), List.getElem_drop]
theorem BRow.take (h : BRow w g o l) (k : Nat) : BRow w g o (l.take k) := fun j hj => by
  rw [List.length_take] at hj
  rw [h j (by omega), List.getElem_take]
/-- what '.ownsRow' is of bytes -/
def OwnB (w : World) (base : Nat) (v : Value) (l : List Int) : Prop := w.ownsRow base 5 1 v l.length (l.map (Value.int .u8))
theorem OwnB.byts {base : Nat} (h : OwnB w base v l) (ha : AllB l) : Byts w v l := by
  have h0 := h
  refine ⟨ha, ?_⟩
  rcases h.2 with ⟨hv, hl⟩ | ⟨g, cap, cur, hv, _, hh, hc, _, hs, ht⟩
  · have hl : l = [] := List.eq_nil_of_length_eq_zero hl
    subst hl
    exact ⟨none, 0, by simpa using hv, Nat.le_refl _, fun _ => rfl, fun hn => absurd rfl hn⟩
  · refine ⟨some ⟨g, 0, none⟩, cap, hv, hc, (fun h => by cases h), fun _ => ⟨g, 0, rfl, fun k hk => ?_⟩⟩
    have := World.ownsRow.cells h0 (g := g) (by rw [hv]; rfl) k
    rw [List.getElem?_map, List.getElem?_eq_getElem hk] at this
    have := this _ rfl
    rw [Nat.zero_add]
    simpa [Addr.add_lit] using this
theorem OwnB.nil (w : World) (base : Nat) : OwnB w base (.slice none 0 0) [] := World.ownsRow_nil w base _ 1
end
theorem u8_one (q : List Int) : ∀ u ∈ q.map (Value.int .u8), u.oneCell' = true := ints_oneCell .u8 q
theorem BRow.cells {w : World} {g o : Nat} {q : List Int} (h : BRow w g o q) : ∀ j u, (q.map (Value.int .u8))[j]? = some u → w.cell? ((⟨g, o, none⟩ : Addr).add j) = some u := by
  intro j u hu
  have hj : j < q.length := by
    have := (List.getElem?_eq_some_iff.1 hu).1
    simpa using this
  rw [Addr.add_lit, h j hj]
  rw [List.getElem?_map, List.getElem?_eq_getElem hj] at hu
  exact hu
/-- bytes that can be appended to without writing what was there: a row of the call's own, or a slice without spare capacity -/
def Jn (w : World) (base : Nat) (v : Value) (l : List Int) : Prop := OwnB w base v l ∨ ∃ ao, v = .slice ao l.length l.length ∧ Byts w v l
theorem Jn.byts {w : World} {base : Nat} {v : Value} {l : List Int} (h : Jn w base v l) (ha : AllB l) : Byts w v l := by
  rcases h with h | ⟨_, _, h⟩
  · exact h.byts ha
  · exact h
theorem run_append_bytes {P : Program} (w : World) (base : Nat) (t ty : TypeId) (i : TypeInfo) (ht : P.underlying t = some (.slice 5)) (hi : P.info? 5 = some i) (hz : i.zero = some (.int .u8 0)) (hsize : i.size = 1) (hby : i.bytes = 1)
    (v x : Value) (l q : List Int) (hv : Jn w base v l) (hx : Byts w x q) (hlen : l.length + q.length ≤ 1000000000) (hbase : base ≤ w.heap.size) :
    ∃ v' w', (Builtin.append_ #[t, t] ty #[v, x]).run P w = .ok v' w' ∧ Jn w' base v' (l ++ q) ∧ Below base w w' ∧ (OwnB w base v l ∨ q ≠ [] → OwnB w' base v' (l ++ q)) := by
  have hml : l.length + q.length ≤ maxLen := by unfold maxLen; omega
  obtain ⟨haq, ao, cap, rfl, hcap, hnone, hrow⟩ := hx
  rcases hv with hown | ⟨a0, rfl, hB⟩
  · have hown' : w.ownsRow base 5 1 v l.length (l.map (Value.int .u8)) := hown
    cases ao with
    | none =>
      have hc0 := hnone rfl
      subst hc0
      obtain rfl : q = [] := List.eq_nil_of_length_eq_zero (by omega)
      have hr := run_append_owned_none (P := P) w base t ty 5 i 1 ht hi v l.length _ hown'
      rw [List.append_nil]
      exact ⟨v, w, hr, .inl hown, Below.refl _ _, fun _ => hown⟩
    | some ad =>
      have hnews : ∀ j u, (q.map (Value.int .u8))[j]? = some u → w.cell? (ad.add j) = some u := by
        intro j u hu
        have hj : j < q.length := by
          have := (List.getElem?_eq_some_iff.1 hu).1
          simpa using this
        obtain ⟨g, o, hg, hR⟩ := hrow (List.ne_nil_of_length_pos (by omega))
        cases hg
        exact hR.cells j u hu
      obtain ⟨v', w', hrun, h2, h3, _⟩ := run_append_own (P := P) w base t ty 5 i (.int .u8 0) 1 1 ht hi hz hsize hby rfl (by omega) v l.length _ hown' ad q.length cap (q.map (Value.int .u8)) (by simp) hnews (u8_one q) hml (by omega) hbase
      have ho : OwnB w' base v' (l ++ q) := by
        unfold OwnB
        rw [List.length_append, List.map_append]
        exact h2
      exact ⟨v', w', hrun, .inl ho, (Below.refl _ _).grown h3 hbase (fun k hk => (World.ownsRow.lt hown' k hk).1), fun _ => ho⟩
  · by_cases hq : q = []
    · subst hq
      refine ⟨_, w, ?_, .inr ⟨a0, rfl, ?_⟩, Below.refl _ _, fun h => ?_⟩
      · cases a0 <;> cases ao <;> simp [Builtin.append_, run_underlying ht, sizeOf, typeInfo, hi, hsize, Builtin.lenOf, Builtin.firstCells, storeCells, loadCells] <;> rfl
      · rw [List.append_nil]; exact hB
      · rw [List.append_nil]
        exact h.elim id (fun h => absurd rfl h)
    · obtain ⟨g, o, rfl, hR⟩ := hrow hq
      have hq0 : 0 < q.length := List.length_pos_iff.2 hq
      have hcells := hR.cells
      have hslice := hB.slice
      have ⟨v', w', hrun, h2, h3⟩ : ∃ v' w', (Builtin.append_ #[t, t] ty #[.slice a0 l.length l.length, .slice (some ⟨g, o, none⟩) q.length cap]).run P w = .ok v' w' ∧ w'.ownsRow w.heap.size 5 1 v' (l.length + q.length) (l.map (Value.int .u8) ++ q.map (Value.int .u8)) ∧ w.grownBy w' none := by
        cases a0 with
        | none =>
          have h0 : l = [] := List.eq_nil_of_length_eq_zero (hslice.2.2.1 rfl)
          subst h0
          obtain ⟨v', w', hrun, h2, h3, _⟩ := run_append_own (P := P) w w.heap.size t ty 5 i (.int .u8 0) 1 1 ht hi hz hsize hby rfl (by omega) (.slice none 0 0) 0 [] (World.ownsRow_nil w _ _ 1) ⟨g, o, none⟩ q.length cap (q.map (Value.int .u8)) (by simp) hcells (u8_one q) (by unfold maxLen; omega) (by omega) (Nat.le_refl _)
          exact ⟨v', w', hrun, h2, h3⟩
        | some b =>
          have holds : ∀ j u, (l.map (Value.int .u8))[j]? = some u → w.cell? (b.add j) = some u := by
            intro j u hu
            have hj : j < l.length := by
              have := (List.getElem?_eq_some_iff.1 hu).1
              simpa using this
            obtain ⟨g', o', hg', _, hR'⟩ := hslice.2.2.2 (by omega)
            cases hg'
            exact hR'.cells j u hu
          exact run_append_arg_grows (P := P) w t ty 5 i (.int .u8 0) 1 1 ht hi hz hsize hby rfl (by omega) b l.length l.length _ (by simp) holds ⟨g, o, none⟩ q.length cap _ (by simp) hcells (by omega) hml (by omega)
      have ho : OwnB w' base v' (l ++ q) := by
        unfold OwnB
        rw [List.length_append, List.map_append]
        exact h2.mono hbase
      exact ⟨v', w', hrun, .inl ho, (Below.refl _ _).grown h3 hbase (fun k hk => by cases hk), fun _ => ho⟩
theorem wpList_append_bytes {P : Program} (w : World) {ops : Array Oper} {rest : List Oper} {o : Oper} {a : Act} {Q : Exit → Act → World → Prop} (hgd : o.guard = none) (s x : Operand) (t : TypeId)
    (ho : o.op = .call { callee := .builtin .append, args := #[s, x], argTypes := #[t, t] })
    (base : Nat) (i : TypeInfo) (ht : P.underlying t = some (.slice 5)) (hi : P.info? 5 = some i) (hz : i.zero = some (.int .u8 0)) (hsize : i.size = 1) (hby : i.bytes = 1)
    (v y : Value) (l q : List Int) (hs : a.eval s = v) (hy : a.eval x = y) (hv : Jn w base v l) (hx : Byts w y q) (hlen : l.length + q.length ≤ 1000000000) (hbase : base ≤ w.heap.size)
    (h : ∀ v' w', Jn w' base v' (l ++ q) → Below base w w' → (OwnB w base v l ∨ q ≠ [] → OwnB w' base v' (l ++ q)) → wpList P ops Q rest (a.put o.dst v') w') : wpList P ops Q (o :: rest) a w := by
  refine wpList_plain hgd fun K hK => ?_
  obtain ⟨v', w', hrun, h2, h3, h4⟩ := run_append_bytes (P := P) w base t o.type i ht hi hz hsize hby v y l q hv hx hlen hbase
  unfold Oper.wp execOp
  simp only [ho, resolve, invoke, builtin, Sem.run_bind, Sem.run_pure, Result.andThen_ok, List.map_toArray, List.map_cons, List.map_nil, hs, hy, hrun]
  exact hK _ _ (h v' w' h2 h3 h4)
end Go.Proofs.Ytohmlmbolilbbaa
