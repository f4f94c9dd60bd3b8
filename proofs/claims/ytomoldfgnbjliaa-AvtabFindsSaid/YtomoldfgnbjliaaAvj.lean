/- Places of entries by a key that is an array: the map's relation. -/
import Derived.Test.YtomoldfgnbjliaaAvi
import Derived.Maps.GroupsBeside
import Derived.WideKeyPair
import Derived.WideKeyArr2
namespace Go.Proofs.Ytomoldfgnbjliaa
open Go.RowKit Go.Sort Go.Shelf Go.Maps Go.WideMaps Go.ChangeShapes
/-- the places of the entries with p, from place i on -/
def posn (p : E → Bool) : Nat → List E → List Int
  | _, [] => []
  | i, x :: r => if p x then (i : Int) :: posn p (i + 1) r else posn p (i + 1) r
theorem posn_snoc (p : E → Bool) (x : E) : ∀ (i : Nat) (l : List E), posn p i (l ++ [x]) = posn p i l ++ if p x then [((i + l.length : Nat) : Int)] else []
  | i, [] => by simp [posn]
  | i, y :: r => by
    have ih := posn_snoc p x (i + 1) r
    have e : i + 1 + r.length = i + (r.length + 1) := by omega
    simp only [List.cons_append, posn, ih, List.length_cons, e]
    split <;> simp
theorem posn_len (p : E → Bool) : ∀ (i : Nat) (l : List E), (posn p i l).length ≤ l.length
  | _, [] => Nat.le_refl _
  | i, y :: r => by
    have := posn_len p (i + 1) r
    unfold posn
    split <;> simp <;> omega
/-- the entries at the places are those with p -/
theorem posn_get (p : E → Bool) : ∀ (l pre : List E) (j : Nat) (h : j < (posn p pre.length l).length), ∃ (i : Nat) (hi : i < (pre ++ l).length) (hj : j < (l.filter p).length), (posn p pre.length l)[j] = (i : Int) ∧ (pre ++ l)[i] = (l.filter p)[j]
  | [], pre, j, h => by simp [posn] at h
  | x :: r, pre, j, h => by
    have ih := posn_get p r (pre ++ [x])
    have hl : (pre ++ [x]).length = pre.length + 1 := by simp
    rw [hl] at ih
    by_cases hp : p x = true
    · simp only [posn, hp, if_true] at h ⊢
      simp only [List.filter_cons, hp, if_true]
      match j, h with
      | 0, _ => exact ⟨pre.length, by simp, by simp, rfl, by simp⟩
      | j + 1, h =>
        obtain ⟨i, hi, hj, e1, e2⟩ := ih j (by simpa using h)
        exact ⟨i, by simpa using hi, by simpa using hj, by simpa using e1, by simpa using e2⟩
    · have hp' : p x = false := by simpa using hp
      simp only [posn, hp', Bool.false_eq_true, if_false] at h ⊢
      simp only [List.filter_cons, hp', Bool.false_eq_true, if_false]
      obtain ⟨i, hi, hj, e1, e2⟩ := ih j h
      exact ⟨i, by simpa using hi, hj, e1, by simpa using e2⟩
theorem posn_filter_len (p : E → Bool) : ∀ (i : Nat) (l : List E), (posn p i l).length = (l.filter p).length
  | _, [] => rfl
  | i, y :: r => by
    have := posn_filter_len p (i + 1) r
    unfold posn
    rw [List.filter_cons]
    split <;> simp [this]
/-- the numbers of a slice as the reader has it -/
def numsOf (d : DataW Unit) : List Int :=
  match d with
  | .slice es _ => es.filterMap fun | .lit (.int _ n) => some n | _ => none
  | _ => []
theorem numsOf_row {w : World} {base : Nat} {e : TypeId} {v : Value} {zs : List Int} (h : w.ownsInts base e .i64 v zs) : numsOf (rowDatum .i64 v zs) = zs := by
  rcases h.datum (H := Unit) with ⟨e1, rfl⟩ | e1
  · rw [e1]; rfl
  · rw [e1]
    simp only [numsOf, lits, List.filterMap_map]
    induction zs with
    | nil => rfl
    | cons a r ih => simp [Function.comp_def]
/-- a key, as the reader has it -/
def kl (ks : List Int) : Lit := .string (keyBytes (ks.map (Lit.int .i64)))
def keyV (ks : List Int) : Value := .agg (ks.map (Value.int .i64)).toArray
def WfK (ks : List Int) : Prop := ∀ z ∈ ks, (Lit.int .i64 z).wf = true
/-- a key type of the program -/
structure KT (tk : TypeId) (n : Nat) : Prop where
  K : Keyed Try.prog tk
  keyOf : ∀ ks : List Int, ks.length = n → WfK ks → keyOf Try.prog tk (keyV ks) = some (kl ks)
theorem keyV_inj {a b : List Int} (h : keyV a = keyV b) : a = b := by
  unfold keyV at h
  simp only [Value.agg.injEq] at h
  have h1 : a.map (Value.int IntKind.i64) = b.map (Value.int IntKind.i64) := by
    have := congrArg Array.toList h
    simpa using this
  exact (List.map_inj_right (fun x y e => by cases e; rfl)).1 h1
theorem KT.inj {tk : TypeId} {n : Nat} (T : KT tk n) {a b : List Int} (ha : a.length = n) (hb : b.length = n) (wa : WfK a) (wb : WfK b) (h : kl a = kl b) : a = b :=
  keyV_inj (T.K.inj (T.keyOf a ha wa) (h ▸ T.keyOf b hb wb))
theorem wf64 {z : Int} (h : -9223372036854775808 ≤ z ∧ z ≤ 9223372036854775807) : (Lit.int .i64 z).wf = true := by
  show (decide (-9223372036854775808 ≤ z) && decide (z ≤ 9223372036854775807)) = true
  simp [h.1, h.2]
theorem sizes : ∃ m, Try.prog.types.size = m + 1 := ⟨Try.prog.types.size - 1, by
  have : 0 < Try.prog.types.size := of_decide_eq_true (by kernel_rfl)
  omega⟩
theorem arr2 : ArrKey Try.prog 67 3 2 := ⟨Try.underlying67, by kernel_rfl, by kernel_rfl, by kernel_rfl⟩
theorem arr3 : ArrKey Try.prog 64 3 3 := ⟨Try.underlying64, by kernel_rfl, by kernel_rfl, by kernel_rfl⟩
theorem keyOf3 {a b c : Int} (wa : (Lit.int .i64 a).wf = true) (wb : (Lit.int .i64 b).wf = true) (wc : (Lit.int .i64 c).wf = true) :
    keyOf Try.prog 64 (.agg #[.int .i64 a, .int .i64 b, .int .i64 c]) = some (.string (keyBytes [.int .i64 a, .int .i64 b, .int .i64 c])) := by
  have A := arr3
  have he := Try.underlying3
  have hkt := A.keyType sizes
  obtain ⟨m, hm⟩ := sizes
  unfold keyOf
  simp only [A.hu]
  rw [if_pos (by simp [hkt, Value.formed, A.hu, A.size]), hm]
  unfold Program.keyLits
  simp only [A.hu, Value.cells]
  rw [if_pos (by rw [A.size]; rfl), show List.range 3 = [0, 1, 2] from rfl, List.mapM_cons, List.mapM_cons, List.mapM_cons, List.mapM_nil]
  simp [A.one, Program.keyLits, he, wa, wb, wc]
theorem kt2 : KT 67 2 := ⟨Keyed.of_law arr2.law, fun ks hl hw => by
  match ks, hl with
  | [a, b], _ => exact keyOf_pair arr2 Try.underlying3 sizes (hw a (by simp)) (hw b (by simp))⟩
theorem kt3 : KT 64 3 := ⟨Keyed.of_law arr3.law, fun ks hl hw => by
  match ks, hl with
  | [a, b, c], _ => exact keyOf3 (hw a (by simp)) (hw b (by simp)) (hw c (by simp))⟩
/-- the data of the map are the places of the entries L by the key kf -/
def DI (n : Nat) (kf : E → List Int) (L : List E) (D : DataW Unit) : Prop :=
  IsMap D ∧ ∀ ks : List Int, ks.length = n → WfK ks → numsOf (D.atKey (kl ks) .nil) = posn (fun x => kf x == ks) 0 L
theorem DI.nil (n : Nat) (kf : E → List Int) : DI n kf [] (.map []) := ⟨⟨_, rfl⟩, fun _ _ _ => rfl⟩
theorem DI.step {tk : TypeId} {n : Nat} (T : KT tk n) {kf : E → List Int} (hkf : ∀ x, (kf x).length = n ∧ WfK (kf x)) {L : List E} {D : DataW Unit} (h : DI n kf L D) (x : E) {w : World} {base : Nat} {e : TypeId} {v : Value} {zs : List Int}
    (hz : numsOf (D.atKey (kl (kf x)) .nil) = zs) (ho : w.ownsInts base e .i64 v (zs ++ [(L.length : Int)])) : DI n kf (L ++ [x]) (D.put (kl (kf x)) (rowDatum .i64 v (zs ++ [(L.length : Int)]))) := by
  obtain ⟨hm, hD⟩ := h
  have hkey := T.K.key (T.keyOf (kf x) (hkf x).1 (hkf x).2)
  refine ⟨?_, fun ks hl hw => ?_⟩
  · exact hm.put _ _
  · rw [posn_snoc]
    by_cases e1 : kf x = ks
    · subst e1
      rw [atKey_put_same hm hkey, numsOf_row ho, ← hz, hD _ hl hw]
      simp
    · rw [atKey_put_other (fun e2 => e1 (T.inj (hkf x).1 hl (hkf x).2 hw e2.symm)), hD _ hl hw]
      simp [e1]
/-- the places of the entries L by the key kf, in block b -/
def Grp (tk : TypeId) (n : Nat) (kf : E → List Int) (w : World) (b : Nat) (L : List E) : Prop :=
  ∃ D : DataW Unit, w.ownsGroups Try.prog tk (b + 1) 3 .i64 b L.length D ∧ DI n kf L D
theorem groups_lt {tk : TypeId} {w : World} {base b n : Nat} {D : DataW Unit} (h : w.ownsGroups Try.prog tk base 3 .i64 b n D) : b < w.heap.size := by
  obtain ⟨es, clock, hb, _⟩ := h
  exact (Array.getElem?_eq_some_iff.1 hb).1
theorem groups_keep {tk : TypeId} {w w' : World} {base b n : Nat} {D : DataW Unit} (h : w.ownsGroups Try.prog tk base 3 .i64 b n D) (hb : Below w.heap.size w w') : w'.ownsGroups Try.prog tk base 3 .i64 b n D :=
  h.kept (row := none) ⟨hb.os, hb.tape, hb.output, hb.size, fun k hk _ => hb.block k hk⟩ (by simp) (fun es clock hb x hx => by cases x.val.ownBlock <;> simp)
theorem Grp.keep {tk : TypeId} {n : Nat} {kf : E → List Int} {w w' : World} {b : Nat} {L : List E} (h : Grp tk n kf w b L) (hb : Below w.heap.size w w') : Grp tk n kf w' b L := by
  obtain ⟨D, h1, h2⟩ := h
  exact ⟨D, groups_keep h1 hb, h2⟩
/-- a block of another type is written -/
theorem Grp.keepT {tk : TypeId} {n : Nat} {kf : E → List Int} {w w' : World} {b g : Nat} {L : List E} {cs : Array Value} {t : TypeId} (ht : t ≠ 3) (h : Grp tk n kf w b L) (hg : Blk w g t cs) (hb : w.grownBy w' (some g)) : Grp tk n kf w' b L := by
  obtain ⟨D, h1, h2⟩ := h
  refine ⟨D, h1.kept hb ?_ ?_, h2⟩
  · intro e
    obtain ⟨es, clock, hm, _⟩ := h1
    cases e
    unfold Blk at hg
    rw [hg] at hm
    cases hm
  · intro es clock hm x hx
    obtain ⟨es', clock', hm', F, _⟩ := h1
    obtain ⟨rfl, rfl⟩ : es' = es ∧ clock' = clock := by rw [hm'] at hm; simpa using hm
    cases hx' : x.val.ownBlock with
    | none => exact .inl rfl
    | some q =>
      refine .inr fun e => ?_
      obtain ⟨y, hy⟩ := F.reads x hx
      obtain ⟨z, hz, _⟩ := Go.WideElems.rd_val hy
      obtain ⟨zs, hoi, _⟩ := rowElem_inv hz
      rcases hoi.1.2 with ⟨hv, _⟩ | ⟨g', cap, cur, hv, _, hh, _⟩
      · rw [hv] at hx'; simp [Value.ownBlock] at hx'
      · rw [hv] at hx'
        obtain rfl : g' = q := by simpa [Value.ownBlock] using hx'
        obtain rfl : g' = g := by simpa using e
        unfold Blk at hg
        rw [hg] at hh
        simp only [Option.some.injEq, Obj.cells.injEq] at hh
        exact ht hh.2.1
/-- a look-up does not hang on the rest of the memory -/
theorem lookup_same {tk t : TypeId} (K : Keyed Try.prog tk) (ht : Try.prog.underlying t = some (.map tk 58)) {w w' : World} {base b n : Nat} {D : DataW Unit} (h : w.ownsGroups Try.prog tk base 3 .i64 b n D) (hb : w'.heap[b]? = w.heap[b]?) {key : Value} {k : Lit} (hkey : keyOf Try.prog tk key = some k)
    {v : Value} (hrun : (Instr.lookup t (.map (some b)) key false).run Try.prog w = .ok v w) : (Instr.lookup t (.map (some b)) key false).run Try.prog w' = .ok v w' := by
  obtain ⟨es, clock, hm, F, _⟩ := h
  have F0 : Go.WideElems.Fit Try.prog tk (fun _ => some ((.nil : DataW Unit), ([] : List MemPlace))) es clock := ⟨F.size, F.stamped, fun x hx => by
    obtain ⟨y, hy⟩ := F.reads x hx
    exact ⟨(y.1, .nil), by simp [Go.WideElems.rd, Go.WideElems.rd_key hy]⟩⟩
  have hz : ∀ w : World, (zeroValue 58).run Try.prog w = .ok (.slice none 0 0) w := Try.zeroValue58
  have nd := F.stamped.2.2
  rcases Maps.fit_look false K ht (hz w) hm F0 hkey with ⟨r1, n1, _⟩ | ⟨e0, _, m1, k1, r1, _⟩
  · rcases Maps.fit_look false K ht (hz w') (hb.trans hm) F0 hkey with ⟨r2, _⟩ | ⟨e1, _, m2, k2, _⟩
    · rw [hrun] at r1
      simp only [Bool.false_eq_true, if_false, Result.ok.injEq, and_true] at r1
      rw [r2, r1]
      simp
    · exact absurd k2 (n1 e1 m2)
  · rcases Maps.fit_look false K ht (hz w') (hb.trans hm) F0 hkey with ⟨_, n2, _⟩ | ⟨e1, _, m2, k2, r2, _⟩
    · exact absurd k1 (n2 e0 m1)
    · have e : e0 = e1 := by
        have hp := List.pairwise_map.1 (List.nodup_iff_pairwise_ne.1 nd)
        obtain ⟨i, hi, rfl⟩ := List.getElem_of_mem m1
        obtain ⟨j, hj, rfl⟩ := List.getElem_of_mem m2
        have hp' := List.pairwise_iff_getElem.1 hp
        rcases Nat.lt_trichotomy i j with h | h | h
        · exact absurd (k1.trans k2.symm) (hp' i j hi hj h)
        · subst h; rfl
        · exact absurd (k2.trans k1.symm) (hp' j i hj hi h)
      subst e
      rw [hrun] at r1
      simp only [Bool.false_eq_true, if_false, Result.ok.injEq, and_true] at r1
      rw [r2, r1]
      simp
end Go.Proofs.Ytomoldfgnbjliaa
