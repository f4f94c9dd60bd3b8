/- Eyj Eyk Eyl Eym Eyn Eyo Eyp Eyq Eyr Eys Eyu Eyv Eyw Ezf Ezm Ezo -/
import Derived.Test.YtjikbffnhfoikaaZad
import Derived.Shelf.SlSortCmp.NoneTotal
import Derived.Test.YtjikbffnhfoikaaRows
/- slices.SortFunc of rules: the library's contract, laid at this program. -/
namespace Go.Proofs.Ytjikbffnhfoikaa
open Go.RowKit Go.Shelf Go.Lib Go.Sort
def sortR_ren : Go.Shelf.Ren := ⟨fun | 6 => 46 | 15 => 63 | 14 => 70 | 28 => 86 | 29 => 87 | 20 => 89 | 21 => 90 | 22 => 91 | 23 => 92 | 24 => 93 | 25 => 94 | 26 => 95 | 27 => 96 | 46 => 104 | 47 => 100 | 48 => 101 | 49 => 105 | 50 => 106 | 57 => 108 | n => n, fun | 22 => 41 | 24 => 27 | 25 => 99 | 3 => 3 | 39 => 117 | 0 => 0 | 53 => 25 | 55 => 22 | 4 => 4 | 46 => 132 | 45 => 131 | 50 => 107 | 5 => 5 | 9 => 9 | 66 => 144 | 70 => 148 | 76 => 152 | 77 => 153 | n => n, fun n => n⟩
theorem sortR : Go.Proofs.SlLaysF0.n6 Try.prog sortR_ren := {
  mixed := by kernel_rfl
  f6 := ⟨Try.f46.name, by decide, Try.func46.trans (congrArg some (by kernel_rfl))⟩
  f14 := ⟨Try.f70.name, by decide, Try.func70.trans (congrArg some (by kernel_rfl))⟩
  f15 := Try.func63.trans (congrArg some (by kernel_rfl))
  f20 := ⟨Try.f89.name, by decide, Try.func89.trans (congrArg some (by kernel_rfl))⟩
  f21 := ⟨Try.f90.name, by decide, Try.func90.trans (congrArg some (by kernel_rfl))⟩
  f22 := ⟨Try.f91.name, by decide, Try.func91.trans (congrArg some (by kernel_rfl))⟩
  f23 := ⟨Try.f92.name, by decide, Try.func92.trans (congrArg some (by kernel_rfl))⟩
  f24 := ⟨Try.f93.name, by decide, Try.func93.trans (congrArg some (by kernel_rfl))⟩
  f25 := ⟨Try.f94.name, by decide, Try.func94.trans (congrArg some (by kernel_rfl))⟩
  f26 := ⟨Try.f95.name, by decide, Try.func95.trans (congrArg some (by kernel_rfl))⟩
  f27 := ⟨Try.f96.name, by decide, Try.func96.trans (congrArg some (by kernel_rfl))⟩
  f28 := Try.func86.trans (congrArg some (by kernel_rfl))
  f29 := Try.func87.trans (congrArg some (by kernel_rfl))
  f46 := ⟨Try.f104.name, by decide, Try.func104.trans (congrArg some (by kernel_rfl))⟩
  f47 := Try.func100.trans (congrArg some (by kernel_rfl))
  f48 := Try.func101.trans (congrArg some (by kernel_rfl))
  f49 := ⟨Try.f105.name, by decide, Try.func105.trans (congrArg some (by kernel_rfl))⟩
  f50 := ⟨Try.f106.name, by decide, Try.func106.trans (congrArg some (by kernel_rfl))⟩
  f57 := ⟨Try.f108.name, by decide, Try.func108.trans (congrArg some (by kernel_rfl))⟩
  t0 := Try.underlying0
  a0 := Try.isAgg0
  z0 := Try.sizeOf0
  v0 := Try.zeroValue0
  t3 := Try.underlying3
  a3 := Try.isAgg3
  z3 := Try.sizeOf3
  v3 := Try.zeroValue3
  t4 := Try.underlying4
  a4 := Try.isAgg4
  z4 := Try.sizeOf4
  v4 := Try.zeroValue4
  t5 := Try.underlying5
  a5 := Try.isAgg5
  z5 := Try.sizeOf5
  v5 := Try.zeroValue5
  t9 := Try.underlying9
  a9 := Try.isAgg9
  z9 := Try.sizeOf9
  v9 := Try.zeroValue9
  t22 := Try.underlying41
  a22 := Try.isAgg41
  z22 := Try.sizeOf41
  v22 := Try.zeroValue41
  t25 := Try.underlying99
  a25 := Try.isAgg99
  z25 := Try.sizeOf99
  v25 := Try.zeroValue99
  t39 := Try.underlying117
  a39 := Try.isAgg117
  z39 := Try.sizeOf117
  v39 := Try.zeroValue117
  t45 := Try.underlying131
  a45 := Try.isAgg131
  z45 := Try.sizeOf131
  v45 := Try.zeroValue131
  t46 := Try.underlying132
  a46 := Try.isAgg132
  z46 := Try.sizeOf132
  v46 := Try.zeroValue132
  t50 := Try.underlying107
  a50 := Try.isAgg107
  z50 := Try.sizeOf107
  v50 := Try.zeroValue107
  t53 := Try.underlying25
  a53 := Try.isAgg25
  z53 := Try.sizeOf25
  v53 := Try.zeroValue25
  t55 := Try.underlying22
  a55 := Try.isAgg22
  z55 := Try.sizeOf22
  v55 := Try.zeroValue22
  t66 := Try.underlying144
  a66 := Try.isAgg144
  z66 := Try.sizeOf144
  v66 := Try.zeroValue144
  t70 := Try.underlying148
  a70 := Try.isAgg148
  z70 := Try.sizeOf148
  v70 := Try.zeroValue148
  t76 := Try.underlying152
  a76 := Try.isAgg152
  z76 := Try.sizeOf152
  v76 := Try.zeroValue152
  t77 := Try.underlying153
  a77 := Try.isAgg153
  z77 := Try.sizeOf153
  v77 := Try.zeroValue153 }
end Go.Proofs.Ytjikbffnhfoikaa
/- slices.SortFunc of rules by compareRules. -/
namespace Go.Proofs.Ytjikbffnhfoikaa
open Go.RowKit Go.Sort Go.Shelf
def ltR (x y : Ru) : Prop := x.k < y.k ∨ x.k = y.k ∧ (x.cl < y.cl ∨ x.cl = y.cl ∧ (x.cd < y.cd ∨ x.cd = y.cd ∧ (vI x.pm < vI y.pm ∨ vI x.pm = vI y.pm ∧ leastS x.src < leastS y.src)))
instance (x y : Ru) : Decidable (ltR x y) := by unfold ltR; infer_instance
theorem orC_lt (a b r : Int) : (if cmpI a b = 0 then r else cmpI a b) < 0 ↔ a < b ∨ a = b ∧ r < 0 := by
  unfold cmpI
  by_cases h1 : a < b
  · simp [h1]
  · by_cases h2 : b < a
    · simp [h1, h2]; omega
    · simp [h1, h2]; omega
theorem orC_last (a b : Int) : (if cmpI a b = 0 then 0 else cmpI a b) < 0 ↔ a < b := by
  rw [orC_lt]; omega
theorem cmpR_lt {x y : Ru} : cmpR x y < 0 ↔ ltR x y := by
  unfold cmpR ltR
  simp only [orL]
  rw [orC_lt, orC_lt, orC_lt, orC_lt, orC_last]
theorem ltR_irrefl (x : Ru) : ¬ ltR x x := by unfold ltR; omega
theorem ltR_trans {x y z : Ru} (h1 : ltR x y) (h2 : ltR y z) : ltR x z := by unfold ltR at *; omega
theorem ltR_ntrans {x y z : Ru} (h1 : ¬ ltR x y) (h2 : ¬ ltR y z) : ¬ ltR x z := by unfold ltR at *; omega
instance : Inhabited Ru := ⟨⟨0, S4.zero, S4.zero, false, 0, 0, 0, ⟨by decide, by decide, by decide, U_zero, U_zero⟩⟩⟩
theorem ltR_eq (x y : Ru) : ltOf cmpR x y = decide (ltR x y) := by
  unfold ltOf
  exact decide_eq_decide.2 cmpR_lt
theorem swoR : SWO (ltOf cmpR) where
  irrefl x := by rw [ltR_eq]; exact decide_eq_false (ltR_irrefl x)
  trans x y z h1 h2 := by rw [ltR_eq] at *; simp only [decide_eq_true_eq] at *; exact ltR_trans h1 h2
  ntrans x y z h1 h2 := by rw [ltR_eq] at *; simp only [decide_eq_false_iff_not] at *; exact ltR_ntrans h1 h2
def AscR (L : List Ru) : Prop := L.Pairwise fun x y => ¬ ltR y x
theorem OwnR.form {w : World} {B : Nat} {v : Value} {L : List Ru} (h : OwnR w B v L) :
    (v = .slice none 0 0 ∧ L = []) ∨ ∃ g cap cur, v = .slice (some ⟨g, 0, none⟩) L.length cap ∧ B ≤ g ∧ w.heap[g]? = some (.cells cur 27 (0, 0)) ∧ L.length ≤ cap ∧ cap ≤ maxLen ∧ cur.size = cap * 13 ∧ ∀ i x, L[i]? = some x → ∀ k, k < 13 → cur[i * 13 + k]? = (cellsR x)[k]? := by
  rcases h.2 with ⟨h1, h2⟩ | ⟨g, cap, cur, h1, h2, h3, h4, h5, h6, h7⟩
  · exact .inl ⟨h1, List.eq_nil_of_length_eq_zero h2⟩
  · refine .inr ⟨g, cap, cur, h1, h2, h3, h4, h5, h6, fun i x hx k hk => ?_⟩
    rw [← fmR_get L i k x hx hk, ← h7, List.getElem?_take]
    have : i < L.length := (List.getElem?_eq_some_iff.1 hx).1
    rw [if_pos (by omega)]
    simp
theorem cmpLaysR (blk off size : Nat) (w : World) : CmpLays Try.prog 47 #[] cellsR 13 cmpR blk off size w :=
  fun _ _ _ _ x y => compareRules_c x y _
/-- a row of its own, as the sort's contract has it -/
theorem OwnR.holdsK {w : World} {g : Nat} {cur : Array Value} {L : List Ru} (hg : w.heap[g]? = some (.cells cur 27 (0, 0)))
    (h : ∀ i x, L[i]? = some x → ∀ k, k < 13 → cur[i * 13 + k]? = (cellsR x)[k]?) : HoldsK cellsR 13 w g 0 L.toArray := by
  intro j hj
  rw [size_flatK] at hj
  have hi : j / 13 < L.length := by simp at hj; omega
  have h1 := h (j / 13) L[j / 13] (List.getElem?_eq_getElem hi) (j % 13) (by omega)
  rw [show j / 13 * 13 + j % 13 = j by omega] at h1
  refine ⟨?_, Blk.frozen (show Blk w g _ cur from hg) _⟩
  rw [cell_of_row w g _ cur _ (0, 0) hg, Nat.zero_add, h1, get_flatK _ _ _ j (by simpa using hj)]
  have e : L.toArray[j / 13]! = L[j / 13] := by rw [getElem!_pos _ _ (by simpa using hi)]; simp
  rw [e]
  have hk : j % 13 < (cellsR L[j / 13]).length := by rw [cellsR_len]; omega
  rw [List.getElem?_eq_getElem hk, getElem!_pos (cellsR L[j / 13]) (j % 13) hk]
  rfl
theorem sortR_block {w : World} {blk n : Nat} {d : Array Ru} {os : Array Obj} {j : Nat} (hj : j ≠ blk) (hlt : j < w.heap.size) : (sortWorldK cellsR 13 w blk 0 n d os).heap[j]? = w.heap[j]? := by
  unfold sortWorldK
  show ((putRowK cellsR 13 (Sort.ahead w n) blk 0 d).heap ++ os)[j]? = _
  rw [Array.getElem?_append_left (by rw [size_putRowK]; exact hlt)]
  unfold putRowK putRow mapBlock
  show ((Sort.ahead w n).heap.modify blk _)[j]? = _
  rw [Array.getElem?_modify, if_neg (fun e => hj e.symm)]
  rfl
theorem sortR_grown {w : World} {blk n : Nat} {d : Array Ru} {os : Array Obj} : w.grownBy (sortWorldK cellsR 13 w blk 0 n d os) (some blk) :=
  ⟨rfl, rfl, rfl, size_sortWorldK_c cellsR 13 w blk 0 n d os, fun j hj hne => sortR_block (by rintro rfl; exact hne rfl) hj⟩
/-- ascending, of the entries L -/
def SortedR (L S : List Ru) : Prop := S.Perm L ∧ AscR S
/-- what the sort leaves -/
def SortOutR (w : World) (L : List Ru) (e : Ending) (w' : World) : Prop := ∃ v S, e = .returned v ∧ Rus w' v S ∧ SortedR L S ∧ Below w.heap.size w w'
theorem sortR_list {L : List Ru} {d : Array Ru} (hp : PermIn 0 L.toArray.size L.toArray d) (hs : SortedIn (ltOf cmpR) 0 L.toArray.size d) : SortedR L d.toList := by
  obtain ⟨h1, _, h3⟩ := hp
  constructor
  · have e : d.extract 0 L.toArray.size = d := by rw [← h1]; simp
    rw [e] at h3
    simpa using h3
  · unfold AscR
    rw [List.pairwise_iff_getElem]
    intro i j hi hj hij
    have hi' : i < d.size := by simpa using hi
    have hj' : j < d.size := by simpa using hj
    have := hs i j (Nat.zero_le _) hij (by rw [← h1]; exact hj')
    rw [ltR_eq, decide_eq_false_iff_not, getElem!_pos d j hj', getElem!_pos d i hi'] at this
    simpa using this
set_option maxRecDepth 100000 in
theorem sortR_c {w : World} {B : Nat} {v : Value} {L : List Ru} (hl : L.length ≤ 100000) (h : OwnR w B v L) :
    Calls Try.prog 46 #[v, .func (.func 47) #[] #[]] w fun e w' => e = .returned (.tuple #[]) ∧ ∃ S, Rus w' v S ∧ SortedR L S ∧ w.grownBy w' v.ownBlock := by
  rcases h.form with ⟨rfl, rfl⟩ | ⟨g, cap, cur, rfl, hB, hg, h4, h5, h6, h7⟩
  · have h := AnyF.slices_SortFunc_none (P := Try.prog) (ρ := sortR_ren) { sortR with } none 0 (.func (.func 47) #[] #[]) w
    refine h.mono ?_
    rintro e w' ⟨rfl, rfl⟩
    exact ⟨rfl, [], Rus.nil, ⟨List.Perm.refl _, List.Pairwise.nil⟩, ⟨rfl, rfl, rfl, Nat.le_refl _, fun _ _ _ => rfl⟩⟩
  · have hH := OwnR.holdsK hg h7
    have hglt : g < w.heap.size := (Array.getElem?_eq_some_iff.1 hg).1
    have hc := AnyQ.slices_SortFunc (P := Try.prog) (ρ := sortR_ren) { sortR with } 13 Try.isAgg27 Try.sizeOf27 cellsR cellsR_len cellsR_one cmpR swoR 47 #[] g 0 cap L.toArray w
      (enters_of Try.func47 (by kernel_rfl) rfl) (cmpLaysR g 0 L.toArray.size w) hH hglt (by simp; omega)
    rw [List.size_toArray] at hc
    refine hc.mono ?_
    rintro e w' ⟨rfl, d, n, os, hp, hs, rfl⟩
    have hd : d.size = L.toArray.size := hp.1
    have hK := holdsK_sortWorldK_c cellsR 13 w g 0 L.toArray d n os hH hglt hd
    have hso := sortR_list hp hs
    refine ⟨rfl, d.toList, ⟨some ⟨g, 0, none⟩, cap, by rw [hso.1.length_eq], by rw [hso.1.length_eq]; exact h4, fun _ => ⟨g, 0, rfl, fun i x hx => fun k hk => ?_⟩⟩, hso, sortR_grown⟩
    have hi : i < d.size := by simpa using (List.getElem?_eq_some_iff.1 hx).1
    rw [(hK.cell hi hk).1]
    have e : d[i]! = x := by rw [getElem!_pos d i hi]; simpa [hi] using hx
    have hkl : k < (cellsR x).length := by rw [cellsR_len]; exact hk
    rw [e, getElem!_pos (cellsR x) k hkl, List.getElem?_eq_getElem hkl]
end Go.Proofs.Ytjikbffnhfoikaa
/- Meanings in memory. -/
namespace Go.Proofs.Ytjikbffnhfoikaa
open Go.RowKit Go.Sort Go.Maps
structure Me where
  k : Int
  c : Int
  d : Int
  p : BitVec 32
deriving DecidableEq
def cellsMg (p : Me) : List Value := [.int .i64 p.k, .int .i64 p.c, .int .i64 p.d, .int .u32 (vI p.p)]
theorem cellsMg_len (p : Me) : (cellsMg p).length = 4 := rfl
theorem cellsMg_one (p : Me) : ∀ v ∈ cellsMg p, v.oneCell' = true := by
  intro v hv
  simp only [cellsMg, List.mem_cons, List.not_mem_nil, or_false] at hv
  rcases hv with rfl | rfl | rfl | rfl <;> rfl
def AtMg (w : World) (g o : Nat) (p : Me) : Prop := ∀ k, k < 4 → w.cell? ⟨g, o + k, none⟩ = (cellsMg p)[k]?
theorem AtMg.facts {w : World} {g o : Nat} {p : Me} (h : AtMg w g o p) : w.cell? ⟨g, o, none⟩ = some (.int .i64 p.k) ∧ w.cell? ⟨g, o + 1, none⟩ = some (.int .i64 p.c) ∧ w.cell? ⟨g, o + 2, none⟩ = some (.int .i64 p.d) ∧ w.cell? ⟨g, o + 3, none⟩ = some (.int .u32 (vI p.p)) := ⟨h 0 (by decide), h 1 (by decide), h 2 (by decide), h 3 (by decide)⟩
def RowMg (w : World) (g o : Nat) (L : List Me) : Prop := ∀ i r, L[i]? = some r → AtMg w g (o + i * 4) r
/-- the value is a slice of the pairs L -/
def Mgs (w : World) (v : Value) (L : List Me) : Prop := ∃ ao cap, v = .slice ao L.length cap ∧ L.length ≤ cap ∧ (L ≠ [] → ∃ g o, ao = some ⟨g, o, none⟩ ∧ RowMg w g o L)
theorem AtMg.lt {w : World} {g o : Nat} {p : Me} (h : AtMg w g o p) : g < w.heap.size := by
  have := h.facts.1
  rcases Nat.lt_or_ge g w.heap.size with h' | h'
  · exact h'
  · simp [World.cell?, Array.getElem?_eq_none h'] at this
theorem AtMg.keep {w w' : World} {g o : Nat} {p : Me} (h : AtMg w g o p) (hb : w'.heap[g]? = w.heap[g]?) : AtMg w' g o p := fun k hk => (World.cell?_of_block hb).trans (h k hk)
theorem RowMg.lt {w : World} {g o : Nat} {L : List Me} (h : RowMg w g o L) (hl : L ≠ []) : g < w.heap.size := by
  obtain ⟨t, r, rfl⟩ := List.exists_cons_of_ne_nil hl
  exact (h 0 t rfl).lt
theorem RowMg.keep {w w' : World} {g o : Nat} {L : List Me} (h : RowMg w g o L) (hb : w'.heap[g]? = w.heap[g]?) : RowMg w' g o L := fun i x hx => (h i x hx).keep hb
theorem RowMg.at {w : World} {g o : Nat} {L : List Me} (h : RowMg w g o L) {i : Nat} (hi : i < L.length) : AtMg w g (o + i * 4) L[i] := h i L[i] (List.getElem?_eq_getElem hi)
theorem Mgs.keep {w w' : World} {v : Value} {L : List Me} (h : Mgs w v L) (hb : Below w.heap.size w w') : Mgs w' v L := by
  obtain ⟨ao, cap, rfl, hc, hr⟩ := h
  refine ⟨ao, cap, rfl, hc, fun hl => ?_⟩
  obtain ⟨g, o, rfl, hR⟩ := hr hl
  exact ⟨g, o, rfl, hR.keep (hb.block g (hR.lt hl))⟩
theorem Mgs.nil {w : World} : Mgs w (.slice none 0 0) [] := ⟨none, 0, rfl, Nat.le_refl _, fun h => absurd rfl h⟩
/-- a pair in a block of its own -/
def BoxMg (w : World) (g : Nat) (p : Me) : Prop := Blk w g 92 #[.int .i64 p.k, .int .i64 p.c, .int .i64 p.d, .int .u32 (vI p.p)]
/-! rows of one's own -/
def OwnMg (w : World) (B : Nat) (v : Value) (L : List Me) : Prop := w.ownsRow B 92 4 v L.length (L.flatMap cellsMg)
theorem fmMg_len (L : List Me) : (L.flatMap cellsMg).length = L.length * 4 := by
  induction L with
  | nil => rfl
  | cons x r ih => rw [List.flatMap_cons, List.length_append, ih, cellsMg_len, List.length_cons]; omega
theorem fmMg_get : ∀ (L : List Me) (i k : Nat) (x : Me), L[i]? = some x → k < 4 → (L.flatMap cellsMg)[i * 4 + k]? = (cellsMg x)[k]?
  | [], i, k, x, h, _ => by simp at h
  | y :: r, 0, k, x, h, hk => by
    obtain rfl : y = x := by simpa using h
    rw [List.flatMap_cons, List.getElem?_append_left (by rw [cellsMg_len]; omega)]
    congr 1; omega
  | y :: r, i + 1, k, x, h, hk => by
    have h' : r[i]? = some x := by simpa using h
    rw [List.flatMap_cons, List.getElem?_append_right (by rw [cellsMg_len]; omega), cellsMg_len, show (i + 1) * 4 + k - 4 = i * 4 + k by omega]
    exact fmMg_get r i k x h' hk
theorem OwnMg.nil (w : World) (B : Nat) : OwnMg w B (.slice none 0 0) [] := World.ownsRow_nil _ _ _ _
theorem OwnMg.mgs {w : World} {B : Nat} {v : Value} {L : List Me} (h : OwnMg w B v L) : Mgs w v L := by
  rcases h.2 with ⟨h1, h2⟩ | ⟨g, cap, cur, h1, h2, h3, h4, h5, h6, h7⟩
  · obtain rfl := List.eq_nil_of_length_eq_zero h2
    rw [h1]; exact Mgs.nil
  · refine ⟨_, cap, h1, h4, fun _ => ⟨g, 0, rfl, fun i x hx k hk => ?_⟩⟩
    rw [cell_of_row w g _ cur _ (0, 0) h3, Nat.zero_add, ← fmMg_get L i k x hx hk, ← h7, List.getElem?_take]
    have : i < L.length := (List.getElem?_eq_some_iff.1 hx).1
    rw [if_pos (by omega)]
    simp
theorem OwnMg.isSl {w : World} {B : Nat} {v : Value} {L : List Me} (h : OwnMg w B v L) : ∃ ao cap, v = .slice ao L.length cap := by
  obtain ⟨ao, cap, e, _⟩ := h.mgs
  exact ⟨ao, cap, e⟩
theorem OwnMg.kept {w w' : World} {B : Nat} {v : Value} {L : List Me} {row : Option Nat} (h : OwnMg w B v L) (hg : w.grownBy w' row) (hne : v.ownBlock = none ∨ v.ownBlock ≠ row) : OwnMg w' B v L := World.ownsRow.kept h hg hne
theorem OwnMg.below {w w' : World} {B : Nat} {v : Value} {L : List Me} (h : OwnMg w B v L) (hb : Below w.heap.size w w') : OwnMg w' B v L := h.kept (below_grown hb) (by cases v.ownBlock <;> simp)
theorem OwnMg.own {w : World} {B : Nat} {v : Value} {L : List Me} (h : OwnMg w B v L) : ∀ k, v.ownBlock = some k → B ≤ k ∧ k < w.heap.size := World.ownsRow.lt h
theorem OwnMg.block {w : World} {B : Nat} {v : Value} {L : List Me} (h : OwnMg w B v L) (hl : L ≠ []) : ∃ g cap, v = .slice (some ⟨g, 0, none⟩) L.length cap ∧ v.ownBlock = some g := by
  rcases h.2 with ⟨h1, h2⟩ | ⟨g, cap, cur, h1, _⟩
  · exact absurd (List.eq_nil_of_length_eq_zero h2) hl
  · exact ⟨g, cap, h1, by rw [h1]; rfl⟩
theorem infoMg : (Try.prog.info? 92).map (fun i => (i.zero, i.size, i.bytes)) = some (some (.agg #[.int .i64 0, .int .i64 0, .int .i64 0, .int .u32 0]), 4, 32) := by kernel_rfl
theorem wpList_append_Mg {w : World} {ops : Array Oper} {rest : List Oper} {o : Oper} {a : Act} {Q : Exit → Act → World → Prop} (hgd : o.guard = none) (s x : Operand)
    (ho : o.op = .call { callee := .builtin .append, args := #[s, x], argTypes := #[121, 121] }) (B : Nat) (v : Value) (L : List Me) (N : Nat) (hN : L.length = N) (hs : a.eval s = v) (hown : OwnMg w B v L)
    (g : Nat) (y : Me) (hx : a.eval x = .slice (some ⟨g, 0, none⟩) 1 1) (hy : BoxMg w g y) (hl : N ≤ 1000000) (hb : B ≤ w.heap.size)
    (h : ∀ g' cap w', OwnMg w' B (.slice (some ⟨g', 0, none⟩) (N + 1) cap) (L ++ [y]) → w.grownBy w' v.ownBlock → (v.ownBlock = some g' ∨ g' = w.heap.size) → wpList Try.prog ops Q rest (a.put o.dst (.slice (some ⟨g', 0, none⟩) (N + 1) cap)) w') :
    wpList Try.prog ops Q (o :: rest) a w := by
  subst hN
  obtain ⟨i0, hinf, hz0, hz1, hz2⟩ := info_parts infoMg
  refine wpList_append_lies w hgd s x 121 ho B 92 i0 _ 4 32 Try.underlying121 hinf hz0 hz1 hz2 rfl (by decide) v L.length (L.flatMap cellsMg) hs hown ⟨g, 0, none⟩ 1 1 (cellsMg y) hx rfl
    (World.news_of_block hy) (cellsMg_one y) (by decide) (by unfold maxLen; omega) (by omega) hb _ rfl ?_
  intro g' cap w' h1 h2 h3 _
  refine h g' cap w' ?_ h2 h3
  unfold OwnMg
  rw [List.length_append, List.flatMap_append]
  simpa using h1
end Go.Proofs.Ytjikbffnhfoikaa
/- The meanings of an entry. -/
namespace Go.Proofs.Ytjikbffnhfoikaa
open Go.RowKit Go.Sort Go.Maps
/-- the three kinds with their permissions -/
def mg0 (x : E) : List Me := [⟨1, 0, 0, x.a⟩, ⟨2, 0, 0, x.b⟩, ⟨3, 0, 0, x.e⟩]
def Me.of (m : Me) (x : E) : Me := { m with c := x.c, d := x.d }
def mgN (x : E) (k : Nat) : List Me := (((mg0 x).take k).filter fun m => decide (m.p ≠ 0#32)).map fun m => m.of x
def mgE (x : E) : List Me := mgN x 3
theorem mgN_yes {x : E} {k : Nat} (h : k < (mg0 x).length) (hp : (mg0 x)[k].p ≠ 0#32) : mgN x (k + 1) = mgN x k ++ [(mg0 x)[k].of x] := by
  unfold mgN
  rw [List.take_succ_eq_append_getElem h, List.filter_append, List.filter_cons, if_pos (decide_eq_true hp), List.map_append]
  rfl
theorem mgN_no {x : E} {k : Nat} (h : k < (mg0 x).length) (hp : (mg0 x)[k].p = 0#32) : mgN x (k + 1) = mgN x k := by
  unfold mgN
  rw [List.take_succ_eq_append_getElem h, List.filter_append, List.filter_cons, if_neg (by simp [hp])]
  simp
theorem mgN_len (x : E) (k : Nat) : (mgN x k).length ≤ 3 := by
  unfold mgN
  rw [List.length_map]
  refine Nat.le_trans (List.length_filter_le _ _) ?_
  rw [List.length_take]
  exact Nat.min_le_right _ _
theorem RowMg.of0 {w : World} {g : Nat} (x : E) (h : Blk w g 92 #[.int .i64 1, .int .i64 0, .int .i64 0, .int .u32 (vI x.a), .int .i64 2, .int .i64 0, .int .i64 0, .int .u32 (vI x.b), .int .i64 3, .int .i64 0, .int .i64 0, .int .u32 (vI x.e)]) : RowMg w g 0 (mg0 x) := by
  intro i r hr k hk
  rw [h.cell]
  match i, hr with
  | 0, hr =>
    obtain rfl : (⟨1, 0, 0, x.a⟩ : Me) = r := by simpa [mg0] using hr
    match k, hk with
    | 0, _ | 1, _ | 2, _ | 3, _ => rfl
  | 1, hr =>
    obtain rfl : (⟨2, 0, 0, x.b⟩ : Me) = r := by simpa [mg0] using hr
    match k, hk with
    | 0, _ | 1, _ | 2, _ | 3, _ => rfl
  | 2, hr =>
    obtain rfl : (⟨3, 0, 0, x.e⟩ : Me) = r := by simpa [mg0] using hr
    match k, hk with
    | 0, _ | 1, _ | 2, _ | 3, _ => rfl
  | i + 3, hr => simp [mg0] at hr
theorem BoxMg.cells {w : World} {g : Nat} {p : Me} (h : BoxMg w g p) : w.cell? ⟨g, 0, none⟩ = some (.int .i64 p.k) ∧ w.cell? ⟨g, 1, none⟩ = some (.int .i64 p.c) ∧ w.cell? ⟨g, 2, none⟩ = some (.int .i64 p.d) ∧ w.cell? ⟨g, 3, none⟩ = some (.int .u32 (vI p.p)) :=
  ⟨Blk.cell h 0, Blk.cell h 1, Blk.cell h 2, Blk.cell h 3⟩
theorem OwnMg.weaken {w : World} {b b' : Nat} {v : Value} {L : List Me} (h : OwnMg w b v L) (hb : b' ≤ b) : OwnMg w b' v L := by
  refine ⟨h.1, ?_⟩
  rcases h.2 with h1 | ⟨g, cap, cur, h1, h2, h3⟩
  · exact .inl h1
  · exact .inr ⟨g, cap, cur, h1, Nat.le_trans hb h2, h3⟩
theorem OwnMg.kept' {w w' : World} {b : Nat} {v : Value} {L : List Me} (h : OwnMg w b v L) (hb : Below w.heap.size w w') : OwnMg w' b v L := h.below hb
set_option maxRecDepth 100000 in
set_option maxHeartbeats 8000000 in
theorem meanings_c (x : E) (w : World) : Calls Try.prog 67 #[.agg #[.int .i64 x.s, .int .i64 x.t, .int .i64 x.c, .int .i64 x.d, .int .u32 (vI x.a), .int .u32 (vI x.b), .int .u32 (vI x.e)]] w fun e w' => ∃ v, e = .returned v ∧ OwnMg w' w.heap.size v (mgE x) ∧ Below w.heap.size w w' := by
  have HX0 : Hid (Box (w.alloc (.cells #[.int .i64 x.s, .int .i64 x.t, .int .i64 x.c, .int .i64 x.d, .int .u32 (vI x.a), .int .u32 (vI x.b), .int .u32 (vI x.e)] 61)) w.heap.size x) := Lib.hid (Blk.new w _ _)
  obtain ⟨w2, hw2⟩ : ∃ w2, (w.alloc (.cells #[.int .i64 x.s, .int .i64 x.t, .int .i64 x.c, .int .i64 x.d, .int .u32 (vI x.a), .int .u32 (vI x.b), .int .u32 (vI x.e)] 61)) = w2 := ⟨_, rfl⟩
  have HB0 : Hid (Below w.heap.size w w2) := Lib.hid (by rw [← hw2]; exact (Below.refl _ _).alloc (Nat.le_refl _) _)
  have HS0 : Hid (w2.heap.size = w.heap.size + 1) := Lib.hid (by rw [← hw2]; simp)
  rw [hw2] at HX0
  obtain ⟨b0, b1, b2, b3, b4, b5, b6⟩ := HX0.out.cells
  go_enter Try.func67, Try.ntmps67
  go_wp2_with fail
  clear hw2 b0 b1 b2 b3 b4 b5 b6
  obtain ⟨W0, hW0⟩ : ∃ W0, w2.alloc (.cells #[.int .i64 1, .int .i64 0, .int .i64 0, .int .u32 (vI x.a), .int .i64 2, .int .i64 0, .int .i64 0, .int .u32 (vI x.b), .int .i64 3, .int .i64 0, .int .i64 0, .int .u32 (vI x.e)] 92) = W0 := ⟨_, rfl⟩
  have HR0 : Hid (RowMg W0 w2.heap.size 0 (mg0 x)) := Lib.hid (RowMg.of0 x (by rw [← hW0]; exact Blk.new w2 _ _))
  have HX1 : Hid (Box W0 w.heap.size x) := Lib.hid (by rw [← hW0]; exact Blk.alloc HX0.out _)
  have HB1 : Hid (Below w.heap.size w W0) := Lib.hid (by rw [← hW0]; exact HB0.out.alloc (by have := HS0.out; omega) _)
  have HS1 : Hid (w2.heap.size + 1 ≤ W0.heap.size) := Lib.hid (by rw [← hW0]; simp)
  have HG : Hid (w.heap.size < w2.heap.size) := Lib.hid (by have := HS0.out; omega)
  rw [hW0]
  clear hW0 HX0 HB0 HS0
  generalize hgx : w.heap.size = gx at *
  generalize hg1 : w2.heap.size = g1 at *
  clear hg1
  have HL0 : Hid ((mg0 x).length = 3) := Lib.hid rfl
  generalize hl0 : mg0 x = l0 at *
  go_loopw [3, 17] (fun v3 vi wr => ∃ (k : Nat) (vv : Value), vv = v3 ∧ k ≤ 3 ∧ vi = .int .i64 k ∧ Hid (OwnMg wr (g1 + 1) vv (mgN x k)) ∧ Hid (Box wr gx x) ∧ Hid (RowMg wr g1 0 l0) ∧ Hid (Below gx w wr) ∧ Hid (g1 + 1 ≤ wr.heap.size)) (fun _ vi _ => 3 - (intOf vi).toNat)
  case atStart => exact ⟨0, _, rfl, Nat.zero_le _, rfl, Lib.hid (OwnMg.nil _ _), HX1, HR0, HB1, HS1⟩
  case round =>
    obtain ⟨k, v, rfl, hk, rfl, HO, HX, HR, HB, HS⟩ := hrel
    by_cases hklt : k < 3
    · have hklt' : (k : Int) < 3 := by omega
      have hkl : k < l0.length := by rw [HL0.out]; exact hklt
      obtain ⟨y, hy⟩ : ∃ y, l0[k] = y := ⟨_, rfl⟩
      have HY : Hid (l0[k]? = some y) := Lib.hid (by rw [List.getElem?_eq_getElem hkl, hy])
      obtain ⟨r0, r1, r2, r3⟩ := (HR.out k y HY.out).facts
      rw [Nat.zero_add] at r0 r1 r2 r3
      by_cases hp : y.p = 0#32
      · have hz : (vI y.p == 0) = true := by rw [hp]; rfl
        have hz2 : (vI y.p != 0) = false := by rw [hp]; rfl
        have HO2 : Hid (OwnMg wr (g1 + 1) v (mgN x (k + 1))) := Lib.hid (by
          subst hl0
          rw [mgN_no hkl (by rw [hy]; exact hp)]; exact HO.out)
        clear hy hkl hp HO
        go_wp2_with fail
        have hba := (Below.refl wr.heap.size wr).alloc (Nat.le_refl _) (.cells #[.int .i64 y.k, .int .i64 y.c, .int .i64 y.d, .int .u32 (vI y.p)] 92)
        go_roundw
        case rel => exact ⟨k + 1, _, rfl, hklt, by go_num, Lib.hid (HO2.out.below hba), Lib.hid (Blk.alloc HX.out _), Lib.hid (HR.out.keep (hba.block g1 (by have := HS.out; omega))), Lib.hid (HB.out.trans (hba.mono (by have := HS.out; have := HG.out; omega))), Lib.hid (by have := HS.out; simp; omega)⟩
        case measure => simp [intOf]; omega
      · have hz : ¬ vI y.p = 0 := fun e => hp (vI_inj (e.trans vI_zero.symm))
        have hz1 : (vI y.p == 0) = false := by simpa using hz
        have hz2 : (vI y.p != 0) = true := by simpa using hz
        have HT : Hid (mgN x (k + 1) = mgN x k ++ [y.of x]) := Lib.hid (by
          subst hl0
          rw [mgN_yes hkl (by rw [hy]; exact hp), hy])
        have HQL : Hid ((mgN x k).length ≤ 3) := Lib.hid (mgN_len x k)
        generalize hQ : mgN x k = Q at *
        clear hy hkl hp hQ
        have q2 : ∀ o, (wr.alloc o).cell? ⟨gx, 2, none⟩ = some (.int .i64 x.c) := fun o => (Box.cells (Blk.alloc HX.out o)).2.2.1
        have q3 : ∀ o, (wr.alloc o).cell? ⟨gx, 3, none⟩ = some (.int .i64 x.d) := fun o => (Box.cells (Blk.alloc HX.out o)).2.2.2.1
        go_wp2_with fail
        go_region
        have hba := ((Below.refl wr.heap.size wr).alloc (Nat.le_refl _) (.cells #[.int .i64 y.k, .int .i64 x.c, .int .i64 x.d, .int .u32 (vI y.p)] 92))
        have hbd : Below wr.heap.size wr (wr.alloc (.cells #[.int .i64 y.k, .int .i64 x.c, .int .i64 x.d, .int .u32 (vI y.p)] 92)).drew := below_drewN hba 1
        have HM : Hid (BoxMg (wr.alloc (.cells #[.int .i64 y.k, .int .i64 x.c, .int .i64 x.d, .int .u32 (vI y.p)] 92)).drew wr.heap.size (y.of x)) := Lib.hid (Blk.new wr _ _)
        have hsz : wr.heap.size + 1 ≤ (wr.alloc (.cells #[.int .i64 y.k, .int .i64 x.c, .int .i64 x.d, .int .u32 (vI y.p)] 92)).drew.heap.size := by
          have : (wr.alloc (.cells #[.int .i64 y.k, .int .i64 x.c, .int .i64 x.d, .int .u32 (vI y.p)] 92)).drew.heap.size = wr.heap.size + 1 := by show (wr.alloc _).heap.size = _; simp
          omega
        generalize (wr.alloc (.cells #[.int .i64 y.k, .int .i64 x.c, .int .i64 x.d, .int .u32 (vI y.p)] 92)).drew = W1 at *
        have HO1 : Hid (OwnMg W1 (g1 + 1) v Q) := Lib.hid (HO.out.below hbd)
        have HX1 : Hid (Box W1 gx x) := Lib.hid (Blk.keep HX.out hbd)
        have HR1 : Hid (RowMg W1 g1 0 l0) := Lib.hid (HR.out.keep (hbd.block g1 (by have := HS.out; omega)))
        have HB1 : Hid (Below gx w W1) := Lib.hid (HB.out.trans (hbd.mono (by have := HS.out; have := HG.out; omega)))
        have HS1 : Hid (g1 + 1 ≤ W1.heap.size) := Lib.hid (by have := HS.out; omega)
        clear q2 q3 r0 r1 r2 r3 hba hbd hsz HO HX HR HB HS hz hz1 hz2
        generalize wr.heap.size = g2 at *
        obtain ⟨m0, m1, m2, m3⟩ := BoxMg.cells HM.out
        go_wp2_with (at_builtin; refine wpList_append_Mg (by rfl) _ _ (by rfl) (g1 + 1) v Q Q.length rfl (by rfl) (HO1.out.below ((Below.refl _ W1).alloc (Nat.le_refl _) _)) W1.heap.size (y.of x) (by rfl) (Blk.new W1 _ _) (by have := HQL.out; omega) (by have := HS1.out; simp; omega) ?_; intro g' cap' w8 h1 h2 h3; have H1 := Lib.hid h1; have H2 := Lib.hid h2; clear h1 h2 h3)
        have hba := ((Below.refl W1.heap.size W1).alloc (Nat.le_refl _) (.cells #[.int .i64 (y.of x).k, .int .i64 (y.of x).c, .int .i64 (y.of x).d, .int .u32 (vI (y.of x).p)] 92))
        have hOa := HO1.out.below hba
        have HX8 : Hid (Box w8 gx x) := Lib.hid (by
          refine (H2.out.block gx (by have := HS1.out; have := HG.out; have := hba.size; omega) ?_).trans (Blk.keep HX1.out hba)
          intro e; have := (hOa.own gx e.symm).1; have := HG.out; omega)
        have HR8 : Hid (RowMg w8 g1 0 l0) := Lib.hid ((HR1.out.keep (hba.block g1 (by have := HS1.out; omega))).keep (H2.out.block g1 (by have := HS1.out; have := hba.size; omega) (by
          intro e; have := (hOa.own g1 e.symm).1; omega)))
        have HB8 : Hid (Below gx w w8) := Lib.hid ((HB1.out.trans (hba.mono (by have := HS1.out; have := HG.out; omega))).grown H2.out (by have := HS1.out; have := HG.out; have := hba.size; omega) (fun q e => by have := (hOa.own q e).1; have := HG.out; omega))
        have HS8 : Hid (g1 + 1 ≤ w8.heap.size) := Lib.hid (by have := HS1.out; have := hba.size; have := H2.out.size; omega)
        go_wp2_with fail
        go_roundw
        case rel => exact ⟨k + 1, _, rfl, hklt, by go_num, Lib.hid (by rw [HT.out]; simpa using H1.out), HX8, HR8, HB8, HS8⟩
        case measure => simp [intOf]; omega
    · obtain rfl : k = 3 := by omega
      have hO : OwnMg wr (g1 + 1) v (mgE x) := HO.out
      go_wp2_with fail
      go_ret
      exact ⟨_, rfl, hO.weaken (by have := HG.out; omega), by rw [hgx]; exact HB.out⟩
end Go.Proofs.Ytjikbffnhfoikaa
/- A meaning with a source, and a meaning with targets, as keys of maps. -/
namespace Go.Proofs.Ytjikbffnhfoikaa
open Go.RowKit Go.Sort Go.Maps
theorem sizes3 : ∃ m, Try.prog.types.size = m + 1 + 1 + 1 := ⟨Try.prog.types.size - 3, by
  have : 3 ≤ Try.prog.types.size := of_decide_eq_true (by kernel_rfl)
  omega⟩
theorem law_reach : WideMaps.KeyLaw Try.prog 94 := deep_law_gate Try.laidOut (of_decide_eq_true (by kernel_rfl)) (of_decide_eq_true (by kernel_rfl)) (by kernel_rfl) (by rw [Try.underlying94])
theorem law_block : WideMaps.KeyLaw Try.prog 96 := deep_law_gate Try.laidOut (of_decide_eq_true (by kernel_rfl)) (of_decide_eq_true (by kernel_rfl)) (by kernel_rfl) (by rw [Try.underlying96])
theorem keyed_reach : Keyed Try.prog 94 := Keyed.of_law law_reach
theorem keyed_block : Keyed Try.prog 96 := Keyed.of_law law_block
theorem wfU {z : Int} (h : U64 z) : (Lit.int .u64 z).wf = true := by
  show (decide (0 ≤ z) && decide (z ≤ 18446744073709551615)) = true
  simp [h.1, h.2]
theorem keyOf_reach {k c d s : Int} (p : BitVec 32) (wk : W64 k) (wc : W64 c) (wd : W64 d) (ws : W64 s) :
    keyOf Try.prog 94 (.agg #[.int .i64 k, .int .i64 c, .int .i64 d, .int .u32 (vI p), .int .i64 s]) = some (.string (keyBytes [.int .i64 k, .int .i64 c, .int .i64 d, .int .u32 (vI p), .int .i64 s])) := by
  have hu := Try.underlying94
  have hm' := Try.underlying92
  have he := Try.underlying3
  have h32 := Try.underlying25
  have hk : Try.prog.keyType 94 = true := by kernel_rfl
  have hc : Try.prog.cellsOf 94 = 5 := by kernel_rfl
  have hcm : Try.prog.cellsOf 92 = 4 := by kernel_rfl
  have h1 : Try.prog.cellsOf 3 = 1 := by kernel_rfl
  have h2 : Try.prog.cellsOf 25 = 1 := by kernel_rfl
  have hl := vI_wf p
  obtain ⟨m, hm⟩ := sizes3
  unfold keyOf
  simp only [hu]
  rw [if_pos (by simp [hk, Value.formed, hu, hc]), hm]
  simp [h1, h2, hc, hcm, Program.keyLits, he, hu, hm', h32, wf64 wk, wf64 wc, wf64 wd, wf64 ws, hl, Value.cells]
  rw [if_pos ?_]
  · rfl
  · intro i hi
    match i, hi with
    | 0, _ | 1, _ | 2, _ | 3, _ => simp
theorem keyOf_block {k c d x0 x1 x2 x3 : Int} (p : BitVec 32) (wk : W64 k) (wc : W64 c) (wd : W64 d) (u0 : U64 x0) (u1 : U64 x1) (u2 : U64 x2) (u3 : U64 x3) :
    keyOf Try.prog 96 (.agg #[.int .i64 k, .int .i64 c, .int .i64 d, .int .u32 (vI p), .int .u64 x0, .int .u64 x1, .int .u64 x2, .int .u64 x3]) = some (.string (keyBytes [.int .i64 k, .int .i64 c, .int .i64 d, .int .u32 (vI p), .int .u64 x0, .int .u64 x1, .int .u64 x2, .int .u64 x3])) := by
  have hu := Try.underlying96
  have hm' := Try.underlying92
  have hs' := Try.underlying24
  have he := Try.underlying3
  have h32 := Try.underlying25
  have h64 := Try.underlying22
  have hk : Try.prog.keyType 96 = true := by kernel_rfl
  have hc : Try.prog.cellsOf 96 = 8 := by kernel_rfl
  have hcm : Try.prog.cellsOf 92 = 4 := by kernel_rfl
  have hcs : Try.prog.cellsOf 24 = 4 := by kernel_rfl
  have h1 : Try.prog.cellsOf 3 = 1 := by kernel_rfl
  have h2 : Try.prog.cellsOf 25 = 1 := by kernel_rfl
  have h3 : Try.prog.cellsOf 22 = 1 := by kernel_rfl
  have hl := vI_wf p
  obtain ⟨m, hm⟩ := sizes3
  unfold keyOf
  simp only [hu]
  rw [if_pos (by simp [hk, Value.formed, hu, hc]), hm]
  simp [h1, h2, h3, hc, hcm, hcs, Program.keyLits, he, hu, hm', hs', h32, h64, wf64 wk, wf64 wc, wf64 wd, wfU u0, wfU u1, wfU u2, wfU u3, hl, Value.cells, show List.range 4 = [0, 1, 2, 3] from rfl]
  rw [if_pos ?_]
  · rfl
  · intro i hi
    match i, hi with
    | 0, _ | 1, _ | 2, _ | 3, _ => simp
end Go.Proofs.Ytjikbffnhfoikaa
/- The map of what a source reaches, as a function. -/
namespace Go.Proofs.Ytjikbffnhfoikaa
open Go.RowKit Go.Sort Go.Maps
/-- a meaning with a source and a target -/
structure Tr where
  m : Me
  s : Int
  t : Int
  wf : W64 m.k ∧ W64 m.c ∧ W64 m.d ∧ W64 s
deriving DecidableEq
def eqT (x y : Tr) : Prop := x.m = y.m ∧ x.s = y.s
instance (x y : Tr) : Decidable (eqT x y) := by unfold eqT; infer_instance
theorem eqT_symm {x y : Tr} (h : eqT x y) : eqT y x := ⟨h.1.symm, h.2.symm⟩
theorem eqT_trans {x y z : Tr} (h : eqT x y) (k : eqT y z) : eqT x z := ⟨h.1.trans k.1, h.2.trans k.2⟩
theorem Me.same {x y : Me} (h1 : x.k = y.k) (h2 : x.c = y.c) (h3 : x.d = y.d) (h4 : x.p = y.p) : x = y := by
  obtain ⟨k, c, d, p⟩ := x
  obtain ⟨k', c', d', p'⟩ := y
  dsimp only at h1 h2 h3 h4
  rw [h1, h2, h3, h4]
def keyT (x : Tr) : Value := .agg #[.int .i64 x.m.k, .int .i64 x.m.c, .int .i64 x.m.d, .int .u32 (vI x.m.p), .int .i64 x.s]
def klT (x : Tr) : Lit := .string (keyBytes [.int .i64 x.m.k, .int .i64 x.m.c, .int .i64 x.m.d, .int .u32 (vI x.m.p), .int .i64 x.s])
theorem keyOf_T (x : Tr) : keyOf Try.prog 94 (keyT x) = some (klT x) := keyOf_reach x.m.p x.wf.1 x.wf.2.1 x.wf.2.2.1 x.wf.2.2.2
theorem klT_iff {x z : Tr} : klT x = klT z ↔ eqT x z := by
  constructor
  · intro h
    have := keyed_reach.inj (keyOf_T x) (h ▸ keyOf_T z)
    simp only [keyT, Value.agg.injEq, Array.mk.injEq, List.cons.injEq, Value.int.injEq, true_and, and_true] at this
    obtain ⟨h1, h2, h3, h4, h5⟩ := this
    exact ⟨Me.same h1 h2 h3 (vI_inj h4), h5⟩
  · rintro ⟨h1, h2⟩
    unfold klT
    rw [h1, h2]
theorem klT_same {x z : Tr} : (klT z).sameKey (klT x) = decide (eqT x z) := by
  by_cases h : eqT x z
  · rw [klT_iff.2 h, WideAt.sameKey_self (keyed_reach.key (keyOf_T z)), decide_eq_true h]
  · rw [sameKey_ne (fun e => h (klT_iff.1 e.symm)), decide_eq_false h]
def sAgg (s : S4) : Value := .agg #[.int .u64 s.a, .int .u64 s.b, .int .u64 s.c, .int .u64 s.d]
theorem sAgg_inj {u v : S4} (h : sAgg u = sAgg v) : u = v := by
  unfold sAgg at h
  simp only [Value.agg.injEq, Array.mk.injEq, List.cons.injEq, Value.int.injEq, true_and, and_true] at h
  obtain ⟨a, b, c, d⟩ := u
  obtain ⟨a', b', c', d'⟩ := v
  dsimp only at h
  rw [h.1, h.2.1, h.2.2.1, h.2.2.2]
def hasT (P : List Tr) (z : Tr) : Bool := P.any fun x => decide (eqT x z)
theorem hasT_iff {P : List Tr} {z : Tr} : hasT P z = true ↔ ∃ x ∈ P, eqT x z := by
  unfold hasT
  rw [List.any_eq_true]
  constructor
  · rintro ⟨x, hx, h⟩; exact ⟨x, hx, of_decide_eq_true h⟩
  · rintro ⟨x, hx, h⟩; exact ⟨x, hx, decide_eq_true h⟩
def tgS (P : List Tr) (z : Tr) : S4 := P.foldl (fun S x => if eqT x z then withS x.t S else S) S4.zero
theorem tgS_snoc (P : List Tr) (x z : Tr) : tgS (P ++ [x]) z = if eqT x z then withS x.t (tgS P z) else tgS P z := by
  unfold tgS
  rw [List.foldl_append]
  rfl
theorem tgS_key {P : List Tr} {x z : Tr} (h : eqT x z) : tgS P x = tgS P z := by
  unfold tgS
  congr 1
  funext S y
  by_cases e : eqT y x
  · rw [if_pos e, if_pos (eqT_trans e h)]
  · rw [if_neg e, if_neg (fun e' => e (eqT_trans e' (eqT_symm h)))]
theorem tgS_fold {z : Tr} : ∀ (P : List Tr) (S : S4), (∀ x ∈ P, ¬ eqT x z) → P.foldl (fun S x => if eqT x z then withS x.t S else S) S = S
  | [], _, _ => rfl
  | x :: r, S, h => by
    rw [List.foldl_cons, if_neg (h x (by simp))]
    exact tgS_fold r S fun y hy => h y (by simp [hy])
theorem tgS_none {P : List Tr} {z : Tr} (h : hasT P z = false) : tgS P z = S4.zero := tgS_fold P _ fun x hx e => by
  have := hasT_iff.2 ⟨x, hx, e⟩
  rw [h] at this; cases this
theorem hasT_snoc (P : List Tr) (x z : Tr) : hasT (P ++ [x]) z = (hasT P z || decide (eqT x z)) := by
  unfold hasT
  rw [List.any_append]
  simp
/-- the map of what sources reach -/
structure RM (P : List Tr) (f : Lit → Option Value) : Prop where
  a : ∀ z, f (klT z) = if hasT P z = true then some (sAgg (tgS P z)) else none
  b : ∀ kl v, f kl = some v → ∃ x ∈ P, kl = klT x
theorem RM.nil : RM [] fun _ => none := ⟨fun _ => rfl, fun kl v h => by cases h⟩
theorem RM.at {P : List Tr} {f : Lit → Option Value} (h : RM P f) (z : Tr) : (f (klT z)).getD (sAgg S4.zero) = sAgg (tgS P z) := by
  rw [h.a]
  by_cases e : hasT P z = true
  · rw [if_pos e]; rfl
  · rw [if_neg e, tgS_none (by simpa using e)]; rfl
theorem RM.step {P : List Tr} {f : Lit → Option Value} (h : RM P f) (x : Tr) : RM (P ++ [x]) (upd f (klT x) (sAgg (withS x.t (tgS P x)))) := by
  refine ⟨fun z => ?_, fun kl v hv => ?_⟩
  · unfold upd
    rw [klT_same, hasT_snoc, tgS_snoc]
    by_cases e : eqT x z
    · rw [if_pos (by simp [e]), if_pos (by simp [e]), if_pos e, tgS_key e]
    · rw [if_neg (by simp [e]), if_neg e, h.a, decide_eq_false e, Bool.or_false]
  · unfold upd at hv
    by_cases e : kl.sameKey (klT x) = true
    · exact ⟨x, by simp, (WideAt.sameKey_iff (keyed_reach.key (keyOf_T x))).1 e⟩
    · rw [if_neg e] at hv
      obtain ⟨y, hy, e'⟩ := h.b kl v hv
      exact ⟨y, by simp [hy], e'⟩
theorem RM.cong {P : List Tr} {f : Lit → Option Value} {V : Value} (h : RM P f) (x : Tr) (hV : V = sAgg (withS x.t (tgS P x))) : RM (P ++ [x]) (upd f (klT x) V) := by
  rw [hV]; exact h.step x
end Go.Proofs.Ytjikbffnhfoikaa
/- reached. -/
namespace Go.Proofs.Ytjikbffnhfoikaa
open Go.RowKit Go.Sort Go.Maps
theorem mgE_mem {x : E} {m : Me} (h : m ∈ mgE x) : (m.k = 1 ∨ m.k = 2 ∨ m.k = 3) ∧ m.c = x.c ∧ m.d = x.d := by
  unfold mgE mgN at h
  rw [List.mem_map] at h
  obtain ⟨y, hy, rfl⟩ := h
  rw [List.mem_filter] at hy
  have h1 := List.mem_of_mem_take hy.1
  simp only [mg0, List.mem_cons, List.not_mem_nil, or_false] at h1
  rcases h1 with rfl | rfl | rfl
  · exact ⟨.inl rfl, rfl, rfl⟩
  · exact ⟨.inr (.inl rfl), rfl, rfl⟩
  · exact ⟨.inr (.inr rfl), rfl, rfl⟩
def isW (z : Int) : Bool := decide (-9223372036854775808 ≤ z) && decide (z ≤ 9223372036854775807)
theorem isW_iff {z : Int} : isW z = true ↔ W64 z := by
  unfold isW W64
  simp
/-- the meaning m of the entry x, with its source and target -/
def Me.tr (m : Me) (x : E) : Tr := if h : isW m.k = true ∧ isW m.c = true ∧ isW m.d = true then ⟨m, x.s, x.t, isW_iff.1 h.1, isW_iff.1 h.2.1, isW_iff.1 h.2.2, x.wf.1⟩ else ⟨⟨0, 0, 0, 0⟩, 0, 0, by decide, by decide, by decide, by decide⟩
theorem Me.tr_of {m : Me} {x : E} (h : m ∈ mgE x) : (m.tr x).m = m ∧ (m.tr x).s = x.s ∧ (m.tr x).t = x.t := by
  obtain ⟨h1, h2, h3⟩ := mgE_mem h
  have hk : isW m.k = true := by rcases h1 with e | e | e <;> rw [e] <;> decide
  have hc : isW m.c = true := by rw [h2]; exact isW_iff.2 x.wf.2.2.1
  have hd : isW m.d = true := by rw [h3]; exact isW_iff.2 x.wf.2.2.2
  unfold Me.tr
  rw [dif_pos ⟨hk, hc, hd⟩]
  exact ⟨rfl, rfl, rfl⟩
def tkE (x : E) (k : Nat) : List Tr := ((mgE x).take k).map fun m => m.tr x
/-- what an entry says: nothing where its source or its target is no type -/
def trE (x : E) : List Tr := if (isT x.s && isT x.t) = true then (mgE x).map fun m => m.tr x else []
def trL (L : List E) : List Tr := L.flatMap trE
theorem mgE_len (x : E) : (mgE x).length ≤ 3 := mgN_len x 3
theorem trE_len (x : E) : (trE x).length ≤ 3 := by
  unfold trE
  split
  · rw [List.length_map]; exact mgE_len x
  · exact Nat.zero_le _
theorem trL_len (L : List E) : (trL L).length ≤ 3 * L.length := by
  induction L with
  | nil => simp [trL]
  | cons x r ih =>
    have := trE_len x
    show (trE x ++ trL r).length ≤ _
    rw [List.length_append, List.length_cons]
    omega
theorem trL_snoc (L : List E) (x : E) : trL (L ++ [x]) = trL L ++ trE x := by
  unfold trL
  rw [List.flatMap_append]
  simp
theorem tkE_next {x : E} {k : Nat} (h : k < (mgE x).length) : tkE x (k + 1) = tkE x k ++ [(mgE x)[k].tr x] := by
  unfold tkE
  rw [List.take_succ_eq_append_getElem h, List.map_append]
  rfl
theorem tkE_len (x : E) (k : Nat) : (tkE x k).length ≤ 3 := by
  unfold tkE
  rw [List.length_map, List.length_take]
  have := mgE_len x
  omega
theorem tkE_all {x : E} (h : (isT x.s && isT x.t) = true) : tkE x (mgE x).length = trE x := by
  unfold tkE trE
  rw [if_pos h, List.take_length]
set_option maxRecDepth 100000 in
set_option maxHeartbeats 8000000 in
theorem reached_c (v : Value) (L : List E) (hl : L.length ≤ 100000) (w : World) (hE : Ents w v L) :
    Calls Try.prog 44 #[v] w fun e w' => ∃ f, e = .returned (.map (some w.heap.size)) ∧ MapR Try.prog 94 w' w.heap.size (3 * L.length) f ∧ RM (trL L) f ∧ Below w.heap.size w w' := by
  obtain ⟨ao, cap, rfl, hcap, hr⟩ := hE
  have hlen : (L.length : Int) ≤ 100000 := by omega
  have hmm := @run_makeMap Try.prog
  go_enter Try.func44, Try.ntmps44
  go_wp2_with fail
  clear hmm
  go_loopw [12] (fun vi wr => ∃ (i : Nat) (f : Lit → Option Value), i ≤ L.length ∧ vi = .int .i64 i ∧ Hid (Below w.heap.size w wr) ∧ Hid (w.heap.size < wr.heap.size) ∧ Hid (MapR Try.prog 94 wr w.heap.size (3 * i) f) ∧ Hid (RM (trL (L.take i)) f)) (fun vi _ => L.length - (intOf vi).toNat)
  case atStart =>
    exact ⟨0, _, Nat.zero_le _, rfl, Lib.hid ((Below.refl _ w).alloc (Nat.le_refl _) _), Lib.hid (by simp), Lib.hid (MapR.made w), Lib.hid (by rw [List.take_zero]; exact RM.nil)⟩
  case round =>
    obtain ⟨i, f, hi, rfl, HB, HSZ, HM, HP⟩ := hrel
    by_cases hlt : i < L.length
    · have hlt' : (i : Int) < (L.length : Int) := by omega
      obtain ⟨g, o, rfl, hR⟩ := hr (by rintro rfl; simp at hlt)
      obtain ⟨x, hx⟩ : ∃ x, L[i] = x := ⟨_, rfl⟩
      have hcell := (hR.keep (HB.out.block g (hR.lt (by rintro rfl; simp at hlt)))).at hlt
      rw [hx] at hcell
      obtain ⟨q0, q1, q2, q3, q4, q5, q6⟩ := hcell
      have HX : Hid (L.take (i + 1) = L.take i ++ [x]) := Lib.hid (by rw [List.take_succ_eq_append_getElem hlt, hx])
      have HB0 := Lib.hid (HB.out.alloc HB.out.size (.cells #[.int .i64 x.s, .int .i64 x.t, .int .i64 x.c, .int .i64 x.d, .int .u32 (vI x.a), .int .u32 (vI x.b), .int .u32 (vI x.e)] 61))
      have HM0 := Lib.hid (HM.out.alloc (.cells #[.int .i64 x.s, .int .i64 x.t, .int .i64 x.c, .int .i64 x.d, .int .u32 (vI x.a), .int .u32 (vI x.b), .int .u32 (vI x.e)] 61))
      have HX0 := Lib.hid (Blk.new wr 61 #[.int .i64 x.s, .int .i64 x.t, .int .i64 x.c, .int .i64 x.d, .int .u32 (vI x.a), .int .u32 (vI x.b), .int .u32 (vI x.e)])
      have HS0 : Hid (w.heap.size < (wr.alloc (.cells #[.int .i64 x.s, .int .i64 x.t, .int .i64 x.c, .int .i64 x.d, .int .u32 (vI x.a), .int .u32 (vI x.b), .int .u32 (vI x.e)] 61)).heap.size) := Lib.hid (by have := HSZ.out; simp; omega)
      have HSW : Hid (w.heap.size < wr.heap.size) := Lib.hid HSZ.out
      clear hx hR HB HM HSZ
      obtain ⟨T1, hT1⟩ : ∃ B, isT x.s = B := ⟨_, rfl⟩
      obtain ⟨T2, hT2⟩ : ∃ B, isT x.t = B := ⟨_, rfl⟩
      have HC1 : Hid (∀ u, Calls Try.prog 66 #[.int .i64 x.s] u fun e w' => e = .returned (.bool T1) ∧ u = w') := Lib.hid fun u => by rw [← hT1]; exact isType_c x.s u
      have HC2 : Hid (∀ u, Calls Try.prog 66 #[.int .i64 x.t] u fun e w' => e = .returned (.bool T2) ∧ u = w') := Lib.hid fun u => by rw [← hT2]; exact isType_c x.t u
      have HT : Hid ((isT x.s && isT x.t) = (T1 && T2)) := Lib.hid (by rw [hT1, hT2])
      clear hT1 hT2
      by_cases hT : (T1 && T2) = true
      · obtain rfl : T1 = true := by cases T1 <;> simp_all
        obtain rfl : T2 = true := by cases T2 <;> simp_all
        have HE : Hid (trL (L.take (i + 1)) = trL (L.take i) ++ tkE x (mgE x).length) := Lib.hid (by
          rw [HX.out, trL_snoc, tkE_all (by rw [HT.out]; rfl)])
        clear HT hT
        go_wp2_with (first | (go_at_call 66; first | (refine (HC1.out _).mono ?_; rintro e w5 ⟨rfl, rfl⟩) | (refine (HC2.out _).mono ?_; rintro e w5 ⟨rfl, rfl⟩)) | (go_at_call 67; refine (meanings_c x _).mono ?_; rintro e w5 ⟨v5, rfl, hm5, hb5⟩; obtain ⟨ao5, cap5, rfl⟩ := hm5.isSl; have HM5 := Lib.hid hm5; have HB5 := Lib.hid hb5; clear hm5 hb5))
        have HB6 := Lib.hid (HB0.out.trans (HB5.out.mono HB0.out.size))
        have HM6 := Lib.hid (HM0.out.below HB5.out)
        have HX6 := Lib.hid (HX0.out.keep HB5.out)
        have HS6 : Hid (w.heap.size < w5.heap.size) := Lib.hid (by have := HS0.out; have := HB5.out.size; omega)
        have HO6 : Hid (OwnMg w5 (w.heap.size + 1) (.slice ao5 (mgE x).length cap5) (mgE x)) := Lib.hid (HM5.out.weaken (by have := HS0.out; omega))
        have HPL := Lib.hid (Nat.le_trans (trL_len (L.take i)) (by rw [List.length_take]; omega : 3 * (L.take i).length ≤ 3 * i))
        clear HB5 HM5 HB0 HM0 HX0 HS0 HC1 HC2 q0 q1 q2 q3 q4 q5 q6 HX
        have HXG := Lib.hid HSW.out
        generalize hgx : wr.heap.size = gx at *
        clear hgx
        have HML := Lib.hid (mgE_len x)
        have hmi : ((mgE x).length : Int) ≤ 3 := by have := HML.out; omega
        generalize hQ : trL (L.take i) = P at *
        clear hQ
        go_loopw [29] (fun vi w2 => ∃ (k : Nat) (f : Lit → Option Value), k ≤ (mgE x).length ∧ vi = .int .i64 k ∧ Hid (Below w.heap.size w w2) ∧ Hid (w.heap.size < w2.heap.size) ∧ Hid (MapR Try.prog 94 w2 w.heap.size (3 * i + k) f) ∧ Hid (RM (P ++ tkE x k) f) ∧ Hid (Blk w2 gx 61 #[.int .i64 x.s, .int .i64 x.t, .int .i64 x.c, .int .i64 x.d, .int .u32 (vI x.a), .int .u32 (vI x.b), .int .u32 (vI x.e)]) ∧ Hid (OwnMg w2 (w.heap.size + 1) (.slice ao5 (mgE x).length cap5) (mgE x))) (fun vi _ => (mgE x).length - (intOf vi).toNat)
        case atStart =>
          exact ⟨0, f, Nat.zero_le _, rfl, HB6, HS6, HM6, Lib.hid (by show RM (P ++ []) f; rw [List.append_nil]; exact HP.out), HX6, HO6⟩
        case round =>
          obtain ⟨k, f, hk, rfl, HB, HS, HM, HP, HX, HO⟩ := hrel
          by_cases hklt : k < (mgE x).length
          · have hklt' : (k : Int) < ((mgE x).length : Int) := by omega
            obtain ⟨ao6, cap6, e6, hc6, hr6⟩ := HO.out.mgs
            simp only [Value.slice.injEq, true_and] at e6
            obtain ⟨rfl, rfl⟩ := e6
            obtain ⟨g6, o6, rfl, hR6⟩ := hr6 (by intro e; rw [e] at hklt; simp at hklt)
            obtain ⟨y, hy⟩ : ∃ y, (mgE x)[k] = y := ⟨_, rfl⟩
            obtain ⟨r0, r1, r2, r3⟩ := (hR6 k y (by rw [List.getElem?_eq_getElem hklt, hy])).facts
            obtain ⟨z, hz⟩ : ∃ z, y.tr x = z := ⟨_, rfl⟩
            have hzf := Me.tr_of (x := x) (m := y) (by rw [← hy]; exact List.getElem_mem hklt)
            rw [hz] at hzf
            have HZ := Lib.hid hzf
            have HT : Hid (tkE x (k + 1) = tkE x k ++ [z]) := Lib.hid (by rw [tkE_next hklt, hy, hz])
            have HK : Hid (keyOf Try.prog 94 (.agg #[.int .i64 y.k, .int .i64 y.c, .int .i64 y.d, .int .u32 (vI y.p), .int .i64 x.s]) = some (klT z)) := Lib.hid (by
              have h := keyOf_T z
              unfold keyT at h
              rw [hzf.1, hzf.2.1] at h
              exact h)
            have HTL := Lib.hid (tkE_len x k)
            clear hy hz hzf hR6 hr6
            obtain ⟨b0, b1, b2, b3, b4, b5, b6⟩ := Box.cells (Blk.alloc HX.out (.cells #[.int .i64 y.k, .int .i64 y.c, .int .i64 y.d, .int .u32 (vI y.p)] 92))
            go_wp2_with fail
            have hbM : Below wr.heap.size wr (wr.alloc (.cells #[.int .i64 y.k, .int .i64 y.c, .int .i64 y.d, .int .u32 (vI y.p)] 92)) := (Below.refl _ wr).alloc (Nat.le_refl _) (.cells #[.int .i64 y.k, .int .i64 y.c, .int .i64 y.d, .int .u32 (vI y.p)] 92)
            have hbW : Below wr.heap.size wr ((wr.alloc (.cells #[.int .i64 y.k, .int .i64 y.c, .int .i64 y.d, .int .u32 (vI y.p)] 92)).alloc (.cells #[.int .i64 y.k, .int .i64 y.c, .int .i64 y.d, .int .u32 (vI y.p), .int .i64 x.s] 94)) := hbM.alloc (by simp) (.cells #[.int .i64 y.k, .int .i64 y.c, .int .i64 y.d, .int .u32 (vI y.p), .int .i64 x.s] 94)
            have HB2 := Lib.hid (HB.out.trans (hbW.mono HB.out.size))
            have HM2 := Lib.hid (HM.out.below hbW)
            have HX2 := Lib.hid (HX.out.keep hbW)
            have HO2 := Lib.hid (HO.out.below hbW)
            have HS2 : Hid (w.heap.size < ((wr.alloc (.cells #[.int .i64 y.k, .int .i64 y.c, .int .i64 y.d, .int .u32 (vI y.p)] 92)).alloc (.cells #[.int .i64 y.k, .int .i64 y.c, .int .i64 y.d, .int .u32 (vI y.p), .int .i64 x.s] 94)).heap.size) := Lib.hid (by have := HS.out; have := hbW.size; omega)
            have HK2 : Hid (Blk ((wr.alloc (.cells #[.int .i64 y.k, .int .i64 y.c, .int .i64 y.d, .int .u32 (vI y.p)] 92)).alloc (.cells #[.int .i64 y.k, .int .i64 y.c, .int .i64 y.d, .int .u32 (vI y.p), .int .i64 x.s] 94)) (wr.heap.size + 1) 94 #[.int .i64 y.k, .int .i64 y.c, .int .i64 y.d, .int .u32 (vI y.p), .int .i64 x.s]) := Lib.hid (by
              have h := Blk.new (wr.alloc (.cells #[.int .i64 y.k, .int .i64 y.c, .int .i64 y.d, .int .u32 (vI y.p)] 92)) 94 #[.int .i64 y.k, .int .i64 y.c, .int .i64 y.d, .int .u32 (vI y.p), .int .i64 x.s]
              rwa [World.size_alloc] at h)
            clear hbM hbW HB HM HX HO HS r0 r1 r2 r3 b0 b1 b2 b3 b4 b5 b6
            generalize (wr.alloc (.cells #[.int .i64 y.k, .int .i64 y.c, .int .i64 y.d, .int .u32 (vI y.p)] 92)).alloc (.cells #[.int .i64 y.k, .int .i64 y.c, .int .i64 y.d, .int .u32 (vI y.p), .int .i64 x.s] 94) = W at *
            generalize wr.heap.size = g9 at *
            obtain ⟨C, hC0⟩ : ∃ C, tgS (P ++ tkE x k) z = C := ⟨_, rfl⟩
            have HC := Lib.hid hC0
            have HL : Hid (∀ w1, Kp W w1 → (Instr.lookup 89 (.map (some w.heap.size)) (.agg #[.int .i64 y.k, .int .i64 y.c, .int .i64 y.d, .int .u32 (vI y.p), .int .i64 x.s]) false).run Try.prog w1 = .ok (.agg #[.int .u64 C.a, .int .u64 C.b, .int .u64 C.c, .int .u64 C.d]) w1) := Lib.hid fun w1 h => by
              have h2 := (HM2.out.below h).lookup keyed_reach Try.underlying89 (z := sAgg S4.zero) (Try.zeroValue24 _) HK.out
              rw [HP.out.at z, hC0] at h2
              exact h2
            clear hC0
            refine wp_region_kt 8 (by kernel_rfl) (by kernel_rfl) ?_
            simp only [List.take_succ_cons, List.take_zero, List.drop_succ_cons, List.drop_zero]
            repeat (first
                | go_big_quiet_skip
                | (go_big_quiet_want
                   go_big_quiet_op
                   first
                     | go_big_quiet_on
                     | (apply Exists.intro
                        refine ⟨fun w1 hC => ?_, ?_⟩
                        · first
                            | (go_at_call 45; with_reducible exact hC.call (with_c C.a C.b C.c C.d x.t _))
                            | (go_simp; exact ⟨rfl, rfl⟩)
                            | (have hlk := HL.out _ hC; go_simp; exact rfl)
                            | (have hk := hC.blk HK2.out; have d := hk.cell; have d0 := d 0; have d1 := d 1; have d2 := d 2; have d3 := d 3; have d4 := d 4; go_simp; exact rfl)
                            | (have hx := hC.blk HX2.out; obtain ⟨b0, b1, b2, b3, b4, b5, b6⟩ := Box.cells (show Box _ gx x from hx); go_simp; exact rfl)
                        go_big_quiet_on)))
            refine wpQuiet_nil ?_
            intro W3 hC
            have HM3 := Lib.hid (HM2.out.below hC)
            have HB3 := Lib.hid (HB2.out.trans (hC.mono HB2.out.size))
            have HX3 := Lib.hid (HX2.out.keep hC)
            have HO3 := Lib.hid (HO2.out.below hC)
            have HS3 : Hid (w.heap.size < W3.heap.size) := Lib.hid (by have := HS2.out; have := hC.size; omega)
            clear HM2 HB2 HX2 HO2 HS2 HK2 HL hC
            go_wp2_with (at_mapUpdate; refine wpList_update_R rfl _ _ _ 89 rfl 94 24 keyed_reach Try.underlying89 w.heap.size (3 * i + k) f rfl HM3.out (by have := HML.out; unfold maxLen; omega) (.agg #[.int .i64 y.k, .int .i64 y.c, .int .i64 y.d, .int .u32 (vI y.p), .int .i64 x.s]) (sAgg (withS x.t C)) (klT z) rfl rfl HK.out ?_; intro W4 hM4 hg4; have HM4 := Lib.hid hM4; have HG4 := Lib.hid hg4; clear hM4 hg4)
            have HB4 := Lib.hid (below_but HB3.out HG4.out (Nat.le_refl _))
            have HX4 : Hid (Blk W4 gx 61 #[.int .i64 x.s, .int .i64 x.t, .int .i64 x.c, .int .i64 x.d, .int .u32 (vI x.a), .int .u32 (vI x.b), .int .u32 (vI x.e)]) := Lib.hid ((HG4.out.block gx HX3.out.lt (by intro e; have := Option.some.inj e; have := HXG.out; omega)).trans HX3.out)
            have HO4 : Hid (OwnMg W4 (w.heap.size + 1) (.slice (some ⟨g6, o6, none⟩) (mgE x).length cap5) (mgE x)) := Lib.hid (HO3.out.kept HG4.out (.inr (by intro e; have := (HO3.out.own _ e).1; omega)))
            have HS4 : Hid (w.heap.size < W4.heap.size) := Lib.hid (by have := HS3.out; have := HG4.out.size; omega)
            go_roundw
            case rel => exact ⟨k + 1, _, hklt, by go_num, HB4, HS4, HM4, Lib.hid (by
              rw [HT.out, ← List.append_assoc]
              refine HP.out.cong z ?_
              rw [HC.out, HZ.out.2.2]), HX4, HO4⟩
            case measure => simp [intOf]; omega
          · obtain rfl : k = (mgE x).length := by omega
            have hklt' : ¬ (((mgE x).length : Nat) : Int) < ((mgE x).length : Int) := by omega
            go_wp2_with fail
            go_roundw
            case rel => exact ⟨i + 1, f, hlt, by go_num, HB, HS, Lib.hid (HM.out.mono (by have := HML.out; omega)), Lib.hid (by rw [HE.out]; exact HP.out)⟩
            case measure => simp [intOf]; omega
      · have HE : Hid (trL (L.take (i + 1)) = trL (L.take i)) := Lib.hid (by
          rw [HX.out, trL_snoc]
          unfold trE
          rw [if_neg (by rw [HT.out]; exact hT), List.append_nil])
        cases T1
        · go_wp2_with (go_at_call 66; refine (HC1.out _).mono ?_; rintro e w5 ⟨rfl, rfl⟩)
          go_roundw
          case rel => exact ⟨i + 1, f, hlt, by go_num, HB0, HS0, Lib.hid (HM0.out.mono (by omega)), Lib.hid (by rw [HE.out]; exact HP.out)⟩
          case measure => simp [intOf]; omega
        · cases T2
          · go_wp2_with (go_at_call 66; first | (refine (HC1.out _).mono ?_; rintro e w5 ⟨rfl, rfl⟩) | (refine (HC2.out _).mono ?_; rintro e w5 ⟨rfl, rfl⟩))
            go_roundw
            case rel => exact ⟨i + 1, f, hlt, by go_num, HB0, HS0, Lib.hid (HM0.out.mono (by omega)), Lib.hid (by rw [HE.out]; exact HP.out)⟩
            case measure => simp [intOf]; omega
          · exact absurd rfl hT
    · obtain rfl : i = L.length := by omega
      have hlt' : ¬ ((L.length : Nat) : Int) < (L.length : Int) := by omega
      have hP : RM (trL L) f := by have := HP.out; rwa [List.take_length] at this
      go_wp2_with fail
      go_ret
      exact ⟨rfl, f, HM.out, hP, HB.out⟩
end Go.Proofs.Ytjikbffnhfoikaa
/- The map of the sources by meanings and targets, as a function. -/
namespace Go.Proofs.Ytjikbffnhfoikaa
open Go.RowKit Go.Sort Go.Maps
theorem hasS_zero (n : Int) : hasS S4.zero n = false := by
  cases h : hasS S4.zero n with
  | false => rfl
  | true =>
    obtain ⟨h0, h1⟩ := hasS_in h
    have h2 := has_zero (n := n.toNat) (by omega)
    rw [show ((n.toNat : Nat) : Int) = n by omega, h] at h2
    exact h2
/-- a meaning with targets -/
structure Bk where
  m : Me
  S : S4
  wf : W64 m.k ∧ W64 m.c ∧ W64 m.d ∧ S.U
def keyB (b : Bk) : Value := .agg #[.int .i64 b.m.k, .int .i64 b.m.c, .int .i64 b.m.d, .int .u32 (vI b.m.p), .int .u64 b.S.a, .int .u64 b.S.b, .int .u64 b.S.c, .int .u64 b.S.d]
def klB (b : Bk) : Lit := .string (keyBytes [.int .i64 b.m.k, .int .i64 b.m.c, .int .i64 b.m.d, .int .u32 (vI b.m.p), .int .u64 b.S.a, .int .u64 b.S.b, .int .u64 b.S.c, .int .u64 b.S.d])
theorem keyOf_B (b : Bk) : keyOf Try.prog 96 (keyB b) = some (klB b) := keyOf_block b.m.p b.wf.1 b.wf.2.1 b.wf.2.2.1 b.wf.2.2.2.a b.wf.2.2.2.b b.wf.2.2.2.c b.wf.2.2.2.d
def eqB (x y : Bk) : Prop := x.m = y.m ∧ x.S = y.S
instance (x y : Bk) : Decidable (eqB x y) := by unfold eqB; infer_instance
theorem S4.same {x y : S4} (h1 : x.a = y.a) (h2 : x.b = y.b) (h3 : x.c = y.c) (h4 : x.d = y.d) : x = y := by
  obtain ⟨k, c, d, p⟩ := x
  obtain ⟨k', c', d', p'⟩ := y
  dsimp only at h1 h2 h3 h4
  rw [h1, h2, h3, h4]
theorem klB_iff {x z : Bk} : klB x = klB z ↔ eqB x z := by
  constructor
  · intro h
    have := keyed_block.inj (keyOf_B x) (h ▸ keyOf_B z)
    simp only [keyB, Value.agg.injEq, Array.mk.injEq, List.cons.injEq, Value.int.injEq, true_and, and_true] at this
    obtain ⟨h1, h2, h3, h4, h5, h6, h7, h8⟩ := this
    exact ⟨Me.same h1 h2 h3 (vI_inj h4), S4.same h5 h6 h7 h8⟩
  · rintro ⟨h1, h2⟩
    unfold klB
    rw [h1, h2]
theorem klB_same {x z : Bk} : (klB z).sameKey (klB x) = decide (eqB x z) := by
  by_cases h : eqB x z
  · rw [klB_iff.2 h, WideAt.sameKey_self (keyed_block.key (keyOf_B z)), decide_eq_true h]
  · rw [sameKey_ne (fun e => h (klB_iff.1 e.symm)), decide_eq_false h]
/-- n is a source, of those done, that reaches just the targets of b by its meaning -/
def hits (P : List Tr) (dn : Tr → Bool) (b : Bk) (n : Int) : Prop := ∃ z ∈ P, dn z = true ∧ z.m = b.m ∧ tgS P z = b.S ∧ z.s = n
theorem hits_eq {P : List Tr} {dn : Tr → Bool} {b b' : Bk} (h : eqB b b') (n : Int) : hits P dn b n ↔ hits P dn b' n := by
  unfold hits
  rw [h.1, h.2]
theorem hits_next {P : List Tr} {dn : Tr → Bool} {x : Tr} {b0 : Bk} (hx : x ∈ P) (h1 : b0.m = x.m) (h2 : b0.S = tgS P x) (b : Bk) (n : Int) :
    hits P (fun z => dn z || decide (eqT x z)) b n ↔ hits P dn b n ∨ (eqB b0 b ∧ n = x.s) := by
  constructor
  · rintro ⟨z, hz, hd, e1, e2, e3⟩
    cases h : dn z with
    | true => exact .inl ⟨z, hz, h, e1, e2, e3⟩
    | false =>
      replace hd : (dn z || decide (eqT x z)) = true := hd
      rw [h, Bool.false_or] at hd
      have e := of_decide_eq_true hd
      exact .inr ⟨⟨by rw [h1, e.1, e1], by rw [h2, tgS_key e, e2]⟩, by rw [← e3, e.2]⟩
  · rintro (⟨z, hz, hd, e1, e2, e3⟩ | ⟨⟨e1, e2⟩, rfl⟩)
    · exact ⟨z, hz, by show (dn z || _) = true; rw [hd]; rfl, e1, e2, e3⟩
    · exact ⟨x, hx, by show (dn x || decide (eqT x x)) = true; rw [decide_eq_true (show eqT x x from ⟨rfl, rfl⟩), Bool.or_true], by rw [← h1, e1], by rw [← h2, e2], rfl⟩
/-- the map of the sources done -/
structure SM (P : List Tr) (dn : Tr → Bool) (g : Lit → Option Value) : Prop where
  no : ∀ b, (¬ ∃ n, hits P dn b n) → g (klB b) = none
  yes : ∀ b, (∃ n, hits P dn b n) → ∃ T : S4, g (klB b) = some (sAgg T) ∧ T.U ∧ ∀ n, hasS T n = true ↔ hits P dn b n
  key : ∀ kl v, g kl = some v → ∃ b, kl = klB b ∧ ∃ n, hits P dn b n
theorem SM.nil {P : List Tr} {dn : Tr → Bool} (h : ∀ z ∈ P, dn z = false) : SM P dn fun _ => none := by
  refine ⟨fun _ _ => rfl, ?_, fun kl v hv => by cases hv⟩
  rintro b ⟨n, z, hz, hd, _⟩
  rw [h z hz] at hd; cases hd
theorem SM.at {P : List Tr} {dn : Tr → Bool} {g : Lit → Option Value} (h : SM P dn g) (b : Bk) : ∃ T : S4, (g (klB b)).getD (sAgg S4.zero) = sAgg T ∧ T.U ∧ ∀ n, hasS T n = true ↔ hits P dn b n := by
  by_cases e : ∃ n, hits P dn b n
  · obtain ⟨T, h1, h2, h3⟩ := h.yes b e
    exact ⟨T, by rw [h1]; rfl, h2, h3⟩
  · refine ⟨S4.zero, by rw [h.no b e]; rfl, U_zero, fun n => ⟨fun h0 => ?_, fun h0 => absurd ⟨n, h0⟩ e⟩⟩
    rw [hasS_zero] at h0; cases h0
theorem SM.step {P : List Tr} {dn : Tr → Bool} {g : Lit → Option Value} (h : SM P dn g) {x : Tr} {b0 : Bk} (hx : x ∈ P) (hs : 0 ≤ x.s ∧ x.s < 256) (h1 : b0.m = x.m) (h2 : b0.S = tgS P x) {T : S4} (hU : T.U) (hT : ∀ n, hasS T n = true ↔ hits P dn b0 n) :
    SM P (fun z => dn z || decide (eqT x z)) (upd g (klB b0) (sAgg (withS x.s T))) := by
  have hn := hits_next (dn := dn) hx h1 h2
  refine ⟨fun b hb => ?_, fun b hb => ?_, fun kl v hv => ?_⟩
  · unfold upd
    rw [klB_same]
    by_cases e : eqB b0 b
    · exact absurd ⟨x.s, (hn b _).2 (.inr ⟨e, rfl⟩)⟩ hb
    · rw [if_neg (by simp [e])]
      exact h.no b fun ⟨n, h0⟩ => hb ⟨n, (hn b n).2 (.inl h0)⟩
  · unfold upd
    rw [klB_same]
    by_cases e : eqB b0 b
    · rw [if_pos (by simp [e])]
      refine ⟨_, rfl, withS_U x.s hU, fun n => ?_⟩
      rw [hn b n, has_withI hs hU, Bool.or_eq_true, hT n, hits_eq e n, decide_eq_true_eq]
      constructor
      · rintro (h0 | h0)
        · exact .inl h0
        · exact .inr ⟨e, h0⟩
      · rintro (h0 | ⟨_, h0⟩)
        · exact .inl h0
        · exact .inr h0
    · rw [if_neg (by simp [e])]
      have hb' : ∃ n, hits P dn b n := by
        obtain ⟨n, h0⟩ := hb
        rcases (hn b n).1 h0 with h0 | ⟨h0, _⟩
        · exact ⟨n, h0⟩
        · exact absurd h0 e
      obtain ⟨T', h3, h4, h5⟩ := h.yes b hb'
      refine ⟨T', h3, h4, fun n => ?_⟩
      rw [h5 n, hn b n]
      exact ⟨.inl, fun h0 => h0.elim id fun h0 => absurd h0.1 e⟩
  · unfold upd at hv
    by_cases e : kl.sameKey (klB b0) = true
    · exact ⟨b0, (WideAt.sameKey_iff (keyed_block.key (keyOf_B b0))).1 e, x.s, (hn b0 _).2 (.inr ⟨⟨rfl, rfl⟩, rfl⟩)⟩
    · rw [if_neg e] at hv
      obtain ⟨b, hb, n, h0⟩ := h.key kl v hv
      exact ⟨b, hb, n, (hn b n).2 (.inl h0)⟩
theorem RanR.cnt_le {P : Program} {k : TypeId} {w : World} {b r n cnt : Nat} {f : Lit → Option Value} {left : Lit → Bool} (h : RanR P k w b r n f left cnt) : cnt ≤ n := by
  obtain ⟨D, ⟨es, clock, since, seen, c0, _, _, hs, _, _, _, hc, _⟩, _⟩ := h
  rw [← hc]
  refine Nat.le_trans ?_ hs
  unfold leftOf
  exact Array.size_filter_le
end Go.Proofs.Ytjikbffnhfoikaa
/- What Compress collects. -/
namespace Go.Proofs.Ytjikbffnhfoikaa
open Go.RowKit Go.Sort Go.Maps
theorem tgS_U (P : List Tr) (z : Tr) : (tgS P z).U := by
  unfold tgS
  generalize hS : S4.zero = S
  have hU : S.U := by rw [← hS]; exact U_zero
  clear hS
  induction P generalizing S with
  | nil => exact hU
  | cons x r ih =>
    rw [List.foldl_cons]
    refine ih _ ?_
    split
    · exact withS_U _ hU
    · exact hU
theorem trL_src {L : List E} {z : Tr} (h : z ∈ trL L) : 0 ≤ z.s ∧ z.s < 256 := by
  unfold trL at h
  rw [List.mem_flatMap] at h
  obtain ⟨x, _, h⟩ := h
  unfold trE at h
  split at h
  · rename_i ht
    rw [List.mem_map] at h
    obtain ⟨m, hm, rfl⟩ := h
    rw [(Me.tr_of hm).2.1]
    unfold isT at ht
    simp only [Bool.and_eq_true, decide_eq_true_eq] at ht
    exact ht.1
  · simp at h
def bkOf (P : List Tr) (x : Tr) : Bk := ⟨x.m, tgS P x, x.wf.1, x.wf.2.1, x.wf.2.2.1, tgS_U P x⟩
/-- the keys done -/
def dnT (left : Lit → Bool) (z : Tr) : Bool := !left (klT z)
theorem dnT_next {left : Lit → Bool} (x : Tr) : dnT (fun k => left k && !k.sameKey (klT x)) = fun z => dnT left z || decide (eqT x z) := by
  funext z
  show (!(left (klT z) && !(klT z).sameKey (klT x))) = (!left (klT z) || decide (eqT x z))
  rw [klT_same]
  cases left (klT z) <;> cases decide (eqT x z) <;> rfl
/-- the rules that stand for what is reached -/
def CompOf (P : List Tr) (S : List Ru) : Prop := S.Pairwise ltR ∧ ∀ r : Ru, r ∈ S ↔ r.self = false ∧ ∃ b : Bk, (∃ n, hits P (fun _ => true) b n) ∧ r.k = b.m.k ∧ r.cl = b.m.c ∧ r.cd = b.m.d ∧ r.pm = b.m.p ∧ r.tgt = b.S ∧ ∀ n, hasS r.src n = true ↔ hits P (fun _ => true) b n
def ruleFor (P : List Tr) (b : Bk) (r : Ru) : Prop := r.self = false ∧ r.k = b.m.k ∧ r.cl = b.m.c ∧ r.cd = b.m.d ∧ r.pm = b.m.p ∧ r.tgt = b.S ∧ ∀ n, hasS r.src n = true ↔ hits P (fun _ => true) b n
def sameR (x y : Ru) : Prop := x.k = y.k ∧ x.cl = y.cl ∧ x.cd = y.cd ∧ x.pm = y.pm ∧ x.tgt = y.tgt
/-- the rules of the blocks done -/
structure RS (P : List Tr) (left : Lit → Bool) (S : List Ru) : Prop where
  mem : ∀ r ∈ S, ∃ b, (∃ n, hits P (fun _ => true) b n) ∧ ruleFor P b r ∧ left (klB b) = false
  all : ∀ b, (∃ n, hits P (fun _ => true) b n) → left (klB b) = false → ∃ r ∈ S, ruleFor P b r
  ap : S.Pairwise fun x y => ¬ sameR x y
theorem ruleFor_eq {P : List Tr} {b b' : Bk} {r : Ru} (h : eqB b b') (k : ruleFor P b r) : ruleFor P b' r := by
  unfold ruleFor at *
  rw [← h.1, ← h.2]
  exact ⟨k.1, k.2.1, k.2.2.1, k.2.2.2.1, k.2.2.2.2.1, k.2.2.2.2.2.1, fun n => (k.2.2.2.2.2.2 n).trans (hits_eq h n)⟩
theorem ruleFor_b {P : List Tr} {b b' : Bk} {r r' : Ru} (h : ruleFor P b r) (h' : ruleFor P b' r') (k : sameR r r') : eqB b b' := by
  obtain ⟨_, a1, a2, a3, a4, a5, _⟩ := h
  obtain ⟨_, c1, c2, c3, c4, c5, _⟩ := h'
  obtain ⟨k1, k2, k3, k4, k5⟩ := k
  exact ⟨Me.same (by rw [← a1, ← c1, k1]) (by rw [← a2, ← c2, k2]) (by rw [← a3, ← c3, k3]) (by rw [← a4, ← c4, k4]), by rw [← a5, ← c5, k5]⟩
theorem RS.nil {P : List Tr} {left : Lit → Bool} (h : ∀ b, (∃ n, hits P (fun _ => true) b n) → left (klB b) = true) : RS P left [] := by
  refine ⟨fun r hr => by simp at hr, fun b hb hl => ?_, List.Pairwise.nil⟩
  rw [h b hb] at hl; cases hl
theorem RS.step {P : List Tr} {left : Lit → Bool} {S : List Ru} (h : RS P left S) {b : Bk} {r : Ru} (hb : ∃ n, hits P (fun _ => true) b n) (hl : left (klB b) = true) (hr : ruleFor P b r) :
    RS P (fun z => left z && !z.sameKey (klB b)) (S ++ [r]) := by
  refine ⟨fun x hx => ?_, fun c hc hlc => ?_, ?_⟩
  · rcases List.mem_append.1 hx with hx | hx
    · obtain ⟨c, h1, h2, h3⟩ := h.mem x hx
      exact ⟨c, h1, h2, by show (left (klB c) && _) = false; rw [h3]; rfl⟩
    · simp at hx; subst hx
      exact ⟨b, hb, hr, by show (left (klB b) && !(klB b).sameKey (klB b)) = false; rw [klB_same, decide_eq_true (show eqB b b from ⟨rfl, rfl⟩), hl]; rfl⟩
  · replace hlc : (left (klB c) && !(klB c).sameKey (klB b)) = false := hlc
    rw [klB_same] at hlc
    by_cases e : eqB b c
    · exact ⟨r, by simp, ruleFor_eq e hr⟩
    · rw [decide_eq_false e, Bool.not_false, Bool.and_true] at hlc
      obtain ⟨x, h1, h2⟩ := h.all c hc hlc
      exact ⟨x, by simp [h1], h2⟩
  · rw [List.pairwise_append]
    refine ⟨h.ap, List.pairwise_singleton _ _, fun x hx y hy => ?_⟩
    simp at hy; subst hy
    obtain ⟨c, h1, h2, h3⟩ := h.mem x hx
    intro e
    have := ruleFor_b h2 hr e
    rw [klB_iff.2 this, hl] at h3
    cases h3
theorem leastS_hit {s : S4} (h : ∃ n, hasS s n = true) : hasS s (leastS s) = true := by
  rcases leastS_is s with ⟨_, h1⟩ | ⟨k, hk, e, h1, _⟩
  · obtain ⟨n, hn⟩ := h
    obtain ⟨h2, h3⟩ := hasS_in hn
    have h4 := h1 n.toNat (by omega)
    rw [show ((n.toNat : Nat) : Int) = n by omega] at h4
    unfold hasS at hn
    rw [h4] at hn; cases hn
  · rw [e]; exact h1
theorem Ru.ext' {x y : Ru} (h0 : x.k = y.k) (h1 : x.src = y.src) (h2 : x.tgt = y.tgt) (h3 : x.self = y.self) (h4 : x.cl = y.cl) (h5 : x.pm = y.pm) (h6 : x.cd = y.cd) : x = y := by
  obtain ⟨_, _, _, _, _, _, _, _⟩ := x
  obtain ⟨_, _, _, _, _, _, _, _⟩ := y
  dsimp only at h0 h1 h2 h3 h4 h5 h6
  subst h0 h1 h2 h3 h4 h5 h6
  rfl
theorem Ru.same {P : List Tr} {b : Bk} {x y : Ru} (h : ruleFor P b x) (k : ruleFor P b y) : x = y :=
  Ru.ext' (by rw [h.2.1, k.2.1]) (s4_extI x.wf.2.2.2.1 y.wf.2.2.2.1 fun n => Bool.eq_iff_iff.2 ((h.2.2.2.2.2.2 n).trans (k.2.2.2.2.2.2 n).symm)) (by rw [h.2.2.2.2.2.1, k.2.2.2.2.2.1]) (by rw [h.1, k.1]) (by rw [h.2.2.1, k.2.2.1]) (by rw [h.2.2.2.2.1, k.2.2.2.2.1]) (by rw [h.2.2.2.1, k.2.2.2.1])
/-- two rules that no comparison tells apart are of one meaning and one set of targets -/
theorem RS.tell {P : List Tr} {left : Lit → Bool} {S : List Ru} (h : RS P left S) {x y : Ru} (hx : x ∈ S) (hy : y ∈ S) (h1 : ¬ ltR x y) (h2 : ¬ ltR y x) : sameR x y := by
  obtain ⟨b, ⟨n, hn⟩, hb, _⟩ := h.mem x hx
  obtain ⟨c, ⟨n', hn'⟩, hc, _⟩ := h.mem y hy
  have e : x.k = y.k ∧ x.cl = y.cl ∧ x.cd = y.cd ∧ vI x.pm = vI y.pm ∧ leastS x.src = leastS y.src := by
    unfold ltR at h1 h2
    omega
  obtain ⟨e1, e2, e3, e4, e5⟩ := e
  have e4 := vI_inj e4
  have hl1 := (hb.2.2.2.2.2.2 _).1 (leastS_hit ⟨n, (hb.2.2.2.2.2.2 n).2 hn⟩)
  have hl2 := (hc.2.2.2.2.2.2 _).1 (leastS_hit ⟨n', (hc.2.2.2.2.2.2 n').2 hn'⟩)
  rw [e5] at hl1
  obtain ⟨z, _, _, z1, z2, z3⟩ := hl1
  obtain ⟨z', _, _, w1, w2, w3⟩ := hl2
  have hm : b.m = c.m := Me.same (by rw [← hb.2.1, ← hc.2.1, e1]) (by rw [← hb.2.2.1, ← hc.2.2.1, e2]) (by rw [← hb.2.2.2.1, ← hc.2.2.2.1, e3]) (by rw [← hb.2.2.2.2.1, ← hc.2.2.2.2.1, e4])
  have hz : eqT z z' := ⟨by rw [z1, w1, hm], by rw [z3, w3]⟩
  exact ⟨e1, e2, e3, e4, by rw [hb.2.2.2.2.2.1, hc.2.2.2.2.2.1, ← z2, ← w2, tgS_key hz]⟩
theorem RS.done {P : List Tr} {left : Lit → Bool} {S S' : List Ru} (h : RS P left S) (hl : ∀ k, left k = false) (hp : S'.Perm S) (ha : AscR S') : CompOf P S' := by
  have hap : S'.Pairwise fun x y => ¬ sameR x y := (hp.pairwise_iff (fun {x y} k e => k ⟨e.1.symm, e.2.1.symm, e.2.2.1.symm, e.2.2.2.1.symm, e.2.2.2.2.symm⟩)).2 h.ap
  refine ⟨?_, fun r => ⟨fun hr => ?_, ?_⟩⟩
  · refine (List.Pairwise.and ha hap).imp_of_mem fun {x y} hx hy k => ?_
    exact Decidable.byContradiction fun e => k.2 (h.tell (hp.mem_iff.1 hx) (hp.mem_iff.1 hy) e k.1)
  · obtain ⟨b, hb, hr, _⟩ := h.mem r (hp.mem_iff.1 hr)
    exact ⟨hr.1, b, hb, hr.2⟩
  · rintro ⟨hs, b, hb, hr⟩
    obtain ⟨x, hx, hxb⟩ := h.all b hb (hl _)
    have e : x = r := Ru.same hxb ⟨hs, hr⟩
    rw [← e]; exact hp.mem_iff.2 hx
end Go.Proofs.Ytjikbffnhfoikaa
/- Compress. -/
namespace Go.Proofs.Ytjikbffnhfoikaa
open Go.RowKit Go.Sort Go.Maps
set_option maxRecDepth 100000 in
set_option maxHeartbeats 8000000 in
theorem compress_c (v : Value) (L : List E) (hl : L.length ≤ 10000) (w : World) (hE : Ents w v L) :
    Calls Try.prog 24 #[v] w fun e w' => ∃ v' S, e = .returned v' ∧ Rus w' v' S ∧ CompOf (trL (M L)) S ∧ Below w.heap.size w w' := by
  have hmm := @run_makeMap Try.prog
  have HE := Lib.hid hE
  have HML := Lib.hid (M_len L)
  have hsl : ∃ ao n cap, v = .slice ao n cap := by obtain ⟨ao, cap, e, _⟩ := hE; exact ⟨ao, _, cap, e⟩
  obtain ⟨ao, n0, cap, rfl⟩ := hsl
  clear hE
  go_enter Try.func24, Try.ntmps24
  have HB0 : Hid (Below w.heap.size w (w.alloc (.map #[] 0))) := Lib.hid ((Below.refl _ w).alloc (Nat.le_refl _) _)
  have HM0 : Hid (MapR Try.prog 96 (w.alloc (.map #[] 0)) w.heap.size 0 fun _ => none) := Lib.hid (MapR.made w)
  go_wp2_with (first
    | (go_at_call 19; refine (merge_c _ L (by omega) _ (HE.out.keep ((Below.refl _ w).alloc (Nat.le_refl _) _))).mono ?_; rintro e w5 ⟨v5, rfl, hE5, hb5⟩; have HE5 := Lib.hid hE5; have HB5 := Lib.hid hb5; clear hE5 hb5)
    | (go_at_call 44; refine (reached_c v5 (M L) (by have := HML.out; omega) _ HE5.out).mono ?_; rintro e w6 ⟨f, rfl, hM6, hR6, hb6⟩; have HM6 := Lib.hid hM6; have HR6 := Lib.hid hR6; have HB6 := Lib.hid hb6; clear hM6 hR6 hb6)
    | (at_range; refine wpList_range_R rfl _ 89 rfl 94 24 keyed_reach Try.underlying89 w5.heap.size (3 * (M L).length) f rfl HM6.out ?_; intro W0 cnt0 hrg0 hg0 hs0; have HR0 := Lib.hid hrg0; have HG0 := Lib.hid hg0; have HZ0 := Lib.hid hs0; clear hrg0 hg0 hs0))
  simp only [Act.put, List.setIfInBounds_toArray, List.set_cons_succ, List.set_cons_zero]
  have HB5' : Hid (Below w.heap.size w w5) := Lib.hid (HB0.out.trans (HB5.out.mono HB0.out.size))
  have HB6' : Hid (Below w.heap.size w w6) := Lib.hid (HB5'.out.trans (HB6.out.mono HB5'.out.size))
  have HS5 : Hid (w.heap.size < w5.heap.size) := Lib.hid (by have := HB5.out.size; simp at this; omega)
  have HS6 : Hid (w5.heap.size < w6.heap.size) := Lib.hid HM6.out.lt
  have HB7 : Hid (Below w.heap.size w W0) := Lib.hid (HB6'.out.grown HG0.out HB6'.out.size (fun k e => by cases e))
  have HM7 : Hid (MapR Try.prog 96 W0 w.heap.size 0 fun _ => none) := Lib.hid (((HM0.out.below HB5.out).below HB6.out).kept HG0.out (by simp))
  have HNL : Hid (3 * (M L).length ≤ 30000) := Lib.hid (by have := HML.out; omega)
  generalize 3 * (M L).length = n at *
  generalize hP : trL (M L) = P at *
  have HSRC : Hid (∀ z ∈ P, 0 ≤ z.s ∧ z.s < 256) := Lib.hid (by rw [← hP]; exact fun z hz => trL_src hz)
  have HPP := Lib.hid hP
  clear hP hmm HE HE5 HB0 HM0 HB5 HB6 HM6 HB5' HB6' HG0 HZ0 HML
  generalize w6.heap.size = r at *
  generalize w5.heap.size = bR at *
  go_loopw [15] (fun v15 w2 => ∃ (g : Lit → Option Value) (left : Lit → Bool) (cnt ng : Nat) (vv : Value), vv = v15 ∧ Hid (RanR Try.prog 94 w2 bR r n f left cnt) ∧ Hid (MapR Try.prog 96 w2 w.heap.size ng g) ∧ Hid (ng + cnt ≤ n) ∧ Hid (SM P (dnT left) g) ∧ Hid (Below w.heap.size w w2)) (fun _ w2 => w2.rangeLeft bR r)
  case atStart =>
    refine ⟨_, _, cnt0, 0, _, rfl, HR0, HM7, Lib.hid (by have := HR0.out.cnt_le; omega), Lib.hid (SM.nil fun z hz => ?_), HB7⟩
    show (!(f (klT z)).isSome) = false
    rw [HR6.out.a, if_pos (hasT_iff.2 ⟨z, hz, rfl, rfl⟩)]
    rfl
  case round =>
    obtain ⟨g, left, cnt, ng, vv, rfl, HR, HM, HN, HG, HB⟩ := hrel
    go_wp2_with (at_next; refine wpList_next_R rfl _ rfl 94 keyed_reach bR r n f left cnt rfl HR.out ?_ ?_)
    · intro hc0 hl0
      have HG2 : Hid (SM P (fun _ => true) g) := Lib.hid (by
        have e : dnT left = fun _ => true := funext fun z => by unfold dnT; rw [hl0]; rfl
        rw [← e]; exact HG.out)
      clear hc0 hl0 HG HR HR6 HSRC HR0 HB7 HM7
      have HN2 : Hid (ng ≤ 30000) := Lib.hid (by have := HN.out; have := HNL.out; omega)
      clear HN HNL
      go_wp2_with (at_range; refine wpList_range_R rfl _ 88 rfl 96 24 keyed_block Try.underlying88 w.heap.size ng g rfl HM.out ?_; intro W1 cnt1 hrg0 hg0 hs0; have HR1 := Lib.hid hrg0; have HB1 : Hid (Below w.heap.size w W1) := Lib.hid (HB.out.grown hg0 HB.out.size (fun k e => by cases e)); clear hrg0 hg0 hs0)
      simp only [Act.put, List.setIfInBounds_toArray, List.set_cons_succ, List.set_cons_zero]
      have HWR : Hid (w.heap.size < wr.heap.size) := Lib.hid HM.out.lt
      generalize wr.heap.size = r2 at *
      clear HM HB
      go_loopw [7] (fun v7 w2 => ∃ (S : List Ru) (left : Lit → Bool) (cnt : Nat) (vv : Value), vv = v7 ∧ Hid (RanR Try.prog 96 w2 w.heap.size r2 ng g left cnt) ∧ Hid (OwnR w2 (r2 + 1) vv S) ∧ Hid (RS P left S) ∧ Hid (S.length + cnt ≤ ng) ∧ Hid (Below w.heap.size w w2)) (fun _ w2 => w2.rangeLeft w.heap.size r2)
      case atStart =>
        refine ⟨[], _, cnt1, _, rfl, HR1, Lib.hid (OwnR.nil _ _), Lib.hid (RS.nil fun b hb => ?_), Lib.hid (by have := HR1.out.cnt_le; simp; omega), HB1⟩
        obtain ⟨T, h1, _⟩ := HG2.out.yes b hb
        show (g (klB b)).isSome = true
        rw [h1]; rfl
      case round =>
        obtain ⟨S, left, cnt, v, rfl, HR, HO, HS, HN, HB⟩ := hrel
        go_wp2_with (at_next; refine wpList_next_R rfl _ rfl 96 keyed_block w.heap.size r2 ng g left cnt rfl HR.out ?_ ?_)
        · intro hc0 hl0
          have HSC := Lib.hid (sortR_c (by have := HN.out; have := HN2.out; omega) HO.out)
          have HOL := Lib.hid HO.out.own
          have HL0 := Lib.hid hl0
          clear hc0 hl0 HR HO
          go_wp2_with (go_at_call 46; refine HSC.out.mono ?_; rintro e w4 ⟨rfl, S2, hS, hso, hg⟩)
          go_ret
          exact ⟨_, S2, rfl, hS, by rw [HPP.out]; exact HS.out.done HL0.out hso.1 hso.2, HB.out.grown hg HB.out.size (fun k e => by have := (HOL.out k e).1; have := HWR.out; omega)⟩
        · intro key vv kl w3 cnt3 hkey hlk hf hrg hlt hgr hsz hen
          obtain ⟨b, rfl, hb⟩ := HG2.out.key kl vv hf
          obtain rfl := keyed_block.inj hkey (keyOf_B b)
          obtain ⟨T, hT, hTU, hT2⟩ := HG2.out.yes b hb
          rw [hT] at hf
          simp only [Option.some.injEq] at hf
          subst hf
          have hen2 : (Instr.entry (.pointer (some ⟨r2, 0, none⟩))).run Try.prog w3 = .ok (.tuple #[.agg #[.int .i64 b.m.k, .int .i64 b.m.c, .int .i64 b.m.d, .int .u32 (vI b.m.p), .int .u64 b.S.a, .int .u64 b.S.b, .int .u64 b.S.c, .int .u64 b.S.d], .agg #[.int .u64 T.a, .int .u64 T.b, .int .u64 T.c, .int .u64 T.d]]) w3 := hen
          have HTU := Lib.hid hTU
          have HQ : Hid (ruleFor P b (⟨b.m.k, T, b.S, false, b.m.c, b.m.p, b.m.d, ⟨b.wf.1, b.wf.2.1, b.wf.2.2.1, HTU.out, b.wf.2.2.2⟩⟩ : Ru)) := Lib.hid ⟨rfl, rfl, rfl, rfl, rfl, rfl, hT2⟩
          have HS2 := Lib.hid (HS.out.step hb hlk HQ.out)
          have hown := HO.out.own
          have HR3 := Lib.hid hrg
          have HO3 := Lib.hid (HO.out.kept hgr (by
            cases hv : v.ownBlock with
            | none => exact .inl rfl
            | some g => exact .inr (fun e => by cases e; have := (hown r2 hv).1; omega)))
          have HB3 : Hid (Below w.heap.size w w3) := Lib.hid (HB.out.grown hgr HB.out.size (fun k e => by cases e; have := HWR.out; omega))
          have HLT := Lib.hid hlt
          have HRW := Lib.hid HR.out.left_eq
          have HRL := Lib.hid hrg.lt
          have hbW : Below w3.heap.size w3 ((w3.alloc (.cells #[.int .i64 b.m.k, .int .i64 b.m.c, .int .i64 b.m.d, .int .u32 (vI b.m.p), .int .u64 b.S.a, .int .u64 b.S.b, .int .u64 b.S.c, .int .u64 b.S.d] 96)).alloc (.cells #[.int .u64 T.a, .int .u64 T.b, .int .u64 T.c, .int .u64 T.d] 24)) := ((Below.refl _ w3).alloc (Nat.le_refl _) _).alloc (by simp) _
          have HB4 := Lib.hid (HB3.out.trans (hbW.mono HB3.out.size))
          have HR4 := Lib.hid (HR3.out.below hbW)
          have HO4 := Lib.hid (HO3.out.below hbW)
          have HNS : Hid (S.length + cnt ≤ ng) := HN
          clear hen hlt hrg hgr hsz hkey hlk hown HR HB HO HS hT hTU hT2 hb hbW HB3 HR3 HO3
          go_upto_region 11 with fail
          have hsz : ((w3.alloc (.cells #[.int .i64 b.m.k, .int .i64 b.m.c, .int .i64 b.m.d, .int .u32 (vI b.m.p), .int .u64 b.S.a, .int .u64 b.S.b, .int .u64 b.S.c, .int .u64 b.S.d] 96)).alloc (.cells #[.int .u64 T.a, .int .u64 T.b, .int .u64 T.c, .int .u64 T.d] 24)).heap.size = w3.heap.size + 2 := by simp
          have hkb : Blk ((w3.alloc (.cells #[.int .i64 b.m.k, .int .i64 b.m.c, .int .i64 b.m.d, .int .u32 (vI b.m.p), .int .u64 b.S.a, .int .u64 b.S.b, .int .u64 b.S.c, .int .u64 b.S.d] 96)).alloc (.cells #[.int .u64 T.a, .int .u64 T.b, .int .u64 T.c, .int .u64 T.d] 24)) w3.heap.size 96 #[.int .i64 b.m.k, .int .i64 b.m.c, .int .i64 b.m.d, .int .u32 (vI b.m.p), .int .u64 b.S.a, .int .u64 b.S.b, .int .u64 b.S.c, .int .u64 b.S.d] := (Blk.new w3 _ _).alloc _
          have hsb : Blk ((w3.alloc (.cells #[.int .i64 b.m.k, .int .i64 b.m.c, .int .i64 b.m.d, .int .u32 (vI b.m.p), .int .u64 b.S.a, .int .u64 b.S.b, .int .u64 b.S.c, .int .u64 b.S.d] 96)).alloc (.cells #[.int .u64 T.a, .int .u64 T.b, .int .u64 T.c, .int .u64 T.d] 24)) (w3.heap.size + 1) 24 #[.int .u64 T.a, .int .u64 T.b, .int .u64 T.c, .int .u64 T.d] := by
            have h := Blk.new (w3.alloc (.cells #[.int .i64 b.m.k, .int .i64 b.m.c, .int .i64 b.m.d, .int .u32 (vI b.m.p), .int .u64 b.S.a, .int .u64 b.S.b, .int .u64 b.S.c, .int .u64 b.S.d] 96)) 24 #[.int .u64 T.a, .int .u64 T.b, .int .u64 T.c, .int .u64 T.d]
            rwa [World.size_alloc] at h
          have HWL : Hid (r2 + 1 ≤ ((w3.alloc (.cells #[.int .i64 b.m.k, .int .i64 b.m.c, .int .i64 b.m.d, .int .u32 (vI b.m.p), .int .u64 b.S.a, .int .u64 b.S.b, .int .u64 b.S.c, .int .u64 b.S.d] 96)).alloc (.cells #[.int .u64 T.a, .int .u64 T.b, .int .u64 T.c, .int .u64 T.d] 24)).heap.size) := Lib.hid (by have := HRL.out.1; omega)
          have hk := hkb.cell
          have hs := hsb.cell
          have k0 := hk 0
          have k1 := hk 1
          have k2 := hk 2
          have k3 := hk 3
          have k4 := hk 4
          have k5 := hk 5
          have k6 := hk 6
          have k7 := hk 7
          have s0 := hs 0
          have s1 := hs 1
          have s2 := hs 2
          have s3 := hs 3
          clear hsz hkb hsb hk hs hen2 HRL
          generalize ((w3.alloc (.cells #[.int .i64 b.m.k, .int .i64 b.m.c, .int .i64 b.m.d, .int .u32 (vI b.m.p), .int .u64 b.S.a, .int .u64 b.S.b, .int .u64 b.S.c, .int .u64 b.S.d] 96)).alloc (.cells #[.int .u64 T.a, .int .u64 T.b, .int .u64 T.c, .int .u64 T.d] 24)) = W at *
          generalize w3.heap.size = g3 at *
          go_wp2_with (at_builtin; refine wpList_append_Ru (by rfl) _ _ (by rfl) (r2 + 1) v S S.length rfl (by rfl) (HO4.out.below ((Below.refl _ W).alloc (Nat.le_refl _) _)) W.heap.size (⟨b.m.k, T, b.S, false, b.m.c, b.m.p, b.m.d, ⟨b.wf.1, b.wf.2.1, b.wf.2.2.1, HTU.out, b.wf.2.2.2⟩⟩ : Ru) (by rfl) (Blk.new W _ _) (by have := HNS.out; have := HN2.out; omega) (by have := HWL.out; simp; omega) ?_; intro g' cap' w6 h1 h2 h3; have H1 := Lib.hid h1; have H2 := Lib.hid h2; clear h1 h2 h3)
          have hba := (Below.refl W.heap.size W).alloc (Nat.le_refl _) (.cells #[.int .i64 b.m.k, .int .u64 T.a, .int .u64 T.b, .int .u64 T.c, .int .u64 T.d, .int .u64 b.S.a, .int .u64 b.S.b, .int .u64 b.S.c, .int .u64 b.S.d, .bool false, .int .i64 b.m.c, .int .u32 (vI b.m.p), .int .i64 b.m.d] 27)
          have hown := (HO4.out.below hba).own
          have HR7 := Lib.hid ((HR4.out.below hba).kept H2.out (by intro e; have := (hown _ e.symm).1; have := HWR.out; omega) (by intro e; have := (hown _ e.symm).1; omega))
          have hB5 := HB4.out.trans (hba.mono HB4.out.size)
          have HB7 := Lib.hid (hB5.grown H2.out hB5.size (fun q e => by have := (hown q e).1; have := HWR.out; omega))
          clear hB5 hown hba k0 k1 k2 k3 k4 k5 k6 k7 s0 s1 s2 s3
          go_wp2_with fail
          go_roundw
          case rel => exact ⟨_, _, cnt3, _, rfl, HR7, H1, HS2, Lib.hid (by have := HNS.out; have := HLT.out; simp; omega), HB7⟩
          case measure => rw [HR7.out.left_eq, HRW.out]; exact HLT.out
    · intro key vv kl w3 cnt3 hkey hlk hf hrg hlt hgr hsz hen
      obtain ⟨x, hxP, rfl⟩ := HR6.out.b kl vv hf
      obtain rfl := keyed_reach.inj hkey (keyOf_T x)
      rw [HR6.out.a, if_pos (hasT_iff.2 ⟨x, hxP, rfl, rfl⟩)] at hf
      simp only [Option.some.injEq] at hf
      subst hf
      obtain ⟨S, hS⟩ : ∃ S, tgS P x = S := ⟨_, rfl⟩
      rw [hS] at hen
      have hen2 : (Instr.entry (.pointer (some ⟨r, 0, none⟩))).run Try.prog w3 = .ok (.tuple #[.agg #[.int .i64 x.m.k, .int .i64 x.m.c, .int .i64 x.m.d, .int .u32 (vI x.m.p), .int .i64 x.s], .agg #[.int .u64 S.a, .int .u64 S.b, .int .u64 S.c, .int .u64 S.d]]) w3 := hen
      have HRL := Lib.hid HR.out.lt
      have HR3 := Lib.hid hrg
      have HM3 : Hid (MapR Try.prog 96 w3 w.heap.size ng g) := Lib.hid (HM.out.kept hgr (by intro e; cases e; have := HS5.out; have := HS6.out; omega))
      have HB3 : Hid (Below w.heap.size w w3) := Lib.hid (HB.out.grown hgr HB.out.size (fun k e => by cases e; have := HS5.out; have := HS6.out; omega))
      have HLT := Lib.hid hlt
      have HRW := Lib.hid HR.out.left_eq
      have HXP := Lib.hid hxP
      have HSS := Lib.hid hS
      clear hen hlt hrg hgr hsz hS hxP hlk hkey HR HM HB HR0 HB7 HM7
      go_upto_region 6 with fail
      have hbW : Below w3.heap.size w3 (((w3.alloc (.cells #[.int .i64 x.m.k, .int .i64 x.m.c, .int .i64 x.m.d, .int .u32 (vI x.m.p), .int .i64 x.s] 94)).alloc (.cells #[.int .u64 S.a, .int .u64 S.b, .int .u64 S.c, .int .u64 S.d] 24)).alloc (.cells #[.int .i64 x.m.k, .int .i64 x.m.c, .int .i64 x.m.d, .int .u32 (vI x.m.p), .int .u64 S.a, .int .u64 S.b, .int .u64 S.c, .int .u64 S.d] 96)) := (((Below.refl _ w3).alloc (Nat.le_refl _) _).alloc (by simp) _).alloc (by simp; omega) _
      have HB4 := Lib.hid (HB3.out.trans (hbW.mono HB3.out.size))
      have HR4 := Lib.hid (HR3.out.below hbW)
      have HM4 := Lib.hid (HM3.out.below hbW)
      have HX4 : Hid (Blk (((w3.alloc (.cells #[.int .i64 x.m.k, .int .i64 x.m.c, .int .i64 x.m.d, .int .u32 (vI x.m.p), .int .i64 x.s] 94)).alloc (.cells #[.int .u64 S.a, .int .u64 S.b, .int .u64 S.c, .int .u64 S.d] 24)).alloc (.cells #[.int .i64 x.m.k, .int .i64 x.m.c, .int .i64 x.m.d, .int .u32 (vI x.m.p), .int .u64 S.a, .int .u64 S.b, .int .u64 S.c, .int .u64 S.d] 96)) w3.heap.size 94 #[.int .i64 x.m.k, .int .i64 x.m.c, .int .i64 x.m.d, .int .u32 (vI x.m.p), .int .i64 x.s]) := Lib.hid (((Blk.new w3 _ _).alloc _).alloc _)
      have HK4 : Hid (Blk (((w3.alloc (.cells #[.int .i64 x.m.k, .int .i64 x.m.c, .int .i64 x.m.d, .int .u32 (vI x.m.p), .int .i64 x.s] 94)).alloc (.cells #[.int .u64 S.a, .int .u64 S.b, .int .u64 S.c, .int .u64 S.d] 24)).alloc (.cells #[.int .i64 x.m.k, .int .i64 x.m.c, .int .i64 x.m.d, .int .u32 (vI x.m.p), .int .u64 S.a, .int .u64 S.b, .int .u64 S.c, .int .u64 S.d] 96)) (w3.heap.size + 1 + 1) 96 #[.int .i64 x.m.k, .int .i64 x.m.c, .int .i64 x.m.d, .int .u32 (vI x.m.p), .int .u64 S.a, .int .u64 S.b, .int .u64 S.c, .int .u64 S.d]) := Lib.hid (by
        have h := Blk.new ((w3.alloc (.cells #[.int .i64 x.m.k, .int .i64 x.m.c, .int .i64 x.m.d, .int .u32 (vI x.m.p), .int .i64 x.s] 94)).alloc (.cells #[.int .u64 S.a, .int .u64 S.b, .int .u64 S.c, .int .u64 S.d] 24)) 96 #[.int .i64 x.m.k, .int .i64 x.m.c, .int .i64 x.m.d, .int .u32 (vI x.m.p), .int .u64 S.a, .int .u64 S.b, .int .u64 S.c, .int .u64 S.d]
        rwa [World.size_alloc, World.size_alloc] at h)
      clear hbW HB3 HR3 HM3 hen2
      generalize (((w3.alloc (.cells #[.int .i64 x.m.k, .int .i64 x.m.c, .int .i64 x.m.d, .int .u32 (vI x.m.p), .int .i64 x.s] 94)).alloc (.cells #[.int .u64 S.a, .int .u64 S.b, .int .u64 S.c, .int .u64 S.d] 24)).alloc (.cells #[.int .i64 x.m.k, .int .i64 x.m.c, .int .i64 x.m.d, .int .u32 (vI x.m.p), .int .u64 S.a, .int .u64 S.b, .int .u64 S.c, .int .u64 S.d] 96)) = W at *
      generalize w3.heap.size = g3 at *
      obtain ⟨b0, hb0⟩ : ∃ b0, bkOf P x = b0 := ⟨_, rfl⟩
      have hbm : b0.m = x.m := by rw [← hb0]; rfl
      have hbS : b0.S = tgS P x := by rw [← hb0]; rfl
      obtain ⟨T, hT1, hTU, hT2⟩ := HG.out.at b0
      have HTU := Lib.hid hTU
      have HT2 := Lib.hid hT2
      have HBM := Lib.hid hbm
      have HBS := Lib.hid hbS
      have HKEY : Hid (keyOf Try.prog 96 (.agg #[.int .i64 x.m.k, .int .i64 x.m.c, .int .i64 x.m.d, .int .u32 (vI x.m.p), .int .u64 S.a, .int .u64 S.b, .int .u64 S.c, .int .u64 S.d]) = some (klB b0)) := Lib.hid (by
        have h := keyOf_B b0
        unfold keyB at h
        rw [hbm, hbS, HSS.out] at h
        exact h)
      have HL : Hid (∀ w1, Kp W w1 → (Instr.lookup 88 (.map (some w.heap.size)) (.agg #[.int .i64 x.m.k, .int .i64 x.m.c, .int .i64 x.m.d, .int .u32 (vI x.m.p), .int .u64 S.a, .int .u64 S.b, .int .u64 S.c, .int .u64 S.d]) false).run Try.prog w1 = .ok (.agg #[.int .u64 T.a, .int .u64 T.b, .int .u64 T.c, .int .u64 T.d]) w1) := Lib.hid fun w1 h => by
        have h2 := (HM4.out.below h).lookup keyed_block Try.underlying88 (z := sAgg S4.zero) (Try.zeroValue24 _) HKEY.out
        rw [hT1] at h2
        exact h2
      clear hb0 hbm hbS hT1 hTU hT2
      refine wp_region_kt 8 (by kernel_rfl) (by kernel_rfl) ?_
      simp only [List.take_succ_cons, List.take_zero, List.drop_succ_cons, List.drop_zero]
      repeat (first
          | go_big_quiet_skip
          | (go_big_quiet_want
             go_big_quiet_op
             first
               | go_big_quiet_on
               | (apply Exists.intro
                  refine ⟨fun w1 hC => ?_, ?_⟩
                  · first
                      | (go_at_call 45; with_reducible exact hC.call (with_c T.a T.b T.c T.d x.s _))
                      | (go_simp; exact ⟨rfl, rfl⟩)
                      | (have hlk := HL.out _ hC; go_simp; exact rfl)
                      | (have hk := hC.blk HK4.out; have d := hk.cell; have d0 := d 0; have d1 := d 1; have d2 := d 2; have d3 := d 3; have d4 := d 4; have d5 := d 5; have d6 := d 6; have d7 := d 7; go_simp; exact rfl)
                      | (have hx := hC.blk HX4.out; have d := hx.cell; have d4 := d 4; go_simp; exact rfl)
                  go_big_quiet_on)))
      refine wpQuiet_nil ?_
      intro W3 hC
      have HM5 := Lib.hid (HM4.out.below hC)
      have HR5 := Lib.hid (HR4.out.below hC)
      have HB5 := Lib.hid (HB4.out.trans (hC.mono HB4.out.size))
      clear HM4 HB4 HR4 HX4 HK4 HL hC
      go_wp2_with (at_mapUpdate; refine wpList_update_R rfl _ _ _ 88 rfl 96 24 keyed_block Try.underlying88 w.heap.size ng g rfl HM5.out (by have := HN.out; have := HNL.out; unfold maxLen; omega) (.agg #[.int .i64 x.m.k, .int .i64 x.m.c, .int .i64 x.m.d, .int .u32 (vI x.m.p), .int .u64 S.a, .int .u64 S.b, .int .u64 S.c, .int .u64 S.d]) (sAgg (withS x.s T)) (klB b0) rfl rfl HKEY.out ?_; intro W6 hM6 hg6; have HM7 := Lib.hid hM6; have HG7 := Lib.hid hg6; clear hM6 hg6)
      have HB7 := Lib.hid (below_but HB5.out HG7.out (Nat.le_refl _))
      have HR7 := Lib.hid (HR5.out.kept HG7.out (by intro e; cases e; have := HS5.out; omega) (by intro e; cases e; have := HS5.out; have := HS6.out; omega))
      simp only [Act.put]
      go_roundw
      case rel => exact ⟨_, _, cnt3, ng + 1, _, rfl, HR7, HM7, Lib.hid (by have := HN.out; have := HLT.out; omega), Lib.hid (by rw [dnT_next]; exact HG.out.step HXP.out (HSRC.out x HXP.out) HBM.out HBS.out HTU.out HT2.out), HB7⟩
      case measure => rw [HR7.out.left_eq, HRW.out]; exact HLT.out
end Go.Proofs.Ytjikbffnhfoikaa
/- The reference's entry. -/
namespace Go.Proofs.Ytjikbffnhfoikaa
open Go.RowKit Go.Sort Go.Maps
set_option maxRecDepth 100000 in
set_option maxHeartbeats 8000000 in
theorem rentry_k (r : Ru) (p q : Int) (a b c : Int) (w : World) (h : (r.k = 1 ∧ a = vI r.pm ∧ b = 0 ∧ c = 0) ∨ (r.k = 2 ∧ a = 0 ∧ b = vI r.pm ∧ c = 0) ∨ (r.k = 3 ∧ a = 0 ∧ b = 0 ∧ c = vI r.pm) ∨ (r.k ≠ 1 ∧ r.k ≠ 2 ∧ r.k ≠ 3 ∧ a = 0 ∧ b = 0 ∧ c = 0)) :
    Calls Try.prog 31 #[.agg #[.int .i64 r.k, .int .u64 r.src.a, .int .u64 r.src.b, .int .u64 r.src.c, .int .u64 r.src.d, .int .u64 r.tgt.a, .int .u64 r.tgt.b, .int .u64 r.tgt.c, .int .u64 r.tgt.d, .bool r.self, .int .i64 r.cl, .int .u32 (vI r.pm), .int .i64 r.cd], .agg #[.int .i64 p, .int .i64 q]] w fun e w' => e = .returned (.agg #[.int .i64 p, .int .i64 q, .int .i64 r.cl, .int .i64 r.cd, .int .u32 a, .int .u32 b, .int .u32 c]) ∧ Below w.heap.size w w' := by
  obtain ⟨K, hK⟩ : ∃ K, r.k = K := ⟨_, rfl⟩
  rw [hK] at h
  rw [hK]
  clear hK
  rcases h with ⟨rfl, rfl, rfl, rfl⟩ | ⟨rfl, rfl, rfl, rfl⟩ | ⟨rfl, rfl, rfl, rfl⟩ | ⟨h1, h2, h3, rfl, rfl, rfl⟩
  · skip
    go_enter Try.func31, Try.ntmps31
    go_wp2
    exact bodyPost_ret (by simp [results, Try.results31, go_sem]) rfl ⟨rfl, ((((Below.refl _ _).alloc (Nat.le_refl _) _).alloc (by simp) _).alloc (by simp; omega) _).alloc (by simp; omega) _⟩
  · skip
    go_enter Try.func31, Try.ntmps31
    go_wp2
    exact bodyPost_ret (by simp [results, Try.results31, go_sem]) rfl ⟨rfl, ((((Below.refl _ _).alloc (Nat.le_refl _) _).alloc (by simp) _).alloc (by simp; omega) _).alloc (by simp; omega) _⟩
  · skip
    go_enter Try.func31, Try.ntmps31
    go_wp2
    exact bodyPost_ret (by simp [results, Try.results31, go_sem]) rfl ⟨rfl, ((((Below.refl _ _).alloc (Nat.le_refl _) _).alloc (by simp) _).alloc (by simp; omega) _).alloc (by simp; omega) _⟩
  · have g1 : (K == 1) = false := by simpa using h1
    have g2 : (K == 2) = false := by simpa using h2
    have g3 : (K == 3) = false := by simpa using h3
    clear h1 h2 h3
    go_enter Try.func31, Try.ntmps31
    go_wp2
    exact bodyPost_ret (by simp [results, Try.results31, go_sem]) rfl ⟨rfl, ((((Below.refl _ _).alloc (Nat.le_refl _) _).alloc (by simp) _).alloc (by simp; omega) _).alloc (by simp; omega) _⟩
theorem rentry_c (r : Ru) (p : Int × Int) (h1 : W64 p.1) (h2 : W64 p.2) (w : World) : Calls Try.prog 31 #[.agg #[.int .i64 r.k, .int .u64 r.src.a, .int .u64 r.src.b, .int .u64 r.src.c, .int .u64 r.src.d, .int .u64 r.tgt.a, .int .u64 r.tgt.b, .int .u64 r.tgt.c, .int .u64 r.tgt.d, .bool r.self, .int .i64 r.cl, .int .u32 (vI r.pm), .int .i64 r.cd], .agg #[.int .i64 p.1, .int .i64 p.2]] w fun e w' => e = .returned (.agg #[.int .i64 (entR r p).s, .int .i64 (entR r p).t, .int .i64 (entR r p).c, .int .i64 (entR r p).d, .int .u32 (vI (entR r p).a), .int .u32 (vI (entR r p).b), .int .u32 (vI (entR r p).e)]) ∧ Below w.heap.size w w' := by
  obtain ⟨e1, e2, e3, e4, e5⟩ := mkE_eq h1 h2 r.wf.2.1 r.wf.2.2.1 (vR r)
  have e6 : (mkE p.1 p.2 r.cl r.cd (vR r)).a = (vR r).p := congrArg V.p e5
  have e7 : (mkE p.1 p.2 r.cl r.cd (vR r)).b = (vR r).q := congrArg V.q e5
  have e8 : (mkE p.1 p.2 r.cl r.cd (vR r)).e = (vR r).r := congrArg V.r e5
  have h := rentry_k r p.1 p.2 (vI (vR r).p) (vI (vR r).q) (vI (vR r).r) w (by
    unfold vR
    by_cases k1 : r.k = 1
    · rw [if_pos k1]; exact .inl ⟨k1, rfl, rfl, rfl⟩
    · rw [if_neg k1]
      by_cases k2 : r.k = 2
      · rw [if_pos k2]; exact .inr (.inl ⟨k2, rfl, rfl, rfl⟩)
      · rw [if_neg k2]
        by_cases k3 : r.k = 3
        · rw [if_pos k3]; exact .inr (.inr (.inl ⟨k3, rfl, rfl, rfl⟩))
        · rw [if_neg k3]; exact .inr (.inr (.inr ⟨k1, k2, k3, rfl, rfl, rfl⟩)))
  unfold entR
  rw [e1, e2, e3, e4, e6, e7, e8]
  exact h
end Go.Proofs.Ytjikbffnhfoikaa
/- The reference's vector. -/
namespace Go.Proofs.Ytjikbffnhfoikaa
open Go.RowKit Go.Sort Go.Maps
def vecK (x : E) (k : Int) : BitVec 32 := if k = 1 then x.a else if k = 2 then x.b else x.e
set_option maxRecDepth 100000 in
set_option maxHeartbeats 8000000 in
theorem rvector_c (x : E) (k : Int) (w : World) :
    Calls Try.prog 49 #[.agg #[.int .i64 x.s, .int .i64 x.t, .int .i64 x.c, .int .i64 x.d, .int .u32 (vI x.a), .int .u32 (vI x.b), .int .u32 (vI x.e)], .int .i64 k] w fun e w' => e = .returned (.int .u32 (vI (vecK x k))) ∧ Below w.heap.size w w' := by
  unfold vecK
  by_cases h1 : k = 1
  · rw [if_pos h1, h1]
    go_enter Try.func49, Try.ntmps49
    go_wp2
    go_ret
    exact ⟨rfl, (Below.refl _ _).alloc (Nat.le_refl _) _⟩
  · rw [if_neg h1]
    have g1 : (k == 1) = false := by simpa using h1
    by_cases h2 : k = 2
    · rw [if_pos h2]
      subst h2
      go_enter Try.func49, Try.ntmps49
      go_wp2
      go_ret
      exact ⟨rfl, (Below.refl _ _).alloc (Nat.le_refl _) _⟩
    · rw [if_neg h2]
      have g2 : (k == 2) = false := by simpa using h2
      go_enter Try.func49, Try.ntmps49
      go_wp2
      go_ret
      exact ⟨rfl, (Below.refl _ _).alloc (Nat.le_refl _) _⟩
end Go.Proofs.Ytjikbffnhfoikaa
/- The reference's comparison of rules. -/
namespace Go.Proofs.Ytjikbffnhfoikaa
open Go.RowKit Go.Sort Go.Maps
theorem rleastS_c (s : S4) (w : World) : Calls Try.prog 98 #[.agg #[.int .u64 s.a, .int .u64 s.b, .int .u64 s.c, .int .u64 s.d]] w fun e w' => e = .returned (.int .i64 (leastS s)) ∧ Below w.heap.size w w' :=
  (rleast_c s.a s.b s.c s.d w).mono fun _ _ ⟨_, h1, h2, h3⟩ => ⟨by rw [h2, h1.one (leastS_is s)], h3⟩
set_option maxRecDepth 100000 in
set_option maxHeartbeats 8000000 in
theorem less_c (x y : Ru) (w : World) : Calls Try.prog 74 #[.agg #[.int .i64 x.k, .int .u64 x.src.a, .int .u64 x.src.b, .int .u64 x.src.c, .int .u64 x.src.d, .int .u64 x.tgt.a, .int .u64 x.tgt.b, .int .u64 x.tgt.c, .int .u64 x.tgt.d, .bool x.self, .int .i64 x.cl, .int .u32 (vI x.pm), .int .i64 x.cd], .agg #[.int .i64 y.k, .int .u64 y.src.a, .int .u64 y.src.b, .int .u64 y.src.c, .int .u64 y.src.d, .int .u64 y.tgt.a, .int .u64 y.tgt.b, .int .u64 y.tgt.c, .int .u64 y.tgt.d, .bool y.self, .int .i64 y.cl, .int .u32 (vI y.pm), .int .i64 y.cd]] w fun e w' => e = .returned (.bool (decide (ltR x y))) ∧ Below w.heap.size w w' := by
  obtain ⟨R, hR⟩ : ∃ R, decide (ltR x y) = R := ⟨_, rfl⟩
  rw [hR]
  have HR := Lib.hid hR
  clear hR
  obtain ⟨w2, hw2⟩ : ∃ w2, (w.alloc (.cells #[.int .i64 x.k, .int .u64 x.src.a, .int .u64 x.src.b, .int .u64 x.src.c, .int .u64 x.src.d, .int .u64 x.tgt.a, .int .u64 x.tgt.b, .int .u64 x.tgt.c, .int .u64 x.tgt.d, .bool x.self, .int .i64 x.cl, .int .u32 (vI x.pm), .int .i64 x.cd] 27)).alloc (.cells #[.int .i64 y.k, .int .u64 y.src.a, .int .u64 y.src.b, .int .u64 y.src.c, .int .u64 y.src.d, .int .u64 y.tgt.a, .int .u64 y.tgt.b, .int .u64 y.tgt.c, .int .u64 y.tgt.d, .bool y.self, .int .i64 y.cl, .int .u32 (vI y.pm), .int .i64 y.cd] 27) = w2 := ⟨_, rfl⟩
  have B1 : BoxR w2 w.heap.size x := by rw [← hw2]; exact (Blk.new w _ _).alloc _
  have B2 : BoxR w2 (w.heap.size + 1) y := by
    have h := Blk.new (w.alloc (.cells #[.int .i64 x.k, .int .u64 x.src.a, .int .u64 x.src.b, .int .u64 x.src.c, .int .u64 x.src.d, .int .u64 x.tgt.a, .int .u64 x.tgt.b, .int .u64 x.tgt.c, .int .u64 x.tgt.d, .bool x.self, .int .i64 x.cl, .int .u32 (vI x.pm), .int .i64 x.cd] 27)) 27 #[.int .i64 y.k, .int .u64 y.src.a, .int .u64 y.src.b, .int .u64 y.src.c, .int .u64 y.src.d, .int .u64 y.tgt.a, .int .u64 y.tgt.b, .int .u64 y.tgt.c, .int .u64 y.tgt.d, .bool y.self, .int .i64 y.cl, .int .u32 (vI y.pm), .int .i64 y.cd]
    rw [World.size_alloc, hw2] at h; exact h
  have G2 : Below w.heap.size w w2 := by rw [← hw2]; exact ((Below.refl _ _).alloc (Nat.le_refl _) _).alloc (by simp) _
  obtain ⟨b0, b1, b2, b3, b4, b5, b6, b7, b8, b9, b10, b11, b12⟩ := B1.cells
  obtain ⟨d0, d1, d2, d3, d4, d5, d6, d7, d8, d9, d10, d11, d12⟩ := B2.cells
  clear b1 b2 b3 b4 b5 b6 b7 b8 b9 d1 d2 d3 d4 d5 d6 d7 d8 d9
  by_cases h0 : x.k = y.k
  · have g0 : (x.k != y.k) = false := by simpa using h0
    by_cases h1 : x.cl = y.cl
    · have g1 : (x.cl != y.cl) = false := by simpa using h1
      by_cases h2 : x.cd = y.cd
      · have g2 : (x.cd != y.cd) = false := by simpa using h2
        by_cases h3 : vI x.pm = vI y.pm
        · have g3 : (vI x.pm != vI y.pm) = false := by simpa using h3
          have HR0 : Hid (decide (leastS x.src < leastS y.src) = R) := Lib.hid (by rw [← HR.out]; apply decide_eq_decide.2; unfold ltR; omega)
          clear HR h0 h1 h2 h3
          go_enter Try.func74, Try.ntmps74
          go_wp2_with fail
          clear hw2
          refine wp_region_kt 7 (by kernel_rfl) (by kernel_rfl) ?_
          simp only [List.take_succ_cons, List.take_zero, List.drop_succ_cons, List.drop_zero]
          repeat (first
              | go_big_quiet_skip
              | (go_big_quiet_want
                 go_big_quiet_op
                 first
                   | go_big_quiet_on
                   | (apply Exists.intro
                      refine ⟨fun w1 hC => ?_, ?_⟩
                      · first
                          | (go_at_call 98; first | with_reducible exact hC.call (rleastS_c x.src _) | with_reducible exact hC.call (rleastS_c y.src _))
                          | (go_simp; exact ⟨rfl, rfl⟩)
                          | (obtain ⟨b0, b1, b2, b3, b4, b5, b6, b7, b8, b9, b10, b11, b12⟩ := BoxR.cells (hC.blk B1); clear b5 b6 b7 b8 b9 b0 b10 b11 b12; go_simp; exact rfl)
                          | (obtain ⟨d0, d1, d2, d3, d4, d5, d6, d7, d8, d9, d10, d11, d12⟩ := BoxR.cells (hC.blk B2); clear d5 d6 d7 d8 d9 d0 d10 d11 d12; go_simp; exact rfl)
                      go_big_quiet_on)))
          refine wpQuiet_nil ?_
          intro W3 hC
          have HBB := G2.trans (hC.mono G2.size)
          go_wp2_with fail
          go_ret
          exact ⟨by rw [← HR0.out]; rfl, HBB⟩
        · have g3 : (vI x.pm != vI y.pm) = true := by simpa using h3
          have HR0 : Hid (decide (vI x.pm < vI y.pm) = R) := Lib.hid (by rw [← HR.out]; apply decide_eq_decide.2; unfold ltR; omega)
          clear HR h0 h1 h2 h3
          go_enter Try.func74, Try.ntmps74
          go_wp2
          go_ret
          exact ⟨by rw [← HR0.out]; rfl, G2⟩
      · have g2 : (x.cd != y.cd) = true := by simpa using h2
        have HR0 : Hid (decide (x.cd < y.cd) = R) := Lib.hid (by rw [← HR.out]; apply decide_eq_decide.2; unfold ltR; omega)
        clear HR h0 h1 h2
        go_enter Try.func74, Try.ntmps74
        go_wp2
        go_ret
        exact ⟨by rw [← HR0.out]; rfl, G2⟩
    · have g1 : (x.cl != y.cl) = true := by simpa using h1
      have HR0 : Hid (decide (x.cl < y.cl) = R) := Lib.hid (by rw [← HR.out]; apply decide_eq_decide.2; unfold ltR; omega)
      clear HR h0 h1
      go_enter Try.func74, Try.ntmps74
      go_wp2
      go_ret
      exact ⟨by rw [← HR0.out]; rfl, G2⟩
  · have g0 : (x.k != y.k) = true := by simpa using h0
    have HR0 : Hid (decide (x.k < y.k) = R) := Lib.hid (by rw [← HR.out]; apply decide_eq_decide.2; unfold ltR; omega)
    clear HR h0
    go_enter Try.func74, Try.ntmps74
    go_wp2
    go_ret
    exact ⟨by rw [← HR0.out]; rfl, G2⟩
end Go.Proofs.Ytjikbffnhfoikaa
/- The reference's fits. -/
namespace Go.Proofs.Ytjikbffnhfoikaa
open Go.RowKit Go.Sort Go.Maps
/-- the entry is one for the rule, whatever its types are -/
def fitB (x : E) (r : Ru) : Bool := (x.c == r.cl) && (x.d == r.cd) && (vI (vecK x r.k) == vI r.pm)
set_option maxRecDepth 100000 in
set_option maxHeartbeats 8000000 in
theorem fits_c (x : E) (r : Ru) (w : World) : Calls Try.prog 51 #[.agg #[.int .i64 x.s, .int .i64 x.t, .int .i64 x.c, .int .i64 x.d, .int .u32 (vI x.a), .int .u32 (vI x.b), .int .u32 (vI x.e)], .agg #[.int .i64 r.k, .int .u64 r.src.a, .int .u64 r.src.b, .int .u64 r.src.c, .int .u64 r.src.d, .int .u64 r.tgt.a, .int .u64 r.tgt.b, .int .u64 r.tgt.c, .int .u64 r.tgt.d, .bool r.self, .int .i64 r.cl, .int .u32 (vI r.pm), .int .i64 r.cd]] w fun e w' => e = .returned (.bool (fitB x r)) ∧ Below w.heap.size w w' := by
  obtain ⟨w2, hw2⟩ : ∃ w2, (w.alloc (.cells #[.int .i64 x.s, .int .i64 x.t, .int .i64 x.c, .int .i64 x.d, .int .u32 (vI x.a), .int .u32 (vI x.b), .int .u32 (vI x.e)] 61)).alloc (.cells #[.int .i64 r.k, .int .u64 r.src.a, .int .u64 r.src.b, .int .u64 r.src.c, .int .u64 r.src.d, .int .u64 r.tgt.a, .int .u64 r.tgt.b, .int .u64 r.tgt.c, .int .u64 r.tgt.d, .bool r.self, .int .i64 r.cl, .int .u32 (vI r.pm), .int .i64 r.cd] 27) = w2 := ⟨_, rfl⟩
  have B1 : Box w2 w.heap.size x := by rw [← hw2]; exact (Blk.new w _ _).alloc _
  have B2 : BoxR w2 (w.heap.size + 1) r := by
    have h := Blk.new (w.alloc (.cells #[.int .i64 x.s, .int .i64 x.t, .int .i64 x.c, .int .i64 x.d, .int .u32 (vI x.a), .int .u32 (vI x.b), .int .u32 (vI x.e)] 61)) 27 #[.int .i64 r.k, .int .u64 r.src.a, .int .u64 r.src.b, .int .u64 r.src.c, .int .u64 r.src.d, .int .u64 r.tgt.a, .int .u64 r.tgt.b, .int .u64 r.tgt.c, .int .u64 r.tgt.d, .bool r.self, .int .i64 r.cl, .int .u32 (vI r.pm), .int .i64 r.cd]
    rw [World.size_alloc, hw2] at h; exact h
  have G2 : Below w.heap.size w w2 := by rw [← hw2]; exact ((Below.refl _ _).alloc (Nat.le_refl _) _).alloc (by simp) _
  unfold fitB
  cases h1 : (x.c == r.cl)
  · rw [Bool.false_and, Bool.false_and]
    go_enter Try.func51, Try.ntmps51
    go_wp2_with fail
    clear hw2
    refine wp_region_kt 21 (by kernel_rfl) (by kernel_rfl) ?_
    simp only [List.take_succ_cons, List.take_zero, List.drop_succ_cons, List.drop_zero]
    repeat (first
        | go_big_quiet_skip
        | (go_big_quiet_want
           go_big_quiet_op
           first
             | go_big_quiet_on
             | (apply Exists.intro
                refine ⟨fun w1 hC => ?_, ?_⟩
                · first
                    | (go_at_call 49; with_reducible exact hC.call (rvector_c x r.k _))
                    | (go_simp; exact ⟨rfl, rfl⟩)
                    | (obtain ⟨b0, b1, b2, b3, b4, b5, b6⟩ := Box.cells (hC.blk B1); go_simp; exact rfl)
                    | (obtain ⟨d0, d1, d2, d3, d4, d5, d6, d7, d8, d9, d10, d11, d12⟩ := BoxR.cells (hC.blk B2); clear d1 d2 d3 d4 d5 d6 d7 d8 d9; go_simp; exact rfl)
                go_big_quiet_on)))
    refine wpQuiet_nil ?_
    intro W3 hC
    have HBB := G2.trans (hC.mono G2.size)
    go_wp2_with fail
    go_ret
    exact ⟨rfl, HBB⟩
  · cases h2 : (x.d == r.cd)
    · rw [Bool.and_false, Bool.false_and]
      go_enter Try.func51, Try.ntmps51
      go_wp2_with fail
      clear hw2
      refine wp_region_kt 21 (by kernel_rfl) (by kernel_rfl) ?_
      simp only [List.take_succ_cons, List.take_zero, List.drop_succ_cons, List.drop_zero]
      repeat (first
          | go_big_quiet_skip
          | (go_big_quiet_want
             go_big_quiet_op
             first
               | go_big_quiet_on
               | (apply Exists.intro
                  refine ⟨fun w1 hC => ?_, ?_⟩
                  · first
                      | (go_at_call 49; with_reducible exact hC.call (rvector_c x r.k _))
                      | (go_simp; exact ⟨rfl, rfl⟩)
                      | (obtain ⟨b0, b1, b2, b3, b4, b5, b6⟩ := Box.cells (hC.blk B1); go_simp; exact rfl)
                      | (obtain ⟨d0, d1, d2, d3, d4, d5, d6, d7, d8, d9, d10, d11, d12⟩ := BoxR.cells (hC.blk B2); clear d1 d2 d3 d4 d5 d6 d7 d8 d9; go_simp; exact rfl)
                  go_big_quiet_on)))
      refine wpQuiet_nil ?_
      intro W3 hC
      have HBB := G2.trans (hC.mono G2.size)
      go_wp2_with fail
      go_ret
      exact ⟨rfl, HBB⟩
    · rw [Bool.true_and, Bool.true_and]
      cases h3 : (vI (vecK x r.k) == vI r.pm)
      · skip
        go_enter Try.func51, Try.ntmps51
        go_wp2_with fail
        clear hw2
        refine wp_region_kt 21 (by kernel_rfl) (by kernel_rfl) ?_
        simp only [List.take_succ_cons, List.take_zero, List.drop_succ_cons, List.drop_zero]
        repeat (first
            | go_big_quiet_skip
            | (go_big_quiet_want
               go_big_quiet_op
               first
                 | go_big_quiet_on
                 | (apply Exists.intro
                    refine ⟨fun w1 hC => ?_, ?_⟩
                    · first
                        | (go_at_call 49; with_reducible exact hC.call (rvector_c x r.k _))
                        | (go_simp; exact ⟨rfl, rfl⟩)
                        | (obtain ⟨b0, b1, b2, b3, b4, b5, b6⟩ := Box.cells (hC.blk B1); go_simp; exact rfl)
                        | (obtain ⟨d0, d1, d2, d3, d4, d5, d6, d7, d8, d9, d10, d11, d12⟩ := BoxR.cells (hC.blk B2); clear d1 d2 d3 d4 d5 d6 d7 d8 d9; go_simp; exact rfl)
                    go_big_quiet_on)))
        refine wpQuiet_nil ?_
        intro W3 hC
        have HBB := G2.trans (hC.mono G2.size)
        go_wp2_with fail
        go_ret
        exact ⟨rfl, HBB⟩
      · skip
        go_enter Try.func51, Try.ntmps51
        go_wp2_with fail
        clear hw2
        refine wp_region_kt 21 (by kernel_rfl) (by kernel_rfl) ?_
        simp only [List.take_succ_cons, List.take_zero, List.drop_succ_cons, List.drop_zero]
        repeat (first
            | go_big_quiet_skip
            | (go_big_quiet_want
               go_big_quiet_op
               first
                 | go_big_quiet_on
                 | (apply Exists.intro
                    refine ⟨fun w1 hC => ?_, ?_⟩
                    · first
                        | (go_at_call 49; with_reducible exact hC.call (rvector_c x r.k _))
                        | (go_simp; exact ⟨rfl, rfl⟩)
                        | (obtain ⟨b0, b1, b2, b3, b4, b5, b6⟩ := Box.cells (hC.blk B1); go_simp; exact rfl)
                        | (obtain ⟨d0, d1, d2, d3, d4, d5, d6, d7, d8, d9, d10, d11, d12⟩ := BoxR.cells (hC.blk B2); clear d1 d2 d3 d4 d5 d6 d7 d8 d9; go_simp; exact rfl)
                    go_big_quiet_on)))
        refine wpQuiet_nil ?_
        intro W3 hC
        have HBB := G2.trans (hC.mono G2.size)
        go_wp2_with fail
        go_ret
        exact ⟨rfl, HBB⟩
end Go.Proofs.Ytjikbffnhfoikaa
/- What the reference's Compress collects (plain). -/
namespace Go.Proofs.Ytjikbffnhfoikaa
open Go.RowKit Go.Sort Go.Maps
deriving instance DecidableEq for Ru
instance (x y : Ru) : Decidable (ltR x y) := by unfold ltR; infer_instance
theorem ltR_irr (x : Ru) : ¬ ltR x x := by unfold ltR; omega
/-- a rule at its place, behind all that it is not less than -/
def putR : List Ru → Ru → List Ru
  | [], r => [r]
  | y :: t, r => if ltR r y then r :: y :: t else y :: putR t r
def anyR (l : List Ru) (r : Ru) : Bool := l.any fun y => decide (ltR r y)
def putI (l : List Ru) (r : Ru) : List Ru := if anyR l r = true then putR l r else l
theorem putR_no : ∀ {l : List Ru} {r : Ru}, anyR l r = false → putR l r = l ++ [r]
  | [], r, _ => rfl
  | y :: t, r, h => by
    unfold anyR at h
    rw [List.any_cons, Bool.or_eq_false_iff] at h
    unfold putR
    rw [if_neg (by simpa using h.1), putR_no h.2]
    rfl
theorem putR_yes : ∀ {l : List Ru} {r : Ru} (m : List Ru), anyR l r = true → putR (l ++ m) r = putR l r ++ m
  | [], r, _, h => by simp [anyR] at h
  | y :: t, r, m, h => by
    rw [List.cons_append]
    unfold putR
    by_cases e : ltR r y
    · rw [if_pos e, if_pos e]; rfl
    · rw [if_neg e, if_neg e, putR_yes m (by unfold anyR at h ⊢; rw [List.any_cons] at h; simpa [e] using h)]
      rfl
theorem anyR_snoc (l : List Ru) (y r : Ru) : anyR (l ++ [y]) r = (anyR l r || decide (ltR r y)) := by
  unfold anyR
  rw [List.any_append]
  simp
theorem putI_nil (r : Ru) : putI [] r = [] := rfl
theorem putI_more {l : List Ru} {r y : Ru} (h : anyR l r = true) : putI (l ++ [y]) r = putI l r ++ [y] := by
  unfold putI
  rw [if_pos (by rw [anyR_snoc, h]; rfl), if_pos h, putR_yes _ h]
theorem putI_here {l : List Ru} {r y : Ru} (h : anyR l r = false) (e : ltR r y) : putI (l ++ [y]) r = putI l r ++ [r] ++ [y] := by
  unfold putI
  rw [if_pos (by rw [anyR_snoc, decide_eq_true e, Bool.or_true]), if_neg (by rw [h]; simp)]
  have : ∀ l : List Ru, anyR l r = false → putR (l ++ [y]) r = l ++ [r] ++ [y] := by
    intro l
    induction l with
    | nil => intro _; show (if ltR r y then [r, y] else [y, r]) = _; rw [if_pos e]; rfl
    | cons z t ih =>
      intro h
      unfold anyR at h
      rw [List.any_cons, Bool.or_eq_false_iff] at h
      rw [List.cons_append]
      unfold putR
      rw [if_neg (by simpa using h.1), ih h.2]
      rfl
  exact this l h
theorem putI_not {l : List Ru} {r y : Ru} (h : anyR l r = false) (e : ¬ ltR r y) : putI (l ++ [y]) r = putI l r ++ [y] := by
  unfold putI
  rw [if_neg (by rw [anyR_snoc, h, decide_eq_false e]; simp), if_neg (by rw [h]; simp)]
theorem putI_end (l : List Ru) (r : Ru) : (if anyR l r = true then putI l r else putI l r ++ [r]) = putR l r := by
  unfold putI
  by_cases h : anyR l r = true
  · rw [if_pos h, if_pos h]
  · rw [if_neg h, if_neg h, putR_no (by simpa using h)]
theorem putR_len (l : List Ru) (r : Ru) : (putR l r).length = l.length + 1 := by
  induction l with
  | nil => rfl
  | cons y t ih =>
    unfold putR
    split
    · rfl
    · rw [List.length_cons, ih, List.length_cons]
theorem putI_len (l : List Ru) (r : Ru) : (putI l r).length ≤ l.length + 1 := by
  unfold putI
  split
  · rw [putR_len]; exact Nat.le_refl _
  · exact Nat.le_succ _
theorem mem_putR {l : List Ru} {r y : Ru} : y ∈ putR l r ↔ y = r ∨ y ∈ l := by
  induction l with
  | nil => simp [putR]
  | cons z t ih =>
    unfold putR
    split
    · simp
    · rw [List.mem_cons, ih, List.mem_cons]
      constructor
      · rintro (h | h | h)
        · exact .inr (.inl h)
        · exact .inl h
        · exact .inr (.inr h)
      · rintro (h | h | h)
        · exact .inr (.inl h)
        · exact .inl h
        · exact .inr (.inr h)
theorem putR_strict : ∀ {l : List Ru} {r : Ru}, l.Pairwise ltR → (∀ y ∈ l, ltR r y ∨ ltR y r) → (putR l r).Pairwise ltR
  | [], r, _, _ => List.pairwise_singleton _ _
  | y :: t, r, h, ht => by
    obtain ⟨h1, h2⟩ := List.pairwise_cons.1 h
    unfold putR
    split
    · rename_i e
      refine List.pairwise_cons.2 ⟨fun z hz => ?_, h⟩
      rcases List.mem_cons.1 hz with rfl | hz
      · exact e
      · exact ltR_trans e (h1 z hz)
    · rename_i e
      refine List.pairwise_cons.2 ⟨fun z hz => ?_, putR_strict h2 fun u hu => ht u (by simp [hu])⟩
      rcases mem_putR.1 hz with rfl | hz
      · exact (ht y (by simp)).resolve_left e
      · exact h1 z hz
/-- the reference's insert -/
def insR (l : List Ru) (r : Ru) : List Ru := if r ∈ l then l else putR l r
theorem mem_insR {l : List Ru} {r y : Ru} : y ∈ insR l r ↔ y = r ∨ y ∈ l := by
  unfold insR
  split
  · rename_i h
    constructor
    · exact .inr
    · rintro (rfl | h2)
      · exact h
      · exact h2
  · exact mem_putR
theorem insR_strict {l : List Ru} {r : Ru} (h : l.Pairwise ltR) (ht : ∀ y ∈ l, y ≠ r → ltR r y ∨ ltR y r) : (insR l r).Pairwise ltR := by
  unfold insR
  split
  · exact h
  · rename_i hn
    exact putR_strict h fun y hy => ht y hy fun e => hn (e ▸ hy)
theorem insR_len (l : List Ru) (r : Ru) : (insR l r).length ≤ l.length + 1 := by
  unfold insR
  split
  · exact Nat.le_succ _
  · exact Nat.le_of_eq (putR_len l r)
theorem strictR_eq : ∀ {l m : List Ru}, l.Pairwise ltR → m.Pairwise ltR → (∀ r, r ∈ l ↔ r ∈ m) → l = m
  | [], [], _, _, _ => rfl
  | [], y :: t, _, _, h => by have := (h y).2 (by simp); simp at this
  | x :: s, [], _, _, h => by have := (h x).1 (by simp); simp at this
  | x :: s, y :: t, hl, hm, h => by
    obtain ⟨l1, l2⟩ := List.pairwise_cons.1 hl
    obtain ⟨m1, m2⟩ := List.pairwise_cons.1 hm
    have e : x = y := by
      rcases List.mem_cons.1 ((h x).1 (by simp)) with e | e
      · exact e
      · rcases List.mem_cons.1 ((h y).2 (by simp)) with k | k
        · exact k.symm
        · exact absurd (ltR_trans (m1 x e) (l1 y k)) (ltR_irr y)
    subst e
    rw [strictR_eq l2 m2 fun r => ⟨fun hr => ?_, fun hr => ?_⟩]
    · rcases List.mem_cons.1 ((h r).1 (by simp [hr])) with k | k
      · subst k; exact absurd (l1 _ hr) (ltR_irr _)
      · exact k
    · rcases List.mem_cons.1 ((h r).2 (by simp [hr])) with k | k
      · subst k; exact absurd (m1 _ hr) (ltR_irr _)
      · exact k
theorem CompOf.eq {P : List Tr} {S S' : List Ru} (h : CompOf P S) (k : CompOf P S') : S = S' := strictR_eq h.1 k.1 fun r => (h.2 r).trans (k.2 r).symm
end Go.Proofs.Ytjikbffnhfoikaa
/- The plain values of the examples. -/
namespace Go.Proofs.Ytjikbffnhfoikaa
open Go.RowKit Go.Sort Go.Maps
def e1 : E := ⟨0, 1, 0, 0, 1#32, 0#32, 0#32, by decide⟩
def e2 : E := ⟨0, 2, 0, 0, 1#32, 0#32, 0#32, by decide⟩
def e3 : E := ⟨1, 1, 0, 0, 1#32, 0#32, 0#32, by decide⟩
def e4 : E := ⟨1, 2, 0, 0, 1#32, 0#32, 0#32, by decide⟩
def e5 : E := ⟨0, 1, 0, 0, 3#32, 0#32, 0#32, by decide⟩
def e6 : E := ⟨0, 1, 0, 0, 2#32, 0#32, 0#32, by decide⟩
def e7 : E := ⟨0, 1, 0, 0, 0#32, 0#32, 4#32, by decide⟩
def e8 : E := ⟨0, 7, 0, 0, 0#32, 0#32, 0#32, by decide⟩
def e9 : E := ⟨0, 1, 0, 0, 1#32, 0#32, 4#32, by decide⟩
theorem ofS_U0 : (ofS [0]).U := by constructor <;> unfold U64 <;> decide +kernel
theorem ofS_U1 : (ofS [1]).U := by constructor <;> unfold U64 <;> decide +kernel
theorem ofS_U01 : (ofS [0, 1]).U := by constructor <;> unfold U64 <;> decide +kernel
theorem ofS_U12 : (ofS [1, 2]).U := by constructor <;> unfold U64 <;> decide +kernel
def r0 : Ru := ⟨0, ofS [0, 1], ofS [1], true, 0, 0#32, 0, ⟨by decide, by decide, by decide, ofS_U01, ofS_U1⟩⟩
def ra : Ru := ⟨1, ofS [0], ofS [1], false, 0, 1#32, 0, ⟨by decide, by decide, by decide, ofS_U0, ofS_U1⟩⟩
def rb : Ru := ⟨1, ofS [0], ofS [1], false, 0, 2#32, 0, ⟨by decide, by decide, by decide, ofS_U0, ofS_U1⟩⟩
def rc : Ru := ⟨4, ofS [0], ofS [1], false, 0, 2#32, 0, ⟨by decide, by decide, by decide, ofS_U0, ofS_U1⟩⟩
def rd : Ru := ⟨1, ofS [0, 1], ofS [1, 2], false, 0, 1#32, 0, ⟨by decide, by decide, by decide, ofS_U01, ofS_U12⟩⟩
theorem ex_prs : prs r0 = [(0, 0), (0, 1), (1, 1)] := by decide +kernel
theorem ex_M : M (allE [ra, rb, rc]) = [e5] := by decide +kernel
theorem ex_never : nevE (M (allE (nevR [ra, rb, rc]))) (M (allE [ra, rb, rc])) = [e6] := by decide +kernel
theorem ex_Mn : (M (allE (nevR [ra, rb, rc]))).length = 1 := by decide +kernel
theorem ex_merge : M [e4, e1, e7, e8] = [e9, e4] := by decide +kernel
theorem ex_M4 : M [e1, e2, e3, e4] = [e1, e2, e3, e4] := by decide +kernel
def P4 : List Tr := trL [e1, e2, e3, e4]
theorem P4_all : ∀ z ∈ P4, z.m = ⟨1, 0, 0, 1#32⟩ ∧ (z.s = 0 ∨ z.s = 1) ∧ tgS P4 z = ofS [1, 2] := by decide +kernel
theorem P4_0 : ∃ z ∈ P4, z.s = 0 := by decide +kernel
theorem P4_1 : ∃ z ∈ P4, z.s = 1 := by decide +kernel
theorem rd_src : ∀ n, hasS rd.src n = true ↔ n = 0 ∨ n = 1 := by
  intro n
  constructor
  · intro h
    obtain ⟨h1, h2⟩ := hasS_in h
    have : ∀ k ∈ below 256, hasS rd.src k = true → k = 0 ∨ k = 1 := by decide +kernel
    exact this n (mem_below.2 ⟨h1, by simpa using h2⟩) h
  · rintro (rfl | rfl)
    · decide +kernel
    · decide +kernel
theorem ex_hits {b : Bk} {n : Int} (h : hits P4 (fun _ => true) b n) : b.m = ⟨1, 0, 0, 1#32⟩ ∧ b.S = ofS [1, 2] := by
  obtain ⟨z, hz, _, h1, h2, _⟩ := h
  obtain ⟨a1, _, a3⟩ := P4_all z hz
  exact ⟨by rw [← h1, a1], by rw [← h2, a3]⟩
theorem ex_rule {b : Bk} (hm : b.m = ⟨1, 0, 0, 1#32⟩) (hS : b.S = ofS [1, 2]) : ruleFor P4 b rd := by
  refine ⟨rfl, by rw [hm]; rfl, by rw [hm]; rfl, by rw [hm]; rfl, by rw [hm]; rfl, by rw [hS]; rfl, fun n => ?_⟩
  rw [rd_src]
  constructor
  · rintro (rfl | rfl)
    · obtain ⟨z, hz, e⟩ := P4_0
      obtain ⟨a1, _, a3⟩ := P4_all z hz
      exact ⟨z, hz, rfl, by rw [a1, hm], by rw [a3, hS], e⟩
    · obtain ⟨z, hz, e⟩ := P4_1
      obtain ⟨a1, _, a3⟩ := P4_all z hz
      exact ⟨z, hz, rfl, by rw [a1, hm], by rw [a3, hS], e⟩
  · rintro ⟨z, hz, _, _, _, h3⟩
    obtain ⟨_, a2, _⟩ := P4_all z hz
    rw [← h3]; exact a2
theorem ex_comp : CompOf (trL (M [e1, e2, e3, e4])) [rd] := by
  rw [ex_M4]
  refine ⟨List.pairwise_singleton _ _, fun r => ⟨fun hr => ?_, ?_⟩⟩
  · simp at hr; subst hr
    obtain ⟨z, hz, e⟩ := P4_0
    obtain ⟨a1, _, a3⟩ := P4_all z hz
    have hb : ruleFor P4 (bkOf P4 z) rd := ex_rule a1 a3
    exact ⟨hb.1, bkOf P4 z, ⟨0, z, hz, rfl, rfl, rfl, e⟩, hb.2⟩
  · rintro ⟨hs, b, ⟨n, hn⟩, hr⟩
    obtain ⟨h1, h2⟩ := ex_hits hn
    have := Ru.same (P := P4) (b := b) (x := r) (y := rd) ⟨hs, hr⟩ (ex_rule h1 h2)
    simp [this]
end Go.Proofs.Ytjikbffnhfoikaa
