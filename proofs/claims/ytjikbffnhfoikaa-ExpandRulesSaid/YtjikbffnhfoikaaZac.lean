/- Exl Ezg Avs Exn Exm Exo Exp Exq Exr Pht Exu Exv -/
import Derived.Test.YtjikbffnhfoikaaZab
import Derived.Laws.StructEq
import Derived.Shelf.SlSortCmp.NoneTotal
import Derived.Test.YtjikbffnhfoikaaRows
import Derived.Deep.DeepCutAuto
/- The map of merged entries; comparison of vectors. -/
namespace Go.Proofs.Ytjikbffnhfoikaa
open Go.RowKit Go.Sort Go.Maps
theorem law_key : WideMaps.KeyLaw Try.prog 79 := deep_law_gate Try.laidOut (of_decide_eq_true (by kernel_rfl)) (of_decide_eq_true (by kernel_rfl)) (by kernel_rfl) (by rw [Try.underlying79])
def keyV (x : E) : Value := .agg #[.int .i64 x.s, .int .i64 x.t, .int .i64 x.c, .int .i64 x.d]
def klE (x : E) : Lit := .string (keyBytes [.int .i64 x.s, .int .i64 x.t, .int .i64 x.c, .int .i64 x.d])
theorem keyOf_E (x : E) : keyOf Try.prog 79 (keyV x) = some (klE x) := keyOf_key x.wf.1 x.wf.2.1 x.wf.2.2.1 x.wf.2.2.2
theorem klE_iff {x z : E} : klE x = klE z ↔ eqP x z := by
  constructor
  · intro h
    have := keyed_key.inj (keyOf_E x) (h ▸ keyOf_E z)
    simp only [keyV, Value.agg.injEq, Array.mk.injEq, List.cons.injEq, Value.int.injEq, true_and, and_true] at this
    exact this
  · rintro ⟨h1, h2, h3, h4⟩
    unfold klE
    rw [h1, h2, h3, h4]
theorem klE_same {x z : E} : (klE z).sameKey (klE x) = decide (eqP x z) := by
  by_cases h : eqP x z
  · rw [klE_iff.2 h, WideAt.sameKey_self (keyed_key.key (keyOf_E z)), decide_eq_true h]
  · rw [sameKey_ne (fun e => h (klE_iff.1 e.symm)), decide_eq_false h]
def vAgg (v : V) : Value := .agg #[.int .u32 (vI v.p), .int .u32 (vI v.q), .int .u32 (vI v.r)]
theorem vAgg_inj {u v : V} (h : vAgg u = vAgg v) : u = v := by
  unfold vAgg at h
  simp only [Value.agg.injEq, Array.mk.injEq, List.cons.injEq, Value.int.injEq, true_and, and_true] at h
  obtain ⟨a, b, c⟩ := u
  obtain ⟨a', b', c'⟩ := v
  rw [show a = a' from vI_inj h.1, show b = b' from vI_inj h.2.1, show c = c' from vI_inj h.2.2]
def hasE (P : List E) (z : E) : Bool := P.any fun x => decide (eqP x z)
theorem hasE_iff {P : List E} {z : E} : hasE P z = true ↔ ∃ x ∈ P, eqP x z := by
  unfold hasE
  rw [List.any_eq_true]
  constructor
  · rintro ⟨x, hx, h⟩; exact ⟨x, hx, of_decide_eq_true h⟩
  · rintro ⟨x, hx, h⟩; exact ⟨x, hx, decide_eq_true h⟩
theorem hasE_key {P : List E} {x z : E} (h : eqP x z) : hasE P x = hasE P z := by
  rw [Bool.eq_iff_iff, hasE_iff, hasE_iff]
  constructor
  · rintro ⟨y, hy, e⟩; exact ⟨y, hy, eqP_trans e h⟩
  · rintro ⟨y, hy, e⟩; exact ⟨y, hy, eqP_trans e (eqP_symm h)⟩
theorem con_hasnt {P : List E} {z : E} (h : hasE P z = false) : con z P = zV := con_none z fun x hx e => by
  have := hasE_iff.2 ⟨x, hx, e⟩
  rw [h] at this; cases this
/-- the map of what entries say -/
structure FM (P : List E) (f : Lit → Option Value) : Prop where
  a : ∀ z, f (klE z) = if hasE P z = true then some (vAgg (con z P)) else none
  b : ∀ kl v, f kl = some v → ∃ x ∈ P, kl = klE x
theorem FM.nil : FM [] fun _ => none := ⟨fun _ => rfl, fun kl v h => by cases h⟩
theorem FM.at {P : List E} {f : Lit → Option Value} (h : FM P f) (z : E) : (f (klE z)).getD (vAgg zV) = vAgg (con z P) := by
  rw [h.a]
  by_cases e : hasE P z = true
  · rw [if_pos e]; rfl
  · rw [if_neg e, con_hasnt (by simpa using e)]; rfl
theorem FM.step {P : List E} {f : Lit → Option Value} (h : FM P f) (x : E) : FM (P ++ [x]) (upd f (klE x) (vAgg (orV (con x P) (vec x)))) := by
  refine ⟨fun z => ?_, fun kl v hv => ?_⟩
  · unfold upd
    rw [klE_same]
    by_cases e : eqP x z
    · rw [if_pos (decide_eq_true e), if_pos (hasE_iff.2 ⟨x, by simp, e⟩), con_append, con_key e P]
      congr 3
      simp only [con, if_pos e, orV_z]
    · rw [if_neg (by simpa using e), h.a, con_append]
      have e2 : con z [x] = zV := by simp only [con, if_neg e]
      rw [e2, orV_z]
      congr 1
      simp only [hasE, List.any_append, List.any_cons, List.any_nil, e, decide_false, Bool.or_false]
  · unfold upd at hv
    by_cases e : kl.sameKey (klE x) = true
    · exact ⟨x, by simp, (WideAt.sameKey_iff (keyed_key.key (keyOf_E x))).1 e⟩
    · rw [if_neg e] at hv
      obtain ⟨y, hy, e⟩ := h.b kl v hv
      exact ⟨y, by simp [hy], e⟩
/-- the entry with this key and these vectors -/
def reE (x : E) (v : V) : E := { x with a := v.p, b := v.q, e := v.r }
theorem reE_vec (x : E) (v : V) : vec (reE x v) = v := rfl
theorem reE_key (x : E) (v : V) : eqP x (reE x v) := ⟨rfl, rfl, rfl, rfl⟩
/-! comparison of vectors -/
set_option maxRecDepth 100000 in
theorem neqV_z (w : World) : (binOp .neq 76 (.agg #[.int .u32 (vI zV.p), .int .u32 (vI zV.q), .int .u32 (vI zV.r)]) (.agg #[.int .u32 0, .int .u32 0, .int .u32 0])).run Try.prog w = .ok (.bool false) w := by
  unfold zV
  simp only [vI_zero]
  go_simp
set_option maxRecDepth 100000 in
theorem neqV_n (u : V) (h : u ≠ zV) (w : World) : (binOp .neq 76 (.agg #[.int .u32 (vI u.p), .int .u32 (vI u.q), .int .u32 (vI u.r)]) (.agg #[.int .u32 0, .int .u32 0, .int .u32 0])).run Try.prog w = .ok (.bool true) w := by
  obtain ⟨a, b, c⟩ := u
  have hz : ∀ x : BitVec 32, (vI x == 0) = true → x = 0#32 := fun x h => vI_inj (by rw [vI_zero]; simpa using h)
  by_cases h1 : (vI a == 0) = true
  · by_cases h2 : (vI b == 0) = true
    · have h3 : (vI c == 0) = false := by
        rw [Bool.eq_false_iff]
        intro h3
        exact h (by rw [hz _ h1, hz _ h2, hz _ h3]; rfl)
      go_simp
    · have h2 : (vI b == 0) = false := by simpa using h2
      go_simp
  · have h1 : (vI a == 0) = false := by simpa using h1
    go_simp
end Go.Proofs.Ytjikbffnhfoikaa
/- Merging two ordered lists (plain); what an ordered list is. -/
namespace Go.Proofs.Ytjikbffnhfoikaa
open Go.RowKit Go.Sort Go.Maps
/-- no two entries have the same key -/
def App (L : List E) : Prop := L.Pairwise fun x y => ¬ eqP x y
def ltB (x y : E) : Bool := decide (ltP x y)
def mrg (a b : List E) : List E := List.merge a b ltB
theorem mrg_nil_l (b : List E) : mrg [] b = b := by unfold mrg; exact List.nil_merge b
theorem mrg_nil_r (a : List E) : mrg a [] = a := by unfold mrg; exact List.merge_right a
theorem mrg_a {x y : E} {a b : List E} (h : ltP x y) : mrg (x :: a) (y :: b) = x :: mrg a (y :: b) := by
  unfold mrg
  rw [List.cons_merge_cons, if_pos (by unfold ltB; exact decide_eq_true h)]
theorem mrg_b {x y : E} {a b : List E} (h : ¬ ltP x y) : mrg (x :: a) (y :: b) = y :: mrg (x :: a) b := by
  unfold mrg
  rw [List.cons_merge_cons, if_neg (by unfold ltB; simpa using h)]
theorem mrg_perm (a b : List E) : (mrg a b).Perm (a ++ b) := List.merge_perm_append _
theorem mrg_strict : ∀ {a b : List E}, Strict a → Strict b → (∀ x ∈ a, ∀ y ∈ b, ¬ eqP x y) → Strict (mrg a b)
  | [], b, _, hb, _ => by rw [mrg_nil_l]; exact hb
  | x :: a, [], ha, _, _ => by rw [mrg_nil_r]; exact ha
  | x :: a, y :: b, ha, hb, h => by
    obtain ⟨a1, a2⟩ := List.pairwise_cons.1 ha
    obtain ⟨b1, b2⟩ := List.pairwise_cons.1 hb
    by_cases e : ltP x y
    · rw [mrg_a e]
      refine List.pairwise_cons.2 ⟨fun z hz => ?_, mrg_strict a2 hb fun u hu v hv => h u (by simp [hu]) v hv⟩
      rcases List.mem_append.1 ((mrg_perm _ _).mem_iff.1 hz) with hz | hz
      · exact a1 z hz
      · rcases List.mem_cons.1 hz with rfl | hz
        · exact e
        · exact ltP_trans e (b1 z hz)
    · rw [mrg_b e]
      have e2 : ltP y x := by
        rcases tri x y with k | k | k
        · exact absurd k e
        · exact absurd k (h x (by simp) y (by simp))
        · exact k
      refine List.pairwise_cons.2 ⟨fun z hz => ?_, mrg_strict ha b2 fun u hu v hv => h u hu v (by simp [hv])⟩
      rcases List.mem_append.1 ((mrg_perm _ _).mem_iff.1 hz) with hz | hz
      · rcases List.mem_cons.1 hz with rfl | hz
        · exact e2
        · exact ltP_trans e2 (a1 z hz)
      · exact b1 z hz
theorem Strict.asc {L : List E} (h : Strict L) : Asc L := h.imp fun k => ltP_asymm k
/-- what the reference's ordered returns -/
def OrdOf (L S : List E) : Prop := S.Perm L ∧ Strict S
theorem OrdOf.small {L : List E} (h : L.length < 2) : OrdOf L L := by
  refine ⟨List.Perm.refl _, ?_⟩
  cases L with
  | nil => exact List.Pairwise.nil
  | cons x r =>
    cases r with
    | nil => exact List.pairwise_singleton _ _
    | cons y t => simp only [List.length_cons] at h; omega
theorem OrdOf.join {L A B : List E} {n : Nat} (hL : App L) (ha : OrdOf (L.take n) A) (hb : OrdOf (L.drop n) B) : OrdOf L (mrg A B) := by
  refine ⟨(mrg_perm A B).trans ((ha.1.append hb.1).trans (by rw [List.take_append_drop])), mrg_strict ha.2 hb.2 fun x hx y hy => ?_⟩
  have h := hL
  unfold App at h
  rw [← List.take_append_drop n L, List.pairwise_append] at h
  exact h.2.2 x (ha.1.mem_iff.1 hx) y (hb.1.mem_iff.1 hy)
theorem App.take {L : List E} (h : App L) (n : Nat) : App (L.take n) := List.Pairwise.sublist (List.take_sublist n L) h
theorem App.drop {L : List E} (h : App L) (n : Nat) : App (L.drop n) := List.Pairwise.sublist (List.drop_sublist n L) h
end Go.Proofs.Ytjikbffnhfoikaa
/- slices.SortFunc of entries: the library's contract, laid at this program. -/
namespace Go.Proofs.Ytjikbffnhfoikaa
open Go.RowKit Go.Shelf Go.Lib Go.Sort
def sortE_ren : Go.Shelf.Ren := ⟨fun | 6 => 36 | 15 => 63 | 14 => 62 | 28 => 86 | 29 => 87 | 20 => 78 | 21 => 79 | 22 => 80 | 23 => 81 | 24 => 82 | 25 => 83 | 26 => 84 | 27 => 85 | 46 => 99 | 47 => 100 | 48 => 101 | 49 => 102 | 50 => 103 | 57 => 107 | n => n, fun | 22 => 52 | 24 => 61 | 25 => 82 | 3 => 3 | 39 => 117 | 0 => 0 | 53 => 25 | 55 => 22 | 4 => 4 | 46 => 132 | 45 => 131 | 50 => 107 | 5 => 5 | 9 => 9 | 66 => 144 | 70 => 148 | 76 => 152 | 77 => 153 | n => n, fun n => n⟩
theorem sortE : Go.Proofs.SlLaysF0.n6 Try.prog sortE_ren := {
  mixed := by kernel_rfl
  f6 := ⟨Try.f36.name, by decide, Try.func36.trans (congrArg some (by kernel_rfl))⟩
  f14 := ⟨Try.f62.name, by decide, Try.func62.trans (congrArg some (by kernel_rfl))⟩
  f15 := Try.func63.trans (congrArg some (by kernel_rfl))
  f20 := ⟨Try.f78.name, by decide, Try.func78.trans (congrArg some (by kernel_rfl))⟩
  f21 := ⟨Try.f79.name, by decide, Try.func79.trans (congrArg some (by kernel_rfl))⟩
  f22 := ⟨Try.f80.name, by decide, Try.func80.trans (congrArg some (by kernel_rfl))⟩
  f23 := ⟨Try.f81.name, by decide, Try.func81.trans (congrArg some (by kernel_rfl))⟩
  f24 := ⟨Try.f82.name, by decide, Try.func82.trans (congrArg some (by kernel_rfl))⟩
  f25 := ⟨Try.f83.name, by decide, Try.func83.trans (congrArg some (by kernel_rfl))⟩
  f26 := ⟨Try.f84.name, by decide, Try.func84.trans (congrArg some (by kernel_rfl))⟩
  f27 := ⟨Try.f85.name, by decide, Try.func85.trans (congrArg some (by kernel_rfl))⟩
  f28 := Try.func86.trans (congrArg some (by kernel_rfl))
  f29 := Try.func87.trans (congrArg some (by kernel_rfl))
  f46 := ⟨Try.f99.name, by decide, Try.func99.trans (congrArg some (by kernel_rfl))⟩
  f47 := Try.func100.trans (congrArg some (by kernel_rfl))
  f48 := Try.func101.trans (congrArg some (by kernel_rfl))
  f49 := ⟨Try.f102.name, by decide, Try.func102.trans (congrArg some (by kernel_rfl))⟩
  f50 := ⟨Try.f103.name, by decide, Try.func103.trans (congrArg some (by kernel_rfl))⟩
  f57 := ⟨Try.f107.name, by decide, Try.func107.trans (congrArg some (by kernel_rfl))⟩
  t0 := Try.underlying0
  a0 := Try.isAgg0
  z0 := Try.sizeOf0
  v0 := Try.zeroValue0
  t3 := Try.underlying3
  a3 := Try.isAgg3
  z3 := Try.sizeOf3
  v3 := Try.zeroValue3
  t4 := Try.underlying4
  a4 := Try.isAgg4
  z4 := Try.sizeOf4
  v4 := Try.zeroValue4
  t5 := Try.underlying5
  a5 := Try.isAgg5
  z5 := Try.sizeOf5
  v5 := Try.zeroValue5
  t9 := Try.underlying9
  a9 := Try.isAgg9
  z9 := Try.sizeOf9
  v9 := Try.zeroValue9
  t22 := Try.underlying52
  a22 := Try.isAgg52
  z22 := Try.sizeOf52
  v22 := Try.zeroValue52
  t25 := Try.underlying82
  a25 := Try.isAgg82
  z25 := Try.sizeOf82
  v25 := Try.zeroValue82
  t39 := Try.underlying117
  a39 := Try.isAgg117
  z39 := Try.sizeOf117
  v39 := Try.zeroValue117
  t45 := Try.underlying131
  a45 := Try.isAgg131
  z45 := Try.sizeOf131
  v45 := Try.zeroValue131
  t46 := Try.underlying132
  a46 := Try.isAgg132
  z46 := Try.sizeOf132
  v46 := Try.zeroValue132
  t50 := Try.underlying107
  a50 := Try.isAgg107
  z50 := Try.sizeOf107
  v50 := Try.zeroValue107
  t53 := Try.underlying25
  a53 := Try.isAgg25
  z53 := Try.sizeOf25
  v53 := Try.zeroValue25
  t55 := Try.underlying22
  a55 := Try.isAgg22
  z55 := Try.sizeOf22
  v55 := Try.zeroValue22
  t66 := Try.underlying144
  a66 := Try.isAgg144
  z66 := Try.sizeOf144
  v66 := Try.zeroValue144
  t70 := Try.underlying148
  a70 := Try.isAgg148
  z70 := Try.sizeOf148
  v70 := Try.zeroValue148
  t76 := Try.underlying152
  a76 := Try.isAgg152
  z76 := Try.sizeOf152
  v76 := Try.zeroValue152
  t77 := Try.underlying153
  a77 := Try.isAgg153
  z77 := Try.sizeOf153
  v77 := Try.zeroValue153 }
end Go.Proofs.Ytjikbffnhfoikaa
/- slices.SortFunc of entries by compareKeys. -/
namespace Go.Proofs.Ytjikbffnhfoikaa
open Go.RowKit Go.Sort Go.Shelf
instance : Inhabited E := ⟨⟨0, 0, 0, 0, 0, 0, 0, by decide⟩⟩
theorem ltE_eq (x y : E) : ltOf cmpE x y = decide (ltP x y) := by
  unfold ltOf
  exact decide_eq_decide.2 cmpE_lt
theorem swoE : SWO (ltOf cmpE) where
  irrefl x := by rw [ltE_eq]; exact decide_eq_false (ltP_irrefl x)
  trans x y z h1 h2 := by rw [ltE_eq] at *; simp only [decide_eq_true_eq] at *; exact ltP_trans h1 h2
  ntrans x y z h1 h2 := by rw [ltE_eq] at *; simp only [decide_eq_false_iff_not] at *; unfold ltP at *; omega
theorem cmpLaysE (blk off size : Nat) (w : World) : CmpLays Try.prog 37 #[] cellsE 7 cmpE blk off size w :=
  fun _ _ _ _ x y => compareKeys_c x y _
/-- a row of its own, as the sort's contract has it -/
theorem OwnE.holdsK {w : World} {g : Nat} {cur : Array Value} {L : List E} (hg : w.heap[g]? = some (.cells cur 61 (0, 0)))
    (h : ∀ i x, L[i]? = some x → ∀ k, k < 7 → cur[i * 7 + k]? = (cellsE x)[k]?) : HoldsK cellsE 7 w g 0 L.toArray := by
  intro j hj
  rw [size_flatK] at hj
  have hi : j / 7 < L.length := by simp at hj; omega
  have h1 := h (j / 7) L[j / 7] (List.getElem?_eq_getElem hi) (j % 7) (by omega)
  rw [show j / 7 * 7 + j % 7 = j by omega] at h1
  refine ⟨?_, Blk.frozen (show Blk w g _ cur from hg) _⟩
  rw [cell_of_row w g _ cur _ (0, 0) hg, Nat.zero_add, h1, get_flatK _ _ _ j (by simpa using hj)]
  have e : L.toArray[j / 7]! = L[j / 7] := by rw [getElem!_pos _ _ (by simpa using hi)]; simp
  rw [e]
  have hk : j % 7 < (cellsE L[j / 7]).length := by rw [cellsE_len]; omega
  rw [List.getElem?_eq_getElem hk, getElem!_pos (cellsE L[j / 7]) (j % 7) hk]
  rfl
theorem sort_block {w : World} {blk n : Nat} {d : Array E} {os : Array Obj} {j : Nat} (hj : j ≠ blk) (hlt : j < w.heap.size) : (sortWorldK cellsE 7 w blk 0 n d os).heap[j]? = w.heap[j]? := by
  unfold sortWorldK
  show ((putRowK cellsE 7 (Sort.ahead w n) blk 0 d).heap ++ os)[j]? = _
  rw [Array.getElem?_append_left (by rw [size_putRowK]; exact hlt)]
  unfold putRowK putRow mapBlock
  show ((Sort.ahead w n).heap.modify blk _)[j]? = _
  rw [Array.getElem?_modify, if_neg (fun e => hj e.symm)]
  rfl
theorem sort_grown {w : World} {blk n : Nat} {d : Array E} {os : Array Obj} : w.grownBy (sortWorldK cellsE 7 w blk 0 n d os) (some blk) :=
  ⟨rfl, rfl, rfl, size_sortWorldK_c cellsE 7 w blk 0 n d os, fun j hj hne => sort_block (by rintro rfl; exact hne rfl) hj⟩
/-- ascending, of the entries L -/
def SortedOf (L S : List E) : Prop := S.Perm L ∧ Asc S
/-- what the sort leaves -/
def SortOut (w : World) (L : List E) (e : Ending) (w' : World) : Prop := ∃ v S, e = .returned v ∧ Ents w' v S ∧ SortedOf L S ∧ Below w.heap.size w w'
theorem sort_list {L : List E} {d : Array E} (hp : PermIn 0 L.toArray.size L.toArray d) (hs : SortedIn (ltOf cmpE) 0 L.toArray.size d) : SortedOf L d.toList := by
  obtain ⟨h1, _, h3⟩ := hp
  constructor
  · have e : d.extract 0 L.toArray.size = d := by rw [← h1]; simp
    rw [e] at h3
    simpa using h3
  · unfold Asc
    rw [List.pairwise_iff_getElem]
    intro i j hi hj hij
    have hi' : i < d.size := by simpa using hi
    have hj' : j < d.size := by simpa using hj
    have := hs i j (Nat.zero_le _) hij (by rw [← h1]; exact hj')
    rw [ltE_eq, decide_eq_false_iff_not, getElem!_pos d j hj', getElem!_pos d i hi'] at this
    simpa using this
set_option maxRecDepth 100000 in
theorem sort_c {w : World} {B : Nat} {v : Value} {L : List E} (hl : L.length ≤ 100000) (h : OwnE w B v L) :
    Calls Try.prog 36 #[v, .func (.func 37) #[] #[]] w fun e w' => e = .returned (.tuple #[]) ∧ ∃ S, Ents w' v S ∧ SortedOf L S ∧ w.grownBy w' v.ownBlock := by
  rcases h.form with ⟨rfl, rfl⟩ | ⟨g, cap, cur, rfl, hB, hg, h4, h5, h6, h7⟩
  · have h := AnyF.slices_SortFunc_none (P := Try.prog) (ρ := sortE_ren) { sortE with } none 0 (.func (.func 37) #[] #[]) w
    refine h.mono ?_
    rintro e w' ⟨rfl, rfl⟩
    exact ⟨rfl, [], Ents.nil, ⟨List.Perm.refl _, List.Pairwise.nil⟩, ⟨rfl, rfl, rfl, Nat.le_refl _, fun _ _ _ => rfl⟩⟩
  · have hH := OwnE.holdsK hg h7
    have hglt : g < w.heap.size := (Array.getElem?_eq_some_iff.1 hg).1
    have hc := AnyQ.slices_SortFunc (P := Try.prog) (ρ := sortE_ren) { sortE with } 7 Try.isAgg61 Try.sizeOf61 cellsE cellsE_len cellsE_one cmpE swoE 37 #[] g 0 cap L.toArray w
      (enters_of Try.func37 (by kernel_rfl) rfl) (cmpLaysE g 0 L.toArray.size w) hH hglt (by simp; omega)
    rw [List.size_toArray] at hc
    refine hc.mono ?_
    rintro e w' ⟨rfl, d, n, os, hp, hs, rfl⟩
    have hd : d.size = L.toArray.size := hp.1
    have hK := holdsK_sortWorldK_c cellsE 7 w g 0 L.toArray d n os hH hglt hd
    have hso := sort_list hp hs
    refine ⟨rfl, d.toList, ⟨some ⟨g, 0, none⟩, cap, by rw [hso.1.length_eq], by rw [hso.1.length_eq]; exact h4, fun _ => ⟨g, 0, rfl, fun i x hx => at7_of fun k hk => ?_⟩⟩, hso, sort_grown⟩
    have hi : i < d.size := by simpa using (List.getElem?_eq_some_iff.1 hx).1
    rw [(hK.cell hi hk).1]
    have e : d[i]! = x := by rw [getElem!_pos d i hi]; simpa [hi] using hx
    have hkl : k < (cellsE x).length := by rw [cellsE_len]; exact hk
    rw [e, getElem!_pos (cellsE x) k hkl, List.getElem?_eq_getElem hkl]
end Go.Proofs.Ytjikbffnhfoikaa
/- Merge. -/
namespace Go.Proofs.Ytjikbffnhfoikaa
open Go.RowKit Go.Sort Go.Maps
theorem below_but {a w w' : World} {b : Nat} (h : Below a.heap.size a w) (hg : w.grownBy w' (some b)) (hb : a.heap.size ≤ b) : Below a.heap.size a w' :=
  h.grown hg h.size (fun k e => by cases e; exact hb)
theorem Acc.len_le {A l : List E} {dn : E → Bool} (h : Acc A (fK l dn)) (hd : ∀ x y, eqP x y → dn x = dn y) : A.length ≤ l.length := by
  rw [h.length (l := l.filter dn) (fun z => by unfold fK; rw [con_filter dn hd])]
  exact Nat.le_trans (M_len _) (List.length_filter_le _ _)
theorem OwnE.own {w : World} {B : Nat} {v : Value} {L : List E} (h : OwnE w B v L) : ∀ k, v.ownBlock = some k → B ≤ k ∧ k < w.heap.size := World.ownsRow.lt h
/-- the keys done -/
def dnE (L : List E) (left : Lit → Bool) (z : E) : Bool := hasE L z && !left (klE z)
theorem dnE_key {L : List E} {left : Lit → Bool} : ∀ x y, eqP x y → dnE L left x = dnE L left y := fun x y h => by
  unfold dnE
  rw [hasE_key h, klE_iff.2 h]
theorem dnE_next {L : List E} {left : Lit → Bool} {x : E} (hx : x ∈ L) (z : E) : dnE L (fun k => left k && !k.sameKey (klE x)) z = (dnE L left z || decide (eqP x z)) := by
  show (hasE L z && !(left (klE z) && !(klE z).sameKey (klE x))) = (hasE L z && !left (klE z) || decide (eqP x z))
  rw [klE_same]
  by_cases e : eqP x z
  · have h : hasE L z = true := hasE_iff.2 ⟨x, hx, e⟩
    rw [h, decide_eq_true e]
    simp
  · rw [decide_eq_false e]
    simp
set_option maxRecDepth 100000 in
set_option maxHeartbeats 8000000 in
theorem merge_c (v : Value) (L : List E) (hl : L.length ≤ 100000) (w : World) (hE : Ents w v L) :
    Calls Try.prog 19 #[v] w fun e w' => ∃ v', e = .returned v' ∧ Ents w' v' (M L) ∧ Below w.heap.size w w' := by
  obtain ⟨ao, cap, rfl, hcap, hr⟩ := hE
  have hlen : (L.length : Int) ≤ 100000 := by omega
  have hmm := @run_makeMap Try.prog
  go_enter Try.func19, Try.ntmps19
  go_wp2_with fail
  go_loopw [13] (fun vi wr => ∃ (i : Nat) (f : Lit → Option Value), i ≤ L.length ∧ vi = .int .i64 i ∧ Hid (Below w.heap.size w wr) ∧ Hid (MapR Try.prog 79 wr w.heap.size i f) ∧ Hid (FM (L.take i) f)) (fun vi _ => L.length - (intOf vi).toNat)
  case atStart =>
    exact ⟨0, _, Nat.zero_le _, rfl, Lib.hid ((Below.refl _ w).alloc (Nat.le_refl _) _), Lib.hid (MapR.made w), Lib.hid (by rw [List.take_zero]; exact FM.nil)⟩
  case round =>
    obtain ⟨i, f, hi, rfl, HB, HM, HF⟩ := hrel
    by_cases hlt : i < L.length
    · have hlt' : (i : Int) < (L.length : Int) := by omega
      obtain ⟨g, o, rfl, hR⟩ := hr (by rintro rfl; simp at hlt)
      obtain ⟨x, hx⟩ : ∃ x, L[i] = x := ⟨_, rfl⟩
      have hcell := (hR.keep (HB.out.block g (hR.lt (by rintro rfl; simp at hlt)))).at hlt
      rw [hx] at hcell
      obtain ⟨q0, q1, q2, q3, q4, q5, q6⟩ := hcell
      have HX : Hid (L.take (i + 1) = L.take i ++ [x]) := Lib.hid (by rw [List.take_succ_eq_append_getElem hlt, hx])
      clear hx hR
      have HB0 := Lib.hid (HB.out.alloc HB.out.size (.cells #[.int .i64 x.s, .int .i64 x.t, .int .i64 x.c, .int .i64 x.d, .int .u32 (vI x.a), .int .u32 (vI x.b), .int .u32 (vI x.e)] 61))
      have HM0 := Lib.hid (HM.out.alloc (.cells #[.int .i64 x.s, .int .i64 x.t, .int .i64 x.c, .int .i64 x.d, .int .u32 (vI x.a), .int .u32 (vI x.b), .int .u32 (vI x.e)] 61))
      have HX0 := Lib.hid (Blk.new wr 61 #[.int .i64 x.s, .int .i64 x.t, .int .i64 x.c, .int .i64 x.d, .int .u32 (vI x.a), .int .u32 (vI x.b), .int .u32 (vI x.e)])
      clear HB HM
      go_upto_region 6 with (go_at_call 39; refine (keyOf_c x _).mono ?_; rintro e w1 ⟨rfl, hb1⟩; have HB1 := Lib.hid hb1; clear hb1)
      have HB2 := Lib.hid ((HB0.out.trans (HB1.out.mono HB0.out.size)).alloc (by have := HB0.out.size; have := HB1.out.size; omega) (.cells #[.int .i64 x.s, .int .i64 x.t, .int .i64 x.c, .int .i64 x.d] 79))
      have HM2 := Lib.hid ((HM0.out.below HB1.out).alloc (.cells #[.int .i64 x.s, .int .i64 x.t, .int .i64 x.c, .int .i64 x.d] 79))
      have HX2 := Lib.hid ((HX0.out.keep HB1.out).alloc (.cells #[.int .i64 x.s, .int .i64 x.t, .int .i64 x.c, .int .i64 x.d] 79))
      have HK2 := Lib.hid (Blk.new w1 79 #[.int .i64 x.s, .int .i64 x.t, .int .i64 x.c, .int .i64 x.d])
      clear HB0 HB1 HM0 HX0 q0 q1 q2 q3 q4 q5 q6
      generalize w1.alloc (.cells #[.int .i64 x.s, .int .i64 x.t, .int .i64 x.c, .int .i64 x.d] 79) = W at *
      generalize hgk : w1.heap.size = gk at *
      clear hgk
      generalize hgx : wr.heap.size = gx at *
      clear hgx
      obtain ⟨C, hC0⟩ : ∃ C, con x (L.take i) = C := ⟨_, rfl⟩
      have HC := Lib.hid hC0
      have HL : Hid (∀ w1, Kp W w1 → (Instr.lookup 83 (.map (some w.heap.size)) (.agg #[.int .i64 x.s, .int .i64 x.t, .int .i64 x.c, .int .i64 x.d]) false).run Try.prog w1 = .ok (.agg #[.int .u32 (vI C.p), .int .u32 (vI C.q), .int .u32 (vI C.r)]) w1) := Lib.hid fun w1 h => by
        have h2 := (HM2.out.below h).lookup keyed_key Try.underlying83 (z := vAgg zV) (Try.zeroValue76 _) (keyOf_E x)
        rw [HF.out.at x, hC0] at h2
        exact h2
      clear hC0
      refine wp_region_kt 8 (by kernel_rfl) (by kernel_rfl) ?_
      simp only [List.take_succ_cons, List.take_zero, List.drop_succ_cons, List.drop_zero]
      repeat (first
          | go_big_quiet_skip
          | (go_big_quiet_want
             go_big_quiet_op
             first
               | go_big_quiet_on
               | (apply Exists.intro
                  refine ⟨fun w1 hC => ?_, ?_⟩
                  · first
                      | (go_at_call 41; with_reducible exact hC.call (vectorsOf_c x _))
                      | (go_at_call 40; with_reducible exact hC.call (union_c' C (vec x) _))
                      | (have hlk := HL.out _ hC; go_simp; exact rfl)
                      | (have hx := hC.blk HX2.out; have hk := hC.blk HK2.out; obtain ⟨b0, b1, b2, b3, b4, b5, b6⟩ := Box.cells (show Box _ gx x from hx); have d := hk.cell; have d0 := d 0; have d1 := d 1; have d2 := d 2; have d3 := d 3; go_simp; exact rfl)
                      | (go_simp; exact ⟨rfl, rfl⟩)
                  go_big_quiet_on)))
      refine wpQuiet_nil ?_
      intro W3 hC
      have HM3 := Lib.hid (HM2.out.below hC)
      have HB3 := Lib.hid (HB2.out.trans (hC.mono HB2.out.size))
      clear HM2 HB2 HX2 HK2 HL hC
      go_wp2_with (at_mapUpdate; refine wpList_update_R rfl _ _ _ 83 rfl 79 76 keyed_key Try.underlying83 w.heap.size i f rfl HM3.out (by unfold maxLen; omega) (keyV x) (vAgg (orV C (vec x))) (klE x) rfl rfl (keyOf_E x) ?_; intro W4 hM4 hg4; have HM4 := Lib.hid hM4; have HB4 := Lib.hid (below_but HB3.out hg4 (Nat.le_refl _)); clear hM4 hg4)
      go_roundw
      case rel => exact ⟨i + 1, _, hlt, by go_num, HB4, HM4, Lib.hid (by rw [HX.out, ← HC.out]; exact HF.out.step x)⟩
      case measure => simp [intOf]; omega
    · obtain rfl : i = L.length := by omega
      have HF2 : Hid (FM L f) := Lib.hid (by have := HF.out; rwa [List.take_length] at this)
      have hlt' : ¬ ((L.length : Nat) : Int) < (L.length : Int) := by omega
      clear HF hr
      go_wp2_with (at_range; refine wpList_range_R rfl _ 83 rfl 79 76 keyed_key Try.underlying83 w.heap.size L.length f rfl HM.out ?_; intro W0 cnt0 hrg0 hg0 hs0; have HR0 := Lib.hid hrg0; have HS0 := Lib.hid hs0; have HB0 : Hid (Below w.heap.size w W0) := Lib.hid (HB.out.grown hg0 HB.out.size (fun k e => by cases e)); clear hrg0 hg0 hs0)
      have HWR : Hid (w.heap.size ≤ wr.heap.size) := Lib.hid HB.out.size
      generalize wr.heap.size = r at *
      clear HM HB hmm
      go_loopw [7] (fun v7 w2 => ∃ (A : List E) (left : Lit → Bool) (cnt : Nat) (vv : Value), vv = v7 ∧ Hid (RanR Try.prog 79 w2 w.heap.size r L.length f left cnt) ∧ Hid (OwnE w2 (r + 1) vv A) ∧ Hid (Acc A (fK L (dnE L left))) ∧ Hid (Below w.heap.size w w2)) (fun _ w2 => w2.rangeLeft w.heap.size r)
      case atStart =>
        refine ⟨[], _, cnt0, _, rfl, HR0, Lib.hid (OwnE.nil _ _), Lib.hid ((Acc.nilK (l := L)).same fun z => ?_), HB0⟩
        show zV = if (hasE L z && !(f (klE z)).isSome) = true then con z L else zV
        rw [HF2.out.a]
        cases hasE L z <;> rfl
      case round =>
        obtain ⟨A, left, cnt, v, rfl, HR, HO, HA, HB⟩ := hrel
        have HAl := Lib.hid (HA.out.len_le dnE_key)
        go_wp2_with (at_next; refine wpList_next_R rfl _ rfl 79 keyed_key w.heap.size r L.length f left cnt rfl HR.out ?_ ?_)
        · intro hc0 hl0
          have HA2 : Hid (Acc A fun z => con z L) := Lib.hid (HA.out.doneK fun z hz => by
            unfold dnE
            rw [hl0, Bool.not_false, Bool.and_true]
            by_cases e : hasE L z = true
            · exact e
            · exact absurd (con_hasnt (by simpa using e)) hz)
          have HSC := Lib.hid (sort_c (by have := HAl.out; omega) HO.out)
          have HOL := Lib.hid HO.out.own
          clear hc0 hl0 HA HR HO
          go_wp2_with (go_at_call 36; refine HSC.out.mono ?_; rintro e w4 ⟨rfl, S, hS, hso, hg⟩)
          go_ret
          obtain rfl := HA2.out.sorted (fun z => rfl) hso.1 hso.2
          exact ⟨_, rfl, hS, HB.out.grown hg HB.out.size (fun k e => by have := (HOL.out k e).1; have := HWR.out; omega)⟩
        · intro key vv kl w3 cnt3 hkey hlk hf hrg hlt hgr hsz hen
          obtain ⟨x, hxL, rfl⟩ := HF2.out.b kl vv hf
          obtain rfl := keyed_key.inj hkey (keyOf_E x)
          rw [HF2.out.a, if_pos (hasE_iff.2 ⟨x, hxL, rfl, rfl, rfl, rfl⟩)] at hf
          simp only [Option.some.injEq] at hf
          subst hf
          obtain ⟨C, hC⟩ : ∃ C, con x L = C := ⟨_, rfl⟩
          obtain ⟨y, hy⟩ : ∃ y, reE x C = y := ⟨_, rfl⟩
          have HEN : Hid (∀ u, Calls Try.prog 35 #[.agg #[.int .u32 (vI C.p), .int .u32 (vI C.q), .int .u32 (vI C.r)], .agg #[.int .i64 x.s, .int .i64 x.t, .int .i64 x.c, .int .i64 x.d]] u fun e w' => e = .returned (.agg #[.int .i64 y.s, .int .i64 y.t, .int .i64 y.c, .int .i64 y.d, .int .u32 (vI y.a), .int .u32 (vI y.b), .int .u32 (vI y.e)]) ∧ Below u.heap.size u w') := Lib.hid fun u => by rw [← hy]; exact entry_c C (reE x C) rfl u
          have hrl := HR.out.lt
          have hown := HO.out.own
          have HR3 := Lib.hid hrg
          have HO3 := Lib.hid (HO.out.kept hgr (by
            cases hv : v.ownBlock with
            | none => exact .inl rfl
            | some g => exact .inr (fun e => by cases e; have := (hown r hv).1; omega)))
          have HB3 : Hid (Below w.heap.size w w3) := Lib.hid (HB.out.grown hgr HB.out.size (fun k e => by cases e; have := HWR.out; omega))
          have HA3 : Hid (Acc (A ++ if emp y = true then [] else [y]) (fK L (dnE L fun k => left k && !k.sameKey (klE x)))) := Lib.hid (by
            have h := HA.out.put dnE_key (x := y) (by rw [← hy]; show C = con (reE x C) L; rw [← hC]; exact con_key (reE_key x _) L) (by rw [← dnE_key x y (by rw [← hy]; exact reE_key x C)]; unfold dnE; rw [hlk]; simp)
            refine h.same fun z => ?_
            have e : decide (eqP y z) = decide (eqP x z) := decide_eq_decide.2 ⟨fun h => eqP_trans (by rw [← hy]; exact reE_key x C) h, fun h => eqP_trans (eqP_symm (by rw [← hy]; exact reE_key x C)) h⟩
            unfold fK
            rw [dnE_next hxL, ← e])
          have hvy : vec y = C := by rw [← hy]; rfl
          have hen2 : (Instr.entry (.pointer (some ⟨r, 0, none⟩))).run Try.prog w3 = .ok (.tuple #[.agg #[.int .i64 x.s, .int .i64 x.t, .int .i64 x.c, .int .i64 x.d], .agg #[.int .u32 (vI C.p), .int .u32 (vI C.q), .int .u32 (vI C.r)]]) w3 := by rw [← hC]; exact hen
          have HLT := Lib.hid hlt
          have HRW := Lib.hid HR.out.left_eq
          have HXL := Lib.hid hxL
          have HVY := Lib.hid hvy
          clear HA HO HB hgr hown hrl hen hvy hy hC hlt hsz hrg hkey hlk hxL
          by_cases hz : C = zV
          · subst hz
            have hnb := fun u => neqV_z u
            have hemp : emp y = true := emp_iff.2 HVY.out
            rw [if_pos hemp, List.append_nil] at HA3
            clear HEN hemp HR
            go_wp2_with fail
            go_roundw
            case rel => exact ⟨A, _, cnt3, _, rfl, Lib.hid ((HR3.out.alloc _).alloc _), Lib.hid ((HO3.out.below ((Below.refl _ _).alloc (Nat.le_refl _) _)).below ((Below.refl _ _).alloc (Nat.le_refl _) _)), HA3, Lib.hid ((HB3.out.alloc HB3.out.size _).alloc (by have := HB3.out.size; simp; omega) _)⟩
            case measure => rw [((HR3.out.alloc _).alloc _).left_eq, HRW.out]; exact HLT.out
          · have hnb := fun u => neqV_n C hz u
            have hemp : ¬ emp y = true := fun h => hz (by rw [← HVY.out]; exact emp_iff.1 h)
            rw [if_neg hemp] at HA3
            clear hemp hz HR
            have HR4 := Lib.hid ((HR3.out.alloc (.cells #[.int .i64 x.s, .int .i64 x.t, .int .i64 x.c, .int .i64 x.d] 79)).alloc (.cells #[.int .u32 (vI C.p), .int .u32 (vI C.q), .int .u32 (vI C.r)] 76))
            have HO4 := Lib.hid ((HO3.out.below ((Below.refl _ _).alloc (Nat.le_refl _) (.cells #[.int .i64 x.s, .int .i64 x.t, .int .i64 x.c, .int .i64 x.d] 79))).below ((Below.refl _ _).alloc (Nat.le_refl _) (.cells #[.int .u32 (vI C.p), .int .u32 (vI C.q), .int .u32 (vI C.r)] 76)))
            have HB4 := Lib.hid ((HB3.out.alloc HB3.out.size (.cells #[.int .i64 x.s, .int .i64 x.t, .int .i64 x.c, .int .i64 x.d] 79)).alloc (by have := HB3.out.size; simp; omega) (.cells #[.int .u32 (vI C.p), .int .u32 (vI C.q), .int .u32 (vI C.r)] 76))
            clear HR3 HO3 HB3
            go_wp2_with (first
              | (go_at_call 35; refine (HEN.out _).mono ?_; rintro e w5 ⟨rfl, hb5⟩; have HB5 := Lib.hid hb5; have HR5 := Lib.hid (HR4.out.below hb5); have HO5 := Lib.hid (HO4.out.below hb5); have HBB := Lib.hid (HB4.out.trans (hb5.mono HB4.out.size)); clear hb5)
              | (at_builtin; refine wpList_append_E (by rfl) _ _ (by rfl) (r + 1) v A A.length rfl (by rfl) (HO5.out.below ((Below.refl _ _).alloc (Nat.le_refl _) _)) w5.heap.size y (by rfl) (Blk.new _ _ _) (by have := HAl.out; omega) (by have := HR5.out.lt; simp; omega) ?_; intro g' cap' w6 h1 h2 h3; have H1 := Lib.hid h1; have H2 := Lib.hid h2; clear h1 h2 h3))
            have HL5 := Lib.hid HO5.out.own
            have hR6 := (HR5.out.alloc (.cells #[.int .i64 y.s, .int .i64 y.t, .int .i64 y.c, .int .i64 y.d, .int .u32 (vI y.a), .int .u32 (vI y.b), .int .u32 (vI y.e)] 61)).kept H2.out (by cases hv : v.ownBlock with
              | none => simp
              | some q => have h5 := HL5.out q hv; have h6 := HWR.out; intro e; cases e; omega) (by cases hv : v.ownBlock with
              | none => simp
              | some q => have h5 := HL5.out q hv; intro e; cases e; omega)
            have HR6 := Lib.hid hR6
            have HB6 : Hid (Below w.heap.size w w6) := Lib.hid ((HBB.out.alloc HBB.out.size (.cells #[.int .i64 y.s, .int .i64 y.t, .int .i64 y.c, .int .i64 y.d, .int .u32 (vI y.a), .int .u32 (vI y.b), .int .u32 (vI y.e)] 61)).grown H2.out (by have := HBB.out.size; simp; omega) (fun k e => by have := HL5.out k e; have := HWR.out; omega))
            clear hR6
            go_wp2_with fail
            go_roundw
            case rel => exact ⟨A ++ [y], _, cnt3, _, rfl, HR6, H1, HA3, HB6⟩
            case measure => rw [HR6.out.left_eq, HRW.out]; exact HLT.out
end Go.Proofs.Ytjikbffnhfoikaa
/- Rules in memory: slices, rows of one's own, appending. -/
namespace Go.Proofs.Ytjikbffnhfoikaa
open Go.RowKit Go.Sort Go.Maps
def cellsR (r : Ru) : List Value := [.int .i64 r.k, .int .u64 r.src.a, .int .u64 r.src.b, .int .u64 r.src.c, .int .u64 r.src.d, .int .u64 r.tgt.a, .int .u64 r.tgt.b, .int .u64 r.tgt.c, .int .u64 r.tgt.d, .bool r.self, .int .i64 r.cl, .int .u32 (vI r.pm), .int .i64 r.cd]
theorem cellsR_len (r : Ru) : (cellsR r).length = 13 := rfl
theorem cellsR_one (r : Ru) : ∀ v ∈ cellsR r, v.oneCell' = true := by
  intro v hv
  simp only [cellsR, List.mem_cons, List.not_mem_nil, or_false] at hv
  rcases hv with rfl | rfl | rfl | rfl | rfl | rfl | rfl | rfl | rfl | rfl | rfl | rfl | rfl <;> rfl
def AtR (w : World) (g o : Nat) (r : Ru) : Prop := ∀ k, k < 13 → w.cell? ⟨g, o + k, none⟩ = (cellsR r)[k]?
theorem AtR.facts {w : World} {g o : Nat} {r : Ru} (h : AtR w g o r) : w.cell? ⟨g, o, none⟩ = some (.int .i64 r.k) ∧ w.cell? ⟨g, o + 1, none⟩ = some (.int .u64 r.src.a) ∧ w.cell? ⟨g, o + 2, none⟩ = some (.int .u64 r.src.b) ∧ w.cell? ⟨g, o + 3, none⟩ = some (.int .u64 r.src.c) ∧ w.cell? ⟨g, o + 4, none⟩ = some (.int .u64 r.src.d) ∧
    w.cell? ⟨g, o + 5, none⟩ = some (.int .u64 r.tgt.a) ∧ w.cell? ⟨g, o + 6, none⟩ = some (.int .u64 r.tgt.b) ∧ w.cell? ⟨g, o + 7, none⟩ = some (.int .u64 r.tgt.c) ∧ w.cell? ⟨g, o + 8, none⟩ = some (.int .u64 r.tgt.d) ∧ w.cell? ⟨g, o + 9, none⟩ = some (.bool r.self) ∧
    w.cell? ⟨g, o + 10, none⟩ = some (.int .i64 r.cl) ∧ w.cell? ⟨g, o + 11, none⟩ = some (.int .u32 (vI r.pm)) ∧ w.cell? ⟨g, o + 12, none⟩ = some (.int .i64 r.cd) :=
  ⟨h 0 (by decide), h 1 (by decide), h 2 (by decide), h 3 (by decide), h 4 (by decide), h 5 (by decide), h 6 (by decide), h 7 (by decide), h 8 (by decide), h 9 (by decide), h 10 (by decide), h 11 (by decide), h 12 (by decide)⟩
def RowR (w : World) (g o : Nat) (L : List Ru) : Prop := ∀ i r, L[i]? = some r → AtR w g (o + i * 13) r
/-- the value is a slice of the rules L -/
def Rus (w : World) (v : Value) (L : List Ru) : Prop := ∃ ao cap, v = .slice ao L.length cap ∧ L.length ≤ cap ∧ (L ≠ [] → ∃ g o, ao = some ⟨g, o, none⟩ ∧ RowR w g o L)
theorem AtR.lt {w : World} {g o : Nat} {r : Ru} (h : AtR w g o r) : g < w.heap.size := by
  have := h.facts.1
  rcases Nat.lt_or_ge g w.heap.size with h' | h'
  · exact h'
  · simp [World.cell?, Array.getElem?_eq_none h'] at this
theorem AtR.keep {w w' : World} {g o : Nat} {r : Ru} (h : AtR w g o r) (hb : w'.heap[g]? = w.heap[g]?) : AtR w' g o r := fun k hk => (World.cell?_of_block hb).trans (h k hk)
theorem RowR.lt {w : World} {g o : Nat} {L : List Ru} (h : RowR w g o L) (hl : L ≠ []) : g < w.heap.size := by
  obtain ⟨t, r, rfl⟩ := List.exists_cons_of_ne_nil hl
  exact (h 0 t rfl).lt
theorem RowR.keep {w w' : World} {g o : Nat} {L : List Ru} (h : RowR w g o L) (hb : w'.heap[g]? = w.heap[g]?) : RowR w' g o L := fun i x hx => (h i x hx).keep hb
theorem RowR.at {w : World} {g o : Nat} {L : List Ru} (h : RowR w g o L) {i : Nat} (hi : i < L.length) : AtR w g (o + i * 13) L[i] := h i L[i] (List.getElem?_eq_getElem hi)
theorem Rus.keep {w w' : World} {v : Value} {L : List Ru} (h : Rus w v L) (hb : Below w.heap.size w w') : Rus w' v L := by
  obtain ⟨ao, cap, rfl, hc, hr⟩ := h
  refine ⟨ao, cap, rfl, hc, fun hl => ?_⟩
  obtain ⟨g, o, rfl, hR⟩ := hr hl
  exact ⟨g, o, rfl, hR.keep (hb.block g (hR.lt hl))⟩
theorem Rus.nil {w : World} : Rus w (.slice none 0 0) [] := ⟨none, 0, rfl, Nat.le_refl _, fun h => absurd rfl h⟩
/-- a rule in a block of its own -/
def BoxR (w : World) (g : Nat) (r : Ru) : Prop := Blk w g 27 #[.int .i64 r.k, .int .u64 r.src.a, .int .u64 r.src.b, .int .u64 r.src.c, .int .u64 r.src.d, .int .u64 r.tgt.a, .int .u64 r.tgt.b, .int .u64 r.tgt.c, .int .u64 r.tgt.d, .bool r.self, .int .i64 r.cl, .int .u32 (vI r.pm), .int .i64 r.cd]
theorem BoxR.at {w : World} {g : Nat} {r : Ru} (h : BoxR w g r) : AtR w g 0 r := fun k hk => by
  rw [Blk.cell h (0 + k), Nat.zero_add, List.getElem?_toArray]
  rfl
theorem BoxR.cells {w : World} {g : Nat} {r : Ru} (h : BoxR w g r) : w.cell? ⟨g, 0, none⟩ = some (.int .i64 r.k) ∧ w.cell? ⟨g, 1, none⟩ = some (.int .u64 r.src.a) ∧ w.cell? ⟨g, 2, none⟩ = some (.int .u64 r.src.b) ∧ w.cell? ⟨g, 3, none⟩ = some (.int .u64 r.src.c) ∧ w.cell? ⟨g, 4, none⟩ = some (.int .u64 r.src.d) ∧
    w.cell? ⟨g, 5, none⟩ = some (.int .u64 r.tgt.a) ∧ w.cell? ⟨g, 6, none⟩ = some (.int .u64 r.tgt.b) ∧ w.cell? ⟨g, 7, none⟩ = some (.int .u64 r.tgt.c) ∧ w.cell? ⟨g, 8, none⟩ = some (.int .u64 r.tgt.d) ∧ w.cell? ⟨g, 9, none⟩ = some (.bool r.self) ∧
    w.cell? ⟨g, 10, none⟩ = some (.int .i64 r.cl) ∧ w.cell? ⟨g, 11, none⟩ = some (.int .u32 (vI r.pm)) ∧ w.cell? ⟨g, 12, none⟩ = some (.int .i64 r.cd) := by
  have := h.at.facts
  simpa only [Nat.zero_add] using this
/-! rows of one's own -/
def OwnR (w : World) (B : Nat) (v : Value) (L : List Ru) : Prop := w.ownsRow B 27 13 v L.length (L.flatMap cellsR)
theorem fmR_len (L : List Ru) : (L.flatMap cellsR).length = L.length * 13 := by
  induction L with
  | nil => rfl
  | cons x r ih => rw [List.flatMap_cons, List.length_append, ih, cellsR_len, List.length_cons]; omega
theorem fmR_get : ∀ (L : List Ru) (i k : Nat) (x : Ru), L[i]? = some x → k < 13 → (L.flatMap cellsR)[i * 13 + k]? = (cellsR x)[k]?
  | [], i, k, x, h, _ => by simp at h
  | y :: r, 0, k, x, h, hk => by
    obtain rfl : y = x := by simpa using h
    rw [List.flatMap_cons, List.getElem?_append_left (by rw [cellsR_len]; omega)]
    congr 1; omega
  | y :: r, i + 1, k, x, h, hk => by
    have h' : r[i]? = some x := by simpa using h
    rw [List.flatMap_cons, List.getElem?_append_right (by rw [cellsR_len]; omega), cellsR_len, show (i + 1) * 13 + k - 13 = i * 13 + k by omega]
    exact fmR_get r i k x h' hk
theorem OwnR.nil (w : World) (B : Nat) : OwnR w B (.slice none 0 0) [] := World.ownsRow_nil _ _ _ _
theorem OwnR.rus {w : World} {B : Nat} {v : Value} {L : List Ru} (h : OwnR w B v L) : Rus w v L := by
  rcases h.2 with ⟨h1, h2⟩ | ⟨g, cap, cur, h1, h2, h3, h4, h5, h6, h7⟩
  · obtain rfl := List.eq_nil_of_length_eq_zero h2
    rw [h1]; exact Rus.nil
  · refine ⟨_, cap, h1, h4, fun _ => ⟨g, 0, rfl, fun i x hx k hk => ?_⟩⟩
    rw [cell_of_row w g _ cur _ (0, 0) h3, Nat.zero_add, ← fmR_get L i k x hx hk, ← h7, List.getElem?_take]
    have : i < L.length := (List.getElem?_eq_some_iff.1 hx).1
    rw [if_pos (by omega)]
    simp
theorem OwnR.isSl {w : World} {B : Nat} {v : Value} {L : List Ru} (h : OwnR w B v L) : ∃ ao cap, v = .slice ao L.length cap := by
  obtain ⟨ao, cap, e, _⟩ := h.rus
  exact ⟨ao, cap, e⟩
theorem OwnR.kept {w w' : World} {B : Nat} {v : Value} {L : List Ru} {row : Option Nat} (h : OwnR w B v L) (hg : w.grownBy w' row) (hne : v.ownBlock = none ∨ v.ownBlock ≠ row) : OwnR w' B v L := World.ownsRow.kept h hg hne
theorem OwnR.below {w w' : World} {B : Nat} {v : Value} {L : List Ru} (h : OwnR w B v L) (hb : Below w.heap.size w w') : OwnR w' B v L := h.kept (below_grown hb) (by cases v.ownBlock <;> simp)
theorem OwnR.own {w : World} {B : Nat} {v : Value} {L : List Ru} (h : OwnR w B v L) : ∀ k, v.ownBlock = some k → B ≤ k ∧ k < w.heap.size := World.ownsRow.lt h
theorem OwnR.block {w : World} {B : Nat} {v : Value} {L : List Ru} (h : OwnR w B v L) (hl : L ≠ []) : ∃ g cap, v = .slice (some ⟨g, 0, none⟩) L.length cap ∧ v.ownBlock = some g := by
  rcases h.2 with ⟨h1, h2⟩ | ⟨g, cap, cur, h1, _⟩
  · exact absurd (List.eq_nil_of_length_eq_zero h2) hl
  · exact ⟨g, cap, h1, by rw [h1]; rfl⟩
/-- the block of a row of one's own holds cells of rules -/
theorem OwnR.cellsOf {w : World} {B : Nat} {v : Value} {L : List Ru} (h : OwnR w B v L) {g : Nat} (hg : v.ownBlock = some g) : ∃ cur z, w.heap[g]? = some (.cells cur 27 z) := by
  rcases h.2 with ⟨h1, h2⟩ | ⟨g', cap, cur, h1, h2, h3, _⟩
  · rw [h1] at hg; simp [Value.ownBlock] at hg
  · rw [h1] at hg
    obtain rfl : g' = g := by simpa [Value.ownBlock] using hg
    exact ⟨cur, _, h3⟩
theorem infoR : (Try.prog.info? 27).map (fun i => (i.zero, i.size, i.bytes)) = some (some (.agg #[.int .i64 0, .int .u64 0, .int .u64 0, .int .u64 0, .int .u64 0, .int .u64 0, .int .u64 0, .int .u64 0, .int .u64 0, .bool false, .int .i64 0, .int .u32 0, .int .i64 0]), 13, 104) := by kernel_rfl
theorem wpList_append_Ru {w : World} {ops : Array Oper} {rest : List Oper} {o : Oper} {a : Act} {Q : Exit → Act → World → Prop} (hgd : o.guard = none) (s x : Operand)
    (ho : o.op = .call { callee := .builtin .append, args := #[s, x], argTypes := #[41, 41] }) (B : Nat) (v : Value) (L : List Ru) (N : Nat) (hN : L.length = N) (hs : a.eval s = v) (hown : OwnR w B v L)
    (g : Nat) (y : Ru) (hx : a.eval x = .slice (some ⟨g, 0, none⟩) 1 1) (hy : BoxR w g y) (hl : N ≤ 1000000) (hb : B ≤ w.heap.size)
    (h : ∀ g' cap w', OwnR w' B (.slice (some ⟨g', 0, none⟩) (N + 1) cap) (L ++ [y]) → w.grownBy w' v.ownBlock → (v.ownBlock = some g' ∨ g' = w.heap.size) → wpList Try.prog ops Q rest (a.put o.dst (.slice (some ⟨g', 0, none⟩) (N + 1) cap)) w') :
    wpList Try.prog ops Q (o :: rest) a w := by
  subst hN
  obtain ⟨i0, hinf, hz0, hz1, hz2⟩ := info_parts infoR
  refine wpList_append_lies w hgd s x 41 ho B 27 i0 _ 13 104 Try.underlying41 hinf hz0 hz1 hz2 rfl (by decide) v L.length (L.flatMap cellsR) hs hown ⟨g, 0, none⟩ 1 1 (cellsR y) hx rfl
    (World.news_of_block hy) (cellsR_one y) (by decide) (by unfold maxLen; omega) (by omega) hb _ rfl ?_
  intro g' cap w' h1 h2 h3 _
  refine h g' cap w' ?_ h2 h3
  unfold OwnR
  rw [List.length_append, List.flatMap_append]
  simpa using h1
end Go.Proofs.Ytjikbffnhfoikaa
/- The rules by their places. -/
namespace Go.Proofs.Ytjikbffnhfoikaa
open Go.RowKit Go.Sort Go.Maps
theorem law_place : WideMaps.KeyLaw Try.prog 73 := deep_law_gate Try.laidOut (of_decide_eq_true (by kernel_rfl)) (of_decide_eq_true (by kernel_rfl)) (by kernel_rfl) (by rw [Try.underlying73])
theorem keyed_place : Keyed Try.prog 73 := Keyed.of_law law_place
def klP (c d : Int) : Lit := .string (keyBytes [.int .i64 c, .int .i64 d])
theorem keyOf_place {c d : Int} (wc : W64 c) (wd : W64 d) : keyOf Try.prog 73 (.agg #[.int .i64 c, .int .i64 d]) = some (klP c d) := by
  have hu := Try.underlying73
  have he := Try.underlying3
  have hk : Try.prog.keyType 73 = true := by kernel_rfl
  have hc : Try.prog.cellsOf 73 = 2 := by kernel_rfl
  have h1 : Try.prog.cellsOf 3 = 1 := by kernel_rfl
  obtain ⟨m, hm⟩ := sizes
  unfold keyOf
  simp only [hu]
  rw [if_pos (by simp [hk, Value.formed, hu, hc]), hm]
  unfold Program.keyLits
  simp only [hu, Value.cells]
  rw [if_pos ⟨by rw [hc]; rfl, by kernel_rfl⟩, List.mapM_cons, List.mapM_cons, List.mapM_nil]
  simp [h1, Program.keyLits, he, wf64 wc, wf64 wd, klP]
theorem klP_inj {c d c' d' : Int} (wc : W64 c) (wd : W64 d) (wc' : W64 c') (wd' : W64 d') (h : klP c d = klP c' d') : c = c' ∧ d = d' := by
  have := keyed_place.inj (keyOf_place wc wd) (h ▸ keyOf_place wc' wd')
  simpa using this
/-- the map of the rules by their places; the rows are the call's own, from base on -/
structure BP (w : World) (base : Nat) (L : List Ru) (f : Lit → Option Value) : Prop where
  no : ∀ c d, W64 c → W64 d → grp L c d = [] → f (klP c d) = none
  yes : ∀ c d, W64 c → W64 d → grp L c d ≠ [] → ∃ v, f (klP c d) = some v ∧ OwnR w base v (grp L c d)
  key : ∀ kl v, f kl = some v → ∃ c d, W64 c ∧ W64 d ∧ kl = klP c d ∧ grp L c d ≠ []
  ap : ∀ k k' v v' g, f k = some v → f k' = some v' → v.ownBlock = some g → v'.ownBlock = some g → k = k'
theorem BP.nil {w : World} {base : Nat} : BP w base [] fun _ => none := ⟨fun _ _ _ _ _ => rfl, fun c d _ _ h => absurd rfl h, (by intro kl v h; cases h), (by intro k k' v v' g h; cases h)⟩
theorem BP.skip {w : World} {base : Nat} {L : List Ru} {f : Lit → Option Value} (h : BP w base L f) {r : Ru} (hr : vR r = zV) : BP w base (L ++ [r]) f := by
  have e : ∀ c d, grp (L ++ [r]) c d = grp L c d := fun c d => by
    rw [grp_snoc]
    unfold atP
    rw [hr]
    simp
  exact ⟨fun c d h1 h2 h3 => h.no c d h1 h2 (by rw [← e]; exact h3), fun c d h1 h2 h3 => by rw [e] at h3 ⊢; exact h.yes c d h1 h2 h3, fun kl v hv => by
    obtain ⟨c, d, h1, h2, h3, h4⟩ := h.key kl v hv
    exact ⟨c, d, h1, h2, h3, by rw [e]; exact h4⟩, h.ap⟩
theorem BP.kept {w w' : World} {base : Nat} {L : List Ru} {f : Lit → Option Value} {row : Option Nat} (h : BP w base L f) (hg : w.grownBy w' row) (hb : ∀ k, row = some k → k < base) : BP w' base L f :=
  ⟨h.no, fun c d h1 h2 h3 => by
    obtain ⟨v, hv, ho⟩ := h.yes c d h1 h2 h3
    refine ⟨v, hv, ho.kept hg ?_⟩
    cases e : v.ownBlock with
    | none => exact .inl rfl
    | some g => exact .inr fun k => by have := (ho.own g e).1; have := hb g k.symm; omega, h.key, h.ap⟩
theorem BP.below {w w' : World} {base : Nat} {L : List Ru} {f : Lit → Option Value} (h : BP w base L f) (hb : Below w.heap.size w w') : BP w' base L f := h.kept (below_grown hb) (by simp)
/-- the slice at a place -/
theorem BP.at {w : World} {base : Nat} {L : List Ru} {f : Lit → Option Value} (h : BP w base L f) {c d : Int} (wc : W64 c) (wd : W64 d) : OwnR w base ((f (klP c d)).getD (.slice none 0 0)) (grp L c d) := by
  by_cases e : grp L c d = []
  · rw [h.no c d wc wd e, e]; exact OwnR.nil _ _
  · obtain ⟨v, hv, ho⟩ := h.yes c d wc wd e
    rw [hv]; exact ho
theorem BP.step {w w' : World} {base : Nat} {L : List Ru} {f : Lit → Option Value} (h : BP w base L f) {r : Ru} (hr : vR r ≠ zV) {v' : Value} (hg : w.grownBy w' ((f (klP r.cl r.cd)).getD (.slice none 0 0)).ownBlock)
    (hv : OwnR w' base v' (grp L r.cl r.cd ++ [r])) (hn : ∀ g, v'.ownBlock = some g → ((f (klP r.cl r.cd)).getD (.slice none 0 0)).ownBlock = some g ∨ w.heap.size ≤ g) : BP w' base (L ++ [r]) (upd f (klP r.cl r.cd) v') := by
  obtain ⟨_, wc, wd, _⟩ := r.wf
  have hkk := keyed_place.key (keyOf_place wc wd)
  have e0 : grp (L ++ [r]) r.cl r.cd = grp L r.cl r.cd ++ [r] := by
    rw [grp_snoc]
    unfold atP
    simp [hr]
  have e1 : ∀ c d, ¬ (c = r.cl ∧ d = r.cd) → grp (L ++ [r]) c d = grp L c d := fun c d hne => by
    rw [grp_snoc]
    unfold atP
    have : (decide (r.cl = c) && decide (r.cd = d)) = false := by
      rw [Bool.eq_false_iff]
      intro k
      simp only [Bool.and_eq_true, decide_eq_true_eq] at k
      exact hne ⟨k.1.symm, k.2.symm⟩
    rw [this, Bool.and_false]
    simp
  have u0 : upd f (klP r.cl r.cd) v' (klP r.cl r.cd) = some v' := by
    unfold upd
    rw [if_pos (WideAt.sameKey_self hkk)]
  have u1 : ∀ kl, kl ≠ klP r.cl r.cd → upd f (klP r.cl r.cd) v' kl = f kl := fun kl hne => by
    unfold upd
    rw [if_neg fun e => hne ((WideAt.sameKey_iff hkk).1 e)]
  have k1 : ∀ c d, W64 c → W64 d → ¬ (c = r.cl ∧ d = r.cd) → klP c d ≠ klP r.cl r.cd := fun c d h1 h2 hne e => hne (klP_inj h1 h2 wc wd e)
  have old : ∀ kl v g, kl ≠ klP r.cl r.cd → f kl = some v → v.ownBlock = some g → ((f (klP r.cl r.cd)).getD (.slice none 0 0)).ownBlock ≠ some g := fun kl v g hne hf hgv e => by
    cases hq : f (klP r.cl r.cd) with
    | none => rw [hq] at e; simp [Value.ownBlock] at e
    | some u =>
      rw [hq] at e
      exact hne (h.ap _ _ _ _ g hf hq hgv e)
  refine ⟨fun c d h1 h2 h3 => ?_, fun c d h1 h2 h3 => ?_, fun kl v hv' => ?_, fun k k' v u g hk hk' hgv hgu => ?_⟩
  · by_cases e : c = r.cl ∧ d = r.cd
    · rw [e.1, e.2, e0] at h3; simp at h3
    · rw [u1 _ (k1 c d h1 h2 e)]
      exact h.no c d h1 h2 (by rw [← e1 c d e]; exact h3)
  · by_cases e : c = r.cl ∧ d = r.cd
    · rw [e.1, e.2, e0]
      exact ⟨v', u0, hv⟩
    · rw [e1 c d e] at h3 ⊢
      obtain ⟨v, hvv, ho⟩ := h.yes c d h1 h2 h3
      refine ⟨v, by rw [u1 _ (k1 c d h1 h2 e)]; exact hvv, ho.kept hg ?_⟩
      cases eo : v.ownBlock with
      | none => exact .inl rfl
      | some g => exact .inr fun k => old _ _ g (k1 c d h1 h2 e) hvv eo k.symm
  · by_cases e : kl = klP r.cl r.cd
    · exact ⟨r.cl, r.cd, wc, wd, e, by rw [e0]; simp⟩
    · rw [u1 _ e] at hv'
      obtain ⟨c, d, h1, h2, h3, h4⟩ := h.key kl v hv'
      refine ⟨c, d, h1, h2, h3, ?_⟩
      rw [grp_snoc]
      simp [h4]
  · have lt : ∀ kl v g, kl ≠ klP r.cl r.cd → f kl = some v → v.ownBlock = some g → g < w.heap.size := fun kl v g hne hf hgv => by
      obtain ⟨c, d, h1, h2, h3, h4⟩ := h.key kl v hf
      obtain ⟨u, hu, ho⟩ := h.yes c d h1 h2 h4
      rw [← h3, hf] at hu
      cases hu
      exact (ho.own g hgv).2
    by_cases e : k = klP r.cl r.cd
    · by_cases e' : k' = klP r.cl r.cd
      · rw [e, e']
      · rw [u1 _ e'] at hk'
        rw [e, u0] at hk
        cases hk
        rcases hn g hgv with hh | hh
        · exact absurd hh (old _ _ g e' hk' hgu)
        · have := lt _ _ g e' hk' hgu; omega
    · rw [u1 _ e] at hk
      by_cases e' : k' = klP r.cl r.cd
      · rw [e', u0] at hk'
        cases hk'
        rcases hn g hgu with hh | hh
        · exact absurd hh (old _ _ g e hk hgv)
        · have := lt _ _ g e hk hgv; omega
      · rw [u1 _ e'] at hk'
        exact h.ap _ _ _ _ g hk hk' hgv hgu
end Go.Proofs.Ytjikbffnhfoikaa
/- byPlace. -/
namespace Go.Proofs.Ytjikbffnhfoikaa
open Go.RowKit Go.Sort Go.Maps
set_option maxRecDepth 100000 in
set_option maxHeartbeats 8000000 in
theorem byPlace_c (v : Value) (L : List Ru) (hl : L.length ≤ 100000) (w : World) (hE : Rus w v L) :
    Calls Try.prog 59 #[v] w fun e w' => ∃ f, e = .returned (.map (some w.heap.size)) ∧ MapR Try.prog 73 w' w.heap.size L.length f ∧ BP w' (w.heap.size + 1) L f ∧ Below w.heap.size w w' := by
  obtain ⟨ao, cap, rfl, hcap, hr⟩ := hE
  have hlen : (L.length : Int) ≤ 100000 := by omega
  have hmm := @run_makeMap Try.prog
  go_enter Try.func59, Try.ntmps59
  go_wp2_with fail
  clear hmm
  go_loopw [10] (fun vi wr => ∃ (i : Nat) (f : Lit → Option Value), i ≤ L.length ∧ vi = .int .i64 i ∧ Hid (Below w.heap.size w wr) ∧ Hid (w.heap.size < wr.heap.size) ∧ Hid (MapR Try.prog 73 wr w.heap.size i f) ∧ Hid (BP wr (w.heap.size + 1) (L.take i) f)) (fun vi _ => L.length - (intOf vi).toNat)
  case atStart =>
    exact ⟨0, _, Nat.zero_le _, rfl, Lib.hid ((Below.refl _ w).alloc (Nat.le_refl _) _), Lib.hid (by simp), Lib.hid (MapR.made w), Lib.hid (by rw [List.take_zero]; exact BP.nil)⟩
  case round =>
    obtain ⟨i, f, hi, rfl, HB, HSZ, HM, HP⟩ := hrel
    by_cases hlt : i < L.length
    · have hlt' : (i : Int) < (L.length : Int) := by omega
      obtain ⟨g, o, rfl, hR⟩ := hr (by rintro rfl; simp at hlt)
      obtain ⟨r, hx⟩ : ∃ x, L[i] = x := ⟨_, rfl⟩
      have hcell := ((hR.keep (HB.out.block g (hR.lt (by rintro rfl; simp at hlt)))).at hlt).facts
      rw [hx] at hcell
      obtain ⟨q0, q1, q2, q3, q4, q5, q6, q7, q8, q9, q10, q11, q12⟩ := hcell
      have HX : Hid (L.take (i + 1) = L.take i ++ [r]) := Lib.hid (by rw [List.take_succ_eq_append_getElem hlt, hx])
      have HB0 := Lib.hid (HB.out.alloc HB.out.size (.cells #[.int .i64 r.k, .int .u64 r.src.a, .int .u64 r.src.b, .int .u64 r.src.c, .int .u64 r.src.d, .int .u64 r.tgt.a, .int .u64 r.tgt.b, .int .u64 r.tgt.c, .int .u64 r.tgt.d, .bool r.self, .int .i64 r.cl, .int .u32 (vI r.pm), .int .i64 r.cd] 27))
      have HM0 := Lib.hid (HM.out.alloc (.cells #[.int .i64 r.k, .int .u64 r.src.a, .int .u64 r.src.b, .int .u64 r.src.c, .int .u64 r.src.d, .int .u64 r.tgt.a, .int .u64 r.tgt.b, .int .u64 r.tgt.c, .int .u64 r.tgt.d, .bool r.self, .int .i64 r.cl, .int .u32 (vI r.pm), .int .i64 r.cd] 27))
      have HP0 := Lib.hid (HP.out.below ((Below.refl _ wr).alloc (Nat.le_refl _) (.cells #[.int .i64 r.k, .int .u64 r.src.a, .int .u64 r.src.b, .int .u64 r.src.c, .int .u64 r.src.d, .int .u64 r.tgt.a, .int .u64 r.tgt.b, .int .u64 r.tgt.c, .int .u64 r.tgt.d, .bool r.self, .int .i64 r.cl, .int .u32 (vI r.pm), .int .i64 r.cd] 27)))
      have HX0 := Lib.hid (Blk.new wr 27 #[.int .i64 r.k, .int .u64 r.src.a, .int .u64 r.src.b, .int .u64 r.src.c, .int .u64 r.src.d, .int .u64 r.tgt.a, .int .u64 r.tgt.b, .int .u64 r.tgt.c, .int .u64 r.tgt.d, .bool r.self, .int .i64 r.cl, .int .u32 (vI r.pm), .int .i64 r.cd])
      clear hx hR HB HM HP
      by_cases hz : vR r = zV
      · have hnb := fun u => neqV_z u
        rw [← hz] at hnb
        go_wp2_with (go_at_call 76; refine (ruleVectors_c r _).mono ?_; rintro e w1 ⟨rfl, hb1⟩; have HB1 := Lib.hid (HB0.out.trans (hb1.mono HB0.out.size)); have HM1 := Lib.hid (HM0.out.below hb1); have HP1 := Lib.hid (HP0.out.below hb1); have HS1 : Hid (w.heap.size < w1.heap.size) := Lib.hid (by have := hb1.size; have := HSZ.out; simp at *; omega); clear hb1)
        go_roundw
        case rel => exact ⟨i + 1, f, hlt, by go_num, HB1, HS1, Lib.hid (HM1.out.mono (Nat.le_succ _)), Lib.hid (by rw [HX.out]; exact HP1.out.skip hz)⟩
        case measure => simp [intOf]; omega
      · have hnb := fun u => neqV_n (vR r) hz u
        have HZ := Lib.hid hz
        clear hz
        go_upto_region 7 with (go_at_call 76; refine (ruleVectors_c r _).mono ?_; rintro e w1 ⟨rfl, hb1⟩; have HB1 := Lib.hid (HB0.out.trans (hb1.mono HB0.out.size)); have HM1 := Lib.hid (HM0.out.below hb1); have HP1 := Lib.hid (HP0.out.below hb1); have HX1 := Lib.hid (HX0.out.keep hb1); have HS1 : Hid (w.heap.size < w1.heap.size) := Lib.hid (by have := hb1.size; have := HSZ.out; simp at *; omega); have HCX := (HX0.out.keep hb1).cell; have x4 := HCX 10; have x6 := HCX 12; clear hb1 HCX)
        obtain ⟨-, wc, wd, -⟩ := r.wf
        have HB2 := Lib.hid (HB1.out.alloc HB1.out.size (.cells #[.int .i64 r.cl, .int .i64 r.cd] 73))
        have HM2 := Lib.hid (HM1.out.alloc (.cells #[.int .i64 r.cl, .int .i64 r.cd] 73))
        have HP2 := Lib.hid (HP1.out.below ((Below.refl _ w1).alloc (Nat.le_refl _) (.cells #[.int .i64 r.cl, .int .i64 r.cd] 73)))
        have HX2 := Lib.hid (HX1.out.alloc (.cells #[.int .i64 r.cl, .int .i64 r.cd] 73))
        have HK2 := Lib.hid (Blk.new w1 73 #[.int .i64 r.cl, .int .i64 r.cd])
        have HS2 : Hid (w.heap.size < (w1.alloc (.cells #[.int .i64 r.cl, .int .i64 r.cd] 73)).heap.size) := Lib.hid (by have := HS1.out; simp; omega)
        clear HB0 HM0 HP0 HX0 HB1 HM1 HP1 HX1 HS1 HSZ hnb q0 q1 q2 q3 q4 q5 q6 q7 q8 q9 q10 q11 q12 x4 x6
        generalize w1.alloc (.cells #[.int .i64 r.cl, .int .i64 r.cd] 73) = W at *
        generalize w1.heap.size = gk at *
        generalize wr.heap.size = gx at *
        obtain ⟨st, w3, hrun, hg3, hs3, hback⟩ := (HM2.out.alloc (.cells #[.int .i64 r.k, .int .u64 r.src.a, .int .u64 r.src.b, .int .u64 r.src.c, .int .u64 r.src.d, .int .u64 r.tgt.a, .int .u64 r.tgt.b, .int .u64 r.tgt.c, .int .u64 r.tgt.d, .bool r.self, .int .i64 r.cl, .int .u32 (vI r.pm), .int .i64 r.cd] 27)).entry law_place Try.underlying110 Try.zeroValue41 (by unfold maxLen; omega) (keyOf_place wc wd)
        have hbr : Below W.heap.size W (W.alloc (.cells #[.int .i64 r.k, .int .u64 r.src.a, .int .u64 r.src.b, .int .u64 r.src.c, .int .u64 r.src.d, .int .u64 r.tgt.a, .int .u64 r.tgt.b, .int .u64 r.tgt.c, .int .u64 r.tgt.d, .bool r.self, .int .i64 r.cl, .int .u32 (vI r.pm), .int .i64 r.cd] 27)) := (Below.refl _ W).alloc (Nat.le_refl _) _
        have hP3 := (HP2.out.below hbr).kept hg3 (fun k e => by cases e; omega)
        have hO3 := hP3.at wc wd
        have hX3 : BoxR w3 W.heap.size r := (hg3.block _ (by simp) (by intro e; have e2 := Option.some.inj e; have := HS2.out; omega)).trans (Blk.new W _ _)
        have hB3 : Below w.heap.size w w3 := below_but (HB2.out.alloc HB2.out.size _) hg3 (Nat.le_refl _)
        obtain ⟨v0, hv0⟩ : ∃ v0, (f (klP r.cl r.cd)).getD (.slice none 0 0) = v0 := ⟨_, rfl⟩
        rw [hv0] at hrun hO3
        obtain ⟨sv, hsv⟩ : ∃ sv, goInt ((st : Nat) : Int) = sv := ⟨_, rfl⟩
        rw [hsv] at hrun
        have HO3 := Lib.hid hO3
        have HX3 := Lib.hid hX3
        have HP3 := Lib.hid hP3
        have HB3 := Lib.hid hB3
        have HV0 := Lib.hid hv0
        have HS3 : Hid (w3.heap.size = W.heap.size + 1) := Lib.hid (by rw [hs3]; simp)
        have HBK : Hid (∀ (w2 : World) (val : Value), w2.heap[w.heap.size]? = w3.heap[w.heap.size]? → ∃ w4, (Instr.entryStore 110 (.map (some w.heap.size)) sv val).run Try.prog w2 = .ok () w4 ∧ MapR Try.prog 73 w4 w.heap.size (i + 1) (upd f (klP r.cl r.cd) val) ∧ w2.grownBy w4 (some w.heap.size) ∧ w4.heap.size = w2.heap.size) := Lib.hid (by rw [← hsv]; exact hback)
        have HGL : Hid ((grp (L.take i) r.cl r.cd).length ≤ 100000) := Lib.hid (Nat.le_trans (List.length_filter_le _ _) (by rw [List.length_take]; omega))
        obtain ⟨ao0, cap0, rfl⟩ := hO3.isSl
        obtain ⟨b0, b1, b2, b3, b4, b5, b6, b7, b8, b9, b10, b11, b12⟩ := BoxR.cells (show BoxR W gx r from HX2.out)
        have hk := HK2.out.cell
        have k0 := hk 0
        have k1 := hk 1
        clear hg3 hs3 hback hbr hP3 hO3 hX3 hB3 hv0 hsv hk HM2 HP2 HB2 HX2 HK2
        go_wp2_with (at_builtin; refine wpList_append_Ru (by rfl) _ _ (by rfl) (w.heap.size + 1) (.slice ao0 (grp (L.take i) r.cl r.cd).length cap0) (grp (L.take i) r.cl r.cd) (grp (L.take i) r.cl r.cd).length rfl (by rfl) HO3.out W.heap.size r (by rfl) HX3.out (by have := HGL.out; omega) (by have := HS3.out; have := HS2.out; omega) ?_; intro g' cap' w6 h1 h2 h3; have hbk : w6.heap[w.heap.size]? = w3.heap[w.heap.size]? := h2.block _ (by have := HS3.out; have := HS2.out; omega) (fun e => by have := (HO3.out.own _ e.symm).1; omega); obtain ⟨w7, hst, hM7, hg7, hs7⟩ := HBK.out w6 (.slice (some ⟨g', 0, none⟩) ((grp (L.take i) r.cl r.cd).length + 1) cap') hbk; have H1 := Lib.hid h1; have H2 := Lib.hid h2; have H3 := Lib.hid h3; have HM7 := Lib.hid hM7; have HG7 := Lib.hid hg7; have HS7 := Lib.hid hs7; clear h1 h2 h3 hbk hM7 hg7 hs7)
        have hP6 := HP3.out.step HZ.out (w' := w6) (v' := .slice (some ⟨g', 0, none⟩) ((grp (L.take i) r.cl r.cd).length + 1) cap') (by rw [HV0.out]; exact H2.out) H1.out (fun q e => by
          rw [HV0.out]
          have e2 : g' = q := by simpa [Value.ownBlock] using e
          subst e2
          exact H3.out.imp id fun h => Nat.le_of_eq h.symm)
        have HP7 : Hid (BP w7 (w.heap.size + 1) (L.take (i + 1)) (upd f (klP r.cl r.cd) (.slice (some ⟨g', 0, none⟩) ((grp (L.take i) r.cl r.cd).length + 1) cap'))) := Lib.hid (by rw [HX.out]; exact hP6.kept HG7.out (fun k e => by cases e; omega))
        have HB6 : Hid (Below w.heap.size w w6) := Lib.hid (HB3.out.grown H2.out HB3.out.size (fun k e => by have := (HO3.out.own k e).1; omega))
        have HB7 : Hid (Below w.heap.size w w7) := Lib.hid (below_but HB6.out HG7.out (Nat.le_refl _))
        have HS8 : Hid (w.heap.size < w7.heap.size) := Lib.hid (by have := HG7.out.size; have := H2.out.size; have := HS3.out; have := HS2.out; omega)
        clear hP6
        go_roundw
        case rel => exact ⟨i + 1, _, hlt, by go_num, HB7, HS8, HM7, HP7⟩
        case measure => simp [intOf]; omega
    · obtain rfl : i = L.length := by omega
      have hlt' : ¬ ((L.length : Nat) : Int) < (L.length : Int) := by omega
      have hP : BP wr (w.heap.size + 1) L f := by have := HP.out; rwa [List.take_length] at this
      go_wp2_with fail
      go_ret
      exact ⟨rfl, f, HM.out, hP, HB.out⟩
end Go.Proofs.Ytjikbffnhfoikaa
/- The sources of rules; a row of vectors; adding a rule to it. -/
namespace Go.Proofs.Ytjikbffnhfoikaa
open Go.RowKit Go.Sort Go.Maps
def srcS (L : List Ru) : S4 := L.foldl (fun s r => s.or r.src) S4.zero
theorem srcS_snoc (L : List Ru) (r : Ru) : srcS (L ++ [r]) = (srcS L).or r.src := by unfold srcS; rw [List.foldl_append]; rfl
theorem srcS_U (L : List Ru) : (srcS L).U := by
  rcases List.eq_nil_or_concat L with rfl | ⟨l, r, rfl⟩
  · exact U_zero
  · rw [List.concat_eq_append, srcS_snoc]; exact U_or _ _
theorem srcS_has (n : Int) : ∀ (k : Nat) (L : List Ru), L.length = k → hasS (srcS L) n = srcB L n
  | 0, L, h => by
    obtain rfl := List.eq_nil_of_length_eq_zero h
    by_cases hn : 0 ≤ n ∧ n < 256
    · have e : n = ((n.toNat : Nat) : Int) := by omega
      rw [e]; exact has_zero (by omega)
    · rw [Bool.eq_false_iff.2 fun h => hn (hasS_in h)]; rfl
  | k + 1, L, h => by
    rcases List.eq_nil_or_concat L with rfl | ⟨l, r, rfl⟩
    · simp at h
    · rw [List.concat_eq_append] at h ⊢
      have ih := srcS_has n k l (by simpa using h)
      rw [srcS_snoc]
      unfold srcB at ih ⊢
      rw [List.any_append, ← ih, List.any_cons, List.any_nil, Bool.or_false]
      by_cases hn : 0 ≤ n ∧ n < 256
      · have e : n = ((n.toNat : Nat) : Int) := by omega
        rw [e]; exact has_or (srcS_U l) r.wf.2.2.2.1 (by omega)
      · have hf : ∀ s : S4, hasS s n = false := fun s => Bool.eq_false_iff.2 fun h => hn (hasS_in h)
        rw [hf, hf, hf]; rfl
set_option maxRecDepth 100000 in
set_option maxHeartbeats 8000000 in
theorem sources_c (v : Value) (L : List Ru) (hl : L.length ≤ 100000) (w : World) (hE : Rus w v L) :
    Calls Try.prog 60 #[v] w fun e w' => e = .returned (.agg #[.int .u64 (srcS L).a, .int .u64 (srcS L).b, .int .u64 (srcS L).c, .int .u64 (srcS L).d]) ∧ Below w.heap.size w w' := by
  obtain ⟨ao, cap, rfl, hcap, hr⟩ := hE
  have hlen : (L.length : Int) ≤ 100000 := by omega
  have HQ1 : Hid (Quad ((w.alloc (.cells #[.int .u64 0, .int .u64 0, .int .u64 0, .int .u64 0] 24)).alloc (.cells #[.int .u64 0, .int .u64 0, .int .u64 0, .int .u64 0] 24)) w.heap.size 0 0 0 0) := Lib.hid ((Quad.new w 0 0 0 0).alloc _)
  have HQ2 : Hid (Quad ((w.alloc (.cells #[.int .u64 0, .int .u64 0, .int .u64 0, .int .u64 0] 24)).alloc (.cells #[.int .u64 0, .int .u64 0, .int .u64 0, .int .u64 0] 24)) (w.heap.size + 1) 0 0 0 0) := Lib.hid (quad_second w)
  have HB0 : Hid (Below w.heap.size w ((w.alloc (.cells #[.int .u64 0, .int .u64 0, .int .u64 0, .int .u64 0] 24)).alloc (.cells #[.int .u64 0, .int .u64 0, .int .u64 0, .int .u64 0] 24))) := Lib.hid below_a2
  have HS0 : Hid (((w.alloc (.cells #[.int .u64 0, .int .u64 0, .int .u64 0, .int .u64 0] 24)).alloc (.cells #[.int .u64 0, .int .u64 0, .int .u64 0, .int .u64 0] 24)).heap.size = w.heap.size + 2) := Lib.hid (by simp)
  go_enter Try.func60, Try.ntmps60
  go_wp2_with fail
  generalize (w.alloc (.cells #[.int .u64 0, .int .u64 0, .int .u64 0, .int .u64 0] 24)).alloc (.cells #[.int .u64 0, .int .u64 0, .int .u64 0, .int .u64 0] 24) = W at *
  go_loopw [8] (fun vi wr => ∃ (i : Nat) (X : S4), i ≤ L.length ∧ vi = .int .i64 i ∧ Hid (But W.heap.size (w.heap.size + 1) W wr) ∧ Hid (srcS (L.take i) = X) ∧ Hid (Quad wr (w.heap.size + 1) X.a X.b X.c X.d)) (fun vi _ => L.length - (intOf vi).toNat)
  case atStart => exact ⟨0, S4.zero, Nat.zero_le _, rfl, Lib.hid But.refl, Lib.hid (by rw [List.take_zero]; rfl), HQ2⟩
  case round =>
    obtain ⟨i, X, hi, rfl, HK, HX, HQ⟩ := hrel
    have HKw : Hid (Below w.heap.size w wr) := Lib.hid (HB0.out.trans ((HK.out.mono (by have := HS0.out; omega)).to_below (Nat.le_succ _)))
    have HSZ : Hid (w.heap.size + 2 ≤ wr.heap.size) := Lib.hid (by have := HK.out.size; have := HS0.out; omega)
    by_cases hlt : i < L.length
    · have hlt' : (i : Int) < (L.length : Int) := by omega
      obtain ⟨g, o, rfl, hR⟩ := hr (by rintro rfl; simp at hlt)
      obtain ⟨r, hx⟩ : ∃ x, L[i] = x := ⟨_, rfl⟩
      have hcell := ((hR.keep (HKw.out.block g (hR.lt (by rintro rfl; simp at hlt)))).at hlt).facts
      rw [hx] at hcell
      obtain ⟨q0, q1, q2, q3, q4, q5, q6, q7, q8, q9, q10, q11, q12⟩ := hcell
      have HX2 : Hid (srcS (L.take (i + 1)) = X.or r.src) := Lib.hid (by rw [List.take_succ_eq_append_getElem hlt, hx, srcS_snoc, HX.out])
      have hQa := HQ.out.alloc (.cells #[.int .i64 r.k, .int .u64 r.src.a, .int .u64 r.src.b, .int .u64 r.src.c, .int .u64 r.src.d, .int .u64 r.tgt.a, .int .u64 r.tgt.b, .int .u64 r.tgt.c, .int .u64 r.tgt.d, .bool r.self, .int .i64 r.cl, .int .u32 (vI r.pm), .int .i64 r.cd] 27)
      have HQa := Lib.hid hQa
      have HKa := Lib.hid (HK.out.alloc (by have := HSZ.out; have := HS0.out; omega) (.cells #[.int .i64 r.k, .int .u64 r.src.a, .int .u64 r.src.b, .int .u64 r.src.c, .int .u64 r.src.d, .int .u64 r.tgt.a, .int .u64 r.tgt.b, .int .u64 r.tgt.c, .int .u64 r.tgt.d, .bool r.self, .int .i64 r.cl, .int .u32 (vI r.pm), .int .i64 r.cd] 27))
      obtain ⟨c0, c1, c2, c3, f0, f1, f2, f3⟩ := hQa.facts
      clear hx hR hQa HX HK HQ
      go_wp2_with (go_at_call 77; refine (union_c X.a X.b X.c X.d r.src.a r.src.b r.src.c r.src.d _).mono ?_; rintro e w1 ⟨rfl, hb1⟩; have hQ1 := HQa.out.below hb1 (by have := HSZ.out; simp; omega); have HQb := Lib.hid hQ1; have HKb := Lib.hid (HKa.out.below (hb1.mono (by have := HSZ.out; have := HS0.out; simp; omega))); have hq := hQ1.facts; obtain ⟨d0, d1, d2, d3, e0, e1, e2, e3⟩ := hq; clear hb1 hQ1)
      go_roundw
      case rel => exact ⟨i + 1, X.or r.src, hlt, by go_num, Lib.hid ((((HKb.out.setCell (p := ⟨w.heap.size + 1, 0, none⟩) (.inl rfl) _).setCell (p := ⟨w.heap.size + 1, 1, none⟩) (.inl rfl) _).setCell (p := ⟨w.heap.size + 1, 2, none⟩) (.inl rfl) _).setCell (p := ⟨w.heap.size + 1, 3, none⟩) (.inl rfl) _), HX2, Lib.hid (HQb.out.set4 _ _ _ _)⟩
      case measure => simp [intOf]; omega
    · obtain rfl : i = L.length := by omega
      have hlt' : ¬ ((L.length : Nat) : Int) < (L.length : Int) := by omega
      obtain rfl : srcS L = X := by have := HX.out; rwa [List.take_length] at this
      have HQ1r : Hid (Quad wr w.heap.size 0 0 0 0) := Lib.hid (HK.out.blk HQ1.out (by have := HS0.out; omega) (by omega))
      obtain ⟨c0, c1, c2, c3⟩ := quad_box HQ.out
      obtain ⟨d0, d1, d2, d3, f0, f1, f2, f3⟩ := HQ1r.out.facts
      go_wp2_with fail
      obtain ⟨r0, r1, r2, r3⟩ := quad_box (HQ1r.out.set4 (srcS L).a (srcS L).b (srcS L).c (srcS L).d)
      exact bodyPost_ret (v := .agg #[.int .u64 (srcS L).a, .int .u64 (srcS L).b, .int .u64 (srcS L).c, .int .u64 (srcS L).d]) (by simp [results, Try.results60, go_sem, r0, r1, r2, r3]) rfl ⟨rfl, below_set4 HKw.out (Nat.le_refl _) _ _ _ _⟩
end Go.Proofs.Ytjikbffnhfoikaa
/- Regions that draw their order: a head whose slots have properties, and a chained tail. -/
namespace Go.Proofs.Ytjikbffnhfoikaa
open Go.RowKit
theorem fact_none {ops : Array Oper} {n t : Nat} {Φ : Nat → Value → World → Prop} {a0 A : Act} {o : Oper} {w : World} (h : factAt ops n Φ a0 o A w t) (hs : srcOf ops n t = none) : A.tmps[t]?.getD undef = a0.eval (.tmp t) := by
  unfold factAt at h; rw [hs] at h; simpa [Act.eval] using h
theorem fact_some {ops : Array Oper} {n t j : Nat} {Φ : Nat → Value → World → Prop} {a0 A : Act} {o : Oper} {w : World} (h : factAt ops n Φ a0 o A w t) (hs : srcOf ops n t = some j) (hw : waitsOn o j = true) : Φ j (A.tmps[t]?.getD undef) w := by
  unfold factAt at h; rw [hs] at h; have h2 := h hw; rwa [show A.eval (.tmp t) = A.tmps[t]?.getD undef by simp [Act.eval]] at h2
def obsL (P : Program) (ops : Array Oper) (n : Nat) (W : World) (a0 : Act) (Φ : Nat → Value → World → Prop) : Nat → List Oper → Prop
  | _, [] => True
  | k, o :: r => obOf P ops n W a0 Φ k o ∧ obsL P ops n W a0 Φ (k + 1) r
theorem obs_at {P : Program} {ops : Array Oper} {n : Nat} {W : World} {a0 : Act} {Φ : Nat → Value → World → Prop} : ∀ {l : List Oper} {k : Nat}, obsL P ops n W a0 Φ k l → ∀ i o, l[i]? = some o → obOf P ops n W a0 Φ (k + i) o
  | [], _, _, i, o, h => by simp at h
  | x :: l, k, h, 0, o, ho => by
    obtain rfl : x = o := by simpa using ho
    exact h.1
  | x :: l, k, h, i + 1, o, ho => by
    have := obs_at h.2 i o (by simpa using ho)
    rwa [show k + (i + 1) = k + 1 + i by omega]
theorem wp_region_obs {P : Program} {id : Nat} {Q : Exit → Act → World → Prop} {a0 : Act} {W : World} {l : List Oper} (Φ : Nat → Value → World → Prop) (hm : P.follows .mixedOrders = true)
    (hB : phiB l.toArray l.toArray.size a0.tmps.size = true) (hst : ∀ i v w w', Φ i v w → Below w.heap.size w w' → Φ i v w')
    (ob : obsL P l.toArray l.toArray.size W a0 Φ 0 l)
    (h : ∀ a w, Kp W w → a.tmps.size = a0.tmps.size → a.defers = a0.defers → (∀ t, factEnd l.toArray l.toArray.size Φ a0 a w t) → Q .normal a w) : (Code.region id l.toArray true).wp P Q a0 W :=
  wp_region_phi Φ hm hB hst (fun i o _ ho => by have := obs_at ob i o (by simpa using ho); rwa [Nat.zero_add] at this) h
def cutL (a : Act) (lo hi : Nat) : Nat → List Value → List Value
  | _, [] => []
  | t, v :: l => (bif Nat.ble lo t && Nat.ble t hi then a.tmps[t]?.getD undef else v) :: cutL a lo hi (t + 1) l
theorem cutL_eq (a : Act) (lo hi : Nat) : ∀ (l : List Value) (t : Nat) (m : List Value), m.length = l.length → (∀ k (h : k < m.length), a.tmps[t + k]? = some m[k]) → (∀ k (h : k < l.length) (h' : k < m.length), (Nat.ble lo (t + k) && Nat.ble (t + k) hi) = false → m[k] = l[k]) → m = cutL a lo hi t l
  | [], _, m, hm, _, _ => List.eq_nil_of_length_eq_zero hm
  | v :: l, t, [], hm, _, _ => by simp at hm
  | v :: l, t, x :: m, hm, hg, hs => by
    have h0 := hg 0 (by simp)
    unfold cutL
    congr 1
    · cases hb : (Nat.ble lo t && Nat.ble t hi)
      · exact hs 0 (by simp) (by simp) hb
      · simp only [cond_true]
        have h0' : a.tmps[t]? = some x := h0
        rw [h0']; rfl
    · refine cutL_eq a lo hi l (t + 1) m (by simpa using hm) (fun k h => ?_) (fun k h h' hb => ?_)
      · have := hg (k + 1) (by simpa using h)
        rwa [show t + (k + 1) = t + 1 + k by omega] at this
      · have := hs (k + 1) (by simpa using h) (by simpa using h') (by rwa [show t + (k + 1) = t + 1 + k by omega])
        simpa using this
theorem act_ext {a : Act} {t : Array Value} {d : List Deferred} (h1 : a.tmps = t) (h2 : a.defers = d) : a = { tmps := t, defers := d } := by subst h1 h2; rfl
theorem end_cut {ops : Array Oper} {n : Nat} {Φ : Nat → Value → World → Prop} {a0 a : Act} {w : World} (lo hi : Nat) (hs : a.tmps.size = a0.tmps.size) (hd : a.defers = a0.defers) (hF : ∀ t, factEnd ops n Φ a0 a w t)
    (hB : ((List.range a0.tmps.size).all fun t => (Nat.ble lo t && Nat.ble t hi) || (srcOf ops n t).isNone) = true) : a = { tmps := (cutL a lo hi 0 a0.tmps.toList).toArray, defers := a0.defers } := by
  have e : a.tmps = (cutL a lo hi 0 a0.tmps.toList).toArray := by
    have e2 : a.tmps.toList = cutL a lo hi 0 a0.tmps.toList := by
      refine cutL_eq a lo hi _ 0 _ (by simpa using hs) (fun k h => ?_) (fun k h h' hb => ?_)
      · have h2 : k < a.tmps.size := by simpa using h
        rw [Nat.zero_add, Array.getElem?_eq_getElem h2]
        simp
      · rw [Nat.zero_add] at hb
        have h1 : k < a0.tmps.size := by simpa using h
        have h2 : k < a.tmps.size := by simpa using h'
        have := List.all_eq_true.1 hB k (List.mem_range.2 h1)
        rw [hb, Bool.false_or] at this
        have hn : srcOf ops n k = none := by
          cases hc : srcOf ops n k with
          | none => rfl
          | some j => rw [hc] at this; cases this
        have hk := hF k
        unfold factEnd at hk
        rw [hn] at hk
        have hk2 : a.tmps[k]?.getD undef = a0.tmps[k]?.getD undef := by simpa [Act.eval] using hk
        rw [Array.getElem?_eq_getElem h1, Array.getElem?_eq_getElem h2] at hk2
        simpa using hk2
    rw [← e2]
  exact act_ext e hd
/-- whether an operation waits for another one, directly or over others -/
def reachB (md : Region.Mode) (ops : Array Oper) (i : Nat) : Nat → Nat → Bool
  | 0, _ => false
  | f + 1, t => match ops[t]? with
    | some o => o.after.any fun e => Region.binds md e && (e.on == i || reachB md ops i f e.on)
    | none => false
theorem reach_listed {md : Region.Mode} {ops : Array Oper} {i : Nat} {listed : Array Bool} (inv : ∀ j oj, ops[j]? = some oj → listed.getD j false = true → ∀ e ∈ oj.after, Region.binds md e = true → listed.getD e.on false = true) : ∀ (f t : Nat), (∀ o, ops[t]? = some o → ∀ e ∈ o.after, Region.binds md e = true → listed.getD e.on false = true) → reachB md ops i f t = true → listed.getD i false = true
  | 0, _, _, h => by cases h
  | f + 1, t, ht, h => by
    unfold reachB at h
    split at h
    · rename_i o ho
      obtain ⟨e, he, hb⟩ := Array.any_eq_true'.1 h
      simp only [Bool.and_eq_true, Bool.or_eq_true, beq_iff_eq] at hb
      have h1 := ht o ho e he hb.1
      rcases hb.2 with h2 | h2
      · rw [← h2]; exact h1
      · exact reach_listed inv f e.on (fun o' ho' e' he' hb' => inv e.on o' ho' h1 e' he' hb') h2
    · cases h
def sinkT (ops : Array Oper) (n : Nat) : Bool :=
  (List.range ops.size).all fun t => decide (t < n) || (List.range n).all fun i => reachB .any ops i ops.size t
def doneA (n m : Nat) : Array Bool := ((List.replicate n true) ++ (List.replicate m false)).toArray
theorem wp_region_phit {P : Program} {id : Nat} {Q : Exit → Act → World → Prop} {a0 : Act} {W : World} {l : List Oper} (n : Nat) (Φ : Nat → Value → World → Prop) (hm : P.follows .mixedOrders = true) (hn : n ≤ l.length)
    (hB : phiB l.toArray n a0.tmps.size = true) (hs : sinkT l.toArray n = true) (hseq : Region.seqB .any l.toArray (l.length - n) n (doneA n (l.length - n)) = true)
    (hst : ∀ i v w w', Φ i v w → Below w.heap.size w w' → Φ i v w') (ob : obsL P l.toArray n W a0 Φ 0 (l.take n))
    (h : ∀ a w, Kp W w → a.tmps.size = a0.tmps.size → a.defers = a0.defers → (∀ t, factEnd l.toArray n Φ a0 a w t) → wpList P l.toArray Q (l.drop n) a w) : (Code.region id l.toArray true).wp P Q a0 W := by
  refine wp_region_any hm ?_
  have hsz : l.toArray.size = n + (l.length - n) := by simp; omega
  have hready : ∀ listed, HeadInv .any l.toArray n listed → (∃ i, i < n ∧ listed.getD i true = false) → ∀ t, n ≤ t → t ∉ Region.ready .any l.toArray listed := fun listed inv ⟨i, hi, hun⟩ t ht hr => by
    obtain ⟨_, ot, hot, hall⟩ := mem_ready.1 hr
    have htlt : t < l.toArray.size := (Array.getElem?_eq_some_iff.1 hot).1
    have h1 := List.all_eq_true.1 hs t (List.mem_range.2 htlt)
    simp only [Bool.or_eq_true, decide_eq_true_eq] at h1
    rcases h1 with h1 | h1
    · omega
    · have h2 := List.all_eq_true.1 h1 i (List.mem_range.2 hi)
      have h3 := reach_listed inv.closed l.toArray.size t (fun o ho e he hb => by
        obtain rfl : o = ot := Option.some.inj (ho.symm.trans hot)
        exact hall e he hb) h2
      rw [getD_both hun] at h3
      cases h3
  have := phi_head (P := P) (Q := Q) (g := l.length - n) (W := W) (a0 := a0) hB hst (fun i o hi ho => by
      have h1 : (l.take n)[i]? = some o := by rw [List.getElem?_take_of_lt hi]; simpa using ho
      have := obs_at ob i o h1
      rwa [Nat.zero_add] at this) hready (fun listed a w hv hi hall => by
    have hl : listed = doneA n (l.length - n) := by
      refine Array.ext (by rw [hi.size, hsz]; simp [doneA]) fun k hk hk2 => ?_
      rcases Nat.lt_or_ge k n with hkn | hkn
      · have h1 := hall k hkn
        simp only [Array.getD_eq_getD_getElem?, Array.getElem?_eq_getElem hk, Option.getD_some] at h1
        rw [h1]
        simp [doneA, hkn]
      · have h1 := hi.tail k hkn (by rw [← hi.size]; exact hk)
        simp only [Array.getD_eq_getD_getElem?, Array.getElem?_eq_getElem hk, Option.getD_some] at h1
        rw [h1]
        simp [doneA, List.getElem_append, Nat.not_lt.2 hkn]
    subst hl
    have hw := h a w hv.kp hv.size hv.defers fun t => by
      unfold factEnd
      cases hs : srcOf l.toArray n t with
      | none => exact hv.out t hs
      | some j =>
        obtain ⟨hjn, oj, hoj, hdj⟩ := srcOf_some hs
        refine hv.phi j oj t hjn hoj hdj ?_
        have h1 := hall j hjn
        have h2 : j < (doneA n (l.length - n)).size := by simp [doneA]; omega
        simp only [Array.getD_eq_getD_getElem?, Array.getElem?_eq_getElem h2, Option.getD_some] at h1 ⊢
        exact h1
    have hd : (l.drop n).length = l.length - n := by simp
    have := wpAny_of_seq (md := .any) (Q' := Q) (l.drop n) n (doneA n (l.length - n)) a w (fun j => by simp [List.getElem?_drop]) (by rw [hd]; exact hseq) hw
    rwa [hd] at this) n (Array.replicate l.toArray.size false) a0 { W with drawn := W.drawn + 1 }
    ⟨by simp, fun j oj _ hl => (by rw [getD_replicate_false] at hl; cases hl), fun t ht ht' => getD_in (by simpa using ht') (getD_replicate_false _ _)⟩
    ⟨(Below.refl _ _).drew, rfl, rfl, fun _ _ => rfl, fun j oj t _ _ _ hl => (by rw [getD_replicate_false] at hl; cases hl)⟩ (by
      unfold cntU
      rw [List.countP_eq_length.2 fun i hi => by
        rw [getD_in (by have := List.mem_range.1 hi; simp; omega) (getD_replicate_false _ _)]; rfl]
      simp)
  rw [hsz]
  rw [hsz] at this
  exact this
theorem cutL_nil (a : Act) (lo hi t : Nat) : cutL a lo hi t [] = [] := rfl
theorem cutL_cons (a : Act) (lo hi t : Nat) (v : Value) (l : List Value) : cutL a lo hi t (v :: l) = (if lo ≤ t ∧ t ≤ hi then a.tmps[t]?.getD undef else v) :: cutL a lo hi (t + 1) l := by
  have e : (bif Nat.ble lo t && Nat.ble t hi then a.tmps[t]?.getD undef else v) = (if lo ≤ t ∧ t ≤ hi then a.tmps[t]?.getD undef else v) := by
    by_cases h : lo ≤ t ∧ t ≤ hi
    · rw [if_pos h, Nat.ble_eq_true_of_le h.1, Nat.ble_eq_true_of_le h.2]; rfl
    · rw [if_neg h]
      cases hb : (Nat.ble lo t && Nat.ble t hi)
      · rfl
      · rw [Bool.and_eq_true] at hb
        exact absurd ⟨Nat.le_of_ble_eq_true hb.1, Nat.le_of_ble_eq_true hb.2⟩ h
  show (bif Nat.ble lo t && Nat.ble t hi then a.tmps[t]?.getD undef else v) :: cutL a lo hi (t + 1) l = _
  rw [e]
theorem fact_end {ops : Array Oper} {n t j : Nat} {Φ : Nat → Value → World → Prop} {a0 a : Act} {w : World} (h : factEnd ops n Φ a0 a w t) (hs : srcOf ops n t = some j) : Φ j (a.tmps[t]?.getD undef) w := by
  unfold factEnd at h; rw [hs] at h; rwa [show a.eval (.tmp t) = a.tmps[t]?.getD undef by simp [Act.eval]] at h
theorem gives_val {P : Program} {w w' : World} {u : Value} {φ : Value → World → Prop} (hb : Below w.heap.size w w') (h : φ u w') : GivesR P w φ (.ok (.value u) w') := ⟨hb, h⟩
theorem gives_enter {P : Program} {w : World} {f : FuncId} {args : Array Value} {φ : Value → World → Prop} (h : Calls P f args w fun e w'' => ∃ v, e = .returned v ∧ Below w.heap.size w w'' ∧ φ v w'') : GivesR P w φ (.ok (.enter f args) w) := ⟨rfl, h⟩
end Go.Proofs.Ytjikbffnhfoikaa
/- A row of vectors; adding a rule to it. -/
namespace Go.Proofs.Ytjikbffnhfoikaa
open Go.RowKit Go.Sort Go.Maps
/-- a row of 256 vectors in block g -/
def RowV (w : World) (g : Nat) (f : Nat → V) : Prop := ∃ cur, Blk w g 109 cur ∧ cur.size = 768 ∧ ∀ t, t < 256 → cur[t * 3]? = some (.int .u32 (vI (f t).p)) ∧ cur[t * 3 + 1]? = some (.int .u32 (vI (f t).q)) ∧ cur[t * 3 + 2]? = some (.int .u32 (vI (f t).r))
theorem RowV.lt {w : World} {g : Nat} {f : Nat → V} (h : RowV w g f) : g < w.heap.size := by
  obtain ⟨cur, h, _⟩ := h
  exact h.lt
theorem RowV.of {w w' : World} {g : Nat} {f : Nat → V} (h : RowV w g f) (hb : w'.heap[g]? = w.heap[g]?) : RowV w' g f := by
  obtain ⟨cur, h1, h2⟩ := h
  exact ⟨cur, hb.trans h1, h2⟩
theorem RowV.below {w w' : World} {g : Nat} {f : Nat → V} (h : RowV w g f) (hb : Below w.heap.size w w') : RowV w' g f := h.of (hb.block g h.lt)
theorem RowV.alloc {w : World} {g : Nat} {f : Nat → V} (h : RowV w g f) (o : Obj) : RowV (w.alloc o) g f := h.below ((Below.refl _ _).alloc (Nat.le_refl _) _)
theorem RowV.cells {w : World} {g : Nat} {f : Nat → V} (h : RowV w g f) {t : Nat} (ht : t < 256) : w.cell? ⟨g, t * 3, none⟩ = some (.int .u32 (vI (f t).p)) ∧ w.cell? ⟨g, t * 3 + 1, none⟩ = some (.int .u32 (vI (f t).q)) ∧ w.cell? ⟨g, t * 3 + 2, none⟩ = some (.int .u32 (vI (f t).r)) ∧ ∀ k, w.frozen? ⟨g, k, none⟩ = false := by
  obtain ⟨cur, h1, h2, h3⟩ := h
  obtain ⟨a, b, c⟩ := h3 t ht
  exact ⟨(h1.cell _).trans a, (h1.cell _).trans b, (h1.cell _).trans c, fun k => h1.frozen k⟩
theorem RowV.set {w : World} {g : Nat} {f : Nat → V} (h : RowV w g f) {t : Nat} (ht : t < 256) (v : V) :
    RowV (((w.setCell ⟨g, t * 3, none⟩ (.int .u32 (vI v.p))).setCell ⟨g, t * 3 + 1, none⟩ (.int .u32 (vI v.q))).setCell ⟨g, t * 3 + 2, none⟩ (.int .u32 (vI v.r))) g (fun k => if k = t then v else f k) := by
  obtain ⟨cur, h1, h2, h3⟩ := h
  refine ⟨_, ((h1.set (t * 3) _).set (t * 3 + 1) _).set (t * 3 + 2) _, by simp [h2], fun k hk => ?_⟩
  by_cases e : k = t
  · subst e
    dsimp only
    rw [if_pos rfl]
    refine ⟨?_, ?_, ?_⟩
    · rw [Array.getElem?_setIfInBounds_ne (by omega), Array.getElem?_setIfInBounds_ne (by omega), Array.getElem?_setIfInBounds_self_of_lt (by omega)]
    · rw [Array.getElem?_setIfInBounds_ne (by omega), Array.getElem?_setIfInBounds_self_of_lt (by simp; omega)]
    · rw [Array.getElem?_setIfInBounds_self_of_lt (by simp; omega)]
  · dsimp only
    rw [if_neg e]
    obtain ⟨a, b, c⟩ := h3 k hk
    refine ⟨?_, ?_, ?_⟩
    · rw [Array.getElem?_setIfInBounds_ne (by omega), Array.getElem?_setIfInBounds_ne (by omega), Array.getElem?_setIfInBounds_ne (by omega)]; exact a
    · rw [Array.getElem?_setIfInBounds_ne (by omega), Array.getElem?_setIfInBounds_ne (by omega), Array.getElem?_setIfInBounds_ne (by omega)]; exact b
    · rw [Array.getElem?_setIfInBounds_ne (by omega), Array.getElem?_setIfInBounds_ne (by omega), Array.getElem?_setIfInBounds_ne (by omega)]; exact c
theorem RowV.fn {w : World} {g : Nat} {f f' : Nat → V} (h : RowV w g f) (e : ∀ t, t < 256 → f t = f' t) : RowV w g f' := by
  obtain ⟨cur, h1, h2, h3⟩ := h
  exact ⟨cur, h1, h2, fun t ht => by rw [← e t ht]; exact h3 t ht⟩
theorem tgtS_has (r : Ru) {s : Int} (hs : 0 ≤ s ∧ s < 256) (t : Int) : hasS (tgtS r s) t = prB r s t := by
  unfold tgtS prB
  cases hself : r.self
  · simp
  · simp only [if_true, Bool.true_and]
    rw [has_withI hs r.wf.2.2.2.2]
    congr 1
    exact decide_eq_decide.2 eq_comm
/-- with a rule's vectors at its targets -/
def addF (r : Ru) (s : Int) (f : Nat → V) (t : Nat) : V := if prB r s t = true then orV (f t) (vR r) else f t
def addK (r : Ru) (s : Int) (f : Nat → V) (k t : Nat) : V := if t < k then addF r s f t else f t
def addPhi (W0 : World) (r : Ru) (s : Int) (q : Nat) (v : Value) (wq : World) : Prop := match q with
  | 0 => v = .agg #[.int .i64 r.k, .int .u64 r.src.a, .int .u64 r.src.b, .int .u64 r.src.c, .int .u64 r.src.d, .int .u64 r.tgt.a, .int .u64 r.tgt.b, .int .u64 r.tgt.c, .int .u64 r.tgt.d, .bool r.self, .int .i64 r.cl, .int .u32 (vI r.pm), .int .i64 r.cd]
  | 1 => v = .agg #[.int .u32 (vI (vR r).p), .int .u32 (vI (vR r).q), .int .u32 (vI (vR r).r)]
  | 2 => v = .agg #[.int .i64 r.k, .int .u64 r.src.a, .int .u64 r.src.b, .int .u64 r.src.c, .int .u64 r.src.d, .int .u64 r.tgt.a, .int .u64 r.tgt.b, .int .u64 r.tgt.c, .int .u64 r.tgt.d, .bool r.self, .int .i64 r.cl, .int .u32 (vI r.pm), .int .i64 r.cd]
  | 3 => v = .int .i64 s
  | 4 => v = .agg #[.int .u64 (tgtS r s).a, .int .u64 (tgtS r s).b, .int .u64 (tgtS r s).c, .int .u64 (tgtS r s).d]
  | 5 => ∃ g, v = .pointer (some ⟨g, 0, none⟩) ∧ W0.heap.size ≤ g ∧ Blk wq g 76 #[.int .u32 0, .int .u32 0, .int .u32 0]
  | 6 => ∃ g, v = .pointer (some ⟨g, 0, none⟩) ∧ W0.heap.size ≤ g ∧ Blk wq g 24 #[.int .u64 0, .int .u64 0, .int .u64 0, .int .u64 0]
  | _ => True
theorem addPhi_keep {W0 : World} {r : Ru} {s : Int} {q : Nat} {v : Value} {w w' : World} (h : addPhi W0 r s q v w) (hb : Below w.heap.size w w') : addPhi W0 r s q v w' := by
  unfold addPhi at h ⊢
  split at h
  · exact h
  · exact h
  · exact h
  · exact h
  · exact h
  · obtain ⟨g, h1, h2, h3⟩ := h
    exact ⟨g, h1, h2, h3.keep hb⟩
  · obtain ⟨g, h1, h2, h3⟩ := h
    exact ⟨g, h1, h2, h3.keep hb⟩
  · trivial
set_option maxRecDepth 100000 in
set_option maxHeartbeats 8000000 in
theorem add_c (g : Nat) (r : Ru) (s : Int) (hs : 0 ≤ s ∧ s < 256) (f : Nat → V) (w : World) (hR : RowV w g f) :
    Calls Try.prog 61 #[.pointer (some ⟨g, 0, none⟩), .agg #[.int .i64 r.k, .int .u64 r.src.a, .int .u64 r.src.b, .int .u64 r.src.c, .int .u64 r.src.d, .int .u64 r.tgt.a, .int .u64 r.tgt.b, .int .u64 r.tgt.c, .int .u64 r.tgt.d, .bool r.self, .int .i64 r.cl, .int .u32 (vI r.pm), .int .i64 r.cd], .int .i64 s] w fun e w' => e = .returned (.tuple #[]) ∧ RowV w' g (addF r s f) ∧ But w.heap.size g w w' := by
  have hglt := hR.lt
  have HT := Lib.hid (fun (t : Nat) => tgtS_has r hs t)
  have HX0 : Hid (BoxR (w.alloc (.cells #[.int .i64 r.k, .int .u64 r.src.a, .int .u64 r.src.b, .int .u64 r.src.c, .int .u64 r.src.d, .int .u64 r.tgt.a, .int .u64 r.tgt.b, .int .u64 r.tgt.c, .int .u64 r.tgt.d, .bool r.self, .int .i64 r.cl, .int .u32 (vI r.pm), .int .i64 r.cd] 27)) w.heap.size r) := Lib.hid (Blk.new w _ _)
  have HB0 : Hid (Below w.heap.size w (w.alloc (.cells #[.int .i64 r.k, .int .u64 r.src.a, .int .u64 r.src.b, .int .u64 r.src.c, .int .u64 r.src.d, .int .u64 r.tgt.a, .int .u64 r.tgt.b, .int .u64 r.tgt.c, .int .u64 r.tgt.d, .bool r.self, .int .i64 r.cl, .int .u32 (vI r.pm), .int .i64 r.cd] 27))) := Lib.hid ((Below.refl _ _).alloc (Nat.le_refl _) _)
  have HR0 := Lib.hid (hR.alloc (.cells #[.int .i64 r.k, .int .u64 r.src.a, .int .u64 r.src.b, .int .u64 r.src.c, .int .u64 r.src.d, .int .u64 r.tgt.a, .int .u64 r.tgt.b, .int .u64 r.tgt.c, .int .u64 r.tgt.d, .bool r.self, .int .i64 r.cl, .int .u32 (vI r.pm), .int .i64 r.cd] 27))
  have HG := Lib.hid hglt
  clear hR hglt
  go_enter Try.func61, Try.ntmps61
  go_upto_region 1 with (fail)
  generalize w.alloc (.cells #[.int .i64 r.k, .int .u64 r.src.a, .int .u64 r.src.b, .int .u64 r.src.c, .int .u64 r.src.d, .int .u64 r.tgt.a, .int .u64 r.tgt.b, .int .u64 r.tgt.c, .int .u64 r.tgt.d, .bool r.self, .int .i64 r.cl, .int .u32 (vI r.pm), .int .i64 r.cd] 27) = W0 at *
  generalize hgx : w.heap.size = gx at *
  have HWG : Hid (g < W0.heap.size) := Lib.hid HR0.out.lt
  have HWX : Hid (gx ≤ W0.heap.size) := Lib.hid (by have := HB0.out.size; omega)
  refine wp_region_phit 7 (addPhi W0 r s) (by kernel_rfl) (by decide) (by kernel_rfl) (by kernel_rfl) (by kernel_rfl) (fun q v w1 w2 h hb => addPhi_keep h hb) ?_ ?_
  · refine ⟨⟨trivial, fun A v hK hF => ?_⟩, ⟨trivial, fun A v hK hF => ?_⟩, ⟨trivial, fun A v hK hF => ?_⟩, ⟨trivial, fun A v hK hF => ?_⟩, ⟨trivial, fun A v hK hF => ?_⟩, ⟨trivial, fun A v hK hF => ?_⟩, ⟨trivial, fun A v hK hF => ?_⟩, trivial⟩
    · have f4 : A.tmps[4]?.getD undef = .pointer (some ⟨gx, 0, none⟩) := fact_none (hF 4) (by kernel_rfl)
      obtain ⟨b0, b1, b2, b3, b4, b5, b6, b7, b8, b9, b10, b11, b12⟩ := BoxR.cells (show BoxR _ gx r from hK.blk HX0.out)
      unfold Gives
      go_simp
      exact gives_val (Below.refl _ _) rfl
    · have f9 : A.tmps[9]?.getD undef = .agg #[.int .i64 r.k, .int .u64 r.src.a, .int .u64 r.src.b, .int .u64 r.src.c, .int .u64 r.src.d, .int .u64 r.tgt.a, .int .u64 r.tgt.b, .int .u64 r.tgt.c, .int .u64 r.tgt.d, .bool r.self, .int .i64 r.cl, .int .u32 (vI r.pm), .int .i64 r.cd] := fact_some (hF 9) (j := 0) (by kernel_rfl) (by kernel_rfl)
      unfold Gives
      go_simp
      exact gives_enter ((ruleVectors_c r _).mono fun _ _ ⟨he, hb⟩ => ⟨_, he, hb, rfl⟩)
    · have f4 : A.tmps[4]?.getD undef = .pointer (some ⟨gx, 0, none⟩) := fact_none (hF 4) (by kernel_rfl)
      obtain ⟨b0, b1, b2, b3, b4, b5, b6, b7, b8, b9, b10, b11, b12⟩ := BoxR.cells (show BoxR _ gx r from hK.blk HX0.out)
      unfold Gives
      go_simp
      exact gives_val (Below.refl _ _) rfl
    · have f2 : A.tmps[2]?.getD undef = .int .i64 s := fact_none (hF 2) (by kernel_rfl)
      unfold Gives
      go_simp
      exact gives_val (Below.refl _ _) rfl
    · have f11 : A.tmps[11]?.getD undef = .agg #[.int .i64 r.k, .int .u64 r.src.a, .int .u64 r.src.b, .int .u64 r.src.c, .int .u64 r.src.d, .int .u64 r.tgt.a, .int .u64 r.tgt.b, .int .u64 r.tgt.c, .int .u64 r.tgt.d, .bool r.self, .int .i64 r.cl, .int .u32 (vI r.pm), .int .i64 r.cd] := fact_some (hF 11) (j := 2) (by kernel_rfl) (by kernel_rfl)
      have f12 : A.tmps[12]?.getD undef = .int .i64 s := fact_some (hF 12) (j := 3) (by kernel_rfl) (by kernel_rfl)
      unfold Gives
      go_simp
      exact gives_enter ((targets_c r s _).mono fun _ _ ⟨he, hb⟩ => ⟨_, he, hb, rfl⟩)
    · unfold Gives
      go_simp
      exact gives_val ((Below.refl _ _).alloc (Nat.le_refl _) _) ⟨_, rfl, hK.size, Blk.new _ _ _⟩
    · unfold Gives
      go_simp
      exact gives_val ((Below.refl _ _).alloc (Nat.le_refl _) _) ⟨_, rfl, hK.size, Blk.new _ _ _⟩
  intro a W1 hC hsz hdf hF
  have ha := end_cut 6 13 hsz hdf hF (by kernel_rfl)
  have f10 : a.tmps[10]?.getD undef = .agg #[.int .u32 (vI (vR r).p), .int .u32 (vI (vR r).q), .int .u32 (vI (vR r).r)] := fact_end (hF 10) (j := 1) (by kernel_rfl)
  have f13 : a.tmps[13]?.getD undef = .agg #[.int .u64 (tgtS r s).a, .int .u64 (tgtS r s).b, .int .u64 (tgtS r s).c, .int .u64 (tgtS r s).d] := fact_end (hF 13) (j := 4) (by kernel_rfl)
  obtain ⟨g6, f6, hg6, hb6⟩ : ∃ g, a.tmps[6]?.getD undef = .pointer (some ⟨g, 0, none⟩) ∧ W0.heap.size ≤ g ∧ Blk W1 g 76 #[.int .u32 0, .int .u32 0, .int .u32 0] := fact_end (hF 6) (j := 5) (by kernel_rfl)
  obtain ⟨g7, f7, hg7, hb7⟩ : ∃ g, a.tmps[7]?.getD undef = .pointer (some ⟨g, 0, none⟩) ∧ W0.heap.size ≤ g ∧ Blk W1 g 24 #[.int .u64 0, .int .u64 0, .int .u64 0, .int .u64 0] := fact_end (hF 7) (j := 6) (by kernel_rfl)
  have hne : g6 ≠ g7 := fun e => by
    subst e
    unfold Blk at hb6 hb7
    rw [hb6] at hb7
    cases hb7
  rw [ha]
  clear ha hF
  simp only [cutL_cons, cutL_nil, Nat.reduceAdd, Nat.reduceLeDiff, and_true, and_false, if_true, if_false, and_self]
  rw [f6, f7, f10, f13]
  have c6 := hb6.cell
  have c60 := c6 0
  have c61 := c6 1
  have c62 := c6 2
  have c7 := hb7.cell
  have c70 := c7 0
  have c71 := c7 1
  have c72 := c7 2
  have c73 := c7 3
  have z6 := fun k => hb6.frozen k
  have z7 := fun k => hb7.frozen k
  have hne2 : ¬ g7 = g6 := fun e => hne e.symm
  have HR1 := Lib.hid (HR0.out.below hC)
  have HB1 := Lib.hid (HB0.out.trans (hC.mono (by have := HB0.out.size; omega)))
  have HB6 := Lib.hid hb6
  have HB7 := Lib.hid hb7
  have HG6 := Lib.hid hg6
  have HG7 := Lib.hid hg7
  clear HX0 HR0 HB0 hC hb6 hb7 hg6 hg7 c6 c7 f6 f7 f10 f13 hsz hdf
  generalize hS : tgtS r s = S at *
  go_wp2_with fail
  have HV2 := Lib.hid ((((((((HB6.out.set 0 (.int .u32 (vI (vR r).p))).set 1 (.int .u32 (vI (vR r).q))).set 2 (.int .u32 (vI (vR r).r))).far (p := ⟨g7, 0, none⟩) hne (.int .u64 S.a)).far (p := ⟨g7, 1, none⟩) hne (.int .u64 S.b)).far (p := ⟨g7, 2, none⟩) hne (.int .u64 S.c)).far (p := ⟨g7, 3, none⟩) hne (.int .u64 S.d)))
  have HS2 := Lib.hid (((((((HB7.out.far (p := ⟨g6, 0, none⟩) hne2 (.int .u32 (vI (vR r).p))).far (p := ⟨g6, 1, none⟩) hne2 (.int .u32 (vI (vR r).q))).far (p := ⟨g6, 2, none⟩) hne2 (.int .u32 (vI (vR r).r))).set 0 (.int .u64 S.a)).set 1 (.int .u64 S.b)).set 2 (.int .u64 S.c)).set 3 (.int .u64 S.d))
  have hB2 : Below W0.heap.size W1 (((((((W1.setCell ⟨g6, 0, none⟩ (.int .u32 (vI (vR r).p))).setCell ⟨g6, 1, none⟩ (.int .u32 (vI (vR r).q))).setCell ⟨g6, 2, none⟩ (.int .u32 (vI (vR r).r))).setCell ⟨g7, 0, none⟩ (.int .u64 S.a)).setCell ⟨g7, 1, none⟩ (.int .u64 S.b)).setCell ⟨g7, 2, none⟩ (.int .u64 S.c)).setCell ⟨g7, 3, none⟩ (.int .u64 S.d)) :=
    ((((((((Below.refl _ _).setCell (p := ⟨g6, 0, none⟩) HG6.out _).setCell (p := ⟨g6, 1, none⟩) HG6.out _).setCell (p := ⟨g6, 2, none⟩) HG6.out _).setCell (p := ⟨g7, 0, none⟩) HG7.out _).setCell (p := ⟨g7, 1, none⟩) HG7.out _).setCell (p := ⟨g7, 2, none⟩) HG7.out _).setCell (p := ⟨g7, 3, none⟩) HG7.out _)
  have HR2 := Lib.hid (HR1.out.of (hB2.block g HWG.out))
  have HB2 := Lib.hid (HB1.out.trans (hB2.mono HWX.out))
  have HN6 : Hid (g6 ≠ g) := Lib.hid (by have := HWG.out; have := HG6.out; omega)
  have HN7 : Hid (g7 ≠ g) := Lib.hid (by have := HWG.out; have := HG7.out; omega)
  simp only [List.setIfInBounds_toArray, List.set_cons_zero, List.set_cons_succ] at HV2 HS2
  clear HR1 HB1 HB6 HB7 hB2 c60 c61 c62 c70 c71 c72 c73 z6 z7
  generalize ((((((W1.setCell ⟨g6, 0, none⟩ (.int .u32 (vI (vR r).p))).setCell ⟨g6, 1, none⟩ (.int .u32 (vI (vR r).q))).setCell ⟨g6, 2, none⟩ (.int .u32 (vI (vR r).r))).setCell ⟨g7, 0, none⟩ (.int .u64 S.a)).setCell ⟨g7, 1, none⟩ (.int .u64 S.b)).setCell ⟨g7, 2, none⟩ (.int .u64 S.c)).setCell ⟨g7, 3, none⟩ (.int .u64 S.d) = W2 at *
  go_loopw [14] (fun vi wr => ∃ k : Nat, k ≤ 256 ∧ vi = .int .i64 k ∧ Hid (But W2.heap.size g W2 wr) ∧ Hid (RowV wr g (addK r s f k))) (fun vi _ => 256 - (intOf vi).toNat)
  case atStart => exact ⟨0, Nat.zero_le _, rfl, Lib.hid But.refl, Lib.hid (HR2.out.fn fun t _ => by unfold addK; rw [if_neg (Nat.not_lt_zero _)])⟩
  case round =>
    obtain ⟨k, hk, rfl, HK, HRk⟩ := hrel
    by_cases hlt : k < 256
    · have hlt' : (k : Int) < 256 := by omega
      have hge' : ¬ (k : Int) < 0 := by omega
      have HVr := Lib.hid (HK.out.blk HV2.out HV2.out.lt HN6.out)
      have HSr := Lib.hid (HK.out.blk HS2.out HS2.out.lt HN7.out)
      have hsc := HSr.out.cell
      have s0 := hsc 0
      have s1 := hsc 1
      have s2 := hsc 2
      have s3 := hsc 3
      clear hsc
      have hT := HT.out k
      obtain ⟨B, hB⟩ : ∃ B, prB r s k = B := ⟨_, rfl⟩
      rw [hB] at hT
      have HBB := Lib.hid hB
      clear hB
      have HHAS : Hid (∀ u, Calls Try.prog 55 #[.agg #[.int .u64 S.a, .int .u64 S.b, .int .u64 S.c, .int .u64 S.d], .int .i64 k] u fun e w' => e = .returned (.bool B) ∧ Below u.heap.size u w') := Lib.hid fun u => by
        have h := has_c S.a S.b S.c S.d k u
        have e : hasB S.a S.b S.c S.d k = B := hT
        rw [e] at h; exact h
      clear hT
      cases B
      · go_wp2_with (go_at_call 55; refine (HHAS.out _).mono ?_; rintro e w3 ⟨rfl, hb3⟩; have HB3 := Lib.hid hb3; clear hb3)
        go_roundw
        case rel => exact ⟨k + 1, hlt, by go_num, Lib.hid (HK.out.below (HB3.out.mono HK.out.size)), Lib.hid ((HRk.out.below HB3.out).fn fun t ht => by
          unfold addK
          by_cases e : t = k
          · subst e
            rw [if_neg (Nat.lt_irrefl _), if_pos (Nat.lt_succ_self _)]
            unfold addF
            rw [HBB.out]; simp
          · by_cases e2 : t < k
            · rw [if_pos e2, if_pos (by omega)]
            · rw [if_neg e2, if_neg (by omega)])⟩
        case measure => simp [intOf]; omega
      · go_upto_region 6 with (go_at_call 55; refine (HHAS.out _).mono ?_; rintro e w3 ⟨rfl, hb3⟩; have HB3 := Lib.hid hb3; clear hb3)
        have HR3 := Lib.hid (HRk.out.below HB3.out)
        have HV3 := Lib.hid (HVr.out.keep HB3.out)
        have HK3 := Lib.hid (HK.out.below (HB3.out.mono HK.out.size))
        obtain ⟨F, hF⟩ : ∃ F, f k = F := ⟨_, rfl⟩
        have HFK : Hid (addK r s f k k = F) := Lib.hid (by unfold addK; rw [if_neg (Nat.lt_irrefl _)]; exact hF)
        have HLR : Hid (∀ u, Kp w3 u → u.cell? ⟨g, k * 3, none⟩ = some (.int .u32 (vI F.p)) ∧ u.cell? ⟨g, k * 3 + 1, none⟩ = some (.int .u32 (vI F.q)) ∧ u.cell? ⟨g, k * 3 + 2, none⟩ = some (.int .u32 (vI F.r))) := Lib.hid fun u h => by
          obtain ⟨a, b, c, _⟩ := (HR3.out.below h).cells hlt
          rw [HFK.out] at a b c
          exact ⟨a, b, c⟩
        clear HRk HVr HSr HK s0 s1 s2 s3 HHAS hF
        refine wp_region_kt 11 (by kernel_rfl) (by kernel_rfl) ?_
        simp only [List.take_succ_cons, List.take_zero, List.drop_succ_cons, List.drop_zero]
        repeat (first
            | go_big_quiet_skip
            | (go_big_quiet_want
               go_big_quiet_op
               first
                 | go_big_quiet_on
                 | (apply Exists.intro
                    refine ⟨fun w1 hC => ?_, ?_⟩
                    · first
                        | (go_at_call 40; with_reducible exact hC.call (union_c' F (vR r) _))
                        | (obtain ⟨b0, b1, b2⟩ := HLR.out _ hC; go_simp; exact rfl)
                        | (have d := (hC.blk HV3.out).cell; have d0 := d 0; have d1 := d 1; have d2 := d 2; go_simp; exact rfl)
                        | (go_simp; exact ⟨rfl, rfl⟩)
                    go_big_quiet_on)))
        refine wpQuiet_nil ?_
        intro W4 hC
        have HR4 := Lib.hid (HR3.out.below hC)
        obtain ⟨p0, p1, p2, p3⟩ := HR4.out.cells hlt
        have HK4 := Lib.hid (HK3.out.below (hC.mono HK3.out.size))
        clear HR3 HV3 HK3 HLR hC
        go_wp2_with fail
        go_roundw
        case rel => exact ⟨k + 1, hlt, by go_num, Lib.hid (((HK4.out.setCell (p := ⟨g, k * 3, none⟩) (.inl rfl) _).setCell (p := ⟨g, k * 3 + 1, none⟩) (.inl rfl) _).setCell (p := ⟨g, k * 3 + 2, none⟩) (.inl rfl) _), Lib.hid ((HR4.out.set hlt (orV F (vR r))).fn fun t ht => by
          by_cases e : t = k
          · subst e
            rw [if_pos rfl]
            unfold addK at HFK ⊢
            rw [if_pos (Nat.lt_succ_self _)]
            unfold addF
            have e2 := HFK.out
            rw [if_neg (Nat.lt_irrefl _)] at e2
            rw [HBB.out, if_pos rfl, e2]
          · rw [if_neg e]
            unfold addK
            by_cases e2 : t < k
            · rw [if_pos e2, if_pos (by omega)]
            · rw [if_neg e2, if_neg (by omega)])⟩
        case measure => simp [intOf]; omega
    · obtain rfl : k = 256 := by omega
      have HRe : Hid (RowV wr g (addF r s f)) := Lib.hid (HRk.out.fn fun t ht => by unfold addK; rw [if_pos ht])
      have HBe : Hid (But gx g w wr) := Lib.hid ((But.of_below HB2.out).trans (HK.out.mono (by have := HB2.out.size; omega)))
      go_wp2_with fail
      exact bodyPost_end (v := .tuple #[]) (by simp [results, Try.results61, go_sem]) rfl ⟨rfl, HRe.out, by rw [hgx]; exact HBe.out⟩
end Go.Proofs.Ytjikbffnhfoikaa
/- What a visitor of rows leaves alone; the visitor of Entries. -/
namespace Go.Proofs.Ytjikbffnhfoikaa
open Go.RowKit Go.Sort Go.Maps
/-- block k holds entries -/
def IsE (w : World) (k : Nat) : Prop := ∃ cs z, w.heap[k]? = some (.cells cs 61 z)
/-- all is as it was, but for block Bl and entries from block base on -/
structure Fr (Bl base : Nat) (w w' : World) : Prop where
  os : w'.os = w.os
  tape : w'.tape = w.tape
  output : w'.output = w.output
  size : w.heap.size ≤ w'.heap.size
  block : ∀ k, k < w.heap.size → k ≠ Bl → ¬ (base ≤ k ∧ IsE w k) → w'.heap[k]? = w.heap[k]?
theorem Fr.refl {Bl base : Nat} {w : World} : Fr Bl base w w := ⟨rfl, rfl, rfl, Nat.le_refl _, fun _ _ _ _ => rfl⟩
theorem Fr.trans {Bl base : Nat} {a b c : World} (h : Fr Bl base a b) (k : Fr Bl base b c) : Fr Bl base a c :=
  ⟨k.os.trans h.os, k.tape.trans h.tape, k.output.trans h.output, Nat.le_trans h.size k.size, fun i hi h1 h2 => by
    have e := h.block i hi h1 h2
    refine (k.block i (Nat.lt_of_lt_of_le hi h.size) h1 fun h3 => h2 ⟨h3.1, ?_⟩).trans e
    obtain ⟨cs, z, hz⟩ := h3.2
    exact ⟨cs, z, e ▸ hz⟩⟩
theorem Fr.of_below {Bl base : Nat} {w w' : World} (h : Below w.heap.size w w') : Fr Bl base w w' := ⟨h.os, h.tape, h.output, h.size, fun k hk _ _ => h.block k hk⟩
theorem Fr.below {Bl base : Nat} {w w' : World} (h : Fr Bl base w w') (hB : base ≤ Bl) : Below base w w' ∨ w.heap.size < base := by
  by_cases e : base ≤ w.heap.size
  · exact .inl ⟨h.os, h.tape, h.output, h.size, fun k hk => h.block k (by omega) (by omega) (fun x => by omega)⟩
  · exact .inr (by omega)
theorem Fr.of_grown {Bl base : Nat} {w w' : World} {row : Option Nat} (h : w.grownBy w' row) (hr : ∀ g, row = some g → g = Bl ∨ (base ≤ g ∧ IsE w g)) : Fr Bl base w w' :=
  ⟨h.os, h.tape, h.output, h.size, fun k hk h1 h2 => h.block k hk fun e => (hr k e.symm).elim h1 h2⟩
theorem grownBy_set (w : World) (p : Addr) (u : Value) : w.grownBy (w.setCell p u) (some p.block) := by
  have h := (Below.refl p.block w).setCell (p := p) (Nat.le_refl _) u
  exact ⟨h.os, h.tape, h.output, h.size, fun k _ hne => Below.heap_setCell w p u k fun e => hne (by rw [e])⟩
theorem MapR.of {P : Program} {k : TypeId} {w w' : World} {b n : Nat} {f : Lit → Option Value} (h : MapR P k w b n f) (hb : w'.heap[b]? = w.heap[b]?) : MapR P k w' b n f := by
  obtain ⟨D, ⟨es, clock, h1, rest⟩, hd⟩ := h
  exact ⟨D, ⟨es, clock, hb.trans h1, rest⟩, hd⟩
theorem RanR.of {P : Program} {k : TypeId} {w w' : World} {b r n cnt : Nat} {f : Lit → Option Value} {left : Lit → Bool} (h : RanR P k w b r n f left cnt) (hb : w'.heap[b]? = w.heap[b]?) (hr : w'.heap[r]? = w.heap[r]?) : RanR P k w' b r n f left cnt := by
  obtain ⟨D, ⟨es, clock, since, seen, c0, h1, h2, h3, h4, h5, rest⟩, hd⟩ := h
  exact ⟨D, ⟨es, clock, since, seen, c0, hb.trans h1, h2, h3, h4, hr.trans h5, rest⟩, hd⟩
theorem RanR.noCells {P : Program} {k : TypeId} {w : World} {b r n cnt : Nat} {f : Lit → Option Value} {left : Lit → Bool} (h : RanR P k w b r n f left cnt) : ¬ IsE w b ∧ ¬ IsE w r := by
  obtain ⟨D, ⟨es, clock, since, seen, c0, h1, h2, h3, h4, h5, rest⟩, hd⟩ := h
  exact ⟨fun ⟨cs, z, e⟩ => (by rw [h1] at e; cases e), fun ⟨cs, z, e⟩ => (by rw [h5] at e; cases e)⟩
theorem OwnR.of {w w' : World} {B : Nat} {v : Value} {L : List Ru} (h : OwnR w B v L) (hb : ∀ g, v.ownBlock = some g → w'.heap[g]? = w.heap[g]?) : OwnR w' B v L := by
  refine ⟨h.1, ?_⟩
  rcases h.2 with hn | ⟨g, cap, cur, h1, h2, h3, rest⟩
  · exact .inl hn
  · exact .inr ⟨g, cap, cur, h1, h2, (hb g (by rw [h1]; rfl)).trans h3, rest⟩
theorem OwnR.notE {w : World} {B : Nat} {v : Value} {L : List Ru} (h : OwnR w B v L) {g : Nat} (hg : v.ownBlock = some g) : ¬ IsE w g := fun ⟨cs, z, e⟩ => by
  obtain ⟨cur, z2, e2⟩ := h.cellsOf hg
  rw [e2] at e; cases e
theorem Blk.notE {w : World} {g : Nat} {t : TypeId} {cs : Array Value} (h : Blk w g t cs) (ht : t ≠ 61) : ¬ IsE w g := fun ⟨cs', z, e⟩ => by
  unfold Blk at h
  rw [h] at e
  cases e
  exact ht rfl
theorem RowV.notE {w : World} {g : Nat} {f : Nat → V} (h : RowV w g f) : ¬ IsE w g := by
  obtain ⟨cur, h, _⟩ := h
  exact h.notE (by decide)
theorem BP.fr {w w' : World} {b base Bl : Nat} {L : List Ru} {f : Lit → Option Value} (h : BP w b L f) (hf : Fr Bl base w w') (hB : Bl < b) : BP w' b L f :=
  ⟨h.no, fun c d h1 h2 h3 => by
    obtain ⟨v, hv, ho⟩ := h.yes c d h1 h2 h3
    exact ⟨v, hv, ho.of fun g hg => hf.block g (ho.own g hg).2 (by have := (ho.own g hg).1; omega) (fun x => ho.notE hg x.2)⟩, h.key, h.ap⟩
/-- the entries collected so far, in the variable at Bl -/
def EL (w : World) (Bl base : Nat) (A : List E) : Prop := ∃ v, Blk w Bl 52 #[v] ∧ OwnE w base v A
theorem EL.of {w w' : World} {Bl base : Nat} {A : List E} (h : EL w Bl base A) (hb : Below w.heap.size w w') : EL w' Bl base A := by
  obtain ⟨v, h1, h2⟩ := h
  exact ⟨v, h1.keep hb, h2.below hb⟩
theorem OwnE.isE {w : World} {B : Nat} {v : Value} {L : List E} (h : OwnE w B v L) {g : Nat} (hg : v.ownBlock = some g) : IsE w g := by
  rcases h.form with ⟨rfl, _⟩ | ⟨g', cap, cur, rfl, h2, h3, _⟩
  · simp [Value.ownBlock] at hg
  · obtain rfl : g' = g := by simpa [Value.ownBlock] using hg
    exact ⟨cur, _, h3⟩
def e1Phi (gp : Nat) (s : Int) (k : Nat) (c d : Int) (F : V) (v0 : Value) (y : E) (q : Nat) (v : Value) (wq : World) : Prop := match q with
  | 0 => v = v0
  | 1 => v = .agg #[.int .u32 (vI F.p), .int .u32 (vI F.q), .int .u32 (vI F.r)]
  | 2 => v = .int .i64 s
  | 3 => v = .int .i64 k
  | 4 => v = .pointer (some ⟨gp, 0, none⟩)
  | 5 => v = .int .i64 c
  | 6 => v = .pointer (some ⟨gp, 1, none⟩)
  | 7 => v = .int .i64 d
  | 8 => v = .agg #[.int .i64 s, .int .i64 k, .int .i64 c, .int .i64 d]
  | 9 => v = .agg #[.int .i64 y.s, .int .i64 y.t, .int .i64 y.c, .int .i64 y.d, .int .u32 (vI y.a), .int .u32 (vI y.b), .int .u32 (vI y.e)]
  | 10 => ∃ g, v = .slice (some ⟨g, 0, none⟩) 1 1 ∧ Box wq g y
  | _ => True
theorem e1Phi_keep {gp : Nat} {s : Int} {k : Nat} {c d : Int} {F : V} {v0 : Value} {y : E} {q : Nat} {v : Value} {w w' : World} (h : e1Phi gp s k c d F v0 y q v w) (hb : Below w.heap.size w w') : e1Phi gp s k c d F v0 y q v w' := by
  unfold e1Phi at h ⊢
  split at h
  case h_11 => obtain ⟨g, h1, h2⟩ := h; exact ⟨g, h1, Blk.keep h2 hb⟩
  all_goals exact h
set_option maxRecDepth 100000 in
set_option maxHeartbeats 8000000 in
theorem entries1_c (s c d : Int) (hs : 0 ≤ s ∧ s < 256) (wc : W64 c) (wd : W64 d) (g Bl base : Nat) (f : Nat → V) (A : List E) (hA : A.length ≤ 500000) (w : World) (hR : RowV w g f) (hL : EL w Bl base A) (hb : base ≤ Bl) :
    Calls Try.prog 34 #[.int .i64 s, .agg #[.int .i64 c, .int .i64 d], .pointer (some ⟨g, 0, none⟩), .pointer (some ⟨Bl, 0, none⟩)] w fun e w' => e = .returned (.tuple #[]) ∧ EL w' Bl base (A ++ rowK c d (fun t => f t.toNat) s 256) ∧ Fr Bl base w w' := by
  have hbl : Bl < w.heap.size := by obtain ⟨v, h, _⟩ := hL; exact h.lt
  have hgl := hR.lt
  have hne : g ≠ Bl := fun e => by
    subst e
    obtain ⟨cur, h1, _⟩ := hR
    obtain ⟨v, h2, _⟩ := hL
    unfold Blk at h1 h2
    rw [h1] at h2
    cases h2
  have hbr : Below w.heap.size w (w.alloc (.cells #[.int .i64 c, .int .i64 d] 73)) := (Below.refl _ w).alloc (Nat.le_refl _) _
  have HR0 := Lib.hid (hR.below hbr)
  have HL0 := Lib.hid (hL.of hbr)
  have HF0 : Hid (Fr Bl base w (w.alloc (.cells #[.int .i64 c, .int .i64 d] 73))) := Lib.hid (Fr.of_below hbr)
  have HK0 : Hid (Blk (w.alloc (.cells #[.int .i64 c, .int .i64 d] 73)) w.heap.size 73 #[.int .i64 c, .int .i64 d]) := Lib.hid (Blk.new w _ _)
  have HNE := Lib.hid hne
  have HBL := Lib.hid hbl
  have HBB := Lib.hid hb
  have HGL := Lib.hid hgl
  clear hR hL hbr hbl hb hgl hne
  go_enter Try.func34, Try.ntmps34
  go_wp2_with fail
  generalize w.alloc (.cells #[.int .i64 c, .int .i64 d] 73) = W0 at *
  generalize hgp : w.heap.size = gp at *
  go_loopw [11] (fun vi wr => ∃ k : Nat, k ≤ 256 ∧ vi = .int .i64 k ∧ Hid (Fr Bl base w wr) ∧ Hid (EL wr Bl base (A ++ rowK c d (fun t => f t.toNat) s k)) ∧ Hid (RowV wr g f) ∧ Hid (Blk wr gp 73 #[.int .i64 c, .int .i64 d])) (fun vi _ => 256 - (intOf vi).toNat)
  case atStart => exact ⟨0, Nat.zero_le _, rfl, HF0, Lib.hid (by rw [rowK_zero, List.append_nil]; exact HL0.out), HR0, HK0⟩
  case round =>
    obtain ⟨k, hk, rfl, HF, HL, HR, HK⟩ := hrel
    by_cases hlt : k < 256
    · have hlt' : (k : Int) < 256 := by omega
      have hge' : ¬ (k : Int) < 0 := by omega
      obtain ⟨F, hF⟩ : ∃ F, f k = F := ⟨_, rfl⟩
      have hcell := HR.out.cells hlt
      rw [hF] at hcell
      obtain ⟨q0, q1, q2, -⟩ := hcell
      have r0 : ∀ o, (wr.alloc o).cell? ⟨g, k * 3, none⟩ = some (.int .u32 (vI F.p)) := fun o => by rw [← hF]; exact ((HR.out.alloc o).cells hlt).1
      have r1 : ∀ o, (wr.alloc o).cell? ⟨g, k * 3 + 1, none⟩ = some (.int .u32 (vI F.q)) := fun o => by rw [← hF]; exact ((HR.out.alloc o).cells hlt).2.1
      have r2 : ∀ o, (wr.alloc o).cell? ⟨g, k * 3 + 2, none⟩ = some (.int .u32 (vI F.r)) := fun o => by rw [← hF]; exact ((HR.out.alloc o).cells hlt).2.2.1
      go_upto_region 3 with (fail)
      go_region
      have HV3 : Hid (Blk (wr.alloc (.cells #[.int .u32 (vI F.p), .int .u32 (vI F.q), .int .u32 (vI F.r)] 76)).drew wr.heap.size 76 #[.int .u32 (vI F.p), .int .u32 (vI F.q), .int .u32 (vI F.r)]) := Lib.hid ((Blk.new wr _ _).drew)
      have hb3 : Below wr.heap.size wr (wr.alloc (.cells #[.int .u32 (vI F.p), .int .u32 (vI F.q), .int .u32 (vI F.r)] 76)).drew := ((Below.refl _ wr).alloc (Nat.le_refl _) _).drew
      have HF3 := Lib.hid (HF.out.trans (Fr.of_below hb3))
      have HL3 := Lib.hid (HL.out.of hb3)
      have HR3 := Lib.hid (HR.out.below hb3)
      have HK3 := Lib.hid (HK.out.keep hb3)
      have HFe := Lib.hid hF
      clear HF HL HR HK hb3 r0 r1 r2 q0 q1 q2 hF
      generalize (wr.alloc (.cells #[.int .u32 (vI F.p), .int .u32 (vI F.q), .int .u32 (vI F.r)] 76)).drew = W3 at *
      generalize wr.heap.size = gv at *
      have hv := HV3.out.cell
      have v0 := hv 0
      have v1 := hv 1
      have v2 := hv 2
      clear hv
      by_cases hz : F = zV
      · subst hz
        have hnb := fun u => neqV_z u
        go_wp2_with fail
        go_roundw
        case rel => exact ⟨k + 1, hlt, by go_num, HF3, Lib.hid (by rw [rowK_succ, if_pos (by simpa using HFe.out), List.append_nil]; exact HL3.out), HR3, HK3⟩
        case measure => simp [intOf]; omega
      · have hnb := fun u => neqV_n F hz u
        have hrow : rowK c d (fun t => f t.toNat) s (k + 1) = rowK c d (fun t => f t.toNat) s k ++ [mkE s k c d F] := by
          rw [rowK_succ, if_neg (by simpa [HFe.out] using hz)]
          simp [HFe.out]
        obtain ⟨y1, y2, y3, y4, y5⟩ := mkE_eq (w64_in hs) (w64_in (n := (k : Int)) (by omega)) wc wd F
        have HEN : Hid (∀ u, Calls Try.prog 35 #[.agg #[.int .u32 (vI F.p), .int .u32 (vI F.q), .int .u32 (vI F.r)], .agg #[.int .i64 s, .int .i64 k, .int .i64 c, .int .i64 d]] u fun e w' => e = .returned (.agg #[.int .i64 (mkE s k c d F).s, .int .i64 (mkE s k c d F).t, .int .i64 (mkE s k c d F).c, .int .i64 (mkE s k c d F).d, .int .u32 (vI (mkE s k c d F).a), .int .u32 (vI (mkE s k c d F).b), .int .u32 (vI (mkE s k c d F).e)]) ∧ Below u.heap.size u w') := Lib.hid fun u => by
          have h := entry_c F (mkE s k c d F) y5 u
          rw [y1, y2, y3, y4] at h
          rw [y1, y2, y3, y4]
          exact h
        generalize mkE s k c d F = y at *
        have HRW := Lib.hid hrow
        have HLN : Hid ((A ++ rowK c d (fun t => f t.toNat) s k).length ≤ 600000) := Lib.hid (by have := rowK_len c d (fun t => f t.toNat) s k; rw [List.length_append]; omega)
        generalize hA1 : A ++ rowK c d (fun t => f t.toNat) s k = A1 at *
        have HA1 := Lib.hid hA1
        clear hA1 hrow y1 y2 y3 y4 y5 hz
        go_upto_region 5 with (fail)
        clear hnb v0 v1 v2
        obtain ⟨v, hBv, hOv⟩ := HL3.out
        have HBv := Lib.hid hBv
        have HOv := Lib.hid hOv
        clear hBv hOv HL3
        refine wp_region_phit 11 (e1Phi gp s k c d F v y) (by kernel_rfl) (by decide) (by kernel_rfl) (by kernel_rfl) (by kernel_rfl) (fun q v w1 w2 h hb => e1Phi_keep h hb) ?_ ?_
        · refine ⟨⟨trivial, fun A v hK hF => ?_⟩, ⟨trivial, fun A v hK hF => ?_⟩, ⟨trivial, fun A v hK hF => ?_⟩, ⟨trivial, fun A v hK hF => ?_⟩, ⟨trivial, fun A v hK hF => ?_⟩, ⟨trivial, fun A v hK hF => ?_⟩, ⟨trivial, fun A v hK hF => ?_⟩, ⟨trivial, fun A v hK hF => ?_⟩, ⟨trivial, fun A v hK hF => ?_⟩, ⟨trivial, fun A v hK hF => ?_⟩, ⟨trivial, fun A v hK hF => ?_⟩, trivial⟩
          · have f3 : A.tmps[3]?.getD undef = .pointer (some ⟨Bl, 0, none⟩) := fact_none (hF 3) (by kernel_rfl)
            have d := (hK.blk HBv.out).cell
            have d0 := d 0
            unfold Gives
            go_simp
            exact gives_val (Below.refl _ _) rfl
          · have f8 : A.tmps[8]?.getD undef = .pointer (some ⟨gv, 0, none⟩) := fact_none (hF 8) (by kernel_rfl)
            have dd := (hK.blk HV3.out).cell
            have d0 := dd 0
            have d1 := dd 1
            have d2 := dd 2
            unfold Gives
            go_simp
            exact gives_val (Below.refl _ _) rfl
          · have f0 : A.tmps[0]?.getD undef = .int .i64 s := fact_none (hF 0) (by kernel_rfl)
            unfold Gives
            go_simp
            exact gives_val (Below.refl _ _) rfl
          · have f7 : A.tmps[7]?.getD undef = .int .i64 k := fact_none (hF 7) (by kernel_rfl)
            unfold Gives
            go_simp
            exact gives_val (Below.refl _ _) rfl
          · have f5 : A.tmps[5]?.getD undef = .pointer (some ⟨gp, 0, none⟩) := fact_none (hF 5) (by kernel_rfl)
            unfold Gives
            go_simp
            exact gives_val (Below.refl _ _) rfl
          · have f24 : A.tmps[24]?.getD undef = .pointer (some ⟨gp, 0, none⟩) := fact_some (hF 24) (j := 4) (by kernel_rfl) (by kernel_rfl)
            have dd := (hK.blk HK3.out).cell
            have d0 := dd 0
            have d1 := dd 1
            unfold Gives
            go_simp
            exact gives_val (Below.refl _ _) rfl
          · have f5 : A.tmps[5]?.getD undef = .pointer (some ⟨gp, 0, none⟩) := fact_none (hF 5) (by kernel_rfl)
            unfold Gives
            go_simp
            exact gives_val (Below.refl _ _) rfl
          · have f26 : A.tmps[26]?.getD undef = .pointer (some ⟨gp, 1, none⟩) := fact_some (hF 26) (j := 6) (by kernel_rfl) (by kernel_rfl)
            have dd := (hK.blk HK3.out).cell
            have d0 := dd 0
            have d1 := dd 1
            unfold Gives
            go_simp
            exact gives_val (Below.refl _ _) rfl
          · have f22 : A.tmps[22]?.getD undef = .int .i64 s := fact_some (hF 22) (j := 2) (by kernel_rfl) (by kernel_rfl)
            have f23 : A.tmps[23]?.getD undef = .int .i64 k := fact_some (hF 23) (j := 3) (by kernel_rfl) (by kernel_rfl)
            have f25 : A.tmps[25]?.getD undef = .int .i64 c := fact_some (hF 25) (j := 5) (by kernel_rfl) (by kernel_rfl)
            have f27 : A.tmps[27]?.getD undef = .int .i64 d := fact_some (hF 27) (j := 7) (by kernel_rfl) (by kernel_rfl)
            unfold Gives
            go_simp
            exact gives_val (Below.refl _ _) rfl
          · have f21 : A.tmps[21]?.getD undef = .agg #[.int .u32 (vI F.p), .int .u32 (vI F.q), .int .u32 (vI F.r)] := fact_some (hF 21) (j := 1) (by kernel_rfl) (by kernel_rfl)
            have f28 : A.tmps[28]?.getD undef = .agg #[.int .i64 s, .int .i64 k, .int .i64 c, .int .i64 d] := fact_some (hF 28) (j := 8) (by kernel_rfl) (by kernel_rfl)
            unfold Gives
            go_simp
            exact gives_enter ((HEN.out _).mono fun _ _ ⟨he, hb⟩ => ⟨_, he, hb, rfl⟩)
          · have f29 : A.tmps[29]?.getD undef = .agg #[.int .i64 y.s, .int .i64 y.t, .int .i64 y.c, .int .i64 y.d, .int .u32 (vI y.a), .int .u32 (vI y.b), .int .u32 (vI y.e)] := fact_some (hF 29) (j := 9) (by kernel_rfl) (by kernel_rfl)
            unfold Gives
            go_simp
            exact gives_val ((Below.refl _ _).alloc (Nat.le_refl _) _) ⟨_, rfl, Blk.new _ _ _⟩
        intro a W4 hC hsz hdf hF
        have ha := end_cut 20 30 hsz hdf hF (by kernel_rfl)
        have f20 : a.tmps[20]?.getD undef = v := fact_end (hF 20) (j := 0) (by kernel_rfl)
        obtain ⟨ge, f30, hbe⟩ : ∃ g, a.tmps[30]?.getD undef = .slice (some ⟨g, 0, none⟩) 1 1 ∧ Box W4 g y := fact_end (hF 30) (j := 10) (by kernel_rfl)
        rw [ha]
        clear ha hF
        simp only [cutL_cons, cutL_nil, Nat.reduceAdd, Nat.reduceLeDiff, and_true, and_false, if_true, if_false, and_self]
        rw [f20, f30]
        have HBE := Lib.hid hbe
        have HF4 := Lib.hid (HF3.out.trans (Fr.of_below hC))
        have HB4 := Lib.hid (HBv.out.keep hC)
        have HO4 := Lib.hid (HOv.out.below hC)
        have HR4 := Lib.hid (HR3.out.below hC)
        have HK4 := Lib.hid (HK3.out.keep hC)
        clear HF3 HBv HOv HR3 HK3 HV3 hC HEN hsz hdf f20 f30 hbe
        have HSB : Hid (base ≤ W4.heap.size) := Lib.hid (by have := HB4.out.lt; have := HBB.out; omega)
        have HEB : Hid (∀ q, v.ownBlock = some q → q ≠ Bl) := Lib.hid fun q hq e => (HB4.out.notE (by decide)) (e ▸ HO4.out.isE hq)
        refine wpList_append_E (by rfl) _ _ (by rfl) base v A1 A1.length rfl (by rfl) HO4.out ge y (by rfl) HBE.out (by have := HLN.out; omega) HSB.out ?_
        intro g' cap' w6 h1 h2 h3
        have hB6 : Blk w6 Bl 52 #[v] := (h2.block Bl HB4.out.lt (fun e => HEB.out Bl e.symm rfl)).trans HB4.out
        have k0 := hB6.cell 0
        have z0 := hB6.frozen 0
        have HB6 := Lib.hid hB6
        have H1 := Lib.hid h1
        have H2 := Lib.hid h2
        clear h1 h2 h3 hB6
        go_wp2_with fail
        have hN : g' ≠ Bl := fun e => (HB6.out.notE (by decide)) (e ▸ H1.out.isE (g := g') rfl)
        have HF6 := Lib.hid ((HF4.out.trans (Fr.of_grown H2.out fun q hq => .inr ⟨(HO4.out.own q hq).1, HO4.out.isE hq⟩)).trans (Fr.of_grown (grownBy_set w6 ⟨Bl, 0, none⟩ (.slice (some ⟨g', 0, none⟩) (A1.length + 1) cap')) fun q hq => .inl (by cases hq; rfl)))
        have HL6 : Hid (EL (w6.setCell ⟨Bl, 0, none⟩ (.slice (some ⟨g', 0, none⟩) (A1.length + 1) cap')) Bl base (A1 ++ [y])) := Lib.hid ⟨_, HB6.out.set 0 _, H1.out.kept (grownBy_set _ _ _) (.inr fun e => by cases e; exact hN rfl)⟩
        have HR6 : Hid (RowV (w6.setCell ⟨Bl, 0, none⟩ (.slice (some ⟨g', 0, none⟩) (A1.length + 1) cap')) g f) := Lib.hid ((HR4.out.of (H2.out.block g HR4.out.lt fun e => HR4.out.notE (HO4.out.isE e.symm))).of (Below.heap_setCell _ _ _ _ HNE.out))
        have HK6 : Hid (Blk (w6.setCell ⟨Bl, 0, none⟩ (.slice (some ⟨g', 0, none⟩) (A1.length + 1) cap')) gp 73 #[.int .i64 c, .int .i64 d]) := Lib.hid (Blk.far (show Blk w6 gp 73 #[.int .i64 c, .int .i64 d] from (H2.out.block gp HK4.out.lt fun e => (HK4.out.notE (by decide)) (HO4.out.isE e.symm)).trans HK4.out) (by
          intro e
          have e2 : gp = Bl := e
          subst e2
          have h1 := HK4.out
          have h2 := HB4.out
          unfold Blk at h1 h2
          rw [h1] at h2
          cases h2) _)
        clear HF4 HB4 HO4 HR4 HK4 hN k0 z0
        go_roundw
        case rel => exact ⟨k + 1, hlt, by go_num, HF6, Lib.hid (by rw [HRW.out, ← List.append_assoc, HA1.out]; exact HL6.out), HR6, HK6⟩
        case measure => simp [intOf]; omega
    · obtain rfl : k = 256 := by omega
      go_wp2_with fail
      exact bodyPost_end (v := .tuple #[]) (by simp [results, Try.results34, go_sem]) rfl ⟨rfl, HL.out, HF.out⟩
end Go.Proofs.Ytjikbffnhfoikaa
