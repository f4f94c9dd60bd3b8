/- slices.SortedFunc(slices.Values(l), compare) of entries. -/
import Derived.Test.YtomoldfgnbjliaaAvg
namespace Go.Proofs.Ytomoldfgnbjliaa
open Go.RowKit Go.Sort Go.Shelf Go.Maps
attribute [local go_sem] Oper.semAt_some
set_option maxRecDepth 100000 in
set_option maxHeartbeats 4000000 in
theorem appendSeq_in (n : Nat) (hn : 2 ≤ n) (Bv : Nat) (sv : Value) (Ls : List E) (hl : Ls.length ≤ 100000) (w : World) (hBv : w.cell? ⟨Bv, 0, none⟩ = some sv) (hE : Ents w sv Ls) :
    CallsIn Fence.wide n Try.prog 56 #[.slice none 0 0, .func (.func 51) #[] #[.pointer (some ⟨Bv, 0, none⟩)]] w (ListOut w Ls) := by
  have h1 : 1 ≤ n := by omega
  refine callsIn_of_wp_marks Try.func56 rfl trivial ?_ rfl
  simp only [Try.ntmps56, List.size_toArray, List.length_cons, List.length_nil, Nat.reduceAdd, Nat.reduceSub, Array.replicate_succ, Array.replicate_zero, List.push_toArray, List.append_toArray, List.nil_append, List.cons_append]
  have HE := Lib.hid hE
  have HBv := Lib.hid hBv
  have hBvlt : Bv < w.heap.size := World.block_lt_of_cell? w ⟨Bv, 0, none⟩ hBv
  clear hE hBv
  gi_wp2
  refine wpIn_rangeFunc ?_
  intro fn hfn
  obtain ⟨W0, hW0⟩ : ∃ W0, w.alloc (.cells #[.slice none 0 0] 22) = W0 := ⟨_, rfl⟩
  have hs0 : W0.heap.size = w.heap.size + 1 := by rw [← hW0]; simp
  have hv0 : W0.heap[w.heap.size]? = some (.cells #[.slice none 0 0] 22 (0, 0)) := by rw [← hW0]; exact World.alloc_heap_new w _
  have hb0 : Below w.heap.size w W0 := by rw [← hW0]; exact (Below.refl _ w).alloc (Nat.le_refl _) _
  rw [hW0]
  obtain ⟨W1, hW1⟩ : ∃ W1, (W0.alloc (.deferred (some []))).alloc (.loop (apRec fn (.func (.func 51) #[] #[.pointer (some ⟨Bv, 0, none⟩)]) w.heap.size W0.heap.size .ready none)) = W1 := ⟨_, rfl⟩
  have hold : ∀ k, k < W0.heap.size → W1.heap[k]? = W0.heap[k]? := fun k hk => by
    rw [← hW1]; exact (Below.heap_alloc _ _ k (by simp; omega)).trans (Below.heap_alloc _ _ k hk)
  have hb1 : Below w.heap.size w W1 := by rw [← hW1]; exact (hb0.alloc hb0.size _).alloc (by have := hb0.size; simp; omega) _
  have hs1 : W1.heap.size = W0.heap.size + 2 := by rw [← hW1]; simp
  have hM : ApAt w fn (.func (.func 51) #[] #[.pointer (some ⟨Bv, 0, none⟩)]) w.heap.size (W0.heap.size + 1) W0.heap.size [] W1 :=
    ⟨⟨_, (hold w.heap.size (by omega)).trans hv0, OwnE.nil _ _⟩,
     by rw [← hW1]; have := World.alloc_heap_new (W0.alloc (.deferred (some []))) (.loop (apRec fn (.func (.func 51) #[] #[.pointer (some ⟨Bv, 0, none⟩)]) w.heap.size W0.heap.size .ready none)); rwa [World.size_alloc] at this,
     by rw [← hW1]; exact (Below.heap_alloc _ _ _ (by simp)).trans (World.alloc_heap_new W0 _), hb1⟩
  refine ⟨W0.heap.size + 1, [{ target := .collected W0.heap.size, args := #[] }], W1, { target := .fn (.func 51) #[.pointer (some ⟨Bv, 0, none⟩)], args := #[.func (.yield (W0.heap.size + 1)) #[] #[]] }, W1, 51,
    #[.func (.yield (W0.heap.size + 1)) #[] #[]] ++ #[.pointer (some ⟨Bv, 0, none⟩)], W1, ?_, ?_, ?_, ?_, fun _ => h1, ?_⟩
  · rw [← hW1]; exact run_enterLoop_outer _ _ _ _ _
  · simp [resolve, go_sem]
  · intro f' hf'; exact trivial
  · simp [invoke, go_sem]
  · have hE1 := HE.out.keep hb1
    refine (values1_in (n - 1) (by omega) (W0.heap.size + 1) Bv w.heap.size sv Ls hl (ApAt w fn (.func (.func 51) #[] #[.pointer (some ⟨Bv, 0, none⟩)]) w.heap.size (W0.heap.size + 1) W0.heap.size)
      (fun pre W o h => h.alloc o) W1 (fun pre W' h k hk => (h.below.block k hk).trans (hb1.block k hk).symm)
      (fun pre x W hJ hlt => apYield (n - 1 - 1) w fn _ w.heap.size (W0.heap.size + 1) W0.heap.size (by omega) (by omega) (by omega) (Nat.le_refl _) (by omega) Ls.length hl pre x W hJ hlt)
      hBvlt ((hb1.cell (p := ⟨Bv, 0, none⟩) hBvlt).trans HBv.out) hE1 ?_ hM).mono ?_
    · intro hne g o c k hsv
      obtain ⟨ao, cap, e, _, hr⟩ := HE.out
      obtain ⟨g', o', rfl, hR⟩ := hr hne
      rw [hsv] at e
      simp only [Value.slice.injEq, Option.some.injEq, Addr.mk.injEq] at e
      obtain ⟨⟨rfl, _⟩, _⟩ := e
      exact hR.lt hne
    rintro e W2 ⟨⟨v0, rfl⟩, h2⟩
    obtain ⟨v, hv, hrow⟩ := h2.box
    have hend := run_endLoop (P := Try.prog) h2.L (by simp [apRec])
    obtain ⟨W3, hW3⟩ : ∃ W3, W2.putObj (W0.heap.size + 1) (.loop { apRec fn (.func (.func 51) #[] #[.pointer (some ⟨Bv, 0, none⟩)]) w.heap.size W0.heap.size .ready none with state := .exhausted }) = W3 := ⟨_, rfl⟩
    rw [hW3] at hend
    have hg3 : W2.grownBy W3 (some (W0.heap.size + 1)) := by rw [← hW3]; exact grownBy_putObj_a _ _ _
    have hv3 : W3.heap[w.heap.size]? = some (.cells #[v] 22 (0, 0)) := by rw [← hW3]; exact (World.putObj_heap_other (by omega)).trans hv
    have hK3 : W3.heap[W0.heap.size]? = some (.deferred (some [])) := by rw [← hW3]; exact (World.putObj_heap_other (by omega)).trans h2.K
    have hrow3 := hrow.kept hg3 (ownE_ne hrow h2.L (fun cur e => by cases e))
    have hb3 : Below w.heap.size w W3 := h2.below.grown hg3 h2.below.size (fun k e => by cases e; omega)
    obtain ⟨hc3, hf3⟩ := cell_of_box_a hv3
    clear hW3
    refine ⟨none, W3, hend, ?_⟩
    gi_wp2
    rw [← hs0]
    refine ⟨by simp, .inl ⟨_, _, rfl, run_takeDeferred hK3, ?_⟩⟩
    exact ⟨_, results_tmp rfl _ _ _, v, rfl, hrow3.kept (grownBy_putObj_a _ _ _) (ownE_ne hrow3 hK3 (fun cur e => by cases e)), hb3.grown (grownBy_putObj_a _ _ _) hb3.size (fun k e => by cases e; omega)⟩
set_option maxRecDepth 100000 in
set_option maxHeartbeats 1000000 in
theorem collect_in (n : Nat) (hn : 3 ≤ n) (Bv : Nat) (sv : Value) (Ls : List E) (hl : Ls.length ≤ 100000) (w : World) (hBv : w.cell? ⟨Bv, 0, none⟩ = some sv) (hE : Ents w sv Ls) :
    CallsIn Fence.wide n Try.prog 49 #[.func (.func 51) #[] #[.pointer (some ⟨Bv, 0, none⟩)]] w (ListOut w Ls) := by
  have h56 : Fence.wide.fn 56 := trivial
  have h1n : 1 ≤ n := by omega
  have e56 := enters_of Try.func56 (by kernel_rfl) rfl
  have HA := Lib.hid (appendSeq_in (n - 1) (by omega) Bv sv Ls hl w hBv hE)
  clear hBv hE
  refine callsIn_of_wp Try.func49 rfl trivial ?_ rfl
  simp only [Try.ntmps49, List.size_toArray, List.length_cons, List.length_nil, Nat.reduceAdd, Nat.reduceSub, Array.replicate_succ, Array.replicate_zero, List.push_toArray, List.append_toArray, List.nil_append, List.cons_append]
  gi_wp2_with (gi_at_call 56; refine HA.out.mono ?_; rintro e w' ⟨v, rfl, h1, h2⟩)
  go_ret
  exact ⟨v, rfl, h1, h2⟩
theorem collect_c (Bv : Nat) (sv : Value) (Ls : List E) (hl : Ls.length ≤ 100000) (w : World) (hBv : w.cell? ⟨Bv, 0, none⟩ = some sv) (hE : Ents w sv Ls) :
    Calls Try.prog 49 #[.func (.func 51) #[] #[.pointer (some ⟨Bv, 0, none⟩)]] w (ListOut w Ls) :=
  (callsIn_wide (n := 5)).1 (collect_in 5 (by omega) Bv sv Ls hl w hBv hE)
/-! the sort -/
instance : Inhabited E := ⟨⟨0, 0, 0, 0, 0, 0, 0, by decide⟩⟩
theorem ltE_eq (x y : E) : ltOf cmpE x y = decide (ltP x y) := by
  unfold ltOf
  exact decide_eq_decide.2 cmpE_lt
theorem swoE : SWO (ltOf cmpE) where
  irrefl x := by rw [ltE_eq]; exact decide_eq_false (ltP_irrefl x)
  trans x y z h1 h2 := by rw [ltE_eq] at *; simp only [decide_eq_true_eq] at *; exact ltP_trans h1 h2
  ntrans x y z h1 h2 := by rw [ltE_eq] at *; simp only [decide_eq_false_iff_not] at *; unfold ltP at *; omega
theorem cmpLaysE (blk off size : Nat) (w : World) : CmpLays Try.prog 45 #[] cellsE 7 cmpE blk off size w :=
  fun _ _ _ _ x y => compare_c x y _
/-- a row of its own, as the sort's contract has it -/
theorem OwnE.holdsK {w : World} {g : Nat} {cur : Array Value} {L : List E} (hg : w.heap[g]? = some (.cells cur 39 (0, 0)))
    (h : ∀ i x, L[i]? = some x → ∀ k, k < 7 → cur[i * 7 + k]? = (cellsE x)[k]?) : HoldsK cellsE 7 w g 0 L.toArray := by
  intro j hj
  rw [size_flatK] at hj
  have hi : j / 7 < L.length := by simp at hj; omega
  have h1 := h (j / 7) L[j / 7] (List.getElem?_eq_getElem hi) (j % 7) (by omega)
  rw [show j / 7 * 7 + j % 7 = j by omega] at h1
  refine ⟨?_, Blk.frozen (show Blk w g _ cur from hg) _⟩
  rw [cell_of_row w g _ cur _ (0, 0) hg, Nat.zero_add, h1, get_flatK _ _ _ j (by simpa using hj)]
  have e : L.toArray[j / 7]! = L[j / 7] := by rw [getElem!_pos _ _ (by simpa using hi)]; simp
  rw [e]
  have hk : j % 7 < (cellsE L[j / 7]).length := by rw [cellsE_len]; omega
  rw [List.getElem?_eq_getElem hk, getElem!_pos (cellsE L[j / 7]) (j % 7) hk]
  rfl
theorem sort_block {w : World} {blk n : Nat} {d : Array E} {os : Array Obj} {j : Nat} (hj : j ≠ blk) (hlt : j < w.heap.size) : (sortWorldK cellsE 7 w blk 0 n d os).heap[j]? = w.heap[j]? := by
  unfold sortWorldK
  show ((putRowK cellsE 7 (Sort.ahead w n) blk 0 d).heap ++ os)[j]? = _
  rw [Array.getElem?_append_left (by rw [size_putRowK]; exact hlt)]
  unfold putRowK putRow mapBlock
  show ((Sort.ahead w n).heap.modify blk _)[j]? = _
  rw [Array.getElem?_modify, if_neg (fun e => hj e.symm)]
  rfl
theorem sort_grown {w : World} {blk n : Nat} {d : Array E} {os : Array Obj} : w.grownBy (sortWorldK cellsE 7 w blk 0 n d os) (some blk) :=
  ⟨rfl, rfl, rfl, size_sortWorldK_c cellsE 7 w blk 0 n d os, fun j hj hne => sort_block (by rintro rfl; exact hne rfl) hj⟩
/-- ascending, of the entries L -/
def SortedOf (L S : List E) : Prop := S.Perm L ∧ Asc S
/-- what the sort leaves -/
def SortOut (w : World) (L : List E) (e : Ending) (w' : World) : Prop := ∃ v S, e = .returned v ∧ Ents w' v S ∧ SortedOf L S ∧ Below w.heap.size w w'
theorem sort_list {L : List E} {d : Array E} (hp : PermIn 0 L.toArray.size L.toArray d) (hs : SortedIn (ltOf cmpE) 0 L.toArray.size d) : SortedOf L d.toList := by
  obtain ⟨h1, _, h3⟩ := hp
  constructor
  · have e : d.extract 0 L.toArray.size = d := by rw [← h1]; simp
    rw [e] at h3
    simpa using h3
  · unfold Asc
    rw [List.pairwise_iff_getElem]
    intro i j hi hj hij
    have hi' : i < d.size := by simpa using hi
    have hj' : j < d.size := by simpa using hj
    have := hs i j (Nat.zero_le _) hij (by rw [← h1]; exact hj')
    rw [ltE_eq, decide_eq_false_iff_not, getElem!_pos d j hj', getElem!_pos d i hi'] at this
    simpa using this
set_option maxRecDepth 100000 in
theorem sort_c {w : World} {B : Nat} {v : Value} {L : List E} (hl : L.length ≤ 100000) (h : OwnE w B v L) :
    Calls Try.prog 50 #[v, .func (.func 45) #[] #[]] w fun e w' => e = .returned (.tuple #[]) ∧ ∃ S, Ents w' v S ∧ SortedOf L S ∧ w.grownBy w' v.ownBlock := by
  rcases h.form with ⟨rfl, rfl⟩ | ⟨g, cap, cur, rfl, hB, hg, h4, h5, h6, h7⟩
  · have h := AnyF.slices_SortFunc_none (P := Try.prog) (ρ := sortE_ren) { sortE with } none 0 (.func (.func 45) #[] #[]) w
    refine h.mono ?_
    rintro e w' ⟨rfl, rfl⟩
    exact ⟨rfl, [], Ents.nil, ⟨List.Perm.refl _, List.Pairwise.nil⟩, ⟨rfl, rfl, rfl, Nat.le_refl _, fun _ _ _ => rfl⟩⟩
  · have hH := OwnE.holdsK hg h7
    have hglt : g < w.heap.size := (Array.getElem?_eq_some_iff.1 hg).1
    have hc := AnyQ.slices_SortFunc (P := Try.prog) (ρ := sortE_ren) { sortE with } 7 Try.isAgg39 Try.sizeOf39 cellsE cellsE_len cellsE_one cmpE swoE 45 #[] g 0 cap L.toArray w
      (enters_of Try.func45 (by kernel_rfl) rfl) (cmpLaysE g 0 L.toArray.size w) hH hglt (by simp; omega)
    rw [List.size_toArray] at hc
    refine hc.mono ?_
    rintro e w' ⟨rfl, d, n, os, hp, hs, rfl⟩
    have hd : d.size = L.toArray.size := hp.1
    have hK := holdsK_sortWorldK_c cellsE 7 w g 0 L.toArray d n os hH hglt hd
    have hso := sort_list hp hs
    refine ⟨rfl, d.toList, ⟨some ⟨g, 0, none⟩, cap, by rw [hso.1.length_eq], by rw [hso.1.length_eq]; exact h4, fun _ => ⟨g, 0, rfl, fun i x hx => at7_of fun k hk => ?_⟩⟩, hso, sort_grown⟩
    have hi : i < d.size := by simpa using (List.getElem?_eq_some_iff.1 hx).1
    rw [(hK.cell hi hk).1]
    have e : d[i]! = x := by rw [getElem!_pos d i hi]; simpa [hi] using hx
    have hkl : k < (cellsE x).length := by rw [cellsE_len]; exact hk
    rw [e, getElem!_pos (cellsE x) k hkl, List.getElem?_eq_getElem hkl]
end Go.Proofs.Ytomoldfgnbjliaa
