/- The reference's Sorted. -/
import Derived.Test.YtffgjamnijhlpaaSyr
import Derived.Sort.Walk0
import Derived.Deep.CutRange
import Derived.BigRegion
namespace Go.Proofs.Ytffgjamnijhlpaa
open Go.RowKit Go.Maps Go.Sort
def ordB (a b : ByteArray) : Prop := a.data.toList ≤ b.data.toList
def ascB (l : List ByteArray) : Prop := l.Pairwise ordB
def SortedOf (L M : List ByteArray) : Prop := L.Perm M ∧ ascB L
theorem sorted_unique {L M : List ByteArray} (h : SortedOf L M) {ss : List (List UInt8)} (hp : ss.Perm (M.map (fun s => s.data.toList))) : (ss.mergeSort (fun x y => decide (x ≤ y))).map (fun s => (⟨s.toArray⟩ : ByteArray)) = L := by
  have h1 : ss.Perm (L.map (fun s => s.data.toList)) := hp.trans (h.1.map _).symm
  have h2 := mergeSort_of_perm h1
  have h3 : (L.map (fun s => s.data.toList)).mergeSort leB = L.map (fun s => s.data.toList) := List.mergeSort_of_pairwise (by
    rw [List.pairwise_map]
    exact h.2.imp fun {a b} hab => by simpa [ordB] using hab)
  rw [h3] at h2
  have h4 : ss.mergeSort (fun x y => decide (x ≤ y)) = L.map (fun s => s.data.toList) := h2
  rw [h4, List.map_map]
  have : ((fun s : List UInt8 => (⟨s.toArray⟩ : ByteArray)) ∘ fun s : ByteArray => s.data.toList) = id := by
    funext s
    simp
  rw [this, List.map_id]
theorem less_yes {x p : ByteArray} (h : Op.bytesLess x.toList p.toList = true) : ordB x p := by
  rw [bytesLess_eq, Lib.toList_data, Lib.toList_data] at h
  exact List.le_of_lt (by simpa using h)
theorem less_no {x p : ByteArray} (h : Op.bytesLess x.toList p.toList = false) : ordB p x := by
  rw [bytesLess_eq, Lib.toList_data, Lib.toList_data] at h
  have h' : ¬ x.data.toList < p.data.toList := by simpa using h
  exact List.not_lt.1 h'
theorem ordB_trans {a b c : ByteArray} (h : ordB a b) (h' : ordB b c) : ordB a c := List.le_trans h h'
/-- the list while x sinks: what stands before it, and behind it -/
def Sink (L P S : List ByteArray) (x : ByteArray) : Prop := P ++ S = L ∧ ∀ y ∈ S, ordB x y
theorem Sink.start (L : List ByteArray) (x : ByteArray) : Sink L L [] x := ⟨by simp, fun y h => by cases h⟩
theorem Sink.step {L P S : List ByteArray} {x p : ByteArray} (h : Sink L (P ++ [p]) S x) (hx : ordB x p) : Sink L P (p :: S) x :=
  ⟨by rw [← h.1, List.append_assoc]; rfl, fun y hy => by rcases List.mem_cons.1 hy with rfl | hy; exact hx; exact h.2 y hy⟩
theorem Sink.asc {L P S : List ByteArray} {x : ByteArray} (h : Sink L P S x) (hL : ascB L) (hP : ∀ p ∈ P, ordB p x) : ascB (P ++ x :: S) := by
  unfold ascB at hL ⊢
  rw [← h.1, List.pairwise_append] at hL
  rw [List.pairwise_append]
  refine ⟨hL.1, List.pairwise_cons.2 ⟨h.2, hL.2.1⟩, fun a ha b hb => ?_⟩
  rcases List.mem_cons.1 hb with rfl | hb
  · exact hP a ha
  · exact hL.2.2 a ha b hb
theorem Sink.perm {L P S : List ByteArray} {x : ByteArray} (h : Sink L P S x) : (P ++ x :: S).Perm (L ++ [x]) := by
  rw [← h.1]
  exact List.perm_middle.trans (List.perm_append_singleton x (P ++ S)).symm
theorem asc_last {P : List ByteArray} {p x : ByteArray} {S L : List ByteArray} (h : Sink L (P ++ [p]) S x) (hL : ascB L) (hx : ordB p x) : ∀ q ∈ P ++ [p], ordB q x := by
  intro q hq
  rcases List.mem_append.1 hq with hq | hq
  · unfold ascB at hL
    rw [← h.1, List.append_assoc, List.pairwise_append] at hL
    exact ordB_trans (hL.2.2 q hq p (by simp)) hx
  · simp at hq
    subst hq
    exact hx
theorem sorted_next {M L P S : List ByteArray} {x : ByteArray} {i : Nat} (hS : SortedOf L (M.take i)) (hK : Sink L P S x) (hx : M[i]? = some x) (hP : ∀ p ∈ P, ordB p x) : SortedOf (P ++ x :: S) (M.take (i + 1)) := by
  refine ⟨hK.perm.trans ?_, hK.asc hS.2 hP⟩
  rw [List.take_add_one, hx]
  exact hS.1.append_right _
theorem swap_list (p x : ByteArray) (S : List ByteArray) : ∀ P : List ByteArray, ((((P ++ [p]) ++ x :: S).map Value.string).set (P.length + 1) (.string p)).set P.length (.string x) = (P ++ x :: p :: S).map Value.string
  | [] => rfl
  | a :: P => by
    have := swap_list p x S P
    simp only [List.cons_append, List.map_cons, List.length_cons, List.set_cons_succ, this]
theorem Sink.length {L P S : List ByteArray} {x : ByteArray} (h : Sink L P S x) : (P ++ x :: S).length = L.length + 1 := by rw [← h.1]; simp; omega
section
variable {w w' : World} {F G : Nat → Prop} {v : Value} {limit : Nat} {names : List ByteArray} {E als : List (ByteArray × Int)}
/-- the element at i of names and aliases -/
theorem all_name {i : Nat} (h : i < names.length) (x : ByteArray) (hx : (names ++ Keys als)[i]? = some x) : names[i] = x := by
  rw [List.getElem?_append_left h, List.getElem?_eq_getElem h] at hx
  exact Option.some.inj hx
theorem all_alias {i : Nat} (h : i < als.length) (x : ByteArray) (hx : (names ++ Keys als)[names.length + i]? = some x) : als[i].1 = x := by
  rw [List.getElem?_append_right (by omega), show names.length + i - names.length = i by omega] at hx
  unfold Keys at hx
  rw [List.getElem?_map, List.getElem?_eq_getElem h] at hx
  simpa using hx
set_option maxRecDepth 100000 in
set_option maxHeartbeats 8000000 in
theorem rsorted_c (h : RS w G v limit names als) (hl : names.length ≤ 4096) (ha : als.length ≤ 4096) :
    Calls Try.prog 28 #[v] w fun e w' => (∃ v' L, e = .returned v' ∧ Strs w' v' L ∧ SortedOf L (names ++ Keys als)) ∧ Below w.heap.size w w' := by
  obtain ⟨i0, hin, hz0, hz1, hz2⟩ := info_parts infoS
  obtain ⟨vn, va, rfl, hS, hA⟩ := h.strs
  obtain ⟨ao, cap, rfl, hN⟩ := hS
  obtain ⟨ao2, cap2, rfl, hM⟩ := hA
  have HN := Lib.hid hN
  have HM := Lib.hid hM
  have hB : Blk (w.alloc (.cells #[.int .i64 limit, .slice ao names.length cap, .slice ao2 als.length cap2] 28)) w.heap.size 28 _ := Blk.new w 28 #[.int .i64 limit, .slice ao names.length cap, .slice ao2 als.length cap2]
  have hW : Below w.heap.size w (w.alloc (.cells #[.int .i64 limit, .slice ao names.length cap, .slice ao2 als.length cap2] 28)) := (Below.refl _ _).alloc (Nat.le_refl _) _
  have hz : (w.alloc (.cells #[.int .i64 limit, .slice ao names.length cap, .slice ao2 als.length cap2] 28)).heap.size = w.heap.size + 1 := by simp
  clear h hN hM
  go_enter Try.func28, Try.ntmps28
  go_wp2_with fail
  generalize w.alloc (.cells #[.int .i64 limit, .slice ao names.length cap, .slice ao2 als.length cap2] 28) = W at *
  have HB := Lib.hid hB
  have HW := Lib.hid hW
  have HZ := Lib.hid hz
  clear hB hW hz
  go_loopw [3, 4] (fun vl vi wr => ∃ (i : Nat) (L : List ByteArray), i ≤ names.length + als.length ∧ vi = .int .i64 i ∧ Hid (wr.ownsRow (w.heap.size + 1) 9 1 vl L.length (L.map Value.string)) ∧ Hid (L.length = i) ∧ Hid (SortedOf L ((names ++ Keys als).take i)) ∧ Below (w.heap.size + 1) W wr) (fun _ vi _ => names.length + als.length - (intOf vi).toNat)
  case atStart => exact ⟨0, [], Nat.zero_le _, rfl, Lib.hid (by simpa using World.ownsRow_nil _ (w.heap.size + 1) 9 1), Lib.hid rfl, Lib.hid ⟨by simp, List.Pairwise.nil⟩, Below.refl _ _⟩
  case round =>
    obtain ⟨i, L, hi, rfl, HO, HL, HS, hb⟩ := hrel
    have hLm : L.length ≤ 8192 := by have := HL.out; omega
    have hBr := HB.out.below hb (by omega)
    obtain ⟨c0, c1, c2⟩ := hBr.box3
    have HBr := Lib.hid hBr
    clear hBr
    by_cases hlt : i < names.length + als.length
    · have hlt' : (i : Int) < (names.length : Int) + (als.length : Int) := by omega
      obtain ⟨x, hx⟩ : ∃ x, (names ++ Keys als)[i]? = some x := ⟨_, List.getElem?_eq_getElem (by simp [Keys]; omega)⟩
      have HX := Lib.hid hx
      clear hx
      have hwl := HO.out
      go_upto_if 22 with (fail)
      go_cut [5] from 23 to 37 (fun s5 wx => s5 = .string x ∧ wx = wr)
      case first =>
        by_cases h1 : i < names.length
        · have h1' : (i : Int) < (names.length : Int) := by omega
          obtain ⟨g, o, rfl, hRow⟩ := HN.out (by rintro rfl; simp at h1)
          have hgl := hRow.lt (by omega)
          have q1 := (hRow.keep ((hb.block g (by omega)).trans (HW.out.block g hgl))) i h1
          rw [all_name h1 x HX.out] at q1
          clear hRow hgl
          go_wp2_with fail
          go_meet
          exact ⟨rfl, rfl⟩
        · obtain ⟨j, rfl⟩ : ∃ j, i = names.length + j := ⟨i - names.length, by omega⟩
          have hj : j < als.length := by omega
          have hj' : (j : Int) < (als.length : Int) := by omega
          obtain ⟨g, o, rfl, hRow⟩ := HM.out (by rintro rfl; simp at hj)
          have hgl := hRow.lt (by omega)
          obtain ⟨q1, _⟩ := (hRow.keep ((hb.block g (by omega)).trans (HW.out.block g hgl))) j hj
          rw [all_alias hj x HX.out] at q1
          clear hRow hgl
          go_wp2_with fail
          go_meet
          exact ⟨rfl, rfl⟩
      case rest =>
        obtain ⟨rfl, rfl⟩ := hcut
        clear c0 c1 c2
        go_wp2_with (at_builtin; refine wpList_append_own _ rfl _ _ 25 rfl (w.heap.size + 1) 9 i0 (.string ⟨#[]⟩) 1 16 Try.underlying25 hin hz0 hz1 hz2 rfl (by decide) _ L.length (L.map Value.string) rfl (HO.out.alloc _) ⟨wc.heap.size, 0, none⟩ 1 1 [.string x] rfl rfl ?c4 ?c5 ?c6 ?c7 ?c8 ?_)
        case c4 =>
          intro j u hu
          have hj : j = 0 := by
            have := (List.getElem?_eq_some_iff.1 hu).1
            simpa using this
          subst hj
          simp at hu
          subst hu
          exact (Blk.new wc 9 #[.string x]).cell 0
        case c5 => intro u hu; simp at hu; subst hu; rfl
        case c6 => unfold maxLen; omega
        case c7 => omega
        case c8 => simp; have := hb.size; have := HZ.out; omega
        intro v6 w6 hown6 hg6 _
        have hb6 : Below (w.heap.size + 1) W w6 := (hb.alloc (by have := hb.size; have := HZ.out; omega) _).grown hg6 (by simp; have := hb.size; have := HZ.out; omega) (fun k hk => (World.ownsRow.lt hwl k hk).1)
        obtain ⟨g6, cap6, cur6, rfl, hg6b, _⟩ : ∃ g cap cur, v6 = .slice (some ⟨g, 0, none⟩) (L.length + 1) cap ∧ w.heap.size + 1 ≤ g ∧ w6.heap[g]? = some (.cells cur 9 (0, 0)) := by
          rcases hown6.2 with ⟨_, h⟩ | ⟨g, cap, cur, h, h2, h3, _⟩
          · cases h
          · exact ⟨g, cap, cur, h, h2, h3⟩
        have HO6 : Hid (w6.ownsRow (w.heap.size + 1) 9 1 (.slice (some ⟨g6, 0, none⟩) (L.length + 1) cap6) (L.length + 1) ((L ++ x :: []).map Value.string)) := Lib.hid (by rw [List.map_append]; exact hown6)
        clear hown6 hg6 hwl
        go_wp2_with fail
        go_loopw [6] (fun vk wr2 => ∃ (k : Nat) (P S : List ByteArray), vk = .int .i64 k ∧ Hid (P.length = k) ∧ Hid (wr2.ownsRow (w.heap.size + 1) 9 1 (.slice (some ⟨g6, 0, none⟩) (L.length + 1) cap6) (L.length + 1) ((P ++ x :: S).map Value.string)) ∧ Hid (Sink L P S x) ∧ Below (w.heap.size + 1) W wr2) (fun vk _ => (intOf vk).toNat)
        case atStart => exact ⟨L.length, L, [], rfl, Lib.hid rfl, HO6, Lib.hid (Sink.start L x), hb6⟩
        case round =>
          obtain ⟨k, P, S, rfl, HP, HR, HK, hb7⟩ := hrel
          rcases List.eq_nil_or_concat P with rfl | ⟨P', p, rfl⟩
          · obtain rfl : k = 0 := by have := HP.out; simpa using this.symm
            have HLEN := Lib.hid HK.out.length
            have HSS := Lib.hid (sorted_next HS.out HK.out HX.out (fun p h => by cases h))
            have hb8 := hb7
            go_wp2_with fail
            go_quiet (fail)
            have HBB := hb7.trans (below_drewN (B := w.heap.size + 1) (w := wr) nq)
            go_wp2_with fail
            go_roundw
            case rel => exact ⟨i + 1, _, by omega, by go_num, Lib.hid (by rw [HLEN.out]; exact HR.out), Lib.hid (by rw [HLEN.out, HL.out]), HSS, HBB⟩
            case measure => simp [intOf]; omega
          · obtain ⟨j, rfl⟩ : ∃ j, k = j + 1 := ⟨P'.length, by have := HP.out; simp at this; omega⟩
            rw [List.concat_eq_append] at *
            have hPj : P'.length = j := by have := HP.out; simp at this; omega
            have hjL : j + 1 ≤ L.length := by rw [← HK.out.1]; simp; omega
            have hc := World.ownsRow.cells HR.out (g := g6) rfl
            have q1 := hc (j + 1) (.string x) (by rw [List.getElem?_map, List.append_assoc, List.getElem?_append_right (by omega), hPj]; simp)
            have q0 := hc j (.string p) (by rw [List.getElem?_map, List.append_assoc, List.getElem?_append_right (by omega), hPj]; simp)
            simp only [Addr.add_lit, Nat.zero_add] at q1 q0
            by_cases hless : Op.bytesLess x.toList p.toList = true
            · have HK2 := Lib.hid (HK.out.step (less_yes hless))
              have HPj := Lib.hid hPj
              clear HL hPj
              go_wp2_with fail
              go_quiet (fail)
              go_wp2_with fail
              have r2 := row_below HR.out (below_drewN (B := wr.heap.size) (w := wr) nq)
              have hb8 := hb7.trans (below_drewN (B := w.heap.size + 1) (w := wr) nq)
              clear q1 q0
              generalize wr.drewN nq = W2 at *
              obtain ⟨cur, hcur⟩ : ∃ cur, Blk W2 g6 9 cur := by
                rcases r2.2 with ⟨h, _⟩ | ⟨g', cap', cur, h, _, hh, _⟩
                · cases h
                · cases h; exact ⟨cur, hh⟩
              have hc := World.ownsRow.cells r2 (g := g6) rfl
              have q1 := hc (j + 1) (.string x) (by rw [List.getElem?_map, List.append_assoc, List.getElem?_append_right (by have := HPj.out; omega), HPj.out]; simp)
              have q0 := hc j (.string p) (by rw [List.getElem?_map, List.append_assoc, List.getElem?_append_right (by have := HPj.out; omega), HPj.out]; simp)
              simp only [Addr.add_lit, Nat.zero_add] at q1 q0
              have f1 := hcur.frozen (j + 1)
              have f0 := hcur.frozen j
              have R3 := row_put (i := j) (row_put (i := j + 1) r2 (.string p)) (.string x)
              have hsw := swap_list p x S P'
              rw [HPj.out] at hsw
              rw [hsw] at R3
              have HR3 := Lib.hid R3
              have hb9 : Below (w.heap.size + 1) W ((W2.setCell ⟨g6, j + 1, none⟩ (.string p)).setCell ⟨g6, j, none⟩ (.string x)) := (hb8.setCell (p := ⟨g6, j + 1, none⟩) hg6b _).setCell (p := ⟨g6, j, none⟩) hg6b _
              clear r2 hc hcur R3 hsw HR hb7 hb8
              go_region
              go_wp2_with fail
              go_roundw
              case rel => exact ⟨j, P', p :: S, by go_num, HPj, HR3, HK2, hb9.drew⟩
              case measure => simp [intOf]
            · have hless' : Op.bytesLess x.toList p.toList = false := by simpa using hless
              have HLEN := Lib.hid HK.out.length
              have HSS := Lib.hid (sorted_next HS.out HK.out HX.out (asc_last HK.out HS.out.2 (less_no hless')))
              clear hless
              go_wp2_with fail
              go_quiet (fail)
              have HBB := hb7.trans (below_drewN (B := w.heap.size + 1) (w := wr) nq)
              go_wp2_with fail
              go_roundw
              case rel => exact ⟨i + 1, _, by omega, by go_num, Lib.hid (by rw [HLEN.out]; exact HR.out), Lib.hid (by rw [HLEN.out, HL.out]), HSS, HBB⟩
              case measure => simp [intOf]; omega
    · obtain rfl : i = names.length + als.length := by omega
      have hfin : SortedOf L (names ++ Keys als) := by
        have := HS.out
        rwa [List.take_of_length_le (by simp [Keys])] at this
      have HF := Lib.hid hfin
      clear HS HL hfin
      go_wp2_with fail
      go_ret
      refine ⟨⟨_, L, rfl, own_strs HO.out, HF.out⟩, HW.out.trans (hb.mono (by omega))⟩
end
end Go.Proofs.Ytffgjamnijhlpaa
