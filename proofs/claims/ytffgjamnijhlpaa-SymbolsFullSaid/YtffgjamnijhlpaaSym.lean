/- maps.Clone at this program; Name, Names and Copy. -/
import Derived.Test.YtffgjamnijhlpaaSyl
import Derived.Shelf.SlMaps.Clone
import Derived.Laws.CopyOwn
namespace Go.Proofs.Ytffgjamnijhlpaa
open Go.RowKit Go.Maps Go.Sort Go.Shelf
def kyClone_ren : Go.Shelf.Ren := ⟨fun | 5 => 31 | 7 => 37 | n => n, fun | 4 => 4 | 20 => 20 | 23 => 53 | 25 => 9 | 3 => 3 | n => n, fun | n => n⟩
theorem kyClone : Go.Proofs.SlLaysW.n5 Try.prog kyClone_ren := {
  mixed := by kernel_rfl
  f5 := ⟨Try.f31.name, by decide, Try.func31.trans (congrArg some (by kernel_rfl))⟩
  f7 := Try.func37.trans (congrArg some (by kernel_rfl))
  t4 := Try.underlying4
  a4 := Try.isAgg4
  z4 := Try.sizeOf4
  v4 := Try.zeroValue4
  t20 := Try.underlying20
  a20 := Try.isAgg20
  z20 := Try.sizeOf20
  v20 := Try.zeroValue20
  t23 := Try.underlying53
  a23 := Try.isAgg53
  z23 := Try.sizeOf53
  v23 := Try.zeroValue53 }
theorem clone_c (b n : Nat) (D : DataW Unit) (w : World) (hown : w.ownsMap Try.prog 9 (plainElem Try.prog 3) b n D) :
    Calls Try.prog 31 #[.map (some b)] w fun e w' => e = .returned (.map (some w.heap.size)) ∧ w'.ownsMap Try.prog 9 (plainElem Try.prog 3) w.heap.size n D ∧ Below w.heap.size w w' :=
  (AnyW.maps_Clone_owns kyClone 9 (plainElem Try.prog 3) b n D w hown).mono fun _ _ ⟨a, b, _, d⟩ => ⟨a, b, d⟩
section
variable {w : World} {F : Nat → Prop} {g limit : Nat} {names : List ByteArray} {E : List (ByteArray × Int)}
set_option maxRecDepth 100000 in
theorem name_c (n : Int) (h : TabF w F g limit names E) (hl : names.length ≤ 1000000) :
    Calls Try.prog 16 #[.pointer (some ⟨g, 0, none⟩), .int .i64 n] w fun e w' => e = .returned (.tuple #[.string (symNR names n), .bool (symNB names n)]) ∧ Below w.heap.size w w' := by
  have HM := Lib.hid (made_c h.tab)
  obtain ⟨bm, vn, h1, h2, _⟩ := h
  have hS := own_strs h2
  obtain ⟨ao, cap, rfl, hN⟩ := hS
  have HN := Lib.hid hN
  obtain ⟨c0, c1, c2, c3⟩ := box4c h1
  clear hN h1 h2
  have HL := Lib.hid (@nameR_low names n)
  have HI := Lib.hid (@nameR_high names n)
  obtain ⟨R, hR⟩ : ∃ R, symNR names n = R := ⟨_, rfl⟩
  obtain ⟨H, hH⟩ : ∃ H, symNB names n = H := ⟨_, rfl⟩
  rw [hR, hH]
  have HR := Lib.hid hR
  have HH := Lib.hid hH
  clear hR hH
  by_cases h0 : n < 0
  · obtain ⟨e1, e2⟩ := HL.out h0
    rw [HR.out] at e1
    rw [HH.out] at e2
    subst e1 e2
    clear HR HH HL HI
    go_enter Try.func16, Try.ntmps16
    go_wp2_with (go_at_call 29; refine HM.out.mono ?_; rintro e w1 ⟨rfl, rfl⟩)
    go_ret2
    exact ⟨rfl, Below.refl _ _⟩
  · by_cases h1 : (names.length : Int) ≤ n
    · obtain ⟨e1, e2⟩ := HI.out h1
      rw [HR.out] at e1
      rw [HH.out] at e2
      subst e1 e2
      clear HR HH HL HI
      go_enter Try.func16, Try.ntmps16
      go_wp2_with (go_at_call 29; refine HM.out.mono ?_; rintro e w1 ⟨rfl, rfl⟩)
      go_ret2
      exact ⟨rfl, Below.refl _ _⟩
    · obtain ⟨i, rfl⟩ : ∃ i : Nat, n = i := ⟨n.toNat, by omega⟩
      have hlt : i < names.length := by omega
      obtain ⟨e1, e2⟩ := nameR_in hlt
      rw [HR.out] at e1
      rw [HH.out] at e2
      subst e2
      obtain ⟨g', o, rfl, hRow⟩ := HN.out (by rintro rfl; simp at hlt)
      have q1 := hRow i hlt
      rw [← e1] at q1
      have hlt' : (i : Int) < (names.length : Int) := by omega
      have h1' : ¬ (names.length : Int) ≤ (i : Int) := h1
      clear HR HH HL HI e1 hRow
      go_enter Try.func16, Try.ntmps16
      go_wp2_with (go_at_call 29; refine HM.out.mono ?_; rintro e w1 ⟨rfl, rfl⟩)
      go_ret2
      exact ⟨rfl, Below.refl _ _⟩
theorem full_row {B g n : Nat} {t : TypeId} {xs : List Value} (h : w.ownsRow B t 1 (.slice (some ⟨g, 0, none⟩) n n) n xs) : w.heap[g]? = some (.cells xs.toArray t (0, 0)) := by
  rcases h.2 with ⟨h, _⟩ | ⟨g', cap, cur, hv, _, hh, _, _, hs, ht⟩
  · cases h
  · cases hv
    rw [hh]
    have : cur.toList = xs := by rw [← ht, List.take_of_length_le (by simp; omega)]
    rw [← this]
theorem row_full {B g n : Nat} {t : TypeId} {xs : List Value} (hx : xs.length = n) (hB : B ≤ g) (hn : n ≤ maxLen) (h : w.heap[g]? = some (.cells xs.toArray t (0, 0))) : w.ownsRow B t 1 (.slice (some ⟨g, 0, none⟩) n n) n xs :=
  ⟨by omega, .inr ⟨g, n, xs.toArray, rfl, hB, h, Nat.le_refl _, hn, by simp [hx], by rw [List.toList_toArray, List.take_of_length_le (by omega)]⟩⟩
theorem splice_all {α : Type} (l m : List α) (h : l.length = m.length) : splice l 0 m = m := by
  unfold splice
  rw [List.drop_eq_nil_of_le (by omega)]
  simp
theorem row_cells {B : Nat} {v : Value} {n : Nat} {t : TypeId} {xs : List Value} {ao : Option Addr} {cap : Nat} (h : w.ownsRow B t 1 v n xs) (hv : v = .slice ao n cap) (hn : 0 < n) : ∃ ad, ao = some ad ∧ ∀ j u, xs[j]? = some u → w.cell? (ad.add j) = some u := by
  have h0 := h
  rcases h.2 with ⟨rfl, h'⟩ | ⟨g, cap', cur, rfl, _⟩
  · omega
  · cases hv
    exact ⟨_, rfl, World.ownsRow.cells h0 rfl⟩
set_option maxRecDepth 100000 in
set_option maxHeartbeats 1000000 in
theorem copyNames_c {B : Nat} {vn : Value} (h : w.ownsRow B 9 1 vn names.length (names.map Value.string)) (hl : names.length ≤ 1000000) :
    Calls Try.prog 30 #[vn] w fun e w' => ∃ v', e = .returned v' ∧ w'.ownsRow w.heap.size 9 1 v' names.length (names.map Value.string) ∧ Below w.heap.size w w' := by
  obtain ⟨i0, hin, hz0, hz1, hz2⟩ := info_parts infoS
  obtain ⟨ao, cap, rfl⟩ := isSl h
  obtain ⟨xs, hxs⟩ : ∃ xs, xs = names.map Value.string := ⟨_, rfl⟩
  rw [← hxs] at h ⊢
  have hlen : xs.length = names.length := by rw [hxs, List.length_map]
  have h1 : ∀ v ∈ xs, v.oneCell' = true := by
    intro v hv
    rw [hxs] at hv
    obtain ⟨s, _, rfl⟩ := List.mem_map.1 hv
    rfl
  have HR := Lib.hid h
  have HL := Lib.hid hlen
  have H1 := Lib.hid h1
  clear h hlen h1 hxs
  go_enter Try.func30, Try.ntmps30
  go_wp2_with (at_make; refine wpList_make_full _ rfl _ _ 25 rfl w.heap.size 9 i0 (.string ⟨#[]⟩) 1 Try.underlying25 hin hz0 hz1 .i64 .i64 names.length names.length names.length rfl rfl rfl rfl ?b1 ?b2 ?b3 ?_)
  case b1 => rw [hz2]; omega
  case b2 => unfold maxLen; omega
  case b3 => exact Nat.le_refl _
  intro w1 hown hg
  have hb : Below w.heap.size w w1 := (Below.refl _ _).grown hg (Nat.le_refl _) (fun k hk => by cases hk)
  obtain ⟨cur, hheap, hml⟩ : ∃ cur : List Value, w1.heap[w.heap.size]? = some (.cells cur.toArray 9 (0, 0)) ∧ cur.length = names.length := ⟨_, full_row hown, by have := hown.1; omega⟩
  have hR1 := row_below HR.out hb
  have HH := Lib.hid hheap
  have HC := Lib.hid hml
  have HR1 := Lib.hid hR1
  clear hown hg hheap hml hR1
  go_wp2_with (with_reducible refine wpList_copy_splice rfl (.tmp 7) (.tmp 8) 25 25 rfl 9 Try.underlying25 (by kernel_rfl) (some ⟨w.heap.size, 0, none⟩) ao names.length names.length names.length cap rfl rfl w.heap.size 0 cur 9 HH.out xs ?c1 ?c2 ?c3 H1.out w.heap.size w hb (Nat.le_refl _) ?_)
  case c1 => exact HL.out.trans (Nat.min_self _).symm
  case c2 => intro h0; first | exact ⟨rfl, row_cells HR1.out rfl (by rw [HL.out] at h0; exact h0)⟩ | exact row_cells HR1.out rfl (by rw [HL.out] at h0; exact h0)
  case c3 => rw [HL.out, HC.out]; omega
  intro w2 hg2 hb2
  have hg3 := hg2.out
  rw [splice_all _ _ (by rw [HL.out, HC.out])] at hg3
  have hres := row_full (B := w.heap.size) (n := names.length) HL.out (Nat.le_refl _) (by unfold maxLen; omega) hg3
  clear hg2 hg3
  go_wp2_with fail
  go_ret
  exact ⟨_, rfl, hres, hb2⟩
set_option maxRecDepth 100000 in
theorem names_c (h : TabF w F g limit names E) (hl : names.length ≤ 1000000) :
    Calls Try.prog 23 #[.pointer (some ⟨g, 0, none⟩)] w fun e w' => ∃ v', e = .returned v' ∧ Strs w' v' names ∧ Below w.heap.size w w' := by
  have HM := Lib.hid (made_c h.tab)
  obtain ⟨bm, vn, h1, h2, _⟩ := h
  have HC := Lib.hid (copyNames_c h2 hl)
  obtain ⟨c0, c1, c2, c3⟩ := box4c h1
  clear h1 h2
  go_enter Try.func23, Try.ntmps23
  go_wp2_with (first
    | (go_at_call 29; refine HM.out.mono ?_; rintro e w1 ⟨rfl, rfl⟩)
    | (go_at_call 30; refine HC.out.mono ?_; rintro e w1 ⟨v', rfl, hr, hb⟩))
  go_ret
  exact ⟨v', rfl, own_strs hr, hb⟩
set_option maxRecDepth 100000 in
set_option maxHeartbeats 2000000 in
theorem copy_c (h : TabF w F g limit names E) (hl : names.length ≤ 1000000) (hm : limit ≤ 4096) :
    Calls Try.prog 18 #[.pointer (some ⟨g, 0, none⟩)] w fun e w' => ∃ g', e = .returned (.pointer (some ⟨g', 0, none⟩)) ∧ TabF w' (fun k => w.heap.size ≤ k ∧ k < w'.heap.size) g' limit names E ∧ Below w.heap.size w w' := by
  have HM := Lib.hid (made_c h.tab)
  obtain ⟨bm, vn, h1, h2, h3, h4, _⟩ := h
  have HN := Lib.hid (new_c limit w hm)
  obtain ⟨c0, c1, c2, c3⟩ := box4c h1
  have H1 := Lib.hid h1
  have H2 := Lib.hid h2
  have H3 := Lib.hid h3
  have H4 := Lib.hid h4
  clear h1 h2 h3 h4
  have hg1 := H1.out.lt
  have hlt := H3.out.lt
  go_enter Try.func18, Try.ntmps18
  go_wp2_with (first
    | (go_at_call 29; refine HM.out.mono ?_; rintro e w1 ⟨rfl, rfl⟩)
    | (go_at_call 9; refine HN.out.mono ?_; rintro e w2 ⟨g', rfl, ⟨bm', vn', k1, _, _, k4, _⟩, hb⟩
       obtain ⟨d0, d1, d2, d3⟩ := box4c (H1.out.keep hb)
       have HC := Lib.hid (copyNames_c (row_below H2.out hb) hl)
       have K1 := Lib.hid k1
       have hsz2 := hb.size
       clear k1)
    | (go_at_call 30; refine HC.out.mono ?_; rintro e w3 ⟨v', rfl, hr, hb3⟩
       obtain ⟨av, cv, rfl⟩ := isSl hr
       have b1 : Blk w3 g' _ _ := K1.out.keep hb3
       have q2 := b1.cell 2
       have qf := b1.frozen 2
       simp only [List.getElem?_toArray, List.getElem?_cons_succ, List.getElem?_cons_zero] at q2
       have b2 := b1.set 2 (.slice av names.length cv)
       have hvg : (Value.slice av names.length cv).ownBlock ≠ some g' := blk_not_row b1 hr (by decide)
       have hr2 := row_set hr hvg 2 (.slice av names.length cv)
       have hm3 : (w3.setCell ⟨g', 2, none⟩ (.slice av names.length cv)).ownsMap Try.prog 9 (plainElem Try.prog 3) bm E.length (mapD E) := map_same (map_below (map_below H3.out hb) hb3) (Below.heap_setCell w3 ⟨g', 2, none⟩ _ bm (by show bm ≠ g'; omega))
       have hb5 : Below w1.heap.size w1 (w3.setCell ⟨g', 2, none⟩ (.slice av names.length cv)) := (hb.trans (hb3.mono hsz2)).setCell (p := ⟨g', 2, none⟩) k4 _
       obtain ⟨u0, u1, u2, u3⟩ := box4c (H1.out.keep hb5)
       have B2 := Lib.hid b2
       have R2 := Lib.hid hr2
       have HV := Lib.hid hvg
       have M3 := Lib.hid (clone_c bm E.length (mapD E) _ hm3)
       clear b1 b2 hr hr2 hm3 hvg)
    | (go_at_call 31; refine M3.out.mono ?_; rintro e w6 ⟨rfl, hm6, hb6⟩
       have b6 := B2.out.keep hb6
       have q3 := b6.cell 3
       have qf3 := b6.frozen 3
       simp only [List.setIfInBounds_toArray, List.set_cons_succ, List.set_cons_zero, List.getElem?_toArray, List.getElem?_cons_succ, List.getElem?_cons_zero] at q3))
  go_ret
  have hsz5 := hb5.size
  have hr6 := row_below R2.out hb6
  have hsz6 := hb6.size
  have hgl := b6.lt
  have hml := hm6.lt
  have hrl := World.ownsRow.lt hr6
  have hgW := B2.out.lt
  have hvg := HV.out
  have hz : (w3.setCell ⟨g', 2, none⟩ (.slice av names.length cv)).heap.size = w3.heap.size := by simp [World.setCell]
  rw [hz] at hm6 hml hgW hsz5
  refine ⟨g', rfl, ⟨w3.heap.size, .slice av names.length cv, ?_, ?_, ?_, H4.out, ⟨by omega, by simpa using hgl⟩, ⟨by omega, by simpa using hml⟩, ?_, fun k hk => hk.2⟩, (hb5.trans (hb6.mono hb5.size)).setCell (p := ⟨g', 3, none⟩) k4 _⟩
  · have := b6.set 3 (.map (some w3.heap.size))
    simpa using this
  · have := row_set hr6 hvg 3 (.map (some w3.heap.size))
    exact ⟨this.1, this.2.imp id fun ⟨a, b, c, d, _, e⟩ => ⟨a, b, c, d, Nat.zero_le _, e⟩⟩
  · exact map_same hm6 (Below.heap_setCell w6 ⟨g', 3, none⟩ _ _ (by simp; omega))
  · intro k hk
    have := hrl k hk
    exact ⟨by omega, by simpa using this.2⟩
end
end Go.Proofs.Ytffgjamnijhlpaa
