/- Add and Alias. -/
import Derived.Test.YtffgjamnijhlpaaSyb
import Derived.Test.YtffgjamnijhlpaaTub
import Derived.Deep.QuietTactic
import Derived.BigQuiet
namespace Go.Proofs.Ytffgjamnijhlpaa
open Go.RowKit Go.Maps Go.Sort
theorem infoS : (Try.prog.info? 9).map (fun i => (i.zero, i.size, i.bytes)) = some (some (.string ⟨#[]⟩), 1, 16) := by kernel_rfl
theorem map_same {w w' : World} {k : TypeId} {R : Value → Option (DataW Unit × List MemPlace)} {b n : Nat} {D : DataW Unit} (h : w.ownsMap Try.prog k R b n D) (hb : w'.heap[b]? = w.heap[b]?) : w'.ownsMap Try.prog k R b n D := by
  obtain ⟨es, clock, he, rest⟩ := h
  exact ⟨es, clock, hb.trans he, rest⟩
theorem map_not_row {w : World} {k : TypeId} {R : Value → Option (DataW Unit × List MemPlace)} {b n base size m : Nat} {D : DataW Unit} {e : TypeId} {v : Value} {xs : List Value} (h : w.ownsMap Try.prog k R b n D) (h2 : w.ownsRow base e size v m xs) : v.ownBlock ≠ some b := by
  obtain ⟨es, clock, he, _⟩ := h
  rcases h2.2 with ⟨rfl, _⟩ | ⟨g, cap, cur, rfl, _, hh, _⟩
  · simp [Value.ownBlock]
  · simp only [Value.ownBlock, ne_eq, Option.some.injEq]
    rintro rfl
    rw [he] at hh
    cases hh
theorem blk_not_row {w : World} {g : Nat} {t : TypeId} {cs : Array Value} {base size m : Nat} {e : TypeId} {v : Value} {xs : List Value} (h : Blk w g t cs) (h2 : w.ownsRow base e size v m xs) (hne : t ≠ e) : v.ownBlock ≠ some g := by
  rcases h2.2 with ⟨rfl, _⟩ | ⟨g', cap, cur, rfl, _, hh, _⟩
  · simp [Value.ownBlock]
  · simp only [Value.ownBlock, ne_eq, Option.some.injEq]
    rintro rfl
    unfold Blk at h
    rw [h] at hh
    injection hh with hh
    injection hh with _ ht
    exact hne ht
theorem blk_not_map {w : World} {g : Nat} {t : TypeId} {cs : Array Value} {k : TypeId} {R : Value → Option (DataW Unit × List MemPlace)} {b n : Nat} {D : DataW Unit} (h : Blk w g t cs) (h2 : w.ownsMap Try.prog k R b n D) : g ≠ b := by
  obtain ⟨es, clock, he, _⟩ := h2
  rintro rfl
  unfold Blk at h
  rw [h] at he
  cases he
theorem Blk.grown {w w' : World} {g : Nat} {t : TypeId} {cs : Array Value} {row : Option Nat} (h : Blk w g t cs) (hb : w.grownBy w' row) (hg : row ≠ some g) : Blk w' g t cs := (hb.block g h.lt (fun e => hg e.symm)).trans h
theorem row_set {w : World} {base : Nat} {e : TypeId} {size n : Nat} {v : Value} {xs : List Value} {g : Nat} (h : w.ownsRow base e size v n xs) (hne : v.ownBlock ≠ some g) (i : Nat) (u : Value) : (w.setCell ⟨g, i, none⟩ u).ownsRow base e size v n xs := by
  refine ⟨h.1, ?_⟩
  rcases h.2 with hn | ⟨g', cap, cur, rfl, hg, hh, rest⟩
  · exact .inl hn
  · exact .inr ⟨g', cap, cur, rfl, hg, (Below.heap_setCell w ⟨g, i, none⟩ u g' (fun e => hne (by simp [Value.ownBlock, e]))).trans hh, rest⟩
theorem isSl {w : World} {base : Nat} {e : TypeId} {size n : Nat} {v : Value} {xs : List Value} (h : w.ownsRow base e size v n xs) : ∃ ao cap, v = .slice ao n cap := by
  rcases h.2 with ⟨rfl, h0⟩ | ⟨g, cap, _, rfl, _⟩
  · exact ⟨none, 0, by rw [h0]⟩
  · exact ⟨_, _, rfl⟩
theorem nodup_snoc {E : List (ByteArray × Int)} {s : ByteArray} {k : Int} (h : (Keys E).Nodup) (hh : hasE E s = false) : (Keys (E ++ [(s, k)])).Nodup := by
  have hn : s ∉ Keys E := fun hm => by rw [(hasE_keys E s).2 hm] at hh; cases hh
  unfold Keys at hn h ⊢
  rw [List.map_append, List.nodup_append]
  refine ⟨h, by simp, ?_⟩
  intro a ha b hb hab
  simp only [List.map_cons, List.map_nil, List.mem_singleton] at hb
  subst hab
  exact hn (hb ▸ ha)
section
variable {w : World} {B g limit : Nat} {names : List ByteArray} {E : List (ByteArray × Int)}
set_option maxRecDepth 100000 in
set_option maxHeartbeats 2000000 in
theorem add_name (s : ByteArray) (h : Tab w B g limit names E) (hs : s.size ≤ 9223372036854775807) (hi : identB s = false) :
    Calls Try.prog 19 #[.pointer (some ⟨g, 0, none⟩), .string s] w fun e w' => e = .returned (.tuple #[.int .i64 0, .int .i64 10]) ∧ Below w.heap.size w w' := by
  have HM := Lib.hid (made_c h)
  have hI := identifier_c s w hs
  rw [hi] at hI
  have HI := Lib.hid hI
  clear hI hi
  go_enter Try.func19, Try.ntmps19
  go_wp2_with (first
    | (go_at_call 29; refine HM.out.mono ?_; rintro e w1 ⟨rfl, rfl⟩)
    | (go_at_call 32; refine HI.out.mono ?_; rintro e w2 ⟨rfl, hb2⟩))
  go_ret2
  exact ⟨rfl, hb2⟩
set_option maxRecDepth 100000 in
set_option maxHeartbeats 2000000 in
theorem add_twice (s : ByteArray) (h : Tab w B g limit names E) (hs : s.size ≤ 9223372036854775807) (hi : identB s = true) (hh : hasE E s = true) :
    Calls Try.prog 19 #[.pointer (some ⟨g, 0, none⟩), .string s] w fun e w' => e = .returned (.tuple #[.int .i64 0, .int .i64 12]) ∧ Below w.heap.size w w' := by
  have HM := Lib.hid (made_c h)
  have HT := Lib.hid h
  have hI := identifier_c s w hs
  rw [hi] at hI
  have HI := Lib.hid hI
  have HH := Lib.hid hh
  clear hI hi h hh
  go_enter Try.func19, Try.ntmps19
  go_wp2_with (first
    | (go_at_call 29; refine HM.out.mono ?_; rintro e w1 ⟨rfl, rfl⟩)
    | (go_at_call 32; refine HI.out.mono ?_; rintro e w2 ⟨rfl, hb2⟩)
    | (go_at_call 33; refine (has_c s (HT.out.keep hb2) hs).mono ?_; rintro e w3 ⟨rfl, rfl⟩; rw [HH.out]))
  go_ret2
  exact ⟨rfl, hb2⟩
set_option maxRecDepth 100000 in
set_option maxHeartbeats 2000000 in
theorem add_full (s : ByteArray) (h : Tab w B g limit names E) (hs : s.size ≤ 9223372036854775807) (hi : identB s = true) (hh : hasE E s = false) (hf : names.length = limit) (hl : limit ≤ 4096) :
    Calls Try.prog 19 #[.pointer (some ⟨g, 0, none⟩), .string s] w fun e w' => e = .returned (.tuple #[.int .i64 0, .int .i64 25]) ∧ Below w.heap.size w w' := by
  have HM := Lib.hid (made_c h)
  have HT := Lib.hid h
  have hI := identifier_c s w hs
  rw [hi] at hI
  have HI := Lib.hid hI
  have HH := Lib.hid hh
  clear hI hi h hh
  go_enter Try.func19, Try.ntmps19
  go_wp2_with (first
    | (go_at_call 29; refine HM.out.mono ?_; rintro e w1 ⟨rfl, rfl⟩)
    | (go_at_call 32; refine HI.out.mono ?_; rintro e w2 ⟨rfl, hb2⟩)
    | (go_at_call 33; refine (has_c s (HT.out.keep hb2) hs).mono ?_; rintro e w3 ⟨rfl, rfl⟩; rw [HH.out]))
  obtain ⟨bm, vn, h1, h2, _⟩ := HT.out.keep hb2
  obtain ⟨av, cv, rfl⟩ := isSl h2
  subst hf
  obtain ⟨c0, c1, c2, c3⟩ := box4c h1
  clear h1 h2
  go_quiet (fail)
  go_wp2_with fail
  go_ret2
  exact ⟨rfl, hb2.trans ⟨rfl, rfl, rfl, Nat.le_refl _, fun _ _ => rfl⟩⟩
set_option maxRecDepth 100000 in
set_option maxHeartbeats 4000000 in
theorem add_ok (s : ByteArray) (h : Tab w B g limit names E) (hs : s.size ≤ 9223372036854775807) (hi : identB s = true) (hh : hasE E s = false) (hf : names.length < limit) (hl : limit ≤ 4096) (hE : E.length ≤ 1000000) :
    Calls Try.prog 19 #[.pointer (some ⟨g, 0, none⟩), .string s] w fun e w' => e = .returned (.tuple #[.int .i64 names.length, .int .i64 0]) ∧ Tab w' B g limit (names ++ [s]) (E ++ [(s, (names.length : Int))]) ∧ Below B w w' := by
  have HM := Lib.hid (made_c h)
  have HT := Lib.hid h
  have hI := identifier_c s w hs
  rw [hi] at hI
  have HI := Lib.hid hI
  have HH := Lib.hid hh
  have hBw := h.base
  obtain ⟨i0, hin, hz0, hz1, hz2⟩ := info_parts infoS
  clear hI hi h hh
  go_enter Try.func19, Try.ntmps19
  go_wp2_with (first
    | (go_at_call 29; refine HM.out.mono ?_; rintro e w1 ⟨rfl, rfl⟩)
    | (go_at_call 32; refine HI.out.mono ?_; rintro e w2 ⟨rfl, hb2⟩)
    | (go_at_call 33; refine (has_c s (HT.out.keep hb2) hs).mono ?_; rintro e w3 ⟨rfl, rfl⟩; rw [HH.out]))
  obtain ⟨bm, vn, h1, h2, h3, h4, h5, h6⟩ := HT.out.keep hb2
  obtain ⟨av, cv, rfl⟩ := isSl h2
  obtain ⟨c0, c1, c2, c3⟩ := box4c h1
  have hf' : ((names.length : Int) == (limit : Int)) = false := by simp; omega
  have hbw := hb2.size
  go_quiet (fail)
  clear c0 c1 c2 c3
  have k1 : Blk (w3.drewN nq) g _ _ := h1.drewN nq
  have k2 : (w3.drewN nq).ownsRow B 9 1 (.slice av names.length cv) names.length (names.map Value.string) := row_below h2 ⟨rfl, rfl, rfl, Nat.le_refl _, fun _ _ => rfl⟩
  have k3 : (w3.drewN nq).ownsMap Try.prog 9 (plainElem Try.prog 3) bm E.length (mapD E) := map_below h3 ⟨rfl, rfl, rfl, Nat.le_refl _, fun _ _ => rfl⟩
  have hb3 : Below w1.heap.size w1 (w3.drewN nq) := hb2.trans ⟨rfl, rfl, rfl, Nat.le_refl _, fun _ _ => rfl⟩
  have hbz : B ≤ (w3.drewN nq).heap.size := Nat.le_trans hBw hb3.size
  clear h1 h2 h3 hb2 hbw HM HI
  generalize w3.drewN nq = W at *
  obtain ⟨c0, c1, c2, c3⟩ := box4c k1
  have K1 := Lib.hid k1
  have K2 := Lib.hid k2
  have K3 := Lib.hid k3
  clear k1 k2 k3
  go_wp2_with (at_builtin; refine wpList_append_own _ rfl _ _ 25 rfl B 9 i0 (.string ⟨#[]⟩) 1 16 Try.underlying25 hin hz0 hz1 hz2 rfl (by decide) _ names.length (names.map Value.string) rfl (K2.out.alloc _) ⟨W.heap.size, 0, none⟩ 1 1 [.string s] rfl rfl ?c1 ?c2 ?c3 ?c4 ?c5 ?_)
  case c1 =>
    intro j u hu
    have hj : j = 0 := by
      have := (List.getElem?_eq_some_iff.1 hu).1
      simpa using this
    subst hj
    simp at hu
    subst hu
    exact (Blk.new W 9 #[.string s]).cell 0
  case c2 => intro u hu; simp at hu; subst hu; rfl
  case c3 => unfold maxLen; omega
  case c4 => omega
  case c5 => simp; omega
  intro v4 w4 hown hg _
  have F4 : Blk w4 g _ _ := (K1.out.alloc _).grown hg (blk_not_row K1.out K2.out (by decide))
  have M4 : w4.ownsMap Try.prog 9 (plainElem Try.prog 3) bm E.length (mapD E) := map_same K3.out (by
    have hl := K3.out.lt
    rw [hg.block bm (by simp; omega) (fun e => map_not_row K3.out K2.out e.symm)]
    exact Below.heap_alloc W _ bm hl)
  have hb4 : Below B W w4 := ((Below.refl _ _).alloc hbz _).grown hg (by simp; omega) (fun k hk => (World.ownsRow.lt K2.out k hk).1)
  obtain ⟨a4, cv4, rfl⟩ := isSl hown
  have hg2 : g ≠ bm := blk_not_map K1.out K3.out
  have hown2 : (w4.setCell ⟨g, 2, none⟩ (.slice a4 (names.length + 1) cv4)).ownsRow B 9 1 (.slice a4 (names.length + 1) cv4) (names.length + 1) (names.map Value.string ++ [.string s]) :=
    row_set hown (blk_not_row F4 hown (by decide)) 2 _
  have F5 : Blk (w4.setCell ⟨g, 2, none⟩ (.slice a4 (names.length + 1) cv4)) g 55 #[.pointer (some ⟨g, 0, none⟩), .int .i64 limit, .slice a4 (names.length + 1) cv4, .map (some bm)] := F4.set 2 _
  have M5 : (w4.setCell ⟨g, 2, none⟩ (.slice a4 (names.length + 1) cv4)).ownsMap Try.prog 9 (plainElem Try.prog 3) bm E.length (mapD E) := map_same M4 (Below.heap_setCell w4 ⟨g, 2, none⟩ _ bm (fun e => hg2 e.symm))
  have hb5 : Below B w1 (w4.setCell ⟨g, 2, none⟩ (.slice a4 (names.length + 1) cv4)) := ((hb3.mono hBw).trans hb4).setCell (p := ⟨g, 2, none⟩) h4 _
  have q2 := F4.cell 2
  have qf := F4.frozen 2
  have q3 := F5.cell 3
  simp only [List.getElem?_toArray, List.getElem?_cons_succ, List.getElem?_cons_zero] at q2 q3
  have HF5 := Lib.hid F5
  have HM5 := Lib.hid M5
  have HO5 := Lib.hid hown2
  have hsl : s.size ≤ maxLen := by unfold maxLen; omega
  clear F4 M4 F5 M5 hown hown2 hg c0 c1 c2 c3
  go_wp2_with (at_mapUpdate; refine wpList_mapUpdate_own _ rfl _ _ _ 53 rfl 9 3 lawS Try.underlying53 _ bm E.length _ rfl HM5.out (by unfold maxLen; omega) _ _ (keyS s) rfl rfl (Go.WideMaps.keyOf_string_mk Try.underlying9 hsl) (intD names.length) [] (plainElem_int Try.underlying3 (WalkArith.wf_i64 (by omega))) ?_)
  intro w6 hown6 hg6
  have F6 := HF5.out.grown hg6 (fun e => hg2 (Option.some.inj e).symm)
  have R6 := World.ownsRow.kept HO5.out hg6 (.inr (map_not_row HM5.out HO5.out))
  have hb6 : Below B w1 w6 := hb5.grown hg6 (Nat.le_trans hBw hb5.size) (fun k hk => by cases hk; exact h5)
  go_wp2_with fail
  go_ret2
  refine ⟨rfl, ⟨bm, .slice a4 (names.length + 1) cv4, ?_, ?_, ?_, h4, h5, ?_⟩, hb6⟩
  · exact F6
  · rw [List.length_append, List.map_append]; exact R6
  · rw [List.length_append, mapD_snoc]; exact hown6
  · exact nodup_snoc h6 HH.out
end
end Go.Proofs.Ytffgjamnijhlpaa
