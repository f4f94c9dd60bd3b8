/- Alias. -/
import Derived.Test.YtffgjamnijhlpaaSyc
import Derived.Maps.OwnSet
namespace Go.Proofs.Ytffgjamnijhlpaa
open Go.RowKit Go.Maps Go.Sort
section
variable {w : World} {B g limit : Nat} {names : List ByteArray} {E : List (ByteArray × Int)}
set_option maxRecDepth 100000 in
set_option maxHeartbeats 4000000 in
theorem alias_name (s : ByteArray) (n : Int) (h : Tab w B g limit names E) (hs : s.size ≤ 9223372036854775807) (hi : identB s = false) :
    Calls Try.prog 20 #[.pointer (some ⟨g, 0, none⟩), .string s, .int .i64 n] w fun e w' => e = .returned (.int .i64 10) ∧ Below w.heap.size w w' := by
  have HM := Lib.hid (made_c h)
  have HT := Lib.hid h
  have hI := identifier_c s w hs
  rw [hi] at hI
  have HI := Lib.hid hI
  clear hI hi h
  go_enter Try.func20, Try.ntmps20
  go_wp2_with (first
    | (go_at_call 29; refine HM.out.mono ?_; rintro e w1 ⟨rfl, rfl⟩)
    | (go_at_call 32; refine HI.out.mono ?_; rintro e w2 ⟨rfl, hb2⟩))
  go_ret
  exact ⟨rfl, hb2⟩
set_option maxRecDepth 100000 in
set_option maxHeartbeats 4000000 in
theorem alias_low (s : ByteArray) (n : Int) (h : Tab w B g limit names E) (hs : s.size ≤ 9223372036854775807) (hi : identB s = true) (hn : n < 0) :
    Calls Try.prog 20 #[.pointer (some ⟨g, 0, none⟩), .string s, .int .i64 n] w fun e w' => e = .returned (.int .i64 3) ∧ Below w.heap.size w w' := by
  have HM := Lib.hid (made_c h)
  have HT := Lib.hid h
  have hI := identifier_c s w hs
  rw [hi] at hI
  have HI := Lib.hid hI
  clear hI hi h
  go_enter Try.func20, Try.ntmps20
  go_wp2_with (first
    | (go_at_call 29; refine HM.out.mono ?_; rintro e w1 ⟨rfl, rfl⟩)
    | (go_at_call 32; refine HI.out.mono ?_; rintro e w2 ⟨rfl, hb2⟩))
  go_ret
  exact ⟨rfl, hb2⟩
set_option maxRecDepth 100000 in
set_option maxHeartbeats 4000000 in
theorem alias_high (s : ByteArray) (n : Int) (h : Tab w B g limit names E) (hs : s.size ≤ 9223372036854775807) (hi : identB s = true) (hn0 : 0 ≤ n) (hn : (names.length : Int) ≤ n) :
    Calls Try.prog 20 #[.pointer (some ⟨g, 0, none⟩), .string s, .int .i64 n] w fun e w' => e = .returned (.int .i64 3) ∧ Below w.heap.size w w' := by
  have HM := Lib.hid (made_c h)
  have HT := Lib.hid h
  have hI := identifier_c s w hs
  rw [hi] at hI
  have HI := Lib.hid hI
  clear hI hi h
  have hn' : ¬ n < 0 := by omega
  go_enter Try.func20, Try.ntmps20
  go_wp2_with (first
    | (go_at_call 29; refine HM.out.mono ?_; rintro e w1 ⟨rfl, rfl⟩)
    | (go_at_call 32; refine HI.out.mono ?_; rintro e w2 ⟨rfl, hb2⟩; obtain ⟨bm, vn, h1, h2, h3, h4, h5, h6⟩ := HT.out.keep hb2; obtain ⟨av, cv, rfl⟩ := isSl h2; obtain ⟨c0, c1, c2, c3⟩ := box4c h1; have K1 := Lib.hid h1; have K2 := Lib.hid h2; have K3 := Lib.hid h3; clear h1 h2 h3)
    | (go_at_call 33; refine (has_c s (HT.out.keep hb2) hs).mono ?_; rintro e w3 ⟨rfl, rfl⟩; rw [HH.out]))
  go_ret
  exact ⟨rfl, hb2⟩
set_option maxRecDepth 100000 in
set_option maxHeartbeats 4000000 in
theorem alias_twice (s : ByteArray) (n : Int) (h : Tab w B g limit names E) (hs : s.size ≤ 9223372036854775807) (hi : identB s = true) (hn0 : 0 ≤ n) (hn : n < (names.length : Int)) (hh : hasE E s = true) :
    Calls Try.prog 20 #[.pointer (some ⟨g, 0, none⟩), .string s, .int .i64 n] w fun e w' => e = .returned (.int .i64 12) ∧ Below w.heap.size w w' := by
  have HM := Lib.hid (made_c h)
  have HT := Lib.hid h
  have hI := identifier_c s w hs
  rw [hi] at hI
  have HI := Lib.hid hI
  have HH := Lib.hid hh
  clear hI hi h hh
  have hn' : ¬ n < 0 := by omega
  have hn2 : ¬ ((names.length : Int) ≤ n) := by omega
  go_enter Try.func20, Try.ntmps20
  go_wp2_with (first
    | (go_at_call 29; refine HM.out.mono ?_; rintro e w1 ⟨rfl, rfl⟩)
    | (go_at_call 32; refine HI.out.mono ?_; rintro e w2 ⟨rfl, hb2⟩; obtain ⟨bm, vn, h1, h2, h3, h4, h5, h6⟩ := HT.out.keep hb2; obtain ⟨av, cv, rfl⟩ := isSl h2; obtain ⟨c0, c1, c2, c3⟩ := box4c h1; have K1 := Lib.hid h1; have K2 := Lib.hid h2; have K3 := Lib.hid h3; clear h1 h2 h3)
    | (go_at_call 33; refine (has_c s (HT.out.keep hb2) hs).mono ?_; rintro e w3 ⟨rfl, rfl⟩; rw [HH.out]))
  go_ret
  exact ⟨rfl, hb2⟩
set_option maxRecDepth 100000 in
set_option maxHeartbeats 4000000 in
theorem alias_full (s : ByteArray) (n : Int) (h : Tab w B g limit names E) (hs : s.size ≤ 9223372036854775807) (hi : identB s = true) (hn0 : 0 ≤ n) (hn : n < (names.length : Int)) (hh : hasE E s = false) (hf : E.length = names.length + 4096) :
    Calls Try.prog 20 #[.pointer (some ⟨g, 0, none⟩), .string s, .int .i64 n] w fun e w' => e = .returned (.int .i64 25) ∧ Below w.heap.size w w' := by
  have HM := Lib.hid (made_c h)
  have HT := Lib.hid h
  have hI := identifier_c s w hs
  rw [hi] at hI
  have HI := Lib.hid hI
  have HH := Lib.hid hh
  clear hI hi h hh
  have hn' : ¬ n < 0 := by omega
  have hn2 : ¬ ((names.length : Int) ≤ n) := by omega
  go_enter Try.func20, Try.ntmps20
  go_wp2_with (first
    | (go_at_call 29; refine HM.out.mono ?_; rintro e w1 ⟨rfl, rfl⟩)
    | (go_at_call 32; refine HI.out.mono ?_; rintro e w2 ⟨rfl, hb2⟩; obtain ⟨bm, vn, h1, h2, h3, h4, h5, h6⟩ := HT.out.keep hb2; obtain ⟨av, cv, rfl⟩ := isSl h2; obtain ⟨c0, c1, c2, c3⟩ := box4c h1; have K1 := Lib.hid h1; have K2 := Lib.hid h2; have K3 := Lib.hid h3; clear h1 h2 h3)
    | (go_at_call 33; refine (has_c s (HT.out.keep hb2) hs).mono ?_; rintro e w3 ⟨rfl, rfl⟩; rw [HH.out]))
  have hl : ∀ (ty : TypeId) (m : Nat), (Builtin.len_ #[53] ty #[.map (some bm)]).run Try.prog (w3.drewN m) = .ok (.int .i64 (Maps.size (mapD E))) (w3.drewN m) := fun ty m => World.ownsMap.len (map_below (w' := w3.drewN m) K3.out ⟨rfl, rfl, rfl, Nat.le_refl _, fun _ _ => rfl⟩) Try.underlying53 ty
  rw [mapD_size h6, hf] at hl
  have hq : ((names.length : Int) + 4096 - names.length == 4096) = true := by simp; omega
  go_quiet (fail)
  go_wp2_with fail
  go_ret
  exact ⟨rfl, hb2.trans ⟨rfl, rfl, rfl, Nat.le_refl _, fun _ _ => rfl⟩⟩
set_option maxRecDepth 100000 in
set_option maxHeartbeats 4000000 in
theorem alias_ok (s : ByteArray) (n : Int) (h : Tab w B g limit names E) (hs : s.size ≤ 9223372036854775807) (hi : identB s = true) (hn0 : 0 ≤ n) (hn : n < (names.length : Int)) (hh : hasE E s = false) (hf : E.length < names.length + 4096) (hm : names.length ≤ 4096) :
    Calls Try.prog 20 #[.pointer (some ⟨g, 0, none⟩), .string s, .int .i64 n] w fun e w' => e = .returned (.int .i64 0) ∧ Tab w' B g limit names (E ++ [(s, n)]) ∧ Below B w w' := by
  have HM := Lib.hid (made_c h)
  have HT := Lib.hid h
  have hI := identifier_c s w hs
  rw [hi] at hI
  have HI := Lib.hid hI
  have HH := Lib.hid hh
  have hBw := h.base
  clear hI hi h hh
  have hn' : ¬ n < 0 := by omega
  have hn2 : ¬ ((names.length : Int) ≤ n) := by omega
  go_enter Try.func20, Try.ntmps20
  go_wp2_with (first
    | (go_at_call 29; refine HM.out.mono ?_; rintro e w1 ⟨rfl, rfl⟩)
    | (go_at_call 32; refine HI.out.mono ?_; rintro e w2 ⟨rfl, hb2⟩; obtain ⟨bm, vn, h1, h2, h3, h4, h5, h6⟩ := HT.out.keep hb2; obtain ⟨av, cv, rfl⟩ := isSl h2; obtain ⟨c0, c1, c2, c3⟩ := box4c h1; have K1 := Lib.hid h1; have K2 := Lib.hid h2; have K3 := Lib.hid h3; clear h1 h2 h3)
    | (go_at_call 33; refine (has_c s (HT.out.keep hb2) hs).mono ?_; rintro e w3 ⟨rfl, rfl⟩; rw [HH.out]))
  have hl : ∀ (ty : TypeId) (m : Nat), (Builtin.len_ #[53] ty #[.map (some bm)]).run Try.prog (w3.drewN m) = .ok (.int .i64 (Maps.size (mapD E))) (w3.drewN m) := fun ty m => World.ownsMap.len (map_below (w' := w3.drewN m) K3.out ⟨rfl, rfl, rfl, Nat.le_refl _, fun _ _ => rfl⟩) Try.underlying53 ty
  rw [mapD_size h6] at hl
  have hq : ((E.length : Int) - names.length == 4096) = false := by simp; omega
  go_quiet (fail)
  clear c0 c1 c2 c3 hl
  have k1 : Blk (w3.drewN nq) g _ _ := K1.out.drewN nq
  have k2 : (w3.drewN nq).ownsRow B 9 1 (.slice av names.length cv) names.length (names.map Value.string) := row_below K2.out ⟨rfl, rfl, rfl, Nat.le_refl _, fun _ _ => rfl⟩
  have k3 : (w3.drewN nq).ownsMap Try.prog 9 (plainElem Try.prog 3) bm E.length (mapD E) := map_below K3.out ⟨rfl, rfl, rfl, Nat.le_refl _, fun _ _ => rfl⟩
  have hb3 : Below w1.heap.size w1 (w3.drewN nq) := hb2.trans ⟨rfl, rfl, rfl, Nat.le_refl _, fun _ _ => rfl⟩
  have hbz : B ≤ (w3.drewN nq).heap.size := Nat.le_trans hBw hb3.size
  clear K1 K2 K3 hb2 HM HI HT
  generalize w3.drewN nq = W at *
  have hg2 : g ≠ bm := blk_not_map k1 k3
  obtain ⟨c0, c1, c2, c3⟩ := box4c k1
  have K1 := Lib.hid k1
  have K2 := Lib.hid k2
  have K3 := Lib.hid k3
  clear k1 k2 k3
  have hsl : s.size ≤ maxLen := by unfold maxLen; omega
  go_wp2_with (at_mapUpdate; refine wpList_mapUpdate_own _ rfl _ _ _ 53 rfl 9 3 lawS Try.underlying53 _ bm E.length _ rfl K3.out (by unfold maxLen; omega) _ _ (keyS s) rfl rfl (Go.WideMaps.keyOf_string_mk Try.underlying9 hsl) (intD n) [] (plainElem_int Try.underlying3 (WalkArith.wf_i64 (by omega))) ?_)
  intro w6 hown6 hg6
  have F6 := K1.out.grown hg6 (fun e => hg2 (Option.some.inj e).symm)
  have R6 := World.ownsRow.kept K2.out hg6 (.inr (map_not_row K3.out K2.out))
  have hb6 : Below B w1 w6 := (hb3.mono hBw).grown hg6 hbz (fun k hk => by cases hk; exact h5)
  go_wp2_with fail
  go_ret
  refine ⟨rfl, ⟨bm, .slice av names.length cv, F6, R6, ?_, h4, h5, nodup_snoc h6 HH.out⟩, hb6⟩
  rw [List.length_append, mapD_snoc]
  exact hown6
end
end Go.Proofs.Ytffgjamnijhlpaa
