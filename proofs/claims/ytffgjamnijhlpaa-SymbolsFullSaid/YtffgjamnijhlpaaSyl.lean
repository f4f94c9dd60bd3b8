/- What a call leaves alone, block by block; Add and Alias once more, with it. -/
import Derived.Test.YtffgjamnijhlpaaSyk
import Derived.Deep.AppendLies
namespace Go.Proofs.Ytffgjamnijhlpaa
open Go.RowKit Go.Maps Go.Sort
/-- all that was there is as it was, but the blocks of F -/
structure Apart (F : Nat → Prop) (w w' : World) : Prop where
  os : w'.os = w.os
  tape : w'.tape = w.tape
  output : w'.output = w.output
  size : w.heap.size ≤ w'.heap.size
  block : ∀ k, k < w.heap.size → ¬ F k → w'.heap[k]? = w.heap[k]?
section
variable {F G : Nat → Prop} {a w w' : World}
theorem Apart.refl : Apart F w w := ⟨rfl, rfl, rfl, Nat.le_refl _, fun _ _ _ => rfl⟩
theorem Apart.trans (h : Apart F a w) (k : Apart G w w') (hG : ∀ i, G i → F i ∨ a.heap.size ≤ i) : Apart F a w' :=
  ⟨k.os.trans h.os, k.tape.trans h.tape, k.output.trans h.output, Nat.le_trans h.size k.size, fun i hi hn => (k.block i (Nat.lt_of_lt_of_le hi h.size) (fun hg => by rcases hG i hg with h' | h'; exact hn h'; omega)).trans (h.block i hi hn)⟩
theorem Apart.of (h : Below w.heap.size w w') : Apart F w w' := ⟨h.os, h.tape, h.output, h.size, fun i hi _ => h.block i hi⟩
theorem Apart.then (h : Apart F a w) (k : Below w.heap.size w w') : Apart F a w' := h.trans (G := fun _ => False) (Apart.of k) (fun _ h => h.elim)
theorem Apart.alloc (h : Apart F a w) (o : Obj) : Apart F a (w.alloc o) := h.then ((Below.refl _ _).alloc (Nat.le_refl _) o)
theorem Apart.grown (h : Apart F a w) {row : Option Nat} (hg : w.grownBy w' row) (hr : ∀ k, row = some k → F k ∨ a.heap.size ≤ k) : Apart F a w' :=
  h.trans (G := fun k => row = some k) ⟨hg.os, hg.tape, hg.output, hg.size, fun i hi hn => hg.block i hi (fun e => hn e.symm)⟩ hr
theorem Apart.setCell (h : Apart F a w) {p : Addr} (hp : F p.block ∨ a.heap.size ≤ p.block) (u : Value) : Apart F a (w.setCell p u) :=
  h.trans (G := fun k => k = p.block) ⟨rfl, rfl, rfl, by simp [World.setCell], fun i _ hn => Below.heap_setCell w p u i hn⟩ (fun i e => e ▸ hp)
theorem Apart.below {B : Nat} (h : Apart F w w') (hB : B ≤ w.heap.size) (hF : ∀ k, F k → B ≤ k) : Below B w w' := ⟨h.os, h.tape, h.output, h.size, fun i hi => h.block i (by omega) (fun hf => by have := hF i hf; omega)⟩
theorem Apart.more (h : Apart F w w') (hG : ∀ k, F k → G k) : Apart G w w' := ⟨h.os, h.tape, h.output, h.size, fun i hi hn => h.block i hi (fun hf => hn (hG i hf))⟩
theorem row_apart {base : Nat} {e : TypeId} {size n : Nat} {v : Value} {xs : List Value} (h : w.ownsRow base e size v n xs) (hb : Apart F w w') (hF : ∀ k, v.ownBlock = some k → ¬ F k) : w'.ownsRow base e size v n xs := by
  refine ⟨h.1, ?_⟩
  rcases h.2 with hn | ⟨g, cap, cur, rfl, hg, hh, rest⟩
  · exact .inl hn
  · have hlt : g < w.heap.size := by
      rcases Nat.lt_or_ge g w.heap.size with h' | h'
      · exact h'
      · rw [Array.getElem?_eq_none h'] at hh; cases hh
    exact .inr ⟨g, cap, cur, rfl, hg, (hb.block g hlt (hF g rfl)).trans hh, rest⟩
end
/-- a table in memory, and the blocks that are its own -/
def TabF (w : World) (F : Nat → Prop) (g : Nat) (limit : Nat) (names : List ByteArray) (E : List (ByteArray × Int)) : Prop :=
  ∃ bm vn, Blk w g 55 #[.pointer (some ⟨g, 0, none⟩), .int .i64 limit, vn, .map (some bm)] ∧ w.ownsRow 0 9 1 vn names.length (names.map Value.string) ∧
    w.ownsMap Try.prog 9 (plainElem Try.prog 3) bm E.length (mapD E) ∧ (Keys E).Nodup ∧ F g ∧ F bm ∧ (∀ k, vn.ownBlock = some k → F k) ∧ ∀ k, F k → k < w.heap.size
section
variable {w w' : World} {F G : Nat → Prop} {g limit : Nat} {names : List ByteArray} {E : List (ByteArray × Int)}
theorem TabF.tab (h : TabF w F g limit names E) : Tab w 0 g limit names E := by
  obtain ⟨bm, vn, h1, h2, h3, h4, h5, h6, h7, h8⟩ := h
  exact ⟨bm, vn, h1, h2, h3, Nat.zero_le _, Nat.zero_le _, h4⟩
theorem TabF.lt (h : TabF w F g limit names E) : ∀ k, F k → k < w.heap.size := by
  obtain ⟨bm, vn, h1, h2, h3, h4, h5, h6, h7, h8⟩ := h
  exact h8
theorem TabF.keep (h : TabF w F g limit names E) (hb : Apart G w w') (hG : ∀ k, F k → ¬ G k) : TabF w' F g limit names E := by
  obtain ⟨bm, vn, h1, h2, h3, h4, h5, h6, h7, h8⟩ := h
  refine ⟨bm, vn, (hb.block g (h8 g h5) (hG g h5)).trans h1, row_apart h2 hb (fun k hk => hG k (h7 k hk)), ?_, h4, h5, h6, h7, fun k hk => Nat.lt_of_lt_of_le (h8 k hk) hb.size⟩
  obtain ⟨es, clock, he, rest⟩ := h3
  exact ⟨es, clock, (hb.block bm (h8 bm h6) (hG bm h6)).trans he, rest⟩
theorem TabF.below (h : TabF w F g limit names E) (hb : Below w.heap.size w w') : TabF w' F g limit names E := h.keep (G := fun _ => False) (Apart.of hb) (fun _ _ h => h)
/-- a table that nobody else holds, as one whose blocks lie behind B -/
theorem Tab.own {B : Nat} (h : Tab w B g limit names E) : TabF w (fun k => B ≤ k ∧ k < w.heap.size) g limit names E := by
  obtain ⟨bm, vn, h1, h2, h3, h4, h5, h6⟩ := h
  refine ⟨bm, vn, h1, ⟨h2.1, h2.2.imp id fun ⟨g', cap, cur, a, b, c⟩ => ⟨g', cap, cur, a, Nat.zero_le _, c⟩⟩, h3, h6, ⟨h4, h1.lt⟩, ⟨h5, h3.lt⟩, ?_, fun k hk => hk.2⟩
  intro k hk
  have := World.ownsRow.lt h2 k hk
  exact ⟨this.1, this.2⟩
/-- what Add answers, and what comes of the table -/
def addC (limit : Nat) (names : List ByteArray) (E : List (ByteArray × Int)) (s : ByteArray) : Int := if identB s = false then 10 else if hasE E s = true then 12 else if limit ≤ names.length then 25 else 0
def addK (limit : Nat) (names : List ByteArray) (E : List (ByteArray × Int)) (s : ByteArray) : Int := if addC limit names E s = 0 then (names.length : Int) else 0
def addN (limit : Nat) (names : List ByteArray) (E : List (ByteArray × Int)) (s : ByteArray) : List ByteArray := if addC limit names E s = 0 then names ++ [s] else names
def addE (limit : Nat) (names : List ByteArray) (E : List (ByteArray × Int)) (s : ByteArray) : List (ByteArray × Int) := if addC limit names E s = 0 then E ++ [(s, (names.length : Int))] else E
/-- what Alias answers, and what comes of the aliases -/
def aliC (names : List ByteArray) (E : List (ByteArray × Int)) (s : ByteArray) (n : Int) : Int := if identB s = false then 10 else if n < 0 ∨ (names.length : Int) ≤ n then 3 else if hasE E s = true then 12 else if names.length + 4096 ≤ E.length then 25 else 0
def aliE (names : List ByteArray) (E als : List (ByteArray × Int)) (s : ByteArray) (n : Int) : List (ByteArray × Int) := if aliC names E s n = 0 then als ++ [(s, n)] else als
theorem add_lies {s : ByteArray} {c : Int} (hc : addC limit names E s = c) (h0 : c ≠ 0) : addK limit names E s = 0 ∧ addN limit names E s = names ∧ addE limit names E s = E := by
  unfold addK addN addE
  rw [hc, if_neg h0, if_neg h0, if_neg h0]
  exact ⟨rfl, rfl, rfl⟩
theorem add_goes {s : ByteArray} (hc : addC limit names E s = 0) : addK limit names E s = (names.length : Int) ∧ addN limit names E s = names ++ [s] ∧ addE limit names E s = E ++ [(s, (names.length : Int))] := by
  unfold addK addN addE
  rw [hc, if_pos rfl, if_pos rfl, if_pos rfl]
  exact ⟨rfl, rfl, rfl⟩
set_option maxRecDepth 100000 in
set_option maxHeartbeats 4000000 in
theorem add_okF (s : ByteArray) (h : TabF w F g limit names E) (hs : s.size ≤ 9223372036854775807) (hi : identB s = true) (hh : hasE E s = false) (hf : names.length < limit) (hl : limit ≤ 4096) (hE : E.length ≤ 1000000) :
    Calls Try.prog 19 #[.pointer (some ⟨g, 0, none⟩), .string s] w fun e w' => e = .returned (.tuple #[.int .i64 names.length, .int .i64 0]) ∧ (∃ F', TabF w' F' g limit (names ++ [s]) (E ++ [(s, (names.length : Int))]) ∧ ∀ k, F' k → F k ∨ w.heap.size ≤ k) ∧ Apart F w w' := by
  have HM := Lib.hid (made_c h.tab)
  have HT := Lib.hid h
  have hI := identifier_c s w hs
  rw [hi] at hI
  have HI := Lib.hid hI
  have HH := Lib.hid hh
  obtain ⟨i0, hin, hz0, hz1, hz2⟩ := info_parts infoS
  clear hI hi h hh
  go_enter Try.func19, Try.ntmps19
  go_wp2_with (first
    | (go_at_call 29; refine HM.out.mono ?_; rintro e w1 ⟨rfl, rfl⟩)
    | (go_at_call 32; refine HI.out.mono ?_; rintro e w2 ⟨rfl, hb2⟩)
    | (go_at_call 33; refine (has_c s (HT.out.tab.keep hb2) hs).mono ?_; rintro e w3 ⟨rfl, rfl⟩; rw [HH.out]))
  obtain ⟨bm, vn, h1, h2, h3, h6, h4, h5, h7, h8⟩ := HT.out.below hb2
  obtain ⟨av, cv, rfl⟩ := isSl h2
  obtain ⟨c0, c1, c2, c3⟩ := box4c h1
  have hf' : ((names.length : Int) == (limit : Int)) = false := by simp; omega
  go_quiet (fail)
  clear c0 c1 c2 c3
  have k1 : Blk (w3.drewN nq) g _ _ := h1.drewN nq
  have k2 : (w3.drewN nq).ownsRow 0 9 1 (.slice av names.length cv) names.length (names.map Value.string) := row_below h2 ⟨rfl, rfl, rfl, Nat.le_refl _, fun _ _ => rfl⟩
  have k3 : (w3.drewN nq).ownsMap Try.prog 9 (plainElem Try.prog 3) bm E.length (mapD E) := map_below h3 ⟨rfl, rfl, rfl, Nat.le_refl _, fun _ _ => rfl⟩
  have hb3 : Below w1.heap.size w1 (w3.drewN nq) := hb2.trans ⟨rfl, rfl, rfl, Nat.le_refl _, fun _ _ => rfl⟩
  have K8 : Hid (∀ k, F k → k < (w3.drewN nq).heap.size) := Lib.hid h8
  have K7 := Lib.hid h7
  clear h1 h2 h3 hb2 HM HI HT h7 h8
  generalize w3.drewN nq = W at *
  obtain ⟨c0, c1, c2, c3⟩ := box4c k1
  have K1 := Lib.hid k1
  have K2 := Lib.hid k2
  have K3 := Lib.hid k3
  have K4 := Lib.hid h4
  have K5 := Lib.hid h5
  clear k1 k2 k3 h4 h5
  go_wp2_with (at_builtin; refine wpList_append_lies _ rfl _ _ 25 rfl 0 9 i0 (.string ⟨#[]⟩) 1 16 Try.underlying25 hin hz0 hz1 hz2 rfl (by decide) _ names.length (names.map Value.string) rfl (K2.out.alloc _) ⟨W.heap.size, 0, none⟩ 1 1 [.string s] rfl rfl ?c1 ?c2 (by decide) ?c3 ?c4 ?c5 (W.heap.size + 1) ?c6 ?_)
  case c1 =>
    intro j u hu
    have hj : j = 0 := by
      have := (List.getElem?_eq_some_iff.1 hu).1
      simpa using this
    subst hj
    simp at hu
    subst hu
    exact (Blk.new W 9 #[.string s]).cell 0
  case c2 => intro u hu; simp at hu; subst hu; rfl
  case c3 => unfold maxLen; omega
  case c4 => omega
  case c5 => omega
  case c6 => simp
  intro g4 cap4 w4 hown hg hat _
  have F4 : Blk w4 g _ _ := (K1.out.alloc _).grown hg (blk_not_row K1.out K2.out (by decide))
  have M4 : w4.ownsMap Try.prog 9 (plainElem Try.prog 3) bm E.length (mapD E) := map_same K3.out (by
    have hl := K3.out.lt
    rw [hg.block bm (by simp; omega) (fun e => map_not_row K3.out K2.out e.symm)]
    exact Below.heap_alloc W _ bm hl)
  have hb4 : Apart F w1 w4 := ((Apart.of hb3).alloc _).grown hg (fun k hk => .inl (K7.out k hk))
  have hg2 : g ≠ bm := blk_not_map K1.out K3.out
  have hg4 : F g4 ∨ w1.heap.size ≤ g4 := by
    rcases hat with h | h
    · exact .inl (K7.out _ h)
    · have := hb3.size
      exact .inr (by omega)
  have hown2 : (w4.setCell ⟨g, 2, none⟩ (.slice (some ⟨g4, 0, none⟩) (names.length + 1) cap4)).ownsRow 0 9 1 (.slice (some ⟨g4, 0, none⟩) (names.length + 1) cap4) (names.length + 1) (names.map Value.string ++ [.string s]) :=
    row_set hown (blk_not_row F4 hown (by decide)) 2 _
  have F5 : Blk (w4.setCell ⟨g, 2, none⟩ (.slice (some ⟨g4, 0, none⟩) (names.length + 1) cap4)) g 55 #[.pointer (some ⟨g, 0, none⟩), .int .i64 limit, .slice (some ⟨g4, 0, none⟩) (names.length + 1) cap4, .map (some bm)] := F4.set 2 _
  have M5 : (w4.setCell ⟨g, 2, none⟩ (.slice (some ⟨g4, 0, none⟩) (names.length + 1) cap4)).ownsMap Try.prog 9 (plainElem Try.prog 3) bm E.length (mapD E) := map_same M4 (Below.heap_setCell w4 ⟨g, 2, none⟩ _ bm (fun e => hg2 e.symm))
  have hb5 : Apart F w1 (w4.setCell ⟨g, 2, none⟩ (.slice (some ⟨g4, 0, none⟩) (names.length + 1) cap4)) := hb4.setCell (p := ⟨g, 2, none⟩) (.inl K4.out) _
  have q2 := F4.cell 2
  have qf := F4.frozen 2
  have q3 := F5.cell 3
  simp only [List.getElem?_toArray, List.getElem?_cons_succ, List.getElem?_cons_zero] at q2 q3
  have HF5 := Lib.hid F5
  have HM5 := Lib.hid M5
  have HO5 := Lib.hid hown2
  have HG4 := Lib.hid hg4
  have hsl : s.size ≤ maxLen := by unfold maxLen; omega
  clear F4 M4 F5 M5 hown hown2 hg c0 c1 c2 c3 hat hg4
  go_wp2_with (at_mapUpdate; refine wpList_mapUpdate_own _ rfl _ _ _ 53 rfl 9 3 lawS Try.underlying53 _ bm E.length _ rfl HM5.out (by unfold maxLen; omega) _ _ (keyS s) rfl rfl (Go.WideMaps.keyOf_string_mk Try.underlying9 hsl) (intD names.length) [] (plainElem_int Try.underlying3 (WalkArith.wf_i64 (by omega))) ?_)
  intro w6 hown6 hg6
  have F6 := HF5.out.grown hg6 (fun e => hg2 (Option.some.inj e).symm)
  have R6 := World.ownsRow.kept HO5.out hg6 (.inr (map_not_row HM5.out HO5.out))
  have hb6 : Apart F w1 w6 := hb5.grown hg6 (fun k hk => by cases hk; exact .inl K5.out)
  have hF6 : ∀ k, k = g ∨ k = bm ∨ k = g4 → k < w6.heap.size := by
    rintro k (rfl | rfl | rfl)
    · exact F6.lt
    · exact hown6.lt
    · exact (World.ownsRow.lt R6 _ rfl).2
  go_wp2_with fail
  go_ret2
  refine ⟨rfl, ⟨fun k => k = g ∨ k = bm ∨ k = g4, ⟨bm, .slice (some ⟨g4, 0, none⟩) (names.length + 1) cap4, ?_, ?_, ?_, ?_, .inl rfl, .inr (.inl rfl), ?_, hF6⟩, ?_⟩, hb6⟩
  · exact F6
  · rw [List.length_append, List.map_append]; exact R6
  · rw [List.length_append, mapD_snoc]; exact hown6
  · exact nodup_snoc h6 HH.out
  · intro k hk; cases hk; exact .inr (.inr rfl)
  · rintro k (rfl | rfl | rfl)
    · exact .inl K4.out
    · exact .inl K5.out
    · exact HG4.out
set_option maxRecDepth 100000 in
set_option maxHeartbeats 4000000 in
theorem alias_okF (s : ByteArray) (n : Int) (h : TabF w F g limit names E) (hs : s.size ≤ 9223372036854775807) (hi : identB s = true) (hn0 : 0 ≤ n) (hn : n < (names.length : Int)) (hh : hasE E s = false) (hf : E.length < names.length + 4096) (hm : names.length ≤ 4096) :
    Calls Try.prog 20 #[.pointer (some ⟨g, 0, none⟩), .string s, .int .i64 n] w fun e w' => e = .returned (.int .i64 0) ∧ (∃ F', TabF w' F' g limit names (E ++ [(s, n)]) ∧ ∀ k, F' k → F k) ∧ Apart F w w' := by
  have HM := Lib.hid (made_c h.tab)
  have HT := Lib.hid h
  have hI := identifier_c s w hs
  rw [hi] at hI
  have HI := Lib.hid hI
  have HH := Lib.hid hh
  clear hI hi h hh
  have hn' : ¬ n < 0 := by omega
  have hn2 : ¬ ((names.length : Int) ≤ n) := by omega
  go_enter Try.func20, Try.ntmps20
  go_wp2_with (first
    | (go_at_call 29; refine HM.out.mono ?_; rintro e w1 ⟨rfl, rfl⟩)
    | (go_at_call 32; refine HI.out.mono ?_; rintro e w2 ⟨rfl, hb2⟩; obtain ⟨bm, vn, h1, h2, h3, h6, h4, h5, h7, h8⟩ := HT.out.below hb2; obtain ⟨av, cv, rfl⟩ := isSl h2; obtain ⟨c0, c1, c2, c3⟩ := box4c h1; have K1 := Lib.hid h1; have K2 := Lib.hid h2; have K3 := Lib.hid h3; clear h1 h2 h3)
    | (go_at_call 33; refine (has_c s (HT.out.tab.keep hb2) hs).mono ?_; rintro e w3 ⟨rfl, rfl⟩; rw [HH.out]))
  have hl : ∀ (ty : TypeId) (m : Nat), (Builtin.len_ #[53] ty #[.map (some bm)]).run Try.prog (w3.drewN m) = .ok (.int .i64 (Maps.size (mapD E))) (w3.drewN m) := fun ty m => World.ownsMap.len (map_below (w' := w3.drewN m) K3.out ⟨rfl, rfl, rfl, Nat.le_refl _, fun _ _ => rfl⟩) Try.underlying53 ty
  rw [mapD_size h6] at hl
  have hq : ((E.length : Int) - names.length == 4096) = false := by simp; omega
  go_quiet (fail)
  clear c0 c1 c2 c3 hl
  have k1 : Blk (w3.drewN nq) g _ _ := K1.out.drewN nq
  have k2 : (w3.drewN nq).ownsRow 0 9 1 (.slice av names.length cv) names.length (names.map Value.string) := row_below K2.out ⟨rfl, rfl, rfl, Nat.le_refl _, fun _ _ => rfl⟩
  have k3 : (w3.drewN nq).ownsMap Try.prog 9 (plainElem Try.prog 3) bm E.length (mapD E) := map_below K3.out ⟨rfl, rfl, rfl, Nat.le_refl _, fun _ _ => rfl⟩
  have hb3 : Below w1.heap.size w1 (w3.drewN nq) := hb2.trans ⟨rfl, rfl, rfl, Nat.le_refl _, fun _ _ => rfl⟩
  have K8 : Hid (∀ k, F k → k < (w3.drewN nq).heap.size) := Lib.hid h8
  have K7 := Lib.hid h7
  have K4 := Lib.hid h4
  have K5 := Lib.hid h5
  clear K1 K2 K3 hb2 HM HI HT h4 h5 h7 h8
  generalize w3.drewN nq = W at *
  have hg2 : g ≠ bm := blk_not_map k1 k3
  obtain ⟨c0, c1, c2, c3⟩ := box4c k1
  have K1 := Lib.hid k1
  have K2 := Lib.hid k2
  have K3 := Lib.hid k3
  clear k1 k2 k3
  have hsl : s.size ≤ maxLen := by unfold maxLen; omega
  go_wp2_with (at_mapUpdate; refine wpList_mapUpdate_own _ rfl _ _ _ 53 rfl 9 3 lawS Try.underlying53 _ bm E.length _ rfl K3.out (by unfold maxLen; omega) _ _ (keyS s) rfl rfl (Go.WideMaps.keyOf_string_mk Try.underlying9 hsl) (intD n) [] (plainElem_int Try.underlying3 (WalkArith.wf_i64 (by omega))) ?_)
  intro w6 hown6 hg6
  have F6 := K1.out.grown hg6 (fun e => hg2 (Option.some.inj e).symm)
  have R6 := World.ownsRow.kept K2.out hg6 (.inr (map_not_row K3.out K2.out))
  have hb6 : Apart F w1 w6 := (Apart.of hb3).grown hg6 (fun k hk => by cases hk; exact .inl K5.out)
  go_wp2_with fail
  go_ret
  refine ⟨rfl, ⟨F, ⟨bm, .slice av names.length cv, F6, R6, ?_, nodup_snoc h6 HH.out, K4.out, K5.out, K7.out, fun k hk => Nat.lt_of_lt_of_le (K8.out k hk) hg6.size⟩, fun k hk => hk⟩, hb6⟩
  rw [List.length_append, mapD_snoc]
  exact hown6
end
section
variable {w : World} {F : Nat → Prop} {g limit : Nat} {names : List ByteArray} {E : List (ByteArray × Int)}
/-- what comes of a table: its blocks are old ones of its own, or new -/
def TabTo (w w' : World) (F : Nat → Prop) (g limit : Nat) (names : List ByteArray) (E : List (ByteArray × Int)) : Prop := (∃ F', TabF w' F' g limit names E ∧ ∀ k, F' k → F k ∨ w.heap.size ≤ k) ∧ Apart F w w'
theorem tab_stays {w' : World} (h : TabF w F g limit names E) (hb : Below w.heap.size w w') : TabTo w w' F g limit names E := ⟨⟨F, h.below hb, fun _ hk => .inl hk⟩, Apart.of hb⟩
theorem add_c (s : ByteArray) (h : TabF w F g limit names E) (hs : s.size ≤ 9223372036854775807) (hl : limit ≤ 4096) (hN : names.length ≤ limit) (hE : E.length ≤ 1000000) :
    Calls Try.prog 19 #[.pointer (some ⟨g, 0, none⟩), .string s] w fun e w' => e = .returned (.tuple #[.int .i64 (addK limit names E s), .int .i64 (addC limit names E s)]) ∧ TabTo w w' F g limit (addN limit names E s) (addE limit names E s) := by
  obtain ⟨c, hc⟩ : ∃ c, addC limit names E s = c := ⟨_, rfl⟩
  have hc0 := hc
  unfold addC at hc
  by_cases h1 : identB s = false
  · rw [if_pos h1] at hc
    subst hc
    obtain ⟨e1, e2, e3⟩ := add_lies hc0 (by decide)
    rw [hc0, e1, e2, e3]
    exact (add_name s h.tab hs h1).mono fun _ _ ⟨he, hb⟩ => ⟨he, tab_stays h hb⟩
  · rw [if_neg h1] at hc
    have h1' : identB s = true := by simpa using h1
    by_cases h2 : hasE E s = true
    · rw [if_pos h2] at hc
      subst hc
      obtain ⟨e1, e2, e3⟩ := add_lies hc0 (by decide)
      rw [hc0, e1, e2, e3]
      exact (add_twice s h.tab hs h1' h2).mono fun _ _ ⟨he, hb⟩ => ⟨he, tab_stays h hb⟩
    · rw [if_neg h2] at hc
      have h2' : hasE E s = false := by simpa using h2
      by_cases h3 : limit ≤ names.length
      · rw [if_pos h3] at hc
        subst hc
        obtain ⟨e1, e2, e3⟩ := add_lies hc0 (by decide)
        rw [hc0, e1, e2, e3]
        exact (add_full s h.tab hs h1' h2' (by omega) hl).mono fun _ _ ⟨he, hb⟩ => ⟨he, tab_stays h hb⟩
      · rw [if_neg h3] at hc
        subst hc
        obtain ⟨e1, e2, e3⟩ := add_goes hc0
        rw [hc0, e1, e2, e3]
        exact add_okF s h hs h1' h2' (by omega) hl hE
theorem alias_c (s : ByteArray) (n : Int) (h : TabF w F g limit names E) (hs : s.size ≤ 9223372036854775807) (hN : names.length ≤ 4096) (hE : E.length ≤ names.length + 4096) :
    Calls Try.prog 20 #[.pointer (some ⟨g, 0, none⟩), .string s, .int .i64 n] w fun e w' => e = .returned (.int .i64 (aliC names E s n)) ∧ TabTo w w' F g limit names (aliE names E E s n) := by
  obtain ⟨c, hc⟩ : ∃ c, aliC names E s n = c := ⟨_, rfl⟩
  have hc0 := hc
  unfold aliC at hc
  unfold aliE
  rw [hc0]
  by_cases h1 : identB s = false
  · rw [if_pos h1] at hc
    subst hc
    exact (alias_name s n h.tab hs h1).mono fun _ _ ⟨he, hb⟩ => ⟨he, tab_stays h hb⟩
  · rw [if_neg h1] at hc
    have h1' : identB s = true := by simpa using h1
    by_cases h2 : n < 0 ∨ (names.length : Int) ≤ n
    · rw [if_pos h2] at hc
      subst hc
      by_cases h3 : n < 0
      · exact (alias_low s n h.tab hs h1' h3).mono fun _ _ ⟨he, hb⟩ => ⟨he, tab_stays h hb⟩
      · exact (alias_high s n h.tab hs h1' (by omega) (by omega)).mono fun _ _ ⟨he, hb⟩ => ⟨he, tab_stays h hb⟩
    · rw [if_neg h2] at hc
      by_cases h3 : hasE E s = true
      · rw [if_pos h3] at hc
        subst hc
        exact (alias_twice s n h.tab hs h1' (by omega) (by omega) h3).mono fun _ _ ⟨he, hb⟩ => ⟨he, tab_stays h hb⟩
      · rw [if_neg h3] at hc
        have h3' : hasE E s = false := by simpa using h3
        by_cases h4 : names.length + 4096 ≤ E.length
        · rw [if_pos h4] at hc
          subst hc
          exact (alias_full s n h.tab hs h1' (by omega) (by omega) h3' (by omega)).mono fun _ _ ⟨he, hb⟩ => ⟨he, tab_stays h hb⟩
        · rw [if_neg h4] at hc
          subst hc
          rw [if_pos rfl]
          refine (alias_okF s n h hs h1' (by omega) (by omega) h3' (by omega) hN).mono ?_
          rintro e w' ⟨he, ⟨F', hT, hF⟩, hb⟩
          exact ⟨he, ⟨F', hT, fun k hk => .inl (hF k hk)⟩, hb⟩
end
end Go.Proofs.Ytffgjamnijhlpaa
