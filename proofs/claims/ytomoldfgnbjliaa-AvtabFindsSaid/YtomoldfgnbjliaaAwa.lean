/- What the reference's Merge needs: an entry at its place; writing into a row of entries; copy. -/
import Derived.Test.YtomoldfgnbjliaaAvr
import Derived.Laws.CopyOwn
namespace Go.Proofs.Ytomoldfgnbjliaa
open Go.RowKit Go.Sort
theorem ins_mid : ∀ {O : List E} {x : E} {k : Nat} (hk : k < O.length), (∀ j (h : j < k), ltP (O[j]'(Nat.lt_trans h hk)) x) → ¬ ltP O[k] x → ¬ ltP x O[k] → ins O x = O.set k (orE O[k] x)
  | [], x, k, hk, _, _, _ => by simp at hk
  | y :: r, x, 0, _, _, h1, h2 => by
    simp only [List.getElem_cons_zero] at h1 h2
    simp [ins, h1, h2]
  | y :: r, x, k + 1, hk, hl, h1, h2 => by
    have h0 := hl 0 (by omega)
    simp only [List.getElem_cons_zero] at h0
    have ih := ins_mid (O := r) (x := x) (k := k) (by simpa using hk) (fun j h => by have := hl (j + 1) (by omega); simpa using this) (by simpa using h1) (by simpa using h2)
    simp [ins, h0, ih]
theorem ins_new : ∀ {O : List E} {x : E} {k : Nat} (hk : k ≤ O.length), (∀ j (h : j < k), ltP (O[j]'(Nat.lt_of_lt_of_le h hk)) x) → (∀ h : k < O.length, ¬ ltP O[k] x ∧ ltP x O[k]) → ins O x = O.take k ++ (x :: O.drop k)
  | [], x, k, hk, _, _ => by simp at hk; subst hk; rfl
  | y :: r, x, 0, _, _, h => by
    have h1 := h (by simp)
    simp only [List.getElem_cons_zero] at h1
    simp [ins, h1.1, h1.2]
  | y :: r, x, k + 1, hk, hl, h => by
    have h0 := hl 0 (by omega)
    simp only [List.getElem_cons_zero] at h0
    have ih := ins_new (O := r) (x := x) (k := k) (by simpa using hk) (fun j h => by have := hl (j + 1) (by omega); simpa using this) (fun h' => by have := h (by simpa using h'); simpa using this)
    simp [ins, h0, ih]
/-- a cell of an entry in a row of its own is written -/
theorem OwnE.setAt {w : World} {B g n cap i : Nat} {L : List E} {y z : E} (k : Nat) (u : Value) (hk : k < 7) (hy : L[i]? = some y) (hz : ∀ j, j < 7 → (cellsE z)[j]? = if j = k then some u else (cellsE y)[j]?) (hn : L.length = n) (h : OwnE w B (.slice (some ⟨g, 0, none⟩) n cap) L) :
    OwnE (w.setCell ⟨g, i * 7 + k, none⟩ u) B (.slice (some ⟨g, 0, none⟩) n cap) (L.set i z) := by
  rcases h.form with ⟨h1, _⟩ | ⟨g', cap', cur, h1, hB, hg, h4, h5, h6, h7⟩
  · simp at h1
  · obtain ⟨rfl, -, rfl⟩ : g = g' ∧ n = L.length ∧ cap = cap' := by simpa using h1
    have hl : (L.set i z).length = n := by simp [hn]
    have hb := Blk.set (show Blk w g _ cur from hg) (i * 7 + k) u
    rw [← hl]
    refine OwnE.mk hB hb (by rw [hl, ← hn]; exact h4) h5 (by simp [h6]) fun q x hx j hj => ?_
    rw [List.getElem?_set] at hx
    have hil : i < L.length := (List.getElem?_eq_some_iff.1 hy).1
    by_cases e : i = q
    · subst e
      rw [if_pos rfl, if_pos hil] at hx
      cases hx
      have h0 := h7 i y hy j hj
      rw [hz j hj]
      split
      · rename_i e
        subst e
        rw [Array.getElem?_setIfInBounds_self_of_lt (by omega)]
      · rw [Array.getElem?_setIfInBounds_ne (by omega)]
        exact h0
    · rw [if_neg e] at hx
      have h0 := h7 q x hx j hj
      rw [Array.getElem?_setIfInBounds_ne (by omega)]
      exact h0
/-- a whole entry in a row of its own is written -/
theorem OwnE.facts {w : World} {B g n cap : Nat} {L : List E} (hn : L.length = n) (h : OwnE w B (.slice (some ⟨g, 0, none⟩) n cap) L) :
    (∀ i x, L[i]? = some x → At7 w g (i * 7) x) ∧ (∀ k, w.frozen? ⟨g, k, none⟩ = false) ∧ (0 < n → g < w.heap.size) ∧ n ≤ cap ∧ B ≤ g ∧ cap ≤ maxLen := by
  rcases h.form with ⟨h1, _⟩ | ⟨g', cap', cur, h1, hB, hg, h4, h5, h6, h7⟩
  · simp at h1
  · obtain ⟨rfl, -, rfl⟩ : g = g' ∧ n = L.length ∧ cap = cap' := by simpa using h1
    refine ⟨fun i x hx => at7_of fun k hk => ?_, fun k => Blk.frozen (show Blk w g _ cur from hg) k, fun _ => Blk.lt (show Blk w g _ cur from hg), by omega, hB, h5⟩
    rw [cell_of_row w g _ cur _ (0, 0) hg]
    exact h7 i x hx k hk
theorem run_copy_rowE {w : World} (ty : TypeId) (g o dLen dCap : Nat) (a : Addr) (sLen sCap m : Nat) (cur : Array Value) (t : TypeId) (cs : List Value)
    (hg : w.heap[g]? = some (.cells cur t (0, 0))) (hm : Nat.min sLen dLen = m) (hn : cs.length = m * 7)
    (hsrc : ∀ j v, cs[j]? = some v → w.cell? (a.add j) = some v) (hfit : o + cs.length ≤ cur.size) (h1 : ∀ v ∈ cs, v.oneCell' = true) :
    (Builtin.copy_ #[22, 22] ty #[.slice (some ⟨g, o, none⟩) dLen dCap, .slice (some a) sLen sCap]).run Try.prog w =
      .ok (goInt m) (w.setRow g (cur.toList.take o ++ cs ++ cur.toList.drop (o + cs.length)).toArray) := by
  obtain ⟨i0, hinf, hz0, hz1, hz2⟩ := info_parts infoE
  have hl := run_loadCells_list (P := Try.prog) w a cs hsrc
  have hst := run_storeCells_at Try.prog g o t cs 0 cur w hg (by simpa using hfit) h1
  rw [hn] at hl
  simp [Builtin.copy_, run_underlying Try.underlying22, Builtin.lenOf, Builtin.firstCells, sizeOf, typeInfo, hinf, hz1, hm, hl, hst]
theorem run_copy_noneE {w : World} (ty : TypeId) (d a : Option Addr) (dLen dCap sLen sCap : Nat) (hm : Nat.min sLen dLen = 0) :
    (Builtin.copy_ #[22, 22] ty #[.slice d dLen dCap, .slice a sLen sCap]).run Try.prog w = .ok (goInt 0) w := by
  obtain ⟨i0, hinf, hz0, hz1, hz2⟩ := info_parts infoE
  have hl : ∀ (x : Addr), (loadCells x 0).run Try.prog w = .ok #[] w := fun x => by simpa using run_loadCells_list (P := Try.prog) w x [] (by simp)
  cases d <;> cases a <;> simp [Builtin.copy_, run_underlying Try.underlying22, Builtin.lenOf, Builtin.firstCells, sizeOf, typeInfo, hinf, hm, storeCells, hl]
/-- the entries from k on, one place further -/
theorem copyE {w : World} (ty : TypeId) {B g n k cap : Nat} {L : List E} (hn : L.length = n + 1) (hk : k ≤ n) (h : OwnE w B (.slice (some ⟨g, 0, none⟩) (n + 1) cap) L) (dp sp : Option Addr) (dc sc : Nat)
    (hp : k < n → dp = some ⟨g, (k + 1) * 7, none⟩ ∧ sp = some ⟨g, k * 7, none⟩) :
    ∃ w', (Builtin.copy_ #[22, 22] ty #[.slice dp (n - k) dc, .slice sp (n + 1 - k) sc]).run Try.prog w = .ok (goInt ((n - k : Nat) : Int)) w' ∧
      OwnE w' B (.slice (some ⟨g, 0, none⟩) (n + 1) cap) (L.take (k + 1) ++ (L.drop k).take (n - k)) ∧ w.grownBy w' (some g) := by
  have hmin : Nat.min (n + 1 - k) (n - k) = n - k := Nat.min_eq_right (by omega)
  rcases Nat.lt_or_ge k n with hlt | hge
  · obtain ⟨rfl, rfl⟩ := hp hlt
    rcases h.form with ⟨h1, _⟩ | ⟨g', cap', cur, h1, hB, hg, h4, h5, h6, h7⟩
    · simp at h1
    · obtain ⟨rfl, -, rfl⟩ : g = g' ∧ n + 1 = L.length ∧ cap = cap' := by simpa using h1
      have hcl : (((L.drop k).take (n - k)).flatMap cellsE).length = (n - k) * 7 := by rw [fm_len, List.length_take, List.length_drop]; congr 1; omega
      have hr := run_copy_rowE (w := w) ty g ((k + 1) * 7) (n - k) dc ⟨g, k * 7, none⟩ (n + 1 - k) sc (n - k) cur 39 (((L.drop k).take (n - k)).flatMap cellsE) hg hmin hcl (fun j v hj => by
        obtain ⟨x, hx, hv⟩ := fm_of _ j v hj
        rw [List.getElem?_take] at hx
        split at hx
        · rw [List.getElem?_drop] at hx
          have := h7 _ x hx (j % 7) (by omega)
          rw [show (⟨g, k * 7, none⟩ : Addr).add j = ⟨g, (k + j / 7) * 7 + j % 7, none⟩ by
            have e : (k + j / 7) * 7 + j % 7 = k * 7 + j := by omega
            rw [e]; unfold Addr.add; split <;> simp_all]
          rw [cell_of_row w g _ cur _ (0, 0) hg, this, hv]
        · cases hx) (by rw [hcl]; omega) (by intro u hu; obtain ⟨x, _, hx⟩ := List.mem_flatMap.1 hu; exact cellsE_one x u hx)
      refine ⟨_, hr, ?_, ⟨rfl, rfl, rfl, by simp [World.setRow], fun q hq hne => setRow_other w g q _ (by rintro rfl; exact hne rfl)⟩⟩
      have hl : (L.take (k + 1) ++ (L.drop k).take (n - k)).length = n + 1 := by simp [hn]; omega
      have hb := setRow_heap w g cur (cur.toList.take ((k + 1) * 7) ++ ((L.drop k).take (n - k)).flatMap cellsE ++ cur.toList.drop ((k + 1) * 7 + (((L.drop k).take (n - k)).flatMap cellsE).length)).toArray 39 (0, 0) hg
      rw [← hl]
      refine OwnE.mk hB hb (by rw [hl, ← hn]; exact h4) h5 (by simp [hcl, h6]; omega) fun i x hx j hj => ?_
      have htl : ((k + 1) * 7) ≤ cur.toList.length := by simp [h6]; omega
      simp only [List.getElem?_toArray]
      rcases Nat.lt_or_ge i (k + 1) with hik | hik
      · rw [List.getElem?_append_left (by simp [hn]; omega), List.getElem?_take, if_pos hik] at hx
        rw [List.append_assoc, List.getElem?_append_left (by rw [List.length_take]; omega), List.getElem?_take, if_pos (by omega)]
        have := h7 i x hx j hj
        simpa using this
      · have hil : i < n + 1 := by rw [← hl]; exact (List.getElem?_eq_some_iff.1 hx).1
        rw [List.getElem?_append_right (by simp [hn]; omega)] at hx
        have e1 : i - (L.take (k + 1)).length = i - (k + 1) := by simp [hn]; omega
        rw [e1] at hx
        rw [List.append_assoc, List.getElem?_append_right (by rw [List.length_take]; omega), List.getElem?_append_left (by rw [List.length_take, hcl]; omega)]
        have e2 : i * 7 + j - (cur.toList.take ((k + 1) * 7)).length = (i - (k + 1)) * 7 + j := by rw [List.length_take]; omega
        rw [e2]
        exact fm_get _ _ _ x hx hj
  · obtain rfl : k = n := by omega
    refine ⟨w, ?_, ?_, ⟨rfl, rfl, rfl, Nat.le_refl _, fun _ _ _ => rfl⟩⟩
    · have := run_copy_noneE (w := w) ty dp sp (k - k) dc (k + 1 - k) sc (by rw [hmin]; omega)
      simpa using this
    · have e : L.take (k + 1) ++ (L.drop k).take (k - k) = L := by simp [← hn]
      rw [e]; exact h
end Go.Proofs.Ytomoldfgnbjliaa
