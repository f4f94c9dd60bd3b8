/- The reference's state in memory; clock, find, filled. -/
import Derived.Test.YtcainohglmgdpaaRau
namespace Go.Proofs.Ytcainohglmgdpaa
open Go.RowKit Go.Maps Go.WideElems Go.WideMaps Go.WideShapes Go.Sort Go.Shelf
def cellsB (x : Bk) : List Value := [.string x.k, .int .i64 x.l, .int .i64 x.c, .int .i64 x.d]
def RBk : RowT Bk := ⟨71, 27, cellsB, 4, 40, .agg #[.string ⟨#[]⟩, .int .i64 0, .int .i64 0, .int .i64 0], fun _ => rfl, by decide, (by intro x u hu; simp only [cellsB, List.mem_cons, List.not_mem_nil, or_false] at hu; rcases hu with rfl | rfl | rfl | rfl <;> rfl), Try.underlying27, by kernel_rfl, rfl, by decide⟩
theorem idxB_at {L : List Bk} {s : ByteArray} {i : Nat} (hi : i < L.length) (he : L[i].k = s) (hn : ∀ k (h : k < L.length), k < i → L[k].k ≠ s) : idxB L s = i := by
  unfold idxB
  have : L.findIdx? (fun x => decide (x.k = s)) = some i := by
    rw [List.findIdx?_eq_some_iff_getElem]
    exact ⟨hi, by simpa using he, fun j hj => by simpa using hn j (by omega) hj⟩
  rw [this]
theorem idxB_no {L : List Bk} {s : ByteArray} (hn : ∀ k (h : k < L.length), L[k].k ≠ s) : idxB L s = -1 := by
  unfold idxB
  have : L.findIdx? (fun x => decide (x.k = s)) = none := by
    rw [List.findIdx?_eq_none_iff]
    intro x hx
    obtain ⟨j, hj, rfl⟩ := List.mem_iff_getElem.1 hx
    simpa using hn j hj
  rw [this]
section
variable {w w' : World} {g m B : Nat} {S : RS} {a : Option Addr} {n c : Nat} {L : List Bk}
theorem Blk.cells7 {g : Nat} {t : TypeId} {a0 a1 a2 a3 a4 a5 a6 : Value} (h : Blk w g t #[a0, a1, a2, a3, a4, a5, a6]) :
    w.cell? ⟨g, 0, none⟩ = some a0 ∧ w.cell? ⟨g, 1, none⟩ = some a1 ∧ w.cell? ⟨g, 2, none⟩ = some a2 ∧ w.cell? ⟨g, 3, none⟩ = some a3 ∧ w.cell? ⟨g, 4, none⟩ = some a4 ∧ w.cell? ⟨g, 5, none⟩ = some a5 ∧ w.cell? ⟨g, 6, none⟩ = some a6 :=
  ⟨h.cell 0, h.cell 1, h.cell 2, h.cell 3, h.cell 4, h.cell 5, h.cell 6⟩
theorem Blk.cells4 {g : Nat} {t : TypeId} {a0 a1 a2 a3 : Value} (h : Blk w g t #[a0, a1, a2, a3]) :
    w.cell? ⟨g, 0, none⟩ = some a0 ∧ w.cell? ⟨g, 1, none⟩ = some a1 ∧ w.cell? ⟨g, 2, none⟩ = some a2 ∧ w.cell? ⟨g, 3, none⟩ = some a3 :=
  ⟨h.cell 0, h.cell 1, h.cell 2, h.cell 3⟩
/-- a bucket of a row, in a world behind -/
theorem bk_at (h : Rows' RBk w (.slice a n c) L) {i : Nat} (hi : i < L.length) : ∃ g o, a = some ⟨g, o, none⟩ ∧ n = L.length ∧ n ≤ c ∧ ∀ w', Below w.heap.size w w' →
    w'.cell? ⟨g, o + i * 4, none⟩ = some (.string L[i].k) ∧ w'.cell? ⟨g, o + i * 4 + 1, none⟩ = some (.int .i64 L[i].l) ∧ w'.cell? ⟨g, o + i * 4 + 2, none⟩ = some (.int .i64 L[i].c) ∧ w'.cell? ⟨g, o + i * 4 + 3, none⟩ = some (.int .i64 L[i].d) := by
  obtain ⟨ao, cap, e, hc, h1⟩ := rows_at h
  simp only [Value.slice.injEq] at e
  obtain ⟨rfl, rfl, rfl⟩ := e
  obtain ⟨g, o, rfl, _⟩ := h1 i hi
  refine ⟨g, o, rfl, rfl, hc, fun w' hb => ?_⟩
  obtain ⟨ao, cap, e, _, h2⟩ := rows_at (h.below hb)
  simp only [Value.slice.injEq] at e
  obtain ⟨rfl, _, rfl⟩ := e
  obtain ⟨g', o', e2, k⟩ := h2 i hi
  simp only [Option.some.injEq, Addr.mk.injEq] at e2
  obtain ⟨rfl, rfl, _⟩ := e2
  exact ⟨k 0 _ rfl, k 1 _ rfl, k 2 _ rfl, k 3 _ rfl⟩
theorem rows_len {α : Type} {R : RowT α} {l : List α} (h : Rows' R w (.slice a n c) l) : n = l.length := by
  obtain ⟨ao, cap, e, _⟩ := rows_at h
  simp only [Value.slice.injEq] at e
  exact e.2.1
set_option maxRecDepth 100000 in
theorem clock_c (sl : Value) (now : Int) (w : World) : Calls Try.prog 35 #[.agg #[.int .i64 S.b, .int .i64 S.i, .int .i64 S.n, .int .i64 S.t, sl, .int .i64 S.al, .int .i64 S.dr], .int .i64 now] w fun r w' => r = .returned (.int .i64 (timeR S now)) ∧ Below w.heap.size w w' := by
  have HB : Hid (Below w.heap.size w (w.alloc (.cells #[.int .i64 S.b, .int .i64 S.i, .int .i64 S.n, .int .i64 S.t, sl, .int .i64 S.al, .int .i64 S.dr] 29))) := Lib.hid ((Below.refl _ _).alloc (Nat.le_refl _) _)
  unfold timeR
  go_enter Try.func35, Try.ntmps35
  go_wp2
  all_goals
    go_ret
    refine ⟨?_, HB.out⟩
    show Ending.returned (.int .i64 _) = Ending.returned (.int .i64 _)
    congr 2
    try omega
set_option maxRecDepth 100000 in
set_option maxHeartbeats 4000000 in
theorem find_c (s : ByteArray) (h : Rows' RBk w (.slice a n c) L) (hl : L.length ≤ 2000) : Calls Try.prog 37 #[.agg #[.int .i64 S.b, .int .i64 S.i, .int .i64 S.n, .int .i64 S.t, .slice a n c, .int .i64 S.al, .int .i64 S.dr], .string s] w fun r w' => r = .returned (.int .i64 (idxB L s)) ∧ Below w.heap.size w w' := by
  have HB : Hid (Below w.heap.size w (w.alloc (.cells #[.int .i64 S.b, .int .i64 S.i, .int .i64 S.n, .int .i64 S.t, .slice a n c, .int .i64 S.al, .int .i64 S.dr] 29))) := Lib.hid ((Below.refl _ _).alloc (Nat.le_refl _) _)
  have HX : Hid (Blk (w.alloc (.cells #[.int .i64 S.b, .int .i64 S.i, .int .i64 S.n, .int .i64 S.t, .slice a n c, .int .i64 S.al, .int .i64 S.dr] 29)) w.heap.size 29 #[.int .i64 S.b, .int .i64 S.i, .int .i64 S.n, .int .i64 S.t, .slice a n c, .int .i64 S.al, .int .i64 S.dr]) := Lib.hid (Blk.new _ _ _)
  have HR := Lib.hid h
  obtain rfl := rows_len h
  generalize hv : idxB L s = v
  have HV := Lib.hid hv
  clear h hv
  go_enter Try.func37, Try.ntmps37
  go_wp2_with fail
  generalize w.alloc (.cells #[.int .i64 S.b, .int .i64 S.i, .int .i64 S.n, .int .i64 S.t, .slice a L.length c, .int .i64 S.al, .int .i64 S.dr] 29) = W at *
  obtain ⟨p, hp⟩ : ∃ p, w.heap.size = p := ⟨_, rfl⟩
  have HP := Lib.hid hp
  rw [hp] at HX ⊢
  clear hp
  go_loopw [5] (fun vi wr => ∃ i : Nat, i ≤ L.length ∧ vi = .int .i64 i ∧ Hid (∀ k (_ : k < L.length), k < i → L[k].k ≠ s) ∧ wr = W) (fun vi _ => L.length - (intOf vi).toNat)
  case atStart => exact ⟨0, Nat.zero_le _, rfl, Lib.hid (fun k _ h => absurd h (Nat.not_lt_zero _)), rfl⟩
  case round =>
    obtain ⟨i, hi, rfl, HA, rfl⟩ := hrel
    obtain ⟨x0, x1, x2, x3, x4, x5, x6⟩ := HX.out.cells7
    by_cases hlt : i < L.length
    · have hlt' : (i : Int) < (L.length : Int) := by omega
      obtain ⟨g, o, rfl, _, hc, hev⟩ := bk_at HR.out hlt
      obtain ⟨q0, _⟩ := hev wr HB.out
      have HLI : Hid (L[i].k = L[i].k) := Lib.hid rfl
      obtain ⟨k, hk⟩ : ∃ k, L[i].k = k := ⟨_, rfl⟩
      rw [hk] at q0
      by_cases he : k = s
      · subst he
        obtain rfl : v = i := by rw [← HV.out]; exact idxB_at hlt hk HA.out
        clear hev HLI hk HA HV
        go_wp2_with fail
        go_ret
        exact ⟨rfl, by rw [HP.out]; exact HP.out ▸ HB.out⟩
      · have h2 : (k.toList == s.toList) = false := by
          rw [bytes_beq]
          exact decide_eq_false he
        have HA2 : Hid (∀ k (_ : k < L.length), k < i + 1 → L[k].k ≠ s) := Lib.hid fun q hq h => by
          rcases Nat.lt_or_ge q i with h1 | h1
          · exact HA.out q hq h1
          · obtain rfl : q = i := by omega
            rw [hk]; exact he
        clear hev HLI hk HA
        go_wp2_with fail
        go_roundw
        case rel => exact ⟨i + 1, hlt, by go_num, HA2, trivial⟩
        case measure => simp [intOf]; omega
    · obtain rfl : i = L.length := by omega
      obtain rfl : v = -1 := by rw [← HV.out]; exact idxB_no fun k h => HA.out k h h
      clear HA HV
      go_wp2_with fail
      go_ret
      exact ⟨rfl, by rw [HP.out]; exact HP.out ▸ HB.out⟩
end
end Go.Proofs.Ytcainohglmgdpaa
