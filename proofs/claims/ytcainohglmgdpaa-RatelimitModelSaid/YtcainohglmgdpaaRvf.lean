/- The reference's Keys, First. -/
import Derived.Test.YtcainohglmgdpaaRve
namespace Go.Proofs.Ytcainohglmgdpaa
open Go.RowKit Go.Maps Go.WideElems Go.WideMaps Go.WideShapes Go.Sort Go.Shelf
section
variable {w w' : World} {g m B : Nat} {S : RS} {a : Option Addr} {n c : Nat} {L : List Bk} {e : Int}
set_option maxRecDepth 100000 in
set_option maxHeartbeats 8000000 in
theorem rkeys_c (h : Rows' RBk w (.slice a n c) S.L) (hS : S.Ok e) :
    Calls Try.prog 24 #[.agg #[.int .i64 S.b, .int .i64 S.i, .int .i64 S.n, .int .i64 S.t, .slice a n c, .int .i64 S.al, .int .i64 S.dr]] w fun r w' => ∃ v', r = .returned v' ∧ Own RSt w' w.heap.size v' (S.L.map Bk.k) ∧ Below w.heap.size w w' := by
  have HSL : Hid (S.L.length ≤ 1024) := Lib.hid (by have h1 := hS.len; have h2 := hS.n1; omega)
  have HB : Hid (Below w.heap.size w (w.alloc (.cells #[.int .i64 S.b, .int .i64 S.i, .int .i64 S.n, .int .i64 S.t, .slice a n c, .int .i64 S.al, .int .i64 S.dr] 29))) := Lib.hid ((Below.refl _ _).alloc (Nat.le_refl _) _)
  have HX : Hid (Blk (w.alloc (.cells #[.int .i64 S.b, .int .i64 S.i, .int .i64 S.n, .int .i64 S.t, .slice a n c, .int .i64 S.al, .int .i64 S.dr] 29)) w.heap.size 29 #[.int .i64 S.b, .int .i64 S.i, .int .i64 S.n, .int .i64 S.t, .slice a n c, .int .i64 S.al, .int .i64 S.dr]) := Lib.hid (Blk.new _ _ _)
  have HR := Lib.hid h
  obtain rfl := rows_len h
  generalize hL : S.L = L at *
  clear h hS hL
  go_enter Try.func24, Try.ntmps24
  go_wp2_with fail
  generalize w.alloc (.cells #[.int .i64 S.b, .int .i64 S.i, .int .i64 S.n, .int .i64 S.t, .slice a L.length c, .int .i64 S.al, .int .i64 S.dr] 29) = W at *
  obtain ⟨p, hp⟩ : ∃ p, w.heap.size = p := ⟨_, rfl⟩
  have HP := Lib.hid hp
  rw [hp] at HX HB ⊢
  clear hp
  have HPZ : Hid (p + 1 ≤ W.heap.size) := Lib.hid HX.out.lt
  obtain ⟨v3, h3⟩ : ∃ v3, v3 = Value.slice none 0 0 := ⟨_, rfl⟩
  rw [← h3]
  have HO3 : Hid (Own RSt W (p + 1) v3 []) := Lib.hid (by rw [h3]; exact Own.nil _ _)
  clear h3
  go_loopw [3, 4] (fun v3 v4 wr => ∃ (i : Nat) (v : Value), i ≤ L.length ∧ v = v3 ∧ v4 = .int .i64 i ∧ Hid (Own RSt wr (p + 1) v ((L.take i).map Bk.k)) ∧ Hid (Blk wr p 29 #[.int .i64 S.b, .int .i64 S.i, .int .i64 S.n, .int .i64 S.t, .slice a L.length c, .int .i64 S.al, .int .i64 S.dr]) ∧ Hid (Below p w wr) ∧ Hid (p + 1 ≤ wr.heap.size)) (fun _ v4 _ => L.length - (intOf v4).toNat)
  case atStart => exact ⟨0, _, Nat.zero_le _, rfl, rfl, Lib.hid (by rw [List.take_zero]; exact HO3.out), HX, HB, HPZ⟩
  case round =>
    obtain ⟨i, v, hi, rfl, rfl, HO, HX, HB, HPZ⟩ := hrel
    obtain ⟨x0, x1, x2, x3, x4, x5, x6⟩ := HX.out.cells7
    have hsl := HSL.out
    by_cases hlt : i < L.length
    · have hlt' : (i : Int) < (L.length : Int) := by omega
      obtain ⟨ga, oa, rfl, -, hc, hev⟩ := bk_at HR.out hlt
      have HTK : Hid ((L.take (i + 1)).map Bk.k = (L.take i).map Bk.k ++ [L[i].k]) := Lib.hid (by rw [List.take_succ_eq_append_getElem hlt, List.map_append]; rfl)
      generalize L[i] = x at hev HTK
      obtain ⟨q0, -⟩ := hev wr (by rw [HP.out]; exact HB.out)
      have hlen : ((L.take i).map Bk.k).length ≤ i := by rw [List.length_map, List.length_take]; omega
      have HLEN := Lib.hid hlen
      clear hlen hev
      generalize (L.take i).map Bk.k = M at *
      obtain ⟨am, cm, rfl⟩ := HO.out.isSl
      have HBA : Hid (Below wr.heap.size wr (wr.alloc (.cells #[.string x.k] 9))) := Lib.hid ((Below.refl _ _).alloc (Nat.le_refl _) _)
      have HYA : Hid (Blk (wr.alloc (.cells #[.string x.k] 9)) wr.heap.size 9 #[.string x.k]) := Lib.hid (Blk.new _ _ _)
      have HOA := Lib.hid (HO.out.below HBA.out)
      have HXA := Lib.hid (HX.out.keep HBA.out)
      go_wp2_with (at_builtin; refine wpList_append_one RSt rfl _ _ rfl (p + 1) (.slice am M.length cm) M M.length rfl rfl HOA.out wr.heap.size x.k rfl HYA.out (by have := HLEN.out; omega) (by have := HBA.out.size; have := HPZ.out; omega) ?_; intro ga ca w6 h1 h2 h3; have H1 := Lib.hid h1; have H2 := Lib.hid h2; clear h1 h2 h3)
      have HX6 := Lib.hid (HXA.out.grown H2.out (own_lt_ne HOA.out (by omega)))
      have hb6 : Below p w w6 := (HB.out.trans (HBA.out.mono (by have := HPZ.out; omega))).grown H2.out (by have := HBA.out.size; have := HPZ.out; omega) (fun k e => by have := (HOA.out.lt k e).1; omega)
      have HB6 := Lib.hid hb6
      have HPZ6 : Hid (p + 1 ≤ w6.heap.size) := Lib.hid (by have := H2.out.size; have := HBA.out.size; have := HPZ.out; omega)
      clear hb6
      refine ⟨⟨i + 1, _, hlt, rfl, by simp, Lib.hid (by rw [HTK.out]; exact H1.out), HX6, HB6, HPZ6⟩, ?_⟩
      simp [intOf]; omega
    · obtain rfl : i = L.length := by omega
      have HO2 : Hid (Own RSt wr (p + 1) v (L.map Bk.k)) := Lib.hid (by have := HO.out; rwa [List.take_length] at this)
      clear HO
      go_wp2_with fail
      go_ret
      exact ⟨_, rfl, HO2.out.base (by rw [HP.out]; exact Nat.le_succ p), by rw [HP.out]; exact HB.out⟩
set_option maxRecDepth 100000 in
set_option maxHeartbeats 8000000 in
theorem rfirst_yes (b i n : Int) (w : World) (h : okR b i n = true) : Calls Try.prog 9 #[.int .i64 b, .int .i64 i, .int .i64 n] w fun r w' => r = .returned (.tuple #[.agg #[.int .i64 b, .int .i64 i, .int .i64 n, .int .i64 0, .slice none 0 0, .int .i64 0, .int .i64 0], .bool true]) ∧ Below w.heap.size w w' := by
  unfold okR at h
  simp only [Bool.and_eq_true, decide_eq_true_eq] at h
  obtain ⟨⟨⟨h1, h2⟩, h3, h4⟩, h5, h6⟩ := h
  have h1 : ¬ b < 1 := by omega
  have h2 : ¬ 1000000 < b := by omega
  have h3 : ¬ i < 1 := by omega
  have h4 : ¬ 1000000 < i := by omega
  have h5 : ¬ n < 1 := by omega
  have h6 : ¬ 1024 < n := by omega
  have HB : Hid (Below w.heap.size w (w.alloc (.cells #[.int .i64 0, .int .i64 0, .int .i64 0, .int .i64 0, .slice none 0 0, .int .i64 0, .int .i64 0] 29))) := Lib.hid ((Below.refl _ _).alloc (Nat.le_refl _) _)
  have HX : Hid (Blk (w.alloc (.cells #[.int .i64 0, .int .i64 0, .int .i64 0, .int .i64 0, .slice none 0 0, .int .i64 0, .int .i64 0] 29)) w.heap.size 29 #[.int .i64 0, .int .i64 0, .int .i64 0, .int .i64 0, .slice none 0 0, .int .i64 0, .int .i64 0]) := Lib.hid (Blk.new _ _ _)
  go_enter Try.func9, Try.ntmps9
  go_upto_region 1 with fail
  generalize w.alloc (.cells #[.int .i64 0, .int .i64 0, .int .i64 0, .int .i64 0, .slice none 0 0, .int .i64 0, .int .i64 0] 29) = W at *
  obtain ⟨p, hp⟩ : ∃ p, w.heap.size = p := ⟨_, rfl⟩
  have HP := Lib.hid hp
  rw [hp] at HX HB ⊢
  clear hp
  obtain ⟨z0, z1, z2, z3, z4, z5, z6⟩ := HX.out.cells7
  obtain ⟨k0, k1, k2, k3, k4, k5, k6⟩ := HX.out.frozen7
  have HZ := Lib.hid (HX.out.set7 (.int .i64 b) (.int .i64 i) (.int .i64 n) (.int .i64 0) (.slice none 0 0) (.int .i64 0) (.int .i64 0))
  have HA := Lib.hid (apart_set7 (F := fun k => k = p) (g := p) (Apart.refl (w := W)) (.inl rfl) (.int .i64 b) (.int .i64 i) (.int .i64 n) (.int .i64 0) (.slice none 0 0) (.int .i64 0) (.int .i64 0))
  have HB4 : Hid (Below p w (((((((W.setCell ⟨p, 0, none⟩ (.int .i64 b)).setCell ⟨p, 1, none⟩ (.int .i64 i)).setCell ⟨p, 2, none⟩ (.int .i64 n)).setCell ⟨p, 3, none⟩ (.int .i64 0)).setCell ⟨p, 4, none⟩ (.slice none 0 0)).setCell ⟨p, 5, none⟩ (.int .i64 0)).setCell ⟨p, 6, none⟩ (.int .i64 0))) := Lib.hid (HB.out.trans (HA.out.below (by have := HX.out.lt; omega) (fun k hk => by subst hk; exact Nat.le_refl _)))
  go_wp2_with fail
  clear z0 z1 z2 z3 z4 z5 z6 k0 k1 k2 k3 k4 k5 k6
  generalize (((((((W.setCell ⟨p, 0, none⟩ (.int .i64 b)).setCell ⟨p, 1, none⟩ (.int .i64 i)).setCell ⟨p, 2, none⟩ (.int .i64 n)).setCell ⟨p, 3, none⟩ (.int .i64 0)).setCell ⟨p, 4, none⟩ (.slice none 0 0)).setCell ⟨p, 5, none⟩ (.int .i64 0)).setCell ⟨p, 6, none⟩ (.int .i64 0)) = W4 at *
  obtain ⟨r0, r1, r2, r3, r4, r5, r6⟩ := HZ.out.cells7
  refine bodyPost_ret (v := .tuple #[.agg #[.int .i64 b, .int .i64 i, .int .i64 n, .int .i64 0, .slice none 0 0, .int .i64 0, .int .i64 0], .bool true]) (by simp [results, Try.results9, go_sem, r0, r1, r2, r3, r4, r5, r6]) rfl ⟨rfl, by rw [HP.out]; exact HB4.out⟩
set_option maxRecDepth 100000 in
set_option maxHeartbeats 8000000 in
theorem rfirst_no (b i n : Int) (w : World) (h : okR b i n = false) : Calls Try.prog 9 #[.int .i64 b, .int .i64 i, .int .i64 n] w fun r w' => r = .returned (.tuple #[.agg #[.int .i64 0, .int .i64 0, .int .i64 0, .int .i64 0, .slice none 0 0, .int .i64 0, .int .i64 0], .bool false]) ∧ Below w.heap.size w w' := by
  have hd : b < 1 ∨ (¬ b < 1 ∧ 1000000 < b) ∨ (¬ b < 1 ∧ ¬ 1000000 < b ∧ i < 1) ∨ (¬ b < 1 ∧ ¬ 1000000 < b ∧ ¬ i < 1 ∧ 1000000 < i) ∨ (¬ b < 1 ∧ ¬ 1000000 < b ∧ ¬ i < 1 ∧ ¬ 1000000 < i ∧ n < 1) ∨ (¬ b < 1 ∧ ¬ 1000000 < b ∧ ¬ i < 1 ∧ ¬ 1000000 < i ∧ ¬ n < 1 ∧ 1024 < n) := by
    rcases Bool.eq_false_or_eq_true (okR b i n) with h' | h'
    · rw [h] at h'; cases h'
    · unfold okR at h'
      simp only [Bool.and_eq_false_iff, decide_eq_false_iff_not] at h'
      omega
  clear h
  have HB : Hid (Below w.heap.size w (w.alloc (.cells #[.int .i64 0, .int .i64 0, .int .i64 0, .int .i64 0, .slice none 0 0, .int .i64 0, .int .i64 0] 29))) := Lib.hid ((Below.refl _ _).alloc (Nat.le_refl _) _)
  have HX : Hid (Blk (w.alloc (.cells #[.int .i64 0, .int .i64 0, .int .i64 0, .int .i64 0, .slice none 0 0, .int .i64 0, .int .i64 0] 29)) w.heap.size 29 #[.int .i64 0, .int .i64 0, .int .i64 0, .int .i64 0, .slice none 0 0, .int .i64 0, .int .i64 0]) := Lib.hid (Blk.new _ _ _)
  go_enter Try.func9, Try.ntmps9
  go_upto_region 1 with fail
  generalize w.alloc (.cells #[.int .i64 0, .int .i64 0, .int .i64 0, .int .i64 0, .slice none 0 0, .int .i64 0, .int .i64 0] 29) = W at *
  obtain ⟨p, hp⟩ : ∃ p, w.heap.size = p := ⟨_, rfl⟩
  have HP := Lib.hid hp
  rw [hp] at HX HB ⊢
  clear hp
  obtain ⟨z0, z1, z2, z3, z4, z5, z6⟩ := HX.out.cells7
  obtain ⟨k0, k1, k2, k3, k4, k5, k6⟩ := HX.out.frozen7
  rcases hd with h1 | ⟨h1, h2⟩ | ⟨h1, h2, h3⟩ | ⟨h1, h2, h3, h4⟩ | ⟨h1, h2, h3, h4, h5⟩ | ⟨h1, h2, h3, h4, h5, h6⟩
  all_goals
    have HZ := Lib.hid (HX.out.set7 (.int .i64 0) (.int .i64 0) (.int .i64 0) (.int .i64 0) (.slice none 0 0) (.int .i64 0) (.int .i64 0))
    have HA := Lib.hid (apart_set7 (F := fun k => k = p) (g := p) (Apart.refl (w := W)) (.inl rfl) (.int .i64 0) (.int .i64 0) (.int .i64 0) (.int .i64 0) (.slice none 0 0) (.int .i64 0) (.int .i64 0))
    have HB4 : Hid (Below p w (((((((W.setCell ⟨p, 0, none⟩ (.int .i64 0)).setCell ⟨p, 1, none⟩ (.int .i64 0)).setCell ⟨p, 2, none⟩ (.int .i64 0)).setCell ⟨p, 3, none⟩ (.int .i64 0)).setCell ⟨p, 4, none⟩ (.slice none 0 0)).setCell ⟨p, 5, none⟩ (.int .i64 0)).setCell ⟨p, 6, none⟩ (.int .i64 0))) := Lib.hid (HB.out.trans (HA.out.below (by have := HX.out.lt; omega) (fun k hk => by subst hk; exact Nat.le_refl _)))
    go_wp2_with fail
    clear z0 z1 z2 z3 z4 z5 z6 k0 k1 k2 k3 k4 k5 k6
    generalize (((((((W.setCell ⟨p, 0, none⟩ (.int .i64 0)).setCell ⟨p, 1, none⟩ (.int .i64 0)).setCell ⟨p, 2, none⟩ (.int .i64 0)).setCell ⟨p, 3, none⟩ (.int .i64 0)).setCell ⟨p, 4, none⟩ (.slice none 0 0)).setCell ⟨p, 5, none⟩ (.int .i64 0)).setCell ⟨p, 6, none⟩ (.int .i64 0)) = W4 at *
    obtain ⟨r0, r1, r2, r3, r4, r5, r6⟩ := HZ.out.cells7
    refine bodyPost_ret (v := .tuple #[.agg #[.int .i64 0, .int .i64 0, .int .i64 0, .int .i64 0, .slice none 0 0, .int .i64 0, .int .i64 0], .bool false]) (by simp [results, Try.results9, go_sem, r0, r1, r2, r3, r4, r5, r6]) rfl ⟨rfl, by rw [HP.out]; exact HB4.out⟩
end
end Go.Proofs.Ytcainohglmgdpaa
