/- Keys, Copy. -/
import Derived.Test.YtcainohglmgdpaaRal
namespace Go.Proofs.Ytcainohglmgdpaa
open Go.RowKit Go.Maps Go.WideElems Go.WideMaps Go.WideShapes Go.Sort Go.Shelf
section
variable {w w' : World} {g m r cnt : Nat} {S : RS} {L : List Bk} {left : Lit → Bool} {F : Nat → Prop} {e : Int}
theorem keys_perm {n : Nat} {D : DataW Value} (h : w.ownsMap Try.prog 9 Rid m n D) (hD : MB D L) (hs : strict L) : (L.map fun x => x.k.data.toList).Perm (strKeys D) := by
  obtain ⟨es, hE, hpw, _⟩ := h.entries keyedS
  obtain ⟨es', hE', hko⟩ := h.keysOf
  obtain rfl : es = es' := by rw [hE] at hE'; simpa using hE'
  subst hE
  refine perm_strKeys hpw (fun p hp => by obtain ⟨v, hv⟩ := hko p hp; obtain ⟨x, _, hx, _⟩ := Maps.keyOf_str Try.underlying9 hv; exact ⟨x, hx⟩) ?_ fun z => ?_
  · refine List.pairwise_map.2 (List.Pairwise.imp (fun {a b} h e => ?_) hs)
    unfold ltK at h
    rw [e] at h
    exact List.lt_irrefl _ h
  · obtain ⟨s, rfl⟩ : ∃ s : ByteArray, z = s.data.toList := ⟨⟨z.toArray⟩, by simp⟩
    have := hD.h s
    unfold keyS at this
    rw [this, hasB_iff, List.mem_map]
    constructor
    · rintro ⟨x, hx, e⟩
      exact ⟨x, hx, ba_ext e⟩
    · rintro ⟨x, hx, rfl⟩
      exact ⟨x, hx, rfl⟩
theorem keys_sort {ss : List (List UInt8)} (hs : strict L) (hp : ss.Perm (L.map fun x => x.k.data.toList)) : ss.mergeSort (fun x y => decide (x ≤ y)) = L.map fun x => x.k.data.toList := by
  have h1 := mergeSort_of_perm hp
  have h2 : (L.map fun x => x.k.data.toList).mergeSort leB = L.map fun x => x.k.data.toList := List.mergeSort_of_pairwise (List.pairwise_map.2 (List.Pairwise.imp (fun {a b} h => by
    unfold ltK at h
    simp only [leB, decide_eq_true_eq]
    exact List.le_of_lt h) hs))
  rw [h2] at h1
  exact h1
set_option maxRecDepth 100000 in
set_option maxHeartbeats 4000000 in
theorem lkeys_c (h : Lim w g m S) (hS : S.Ok e) : Calls Try.prog 19 #[.pointer (some ⟨g, 0, none⟩)] w fun r w' => ∃ v, r = .returned v ∧ Own RSt w' w.heap.size v (S.L.map Bk.k) ∧ Below w.heap.size w w' := by
  have HM := Lib.hid (made_c h)
  have hn : S.L.length ≤ 1024 := by have h1 := hS.len; have h2 := hS.n1; omega
  obtain ⟨D, hm, hD⟩ := h.mp
  have HP := Lib.hid (keys_perm hm hD hS.st)
  have HSO := Lib.hid (sortedKeys_c m _ D _ w hm (by rw [hD.n]; unfold maxLen; omega) (by rw [hD.n]; omega))
  have HK := Lib.hid (mapsKeys_c (some m) w)
  have HST := Lib.hid hS.st
  obtain ⟨c0, c1, c2, c3, c4, c5, c6, c7⟩ := h.cells
  clear h hS hn hm hD
  go_enter Try.func19, Try.ntmps19
  go_wp2_with (first
    | (go_at_call 27; with_reducible refine HM.out.mono ?_; rintro e w1 ⟨rfl, rfl⟩)
    | (go_at_call 34; with_reducible refine HK.out.mono ?_; rintro e w2 ⟨rfl, rfl⟩)
    | (go_at_call 33; with_reducible refine HSO.out.mono ?_; rintro e w3 ⟨v, ss, rfl, hp, hrow, _, hb⟩))
  go_ret
  have e1 := keys_sort HST.out (hp.trans HP.out.symm)
  rw [e1] at hrow
  have hlen : ss.length = S.L.length := by have := (hp.trans HP.out.symm).length_eq; simpa using this
  have hO : Own RSt w3 (w1.alloc (.cells #[.map (some m)] 45)).heap.size v (S.L.map Bk.k) := by
    unfold Own
    have e2 : (S.L.map Bk.k).flatMap RSt.c = (S.L.map fun x => x.k.data.toList).map encStr := by
      induction S.L with
      | nil => rfl
      | cons x l ih => rw [List.map_cons, List.flatMap_cons, ih]; rfl
    rw [e2, List.length_map, ← hlen]
    exact hrow
  exact ⟨v, rfl, hO.base (by simp), (Below.refl _ _).alloc (Nat.le_refl _) _ |>.trans (hb.mono (by simp))⟩
set_option maxRecDepth 100000 in
set_option maxHeartbeats 4000000 in
theorem lcopy_c (h : Lim w g m S) : Calls Try.prog 14 #[.pointer (some ⟨g, 0, none⟩)] w fun r w' => ∃ g' m', r = .returned (.pointer (some ⟨g', 0, none⟩)) ∧ Lim w' g' m' S ∧ Below w.heap.size w w' ∧ w.heap.size ≤ g' ∧ w.heap.size ≤ m' := by
  have HM := Lib.hid (made_c h)
  obtain ⟨c0, c1, c2, c3, c4, c5, c6, c7⟩ := h.cells
  have HC := Lib.hid h
  clear h
  go_enter Try.func14, Try.ntmps14
  go_upto_region 4 with (go_at_call 27; with_reducible refine HM.out.mono ?_; rintro e w1 ⟨rfl, rfl⟩)
  have HB : Hid (Below w1.heap.size w1 (w1.alloc (.cells (limC g m S) 47))) := Lib.hid ((Below.refl _ _).alloc (Nat.le_refl _) _)
  have HX : Hid (Blk (w1.alloc (.cells (limC g m S) 47)) w1.heap.size 47 (limC g m S)) := Lib.hid (Blk.new _ _ _)
  unfold limC at HB HX
  clear c0 c1 c2 c3 c4 c5 c6 c7
  have HL := Lib.hid (HC.out.keep HB.out)
  generalize w1.alloc (.cells #[.pointer (some ⟨g, 0, none⟩), .int .i64 S.b, .int .i64 S.i, .int .i64 S.n, .int .i64 S.t, .map (some m), .int .i64 S.al, .int .i64 S.dr] 47) = W at *
  obtain ⟨p, hp⟩ : ∃ p, w1.heap.size = p := ⟨_, rfl⟩
  have HPG : Hid (g < p ∧ m < p) := Lib.hid ⟨hp ▸ HC.out.blk.lt, hp ▸ HC.out.mp.lt⟩
  rw [hp] at HX HB ⊢
  have x0 := HX.out.cell 0
  have f0 := HX.out.frozen 0
  have HX1 : Hid (Blk (W.setCell ⟨p, 0, none⟩ (.pointer (some ⟨p, 0, none⟩))) p 47 #[.pointer (some ⟨p, 0, none⟩), .int .i64 S.b, .int .i64 S.i, .int .i64 S.n, .int .i64 S.t, .map (some m), .int .i64 S.al, .int .i64 S.dr]) := Lib.hid (by simpa using HX.out.set 0 (.pointer (some ⟨p, 0, none⟩)))
  have HL1 : Hid (Lim (W.setCell ⟨p, 0, none⟩ (.pointer (some ⟨p, 0, none⟩))) g m S) := Lib.hid (HL.out.apart (F := fun k => k = p) (Apart.setCell (F := fun k => k = p) (p := ⟨p, 0, none⟩) Apart.refl (.inl rfl) _) (by have := HPG.out.1; omega) (by have := HPG.out.2; omega))
  have HB1 : Hid (Below p w1 (W.setCell ⟨p, 0, none⟩ (.pointer (some ⟨p, 0, none⟩)))) := Lib.hid (HB.out.setCell (p := ⟨p, 0, none⟩) (Nat.le_refl _) _)
  clear HX HL HB
  go_upto_region 5 with fail
  clear x0 f0
  generalize W.setCell ⟨p, 0, none⟩ (.pointer (some ⟨p, 0, none⟩)) = W1 at *
  have HK := Lib.hid (clone_c HL1.out.mp)
  obtain ⟨c0, c1, c2, c3, c4, c5, c6, c7⟩ := HL1.out.cells
  have HPW := Lib.hid HX1.out.lt
  go_upto_region 6 with (go_at_call 28; with_reducible refine HK.out.mono ?_; rintro e w5 ⟨rfl, hm5, hb5⟩; have HM5 := Lib.hid hm5; have HX5 := Lib.hid (HX1.out.keep hb5); have HB5 := Lib.hid (HB1.out.trans (hb5.mono (Nat.le_of_lt HPW.out))); have x5 := HX5.out.cell 5; have f5 := HX5.out.frozen 5; clear hm5 hb5)
  have HX6 : Hid (Blk (w5.setCell ⟨p, 5, none⟩ (.map (some W1.heap.size))) p 47 (limC p W1.heap.size S)) := Lib.hid (by simpa [limC] using HX5.out.set 5 (.map (some W1.heap.size)))
  have HM6 : Hid (Mp (w5.setCell ⟨p, 5, none⟩ (.map (some W1.heap.size))) W1.heap.size S.L) := Lib.hid (HM5.out.apart (F := fun k => k = p) (Apart.setCell (F := fun k => k = p) (p := ⟨p, 5, none⟩) Apart.refl (.inl rfl) _) (by have := HPW.out; omega))
  have HB6 : Hid (Below p w1 (w5.setCell ⟨p, 5, none⟩ (.map (some W1.heap.size)))) := Lib.hid (HB5.out.setCell (p := ⟨p, 5, none⟩) (Nat.le_refl _) _)
  go_wp2_with fail
  go_ret
  exact ⟨p, W1.heap.size, rfl, ⟨HX6.out, HM6.out⟩, by rw [hp]; exact HB6.out, Nat.le_of_eq hp, by have := HPW.out; omega⟩
end
end Go.Proofs.Ytcainohglmgdpaa
