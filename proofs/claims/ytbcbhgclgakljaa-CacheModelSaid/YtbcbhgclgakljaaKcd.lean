/- Orders: looked up, made, a key taken out, put in front. -/
import Derived.Test.YtbcbhgclgakljaaKcc
namespace Go.Proofs.Ytbcbhgclgakljaa
open Go.RowKit Go.Maps Go.WideElems Go.WideShapes
theorem zeroP (w : World) : (zeroValue 105).run Try.prog w = .ok (.pointer none) w := by kernel_rfl
section
variable {w : World} {m n : Nat} {D : DataW Value} {S S1 S2 : List Lk} {k : K3} {x : Lk}
theorem look_out (hm : w.ownsMap Try.prog 84 Rid m n D) (hD : MW D S) (wk : WK k) (hk : hasK (S.map Lk.en) k = false) :
    (Instr.lookup 108 (.map (some m)) (.agg #[.int .i64 k.a, .int .i64 k.b, .int .i64 k.c]) true).run Try.prog w = .ok (.tuple #[.pointer none, .bool false]) w := by
  obtain ⟨v, ps, hr, hv⟩ := hm.look_ok keyed3 Try.underlying108 (zeroP w) (zd := .held (.pointer none)) (zp := []) rfl (keyOf3 wk)
  have hh : has D (klk k) = false := by rw [hD.h k wk, hk]
  rw [atKey_of_not_has hh] at hv
  have : v = .pointer none := by
    simp only [Rid, Option.some.injEq, Prod.mk.injEq, DataW.held.injEq] at hv
    exact hv.1
  rw [hr, hh, this]
theorem look_in (hm : w.ownsMap Try.prog 84 Rid m n D) (hD : MW D S) (hx : x ∈ S) (wk : WK x.k) :
    (Instr.lookup 108 (.map (some m)) (.agg #[.int .i64 x.k.a, .int .i64 x.k.b, .int .i64 x.k.c]) true).run Try.prog w = .ok (.tuple #[.pointer (some ⟨x.g, 0, none⟩), .bool true]) w := by
  obtain ⟨v, ps, hr, hv⟩ := hm.look_ok keyed3 Try.underlying108 (zeroP w) (zd := .held (.pointer none)) (zp := []) rfl (keyOf3 wk)
  have hh : has D (klk x.k) = true := by
    rw [hD.h _ wk]
    exact hasK_iff.2 (by rw [keysK_map]; exact List.mem_map_of_mem hx)
  rw [hD.a x hx] at hv
  have : v = .pointer (some ⟨x.g, 0, none⟩) := by
    simp only [Rid, Option.some.injEq, Prod.mk.injEq, DataW.held.injEq] at hv
    exact hv.1
  rw [hr, hh, this]
end
/-- a key that is there has a link, and the others stand around it -/
theorem hasK_split {S : List Lk} {k : K3} (h : hasK (S.map Lk.en) k = true) : ∃ S1 x S2, S = S1 ++ x :: S2 ∧ x.k = k := by
  have := hasK_iff.1 h
  rw [keysK_map] at this
  obtain ⟨x, hx, rfl⟩ := List.mem_map.1 this
  obtain ⟨S1, S2, rfl⟩ := List.append_of_mem hx
  exact ⟨S1, x, S2, rfl, rfl⟩
theorem del_split {S1 S2 : List Lk} {x : Lk} (hn : (keysK ((S1 ++ x :: S2).map Lk.en)).Nodup) : delK ((S1 ++ x :: S2).map Lk.en) x.k = (S1 ++ S2).map Lk.en := by
  rw [keysK_map, List.map_append, List.map_cons] at hn
  have hn0 := List.nodup_append.1 hn
  have hn1 : x.k ∉ S1.map Lk.k := fun hm => hn0.2.2 _ hm x.k (by simp) rfl
  have hn2 : x.k ∉ S2.map Lk.k := (List.nodup_cons.1 hn0.2.1).1
  have no : ∀ T : List Lk, x.k ∉ T.map Lk.k → hasK (T.map Lk.en) x.k = false := fun T hT => by
    cases e : hasK (T.map Lk.en) x.k
    · rfl
    · exact absurd (by have := hasK_iff.1 e; rwa [keysK_map] at this) hT
  have h1 := delK_of_not (no S1 hn1)
  have h2 := delK_of_not (no S2 hn2)
  unfold delK at h1 h2 ⊢
  rw [List.map_append, List.map_append, List.map_cons, List.filter_append, List.filter_cons, h1, h2]
  simp [Lk.en]
theorem look_split {S1 S2 : List Lk} {x : Lk} (hn : (keysK ((S1 ++ x :: S2).map Lk.en)).Nodup) : lookK ((S1 ++ x :: S2).map Lk.en) x.k = some x.d := lookK_of hn (by simp [Lk.en])
section
variable {w : World} {o r m : Nat} {S S1 S2 : List Lk} {k : K3} {x : Lk}
set_option maxRecDepth 100000 in
set_option maxHeartbeats 4000000 in
theorem has_c (k : K3) (h : Ord w o r m S) (wk : WK k) :
    Calls Try.prog 47 #[.pointer (some ⟨o, 0, none⟩), .agg #[.int .i64 k.a, .int .i64 k.b, .int .i64 k.c]] w fun e w' => e = .returned (.bool (hasK (S.map Lk.en) k)) ∧ Below w.heap.size w w' := by
  have HB : Hid (Below w.heap.size w (w.alloc (.cells #[.int .i64 k.a, .int .i64 k.b, .int .i64 k.c] 84))) := Lib.hid ((Below.refl _ _).alloc (Nat.le_refl _) _)
  have HO := Lib.hid (h.keep HB.out)
  have HN := Lib.hid (Blk.new w 84 #[.int .i64 k.a, .int .i64 k.b, .int .i64 k.c])
  obtain ⟨v, b, hb, HL⟩ : ∃ v b, hasK (S.map Lk.en) k = b ∧ Hid (∀ u, Kp (w.alloc (.cells #[.int .i64 k.a, .int .i64 k.b, .int .i64 k.c] 84)) u → (Instr.lookup 108 (.map (some m)) (.agg #[.int .i64 k.a, .int .i64 k.b, .int .i64 k.c]) true).run Try.prog u = .ok (.tuple #[v, .bool b]) u) := by
    cases hk : hasK (S.map Lk.en) k
    · refine ⟨.pointer none, false, rfl, Lib.hid fun u hu => ?_⟩
      obtain ⟨D, hm, hD⟩ := (HO.out.keep hu).mp
      exact look_out hm hD wk hk
    · obtain ⟨S1, x, S2, rfl, rfl⟩ := hasK_split hk
      refine ⟨.pointer (some ⟨x.g, 0, none⟩), true, rfl, Lib.hid fun u hu => ?_⟩
      obtain ⟨D, hm, hD⟩ := (HO.out.keep hu).mp
      exact look_in hm hD (by simp) wk
  rw [hb]
  clear hb h
  have HLE : Hid (w.heap.size ≤ (w.alloc (.cells #[.int .i64 k.a, .int .i64 k.b, .int .i64 k.c] 84)).heap.size) := Lib.hid HB.out.size
  go_enter Try.func47, Try.ntmps47
  go_upto_region 1 with fail
  generalize w.alloc (.cells #[.int .i64 k.a, .int .i64 k.b, .int .i64 k.c] 84) = W at *
  generalize hgx : w.heap.size = gx at *
  refine wp_region_kp (by kernel_rfl) (by kernel_rfl) ?_
  repeat (first
    | go_big_quiet_skip
    | (go_big_quiet_want
       first
         | (go_big_quiet_op
            first
              | go_big_quiet_on
              | (apply Exists.intro
                 refine ⟨fun w1 hC => ?_, ?_⟩
                 · first
                     | (have c1 := (HO.out.keep hC).blk.cell 0; have k0 := (HN.out.keep hC).cell 0; have k1 := (HN.out.keep hC).cell 1; have k2 := (HN.out.keep hC).cell 2; have hl := HL.out w1 hC; go_simp; exact ⟨rfl, rfl⟩)
                     | (have c1 := (HO.out.keep hC).blk.cell 0; have k0 := (HN.out.keep hC).cell 0; have k1 := (HN.out.keep hC).cell 1; have k2 := (HN.out.keep hC).cell 2; have hl := HL.out w1 hC; go_simp; exact rfl)
                     | (have hl := HL.out w1 hC; go_simp; exact ⟨rfl, rfl⟩)
                     | (have hl := HL.out w1 hC; go_simp)
                     | exact rfl
                     | (go_simp; exact ⟨rfl, rfl⟩)
                 go_big_quiet_on))))
  refine wpQuiet_nil ?_
  intro W1 hC1
  have HB2 := Lib.hid (HB.out.trans (Below.mono hC1 HLE.out))
  clear hC1
  go_wp2_with fail
  go_ret
  exact ⟨rfl, by first | exact HB2.out | (rw [hgx]; exact HB2.out)⟩
set_option maxRecDepth 100000 in
theorem len_c (h : Ord w o r m S) :
    Calls Try.prog 48 #[.pointer (some ⟨o, 0, none⟩)] w fun e w' => e = .returned (.int .i64 S.length) ∧ w' = w := by
  obtain ⟨D, hm, hD⟩ := h.mp
  have c0 := h.blk.cell 0
  simp only [List.getElem?_toArray, List.getElem?_cons_zero] at c0
  have hl := hm.len Try.underlying108 3
  rw [hD.n] at hl
  clear h hD hm
  go_enter Try.func48, Try.ntmps48
  go_wp2_with fail
  go_ret
  exact ⟨rfl, rfl⟩
set_option maxRecDepth 100000 in
set_option maxHeartbeats 4000000 in
theorem newOrder_c (w : World) :
    Calls Try.prog 35 #[] w fun e w' => ∃ o r m, e = .returned (.pointer (some ⟨o, 0, none⟩)) ∧ Ord w' o r m [] ∧ Below w.heap.size w w' ∧ w.heap.size ≤ o ∧ w.heap.size ≤ r ∧ w.heap.size ≤ m := by
  have hmm := @run_makeMap Try.prog
  go_enter Try.func35, Try.ntmps35
  go_wp2_with fail
  go_ret
  refine ⟨w.heap.size + 1 + 1, w.heap.size, w.heap.size + 1, rfl, ⟨Blk.here (by simp), ⟨fun _ => w.heap.size, fun _ => w.heap.size, ?_, ⟨rfl, rfl, trivial⟩⟩, by simp, List.nodup_nil, (fun x hx => by cases hx), .map [], ?_, MW.nil⟩, ?_, by omega, Nat.le_refl _, by omega⟩
  · intro x hx
    simp only [List.mem_singleton] at hx
    subst hx
    exact ((Blk.here rfl).alloc _).alloc _
  · have := World.ownsMap_made (w.alloc (.cells #[.int .i64 0, .int .i64 0, .int .i64 0, .int .u32 0, .int .u32 0, .int .u32 0, .bool false, .int .i64 0, .pointer (some ⟨w.heap.size, 0, none⟩), .pointer (some ⟨w.heap.size, 0, none⟩)] 107)) Try.prog 84 Rid
    rw [World.size_alloc] at this
    exact map_heap this (by rw [Below.heap_alloc _ _ _ (by simp)])
  · exact (((Below.refl _ _).alloc (Nat.le_refl _) _).alloc (by simp) _).alloc (by simp; omega) _
end
/-! removing -/
theorem owns_size {w : World} {m n : Nat} {D : DataW Value} (h : w.ownsMap Try.prog 84 Rid m n D) : w.ownsMap Try.prog 84 Rid m (Maps.size D) D := by
  obtain ⟨es, clock, hb, F, hs, rfl⟩ := h
  exact ⟨es, clock, hb, F, by simp [Maps.size, length_sorted], rfl⟩
section
variable {w w' w1 w2 w3 : World} {o r m : Nat} {S S1 S2 : List Lk} {k : K3} {x : Lk} {F : Nat → Prop}
theorem RingW.apart (h : RingW w r S) (hb : Apart F w w') (hF : ∀ k, Rg r S k → ¬ F k) : RingW w' r S := by
  obtain ⟨N, V, hL, hc⟩ := h
  refine ⟨N, V, hL.apart hb fun x hx => hF _ ?_, hc⟩
  rcases List.mem_cons.1 hx with rfl | hx
  · exact .inl rfl
  · exact .inr ⟨x, hx, rfl⟩
theorem RingW.keep (h : RingW w r S) (hb : Below w.heap.size w w') : RingW w' r S := h.apart (F := fun _ => False) (Apart.of hb) (fun _ _ h => h)
/-- the ring's blocks are neither the order's nor the map's -/
theorem Ord.ne (h : Ord w o r m S) : o ≠ m ∧ ∀ k, Rg r S k → k ≠ o ∧ k ≠ m := by
  obtain ⟨N, V, hL, _⟩ := h.ring
  obtain ⟨D, hm, _⟩ := h.mp
  refine ⟨h.blk.ne_map hm, ?_⟩
  rintro k (rfl | ⟨x, hx, rfl⟩)
  · have := hL (hd k) (by simp)
    exact ⟨this.ne h.blk (by decide), this.ne_map hm⟩
  · have := hL x (by simp [hx])
    exact ⟨this.ne h.blk (by decide), this.ne_map hm⟩
theorem Rg.of {k : Nat} (h : Rg r S k) : Of o r m S k := .inr (h.imp id .inr)
theorem ord_remove {n : Nat} {D : DataW Value} (h : Ord w o r m (S1 ++ x :: S2)) (h1 : Below w.heap.size w w1) (hr : RingW w2 r (S1 ++ S2)) (h2 : Apart (Rg r (S1 ++ x :: S2)) w1 w2) (hD : MW D (S1 ++ x :: S2))
    (hm : w3.ownsMap Try.prog 84 Rid m n (D.del (klk x.k))) (h3 : Apart (fun k => k = m) w2 w3) : Ord w3 o r m (S1 ++ S2) ∧ Apart (Of o r m (S1 ++ x :: S2)) w w3 := by
  obtain ⟨n1, n2⟩ := h.ne
  have hl := h.lt
  have hRg : ∀ k, Rg r (S1 ++ S2) k → Rg r (S1 ++ x :: S2) k := by
    rintro k (rfl | ⟨y, hy, rfl⟩)
    · exact .inl rfl
    · refine .inr ⟨y, ?_, rfl⟩
      rcases List.mem_append.1 hy with hy | hy <;> simp [hy]
  have hsub : (S1 ++ S2).Sublist (S1 ++ x :: S2) := (List.Sublist.refl S1).append (List.sublist_cons_self x S2)
  have hD2 := hD.del h.kd h.wk
  refine ⟨⟨?_, hr.apart h3 (fun k hk e => (n2 k (hRg k hk)).2 e), ?_, ?_, fun y hy => h.wk y (hsub.subset hy), _, ?_, hD2⟩, ?_⟩
  · exact h3.blk (h2.blk (h.blk.keep h1) (fun e => (n2 _ e).1 rfl)) n1
  · exact h.nd.sublist ((hsub.map Lk.g).cons_cons r)
  · unfold keysK; exact List.Nodup.sublist ((hsub.map Lk.en).map _) h.kd
  · have := owns_size hm
    rwa [hD2.n] at this
  · exact (((Apart.of h1).trans h2 (fun k hk => .inl (Rg.of hk))).trans h3 (fun k hk => .inl (by subst hk; exact .inr (.inr (.inl rfl)))))
set_option maxRecDepth 100000 in
set_option maxHeartbeats 4000000 in
theorem remove_in (h : Ord w o r m (S1 ++ x :: S2)) :
    Calls Try.prog 76 #[.pointer (some ⟨o, 0, none⟩), .agg #[.int .i64 x.k.a, .int .i64 x.k.b, .int .i64 x.k.c]] w fun e w' => e = .returned (.tuple #[]) ∧ Ord w' o r m (S1 ++ S2) ∧ Apart (Of o r m (S1 ++ x :: S2)) w w' := by
  have wk : WK x.k := h.wk x (by simp)
  have HB : Hid (Below w.heap.size w (w.alloc (.cells #[.int .i64 x.k.a, .int .i64 x.k.b, .int .i64 x.k.c] 84))) := Lib.hid ((Below.refl _ _).alloc (Nat.le_refl _) _)
  have HO := Lib.hid (h.keep HB.out)
  have HN := Lib.hid (Blk.new w 84 #[.int .i64 x.k.a, .int .i64 x.k.b, .int .i64 x.k.c])
  have HL : Hid (∀ u, Kp (w.alloc (.cells #[.int .i64 x.k.a, .int .i64 x.k.b, .int .i64 x.k.c] 84)) u → (Instr.lookup 108 (.map (some m)) (.agg #[.int .i64 x.k.a, .int .i64 x.k.b, .int .i64 x.k.c]) true).run Try.prog u = .ok (.tuple #[.pointer (some ⟨x.g, 0, none⟩), .bool true]) u) := Lib.hid (fun u hu => by
    obtain ⟨D, hm, hD⟩ := (HO.out.keep hu).mp
    exact look_in hm hD (by simp) wk)
  have HLT : Hid (∀ k, Of o r m (S1 ++ x :: S2) k → k < w.heap.size) := Lib.hid h.lt
  have HH := Lib.hid h
  have HLE : Hid (w.heap.size ≤ (w.alloc (.cells #[.int .i64 x.k.a, .int .i64 x.k.b, .int .i64 x.k.c] 84)).heap.size) := Lib.hid HB.out.size
  clear h wk
  go_enter Try.func76, Try.ntmps76
  go_upto_region 1 with fail
  generalize w.alloc (.cells #[.int .i64 x.k.a, .int .i64 x.k.b, .int .i64 x.k.c] 84) = W at *
  generalize hgx : w.heap.size = gx at *
  refine wp_region_kp (by kernel_rfl) (by kernel_rfl) ?_
  repeat (first
    | go_big_quiet_skip
    | (go_big_quiet_want
       first
         | (go_big_quiet_op
            first
              | go_big_quiet_on
              | (apply Exists.intro
                 refine ⟨fun w1 hC => ?_, ?_⟩
                 · first
                     | (have c1 := (HO.out.keep hC).blk.cell 0; have k0 := (HN.out.keep hC).cell 0; have k1 := (HN.out.keep hC).cell 1; have k2 := (HN.out.keep hC).cell 2; have hl := HL.out w1 hC; go_simp; exact ⟨rfl, rfl⟩)
                     | (have c1 := (HO.out.keep hC).blk.cell 0; have k0 := (HN.out.keep hC).cell 0; have k1 := (HN.out.keep hC).cell 1; have k2 := (HN.out.keep hC).cell 2; have hl := HL.out w1 hC; go_simp; exact rfl)
                     | (have hl := HL.out w1 hC; go_simp; exact ⟨rfl, rfl⟩)
                     | (have hl := HL.out w1 hC; go_simp)
                     | exact rfl
                     | (go_simp; exact ⟨rfl, rfl⟩)
                 go_big_quiet_on))))
  refine wpQuiet_nil ?_
  intro W1 hC1
  have HB1 : Hid (Below w.heap.size w W1) := Lib.hid (by rw [hgx]; exact HB.out.trans (Below.mono hC1 HLE.out))
  have HO1 := Lib.hid (HO.out.keep hC1)
  have HN1 := Lib.hid (HN.out.keep hC1)
  have HRL := Lib.hid (ring_leave x S1 S2 HO1.out.ring HO1.out.nd)
  clear hC1 HL HO HN
  go_upto_region 4 with (go_at_call 78; refine HRL.out.mono ?_; rintro e w2 ⟨rfl, hr2, hx2, ha2⟩; have HR2 := Lib.hid hr2; have HA2 := Lib.hid ha2; clear hr2 hx2 ha2)
  have hNB : ¬ Rg r (S1 ++ x :: S2) gx := fun e => by have := HLT.out gx (Rg.of e); omega
  have HN2 := Lib.hid (HA2.out.blk HN1.out hNB)
  have HK2 := Lib.hid (HA2.out.blk HO1.out.blk (fun e => (HO1.out.ne.2 _ e).1 rfl))
  obtain ⟨D, hm1, hD⟩ := HO1.out.mp
  have HM2 := Lib.hid (HA2.out.map hm1 (fun e => (HO1.out.ne.2 _ e).2 rfl))
  clear hm1 hNB
  refine wp_region_kt 5 (by kernel_rfl) (by kernel_rfl) ?_
  simp only [List.take_succ_cons, List.take_zero, List.drop_succ_cons, List.drop_zero]
  repeat (first
    | go_big_quiet_skip
    | (go_big_quiet_want
       first
         | (go_big_quiet_op
            first
              | go_big_quiet_on
              | (apply Exists.intro
                 refine ⟨fun w1 hC => ?_, ?_⟩
                 · first
                     | (have c1 := (HK2.out.keep hC).cell 0; have k0 := (HN2.out.keep hC).cell 0; have k1 := (HN2.out.keep hC).cell 1; have k2 := (HN2.out.keep hC).cell 2; go_simp; exact ⟨rfl, rfl⟩)
                     | (have c1 := (HK2.out.keep hC).cell 0; have k0 := (HN2.out.keep hC).cell 0; have k1 := (HN2.out.keep hC).cell 1; have k2 := (HN2.out.keep hC).cell 2; go_simp; exact rfl)
                     | exact rfl
                     | (go_simp; exact ⟨rfl, rfl⟩)
                 go_big_quiet_on))))
  refine wpQuiet_nil ?_
  intro W3 hC3
  have hm3 := Apart.map (F := fun _ => False) (Apart.of hC3) HM2.out (fun h => h)
  refine wpList_delete_own _ rfl _ _ 108 84 rfl 105 keyed3 Try.underlying108 Rid m _ D rfl hm3 _ (klk x.k) rfl (keyOf3 (HO1.out.wk x (by simp))) ?_
  intro w4 hm4 ht4
  have ha4 : Apart (fun k => k = m) w2 w4 := (Apart.of hC3).grown ht4.grown (fun k e => .inl (by simpa using e.symm))
  have HF := Lib.hid (ord_remove HH.out HB1.out HR2.out HA2.out hD hm4 ha4)
  clear hm3 hC3 hm4 ht4 ha4
  go_wp2_with fail
  exact bodyPost_end (v := .tuple #[]) (by simp [results, Try.results76, go_sem]) rfl ⟨rfl, HF.out⟩
end
end Go.Proofs.Ytbcbhgclgakljaa
