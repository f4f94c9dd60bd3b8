/- Orders: remove, put, removeLast. -/
import Derived.Test.YtbcbhgclgakljaaKcd
namespace Go.Proofs.Ytbcbhgclgakljaa
open Go.RowKit Go.Maps Go.WideElems Go.WideShapes
section
variable {w w' w1 w2 w3 w4 w5 : World} {o r m : Nat} {S S1 S2 T : List Lk} {k : K3} {d : Dc} {x : Lk} {F : Nat → Prop}
set_option maxRecDepth 100000 in
set_option maxHeartbeats 4000000 in
theorem remove_out (k : K3) (h : Ord w o r m S) (wk : WK k) (hk : hasK (S.map Lk.en) k = false) :
    Calls Try.prog 76 #[.pointer (some ⟨o, 0, none⟩), .agg #[.int .i64 k.a, .int .i64 k.b, .int .i64 k.c]] w fun e w' => e = .returned (.tuple #[]) ∧ Below w.heap.size w w' := by
  have HB : Hid (Below w.heap.size w (w.alloc (.cells #[.int .i64 k.a, .int .i64 k.b, .int .i64 k.c] 84))) := Lib.hid ((Below.refl _ _).alloc (Nat.le_refl _) _)
  have HO := Lib.hid (h.keep HB.out)
  have HN := Lib.hid (Blk.new w 84 #[.int .i64 k.a, .int .i64 k.b, .int .i64 k.c])
  have HL : Hid (∀ u, Kp (w.alloc (.cells #[.int .i64 k.a, .int .i64 k.b, .int .i64 k.c] 84)) u → (Instr.lookup 108 (.map (some m)) (.agg #[.int .i64 k.a, .int .i64 k.b, .int .i64 k.c]) true).run Try.prog u = .ok (.tuple #[.pointer none, .bool false]) u) := Lib.hid (fun u hu => by
    obtain ⟨D, hm, hD⟩ := (HO.out.keep hu).mp
    exact look_out hm hD wk hk)
  have HLE : Hid (w.heap.size ≤ (w.alloc (.cells #[.int .i64 k.a, .int .i64 k.b, .int .i64 k.c] 84)).heap.size) := Lib.hid HB.out.size
  clear h wk hk
  go_enter Try.func76, Try.ntmps76
  go_upto_region 1 with fail
  generalize w.alloc (.cells #[.int .i64 k.a, .int .i64 k.b, .int .i64 k.c] 84) = W at *
  generalize hgx : w.heap.size = gx at *
  refine wp_region_kp (by kernel_rfl) (by kernel_rfl) ?_
  repeat (first
    | go_big_quiet_skip
    | (go_big_quiet_want
       first
         | (go_big_quiet_op
            first
              | go_big_quiet_on
              | (apply Exists.intro
                 refine ⟨fun w1 hC => ?_, ?_⟩
                 · first
                     | (have c1 := (HO.out.keep hC).blk.cell 0; have k0 := (HN.out.keep hC).cell 0; have k1 := (HN.out.keep hC).cell 1; have k2 := (HN.out.keep hC).cell 2; have hl := HL.out w1 hC; go_simp; exact ⟨rfl, rfl⟩)
                     | (have c1 := (HO.out.keep hC).blk.cell 0; have k0 := (HN.out.keep hC).cell 0; have k1 := (HN.out.keep hC).cell 1; have k2 := (HN.out.keep hC).cell 2; have hl := HL.out w1 hC; go_simp; exact rfl)
                     | (have hl := HL.out w1 hC; go_simp; exact ⟨rfl, rfl⟩)
                     | (have hl := HL.out w1 hC; go_simp)
                     | exact rfl
                     | (go_simp; exact ⟨rfl, rfl⟩)
                 go_big_quiet_on))))
  refine wpQuiet_nil ?_
  intro W1 hC1
  have HB1 : Hid (Below gx w W1) := Lib.hid (HB.out.trans (Below.mono hC1 HLE.out))
  clear hC1 HL HO HN
  go_wp2_with fail
  exact bodyPost_end (v := .tuple #[]) (by simp [results, Try.results76, go_sem]) rfl ⟨rfl, by first | exact HB1.out | (rw [hgx]; exact HB1.out)⟩
/-- remove, whether the key is there or not -/
theorem remove_c (k : K3) (h : Ord w o r m S) (wk : WK k) :
    Calls Try.prog 76 #[.pointer (some ⟨o, 0, none⟩), .agg #[.int .i64 k.a, .int .i64 k.b, .int .i64 k.c]] w fun e w' => e = .returned (.tuple #[]) ∧ ∃ T, Ord w' o r m T ∧ T.map Lk.en = delK (S.map Lk.en) k ∧ (∀ x ∈ T, x ∈ S) ∧ Apart (Of o r m S) w w' := by
  cases hk : hasK (S.map Lk.en) k
  · refine (remove_out k h wk hk).mono ?_
    rintro e w' ⟨rfl, hb⟩
    exact ⟨rfl, S, h.keep hb, (delK_of_not hk).symm, fun _ hx => hx, Apart.of hb⟩
  · obtain ⟨S1, x, S2, rfl, rfl⟩ := hasK_split hk
    refine (remove_in h).mono ?_
    rintro e w' ⟨rfl, ho, ha⟩
    refine ⟨rfl, S1 ++ S2, ho, (del_split h.kd).symm, fun y hy => ?_, ha⟩
    rcases List.mem_append.1 hy with hy | hy <;> simp [hy]
theorem ord_put {D : DataW Value} {n : Nat} (h : Ord w2 o r m T) (hD : MW D T) (hk : hasK (T.map Lk.en) x.k = false) (wx : WK x.k) (hx : w2.heap.size ≤ x.g) (h3 : Below w2.heap.size w2 w3) (h4 : Apart (fun k => k = m) w3 w4)
    (hm : w4.ownsMap Try.prog 84 Rid m n (D.put (klk x.k) (.held (.pointer (some ⟨x.g, 0, none⟩))))) (hr : RingW w5 r (x :: T)) (h5 : Apart (Rg r (x :: T)) w4 w5) : Ord w5 o r m (x :: T) := by
  obtain ⟨n1, n2⟩ := h.ne
  have hl := h.lt
  have hno : ∀ k, Rg r (x :: T) k → k ≠ o ∧ k ≠ m := by
    rintro k (rfl | ⟨y, hy, rfl⟩)
    · exact n2 _ (.inl rfl)
    · rcases List.mem_cons.1 hy with rfl | hy
      · have h1 := hl o (.inl rfl)
        have h2 := hl m (.inr (.inr (.inl rfl)))
        exact ⟨by omega, by omega⟩
      · exact n2 _ (.inr ⟨y, hy, rfl⟩)
  have hD2 := hD.put hk wx h.wk
  refine ⟨?_, hr, ?_, ?_, ?_, _, ?_, hD2⟩
  · exact h5.blk (h4.blk (h.blk.keep h3) n1) (fun e => (hno _ e).1 rfl)
  · have hnd := h.nd
    rw [List.nodup_cons] at hnd
    rw [List.map_cons, List.nodup_cons, List.nodup_cons]
    refine ⟨?_, ?_, hnd.2⟩
    · intro e
      rcases List.mem_cons.1 e with e | e
      · have := hl r (.inr (.inl rfl)); omega
      · exact hnd.1 e
    · intro e
      obtain ⟨y, hy, e⟩ := List.mem_map.1 e
      have := hl y.g (.inr (.inr (.inr ⟨y, hy, rfl⟩)))
      omega
  · show (keysK ((x :: T).map Lk.en)).Nodup
    rw [keysK_map, List.map_cons, List.nodup_cons]
    refine ⟨fun e => ?_, by have := h.kd; rwa [keysK_map] at this⟩
    have := hasK_iff.2 (show x.k ∈ keysK (T.map Lk.en) by rw [keysK_map]; exact e)
    rw [hk] at this
    cases this
  · intro y hy
    rcases List.mem_cons.1 hy with rfl | hy
    · exact wx
    · exact h.wk y hy
  · have := h5.map (owns_size hm) (fun e => (hno _ e).2 rfl)
    rwa [hD2.n] at this
set_option maxRecDepth 100000 in
set_option maxHeartbeats 8000000 in
theorem put_c (k : K3) (d : Dc) (h : Ord w o r m S) (wk : WK k) (hS : S.length ≤ 100000) :
    Calls Try.prog 50 #[.pointer (some ⟨o, 0, none⟩), .agg #[.int .i64 k.a, .int .i64 k.b, .int .i64 k.c], .agg #[.int .u32 d.al, .int .u32 d.aa, .int .u32 d.ad, .bool d.pm, .int .i64 d.sq]] w fun e w' => e = .returned (.tuple #[]) ∧ ∃ T, Ord w' o r m T ∧ T.map Lk.en = (k, d) :: delK (S.map Lk.en) k ∧ (∀ j, Of o r m T j → Of o r m S j ∨ w.heap.size ≤ j) ∧ Apart (Of o r m S) w w' := by
  have HB : Hid (Below w.heap.size w ((w.alloc (.cells #[.int .i64 k.a, .int .i64 k.b, .int .i64 k.c] 84)).alloc (.cells #[.int .u32 d.al, .int .u32 d.aa, .int .u32 d.ad, .bool d.pm, .int .i64 d.sq] 39))) := Lib.hid (((Below.refl _ _).alloc (Nat.le_refl _) _).alloc (by simp) _)
  have HO := Lib.hid (h.keep HB.out)
  have HN : Hid (Blk ((w.alloc (.cells #[.int .i64 k.a, .int .i64 k.b, .int .i64 k.c] 84)).alloc (.cells #[.int .u32 d.al, .int .u32 d.aa, .int .u32 d.ad, .bool d.pm, .int .i64 d.sq] 39)) w.heap.size 84 #[.int .i64 k.a, .int .i64 k.b, .int .i64 k.c]) := Lib.hid ((Blk.here rfl).alloc _)
  have HV : Hid (Blk ((w.alloc (.cells #[.int .i64 k.a, .int .i64 k.b, .int .i64 k.c] 84)).alloc (.cells #[.int .u32 d.al, .int .u32 d.aa, .int .u32 d.ad, .bool d.pm, .int .i64 d.sq] 39)) (w.heap.size + 1) 39 #[.int .u32 d.al, .int .u32 d.aa, .int .u32 d.ad, .bool d.pm, .int .i64 d.sq]) := Lib.hid (Blk.here (by simp))
  have HLT : Hid (∀ k, Of o r m S k → k < w.heap.size) := Lib.hid h.lt
  have HR := Lib.hid (remove_c k HO.out wk)
  have HWK := Lib.hid wk
  have HLE : Hid (w.heap.size ≤ ((w.alloc (.cells #[.int .i64 k.a, .int .i64 k.b, .int .i64 k.c] 84)).alloc (.cells #[.int .u32 d.al, .int .u32 d.aa, .int .u32 d.ad, .bool d.pm, .int .i64 d.sq] 39)).heap.size) := Lib.hid HB.out.size
  clear h wk
  go_enter Try.func50, Try.ntmps50
  go_upto_region 1 with fail
  generalize (w.alloc (.cells #[.int .i64 k.a, .int .i64 k.b, .int .i64 k.c] 84)).alloc (.cells #[.int .u32 d.al, .int .u32 d.aa, .int .u32 d.ad, .bool d.pm, .int .i64 d.sq] 39) = W at *
  have hg1 : w.heap.size + 1 < W.heap.size := HV.out.lt
  have k0 := HN.out.cell 0
  have k1 := HN.out.cell 1
  have k2 := HN.out.cell 2
  simp only [List.getElem?_toArray, List.getElem?_cons_succ, List.getElem?_cons_zero] at k0 k1 k2
  generalize hgy : w.heap.size + 1 = gy at *
  generalize hgx : w.heap.size = gx at *
  go_upto_region 2 with (go_at_call 76; refine HR.out.mono ?_; rintro e w2 ⟨rfl, T, hT, hTe, hTS, ha2⟩; have HT := Lib.hid hT; have HA2 := Lib.hid ha2; have HTE := Lib.hid hTe; have HTS := Lib.hid hTS; clear hT ha2 hTe hTS)
  clear k0 k1 k2
  have HN2 := Lib.hid (HA2.out.blk HN.out (fun e => by have := HLT.out _ e; omega))
  have HV2 := Lib.hid (HA2.out.blk HV.out (fun e => by have := HLT.out _ e; omega))
  have k0 := HN2.out.cell 0
  have k1 := HN2.out.cell 1
  have k2 := HN2.out.cell 2
  have v0 := HV2.out.cell 0
  have v1 := HV2.out.cell 1
  have v2 := HV2.out.cell 2
  have v3 := HV2.out.cell 3
  have v4 := HV2.out.cell 4
  simp only [List.getElem?_toArray, List.getElem?_cons_succ, List.getElem?_cons_zero] at k0 k1 k2 v0 v1 v2 v3 v4
  go_upto_region 3 with fail
  clear k0 k1 k2 v0 v1 v2 v3 v4
  have HX3 : Hid (Blk (w2.alloc (.cells #[.int .i64 k.a, .int .i64 k.b, .int .i64 k.c, .int .u32 d.al, .int .u32 d.aa, .int .u32 d.ad, .bool d.pm, .int .i64 d.sq, .pointer none, .pointer none] 107)) w2.heap.size 107 #[.int .i64 k.a, .int .i64 k.b, .int .i64 k.c, .int .u32 d.al, .int .u32 d.aa, .int .u32 d.ad, .bool d.pm, .int .i64 d.sq, .pointer none, .pointer none]) := Lib.hid (Blk.new _ _ _)
  have HB3 : Hid (Below w2.heap.size w2 (w2.alloc (.cells #[.int .i64 k.a, .int .i64 k.b, .int .i64 k.c, .int .u32 d.al, .int .u32 d.aa, .int .u32 d.ad, .bool d.pm, .int .i64 d.sq, .pointer none, .pointer none] 107))) := Lib.hid ((Below.refl _ _).alloc (Nat.le_refl _) _)
  generalize w2.alloc (.cells #[.int .i64 k.a, .int .i64 k.b, .int .i64 k.c, .int .u32 d.al, .int .u32 d.aa, .int .u32 d.ad, .bool d.pm, .int .i64 d.sq, .pointer none, .pointer none] 107) = W3 at *
  have HO3 := Lib.hid (HT.out.keep HB3.out)
  have HN3 := Lib.hid (HN2.out.keep HB3.out)
  have hT2 : Hid (∀ k, Of o r m T k → k < w2.heap.size) := Lib.hid HT.out.lt
  generalize hgz : w2.heap.size = gz at *
  refine wp_region_kt 6 (by kernel_rfl) (by kernel_rfl) ?_
  simp only [List.take_succ_cons, List.take_zero, List.drop_succ_cons, List.drop_zero]
  repeat (first
    | go_big_quiet_skip
    | (go_big_quiet_want
       first
         | (go_big_quiet_op
            first
              | go_big_quiet_on
              | (apply Exists.intro
                 refine ⟨fun w1 hC => ?_, ?_⟩
                 · first
                     | (have c1 := (HO3.out.keep hC).blk.cell 0; have k0 := (HN3.out.keep hC).cell 0; have k1 := (HN3.out.keep hC).cell 1; have k2 := (HN3.out.keep hC).cell 2; go_simp; exact ⟨rfl, rfl⟩)
                     | (have c1 := (HO3.out.keep hC).blk.cell 0; have k0 := (HN3.out.keep hC).cell 0; have k1 := (HN3.out.keep hC).cell 1; have k2 := (HN3.out.keep hC).cell 2; go_simp; exact rfl)
                     | exact rfl
                     | (go_simp; exact ⟨rfl, rfl⟩)
                 go_big_quiet_on))))
  refine wpQuiet_nil ?_
  intro W4 hC4
  obtain ⟨D, hm4, hD⟩ := (HO3.out.keep hC4).mp
  have hTl : T.length ≤ 100000 := by
    have e1 : T.length = (delK (S.map Lk.en) k).length := by rw [← HTE.out, List.length_map]
    have e2 := length_del_le (L := S.map Lk.en) (k := k)
    rw [List.length_map] at e2
    omega
  refine wpList_mapUpdate_in _ rfl _ _ _ 108 rfl 84 105 keyed3 Try.underlying108 Rid m T.length D rfl hm4 (by unfold maxLen; omega) _ _ (klk k) rfl rfl (keyOf3 HWK.out) _ _ rfl ?_
  intro w5 hm5 ht5
  have ha5 : Apart (fun k => k = m) W4 w5 := (Apart.of (Below.refl _ _)).grown ht5.grown (fun k e => .inl (by simpa using e.symm))
  have HHK : Hid (hasK (T.map Lk.en) k = false) := Lib.hid (by rw [HTE.out]; exact hasK_del)
  have hlt3 : gz < W3.heap.size := HX3.out.lt
  have HX5 := Lib.hid (ha5.blk (HX3.out.keep hC4) (fun e => by have := hT2.out m (.inr (.inr (.inl rfl))); omega))
  have HO4 := Lib.hid (HO3.out.keep hC4)
  have HK5 := Lib.hid (ha5.blk HO4.out.blk HO4.out.ne.1)
  have HR5 := Lib.hid (RingW.apart HO4.out.ring ha5 (fun k hk e => (HO4.out.ne.2 k hk).2 e))
  have HF5 := Lib.hid (ring_follow ⟨gz, k, d⟩ _ _ HR5.out HX5.out (by
    intro e
    rcases List.mem_cons.1 e with e | e
    · have := hT2.out r (.inr (.inl rfl)); simp only at e; omega
    · obtain ⟨y, hy, e⟩ := List.mem_map.1 e
      have := hT2.out y.g (.inr (.inr (.inr ⟨y, hy, rfl⟩)))
      simp only at e; omega) HO4.out.nd)
  have HM5 := Lib.hid hm5
  have HA5 := Lib.hid ha5
  have HD := Lib.hid hD
  have HB4 : Hid (Below gz w2 W4) := Lib.hid (HB3.out.trans (Below.mono hC4 (by have := HB3.out.size; omega)))
  have c1 := HK5.out.cell 1
  simp only [List.getElem?_toArray, List.getElem?_cons_succ, List.getElem?_cons_zero] at c1
  clear hm4 hD hTl hC4 hm5 ht5 ha5
  go_wp2_with (go_at_call 77; refine HF5.out.mono ?_; rintro e w6 ⟨rfl, hr6, ha6⟩; have HR6 := Lib.hid hr6; have HA6 := Lib.hid ha6; clear hr6 ha6)
  have hO6 := ord_put (x := ⟨gz, k, d⟩) HT.out HD.out HHK.out HWK.out (by rw [hgz]; exact Nat.le_refl _) (by rw [hgz]; exact HB4.out) HA5.out HM5.out HR6.out HA6.out
  have hOf : ∀ j, Of o r m T j → Of o r m S j := by
    rintro j (h | h | h | ⟨y, hy, rfl⟩)
    · exact .inl h
    · exact .inr (.inl h)
    · exact .inr (.inr (.inl h))
    · exact .inr (.inr (.inr ⟨y, HTS.out y hy, rfl⟩))
  have hgzl : w.heap.size ≤ gz := by have := HA2.out.size; have := HLE.out; omega
  refine bodyPost_end (v := .tuple #[]) (by simp [results, Try.results50, go_sem]) rfl ⟨rfl, _, hO6, ?_, ?_, ?_⟩
  · rw [List.map_cons, HTE.out]; rfl
  · rintro j (h | h | h | ⟨y, hy, rfl⟩)
    · exact .inl (.inl h)
    · exact .inl (.inr (.inl h))
    · exact .inl (.inr (.inr (.inl h)))
    · rcases List.mem_cons.1 hy with rfl | hy
      · exact .inr hgzl
      · exact .inl (hOf _ (.inr (.inr (.inr ⟨y, hy, rfl⟩))))
  · have a1 : Apart (Of o r m S) w w2 := (Apart.of (by rw [hgx]; exact HB.out)).trans HA2.out (fun k hk => .inl hk)
    have a2 : Apart (Of o r m S) w W4 := a1.then (by rw [hgz]; exact HB4.out)
    have a3 := a2.trans HA5.out (fun k hk => .inl (by subst hk; exact .inr (.inr (.inl rfl))))
    refine a3.trans HA6.out ?_
    rintro j (rfl | ⟨y, hy, rfl⟩)
    · exact .inl (.inr (.inl rfl))
    · rcases List.mem_cons.1 hy with rfl | hy
      · exact .inr hgzl
      · exact .inl (hOf _ (.inr (.inr (.inr ⟨y, hy, rfl⟩))))
end
end Go.Proofs.Ytbcbhgclgakljaa
