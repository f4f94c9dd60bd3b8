/- Orders: removeLast, use. -/
import Derived.Test.YtbcbhgclgakljaaKce
namespace Go.Proofs.Ytbcbhgclgakljaa
open Go.RowKit Go.Maps Go.WideElems Go.WideShapes
section
variable {w w' w1 w2 w3 w4 w5 : World} {o r m : Nat} {S S1 S2 T : List Lk} {k : K3} {d : Dc} {x : Lk} {F : Nat → Prop} {D : DataW Value}
theorem MW.perm (h : MW D S) (hp : S.Perm T) : MW D T := by
  refine ⟨h.t, fun k hk => ?_, fun x hx => h.a x (hp.mem_iff.2 hx), by rw [h.n, hp.length_eq]⟩
  rw [h.h k hk]
  unfold hasK
  rw [Bool.eq_iff_iff]
  simp only [List.any_eq_true, (hp.map Lk.en).mem_iff]
theorem ord_perm {S T : List Lk} (h : Ord w o r m S) (hp : S.Perm T) (hb : Blk w' o 110 #[.map (some m), .pointer (some ⟨r, 0, none⟩)]) (hm : w'.ownsMap Try.prog 84 Rid m S.length D) (hD : MW D S) (hr : RingW w' r T) : Ord w' o r m T := by
  refine ⟨hb, hr, ?_, ?_, fun x hx => h.wk x (hp.mem_iff.2 hx), D, by rw [← hp.length_eq]; exact hm, hD.perm hp⟩
  · exact (((hp.map Lk.g).cons r).nodup_iff).1 h.nd
  · have hk := h.kd
    unfold keysK at hk ⊢
    exact (((hp.map Lk.en).map _).nodup_iff).1 hk
theorem Blk.set5 {g : Nat} {t : TypeId} {a0 a1 a2 a3 a4 : Value} (h : Blk w g t #[a0, a1, a2, a3, a4]) (b0 b1 b2 b3 b4 : Value) :
    Blk (((((w.setCell ⟨g, 0, none⟩ b0).setCell ⟨g, 1, none⟩ b1).setCell ⟨g, 2, none⟩ b2).setCell ⟨g, 3, none⟩ b3).setCell ⟨g, 4, none⟩ b4) g t #[b0, b1, b2, b3, b4] := by
  simpa using ((((h.set 0 b0).set 1 b1).set 2 b2).set 3 b3).set 4 b4
theorem Blk.cells5 {g : Nat} {t : TypeId} {a0 a1 a2 a3 a4 : Value} (h : Blk w g t #[a0, a1, a2, a3, a4]) :
    w.cell? ⟨g, 0, none⟩ = some a0 ∧ w.cell? ⟨g, 1, none⟩ = some a1 ∧ w.cell? ⟨g, 2, none⟩ = some a2 ∧ w.cell? ⟨g, 3, none⟩ = some a3 ∧ w.cell? ⟨g, 4, none⟩ = some a4 ∧
    w.frozen? ⟨g, 0, none⟩ = false ∧ w.frozen? ⟨g, 1, none⟩ = false ∧ w.frozen? ⟨g, 2, none⟩ = false ∧ w.frozen? ⟨g, 3, none⟩ = false ∧ w.frozen? ⟨g, 4, none⟩ = false :=
  ⟨h.cell 0, h.cell 1, h.cell 2, h.cell 3, h.cell 4, h.frozen 0, h.frozen 1, h.frozen 2, h.frozen 3, h.frozen 4⟩
theorem apart_set5 {G : Nat → Prop} {g : Nat} (h : Apart G w w') (hg : G g ∨ w.heap.size ≤ g) (b0 b1 b2 b3 b4 : Value) :
    Apart G w (((((w'.setCell ⟨g, 0, none⟩ b0).setCell ⟨g, 1, none⟩ b1).setCell ⟨g, 2, none⟩ b2).setCell ⟨g, 3, none⟩ b3).setCell ⟨g, 4, none⟩ b4) :=
  ((((h.setCell (p := ⟨g, 0, none⟩) hg b0).setCell (p := ⟨g, 1, none⟩) hg b1).setCell (p := ⟨g, 2, none⟩) hg b2).setCell (p := ⟨g, 3, none⟩) hg b3).setCell (p := ⟨g, 4, none⟩) hg b4
theorem Apart.to_below (h : Apart (fun _ => False) w w') : Below w.heap.size w w' := h.below (Nat.le_refl _) (fun _ h => h.elim)
set_option maxRecDepth 100000 in
set_option maxHeartbeats 4000000 in
theorem removeLast_c (h : Ord w o r m (S1 ++ [x])) :
    Calls Try.prog 49 #[.pointer (some ⟨o, 0, none⟩)] w fun e w' => e = .returned (.tuple #[]) ∧ Ord w' o r m S1 ∧ Apart (Of o r m (S1 ++ [x])) w w' := by
  have HR := Lib.hid (remove_in h)
  obtain ⟨N, V, hL, hc⟩ := h.ring
  have e1 : r :: (S1 ++ [x]).map Lk.g ++ [r] = (r :: S1.map Lk.g) ++ x.g :: [r] := by simp
  rw [e1] at hc
  have hv : V r = x.g := ((chn_split _ _ _).1 hc).2.2.1
  have c1 := h.blk.cell 1
  simp only [List.getElem?_toArray, List.getElem?_cons_succ, List.getElem?_cons_zero] at c1
  have c9 := (hL.cells (x := hd r) (by simp)).2.2.2.2.2.2.2.2.2
  rw [show V (hd r).g = x.g from hv] at c9
  simp only [hd] at c9
  obtain ⟨k0, k1, k2, _⟩ := hL.cells (x := x) (by simp)
  clear h hL hc
  go_enter Try.func49, Try.ntmps49
  go_wp2_with (go_at_call 76; refine HR.out.mono ?_; rintro e w2 ⟨rfl, ho2, ha2⟩)
  rw [List.append_nil] at ho2
  exact bodyPost_end (v := .tuple #[]) (by simp [results, Try.results49, go_sem]) rfl ⟨rfl, ho2, ha2⟩
set_option maxRecDepth 100000 in
set_option maxHeartbeats 4000000 in
theorem use_out (k : K3) (h : Ord w o r m S) (wk : WK k) (hk : hasK (S.map Lk.en) k = false) :
    Calls Try.prog 51 #[.pointer (some ⟨o, 0, none⟩), .agg #[.int .i64 k.a, .int .i64 k.b, .int .i64 k.c]] w fun e w' => e = .returned (.tuple #[.agg #[.int .u32 0, .int .u32 0, .int .u32 0, .bool false, .int .i64 0], .bool false]) ∧ Below w.heap.size w w' := by
  have HB : Hid (Below w.heap.size w ((w.alloc (.cells #[.int .i64 k.a, .int .i64 k.b, .int .i64 k.c] 84)).alloc (.cells #[.int .u32 0, .int .u32 0, .int .u32 0, .bool false, .int .i64 0] 39))) := Lib.hid (((Below.refl _ _).alloc (Nat.le_refl _) _).alloc (by simp) _)
  have HO := Lib.hid (h.keep HB.out)
  have HN : Hid (Blk ((w.alloc (.cells #[.int .i64 k.a, .int .i64 k.b, .int .i64 k.c] 84)).alloc (.cells #[.int .u32 0, .int .u32 0, .int .u32 0, .bool false, .int .i64 0] 39)) w.heap.size 84 #[.int .i64 k.a, .int .i64 k.b, .int .i64 k.c]) := Lib.hid ((Blk.here rfl).alloc _)
  have HV : Hid (Blk ((w.alloc (.cells #[.int .i64 k.a, .int .i64 k.b, .int .i64 k.c] 84)).alloc (.cells #[.int .u32 0, .int .u32 0, .int .u32 0, .bool false, .int .i64 0] 39)) (w.heap.size + 1) 39 #[.int .u32 0, .int .u32 0, .int .u32 0, .bool false, .int .i64 0]) := Lib.hid (Blk.here (by simp))
  have HL : Hid (∀ u, Kp ((w.alloc (.cells #[.int .i64 k.a, .int .i64 k.b, .int .i64 k.c] 84)).alloc (.cells #[.int .u32 0, .int .u32 0, .int .u32 0, .bool false, .int .i64 0] 39)) u → (Instr.lookup 108 (.map (some m)) (.agg #[.int .i64 k.a, .int .i64 k.b, .int .i64 k.c]) true).run Try.prog u = .ok (.tuple #[.pointer none, .bool false]) u) := Lib.hid (fun u hu => by
    obtain ⟨D, hm, hD⟩ := (HO.out.keep hu).mp
    exact look_out hm hD wk hk)
  have HLE : Hid (w.heap.size ≤ ((w.alloc (.cells #[.int .i64 k.a, .int .i64 k.b, .int .i64 k.c] 84)).alloc (.cells #[.int .u32 0, .int .u32 0, .int .u32 0, .bool false, .int .i64 0] 39)).heap.size) := Lib.hid HB.out.size
  clear h wk hk
  go_enter Try.func51, Try.ntmps51
  go_upto_region 1 with fail
  generalize (w.alloc (.cells #[.int .i64 k.a, .int .i64 k.b, .int .i64 k.c] 84)).alloc (.cells #[.int .u32 0, .int .u32 0, .int .u32 0, .bool false, .int .i64 0] 39) = W at *
  have HGY : Hid (w.heap.size < w.heap.size + 1) := Lib.hid (Nat.lt_succ_self _)
  generalize w.heap.size + 1 = gy at *
  generalize hgx : w.heap.size = gx at *
  refine wp_region_kp (by kernel_rfl) (by kernel_rfl) ?_
  repeat (first
    | go_big_quiet_skip
    | (go_big_quiet_want
       first
         | (go_big_quiet_op
            first
              | go_big_quiet_on
              | (apply Exists.intro
                 refine ⟨fun w1 hC => ?_, ?_⟩
                 · first
                     | (have c1 := (HO.out.keep hC).blk.cell 0; have k0 := (HN.out.keep hC).cell 0; have k1 := (HN.out.keep hC).cell 1; have k2 := (HN.out.keep hC).cell 2; have hl := HL.out w1 hC; go_simp; exact ⟨rfl, rfl⟩)
                     | (have c1 := (HO.out.keep hC).blk.cell 0; have k0 := (HN.out.keep hC).cell 0; have k1 := (HN.out.keep hC).cell 1; have k2 := (HN.out.keep hC).cell 2; have hl := HL.out w1 hC; go_simp; exact rfl)
                     | (have hl := HL.out w1 hC; go_simp; exact ⟨rfl, rfl⟩)
                     | (have hl := HL.out w1 hC; go_simp)
                     | exact rfl
                     | (go_simp; exact ⟨rfl, rfl⟩)
                 go_big_quiet_on))))
  refine wpQuiet_nil ?_
  intro W1 hC1
  have HB1 : Hid (Below gx w W1) := Lib.hid (HB.out.trans (Below.mono hC1 HLE.out))
  have HV1 := Lib.hid (HV.out.keep hC1)
  clear hC1 HL HO HN
  go_upto_region 4 with fail
  have hgy : w.heap.size ≤ gy := by have := HGY.out; omega
  have HV2 := Lib.hid (HV1.out.alloc (.cells #[.int .u32 0, .int .u32 0, .int .u32 0, .bool false, .int .i64 0] 39))
  have HA2 : Hid (Apart (fun _ => False) w (W1.alloc (.cells #[.int .u32 0, .int .u32 0, .int .u32 0, .bool false, .int .i64 0] 39))) := Lib.hid ((Apart.of (by rw [hgx]; exact HB1.out)).alloc _)
  have z0 := (Blk.new W1 39 #[.int .u32 0, .int .u32 0, .int .u32 0, .bool false, .int .i64 0]).cells5
  obtain ⟨z0, z1, z2, z3, z4, _⟩ := z0
  generalize W1.alloc (.cells #[.int .u32 0, .int .u32 0, .int .u32 0, .bool false, .int .i64 0] 39) = W2 at *
  generalize W1.heap.size = gz at *
  obtain ⟨r0, r1, r2, r3, r4, f0, f1, f2, f3, f4⟩ := HV2.out.cells5
  have HF : Hid (Below gx w (((((W2.setCell ⟨gy, 0, none⟩ (.int .u32 0)).setCell ⟨gy, 1, none⟩ (.int .u32 0)).setCell ⟨gy, 2, none⟩ (.int .u32 0)).setCell ⟨gy, 3, none⟩ (.bool false)).setCell ⟨gy, 4, none⟩ (.int .i64 0))) := Lib.hid (by rw [← hgx]; exact (apart_set5 HA2.out (.inr hgy) _ _ _ _ _).to_below)
  have HS := Lib.hid (HV2.out.set5 (.int .u32 0) (.int .u32 0) (.int .u32 0) (.bool false) (.int .i64 0))
  clear HV2 HA2 HV1 HB1
  go_wp2_with fail
  clear r0 r1 r2 r3 r4 f0 f1 f2 f3 f4 z0 z1 z2 z3 z4
  generalize ((((W2.setCell ⟨gy, 0, none⟩ (.int .u32 0)).setCell ⟨gy, 1, none⟩ (.int .u32 0)).setCell ⟨gy, 2, none⟩ (.int .u32 0)).setCell ⟨gy, 3, none⟩ (.bool false)).setCell ⟨gy, 4, none⟩ (.int .i64 0) = W5 at *
  obtain ⟨r0, r1, r2, r3, r4, _⟩ := HS.out.cells5
  refine bodyPost_ret (v := .tuple #[.agg #[.int .u32 0, .int .u32 0, .int .u32 0, .bool false, .int .i64 0], .bool false]) (by simp [results, Try.results51, go_sem, r0, r1, r2, r3, r4]) rfl ⟨rfl, by rw [hgx]; exact HF.out⟩
set_option maxRecDepth 100000 in
set_option maxHeartbeats 8000000 in
theorem use_in (h : Ord w o r m (S1 ++ x :: S2)) :
    Calls Try.prog 51 #[.pointer (some ⟨o, 0, none⟩), .agg #[.int .i64 x.k.a, .int .i64 x.k.b, .int .i64 x.k.c]] w fun e w' => e = .returned (.tuple #[.agg #[.int .u32 x.d.al, .int .u32 x.d.aa, .int .u32 x.d.ad, .bool x.d.pm, .int .i64 x.d.sq], .bool true]) ∧ Ord w' o r m (x :: (S1 ++ S2)) ∧ Apart (Of o r m (S1 ++ x :: S2)) w w' := by
  have wk : WK x.k := h.wk x (by simp)
  have HB : Hid (Below w.heap.size w ((w.alloc (.cells #[.int .i64 x.k.a, .int .i64 x.k.b, .int .i64 x.k.c] 84)).alloc (.cells #[.int .u32 0, .int .u32 0, .int .u32 0, .bool false, .int .i64 0] 39))) := Lib.hid (((Below.refl _ _).alloc (Nat.le_refl _) _).alloc (by simp) _)
  have HO := Lib.hid (h.keep HB.out)
  have HN : Hid (Blk ((w.alloc (.cells #[.int .i64 x.k.a, .int .i64 x.k.b, .int .i64 x.k.c] 84)).alloc (.cells #[.int .u32 0, .int .u32 0, .int .u32 0, .bool false, .int .i64 0] 39)) w.heap.size 84 #[.int .i64 x.k.a, .int .i64 x.k.b, .int .i64 x.k.c]) := Lib.hid ((Blk.here rfl).alloc _)
  have HV : Hid (Blk ((w.alloc (.cells #[.int .i64 x.k.a, .int .i64 x.k.b, .int .i64 x.k.c] 84)).alloc (.cells #[.int .u32 0, .int .u32 0, .int .u32 0, .bool false, .int .i64 0] 39)) (w.heap.size + 1) 39 #[.int .u32 0, .int .u32 0, .int .u32 0, .bool false, .int .i64 0]) := Lib.hid (Blk.here (by simp))
  have HL : Hid (∀ u, Kp ((w.alloc (.cells #[.int .i64 x.k.a, .int .i64 x.k.b, .int .i64 x.k.c] 84)).alloc (.cells #[.int .u32 0, .int .u32 0, .int .u32 0, .bool false, .int .i64 0] 39)) u → (Instr.lookup 108 (.map (some m)) (.agg #[.int .i64 x.k.a, .int .i64 x.k.b, .int .i64 x.k.c]) true).run Try.prog u = .ok (.tuple #[.pointer (some ⟨x.g, 0, none⟩), .bool true]) u) := Lib.hid (fun u hu => by
    obtain ⟨D, hm, hD⟩ := (HO.out.keep hu).mp
    exact look_in hm hD (by simp) wk)
  have HLT : Hid (∀ k, Of o r m (S1 ++ x :: S2) k → k < w.heap.size) := Lib.hid h.lt
  have HLE : Hid (w.heap.size ≤ ((w.alloc (.cells #[.int .i64 x.k.a, .int .i64 x.k.b, .int .i64 x.k.c] 84)).alloc (.cells #[.int .u32 0, .int .u32 0, .int .u32 0, .bool false, .int .i64 0] 39)).heap.size) := Lib.hid HB.out.size
  clear h wk
  go_enter Try.func51, Try.ntmps51
  go_upto_region 1 with fail
  generalize (w.alloc (.cells #[.int .i64 x.k.a, .int .i64 x.k.b, .int .i64 x.k.c] 84)).alloc (.cells #[.int .u32 0, .int .u32 0, .int .u32 0, .bool false, .int .i64 0] 39) = W at *
  have HGY : Hid (w.heap.size < w.heap.size + 1) := Lib.hid (Nat.lt_succ_self _)
  generalize w.heap.size + 1 = gy at *
  generalize hgx : w.heap.size = gx at *
  refine wp_region_kp (by kernel_rfl) (by kernel_rfl) ?_
  repeat (first
    | go_big_quiet_skip
    | (go_big_quiet_want
       first
         | (go_big_quiet_op
            first
              | go_big_quiet_on
              | (apply Exists.intro
                 refine ⟨fun w1 hC => ?_, ?_⟩
                 · first
                     | (have c1 := (HO.out.keep hC).blk.cell 0; have k0 := (HN.out.keep hC).cell 0; have k1 := (HN.out.keep hC).cell 1; have k2 := (HN.out.keep hC).cell 2; have hl := HL.out w1 hC; go_simp; exact ⟨rfl, rfl⟩)
                     | (have c1 := (HO.out.keep hC).blk.cell 0; have k0 := (HN.out.keep hC).cell 0; have k1 := (HN.out.keep hC).cell 1; have k2 := (HN.out.keep hC).cell 2; have hl := HL.out w1 hC; go_simp; exact rfl)
                     | (have hl := HL.out w1 hC; go_simp; exact ⟨rfl, rfl⟩)
                     | (have hl := HL.out w1 hC; go_simp)
                     | exact rfl
                     | (go_simp; exact ⟨rfl, rfl⟩)
                 go_big_quiet_on))))
  refine wpQuiet_nil ?_
  intro W1 hC1
  have HB1 : Hid (Below w.heap.size w W1) := Lib.hid (by rw [hgx]; exact HB.out.trans (Below.mono hC1 HLE.out))
  have HV1 := Lib.hid (HV.out.keep hC1)
  have HO1 := Lib.hid (HO.out.keep hC1)
  have HRL := Lib.hid (ring_leave x S1 S2 HO1.out.ring HO1.out.nd)
  clear hC1 HL HO HN HV
  go_upto_region 6 with (go_at_call 78; refine HRL.out.mono ?_; rintro e w2 ⟨rfl, hr2, hx2, ha2⟩; have HR2 := Lib.hid hr2; have HA2 := Lib.hid ha2; have HX2 := Lib.hid hx2; clear hr2 hx2 ha2)
  have hNB : ¬ Rg r (S1 ++ x :: S2) gy := fun e => by have := HLT.out gy (Rg.of e); have := HGY.out; omega
  have HV2 := Lib.hid (HA2.out.blk HV1.out hNB)
  have HK2 := Lib.hid (HA2.out.blk HO1.out.blk (fun e => (HO1.out.ne.2 _ e).1 rfl))
  obtain ⟨D, hm1, hD⟩ := HO1.out.mp
  have HD := Lib.hid hD
  have HM2 := Lib.hid (HA2.out.map hm1 (fun e => (HO1.out.ne.2 _ e).2 rfl))
  have c1 := HK2.out.cell 1
  simp only [List.getElem?_toArray, List.getElem?_cons_succ, List.getElem?_cons_zero] at c1
  clear hm1 hNB hD
  obtain ⟨N2, V2, hx2⟩ := HX2.out
  have hmid : (r :: (S1 ++ x :: S2).map Lk.g).Perm (x.g :: r :: (S1 ++ S2).map Lk.g) := by
    have : ((S1 ++ x :: S2).map Lk.g).Perm (x.g :: (S1 ++ S2).map Lk.g) := (List.perm_middle.map Lk.g)
    exact (this.cons r).trans (List.Perm.swap _ _ _)
  have hnd := (hmid.nodup_iff).1 HO1.out.nd
  rw [List.nodup_cons] at hnd
  have HF2 := Lib.hid (ring_follow x _ _ HR2.out hx2 hnd.1 hnd.2)
  clear hx2 hmid hnd HX2
  go_upto_region 7 with (go_at_call 77; refine HF2.out.mono ?_; rintro e w3 ⟨rfl, hr3, ha3⟩; have HR3 := Lib.hid hr3; have HA3 := Lib.hid ha3; clear hr3 ha3)
  clear c1
  have hRg : ∀ k, Rg r (x :: (S1 ++ S2)) k → Rg r (S1 ++ x :: S2) k := by
    rintro k (rfl | ⟨y, hy, rfl⟩)
    · exact .inl rfl
    · exact .inr ⟨y, List.perm_middle.mem_iff.2 hy, rfl⟩
  have hNB : ¬ Rg r (S1 ++ x :: S2) gy := fun e => by have := HLT.out gy (Rg.of e); have := HGY.out; omega
  have HV3 := Lib.hid (HA3.out.blk HV2.out (fun e => hNB (hRg _ e)))
  have HO3 : Hid (Ord w3 o r m (x :: (S1 ++ S2))) := Lib.hid (ord_perm HO1.out List.perm_middle (HA3.out.blk HK2.out (fun e => (HO1.out.ne.2 _ (hRg _ e)).1 rfl)) (HA3.out.map HM2.out (fun e => (HO1.out.ne.2 _ (hRg _ e)).2 rfl)) HD.out HR3.out)
  have HA : Hid (Apart (Of o r m (S1 ++ x :: S2)) w w3) := Lib.hid (((Apart.of HB1.out).trans HA2.out (fun k hk => .inl (Rg.of hk))).trans HA3.out (fun k hk => .inl (Rg.of (hRg _ hk))))
  obtain ⟨N3, V3, hL3, _⟩ := HR3.out
  obtain ⟨x0, x1, x2, x3, x4, x5, x6, x7, _⟩ := hL3.cells (x := x) (by simp)
  obtain ⟨r0, r1, r2, r3, r4, f0, f1, f2, f3, f4⟩ := HV3.out.cells5
  have hgy : w.heap.size ≤ gy := by have := HGY.out; omega
  have HG : Hid (Apart (fun k => k = gy) w3 (((((w3.setCell ⟨gy, 0, none⟩ (.int .u32 x.d.al)).setCell ⟨gy, 1, none⟩ (.int .u32 x.d.aa)).setCell ⟨gy, 2, none⟩ (.int .u32 x.d.ad)).setCell ⟨gy, 3, none⟩ (.bool x.d.pm)).setCell ⟨gy, 4, none⟩ (.int .i64 x.d.sq))) := Lib.hid (apart_set5 (G := fun k => k = gy) (g := gy) Apart.refl (.inl rfl) _ _ _ _ _)
  have HS := Lib.hid (HV3.out.set5 (.int .u32 x.d.al) (.int .u32 x.d.aa) (.int .u32 x.d.ad) (.bool x.d.pm) (.int .i64 x.d.sq))
  clear hL3 HV3 HV2 HV1 HR3 HR2 HA2 HA3 HM2 HK2 HF2 HRL
  go_wp2_with fail
  clear r0 r1 r2 r3 r4 f0 f1 f2 f3 f4 x0 x1 x2 x3 x4 x5 x6 x7
  generalize ((((w3.setCell ⟨gy, 0, none⟩ (.int .u32 x.d.al)).setCell ⟨gy, 1, none⟩ (.int .u32 x.d.aa)).setCell ⟨gy, 2, none⟩ (.int .u32 x.d.ad)).setCell ⟨gy, 3, none⟩ (.bool x.d.pm)).setCell ⟨gy, 4, none⟩ (.int .i64 x.d.sq) = W5 at *
  obtain ⟨r0, r1, r2, r3, r4, _⟩ := HS.out.cells5
  have hOf : ∀ k, Of o r m (x :: (S1 ++ S2)) k → Of o r m (S1 ++ x :: S2) k := by
    rintro k (h | h | h | ⟨y, hy, rfl⟩)
    · exact .inl h
    · exact .inr (.inl h)
    · exact .inr (.inr (.inl h))
    · exact .inr (.inr (.inr ⟨y, List.perm_middle.mem_iff.2 hy, rfl⟩))
  refine bodyPost_ret (v := .tuple #[.agg #[.int .u32 x.d.al, .int .u32 x.d.aa, .int .u32 x.d.ad, .bool x.d.pm, .int .i64 x.d.sq], .bool true]) (by simp [results, Try.results51, go_sem, r0, r1, r2, r3, r4]) rfl ⟨rfl, HO3.out.apart HG.out (fun k hk e => ?_), HA.out.trans HG.out (fun k hk => .inr (by subst hk; exact hgy))⟩
  have := HLT.out k (hOf k hk)
  have := HGY.out
  omega
end
end Go.Proofs.Ytbcbhgclgakljaa
