/- The reference's forget. -/
import Derived.Test.YtcainohglmgdpaaRvb
namespace Go.Proofs.Ytcainohglmgdpaa
open Go.RowKit Go.Maps Go.WideElems Go.WideMaps Go.WideShapes Go.Sort Go.Shelf
section
variable {w w' : World} {g m B : Nat} {S : RS} {a : Option Addr} {n c : Nat} {L : List Bk} {e : Int}
theorem Blk.set7 {g : Nat} {t : TypeId} {a0 a1 a2 a3 a4 a5 a6 : Value} (h : Blk w g t #[a0, a1, a2, a3, a4, a5, a6]) (b0 b1 b2 b3 b4 b5 b6 : Value) :
    Blk (((((((w.setCell ⟨g, 0, none⟩ b0).setCell ⟨g, 1, none⟩ b1).setCell ⟨g, 2, none⟩ b2).setCell ⟨g, 3, none⟩ b3).setCell ⟨g, 4, none⟩ b4).setCell ⟨g, 5, none⟩ b5).setCell ⟨g, 6, none⟩ b6) g t #[b0, b1, b2, b3, b4, b5, b6] := by
  simpa using ((((((h.set 0 b0).set 1 b1).set 2 b2).set 3 b3).set 4 b4).set 5 b5).set 6 b6
theorem apart_set7 {F : Nat → Prop} {w0 w' : World} {g : Nat} (h : Apart F w0 w') (hg : F g ∨ w0.heap.size ≤ g) (b0 b1 b2 b3 b4 b5 b6 : Value) :
    Apart F w0 (((((((w'.setCell ⟨g, 0, none⟩ b0).setCell ⟨g, 1, none⟩ b1).setCell ⟨g, 2, none⟩ b2).setCell ⟨g, 3, none⟩ b3).setCell ⟨g, 4, none⟩ b4).setCell ⟨g, 5, none⟩ b5).setCell ⟨g, 6, none⟩ b6) :=
  ((((((h.setCell (p := ⟨g, 0, none⟩) hg b0).setCell (p := ⟨g, 1, none⟩) hg b1).setCell (p := ⟨g, 2, none⟩) hg b2).setCell (p := ⟨g, 3, none⟩) hg b3).setCell (p := ⟨g, 4, none⟩) hg b4).setCell (p := ⟨g, 5, none⟩) hg b5).setCell (p := ⟨g, 6, none⟩) hg b6
theorem Blk.frozen7 {g : Nat} {t : TypeId} {cs : Array Value} (h : Blk w g t cs) : w.frozen? ⟨g, 0, none⟩ = false ∧ w.frozen? ⟨g, 1, none⟩ = false ∧ w.frozen? ⟨g, 2, none⟩ = false ∧ w.frozen? ⟨g, 3, none⟩ = false ∧ w.frozen? ⟨g, 4, none⟩ = false ∧ w.frozen? ⟨g, 5, none⟩ = false ∧ w.frozen? ⟨g, 6, none⟩ = false :=
  ⟨h.frozen 0, h.frozen 1, h.frozen 2, h.frozen 3, h.frozen 4, h.frozen 5, h.frozen 6⟩
theorem Blk.grown {g : Nat} {t : TypeId} {cs : Array Value} {row : Option Nat} (h : Blk w g t cs) (hg : w.grownBy w' row) (hr : row ≠ some g) : Blk w' g t cs := (hg.block g h.lt (fun e => hr e.symm)).trans h
theorem own_lt_ne {α : Type} {R : RowT α} {B q : Nat} {v : Value} {L : List α} (h : Own R w B v L) (hq : q < B) : v.ownBlock ≠ some q := fun e => by have := (h.lt q e).1; omega
set_option maxRecDepth 100000 in
set_option maxHeartbeats 8000000 in
theorem forget_c {t : Int} (h : Rows' RBk w (.slice a n c) S.L) (hS : S.Ok e) (ht : S.t ≤ t) (ht2 : t ≤ 1125899906842624) :
    Calls Try.prog 39 #[.agg #[.int .i64 S.b, .int .i64 S.i, .int .i64 S.n, .int .i64 S.t, .slice a n c, .int .i64 S.al, .int .i64 S.dr], .int .i64 t] w fun r w' => ∃ v', r = .returned (.agg #[.int .i64 S.b, .int .i64 S.i, .int .i64 S.n, .int .i64 S.t, v', .int .i64 S.al, .int .i64 S.dr]) ∧ Own RBk w' w.heap.size v' (keepL S t) ∧ Below w.heap.size w w' := by
  have HR := Lib.hid h
  obtain rfl := rows_len h
  have HSL : Hid (S.L.length ≤ 1024) := Lib.hid (by have h1 := hS.len; have h2 := hS.n1; omega)
  have HFI := Lib.hid fun x (hx : x ∈ S.L) w => rfilled_c (x := x) (.slice a S.L.length c) hS (hS.bk x hx) ht ht2 w
  unfold keepL
  generalize hL : S.L = L at *
  have HLL := Lib.hid hL
  clear h hS ht ht2 hL
  have HB : Hid (Below w.heap.size w ((w.alloc (.cells #[.int .i64 S.b, .int .i64 S.i, .int .i64 S.n, .int .i64 S.t, .slice a L.length c, .int .i64 S.al, .int .i64 S.dr] 29)).alloc (.cells #[.int .i64 0, .int .i64 0, .int .i64 0, .int .i64 0, .slice none 0 0, .int .i64 0, .int .i64 0] 29))) := Lib.hid (((Below.refl _ _).alloc (Nat.le_refl _) _).alloc (by simp) _)
  have HX : Hid (Blk ((w.alloc (.cells #[.int .i64 S.b, .int .i64 S.i, .int .i64 S.n, .int .i64 S.t, .slice a L.length c, .int .i64 S.al, .int .i64 S.dr] 29)).alloc (.cells #[.int .i64 0, .int .i64 0, .int .i64 0, .int .i64 0, .slice none 0 0, .int .i64 0, .int .i64 0] 29)) w.heap.size 29 #[.int .i64 S.b, .int .i64 S.i, .int .i64 S.n, .int .i64 S.t, .slice a L.length c, .int .i64 S.al, .int .i64 S.dr]) := Lib.hid ((Blk.new w _ _).alloc _)
  have HZ : Hid (Blk ((w.alloc (.cells #[.int .i64 S.b, .int .i64 S.i, .int .i64 S.n, .int .i64 S.t, .slice a L.length c, .int .i64 S.al, .int .i64 S.dr] 29)).alloc (.cells #[.int .i64 0, .int .i64 0, .int .i64 0, .int .i64 0, .slice none 0 0, .int .i64 0, .int .i64 0] 29)) (w.heap.size + 1) 29 #[.int .i64 0, .int .i64 0, .int .i64 0, .int .i64 0, .slice none 0 0, .int .i64 0, .int .i64 0]) := Lib.hid (by
    have := Blk.new (w.alloc (.cells #[.int .i64 S.b, .int .i64 S.i, .int .i64 S.n, .int .i64 S.t, .slice a L.length c, .int .i64 S.al, .int .i64 S.dr] 29)) 29 #[.int .i64 0, .int .i64 0, .int .i64 0, .int .i64 0, .slice none 0 0, .int .i64 0, .int .i64 0]
    simpa using this)
  go_enter Try.func39, Try.ntmps39
  go_wp2_with fail
  generalize ((w.alloc (.cells #[.int .i64 S.b, .int .i64 S.i, .int .i64 S.n, .int .i64 S.t, .slice a L.length c, .int .i64 S.al, .int .i64 S.dr] 29)).alloc (.cells #[.int .i64 0, .int .i64 0, .int .i64 0, .int .i64 0, .slice none 0 0, .int .i64 0, .int .i64 0] 29)) = W at *
  obtain ⟨p, hp⟩ : ∃ p, w.heap.size = p := ⟨_, rfl⟩
  have HP := Lib.hid hp
  have HRW := Lib.hid (HR.out.below HB.out)
  rw [hp] at HX HZ HB ⊢
  clear hp
  have HBW : Hid (Below W.heap.size W W) := Lib.hid (Below.refl _ _)
  have HPZ : Hid (p + 1 + 1 ≤ W.heap.size) := Lib.hid HZ.out.lt
  go_loopw [5, 6] (fun v5 v6 wr => ∃ (i : Nat) (v : Value), i ≤ L.length ∧ v = v5 ∧ v6 = .int .i64 i ∧ Hid (Own RBk wr (p + 1 + 1) v ((L.take i).filter fun x => decide ((fillB S.b S.i x t).l < S.b))) ∧ Hid (Blk wr p 29 #[.int .i64 S.b, .int .i64 S.i, .int .i64 S.n, .int .i64 S.t, .slice a L.length c, .int .i64 S.al, .int .i64 S.dr]) ∧ Hid (Blk wr (p + 1) 29 #[.int .i64 0, .int .i64 0, .int .i64 0, .int .i64 0, .slice none 0 0, .int .i64 0, .int .i64 0]) ∧ Hid (Below p w wr) ∧ Hid (p + 1 + 1 ≤ wr.heap.size)) (fun _ v6 _ => L.length - (intOf v6).toNat)
  case atStart => exact ⟨0, _, Nat.zero_le _, rfl, rfl, Lib.hid (by rw [List.take_zero]; exact Own.nil _ _), HX, HZ, HB, HPZ⟩
  case round =>
    obtain ⟨i, v, hi, rfl, rfl, HO, HX, HZ, HB, HPZ⟩ := hrel
    obtain ⟨x0, x1, x2, x3, x4, x5, x6⟩ := HX.out.cells7
    have hsl := HSL.out
    by_cases hlt : i < L.length
    · have hlt' : (i : Int) < (L.length : Int) := by omega
      obtain ⟨ga, oa, rfl, _, hc, hev⟩ := bk_at HR.out hlt
      have HXM : Hid (L[i] ∈ L) := Lib.hid (List.getElem_mem hlt)
      have HTK : Hid (L.take (i + 1) = L.take i ++ [L[i]]) := Lib.hid (by rw [List.take_succ_eq_append_getElem hlt])
      generalize L[i] = x at hev HXM HTK
      have HEV : Hid (∀ w1, Kp wr w1 → w1.cell? ⟨ga, oa + i * 4, none⟩ = some (.string x.k) ∧ w1.cell? ⟨ga, oa + i * 4 + 1, none⟩ = some (.int .i64 x.l) ∧ w1.cell? ⟨ga, oa + i * 4 + 2, none⟩ = some (.int .i64 x.c) ∧ w1.cell? ⟨ga, oa + i * 4 + 3, none⟩ = some (.int .i64 x.d)) := Lib.hid fun w1 hC => hev w1 (by rw [HP.out]; exact HB.out.trans (Below.mono hC (by have := HB.out.size; have := HPZ.out; omega)))
      have HFC := Lib.hid (HFI.out x HXM.out)
      clear hev HXM
      generalize hy : fillB S.b S.i x t = y at *
      have HY := Lib.hid hy
      clear hy
      go_upto_region 5 with fail
      refine wp_region_kp (by kernel_rfl) (by kernel_rfl) ?_
      repeat (first
        | go_big_quiet_skip
        | (go_big_quiet_want
           first
             | (go_big_quiet_op
                first
                  | go_big_quiet_on
                  | (apply Exists.intro
                     refine ⟨fun w1 hC => ?_, ?_⟩
                     · first
                         | (go_at_call 38; with_reducible exact hC.call (HFC.out w1))
                         | (obtain ⟨q0, q1, q2, q3⟩ := HEV.out w1 hC; go_simp; first | exact rfl | exact ⟨rfl, rfl⟩)
                         | (obtain ⟨x0, x1, x2, x3, x4, x5, x6⟩ := (HX.out.keep hC).cells7; go_simp; first | exact rfl | exact ⟨rfl, rfl⟩)
                         | exact rfl
                         | (go_simp; exact ⟨rfl, rfl⟩)
                     go_big_quiet_on))))
      refine wpQuiet_nil ?_
      intro W5 hC5
      have HX5 := Lib.hid (HX.out.keep hC5)
      have HZ5 := Lib.hid (HZ.out.keep hC5)
      have HO5 := Lib.hid (HO.out.below hC5)
      have HB5 := Lib.hid (HB.out.trans (Below.mono hC5 (by have := HPZ.out; omega)))
      have HPZ5 : Hid (p + 1 + 1 ≤ W5.heap.size) := Lib.hid (Nat.le_trans HPZ.out hC5.size)
      obtain ⟨q0, q1, q2, q3⟩ := HEV.out W5 hC5
      clear hC5 HX HZ HO HB x0 x1 x2 x3 x4 x5 x6
      obtain ⟨x0, x1, x2, x3, x4, x5, x6⟩ := HX5.out.cells7
      by_cases hlow : y.l < S.b
      · have HT2 : Hid ((L.take (i + 1)).filter (fun x => decide ((fillB S.b S.i x t).l < S.b)) = (L.take i).filter (fun x => decide ((fillB S.b S.i x t).l < S.b)) ++ [x]) := Lib.hid (by
          rw [HTK.out, List.filter_append]
          congr 1
          have : decide ((fillB S.b S.i x t).l < S.b) = true := by rw [HY.out]; simpa using hlow
          simp only [List.filter_cons, this, if_true, List.filter_nil])
        have hlen : ((L.take i).filter (fun x => decide ((fillB S.b S.i x t).l < S.b))).length ≤ i := by
          have := List.length_filter_le (fun x => decide ((fillB S.b S.i x t).l < S.b)) (L.take i)
          rw [List.length_take] at this
          omega
        have HLEN := Lib.hid hlen
        clear hlen
        generalize (L.take i).filter (fun x => decide ((fillB S.b S.i x t).l < S.b)) = M at *
        obtain ⟨am, cm, rfl⟩ := HO5.out.isSl
        have HBA : Hid (Below W5.heap.size W5 (W5.alloc (.cells #[.string x.k, .int .i64 x.l, .int .i64 x.c, .int .i64 x.d] 71))) := Lib.hid ((Below.refl _ _).alloc (Nat.le_refl _) _)
        have HYA : Hid (Blk (W5.alloc (.cells #[.string x.k, .int .i64 x.l, .int .i64 x.c, .int .i64 x.d] 71)) W5.heap.size 71 #[.string x.k, .int .i64 x.l, .int .i64 x.c, .int .i64 x.d]) := Lib.hid (Blk.new _ _ _)
        have HOA := Lib.hid (HO5.out.below HBA.out)
        have HXA := Lib.hid (HX5.out.keep HBA.out)
        have HZA := Lib.hid (HZ5.out.keep HBA.out)
        go_wp2_with (at_builtin; refine wpList_append_one RBk rfl _ _ rfl (p + 1 + 1) (.slice am M.length cm) M M.length rfl rfl HOA.out W5.heap.size x rfl HYA.out (by have := HLEN.out; omega) (by have := HBA.out.size; have := HPZ5.out; omega) ?_; intro ga ca w6 h1 h2 h3; have H1 := Lib.hid h1; have H2 := Lib.hid h2; clear h1 h2 h3)
        have HX6 := Lib.hid (HXA.out.grown H2.out (own_lt_ne HOA.out (by omega)))
        have HZ6 := Lib.hid (HZA.out.grown H2.out (own_lt_ne HOA.out (by omega)))
        have hb6 : Below p w w6 := (HB5.out.trans (HBA.out.mono (by have := HPZ5.out; omega))).grown H2.out (by have := HBA.out.size; have := HPZ5.out; omega) (fun k e => by have := (HOA.out.lt k e).1; omega)
        have HB6 := Lib.hid hb6
        have HPZ6 : Hid (p + 1 + 1 ≤ w6.heap.size) := Lib.hid (by have := H2.out.size; have := HBA.out.size; have := HPZ5.out; omega)
        clear hb6
        refine ⟨⟨i + 1, _, hlt, rfl, by simp, Lib.hid (by rw [HT2.out]; exact H1.out), HX6, HZ6, HB6, HPZ6⟩, ?_⟩
        simp [intOf]; omega
      · have HT2 : Hid ((L.take (i + 1)).filter (fun x => decide ((fillB S.b S.i x t).l < S.b)) = (L.take i).filter (fun x => decide ((fillB S.b S.i x t).l < S.b))) := Lib.hid (by
          rw [HTK.out, List.filter_append]
          have : decide ((fillB S.b S.i x t).l < S.b) = false := by rw [HY.out]; simpa using hlow
          simp only [List.filter_cons, this, List.filter_nil, List.append_nil, Bool.false_eq_true, if_false])
        go_wp2_with fail
        go_roundw
        case rel => exact ⟨i + 1, _, hlt, rfl, by go_num, Lib.hid (by rw [HT2.out]; exact HO5.out), HX5, HZ5, HB5, HPZ5⟩
        case measure => simp [intOf]; omega
    · obtain rfl : i = L.length := by omega
      have HO2 : Hid (Own RBk wr (p + 1 + 1) v (L.filter fun x => decide ((fillB S.b S.i x t).l < S.b))) := Lib.hid (by have := HO.out; rwa [List.take_length] at this)
      clear HO
      generalize hM : L.filter (fun x => decide ((fillB S.b S.i x t).l < S.b)) = M at *
      have HMM := Lib.hid hM
      clear hM
      obtain ⟨am, cm, rfl⟩ := HO2.out.isSl
      have hf4 := HX.out.frozen 4
      have HX2 : Hid (Blk (wr.setCell ⟨p, 4, none⟩ (.slice am M.length cm)) p 29 #[.int .i64 S.b, .int .i64 S.i, .int .i64 S.n, .int .i64 S.t, .slice am M.length cm, .int .i64 S.al, .int .i64 S.dr]) := Lib.hid (by simpa using HX.out.set 4 (.slice am M.length cm))
      have HA2 : Hid (Apart (fun k => k = p) wr (wr.setCell ⟨p, 4, none⟩ (.slice am M.length cm))) := Lib.hid (Apart.setCell (F := fun k => k = p) (p := ⟨p, 4, none⟩) Apart.refl (.inl rfl) _)
      have HZ2 := Lib.hid (HA2.out.blk HZ.out (by omega))
      have HO3 := Lib.hid (own_apart HO2.out HA2.out (fun k cs hk e => (hk.ne HX.out (by decide)) e))
      have HB2 : Hid (Below p w (wr.setCell ⟨p, 4, none⟩ (.slice am M.length cm))) := Lib.hid (HB.out.setCell (p := ⟨p, 4, none⟩) (Nat.le_refl _) _)
      go_upto_region 8 with fail
      clear x0 x1 x2 x3 x4 x5 x6 hf4
      generalize wr.setCell ⟨p, 4, none⟩ (.slice am M.length cm) = W2 at *
      obtain ⟨x0, x1, x2, x3, x4, x5, x6⟩ := HX2.out.cells7
      obtain ⟨z0, z1, z2, z3, z4, z5, z6⟩ := HZ2.out.cells7
      obtain ⟨k0, k1, k2, k3, k4, k5, k6⟩ := HZ2.out.frozen7
      have HZ4 := Lib.hid (HZ2.out.set7 (.int .i64 S.b) (.int .i64 S.i) (.int .i64 S.n) (.int .i64 S.t) (.slice am M.length cm) (.int .i64 S.al) (.int .i64 S.dr))
      have HA4 := Lib.hid (apart_set7 (F := fun k => k = p + 1) (g := p + 1) (Apart.refl (w := W2)) (.inl rfl) (.int .i64 S.b) (.int .i64 S.i) (.int .i64 S.n) (.int .i64 S.t) (.slice am M.length cm) (.int .i64 S.al) (.int .i64 S.dr))
      have HO4 := Lib.hid (own_apart HO3.out HA4.out (fun k cs hk e => (hk.ne HZ2.out (by decide)) e))
      have HB4 : Hid (Below p w (((((((W2.setCell ⟨p + 1, 0, none⟩ (.int .i64 S.b)).setCell ⟨p + 1, 1, none⟩ (.int .i64 S.i)).setCell ⟨p + 1, 2, none⟩ (.int .i64 S.n)).setCell ⟨p + 1, 3, none⟩ (.int .i64 S.t)).setCell ⟨p + 1, 4, none⟩ (.slice am M.length cm)).setCell ⟨p + 1, 5, none⟩ (.int .i64 S.al)).setCell ⟨p + 1, 6, none⟩ (.int .i64 S.dr))) := Lib.hid (HB2.out.trans (HA4.out.below (by have := HB2.out.size; have := HP.out; omega) (fun k hk => by subst hk; omega)))
      go_wp2_with fail
      clear x0 x1 x2 x3 x4 x5 x6 z0 z1 z2 z3 z4 z5 z6 k0 k1 k2 k3 k4 k5 k6
      generalize (((((((W2.setCell ⟨p + 1, 0, none⟩ (.int .i64 S.b)).setCell ⟨p + 1, 1, none⟩ (.int .i64 S.i)).setCell ⟨p + 1, 2, none⟩ (.int .i64 S.n)).setCell ⟨p + 1, 3, none⟩ (.int .i64 S.t)).setCell ⟨p + 1, 4, none⟩ (.slice am M.length cm)).setCell ⟨p + 1, 5, none⟩ (.int .i64 S.al)).setCell ⟨p + 1, 6, none⟩ (.int .i64 S.dr)) = W4 at *
      obtain ⟨r0, r1, r2, r3, r4, r5, r6⟩ := HZ4.out.cells7
      refine bodyPost_ret (v := .agg #[.int .i64 S.b, .int .i64 S.i, .int .i64 S.n, .int .i64 S.t, .slice am M.length cm, .int .i64 S.al, .int .i64 S.dr]) (by simp [results, Try.results39, go_sem, r0, r1, r2, r3, r4, r5, r6]) rfl ⟨_, rfl, by rw [HMM.out]; exact HO4.out.base (show w.heap.size ≤ p + 1 + 1 by have := HP.out; omega), by rw [HP.out]; exact HB4.out⟩
end
end Go.Proofs.Ytcainohglmgdpaa
