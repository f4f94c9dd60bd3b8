/- With. -/
import Derived.Test.YtbcbhgclgakljaaMdj
namespace Go.Proofs.Ytbcbhgclgakljaa
open Go.RowKit Go.Maps
theorem wpList_enterX {P : Program} {ops : Array Oper} {Q : Exit → Act → World → Prop} {a : Act} {w : World} {rest : List Oper} {o : Oper} {f : FuncId} {args : Array Value} {Rc : Ending → World → Prop} (hw : Region.wanted o (yielded ops a.tmps) = true) (h : (execOp a.eval o).run P w = .ok (.enter f args) w) (hc : Calls P f args w Rc)
    (hK : ∀ e w', Rc e w' → ∃ v, e = .returned v ∧ wpList P ops Q rest (a.put o.dst v) w') : wpList P ops Q (o :: rest) a w := by
  unfold wpList
  rw [if_pos hw]
  refine .inl ?_
  unfold Oper.wp
  rw [h]
  refine hc.mono ?_
  intro e w' hr
  obtain ⟨v, rfl, hk⟩ := hK e w' hr
  exact hk
/-- which types a list of numbers marks -/
def inL (L : List Int) (j : Nat) : Bool := decide ((j : Int) ∈ L)
set_option maxRecDepth 100000 in
set_option maxHeartbeats 16000000 in
theorem with_c (w : World) (T : List Ty) (L : List Int) (g o n c gl ol m cl : Nat) (h : Rows' RTy w (.slice (some ⟨g, o, none⟩) n c) T) (hn : n = T.length) (hl : n ≤ 1000) (h0 : 0 < n) (hi : Rows' RIn w (.slice (some ⟨gl, ol, none⟩) m cl) L) (hm : m = L.length) (hml : m ≤ 1000) (hL64 : ∀ x ∈ L, -1000000 ≤ x ∧ x ≤ 1000000) :
    Calls Try.prog 19 #[.agg #[.slice none 0 0, (.slice (some ⟨g, o, none⟩) n c), .slice none 0 0, .slice none 0 0, .slice none 0 0, .slice none 0 0, .slice none 0 0, .slice none 0 0, .slice none 0 0, .slice none 0 0, .slice none 0 0, .slice none 0 0, .slice none 0 0, .slice none 0 0, .slice none 0 0, .slice none 0 0, .slice none 0 0], .slice (some ⟨gl, ol, none⟩) m cl] w fun e w' => ∃ gt ct Tc, e = .returned (.agg #[.slice none 0 0, (.slice (some ⟨gt, 0, none⟩) n ct), .slice none 0 0, .slice none 0 0, .slice none 0 0, .slice none 0 0, .slice none 0 0, .slice none 0 0, .slice none 0 0, .slice none 0 0, .slice none 0 0, .slice none 0 0, .slice none 0 0, .slice none 0 0, .slice none 0 0, .slice none 0 0, .slice none 0 0]) ∧ Own RTy w' w.heap.size (.slice (some ⟨gt, 0, none⟩) n ct) Tc ∧ PT (fun j _ => inL L j) T Tc ∧ Below w.heap.size w w' := by
  have HB0 : Hid (Below w.heap.size w ((w.alloc (.cells #[.slice none 0 0, (.slice (some ⟨g, o, none⟩) n c), .slice none 0 0, .slice none 0 0, .slice none 0 0, .slice none 0 0, .slice none 0 0, .slice none 0 0, .slice none 0 0, .slice none 0 0, .slice none 0 0, .slice none 0 0, .slice none 0 0, .slice none 0 0, .slice none 0 0, .slice none 0 0, .slice none 0 0] 62)).alloc (.cells #[.slice none 0 0, (.slice none 0 0), .slice none 0 0, .slice none 0 0, .slice none 0 0, .slice none 0 0, .slice none 0 0, .slice none 0 0, .slice none 0 0, .slice none 0 0, .slice none 0 0, .slice none 0 0, .slice none 0 0, .slice none 0 0, .slice none 0 0, .slice none 0 0, .slice none 0 0] 62))) := Lib.hid (((Below.refl _ _).alloc (Nat.le_refl _) _).alloc (by simp) _)
  have HP0 : Hid (Blk ((w.alloc (.cells #[.slice none 0 0, (.slice (some ⟨g, o, none⟩) n c), .slice none 0 0, .slice none 0 0, .slice none 0 0, .slice none 0 0, .slice none 0 0, .slice none 0 0, .slice none 0 0, .slice none 0 0, .slice none 0 0, .slice none 0 0, .slice none 0 0, .slice none 0 0, .slice none 0 0, .slice none 0 0, .slice none 0 0] 62)).alloc (.cells #[.slice none 0 0, (.slice none 0 0), .slice none 0 0, .slice none 0 0, .slice none 0 0, .slice none 0 0, .slice none 0 0, .slice none 0 0, .slice none 0 0, .slice none 0 0, .slice none 0 0, .slice none 0 0, .slice none 0 0, .slice none 0 0, .slice none 0 0, .slice none 0 0, .slice none 0 0] 62)) w.heap.size 62 #[.slice none 0 0, (.slice (some ⟨g, o, none⟩) n c), .slice none 0 0, .slice none 0 0, .slice none 0 0, .slice none 0 0, .slice none 0 0, .slice none 0 0, .slice none 0 0, .slice none 0 0, .slice none 0 0, .slice none 0 0, .slice none 0 0, .slice none 0 0, .slice none 0 0, .slice none 0 0, .slice none 0 0]) := Lib.hid ((Blk.here rfl).alloc _)
  have HQ0 : Hid (Blk ((w.alloc (.cells #[.slice none 0 0, (.slice (some ⟨g, o, none⟩) n c), .slice none 0 0, .slice none 0 0, .slice none 0 0, .slice none 0 0, .slice none 0 0, .slice none 0 0, .slice none 0 0, .slice none 0 0, .slice none 0 0, .slice none 0 0, .slice none 0 0, .slice none 0 0, .slice none 0 0, .slice none 0 0, .slice none 0 0] 62)).alloc (.cells #[.slice none 0 0, (.slice none 0 0), .slice none 0 0, .slice none 0 0, .slice none 0 0, .slice none 0 0, .slice none 0 0, .slice none 0 0, .slice none 0 0, .slice none 0 0, .slice none 0 0, .slice none 0 0, .slice none 0 0, .slice none 0 0, .slice none 0 0, .slice none 0 0, .slice none 0 0] 62)) (w.heap.size + 1) 62 #[.slice none 0 0, (.slice none 0 0), .slice none 0 0, .slice none 0 0, .slice none 0 0, .slice none 0 0, .slice none 0 0, .slice none 0 0, .slice none 0 0, .slice none 0 0, .slice none 0 0, .slice none 0 0, .slice none 0 0, .slice none 0 0, .slice none 0 0, .slice none 0 0, .slice none 0 0]) := Lib.hid (Blk.here (by simp))
  have HR0 := Lib.hid (h.below HB0.out)
  have HI := Lib.hid hi
  have hne : w.heap.size + 1 ≠ w.heap.size := by omega
  have HG : Hid (w.heap.size ≤ w.heap.size + 1) := Lib.hid (by omega)
  have HN := Lib.hid hn
  have HM := Lib.hid hm
  have H64 := Lib.hid hL64
  have hmI : (m : Int) ≤ (cl : Int) := by
    obtain ⟨_, _, e, hc, _⟩ := hi.form
    simp only [Value.slice.injEq] at e
    rw [hm, e.2.2]; omega
  clear h hn hi hm hL64
  go_enter Try.func19, Try.ntmps19
  go_upto_region 1 with fail
  generalize (w.alloc (.cells #[.slice none 0 0, (.slice (some ⟨g, o, none⟩) n c), .slice none 0 0, .slice none 0 0, .slice none 0 0, .slice none 0 0, .slice none 0 0, .slice none 0 0, .slice none 0 0, .slice none 0 0, .slice none 0 0, .slice none 0 0, .slice none 0 0, .slice none 0 0, .slice none 0 0, .slice none 0 0, .slice none 0 0] 62)).alloc (.cells #[.slice none 0 0, (.slice none 0 0), .slice none 0 0, .slice none 0 0, .slice none 0 0, .slice none 0 0, .slice none 0 0, .slice none 0 0, .slice none 0 0, .slice none 0 0, .slice none 0 0, .slice none 0 0, .slice none 0 0, .slice none 0 0, .slice none 0 0, .slice none 0 0, .slice none 0 0] 62) = w0 at *
  generalize w.heap.size + 1 = g4 at *
  generalize hgx : w.heap.size = g2 at *
  refine wp_region_lit ?_
  refine wpList_load (by rfl) (.tmp 2) rfl rfl (loadAt_blk [.slice none 0 0, (.slice (some ⟨g, o, none⟩) n c), .slice none 0 0, .slice none 0 0, .slice none 0 0, .slice none 0 0, .slice none 0 0, .slice none 0 0, .slice none 0 0, .slice none 0 0, .slice none 0 0, .slice none 0 0, .slice none 0 0, .slice none 0 0, .slice none 0 0, .slice none 0 0, .slice none 0 0] (agg_pol _) (size_pol _) HP0.out) ?_
  simp only [Act.put, List.setIfInBounds_toArray, List.set_cons_succ, List.set_cons_zero]
  refine wpList_enterX (by rfl) (by go_simp) (clonePol_c w0 T g o n c HR0.out HN.out hl h0) ?_
  rintro e w1 ⟨gt, ct, rfl, h1, h2⟩
  refine ⟨_, rfl, ?_⟩
  have HO1 := Lib.hid h1
  have HB1 := Lib.hid h2
  clear h1 h2
  simp only [Act.put, List.setIfInBounds_toArray, List.set_cons_succ, List.set_cons_zero]
  refine wpList_store_row (by rfl) _ _ rfl rfl (by rfl) [.slice none 0 0, (.slice (some ⟨gt, 0, none⟩) n ct), .slice none 0 0, .slice none 0 0, .slice none 0 0, .slice none 0 0, .slice none 0 0, .slice none 0 0, .slice none 0 0, .slice none 0 0, .slice none 0 0, .slice none 0 0, .slice none 0 0, .slice none 0 0, .slice none 0 0, .slice none 0 0, .slice none 0 0] (.agg #[.slice none 0 0, (.slice (some ⟨gt, 0, none⟩) n ct), .slice none 0 0, .slice none 0 0, .slice none 0 0, .slice none 0 0, .slice none 0 0, .slice none 0 0, .slice none 0 0, .slice none 0 0, .slice none 0 0, .slice none 0 0, .slice none 0 0, .slice none 0 0, .slice none 0 0, .slice none 0 0, .slice none 0 0]) (by rfl) rfl (size_pol _) (HP0.out.keep HB1.out) rfl (one_pol _ _ _) ?_
  have HP2 : Hid (Blk (w1.setRow g2 [.slice none 0 0, (.slice (some ⟨gt, 0, none⟩) n ct), .slice none 0 0, .slice none 0 0, .slice none 0 0, .slice none 0 0, .slice none 0 0, .slice none 0 0, .slice none 0 0, .slice none 0 0, .slice none 0 0, .slice none 0 0, .slice none 0 0, .slice none 0 0, .slice none 0 0, .slice none 0 0, .slice none 0 0].toArray) g2 62 #[.slice none 0 0, (.slice (some ⟨gt, 0, none⟩) n ct), .slice none 0 0, .slice none 0 0, .slice none 0 0, .slice none 0 0, .slice none 0 0, .slice none 0 0, .slice none 0 0, .slice none 0 0, .slice none 0 0, .slice none 0 0, .slice none 0 0, .slice none 0 0, .slice none 0 0, .slice none 0 0, .slice none 0 0]) := Lib.hid ((HP0.out.keep HB1.out).row _)
  have HQ2 : Hid (Blk (w1.setRow g2 [.slice none 0 0, (.slice (some ⟨gt, 0, none⟩) n ct), .slice none 0 0, .slice none 0 0, .slice none 0 0, .slice none 0 0, .slice none 0 0, .slice none 0 0, .slice none 0 0, .slice none 0 0, .slice none 0 0, .slice none 0 0, .slice none 0 0, .slice none 0 0, .slice none 0 0, .slice none 0 0, .slice none 0 0].toArray) g4 62 #[.slice none 0 0, (.slice none 0 0), .slice none 0 0, .slice none 0 0, .slice none 0 0, .slice none 0 0, .slice none 0 0, .slice none 0 0, .slice none 0 0, .slice none 0 0, .slice none 0 0, .slice none 0 0, .slice none 0 0, .slice none 0 0, .slice none 0 0, .slice none 0 0, .slice none 0 0]) := Lib.hid ((setRow_other w1 g2 g4 _ hne).trans (HQ0.out.keep HB1.out))
  have HB2 : Hid (Below g2 w (w1.setRow g2 [.slice none 0 0, (.slice (some ⟨gt, 0, none⟩) n ct), .slice none 0 0, .slice none 0 0, .slice none 0 0, .slice none 0 0, .slice none 0 0, .slice none 0 0, .slice none 0 0, .slice none 0 0, .slice none 0 0, .slice none 0 0, .slice none 0 0, .slice none 0 0, .slice none 0 0, .slice none 0 0, .slice none 0 0].toArray)) := Lib.hid (below_row (HB0.out.trans (HB1.out.mono (Nat.le_of_lt HP0.out.lt))) (Nat.le_refl _) _)
  have HO2 : Hid (Own RTy (w1.setRow g2 [.slice none 0 0, (.slice (some ⟨gt, 0, none⟩) n ct), .slice none 0 0, .slice none 0 0, .slice none 0 0, .slice none 0 0, .slice none 0 0, .slice none 0 0, .slice none 0 0, .slice none 0 0, .slice none 0 0, .slice none 0 0, .slice none 0 0, .slice none 0 0, .slice none 0 0, .slice none 0 0, .slice none 0 0].toArray) w0.heap.size (.slice (some ⟨gt, 0, none⟩) n ct) T) := Lib.hid (own_row HO1.out HP0.out.lt)
  have HLT : Hid (g2 < w0.heap.size ∧ g4 < w0.heap.size) := Lib.hid ⟨HP0.out.lt, HQ0.out.lt⟩
  have hcT : (n : Int) ≤ (ct : Int) := by
    obtain ⟨_, _, e, hc, _⟩ := HO1.out.rows.form
    simp only [Value.slice.injEq] at e
    rw [HN.out, e.2.2]; omega
  clear HP0 HQ0 HB0 HO1 HB1 HR0
  generalize w0.heap.size = b0 at *
  generalize w1.setRow g2 [.slice none 0 0, (.slice (some ⟨gt, 0, none⟩) n ct), .slice none 0 0, .slice none 0 0, .slice none 0 0, .slice none 0 0, .slice none 0 0, .slice none 0 0, .slice none 0 0, .slice none 0 0, .slice none 0 0, .slice none 0 0, .slice none 0 0, .slice none 0 0, .slice none 0 0, .slice none 0 0, .slice none 0 0].toArray = w2 at *
  have c1 := HP2.out.cell 1
  simp only [List.getElem?_toArray, List.getElem?_cons_zero, List.getElem?_cons_succ] at c1
  go_wp2_with fail
  clear c1
  go_loopw [13] (fun vi wr => ∃ (i : Nat) (Tc : List Ty), i ≤ n ∧ vi = .int .i64 i ∧ Hid (Own RTy wr b0 (.slice (some ⟨gt, 0, none⟩) n ct) Tc) ∧ Hid (PT (fun j y => if j < i then false else y.pm) T Tc) ∧ Hid (Below g2 w wr) ∧ Hid (Blk wr g2 62 #[.slice none 0 0, (.slice (some ⟨gt, 0, none⟩) n ct), .slice none 0 0, .slice none 0 0, .slice none 0 0, .slice none 0 0, .slice none 0 0, .slice none 0 0, .slice none 0 0, .slice none 0 0, .slice none 0 0, .slice none 0 0, .slice none 0 0, .slice none 0 0, .slice none 0 0, .slice none 0 0, .slice none 0 0]) ∧ Hid (Blk wr g4 62 #[.slice none 0 0, (.slice none 0 0), .slice none 0 0, .slice none 0 0, .slice none 0 0, .slice none 0 0, .slice none 0 0, .slice none 0 0, .slice none 0 0, .slice none 0 0, .slice none 0 0, .slice none 0 0, .slice none 0 0, .slice none 0 0, .slice none 0 0, .slice none 0 0, .slice none 0 0])) (fun vi _ => n - (intOf vi).toNat)
  case atStart => exact ⟨0, T, Nat.zero_le _, rfl, HO2, Lib.hid ((PT.start T).eq fun j y _ => by simp), HB2, HP2, HQ2⟩
  case round =>
    obtain ⟨i, Tc, hi, rfl, HO, HT, HBr, HPr, HQr⟩ := hrel
    by_cases hlt : i < n
    · have hltI : (i : Int) < (n : Int) := by omega
      have hltC : (i : Int) < (ct : Int) := by omega
      have hx : T[i]? = some (T[i]'(by rw [← HN.out]; exact hlt)) := List.getElem?_eq_getElem _
      generalize T[i]'(by rw [← HN.out]; exact hlt) = x at hx
      have hxc : Tc[i]? = some ⟨x.n, x.pm⟩ := by have := HT.out i; rw [hx] at this; simpa using this
      obtain ⟨cur, hbl, y0, y1, y2⟩ := HO.out.at hxc
      have d2 : wr.cell? ⟨gt, i * 3 + 2, none⟩ = some (.bool x.pm) := by rw [hbl.cell, y2]
      have f2 : wr.frozen? ⟨gt, i * 3 + 2, none⟩ = false := hbl.frozen _
      have c1 := HPr.out.cell 1
      simp only [List.getElem?_toArray, List.getElem?_cons_zero, List.getElem?_cons_succ] at c1
      have HLG : Hid (b0 ≤ gt ∧ gt ≠ g2 ∧ gt ≠ g4) := Lib.hid (by have h1 := (HO.out.lt gt rfl).1; have h2 := HLT.out; omega)
      have HO3 : Hid (Own RTy (wr.setCell ⟨gt, i * 3 + 2, none⟩ (.bool false)) b0 (.slice (some ⟨gt, 0, none⟩) n ct) (Tc.set i ⟨x.n, false⟩)) := Lib.hid (HO.out.setAt (k := 2) hxc (by decide) rfl)
      have HT3 : Hid (PT (fun j y => if j < i + 1 then false else y.pm) T (Tc.set i ⟨x.n, false⟩)) := Lib.hid (HT.out.set hx (b := false) fun j y => by by_cases e : j = i <;> by_cases e2 : j < i <;> simp [e, e2] <;> omega)
      have HB3 : Hid (Below g2 w (wr.setCell ⟨gt, i * 3 + 2, none⟩ (.bool false))) := Lib.hid (HBr.out.setCell (p := ⟨gt, i * 3 + 2, none⟩) (by have h1 := HLG.out; have h2 := HLT.out; show g2 ≤ gt; omega) _)
      have HP3 := Lib.hid (HPr.out.far (p := ⟨gt, i * 3 + 2, none⟩) (fun e => HLG.out.2.1 e.symm) (.bool false))
      have HQ3 := Lib.hid (HQr.out.far (p := ⟨gt, i * 3 + 2, none⟩) (fun e => HLG.out.2.2 e.symm) (.bool false))
      clear hbl y0 y1 y2 hx hxc
      go_wp2_with fail
      exact ⟨⟨i + 1, Tc.set i ⟨x.n, false⟩, by omega, by go_num, HO3, HT3, HB3, HP3, HQ3⟩, by simp [intOf]; omega⟩
    · obtain rfl : i = n := by omega
      have HT0 : Hid (PT (fun j _ => inL (L.take 0) j) T Tc) := Lib.hid (HT.out.eq fun j y hj => by
        have : j < i := by rw [HN.out]; exact (List.getElem?_eq_some_iff.1 hj).1
        simp [this, inL])
      clear HT
      generalize wr = w3 at *
      go_wp2_with fail
      go_loopw [24] (fun vi wr => ∃ (k : Nat) (Tc : List Ty), k ≤ m ∧ vi = .int .i64 k ∧ Hid (Own RTy wr b0 (.slice (some ⟨gt, 0, none⟩) i ct) Tc) ∧ Hid (PT (fun j _ => inL (L.take k) j) T Tc) ∧ Hid (Below g2 w wr) ∧ Hid (Blk wr g2 62 #[.slice none 0 0, (.slice (some ⟨gt, 0, none⟩) i ct), .slice none 0 0, .slice none 0 0, .slice none 0 0, .slice none 0 0, .slice none 0 0, .slice none 0 0, .slice none 0 0, .slice none 0 0, .slice none 0 0, .slice none 0 0, .slice none 0 0, .slice none 0 0, .slice none 0 0, .slice none 0 0, .slice none 0 0]) ∧ Hid (Blk wr g4 62 #[.slice none 0 0, (.slice none 0 0), .slice none 0 0, .slice none 0 0, .slice none 0 0, .slice none 0 0, .slice none 0 0, .slice none 0 0, .slice none 0 0, .slice none 0 0, .slice none 0 0, .slice none 0 0, .slice none 0 0, .slice none 0 0, .slice none 0 0, .slice none 0 0, .slice none 0 0])) (fun vi _ => m - (intOf vi).toNat)
      case atStart => exact ⟨0, Tc, Nat.zero_le _, rfl, HO, HT0, HBr, HPr, HQr⟩
      case round =>
        obtain ⟨k, Td, hk, rfl, HOk, HTk, HBk, HPk, HQk⟩ := hrel
        by_cases hltk : k < m
        · have hltI : (k : Int) < (m : Int) := by omega
          have hltC : (k : Int) < (cl : Int) := by omega
          have hx : L[k]? = some (L[k]'(by rw [← HM.out]; exact hltk)) := List.getElem?_eq_getElem _
          have hxm : L[k]'(by rw [← HM.out]; exact hltk) ∈ L := List.getElem_mem _
          generalize L[k]'(by rw [← HM.out]; exact hltk) = x at hx hxm
          have d0 := (HI.out.below (by rw [hgx]; exact HBk.out)).at1 rfl hx
          have c1 := HPk.out.cell 1
          simp only [List.getElem?_toArray, List.getElem?_cons_zero, List.getElem?_cons_succ] at c1
          have HTS : Hid (L.take (k + 1) = L.take k ++ [x]) := Lib.hid (by rw [List.take_add_one, hx]; rfl)
          obtain ⟨hx1, hx2⟩ := H64.out x hxm
          clear hx hxm
          by_cases hr : 0 ≤ x ∧ x < (i : Int)
          · obtain ⟨q, rfl⟩ : ∃ q : Nat, x = (q : Int) := ⟨x.toNat, by omega⟩
            have hq : q < i := by omega
            have hqI : (q : Int) < (i : Int) := by omega
            have hqC : (q : Int) < (ct : Int) := by omega
            have hxq : T[q]? = some (T[q]'(by rw [← HN.out]; exact hq)) := List.getElem?_eq_getElem _
            generalize T[q]'(by rw [← HN.out]; exact hq) = z at hxq
            have hxc : Td[q]? = some ⟨z.n, inL (L.take k) q⟩ := by have := HTk.out q; rw [hxq] at this; simpa using this
            obtain ⟨cur, hbl, y0, y1, y2⟩ := HOk.out.at hxc
            have d2 : wr.cell? ⟨gt, q * 3 + 2, none⟩ = some (.bool (inL (L.take k) q)) := by rw [hbl.cell, y2]
            have f2 : wr.frozen? ⟨gt, q * 3 + 2, none⟩ = false := hbl.frozen _
            have HLG : Hid (b0 ≤ gt ∧ gt ≠ g2 ∧ gt ≠ g4) := Lib.hid (by have h1 := (HOk.out.lt gt rfl).1; have h2 := HLT.out; omega)
            have HO3 : Hid (Own RTy (wr.setCell ⟨gt, q * 3 + 2, none⟩ (.bool true)) b0 (.slice (some ⟨gt, 0, none⟩) i ct) (Td.set q ⟨z.n, true⟩)) := Lib.hid (HOk.out.setAt (k := 2) hxc (by decide) rfl)
            have HT3 : Hid (PT (fun j _ => inL (L.take (k + 1)) j) T (Td.set q ⟨z.n, true⟩)) := Lib.hid (HTk.out.set hxq (b := true) fun j y => by rw [HTS.out]; by_cases e : j = q <;> simp [inL, e] <;> omega)
            have HB3 : Hid (Below g2 w (wr.setCell ⟨gt, q * 3 + 2, none⟩ (.bool true))) := Lib.hid (HBk.out.setCell (p := ⟨gt, q * 3 + 2, none⟩) (by have h1 := HLG.out; have h2 := HLT.out; show g2 ≤ gt; omega) _)
            have HP3 := Lib.hid (HPk.out.far (p := ⟨gt, q * 3 + 2, none⟩) (fun e => HLG.out.2.1 e.symm) (.bool true))
            have HQ3 := Lib.hid (HQk.out.far (p := ⟨gt, q * 3 + 2, none⟩) (fun e => HLG.out.2.2 e.symm) (.bool true))
            clear hbl y0 y1 y2 hxq hxc
            go_wp2_with fail
            exact ⟨⟨k + 1, Td.set q ⟨z.n, true⟩, by omega, by go_num, HO3, HT3, HB3, HP3, HQ3⟩, by simp [intOf]; omega⟩
          · have HT3 : Hid (PT (fun j _ => inL (L.take (k + 1)) j) T Td) := Lib.hid (HTk.out.eq fun j y hj => by
              have hji : j < i := by rw [HN.out]; exact (List.getElem?_eq_some_iff.1 hj).1
              have hne : (j : Int) ≠ x := by omega
              rw [HTS.out]
              simp [inL, hne])
            by_cases hx0 : 0 ≤ x
            · have hxi : ¬ x < (i : Int) := by omega
              go_wp2_with fail
              exact ⟨⟨k + 1, Td, by omega, by go_num, HOk, HT3, HBk, HPk, HQk⟩, by simp [intOf]; omega⟩
            · go_wp2_with fail
              exact ⟨⟨k + 1, Td, by omega, by go_num, HOk, HT3, HBk, HPk, HQk⟩, by simp [intOf]; omega⟩
        · obtain rfl : k = m := by omega
          have HTE : Hid (PT (fun j _ => inL L j) T Td) := Lib.hid (by have := HTk.out; rwa [List.take_of_length_le (by rw [HM.out]; exact Nat.le_refl _)] at this)
          clear HTk
          go_upto_region 13 with fail
          refine wp_region_lit ?_
          refine wpList_load (by rfl) (.tmp 2) rfl rfl (loadAt_blk [.slice none 0 0, (.slice (some ⟨gt, 0, none⟩) i ct), .slice none 0 0, .slice none 0 0, .slice none 0 0, .slice none 0 0, .slice none 0 0, .slice none 0 0, .slice none 0 0, .slice none 0 0, .slice none 0 0, .slice none 0 0, .slice none 0 0, .slice none 0 0, .slice none 0 0, .slice none 0 0, .slice none 0 0] (agg_pol _) (size_pol _) HPk.out) ?_
          simp only [Act.put, List.setIfInBounds_toArray, List.set_cons_succ, List.set_cons_zero]
          refine wpList_store_row (by rfl) _ _ rfl rfl (by rfl) [.slice none 0 0, (.slice (some ⟨gt, 0, none⟩) i ct), .slice none 0 0, .slice none 0 0, .slice none 0 0, .slice none 0 0, .slice none 0 0, .slice none 0 0, .slice none 0 0, .slice none 0 0, .slice none 0 0, .slice none 0 0, .slice none 0 0, .slice none 0 0, .slice none 0 0, .slice none 0 0, .slice none 0 0] (.agg #[.slice none 0 0, (.slice (some ⟨gt, 0, none⟩) i ct), .slice none 0 0, .slice none 0 0, .slice none 0 0, .slice none 0 0, .slice none 0 0, .slice none 0 0, .slice none 0 0, .slice none 0 0, .slice none 0 0, .slice none 0 0, .slice none 0 0, .slice none 0 0, .slice none 0 0, .slice none 0 0, .slice none 0 0]) (by rfl) rfl (size_pol _) HQk.out rfl (one_pol _ _ _) ?_
          have HQ : Hid (Blk (wr.setRow g4 [.slice none 0 0, (.slice (some ⟨gt, 0, none⟩) i ct), .slice none 0 0, .slice none 0 0, .slice none 0 0, .slice none 0 0, .slice none 0 0, .slice none 0 0, .slice none 0 0, .slice none 0 0, .slice none 0 0, .slice none 0 0, .slice none 0 0, .slice none 0 0, .slice none 0 0, .slice none 0 0, .slice none 0 0].toArray) g4 62 [.slice none 0 0, (.slice (some ⟨gt, 0, none⟩) i ct), .slice none 0 0, .slice none 0 0, .slice none 0 0, .slice none 0 0, .slice none 0 0, .slice none 0 0, .slice none 0 0, .slice none 0 0, .slice none 0 0, .slice none 0 0, .slice none 0 0, .slice none 0 0, .slice none 0 0, .slice none 0 0, .slice none 0 0].toArray) := Lib.hid (HQk.out.row _)
          have HB : Hid (Below g2 w (wr.setRow g4 [.slice none 0 0, (.slice (some ⟨gt, 0, none⟩) i ct), .slice none 0 0, .slice none 0 0, .slice none 0 0, .slice none 0 0, .slice none 0 0, .slice none 0 0, .slice none 0 0, .slice none 0 0, .slice none 0 0, .slice none 0 0, .slice none 0 0, .slice none 0 0, .slice none 0 0, .slice none 0 0, .slice none 0 0].toArray)) := Lib.hid (below_row HBk.out HG.out _)
          have HOE := Lib.hid (own_row HOk.out (cs := [.slice none 0 0, (.slice (some ⟨gt, 0, none⟩) i ct), .slice none 0 0, .slice none 0 0, .slice none 0 0, .slice none 0 0, .slice none 0 0, .slice none 0 0, .slice none 0 0, .slice none 0 0, .slice none 0 0, .slice none 0 0, .slice none 0 0, .slice none 0 0, .slice none 0 0, .slice none 0 0, .slice none 0 0].toArray) HLT.out.2)
          generalize wr.setRow g4 [.slice none 0 0, (.slice (some ⟨gt, 0, none⟩) i ct), .slice none 0 0, .slice none 0 0, .slice none 0 0, .slice none 0 0, .slice none 0 0, .slice none 0 0, .slice none 0 0, .slice none 0 0, .slice none 0 0, .slice none 0 0, .slice none 0 0, .slice none 0 0, .slice none 0 0, .slice none 0 0, .slice none 0 0].toArray = w18 at *
          go_wp2_with fail
          refine bodyPost_ret (v := .agg #[.slice none 0 0, (.slice (some ⟨gt, 0, none⟩) i ct), .slice none 0 0, .slice none 0 0, .slice none 0 0, .slice none 0 0, .slice none 0 0, .slice none 0 0, .slice none 0 0, .slice none 0 0, .slice none 0 0, .slice none 0 0, .slice none 0 0, .slice none 0 0, .slice none 0 0, .slice none 0 0, .slice none 0 0]) (blk_ret [.slice none 0 0, (.slice (some ⟨gt, 0, none⟩) i ct), .slice none 0 0, .slice none 0 0, .slice none 0 0, .slice none 0 0, .slice none 0 0, .slice none 0 0, .slice none 0 0, .slice none 0 0, .slice none 0 0, .slice none 0 0, .slice none 0 0, .slice none 0 0, .slice none 0 0, .slice none 0 0, .slice none 0 0] rfl rfl (agg_pol _) (size_pol _) HQ.out) rfl ⟨gt, ct, Td, rfl, ?_, HTE.out, ?_⟩
          · exact HOE.out.base (by rw [hgx]; exact Nat.le_of_lt HLT.out.1)
          · rw [hgx]; exact HB.out
end Go.Proofs.Ytbcbhgclgakljaa
