/- The reference's Merge. -/
import Derived.Test.YtomoldfgnbjliaaAwa
import Derived.Deep.DeepCutAuto
import Derived.BigRegion
namespace Go.Proofs.Ytomoldfgnbjliaa
open Go.RowKit Go.Sort
def zE : E := ⟨0, 0, 0, 0, 0#32, 0#32, 0#32, by decide⟩
theorem beforeB_c (x y : E) (w : World) (r : Bool) (h : decide (ltP x y) = r) : Calls Try.prog 19 #[.agg #[.int .i64 x.s, .int .i64 x.t, .int .i64 x.c, .int .i64 x.d, .int .u32 (vI x.a), .int .u32 (vI x.b), .int .u32 (vI x.e)], .agg #[.int .i64 y.s, .int .i64 y.t, .int .i64 y.c, .int .i64 y.d, .int .u32 (vI y.a), .int .u32 (vI y.b), .int .u32 (vI y.e)]] w fun e w' => e = .returned (.bool r) ∧ Below w.heap.size w w' := by
  rw [← h]; exact before_c x y w
/-- a whole entry is written -/
theorem OwnE.put7 {w : World} {B g n cap i : Nat} {L : List E} (x : E) (hi : i < n) (hn : L.length = n) (h : OwnE w B (.slice (some ⟨g, 0, none⟩) n cap) L) :
    OwnE (((((((w.setCell ⟨g, i * 7, none⟩ (.int .i64 x.s)).setCell ⟨g, i * 7 + 1, none⟩ (.int .i64 x.t)).setCell ⟨g, i * 7 + 2, none⟩ (.int .i64 x.c)).setCell ⟨g, i * 7 + 3, none⟩ (.int .i64 x.d)).setCell ⟨g, i * 7 + 4, none⟩ (.int .u32 (vI x.a))).setCell ⟨g, i * 7 + 5, none⟩ (.int .u32 (vI x.b))).setCell ⟨g, i * 7 + 6, none⟩ (.int .u32 (vI x.e))) B (.slice (some ⟨g, 0, none⟩) n cap) (L.set i x) := by
  rcases h.form with ⟨h1, _⟩ | ⟨g', cap', cur, h1, hB, hg, h4, h5, h6, h7⟩
  · simp at h1
  · obtain ⟨rfl, -, rfl⟩ : g = g' ∧ n = L.length ∧ cap = cap' := by simpa using h1
    have hl : (L.set i x).length = n := by simp [hn]
    have hb := ((((((Blk.set (show Blk w g _ cur from hg) (i * 7) (.int .i64 x.s)).set (i * 7 + 1) (.int .i64 x.t)).set (i * 7 + 2) (.int .i64 x.c)).set (i * 7 + 3) (.int .i64 x.d)).set (i * 7 + 4) (.int .u32 (vI x.a))).set (i * 7 + 5) (.int .u32 (vI x.b))).set (i * 7 + 6) (.int .u32 (vI x.e))
    rw [← hl]
    refine OwnE.mk hB hb (by rw [hl, ← hn]; exact h4) h5 (by simp [h6]) fun q y hy j hj => ?_
    rw [List.getElem?_set] at hy
    by_cases e : i = q
    · subst e
      rw [if_pos rfl, if_pos (by omega)] at hy
      cases hy
      have hs : i * 7 + 6 < cur.size := by omega
      match j, hj with
      | 0, _ => rw [Array.getElem?_setIfInBounds_ne (by omega), Array.getElem?_setIfInBounds_ne (by omega), Array.getElem?_setIfInBounds_ne (by omega), Array.getElem?_setIfInBounds_ne (by omega), Array.getElem?_setIfInBounds_ne (by omega), Array.getElem?_setIfInBounds_ne (by omega), Nat.add_zero, Array.getElem?_setIfInBounds_self_of_lt (by omega)]; rfl
      | 1, _ => rw [Array.getElem?_setIfInBounds_ne (by omega), Array.getElem?_setIfInBounds_ne (by omega), Array.getElem?_setIfInBounds_ne (by omega), Array.getElem?_setIfInBounds_ne (by omega), Array.getElem?_setIfInBounds_ne (by omega), Array.getElem?_setIfInBounds_self_of_lt (by simp; omega)]; rfl
      | 2, _ => rw [Array.getElem?_setIfInBounds_ne (by omega), Array.getElem?_setIfInBounds_ne (by omega), Array.getElem?_setIfInBounds_ne (by omega), Array.getElem?_setIfInBounds_ne (by omega), Array.getElem?_setIfInBounds_self_of_lt (by simp; omega)]; rfl
      | 3, _ => rw [Array.getElem?_setIfInBounds_ne (by omega), Array.getElem?_setIfInBounds_ne (by omega), Array.getElem?_setIfInBounds_ne (by omega), Array.getElem?_setIfInBounds_self_of_lt (by simp; omega)]; rfl
      | 4, _ => rw [Array.getElem?_setIfInBounds_ne (by omega), Array.getElem?_setIfInBounds_ne (by omega), Array.getElem?_setIfInBounds_self_of_lt (by simp; omega)]; rfl
      | 5, _ => rw [Array.getElem?_setIfInBounds_ne (by omega), Array.getElem?_setIfInBounds_self_of_lt (by simp; omega)]; rfl
      | 6, _ => rw [Array.getElem?_setIfInBounds_self_of_lt (by simp; omega)]; rfl
    · rw [if_neg e] at hy
      have h0 := h7 q y hy j hj
      rw [Array.getElem?_setIfInBounds_ne (by omega), Array.getElem?_setIfInBounds_ne (by omega), Array.getElem?_setIfInBounds_ne (by omega), Array.getElem?_setIfInBounds_ne (by omega), Array.getElem?_setIfInBounds_ne (by omega), Array.getElem?_setIfInBounds_ne (by omega), Array.getElem?_setIfInBounds_ne (by omega)]
      exact h0
theorem wpList_copy_E {w : World} {ops : Array Oper} {rest : List Oper} {o : Oper} {a : Act} {Q : Exit → Act → World → Prop} (hgd : o.guard = none) (d s : Operand)
    (ho : o.op = .call { callee := .builtin .copy, args := #[d, s], argTypes := #[22, 22] }) {B g n k cap : Nat} {L : List E} (hn : L.length = n + 1) (hk : k ≤ n) (hown : OwnE w B (.slice (some ⟨g, 0, none⟩) (n + 1) cap) L)
    (dp sp : Option Addr) (dl sl dc sc : Nat) (hdl : dl = n - k) (hsl : sl = n + 1 - k) (hd : a.eval d = .slice dp dl dc) (hs : a.eval s = .slice sp sl sc) (hp : k < n → dp = some ⟨g, (k + 1) * 7, none⟩ ∧ sp = some ⟨g, k * 7, none⟩)
    (h : ∀ r w', OwnE w' B (.slice (some ⟨g, 0, none⟩) (n + 1) cap) (L.take (k + 1) ++ (L.drop k).take (n - k)) → w.grownBy w' (some g) → wpList Try.prog ops Q rest (a.put o.dst r) w') :
    wpList Try.prog ops Q (o :: rest) a w := by
  subst hdl hsl
  refine wpList_plain hgd fun K hK => ?_
  obtain ⟨w', hr, h2, h3⟩ := copyE (w := w) o.type hn hk hown dp sp dc sc hp
  unfold Oper.wp execOp
  simp only [ho, resolve, invoke, builtin, Sem.run_bind, Sem.run_pure, Result.andThen_ok, List.map_toArray, List.map_cons, List.map_nil, hd, hs, hr]
  exact hK _ _ (h _ w' h2 h3)
theorem moved_set {O : List E} {m k : Nat} {x z : E} (hm : O.length = m) (hk : k ≤ m) : ((O ++ [z]).take (k + 1) ++ ((O ++ [z]).drop k).take (m - k)).set k x = O.take k ++ (x :: O.drop k) := by
  apply List.ext_getElem?
  intro j
  rw [List.getElem?_set]
  have hl : ((O ++ [z]).take (k + 1)).length = k + 1 := by simp; omega
  have hl2 : (((O ++ [z]).drop k).take (m - k)).length = m - k := by simp; omega
  have ht : (O.take k).length = k := by simp; omega
  by_cases e : k = j
  · subst e
    rw [if_pos rfl, if_pos (by rw [List.length_append, hl]; omega), List.getElem?_append_right (by omega), ht, Nat.sub_self]
    rfl
  · rw [if_neg e]
    rcases Nat.lt_or_ge j k with h | h
    · rw [List.getElem?_append_left (by omega), List.getElem?_append_left (by omega), List.getElem?_take, List.getElem?_take, if_pos (by omega), if_pos h, List.getElem?_append_left (by omega)]
    · rw [List.getElem?_append_right (by omega), List.getElem?_append_right (by omega), hl, ht, List.getElem?_take]
      obtain ⟨q, rfl⟩ : ∃ q, j = k + 1 + q := ⟨j - (k + 1), by omega⟩
      rw [show k + 1 + q - (k + 1) = q by omega, show k + 1 + q - k = q + 1 by omega, List.getElem?_cons_succ, List.getElem?_drop, List.getElem?_drop]
      split
      · rw [List.getElem?_append_left (by omega)]
      · rw [List.getElem?_eq_none (by omega)]
set_option maxRecDepth 100000 in
set_option maxHeartbeats 8000000 in
set_option pp.deepTerms true in
set_option pp.maxSteps 100000 in
theorem rmerge_c (v : Value) (L : List E) (hl : L.length ≤ 10000) (w : World) (hE : Ents w v L) :
    Calls Try.prog 31 #[v] w (ListOut w (M L)) := by
  have HE0 := Lib.hid hE
  obtain ⟨ao, cap, rfl, hcap, -⟩ := hE
  obtain ⟨n, hN⟩ : ∃ n, L.length = n := ⟨_, rfl⟩
  have HN := Lib.hid hN
  have hhe := HE0.out
  rw [hN] at hl hcap hhe ⊢
  have HE := Lib.hid hhe
  clear hN hhe HE0
  have hlI : (n : Int) ≤ 10000 := by omega
  have hcI : (n : Int) ≤ (cap : Int) := by omega
  go_enter Try.func31, Try.ntmps31
  go_wp2_with fail
  go_loopw [4, 3] (fun vi va wr => ∃ (i : Nat) (v : Value), i ≤ n ∧ vi = .int .i64 i ∧ v = va ∧ Hid (OwnE wr w.heap.size v (M (L.take i))) ∧ Hid (Below w.heap.size w wr)) (fun vi _ _ => n - (intOf vi).toNat)
  case atStart => exact ⟨0, _, Nat.zero_le _, rfl, rfl, Lib.hid (OwnE.nil _ _), Lib.hid (Below.refl _ _)⟩
  case round =>
    obtain ⟨i, v, hi, rfl, rfl, HO, HW⟩ := hrel
    by_cases hlt : i < n
    · have hltL : i < L.length := by rw [HN.out]; exact hlt
      obtain ⟨ao', cap', hao, -, hr⟩ := HE.out
      obtain ⟨b, o, rfl, hR⟩ := hr (by rintro rfl; simp at hltL)
      obtain ⟨rfl, -, rfl⟩ : ao = some ⟨b, o, none⟩ ∧ True ∧ cap = cap' := by
        simp only [Value.slice.injEq] at hao
        exact ⟨hao.1, trivial, hao.2.2⟩
      have hA : At7 wr b (o + i * 7) L[i] := (hR.at hltL).keep (HW.out.block b (hR.lt (by rintro rfl; simp at hltL)))
      have hts := take_snoc' L i hltL
      obtain ⟨x, hx⟩ : ∃ x, L[i] = x := ⟨_, rfl⟩
      rw [hx] at hA hts
      have HTS : Hid (M (L.take (i + 1)) = insN (M (L.take i)) x) := Lib.hid (by rw [hts, M_snoc])
      obtain ⟨a0, a1, a2, a3, a4, a5, a6⟩ := hA
      have hltI : (i : Int) < (n : Int) := by omega
      have HB := Lib.hid (Blk.new wr 39 #[.int .i64 x.s, .int .i64 x.t, .int .i64 x.c, .int .i64 x.d, .int .u32 (vI x.a), .int .u32 (vI x.b), .int .u32 (vI x.e)])
      have HWx := Lib.hid (HW.out.alloc HW.out.size (.cells #[.int .i64 x.s, .int .i64 x.t, .int .i64 x.c, .int .i64 x.d, .int .u32 (vI x.a), .int .u32 (vI x.b), .int .u32 (vI x.e)] 39))
      have HOx := Lib.hid (HO.out.below ((Below.refl _ wr).alloc (Nat.le_refl _) (.cells #[.int .i64 x.s, .int .i64 x.t, .int .i64 x.c, .int .i64 x.d, .int .u32 (vI x.a), .int .u32 (vI x.b), .int .u32 (vI x.e)] 39)))
      have hml : (M (L.take i)).length ≤ i := Nat.le_trans (M_len _) (by rw [List.length_take]; omega)
      have HST := Lib.hid (M_strict (L.take i))
      have HVB : Hid (∀ q, v.ownBlock = some q → q < wr.heap.size) := Lib.hid (fun q e => (World.ownsRow.lt HO.out q e).2)
      clear hx hao hr hR hts HO
      have HZE : Hid (∀ b : BitVec 32, (vI b == 0) = (b == 0#32)) := Lib.hid (fun b => by rw [Bool.eq_iff_iff, beq_iff_eq, beq_iff_eq]; exact ⟨fun h => vI_inj h, fun h => by rw [h]; rfl⟩)
      go_upto_region 6 with (fail)
      obtain ⟨c0, c1, c2, c3, c4, c5, c6⟩ := (show Box _ _ x from HB.out).cells
      generalize hxb : wr.heap.size = xb at *
      generalize wr.alloc (.cells #[.int .i64 x.s, .int .i64 x.t, .int .i64 x.c, .int .i64 x.d, .int .u32 (vI x.a), .int .u32 (vI x.b), .int .u32 (vI x.e)] 39) = w2 at *
      clear a0 a1 a2 a3 a4 a5 a6
      obtain ⟨em, hem⟩ : ∃ em, emp x = em := ⟨_, rfl⟩
      have HEM := Lib.hid hem
      clear hem
      go_cut [29] (fun v w' => v = .bool em ∧ w2 = w')
      case first =>
        have h1 := HEM.out
        unfold emp at h1
        have e1 := HZE.out x.a
        have e2 := HZE.out x.b
        have e3 := HZE.out x.e
        cases ha : (x.a == 0#32) <;> cases hb : (x.b == 0#32) <;> cases he : (x.e == 0#32) <;> rw [ha, hb, he] at h1 <;> rw [ha] at e1 <;> rw [hb] at e2 <;> rw [he] at e3 <;> subst h1 <;> clear ha hb he
        all_goals
          go_wp2_with fail
          go_meet
          exact ⟨rfl, rfl⟩
      case rest =>
      obtain ⟨rfl, rfl⟩ := hcut
      cases em with
      | true =>
        go_wp2_with fail
        refine ⟨⟨i + 1, v, by omega, by go_num, rfl, Lib.hid ?_, HWx⟩, by simp [intOf]; omega⟩
        rw [HTS.out, insN, if_pos HEM.out]
        exact HOx.out
      | false =>
        have HTN : Hid (M (L.take (i + 1)) = ins (M (L.take i)) x) := Lib.hid (by rw [HTS.out, insN, HEM.out]; rfl)
        clear HTS HEM HZE
        obtain ⟨O, hO⟩ : ∃ O, M (L.take i) = O := ⟨_, rfl⟩
        have HMO := Lib.hid hO
        rw [hO] at HOx HTN HST hml
        clear hO
        obtain ⟨m, hm⟩ : ∃ m, O.length = m := ⟨_, rfl⟩
        have HM := Lib.hid hm
        rw [hm] at hml
        obtain ⟨av, cv, rfl⟩ := HOx.out.isSl
        rw [hm] at HOx HVB ⊢
        clear hm
        have hmI : (m : Int) ≤ 10000 := by omega
        go_upto_region 7 with (fail)
        go_wp2_with fail
        go_loopw [6] (fun vk wq => ∃ k : Nat, k ≤ m ∧ vk = .int .i64 k ∧ Hid (∀ j (h : j < k) (h' : j < O.length), ltP O[j] x) ∧ Hid (Below w2.heap.size w2 wq)) (fun vk _ => m - (intOf vk).toNat)
        case atStart => exact ⟨0, Nat.zero_le _, rfl, Lib.hid (fun j h => absurd h (by omega)), Lib.hid (Below.refl _ _)⟩
        case round =>
          obtain ⟨k, hk, rfl, HLT, HQ⟩ := hrel
          have HBq : Hid (Box wr xb x) := Lib.hid (Blk.keep HB.out HQ.out)
          have HOq := Lib.hid (HOx.out.below HQ.out)
          have HWq := Lib.hid (HWx.out.trans (HQ.out.mono HWx.out.size))
          by_cases hkm : k < m
          · have hkO : k < O.length := by rw [HM.out]; exact hkm
            obtain ⟨g, rfl⟩ : ∃ g, av = some ⟨g, 0, none⟩ := by
              rcases HOq.out.form with ⟨_, h2⟩ | ⟨g, _, _, h2, _⟩
              · rw [h2] at hkO; simp at hkO
              · simp only [Value.slice.injEq] at h2
                exact ⟨g, h2.1⟩
            have hkI : (k : Int) < (m : Int) := by omega
            obtain ⟨y, hy⟩ : ∃ y, O[k] = y := ⟨_, rfl⟩
            have HY := Lib.hid hy
            have hf := HOq.out.facts HM.out
            have HA : Hid (At7 wr g (k * 7) y) := Lib.hid (hf.1 k y (by rw [List.getElem?_eq_getElem hkO, hy]))
            have hgl : g < wr.heap.size := hf.2.2.1 (by omega)
            have hcv : (m : Int) ≤ (cv : Int) := by have := hf.2.2.2.1; omega
            clear hy hf
            obtain ⟨bl, hbl⟩ : ∃ bl, decide (ltP y x) = bl := ⟨_, rfl⟩
            have HBL := Lib.hid hbl
            have HBF : Hid (∀ w1, Calls Try.prog 19 #[.agg #[.int .i64 y.s, .int .i64 y.t, .int .i64 y.c, .int .i64 y.d, .int .u32 (vI y.a), .int .u32 (vI y.b), .int .u32 (vI y.e)], .agg #[.int .i64 x.s, .int .i64 x.t, .int .i64 x.c, .int .i64 x.d, .int .u32 (vI x.a), .int .u32 (vI x.b), .int .u32 (vI x.e)]] w1 fun e w' => e = .returned (.bool bl) ∧ Below w1.heap.size w1 w') := Lib.hid (fun w1 => beforeB_c y x w1 bl hbl)
            clear hbl
            cases bl with
            | true =>
              go_wp2_with fail
              refine wp_region_kp (by kernel_rfl) (by kernel_rfl) ?_
              repeat (first
                  | go_big_quiet_skip
                  | (go_big_quiet_want
                     go_big_quiet_op
                     first
                       | go_big_quiet_on
                       | (apply Exists.intro
                          refine ⟨fun w1 hC => ?_, ?_⟩
                          · first
                              | (go_at_call 19; with_reducible exact hC.call (HBF.out _))
                              | (obtain ⟨b0, b1, b2, b3, b4, b5, b6⟩ := (show Box w1 xb x from hC.blk HBq.out).cells; obtain ⟨d0, d1, d2, d3, d4, d5, d6⟩ := HA.out.keep (hC.block g hgl); go_simp; exact rfl)
                              | (go_simp; exact ⟨rfl, rfl⟩)
                          go_big_quiet_on)))
              refine wpQuiet_nil ?_
              intro w4 hK4
              go_wp2_with fail
              refine ⟨⟨k + 1, by omega, by go_num, Lib.hid (fun j h h' => ?_), Lib.hid (HQ.out.trans (Below.mono hK4 HQ.out.size))⟩, by simp [intOf]; omega⟩
              rcases Nat.lt_or_ge j k with hjk | hjk
              · exact HLT.out j hjk h'
              · obtain rfl : j = k := by omega
                have h1 := HY.out
                rw [h1]
                exact of_decide_eq_true HBL.out
            | false =>
              go_wp2_with fail
              refine wp_region_kp (by kernel_rfl) (by kernel_rfl) ?_
              repeat (first
                  | go_big_quiet_skip
                  | (go_big_quiet_want
                     go_big_quiet_op
                     first
                       | go_big_quiet_on
                       | (apply Exists.intro
                          refine ⟨fun w1 hC => ?_, ?_⟩
                          · first
                              | (go_at_call 19; with_reducible exact hC.call (HBF.out _))
                              | (obtain ⟨b0, b1, b2, b3, b4, b5, b6⟩ := (show Box w1 xb x from hC.blk HBq.out).cells; obtain ⟨d0, d1, d2, d3, d4, d5, d6⟩ := HA.out.keep (hC.block g hgl); go_simp; exact rfl)
                              | (go_simp; exact ⟨rfl, rfl⟩)
                          go_big_quiet_on)))
              refine wpQuiet_nil ?_
              intro w3 hK3
              have HB3 : Hid (Box w3 xb x) := Lib.hid (hK3.blk HBq.out)
              have HA3 : Hid (At7 w3 g (k * 7) y) := Lib.hid (HA.out.keep (hK3.block g hgl))
              have hgl3 : g < w3.heap.size := HA3.out.lt
              obtain ⟨bl2, hbl2⟩ : ∃ bl, decide (ltP x y) = bl := ⟨_, rfl⟩
              have HBL2 := Lib.hid hbl2
              have HBF2 : Hid (∀ w1, Calls Try.prog 19 #[.agg #[.int .i64 x.s, .int .i64 x.t, .int .i64 x.c, .int .i64 x.d, .int .u32 (vI x.a), .int .u32 (vI x.b), .int .u32 (vI x.e)], .agg #[.int .i64 y.s, .int .i64 y.t, .int .i64 y.c, .int .i64 y.d, .int .u32 (vI y.a), .int .u32 (vI y.b), .int .u32 (vI y.e)]] w1 fun e w' => e = .returned (.bool bl2) ∧ Below w1.heap.size w1 w') := Lib.hid (fun w1 => beforeB_c x y w1 bl2 hbl2)
              clear hbl2 HBF
              go_upto_region 10 with (fail)
              cases bl2 with
              | true =>
                have HIN : Hid (ins O x = O.take k ++ (x :: O.drop k)) := Lib.hid (ins_new (by rw [HM.out]; exact hk) (fun j h => HLT.out j h (by rw [HM.out]; omega)) (fun h => by rw [HY.out]; exact ⟨of_decide_eq_false HBL.out, of_decide_eq_true HBL2.out⟩))
                refine wp_region_kp (by kernel_rfl) (by kernel_rfl) ?_
                repeat (first
                    | go_big_quiet_skip
                    | (go_big_quiet_want
                       go_big_quiet_op
                       first
                         | go_big_quiet_on
                         | (apply Exists.intro
                            refine ⟨fun w1 hC => ?_, ?_⟩
                            · first
                                | (go_at_call 19; with_reducible exact hC.call (HBF2.out _))
                                | (obtain ⟨b0, b1, b2, b3, b4, b5, b6⟩ := (show Box w1 xb x from hC.blk HB3.out).cells; obtain ⟨d0, d1, d2, d3, d4, d5, d6⟩ := HA3.out.keep (hC.block g hgl3); go_simp; exact rfl)
                                | (go_simp; exact ⟨rfl, rfl⟩)
                            go_big_quiet_on)))
                refine wpQuiet_nil ?_
                intro w4 hK4'
                have hK4 : Below wr.heap.size wr w4 := Below.trans hK3 (Below.mono hK4' (Below.size hK3))
                clear hK3 hK4' HB3 HA3 HA hgl hgl3
                have HO4 := Lib.hid (HOq.out.below hK4)
                have HB4 : Hid (Box w4 xb x) := Lib.hid (Blk.keep HBq.out hK4)
                have HW4 := Lib.hid (HWq.out.trans (Below.mono hK4 HWq.out.size))
                clear hK4 HOq HBq HWq
                go_upto_region 12 with (fail)
                go_wp2_with (first | (at_builtin; refine wpList_append_E (by rfl) _ _ (by rfl) w.heap.size (.slice (some ⟨g, 0, none⟩) m cv) O m HM.out (by rfl) (HO4.out.below ((Below.refl _ _).alloc (Nat.le_refl _) _)) w4.heap.size zE (by rfl) (Blk.new _ _ _) (by omega) (by have := HW4.out.size; simp; omega) ?_; intro g5 c5' w5 h1 h2 h3; have H1 := Lib.hid h1; have H2 := Lib.hid h2; have H3 := Lib.hid h3; clear h1 h2 h3) | fail)
                have hg5 : g5 ≠ xb := by
                  rcases H3.out with h | h
                  · have := HVB.out g5 h; omega
                  · have := HB4.out.at7.lt; simp at h; omega
                have HB5 : Hid (Box w5 xb x) := Lib.hid ((H2.out.block xb (by have := HB4.out.at7.lt; simp; omega) (fun e => by have := HVB.out xb e.symm; omega)).trans (Blk.alloc HB4.out _))
                have HW5 := Lib.hid ((HW4.out.alloc HW4.out.size _).grown H2.out (by have := HW4.out.size; simp; omega) (fun q e => (World.ownsRow.lt HO4.out q e).1))
                have hl5 : (O ++ [zE]).length = m + 1 := by have := HM.out; simp; omega
                have hcp := (H1.out.facts hl5).2.2.2.1
                have HL5 := Lib.hid hl5
                clear hl5 H2 H3 HB4 HW4 HO4
                have i1 : (0 : Int) ≤ (k : Int) := by omega
                have i2 : (k : Int) + 1 ≤ (m : Int) + 1 := by omega
                have i3 : (m : Int) + 1 ≤ (c5' : Int) := by omega
                have i4 : (k : Int) ≤ (m : Int) + 1 := by omega
                have hc5 : ¬ c5' = k + 1 := by omega
                refine wp_region_dt 7 (by kernel_rfl) (by kernel_rfl) ?_
                simp only [List.take_succ_cons, List.take_zero, List.drop_succ_cons, List.drop_zero]
                repeat (first
                    | go_big_quiet_skip
                    | (go_big_quiet_want
                       go_big_quiet_op
                       first
                         | go_big_quiet_on
                         | (apply Exists.intro
                            refine ⟨fun w1 hC => ?_, ?_⟩
                            · first
                                | (obtain ⟨nn, rfl⟩ := hC; go_simp; exact rfl)
                                | (go_simp; exact ⟨rfl, rfl⟩)
                            go_big_quiet_on)))
                refine wpQuiet_nil ?_
                intro w6 hK6
                obtain ⟨n6, rfl⟩ := hK6
                have HO6 : Hid (OwnE (w5.drewN n6) w.heap.size (.slice (some ⟨g5, 0, none⟩) (m + 1) c5') (O ++ [zE])) := Lib.hid H1.out
                have HB6 : Hid (Box (w5.drewN n6) xb x) := Lib.hid (HB5.out.drewN n6)
                have HW6 : Hid (Below w.heap.size w (w5.drewN n6)) := Lib.hid (HW5.out.trans ⟨rfl, rfl, rfl, Nat.le_refl _, fun _ _ => rfl⟩)
                generalize w5.drewN n6 = w6 at *
                clear H1 HB5 HW5
                refine wpList_copy_E rfl _ _ rfl HL5.out hk HO6.out (some ⟨g5, (k + 1) * 7, none⟩) (some ⟨g5, k * 7, none⟩) (m - k) (m + 1 - k) (c5' - (k + 1)) (c5' - k) rfl rfl rfl rfl (fun _ => ⟨rfl, rfl⟩) ?_
                intro r7 w7 h7 hg7
                have HO7 := Lib.hid h7
                have HB7 : Hid (Box w7 xb x) := Lib.hid ((hg7.block xb (HB6.out.at7.lt) (fun e => hg5 (by simpa using e.symm))).trans HB6.out)
                have HW7 := Lib.hid (HW6.out.grown hg7 HW6.out.size (fun q e => by cases e; exact (HO6.out.facts HL5.out).2.2.2.2.1))
                have hl7 : ((O ++ [zE]).take (k + 1) ++ ((O ++ [zE]).drop k).take (m - k)).length = m + 1 := by have := HM.out; simp; omega
                have HL7 := Lib.hid hl7
                have HMV := Lib.hid (moved_set (x := x) (z := zE) HM.out hk)
                generalize (O ++ [zE]).take (k + 1) ++ ((O ++ [zE]).drop k).take (m - k) = L7 at *
                have hf7 := h7.facts hl7
                obtain ⟨y7, hy7⟩ : ∃ y, L7[k]? = some y := ⟨_, List.getElem?_eq_getElem (by omega)⟩
                obtain ⟨d0, d1, d2, d3, d4, d5, d6⟩ := hf7.1 k y7 hy7
                clear hy7
                have fz := hf7.2.1
                have f0 := fz (k * 7)
                have f1 := fz (k * 7 + 1)
                have f2 := fz (k * 7 + 2)
                have f3 := fz (k * 7 + 3)
                have f4 := fz (k * 7 + 4)
                have f5 := fz (k * 7 + 5)
                have f6 := fz (k * 7 + 6)
                obtain ⟨b0, b1, b2, b3, b4, b5, b6⟩ := HB7.out.cells
                have HBG : Hid (w.heap.size ≤ g5) := Lib.hid hf7.2.2.2.2.1
                have i5 : (k : Int) < (m : Int) + 1 := by omega
                clear h7 hg7 hl7 hf7 fz HO6 HB6 HW6
                go_upto_region 14 with (fail)
                go_wp2_with fail
                refine ⟨⟨i + 1, .slice (some ⟨g5, 0, none⟩) (m + 1) c5', by omega, by go_num, rfl, Lib.hid ?_, Lib.hid ?_⟩, by simp [intOf]; omega⟩
                · rw [HTN.out, HIN.out, ← HMV.out]
                  exact HO7.out.put7 x (by omega) HL7.out
                · exact ((((((HW7.out.setCell HBG.out _).setCell HBG.out _).setCell HBG.out _).setCell HBG.out _).setCell HBG.out _).setCell HBG.out _).setCell HBG.out _
              | false =>
                have HIN : Hid (ins O x = O.set k (orE y x)) := Lib.hid (by
                  have h := ins_mid (O := O) (x := x) (k := k) hkO (fun j h => HLT.out j h (by rw [HM.out]; omega)) (by rw [HY.out]; exact of_decide_eq_false HBL.out) (by rw [HY.out]; exact of_decide_eq_false HBL2.out)
                  rw [HY.out] at h; exact h)
                refine wp_region_kp (by kernel_rfl) (by kernel_rfl) ?_
                repeat (first
                    | go_big_quiet_skip
                    | (go_big_quiet_want
                       go_big_quiet_op
                       first
                         | go_big_quiet_on
                         | (apply Exists.intro
                            refine ⟨fun w1 hC => ?_, ?_⟩
                            · first
                                | (go_at_call 19; with_reducible exact hC.call (HBF2.out _))
                                | (obtain ⟨b0, b1, b2, b3, b4, b5, b6⟩ := (show Box w1 xb x from hC.blk HB3.out).cells; obtain ⟨d0, d1, d2, d3, d4, d5, d6⟩ := HA3.out.keep (hC.block g hgl3); go_simp; exact rfl)
                                | (go_simp; exact ⟨rfl, rfl⟩)
                            go_big_quiet_on)))
                refine wpQuiet_nil ?_
                intro w4 hK4'
                have hK4 : Below wr.heap.size wr w4 := Below.trans hK3 (Below.mono hK4' (Below.size hK3))
                clear hK3 hK4' HB3 HA3 HA hgl hgl3
                have HO4 := Lib.hid (HOq.out.below hK4)
                have HB4 : Hid (Box w4 xb x) := Lib.hid (Blk.keep HBq.out hK4)
                have HW4 := Lib.hid (HWq.out.trans (Below.mono hK4 HWq.out.size))
                have hf := HO4.out.facts HM.out
                have HYk : Hid (O[k]? = some y) := Lib.hid (by rw [List.getElem?_eq_getElem hkO, HY.out])
                obtain ⟨d0, d1, d2, d3, d4, d5, d6⟩ := hf.1 k y HYk.out
                have fz := hf.2.1
                have f4 := fz (k * 7 + 4)
                have f5 := fz (k * 7 + 5)
                have f6 := fz (k * 7 + 6)
                have HBG : Hid (w.heap.size ≤ g) := Lib.hid hf.2.2.2.2.1
                have ho1 := vI_or y.a x.a
                have ho2 := vI_or y.b x.b
                have ho3 := vI_or y.e x.e
                obtain ⟨b0, b1, b2, b3, b4, b5, b6⟩ := HB4.out.cells
                clear hK4 HOq HBq HWq hf fz
                go_upto_region 11 with (fail)
                go_region
                have HO6 : Hid (OwnE w4 w.heap.size (.slice (some ⟨g, 0, none⟩) m cv) O) := Lib.hid HO4.out
                have HW6 : Hid (Below w.heap.size w w4) := HW4
                go_wp2_with fail
                refine ⟨⟨i + 1, .slice (some ⟨g, 0, none⟩) m cv, by omega, by go_num, rfl, Lib.hid ?_, Lib.hid ?_⟩, by simp [intOf]; omega⟩
                · rw [HTN.out, HIN.out]
                  have s1 := OwnE.setAt (i := k) (z := { y with a := y.a ||| x.a }) 4 (.int .u32 (vI (y.a ||| x.a))) (by decide) HYk.out (fun j hj => by match j, hj with | 0, _ => rfl | 1, _ => rfl | 2, _ => rfl | 3, _ => rfl | 4, _ => rfl | 5, _ => rfl | 6, _ => rfl) HM.out HO6.out
                  have s2 := OwnE.setAt (i := k) (y := { y with a := y.a ||| x.a }) (z := { y with a := y.a ||| x.a, b := y.b ||| x.b }) 5 (.int .u32 (vI (y.b ||| x.b))) (by decide) (by rw [List.getElem?_set, if_pos rfl, if_pos hkO]) (fun j hj => by match j, hj with | 0, _ => rfl | 1, _ => rfl | 2, _ => rfl | 3, _ => rfl | 4, _ => rfl | 5, _ => rfl | 6, _ => rfl) (by rw [List.length_set]; exact HM.out) s1
                  have s3 := OwnE.setAt (i := k) (y := { y with a := y.a ||| x.a, b := y.b ||| x.b }) (z := orE y x) 6 (.int .u32 (vI (y.e ||| x.e))) (by decide) (by rw [List.getElem?_set, if_pos rfl, if_pos (by rw [List.length_set]; exact hkO)]) (fun j hj => by match j, hj with | 0, _ => rfl | 1, _ => rfl | 2, _ => rfl | 3, _ => rfl | 4, _ => rfl | 5, _ => rfl | 6, _ => rfl) (by rw [List.length_set, List.length_set]; exact HM.out) s2
                  rw [List.set_set, List.set_set] at s3
                  exact s3
                · exact (((HW6.out.setCell HBG.out _).setCell HBG.out _).setCell HBG.out _).drew
          · have HKE : Hid (k = m) := Lib.hid (by omega)
            have hkI : ¬ (k : Int) < (m : Int) := by omega
            have hkB : decide (k < m) = false := decide_eq_false hkm
            have HIN : Hid (ins O x = O.take k ++ (x :: O.drop k)) := Lib.hid (ins_new (by rw [HM.out]; exact hk) (fun j h => HLT.out j h (by rw [HM.out]; omega)) (fun h => absurd h (by rw [HM.out]; omega)))
            skip
            go_wp2_with fail
            refine wp_region_d (by kernel_rfl) (by kernel_rfl) ?_
            repeat (first
                | go_big_quiet_skip
                | (go_big_quiet_want
                   go_big_quiet_op
                   first
                     | go_big_quiet_on
                     | (apply Exists.intro
                        refine ⟨fun w1 hC => ?_, ?_⟩
                        · first
                            | (obtain ⟨nn, rfl⟩ := hC; go_simp; exact rfl)
                            | (go_simp; exact ⟨rfl, rfl⟩)
                        go_big_quiet_on)))
            refine wpQuiet_nil ?_
            intro w3 hK3
            obtain ⟨n3, rfl⟩ := hK3
            go_upto_region 10 with (fail)
            refine wp_region_d (by kernel_rfl) (by kernel_rfl) ?_
            repeat (first
                | go_big_quiet_skip
                | (go_big_quiet_want
                   go_big_quiet_op
                   first
                     | go_big_quiet_on
                     | (apply Exists.intro
                        refine ⟨fun w1 hC => ?_, ?_⟩
                        · first
                            | (obtain ⟨nn, rfl⟩ := hC; go_simp; exact rfl)
                            | (go_simp; exact ⟨rfl, rfl⟩)
                        go_big_quiet_on)))
            refine wpQuiet_nil ?_
            intro w4 hK4'
            obtain ⟨n4, rfl⟩ := hK4'
            have hK4 : Below wr.heap.size wr ((wr.drewN n3).drewN n4) := ⟨rfl, rfl, rfl, Nat.le_refl _, fun _ _ => rfl⟩
            generalize (wr.drewN n3).drewN n4 = w4 at *
            have HO4 := Lib.hid (HOq.out.below hK4)
            have HB4 : Hid (Box w4 xb x) := Lib.hid (Blk.keep HBq.out hK4)
            have HW4 := Lib.hid (HWq.out.trans (Below.mono hK4 HWq.out.size))
            clear hK4 HOq HBq HWq
            go_upto_region 12 with (fail)
            go_wp2_with (first | (at_builtin; refine wpList_append_E (by rfl) _ _ (by rfl) w.heap.size (.slice av m cv) O m HM.out (by rfl) (HO4.out.below ((Below.refl _ _).alloc (Nat.le_refl _) _)) w4.heap.size zE (by rfl) (Blk.new _ _ _) (by omega) (by have := HW4.out.size; simp; omega) ?_; intro g5 c5' w5 h1 h2 h3; have H1 := Lib.hid h1; have H2 := Lib.hid h2; have H3 := Lib.hid h3; clear h1 h2 h3) | fail)
            have hg5 : g5 ≠ xb := by
              rcases H3.out with h | h
              · have := HVB.out g5 h; omega
              · have := HB4.out.at7.lt; simp at h; omega
            have HB5 : Hid (Box w5 xb x) := Lib.hid ((H2.out.block xb (by have := HB4.out.at7.lt; simp; omega) (fun e => by have := HVB.out xb e.symm; omega)).trans (Blk.alloc HB4.out _))
            have HW5 := Lib.hid ((HW4.out.alloc HW4.out.size _).grown H2.out (by have := HW4.out.size; simp; omega) (fun q e => (World.ownsRow.lt HO4.out q e).1))
            have hl5 : (O ++ [zE]).length = m + 1 := by have := HM.out; simp; omega
            have hcp := (H1.out.facts hl5).2.2.2.1
            have HL5 := Lib.hid hl5
            clear hl5 H2 H3 HB4 HW4 HO4
            have i1 : (0 : Int) ≤ (k : Int) := by omega
            have i2 : (k : Int) + 1 ≤ (m : Int) + 1 := by omega
            have i3 : (m : Int) + 1 ≤ (c5' : Int) := by omega
            have i4 : (k : Int) ≤ (m : Int) + 1 := by omega
            by_cases hc5 : c5' = k + 1
            · subst hc5
              obtain rfl : k = m := by omega
              refine wp_region_dt 7 (by kernel_rfl) (by kernel_rfl) ?_
              simp only [List.take_succ_cons, List.take_zero, List.drop_succ_cons, List.drop_zero]
              repeat (first
                  | go_big_quiet_skip
                  | (go_big_quiet_want
                     go_big_quiet_op
                     first
                       | go_big_quiet_on
                       | (apply Exists.intro
                          refine ⟨fun w1 hC => ?_, ?_⟩
                          · first
                              | (obtain ⟨nn, rfl⟩ := hC; go_simp; exact rfl)
                              | (go_simp; exact ⟨rfl, rfl⟩)
                          go_big_quiet_on)))
              refine wpQuiet_nil ?_
              intro w6 hK6
              obtain ⟨n6, rfl⟩ := hK6
              have HO6 : Hid (OwnE (w5.drewN n6) w.heap.size (.slice (some ⟨g5, 0, none⟩) (k + 1) (k + 1)) (O ++ [zE])) := Lib.hid H1.out
              have HB6 : Hid (Box (w5.drewN n6) xb x) := Lib.hid (HB5.out.drewN n6)
              have HW6 : Hid (Below w.heap.size w (w5.drewN n6)) := Lib.hid (HW5.out.trans ⟨rfl, rfl, rfl, Nat.le_refl _, fun _ _ => rfl⟩)
              generalize w5.drewN n6 = w6 at *
              clear H1 HB5 HW5
              refine wpList_copy_E rfl _ _ rfl HL5.out (Nat.le_refl k) HO6.out (some ⟨g5, 0, none⟩) (some ⟨g5, k * 7, none⟩) 0 1 0 1 (by omega) (by omega) rfl rfl (fun h => absurd h (by omega)) ?_
              intro r7 w7 h7 hg7
              have HO7 := Lib.hid h7
              have HB7 : Hid (Box w7 xb x) := Lib.hid ((hg7.block xb (HB6.out.at7.lt) (fun e => hg5 (by simpa using e.symm))).trans HB6.out)
              have HW7 := Lib.hid (HW6.out.grown hg7 HW6.out.size (fun q e => by cases e; exact (HO6.out.facts HL5.out).2.2.2.2.1))
              have hl7 : ((O ++ [zE]).take (k + 1) ++ ((O ++ [zE]).drop k).take (k - k)).length = k + 1 := by have := HM.out; simp; omega
              have HL7 := Lib.hid hl7
              have HMV := Lib.hid (moved_set (x := x) (z := zE) HM.out (Nat.le_refl k))
              generalize (O ++ [zE]).take (k + 1) ++ ((O ++ [zE]).drop k).take (k - k) = L7 at *
              have hf7 := h7.facts hl7
              obtain ⟨y7, hy7⟩ : ∃ y, L7[k]? = some y := ⟨_, List.getElem?_eq_getElem (by omega)⟩
              obtain ⟨d0, d1, d2, d3, d4, d5, d6⟩ := hf7.1 k y7 hy7
              clear hy7
              have fz := hf7.2.1
              have f0 := fz (k * 7)
              have f1 := fz (k * 7 + 1)
              have f2 := fz (k * 7 + 2)
              have f3 := fz (k * 7 + 3)
              have f4 := fz (k * 7 + 4)
              have f5 := fz (k * 7 + 5)
              have f6 := fz (k * 7 + 6)
              obtain ⟨b0, b1, b2, b3, b4, b5, b6⟩ := HB7.out.cells
              have HBG : Hid (w.heap.size ≤ g5) := Lib.hid hf7.2.2.2.2.1
              have i5 : (k : Int) < (k : Int) + 1 := by omega
              clear h7 hg7 hl7 hf7 fz HO6 HB6 HW6
              go_upto_region 14 with (fail)
              go_wp2_with fail
              refine ⟨⟨i + 1, .slice (some ⟨g5, 0, none⟩) (k + 1) (k + 1), by omega, by go_num, rfl, Lib.hid ?_, Lib.hid ?_⟩, by simp [intOf]; omega⟩
              · rw [HTN.out, HIN.out, ← HMV.out]
                exact HO7.out.put7 x (by omega) HL7.out
              · exact ((((((HW7.out.setCell HBG.out _).setCell HBG.out _).setCell HBG.out _).setCell HBG.out _).setCell HBG.out _).setCell HBG.out _).setCell HBG.out _
            · refine wp_region_dt 7 (by kernel_rfl) (by kernel_rfl) ?_
              simp only [List.take_succ_cons, List.take_zero, List.drop_succ_cons, List.drop_zero]
              repeat (first
                  | go_big_quiet_skip
                  | (go_big_quiet_want
                     go_big_quiet_op
                     first
                       | go_big_quiet_on
                       | (apply Exists.intro
                          refine ⟨fun w1 hC => ?_, ?_⟩
                          · first
                              | (obtain ⟨nn, rfl⟩ := hC; go_simp; exact rfl)
                              | (go_simp; exact ⟨rfl, rfl⟩)
                          go_big_quiet_on)))
              refine wpQuiet_nil ?_
              intro w6 hK6
              obtain ⟨n6, rfl⟩ := hK6
              have HO6 : Hid (OwnE (w5.drewN n6) w.heap.size (.slice (some ⟨g5, 0, none⟩) (m + 1) c5') (O ++ [zE])) := Lib.hid H1.out
              have HB6 : Hid (Box (w5.drewN n6) xb x) := Lib.hid (HB5.out.drewN n6)
              have HW6 : Hid (Below w.heap.size w (w5.drewN n6)) := Lib.hid (HW5.out.trans ⟨rfl, rfl, rfl, Nat.le_refl _, fun _ _ => rfl⟩)
              generalize w5.drewN n6 = w6 at *
              clear H1 HB5 HW5
              refine wpList_copy_E rfl _ _ rfl HL5.out hk HO6.out (some ⟨g5, (k + 1) * 7, none⟩) (some ⟨g5, k * 7, none⟩) (m - k) (m + 1 - k) (c5' - (k + 1)) (c5' - k) rfl rfl rfl rfl (fun _ => ⟨rfl, rfl⟩) ?_
              intro r7 w7 h7 hg7
              have HO7 := Lib.hid h7
              have HB7 : Hid (Box w7 xb x) := Lib.hid ((hg7.block xb (HB6.out.at7.lt) (fun e => hg5 (by simpa using e.symm))).trans HB6.out)
              have HW7 := Lib.hid (HW6.out.grown hg7 HW6.out.size (fun q e => by cases e; exact (HO6.out.facts HL5.out).2.2.2.2.1))
              have hl7 : ((O ++ [zE]).take (k + 1) ++ ((O ++ [zE]).drop k).take (m - k)).length = m + 1 := by have := HM.out; simp; omega
              have HL7 := Lib.hid hl7
              have HMV := Lib.hid (moved_set (x := x) (z := zE) HM.out hk)
              generalize (O ++ [zE]).take (k + 1) ++ ((O ++ [zE]).drop k).take (m - k) = L7 at *
              have hf7 := h7.facts hl7
              obtain ⟨y7, hy7⟩ : ∃ y, L7[k]? = some y := ⟨_, List.getElem?_eq_getElem (by omega)⟩
              obtain ⟨d0, d1, d2, d3, d4, d5, d6⟩ := hf7.1 k y7 hy7
              clear hy7
              have fz := hf7.2.1
              have f0 := fz (k * 7)
              have f1 := fz (k * 7 + 1)
              have f2 := fz (k * 7 + 2)
              have f3 := fz (k * 7 + 3)
              have f4 := fz (k * 7 + 4)
              have f5 := fz (k * 7 + 5)
              have f6 := fz (k * 7 + 6)
              obtain ⟨b0, b1, b2, b3, b4, b5, b6⟩ := HB7.out.cells
              have HBG : Hid (w.heap.size ≤ g5) := Lib.hid hf7.2.2.2.2.1
              have i5 : (k : Int) < (m : Int) + 1 := by omega
              clear h7 hg7 hl7 hf7 fz HO6 HB6 HW6
              go_upto_region 14 with (fail)
              go_wp2_with fail
              refine ⟨⟨i + 1, .slice (some ⟨g5, 0, none⟩) (m + 1) c5', by omega, by go_num, rfl, Lib.hid ?_, Lib.hid ?_⟩, by simp [intOf]; omega⟩
              · rw [HTN.out, HIN.out, ← HMV.out]
                exact HO7.out.put7 x (by omega) HL7.out
              · exact ((((((HW7.out.setCell HBG.out _).setCell HBG.out _).setCell HBG.out _).setCell HBG.out _).setCell HBG.out _).setCell HBG.out _).setCell HBG.out _
    · obtain rfl : i = n := by omega
      go_wp2_with fail
      go_ret
      have h1 := HO.out
      rw [← HN.out, List.take_length] at h1
      exact ⟨v, rfl, h1, HW.out⟩
end Go.Proofs.Ytomoldfgnbjliaa
