/- Ranges over the buckets: is there room; make room. -/
import Derived.Test.YtcainohglmgdpaaRah
namespace Go.Proofs.Ytcainohglmgdpaa
open Go.RowKit Go.Maps Go.WideElems Go.WideMaps Go.WideShapes Go.Sort
/-- block r ranges over the map of L in block m; left tells what is still to come -/
def Rn (w : World) (m r : Nat) (L : List Bk) (left : Lit → Bool) (cnt : Nat) : Prop := ∃ D n, w.ranges Try.prog 9 Rid m r n D left cnt ∧ MB D L
section
variable {w w' : World} {g m r cnt : Nat} {S : RS} {L : List Bk} {left : Lit → Bool} {F : Nat → Prop} {e : Int}
theorem below_grown {w w' : World} (hb : Below w.heap.size w w') : w.grownBy w' none := ⟨hb.os, hb.tape, hb.output, hb.size, fun k hk _ => hb.block k hk⟩
theorem Rn.below (h : Rn w m r L left cnt) (hb : Below w.heap.size w w') : Rn w' m r L left cnt := by
  obtain ⟨D, n, h, hD⟩ := h
  exact ⟨D, n, h.kept (below_grown hb) (by simp) (by simp), hD⟩
theorem Rn.mp (h : Rn w m r L left cnt) : Mp w m L := by obtain ⟨D, n, h, hD⟩ := h; exact Mp.of h.owns hD
theorem Rn.left_eq (h : Rn w m r L left cnt) : w.rangeLeft m r = cnt := by obtain ⟨D, n, h, hD⟩ := h; exact h.left_eq
theorem Rn.lt (h : Rn w m r L left cnt) : r < w.heap.size ∧ m < w.heap.size ∧ r ≠ m := by obtain ⟨D, n, h, hD⟩ := h; exact ⟨h.lt, h.owns.lt, h.ne⟩
theorem wpList_range_M {ops : Array Oper} {rest : List Oper} {o : Oper} {a : Act} {Q : Exit → Act → World → Prop} (hg : o.guard = none) (x : Operand) (hop : o.op = Op.range 45 x) (hm : a.eval x = .map (some m)) (hown : Mp w m L)
    (hK : ∀ w' left cnt, (∀ s, left (keyS s) = hasB L s) → Rn w' m w.heap.size L left cnt → w.grownBy w' none → w'.heap.size = w.heap.size + 1 → wpList Try.prog ops Q rest (a.put o.dst (.pointer (some ⟨w.heap.size, 0, none⟩))) w') :
    wpList Try.prog ops Q (o :: rest) a w := by
  obtain ⟨D, h, hD⟩ := hown
  exact wpList_range_own w hg x 45 hop 9 61 keyedS Try.underlying45 Rid m _ D hm h fun w' h1 h2 h3 => hK w' _ _ hD.h ⟨D, _, h1, hD⟩ h2 h3
theorem wpList_next_M {ops : Array Oper} {rest : List Oper} {o : Oper} {a : Act} {Q : Exit → Act → World → Prop} (hg : o.guard = none) (it : Operand) (hop : o.op = Op.next it false) (hit : a.eval it = .pointer (some ⟨r, 0, none⟩)) (h : Rn w m r L left cnt)
    (hDone : (∀ kl, left kl = false) → wpList Try.prog ops Q rest (a.put o.dst (.tuple #[.bool false])) w)
    (hMore : ∀ (x : Bk) (w' : World) (cnt' : Nat), x ∈ L → x.k.size ≤ maxLen → left (keyS x.k) = true → Rn w' m r L (fun z => left z && !z.sameKey (keyS x.k)) cnt' → cnt' < cnt → w.grownBy w' (some r) → w'.heap.size = w.heap.size →
      (Instr.entry (.pointer (some ⟨r, 0, none⟩))).run Try.prog w' = .ok (.tuple #[.string x.k, .agg #[.int .i64 x.l, .int .i64 x.c, .int .i64 x.d]]) w' → wpList Try.prog ops Q rest (a.put o.dst (.tuple #[.bool true, .string x.k, .agg #[.int .i64 x.l, .int .i64 x.c, .int .i64 x.d]])) w') :
    wpList Try.prog ops Q (o :: rest) a w := by
  obtain ⟨D, n, h, hD⟩ := h
  refine wpList_next_ranges w hg it hop 9 keyedS Rid (id : Value → Value) (id : Value → Value) (fun key kl _ => ⟨key, rfl⟩) (fun v y _ => ⟨v, rfl⟩) m r n D left cnt hit h (fun _ h => hDone h) ?_
  intro key v kl y w' cnt' hkey hlk hv hat hrg hlt hgr hsz hen
  obtain ⟨z, rfl, rfl, hz⟩ := Maps.keyOf_str Try.underlying9 hkey
  simp only [Rid, id, Option.some.injEq] at hv
  subst hv
  obtain ⟨s, rfl⟩ : ∃ s : ByteArray, z = s.data.toList := ⟨⟨z.toArray⟩, by simp⟩
  have hh : has D (keyS s) = true := has_true_of_atKey hat
  rw [hD.h] at hh
  obtain ⟨x, hx, rfl⟩ := hasB_iff.1 hh
  have h1 := hat .nil
  have h2 := hD.a x hx .nil
  unfold keyS at h2
  rw [h2] at h1
  simp only [DataW.held.injEq] at h1
  subst h1
  have e : encStr x.k.data.toList = .string x.k := by unfold encStr; rfl
  rw [e] at hen ⊢
  exact hMore x w' cnt' hx (by rw [size_data] at hz; exact hz) hlk ⟨D, n, hrg, hD⟩ hlt hgr hsz hen
theorem wpList_delete_M {ops : Array Oper} {rest : List Oper} {o : Oper} {a : Act} {Q : Exit → Act → World → Prop} (hg : o.guard = none) (x y : Operand) (hop : o.op = Op.call { callee := Callee.builtin Builtin.delete, args := #[x, y], argTypes := #[45, 9] })
    (hm : a.eval x = .map (some m)) (hs : strict L) (h : Rn w m r L left cnt) (z : Bk) (hz : z ∈ L) (hzl : z.k.size ≤ maxLen) (hy : a.eval y = .string z.k)
    (hK : ∀ w' cnt', Rn w' m r (L.filter fun y => !decide (y.k = z.k)) (fun u => left u && !u.sameKey (keyS z.k)) cnt' → cnt' ≤ cnt → w.grownBy w' (some m) → wpList Try.prog ops Q rest (a.put o.dst (.tuple #[])) w') :
    wpList Try.prog ops Q (o :: rest) a w := by
  obtain ⟨D, n, h, hD⟩ := h
  exact wpList_delete_ranges w hg x y 45 9 hop 61 keyedS Try.underlying45 Rid m r n D left cnt hm h (.string z.k) (keyS z.k) hy (keyOfS hzl) fun w' cnt' h1 h2 h3 => hK w' cnt' ⟨_, n, h1, hD.del hs hz⟩ h2 h3.grown
set_option maxRecDepth 100000 in
set_option maxHeartbeats 8000000 in
theorem hasRoom_c {t : Int} (h : Lim w g m S) (hS : S.Ok e) (ht : S.t ≤ t) (ht2 : t ≤ 1125899906842624) :
    Calls Try.prog 42 #[.pointer (some ⟨g, 0, none⟩), .int .i64 t] w fun r w' => r = .returned (.bool (roomR S t)) ∧ Below w.heap.size w w' := by
  have HC := Lib.hid h
  have HF : Hid (∀ x ∈ S.L, ∀ w1, Lim w1 g m S → Calls Try.prog 47 #[.pointer (some ⟨g, 0, none⟩), .agg #[.int .i64 x.l, .int .i64 x.c, .int .i64 x.d], .int .i64 t] w1 fun e w' => e = .returned (.bool (fullB S.b S.i x t)) ∧ Below w1.heap.size w1 w') :=
    Lib.hid fun x hx w1 h1 => full_c h1 hS (hS.bk x hx) ht ht2
  have HST := Lib.hid hS.st
  generalize hR : roomR S t = b
  have HR := Lib.hid hR
  clear h hR hS ht ht2
  go_enter Try.func42, Try.ntmps42
  go_upto_region 1 with fail
  refine wp_region_kp (by kernel_rfl) (by kernel_rfl) ?_
  repeat (first
    | go_big_quiet_skip
    | (go_big_quiet_want
       first
         | (go_big_quiet_op
            first
              | go_big_quiet_on
              | (apply Exists.intro
                 refine ⟨fun w1 hC => ?_, ?_⟩
                 · first
                     | (obtain ⟨c0, c1, c2, c3, c4, c5, c6, c7⟩ := (HC.out.keep hC).cells; go_simp; first | exact rfl | exact ⟨rfl, rfl⟩)
                     | (have hl := fun ty => (HC.out.keep hC).mp.len ty; go_simp; first | exact rfl | exact ⟨rfl, rfl⟩)
                     | exact rfl
                     | (go_simp; exact ⟨rfl, rfl⟩)
                 go_big_quiet_on))))
  refine wpQuiet_nil ?_
  intro W1 hC1
  have HL1 := Lib.hid (HC.out.keep hC1)
  have HB1 : Hid (Below w.heap.size w W1) := Lib.hid hC1
  clear HC hC1
  by_cases hlen : (S.L.length : Int) < S.n
  · obtain rfl : b = true := by rw [← HR.out]; unfold roomR; rw [decide_eq_true hlen]; rfl
    go_wp2_with fail
    go_ret
    exact ⟨rfl, HB1.out⟩
  · obtain ⟨c0, c1, c2, c3, c4, c5, c6, c7⟩ := HL1.out.cells
    go_wp2_with (at_range; refine wpList_range_M rfl _ rfl rfl HL1.out.mp ?_; intro w0 left0 cnt0 hl0 hrg0 hg0 hs0)
    have HRN := Lib.hid hrg0
    have HLF := Lib.hid hl0
    have HB2 : Hid (Below w.heap.size w w0) := Lib.hid (HB1.out.grown hg0 HB1.out.size (fun k e => by cases e))
    have HL2 : Hid (Lim w0 g m S) := Lib.hid (HL1.out.keep ⟨hg0.os, hg0.tape, hg0.output, hg0.size, fun k hk => hg0.block k hk (by simp)⟩)
    have HW1 : Hid (w.heap.size ≤ W1.heap.size) := Lib.hid HB1.out.size
    clear hrg0 hg0 hs0 hl0 HB1 HL1 c0 c1 c2 c3 c4 c5 c6 c7
    generalize W1.heap.size = r at *
    go_loopw [6] (fun _ w2 => ∃ (left : Lit → Bool) (cnt : Nat), Hid (Rn w2 m r S.L left cnt) ∧ Hid (Lim w2 g m S) ∧ Hid (∀ x ∈ S.L, left (keyS x.k) = false → fullB S.b S.i x t = false) ∧ Hid (Below w.heap.size w w2)) (fun _ w2 => w2.rangeLeft m r)
    case atStart => exact ⟨left0, cnt0, HRN, HL2, Lib.hid (fun x hx h => by rw [HLF.out, hasB_iff.2 ⟨x, hx, rfl⟩] at h; cases h), HB2⟩
    case round =>
      obtain ⟨left, cnt, HRN, HL, HA, HB⟩ := hrel
      go_wp2_with (at_next; refine wpList_next_M rfl _ rfl rfl HRN.out ?_ ?_)
      · intro hl0
        obtain rfl : b = false := by
          rw [← HR.out]
          unfold roomR
          rw [decide_eq_false (show ¬ (S.L.length : Int) < S.n by omega), Bool.false_or, List.any_eq_false]
          intro x hx
          rw [HA.out x hx (hl0 _)]
          simp
        clear hl0
        go_wp2_with fail
        go_ret
        exact ⟨rfl, HB.out⟩
      · intro x w3 cnt3 hx hxl hlk hrg hlt hgr hsz hen
        have HRN3 := Lib.hid hrg
        have hrl := HRN.out.lt
        have HA3 : Hid (Apart (fun k => k = r) wr w3) := Lib.hid (Apart.refl.grown hgr (fun k e => .inl (by simpa using e.symm)))
        have HGR : Hid (g ≠ r) := Lib.hid (by
          intro e
          subst e
          obtain ⟨D, n, h, _⟩ := HRN.out
          obtain ⟨es, clock, since, seen, c0, _, _, _, _, hr, _⟩ := h
          have := HL.out.blk
          unfold Blk at this
          rw [this] at hr
          cases hr)
        have HL3 := Lib.hid (HL.out.apart HA3.out HGR.out (fun e => hrl.2.2 e.symm))
        have HB3 : Hid (Below w.heap.size w w3) := Lib.hid (HB.out.trans (HA3.out.below HB.out.size (fun k hk => by subst hk; exact HW1.out)))
        have HX := Lib.hid hx
        have HB4 : Hid (Below w3.heap.size w3 (w3.alloc (.cells #[.int .i64 x.l, .int .i64 x.c, .int .i64 x.d] 61))) := Lib.hid ((Below.refl _ _).alloc (Nat.le_refl _) _)
        have HL4 := Lib.hid (HL3.out.keep HB4.out)
        have HRN4 := Lib.hid (HRN3.out.below HB4.out)
        have HF4 := Lib.hid (HF.out x hx _ HL4.out)
        have HB5 := Lib.hid (HB3.out.trans (HB4.out.mono HB3.out.size))
        clear hrg hgr hlk hrl HA3 HB3 HB4 HL3 hx
        by_cases hfull : fullB S.b S.i x t = true
        · rw [hfull] at HF4
          obtain rfl : b = true := by
            rw [← HR.out]
            unfold roomR
            rw [decide_eq_false (show ¬ (S.L.length : Int) < S.n by omega), Bool.false_or, List.any_eq_true]
            exact ⟨x, HX.out, hfull⟩
          go_wp2_with (go_at_call 47; refine HF4.out.mono ?_; rintro e w5 ⟨rfl, hb5⟩; have HB6 := Lib.hid (HB5.out.trans (hb5.mono HB5.out.size)); clear hb5)
          go_ret
          exact ⟨rfl, HB6.out⟩
        · have hfull : fullB S.b S.i x t = false := by simpa using hfull
          rw [hfull] at HF4
          go_wp2_with (go_at_call 47; refine HF4.out.mono ?_; rintro e w5 ⟨rfl, hb5⟩; have HB6 := Lib.hid (HB5.out.trans (hb5.mono HB5.out.size)); have HL6 := Lib.hid (HL4.out.keep hb5); have HRN6 := Lib.hid (HRN4.out.below hb5); clear hb5)
          go_roundw
          case rel => exact ⟨_, cnt3, HRN6, HL6, Lib.hid (fun y hy hl => by
            by_cases e : y.k = x.k
            · rw [show y = x from by
                have h1 := findB_of_mem HST.out hy
                have h2 := findB_of_mem HST.out HX.out
                rw [e, h2] at h1
                simpa using h1.symm]
              exact hfull
            · refine HA.out y hy ?_
              rw [keyS_same, decide_eq_false e] at hl
              simpa using hl), HB6⟩
          case measure => rw [HRN6.out.left_eq, HRN.out.left_eq]; exact hlt
end
end Go.Proofs.Ytcainohglmgdpaa
