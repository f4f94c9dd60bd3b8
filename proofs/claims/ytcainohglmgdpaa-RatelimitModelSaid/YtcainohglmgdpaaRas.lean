/- The law RatelimitLeft. -/
import Derived.Test.YtcainohglmgdpaaRaq
import Derived.Test.YtcainohglmgdpaaRar
namespace Go.Proofs.Ytcainohglmgdpaa
open Go.RowKit Go.Maps Go.WideElems Go.WideMaps Go.WideShapes Go.Sort Go.Shelf
@[go_sem] theorem eqLim (a : Addr) (w : World) : (binOp .eql 25 (.pointer (some a)) (.pointer none)).run Try.prog w = .ok (.bool false) w := eqNil a w
set_option maxRecDepth 100000 in
@[go_sem] theorem eqLim0 (w : World) : (binOp .eql 25 (.pointer none) (.pointer none)).run Try.prog w = .ok (.bool true) w := by
  have h : ∀ d : Nat, (Op.equalIn (d + 1) 25 (.pointer none) (.pointer none)).run Try.prog w = .ok true w := fun d => by
    simp [Op.equalIn, run_underlying Try.underlying25, sizeOf, typeInfo]
  simp only [binOp]
  simp [Op.equal, Op.maxDepth, h 9999]
section
variable {w w' : World} {g m : Nat} {S : RS} {b i n : Int} {a1 a2 : Option Addr} {n1 c1 n2 c2 : Nat}
theorem Blk.cells5 {g : Nat} {t : TypeId} {a0 a1 a2 a3 a4 : Value} (h : Blk w g t #[a0, a1, a2, a3, a4]) :
    w.cell? ⟨g, 0, none⟩ = some a0 ∧ w.cell? ⟨g, 1, none⟩ = some a1 ∧ w.cell? ⟨g, 2, none⟩ = some a2 ∧ w.cell? ⟨g, 3, none⟩ = some a3 ∧ w.cell? ⟨g, 4, none⟩ = some a4 :=
  ⟨h.cell 0, h.cell 1, h.cell 2, h.cell 3, h.cell 4⟩
def largeB (n1 n2 : Nat) : Bool := decide ((60 : Int) < n1) || decide ((60 : Int) < n2)
set_option maxRecDepth 100000 in
theorem large_c (w : World) : Calls Try.prog 10 #[.agg #[.int .i64 b, .int .i64 i, .int .i64 n, .slice a1 n1 c1, .slice a2 n2 c2]] w fun r w' => r = .returned (.bool (largeB n1 n2)) ∧ Below w.heap.size w w' := by
  have HB : Hid (Below w.heap.size w (w.alloc (.cells #[.int .i64 b, .int .i64 i, .int .i64 n, .slice a1 n1 c1, .slice a2 n2 c2] 24))) := Lib.hid ((Below.refl _ _).alloc (Nat.le_refl _) _)
  unfold largeB
  by_cases h1 : (60 : Int) < n1
  · rw [decide_eq_true h1]
    go_enter Try.func10, Try.ntmps10
    go_wp2
    go_ret
    exact ⟨rfl, HB.out⟩
  · rw [decide_eq_false h1, Bool.false_or]
    go_enter Try.func10, Try.ntmps10
    go_wp2
    go_ret
    exact ⟨rfl, HB.out⟩
theorem large_no (h : largeB n1 n2 = false) : n1 ≤ 60 ∧ n2 ≤ 60 := by
  unfold largeB at h
  rw [Bool.or_eq_false_iff] at h
  simp at h
  omega
/-- an event of a row, in a world behind -/
theorem ev_at {L : List Ev} (h : Rows' REv w (.slice a1 n1 c1) L) {i : Nat} (hi : i < L.length) : ∃ g o, a1 = some ⟨g, o, none⟩ ∧ n1 = L.length ∧ n1 ≤ c1 ∧ ∀ w', Below w.heap.size w w' → w'.cell? ⟨g, o + i * 2, none⟩ = some (.string L[i].k) ∧ w'.cell? ⟨g, o + i * 2 + 1, none⟩ = some (.int .i64 L[i].n) := by
  obtain ⟨ao, cap, e, hc, h1⟩ := rows_at h
  simp only [Value.slice.injEq] at e
  obtain ⟨rfl, rfl, rfl⟩ := e
  obtain ⟨g, o, rfl, _⟩ := h1 i hi
  refine ⟨g, o, rfl, rfl, hc, fun w' hb => ?_⟩
  obtain ⟨ao, cap, e, _, h2⟩ := rows_at (h.below hb)
  simp only [Value.slice.injEq] at e
  obtain ⟨rfl, _, rfl⟩ := e
  obtain ⟨g', o', e2, k⟩ := h2 i hi
  simp only [Option.some.injEq, Addr.mk.injEq] at e2
  obtain ⟨rfl, rfl, _⟩ := e2
  exact ⟨k 0 _ rfl, k 1 _ rfl⟩
set_option maxRecDepth 100000 in
set_option maxHeartbeats 8000000 in
theorem lawLeft_c {L : List Ev} (hL : Rows' REv w (.slice a1 n1 c1) L) (hE : OkE L) :
    Calls Try.prog 6 #[.agg #[.int .i64 b, .int .i64 i, .int .i64 n, .slice a1 n1 c1, .slice a2 n2 c2]] w fun r w' => r = .returned (.bool true) ∧ Below w.heap.size w w' := by
  have HB : Hid (Below w.heap.size w (w.alloc (.cells #[.int .i64 b, .int .i64 i, .int .i64 n, .slice a1 n1 c1, .slice a2 n2 c2] 24))) := Lib.hid ((Below.refl _ _).alloc (Nat.le_refl _) _)
  have HX : Hid (Blk (w.alloc (.cells #[.int .i64 b, .int .i64 i, .int .i64 n, .slice a1 n1 c1, .slice a2 n2 c2] 24)) w.heap.size 24 #[.int .i64 b, .int .i64 i, .int .i64 n, .slice a1 n1 c1, .slice a2 n2 c2]) := Lib.hid (Blk.new _ _ _)
  have HL := Lib.hid hL
  have HE := Lib.hid hE
  clear hL hE
  go_enter Try.func6, Try.ntmps6
  go_upto_region 1 with fail
  generalize w.alloc (.cells #[.int .i64 b, .int .i64 i, .int .i64 n, .slice a1 n1 c1, .slice a2 n2 c2] 24) = W at *
  obtain ⟨p, hp⟩ : ∃ p, w.heap.size = p := ⟨_, rfl⟩
  have HPW : Hid (w.heap.size = p) := Lib.hid hp
  rw [hp] at HX ⊢
  clear hp
  obtain ⟨x0, x1, x2, x3, x4⟩ := HX.out.cells5
  cases hk : okR b i n
  · have HN := Lib.hid (new_out b i n W hk)
    go_wp2_with (first
      | (go_at_call 8; with_reducible refine HN.out.mono ?_; rintro r w1 ⟨rfl, rfl⟩)
      | (go_at_call 11; with_reducible refine (alive_c _).mono ?_; rintro r w2 ⟨rfl, hb2⟩))
    go_ret
    exact ⟨rfl, HB.out.trans (hb2.mono HB.out.size)⟩
  · have HN := Lib.hid (new_c b i n W hk)
    have HOK := Lib.hid (firstR_ok hk)
    go_upto_region 2 with (go_at_call 8; with_reducible refine HN.out.mono ?_; rintro r w1 ⟨g, m, rfl, hl, hb, hg, hm⟩; have HLM := Lib.hid hl; have HB1 := Lib.hid (HB.out.trans (hb.mono HB.out.size)); have HG := Lib.hid (Nat.le_trans HB.out.size hg); have HM := Lib.hid (Nat.le_trans HB.out.size hm); have HX1 := Lib.hid (HX.out.keep hb); clear hl hb hg hm)
    clear HN HX HB x0 x1 x2 x3 x4
    obtain ⟨x0, x1, x2, x3, x4⟩ := HX1.out.cells5
    have HLG := Lib.hid fun w => large_c (b := b) (i := i) (n := n) (a1 := a1) (n1 := n1) (c1 := c1) (a2 := a2) (n2 := n2) (c2 := c2) w
    cases hlg : largeB n1 n2
    · rw [hlg] at HLG
      have HSZ := Lib.hid (large_no hlg)
      go_wp2_with (go_at_call 10; with_reducible refine (HLG.out _).mono ?_; rintro r w2 ⟨rfl, hb2⟩; have HB2 := Lib.hid (HB1.out.trans (hb2.mono HB1.out.size)); have HLM2 := Lib.hid (HLM.out.keep hb2); have HX2 := Lib.hid (HX1.out.keep hb2); clear hb2)
      clear HX1 HLM HB1 x0 x1 x2 x3 x4
      have HGP : Hid (w.heap.size ≤ g ∧ w.heap.size ≤ m) := Lib.hid ⟨HG.out, HM.out⟩
      go_loopw [4] (fun vi wr => ∃ (j : Nat) (S : RS), j ≤ n1 ∧ vi = .int .i64 j ∧ Hid (S.Ok j) ∧ Hid (Lim wr g m S) ∧ Hid (Blk wr p 24 #[.int .i64 b, .int .i64 i, .int .i64 n, .slice a1 n1 c1, .slice a2 n2 c2]) ∧ Hid (Below w.heap.size w wr)) (fun vi _ => n1 - (intOf vi).toNat)
      case atStart => exact ⟨0, firstR b i n, Nat.zero_le _, rfl, HOK, HLM2, HX2, HB2⟩
      case round =>
        obtain ⟨j, S, hj, rfl, HOK, HLM, HX, HB⟩ := hrel
        obtain ⟨x0, x1, x2, x3, x4⟩ := HX.out.cells5
        by_cases hlt : j < n1
        · have hlt' : (j : Int) < (n1 : Int) := by omega
          have hsz60 := HSZ.out.1
          have hjl : j < L.length := by
            obtain ⟨ao, cap, e, _⟩ := rows_at HL.out
            simp only [Value.slice.injEq] at e
            omega
          obtain ⟨ge, oe, rfl, hn1, hn1c, hev⟩ := ev_at HL.out hjl
          obtain ⟨q0, q1⟩ := hev wr HB.out
          have hks := HE.out _ (List.getElem_mem hjl)
          generalize L[j] = x at hev q0 q1 hks
          have HKS := Lib.hid hks.1
          have HBE : Hid (Below wr.heap.size wr (wr.alloc (.cells #[.string x.k, .int .i64 x.n] 41))) := Lib.hid ((Below.refl _ _).alloc (Nat.le_refl _) _)
          have HXE : Hid (Blk (wr.alloc (.cells #[.string x.k, .int .i64 x.n] 41)) wr.heap.size 41 #[.string x.k, .int .i64 x.n]) := Lib.hid (Blk.new _ _ _)
          have HLM1 := Lib.hid (HLM.out.keep HBE.out)
          have HB1 := Lib.hid (HB.out.trans (HBE.out.mono HB.out.size))
          have HXE1 := HXE
          have HXC1 := Lib.hid (HX.out.keep HBE.out)
          clear hev hks hn1 hjl
          go_upto_region 8 with fail
          clear HBE HXE
          clear q0 q1 x0 x1 x2 x3 x4
          generalize wr.alloc (.cells #[.string x.k, .int .i64 x.n] 41) = W1 at *
          generalize wr.heap.size = pe at *
          obtain ⟨y0, y1⟩ : W1.cell? ⟨pe, 0, none⟩ = some (.string x.k) ∧ W1.cell? ⟨pe, 1, none⟩ = some (.int .i64 x.n) := ⟨HXE1.out.cell 0, HXE1.out.cell 1⟩
          have HLE := Lib.hid (lLeft_c x.n HLM1.out HOK.out HKS.out)
          have HT := timeR_ok HOK.out x.n
          have HL0 : Hid (0 ≤ leftR S x.k (timeR S x.n) ∧ leftR S x.k (timeR S x.n) ≤ 1000000) := Lib.hid ⟨left_nonneg HOK.out HT.1, left_le HOK.out HT.1⟩
          have HYES := Lib.hid fun h => allow_yes (now := x.n) (s := x.k) HOK.out h
          have HNO := Lib.hid fun h => allow_no (S := S) (now := x.n) (s := x.k) h
          have HOK2 : Hid ((allowR S x.k x.n).1.Ok ((j + 1 : Nat) : Int)) := Lib.hid (by have := allowR_ok HOK.out x.k x.n; exact_mod_cast this)
          have HAC := Lib.hid fun w1 (h1 : Lim w1 g m S) => allow_c x.n h1 HOK.out (by have := HSZ.out.1; omega) HKS.out
          have HSA : Hid (0 ≤ S.al ∧ S.al ≤ 60 ∧ 0 ≤ S.dr ∧ S.dr ≤ 60) := Lib.hid ⟨HOK.out.a0, by have := HOK.out.a1; have := HSZ.out.1; omega, HOK.out.r0, by have := HOK.out.r1; have := HSZ.out.1; omega⟩
          clear HT
          generalize hl0 : leftR S x.k (timeR S x.n) = l0 at *
          go_wp2_with fail
          with_reducible refine HLE.out.mono ?_
          rintro r W2 ⟨rfl, hb⟩
          have HLM2 := Lib.hid (HLM1.out.keep hb)
          have HXE2 := Lib.hid (HXE1.out.keep hb)
          have HXC2 := Lib.hid (HXC1.out.keep hb)
          have HB2 := Lib.hid (HB1.out.trans (hb.mono HB1.out.size))
          clear hb HLE HLM1 HXE1 HXC1 HB1 y0 y1
          go_wp2_with fail
          with_reducible refine (total_c HLM2.out).mono ?_
          rintro r W3 ⟨rfl, hb⟩
          have HLM3 := Lib.hid (HLM2.out.keep hb)
          have HXE3 := Lib.hid (HXE2.out.keep hb)
          have HXC3 := Lib.hid (HXC2.out.keep hb)
          have HB3 := Lib.hid (HB2.out.trans (hb.mono HB2.out.size))
          clear hb HLM2 HXE2 HXC2 HB2
          obtain ⟨y0, y1⟩ : W3.cell? ⟨pe, 0, none⟩ = some (.string x.k) ∧ W3.cell? ⟨pe, 1, none⟩ = some (.int .i64 x.n) := ⟨HXE3.out.cell 0, HXE3.out.cell 1⟩
          have HA3 := Lib.hid (HAC.out W3 HLM3.out)
          clear HAC
          by_cases hz : l0 = 0
          · obtain ⟨f1, _, f3, f4, f5⟩ := HNO.out hz
            rw [f1] at HA3
            generalize (allowR S x.k x.n).1 = T at *
            clear HYES HNO
            subst hz
            go_wp2_with fail
            with_reducible refine HA3.out.mono ?_
            rintro r W4 ⟨rfl, hl, ha⟩
            have HMN : Hid (¬ Fl g m p ∧ ¬ Fl g m pe) := Lib.hid (by
              obtain ⟨D, h2, _⟩ := HLM3.out.mp
              exact ⟨fun h => h.elim (HXC3.out.ne HLM3.out.blk (by decide)) (HXC3.out.ne_map h2), fun h => h.elim (HXE3.out.ne HLM3.out.blk (by decide)) (HXE3.out.ne_map h2)⟩)
            have HLM4 := Lib.hid hl
            have HXE4 := Lib.hid (ha.blk HXE3.out HMN.out.2)
            have HXC4 := Lib.hid (ha.blk HXC3.out HMN.out.1)
            have HB4 := Lib.hid (HB3.out.trans (fl_below ha HB3.out.size HGP.out.1 HGP.out.2))
            clear hl ha HLM3 HXE3 HXC3 HB3 HA3 y0 y1
            go_wp2_with fail
            with_reducible refine (total_c HLM4.out).mono ?_
            rintro r W5 ⟨rfl, hb⟩
            have HLM5 := Lib.hid (HLM4.out.keep hb)
            have HXE5 := Lib.hid (HXE4.out.keep hb)
            have HXC5 := Lib.hid (HXC4.out.keep hb)
            have HB5 := Lib.hid (HB4.out.trans (hb.mono HB4.out.size))
            clear hb HLM4 HXE4 HXC4 HB4
            rw [f3, f4]
            have hw1 : IntKind.i64.wrap (S.dr + 1) = S.dr + 1 := IntWalk.i64_in _ (by have := HSA.out; omega)
            go_wp2_with fail
            go_roundw
            case rel => exact ⟨j + 1, T, hlt, by go_num, HOK2, HLM5, HXC5, HB5⟩
            case measure => simp [intOf]; omega
          · obtain ⟨f1, _, f2, f3, f4, f5⟩ := HYES.out hz
            rw [f1] at HA3
            generalize (allowR S x.k x.n).1 = T at *
            clear HYES HNO
            go_wp2_with fail
            with_reducible refine HA3.out.mono ?_
            rintro r W4 ⟨rfl, hl, ha⟩
            have HMN : Hid (¬ Fl g m p ∧ ¬ Fl g m pe) := Lib.hid (by
              obtain ⟨D, h2, _⟩ := HLM3.out.mp
              exact ⟨fun h => h.elim (HXC3.out.ne HLM3.out.blk (by decide)) (HXC3.out.ne_map h2), fun h => h.elim (HXE3.out.ne HLM3.out.blk (by decide)) (HXE3.out.ne_map h2)⟩)
            have HLM4 := Lib.hid hl
            have HXE4 := Lib.hid (ha.blk HXE3.out HMN.out.2)
            have HXC4 := Lib.hid (ha.blk HXC3.out HMN.out.1)
            have HB4 := Lib.hid (HB3.out.trans (fl_below ha HB3.out.size HGP.out.1 HGP.out.2))
            clear hl ha HLM3 HXE3 HXC3 HB3 HA3 y0 y1
            go_wp2_with fail
            with_reducible refine (total_c HLM4.out).mono ?_
            rintro r W5 ⟨rfl, hb⟩
            have HLM5 := Lib.hid (HLM4.out.keep hb)
            have HXE5 := Lib.hid (HXE4.out.keep hb)
            have HXC5 := Lib.hid (HXC4.out.keep hb)
            have HB5 := Lib.hid (HB4.out.trans (hb.mono HB4.out.size))
            clear hb HLM4 HXE4 HXC4 HB4
            rw [f3, f4]
            have hw1 : IntKind.i64.wrap (S.al + 1) = S.al + 1 := IntWalk.i64_in _ (by have := HSA.out; omega)
            have hw2 : IntKind.i64.wrap (l0 - 1) = l0 - 1 := IntWalk.i64_in _ (by have := HL0.out; omega)
            have hpos : 0 < l0 := by have := HL0.out; omega
            have HLE5 := Lib.hid (lLeft_c x.n HLM5.out HOK2.out HKS.out)
            rw [f2] at HLE5
            obtain ⟨y0, y1⟩ : W5.cell? ⟨pe, 0, none⟩ = some (.string x.k) ∧ W5.cell? ⟨pe, 1, none⟩ = some (.int .i64 x.n) := ⟨HXE5.out.cell 0, HXE5.out.cell 1⟩
            go_wp2_with fail
            with_reducible refine HLE5.out.mono ?_
            rintro r W6 ⟨rfl, hb⟩
            have HLM6 := Lib.hid (HLM5.out.keep hb)
            have HXC6 := Lib.hid (HXC5.out.keep hb)
            have HB6 := Lib.hid (HB5.out.trans (hb.mono HB5.out.size))
            clear hb
            go_wp2_with fail
            go_roundw
            case rel => exact ⟨j + 1, T, hlt, by go_num, HOK2, HLM6, HXC6, HB6⟩
            case measure => simp [intOf]; omega
        · obtain rfl : j = n1 := by omega
          go_wp2_with (go_at_call 11; with_reducible refine (alive_c _).mono ?_; rintro r w2 ⟨rfl, hb2⟩)
          go_ret
          exact ⟨rfl, HB.out.trans (hb2.mono HB.out.size)⟩
    · rw [hlg] at HLG
      go_wp2_with (first
        | (go_at_call 10; with_reducible refine (HLG.out _).mono ?_; rintro r w2 ⟨rfl, hb2⟩; have HB2 := Lib.hid (HB1.out.trans (hb2.mono HB1.out.size)); clear hb2)
        | (go_at_call 11; with_reducible refine (alive_c _).mono ?_; rintro r w3 ⟨rfl, hb2⟩))
      go_ret
      exact ⟨rfl, HB2.out.trans (hb2.mono HB2.out.size)⟩
end
end Go.Proofs.Ytcainohglmgdpaa
