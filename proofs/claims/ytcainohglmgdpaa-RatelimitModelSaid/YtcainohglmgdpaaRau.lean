/- The law RatelimitBound. -/
import Derived.Test.YtcainohglmgdpaaRas
import Derived.Test.YtcainohglmgdpaaRat
namespace Go.Proofs.Ytcainohglmgdpaa
open Go.RowKit Go.Maps Go.WideElems Go.WideMaps Go.WideShapes Go.Sort Go.Shelf
def kK : ByteArray := ⟨#[107, 101, 121]⟩
section
variable {w w' : World} {g m : Nat} {S : RS} {b i n : Int} {a1 a2 : Option Addr} {n1 c1 n2 c2 : Nat}
/-- a number of a row, in a world behind -/
theorem in_at {L : List Int} (h : Rows' RIn w (.slice a1 n1 c1) L) {j : Nat} (hj : j < L.length) : ∃ g o, a1 = some ⟨g, o, none⟩ ∧ n1 = L.length ∧ n1 ≤ c1 ∧ ∀ w', Below w.heap.size w w' → w'.cell? ⟨g, o + j, none⟩ = some (.int .i64 L[j]) := by
  obtain ⟨ao, cap, e, hc, h1⟩ := rows_at h
  simp only [Value.slice.injEq] at e
  obtain ⟨rfl, rfl, rfl⟩ := e
  obtain ⟨g, o, rfl, _⟩ := h1 j hj
  refine ⟨g, o, rfl, rfl, hc, fun w' hb => ?_⟩
  obtain ⟨ao, cap, e, _, h2⟩ := rows_at (h.below hb)
  simp only [Value.slice.injEq] at e
  obtain ⟨rfl, _, rfl⟩ := e
  obtain ⟨g', o', e2, k⟩ := h2 j hj
  simp only [Option.some.injEq, Addr.mk.injEq] at e2
  obtain ⟨rfl, rfl, _⟩ := e2
  have := k 0 _ rfl
  simpa [show RIn.sz = 1 from rfl] using this
theorem own_apart {α : Type} {R : RowT α} {B : Nat} {v : Value} {L : List α} {F : Nat → Prop} (h : Own R w B v L) (ha : Apart F w w') (hF : ∀ k cs, Blk w k R.te cs → ¬ F k) : Own R w' B v L := by
  refine ⟨h.1, ?_⟩
  rcases h.2 with hn | ⟨g, cap, cur, hv, hbg, hg, rest⟩
  · exact .inl hn
  · exact .inr ⟨g, cap, cur, hv, hbg, ha.blk (show Blk w g _ _ from hg) (hF g _ hg), rest⟩
theorem fl_not {te : TypeId} (h : Lim w g m S) (ht : te ≠ 47) (_k : Nat) (cs : Array Value) (hb : Blk w _k te cs) : ¬ Fl g m _k := by
  obtain ⟨D, h2, _⟩ := h.mp
  exact fun e => e.elim (hb.ne h.blk ht) (hb.ne_map h2)
theorem own_not {α : Type} {R : RowT α} {B : Nat} {v : Value} {L : List α} (h : Own R w B v L) (hl : Lim w g m S) (ht : R.te ≠ 47) : v.ownBlock ≠ some g ∧ v.ownBlock ≠ some m := by
  obtain ⟨D, h2, _⟩ := hl.mp
  rcases h.form with ⟨e1, _⟩ | ⟨q, cap, cur, e1, _, hq, _⟩
  · rw [e1]; exact ⟨fun e => (by cases e), fun e => (by cases e)⟩
  · have hq : Blk w q R.te cur := hq
    rw [e1]
    constructor <;> intro e
    · have e : some q = some g := e
      simp only [Option.some.injEq] at e
      exact hq.ne hl.blk ht e
    · have e : some q = some m := e
      simp only [Option.some.injEq] at e
      exact hq.ne_map h2 e
theorem lim_grown {row : Option Nat} (h : Lim w g m S) (hg : w.grownBy w' row) (h1 : row ≠ some g) (h2 : row ≠ some m) : Lim w' g m S :=
  h.apart (F := fun k => row = some k) (Apart.refl.grown hg (fun k e => .inl e)) h1 h2
set_option maxRecDepth 100000 in
set_option maxHeartbeats 8000000 in
theorem lawBound_c {L : List Int} (hL : Rows' RIn w (.slice a1 n1 c1) L) (hW : ∀ x ∈ L, W64 x) :
    Calls Try.prog 5 #[.int .i64 b, .int .i64 i, .slice a1 n1 c1] w fun r w' => r = .returned (.bool true) ∧ Below w.heap.size w w' := by
  have HL := Lib.hid hL
  have HW := Lib.hid hW
  clear hL hW
  go_enter Try.func5, Try.ntmps5
  cases hk : okR b i 1
  · have HN := Lib.hid (new_out b i 1 w hk)
    go_wp2_with (first
      | (go_at_call 8; with_reducible refine HN.out.mono ?_; rintro r w1 ⟨rfl, rfl⟩)
      | (go_at_call 11; with_reducible refine (alive_c _).mono ?_; rintro r w2 ⟨rfl, hb2⟩))
    go_ret
    exact ⟨rfl, hb2⟩
  · have HN := Lib.hid (new_c b i 1 w hk)
    have HOK := Lib.hid (firstR_ok hk)
    by_cases hlen : 60 < n1
    · have hlen' : (60 : Int) < (n1 : Int) := by omega
      go_wp2_with (first
        | (go_at_call 8; with_reducible refine HN.out.mono ?_; rintro r w1 ⟨g, m, rfl, hl, hb, hg, hm⟩; have HB1 := Lib.hid hb; clear hl hb hg hm)
        | (go_at_call 11; with_reducible refine (alive_c _).mono ?_; rintro r w2 ⟨rfl, hb2⟩))
      go_ret
      exact ⟨rfl, HB1.out.trans (hb2.mono HB1.out.size)⟩
    · have hlen' : ¬ (60 : Int) < (n1 : Int) := by omega
      have HIB : Hid (1 ≤ i ∧ i ≤ 1000000 ∧ 1 ≤ b ∧ b ≤ 1000000) := Lib.hid ⟨HOK.out.i0, HOK.out.i1, HOK.out.b0, HOK.out.b1⟩
      go_wp2_with (go_at_call 8; with_reducible refine HN.out.mono ?_; rintro r w1 ⟨g, m, rfl, hl, hb, hg, hm⟩; have HLM := Lib.hid hl; have HB1 := Lib.hid hb; have HGP := Lib.hid (And.intro hg hm); clear hl hb hg hm)
      have HINV := Lib.hid (Inv.first b i 1 kK)
      clear HN
      go_loopw [8, 9, 10] (fun v8 v9 v10 wr => ∃ (j : Nat) (S : RS) (T : List Int) (v : Value), j ≤ n1 ∧ v8 = v ∧ v9 = .int .i64 S.t ∧ v10 = .int .i64 j ∧ Hid (S.Ok j) ∧ Hid (Lim wr g m S) ∧ Hid (Inv b i kK S T) ∧ Hid (T.length ≤ j ∧ ∀ u ∈ T, 0 ≤ u) ∧ Hid (Own RIn wr w.heap.size v T) ∧ Hid (Below w.heap.size w wr)) (fun _ _ v10 _ => n1 - (intOf v10).toNat)
      case atStart => exact ⟨0, firstR b i 1, [], _, Nat.zero_le _, rfl, rfl, rfl, HOK, HLM, HINV, Lib.hid ⟨Nat.le_refl _, fun u h => (by cases h)⟩, Lib.hid (Own.nil _ _), HB1⟩
      case round =>
        obtain ⟨j, S, T, v, hj, rfl, rfl, rfl, HOK, HLM, HINV, HTL, HO, HB⟩ := hrel
        by_cases hlt : j < n1
        · have hlt' : (j : Int) < (n1 : Int) := by omega
          have hjl : j < L.length := by
            obtain ⟨ao, cap, e, _⟩ := rows_at HL.out
            simp only [Value.slice.injEq] at e
            omega
          obtain ⟨ge, oe, rfl, hn1, hn1c, hev⟩ := in_at HL.out hjl
          have q0 := hev wr HB.out
          have hws := HW.out _ (List.getElem_mem hjl)
          generalize L[j] = x at hev q0 hws
          have HEV := Lib.hid hev
          have hj60 : j < 60 := by omega
          clear hev hn1 hjl
          have HAC := Lib.hid (allow_c (s := kK) x HLM.out HOK.out (by omega) (by decide))
          have HT : Hid (max S.t (min x 1125899906842624) = timeR S x) := Lib.hid rfl
          have HTK := timeR_ok HOK.out x
          have ht0 := HOK.out.t0
          have HYES := Lib.hid fun h => And.intro (allow_yes (s := kK) (now := x) HOK.out h).1 (And.intro (HINV.out.yes (now := x) HOK.out h) (allow_yes (s := kK) (now := x) HOK.out h).2.2.2.2.2)
          have HNO := Lib.hid fun h => And.intro (allow_no (S := S) (s := kK) (now := x) h).1 (And.intro (HINV.out.no (now := x) HOK.out h) (allow_no (S := S) (s := kK) (now := x) h).2.2.2.2)
          have HOK2 : Hid ((allowR S kK x).1.Ok ((j + 1 : Nat) : Int)) := Lib.hid (by have := allowR_ok HOK.out kK x; exact_mod_cast this)
          have HVS := Lib.hid HO.out.isSl
          go_upto_region 10 with fail
          rw [HT.out]
          clear HT
          generalize timeR S x = t at *
          have HTT := Lib.hid HTK
          clear HTK
          obtain ⟨av, cv, rfl⟩ := HVS.out
          go_wp2_with fail
          refine HAC.out.mono ?_
          rintro r W4 ⟨rfl, hl, ha⟩
          have HLM4 := Lib.hid hl
          have HO4 := Lib.hid (own_apart HO.out ha (fl_not HLM.out (by decide)))
          have HB4 := Lib.hid (HB.out.trans (fl_below ha HB.out.size HGP.out.1 HGP.out.2))
          clear hl ha HVS HAC HO HB HLM q0
          generalize hT2 : (allowR S kK x).1 = S2 at *
          clear hT2
          by_cases hz : leftR S kK t = 0
          · obtain ⟨f1, f2, f3⟩ := HNO.out hz
            rw [f1]
            have HINV2 := Lib.hid f2
            rw [← f3]
            clear HNO HYES hz f1 f2 f3
            go_wp2_with fail
            go_roundw
            case rel => exact ⟨j + 1, S2, T, _, hlt, rfl, rfl, by go_num, HOK2, HLM4, HINV2, Lib.hid ⟨Nat.le_succ_of_le HTL.out.1, HTL.out.2⟩, HO4, HB4⟩
            case measure => simp [intOf]; omega
          · obtain ⟨f1, f2, f3⟩ := HYES.out hz
            rw [f1]
            have HINV2 := Lib.hid f2
            clear HNO HYES hz f1 f2
            have HBA : Hid (Below W4.heap.size W4 (W4.alloc (.cells #[.int .i64 t] 3))) := Lib.hid ((Below.refl _ _).alloc (Nat.le_refl _) _)
            have HYA : Hid (Blk (W4.alloc (.cells #[.int .i64 t] 3)) W4.heap.size 3 #[.int .i64 t]) := Lib.hid (Blk.new _ _ _)
            have HOA := Lib.hid (HO4.out.below HBA.out)
            have HLA := Lib.hid (HLM4.out.keep HBA.out)
            have HWS := Lib.hid HB4.out.size
            go_wp2_with (at_builtin; refine wpList_append_one RIn rfl _ _ rfl w.heap.size (.slice av T.length cv) T T.length rfl rfl HOA.out W4.heap.size t rfl HYA.out (by have := HTL.out.1; omega) (by have := HBA.out.size; have := HWS.out; omega) ?_; intro ga ca w5 h1 h2 h3; have H1 := Lib.hid h1; have H2 := Lib.hid h2; clear h1 h2 h3)
            have hno := own_not HOA.out HLA.out (by decide)
            have HL5 := Lib.hid (lim_grown HLA.out H2.out hno.1 hno.2)
            have HB5 : Hid (Below w.heap.size w w5) := Lib.hid ((HB4.out.trans (HBA.out.mono HB4.out.size)).grown H2.out (Nat.le_trans HB4.out.size HBA.out.size) (fun k e => (HOA.out.lt k e).1))
            refine ⟨⟨j + 1, S2, T ++ [t], _, hlt, rfl, by rw [f3], by simp, HOK2, HL5, HINV2, Lib.hid ⟨by have := HTL.out.1; simp; omega, fun u hu => by rcases List.mem_append.1 hu with hu | hu; exact HTL.out.2 u hu; simp at hu; have := HTT.out.1; omega⟩, H1, HB5⟩, ?_⟩
            simp [intOf]; omega
        · obtain rfl : j = n1 := by omega
          obtain ⟨av, cv, rfl⟩ := HO.out.isSl
          have HTN : Hid (T.length ≤ 60) := Lib.hid (by have := HTL.out.1; omega)
          have HLT : Hid (∀ u ∈ T, 0 ≤ u ∧ u ≤ 1125899906842624) := Lib.hid fun u hu => ⟨HTL.out.2 u hu, Int.le_trans (HINV.out.le u hu) HOK.out.t1⟩
          have HR := Lib.hid HO.out.rows
          clear HLM HOK HO
          go_wp2_with fail
          rename World => W0
          go_loopw [11] (fun v11 w2 => ∃ (x : Nat), x ≤ T.length ∧ v11 = .int .i64 x ∧ Hid (Below W0.heap.size W0 w2)) (fun v11 _ => T.length - (intOf v11).toNat)
          case atStart => exact ⟨0, Nat.zero_le _, rfl, Lib.hid (Below.refl _ _)⟩
          case round =>
            obtain ⟨x, hx, rfl, HBX⟩ := hrel
            have htn := HTN.out
            by_cases hlx : x < T.length
            · have hlx' : (x : Int) < (T.length : Int) := by omega
              go_wp2_with fail
              go_loopw [12] (fun v12 w3 => ∃ (y : Nat), x ≤ y ∧ y ≤ T.length ∧ v12 = .int .i64 y ∧ Hid (Below W0.heap.size W0 w3)) (fun v12 _ => T.length - (intOf v12).toNat)
              case atStart => exact ⟨x, Nat.le_refl _, hx, rfl, HBX⟩
              case round =>
                obtain ⟨y, hxy, hy, rfl, HBY⟩ := hrel
                by_cases hly : y < T.length
                · have hly' : (y : Int) < (T.length : Int) := by omega
                  obtain ⟨gt, ot, rfl, _, htc, hev⟩ := in_at HR.out hly
                  obtain ⟨g2, o2, e2, _, _, hev2⟩ := in_at HR.out hlx
                  simp only [Option.some.injEq, Addr.mk.injEq] at e2
                  obtain ⟨rfl, rfl, _⟩ := e2
                  have hbd := HINV.out.bound HIB.out.1 (List.getElem?_eq_getElem hlx) (List.getElem?_eq_getElem hly) hxy
                  have hu := HLT.out _ (List.getElem_mem hlx)
                  have hv := HLT.out _ (List.getElem_mem hly)
                  generalize T[y] = v at hev hbd hv
                  generalize T[x] = u at hev2 hbd hu
                  have HQ : Hid (∀ w1, Kp wr w1 → w1.cell? ⟨gt, ot + y, none⟩ = some (.int .i64 v) ∧ w1.cell? ⟨gt, ot + x, none⟩ = some (.int .i64 u)) := Lib.hid fun w1 hC => ⟨hev w1 (HBY.out.trans (Below.mono hC HBY.out.size)), hev2 w1 (HBY.out.trans (Below.mono hC HBY.out.size))⟩
                  have hib := HIB.out
                  obtain ⟨d0, d1, _, _⟩ := div_facts (a := v - u) (i := i) (by omega) hib.1
                  have hw1 : IntKind.i64.wrap ((y : Int) - x) = (y : Int) - x := IntWalk.i64_in _ (by omega)
                  have hw2 : IntKind.i64.wrap ((y : Int) - x + 1) = (y : Int) - x + 1 := IntWalk.i64_in _ (by omega)
                  have hw3 : IntKind.i64.wrap (v - u) = v - u := IntWalk.i64_in _ (by omega)
                  have hw4 : IntKind.i64.wrap ((v - u).tdiv i) = (v - u).tdiv i := IntWalk.i64_in _ (by omega)
                  have hw5 : IntKind.i64.wrap (b + (v - u).tdiv i) = b + (v - u).tdiv i := IntWalk.i64_in _ (by omega)
                  have hw6 : IntKind.i64.wrap (b + (v - u).tdiv i + 1) = b + (v - u).tdiv i + 1 := IntWalk.i64_in _ (by omega)
                  have hi1 : (i = 0) = False := eq_false (by omega)
                  have HBD := Lib.hid hbd.1
                  clear hev hev2 hbd hu hv hib d0 d1
                  go_upto_region 18 with fail
                  refine wp_region_kp (by kernel_rfl) (by kernel_rfl) ?_
                  repeat (first
                    | go_big_quiet_skip
                    | (go_big_quiet_want
                       first
                         | (go_big_quiet_op
                            first
                              | go_big_quiet_on
                              | (apply Exists.intro
                                 refine ⟨fun w1 hC => ?_, ?_⟩
                                 · first
                                     | (obtain ⟨q1, q2⟩ := HQ.out w1 hC; go_simp; first | exact rfl | exact ⟨rfl, rfl⟩)
                                     | (go_simp; first | exact rfl | exact ⟨rfl, rfl⟩)
                                     | exact rfl
                                     | (go_simp; exact ⟨rfl, rfl⟩)
                                 go_big_quiet_on))))
                  refine wpQuiet_nil ?_
                  intro W5 hC5
                  have HB6 := Lib.hid (HBY.out.trans (Below.mono hC5 HBY.out.size))
                  clear hC5
                  have hbd := HBD.out
                  go_wp2_with fail
                  go_roundw
                  case rel => exact ⟨y + 1, by omega, hly, by go_num, HB6⟩
                  case measure => simp [intOf]; omega
                · obtain rfl : y = T.length := by omega
                  go_wp2_with fail
                  go_roundw
                  case rel => exact ⟨x + 1, hlx, by go_num, HBY⟩
                  case measure => simp [intOf]; omega
            · obtain rfl : x = T.length := by omega
              have HBW := Lib.hid (HB.out.trans (HBX.out.mono HB.out.size))
              go_wp2_with (go_at_call 11; with_reducible refine (alive_c _).mono ?_; rintro r w2 ⟨rfl, hb2⟩)
              go_ret
              exact ⟨rfl, HBW.out.trans (hb2.mono HBW.out.size)⟩
end
end Go.Proofs.Ytcainohglmgdpaa
