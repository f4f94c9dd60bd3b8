/- Lists of texts that are compared; the chapter's example. -/
import Derived.Test.YtcainohglmgdpaaRam
import Derived.Test.YtcainohglmgdpaaRan
namespace Go.Proofs.Ytcainohglmgdpaa
open Go.RowKit Go.Maps Go.WideElems Go.WideMaps Go.WideShapes Go.Sort Go.Shelf
theorem bytes_beq (a b : ByteArray) : (a.toList == b.toList) = decide (a = b) := by
  rw [Bool.eq_iff_iff]
  simp only [beq_iff_eq, decide_eq_true_eq]
  constructor
  · intro h
    rw [ByteArray.toList_eq, ByteArray.toList_eq] at h
    exact ByteArray.ext (Array.toList_inj.1 h)
  · rintro rfl; rfl
def sameS (l m : List ByteArray) : Bool := decide (l = m)
theorem sameS_self (l : List ByteArray) : sameS l l = true := decide_eq_true rfl
theorem sameS_len {l m : List ByteArray} (h : l.length ≠ m.length) : sameS l m = false := decide_eq_false fun e => h (by rw [e])
theorem sameS_at {l m : List ByteArray} {i : Nat} (h1 : i < l.length) (h2 : i < m.length) (h : l[i] ≠ m[i]) : sameS l m = false := decide_eq_false fun e => h (by subst e; rfl)
theorem sameS_yes {l m : List ByteArray} (h : l.length = m.length) (hk : ∀ k (h1 : k < l.length) (h2 : k < m.length), l[k] = m[k]) : sameS l m = true := decide_eq_true (List.ext_getElem h hk)
section
variable {w w' : World} {g m r cnt : Nat} {S : RS} {L : List Bk} {left : Lit → Bool} {F : Nat → Prop} {e : Int}
theorem rows_at {α : Type} {R : RowT α} {v : Value} {l : List α} (h : Rows' R w v l) : ∃ ao cap, v = .slice ao l.length cap ∧ l.length ≤ cap ∧ ∀ i (hi : i < l.length), ∃ g o, ao = some ⟨g, o, none⟩ ∧ ∀ k u, (R.c l[i])[k]? = some u → w.cell? ⟨g, o + i * R.sz + k, none⟩ = some u := by
  obtain ⟨ao, cap, rfl, hc, hr⟩ := h.form
  refine ⟨ao, cap, rfl, hc, fun i hi => ?_⟩
  obtain ⟨g, o, e, _, hR⟩ := hr (by rintro rfl; simp at hi)
  exact ⟨g, o, e, fun k u hu => hR i _ (List.getElem?_eq_getElem hi) k u hu⟩
set_option maxRecDepth 100000 in
set_option maxHeartbeats 4000000 in
theorem texts_c (v u : Value) (l m : List ByteArray) (w : World) (hV : Rows' RSt w v l) (hU : Rows' RSt w u m) (hn : l.length ≤ 1000000) (_hm : m.length ≤ 1000000) :
    Calls Try.prog 21 #[v, u] w fun e w' => e = .returned (.bool (sameS l m)) ∧ Below w.heap.size w w' := by
  have HV := Lib.hid hV
  have HU := Lib.hid hU
  obtain ⟨ao, cap, rfl, _⟩ := rows_at hV
  obtain ⟨ao2, cap2, rfl, _⟩ := rows_at hU
  obtain ⟨R, hR⟩ : ∃ R, sameS l m = R := ⟨_, rfl⟩
  rw [hR]
  have HR := Lib.hid hR
  clear hV hU hR
  by_cases hlen : l.length = m.length
  · have HL := Lib.hid hlen
    rw [hlen] at hn ⊢
    clear hlen
    go_enter Try.func21, Try.ntmps21
    go_wp2_with fail
    go_loopw [5] (fun vi wr => ∃ i : Nat, i ≤ m.length ∧ vi = .int .i64 i ∧ Hid (∀ k (_ : k < i) (h1 : k < l.length) (h2 : k < m.length), l[k] = m[k]) ∧ Hid (Below w.heap.size w wr)) (fun vi _ => m.length - (intOf vi).toNat)
    case atStart => exact ⟨0, Nat.zero_le _, rfl, Lib.hid fun k h => absurd h (by omega), Lib.hid (Below.refl _ _)⟩
    case round =>
      obtain ⟨i, hi, rfl, HA, HB⟩ := hrel
      by_cases hlt2 : i < m.length
      · have hlt : i < l.length := by rw [HL.out]; exact hlt2
        have HQ : Hid (∃ g o g2 o2, ao = some ⟨g, o, none⟩ ∧ ao2 = some ⟨g2, o2, none⟩ ∧ ∀ w1, Kp wr w1 → w1.cell? ⟨g, o + i, none⟩ = some (.string l[i]) ∧ w1.cell? ⟨g2, o2 + i, none⟩ = some (.string m[i])) := Lib.hid (by
          obtain ⟨_, _, e1, _, h1⟩ := rows_at HV.out
          obtain ⟨_, _, e2, _, h2⟩ := rows_at HU.out
          obtain ⟨g, o, rfl, _⟩ := h1 i hlt
          obtain ⟨g2, o2, rfl, _⟩ := h2 i hlt2
          simp only [Value.slice.injEq] at e1 e2
          refine ⟨g, o, g2, o2, e1.1, e2.1, fun w1 hC => ?_⟩
          have hb := HB.out.trans (Below.mono hC HB.out.size)
          obtain ⟨_, _, e1, _, h1⟩ := rows_at (HV.out.below hb)
          obtain ⟨_, _, e2, _, h2⟩ := rows_at (HU.out.below hb)
          obtain ⟨g', o', rfl, k1⟩ := h1 i hlt
          obtain ⟨g2', o2', rfl, k2⟩ := h2 i hlt2
          simp only [Value.slice.injEq] at e1 e2
          have e1 := e1.1
          have e2 := e2.1
          have q1 := k1 0 (.string l[i]) rfl
          have q2 := k2 0 (.string m[i]) rfl
          simp only [show RSt.sz = 1 from rfl, Nat.mul_one, Nat.add_zero] at q1 q2
          simp_all)
        obtain ⟨g, o, g2, o2, rfl, rfl, hq⟩ := HQ.out
        have HQ2 := Lib.hid hq
        have hlt2' : (i : Int) < (m.length : Int) := by omega
        obtain ⟨x, hx⟩ : ∃ x, l[i] = x := ⟨_, rfl⟩
        obtain ⟨y, hy⟩ : ∃ y, m[i] = y := ⟨_, rfl⟩
        rw [hx, hy] at HQ2
        clear hq HQ
        by_cases hxy : x = y
        · subst hxy
          have HA2 : Hid (∀ k (_ : k < i + 1) (h1 : k < l.length) (h2 : k < m.length), l[k] = m[k]) := Lib.hid fun k h h1 h2 => by
            rcases Nat.lt_or_ge k i with hk | hk
            · exact HA.out k hk h1 h2
            · obtain rfl : k = i := by omega
              rw [hx, hy]
          clear hx hy HA
          go_upto_region 6 with fail
          refine wp_region_kp (by kernel_rfl) (by kernel_rfl) ?_
          repeat (first
            | go_big_quiet_skip
            | (go_big_quiet_want
               first
                 | (go_big_quiet_op
                    first
                      | go_big_quiet_on
                      | (apply Exists.intro
                         refine ⟨fun w1 hC => ?_, ?_⟩
                         · first
                             | (obtain ⟨q1, q2⟩ := HQ2.out w1 hC; go_simp; first | exact rfl | exact ⟨rfl, rfl⟩)
                             | (go_simp; first | exact rfl | exact ⟨rfl, rfl⟩)
                             | exact rfl
                             | (go_simp; exact ⟨rfl, rfl⟩)
                         go_big_quiet_on))))
          refine wpQuiet_nil ?_
          intro W1 hC1
          have HB2 := Lib.hid (HB.out.trans (Below.mono hC1 HB.out.size))
          clear hC1
          go_wp2_with fail
          go_roundw
          case rel => exact ⟨i + 1, hlt2, by go_num, HA2, HB2⟩
          case measure => simp [intOf]; omega
        · have h2 : (x.toList == y.toList) = false := by
            rw [bytes_beq]
            exact decide_eq_false hxy
          obtain rfl : R = false := by rw [← HR.out]; exact sameS_at hlt hlt2 (by rw [hx, hy]; exact hxy)
          clear hx hy HA HR
          go_upto_region 6 with fail
          refine wp_region_kp (by kernel_rfl) (by kernel_rfl) ?_
          repeat (first
            | go_big_quiet_skip
            | (go_big_quiet_want
               first
                 | (go_big_quiet_op
                    first
                      | go_big_quiet_on
                      | (apply Exists.intro
                         refine ⟨fun w1 hC => ?_, ?_⟩
                         · first
                             | (obtain ⟨q1, q2⟩ := HQ2.out w1 hC; go_simp; first | exact rfl | exact ⟨rfl, rfl⟩)
                             | (go_simp; first | exact rfl | exact ⟨rfl, rfl⟩)
                             | exact rfl
                             | (go_simp; exact ⟨rfl, rfl⟩)
                         go_big_quiet_on))))
          refine wpQuiet_nil ?_
          intro W1 hC1
          have HB2 := Lib.hid (HB.out.trans (Below.mono hC1 HB.out.size))
          clear hC1
          go_wp2_with fail
          go_ret
          exact ⟨rfl, HB2.out⟩
      · obtain rfl : i = m.length := by omega
        obtain rfl : R = true := by rw [← HR.out]; exact sameS_yes HL.out (fun k h1 h2 => HA.out k h2 h1 h2)
        clear HR HA
        go_wp2
        go_ret
        exact ⟨rfl, HB.out⟩
  · obtain rfl : R = false := by rw [← HR.out]; exact sameS_len hlen
    clear HR
    have hlen' : ((l.length : Int) == (m.length : Int)) = false := by simp; omega
    go_enter Try.func21, Try.ntmps21
    go_wp2_with fail
    go_ret
    exact ⟨rfl, Below.refl _ _⟩
end
end Go.Proofs.Ytcainohglmgdpaa
