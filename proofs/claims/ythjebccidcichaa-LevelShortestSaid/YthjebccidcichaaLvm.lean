/- The reference's SameLevel. -/
import Derived.Test.YthjebccidcichaaLvh
import Derived.Laws.StructEq
namespace Go.Proofs.Ythjebccidcichaa
open Go.RowKit
theorem below_step {W w : World} {n : Nat} (h : Kp W w) : Kp W (w.drewN n) := Below.trans h (below_drewN n)
def sameLV (s : ByteArray) (L : List Sp) (s' : ByteArray) (L' : List Sp) : Bool := decide (s = s' ∧ L = L')
set_option maxRecDepth 100000 in
set_option maxHeartbeats 4000000 in
theorem rsameLevel_c (cv dv : Value) (s s' : ByteArray) (L L' : List Sp) (w : World) (hS : Spans w cv L) (hS' : Spans w dv L') (hL : L.length ≤ 1000000000000) :
    Calls Try.prog 55 #[.agg #[.string s, cv], .agg #[.string s', dv]] w fun e w' => e = .returned (.bool (sameLV s L s' L')) ∧ Below w.heap.size w w' := by
  obtain ⟨ao, cap, rfl, hr⟩ := hS
  obtain ⟨ao2, cap2, rfl, hr2⟩ := hS'
  obtain ⟨R, hR⟩ : ∃ R, sameLV s L s' L' = R := ⟨_, rfl⟩
  rw [hR]
  obtain ⟨hB1, hB2, hW, hfr⟩ := two_box w 50 50 #[.string s, .slice ao L.length cap] #[.string s', .slice ao2 L'.length cap2]
  have hk : ∀ g o (M : List Sp), M ≠ [] → SpRow w g o M → SpRow ((w.alloc (.cells #[.string s, .slice ao L.length cap] 50)).alloc (.cells #[.string s', .slice ao2 L'.length cap2] 50)) g o M := fun g o M hM h => h.keep (hW.block g (h.lt (List.length_pos_iff.2 hM)))
  generalize hWW : (w.alloc (.cells #[.string s, .slice ao L.length cap] 50)).alloc (.cells #[.string s', .slice ao2 L'.length cap2] 50) = W at *
  obtain ⟨y0, y1, y2, y3⟩ := hB1.cells2
  obtain ⟨z0, z1, z2, z3⟩ := hB2.cells2
  have HR := Lib.hid hR
  have HK := Lib.hid hk
  have Hr := Lib.hid hr
  have Hr2 := Lib.hid hr2
  have HW := Lib.hid hW
  have HB1 := Lib.hid hB1
  have HB2 := Lib.hid hB2
  have hbs := bytes_beq s s'
  clear hR hk hr hr2 hW hB1 hB2 hfr
  by_cases h1 : s = s'
  · rw [decide_eq_true h1] at hbs
    subst h1
    by_cases h2 : L.length = L'.length
    · have h2b : ((L.length : Int) == (L'.length : Int)) = true := by simp; omega
      have h2c : ((L.length : Int) != (L'.length : Int)) = false := by simp; omega
      have HH2 := Lib.hid h2
      have HH0 : ∀ i (h : i < L.length) (h' : i < L'.length), L[i] ≠ L'[i] → R = false := fun i h h' hne => by rw [← HR.out]; exact decide_eq_false fun hh => hne (by obtain ⟨_, rfl⟩ := hh; rfl)
      have HNO := Lib.hid HH0
      have HYES : Hid ((∀ k (h : k < L.length) (h' : k < L'.length), L[k] = L'[k]) → R = true) := Lib.hid fun h => by rw [← HR.out]; exact decide_eq_true ⟨rfl, List.ext_getElem h2 h⟩
      clear HH0 h2
      go_enter Try.func55, Try.ntmps55
      subst hWW
      go_wp2_with fail
      go_loopw [5] (fun vi wr => ∃ i : Nat, i ≤ L.length ∧ vi = .int .i64 i ∧ Hid (∀ k (_ : k < i) (h : k < L.length) (h' : k < L'.length), L[k] = L'[k]) ∧ Kp w wr ∧ Blk wr w.heap.size 50 #[.string s, .slice ao L.length cap] ∧ Blk wr (w.heap.size + 1) 50 #[.string s, .slice ao2 L'.length cap2]) (fun vi _ => L.length - (intOf vi).toNat)
      case atStart => exact ⟨0, Nat.zero_le _, rfl, Lib.hid fun k h => absurd h (by omega), HW.out, HB1.out, HB2.out⟩
      case round =>
        clear y0 y1 y2 y3 z0 z1 z2 z3
        obtain ⟨i, hi, rfl, HA, hC, q1, q2⟩ := hrel
        obtain ⟨y0, y1, y2, y3⟩ := q1.cells2
        obtain ⟨z0, z1, z2, z3⟩ := q2.cells2
        have HC := Lib.hid hC
        have HQ1 := Lib.hid q1
        have HQ2 := Lib.hid q2
        clear hC q1 q2
        by_cases hlt : i < L.length
        · have hlt' : (i : Int) < (L.length : Int) := by omega
          have hlt2 : i < L'.length := by have := HH2.out; omega
          have hlt2' : (i : Int) < (L'.length : Int) := by omega
          obtain ⟨g, o, rfl, hrow⟩ := Hr.out (by rintro rfl; simp at hlt)
          obtain ⟨g', o', rfl, hrow'⟩ := Hr2.out (by rintro rfl; simp at hlt2)
          obtain ⟨s1, s2⟩ := hrow.keep (HC.out.block g (hrow.lt (by omega))) i hlt
          obtain ⟨t1, t2⟩ := hrow'.keep (HC.out.block g' (hrow'.lt (by omega))) i hlt2
          obtain ⟨x, hx⟩ : ∃ x, L[i] = x := ⟨_, rfl⟩
          obtain ⟨y, hy⟩ : ∃ y, L'[i] = y := ⟨_, rfl⟩
          rw [hx] at s1 s2
          rw [hy] at t1 t2
          have HNE : Hid (x ≠ y → R = false) := Lib.hid fun h => HNO.out i hlt hlt2 (by rw [hx, hy]; exact h)
          have HEQ : Hid (x = y → ∀ k (_ : k < i + 1) (h : k < L.length) (h' : k < L'.length), L[k] = L'[k]) := Lib.hid fun h k hk h1 h2 => by
            rcases Nat.lt_or_ge k i with h' | h'
            · exact HA.out k h' h1 h2
            · obtain rfl : k = i := by omega
              rw [hx, hy]; exact h
          clear hx hy hrow hrow' HA
          obtain ⟨x1, x2⟩ := x
          obtain ⟨y1, y2⟩ := y
          have e1 := bytes_beq x1 y1
          have e2 := bytes_beq x2 y2
          by_cases c1 : x1 = y1
          · rw [decide_eq_true c1] at e1
            by_cases c2 : x2 = y2
            · rw [decide_eq_true c2] at e2
              subst c1
              subst c2
              have HA2 := Lib.hid (HEQ.out rfl)
              clear HEQ HNE
              go_wp2_with fail
              go_quiet (fail)
              go_wp2_with fail
              go_roundw
              case rel => exact ⟨i + 1, hlt, by go_num, HA2, below_step HC.out, HQ1.out.drewN _, HQ2.out.drewN _⟩
              case measure => simp [intOf]; omega
            · rw [decide_eq_false c2] at e2
              subst c1
              obtain rfl : R = false := HNE.out (fun h => c2 (Prod.mk.inj h).2)
              clear HEQ HNE HNO HYES
              go_wp2_with fail
              go_quiet (fail)
              go_wp2_with fail
              go_ret
              exact ⟨rfl, below_step HC.out⟩
          · rw [decide_eq_false c1] at e1
            obtain rfl : R = false := HNE.out (fun h => c1 (Prod.mk.inj h).1)
            clear HEQ HNE HNO HYES
            go_wp2_with fail
            go_quiet (fail)
            go_wp2_with fail
            go_ret
            exact ⟨rfl, below_step HC.out⟩
        · obtain rfl : i = L.length := by omega
          obtain rfl : R = true := HYES.out fun k h h' => HA.out k h h h'
          clear HA HYES HNO
          go_wp2_with fail
          go_ret
          exact ⟨rfl, HC.out⟩
    · have h2b : ((L.length : Int) == (L'.length : Int)) = false := by simp; omega
      have h2c : ((L.length : Int) != (L'.length : Int)) = true := by simp; omega
      obtain rfl : R = false := by rw [← HR.out]; exact decide_eq_false fun h => h2 (by rw [h.2])
      go_enter Try.func55, Try.ntmps55
      subst hWW
      go_wp2_with fail
      go_ret
      exact ⟨rfl, HW.out⟩
  · rw [decide_eq_false h1] at hbs
    obtain rfl : R = false := by rw [← HR.out]; exact decide_eq_false fun h => h1 h.1
    go_enter Try.func55, Try.ntmps55
    subst hWW
    go_wp2_with fail
    go_ret
    exact ⟨rfl, HW.out⟩
def sameRV (s : ByteArray) (L : List Sp) (s2 : ByteArray) (L2 : List Sp) (t : ByteArray) (M : List Sp) (t2 : ByteArray) (M2 : List Sp) : Bool := sameLV s L t M && sameLV s2 L2 t2 M2
theorem sameRV_self (s : ByteArray) (L : List Sp) (s2 : ByteArray) (L2 : List Sp) : sameRV s L s2 L2 s L s2 L2 = true := by
  unfold sameRV sameLV
  rw [decide_eq_true ⟨rfl, rfl⟩, decide_eq_true ⟨rfl, rfl⟩]; rfl
set_option maxRecDepth 100000 in
set_option maxHeartbeats 4000000 in
theorem rsameRange_c (v1 v2 u1 u2 : Value) (s s2 t t2 : ByteArray) (L L2 M M2 : List Sp) (w : World) (h1 : Spans w v1 L) (h2 : Spans w v2 L2) (h3 : Spans w u1 M) (h4 : Spans w u2 M2) (hL : L.length ≤ 1000000000000) (hL2 : L2.length ≤ 1000000000000) :
    Calls Try.prog 41 #[.agg #[.string s, v1, .string s2, v2], .agg #[.string t, u1, .string t2, u2]] w fun e w' => e = .returned (.bool (sameRV s L s2 L2 t M t2 M2)) ∧ Below w.heap.size w w' := by
  obtain ⟨hB1, hB2, hW, hz⟩ := two_box w 52 52 #[.string s, v1, .string s2, v2] #[.string t, u1, .string t2, u2]
  have HA := Lib.hid (fun W (hW : Kp w W) => rsameLevel_c _ _ s t L M W (h1.keep hW) (h3.keep hW) hL)
  have HB := Lib.hid (fun W (hW : Kp w W) => rsameLevel_c _ _ s2 t2 L2 M2 W (h2.keep hW) (h4.keep hW) hL2)
  obtain ⟨ao1, cap1, rfl, _⟩ := id h1
  obtain ⟨ao2, cap2, rfl, _⟩ := id h2
  obtain ⟨ao3, cap3, rfl, _⟩ := id h3
  obtain ⟨ao4, cap4, rfl, _⟩ := id h4
  unfold sameRV
  generalize sameLV s L t M = K1 at *
  generalize sameLV s2 L2 t2 M2 = K2 at *
  have HB1 := Lib.hid hB1
  have HB2 := Lib.hid hB2
  have HW := Lib.hid hW
  clear h1 h2 h3 h4 hz hB1 hB2 hW
  cases K1
  all_goals
    go_enter Try.func41, Try.ntmps41
    go_wp2_with fail
    refine (HA.out _ HW.out).mono ?_
    rintro e w2 ⟨rfl, hb⟩
    have hC := Kp.step HW.out hb
    obtain ⟨p0, p1, p2, p3⟩ := (HB1.out.keep hb).box4
    obtain ⟨q0, q1, q2, q3⟩ := (HB2.out.keep hb).box4
    clear hb
    go_wp2_with (go_at_call 55; refine (HB.out _ hC).mono ?_; rintro e w3 ⟨rfl, hb3⟩; replace hC := Kp.step hC hb3)
    go_ret
    exact ⟨rfl, hC⟩
end Go.Proofs.Ythjebccidcichaa
