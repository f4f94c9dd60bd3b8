/- The reference's Attribute: the types of an attribute. Condition: at most a million types and attributes. -/
import Derived.Test.YtbkejoheefnmiaaNsd
namespace Go.Proofs.Ytbkejoheefnmiaa
open Go.RowKit
attribute [local go_sem ↓] Go.wp_at_zero Go.wp_at_succ
set_option maxRecDepth 100000 in
set_option maxHeartbeats 4000000 in
theorem rattribute_c (vT vA : Value) (L : List TyE) (As : List AtE) (n : ByteArray) (w : World) (hT : Tys w vT L) (hA : Ats w vA As) (hn : L.length ≤ 1000000) (hn2 : As.length ≤ 1000000) :
    Calls Try.prog 13 #[.string n, .agg #[vT, vA]] w (SetOut (atS As L.length n) (atB As n) w) := by
  obtain ⟨B, hB⟩ : ∃ B, atB As n = B := ⟨_, rfl⟩
  obtain ⟨S, hS⟩ : ∃ S, atS As L.length n = S := ⟨_, rfl⟩
  rw [hB, hS]
  have HB := Lib.hid hB
  have HS := Lib.hid hS
  clear hB hS
  obtain ⟨ao, cap, rfl, -⟩ := hT
  obtain ⟨ao2, cap2, rfl, hr⟩ := hA
  have hW : Below w.heap.size w ((w.alloc (.cells #[.slice ao L.length cap, .slice ao2 As.length cap2] 25)).alloc (.cells #[.int .u64 0, .int .u64 0, .int .u64 0, .int .u64 0] 35)) := ((Below.refl _ _).alloc (Nat.le_refl _) _).alloc (by simp) _
  have hE := (Blk.new w 25 #[.slice ao L.length cap, .slice ao2 As.length cap2]).alloc (.cells #[.int .u64 0, .int .u64 0, .int .u64 0, .int .u64 0] 35)
  have hQ := Quad.new (w.alloc (.cells #[.slice ao L.length cap, .slice ao2 As.length cap2] 25)) 0 0 0 0
  rw [show (w.alloc (.cells #[.slice ao L.length cap, .slice ao2 As.length cap2] 25)).heap.size = w.heap.size + 1 by simp] at hQ
  have HE := Lib.hid hE
  have HQ := Lib.hid hQ
  obtain ⟨y0, y1⟩ := hE.two
  have HW := Lib.hid hW
  clear hW hE hQ
  go_enter Try.func13, Try.ntmps13
  go_wp2_with fail
  generalize (w.alloc (.cells #[.slice ao L.length cap, .slice ao2 As.length cap2] 25)).alloc (.cells #[.int .u64 0, .int .u64 0, .int .u64 0, .int .u64 0] 35) = W at *
  go_loop [6] (fun vi => ∃ i : Nat, i ≤ As.length ∧ vi = .int .i64 i ∧ Hid (∀ k (_ : k < i) (h' : k < As.length), As[k].1 ≠ n)) (fun vi => As.length - (intOf vi).toNat)
  case atStart => exact ⟨0, Nat.zero_le _, rfl, Lib.hid fun k h => absurd h (by omega)⟩
  case round =>
    obtain ⟨i, hi, rfl, HN⟩ := hrel
    by_cases hlt : i < As.length
    · have hlt' : (i : Int) < (As.length : Int) := by omega
      obtain ⟨g, o, rfl, hg, hq⟩ := hr (by rintro rfl; simp at hlt)
      obtain ⟨q0, q1, q2, q3, q4⟩ := hq i hlt
      have hblk := HW.out.block g hg
      rw [← World.cell?_of_block hblk] at q0 q1 q2 q3 q4
      clear hq hblk
      obtain ⟨⟨nm, s⟩, hx⟩ : ∃ x, As[i] = x := ⟨_, rfl⟩
      rw [hx] at q0 q1 q2 q3 q4
      simp only at q0 q1 q2 q3 q4
      by_cases hs : nm = n
      · subst hs
        obtain ⟨e1, e2⟩ := at_yes L.length hlt (by rw [hx]) HN.out
        rw [hx] at e2
        obtain rfl : true = B := by rw [← HB.out, e1]
        have HS2 : Hid (S = s.and (allS L.length)) := Lib.hid (by rw [← HS.out, e2])
        clear hx HN e1 e2
        have hb : (nm.toList == nm.toList) = true := by simp
        go_wp2_with fail
        have hne : g ≠ w.heap.size + 1 := by omega
        have hgW : g < W.heap.size := by have := HQ.out.lt; omega
        have HSK : Hid (∀ w', Kb (w.heap.size + 1) W w' → w'.cell? ⟨g, o + i * 5 + 1, none⟩ = some (.int .u64 s.a) ∧ w'.cell? ⟨g, o + i * 5 + 1 + 1, none⟩ = some (.int .u64 s.b) ∧ w'.cell? ⟨g, o + i * 5 + 1 + 2, none⟩ = some (.int .u64 s.c) ∧ w'.cell? ⟨g, o + i * 5 + 1 + 3, none⟩ = some (.int .u64 s.d) ∧ w'.cell? ⟨w.heap.size, 0, none⟩ = some (.slice ao L.length cap) ∧ w'.cell? ⟨w.heap.size, 1, none⟩ = some (.slice (some ⟨g, o, none⟩) As.length cap2)) := Lib.hid fun w' h => by
          have b7 := (h.blk HE.out (Nat.ne_of_lt (Nat.lt_succ_self _))).two
          exact ⟨(h.cell hgW hne).trans q1, (h.cell hgW hne).trans q2, (h.cell hgW hne).trans q3, (h.cell hgW hne).trans q4, b7.1, b7.2⟩
        have hL : (L.length : Int) ≤ 9223372036854775807 := by omega
        have hi0 : (0 : Int) ≤ (i : Int) := by omega
        clear q0 q1 q2 q3 q4 hg hr HB
        go_region_held3 (fun w' => w'.cell? ⟨g, o + i * 5 + 1, none⟩ = some (.int .u64 s.a) ∧ w'.cell? ⟨g, o + i * 5 + 1 + 1, none⟩ = some (.int .u64 s.b) ∧ w'.cell? ⟨g, o + i * 5 + 1 + 2, none⟩ = some (.int .u64 s.c) ∧ w'.cell? ⟨g, o + i * 5 + 1 + 3, none⟩ = some (.int .u64 s.d) ∧ w'.cell? ⟨w.heap.size, 0, none⟩ = some (.slice ao L.length cap) ∧ w'.cell? ⟨w.heap.size, 1, none⟩ = some (.slice (some ⟨g, o, none⟩) As.length cap2))
          ((refine HSK.out _ ?_; repeat (first | exact Kb.rfl' | assumption | refine Kb.drew ?_ | refine Kb.alloc ?_ _ | refine Kb.set ?_ _ _)))
          (first
            | (go_at_call 27; refine (rallS_c _ _ (by omega) (by omega)).mono ?_; rintro e w5 ⟨rfl, hb5⟩; have hC5 : Kp W w5 := Kp.step (by repeat (first | exact Kp.rfl' | assumption | refine Kp.drew ?_)) hb5; have hD5 : Kb (w.heap.size + 1) W w5 := But.of_below hC5)
            | (go_at_call 28; refine (rmeet_c _ _ _ _ _ _ _ _ _).mono ?_; rintro e w6 ⟨rfl, hb6⟩; have hC6 : Kp W w6 := Kp.step (by assumption) hb6; have hD6 : Kb (w.heap.size + 1) W w6 := But.of_below hC6; obtain ⟨c0, c1, c2, c3, f0, f1, f2, f3⟩ := (HQ.out.keep hC6).facts))
        all_goals
          go_wp2_with fail
          obtain ⟨r0, r1, r2, r3⟩ := quad_box ((HQ.out.keep hC6).set4 (bits .and .u64 s.a (allS L.length).a) (bits .and .u64 s.b (allS L.length).b) (bits .and .u64 s.c (allS L.length).c) (bits .and .u64 s.d (allS L.length).d))
          obtain rfl := HS2.out
          exact bodyPost_ret (v := .tuple #[.agg #[.int .u64 (bits .and .u64 s.a (allS L.length).a), .int .u64 (bits .and .u64 s.b (allS L.length).b), .int .u64 (bits .and .u64 s.c (allS L.length).c), .int .u64 (bits .and .u64 s.d (allS L.length).d)], .bool true]) (by simp [results, Try.results13, go_sem, r0, r1, r2, r3]) rfl ⟨rfl, below_set4 (HW.out.trans (Below.mono hC6 (Below.size HW.out))) (Nat.le_succ _) _ _ _ _⟩
      · have hb : (nm.toList == n.toList) = false := by rw [bytes_beq]; exact decide_eq_false hs
        have HN2 : Hid (∀ k (_ : k < i + 1) (h' : k < As.length), As[k].1 ≠ n) := Lib.hid fun k hk h => by
          rcases Nat.lt_or_ge k i with h' | h'
          · exact HN.out k h' h
          · obtain rfl : k = i := by omega
            rw [hx]; exact hs
        clear hx HN hs
        go_wp2_with fail
        go_round
        case rel => exact ⟨i + 1, hlt, by go_num, HN2⟩
        case measure => simp [intOf]; omega
    · obtain rfl : i = As.length := by omega
      obtain ⟨e1, e2⟩ := at_no L.length fun k h => HN.out k h h
      obtain rfl : false = B := by rw [← HB.out, e1]
      obtain rfl : S4.zero = S := by rw [← HS.out, e2]
      clear HN e1 e2
      obtain ⟨c0, c1, c2, c3, f0⟩ := HQ.out.facts
      obtain ⟨r0, r1, r2, r3⟩ := quad_box (HQ.out.set4 0 0 0 0)
      go_wp2_with fail
      exact bodyPost_ret (v := .tuple #[.agg #[.int .u64 0, .int .u64 0, .int .u64 0, .int .u64 0], .bool false]) (by simp [results, Try.results13, go_sem, r0, r1, r2, r3]) rfl ⟨rfl, below_set4 HW.out (Nat.le_succ _) _ _ _ _⟩
end Go.Proofs.Ytbkejoheefnmiaa
