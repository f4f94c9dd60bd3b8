/- nameset.Attribute and the reference's Attribute: the types of an attribute. Condition: at most a million types and attributes. -/
import Derived.Test.YtbkejoheefnmiaaNsc
import Derived.Test.YtbkejoheefnmiaaBsd
import Derived.Deep.RegionHeld3
import Derived.Deep.DrawnRows
namespace Go.Proofs.Ytbkejoheefnmiaa
open Go.RowKit
attribute [local go_sem ↓] Go.wp_at_zero Go.wp_at_succ
theorem Quad.keep {w w' : World} {g : Nat} {a b c d : Int} (h : Quad w g a b c d) (hb : Below w.heap.size w w') : Quad w' g a b c d := h.below hb h.lt
theorem allS_c (n : Int) (w : World) (hlo : -9223372036854775808 ≤ n) (hhi : n ≤ 9223372036854775807) :
    Calls Try.prog 36 #[.int .i64 n] w fun e w' => e = .returned (.agg #[.int .u64 (allS n).a, .int .u64 (allS n).b, .int .u64 (allS n).c, .int .u64 (allS n).d]) ∧ Below w.heap.size w w' := all_c n w hlo hhi
theorem rallS_c (n : Int) (w : World) (hlo : -9223372036854775808 ≤ n) (hhi : n ≤ 9223372036854775807) :
    Calls Try.prog 27 #[.int .i64 n] w fun e w' => e = .returned (.agg #[.int .u64 (allS n).a, .int .u64 (allS n).b, .int .u64 (allS n).c, .int .u64 (allS n).d]) ∧ Below w.heap.size w w' := rall_c n w hlo hhi
/-- what a call that finds a set gives -/
def SetOut (S : S4) (b : Bool) (w : World) (e : Ending) (w' : World) : Prop := e = .returned (.tuple #[.agg #[.int .u64 S.a, .int .u64 S.b, .int .u64 S.c, .int .u64 S.d], .bool b]) ∧ Below w.heap.size w w'
theorem quad_box {w : World} {g : Nat} {a b c d : Int} (h : Quad w g a b c d) : w.cell? ⟨g, 0, none⟩ = some (.int .u64 a) ∧ w.cell? ⟨g, 1, none⟩ = some (.int .u64 b) ∧ w.cell? ⟨g, 2, none⟩ = some (.int .u64 c) ∧ w.cell? ⟨g, 3, none⟩ = some (.int .u64 d) := by
  obtain ⟨c0, c1, c2, c3, _⟩ := h.facts
  exact ⟨c0, c1, c2, c3⟩
/-- the class: all that was there in W is as it was, but for one block -/
def Kb (sb : Nat) (W w : World) : Prop := But W.heap.size sb W w
section
variable {sb : Nat} {W w w' : World}
theorem Kb.rfl' : Kb sb W W := But.refl
theorem Kb.drew (h : Kb sb W w) : Kb sb W w.drew := But.drew h
theorem Kb.alloc (h : Kb sb W w) (o : Obj) : Kb sb W (w.alloc o) := But.alloc h (But.size h) o
theorem Kb.step (h : Kb sb W w) (hb : Below w.heap.size w w') : Kb sb W w' := But.below h (hb.mono (But.size h))
theorem Kb.set (h : Kb sb W w) (i : Nat) (u : Value) : Kb sb W (w.setCell ⟨sb, i, none⟩ u) := But.setCell h (.inl rfl) u
theorem Kb.blk (h : Kb sb W w) {g : Nat} {t : TypeId} {cs : Array Value} (hb : Blk W g t cs) (hn : g ≠ sb) : Blk w g t cs := But.blk h hb hb.lt hn
theorem Kb.cell (h : Kb sb W w) {b o : Nat} (hb : b < W.heap.size) (hn : b ≠ sb) : w.cell? ⟨b, o, none⟩ = W.cell? ⟨b, o, none⟩ := But.cell (p := ⟨b, o, none⟩) h hb hn
end
set_option maxRecDepth 100000 in
set_option maxHeartbeats 4000000 in
theorem attribute_c (vT vA : Value) (L : List TyE) (As : List AtE) (n : ByteArray) (w : World) (hT : Tys w vT L) (hA : Ats w vA As) (hn : L.length ≤ 1000000) (hn2 : As.length ≤ 1000000) :
    Calls Try.prog 12 #[.string n, .agg #[vT, vA]] w (SetOut (atS As L.length n) (atB As n) w) := by
  obtain ⟨B, hB⟩ : ∃ B, atB As n = B := ⟨_, rfl⟩
  obtain ⟨S, hS⟩ : ∃ S, atS As L.length n = S := ⟨_, rfl⟩
  rw [hB, hS]
  have HB := Lib.hid hB
  have HS := Lib.hid hS
  clear hB hS
  obtain ⟨ao, cap, rfl, -⟩ := hT
  have hW : Below w.heap.size w ((w.alloc (.cells #[.slice ao L.length cap, vA] 25)).alloc (.cells #[.int .u64 0, .int .u64 0, .int .u64 0, .int .u64 0] 35)) := ((Below.refl _ _).alloc (Nat.le_refl _) _).alloc (by simp) _
  have HE := Lib.hid ((Blk.new w 25 #[.slice ao L.length cap, vA]).alloc (.cells #[.int .u64 0, .int .u64 0, .int .u64 0, .int .u64 0] 35))
  have HQ := Lib.hid (Quad.new (w.alloc (.cells #[.slice ao L.length cap, vA] 25)) 0 0 0 0)
  have HA := Lib.hid (hA.keep hW)
  obtain ⟨ao2, cap2, rfl, -⟩ := hA
  have HW := Lib.hid hW
  clear hW
  obtain ⟨y0, y1⟩ := HE.out.two
  rw [show (w.alloc (.cells #[.slice ao L.length cap, .slice ao2 As.length cap2] 25)).heap.size = w.heap.size + 1 by simp] at HQ
  go_enter Try.func12, Try.ntmps12
  go_wp2_with fail
  generalize (w.alloc (.cells #[.slice ao L.length cap, .slice ao2 As.length cap2] 25)).alloc (.cells #[.int .u64 0, .int .u64 0, .int .u64 0, .int .u64 0] 35) = W at *
  obtain ⟨ao3, cap3, e3, hr⟩ := HA.out
  cases e3
  clear y0 y1
  go_loopw [11] (fun vi wr => ∃ i : Nat, i ≤ As.length ∧ vi = .int .i64 i ∧ Hid (∀ k (_ : k < i) (h' : k < As.length), As[k].1 ≠ n) ∧ Kp W wr) (fun vi _ => As.length - (intOf vi).toNat)
  case atStart => exact ⟨0, Nat.zero_le _, rfl, Lib.hid fun k h => absurd h (by omega), Kp.rfl'⟩
  case round =>
    obtain ⟨i, hi, rfl, HN, hK⟩ := hrel
    have HK := Lib.hid hK
    clear hK
    by_cases hlt : i < As.length
    · have hlt' : (i : Int) < (As.length : Int) := by omega
      obtain ⟨g, o, rfl, hg, hq⟩ := hr (by rintro rfl; simp at hlt)
      obtain ⟨q0, q1, q2, q3, q4⟩ := hq i hlt
      have hblk := HK.out.block g hg
      rw [← World.cell?_of_block hblk] at q0 q1 q2 q3 q4
      clear hq hblk
      obtain ⟨⟨nm, s⟩, hx⟩ : ∃ x, As[i] = x := ⟨_, rfl⟩
      rw [hx] at q0 q1 q2 q3 q4
      simp only at q0 q1 q2 q3 q4
      by_cases hs : nm = n
      · subst hs
        obtain ⟨e1, e2⟩ := at_yes L.length hlt (by rw [hx]) HN.out
        rw [hx] at e2
        obtain rfl : true = B := by rw [← HB.out, e1]
        have HS2 : Hid (S = s.and (allS L.length)) := Lib.hid (by rw [← HS.out, e2])
        clear hx HN e1 e2
        have hb : (nm.toList == nm.toList) = true := by simp
        have h7 := (Blk.new wr 65 #[.string nm, .int .u64 s.a, .int .u64 s.b, .int .u64 s.c, .int .u64 s.d])
        have hK3 := HK.out.alloc (.cells #[.string nm, .int .u64 s.a, .int .u64 s.b, .int .u64 s.c, .int .u64 s.d] 65)
        go_wp2_with fail
        generalize wr.alloc (.cells #[.string nm, .int .u64 s.a, .int .u64 s.b, .int .u64 s.c, .int .u64 s.d] 65) = w3 at *
        have hne : wr.heap.size ≠ w.heap.size + 1 := by
          have := HK.out.size; have := HQ.out.lt; omega
        have HSK : Hid (∀ w', Kb (w.heap.size + 1) w3 w' → w'.cell? ⟨wr.heap.size, 1, none⟩ = some (.int .u64 s.a) ∧ w'.cell? ⟨wr.heap.size, 2, none⟩ = some (.int .u64 s.b) ∧ w'.cell? ⟨wr.heap.size, 3, none⟩ = some (.int .u64 s.c) ∧ w'.cell? ⟨wr.heap.size, 4, none⟩ = some (.int .u64 s.d) ∧ w'.cell? ⟨w.heap.size, 0, none⟩ = some (.slice ao L.length cap)) := Lib.hid fun w' h => by
          have b7 := h.blk h7 hne
          exact ⟨b7.cell 1, b7.cell 2, b7.cell 3, b7.cell 4, ((h.blk (hK3.blk HE.out) (Nat.ne_of_lt (Nat.lt_succ_self _))).two).1⟩
        have HQ3 := Lib.hid (HQ.out.keep hK3)
        have HK3 := Lib.hid hK3
        have hL : (L.length : Int) ≤ 9223372036854775807 := by omega
        clear q0 q1 q2 q3 q4 hg hr h7 hK3 HB HA
        go_region_held3 (fun w' => w'.cell? ⟨wr.heap.size, 1, none⟩ = some (.int .u64 s.a) ∧ w'.cell? ⟨wr.heap.size, 2, none⟩ = some (.int .u64 s.b) ∧ w'.cell? ⟨wr.heap.size, 3, none⟩ = some (.int .u64 s.c) ∧ w'.cell? ⟨wr.heap.size, 4, none⟩ = some (.int .u64 s.d) ∧ w'.cell? ⟨w.heap.size, 0, none⟩ = some (.slice ao L.length cap))
          ((refine HSK.out _ ?_; repeat (first | exact Kb.rfl' | assumption | refine Kb.drew ?_ | refine Kb.alloc ?_ _ | refine Kb.set ?_ _ _)))
          (first
            | (go_at_call 36; refine (allS_c _ _ (by omega) (by omega)).mono ?_; rintro e w5 ⟨rfl, hb5⟩; have hC5 : Kp w3 w5 := Kp.step (by repeat (first | exact Kp.rfl' | assumption | refine Kp.drew ?_)) hb5; have hD5 : Kb (w.heap.size + 1) w3 w5 := But.of_below hC5)
            | (go_at_call 35; refine (meet_c _ _ _ _ _ _ _ _ _).mono ?_; rintro e w6 ⟨rfl, hb6⟩; have hC6 : Kp w3 w6 := Kp.step (by assumption) hb6; have hD6 : Kb (w.heap.size + 1) w3 w6 := But.of_below hC6; obtain ⟨c0, c1, c2, c3, f0, f1, f2, f3⟩ := (HQ3.out.keep hC6).facts))
        all_goals
          go_wp2_with fail
          obtain ⟨r0, r1, r2, r3⟩ := quad_box ((HQ3.out.keep hC6).set4 (bits .and .u64 s.a (allS L.length).a) (bits .and .u64 s.b (allS L.length).b) (bits .and .u64 s.c (allS L.length).c) (bits .and .u64 s.d (allS L.length).d))
          obtain rfl := HS2.out
          exact bodyPost_ret (v := .tuple #[.agg #[.int .u64 (bits .and .u64 s.a (allS L.length).a), .int .u64 (bits .and .u64 s.b (allS L.length).b), .int .u64 (bits .and .u64 s.c (allS L.length).c), .int .u64 (bits .and .u64 s.d (allS L.length).d)], .bool true]) (by simp [results, Try.results12, go_sem, r0, r1, r2, r3]) rfl ⟨rfl, below_set4 (HW.out.trans ((HK3.out.step hC6).mono (Below.size HW.out))) (Nat.le_succ _) _ _ _ _⟩
      · have hb : (nm.toList == n.toList) = false := by rw [bytes_beq]; exact decide_eq_false hs
        have HN2 : Hid (∀ k (_ : k < i + 1) (h' : k < As.length), As[k].1 ≠ n) := Lib.hid fun k hk h => by
          rcases Nat.lt_or_ge k i with h' | h'
          · exact HN.out k h' h
          · obtain rfl : k = i := by omega
            rw [hx]; exact hs
        clear hx HN hs
        go_wp2_with fail
        go_roundw
        case rel => exact ⟨i + 1, hlt, by go_num, HN2, HK.out.alloc _⟩
        case measure => simp [intOf]; omega
    · obtain rfl : i = As.length := by omega
      obtain ⟨e1, e2⟩ := at_no L.length fun k h => HN.out k h h
      obtain rfl : false = B := by rw [← HB.out, e1]
      obtain rfl : S4.zero = S := by rw [← HS.out, e2]
      clear HN e1 e2
      have q := HK.out
      have q2 := HQ.out.keep q
      obtain ⟨c0, c1, c2, c3, f0⟩ := q2.facts
      obtain ⟨r0, r1, r2, r3⟩ := quad_box (q2.set4 0 0 0 0)
      go_wp2_with fail
      exact bodyPost_ret (v := .tuple #[.agg #[.int .u64 0, .int .u64 0, .int .u64 0, .int .u64 0], .bool false]) (by simp [results, Try.results12, go_sem, r0, r1, r2, r3]) rfl ⟨rfl, below_set4 (HW.out.trans (q.mono (Below.size HW.out))) (Nat.le_succ _) _ _ _ _⟩
end Go.Proofs.Ytbkejoheefnmiaa
