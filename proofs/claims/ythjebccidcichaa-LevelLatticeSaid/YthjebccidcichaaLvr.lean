/- Source: a range with its names. -/
import Derived.Test.YthjebccidcichaaLvq
import Derived.Laws.StructEq
namespace Go.Proofs.Ythjebccidcichaa
open Go.RowKit
def rngB (s : Int) (c : Nat) (s2 : Int) (c2 : Nat) (sens cats : Int) : Bool := chkL s c sens cats && (chkL s2 c2 sens cats && domL s2 c2 s c)
def srcE (l m : List ByteArray) (s : Int) (c : Nat) (s2 : Int) (c2 : Nat) : Int := if proper l m = false then 2 else if rngB s c s2 c2 l.length m.length = false then 18 else 0
/-- the names of a level -/
def srcL (l m : List ByteArray) (s : Int) (c : Nat) (k : Bool) : ByteArray × List Sp := if k = true then (nmAt l s.toNat, spansL m c) else (⟨#[]⟩, [])
def srcLo (l m : List ByteArray) (s : Int) (c : Nat) (s2 : Int) (c2 : Nat) : ByteArray × List Sp := srcL l m s c (decide (srcE l m s c s2 c2 = 0))
def srcHi (l m : List ByteArray) (s : Int) (c : Nat) (s2 : Int) (c2 : Nat) : ByteArray × List Sp := srcL l m s2 c2 (decide (srcE l m s c s2 c2 = 0 ∧ ¬ (s2 = s ∧ c2 = c)))
def SourceOut (l m : List ByteArray) (s : Int) (c : Nat) (s2 : Int) (c2 : Nat) (w : World) (e : Ending) (w' : World) : Prop :=
  ∃ v1 v2, e = .returned (.tuple #[.agg #[.string (srcLo l m s c s2 c2).1, v1, .string (srcHi l m s c s2 c2).1, v2], .int .i64 (srcE l m s c s2 c2)]) ∧ Spans w' v1 (srcLo l m s c s2 c2).2 ∧ Spans w' v2 (srcHi l m s c s2 c2).2 ∧ Below w.heap.size w w'
theorem Spans.but {w w' : World} {v : Value} {L : List Sp} {gb : Nat} (h : Spans w v L) (hn : ∀ g o, SpRow w g o L → L ≠ [] → g ≠ gb) (hb : ∀ g, g < w.heap.size → g ≠ gb → w'.heap[g]? = w.heap[g]?) : Spans w' v L := by
  obtain ⟨ao, cap, rfl, hr⟩ := h
  refine ⟨ao, cap, rfl, fun hl => ?_⟩
  obtain ⟨g, o, rfl, hR⟩ := hr hl
  exact ⟨g, o, rfl, hR.keep (hb g (hR.lt (List.length_pos_iff.2 hl)) (hn g o hR hl))⟩
theorem SpRow.ne4 {w : World} {L : List Sp} {g o gb : Nat} {t : TypeId} {a b : ByteArray} {x x' : Option Addr} {n n' y y' : Nat} (h : SpRow w g o L) (hl : L ≠ []) (hb : Blk w gb t #[.string a, .slice x n y, .string b, .slice x' n' y']) : g ≠ gb := by
  rintro rfl
  obtain ⟨h1, h2⟩ := h 0 (List.length_pos_iff.2 hl)
  rw [Nat.zero_mul, Nat.add_zero] at h1 h2
  rw [hb.cell] at h1 h2
  match o, h1, h2 with
  | 0, _, h2 => simp at h2
  | 1, h1, _ => simp at h1
  | 2, _, h2 => simp at h2
  | 3, h1, _ => simp at h1
  | o + 4, h1, _ => simp at h1
theorem SpRow.ne2 {w : World} {L : List Sp} {g o gb : Nat} {t : TypeId} {a : ByteArray} {x : Option Addr} {n y : Nat} (h : SpRow w g o L) (hl : L ≠ []) (hb : Blk w gb t #[.string a, .slice x n y]) : g ≠ gb := by
  rintro rfl
  obtain ⟨h1, h2⟩ := h 0 (List.length_pos_iff.2 hl)
  rw [Nat.zero_mul, Nat.add_zero] at h1 h2
  rw [hb.cell] at h1 h2
  match o, h1, h2 with
  | 0, _, h2 => simp at h2
  | 1, h1, _ => simp at h1
  | o + 2, h1, _ => simp at h1
theorem Spans.set4 {w : World} {v : Value} {L : List Sp} {gb : Nat} {t : TypeId} {a b : ByteArray} {x x' : Option Addr} {n n' y y' : Nat} (h : Spans w v L) (hb : Blk w gb t #[.string a, .slice x n y, .string b, .slice x' n' y']) (p q r s : Value) :
    Spans ((((w.setCell ⟨gb, 0, none⟩ p).setCell ⟨gb, 1, none⟩ q).setCell ⟨gb, 2, none⟩ r).setCell ⟨gb, 3, none⟩ s) v L := by
  refine h.but (gb := gb) (fun g o hR hl => hR.ne4 hl hb) fun g hg hne => ?_
  have e := fun (W : World) i u => Below.heap_setCell W ⟨gb, i, none⟩ u g hne
  rw [e, e, e, e]
theorem Spans.set22 {w : World} {v : Value} {L : List Sp} {gb : Nat} {t : TypeId} {a b : ByteArray} {x x' : Option Addr} {n n' y y' : Nat} (h : Spans w v L) (hb : Blk w gb t #[.string a, .slice x n y, .string b, .slice x' n' y']) (r s : Value) :
    Spans ((w.setCell ⟨gb, 2, none⟩ r).setCell ⟨gb, 3, none⟩ s) v L := by
  refine h.but (gb := gb) (fun g o hR hl => hR.ne4 hl hb) fun g hg hne => ?_
  have e := fun (W : World) i u => Below.heap_setCell W ⟨gb, i, none⟩ u g hne
  rw [e, e]
theorem chkL_bits {s : Int} {c : Nat} {sens cats : Int} (hc : c < U64) (h : chkL s c sens cats = true) : 0 ≤ s ∧ s < sens ∧ ∀ k : Nat, hasL c k = true → (k : Int) < cats := by
  unfold chkL at h
  rw [Bool.and_eq_true, decide_eq_true_eq] at h
  refine ⟨h.1.1, h.1.2, fun k hk => ?_⟩
  have h64 := hasL_lt hk
  exact (lowL_iff hc cats).1 h.2 k h64 (by rwa [hasL_in c k h64] at hk)
theorem rngB_parts {s : Int} {c : Nat} {s2 : Int} {c2 : Nat} {sens cats : Int} (h : rngB s c s2 c2 sens cats = true) : chkL s c sens cats = true ∧ chkL s2 c2 sens cats = true ∧ domL s2 c2 s c = true := by
  unfold rngB at h
  rw [Bool.and_eq_true, Bool.and_eq_true] at h
  exact ⟨h.1, h.2.1, h.2.2⟩
set_option maxRecDepth 100000 in
set_option maxHeartbeats 4000000 in
theorem source_c (s : Int) (c : Nat) (s2 : Int) (c2 : Nat) (v u : Value) (l m : List ByteArray) (w : World) (h1 : c < U64) (h3 : c2 < U64) (hV : Strs w v l) (hU : Strs w u m) (hF : Few l) (hG : Few m) :
    Calls Try.prog 39 #[.agg #[.int .i64 s, .int .u64 c, .int .i64 s2, .int .u64 c2], v, u] w (SourceOut l m s c s2 c2 w) := by
  obtain ⟨ao, cap, rfl, _⟩ := id hV
  obtain ⟨ao2, cap2, rfl, _⟩ := id hU
  have HP := Lib.hid (fun W (hW : Kp w W) => proper_c _ _ l m W (hV.keep hW) (hU.keep hW) hF hG)
  have HC := Lib.hid (fun W => checkRange_c s c s2 c2 l.length m.length W h1 h3)
  obtain ⟨hB1, hB2, hW0, hfr⟩ := two_box w 26 52 #[.int .i64 s, .int .u64 c, .int .i64 s2, .int .u64 c2] #[.string ⟨#[]⟩, .slice none 0 0, .string ⟨#[]⟩, .slice none 0 0]
  clear hfr
  have HS := Lib.hid hB1
  cases hp : proper l m
  · have hE : srcE l m s c s2 c2 = 2 := if_pos hp
    have hSO : ∀ w', Below w.heap.size w w' → SourceOut l m s c s2 c2 w (.returned (.tuple #[.agg #[.string ⟨#[]⟩, .slice none 0 0, .string ⟨#[]⟩, .slice none 0 0], .int .i64 2])) w' := fun w' hb => by
      refine ⟨.slice none 0 0, .slice none 0 0, ?_, ?_, ?_, hb⟩
      · unfold srcLo srcHi srcL; rw [hE]; rfl
      · unfold srcLo srcL; rw [hE]; exact Spans.nil
      · unfold srcHi srcL; rw [hE]; exact Spans.nil
    rw [hp] at HP
    have HSO := Lib.hid hSO
    clear hp hE hSO hV hU HC HS
    go_enter Try.func39, Try.ntmps39
    go_wp2_with fail
    refine (HP.out _ hW0).mono ?_
    rintro e w2 ⟨rfl, hb2⟩
    have hC := Kp.step (W := w) hW0 hb2
    have q2 := hB2.keep hb2
    obtain ⟨z0, z1, z2, z3, z4, z5, z6, z7⟩ := q2.cells4
    go_wp2_with fail
    obtain ⟨r0, r1, r2, r3⟩ := (q2.set4 (.string ⟨#[]⟩) (.slice none 0 0) (.string ⟨#[]⟩) (.slice none 0 0)).box4
    exact bodyPost_ret (v := .tuple #[.agg #[.string ⟨#[]⟩, .slice none 0 0, .string ⟨#[]⟩, .slice none 0 0], .int .i64 2]) (by simp [results, Try.results39, go_sem, r0, r1, r2, r3]) rfl (HSO.out _ (below_set4 hC (Nat.le_succ _) _ _ _ _))
  · cases hr : rngB s c s2 c2 l.length m.length
    · have hE : srcE l m s c s2 c2 = 18 := by unfold srcE; rw [hp, hr]; rfl
      have hSO : ∀ w', Below w.heap.size w w' → SourceOut l m s c s2 c2 w (.returned (.tuple #[.agg #[.string ⟨#[]⟩, .slice none 0 0, .string ⟨#[]⟩, .slice none 0 0], .int .i64 18])) w' := fun w' hb => by
        refine ⟨.slice none 0 0, .slice none 0 0, ?_, ?_, ?_, hb⟩
        · unfold srcLo srcHi srcL; rw [hE]; rfl
        · unfold srcLo srcL; rw [hE]; exact Spans.nil
        · unfold srcHi srcL; rw [hE]; exact Spans.nil
      rw [hp] at HP
      unfold rngB at hr
      rw [hr] at HC
      have HSO := Lib.hid hSO
      clear hp hr hE hSO hV hU HS
      go_enter Try.func39, Try.ntmps39
      go_wp2_with fail
      refine (HP.out _ hW0).mono ?_
      rintro e w2 ⟨rfl, hb2⟩
      have hC := Kp.step (W := w) hW0 hb2
      have q1 := hB1.keep hb2
      have q2 := hB2.keep hb2
      obtain ⟨y0, y1, y2, y3⟩ := q1.box4
      clear hb2
      go_wp2_with fail
      refine (HC.out _).mono ?_
      rintro e w3 ⟨rfl, hb3⟩
      have hC3 := Kp.step hC hb3
      have q3 := q2.keep hb3
      obtain ⟨z0, z1, z2, z3, z4, z5, z6, z7⟩ := q3.cells4
      go_wp2_with fail
      obtain ⟨r0, r1, r2, r3⟩ := (q3.set4 (.string ⟨#[]⟩) (.slice none 0 0) (.string ⟨#[]⟩) (.slice none 0 0)).box4
      exact bodyPost_ret (v := .tuple #[.agg #[.string ⟨#[]⟩, .slice none 0 0, .string ⟨#[]⟩, .slice none 0 0], .int .i64 18]) (by simp [results, Try.results39, go_sem, r0, r1, r2, r3]) rfl (HSO.out _ (below_set4 hC3 (Nat.le_succ _) _ _ _ _))
    · have hE : srcE l m s c s2 c2 = 0 := by unfold srcE; rw [hp, hr]; rfl
      obtain ⟨k1, k2, _⟩ := rngB_parts hr
      obtain ⟨a1, a2, a3⟩ := chkL_bits h1 k1
      obtain ⟨b1, b2, b3⟩ := chkL_bits h3 k2
      obtain ⟨pl, pm⟩ := proper_len hp
      have HN1 := Lib.hid (fun W (hW : Kp w W) => named_c s c _ _ l m W h1 (hV.keep hW) (hU.keep hW) (by omega) pm a1 a2 (fun k hk => by have := a3 k hk; omega))
      have HN2 := Lib.hid (fun W (hW : Kp w W) => named_c s2 c2 _ _ l m W h3 (hV.keep hW) (hU.keep hW) (by omega) pm b1 b2 (fun k hk => by have := b3 k hk; omega))
      have hSO : ∀ w' v1 v2, Below w.heap.size w w' → Spans w' v1 (spansL m c) → Spans w' v2 (srcHi l m s c s2 c2).2 → SourceOut l m s c s2 c2 w (.returned (.tuple #[.agg #[.string (nmAt l s.toNat), v1, .string (srcHi l m s c s2 c2).1, v2], .int .i64 0])) w' := fun w' v1 v2 hb g1 g2 => by
        refine ⟨v1, v2, ?_, ?_, g2, hb⟩
        · rw [hE]; unfold srcLo srcL; rw [hE]; rfl
        · unfold srcLo srcL; rw [hE]; exact g1
      rw [hp] at HP
      have hr' := hr
      unfold rngB at hr'
      rw [hr'] at HC
      obtain ⟨X1, hX1⟩ : ∃ X, nmAt l s.toNat = X := ⟨_, rfl⟩
      rw [hX1] at hSO
      have HX1 := Lib.hid hX1
      have HSO := Lib.hid hSO
      by_cases he : s2 = s ∧ c2 = c
      · have hHi : srcHi l m s c s2 c2 = (⟨#[]⟩, []) := by unfold srcHi srcL; rw [if_neg (by simp [he])]
        rw [hHi] at HSO
        obtain ⟨rfl, rfl⟩ := he
        clear hp hr hr' hE hV hU HS k1 k2 a3 b3 hHi hX1 hSO
        go_enter Try.func39, Try.ntmps39
        go_wp2_with fail
        refine (HP.out _ hW0).mono ?_
        rintro e w2 ⟨rfl, hb2⟩
        have hC := Kp.step (W := w) hW0 hb2
        have q1 := hB1.keep hb2
        have q2 := hB2.keep hb2
        obtain ⟨y0, y1, y2, y3⟩ := q1.box4
        clear hb2
        go_wp2_with fail
        refine (HC.out _).mono ?_
        rintro e w3 ⟨rfl, hb3⟩
        have hC3 := Kp.step hC hb3
        have q3 := q1.keep hb3
        have q4 := q2.keep hb3
        obtain ⟨y0, y1, y2, y3⟩ := q3.box4
        clear q1 q2 hb3 hC
        go_wp2_with fail
        refine (HN1.out _ hC3).mono ?_
        rintro e w5 ⟨cv, rfl, hS5, hb5⟩
        rw [HX1.out]
        have hC5 := Kp.step hC3 hb5
        have q5 := q3.keep hb5
        have q6 := q4.keep hb5
        have q7 := Blk.new w5 52 #[.string X1, cv, .string ⟨#[]⟩, .slice none 0 0]
        have hS7 := hS5.keep ((Below.refl _ _).alloc (Nat.le_refl _) (.cells #[.string X1, cv, .string ⟨#[]⟩, .slice none 0 0] 52))
        have q8 := q6.alloc (.cells #[.string X1, cv, .string ⟨#[]⟩, .slice none 0 0] 52)
        obtain ⟨x0, x1, x2, x3, x4, x5, x6, x7⟩ := q5.aft4
        obtain ⟨z0, z1, z2, z3, z4, z5, z6, z7⟩ := q8.cells4
        have HQ8 := Lib.hid q8
        have HS7 := Lib.hid hS7
        obtain ⟨aox, capx, rfl, _⟩ := id hS5
        clear q3 q4 q5 q6 q7 q8 hb5 hS5 hC3 hS7
        go_wp2_with fail
        have RB := HQ8.out.set4 (.string X1) (.slice aox (spansL m c2).length capx) (.string ⟨#[]⟩) (.slice none 0 0)
        obtain ⟨r0, r1, r2, r3⟩ := RB.box4
        exact bodyPost_ret (v := .tuple #[.agg #[.string X1, .slice aox (spansL m c2).length capx, .string ⟨#[]⟩, .slice none 0 0], .int .i64 0]) (by simp [results, Try.results39, go_sem, r0, r1, r2, r3]) rfl (HSO.out _ _ _ (below_set4 (hC5.alloc _) (Nat.le_succ _) _ _ _ _) (HS7.out.set4 HQ8.out _ _ _ _) Spans.nil)
      · have hHi : srcHi l m s c s2 c2 = (nmAt l s2.toNat, spansL m c2) := by unfold srcHi srcL; rw [if_pos (by simp [hE, he])]
        rw [hHi] at HSO
        obtain ⟨X2, hX2⟩ : ∃ X, nmAt l s2.toNat = X := ⟨_, rfl⟩
        rw [hX2] at HSO
        have HX2 := Lib.hid hX2
        have hne : (¬ s2 = s ∧ (s2 == s) = false) ∨ (s2 = s ∧ ¬ c2 = c ∧ ((c2 : Int) == (c : Int)) = false) := by
          by_cases h : s2 = s
          · have hcc : ¬ c2 = c := fun h2 => he ⟨h, h2⟩
            exact .inr ⟨h, hcc, by simp; omega⟩
          · exact .inl ⟨h, by simpa using h⟩
        clear hp hr hr' hE hV hU HS k1 k2 a3 b3 hHi hX1 hSO hX2 he
        rcases hne with ⟨hn1, hn2⟩ | ⟨rfl, hn1, hn2⟩
        all_goals
          go_enter Try.func39, Try.ntmps39
          go_wp2_with fail
          refine (HP.out _ hW0).mono ?_
          rintro e w2 ⟨rfl, hb2⟩
          have hC := Kp.step (W := w) hW0 hb2
          have q1 := hB1.keep hb2
          have q2 := hB2.keep hb2
          obtain ⟨y0, y1, y2, y3⟩ := q1.box4
          clear hb2
          go_wp2_with fail
          refine (HC.out _).mono ?_
          rintro e w3 ⟨rfl, hb3⟩
          have hC3 := Kp.step hC hb3
          have q3 := q1.keep hb3
          have q4 := q2.keep hb3
          obtain ⟨y0, y1, y2, y3⟩ := q3.box4
          clear q1 q2 hb3 hC
          go_wp2_with fail
          refine (HN1.out _ hC3).mono ?_
          rintro e w5 ⟨cv, rfl, hS5, hb5⟩
          rw [HX1.out]
          obtain ⟨aox, capx, rfl, _⟩ := id hS5
          have hC5 := Kp.step hC3 hb5
          have q5 := q3.keep hb5
          have q6 := q4.keep hb5
          have hge : w.heap.size + 1 < w5.heap.size := q6.lt
          have hC7 := hC5.alloc (.cells #[.string X1, .slice aox (spansL m c).length capx, .string ⟨#[]⟩, .slice none 0 0] 52)
          have q7 := Blk.new w5 52 #[.string X1, .slice aox (spansL m c).length capx, .string ⟨#[]⟩, .slice none 0 0]
          have hS7 := hS5.keep ((Below.refl _ _).alloc (Nat.le_refl _) (.cells #[.string X1, .slice aox (spansL m c).length capx, .string ⟨#[]⟩, .slice none 0 0] 52))
          have q8 := q6.alloc (.cells #[.string X1, .slice aox (spansL m c).length capx, .string ⟨#[]⟩, .slice none 0 0] 52)
          obtain ⟨x0, x1, x2, x3, x4, x5, x6, x7⟩ := q5.aft4
          have HQ7 := Lib.hid q7
          have HQ8 := Lib.hid q8
          have HS7 := Lib.hid hS7
          clear q3 q4 q5 q6 q7 q8 hb5 hS5 hC3 hS7
          go_wp2_with fail
          refine (HN2.out _ hC7).mono ?_
          rintro e w9 ⟨dv, rfl, hS9, hb9⟩
          rw [HX2.out]
          obtain ⟨aoy, capy, rfl, _⟩ := id hS9
          have hC9 := Kp.step hC7 hb9
          have q7 := HQ7.out.keep hb9
          have q8 := HQ8.out.keep hb9
          have hS8 := HS7.out.keep hb9
          obtain ⟨z0, z1, z2, z3, z4, z5, z6, z7⟩ := q7.cells4
          have p8 := (q8.far (p := ⟨w5.heap.size, 2, none⟩) (Nat.ne_of_lt hge) (.string X2)).far (p := ⟨w5.heap.size, 3, none⟩) (Nat.ne_of_lt hge) (.slice aoy (spansL m c2).length capy)
          have p7 : Blk ((w9.setCell ⟨w5.heap.size, 2, none⟩ (.string X2)).setCell ⟨w5.heap.size, 3, none⟩ (.slice aoy (spansL m c2).length capy)) w5.heap.size 52 #[.string X1, .slice aox (spansL m c).length capx, .string X2, .slice aoy (spansL m c2).length capy] := by simpa using (q7.set 2 (.string X2)).set 3 (.slice aoy (spansL m c2).length capy)
          have pS8 := hS8.set22 q7 (.string X2) (.slice aoy (spansL m c2).length capy)
          have pS9 := hS9.set22 q7 (.string X2) (.slice aoy (spansL m c2).length capy)
          have pC : Kp w ((w9.setCell ⟨w5.heap.size, 2, none⟩ (.string X2)).setCell ⟨w5.heap.size, 3, none⟩ (.slice aoy (spansL m c2).length capy)) := (Below.setCell hC9 (p := ⟨w5.heap.size, 2, none⟩) (by simp only; omega) _).setCell (p := ⟨w5.heap.size, 3, none⟩) (by simp only; omega) _
          obtain ⟨d0, d1, d2, d3, d4, d5, d6, d7⟩ := p7.cells4
          obtain ⟨f0, f1, f2, f3, f4, f5, f6, f7⟩ := p8.cells4
          have HP8 := Lib.hid p8
          have HS8 := Lib.hid pS8
          have HS9 := Lib.hid pS9
          have HPC := Lib.hid pC
          clear q7 q8 hS8 hS9 hb9 p7 p8 pS8 pS9 pC hC9
          go_wp2_with fail
          obtain ⟨r0, r1, r2, r3⟩ := (HP8.out.set4 (.string X1) (.slice aox (spansL m c).length capx) (.string X2) (.slice aoy (spansL m c2).length capy)).box4
          exact bodyPost_ret (v := .tuple #[.agg #[.string X1, .slice aox (spansL m c).length capx, .string X2, .slice aoy (spansL m c2).length capy], .int .i64 0]) (by simp [results, Try.results39, go_sem, r0, r1, r2, r3]) rfl (HSO.out _ _ _ (below_set4 HPC.out (Nat.le_succ _) _ _ _ _) (HS8.out.set4 HP8.out _ _ _ _) (HS9.out.set4 HP8.out _ _ _ _))
end Go.Proofs.Ythjebccidcichaa
