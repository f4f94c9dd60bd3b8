/- The level of a level in a source. -/
import Derived.Test.YthjebccidcichaaLvg
import Derived.Deep.RegionHeld3
namespace Go.Proofs.Ythjebccidcichaa
open Go.RowKit
abbrev Sp := ByteArray × ByteArray
def SpRow (w : World) (g o : Nat) (L : List Sp) : Prop := ∀ k (h : k < L.length), w.cell? ⟨g, o + k * 2, none⟩ = some (.string L[k].1) ∧ w.cell? ⟨g, o + k * 2 + 1, none⟩ = some (.string L[k].2)
/-- a slice that reads as these spans -/
def Spans (w : World) (v : Value) (L : List Sp) : Prop := ∃ ao cap, v = .slice ao L.length cap ∧ (L ≠ [] → ∃ g o, ao = some ⟨g, o, none⟩ ∧ SpRow w g o L)
section
variable {w w' : World} {v : Value} {L : List Sp} {g o : Nat}
theorem SpRow.lt (h : SpRow w g o L) (hl : 0 < L.length) : g < w.heap.size := by
  have := (h 0 hl).1
  rcases Nat.lt_or_ge g w.heap.size with h' | h'
  · exact h'
  · simp [World.cell?, Array.getElem?_eq_none h'] at this
theorem SpRow.keep (h : SpRow w g o L) (hb : w'.heap[g]? = w.heap[g]?) : SpRow w' g o L := fun k hk => ⟨(World.cell?_of_block hb).trans (h k hk).1, (World.cell?_of_block hb).trans (h k hk).2⟩
theorem Spans.nil : Spans w (.slice none 0 0) [] := ⟨none, 0, rfl, fun h => absurd rfl h⟩
theorem Spans.keep (h : Spans w v L) (hb : Below w.heap.size w w') : Spans w' v L := by
  obtain ⟨ao, cap, rfl, hr⟩ := h
  refine ⟨ao, cap, rfl, fun hl => ?_⟩
  obtain ⟨g, o, rfl, hR⟩ := hr hl
  exact ⟨g, o, rfl, hR.keep (hb.block g (hR.lt (List.length_pos_iff.2 hl)))⟩
end
section
variable {w w' : World} {g : Nat} {t : TypeId} {a b : Value}
theorem Blk.cells2 (h : Blk w g t #[a, b]) : w.cell? ⟨g, 0, none⟩ = some a ∧ w.cell? ⟨g, 1, none⟩ = some b ∧ w.frozen? ⟨g, 0, none⟩ = false ∧ w.frozen? ⟨g, 1, none⟩ = false := ⟨h.cell 0, h.cell 1, h.frozen 0, h.frozen 1⟩
theorem Blk.set2 (h : Blk w g t #[a, b]) (x y : Value) : Blk ((w.setCell ⟨g, 0, none⟩ x).setCell ⟨g, 1, none⟩ y) g t #[x, y] := by
  simpa using (h.set 0 x).set 1 y
theorem Blk.far2 {g' : Nat} {cs : Array Value} (h : Blk w g t cs) (hn : g ≠ g') (x y : Value) : Blk ((w.setCell ⟨g', 0, none⟩ x).setCell ⟨g', 1, none⟩ y) g t cs :=
  (h.far (p := ⟨g', 0, none⟩) hn x).far (p := ⟨g', 1, none⟩) hn y
theorem below_set2 {B g : Nat} (h : Below B w w') (hg : B ≤ g) (x y : Value) : Below B w ((w'.setCell ⟨g, 0, none⟩ x).setCell ⟨g, 1, none⟩ y) :=
  (h.setCell (p := ⟨g, 0, none⟩) hg _).setCell (p := ⟨g, 1, none⟩) hg _
end
def spsC (cats : List ByteArray) : List Sp → Int
  | [] => 0
  | sp :: L => if spCode cats sp = 0 then spsC cats L else spCode cats sp
def spsB (cats : List ByteArray) (L : List Sp) : Nat := L.foldl (fun a sp => a ||| spBits cats sp) 0
theorem spsC_all {cats : List ByteArray} : ∀ {L : List Sp}, (∀ k (h : k < L.length), spCode cats L[k] = 0) → spsC cats L = 0
  | [], _ => rfl
  | sp :: L, h => by
    unfold spsC
    rw [if_pos (show spCode cats sp = 0 from h 0 (by simp))]
    exact spsC_all fun k hk => h (k + 1) (by simpa using hk)
theorem spsC_at {cats : List ByteArray} : ∀ {L : List Sp} {i : Nat} (hi : i < L.length), (∀ k (_ : k < i) (h : k < L.length), spCode cats L[k] = 0) → spCode cats L[i] ≠ 0 → spsC cats L = spCode cats L[i]
  | [], _, hi, _, _ => absurd hi (by simp)
  | sp :: L, 0, _, _, h => by
    unfold spsC
    exact if_neg h
  | sp :: L, i + 1, hi, ha, h => by
    unfold spsC
    rw [if_pos (show spCode cats sp = 0 from ha 0 (by omega) (by simp))]
    exact spsC_at (by simpa using hi) (fun k hk h' => ha (k + 1) (by omega) (by simpa using h')) h
theorem spsB_step {cats : List ByteArray} {L : List Sp} {i : Nat} (h : i < L.length) : spsB cats (L.take (i + 1)) = spsB cats (L.take i) ||| spBits cats L[i] := by
  unfold spsB
  rw [List.take_succ_eq_append_getElem h, List.foldl_append]
  rfl
theorem spBits_lt {cats : List ByteArray} (sp : Sp) (hm : cats.length ≤ 64) : spBits cats sp < U64 := by
  have h1 := spF_bd cats sp
  obtain ⟨h2, h3, h4⟩ := spT_bd cats sp
  unfold spBits
  split
  · rename_i h
    have h5 : ¬ (spF cats sp < 0 ∨ spT cats sp < 0) := fun h' => by
      unfold spCode at h; rw [if_pos h'] at h; cases h
    have h6 : ¬ spT cats sp < spF cats sp := fun h' => by
      unfold spCode at h; rw [if_neg h5, if_pos h'] at h; cases h
    exact orB_lt (by decide) _ (by omega)
  · decide
theorem spsB_lt {cats : List ByteArray} {L : List Sp} (hm : cats.length ≤ 64) : ∀ i, spsB cats (L.take i) < U64
  | 0 => by simp [spsB, U64]
  | i + 1 => by
    rcases Nat.lt_or_ge i L.length with h | h
    · rw [spsB_step h]
      exact or_lt (spsB_lt hm i) (spBits_lt _ hm)
    · rw [List.take_of_length_le (by omega)]
      have := spsB_lt (L := L) hm i
      rwa [List.take_of_length_le (by omega)] at this
def levE (l m : List ByteArray) (sn : ByteArray) (L : List Sp) : Int := if proper l m = false then 2 else if idxS l sn < 0 then 11 else spsC m L
def levS (l m : List ByteArray) (sn : ByteArray) (L : List Sp) : Int := if levE l m sn L = 0 then idxS l sn else 0
def levC (l m : List ByteArray) (sn : ByteArray) (L : List Sp) : Nat := if levE l m sn L = 0 then spsB m L else 0
theorem proper_len {l m : List ByteArray} (h : proper l m = true) : l.length ≤ 16 ∧ m.length ≤ 64 := by
  unfold proper propL at h
  simp only [Bool.and_eq_true, decide_eq_true_eq] at h
  omega
set_option maxRecDepth 100000 in
set_option maxHeartbeats 4000000 in
theorem level_c (cv v u : Value) (sn : ByteArray) (L : List Sp) (l m : List ByteArray) (w : World) (hS : Spans w cv L) (hV : Strs w v l) (hU : Strs w u m) (hF : Few l) (hG : Few m) (hL : L.length ≤ 1000000000000) :
    Calls Try.prog 35 #[.agg #[.string sn, cv], v, u] w fun e w' => e = .returned (.tuple #[.agg #[.int .i64 (levS l m sn L), .int .u64 (levC l m sn L)], .int .i64 (levE l m sn L)]) ∧ Below w.heap.size w w' := by
  obtain ⟨E, hE⟩ : ∃ E, levE l m sn L = E := ⟨_, rfl⟩
  obtain ⟨S, hSS⟩ : ∃ S, levS l m sn L = S := ⟨_, rfl⟩
  obtain ⟨C, hCC⟩ : ∃ C, levC l m sn L = C := ⟨_, rfl⟩
  have hSS2 := hSS
  have hCC2 := hCC
  unfold levS at hSS2
  unfold levC at hCC2
  rw [hE, hSS, hCC]
  rw [hE] at hSS2 hCC2
  unfold levE at hE
  clear hSS hCC
  have hS0 : E ≠ 0 → S = 0 ∧ C = 0 := fun h => by rw [if_neg h] at hSS2 hCC2; exact ⟨hSS2.symm, hCC2.symm⟩
  obtain ⟨ao, cap, rfl, _⟩ := id hV
  obtain ⟨ao2, cap2, rfl, _⟩ := id hU
  obtain ⟨aos, caps, rfl, _⟩ := id hS
  have hPR := Lib.hid (fun W (hW : Kp w W) => proper_c _ _ l m W (hV.keep hW) (hU.keep hW) hF hG)
  have hl := hF.1
  have hIX := Lib.hid (fun W (hW : Kp w W) => index_c _ l sn W (hV.keep hW) (by omega))
  obtain ⟨p, hp⟩ : ∃ p, proper l m = p := ⟨_, rfl⟩
  rw [hp] at hPR hE
  obtain ⟨F, hFi⟩ : ∃ F, idxS l sn = F := ⟨_, rfl⟩
  rw [hFi] at hIX hE hSS2
  obtain ⟨hB1, hB2, hW0, hfr⟩ := two_box w 50 24 #[.string sn, .slice aos L.length caps] #[.int .i64 0, .int .u64 0]
  clear hfr
  cases p
  · rw [if_pos rfl] at hE
    subst hE
    obtain ⟨rfl, rfl⟩ := hS0 (by decide)
    clear hSS2 hCC2 hS0 hFi hp hIX
    go_enter Try.func35, Try.ntmps35
    go_wp2_with fail
    refine (hPR.out _ hW0).mono ?_
    rintro e w2 ⟨rfl, hb2⟩
    have hC := Kp.step (W := w) hW0 hb2
    have q2 := hB2.keep hb2
    obtain ⟨z0, z1, z2, z3⟩ := q2.cells2
    go_wp2_with fail
    obtain ⟨r0, r1⟩ := (q2.set2 (.int .i64 0) (.int .u64 0)).box2
    exact bodyPost_ret (v := .tuple #[.agg #[.int .i64 0, .int .u64 0], .int .i64 2]) (by simp [results, Try.results35, go_sem, r0, r1]) rfl ⟨rfl, below_set2 hC (Nat.le_succ _) _ _⟩
  · rw [if_neg (by decide)] at hE
    have hm := (proper_len hp).2
    by_cases hF0 : F < 0
    · rw [if_pos hF0] at hE
      subst hE
      obtain ⟨rfl, rfl⟩ := hS0 (by decide)
      clear hSS2 hCC2 hS0 hFi hp
      go_enter Try.func35, Try.ntmps35
      go_wp2_with fail
      refine (hPR.out _ hW0).mono ?_
      rintro e w2 ⟨rfl, hb2⟩
      have hC := Kp.step (W := w) hW0 hb2
      have q1 := hB1.keep hb2
      have q2 := hB2.keep hb2
      obtain ⟨y0, y1, y2, y3⟩ := q1.cells2
      obtain ⟨z0, z1, z2, z3⟩ := q2.cells2
      have qa : ∀ o, (w2.alloc o).cell? ⟨w.heap.size + 1, 0, none⟩ = some (.int .i64 0) := fun o => (q2.alloc o).cell 0
      have qb : ∀ o, (w2.alloc o).cell? ⟨w.heap.size + 1, 1, none⟩ = some (.int .u64 0) := fun o => (q2.alloc o).cell 1
      have qc : ∀ o, (w2.alloc o).frozen? ⟨w.heap.size + 1, 0, none⟩ = false := fun o => (q2.alloc o).frozen 0
      have qd : ∀ o, (w2.alloc o).frozen? ⟨w.heap.size + 1, 1, none⟩ = false := fun o => (q2.alloc o).frozen 1
      go_wp2_with (go_at_call 50; refine (hIX.out _ (by assumption)).mono ?_; rintro e w3 ⟨rfl, rfl⟩)
      obtain ⟨r0, r1⟩ := ((q2.alloc (.cells #[.int .i64 F, .int .u64 0] 24)).set2 (.int .i64 0) (.int .u64 0)).box2
      exact bodyPost_ret (v := .tuple #[.agg #[.int .i64 0, .int .u64 0], .int .i64 11]) (by simp [results, Try.results35, go_sem, r0, r1]) rfl ⟨rfl, below_set2 (hC.alloc _) (Nat.le_succ _) _ _⟩
    · rw [if_neg hF0] at hE
      have hE2 : spsC m L = E := hE
      have hSE : E = 0 → S = F := fun h => by rw [if_pos h] at hSS2; exact hSS2.symm
      have hCE : E = 0 → C = spsB m L := fun h => by rw [if_pos h] at hCC2; exact hCC2.symm
      have HS0 := Lib.hid hS0
      have HSE := Lib.hid hSE
      have HCE := Lib.hid hCE
      have HE := Lib.hid hE2
      have HU := Lib.hid hU
      have HS := Lib.hid hS
      have HB1 := Lib.hid hB1
      have HB2 := Lib.hid hB2
      have HFi := Lib.hid hFi
      clear hSS2 hCC2 hS0 hSE hCE hE hE2 hp hFi hS hU hV
      go_enter Try.func35, Try.ntmps35
      go_wp2_with fail
      refine (hPR.out _ hW0).mono ?_
      rintro e w2 ⟨rfl, hb2⟩
      have hC := Kp.step (W := w) hW0 hb2
      have q1 := HB1.out.keep hb2
      have q2 := HB2.out.keep hb2
      obtain ⟨y0, y1, y2, y3⟩ := q1.cells2
      have ya : ∀ o, (w2.alloc o).cell? ⟨w.heap.size, 1, none⟩ = some (.slice aos L.length caps) := fun o => (q1.alloc o).cell 1
      have HQ1 := Lib.hid q1
      have HQ2 := Lib.hid q2
      clear q1 q2
      go_wp2_with (go_at_call 50; refine (hIX.out _ (by assumption)).mono ?_; rintro e w3 ⟨rfl, rfl⟩)
      have hC' : Kp w (w3.alloc (.cells #[.int .i64 F, .int .u64 0] 24 )) := hC.alloc _
      have q1 := HQ1.out.alloc (.cells #[.int .i64 F, .int .u64 0] 24 )
      have q2 := HQ2.out.alloc (.cells #[.int .i64 F, .int .u64 0] 24 )
      have q3 := Blk.new w3 24 #[.int .i64 F, .int .u64 0]
      generalize w3.alloc (.cells #[.int .i64 F, .int .u64 0] 24 ) = w4 at *
      have hg8 : w.heap.size ≤ w3.heap.size := hC.size
      have hg9 : w.heap.size + 1 < w3.heap.size := HQ2.out.lt
      generalize w3.heap.size = g8 at *
      clear hb2 y0 y1 y2 y3 ya HQ1 HQ2 hC HB1 HB2 hW0
      go_loopw [30] (fun vi wr => ∃ (i A : Nat), i ≤ L.length ∧ vi = .int .i64 i ∧ Hid (∀ k (_ : k < i) (h : k < L.length), spCode m L[k] = 0) ∧ Hid (spsB m (L.take i) = A) ∧ Kp w wr ∧ Blk wr (w.heap.size + 1) 24 #[.int .i64 0, .int .u64 0] ∧ Blk wr g8 24 #[.int .i64 F, .int .u64 A]) (fun vi _ => L.length - (intOf vi).toNat)
      case atStart => exact ⟨0, 0, Nat.zero_le _, rfl, Lib.hid (fun k h => absurd h (by omega)), Lib.hid rfl, hC', q2, q3⟩
      case round =>
        obtain ⟨i, A, hi, rfl, HA, HB, hC, q2, q3⟩ := hrel
        by_cases hlt : i < L.length
        · have hlt' : (i : Int) < (L.length : Int) := by omega
          obtain ⟨ao', cap', hv, hr⟩ := HS.out.keep hC
          cases hv
          obtain ⟨g, o, rfl, hRow⟩ := hr (by rintro rfl; simp at hlt)
          obtain ⟨s1, s2⟩ := hRow i hlt
          obtain ⟨a1, a2, a3, a4⟩ := q3.cells2
          obtain ⟨sp, hsp⟩ : ∃ sp, L[i] = sp := ⟨_, rfl⟩
          rw [hsp] at s1 s2
          obtain ⟨x1, x2⟩ := sp
          have HCT := Lib.hid (fun W (hW : Kp w W) => categories_c _ m (x1, x2) W (HU.out.keep hW) hm)
          obtain ⟨X, hX⟩ : ∃ X, spBits m (x1, x2) = X := ⟨_, rfl⟩
          have HX1 : Hid (X < U64) := Lib.hid (hX ▸ spBits_lt _ hm)
          have HX2 : Hid (spsB m (L.take (i + 1)) = A ||| X) := Lib.hid (by rw [spsB_step hlt, HB.out, hsp, hX])
          have HA1 : Hid (A < U64) := Lib.hid (HB.out ▸ spsB_lt hm i)
          obtain ⟨c, hc⟩ : ∃ c, spCode m (x1, x2) = c := ⟨_, rfl⟩
          rw [hX, hc] at HCT
          have HCa := Lib.hid (fun W (hW : Kp w W) => hW.alloc (.cells #[.string x1, .string x2] 68))
          have HQ2 := Lib.hid q2
          have HQ3 := Lib.hid q3
          by_cases hc0 : c = 0
          · subst hc0
            have HA2 : Hid (∀ k (_ : k < i + 1) (h : k < L.length), spCode m L[k] = 0) := Lib.hid fun k hk h => by
              rcases Nat.lt_or_ge k i with h' | h'
              · exact HA.out k h' h
              · obtain rfl : k = i := by omega
                rw [hsp]; exact hc
            clear hX hc hsp hRow q2 q3 HB HA
            go_wp2_with (go_at_call 51; refine (HCT.out _ (HCa.out _ hC)).mono ?_; rintro e w5 ⟨rfl, hb5⟩; have hC5 := Kp.step (hC.alloc _) hb5; obtain ⟨b1, b2, b3, b4⟩ := ((HQ3.out.alloc _).keep hb5).cells2)
            rw [u64_or_nat A X HA1.out HX1.out]
            have Z2 := ((HQ2.out.alloc (.cells #[.string x1, .string x2] 68)).keep hb5).far (p := ⟨g8, 1, none⟩) (Nat.ne_of_lt hg9) (.int .u64 ((A ||| X : Nat) : Int))
            have Z3 := ((HQ3.out.alloc (.cells #[.string x1, .string x2] 68)).keep hb5).set 1 (.int .u64 ((A ||| X : Nat) : Int))
            refine ⟨⟨i + 1, A ||| X, hlt, by go_num, HA2, HX2, hC5.setCell hg8 _, Z2, by simpa using Z3⟩, ?_⟩
            simp [intOf]
            omega
          · have hEc : E = c := by rw [← HE.out, ← hc, ← hsp]; exact spsC_at hlt HA.out (by rw [hsp, hc]; exact hc0)
            subst hEc
            obtain ⟨rfl, rfl⟩ := HS0.out hc0
            have hcb : (E == 0) = false := by simpa using hc0
            clear hX hc hsp hRow q2 q3 HB HA
            go_wp2_with (go_at_call 51; refine (HCT.out _ (HCa.out _ hC)).mono ?_; rintro e w5 ⟨rfl, hb5⟩; have hC5 := Kp.step (hC.alloc _) hb5; obtain ⟨b1, b2, b3, b4⟩ := ((HQ2.out.alloc _).keep hb5).cells2)
            obtain ⟨r0, r1⟩ := (((HQ2.out.alloc (.cells #[.string x1, .string x2] 68)).keep hb5).set2 (.int .i64 0) (.int .u64 0)).box2
            exact bodyPost_ret (v := .tuple #[.agg #[.int .i64 0, .int .u64 0], .int .i64 E]) (by simp [results, Try.results35, go_sem, r0, r1]) rfl ⟨rfl, below_set2 hC5 (Nat.le_succ _) _ _⟩
        · obtain rfl : i = L.length := by omega
          have hE0 : E = 0 := by rw [← HE.out]; exact spsC_all fun k h => HA.out k h h
          have hSF := HSE.out hE0
          have hCF := HCE.out hE0
          subst hE0
          have hBA : C = A := by rw [hCF, ← HB.out, List.take_length]
          subst hSF
          subst hBA
          have HQ2 := Lib.hid q2
          obtain ⟨a1, a2, a3, a4⟩ := q3.cells2
          obtain ⟨b1, b2, b3, b4⟩ := q2.cells2
          clear HA HB HE HSE HCE HS0 q2 q3 hCF
          go_wp2_with fail
          obtain ⟨r0, r1⟩ := (HQ2.out.set2 (.int .i64 S) (.int .u64 C)).box2
          exact bodyPost_ret (v := .tuple #[.agg #[.int .i64 S, .int .u64 C], .int .i64 0]) (by simp [results, Try.results35, go_sem, r0, r1]) rfl ⟨rfl, below_set2 hC (Nat.le_succ _) _ _⟩
end Go.Proofs.Ythjebccidcichaa
