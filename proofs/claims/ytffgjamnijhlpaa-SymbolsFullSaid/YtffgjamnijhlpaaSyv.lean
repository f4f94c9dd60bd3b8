/- The laws Model, Finds and Copies, walked. -/
import Derived.Test.YtffgjamnijhlpaaSyu
namespace Go.Proofs.Ytffgjamnijhlpaa
open Go.RowKit Go.Maps Go.Sort
/-- a new table, a first state in a box -/
structure Begun (w : World) (n : Nat) (g b : Nat) (w3 : World) : Prop where
  tab : TabF w3 (fun k => w.heap.size ≤ k ∧ k < b) g n [] []
  box : Blk w3 b 28 #[.int .i64 n, .slice none 0 0, .slice none 0 0]
  below : Below w.heap.size w w3
  lt : w.heap.size ≤ b
theorem begun {w w1 w2 : World} {n g : Nat} (hT : Tab w1 w.heap.size g n [] []) (hb1 : Below w.heap.size w w1) (hb2 : Below w1.heap.size w1 w2) :
    Begun w n g w2.heap.size (w2.alloc (.cells #[.int .i64 n, .slice none 0 0, .slice none 0 0] 28)) := by
  have h1 := hb1.size
  have h2 := hb2.size
  have h3 : Below w1.heap.size w1 (w2.alloc (.cells #[.int .i64 n, .slice none 0 0, .slice none 0 0] 28)) := hb2.alloc h2 _
  refine ⟨?_, Blk.new w2 _ _, hb1.trans (h3.mono h1), by omega⟩
  obtain ⟨bm, vn, a1, a2, a3, a4, a5, a6, a7, a8⟩ := hT.own.below h3
  exact ⟨bm, vn, a1, a2, a3, a4, ⟨a5.1, by omega⟩, ⟨a6.1, by omega⟩, fun k hk => ⟨(a7 k hk).1, by have := (a7 k hk).2; omega⟩, fun k hk => by simp; omega⟩
/-- what a play leaves behind when its state is stored -/
structure Played (w : World) (n g b : Nat) (F G : Nat → Prop) (v : Value) (names : List ByteArray) (E als : List (ByteArray × Int)) (w5 : World) : Prop where
  tab : TabF w5 F g n names E
  rs : RS w5 G v n names als
  apart : ∀ k, G k → ¬ F k
  lo : ∀ k, F k → w.heap.size ≤ k
  box : ¬ F b
  mate : Mate names als E
  small : Small E
  names : names.length ≤ n
  als : als.length ≤ 4096
  below : Below w.heap.size w w5
theorem played {w w3 w4 : World} {n g b : Nat} {F G F' : Nat → Prop} {vn va x0 x1 x2 : Value} {names' : List ByteArray} {E' als' : List (ByteArray × Int)} (hF : ∀ k, F k → w.heap.size ≤ k) (hb0 : ¬ F b) (hbb : w.heap.size ≤ b) (hw : Below w.heap.size w w3) (hB : Blk w3 b 28 #[x0, x1, x2])
    (h1 : TabF w4 F' g n names' E') (h2 : RS w4 (fun k => (G k ∧ k < w3.heap.size ∨ w3.heap.size + 2 ≤ k) ∧ ¬ F' k) (.agg #[.int .i64 n, vn, va]) n names' als') (h3 : ∀ k, F' k → F k ∨ w3.heap.size + 2 ≤ k) (hM : Mate names' als' E') (hS : Small E') (hl : names'.length ≤ n) (ha : als'.length ≤ 4096) (hA : Apart F w3 w4) :
    Blk w4 b 28 #[x0, x1, x2] ∧ Played w n g b F' (fun k => (G k ∧ k < w3.heap.size ∨ w3.heap.size + 2 ≤ k) ∧ ¬ F' k) (.agg #[.int .i64 n, vn, va]) names' E' als' (((w4.setCell ⟨b, 0, none⟩ (.int .i64 n)).setCell ⟨b, 1, none⟩ vn).setCell ⟨b, 2, none⟩ va) := by
  have hbl := hB.lt
  have hB4 : Blk w4 b 28 #[x0, x1, x2] := (hA.block b hbl hb0).trans hB
  have hz := hw.size
  have nb : ¬ F' b := fun h => by rcases h3 b h with h | h; exact hb0 h; omega
  refine ⟨hB4, h1.keep (apart_set3 _ _ _) (fun k hk e => nb (e ▸ hk)), h2.set3 hB4 _ _ _, fun k hk => hk.2, fun k hk => ?_, nb, hM, hS, hl, ha, ?_⟩
  · rcases h3 k hk with h | h
    · exact hF k h
    · omega
  · exact below_set3 (hw.trans (hA.below hz hF)) hbb _ _ _
set_option maxRecDepth 100000 in
set_option maxHeartbeats 8000000 in
theorem model_c (n : Int) (l : List Stp) (vl : Value) (w : World) (hP : Stps w.heap.size w vl l) (hlm : l.length ≤ 9223372036854775807) :
    Calls Try.prog 3 #[.int .i64 n, vl] w fun e w' => e = .returned (.bool true) ∧ Below w.heap.size w w' := by
  obtain ⟨⟨aol, capl, rfl, _⟩, _⟩ := id hP
  by_cases hn : n < 0 ∨ 4096 < n
  · go_enter Try.func3, Try.ntmps3
    go_wp2_with (first
      | (go_at_call 9; refine (new_out _ _ hn).mono ?_; rintro e w1 ⟨rfl, rfl⟩)
      | (go_at_call 10; refine (first_out _ hn).mono ?_; rintro e w2 ⟨rfl, hb2⟩)
      | (go_at_call 11; refine (alive_c _).mono ?_; rintro e w9 ⟨rfl, hb9⟩))
    go_ret
    exact ⟨rfl, (hb2.alloc hb2.size _).trans (hb9.mono (by have := hb2.size; simp; omega))⟩
  · obtain ⟨N, rfl⟩ : ∃ N : Nat, n = N := ⟨n.toNat, by omega⟩
    have hN : N ≤ 4096 := by omega
    by_cases hlen : 60 < l.length
    · have hlen' : (60 : Int) < (l.length : Int) := by omega
      go_enter Try.func3, Try.ntmps3
      go_wp2_with (first
        | (go_at_call 9; refine (new_c N _ hN).mono ?_; rintro e w1 ⟨g, rfl, hT, hb1⟩)
        | (go_at_call 10; refine (first_c N hN).mono ?_; rintro e w2 ⟨rfl, hb2⟩)
        | (go_at_call 11; refine (alive_c _).mono ?_; rintro e w9 ⟨rfl, hb9⟩))
      go_ret
      have hb3 := (begun hT hb1 hb2).below
      exact ⟨rfl, hb3.trans (hb9.mono hb3.size)⟩
    · have hlen' : ¬ (60 : Int) < (l.length : Int) := by omega
      clear hn
      go_enter Try.func3, Try.ntmps3
      go_wp2_with (first
        | (go_at_call 9; refine (new_c N _ hN).mono ?_; rintro e w1 ⟨g, rfl, hT, hb1⟩)
        | (go_at_call 10; refine (first_c N hN).mono ?_; rintro e w2 ⟨rfl, hb2⟩
           have HB := Lib.hid (begun hT hb1 hb2)
           have HPL := Lib.hid (play_c (B := w.heap.size) HB.out.tab (RS.start (G := fun _ => False) _ N) (fun k h => h.elim) Mate.start (fun s h => by cases h) (hP.keep HB.out.below) (fun k hk => hk.1) HB.out.below.size (by omega) hN (Nat.zero_le _) (Nat.zero_le _))
           clear hT hb1 hb2)
        | (go_at_call 12; refine HPL.out.mono ?_; rintro e w4 ⟨v', names', E', als', F', rfl, p1, p2, p3, p4, p5, p6, p7, p8⟩
           obtain ⟨vn, va, rfl, s1, s2⟩ := p2.strs
           obtain ⟨xo, xc, rfl, _⟩ := id s1
           obtain ⟨yo, yc, rfl, _⟩ := id s2
           obtain ⟨U4, P5⟩ := played (fun k hk => hk.1) (fun h => by omega) HB.out.lt HB.out.below HB.out.box p1 p2 p3 p4 p5 p6 p7 p8
           obtain ⟨z0, z1, z2, z3, z4, z5⟩ := U4.cells3
           obtain ⟨k0, k1, k2⟩ := (U4.set3 (.int .i64 N) (.slice xo names'.length xc) (.slice yo als'.length yc)).box3
           have HP5 := Lib.hid P5
           clear s1 s2 p1 p2 p3 p4 p5 p6 p7 p8 P5 U4)
        | (go_at_call 13; refine (same_c HP5.out.tab HP5.out.rs HP5.out.mate HP5.out.small (by have := HP5.out.names; omega) HP5.out.als).mono ?_; rintro e w6 ⟨rfl, hb6⟩)
        | (go_at_call 11; refine (alive_c _).mono ?_; rintro e w9 ⟨rfl, hb9⟩))
      go_ret
      have h5 := HP5.out.below
      have h6 := h5.trans (hb6.mono h5.size)
      exact ⟨rfl, h6.trans (hb9.mono h6.size)⟩
set_option maxRecDepth 100000 in
set_option maxHeartbeats 8000000 in
theorem finds_c (l : List Stp) (vl : Value) (s : ByteArray) (n : Int) (w : World) (hP : Stps w.heap.size w vl l) (hs : s.size ≤ 9223372036854775807) :
    Calls Try.prog 4 #[vl, .string s, .int .i64 n] w fun e w' => e = .returned (.bool true) ∧ Below w.heap.size w w' := by
  obtain ⟨⟨aol, capl, rfl, _⟩, _⟩ := id hP
  have hN : 20 ≤ 4096 := by decide
  by_cases hlen : 40 < l.length
  · have hlen' : (40 : Int) < (l.length : Int) := by omega
    go_enter Try.func4, Try.ntmps4
    go_wp2_with (first
      | (go_at_call 9; refine (new_c 20 _ hN).mono ?_; rintro e w1 ⟨g, rfl, hT, hb1⟩)
      | (go_at_call 10; refine (first_c 20 hN).mono ?_; rintro e w2 ⟨rfl, hb2⟩)
      | (go_at_call 11; refine (alive_c _).mono ?_; rintro e w9 ⟨rfl, hb9⟩))
    go_ret
    have hb3 := (begun hT hb1 hb2).below
    exact ⟨rfl, hb3.trans (hb9.mono hb3.size)⟩
  · have hlen' : ¬ (40 : Int) < (l.length : Int) := by omega
    go_enter Try.func4, Try.ntmps4
    go_wp2_with (first
      | (go_at_call 9; refine (new_c 20 _ hN).mono ?_; rintro e w1 ⟨g, rfl, hT, hb1⟩)
      | (go_at_call 10; refine (first_c 20 hN).mono ?_; rintro e w2 ⟨rfl, hb2⟩
         have HB := Lib.hid (begun hT hb1 hb2)
         have HPL := Lib.hid (play_c (B := w.heap.size) HB.out.tab (RS.start (G := fun _ => False) _ 20) (fun k h => h.elim) Mate.start (fun s h => by cases h) (hP.keep HB.out.below) (fun k hk => hk.1) HB.out.below.size (by omega) hN (Nat.zero_le _) (Nat.zero_le _))
         clear hT hb1 hb2))
    refine HPL.out.mono ?_
    rintro e w4 ⟨v', names', E', als', F', rfl, p1, p2, p3, p4, p5, p6, p7, p8⟩
    obtain ⟨vn, va, rfl, s1, s2⟩ := p2.strs
    obtain ⟨xo, xc, rfl, _⟩ := id s1
    obtain ⟨yo, yc, rfl, _⟩ := id s2
    obtain ⟨U4, P5⟩ := played (fun k hk => hk.1) (fun h => by omega) HB.out.lt HB.out.below HB.out.box p1 p2 p3 p4 p5 p6 p7 p8
    obtain ⟨z0, z1, z2, z3, z4, z5⟩ := U4.cells3
    have HU5 := Lib.hid (U4.set3 (.int .i64 20) (.slice xo names'.length xc) (.slice yo als'.length yc))
    obtain ⟨k0, k1, k2⟩ := HU5.out.box3
    have HP5 := Lib.hid P5
    have hl5 : names'.length ≤ 20 := p6
    have ha5 : als'.length ≤ 4096 := p7
    clear s1 s2 p1 p2 p3 p4 p5 p6 p7 p8 P5 U4
    obtain ⟨R, hR⟩ : ∃ R, lookE E' s = R := ⟨_, rfl⟩
    obtain ⟨H, hH⟩ : ∃ H, hasE E' s = H := ⟨_, rfl⟩
    obtain ⟨R2, hR2⟩ : ∃ R, symNR names' n = R := ⟨_, rfl⟩
    obtain ⟨H2, hH2⟩ : ∃ H, symNB names' n = H := ⟨_, rfl⟩
    have HF1 := Lib.hid (find_c s HP5.out.tab.tab hs)
    rw [hR, hH] at HF1
    have HF2 := Lib.hid (fun W (hW : Kp _ W) => rfind_c (w := W) (limit := (20 : Nat)) (vn := .slice xo names'.length xc) (va := .slice yo als'.length yc) s (by
      obtain ⟨vn, va, e, h1, h2⟩ := (Kp.rs hW HP5.out.rs).strs
      obtain ⟨rfl, rfl⟩ : Value.slice xo names'.length xc = vn ∧ Value.slice yo als'.length yc = va := by simpa using e
      exact h1) (by
      obtain ⟨vn, va, e, h1, h2⟩ := (Kp.rs hW HP5.out.rs).strs
      obtain ⟨rfl, rfl⟩ : Value.slice xo names'.length xc = vn ∧ Value.slice yo als'.length yc = va := by simpa using e
      exact h2) HP5.out.mate.nodup (by omega) (by omega))
    simp only [HP5.out.mate.look, HP5.out.mate.has, hR, hH] at HF2
    have HN1 := Lib.hid (fun W (hW : Kp _ W) => name_c n (Kp.tab hW HP5.out.tab) (by omega))
    have HN2 := Lib.hid (fun W (hW : Kp _ W) => rname_c (w := W) (limit := (20 : Nat)) (vn := .slice xo names'.length xc) (va := .slice yo als'.length yc) n (by
      obtain ⟨vn, va, e, h1, h2⟩ := (Kp.rs hW HP5.out.rs).strs
      obtain ⟨rfl, rfl⟩ : Value.slice xo names'.length xc = vn ∧ Value.slice yo als'.length yc = va := by simpa using e
      exact h1) (by omega))
    rw [hR2, hH2] at HN1 HN2
    clear hR hH hR2 hH2
    go_wp2_with (first
      | (go_at_call 14; refine HF1.out.mono ?_; rintro e w6 ⟨rfl, rfl⟩)
      | (go_at_call 15; refine (HF2.out _ Kp.rfl').mono ?_; rintro e w7 ⟨rfl, hb7⟩; have hC7 := Kp.rfl'.step hb7; clear hb7)
      | (go_at_call 16; refine (HN1.out _ hC7).mono ?_; rintro e w8 ⟨rfl, hb8⟩; have hC8 := hC7.step hb8; obtain ⟨m0, m1, m2⟩ := (hC8.blk HU5.out).box3; clear hb8)
      | (go_at_call 17; refine (HN2.out _ hC8).mono ?_; rintro e w10 ⟨rfl, hb10⟩; have hC10 := hC8.step hb10; clear hb10)
      | (go_at_call 11; refine (alive_c _).mono ?_; rintro e w11 ⟨rfl, hb11⟩; have hC11 := hC10.step hb11))
    go_ret
    exact ⟨rfl, HP5.out.below.trans (Below.mono hC11 HP5.out.below.size)⟩
set_option maxRecDepth 100000 in
set_option maxHeartbeats 8000000 in
theorem copies_c (l m : List Stp) (vl vm : Value) (w : World) (hP : Stps w.heap.size w vl l) (hQ : Stps w.heap.size w vm m) :
    Calls Try.prog 5 #[vl, vm] w fun e w' => e = .returned (.bool true) ∧ Below w.heap.size w w' := by
  obtain ⟨⟨aol, capl, rfl, _⟩, _⟩ := id hP
  obtain ⟨⟨aom, capm, rfl, _⟩, _⟩ := id hQ
  have hN : 30 ≤ 4096 := by decide
  by_cases hl1 : 40 < l.length
  · have h1 : (40 : Int) < (l.length : Int) := by omega
    go_enter Try.func5, Try.ntmps5
    go_wp2_with (first
      | (go_at_call 9; refine (new_c 30 _ hN).mono ?_; rintro e w1 ⟨g, rfl, hT, hb1⟩)
      | (go_at_call 10; refine (first_c 30 hN).mono ?_; rintro e w2 ⟨rfl, hb2⟩)
      | (go_at_call 11; refine (alive_c _).mono ?_; rintro e w9 ⟨rfl, hb9⟩))
    go_ret
    have hb3 := (begun hT hb1 hb2).below
    exact ⟨rfl, hb3.trans (hb9.mono hb3.size)⟩
  by_cases hm1 : 40 < m.length
  · have h1 : ¬ (40 : Int) < (l.length : Int) := by omega
    have h2 : (40 : Int) < (m.length : Int) := by omega
    go_enter Try.func5, Try.ntmps5
    go_wp2_with (first
      | (go_at_call 9; refine (new_c 30 _ hN).mono ?_; rintro e w1 ⟨g, rfl, hT, hb1⟩)
      | (go_at_call 10; refine (first_c 30 hN).mono ?_; rintro e w2 ⟨rfl, hb2⟩)
      | (go_at_call 11; refine (alive_c _).mono ?_; rintro e w9 ⟨rfl, hb9⟩))
    go_ret
    have hb3 := (begun hT hb1 hb2).below
    exact ⟨rfl, hb3.trans (hb9.mono hb3.size)⟩
  · have hlen' : ¬ (40 : Int) < (l.length : Int) := by omega
    have hlen2 : ¬ (40 : Int) < (m.length : Int) := by omega
    go_enter Try.func5, Try.ntmps5
    go_wp2_with (first
      | (go_at_call 9; refine (new_c 30 _ hN).mono ?_; rintro e w1 ⟨g, rfl, hT, hb1⟩)
      | (go_at_call 10; refine (first_c 30 hN).mono ?_; rintro e w2 ⟨rfl, hb2⟩
         have HB := Lib.hid (begun hT hb1 hb2)
         have HPL := Lib.hid (play_c (B := w.heap.size) HB.out.tab (RS.start (G := fun _ => False) _ 30) (fun k h => h.elim) Mate.start (fun s h => by cases h) (hP.keep HB.out.below) (fun k hk => hk.1) HB.out.below.size (by omega) hN (Nat.zero_le _) (Nat.zero_le _))
         clear hT hb1 hb2))
    refine HPL.out.mono ?_
    rintro e w4 ⟨v', names', E', als', F', rfl, p1, p2, p3, p4, p5, p6, p7, p8⟩
    obtain ⟨vn, va, rfl, s1, s2⟩ := p2.strs
    obtain ⟨xo, xc, rfl, _⟩ := id s1
    obtain ⟨yo, yc, rfl, _⟩ := id s2
    obtain ⟨U4, P5⟩ := played (fun k hk => hk.1) (fun h => by omega) HB.out.lt HB.out.below HB.out.box p1 p2 p3 p4 p5 p6 p7 p8
    obtain ⟨z0, z1, z2, z3, z4, z5⟩ := U4.cells3
    have HU5 := Lib.hid (U4.set3 (.int .i64 30) (.slice xo names'.length xc) (.slice yo als'.length yc))
    have hl5 : names'.length ≤ 30 := p6
    have ha5 : als'.length ≤ 4096 := p7
    clear s1 s2 p1 p2 p3 p4 p5 p6 p7 p8 U4 HPL HB
    go_wp2_with fail
    generalize ((w4.setCell ⟨w2.heap.size, 0, none⟩ (.int .i64 (30 : Nat))).setCell ⟨w2.heap.size, 1, none⟩ (.slice xo names'.length xc)).setCell ⟨w2.heap.size, 2, none⟩ (.slice yo als'.length yc) = W5 at *
    have hFl : ∀ k, F' k → k < W5.heap.size := P5.tab.lt
    have HG5 : Hid (RS W5 (fun k => ¬ F' k ∧ k < W5.heap.size) (.agg #[.int .i64 30, (.slice xo names'.length xc), (.slice yo als'.length yc)]) 30 names' als') := Lib.hid (P5.rs.more fun k hk hlt => ⟨hk.2, hlt⟩)
    have HT := Lib.hid P5.tab
    have HLO := Lib.hid P5.lo
    have HNB := Lib.hid P5.box
    have HM := Lib.hid P5.mate
    have HS := Lib.hid P5.small
    have hb5 := P5.below
    have HFl := Lib.hid hFl
    have hz5 := hb5.size
    have hlt5 := HU5.out.lt
    clear P5 hFl
    refine (copy_c HT.out (by omega) (by omega)).mono ?_
    rintro e w6 ⟨g6, rfl, hT6, hb6⟩
    have hz6 := hb6.size
    obtain ⟨k0, k1, k2⟩ := (HU5.out.keep hb6).box3
    have HT6 := Lib.hid hT6
    have HPL := Lib.hid (play_c (B := w.heap.size) (HT.out.below hb6) (HG5.out.below hb6) (fun k h => h.1) HM.out HS.out (hQ.keep (hb5.trans (hb6.mono hz5))) HLO.out (by omega) (by omega) hN hl5 ha5)
    clear hT6
    go_wp2_with fail
    refine HPL.out.mono ?_
    rintro e w7 ⟨v2, names2, E2, als2, F2, rfl, q1, q2, q3, q4, q5, q6, q7, q8⟩
    obtain ⟨vn2, va2, rfl, s1, s2⟩ := q2.strs
    obtain ⟨xo2, xc2, rfl, _⟩ := id s1
    obtain ⟨yo2, yc2, rfl, _⟩ := id s2
    have hz7 := q8.size
    have U7 : Blk w7 w2.heap.size 28 _ := (q8.block _ (by omega) HNB.out).trans (HU5.out.keep hb6)
    have T67 : TabF w7 _ g6 30 names' E' := HT6.out.keep q8 (fun k hk hf => by have := HFl.out k hf; omega)
    have R7 : RS w7 _ _ 30 names' als' := (HG5.out.below hb6).keep q8 (fun k hk => hk.1)
    have hb7 : Below w.heap.size w w7 := (hb5.trans (hb6.mono hz5)).trans (q8.below (by omega) HLO.out)
    obtain ⟨u0, u1, u2⟩ := U7.box3
    have HU7 := Lib.hid U7
    have HT67 := Lib.hid T67
    have HR7 := Lib.hid R7
    have HT2 := Lib.hid q1
    have HR2 := Lib.hid q2
    have Q3 := Lib.hid q3
    have HM2 := Lib.hid q4
    have HS2 := Lib.hid q5
    have hl2 : names2.length ≤ 30 := q6
    have ha2 : als2.length ≤ 4096 := q7
    clear HPL s1 s2 q1 q2 q3 q4 q5 q6 q7 q8 U7 T67 R7 k0 k1 k2
    have n0 : ∀ o, (w7.alloc o).cell? ⟨w2.heap.size, 0, none⟩ = some (.int .i64 (30 : Nat)) := fun o => (HU7.out.alloc o).cell 0
    have n1 : ∀ o, (w7.alloc o).cell? ⟨w2.heap.size, 1, none⟩ = some (.slice xo names'.length xc) := fun o => (HU7.out.alloc o).cell 1
    have n2 : ∀ o, (w7.alloc o).cell? ⟨w2.heap.size, 2, none⟩ = some (.slice yo als'.length yc) := fun o => (HU7.out.alloc o).cell 2
    go_wp2_with fail
    clear n0 n1 n2 u0 u1 u2
    have hb78 : Below w7.heap.size w7 (w7.alloc (.cells #[.int .i64 30, .slice xo2 names2.length xc2, .slice yo2 als2.length yc2] 28)) := (Below.refl _ _).alloc (Nat.le_refl _) _
    have B10 : Blk (w7.alloc (.cells #[.int .i64 30, .slice xo2 names2.length xc2, .slice yo2 als2.length yc2] 28)) w7.heap.size 28 #[.int .i64 (30 : Nat), .slice xo2 names2.length xc2, .slice yo2 als2.length yc2] := Blk.new w7 _ _
    have hz8 : (w7.alloc (.cells #[.int .i64 30, .slice xo2 names2.length xc2, .slice yo2 als2.length yc2] 28)).heap.size = w7.heap.size + 1 := by simp
    generalize w7.alloc (.cells #[.int .i64 30, .slice xo2 names2.length xc2, .slice yo2 als2.length yc2] 28) = w8 at *
    have HB10 := Lib.hid B10
    clear B10
    refine (same_c (HT67.out.below hb78) (HR7.out.below hb78) HM.out HS.out (by omega) ha5).mono ?_
    rintro e w9 ⟨rfl, hb89⟩
    have hb79 := hb78.trans (hb89.mono (by omega))
    have hz9 := hb89.size
    have HU9 := Lib.hid (HU7.out.keep hb79)
    have HT69 := Lib.hid (HT67.out.below hb79)
    have HR9 := Lib.hid (HR7.out.below hb79)
    have HT29 := Lib.hid (HT2.out.below hb79)
    have HR29 := Lib.hid (HR2.out.below hb79)
    have HB109 := Lib.hid (HB10.out.keep hb89)
    have hb9 := hb7.trans (hb79.mono hb7.size)
    obtain ⟨u0, u1, u2⟩ := HU9.out.box3
    have HPL := Lib.hid (play_c (B := w.heap.size) HT69.out HR9.out (fun k h hf => by have := hf.1; omega) HM.out HS.out (hQ.keep hb9) (fun k h => by have := h.1; omega) (by omega) (by omega) hN hl5 ha5)
    go_wp2_with fail
    refine HPL.out.mono ?_
    rintro e w10 ⟨v3, names3, E3, als3, F3, rfl, q1, q2, q3, q4, q5, q6, q7, q8⟩
    obtain ⟨vn3, va3, rfl, s1, s2⟩ := q2.strs
    obtain ⟨xo3, xc3, rfl, _⟩ := id s1
    obtain ⟨yo3, yc3, rfl, _⟩ := id s2
    have hz10 := q8.size
    have T2a : TabF w10 _ g 30 names2 E2 := HT29.out.keep q8 (fun k hk hf => by
      have := hf.1; have h2 := hf.2
      rcases Q3.out k hk with h | h
      · have := HFl.out k h; omega
      · omega)
    have R2a : RS w10 _ _ 30 names2 als2 := HR29.out.keep q8 (fun k hk hf => by
      have := hf.1; have h2 := hf.2
      rcases hk.1 with h | h
      · have := h.1.2; omega
      · omega)
    have B10a : Blk w10 w7.heap.size 28 _ := (q8.block _ (by omega) (fun hf => by have := hf.2; omega)).trans HB109.out
    have hb10 : Below w.heap.size w w10 := hb9.trans (q8.below (by omega) (fun k h => by have := h.1; omega))
    have hb1011 : Below w10.heap.size w10 (w10.alloc (.cells #[.int .i64 30, .slice xo3 names3.length xc3, .slice yo3 als3.length yc3] 28)) := (Below.refl _ _).alloc (Nat.le_refl _) _
    have HT3 := Lib.hid (q1.below hb1011)
    have HR3 := Lib.hid (q2.below hb1011)
    have HM3 := Lib.hid q4
    have HS3 := Lib.hid q5
    have hl3 : names3.length ≤ 30 := q6
    have ha3 : als3.length ≤ 4096 := q7
    have HT2b := Lib.hid (T2a.below hb1011)
    have HR2b := Lib.hid (R2a.below hb1011)
    have HB10b := Lib.hid (B10a.keep hb1011)
    clear HPL s1 s2 q1 q2 q3 q4 q5 q6 q7 q8 T2a R2a B10a u0 u1 u2
    have hb11 := hb10.trans (hb1011.mono hb10.size)
    go_wp2_with fail
    generalize w10.alloc (.cells #[.int .i64 30, .slice xo3 names3.length xc3, .slice yo3 als3.length yc3] 28) = w11 at *
    refine (same_c HT3.out HR3.out HM3.out HS3.out (by omega) ha3).mono ?_
    rintro e w12 ⟨rfl, hb12⟩
    obtain ⟨u0, u1, u2⟩ := (HB10b.out.keep hb12).box3
    go_wp2_with fail
    refine (same_c (HT2b.out.below hb12) (HR2b.out.below hb12) HM2.out HS2.out (by omega) ha2).mono ?_
    rintro e w13 ⟨rfl, hb13⟩
    go_wp2_with fail
    refine (alive_c _).mono ?_
    rintro e w14 ⟨rfl, hb14⟩
    go_wp2_with fail
    go_ret
    have h12 := hb11.trans (hb12.mono hb11.size)
    have h13 := h12.trans (hb13.mono h12.size)
    exact ⟨rfl, h13.trans (hb14.mono h13.size)⟩
end Go.Proofs.Ytffgjamnijhlpaa
