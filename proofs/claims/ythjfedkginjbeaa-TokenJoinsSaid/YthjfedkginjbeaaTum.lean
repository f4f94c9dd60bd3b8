/- The reference: Scan, walked. -/
import Derived.Test.YthjfedkginjbeaaTul
import Derived.Test.YthjfedkginjbeaaTso
import Derived.Deep.DeepCutAuto
namespace Go.Proofs.Ythjfedkginjbeaa
open Go.RowKit
def scJ (s : ByteArray) (n j : Nat) (l : List Tk) : Option (Int × Nat) × List Tk :=
  if oneC s j ≠ 0 then (some (oneC s j, oneF s j), []) else if oneK s j = 0 then (none, l ++ [tkAt s j]) else scF s n (oneE s j) (l ++ [tkAt s j])
theorem scF_scJ (s : ByteArray) (n i : Nat) (l : List Tk) : scF s (n + 1) i l = scJ s n (sk s i) l := rfl
theorem oneK_end (s : ByteArray) : oneK s s.size = 0 ∧ oneC s s.size = 0 ∧ tkAt s s.size = ⟨0, ⟨#[]⟩, (posI s s.size).1, (posI s s.size).2⟩ := by
  have h1 : chI s s.size = -1 := chI_ge (by omega)
  have hk : oneK s s.size = 0 := by simp [oneK, h1]
  have he : oneE s s.size = s.size := by simp [oneE, h1]
  refine ⟨hk, by simp [oneC, h1, hk, terr], ?_⟩
  unfold tkAt
  rw [hk, he]
  have : ttext 0 s s.size s.size = ⟨#[]⟩ := by
    simp only [ttext]
    rw [if_neg (by decide)]
    apply ByteArray.ext
    rw [ByteArray.data_extract]
    apply Array.eq_empty_of_size_eq_zero
    simp
  rw [this]
theorem oneF_size {s : ByteArray} {j : Nat} (hj : j < s.size) : oneF s j ≤ s.size := by
  unfold oneF
  split
  · exact (run_le quoC s (j + 1) (by omega)).2
  · omega
theorem ttext_3 {s : ByteArray} {j E : Nat} (h1 : j + 2 ≤ E) : ttext 3 s j E = s.extract (j + 1) (E - 1) := by
  simp only [ttext, if_true]
  rw [ByteArray.extract_extract]
  congr 1
  omega
theorem oneE_3 {s : ByteArray} {j : Nat} (hk : oneK s j = 3) : j + 2 ≤ oneE s j := by
  have h34 := oneK_3 hk
  have hlt := ch_in (s := s) (i := j) (by rw [h34]; decide)
  have hr := run_le quoC s (j + 1) hlt
  have : oneE s j = run quoC s (j + 1) + 1 := by simp [oneE, h34, show chLet 34 = false from rfl, show chDig 34 = false from rfl]
  omega
theorem OwnT.keep {w w' : World} {base : Nat} {v : Value} {l : List Tk} (h : OwnT w base v l) (hb : Below w.heap.size w w') : OwnT w' base v l := by
  refine ⟨h.1, ?_⟩
  rcases h.2 with h2 | ⟨k, cap, cur, hv, hk, hh, r⟩
  · exact .inl h2
  · have hlt : k < w.heap.size := by
      rcases Nat.lt_or_ge k w.heap.size with hlt | hge
      · exact hlt
      · rw [Array.getElem?_eq_none hge] at hh; cases hh
    exact .inr ⟨k, cap, cur, hv, hk, (hb.block k hlt).trans hh, r⟩
theorem OwnT.far {w : World} {base g : Nat} {v : Value} {l : List Tk} (h : OwnT w base v l) (hne : ∀ k, v.ownBlock = some k → k ≠ g) (i : Nat) (u : Value) : OwnT (w.setCell ⟨g, i, none⟩ u) base v l := by
  refine ⟨h.1, ?_⟩
  rcases h.2 with h2 | ⟨k, cap, cur, hv, hk, hh, r⟩
  · exact .inl h2
  · exact .inr ⟨k, cap, cur, hv, hk, (Below.heap_setCell w ⟨g, i, none⟩ u k (hne k (by rw [hv]; rfl))).trans hh, r⟩
set_option maxRecDepth 100000 in
set_option maxHeartbeats 8000000 in
theorem rScan_c (s : ByteArray) (w : World) (hm : s.size ≤ 65536) :
    Calls Try.prog 15 #[.string s] w (ScanOut s w) := by
  have hz : (s.size : Int) ≤ 65536 := by omega
  obtain ⟨i0, hinf, hz0, hz1, hz2⟩ := info_parts Try.infoTok
  obtain ⟨RES, hRES⟩ : ∃ r, scF s (s.size + 1) 0 [] = r := ⟨_, rfl⟩
  have HR := Lib.hid hRES
  rw [scF_scJ] at hRES
  have HR0 : Hid (scJ s s.size (sk s 0) [] = RES) := Lib.hid hRES
  clear hRES
  have hs0 := sk_le (s := s) (i := 0) (Nat.zero_le _)
  go_enter Try.func15, Try.ntmps15
  go_wp2_with fail
  have F : Blk (w.alloc (.cells #[.int .i64 0, .int .i64 0, .int .i64 0, .string { data := #[] }] 28)) w.heap.size _ _ := Blk.new w _ _
  have hb : Below w.heap.size w (w.alloc (.cells #[.int .i64 0, .int .i64 0, .int .i64 0, .string { data := #[] }] 28)) := (Below.refl _ _).alloc (Nat.le_refl _) _
  generalize w.alloc (.cells #[.int .i64 0, .int .i64 0, .int .i64 0, .string { data := #[] }] 28) = W at *
  have hF := F.lt
  go_wp2_with (go_at_call 35; refine (rSkip_c s 0 _ (Nat.zero_le _) (by omega)).mono ?_; rintro e w2 ⟨rfl, rfl⟩)
  go_loopw [4, 5] (fun v vj wr => ∃ (j n : Nat) (l : List Tk) (vv : Value), vv = v ∧ vj = .int .i64 j ∧ j ≤ s.size ∧ l.length ≤ j ∧ s.size < j + n + 1 ∧ OwnT wr (w.heap.size + 1) vv l ∧ Hid (scJ s n j l = RES) ∧ Blk wr w.heap.size 28 #[.int .i64 0, .int .i64 0, .int .i64 0, .string { data := #[] }] ∧ Below w.heap.size w wr)
    (fun _ vj _ => s.size - (intOf vj).toNat)
  case atStart => exact ⟨sk s 0, s.size, [], _, rfl, rfl, hs0.2, Nat.zero_le _, by omega, World.ownsRow_nil _ _ _ _, HR0, F, hb⟩
  case round =>
    clear HR0 F hb hF hs0
    obtain ⟨j, n, l, v, rfl, rfl, hj, hlen, hn, hown, HS, hF, hb⟩ := hrel
    have hHF := hF.lt
    by_cases hlt : j < s.size
    · have hl : (j : Int) < (s.size : Int) := by omega
      have hO := fun w => rOne_c s j w hlt (by omega)
      by_cases hc : oneC s j = 0
      · have hk0 : oneK s j ≠ 0 := by
          intro hk
          have := oneK_0 hk
          rw [chI_lt hlt] at this
          omega
        have hE := oneE_lt hc hk0
        have hO2 : ∀ w, Calls Try.prog 36 #[.string s, .int .i64 j] w fun e w' => e = .returned (.tuple #[.int .i64 (oneK s j : Nat), .int .i64 (oneE s j : Nat), .int .i64 0, .int .i64 0]) ∧ w' = w := fun w => (hO w).mono (by
          rintro e w' ⟨V, hV, rfl, rfl⟩
          exact ⟨by rw [hV.1 hc], rfl⟩)
        have hS' := HS.out
        unfold scJ at hS'
        rw [if_neg (by simpa using hc), if_neg hk0] at hS'
        obtain ⟨n, rfl⟩ : ∃ m, n = m + 1 := ⟨n - 1, by omega⟩
        rw [scF_scJ] at hS'
        have hsk := sk_le (s := s) (i := oneE s j) hE.2
        have hT0 : tkAt s j = ⟨oneK s j, ttext (oneK s j) s j (oneE s j), (posI s j).1, (posI s j).2⟩ := rfl
        have h3 := oneE_3 (s := s) (j := j)
        obtain ⟨K, hK⟩ : ∃ K, oneK s j = K := ⟨_, rfl⟩
        obtain ⟨E, hEE⟩ : ∃ E, oneE s j = E := ⟨_, rfl⟩
        rw [hK, hEE] at hT0 h3
        rw [hT0] at hS'
        simp only [hK, hEE] at hO2
        rw [hEE] at hS' hE hsk
        have HS2 := Lib.hid hS'
        have HO := Lib.hid hO2
        have hjE : (j : Int) ≤ (E : Int) := by omega
        have hEs : (E : Int) ≤ (s.size : Int) := by omega
        clear hO hc hk0 hO2 HS hS' hT0 hK hEE
        go_wp2_with (go_at_call 36; refine (HO.out _).mono ?_; rintro e w2 ⟨rfl, rfl⟩)
        have hbd := posI_bd s j
        go_cut [10] from 17 to 61 (fun s10 wx => ∃ b, s10 = .pointer (some ⟨b, 0, none⟩) ∧ w2.heap.size ≤ b ∧ Blk wx b 34 #[.int .i64 (K : Int), .string (s.extract j E), .int .i64 (posI s j).1, .int .i64 (posI s j).2] ∧ Below w2.heap.size w2 wx)
        case first =>
          clear HS2 h3 hown
          go_region_with (go_at_call 29; refine (rloc_in s j _ (by omega) hm).mono ?_; rintro e w1 ⟨rfl, hb1⟩; first
            | (have T4 : Blk w1 w2.heap.size 34 #[.int .i64 0, .string ⟨#[]⟩, .int .i64 0, .int .i64 0] := Blk.keep (w := (w2.alloc (.cells #[.int .i64 0, .string ⟨#[]⟩, .int .i64 0, .int .i64 0] 34)).drew) (Blk.new w2 _ _) hb1
               obtain ⟨t0, t1, t2, t3, t4, t5, t6, t7⟩ := cells4 T4)
            | skip)
          all_goals
            go_wp2_with fail
            go_meet
            first
              | exact ⟨w1.heap.size, rfl, hb1.size, Blk.new w1 _ _, (((Below.refl _ w2).drew).trans hb1).alloc hb1.size _⟩
              | exact ⟨w2.heap.size, rfl, Nat.le_refl _, set4 T4 _ _ _ _, ((((((((Below.refl _ w2).alloc (Nat.le_refl _) _).drew).trans (hb1.mono (by simp))).setCell (p := ⟨w2.heap.size, 0, none⟩) (Nat.le_refl _) _).setCell (p := ⟨w2.heap.size, 1, none⟩) (Nat.le_refl _) _).setCell (p := ⟨w2.heap.size, 2, none⟩) (Nat.le_refl _) _).setCell (p := ⟨w2.heap.size, 3, none⟩) (Nat.le_refl _) _)⟩
        case rest =>
          obtain ⟨b, rfl, hwb, T, hbc⟩ := hcut
          have hlo : ∀ k, v.ownBlock = some k → w.heap.size + 1 ≤ k ∧ k < w2.heap.size := fun k h => World.ownsRow.lt hown k h
          have hown3 : OwnT wc (w.heap.size + 1) v l := hown.keep hbc
          have hF3 := hF.keep hbc
          have hb3 := hb.trans (hbc.mono hb.size)
          have hTl := T.lt
          have hsz := hb.size
          clear hown hF hb hbc
          obtain ⟨t0, t1, t2, t3, t4, t5, t6, t7⟩ := cells4 T
          by_cases hK3 : K = 3
          · subst hK3
            have hE2 := h3 rfl
            have hjE2 : (j : Int) + 1 ≤ (E : Int) - 1 := by omega
            have hEs2 : (E : Int) - 1 ≤ (s.size : Int) := by omega
            have hX := ttext_3 (s := s) hE2
            rw [hX] at HS2
            clear h3 hX
            go_wp2_with (at_builtin; refine wpList_append_own _ rfl _ _ 23 rfl (w.heap.size + 1) 34 i0 (.agg #[.int .i64 0, .string ⟨#[]⟩, .int .i64 0, .int .i64 0]) 4 40 Try.underlying23 hinf hz0 hz1 hz2 rfl (by decide) v l.length (l.flatMap Tk.cells) rfl ?c0 ⟨_, 0, none⟩ 1 1 [.int .i64 3, .string (s.extract (j + 1) (E - 1)), .int .i64 (posI s j).1, .int .i64 (posI s j).2] rfl rfl ?c1 ?c2 ?c3 ?c4 ?c5 ?_)
            case c0 => exact (hown3.far (fun k hk => by have := hlo k hk; omega) 1 _).alloc _
            case c1 => exact four_new (by simp)
            case c2 => intro u hu; simp at hu; rcases hu with rfl | rfl | rfl | rfl <;> rfl
            case c3 => unfold maxLen; omega
            case c4 => omega
            case c5 => simp; omega
            · intro v' w3 hown4 hgrow _
              have R : OwnT w3 (w.heap.size + 1) v' (l ++ [⟨3, s.extract (j + 1) (E - 1), (posI s j).1, (posI s j).2⟩]) := by
                unfold OwnT
                simpa [Tk.cells] using hown4
              have F4 := Blk.grown hgrow ((hF3.far (p := ⟨b, 1, none⟩) (by simp; omega) _).alloc _) (fun e => by have := hlo _ e; omega)
              have B4 : Below w.heap.size w w3 := ((hb3.setCell (p := ⟨b, 1, none⟩) (by simp; omega) _).alloc (by first | omega | (simp; omega)) _).grown hgrow (by simp; omega) (fun k e => by have := hlo _ e; omega)
              clear hown4 hgrow hown3 hF3 hb3 T t0 t1 t2 t3 t4 t5 t6 t7 hTl
              go_wp2_with (go_at_call 35; refine (rSkip_c s E _ hE.2 (by omega)).mono ?_; rintro e w4 ⟨rfl, rfl⟩)
              go_roundw
              case rel => exact ⟨sk s E, n, _, _, rfl, rfl, hsk.2, by simp; omega, by omega, R, HS2, F4, B4⟩
              case measure => simp [intOf]; omega
          · have hq3 : ((K : Int) == 3) = false := by simp; omega
            have hX : ttext K s j E = s.extract j E := by simp only [ttext]; rw [if_neg hK3]
            rw [hX] at HS2
            clear h3 hK3 hX
            go_wp2_with (at_builtin; refine wpList_append_own _ rfl _ _ 23 rfl (w.heap.size + 1) 34 i0 (.agg #[.int .i64 0, .string ⟨#[]⟩, .int .i64 0, .int .i64 0]) 4 40 Try.underlying23 hinf hz0 hz1 hz2 rfl (by decide) v l.length (l.flatMap Tk.cells) rfl ?c0 ⟨_, 0, none⟩ 1 1 [.int .i64 (K : Int), .string (s.extract j E), .int .i64 (posI s j).1, .int .i64 (posI s j).2] rfl rfl ?c1 ?c2 ?c3 ?c4 ?c5 ?_)
            case c0 => exact hown3.alloc _
            case c1 => exact four_new (by simp)
            case c2 => intro u hu; simp at hu; rcases hu with rfl | rfl | rfl | rfl <;> rfl
            case c3 => unfold maxLen; omega
            case c4 => omega
            case c5 => simp; omega
            · intro v' w3 hown4 hgrow _
              have R : OwnT w3 (w.heap.size + 1) v' (l ++ [⟨K, s.extract j E, (posI s j).1, (posI s j).2⟩]) := by
                unfold OwnT
                simpa [Tk.cells] using hown4
              have F4 := Blk.grown hgrow ((hF3).alloc _) (fun e => by have := hlo _ e; omega)
              have B4 : Below w.heap.size w w3 := ((hb3).alloc (by first | omega | (simp; omega)) _).grown hgrow (by simp; omega) (fun k e => by have := hlo _ e; omega)
              clear hown4 hgrow hown3 hF3 hb3 T t0 t1 t2 t3 t4 t5 t6 t7 hTl
              go_wp2_with (go_at_call 35; refine (rSkip_c s E _ hE.2 (by omega)).mono ?_; rintro e w4 ⟨rfl, rfl⟩)
              go_roundw
              case rel => exact ⟨sk s E, n, _, _, rfl, rfl, hsk.2, by simp; omega, by omega, R, HS2, F4, B4⟩
              case measure => simp [intOf]; omega
      · have hFs := oneF_size hlt
        have hO2 : ∀ w, Calls Try.prog 36 #[.string s, .int .i64 j] w fun e w' => ∃ x y, e = .returned (.tuple #[x, y, .int .i64 (oneC s j), .int .i64 (oneF s j : Nat)]) ∧ w' = w := fun w => (hO w).mono (by
          rintro e w' ⟨V, hV, rfl, rfl⟩
          obtain ⟨x, y, rfl⟩ := hV.2 hc
          exact ⟨x, y, rfl, rfl⟩)
        have hS' := HS.out
        unfold scJ at hS'
        rw [if_pos hc] at hS'
        obtain ⟨c, hcc⟩ : ∃ c, oneC s j = c := ⟨_, rfl⟩
        obtain ⟨G, hG⟩ : ∃ G, oneF s j = G := ⟨_, rfl⟩
        rw [hcc, hG] at hS'
        simp only [hcc, hG] at hO2
        rw [hG] at hFs
        have q : (c != 0) = true := by rw [← hcc]; simpa using hc
        have HS2 := Lib.hid hS'
        have HO := Lib.hid hO2
        clear hO hc hO2 HS hS' hG hcc
        go_wp2_with (first
          | (go_at_call 36; refine (HO.out _).mono ?_; rintro e w2 ⟨x, y, rfl, rfl⟩)
          | (go_at_call 29; refine (rloc_in s G _ hFs hm).mono ?_; rintro e w3 ⟨rfl, hb3⟩
             have hF3 := hF.keep hb3
             have hb4 := hb.trans (hb3.mono hb.size)
             obtain ⟨t0, t1, t2, t3, t4, t5, t6, t7⟩ := cells4 hF3))
        have F4 := set4 hF3 (.int .i64 c) (.int .i64 (posI s G).1) (.int .i64 (posI s G).2) (.string { data := #[] })
        refine bodyPost_ret (mix_ret Try.results15 rfl rfl F4) rfl ⟨.slice none 0 0, ?_, ?_, ?_⟩
        · rw [HR.out, ← HS2.out]
          exact World.ownsRow_nil _ _ _ _
        · rw [HR.out, ← HS2.out]; rfl
        · exact (((hb4.setCell (Nat.le_refl _) _).setCell (Nat.le_refl _) _).setCell (Nat.le_refl _) _).setCell (Nat.le_refl _) _
    · obtain rfl : j = s.size := by omega
      have hend := oneK_end s
      have hS' := HS.out
      unfold scJ at hS'
      rw [if_neg (by simpa using hend.2.1), if_pos hend.1, hend.2.2] at hS'
      have HS2 := Lib.hid hS'
      have hlo : ∀ k, v.ownBlock = some k → w.heap.size + 1 ≤ k ∧ k < wr.heap.size := fun k h => World.ownsRow.lt hown k h
      have hsz := hb.size
      clear HS hS' hend
      go_wp2_with (first
        | (go_at_call 29; refine (rloc_in s s.size _ (Nat.le_refl _) hm).mono ?_; rintro e w3 ⟨rfl, hb3⟩
           have hF3 := hF.keep hb3
           have hown3 : OwnT w3 (w.heap.size + 1) v l := hown.keep hb3
           have hs3 := hb3.size
           have hb4 := hb.trans (hb3.mono hb.size))
        | (at_builtin; refine wpList_append_own _ rfl _ _ 23 rfl (w.heap.size + 1) 34 i0 (.agg #[.int .i64 0, .string ⟨#[]⟩, .int .i64 0, .int .i64 0]) 4 40 Try.underlying23 hinf hz0 hz1 hz2 rfl (by decide) v l.length (l.flatMap Tk.cells) rfl ?c0 ⟨_, 0, none⟩ 1 1 [.int .i64 0, .string ⟨#[]⟩, .int .i64 (posI s s.size).1, .int .i64 (posI s s.size).2] rfl rfl ?c1 ?c2 ?c3 ?c4 ?c5 ?_))
      case c0 => exact hown3.alloc _
      case c1 => exact four_new (by simp)
      case c2 => intro u hu; simp at hu; rcases hu with rfl | rfl | rfl | rfl <;> rfl
      case c3 => unfold maxLen; omega
      case c4 => omega
      case c5 => simp; omega
      · intro v' w4 hown4 hgrow _
        have R : OwnT w4 (w.heap.size + 1) v' (l ++ [⟨0, ⟨#[]⟩, (posI s s.size).1, (posI s s.size).2⟩]) := by
          unfold OwnT
          simpa [Tk.cells] using hown4
        have F4 := Blk.grown hgrow (hF3.alloc _) (fun e => by have := hlo _ e; omega)
        have B4 : Below w.heap.size w w4 := (hb4.alloc (by first | omega | (simp; omega)) _).grown hgrow (by simp; omega) (fun k e => by have := hlo _ e; omega)
        clear hown4 hgrow hown3 hF3 hb3 hb4
        obtain ⟨t0, t1, t2, t3, t4, t5, t6, t7⟩ := cells4 F4
        go_wp2
        have F5 := set4 F4 (.int .i64 0) (.int .i64 0) (.int .i64 0) (.string { data := #[] })
        refine bodyPost_ret (mix_ret Try.results15 rfl rfl F5) rfl ⟨v', ?_, ?_, ?_⟩
        · rw [HR.out, ← HS2.out]
          exact (R.set (by omega) 0 _).set (by omega) 1 _ |>.set (by omega) 2 _ |>.set (by omega) 3 _ |>.mono (by omega)
        · rw [HR.out, ← HS2.out]; rfl
        · exact (((B4.setCell (Nat.le_refl _) _).setCell (Nat.le_refl _) _).setCell (Nat.le_refl _) _).setCell (Nat.le_refl _) _
end Go.Proofs.Ythjfedkginjbeaa
