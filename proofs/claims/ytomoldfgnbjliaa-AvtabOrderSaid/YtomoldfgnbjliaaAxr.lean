/- AvtabOrder: the walk. -/
import Derived.Test.YtomoldfgnbjliaaAxq
namespace Go.Proofs.Ytomoldfgnbjliaa
open Go.RowKit Go.Sort Go.Shelf
set_option maxRecDepth 100000 in
set_option maxHeartbeats 8000000 in
theorem lorder_c (v0 : Value) (L : List E) (v1 : Value) (A : List Bool) (v2 : Value) (B : List Bool) (W : World) (hL : Ents W v0 L) (hA : Bools W v1 A) (hB : Bools W v2 B) :
    Calls Try.prog 5 #[v0, v1, v2] W fun e w' => e = .returned (.bool true) ∧ Below W.heap.size W w' := by
  obtain ⟨a0, c0, rfl⟩ := hL.form
  obtain ⟨a1, c1, rfl⟩ := hA.form
  obtain ⟨a2, c2, rfl⟩ := hB.form
  have HL := Lib.hid hL
  have HVA := Lib.hid hA
  have HVB := Lib.hid hB
  clear hL hA hB
  obtain ⟨r, hr⟩ : ∃ r, decide (300 < L.length ∨ 100 < A.length ∨ 20 < 0) = r := ⟨_, rfl⟩
  have HLA : Hid (∀ w, Calls Try.prog 8 #[.slice a0 L.length c0, .slice a1 A.length c1, .slice none 0 0] w fun e w' => e = .returned (.bool r) ∧ w = w') := Lib.hid fun w => by rw [← hr]; exact large_c a0 a1 none L.length A.length 0 c0 c1 0 w
  have HAl := Lib.hid (@alive_c)
  cases r with
  | true =>
    clear hr HL HVA HVB
    go_enter Try.func5, Try.ntmps5
    go_wp2_with (first
      | (go_at_call 8; refine (HLA.out _).mono ?_; rintro e w' ⟨rfl, rfl⟩)
      | (go_at_call 9; refine (HAl.out _).mono ?_; rintro e w2 ⟨rfl, hb⟩; have HB2 := Lib.hid hb; clear hb))
    go_ret
    exact ⟨rfl, HB2.out⟩
  | false =>
    by_cases hb : 100 < B.length
    · have j1 : (100 : Int) < (B.length : Int) := by omega
      clear hr HL HVA HVB
      go_enter Try.func5, Try.ntmps5
      go_wp2_with (first
        | (go_at_call 8; refine (HLA.out _).mono ?_; rintro e w' ⟨rfl, rfl⟩)
        | (go_at_call 9; refine (HAl.out _).mono ?_; rintro e w2 ⟨rfl, hb⟩; have HB2 := Lib.hid hb; clear hb))
      go_ret
      exact ⟨rfl, HB2.out⟩
    · have j1 : decide ((100 : Int) < (B.length : Int)) = false := decide_eq_false (by omega)
      have j2 : decide (100 < B.length) = false := decide_eq_false hb
      have hsz : L.length ≤ 300 ∧ A.length ≤ 100 := by have := of_decide_eq_false hr; omega
      have hbA : A.length ≤ 1000 := by omega
      have hbB : B.length ≤ 1000 := by omega
      obtain ⟨n, hn⟩ : ∃ n, L.length = n := ⟨_, rfl⟩
      have HN := Lib.hid hn
      have HSZ := Lib.hid hsz
      have hl0 := HL.out
      rw [hn] at hl0 HLA hsz ⊢
      have hn300 : n ≤ 300 := hsz.1
      have hnI : (n : Int) ≤ 300 := by omega
      have HLN := Lib.hid hl0
      clear hr hb hsz hn hl0 HL
      go_enter Try.func5, Try.ntmps5
      go_wp2_with (go_at_call 8; refine (HLA.out _).mono ?_; rintro e w' ⟨rfl, rfl⟩)
      go_loopw [8, 7] (fun vi va wr => ∃ (k : Nat) (v : Value), k ≤ n ∧ vi = .int .i64 ((k : Int) - 1) ∧ v = va ∧ Hid (OwnE wr W.heap.size v (back (L.drop k))) ∧ Hid (Below W.heap.size W wr)) (fun vi _ _ => (intOf vi + 1).toNat)
      case atStart => exact ⟨n, _, Nat.le_refl _, rfl, rfl, Lib.hid (by rw [List.drop_eq_nil_of_le (by rw [HN.out]; exact Nat.le_refl _)]; exact OwnE.nil _ _), Lib.hid (Below.refl _ _)⟩
      case round =>
        obtain ⟨k, v, hk, rfl, rfl, HO, HW⟩ := hrel
        by_cases h0 : k = 0
        · subst h0
          have hob := HO.out
          rw [List.drop_zero] at hob
          have hll : L.length ≤ 300 := HSZ.out.1
          have hnw := new_c (.slice a0 n c0) L (by omega) wr (HLN.out.keep HW.out)
          have hnb : ∀ w, Below W.heap.size W w → Below wr.heap.size wr w → Calls Try.prog 10 #[v] w (NewOut w (M L)) := fun w _ h => by
            have := new_c v (back L) (by rw [back_len]; omega) w (hob.ents.keep h)
            rw [M_back] at this
            exact this
          have hml : (M L).length ≤ 10000 := by have := M_len L; omega
          have hst := M_strict L
          have hne := M_ne L
          generalize M L = ML at *
          have hsl : (V0 A ML).length ≤ 10000 := Nat.le_trans (V0_lenO A ML) hml
          have HNW := Lib.hid hnw
          have HNB0 := Lib.hid hnb
          have HST := Lib.hid hst
          have HNE := Lib.hid hne
          obtain ⟨av, mv, cv, rfl⟩ : ∃ av mv cv, v = .slice av mv cv := by obtain ⟨av, cv, e⟩ := hob.ents.form; exact ⟨_, _, _, e⟩
          clear hob hnw hnb hst hne HO hll
          go_wp2_with (first
            | (go_at_call 13
               refine (activate_c HT8.out HVA8.out hbA).mono ?_
               rintro e w9 ⟨rfl, hT, hgr⟩
               have HT9 := Lib.hid hT
               have HB9 := Lib.hid (HB8.out.trans (grown_below hgr HB8.out.size HG.out))
               have HF9 := Lib.hid (HT8.out.ents hgr HF8.out)
               clear hT hgr)
            | (go_at_call 13
               refine (activate_c HT7.out HVB7.out hbB).mono ?_
               rintro e w8 ⟨rfl, hT, hgr⟩
               have HT8 := Lib.hid hT
               have HB8 := Lib.hid (HB7.out.trans (grown_below hgr HB7.out.size HG.out))
               have HF8 := Lib.hid (HT7.out.ents hgr HF7.out)
               have HVA8 := Lib.hid (HT7.out.bools hgr HVA7.out)
               clear hT hgr)
            | (go_at_call 13
               refine (activate_c HT5.out HVA5.out hbA).mono ?_
               rintro e w6 ⟨rfl, hT, hgr⟩
               have HT6 := Lib.hid hT
               have HB6 := Lib.hid (HB5.out.trans (grown_below hgr HB5.out.size HG.out))
               have HVA6 := Lib.hid (HT5.out.bools hgr HVA5.out)
               have HVB6 := Lib.hid (HT5.out.bools hgr HVB5.out)
               clear hT hgr)
            | (go_at_call 10
               refine (HNB0.out _ HB1.out HBR.out).mono ?_
               rintro e w2 ⟨u, rfl, hT, hg, hb⟩
               have HU2 := Lib.hid hT
               have HT2 := Lib.hid (HT1.out.keep hb)
               have HVA2 := Lib.hid (HVA1.out.keep hb)
               have HVB2 := Lib.hid (HVB1.out.keep hb)
               have HB2 := Lib.hid (HB1.out.trans (hb.mono HB1.out.size))
               clear hT hg hb)
            | (go_at_call 10
               refine HNW.out.mono ?_
               rintro e w1 ⟨g, rfl, hT, hg, hb⟩
               have HT1 := Lib.hid hT
               have HG : Hid (W.heap.size ≤ g) := Lib.hid (Nat.le_trans HW.out.size hg)
               have HB1 := Lib.hid (HW.out.trans (hb.mono HW.out.size))
               have HVA1 := Lib.hid (HVA.out.keep HB1.out)
               have HBR := Lib.hid hb
               have HVB1 := Lib.hid (HVB.out.keep HB1.out)
               clear hT hg hb)
            | (go_at_call 17
               refine (entries_c HU3.out hml).mono ?_
               rintro e w4 ⟨ve, rfl, hO, hb⟩
               have HX4 := Lib.hid hO.ents
               have HY4 := Lib.hid (HY3.out.keep hb)
               have HT4 := Lib.hid (HT3.out.keep hb)
               have HVA4 := Lib.hid (HVA3.out.keep hb)
               have HVB4 := Lib.hid (HVB3.out.keep hb)
               have HB4 := Lib.hid (HB3.out.trans (hb.mono HB3.out.size))
               obtain ⟨ae4, ce4, rfl⟩ := hO.ents.form
               clear hO hb)
            | (go_at_call 17
               refine (entries_c HT2.out hml).mono ?_
               rintro e w3 ⟨ve, rfl, hO, hb⟩
               have HY3 := Lib.hid hO.ents
               have HT3 := Lib.hid (HT2.out.keep hb)
               have HU3 := Lib.hid (HU2.out.keep hb)
               have HVA3 := Lib.hid (HVA2.out.keep hb)
               have HVB3 := Lib.hid (HVB2.out.keep hb)
               have HB3 := Lib.hid (HB2.out.trans (hb.mono HB2.out.size))
               obtain ⟨ae3, ce3, rfl⟩ := hO.ents.form
               clear hO hb)
            | (go_at_call 16
               refine (same_c _ _ _ _ _ HX10.out HF10.out hsl).mono ?_
               rw [decide_eq_true rfl]
               rintro e w11 ⟨rfl, hb⟩
               have HB11 := Lib.hid (HB10.out.trans (hb.mono HB10.out.size))
               clear hb)
            | (go_at_call 16
               refine (same_c _ _ _ _ _ HY4.out HX4.out hml).mono ?_
               rw [decide_eq_true rfl]
               rintro e w5 ⟨rfl, hb⟩
               have HT5 := Lib.hid (HT4.out.keep hb)
               have HVA5 := Lib.hid (HVA4.out.keep hb)
               have HVB5 := Lib.hid (HVB4.out.keep hb)
               have HB5 := Lib.hid (HB4.out.trans (hb.mono HB4.out.size))
               clear hb)
            | (go_at_call 18
               refine (visible_c HT9.out hml hbA HST.out HNE.out).mono ?_
               rintro e w10 ⟨ve, rfl, hO, hb⟩
               have HX10 := Lib.hid hO.ents
               have HF10 := Lib.hid (HF9.out.keep hb)
               have HB10 := Lib.hid (HB9.out.trans (hb.mono HB9.out.size))
               obtain ⟨ae10, ce10, rfl⟩ := hO.ents.form
               clear hO hb)
            | (go_at_call 18
               refine (visible_c HT6.out hml hbA HST.out HNE.out).mono ?_
               rintro e w7 ⟨ve, rfl, hO, hb⟩
               have HF7 := Lib.hid hO.ents
               have HT7 := Lib.hid (HT6.out.keep hb)
               have HVA7 := Lib.hid (HVA6.out.keep hb)
               have HVB7 := Lib.hid (HVB6.out.keep hb)
               have HB7 := Lib.hid (HB6.out.trans (hb.mono HB6.out.size))
               obtain ⟨ae7, ce7, rfl⟩ := hO.ents.form
               clear hO hb)
            | (go_at_call 9
               refine (HAl.out _).mono ?_
               rintro e w12 ⟨rfl, hb⟩
               have HB12 := Lib.hid (HB11.out.trans (hb.mono HB11.out.size))
               clear hb))
          go_ret
          exact ⟨rfl, HB12.out⟩
        · obtain ⟨i, rfl⟩ : ∃ i, k = i + 1 := ⟨k - 1, by omega⟩
          have hc : ((i + 1 : Nat) : Int) - 1 = (i : Int) := by omega
          rw [hc]
          clear hc
          have hltL : i < L.length := by rw [HN.out]; omega
          obtain ⟨ao', cap', hao, -, hrr⟩ := HLN.out
          obtain ⟨b, o, rfl, hR⟩ := hrr (by rintro rfl; simp at hltL)
          obtain ⟨rfl, -, rfl⟩ : a0 = some ⟨b, o, none⟩ ∧ True ∧ c0 = cap' := by
            simp only [Value.slice.injEq] at hao
            exact ⟨hao.1, trivial, hao.2.2⟩
          have hA7 : At7 wr b (o + i * 7) L[i] := (hR.at hltL).keep (HW.out.block b (hR.lt (by rintro rfl; simp at hltL)))
          have hbd := back_drop hltL
          generalize L[i] = x at *
          have HBD := Lib.hid hbd
          obtain ⟨s0, s1, s2, s3, s4, s5, s6⟩ := hA7
          have i1 : (i : Int) < (n : Int) := by omega
          have i2 : (n : Int) ≤ (c0 : Int) := by obtain ⟨_, _, e, h, _⟩ := HLN.out; simp only [Value.slice.injEq] at e; have := HN.out; omega
          have i3 : (0 : Int) ≤ (i : Int) := by omega
          have hbw : b < wr.heap.size := World.block_lt_of_cell? wr _ s0
          have u0 : ∀ o1, (wr.alloc o1).cell? ⟨b, o + i * 7, none⟩ = some (.int .i64 x.s) := fun o1 => (((Below.refl _ wr).alloc (Nat.le_refl _) o1).cell (p := ⟨b, o + i * 7, none⟩) hbw).trans s0
          have v0 : ∀ o1 o2, ((wr.alloc o1).alloc o2).cell? ⟨b, o + i * 7, none⟩ = some (.int .i64 x.s) := fun o1 o2 => ((((Below.refl _ wr).alloc (Nat.le_refl _) o1).alloc (by simp) o2).cell (p := ⟨b, o + i * 7, none⟩) hbw).trans s0
          have u1 : ∀ o1, (wr.alloc o1).cell? ⟨b, o + i * 7 + 1, none⟩ = some (.int .i64 x.t) := fun o1 => (((Below.refl _ wr).alloc (Nat.le_refl _) o1).cell (p := ⟨b, o + i * 7 + 1, none⟩) hbw).trans s1
          have v1 : ∀ o1 o2, ((wr.alloc o1).alloc o2).cell? ⟨b, o + i * 7 + 1, none⟩ = some (.int .i64 x.t) := fun o1 o2 => ((((Below.refl _ wr).alloc (Nat.le_refl _) o1).alloc (by simp) o2).cell (p := ⟨b, o + i * 7 + 1, none⟩) hbw).trans s1
          have u2 : ∀ o1, (wr.alloc o1).cell? ⟨b, o + i * 7 + 2, none⟩ = some (.int .i64 x.c) := fun o1 => (((Below.refl _ wr).alloc (Nat.le_refl _) o1).cell (p := ⟨b, o + i * 7 + 2, none⟩) hbw).trans s2
          have v2 : ∀ o1 o2, ((wr.alloc o1).alloc o2).cell? ⟨b, o + i * 7 + 2, none⟩ = some (.int .i64 x.c) := fun o1 o2 => ((((Below.refl _ wr).alloc (Nat.le_refl _) o1).alloc (by simp) o2).cell (p := ⟨b, o + i * 7 + 2, none⟩) hbw).trans s2
          have u3 : ∀ o1, (wr.alloc o1).cell? ⟨b, o + i * 7 + 3, none⟩ = some (.int .i64 x.d) := fun o1 => (((Below.refl _ wr).alloc (Nat.le_refl _) o1).cell (p := ⟨b, o + i * 7 + 3, none⟩) hbw).trans s3
          have v3 : ∀ o1 o2, ((wr.alloc o1).alloc o2).cell? ⟨b, o + i * 7 + 3, none⟩ = some (.int .i64 x.d) := fun o1 o2 => ((((Below.refl _ wr).alloc (Nat.le_refl _) o1).alloc (by simp) o2).cell (p := ⟨b, o + i * 7 + 3, none⟩) hbw).trans s3
          have u4 : ∀ o1, (wr.alloc o1).cell? ⟨b, o + i * 7 + 4, none⟩ = some (.int .u32 (vI x.a)) := fun o1 => (((Below.refl _ wr).alloc (Nat.le_refl _) o1).cell (p := ⟨b, o + i * 7 + 4, none⟩) hbw).trans s4
          have v4 : ∀ o1 o2, ((wr.alloc o1).alloc o2).cell? ⟨b, o + i * 7 + 4, none⟩ = some (.int .u32 (vI x.a)) := fun o1 o2 => ((((Below.refl _ wr).alloc (Nat.le_refl _) o1).alloc (by simp) o2).cell (p := ⟨b, o + i * 7 + 4, none⟩) hbw).trans s4
          have u5 : ∀ o1, (wr.alloc o1).cell? ⟨b, o + i * 7 + 5, none⟩ = some (.int .u32 (vI x.b)) := fun o1 => (((Below.refl _ wr).alloc (Nat.le_refl _) o1).cell (p := ⟨b, o + i * 7 + 5, none⟩) hbw).trans s5
          have v5 : ∀ o1 o2, ((wr.alloc o1).alloc o2).cell? ⟨b, o + i * 7 + 5, none⟩ = some (.int .u32 (vI x.b)) := fun o1 o2 => ((((Below.refl _ wr).alloc (Nat.le_refl _) o1).alloc (by simp) o2).cell (p := ⟨b, o + i * 7 + 5, none⟩) hbw).trans s5
          have u6 : ∀ o1, (wr.alloc o1).cell? ⟨b, o + i * 7 + 6, none⟩ = some (.int .u32 (vI x.e)) := fun o1 => (((Below.refl _ wr).alloc (Nat.le_refl _) o1).cell (p := ⟨b, o + i * 7 + 6, none⟩) hbw).trans s6
          have v6 : ∀ o1 o2, ((wr.alloc o1).alloc o2).cell? ⟨b, o + i * 7 + 6, none⟩ = some (.int .u32 (vI x.e)) := fun o1 o2 => ((((Below.refl _ wr).alloc (Nat.le_refl _) o1).alloc (by simp) o2).cell (p := ⟨b, o + i * 7 + 6, none⟩) hbw).trans s6
          clear hao hrr hR hbd
          go_upto_region 7 with (fail)
          go_region
          all_goals have hbx0 : Box (((wr.alloc (.cells #[.int .i64 x.s, .int .i64 x.t, .int .i64 x.c, .int .i64 x.d, .int .u32 (vI x.a), .int .u32 (vI x.b), .int .u32 (vI x.e)] 39)).alloc (.cells #[.int .i64 x.s, .int .i64 x.t, .int .i64 x.c, .int .i64 x.d, .int .u32 (vI x.a), .int .u32 (vI x.b), .int .u32 (vI x.e)] 39)).drew) wr.heap.size x := ((Blk.new wr _ _).alloc _)
          all_goals have hbx1 : Box (((wr.alloc (.cells #[.int .i64 x.s, .int .i64 x.t, .int .i64 x.c, .int .i64 x.d, .int .u32 (vI x.a), .int .u32 (vI x.b), .int .u32 (vI x.e)] 39)).alloc (.cells #[.int .i64 x.s, .int .i64 x.t, .int .i64 x.c, .int .i64 x.d, .int .u32 (vI x.a), .int .u32 (vI x.b), .int .u32 (vI x.e)] 39)).drew) (wr.heap.size + 1) x := (Blk.here (w := wr.alloc _) (by simp))
          all_goals have hbl : Below wr.heap.size wr (((wr.alloc (.cells #[.int .i64 x.s, .int .i64 x.t, .int .i64 x.c, .int .i64 x.d, .int .u32 (vI x.a), .int .u32 (vI x.b), .int .u32 (vI x.e)] 39)).alloc (.cells #[.int .i64 x.s, .int .i64 x.t, .int .i64 x.c, .int .i64 x.d, .int .u32 (vI x.a), .int .u32 (vI x.b), .int .u32 (vI x.e)] 39)).drew) := ((((Below.refl _ wr).alloc (Nat.le_refl _) _).alloc (by simp) _).drew)
          all_goals have hpq : wr.heap.size ≠ wr.heap.size + 1 := by omega
          all_goals have HO2 := Lib.hid (HO.out.below hbl)
          all_goals have HW2 := Lib.hid (HW.out.trans (hbl.mono HW.out.size))
          all_goals have hown : ∀ g, v.ownBlock = some g → g < wr.heap.size := fun g e => (World.ownsRow.lt HO.out g e).2
          all_goals have hlow : W.heap.size ≤ wr.heap.size := HW.out.size
          all_goals generalize ((wr.alloc (.cells #[.int .i64 x.s, .int .i64 x.t, .int .i64 x.c, .int .i64 x.d, .int .u32 (vI x.a), .int .u32 (vI x.b), .int .u32 (vI x.e)] 39)).alloc (.cells #[.int .i64 x.s, .int .i64 x.t, .int .i64 x.c, .int .i64 x.d, .int .u32 (vI x.a), .int .u32 (vI x.b), .int .u32 (vI x.e)] 39)).drew = w2 at *
          all_goals clear s0 s1 s2 s3 s4 s5 s6 hbl
          · have HP := Lib.hid hbx0
            have HQ := Lib.hid hbx1
            have hne : wr.heap.size ≠ wr.heap.size + 1 := hpq
            have hnp : v.ownBlock ≠ some (wr.heap.size) := fun e => by have := hown _ e; omega
            have hnq : v.ownBlock ≠ some (wr.heap.size + 1) := fun e => by have := hown _ e; omega
            have hlp : W.heap.size ≤ wr.heap.size := by omega
            have hlq : W.heap.size ≤ wr.heap.size + 1 := by omega
            clear hbx0 hbx1 hpq hown hlow
            generalize wr.heap.size + 1 = q at *
            generalize wr.heap.size = p at *
            have p4 := (show Box _ _ x from HP.out).cells.2.2.2.2.1
            have q4 := (show Box _ _ x from HQ.out).cells.2.2.2.2.1
            have fp := Blk.frozen HP.out 4
            have q4' : ∀ u, (w2.setCell ⟨p, 4, none⟩ u).cell? ⟨q, 4, none⟩ = some (.int .u32 (vI x.a)) := fun u => (Blk.far HQ.out (p := ⟨p, 4, none⟩) (fun e => hne e.symm) u).cell 4
            have fq : ∀ u, (w2.setCell ⟨p, 4, none⟩ u).frozen? ⟨q, 4, none⟩ = false := fun u => (Blk.far HQ.out (p := ⟨p, 4, none⟩) (fun e => hne e.symm) u).frozen 4
            have han := vI_and5 x.a
            have han2 := vI_andn5 x.a
            go_upto_region 8 with (fail)
            go_region
            clear p4 q4 fp q4' fq han han2
            have HP4 : Hid (Box (((w2.setCell ⟨p, 4, none⟩ (.int .u32 (vI (x.a &&& 0x55555555#32)))).setCell ⟨q, 4, none⟩ (.int .u32 (vI (x.a &&& 0xAAAAAAAA#32)))).drew) p { x with a := x.a &&& 0x55555555#32 }) := Lib.hid ((Blk.far (Blk.set HP.out 4 _) (p := ⟨q, 4, none⟩) hne _).drew)
            have HQ4 : Hid (Box (((w2.setCell ⟨p, 4, none⟩ (.int .u32 (vI (x.a &&& 0x55555555#32)))).setCell ⟨q, 4, none⟩ (.int .u32 (vI (x.a &&& 0xAAAAAAAA#32)))).drew) q { x with a := x.a &&& 0xAAAAAAAA#32 }) := Lib.hid ((Blk.set (Blk.far HQ.out (p := ⟨p, 4, none⟩) (fun e => hne e.symm) _) 4 _).drew)
            have hk1 : OwnE (w2.setCell ⟨p, 4, none⟩ (.int .u32 (vI (x.a &&& 0x55555555#32)))) W.heap.size v (back (L.drop (i + 1))) := World.ownsRow.kept HO2.out (grown_set _ _ _ _) (.inr hnp)
            have hk2 : OwnE ((w2.setCell ⟨p, 4, none⟩ (.int .u32 (vI (x.a &&& 0x55555555#32)))).setCell ⟨q, 4, none⟩ (.int .u32 (vI (x.a &&& 0xAAAAAAAA#32)))) W.heap.size v (back (L.drop (i + 1))) := World.ownsRow.kept hk1 (grown_set _ _ _ _) (.inr hnq)
            have HO4 := Lib.hid (OwnE.below hk2 ((Below.refl _ _).drew))
            have HW4 := Lib.hid (((HW2.out.setCell (p := ⟨p, 4, none⟩) hlp (.int .u32 (vI (x.a &&& 0x55555555#32)))).setCell (p := ⟨q, 4, none⟩) hlq (.int .u32 (vI (x.a &&& 0xAAAAAAAA#32)))).drew)
            generalize ((w2.setCell ⟨p, 4, none⟩ (.int .u32 (vI (x.a &&& 0x55555555#32)))).setCell ⟨q, 4, none⟩ (.int .u32 (vI (x.a &&& 0xAAAAAAAA#32)))).drew = w4 at *
            clear hk1 hk2 HP HQ HO2 HW2
            have p6 := (show Box _ _ _ from HP4.out).cells.2.2.2.2.2.2
            have fp := Blk.frozen HP4.out 6
            have q5 : ∀ u, (w4.setCell ⟨p, 6, none⟩ u).cell? ⟨q, 5, none⟩ = some (.int .u32 (vI x.b)) := fun u => (Blk.far HQ4.out (p := ⟨p, 6, none⟩) (fun e => hne e.symm) u).cell 5
            have fq : ∀ u, (w4.setCell ⟨p, 6, none⟩ u).frozen? ⟨q, 5, none⟩ = false := fun u => (Blk.far HQ4.out (p := ⟨p, 6, none⟩) (fun e => hne e.symm) u).frozen 5
            go_upto_region 10 with (fail)
            clear p6 fp q5 fq
            have HP5 : Hid (Box ((w4.setCell ⟨p, 6, none⟩ (.int .u32 0)).setCell ⟨q, 5, none⟩ (.int .u32 0)) p (hf1 x)) := Lib.hid (Blk.far (Blk.set HP4.out 6 _) (p := ⟨q, 5, none⟩) hne _)
            have HQ5 : Hid (Box ((w4.setCell ⟨p, 6, none⟩ (.int .u32 0)).setCell ⟨q, 5, none⟩ (.int .u32 0)) q (hf2 x)) := Lib.hid (Blk.set (Blk.far HQ4.out (p := ⟨p, 6, none⟩) (fun e => hne e.symm) _) 5 _)
            have hk1 : OwnE (w4.setCell ⟨p, 6, none⟩ (.int .u32 0)) W.heap.size v (back (L.drop (i + 1))) := World.ownsRow.kept HO4.out (grown_set _ _ _ _) (.inr hnp)
            have hk2 : OwnE ((w4.setCell ⟨p, 6, none⟩ (.int .u32 0)).setCell ⟨q, 5, none⟩ (.int .u32 0)) W.heap.size v (back (L.drop (i + 1))) := World.ownsRow.kept hk1 (grown_set _ _ _ _) (.inr hnq)
            have HO5 := Lib.hid hk2
            have HW5 := Lib.hid ((HW4.out.setCell (p := ⟨p, 6, none⟩) hlp (.int .u32 0)).setCell (p := ⟨q, 5, none⟩) hlq (.int .u32 0))
            generalize (w4.setCell ⟨p, 6, none⟩ (.int .u32 0)).setCell ⟨q, 5, none⟩ (.int .u32 0) = w5 at *
            clear hk1 hk2 HP4 HQ4 HO4 HW4
            have hbl2 : (back (L.drop (i + 1))).length ≤ 1000000 := by rw [back_len, List.length_drop]; have := HN.out; omega
            obtain ⟨m, hm⟩ : ∃ m, (back (L.drop (i + 1))).length = m := ⟨_, rfl⟩
            rw [hm] at hbl2
            have HMM := Lib.hid hm
            obtain ⟨g0, g1, g2, g3, g4, g5, g6⟩ := (show Box _ _ (hf1 x) from HP5.out).cells
            obtain ⟨k0, k1, k2, k3, k4, k5, k6⟩ := (show Box _ _ (hf2 x) from HQ5.out).cells
            clear hm HP5 HQ5
            go_wp2_with (at_builtin; refine wpList_append_E2 (by rfl) _ _ (by rfl) W.heap.size v (back (L.drop (i + 1))) m HMM.out (by rfl) (HO5.out.below ((Below.refl _ _).alloc (Nat.le_refl _) _)) w5.heap.size (hf1 x) (hf2 x) (by rfl) (Blk.new _ _ _) hbl2 (by have := HW5.out.size; simp; omega) ?_; intro g9 c9 w9 h1 h2 h3; have H1 := Lib.hid h1; have H2 := Lib.hid h2; clear h1 h2 h3)
            refine ⟨⟨i, _, by omega, by go_num, rfl, Lib.hid ?_, Lib.hid ?_⟩, by simp [intOf]⟩
            · rw [HBD.out]
              exact HMM.out ▸ H1.out
            · exact (HW5.out.alloc HW5.out.size _).grown H2.out (by have := HW5.out.size; simp; omega) (fun q e => (World.ownsRow.lt HO5.out q e).1)
          · have HP := Lib.hid hbx1
            have HQ := Lib.hid hbx0
            have hne : wr.heap.size + 1 ≠ wr.heap.size := hpq.symm
            have hnp : v.ownBlock ≠ some (wr.heap.size + 1) := fun e => by have := hown _ e; omega
            have hnq : v.ownBlock ≠ some (wr.heap.size) := fun e => by have := hown _ e; omega
            have hlp : W.heap.size ≤ wr.heap.size + 1 := by omega
            have hlq : W.heap.size ≤ wr.heap.size := by omega
            clear hbx0 hbx1 hpq hown hlow
            generalize wr.heap.size + 1 = p at *
            generalize wr.heap.size = q at *
            have p4 := (show Box _ _ x from HP.out).cells.2.2.2.2.1
            have q4 := (show Box _ _ x from HQ.out).cells.2.2.2.2.1
            have fp := Blk.frozen HP.out 4
            have q4' : ∀ u, (w2.setCell ⟨p, 4, none⟩ u).cell? ⟨q, 4, none⟩ = some (.int .u32 (vI x.a)) := fun u => (Blk.far HQ.out (p := ⟨p, 4, none⟩) (fun e => hne e.symm) u).cell 4
            have fq : ∀ u, (w2.setCell ⟨p, 4, none⟩ u).frozen? ⟨q, 4, none⟩ = false := fun u => (Blk.far HQ.out (p := ⟨p, 4, none⟩) (fun e => hne e.symm) u).frozen 4
            have han := vI_and5 x.a
            have han2 := vI_andn5 x.a
            go_upto_region 8 with (fail)
            go_region
            clear p4 q4 fp q4' fq han han2
            have HP4 : Hid (Box (((w2.setCell ⟨p, 4, none⟩ (.int .u32 (vI (x.a &&& 0x55555555#32)))).setCell ⟨q, 4, none⟩ (.int .u32 (vI (x.a &&& 0xAAAAAAAA#32)))).drew) p { x with a := x.a &&& 0x55555555#32 }) := Lib.hid ((Blk.far (Blk.set HP.out 4 _) (p := ⟨q, 4, none⟩) hne _).drew)
            have HQ4 : Hid (Box (((w2.setCell ⟨p, 4, none⟩ (.int .u32 (vI (x.a &&& 0x55555555#32)))).setCell ⟨q, 4, none⟩ (.int .u32 (vI (x.a &&& 0xAAAAAAAA#32)))).drew) q { x with a := x.a &&& 0xAAAAAAAA#32 }) := Lib.hid ((Blk.set (Blk.far HQ.out (p := ⟨p, 4, none⟩) (fun e => hne e.symm) _) 4 _).drew)
            have hk1 : OwnE (w2.setCell ⟨p, 4, none⟩ (.int .u32 (vI (x.a &&& 0x55555555#32)))) W.heap.size v (back (L.drop (i + 1))) := World.ownsRow.kept HO2.out (grown_set _ _ _ _) (.inr hnp)
            have hk2 : OwnE ((w2.setCell ⟨p, 4, none⟩ (.int .u32 (vI (x.a &&& 0x55555555#32)))).setCell ⟨q, 4, none⟩ (.int .u32 (vI (x.a &&& 0xAAAAAAAA#32)))) W.heap.size v (back (L.drop (i + 1))) := World.ownsRow.kept hk1 (grown_set _ _ _ _) (.inr hnq)
            have HO4 := Lib.hid (OwnE.below hk2 ((Below.refl _ _).drew))
            have HW4 := Lib.hid (((HW2.out.setCell (p := ⟨p, 4, none⟩) hlp (.int .u32 (vI (x.a &&& 0x55555555#32)))).setCell (p := ⟨q, 4, none⟩) hlq (.int .u32 (vI (x.a &&& 0xAAAAAAAA#32)))).drew)
            generalize ((w2.setCell ⟨p, 4, none⟩ (.int .u32 (vI (x.a &&& 0x55555555#32)))).setCell ⟨q, 4, none⟩ (.int .u32 (vI (x.a &&& 0xAAAAAAAA#32)))).drew = w4 at *
            clear hk1 hk2 HP HQ HO2 HW2
            have p6 := (show Box _ _ _ from HP4.out).cells.2.2.2.2.2.2
            have fp := Blk.frozen HP4.out 6
            have q5 : ∀ u, (w4.setCell ⟨p, 6, none⟩ u).cell? ⟨q, 5, none⟩ = some (.int .u32 (vI x.b)) := fun u => (Blk.far HQ4.out (p := ⟨p, 6, none⟩) (fun e => hne e.symm) u).cell 5
            have fq : ∀ u, (w4.setCell ⟨p, 6, none⟩ u).frozen? ⟨q, 5, none⟩ = false := fun u => (Blk.far HQ4.out (p := ⟨p, 6, none⟩) (fun e => hne e.symm) u).frozen 5
            go_upto_region 10 with (fail)
            clear p6 fp q5 fq
            have HP5 : Hid (Box ((w4.setCell ⟨p, 6, none⟩ (.int .u32 0)).setCell ⟨q, 5, none⟩ (.int .u32 0)) p (hf1 x)) := Lib.hid (Blk.far (Blk.set HP4.out 6 _) (p := ⟨q, 5, none⟩) hne _)
            have HQ5 : Hid (Box ((w4.setCell ⟨p, 6, none⟩ (.int .u32 0)).setCell ⟨q, 5, none⟩ (.int .u32 0)) q (hf2 x)) := Lib.hid (Blk.set (Blk.far HQ4.out (p := ⟨p, 6, none⟩) (fun e => hne e.symm) _) 5 _)
            have hk1 : OwnE (w4.setCell ⟨p, 6, none⟩ (.int .u32 0)) W.heap.size v (back (L.drop (i + 1))) := World.ownsRow.kept HO4.out (grown_set _ _ _ _) (.inr hnp)
            have hk2 : OwnE ((w4.setCell ⟨p, 6, none⟩ (.int .u32 0)).setCell ⟨q, 5, none⟩ (.int .u32 0)) W.heap.size v (back (L.drop (i + 1))) := World.ownsRow.kept hk1 (grown_set _ _ _ _) (.inr hnq)
            have HO5 := Lib.hid hk2
            have HW5 := Lib.hid ((HW4.out.setCell (p := ⟨p, 6, none⟩) hlp (.int .u32 0)).setCell (p := ⟨q, 5, none⟩) hlq (.int .u32 0))
            generalize (w4.setCell ⟨p, 6, none⟩ (.int .u32 0)).setCell ⟨q, 5, none⟩ (.int .u32 0) = w5 at *
            clear hk1 hk2 HP4 HQ4 HO4 HW4
            have hbl2 : (back (L.drop (i + 1))).length ≤ 1000000 := by rw [back_len, List.length_drop]; have := HN.out; omega
            obtain ⟨m, hm⟩ : ∃ m, (back (L.drop (i + 1))).length = m := ⟨_, rfl⟩
            rw [hm] at hbl2
            have HMM := Lib.hid hm
            obtain ⟨g0, g1, g2, g3, g4, g5, g6⟩ := (show Box _ _ (hf1 x) from HP5.out).cells
            obtain ⟨k0, k1, k2, k3, k4, k5, k6⟩ := (show Box _ _ (hf2 x) from HQ5.out).cells
            clear hm HP5 HQ5
            go_wp2_with (at_builtin; refine wpList_append_E2 (by rfl) _ _ (by rfl) W.heap.size v (back (L.drop (i + 1))) m HMM.out (by rfl) (HO5.out.below ((Below.refl _ _).alloc (Nat.le_refl _) _)) w5.heap.size (hf1 x) (hf2 x) (by rfl) (Blk.new _ _ _) hbl2 (by have := HW5.out.size; simp; omega) ?_; intro g9 c9 w9 h1 h2 h3; have H1 := Lib.hid h1; have H2 := Lib.hid h2; clear h1 h2 h3)
            refine ⟨⟨i, _, by omega, by go_num, rfl, Lib.hid ?_, Lib.hid ?_⟩, by simp [intOf]⟩
            · rw [HBD.out]
              exact HMM.out ▸ H1.out
            · exact (HW5.out.alloc HW5.out.size _).grown H2.out (by have := HW5.out.size; simp; omega) (fun q e => (World.ownsRow.lt HO5.out q e).1)
end Go.Proofs.Ytomoldfgnbjliaa
