/- Reading a level. -/
import Derived.Test.YthjebccidcichaaLvu
import Derived.Deep.LoopGhost
namespace Go.Proofs.Ythjebccidcichaa
open Go.RowKit
def lvN (s : Bs) : ByteArray := match rdLv s with | some l => mk l.1 | none => ⟨#[]⟩
def lvL (s : Bs) : List Sp := match rdLv s with | some l => l.2.map mkS | none => []
def RdLvOut (s : Bs) (w : World) (e : Ending) (w' : World) : Prop := ∃ v, e = .returned (.tuple #[.agg #[.string (lvN s), v], .bool (rdLv s).isSome]) ∧ Spans w' v (lvL s) ∧ Below w.heap.size w w'
theorem Spans.set2 {w : World} {v : Value} {L : List Sp} {gb : Nat} {t : TypeId} {a : ByteArray} {x : Option Addr} {n y : Nat} (h : Spans w v L) (hb : Blk w gb t #[.string a, .slice x n y]) (p q : Value) :
    Spans ((w.setCell ⟨gb, 0, none⟩ p).setCell ⟨gb, 1, none⟩ q) v L := by
  refine h.but (gb := gb) (fun g o hR hl => hR.ne2 hl hb) fun g hg hne => ?_
  have e := fun (W : World) i u => Below.heap_setCell W ⟨gb, i, none⟩ u g hne
  rw [e, e]
theorem size_1 (w : World) (o : Obj) : w.heap.size + 1 = (w.alloc o).heap.size := by simp
def optL (more : Bool) (list : Bs) : Option (List SpB) := if more = true then rdLs list else some []
set_option maxRecDepth 100000 in
set_option maxHeartbeats 8000000 in
theorem readLevel_c (s : Bs) (w : World) (hs : s.length ≤ 1000000) :
    Calls Try.prog 60 #[.string (mk s)] w (RdLvOut s w) := by
  obtain ⟨i0, hinf, hz0, hz1, hz2⟩ := info_parts infoSpan
  obtain ⟨l1, l2⟩ := cut_le 58 s
  have hC := fun W => cut_c (mk s) 58 W hs
  have h1 := fun W => isName_b (cutL 58 s).1 W (by omega)
  unfold CutV at hC
  rw [mk_list] at hC
  have hR : rdLv s = if nm (cutL 58 s).1 = true then (optL (cutL 58 s).2.2 (cutL 58 s).2.1).map (fun L => ((cutL 58 s).1, L)) else none := by
    unfold rdLv optL
    split
    · split
      · rfl
      · rfl
    · rfl
  generalize cutL 58 s = t at *
  obtain ⟨f, list, more⟩ := t
  simp only at hC h1 hR l1 l2
  have HC := Lib.hid hC
  have hB := Blk.new w 50 #[.string ⟨#[]⟩, .slice none 0 0]
  have hW : Kp w (w.alloc (.cells #[.string ⟨#[]⟩, .slice none 0 0] 50)) := Kp.rfl'.alloc _
  have hBAD : rdLv s = none → ∀ w', Below w.heap.size w w' → RdLvOut s w (.returned (.tuple #[.agg #[.string ⟨#[]⟩, .slice none 0 0], .bool false])) w' := fun h w' hb => by
    unfold RdLvOut lvN lvL
    rw [h]
    exact ⟨_, rfl, Spans.nil, hb⟩
  have hGOOD : ∀ n L, rdLv s = some (n, L) → ∀ w' v, Below w.heap.size w w' → Spans w' v (L.map mkS) → RdLvOut s w (.returned (.tuple #[.agg #[.string (mk n), v], .bool true])) w' := fun n L h w' v hb hS => by
    unfold RdLvOut lvN lvL
    rw [h]
    exact ⟨_, rfl, hS, hb⟩
  cases hn : nm f
  · rw [hn, if_neg (by decide)] at hR
    have HBAD := Lib.hid (hBAD hR)
    rw [hn] at h1
    have H1 := Lib.hid h1
    clear hR hBAD hGOOD hC h1 hn l1 l2
    go_enter Try.func60, Try.ntmps60
    go_wp2_with fail
    refine (HC.out _).mono ?_
    rintro e w2 ⟨rfl, hb2⟩
    have hC2 := Kp.step hW hb2
    have q2 := hB.keep hb2
    clear hb2
    go_wp2_with fail
    refine (H1.out _).mono ?_
    rintro e w3 ⟨rfl, hb3⟩
    have hC3 := Kp.step hC2 hb3
    have q3 := q2.keep hb3
    obtain ⟨y0, y1, y2, y3⟩ := q3.cells2
    clear hb3
    go_wp2_with fail
    obtain ⟨r0, r1⟩ := (q3.set2 (.string ⟨#[]⟩) (.slice none 0 0)).box2
    exact bodyPost_ret (v := .tuple #[.agg #[.string ⟨#[]⟩, .slice none 0 0], .bool false]) (by simp [results, Try.results60, go_sem, r0, r1]) rfl (HBAD.out _ (below_set2 hC3 (Nat.le_refl _) _ _))
  · rw [hn, if_pos rfl] at hR
    rw [hn] at h1
    have H1 := Lib.hid h1
    obtain ⟨RES, hRES⟩ : ∃ r, optL more list = r := ⟨_, rfl⟩
    rw [hRES] at hR
    have HBAD : Hid (RES = none → ∀ w', Below w.heap.size w w' → RdLvOut s w (.returned (.tuple #[.agg #[.string ⟨#[]⟩, .slice none 0 0], .bool false])) w') := Lib.hid fun h => hBAD (by rw [hR, h]; rfl)
    have HGOOD : Hid (∀ L, RES = some L → ∀ w' v, Below w.heap.size w w' → Spans w' v (L.map mkS) → RdLvOut s w (.returned (.tuple #[.agg #[.string (mk f), v], .bool true])) w') := Lib.hid fun L h => hGOOD f L (by rw [hR, h]; rfl)
    have HRES := Lib.hid hRES
    clear hR hBAD hGOOD hC h1 hn hRES
    go_enter Try.func60, Try.ntmps60
    go_wp2_with fail
    refine (HC.out _).mono ?_
    rintro e w2 ⟨rfl, hb2⟩
    have hC2 := Kp.step hW hb2
    have q2 := hB.keep hb2
    clear hb2
    go_wp2_with fail
    refine (H1.out _).mono ?_
    rintro e w3 ⟨rfl, hb3⟩
    have hC3 := Kp.step hC2 hb3
    have q3 := q2.keep hb3
    have hC4 := hC3.alloc (.cells #[.string (mk f), .slice none 0 0] 50)
    have q4 := q3.alloc (.cells #[.string (mk f), .slice none 0 0] 50)
    have q5 := Blk.new w3 50 #[.string (mk f), .slice none 0 0]
    have hg : w.heap.size < w3.heap.size := q3.lt
    clear hb3 q2 q3 hC2 hW hB hC3 HC H1
    go_wp2_with fail
    generalize hW4 : w3.alloc (.cells #[.string (mk f), .slice none 0 0] 50) = W4 at *
    have hs4 : w3.heap.size < W4.heap.size := q5.lt
    generalize w3.heap.size = g7 at *
    clear hW4
    go_loopg [5, 6] (s.length + 1) (fun g vl vm wr => ∃ (list : Bs) (more : Bool) (acc : List SpB) (cv : Value), vl = .string (mk list) ∧ vm = .bool more ∧ list.length ≤ s.length ∧ (more = true → list.length < g) ∧ acc.length + g ≤ s.length + 1 ∧ Hid ((optL more list).map (acc ++ ·) = RES) ∧ Blk wr w.heap.size 50 #[.string ⟨#[]⟩, .slice none 0 0] ∧ Blk wr g7 50 #[.string (mk f), cv] ∧ Own2 wr (g7 + 1) 68 cv ((acc.map mkS).map spC) ∧ Below w.heap.size w wr)
    case atStart => exact ⟨list, more, [], _, rfl, rfl, l2, fun _ => by omega, by simp, Lib.hid (by rw [HRES.out]; cases RES <;> simp), q4, q5, Own2.nil, hC4⟩
    case round =>
      clear hC4 q4 q5 HRES l2
      obtain ⟨list, more, acc, cv, rfl, rfl, hll, hmg, hag, HI, p2, p7, hown, hb⟩ := hrel
      cases more
      · have hE : RES = some acc := by have := HI.out; unfold optL at this; rw [if_neg (by decide)] at this; simpa using this.symm
        have HG := Lib.hid (HGOOD.out acc hE)
        obtain ⟨ao4, cap4, rfl⟩ := hown.isSl
        obtain ⟨d0, d1, d2, d3⟩ := p7.cells2
        obtain ⟨f0, f1, f2, f3⟩ := p2.cells2
        have HP2 := Lib.hid p2
        have HS := Lib.hid hown.spans
        rw [List.length_map, List.length_map] at d1 HS
        clear hE HI HGOOD HBAD p2 p7 hown hmg
        go_wp2_with fail
        obtain ⟨r0, r1⟩ := (HP2.out.set2 (.string (mk f)) (.slice ao4 acc.length cap4)).box2
        exact bodyPost_ret (v := .tuple #[.agg #[.string (mk f), .slice ao4 acc.length cap4], .bool true]) (by simp [results, Try.results60, go_sem, r0, r1]) rfl (HG.out _ _ (below_set2 hb (Nat.le_refl _) _ _) (HS.out.set2 HP2.out _ _))
      · obtain ⟨g, rfl⟩ : ∃ g, gk = g + 1 := ⟨gk - 1, by have := hmg rfl; omega⟩
        have hlg := hmg rfl
        have hI := HI.out
        unfold optL at hI
        rw [if_pos rfl] at hI
        obtain ⟨k1, k2⟩ := cut_le 44 list
        have k3 := fun h => cut_len (c := 44) (l := list) h
        have hC := fun W => cut_c (mk list) 44 W (by rw [mk_size]; omega)
        have hSp := fun W => readSpan_c (cutL 44 list).1 W (by omega)
        have hx1 := fun h => rdLs_bad (s := list) h
        have hx2 := fun x h h' => rdLs_last (s := list) (x := x) h h'
        have hx3 := fun x h h' => rdLs_more (s := list) (x := x) h h'
        unfold CutV at hC
        rw [mk_list] at hC
        generalize cutL 44 list = t at *
        obtain ⟨fr, rest, more⟩ := t
        simp only at hC hSp hx1 hx2 hx3 k1 k2 k3
        unfold SpV at hSp
        have hval := fun (x : SpB) (h : rdSp fr = some x) => (show cutL 46 fr = (x.1, x.2, (cutL 46 fr).2.2) by
          unfold rdSp at h
          split at h
          · rw [← Option.some.inj h]
          · cases h)
        have HC := Lib.hid hC
        have HP2 := Lib.hid p2
        have HP7 := Lib.hid p7
        have HO := Lib.hid hown
        have hg7 : g7 + 1 ≤ wr.heap.size := p7.lt
        obtain ⟨ao4, cap4, rfl⟩ := hown.isSl
        have HO : Hid (Own2 wr (g7 + 1) 68 (.slice ao4 acc.length cap4) ((acc.map mkS).map spC)) := Lib.hid (by have := HO.out; rwa [List.length_map, List.length_map] at this)
        rw [List.length_map, List.length_map] at HP7
        cases hr : rdSp fr with
        | none =>
          rw [hx1 hr] at hI
          have hE : RES = none := by rw [← hI]; rfl
          have HB2 := Lib.hid (HBAD.out hE)
          have hSp' : ∃ x1 x2, ∀ W, Calls Try.prog 67 #[.string (mk fr)] W fun e w' => e = .returned (.tuple #[.agg #[.string x1, .string x2], .bool false]) ∧ Below W.heap.size W w' := ⟨_, _, fun W => by have := hSp W; rw [hr] at this; exact this⟩
          obtain ⟨x1, x2, hSp2⟩ := hSp'
          have HSP := Lib.hid hSp2
          clear hI HI hE hr hx1 hx2 hx3 hSp hSp2 hC p2 p7 hown hval HGOOD HBAD hmg k1 k2 k3 HO HP7
          go_wp2_with fail
          refine (HC.out _).mono ?_
          rintro e w5 ⟨rfl, hb5⟩
          have hC5 := Kp.step hb hb5
          have q5 := HP2.out.keep hb5
          clear hb5
          go_wp2_with fail
          refine (HSP.out _).mono ?_
          rintro e w6 ⟨rfl, hb6⟩
          have hC6 := (Kp.step hC5 hb6).alloc (.cells #[.string x1, .string x2] 68)
          have q6 := (q5.keep hb6).alloc (.cells #[.string x1, .string x2] 68)
          obtain ⟨y0, y1, y2, y3⟩ := q6.cells2
          clear hb6 q5
          go_wp2_with fail
          obtain ⟨r0, r1⟩ := (q6.set2 (.string ⟨#[]⟩) (.slice none 0 0)).box2
          exact bodyPost_ret (v := .tuple #[.agg #[.string ⟨#[]⟩, .slice none 0 0], .bool false]) (by simp [results, Try.results60, go_sem, r0, r1]) rfl (HB2.out _ (below_set2 hC6 (Nat.le_refl _) _ _))
        | some x =>
          obtain ⟨x1, x2⟩ := x
          have hv := hval _ hr
          have hSp2 : ∀ W, Calls Try.prog 67 #[.string (mk fr)] W fun e w' => e = .returned (.tuple #[.agg #[.string (mk x1), .string (mk x2)], .bool true]) ∧ Below W.heap.size W w' := fun W => by have := hSp W; rw [hr, hv] at this; exact this
          have HSP := Lib.hid hSp2
          have HI2 : Hid ((optL more rest).map ((acc ++ [(x1, x2)]) ++ ·) = RES) := Lib.hid (by
            rw [← hI]
            unfold optL
            cases more
            · rw [hx2 _ hr rfl]; simp
            · rw [hx3 _ hr rfl, if_pos rfl]
              cases rdLs rest <;> simp)
          have HL1 : Hid (((acc.map mkS).map spC).length + 1 ≤ maxLen) := Lib.hid (by rw [List.length_map, List.length_map]; unfold maxLen; omega)
          have HL2 : Hid ((((acc.map mkS).map spC).length + 1) * 32 ≤ 140737488355328) := Lib.hid (by rw [List.length_map, List.length_map]; omega)
          obtain ⟨XS, hXS⟩ : ∃ XS, (acc.map mkS).map spC = XS := ⟨_, rfl⟩
          have HXS := Lib.hid hXS
          have HXL : Hid (XS.length = acc.length) := Lib.hid (by rw [← hXS, List.length_map, List.length_map])
          rw [hXS] at HL1 HL2 HO
          clear hI HI hr hx1 hx2 hx3 hSp hSp2 hC p2 p7 hown hval hv HGOOD HBAD hXS hmg
          go_wp2_with fail
          refine (HC.out _).mono ?_
          rintro e w5 ⟨rfl, hb5⟩
          have hC5 := Kp.step hb hb5
          have HQ2 := Lib.hid (HP2.out.keep hb5)
          have HQ7 := Lib.hid (HP7.out.keep hb5)
          have HO5 := Lib.hid (HO.out.keep hb5)
          have hg5 := hb5.size
          clear hb5 HP2 HP7 HO
          go_wp2_with fail
          refine (HSP.out _).mono ?_
          rintro e w6 ⟨rfl, hb6⟩
          have hC6 := Kp.step hC5 hb6
          have HQ2 := Lib.hid (HQ2.out.keep hb6)
          have HQ7 := Lib.hid (HQ7.out.keep hb6)
          have HO6 := Lib.hid (HO5.out.keep hb6)
          have hg6 := hb6.size
          clear hb6 HO5
          have t1 : ∀ o, (w6.alloc o).cell? ⟨g7, 1, none⟩ = some (.slice ao4 acc.length cap4) := fun o => (HQ7.out.alloc o).cell 1
          have HSZ : Hid (∀ o1 o2, g7 + 1 ≤ ((w6.alloc o1).alloc o2).heap.size) := Lib.hid (fun o1 o2 => by simp; omega)
          go_wp2_with (at_builtin; refine wpList_append_own _ rfl _ _ 48 rfl (g7 + 1) 68 i0 (.agg #[.string ⟨#[]⟩, .string ⟨#[]⟩]) 2 32 Try.underlying48 hinf hz0 hz1 hz2 rfl (by decide) (.slice ao4 acc.length cap4) XS.length (XS.flatMap two) rfl ((HO6.out.alloc _).alloc _) ⟨_, 0, none⟩ 1 1 [.string (mk x1), .string (mk x2)] rfl rfl (two_new (size_1 _ _)) (one_str _ _) HL1.out HL2.out (HSZ.out _ _) ?_)
          intro v' w7 hown2 hgrow _
          have hlo := HO6.out.lt
          have R3 : Own2 w7 (g7 + 1) 68 v' (((acc ++ [(x1, x2)]).map mkS).map spC) := by
            unfold Own2
            rw [List.map_append, List.map_append, HXS.out]
            simpa [two, spC, mkS] using hown2
          have P2 := ((HQ2.out.alloc (.cells #[.string (mk x1), .string (mk x2)] 68)).alloc (.cells #[.string (mk x1), .string (mk x2)] 68)).grown hgrow (fun e => by have := hlo _ e; omega)
          have P7 := ((HQ7.out.alloc (.cells #[.string (mk x1), .string (mk x2)] 68)).alloc (.cells #[.string (mk x1), .string (mk x2)] 68)).grown hgrow (fun e => by have := hlo _ e; omega)
          have B7 : Below w.heap.size w w7 := ((Kp.alloc (Kp.alloc hC6 (.cells #[.string (mk x1), .string (mk x2)] 68)) (.cells #[.string (mk x1), .string (mk x2)] 68))).grown hgrow (by simp; omega) (fun k e => by have := hlo _ e; omega)
          obtain ⟨d0, d1, d2, d3⟩ := P7.cells2
          obtain ⟨ao5, cap5, rfl⟩ := R3.isSl
          rw [List.length_map, List.length_map] at R3 
          rw [List.length_map, List.length_map] at *
          clear hown2 hgrow hlo t1
          go_wp2_with fail
          go_roundg g
          case measure => omega
          case rel => exact ⟨rest, more, acc ++ [(x1, x2)], _, rfl, rfl, by omega, fun h => by have := k3 h; omega, by simp; omega, HI2, P2.far (p := ⟨g7, 1, none⟩) (Nat.ne_of_lt hg) _, by simpa using P7.set 1 _, R3.set (R3.notBlk P7 (by decide)) 1 _, B7.setCell (p := ⟨g7, 1, none⟩) (Nat.le_of_lt hg) _⟩
end Go.Proofs.Ythjebccidcichaa
