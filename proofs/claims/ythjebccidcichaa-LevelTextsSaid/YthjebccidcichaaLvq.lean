/- A valid level with its names. -/
import Derived.Test.YthjebccidcichaaLvp
namespace Go.Proofs.Ythjebccidcichaa
open Go.RowKit
def spC (p : Sp) : Value × Value := (.string p.1, .string p.2)
theorem Own2.spans {w : World} {base : Nat} {e : TypeId} {v : Value} {M : List Sp} (h : Own2 w base e v (M.map spC)) : Spans w v M := by
  obtain ⟨ao, cap, hv, hr⟩ := h.read
  rw [List.length_map] at hv
  refine ⟨ao, cap, hv, fun hn => ?_⟩
  obtain ⟨g, rfl, hk⟩ := hr (by simpa using hn)
  refine ⟨g, 0, rfl, fun k h => ?_⟩
  have := hk k (by simpa using h)
  simpa [spC] using this
theorem runsP_len (c : Nat) : ∀ (f n : Nat), (runsP c f n none).length ≤ f ∧ ∀ a, (runsP c f n (some a)).length ≤ f + 1
  | 0, _ => ⟨Nat.le_refl _, fun _ => Nat.le_refl _⟩
  | f + 1, n => by
    obtain ⟨h1, h2⟩ := runsP_len c f (n + 1)
    constructor
    · unfold runsP
      split
      · exact h2 _
      · exact Nat.le_succ_of_le h1
    · intro a
      unfold runsP
      split
      · exact Nat.le_succ_of_le (h2 _)
      · simp only [List.length_cons]; omega
theorem runs_len (c : Nat) : (runsQ c 0 none).length ≤ 64 := (runsP_len c 64 0).1
theorem infoSpan : (Try.prog.info? 68).map (fun i => (i.zero, i.size, i.bytes)) = some (some (.agg #[.string ⟨#[]⟩, .string ⟨#[]⟩]), 2, 32) := by kernel_rfl
theorem Rns.but {w w' : World} {v : Value} {M : List (Nat × Nat)} {gb : Nat} {t : TypeId} {x : ByteArray} {y : Value} (h : Rns w v M) (hg : Blk w gb t #[.string x, y]) (hb : But w.heap.size gb w w') : Rns w' v M := by
  obtain ⟨ao, cap, rfl, hr⟩ := h
  refine ⟨ao, cap, rfl, fun hn => ?_⟩
  obtain ⟨g, o, ho, rfl, hk⟩ := hr hn
  refine ⟨g, o, ho, rfl, fun k h => ?_⟩
  subst ho
  have h0 := hk 0 (List.length_pos_iff.2 hn)
  have hlt : g < w.heap.size := by
    rcases Nat.lt_or_ge g w.heap.size with h' | h'
    · exact h'
    · have := h0.1; simp [World.cell?, Array.getElem?_eq_none h'] at this
  have hne : g ≠ gb := by
    rintro rfl
    have h1 := h0.1
    have h2 := hg.cell 0
    rw [Nat.zero_add, Nat.zero_mul] at h1
    rw [h2] at h1
    cases h1
  exact ⟨(hb.cell hlt hne).trans (hk k h).1, (hb.cell hlt hne).trans (hk k h).2⟩
theorem one_str (a b : ByteArray) : ∀ u ∈ [Value.string a, Value.string b], u.oneCell' = true := by
  intro u hu
  simp at hu
  rcases hu with rfl | rfl <;> rfl
theorem size_2 (w : World) (o o' : Obj) : w.heap.size + 1 + 1 = ((w.alloc o).alloc o').heap.size := by simp
theorem size_2s (w : World) (o o' : Obj) (p : Addr) (u : Value) : w.heap.size + 1 + 1 = (((w.alloc o).alloc o').setCell p u).heap.size := by simp [World.setCell]
def NamedOut (l m : List ByteArray) (s : Int) (c : Nat) (w : World) (e : Ending) (w' : World) : Prop :=
  ∃ v, e = .returned (.agg #[.string (nmAt l s.toNat), v]) ∧ Spans w' v (spansL m c) ∧ Below w.heap.size w w'
set_option maxRecDepth 100000 in
set_option maxHeartbeats 4000000 in
theorem named_c (s : Int) (c : Nat) (v u : Value) (l m : List ByteArray) (w : World) (hc : c < U64) (hV : Strs w v l) (hU : Strs w u m) (hl : l.length ≤ 1000000) (hm : m.length ≤ 64) (h0 : 0 ≤ s) (h1 : s < l.length) (hbits : ∀ k : Nat, hasL c k = true → k < m.length) :
    Calls Try.prog 53 #[.agg #[.int .i64 s, .int .u64 c], v, u] w (NamedOut l m s c w) := by
  obtain ⟨i0, hinf, hz0, hz1, hz2⟩ := info_parts infoSpan
  obtain ⟨n, rfl⟩ : ∃ n : Nat, s = n := ⟨s.toNat, by omega⟩
  have hn : n < l.length := by omega
  obtain ⟨X, hX⟩ : ∃ X, nmAt l n = X := ⟨_, rfl⟩
  obtain ⟨ao, cap, rfl, hr⟩ := hV
  obtain ⟨g, o, rfl, hrow⟩ := hr (by rintro rfl; simp at hn)
  have q0 := hrow n hn
  rw [← nmAt_lt hn, hX] at q0
  obtain ⟨ao2, cap2, rfl, hr2⟩ := hU
  have hglt := hrow.lt (by omega)
  have qa : ∀ o1 o2, ((w.alloc o1).alloc o2).cell? ⟨g, o + n, none⟩ = some (.string X) := fun o1 o2 => (((Below.refl _ _).alloc (Nat.le_refl _) o1).alloc (by simp) o2 : Below w.heap.size w _).cell (p := ⟨g, o + n, none⟩) hglt |>.trans q0
  have HR2 := Lib.hid hr2
  have HBT := Lib.hid hbits
  have HX := Lib.hid hX
  clear hbits hX hr hr2 hrow
  have ho : Int.toNat (↑o + ↑n) = o + n := by omega
  obtain ⟨hB1, hB2, hW0, hz⟩ := two_box w 24 50 #[.int .i64 (n : Int), .int .u64 (c : Int)] #[.string ⟨#[]⟩, .slice none 0 0]
  go_enter Try.func53, Try.ntmps53
  go_wp2_with fail
  have hB3 := Blk.new ((w.alloc (.cells #[.int .i64 (n : Int), .int .u64 (c : Int)] 24)).alloc (.cells #[.string ⟨#[]⟩, .slice none 0 0] 50)) 50 #[.string X, .slice none 0 0]
  rw [hz] at hB3
  have hB2' := hB2.alloc (.cells #[.string X, .slice none 0 0] 50)
  have hW1 := hW0.alloc (by omega) (.cells #[.string X, .slice none 0 0] 50)
  refine (runs_c c _ hc).mono ?_
  rintro e w3 ⟨rv, rfl, hRn, hb3⟩
  have q2 := hB2'.keep hb3
  have q3 := hB3.keep hb3
  have hC := hW1.trans (hb3.mono hW1.size)
  have hsz := hb3.size
  have hz4 : w.heap.size + 2 < w3.heap.size := q3.lt
  clear hB1 hB2 hB2' hB3 hW0 hW1 hb3 hz hsz qa q0
  obtain ⟨ao3, cap3, rfl, hdrop⟩ := id hRn
  clear hdrop
  obtain ⟨M, hM⟩ : ∃ M, runsQ c 0 none = M := ⟨_, rfl⟩
  have hM64 := runs_len c
  rw [hM] at hRn hM64
  rw [hM]
  have HM := Lib.hid hM
  have HRn := Lib.hid hRn
  clear hM hRn
  go_wp2_with fail
  go_loopw [21] (fun vi wr => ∃ (i : Nat) (cv : Value), i ≤ M.length ∧ vi = .int .i64 i ∧ But w3.heap.size (w.heap.size + 2) w3 wr ∧ Blk wr (w.heap.size + 1) 50 #[.string ⟨#[]⟩, .slice none 0 0] ∧ Blk wr (w.heap.size + 2) 50 #[.string X, cv] ∧ Own2 wr w3.heap.size 68 cv (((M.take i).map (spL m)).map spC)) (fun vi _ => M.length - (intOf vi).toNat)
  case atStart => exact ⟨0, _, Nat.zero_le _, rfl, But.refl, q2, q3, Own2.nil⟩
  case round =>
    obtain ⟨i, cv, hi, rfl, hBu, p2, p3, hown⟩ := hrel
    by_cases hlt : i < M.length
    · have hlt' : (i : Int) < (M.length : Int) := by omega
      obtain ⟨ao', cap', hv, hr⟩ := HRn.out.but q3 hBu
      cases hv
      obtain ⟨gr, og, hog, rfl, hk⟩ := hr (by rintro rfl; simp at hlt)
      obtain ⟨s1, s2⟩ := hk i hlt
      obtain ⟨x, hx⟩ : ∃ x, M[i] = x := ⟨_, rfl⟩
      have hmem : x ∈ runsQ c 0 none := by rw [HM.out, ← hx]; exact List.getElem_mem hlt
      obtain ⟨hab, hb64, hbit⟩ := runs_in c hmem
      rw [hx] at s1 s2
      obtain ⟨a, b⟩ := x
      simp only at s1 s2 hab hb64 hbit
      have hb' : b < m.length := HBT.out b (hbit b hab (Nat.le_refl _))
      have ha' : a < m.length := by omega
      have hai : (a : Int) < (m.length : Int) := by omega
      have hbi : (b : Int) < (m.length : Int) := by omega
      obtain ⟨g2, o2, rfl, hrow⟩ := HR2.out (by rintro rfl; simp at hb')
      have hg2 : g2 < w.heap.size := hrow.lt (by omega)
      have hC' : Below w.heap.size w wr := hC.trans (But.to_below (But.mono hBu (by omega)) (by omega) : Below w.heap.size w3 wr)
      have hU : ∀ k (h : k < m.length), wr.cell? ⟨g2, o2 + k, none⟩ = some (.string (nmAt m k)) := fun k h => by
        rw [nmAt_lt h]; exact (hC'.cell (p := ⟨g2, o2 + k, none⟩) hg2).trans (hrow k h)
      have u1 := hU a ha'
      have u2 := hU b hb'
      have hgr : g2 < wr.heap.size := by have := hC'.size; omega
      obtain ⟨xa, hxa⟩ : ∃ xa, nmAt m a = xa := ⟨_, rfl⟩
      obtain ⟨xb, hxb⟩ : ∃ xb, nmAt m b = xb := ⟨_, rfl⟩
      rw [hxa] at u1
      rw [hxb] at u2
      have v1 : ∀ o, (wr.alloc o).cell? ⟨g2, o2 + a, none⟩ = some (.string xa) := fun o => ((Below.refl _ _).alloc (Nat.le_refl _) o : Below wr.heap.size wr _).cell (p := ⟨g2, o2 + a, none⟩) hgr |>.trans u1
      have v2 : ∀ o o', ((wr.alloc o).alloc o').cell? ⟨g2, o2 + b, none⟩ = some (.string xb) := fun o o' => (((Below.refl _ _).alloc (Nat.le_refl _) o).alloc (by simp) o' : Below wr.heap.size wr _).cell (p := ⟨g2, o2 + b, none⟩) hgr |>.trans u2
      have e1 : Int.toNat (↑o2 + ↑a) = o2 + a := by omega
      have e2 : Int.toNat (↑o2 + ↑b) = o2 + b := by omega
      have HX2 : Hid (spL m (a, b) = (xa, if a = b then ⟨#[]⟩ else xb)) := Lib.hid (by unfold spL; rw [hxa, hxb])
      have HTK : Hid (M.take (i + 1) = M.take i ++ [(a, b)]) := Lib.hid (by rw [List.take_succ_eq_append_getElem hlt, hx])
      have HP2 := Lib.hid p2
      have HP3 := Lib.hid p3
      have hsz := hBu.size
      have hg7 : w.heap.size + 2 < wr.heap.size := by omega
      have t1 : ∀ o o', ((wr.alloc o).alloc o').cell? ⟨w.heap.size + 2, 1, none⟩ = some cv := fun o o' => ((p3.alloc o).alloc o').cell 1
      obtain ⟨XS, hXS⟩ : ∃ XS, ((M.take i).map (spL m)).map spC = XS := ⟨_, rfl⟩
      have hlen : XS.length ≤ 64 := by rw [← hXS, List.length_map, List.length_map, List.length_take]; omega
      rw [hXS] at hown
      have HXS := Lib.hid hXS
      have HL1 : Hid (XS.length + 1 ≤ maxLen) := Lib.hid (by unfold maxLen; omega)
      have HL2 : Hid ((XS.length + 1) * 32 ≤ 140737488355328) := Lib.hid (by omega)
      have HL3 : Hid (∀ o1 o2 o3, w3.heap.size ≤ (((wr.alloc o1).alloc o2).alloc o3).heap.size) := Lib.hid (fun o1 o2 o3 => by simp; omega)
      clear hXS
      have HO := Lib.hid hown
      have HBu := Lib.hid hBu
      have HQ3 := Lib.hid q3
      have Hhab := Lib.hid hab
      clear hog hr hx hmem hbit hxa hxb p2 p3 hown hBu hU hrow u1 u2 hk hab hb64 q2 q3
      by_cases hab : a = b
      · have HX3 : Hid (spL m (a, a) = (xa, ⟨#[]⟩)) := Lib.hid (by have := HX2.out; rw [if_pos hab] at this; rw [← this, ← hab])
        clear HX2
        subst hab
        have hne : (((a : Int)) != (a : Int)) = false := by simp
        go_wp2_with (first
          | (at_builtin; refine wpList_append_own _ rfl _ _ 48 rfl w3.heap.size 68 i0 (.agg #[.string ⟨#[]⟩, .string ⟨#[]⟩]) 2 32 Try.underlying48 hinf hz0 hz1 hz2 rfl (by decide) cv XS.length (XS.flatMap two) rfl (((HO.out.alloc _).alloc _).alloc _) ⟨_, 0, none⟩ 1 1 [.string xa, .string ⟨#[]⟩] rfl rfl (two_new (size_2 _ _ _)) (one_str _ _) HL1.out HL2.out (HL3.out _ _ _) ?_))
        · intro v' w5 hown2 hgrow _
          have hlo := HO.out.lt
          have R3 : Own2 w5 w3.heap.size 68 v' (((M.take (i + 1)).map (spL m)).map spC) := by
            unfold Own2
            rw [HTK.out, List.map_append, List.map_append, HXS.out]
            simp only [List.map_cons, List.map_nil, HX3.out]
            simpa [two, spC] using hown2
          have P2 := (((HP2.out.alloc (.cells #[.int .i64 (a : Int), .int .i64 (a : Int)] 94)).alloc (.cells #[.string xa, .string ⟨#[]⟩] 68)).alloc (.cells #[.string xa, .string ⟨#[]⟩] 68)).grown hgrow (fun e => by have := hlo _ e; omega)
          have P3 := (((HP3.out.alloc (.cells #[.int .i64 (a : Int), .int .i64 (a : Int)] 94)).alloc (.cells #[.string xa, .string ⟨#[]⟩] 68)).alloc (.cells #[.string xa, .string ⟨#[]⟩] 68)).grown hgrow (fun e => by have := hlo _ e; omega)
          have B3 : But w3.heap.size (w.heap.size + 2) w3 w5 := by
            have b1 := (((HBu.out.alloc hsz (.cells #[.int .i64 (a : Int), .int .i64 (a : Int)] 94)).alloc (by simp; omega) (.cells #[.string xa, .string ⟨#[]⟩] 68)).alloc (by simp; omega) (.cells #[.string xa, .string ⟨#[]⟩] 68))
            exact b1.below ((Below.refl _ _).grown hgrow (by simp; omega) (fun k e => (hlo _ e).1))
          obtain ⟨d0, d1, d2, d3⟩ := P3.cells2
          obtain ⟨ao4, cap4, rfl⟩ := R3.isSl
          clear hown2 hgrow hlo
          go_wp2_with fail
          go_roundw
          case rel => exact ⟨i + 1, _, hlt, by go_num, B3.setCell (.inl rfl) _, P2.far (p := ⟨w.heap.size + 2, 1, none⟩) (by simp) _, by simpa using P3.set 1 _, R3.set (R3.notBlk P3 (by decide)) 1 _⟩
          case measure => simp [intOf]; omega
      · have HX3 : Hid (spL m (a, b) = (xa, xb)) := Lib.hid (by have := HX2.out; rwa [if_neg hab] at this)
        clear HX2
        have hne : (((b : Int)) != (a : Int)) = true := by simp; omega
        have hne2 : (((b : Int)) == (a : Int)) = false := by simp; omega
        clear hab
        go_wp2_with (first
          | (at_builtin; refine wpList_append_own _ rfl _ _ 48 rfl w3.heap.size 68 i0 (.agg #[.string ⟨#[]⟩, .string ⟨#[]⟩]) 2 32 Try.underlying48 hinf hz0 hz1 hz2 rfl (by decide) cv XS.length (XS.flatMap two) rfl (((HO.out.alloc _).alloc _).alloc _) ⟨_, 0, none⟩ 1 1 [.string xa, .string xb] rfl rfl (two_new (size_2 _ _ _)) (one_str _ _) HL1.out HL2.out (HL3.out _ _ _) ?_))
        · intro v' w5 hown2 hgrow _
          have hlo := HO.out.lt
          have R3 : Own2 w5 w3.heap.size 68 v' (((M.take (i + 1)).map (spL m)).map spC) := by
            unfold Own2
            rw [HTK.out, List.map_append, List.map_append, HXS.out]
            simp only [List.map_cons, List.map_nil, HX3.out]
            simpa [two, spC] using hown2
          have P2 := (((HP2.out.alloc (.cells #[.int .i64 (a : Int), .int .i64 (b : Int)] 94)).alloc (.cells #[.string xa, .string xb] 68)).alloc (.cells #[.string xa, .string xb] 68)).grown hgrow (fun e => by have := hlo _ e; omega)
          have P3 := (((HP3.out.alloc (.cells #[.int .i64 (a : Int), .int .i64 (b : Int)] 94)).alloc (.cells #[.string xa, .string xb] 68)).alloc (.cells #[.string xa, .string xb] 68)).grown hgrow (fun e => by have := hlo _ e; omega)
          have B3 : But w3.heap.size (w.heap.size + 2) w3 w5 := by
            have b1 := (((HBu.out.alloc hsz (.cells #[.int .i64 (a : Int), .int .i64 (b : Int)] 94)).alloc (by simp; omega) (.cells #[.string xa, .string xb] 68)).alloc (by simp; omega) (.cells #[.string xa, .string xb] 68))
            exact b1.below ((Below.refl _ _).grown hgrow (by simp; omega) (fun k e => (hlo _ e).1))
          obtain ⟨d0, d1, d2, d3⟩ := P3.cells2
          obtain ⟨ao4, cap4, rfl⟩ := R3.isSl
          clear hown2 hgrow hlo
          go_wp2_with fail
          go_roundw
          case rel => exact ⟨i + 1, _, hlt, by go_num, B3.setCell (.inl rfl) _, P2.far (p := ⟨w.heap.size + 2, 1, none⟩) (by simp) _, by simpa using P3.set 1 _, R3.set (R3.notBlk P3 (by decide)) 1 _⟩
          case measure => simp [intOf]; omega
    · obtain rfl : i = M.length := by omega
      obtain ⟨d0, d1, d2, d3⟩ := p3.cells2
      obtain ⟨ao4, cap4, rfl⟩ := hown.isSl
      have HP2 := Lib.hid p2
      have HO := Lib.hid hown
      have HBu := Lib.hid hBu
      have HQ3 := Lib.hid q3
      clear p2 p3 hown hBu q2 q3
      obtain ⟨f0, f1, f2, f3⟩ := HP2.out.cells2
      go_wp2_with fail
      obtain ⟨r0, r1⟩ := (HP2.out.set2 (.string X) (.slice ao4 (((M.take M.length).map (spL m)).map spC).length cap4)).box2
      have hS : Spans ((wr.setCell ⟨w.heap.size + 1, 0, none⟩ (.string X)).setCell ⟨w.heap.size + 1, 1, none⟩ (.slice ao4 (((M.take M.length).map (spL m)).map spC).length cap4)) (.slice ao4 (((M.take M.length).map (spL m)).map spC).length cap4) (spansL m c) := by
        have h1 := (HO.out.set (HO.out.notBlk HP2.out (by decide)) 0 (.string X))
        have h2 := h1.set (h1.notBlk (HP2.out.set 0 _) (by decide)) 1 (.slice ao4 (((M.take M.length).map (spL m)).map spC).length cap4)
        have h3 := h2.spans
        unfold spansL
        rw [HM.out]
        rw [List.take_length] at h3 ⊢
        exact h3
      have hB : Below w.heap.size w ((wr.setCell ⟨w.heap.size + 1, 0, none⟩ (.string X)).setCell ⟨w.heap.size + 1, 1, none⟩ (.slice ao4 (((M.take M.length).map (spL m)).map spC).length cap4)) :=
        below_set2 (hC.trans (But.to_below (But.mono HBu.out (by omega)) (by omega) : Below w.heap.size w3 wr)) (Nat.le_succ _) _ _
      rw [List.take_length] at *
      simp only [List.length_map] at *
      exact bodyPost_ret (v := .agg #[.string X, .slice ao4 M.length cap4]) (by simp [results, Try.results53, go_sem, r0, r1]) rfl ⟨_, by rw [show Int.toNat (n : Int) = n from rfl, HX.out], hS, hB⟩
end Go.Proofs.Ythjebccidcichaa
