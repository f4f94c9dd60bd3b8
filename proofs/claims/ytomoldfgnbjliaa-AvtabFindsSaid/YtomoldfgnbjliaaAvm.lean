/- find: the entries that have a key. -/
import Derived.Test.YtomoldfgnbjliaaAvl
namespace Go.Proofs.Ytomoldfgnbjliaa
open Go.RowKit Go.Sort Go.Shelf Go.Maps Go.WideMaps Go.ChangeShapes
theorem ints_form {w : World} {base : Nat} {u : Value} {zs : List Int} (h : w.ownsInts base 3 .i64 u zs) :
    ∃ au cu, u = .slice au zs.length cu ∧ zs.length ≤ cu ∧ (zs ≠ [] → ∃ g, au = some ⟨g, 0, none⟩ ∧ g < w.heap.size ∧ ∀ j (hj : j < zs.length), w.cell? ⟨g, j, none⟩ = some (.int .i64 zs[j])) := by
  rcases h.1.2 with ⟨hv, h0⟩ | ⟨g, cap, cur, hv, _, hh, h4, _, h6, h7⟩
  · refine ⟨none, 0, by rw [hv, h0], by omega, fun hne => ?_⟩
    exact absurd (List.eq_nil_of_length_eq_zero h0) hne
  · refine ⟨some ⟨g, 0, none⟩, cap, hv, h4, fun _ => ⟨g, rfl, (Array.getElem?_eq_some_iff.1 hh).1, fun j hj => ?_⟩⟩
    have := h.1.cells (g := g) (by rw [hv]; rfl) j (.int .i64 zs[j]) (by simp [List.getElem?_eq_getElem hj])
    rwa [show (⟨g, 0, none⟩ : Addr).add j = ⟨g, j, none⟩ by unfold Addr.add; split <;> simp_all] at this
theorem take_snoc_E (l : List E) (i : Nat) (h : i < l.length) : l.take (i + 1) = l.take i ++ [l[i]] := take_snoc' l i h
set_option maxRecDepth 100000 in
set_option maxHeartbeats 4000000 in
theorem find3_c (v : Value) (L : List E) (b : Nat) (s t c : Int) (hs : (Lit.int .i64 s).wf = true) (ht : (Lit.int .i64 t).wf = true) (hc : (Lit.int .i64 c).wf = true) (hl : L.length ≤ 10000) (w : World) (hE : Ents w v L) (hG : Grp 64 3 kf3 w b L) :
    Calls Try.prog 41 #[.agg #[v, .map (some b)], .agg #[.int .i64 s, .int .i64 t, .int .i64 c]] w (ListOut w (L.filter fun x => kf3 x == [s, t, c])) := by
  obtain ⟨D, hown, hDI⟩ := hG
  have hkw : WfK [s, t, c] := by
    intro z hz
    simp only [List.mem_cons, List.not_mem_nil, or_false] at hz
    rcases hz with rfl | rfl | rfl
    · exact hs
    · exact ht
    · exact hc
  have hkey := kt3.keyOf [s, t, c] rfl hkw
  have hpz := hDI.2 [s, t, c] rfl hkw
  obtain ⟨p, hp⟩ : ∃ p : E → Bool, (fun x => kf3 x == [s, t, c]) = p := ⟨_, rfl⟩
  rw [hp] at hpz ⊢
  clear hp
  have HP := Lib.hid hpz
  have HE := Lib.hid hE
  have HOW := Lib.hid hown
  have HK := Lib.hid hkey
  obtain ⟨ao, cap, rfl, hcap, -⟩ := hE
  have hlI : (L.length : Int) ≤ 10000 := by omega
  have hcI : (L.length : Int) ≤ (cap : Int) := by omega
  clear hown hDI hkey hpz hkw hs ht hc
  have HW0 : Hid (Below w.heap.size w ((w.alloc (.cells #[.slice ao L.length cap, .map (some b)] 51)).alloc (.cells #[.int .i64 s, .int .i64 t, .int .i64 c] 64))) := Lib.hid below_a2
  have HB0 : Hid (Blk ((w.alloc (.cells #[.slice ao L.length cap, .map (some b)] 51)).alloc (.cells #[.int .i64 s, .int .i64 t, .int .i64 c] 64)) w.heap.size 51 #[.slice ao L.length cap, .map (some b)]) := Lib.hid ((Blk.new w _ _).alloc _)
  go_enter Try.func41, Try.ntmps41
  go_wp2_with (at_lookup; refine wpList_lookup_groups _ rfl _ _ 49 rfl 64 58 3 .i64 kt3.K Try.underlying49 (Try.zeroValue58 _) (b + 1) b L.length D rfl (groups_keep HOW.out HW0.out) (by unfold maxLen; omega) _ _ rfl HK.out ?_; intro u zs hat hoi hzl hback; clear hback; have HAT := Lib.hid hat; obtain ⟨au, cu, rfl, hcu, hru⟩ := ints_form hoi; have HOI := Lib.hid hoi; have HRU := Lib.hid hru; clear hat hoi hru)
  have HPZ : Hid (zs = posn p 0 L) := Lib.hid (by rw [← HP.out, HAT.out, numsOf_row HOI.out])
  have HEN := Lib.hid (HE.out.keep HW0.out)
  clear HAT HOI HP HOW HK HE
  generalize (w.alloc (.cells #[.slice ao L.length cap, .map (some b)] 51)).alloc (.cells #[.int .i64 s, .int .i64 t, .int .i64 c] 64) = W2 at *
  obtain ⟨m, hm⟩ : ∃ m, zs.length = m := ⟨_, rfl⟩
  obtain ⟨n, hn⟩ : ∃ n, L.length = n := ⟨_, rfl⟩
  have HM := Lib.hid hm
  have HN := Lib.hid hn
  have hru := HRU.out
  have hen := HEN.out
  rw [hn] at hzl hl hlI hcI hcap hen HB0 ⊢
  rw [hm] at hzl hcu ⊢
  have HFL : Hid ((L.filter p).length = m) := Lib.hid (by rw [← hm, HPZ.out, posn_filter_len])
  have hmI : (m : Int) ≤ 10000 := by omega
  have hmc : (m : Int) ≤ (cu : Int) := by omega
  have HEN := Lib.hid hen
  clear hm hn hru hen
  go_loopw [13, 5] (fun vj va wr => ∃ (j : Nat) (v : Value), j ≤ m ∧ vj = .int .i64 j ∧ v = va ∧ Hid (OwnE wr W2.heap.size v ((L.filter p).take j)) ∧ Hid (Below W2.heap.size W2 wr)) (fun vj _ _ => m - (intOf vj).toNat)
  case atStart => exact ⟨0, _, Nat.zero_le _, rfl, rfl, Lib.hid (OwnE.nil _ _), Lib.hid (Below.refl _ _)⟩
  case round =>
    obtain ⟨j, v, hj, rfl, rfl, HO, HW⟩ := hrel
    by_cases hlt : j < m
    · have hjz : j < zs.length := by rw [HM.out]; exact hlt
      obtain ⟨g, rfl, hg, hrc⟩ := HRU.out (by rintro rfl; simp at hjz)
      have hjp : j < (posn p 0 L).length := by rw [← HPZ.out]; exact hjz
      obtain ⟨i, hi, hjf, e1, e2⟩ := posn_get p L [] j hjp
      simp only [List.nil_append] at hi e2
      have e1' : zs[j] = (i : Int) := by
        have : zs[j] = (posn p 0 L)[j] := List.getElem_of_eq HPZ.out hjz
        rw [this]; exact e1
      have hcj : wr.cell? ⟨g, j, none⟩ = some (.int .i64 (i : Int)) := by
        rw [World.cell?_of_block (HW.out.block g hg), hrc j hjz, e1']
      obtain ⟨ao', cap', hao, -, hr⟩ := HEN.out
      obtain ⟨g2, o, rfl, hR⟩ := hr (by rintro rfl; simp at hi)
      obtain ⟨rfl, -, rfl⟩ : ao = some ⟨g2, o, none⟩ ∧ True ∧ cap = cap' := by
        simp only [Value.slice.injEq] at hao
        exact ⟨hao.1, trivial, hao.2.2⟩
      have hA : At7 wr g2 (o + i * 7) L[i] := (hR.at hi).keep (HW.out.block g2 (hR.lt (by rintro rfl; simp at hi)))
      have hin : i < n := by rw [← HN.out]; exact hi
      have hinI : (i : Int) < (n : Int) := by omega
      have hltI : (j : Int) < (m : Int) := by omega
      have hts := take_snoc_E (L.filter p) j hjf
      rw [← e2] at hts
      obtain ⟨x, hx⟩ : ∃ x, L[i] = x := ⟨_, rfl⟩
      rw [hx] at hA hts
      have HTS := Lib.hid hts
      obtain ⟨a0, a1, a2, a3, a4, a5, a6⟩ := hA
      obtain ⟨x0, x1⟩ : wr.cell? ⟨w.heap.size, 0, none⟩ = some (.slice (some ⟨g2, o, none⟩) n cap) ∧ True := ⟨(HB0.out.keep HW.out).cell 0, trivial⟩
      clear hx hao hr hR hts hrc e1 e1' e2 hjp hjz hjf hi hg
      go_wp2_with (first | (at_builtin; refine wpList_append_E (by rfl) _ _ (by rfl) W2.heap.size v ((L.filter p).take j) j (by rw [List.length_take, HFL.out]; omega) (by rfl) (HO.out.below ((Below.refl _ wr).alloc (Nat.le_refl _) _)) wr.heap.size x (by rfl) (Blk.new _ _ _) (by omega) (by have := HW.out.size; simp; omega) ?_; intro g' cap' w4 h1 h2 h3; have H1 := Lib.hid h1; have H2 := Lib.hid h2; clear h1 h2 h3) | fail)
      refine ⟨⟨j + 1, _, by omega, by go_num, rfl, Lib.hid ?_, Lib.hid ?_⟩, by simp [intOf]; omega⟩
      · rw [HTS.out]; exact H1.out
      · exact (HW.out.alloc HW.out.size _).grown H2.out (by have := HW.out.size; simp; omega) (fun k e => (World.ownsRow.lt HO.out k e).1)
    · obtain rfl : j = m := by omega
      go_wp2_with fail
      go_ret
      have h1 := HO.out
      rw [← HFL.out, List.take_length] at h1
      exact ⟨v, rfl, h1.base HW0.out.size, HW0.out.trans (HW.out.mono HW0.out.size)⟩
end Go.Proofs.Ytomoldfgnbjliaa
