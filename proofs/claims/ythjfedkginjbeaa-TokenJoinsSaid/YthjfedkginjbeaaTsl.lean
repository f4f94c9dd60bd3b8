/- The scanner of package token: Scan, walked. -/
import Derived.Test.YthjfedkginjbeaaTsk
namespace Go.Proofs.Ythjfedkginjbeaa
open Go.RowKit
def OwnT (w : World) (base : Nat) (v : Value) (l : List Tk) : Prop := w.ownsRow base 34 4 v l.length (l.flatMap Tk.cells)
theorem Try.infoTok : (Try.prog.info? 34).map (fun i => (i.zero, i.size, i.bytes)) = some (some (.agg #[.int .i64 0, .string ⟨#[]⟩, .int .i64 0, .int .i64 0]), 4, 40) := by kernel_rfl
theorem OwnT.but {w w' : World} {base g : Nat} {v : Value} {l : List Tk} (h : OwnT w base v l) (hb : But w.heap.size g w w') (hg : g < base) : OwnT w' base v l := by
  refine ⟨h.1, ?_⟩
  rcases h.2 with h2 | ⟨k, cap, cur, hv, hk, hh, r⟩
  · exact .inl h2
  · have hlt : k < w.heap.size := by
      rcases Nat.lt_or_ge k w.heap.size with hlt | hge
      · exact hlt
      · rw [Array.getElem?_eq_none hge] at hh; cases hh
    exact .inr ⟨k, cap, cur, hv, hk, (hb.block k hlt (by omega)).trans hh, r⟩
theorem Blk.grown {w w' : World} {g : Nat} {t : TypeId} {cs : Array Value} {row : Option Nat} (hg : w.grownBy w' row) (h : Blk w g t cs) (hn : row ≠ some g) : Blk w' g t cs := (hg.block g h.lt (fun e => hn e.symm)).trans h
theorem four_new {w : World} {t : TypeId} {a b c d : Value} {g : Nat} (hg : g = w.heap.size) : ∀ j x, [a, b, c, d][j]? = some x → (w.alloc (.cells #[a, b, c, d] t)).cell? ((⟨g, 0, none⟩ : Addr).add j) = some x := by
  subst hg
  intro j x h
  have e := (Blk.new w t #[a, b, c, d]).cell j
  have hj : j < 4 := by
    rcases Nat.lt_or_ge j 4 with h4 | h4
    · exact h4
    · rw [List.getElem?_eq_none (by simpa using h4)] at h; cases h
  have ha : ((⟨w.heap.size, 0, none⟩ : Addr).add j) = ⟨w.heap.size, j, none⟩ := by simp [Addr.add]; exact Eq.symm
  rw [ha, e]
  simpa using h
theorem atOf_scn {w : World} {g i : Nat} {s : ByteArray} {l c : Int} (h : Scn w g s i l c) : atOf g w = i := by
  obtain ⟨_, c1, _⟩ := h.facts
  unfold atOf
  rw [c1]
  simp [intOf]
theorem set4 {w : World} {g : Nat} {t : TypeId} {x0 x1 x2 x3 : Value} (h : Blk w g t #[x0, x1, x2, x3]) (y0 y1 y2 y3 : Value) : Blk ((((w.setCell ⟨g, 0, none⟩ y0).setCell ⟨g, 1, none⟩ y1).setCell ⟨g, 2, none⟩ y2).setCell ⟨g, 3, none⟩ y3) g t #[y0, y1, y2, y3] := by
  simpa using (((h.set 0 y0).set 1 y1).set 2 y2).set 3 y3
theorem OwnT.set {w : World} {base : Nat} {v : Value} {l : List Tk} {g : Nat} (h : OwnT w base v l) (hg : g < base) (i : Nat) (u : Value) : OwnT (w.setCell ⟨g, i, none⟩ u) base v l :=
  h.but (g := g) (But.setCell (p := ⟨g, i, none⟩) But.refl (.inl rfl) u) hg
def faultV (s : ByteArray) : Option (Int × Nat) → Value
  | none => .agg #[.int .i64 0, .int .i64 0, .int .i64 0, .string ⟨#[]⟩]
  | some (c, j) => .agg #[.int .i64 c, .int .i64 (posI s j).1, .int .i64 (posI s j).2, .string ⟨#[]⟩]
/-- a list and a fault, handed back -/
theorem mix_ret {fn : Func} {tmps : Array Value} {t t' : Tmp} {w : World} {g' : Nat} {v b0 b1 b2 b3 : Value} (h : fn.results = #[.tmp t, .cell t' 28])
    (ht : tmps.getD t undef = v) (ht' : tmps.getD t' undef = .pointer (some ⟨g', 0, none⟩)) (q' : Blk w g' 28 #[b0, b1, b2, b3]) :
    (results fn tmps).run Try.prog w = .ok (.tuple #[v, .agg #[b0, b1, b2, b3]]) w := by
  have d0 := q'.cell 0
  have d1 := q'.cell 1
  have d2 := q'.cell 2
  have d3 := q'.cell 3
  simp at d0 d1 d2 d3
  have e : tmps[t]?.getD undef = v := by simpa using ht
  have e' : tmps[t']?.getD undef = .pointer (some ⟨g', 0, none⟩) := by simpa using ht'
  simp [results, h, e, e', go_sem, d0, d1, d2, d3]
/-- the outcome of Scan -/
def ScanOut (s : ByteArray) (w : World) (e : Ending) (w' : World) : Prop :=
  ∃ v, OwnT w' w.heap.size v (scF s (s.size + 1) 0 []).2 ∧ e = .returned (.tuple #[v, faultV s (scF s (s.size + 1) 0 []).1]) ∧ Below w.heap.size w w'
theorem OwnT.mono {w : World} {base base' : Nat} {v : Value} {l : List Tk} (h : OwnT w base v l) (hb : base' ≤ base) : OwnT w base' v l :=
  ⟨h.1, h.2.imp id (fun ⟨g, r1, r2, r3, r4, r5⟩ => ⟨g, r1, r2, r3, Nat.le_trans hb r4, r5⟩)⟩
/-- next, when it gives a token -/
theorem hn_ok {s : ByteArray} {i g : Nat} {wr : World} (hc : oneC s (sk s i) = 0) (hJ : i ≤ sk s i) (hE : i ≤ oneE s (sk s i)) (h : Calls Try.prog 34 #[.pointer (some ⟨g, 0, none⟩)] wr (NextOut s i (posI s i) g wr)) :
    Calls Try.prog 34 #[.pointer (some ⟨g, 0, none⟩)] wr fun e w' =>
      e = .returned (.tuple #[.agg #[.int .i64 ((tkAt s (sk s i)).kind : Int), .string (tkAt s (sk s i)).text, .int .i64 (tkAt s (sk s i)).line, .int .i64 (tkAt s (sk s i)).col], .agg #[.int .i64 0, .int .i64 0, .int .i64 0, .string ⟨#[]⟩]]) ∧
      Scn w' g s (oneE s (sk s i)) (posI s (oneE s (sk s i))).1 (posI s (oneE s (sk s i))).2 ∧ But wr.heap.size g wr w' := by
  refine h.mono ?_
  rintro e w' ⟨code, hcode, rfl, hS, hb⟩
  rw [hc] at hcode
  subst hcode
  have hS' := hS rfl
  rw [posI_adv s hE] at hS'
  exact ⟨by rw [posI_adv s hJ]; simp [zi, zs, zn, tkAt], hS', hb⟩
theorem hn_end {s : ByteArray} {i g : Nat} {wr : World} (hc : oneC s (sk s i) = 0) (hJ : i ≤ sk s i) (hk : oneK s (sk s i) = 0) (h : Calls Try.prog 34 #[.pointer (some ⟨g, 0, none⟩)] wr (NextOut s i (posI s i) g wr)) :
    Calls Try.prog 34 #[.pointer (some ⟨g, 0, none⟩)] wr fun e w' =>
      e = .returned (.tuple #[.agg #[.int .i64 0, .string (tkAt s (sk s i)).text, .int .i64 (tkAt s (sk s i)).line, .int .i64 (tkAt s (sk s i)).col], .agg #[.int .i64 0, .int .i64 0, .int .i64 0, .string ⟨#[]⟩]]) ∧ But wr.heap.size g wr w' := by
  refine h.mono ?_
  rintro e w' ⟨code, hcode, rfl, hS, hb⟩
  rw [hc] at hcode
  subst hcode
  exact ⟨by rw [posI_adv s hJ]; simp [zi, zs, zn, tkAt, hk], hb⟩
theorem oneF_ge (s : ByteArray) (j : Nat) : j ≤ oneF s j := oneF_le
theorem hn_bad {s : ByteArray} {i g : Nat} {wr : World} (hJ : i ≤ sk s i) (hc : oneC s (sk s i) ≠ 0) (h : Calls Try.prog 34 #[.pointer (some ⟨g, 0, none⟩)] wr (NextOut s i (posI s i) g wr)) :
    Calls Try.prog 34 #[.pointer (some ⟨g, 0, none⟩)] wr fun e w' =>
      e = .returned (.tuple #[.agg #[.int .i64 0, .string ⟨#[]⟩, .int .i64 0, .int .i64 0], .agg #[.int .i64 (oneC s (sk s i)), .int .i64 (posI s (oneF s (sk s i))).1, .int .i64 (posI s (oneF s (sk s i))).2, .string ⟨#[]⟩]]) ∧ But wr.heap.size g wr w' := by
  refine h.mono ?_
  rintro e w' ⟨code, hcode, rfl, hS, hb⟩
  subst hcode
  refine ⟨?_, hb⟩
  have hF : i ≤ oneF s (sk s i) := Nat.le_trans hJ (oneF_ge s (sk s i))
  rw [posI_adv s hF]
  simp [zi, zs, zn, hc]
set_option maxRecDepth 100000 in
set_option maxHeartbeats 4000000 in
theorem scan_c (s : ByteArray) (w : World) (hm : s.size ≤ 65536) :
    Calls Try.prog 14 #[.string s] w (ScanOut s w) := by
  have hz : (s.size : Int) ≤ 65536 := by omega
  obtain ⟨i0, hinf, hz0, hz1, hz2⟩ := info_parts Try.infoTok
  obtain ⟨RES, hRES⟩ : ∃ r, scF s (s.size + 1) 0 [] = r := ⟨_, rfl⟩
  have HR := Lib.hid hRES
  clear hRES
  go_enter Try.func14, Try.ntmps14
  go_wp2_with fail
  have F : Blk (w.alloc (.cells #[.int .i64 0, .int .i64 0, .int .i64 0, .string { data := #[] }] 28)) w.heap.size _ _ := Blk.new w _ _
  have hb : Below w.heap.size w (w.alloc (.cells #[.int .i64 0, .int .i64 0, .int .i64 0, .string { data := #[] }] 28)) := (Below.refl _ _).alloc (Nat.le_refl _) _
  generalize w.alloc (.cells #[.int .i64 0, .int .i64 0, .int .i64 0, .string { data := #[] }] 28) = W at *
  have hF := F.lt
  go_wp2_with (go_at_call 33; refine (firstPos_c _).mono ?_; rintro e w2 ⟨rfl, hb2⟩)
  have S2 : Scn (w2.alloc (.cells #[.string s, .int .i64 0, .int .i64 1, .int .i64 1] 49)) w2.heap.size s 0 1 1 := Blk.new w2 _ _
  have F2 := (F.keep hb2).alloc (.cells #[.string s, .int .i64 0, .int .i64 1, .int .i64 1] 49)
  have hs2 := hb2.size
  have hb3 := (hb.trans (hb2.mono (by omega))).alloc (by omega) (.cells #[.string s, .int .i64 0, .int .i64 1, .int .i64 1] 49)
  obtain ⟨g, hg⟩ : ∃ g, w2.heap.size = g := ⟨_, rfl⟩
  rw [hg] at S2 hs2
  rw [hg]
  generalize w2.alloc (.cells #[.string s, .int .i64 0, .int .i64 1, .int .i64 1] 49) = W2 at *
  clear hb2 hb F hg w2
  have hgw : w.heap.size < g := by omega
  clear hF hs2
  go_loopw [5] (fun v wr => ∃ (i n : Nat) (l : List Tk) (vv : Value), vv = v ∧ i ≤ s.size ∧ l.length ≤ i ∧ s.size < i + n ∧ OwnT wr (g + 1) vv l ∧ Scn wr g s i (posI s i).1 (posI s i).2 ∧ scF s n i l = RES ∧ Blk wr w.heap.size 28 #[.int .i64 0, .int .i64 0, .int .i64 0, .string { data := #[] }] ∧ Below w.heap.size w wr)
    (fun _ wr => s.size - atOf g wr)
  case atStart => exact ⟨0, s.size + 1, [], _, rfl, Nat.zero_le _, Nat.zero_le _, by omega, World.ownsRow_nil _ _ _ _, S2, HR.out, F2, hb3⟩
  case round =>
    obtain ⟨i, n, l, v, rfl, hi, hlen, hn, hown, hS, hres, hF, hb⟩ := hrel
    obtain ⟨n, rfl⟩ : ∃ m, n = m + 1 := ⟨n - 1, by omega⟩
    have hJ := sk_le hi
    have hpb := posI_bd s i
    have hNx := next_c s i g (posI s i) wr hS hi (by omega) hpb.1 (by omega) hpb.2.2.1 (by omega)
    have hHF := hF.lt
    have hHS := hS.lt
    by_cases hc : oneC s (sk s i) = 0
    · by_cases hk : oneK s (sk s i) = 0
      · have hres' := (scF_end hc hk).symm.trans hres
        have HN := hn_end hc hJ.1 hk hNx
        obtain ⟨⟨K, T, L, C⟩, htk⟩ : ∃ t, tkAt s (sk s i) = t := ⟨_, rfl⟩
        have hK0 : K = 0 := (congrArg Tk.kind htk).symm.trans hk
        subst hK0
        rw [htk] at HN hres'
        have HQ := Lib.hid hres'
        have HNN := Lib.hid HN
        clear hNx hres hres' HN htk hc hk
        go_wp2_with (first
          | (go_at_call 34; refine HNN.out.mono ?_; rintro e w1 ⟨rfl, hb1⟩)
          | (at_builtin; refine wpList_append_own _ rfl _ _ 23 rfl (g + 1) 34 i0 (.agg #[.int .i64 0, .string ⟨#[]⟩, .int .i64 0, .int .i64 0]) 4 40 Try.underlying23 hinf hz0 hz1 hz2 rfl (by decide) v l.length (l.flatMap Tk.cells) rfl ?c0 ⟨_, 0, none⟩ 1 1 [.int .i64 0, .string T, .int .i64 L, .int .i64 C] rfl rfl ?c1 ?c2 ?c3 ?c4 ?c5 ?_))
        case c0 => exact ((World.ownsRow.alloc (OwnT.but hown hb1 (Nat.lt_succ_self g)) _).alloc _).alloc _
        case c1 => exact four_new (by simp)
        case c2 => intro u hu; simp at hu; rcases hu with rfl | rfl | rfl | rfl <;> rfl
        case c3 => unfold maxLen; omega
        case c4 => omega
        case c5 => have := hb1.size; simp; omega
        · intro v' w3 hown2 hgrow _
          have hs1 := hb1.size
          have hlo : ∀ k, v.ownBlock = some k → g + 1 ≤ k ∧ k < wr.heap.size := fun k h => World.ownsRow.lt hown k h
          have R : OwnT w3 (g + 1) v' (l ++ [⟨0, T, L, C⟩]) := by
            unfold OwnT
            simpa [Tk.cells] using hown2
          have F3 := Blk.grown hgrow ((((hb1.blk hF hHF (by omega)).alloc _).alloc _).alloc _) (fun e => by have := hlo _ e; omega)
          have T3 := Blk.grown hgrow (((Blk.new w1 _ #[.int .i64 0, .string T, .int .i64 L, .int .i64 C]).alloc _).alloc _) (fun e => by have := hlo _ e; omega)
          have B3 : Below w.heap.size w w3 := ((((hb.trans ((hb1.mono hb.size).to_below (by omega))).alloc (by omega) _).alloc (by simp; omega) _).alloc (by simp; omega) _).grown hgrow (by simp; omega) (fun k e => by have := hlo _ e; omega)
          clear hown2 hgrow hown hlo
          obtain ⟨k0, k1, k2, k3, _⟩ := cells4 T3
          obtain ⟨f0, f1, f2, f3, _⟩ := cells4 F3
          go_wp2
          have F4 := set4 F3 (.int .i64 0) (.int .i64 0) (.int .i64 0) (.string { data := #[] })
          refine bodyPost_ret (mix_ret Try.results14 rfl rfl F4) rfl ⟨v', ?_, ?_, ?_⟩
          · rw [HR.out, ← HQ.out]
            exact (R.set (by omega) 0 _).set (by omega) 1 _ |>.set (by omega) 2 _ |>.set (by omega) 3 _ |>.mono (by omega)
          · rw [HR.out, ← HQ.out]; rfl
          · exact (((B3.setCell (Nat.le_refl _) _).setCell (Nat.le_refl _) _).setCell (Nat.le_refl _) _).setCell (Nat.le_refl _) _
      · have hE := oneE_lt hc hk
        have hres' := (scF_go hc hk).symm.trans hres
        have HN := hn_ok hc hJ.1 (by omega) hNx
        obtain ⟨⟨K, T, L, C⟩, htk⟩ : ∃ t, tkAt s (sk s i) = t := ⟨_, rfl⟩
        rw [htk] at HN hres'
        have q : ((K : Int) == 0) = false := by
          have e : K = oneK s (sk s i) := (congrArg Tk.kind htk).symm
          simp; omega
        obtain ⟨E, hEE⟩ : ∃ E, oneE s (sk s i) = E := ⟨_, rfl⟩
        rw [hEE] at HN hE hres'
        have HQ := Lib.hid hres'
        have HNN := Lib.hid HN
        clear hNx hres hres' HN htk hEE hc hk
        go_wp2_with (first
          | (go_at_call 34; refine HNN.out.mono ?_; rintro e w1 ⟨rfl, hS1, hb1⟩)
          | (at_builtin; refine wpList_append_own _ rfl _ _ 23 rfl (g + 1) 34 i0 (.agg #[.int .i64 0, .string ⟨#[]⟩, .int .i64 0, .int .i64 0]) 4 40 Try.underlying23 hinf hz0 hz1 hz2 rfl (by decide) v l.length (l.flatMap Tk.cells) rfl ?c0 ⟨_, 0, none⟩ 1 1 [.int .i64 (K : Int), .string T, .int .i64 L, .int .i64 C] rfl rfl ?c1 ?c2 ?c3 ?c4 ?c5 ?_))
        case c0 => exact ((World.ownsRow.alloc (OwnT.but hown hb1 (Nat.lt_succ_self g)) _).alloc _).alloc _
        case c1 => exact four_new (by simp)
        case c2 => intro u hu; simp at hu; rcases hu with rfl | rfl | rfl | rfl <;> rfl
        case c3 => unfold maxLen; omega
        case c4 => omega
        case c5 => have := hb1.size; simp; omega
        · intro v' w3 hown2 hgrow _
          have hs1 := hb1.size
          have hlo : ∀ k, v.ownBlock = some k → g + 1 ≤ k ∧ k < wr.heap.size := fun k h => World.ownsRow.lt hown k h
          have R : OwnT w3 (g + 1) v' (l ++ [⟨K, T, L, C⟩]) := by
            unfold OwnT
            simpa [Tk.cells] using hown2
          have S3 := Blk.grown hgrow (((hS1.alloc _).alloc _).alloc _) (fun e => by have := hlo _ e; omega)
          have F3 := Blk.grown hgrow ((((hb1.blk hF hHF (by omega)).alloc _).alloc _).alloc _) (fun e => by have := hlo _ e; omega)
          have T3 := Blk.grown hgrow (((Blk.new w1 _ #[.int .i64 (K : Int), .string T, .int .i64 L, .int .i64 C]).alloc _).alloc _) (fun e => by have := hlo _ e; omega)
          have B3 : Below w.heap.size w w3 := ((((hb.trans ((hb1.mono hb.size).to_below (by omega))).alloc (by omega) _).alloc (by simp; omega) _).alloc (by simp; omega) _).grown hgrow (by simp; omega) (fun k e => by have := hlo _ e; omega)
          clear hown2 hgrow hown hlo
          obtain ⟨k0, k1, k2, k3, _⟩ := cells4 T3
          go_wp2
          go_roundw
          case rel => exact ⟨E, n, _, _, rfl, hE.2, by simp; omega, by omega, R, S3, HQ.out, F3, B3⟩
          case measure => rw [atOf_scn S3, atOf_scn hS]; omega
    · have hres' := (scF_bad hc).symm.trans hres
      have HN := hn_bad hJ.1 hc hNx
      obtain ⟨code, hcode⟩ : ∃ c, oneC s (sk s i) = c := ⟨_, rfl⟩
      rw [hcode] at hc hres' HN
      have q : (code == 0) = false := by simpa using hc
      have HQ := Lib.hid hres'
      have HNN := Lib.hid HN
      clear hNx hres hres' HN hcode hc
      go_wp2_with (go_at_call 34; refine HNN.out.mono ?_; rintro e w1 ⟨rfl, hb1⟩)
      have hs1 := hb1.size
      have F3 := ((hb1.blk hF hHF (by omega)).alloc (.cells #[.int .i64 0, .string { data := #[] }, .int .i64 0, .int .i64 0] 34)).alloc (.cells #[.int .i64 code, .int .i64 (posI s (oneF s (sk s i))).1, .int .i64 (posI s (oneF s (sk s i))).2, .string { data := #[] }] 28)
      have B3 : Below w.heap.size w _ := (((hb.trans ((hb1.mono hb.size).to_below (by omega))).alloc (by omega) (.cells #[.int .i64 0, .string { data := #[] }, .int .i64 0, .int .i64 0] 34)).alloc (by simp; omega) (.cells #[.int .i64 code, .int .i64 (posI s (oneF s (sk s i))).1, .int .i64 (posI s (oneF s (sk s i))).2, .string { data := #[] }] 28))
      obtain ⟨f0, f1, f2, f3, _⟩ := cells4 F3
      go_region
      go_wp2
      have F4 := set4 F3 (.int .i64 code) (.int .i64 (posI s (oneF s (sk s i))).1) (.int .i64 (posI s (oneF s (sk s i))).2) (.string { data := #[] })
      refine bodyPost_ret (mix_ret Try.results14 rfl rfl (blk_drew F4)) rfl ⟨.slice none 0 0, ?_, ?_, ?_⟩
      · rw [HR.out, ← HQ.out]
        exact World.ownsRow_nil _ _ _ _
      · rw [HR.out, ← HQ.out]; rfl
      · exact ((((B3.setCell (Nat.le_refl _) _).setCell (Nat.le_refl _) _).setCell (Nat.le_refl _) _).setCell (Nat.le_refl _) _).drew
end Go.Proofs.Ythjfedkginjbeaa
