/- The scanner of package token: next, walked. -/
import Derived.Test.YtffgjamnijhlpaaTsi
namespace Go.Proofs.Ytffgjamnijhlpaa
open Go.RowKit
theorem jumps_ret {J : Nat → Act → World → Prop} {Q : Exit → Act → World → Prop} {a : Act} {w : World} (h : Q .ret a w) : Jumps J Q .ret a w := h
theorem jumps_goto {J : Nat → Act → World → Prop} {Q : Exit → Act → World → Prop} {a : Act} {w : World} {l : Nat} (h : J l a w) : Jumps J Q (.goto l) a w := h
theorem next_fin {s : ByteArray} {i sb : Nat} {p : Int × Int} {w w' : World} {J E K : Nat} {code : Int} {tx : ByteArray} (hJ : sk s i = J) (hK : oneK s J = K) (hE : oneE s J = E) (hC : oneC s J = code) (hF : oneF s J = J) (ht : ttext K s J E = tx)
    (hS : Scn w' sb s E (adv s i p (E - i)).1 (adv s i p (E - i)).2) (hb : But w.heap.size sb w w') :
    NextOut s i p sb w (.returned (.tuple #[.agg #[.int .i64 (zi code K), .string (zs code tx), .int .i64 (zi code (adv s i p (J - i)).1), .int .i64 (zi code (adv s i p (J - i)).2)], .agg #[.int .i64 code, .int .i64 (zn code (adv s i p (J - i)).1), .int .i64 (zn code (adv s i p (J - i)).2), .string ⟨#[]⟩]])) w' := by
  subst hJ hK hE hC ht
  exact ⟨_, rfl, by rw [hF], fun _ => hS, hb⟩
/-- a return behind a token: the results lie in their blocks -/
theorem next_end {s : ByteArray} {i sb : Nat} {p : Int × Int} {w w9 : World} {J E K : Nat} {code : Int} {tx : ByteArray} (hJ : sk s i = J) (hK : oneK s J = K) (hE : oneE s J = E) (hC : oneC s J = code) (hF : oneF s J = J) (ht : ttext K s J E = tx)
    (hs : sb < w.heap.size) (hS : Scn w9 sb s E (adv s i p (E - i)).1 (adv s i p (E - i)).2) (hb : But w.heap.size sb w w9) {x0 x1 x2 x3 y0 y1 y2 y3 : Value} (h1 : Blk w9 w.heap.size 82 #[x0, x1, x2, x3]) (h2 : Blk w9 (w.heap.size + 1) 88 #[y0, y1, y2, y3])
    {tmps : Array Value} (t2 : tmps.getD 2 undef = .pointer (some ⟨w.heap.size, 0, none⟩)) (t3 : tmps.getD 3 undef = .pointer (some ⟨w.heap.size + 1, 0, none⟩)) {J' : Nat → Act → World → Prop} {k : Int} (hk : k = (K : Int)) :
    Jumps J' (bodyPost Try.prog Try.f46 (NextOut s i p sb w)) .ret { tmps := tmps, defers := [] }
      ((((((((w9.setCell ⟨w.heap.size, 0, none⟩ (.int .i64 (zi code k))).setCell ⟨w.heap.size, 1, none⟩ (.string (zs code tx))).setCell ⟨w.heap.size, 2, none⟩ (.int .i64 (zi code (adv s i p (J - i)).1))).setCell ⟨w.heap.size, 3, none⟩ (.int .i64 (zi code (adv s i p (J - i)).2))).setCell
        ⟨w.heap.size + 1, 0, none⟩ (.int .i64 code)).setCell ⟨w.heap.size + 1, 1, none⟩ (.int .i64 (zn code (adv s i p (J - i)).1))).setCell ⟨w.heap.size + 1, 2, none⟩ (.int .i64 (zn code (adv s i p (J - i)).2))).setCell ⟨w.heap.size + 1, 3, none⟩ (.string ⟨#[]⟩)) := by
  subst hk
  have q := set44_blk (W := w9) h1 h2 (by omega) (.int .i64 (zi code (K : Int))) (.string (zs code tx)) (.int .i64 (zi code (adv s i p (J - i)).1)) (.int .i64 (zi code (adv s i p (J - i)).2)) (.int .i64 code) (.int .i64 (zn code (adv s i p (J - i)).1)) (.int .i64 (zn code (adv s i p (J - i)).2)) (.string ⟨#[]⟩)
  have r := set44_but hb (g := w.heap.size) (g' := w.heap.size + 1) (by omega) (by omega) (.int .i64 (zi code (K : Int))) (.string (zs code tx)) (.int .i64 (zi code (adv s i p (J - i)).1)) (.int .i64 (zi code (adv s i p (J - i)).2)) (.int .i64 code) (.int .i64 (zn code (adv s i p (J - i)).1)) (.int .i64 (zn code (adv s i p (J - i)).2)) (.string ⟨#[]⟩)
  have v := set44_far hS (g := w.heap.size) (g' := w.heap.size + 1) (by omega) (by omega) (.int .i64 (zi code (K : Int))) (.string (zs code tx)) (.int .i64 (zi code (adv s i p (J - i)).1)) (.int .i64 (zi code (adv s i p (J - i)).2)) (.int .i64 code) (.int .i64 (zn code (adv s i p (J - i)).1)) (.int .i64 (zn code (adv s i p (J - i)).2)) (.string ⟨#[]⟩)
  unfold set44 at q r v
  exact jumps_ret (bodyPost_ret (v := .tuple #[.agg #[.int .i64 (zi code (K : Int)), .string (zs code tx), .int .i64 (zi code (adv s i p (J - i)).1), .int .i64 (zi code (adv s i p (J - i)).2)], .agg #[.int .i64 code, .int .i64 (zn code (adv s i p (J - i)).1), .int .i64 (zn code (adv s i p (J - i)).2), .string ⟨#[]⟩]]) (two_ret Try.results46 t2 t3 q.1 q.2) rfl (next_fin hJ hK hE hC hF ht v r))
theorem lit112 (u : Nat → Value) : Array.ofFn (n := 112) (fun k => u k.val) = #[u 0, u 1, u 2, u 3, u 4, u 5, u 6, u 7, u 8, u 9, u 10, u 11, u 12, u 13, u 14, u 15, u 16, u 17, u 18, u 19, u 20, u 21, u 22, u 23, u 24, u 25, u 26, u 27, u 28, u 29, u 30, u 31, u 32, u 33, u 34, u 35, u 36, u 37, u 38, u 39, u 40, u 41, u 42, u 43, u 44, u 45, u 46, u 47, u 48, u 49, u 50, u 51, u 52, u 53, u 54, u 55, u 56, u 57, u 58, u 59, u 60, u 61, u 62, u 63, u 64, u 65, u 66, u 67, u 68, u 69, u 70, u 71, u 72, u 73, u 74, u 75, u 76, u 77, u 78, u 79, u 80, u 81, u 82, u 83, u 84, u 85, u 86, u 87, u 88, u 89, u 90, u 91, u 92, u 93, u 94, u 95, u 96, u 97, u 98, u 99, u 100, u 101, u 102, u 103, u 104, u 105, u 106, u 107, u 108, u 109, u 110, u 111] := by kernel_rfl
theorem nxF_of {sb g : Nat} {tmps : Array Value} (hs : tmps.size = 112) (h0 : tmps.getD 0 undef = .pointer (some ⟨sb, 0, none⟩)) (h2 : tmps.getD 2 undef = .pointer (some ⟨g, 0, none⟩)) (h3 : tmps.getD 3 undef = .pointer (some ⟨g + 1, 0, none⟩)) (h4 : tmps.getD 4 undef = .pointer (some ⟨g + 1 + 1, 0, none⟩)) :
    NxF sb g { tmps := tmps, defers := [] } := by
  refine ⟨fun k => tmps.getD k undef, ?_⟩
  have e : tmps = Array.ofFn (n := 112) (fun k => tmps.getD k.val undef) := by
    apply Array.ext
    · simp [hs]
    · intro k h1 h2
      simp [h1]
  have e2 := e.trans (lit112 fun k => tmps.getD k undef)
  rw [h0, h2, h3, h4] at e2
  rw [← e2]
theorem neq_of {c d : Int} (h : ¬ c = d) : (c == d) = false := by simpa using h
theorem m0_lt {s : ByteArray} {sb j m : Nat} {w : World} (h : atOf sb w = j) (h2 : 3 * (s.size - j) + 2 < m) : NxM s sb 0 w < m := by
  simp only [NxM, h]
  split <;> omega
theorem m1_lt {s : ByteArray} {sb j m : Nat} {w : World} (h : atOf sb w = j) (h2 : 3 * (s.size - j) + 1 < m) : NxM s sb 1 w < m := by
  simp only [NxM, h]
  exact h2
theorem m2_lt {s : ByteArray} {sb j m : Nat} {w : World} (h : atOf sb w = j) (h2 : s.size - j < m) : NxM s sb 2 w < m ∧ NxM s sb 3 w < m ∧ NxM s sb 4 w < m := by
  simp only [NxM, h]
  exact ⟨h2, h2, h2⟩
theorem m0n_lt {s : ByteArray} {sb j m : Nat} {w : World} (h : atOf sb w = j) (hn : chI s j ≠ 35) (h2 : 3 * (s.size - j) < m) : NxM s sb 0 w < m := by
  simp only [NxM, h, if_neg hn]
  omega
theorem adv_comp (s : ByteArray) (i m j : Nat) (p : Int × Int) (hj : i ≤ j) (hm : m = j - i) : ∀ n : Nat, adv s j (adv s i p m) n = adv s i p (j + n - i)
  | 0 => by rw [hm]; rfl
  | n + 1 => by
    have ih := adv_comp s i m j p hj hm n
    rw [show j + (n + 1) - i = (j + n - i) + 1 by omega, adv, adv, ih, show i + (j + n - i) = j + n by omega]
theorem let_ne {c : Int} (h : chLet c = true) : c ≠ -1 ∧ c ≠ 34 := by
  unfold chLet at h
  have := of_decide_eq_true h
  omega
theorem dig_ne {c : Int} (h : chDig c = true) : c ≠ -1 ∧ c ≠ 34 ∧ chLet c = false := by
  unfold chDig at h
  have := of_decide_eq_true h
  exact ⟨by omega, by omega, decide_eq_false (by omega)⟩
theorem one_mark {s : ByteArray} {j n : Nat} {code : Int} (h1 : chI s j ≠ -1) (hl : chLet (chI s j) = false) (hd : chDig (chI s j) = false) (h6 : chI s j ≠ 34) (hn : n = mkN (chI s j) (chI s (j + 1))) (hc : code = terr 4 (s.extract j (j + n))) :
    oneK s j = 4 ∧ oneE s j = j + n ∧ oneC s j = code ∧ oneF s j = j := by
  have hK : oneK s j = 4 := by simp [oneK, h1, hl, hd, h6]
  have hE : oneE s j = j + n := by simp [oneE, h1, hl, hd, h6, hn]
  refine ⟨hK, hE, ?_, by simp [oneF, h6]⟩
  simp [oneC, h6, hK, hE, hc, ttext]
theorem one_name {s : ByteArray} {j e : Nat} (h : chLet (chI s j) = true) (he : run wordC s j = e) : oneK s j = 1 ∧ oneE s j = e ∧ oneC s j = terr 1 (ttext 1 s j e) ∧ oneF s j = j := by
  have hn := let_ne h
  have hK : oneK s j = 1 := by simp [oneK, hn.1, h]
  have hE : oneE s j = e := by simp [oneE, hn.1, h, he]
  refine ⟨hK, hE, ?_, by simp [oneF, hn.2]⟩
  simp [oneC, hn.2, hK, hE]
theorem one_number {s : ByteArray} {j e : Nat} (h : chDig (chI s j) = true) (he : run chDig s j = e) : oneK s j = 2 ∧ oneE s j = e ∧ oneC s j = terr 2 (ttext 2 s j e) ∧ oneF s j = j := by
  have hn := dig_ne h
  have hK : oneK s j = 2 := by simp [oneK, hn.1, hn.2.2, h]
  have hE : oneE s j = e := by simp [oneE, hn.1, hn.2.2, h, he]
  refine ⟨hK, hE, ?_, by simp [oneF, hn.2.1]⟩
  simp [oneC, hn.2.1, hK, hE]
theorem one_quoted {s : ByteArray} {j e : Nat} (h : chI s j = 34) (he : run quoC s (j + 1) = e) :
    (chI s e = 34 → oneK s j = 3 ∧ oneE s j = e + 1 ∧ oneC s j = terr 3 (ttext 3 s j (e + 1)) ∧ oneF s j = j) ∧ (chI s e = -1 → oneC s j = 5 ∧ oneF s j = j) ∧ (chI s e ≠ 34 → chI s e ≠ -1 → oneC s j = 9 ∧ oneF s j = e) := by
  have hK : oneK s j = 3 := by simp [oneK, h, show chLet 34 = false from rfl, show chDig 34 = false from rfl]
  have hE : oneE s j = e + 1 := by simp [oneE, h, show chLet 34 = false from rfl, show chDig 34 = false from rfl, he]
  refine ⟨fun q => ⟨hK, hE, ?_, ?_⟩, fun q => ⟨?_, ?_⟩, fun q r => ⟨?_, ?_⟩⟩
  · simp [oneC, h, he, q, hK, hE]
  · simp [oneF, h, he, q]
  · simp [oneC, h, he, q]
  · simp [oneF, h, he, q]
  · simp [oneC, h, he, q, r]
  · simp [oneF, h, he, q, r]
theorem blk_drew {w : World} {g : Nat} {t : TypeId} {cs : Array Value} (h : Blk w g t cs) : Blk w.drew g t cs := h
theorem next_err {s : ByteArray} {i sb : Nat} {p : Int × Int} {w w9 : World} {J F : Nat} {code : Int} (hJ : sk s i = J) (hC : oneC s J = code) (h0 : code ≠ 0) (hF : oneF s J = F)
    (hb : But w.heap.size sb w w9) {x0 x1 x2 x3 y0 y1 y2 y3 : Value} (h1 : Blk w9 w.heap.size 82 #[x0, x1, x2, x3]) (h2 : Blk w9 (w.heap.size + 1) 88 #[y0, y1, y2, y3])
    {tmps : Array Value} (t2 : tmps.getD 2 undef = .pointer (some ⟨w.heap.size, 0, none⟩)) (t3 : tmps.getD 3 undef = .pointer (some ⟨w.heap.size + 1, 0, none⟩)) {J' : Nat → Act → World → Prop} :
    Jumps J' (bodyPost Try.prog Try.f46 (NextOut s i p sb w)) .ret { tmps := tmps, defers := [] }
      ((((((((w9.setCell ⟨w.heap.size, 0, none⟩ (.int .i64 0)).setCell ⟨w.heap.size, 1, none⟩ (.string ⟨#[]⟩)).setCell ⟨w.heap.size, 2, none⟩ (.int .i64 0)).setCell ⟨w.heap.size, 3, none⟩ (.int .i64 0)).setCell
        ⟨w.heap.size + 1, 0, none⟩ (.int .i64 code)).setCell ⟨w.heap.size + 1, 1, none⟩ (.int .i64 (adv s i p (F - i)).1)).setCell ⟨w.heap.size + 1, 2, none⟩ (.int .i64 (adv s i p (F - i)).2)).setCell ⟨w.heap.size + 1, 3, none⟩ (.string ⟨#[]⟩)).drew := by
  have q := set44_blk (W := w9) h1 h2 (by omega) (.int .i64 0) (.string ⟨#[]⟩) (.int .i64 0) (.int .i64 0) (.int .i64 code) (.int .i64 (adv s i p (F - i)).1) (.int .i64 (adv s i p (F - i)).2) (.string ⟨#[]⟩)
  have r := set44_but hb (g := w.heap.size) (g' := w.heap.size + 1) (by omega) (by omega) (.int .i64 0) (.string ⟨#[]⟩) (.int .i64 0) (.int .i64 0) (.int .i64 code) (.int .i64 (adv s i p (F - i)).1) (.int .i64 (adv s i p (F - i)).2) (.string ⟨#[]⟩)
  unfold set44 at q r
  refine jumps_ret (bodyPost_ret (two_ret Try.results46 t2 t3 (blk_drew q.1) (blk_drew q.2)) rfl ⟨code, by rw [hJ, hC], ?_, fun e => absurd e h0, r.drew⟩)
  rw [hJ, hF]
  simp [zi, zs, zn, h0]
theorem next_new {w : World} {sb : Nat} {s : ByteArray} {i : Nat} {p : Int × Int} (hs : Scn w sb s i p.1 p.2) (hi : i ≤ s.size) :
    ∃ i1, NxW w sb s i p i1 (((w.alloc (.cells #[.int .i64 0, .string { data := #[] }, .int .i64 0, .int .i64 0] 82)).alloc (.cells #[.int .i64 0, .int .i64 0, .int .i64 0, .string { data := #[] }] 88)).alloc (.cells #[.string { data := #[] }, .int .i64 0, .int .i64 0, .int .i64 0] 86)) ∧ BegAny w (((w.alloc (.cells #[.int .i64 0, .string { data := #[] }, .int .i64 0, .int .i64 0] 82)).alloc (.cells #[.int .i64 0, .int .i64 0, .int .i64 0, .string { data := #[] }] 88)).alloc (.cells #[.string { data := #[] }, .int .i64 0, .int .i64 0, .int .i64 0] 86)) ∧ sk s i1 = sk s i :=
  ⟨i, ⟨Nat.le_refl _, hi, by rw [Nat.sub_self]; exact Blk.alloc (Blk.alloc (Blk.alloc hs _) _) _, (Blk.here rfl).alloc _ |>.alloc _, (Blk.here (by simp)).alloc _,
    ((But.refl.alloc (Nat.le_refl _) _).alloc (by simp) _).alloc (by simp; omega) _⟩, ⟨_, _, _, _, Blk.here (by simp)⟩, rfl⟩
set_option maxRecDepth 100000 in
set_option maxHeartbeats 8000000 in
theorem next_c (s : ByteArray) (i sb : Nat) (p : Int × Int) (w : World) (hs : Scn w sb s i p.1 p.2) (hi : i ≤ s.size) (hm : s.size ≤ 9223372036854775807)
    (hp1 : 0 ≤ p.1) (hp2 : p.1 + (s.size : Int) - (i : Int) ≤ 9223372036854775807) (hp3 : 0 ≤ p.2) (hp4 : p.2 + (s.size : Int) - (i : Int) ≤ 9223372036854775807) :
    Calls Try.prog 46 #[.pointer (some ⟨sb, 0, none⟩)] w (NextOut s i p sb w) := by
  have hsb := hs.lt
  have HA : Hid (∀ n, 0 ≤ (adv s i p n).1 ∧ (adv s i p n).1 ≤ p.1 + n ∧ 0 ≤ (adv s i p n).2 ∧ (adv s i p n).2 ≤ p.2 + n) := fun n => adv_bd s i p hp1 hp3 n
  go_enter Try.func46, Try.ntmps46
  go_wp2_with fail
  refine wp_scope_labels (NxJ w sb s i p) (fun l _ w' => NxM s sb l w') ?_ ?_
  · refine wp_seq_k fun K0 hK0 => ?_
    go_wp2_with fail
    rename_i K1 hK1
    go_step3
    refine hK1 _ _ ?_
    clear hK1
    obtain ⟨i1, hW, hB, hsk⟩ := next_new hs hi
    generalize ((w.alloc (.cells #[.int .i64 0, .string { data := #[] }, .int .i64 0, .int .i64 0] 82)).alloc (.cells #[.int .i64 0, .int .i64 0, .int .i64 0, .string { data := #[] }] 88)).alloc (.cells #[.string { data := #[] }, .int .i64 0, .int .i64 0, .int .i64 0] 86) = w0 at *
    obtain ⟨c0, c1, c2, c3, _⟩ := hW.scn.facts
    obtain ⟨hW2, hBeg⟩ := hW.setBeg hsb hB rfl rfl rfl rfl
    obtain ⟨b0, b1, b2, b3, hBB⟩ := hB
    obtain ⟨d0, d1, d2, d3, e0, e1, e2, e3⟩ := cells4 hBB
    have HK := Lib.hid hsk
    clear hsk hBB
    go_wp2_with fail
    refine (peek_c s i1 sb _ _ _ hW2.scn hW2.hi hm).mono ?_
    rintro e w1 ⟨rfl, n1, rfl⟩
    have hW3 := hW2.drewN n1
    have hB3 : Beg w s i p i1 (((((w0.setCell ⟨w.heap.size + 1 + 1, 0, none⟩ (.string s)).setCell ⟨w.heap.size + 1 + 1, 1, none⟩ (.int .i64 (i1 : Int))).setCell ⟨w.heap.size + 1 + 1, 2, none⟩ (.int .i64 (adv s i p (i1 - i)).1)).setCell ⟨w.heap.size + 1 + 1, 3, none⟩ (.int .i64 (adv s i p (i1 - i)).2)).drewN n1) := hBeg
    have hM : NxM s sb 0 w0 = 3 * (s.size - i1) + (if chI s i1 = 35 then 2 else 0) := by simp only [NxM, hW.at']
    generalize ((((w0.setCell ⟨w.heap.size + 1 + 1, 0, none⟩ (.string s)).setCell ⟨w.heap.size + 1 + 1, 1, none⟩ (.int .i64 (i1 : Int))).setCell ⟨w.heap.size + 1 + 1, 2, none⟩ (.int .i64 (adv s i p (i1 - i)).1)).setCell ⟨w.heap.size + 1 + 1, 3, none⟩ (.int .i64 (adv s i p (i1 - i)).2)).drewN n1 = wx at *
    clear hW2 hBeg hW c0 c1 c2 c3 d0 d1 d2 d3 e0 e1 e2 e3
    have HM := Lib.hid hM
    clear hM
    have hlo := hW3.lo
    have hhi := hW3.hi
    obtain ⟨c, hc⟩ : ∃ c, chI s i1 = c := ⟨_, rfl⟩
    rw [hc]
    by_cases h1 : c = -1
    · subst h1
      have hst : sk s i1 = i1 := sk_stop (by rw [hc]; decide) (by rw [hc]; decide)
      have hJe : sk s i = i1 := HK.out.symm.trans hst
      have HJe := Lib.hid hJe
      have hK1 : oneK s i1 = 0 := by simp [oneK, hc]
      have hE1 : oneE s i1 = i1 := by simp [oneE, hc]
      have hF1 : oneF s i1 = i1 := by simp [oneF, hc]
      have hC1 : oneC s i1 = terr 0 (ttext 0 s i1 i1) := by simp [oneC, hc, hK1, hE1]
      have HH := Lib.hid (show oneK s i1 = 0 ∧ oneE s i1 = i1 ∧ oneF s i1 = i1 ∧ oneC s i1 = terr 0 (ttext 0 s i1 i1) from ⟨hK1, hE1, hF1, hC1⟩)
      have HCh := Lib.hid hc
      clear hst hJe hK1 hE1 hF1 hC1 hc
      obtain ⟨tx, htx⟩ : ∃ t, ttext 0 s i1 i1 = t := ⟨_, rfl⟩
      obtain ⟨code, hcode⟩ : ∃ x, terr 0 tx = x := ⟨_, rfl⟩
      have HX := Lib.hid htx
      have HCo := Lib.hid hcode
      clear htx hcode
      obtain ⟨x0, x1, x2, x3, _⟩ := cells4 hB3
      go_wp2_with fail
      refine (tok_c 0 (by omega) s i1 i1 sb _ _ _ _ _ hW3.scn (Nat.le_refl _) hW3.hi hm (by omega) code tx HX.out HCo.out).mono ?_
      rintro e w9 ⟨rfl, hb9⟩
      have E1 := hW3.tok.keep hb9
      have E2 := hW3.flt.keep hb9
      obtain ⟨y0, y1, y2, y3, f0, f1, f2, f3⟩ := cells4 E1
      obtain ⟨z0, z1, z2, z3, g0, g1, g2, g3⟩ := cells4 E2
      have hS9 := hW3.scn.keep hb9
      have hB9 := hW3.but.below (hb9.mono hW3.but.size)
      go_wp2
      with_reducible exact next_end HJe.out HH.out.1 HH.out.2.1 (HH.out.2.2.2.trans (by rw [HX.out]; exact HCo.out)) HH.out.2.2.1 HX.out hsb hS9 hB9 E1 E2 rfl rfl rfl
    · have hlt : i1 < s.size := ch_in (by rw [hc]; exact h1)
      have q1 := neq_of h1
      have HCh := Lib.hid hc
      clear hc h1
      have hBA : BegAny w _ := ⟨_, _, _, _, hB3⟩
      by_cases hb : chBlk c = true
      · have HB := Lib.hid hb
        clear hb
        go_wp2_with (first | (go_at_call 56; refine (isBlank_c _ _).mono ?_; rintro e w2 ⟨rfl, rfl⟩; rw [HB.out]))
        refine (step_c s i1 sb _ _ _ hW3.scn (by omega) hm (HA.out _).1 (by have := HA.out (i1 - i); omega) (HA.out _).2.2.1 (by have := HA.out (i1 - i); omega)).mono ?_
        rintro e w2 ⟨rfl, hS2, hb2⟩
        have hW2 := hW3.step hsb (by omega) hS2 hb2
        go_wp2_with fail
        go_step3
        have hsk : sk s (i1 + 1) = sk s i := (sk_blank (by rw [HCh.out]; exact HB.out)).symm.trans HK.out
    
        change _ ∧ _
        exact ⟨(nxF_of rfl rfl rfl rfl rfl), i1 + 1, hW2, hBA.step hsb hb2, hsk⟩
      · have HB : Hid (chBlk c = false) := by cases e : chBlk c with
          | true => exact absurd e hb
          | false => exact rfl
        clear hb
        by_cases h3 : c = 35
        · subst h3
          go_wp2_with (first | (go_at_call 56; refine (isBlank_c _ _).mono ?_; rintro e w2 ⟨rfl, rfl⟩; rw [HB.out]))
          go_step3
          have hsk : sk s (run lineC s i1) = sk s i := (sk_hash HCh.out).symm.trans HK.out
          change _ ∧ _
          exact ⟨(nxF_of rfl rfl rfl rfl rfl), i1, hW3, ⟨_, _, _, _, hB3⟩, hsk⟩
        · have q3 := neq_of h3
          have hst : sk s i = i1 := HK.out.symm.trans (sk_stop (by rw [HCh.out]; exact HB.out) (by rw [HCh.out]; exact h3))
          have HJe := Lib.hid hst
          clear hst h3
          have hB4 : Beg w s i p (sk s i) wx := by rw [HJe.out]; exact hB3
          by_cases hl : chLet c = true
          · have HL := Lib.hid hl
            clear hl
            go_wp2_with (first | (go_at_call 56; refine (isBlank_c _ _).mono ?_; rintro e w2 ⟨rfl, rfl⟩; rw [HB.out]) | (go_at_call 58; refine (isLetter_c _ _).mono ?_; rintro e w2 ⟨rfl, rfl⟩; rw [HL.out]))
            go_step3
            change _ ∧ _
            exact ⟨(nxF_of rfl rfl rfl rfl rfl), i1, hW3, hB4, by rw [HJe.out]; exact Nat.le_refl _, by rw [HJe.out], by rw [HJe.out, HCh.out]; exact HL.out⟩
          · have HL : Hid (chLet c = false) := by cases e : chLet c with
              | true => exact absurd e hl
              | false => exact rfl
            clear hl
            by_cases hd : chDig c = true
            · have HD := Lib.hid hd
              clear hd
              go_wp2_with (first | (go_at_call 56; refine (isBlank_c _ _).mono ?_; rintro e w2 ⟨rfl, rfl⟩; rw [HB.out]) | (go_at_call 58; refine (isLetter_c _ _).mono ?_; rintro e w2 ⟨rfl, rfl⟩; rw [HL.out]) | (go_at_call 59; refine (isDigit_c _ _).mono ?_; rintro e w2 ⟨rfl, rfl⟩; rw [HD.out]))
              go_step3
              change _ ∧ _
              exact ⟨(nxF_of rfl rfl rfl rfl rfl), i1, hW3, hB4, by rw [HJe.out]; exact Nat.le_refl _, by rw [HJe.out], by rw [HJe.out, HCh.out]; exact HD.out⟩
            · have HD : Hid (chDig c = false) := by cases e : chDig c with
                | true => exact absurd e hd
                | false => exact rfl
              clear hd
              by_cases h6 : c = 34
              · subst h6
                go_wp2_with (first | (go_at_call 56; refine (isBlank_c _ _).mono ?_; rintro e w2 ⟨rfl, rfl⟩; rw [HB.out]) | (go_at_call 58; refine (isLetter_c _ _).mono ?_; rintro e w2 ⟨rfl, rfl⟩; rw [HL.out]) | (go_at_call 59; refine (isDigit_c _ _).mono ?_; rintro e w2 ⟨rfl, rfl⟩; rw [HD.out]))
                refine (step_c s i1 sb _ _ _ hW3.scn (by omega) hm (HA.out _).1 (by have := HA.out (i1 - i); omega) (HA.out _).2.2.1 (by have := HA.out (i1 - i); omega)).mono ?_
                rintro e w2 ⟨rfl, hS2, hb2⟩
                have hW2 := hW3.step hsb (by omega) hS2 hb2
                go_wp2_with fail
                go_step3
                change _ ∧ _
                exact ⟨(nxF_of rfl rfl rfl rfl rfl), i1 + 1, hW2, hB4.step hsb hb2, by rw [HJe.out]; exact Nat.le_refl _, by rw [HJe.out], by rw [HJe.out]; exact HCh.out⟩
              · have q6 := neq_of h6
                have HO : Hid (∀ n code, n = mkN (chI s i1) (chI s (i1 + 1)) → code = terr 4 (s.extract i1 (i1 + n)) → oneK s i1 = 4 ∧ oneE s i1 = i1 + n ∧ oneC s i1 = code ∧ oneF s i1 = i1) := fun n code => one_mark (by rw [HCh.out]; simpa using q1) (by rw [HCh.out]; exact HL.out) (by rw [HCh.out]; exact HD.out) (by rw [HCh.out]; exact h6)
                clear h6
                obtain ⟨x0, x1, x2, x3, _⟩ := cells4 hB3
                go_wp2_with (first | (go_at_call 56; refine (isBlank_c _ _).mono ?_; rintro e w2 ⟨rfl, rfl⟩; rw [HB.out]) | (go_at_call 58; refine (isLetter_c _ _).mono ?_; rintro e w2 ⟨rfl, rfl⟩; rw [HL.out]) | (go_at_call 59; refine (isDigit_c _ _).mono ?_; rintro e w2 ⟨rfl, rfl⟩; rw [HD.out]))
                refine (mark_c s i1 sb (adv s i p (i1 - i)) _ hW3.scn hlt hm (HA.out _).1 (by have := HA.out (i1 - i); omega) (HA.out _).2.2.1 (by have := HA.out (i1 - i); omega)).mono ?_
                rintro e w9 ⟨n, code, hn, hcd, rfl, hS9, hb9⟩
                have E1 := hb9.blk hW3.tok hW3.tok.lt (by omega)
                have E2 := hb9.blk hW3.flt hW3.flt.lt (by omega)
                obtain ⟨y0, y1, y2, y3, f0, f1, f2, f3⟩ := cells4 E1
                obtain ⟨z0, z1, z2, z3, g0, g1, g2, g3⟩ := cells4 E2
                have hB9 := hW3.but.trans (hb9.mono hW3.but.size)
                have HO1 := Lib.hid (HO.out n code hn hcd)
                rw [adv_comp s i (i1 - i) i1 p hlo rfl n] at hS9
                clear hn hcd
                go_wp2
                with_reducible exact next_end HJe.out HO1.out.1 HO1.out.2.1 HO1.out.2.2.1 HO1.out.2.2.2 (show ttext 4 s i1 (i1 + n) = s.extract i1 (i1 + n) by simp [ttext]) hsb hS9 hB9 E1 E2 rfl rfl rfl
  · intro l a w0 hJ
    rcases l with _ | _ | _ | _ | _ | l
    · refine ⟨_, rfl, ?_⟩
      obtain ⟨⟨u, rfl⟩, i1, hW, hB, hsk⟩ := hJ
      obtain ⟨c0, c1, c2, c3, _⟩ := hW.scn.facts
      obtain ⟨hW2, hBeg⟩ := hW.setBeg hsb hB rfl rfl rfl rfl
      obtain ⟨b0, b1, b2, b3, hBB⟩ := hB
      obtain ⟨d0, d1, d2, d3, e0, e1, e2, e3⟩ := cells4 hBB
      have HK := Lib.hid hsk
      clear hsk hBB
      go_wp2_with fail
      refine (peek_c s i1 sb _ _ _ hW2.scn hW2.hi hm).mono ?_
      rintro e w1 ⟨rfl, n1, rfl⟩
      have hW3 := hW2.drewN n1
      have hB3 : Beg w s i p i1 (((((w0.setCell ⟨w.heap.size + 1 + 1, 0, none⟩ (.string s)).setCell ⟨w.heap.size + 1 + 1, 1, none⟩ (.int .i64 (i1 : Int))).setCell ⟨w.heap.size + 1 + 1, 2, none⟩ (.int .i64 (adv s i p (i1 - i)).1)).setCell ⟨w.heap.size + 1 + 1, 3, none⟩ (.int .i64 (adv s i p (i1 - i)).2)).drewN n1) := hBeg
      have hM : NxM s sb 0 w0 = 3 * (s.size - i1) + (if chI s i1 = 35 then 2 else 0) := by simp only [NxM, hW.at']
      generalize ((((w0.setCell ⟨w.heap.size + 1 + 1, 0, none⟩ (.string s)).setCell ⟨w.heap.size + 1 + 1, 1, none⟩ (.int .i64 (i1 : Int))).setCell ⟨w.heap.size + 1 + 1, 2, none⟩ (.int .i64 (adv s i p (i1 - i)).1)).setCell ⟨w.heap.size + 1 + 1, 3, none⟩ (.int .i64 (adv s i p (i1 - i)).2)).drewN n1 = wx at *
      clear hW2 hBeg hW c0 c1 c2 c3 d0 d1 d2 d3 e0 e1 e2 e3
      have HM := Lib.hid hM
      clear hM
      have hlo := hW3.lo
      have hhi := hW3.hi
      obtain ⟨c, hc⟩ : ∃ c, chI s i1 = c := ⟨_, rfl⟩
      rw [hc]
      by_cases h1 : c = -1
      · subst h1
        have hst : sk s i1 = i1 := sk_stop (by rw [hc]; decide) (by rw [hc]; decide)
        have hJe : sk s i = i1 := HK.out.symm.trans hst
        have HJe := Lib.hid hJe
        have hK1 : oneK s i1 = 0 := by simp [oneK, hc]
        have hE1 : oneE s i1 = i1 := by simp [oneE, hc]
        have hF1 : oneF s i1 = i1 := by simp [oneF, hc]
        have hC1 : oneC s i1 = terr 0 (ttext 0 s i1 i1) := by simp [oneC, hc, hK1, hE1]
        have HH := Lib.hid (show oneK s i1 = 0 ∧ oneE s i1 = i1 ∧ oneF s i1 = i1 ∧ oneC s i1 = terr 0 (ttext 0 s i1 i1) from ⟨hK1, hE1, hF1, hC1⟩)
        have HCh := Lib.hid hc
        clear hst hJe hK1 hE1 hF1 hC1 hc
        obtain ⟨tx, htx⟩ : ∃ t, ttext 0 s i1 i1 = t := ⟨_, rfl⟩
        obtain ⟨code, hcode⟩ : ∃ x, terr 0 tx = x := ⟨_, rfl⟩
        have HX := Lib.hid htx
        have HCo := Lib.hid hcode
        clear htx hcode
        obtain ⟨x0, x1, x2, x3, _⟩ := cells4 hB3
        go_wp2_with fail
        refine (tok_c 0 (by omega) s i1 i1 sb _ _ _ _ _ hW3.scn (Nat.le_refl _) hW3.hi hm (by omega) code tx HX.out HCo.out).mono ?_
        rintro e w9 ⟨rfl, hb9⟩
        have E1 := hW3.tok.keep hb9
        have E2 := hW3.flt.keep hb9
        obtain ⟨y0, y1, y2, y3, f0, f1, f2, f3⟩ := cells4 E1
        obtain ⟨z0, z1, z2, z3, g0, g1, g2, g3⟩ := cells4 E2
        have hS9 := hW3.scn.keep hb9
        have hB9 := hW3.but.below (hb9.mono hW3.but.size)
        go_wp2
        with_reducible exact next_end HJe.out HH.out.1 HH.out.2.1 (HH.out.2.2.2.trans (by rw [HX.out]; exact HCo.out)) HH.out.2.2.1 HX.out hsb hS9 hB9 E1 E2 rfl rfl rfl
      · have hlt : i1 < s.size := ch_in (by rw [hc]; exact h1)
        have q1 := neq_of h1
        have HCh := Lib.hid hc
        clear hc h1
        have hBA : BegAny w _ := ⟨_, _, _, _, hB3⟩
        by_cases hb : chBlk c = true
        · have HB := Lib.hid hb
          clear hb
          go_wp2_with (first | (go_at_call 56; refine (isBlank_c _ _).mono ?_; rintro e w2 ⟨rfl, rfl⟩; rw [HB.out]))
          refine (step_c s i1 sb _ _ _ hW3.scn (by omega) hm (HA.out _).1 (by have := HA.out (i1 - i); omega) (HA.out _).2.2.1 (by have := HA.out (i1 - i); omega)).mono ?_
          rintro e w2 ⟨rfl, hS2, hb2⟩
          have hW2 := hW3.step hsb (by omega) hS2 hb2
          go_wp2_with fail
          go_step3
          have hsk : sk s (i1 + 1) = sk s i := (sk_blank (by rw [HCh.out]; exact HB.out)).symm.trans HK.out
      
          change _ ∧ _
          exact ⟨⟨(nxF_of rfl rfl rfl rfl rfl), i1 + 1, hW2, hBA.step hsb hb2, hsk⟩, m0_lt hW2.at' (by rw [HM.out]; omega)⟩
        · have HB : Hid (chBlk c = false) := by cases e : chBlk c with
            | true => exact absurd e hb
            | false => exact rfl
          clear hb
          by_cases h3 : c = 35
          · subst h3
            go_wp2_with (first | (go_at_call 56; refine (isBlank_c _ _).mono ?_; rintro e w2 ⟨rfl, rfl⟩; rw [HB.out]))
            go_step3
            have hsk : sk s (run lineC s i1) = sk s i := (sk_hash HCh.out).symm.trans HK.out
            change _ ∧ _
            exact ⟨⟨(nxF_of rfl rfl rfl rfl rfl), i1, hW3, ⟨_, _, _, _, hB3⟩, hsk⟩, m1_lt hW3.at' (by rw [HM.out, if_pos HCh.out]; omega)⟩
          · have q3 := neq_of h3
            have hst : sk s i = i1 := HK.out.symm.trans (sk_stop (by rw [HCh.out]; exact HB.out) (by rw [HCh.out]; exact h3))
            have HJe := Lib.hid hst
            clear hst h3
            have hB4 : Beg w s i p (sk s i) wx := by rw [HJe.out]; exact hB3
            by_cases hl : chLet c = true
            · have HL := Lib.hid hl
              clear hl
              go_wp2_with (first | (go_at_call 56; refine (isBlank_c _ _).mono ?_; rintro e w2 ⟨rfl, rfl⟩; rw [HB.out]) | (go_at_call 58; refine (isLetter_c _ _).mono ?_; rintro e w2 ⟨rfl, rfl⟩; rw [HL.out]))
              go_step3
              change _ ∧ _
              exact ⟨⟨(nxF_of rfl rfl rfl rfl rfl), i1, hW3, hB4, by rw [HJe.out]; exact Nat.le_refl _, by rw [HJe.out], by rw [HJe.out, HCh.out]; exact HL.out⟩, (m2_lt hW3.at' (by rw [HM.out]; omega)).1⟩
            · have HL : Hid (chLet c = false) := by cases e : chLet c with
                | true => exact absurd e hl
                | false => exact rfl
              clear hl
              by_cases hd : chDig c = true
              · have HD := Lib.hid hd
                clear hd
                go_wp2_with (first | (go_at_call 56; refine (isBlank_c _ _).mono ?_; rintro e w2 ⟨rfl, rfl⟩; rw [HB.out]) | (go_at_call 58; refine (isLetter_c _ _).mono ?_; rintro e w2 ⟨rfl, rfl⟩; rw [HL.out]) | (go_at_call 59; refine (isDigit_c _ _).mono ?_; rintro e w2 ⟨rfl, rfl⟩; rw [HD.out]))
                go_step3
                change _ ∧ _
                exact ⟨⟨(nxF_of rfl rfl rfl rfl rfl), i1, hW3, hB4, by rw [HJe.out]; exact Nat.le_refl _, by rw [HJe.out], by rw [HJe.out, HCh.out]; exact HD.out⟩, (m2_lt hW3.at' (by rw [HM.out]; omega)).2.1⟩
              · have HD : Hid (chDig c = false) := by cases e : chDig c with
                  | true => exact absurd e hd
                  | false => exact rfl
                clear hd
                by_cases h6 : c = 34
                · subst h6
                  go_wp2_with (first | (go_at_call 56; refine (isBlank_c _ _).mono ?_; rintro e w2 ⟨rfl, rfl⟩; rw [HB.out]) | (go_at_call 58; refine (isLetter_c _ _).mono ?_; rintro e w2 ⟨rfl, rfl⟩; rw [HL.out]) | (go_at_call 59; refine (isDigit_c _ _).mono ?_; rintro e w2 ⟨rfl, rfl⟩; rw [HD.out]))
                  refine (step_c s i1 sb _ _ _ hW3.scn (by omega) hm (HA.out _).1 (by have := HA.out (i1 - i); omega) (HA.out _).2.2.1 (by have := HA.out (i1 - i); omega)).mono ?_
                  rintro e w2 ⟨rfl, hS2, hb2⟩
                  have hW2 := hW3.step hsb (by omega) hS2 hb2
                  go_wp2_with fail
                  go_step3
                  change _ ∧ _
                  exact ⟨⟨(nxF_of rfl rfl rfl rfl rfl), i1 + 1, hW2, hB4.step hsb hb2, by rw [HJe.out]; exact Nat.le_refl _, by rw [HJe.out], by rw [HJe.out]; exact HCh.out⟩, (m2_lt hW2.at' (by rw [HM.out]; omega)).2.2⟩
                · have q6 := neq_of h6
                  have HO : Hid (∀ n code, n = mkN (chI s i1) (chI s (i1 + 1)) → code = terr 4 (s.extract i1 (i1 + n)) → oneK s i1 = 4 ∧ oneE s i1 = i1 + n ∧ oneC s i1 = code ∧ oneF s i1 = i1) := fun n code => one_mark (by rw [HCh.out]; simpa using q1) (by rw [HCh.out]; exact HL.out) (by rw [HCh.out]; exact HD.out) (by rw [HCh.out]; exact h6)
                  clear h6
                  obtain ⟨x0, x1, x2, x3, _⟩ := cells4 hB3
                  go_wp2_with (first | (go_at_call 56; refine (isBlank_c _ _).mono ?_; rintro e w2 ⟨rfl, rfl⟩; rw [HB.out]) | (go_at_call 58; refine (isLetter_c _ _).mono ?_; rintro e w2 ⟨rfl, rfl⟩; rw [HL.out]) | (go_at_call 59; refine (isDigit_c _ _).mono ?_; rintro e w2 ⟨rfl, rfl⟩; rw [HD.out]))
                  refine (mark_c s i1 sb (adv s i p (i1 - i)) _ hW3.scn hlt hm (HA.out _).1 (by have := HA.out (i1 - i); omega) (HA.out _).2.2.1 (by have := HA.out (i1 - i); omega)).mono ?_
                  rintro e w9 ⟨n, code, hn, hcd, rfl, hS9, hb9⟩
                  have E1 := hb9.blk hW3.tok hW3.tok.lt (by omega)
                  have E2 := hb9.blk hW3.flt hW3.flt.lt (by omega)
                  obtain ⟨y0, y1, y2, y3, f0, f1, f2, f3⟩ := cells4 E1
                  obtain ⟨z0, z1, z2, z3, g0, g1, g2, g3⟩ := cells4 E2
                  have hB9 := hW3.but.trans (hb9.mono hW3.but.size)
                  have HO1 := Lib.hid (HO.out n code hn hcd)
                  rw [adv_comp s i (i1 - i) i1 p hlo rfl n] at hS9
                  clear hn hcd
                  go_wp2
                  with_reducible exact next_end HJe.out HO1.out.1 HO1.out.2.1 HO1.out.2.2.1 HO1.out.2.2.2 (show ttext 4 s i1 (i1 + n) = s.extract i1 (i1 + n) by simp [ttext]) hsb hS9 hB9 E1 E2 rfl rfl rfl
    · refine ⟨_, rfl, ?_⟩
      obtain ⟨⟨u, rfl⟩, i1, hW, hB, hsk⟩ := hJ
      obtain ⟨c0, c1, c2, c3, _⟩ := hW.scn.facts
      go_wp2_with fail
      refine (peek_c s i1 sb _ _ _ hW.scn hW.hi hm).mono ?_
      rintro e w1 ⟨rfl, n1, rfl⟩
      have hW3 := hW.drewN n1
      have hB3 := (show BegAny w (w0.drewN n1) from hB)
      have hM : NxM s sb 1 w0 = 3 * (s.size - i1) + 1 := by simp only [NxM, hW.at']
      generalize w0.drewN n1 = wx at *
      clear hW hB c0 c1 c2 c3
      have HM := Lib.hid hM
      clear hM
      have hlo := hW3.lo
      have hhi := hW3.hi
      obtain ⟨c, hc⟩ : ∃ c, chI s i1 = c := ⟨_, rfl⟩
      rw [hc]
      by_cases h1 : c = 10
      · subst h1
        have hst : run lineC s i1 = i1 := run_stop (by rw [hc]; rfl)
        go_wp2_with fail
        go_step3
        change _ ∧ _
        exact ⟨⟨(nxF_of rfl rfl rfl rfl rfl), i1, hW3, hB3, by rw [← hsk, hst]⟩, m0n_lt hW3.at' (by rw [hc]; decide) (by rw [HM.out]; omega)⟩
      · have q1 := neq_of h1
        by_cases h2 : c = -1
        · subst h2
          have hst : run lineC s i1 = i1 := run_stop (by rw [hc]; rfl)
          go_wp2_with fail
          go_step3
          change _ ∧ _
          exact ⟨⟨(nxF_of rfl rfl rfl rfl rfl), i1, hW3, hB3, by rw [← hsk, hst]⟩, m0n_lt hW3.at' (by rw [hc]; decide) (by rw [HM.out]; omega)⟩
        · have q2 := neq_of h2
          have hlt : i1 < s.size := ch_in (by rw [hc]; exact h2)
          have hgo : run lineC s i1 = run lineC s (i1 + 1) := run_go hlt (by rw [hc]; simp [lineC, h1, h2])
          rw [hgo] at hsk
          have HS := Lib.hid hsk
          clear hsk hgo hc h1 h2
          go_wp2_with fail
          refine (step_c s i1 sb _ _ _ hW3.scn (by omega) hm (HA.out _).1 (by have := HA.out (i1 - i); omega) (HA.out _).2.2.1 (by have := HA.out (i1 - i); omega)).mono ?_
          rintro e w2 ⟨rfl, hS2, hb2⟩
          have hW2 := hW3.step hsb (by omega) hS2 hb2
          go_wp2_with fail
          go_step3
          change _ ∧ _
          exact ⟨⟨(nxF_of rfl rfl rfl rfl rfl), i1 + 1, hW2, hB3.step hsb hb2, HS.out⟩, m1_lt hW2.at' (by rw [HM.out]; omega)⟩
    · refine ⟨_, rfl, ?_⟩
      obtain ⟨⟨u, rfl⟩, i1, hW, hB, hJ1, hrun, hfst⟩ := hJ
      obtain ⟨c0, c1, c2, c3, _⟩ := hW.scn.facts
      go_wp2_with fail
      refine (peek_c s i1 sb _ _ _ hW.scn hW.hi hm).mono ?_
      rintro e w1 ⟨rfl, n1, rfl⟩
      have hW3 := hW.drewN n1
      have hB3 := (show Beg w s i p (sk s i) (w0.drewN n1) from hB)
      have hM : NxM s sb 2 w0 = s.size - i1 := by simp only [NxM, hW.at']
      generalize w0.drewN n1 = wx at *
      clear hW hB c0 c1 c2 c3
      have HM := Lib.hid hM
      clear hM
      have hlo := hW3.lo
      have hhi := hW3.hi
      obtain ⟨c, hc⟩ : ∃ c, chI s i1 = c := ⟨_, rfl⟩
      rw [hc]
      obtain ⟨J, hJJ⟩ : ∃ J, sk s i = J := ⟨_, rfl⟩
      rw [hJJ] at hB3 hJ1 hrun hfst
      have HJe := Lib.hid hJJ
      clear hJJ
      have HF := Lib.hid hfst
      have HR := Lib.hid hrun
      clear hfst hrun
      by_cases hl : chLet c = true
      · have HL := Lib.hid hl
        clear hl
        have hlt : i1 < s.size := ch_in (by rw [hc]; exact (let_ne HL.out).1)
        have hgo : run wordC s (i1 + 1) = run wordC s J := (run_go hlt (by rw [hc]; unfold wordC; rw [HL.out]; rfl)).symm.trans HR.out
        have HG := Lib.hid hgo
        clear hgo hc
        go_wp2_with (go_at_call 58; refine (isLetter_c _ _).mono ?_; rintro e w2 ⟨rfl, rfl⟩; rw [HL.out])
        refine (step_c s i1 sb _ _ _ hW3.scn (by omega) hm (HA.out _).1 (by have := HA.out (i1 - i); omega) (HA.out _).2.2.1 (by have := HA.out (i1 - i); omega)).mono ?_
        rintro e w2 ⟨rfl, hS2, hb2⟩
        have hW2 := hW3.step hsb (by omega) hS2 hb2
        go_wp2_with fail
        go_step3
        change _ ∧ _
        exact ⟨⟨(nxF_of rfl rfl rfl rfl rfl), i1 + 1, hW2, by rw [HJe.out]; exact hB3.step hsb hb2, by rw [HJe.out]; omega, by rw [HJe.out]; exact HG.out, by rw [HJe.out]; exact HF.out⟩, (m2_lt hW2.at' (by rw [HM.out]; omega)).1⟩
      · have HL : Hid (chLet c = false) := by cases e : chLet c with
          | true => exact absurd e hl
          | false => exact rfl
        clear hl
        by_cases hd : chDig c = true
        · have HD := Lib.hid hd
          clear hd
          have hlt : i1 < s.size := ch_in (by rw [hc]; exact (dig_ne HD.out).1)
          have hgo : run wordC s (i1 + 1) = run wordC s J := (run_go hlt (by rw [hc]; unfold wordC; rw [HL.out, HD.out]; rfl)).symm.trans HR.out
          have HG := Lib.hid hgo
          clear hgo hc
          go_wp2_with (first | (go_at_call 58; refine (isLetter_c _ _).mono ?_; rintro e w2 ⟨rfl, rfl⟩; rw [HL.out]) | (go_at_call 59; refine (isDigit_c _ _).mono ?_; rintro e w2 ⟨rfl, rfl⟩; rw [HD.out]))
          refine (step_c s i1 sb _ _ _ hW3.scn (by omega) hm (HA.out _).1 (by have := HA.out (i1 - i); omega) (HA.out _).2.2.1 (by have := HA.out (i1 - i); omega)).mono ?_
          rintro e w2 ⟨rfl, hS2, hb2⟩
          have hW2 := hW3.step hsb (by omega) hS2 hb2
          go_wp2_with fail
          go_step3
          change _ ∧ _
          exact ⟨⟨(nxF_of rfl rfl rfl rfl rfl), i1 + 1, hW2, by rw [HJe.out]; exact hB3.step hsb hb2, by rw [HJe.out]; omega, by rw [HJe.out]; exact HG.out, by rw [HJe.out]; exact HF.out⟩, (m2_lt hW2.at' (by rw [HM.out]; omega)).1⟩
        · have HD : Hid (chDig c = false) := by cases e : chDig c with
            | true => exact absurd e hd
            | false => exact rfl
          clear hd
          have hst : run wordC s i1 = i1 := run_stop (by rw [hc]; unfold wordC; rw [HL.out, HD.out]; rfl)
          have HO := Lib.hid (one_name HF.out (HR.out.symm.trans hst))
          clear hst hc
          obtain ⟨x0, x1, x2, x3, _⟩ := cells4 hB3
          obtain ⟨tx, htx⟩ : ∃ t, ttext 1 s J i1 = t := ⟨_, rfl⟩
          obtain ⟨code, hcode⟩ : ∃ x, terr 1 tx = x := ⟨_, rfl⟩
          have HX := Lib.hid htx
          have HCo := Lib.hid hcode
          clear htx hcode
          go_wp2_with (first | (go_at_call 58; refine (isLetter_c _ _).mono ?_; rintro e w2 ⟨rfl, rfl⟩; rw [HL.out]) | (go_at_call 59; refine (isDigit_c _ _).mono ?_; rintro e w2 ⟨rfl, rfl⟩; rw [HD.out]))
          refine (tok_c 1 (by omega) s i1 J sb _ _ _ _ _ hW3.scn hJ1 hW3.hi hm (by omega) code tx HX.out HCo.out).mono ?_
          rintro e w9 ⟨rfl, hb9⟩
          have E1 := hW3.tok.keep hb9
          have E2 := hW3.flt.keep hb9
          obtain ⟨y0, y1, y2, y3, f0, f1, f2, f3⟩ := cells4 E1
          obtain ⟨z0, z1, z2, z3, g0, g1, g2, g3⟩ := cells4 E2
          have hS9 := hW3.scn.keep hb9
          have hB9 := hW3.but.below (hb9.mono hW3.but.size)
          go_wp2
          with_reducible exact next_end HJe.out HO.out.1 HO.out.2.1 (HO.out.2.2.1.trans (by rw [HX.out]; exact HCo.out)) HO.out.2.2.2 HX.out hsb hS9 hB9 E1 E2 rfl rfl rfl
    · refine ⟨_, rfl, ?_⟩
      obtain ⟨⟨u, rfl⟩, i1, hW, hB, hJ1, hrun, hfst⟩ := hJ
      obtain ⟨c0, c1, c2, c3, _⟩ := hW.scn.facts
      go_wp2_with fail
      refine (peek_c s i1 sb _ _ _ hW.scn hW.hi hm).mono ?_
      rintro e w1 ⟨rfl, n1, rfl⟩
      have hW3 := hW.drewN n1
      have hB3 := (show Beg w s i p (sk s i) (w0.drewN n1) from hB)
      have hM : NxM s sb 3 w0 = s.size - i1 := by simp only [NxM, hW.at']
      generalize w0.drewN n1 = wx at *
      clear hW hB c0 c1 c2 c3
      have HM := Lib.hid hM
      clear hM
      have hlo := hW3.lo
      have hhi := hW3.hi
      obtain ⟨c, hc⟩ : ∃ c, chI s i1 = c := ⟨_, rfl⟩
      rw [hc]
      obtain ⟨J, hJJ⟩ : ∃ J, sk s i = J := ⟨_, rfl⟩
      rw [hJJ] at hB3 hJ1 hrun hfst
      have HJe := Lib.hid hJJ
      clear hJJ
      have HF := Lib.hid hfst
      have HR := Lib.hid hrun
      clear hfst hrun
      by_cases hd : chDig c = true
      · have HD := Lib.hid hd
        clear hd
        have hlt : i1 < s.size := ch_in (by rw [hc]; exact (dig_ne HD.out).1)
        have hgo : run chDig s (i1 + 1) = run chDig s J := (run_go hlt (by rw [hc]; exact HD.out)).symm.trans HR.out
        have HG := Lib.hid hgo
        clear hgo hc
        go_wp2_with (go_at_call 59; refine (isDigit_c _ _).mono ?_; rintro e w2 ⟨rfl, rfl⟩; rw [HD.out])
        refine (step_c s i1 sb _ _ _ hW3.scn (by omega) hm (HA.out _).1 (by have := HA.out (i1 - i); omega) (HA.out _).2.2.1 (by have := HA.out (i1 - i); omega)).mono ?_
        rintro e w2 ⟨rfl, hS2, hb2⟩
        have hW2 := hW3.step hsb (by omega) hS2 hb2
        go_wp2_with fail
        go_step3
        change _ ∧ _
        exact ⟨⟨(nxF_of rfl rfl rfl rfl rfl), i1 + 1, hW2, by rw [HJe.out]; exact hB3.step hsb hb2, by rw [HJe.out]; omega, by rw [HJe.out]; exact HG.out, by rw [HJe.out]; exact HF.out⟩, (m2_lt hW2.at' (by rw [HM.out]; omega)).2.1⟩
      · have HD : Hid (chDig c = false) := by cases e : chDig c with
          | true => exact absurd e hd
          | false => exact rfl
        clear hd
        have hst : run chDig s i1 = i1 := run_stop (by rw [hc]; exact HD.out)
        have HO := Lib.hid (one_number HF.out (HR.out.symm.trans hst))
        clear hst hc
        obtain ⟨x0, x1, x2, x3, _⟩ := cells4 hB3
        obtain ⟨tx, htx⟩ : ∃ t, ttext 2 s J i1 = t := ⟨_, rfl⟩
        obtain ⟨code, hcode⟩ : ∃ x, terr 2 tx = x := ⟨_, rfl⟩
        have HX := Lib.hid htx
        have HCo := Lib.hid hcode
        clear htx hcode
        go_wp2_with (go_at_call 59; refine (isDigit_c _ _).mono ?_; rintro e w2 ⟨rfl, rfl⟩; rw [HD.out])
        refine (tok_c 2 (by omega) s i1 J sb _ _ _ _ _ hW3.scn hJ1 hW3.hi hm (by omega) code tx HX.out HCo.out).mono ?_
        rintro e w9 ⟨rfl, hb9⟩
        have E1 := hW3.tok.keep hb9
        have E2 := hW3.flt.keep hb9
        obtain ⟨y0, y1, y2, y3, f0, f1, f2, f3⟩ := cells4 E1
        obtain ⟨z0, z1, z2, z3, g0, g1, g2, g3⟩ := cells4 E2
        have hS9 := hW3.scn.keep hb9
        have hB9 := hW3.but.below (hb9.mono hW3.but.size)
        go_wp2
        with_reducible exact next_end HJe.out HO.out.1 HO.out.2.1 (HO.out.2.2.1.trans (by rw [HX.out]; exact HCo.out)) HO.out.2.2.2 HX.out hsb hS9 hB9 E1 E2 rfl rfl rfl
    · refine ⟨_, rfl, ?_⟩
      obtain ⟨⟨u, rfl⟩, i1, hW, hB, hJ1, hrun, hfst⟩ := hJ
      obtain ⟨c0, c1, c2, c3, _⟩ := hW.scn.facts
      go_wp2_with fail
      refine (peek_c s i1 sb _ _ _ hW.scn hW.hi hm).mono ?_
      rintro e w1 ⟨rfl, n1, rfl⟩
      have hW3 := hW.drewN n1
      have hB3 := (show Beg w s i p (sk s i) (w0.drewN n1) from hB)
      have hM : NxM s sb 4 w0 = s.size - i1 := by simp only [NxM, hW.at']
      generalize w0.drewN n1 = wx at *
      clear hW hB c0 c1 c2 c3
      have HM := Lib.hid hM
      clear hM
      have hlo := hW3.lo
      have hhi := hW3.hi
      obtain ⟨c, hc⟩ : ∃ c, chI s i1 = c := ⟨_, rfl⟩
      rw [hc]
      obtain ⟨J, hJJ⟩ : ∃ J, sk s i = J := ⟨_, rfl⟩
      rw [hJJ] at hB3 hJ1 hrun hfst
      have HJe := Lib.hid hJJ
      clear hJJ
      have HF := Lib.hid hfst
      have HR := Lib.hid hrun
      clear hfst hrun
      by_cases h1 : c = -1
      · subst h1
        have hst : run quoC s i1 = i1 := run_stop (by rw [hc]; rfl)
        have HO := Lib.hid ((one_quoted HF.out (HR.out.symm.trans hst)).2.1 hc)
        clear hst hc
        obtain ⟨x0, x1, x2, x3, _⟩ := cells4 hB3
        obtain ⟨y0, y1, y2, y3, f0, f1, f2, f3⟩ := cells4 hW3.tok
        obtain ⟨z0, z1, z2, z3, g0, g1, g2, g3⟩ := cells4 hW3.flt
        obtain ⟨s0, s1, s2, s3, _⟩ := hW3.scn.facts
        go_wp2_with fail
        go_region
        go_wp2
        with_reducible exact next_err HJe.out HO.out.1 (by decide) HO.out.2 hW3.but hW3.tok hW3.flt rfl rfl
      · have hlt : i1 < s.size := ch_in (by rw [hc]; exact h1)
        have q1 := neq_of h1
        by_cases h2 : c = 34
        · subst h2
          have hst : run quoC s i1 = i1 := run_stop (by rw [hc]; rfl)
          have HO := Lib.hid ((one_quoted HF.out (HR.out.symm.trans hst)).1 hc)
          clear hst hc h1
          go_wp2_with fail
          refine (step_c s i1 sb _ _ _ hW3.scn (by omega) hm (HA.out _).1 (by have := HA.out (i1 - i); omega) (HA.out _).2.2.1 (by have := HA.out (i1 - i); omega)).mono ?_
          rintro e w2 ⟨rfl, hS2, hb2⟩
          have hW2 := hW3.step hsb (by omega) hS2 hb2
          have hB4 := Beg.step hB3 hsb hb2
          clear hB3
          obtain ⟨x0, x1, x2, x3, _⟩ := cells4 hB4
          obtain ⟨tx, htx⟩ : ∃ t, ttext 3 s J (i1 + 1) = t := ⟨_, rfl⟩
          obtain ⟨code, hcode⟩ : ∃ x, terr 3 tx = x := ⟨_, rfl⟩
          have HX := Lib.hid htx
          have HCo := Lib.hid hcode
          clear htx hcode
          go_wp2_with fail
          refine (tok_c 3 (by omega) s (i1 + 1) J sb _ _ _ _ _ hW2.scn (by omega) hW2.hi hm (by omega) code tx HX.out HCo.out).mono ?_
          rintro e w9 ⟨rfl, hb9⟩
          have E1 := hW2.tok.keep hb9
          have E2 := hW2.flt.keep hb9
          obtain ⟨y0, y1, y2, y3, f0, f1, f2, f3⟩ := cells4 E1
          obtain ⟨z0, z1, z2, z3, g0, g1, g2, g3⟩ := cells4 E2
          have hS9 := hW2.scn.keep hb9
          have hB9 := hW2.but.below (hb9.mono hW2.but.size)
          go_wp2
          with_reducible exact next_end HJe.out HO.out.1 HO.out.2.1 (HO.out.2.2.1.trans (by rw [HX.out]; exact HCo.out)) HO.out.2.2.2 HX.out hsb hS9 hB9 E1 E2 rfl rfl rfl
        · have q2 := neq_of h2
          by_cases hp : chPrt c = true
          · have HP := Lib.hid hp
            have hgo : run quoC s (i1 + 1) = run quoC s (J + 1) := (run_go hlt (by rw [hc]; simp [quoC, hp, h2])).symm.trans HR.out
            have HG := Lib.hid hgo
            clear hgo hc hp h1 h2
            go_wp2_with (go_at_call 61; refine (isPrintable_c _ _).mono ?_; rintro e w2 ⟨rfl, rfl⟩; rw [HP.out])
            refine (step_c s i1 sb _ _ _ hW3.scn (by omega) hm (HA.out _).1 (by have := HA.out (i1 - i); omega) (HA.out _).2.2.1 (by have := HA.out (i1 - i); omega)).mono ?_
            rintro e w2 ⟨rfl, hS2, hb2⟩
            have hW2 := hW3.step hsb (by omega) hS2 hb2
            go_wp2_with fail
            go_step3
            change _ ∧ _
            exact ⟨⟨(nxF_of rfl rfl rfl rfl rfl), i1 + 1, hW2, by rw [HJe.out]; exact hB3.step hsb hb2, by rw [HJe.out]; omega, by rw [HJe.out]; exact HG.out, by rw [HJe.out]; exact HF.out⟩, (m2_lt hW2.at' (by rw [HM.out]; omega)).2.2⟩
          · have HP : Hid (chPrt c = false) := by cases e : chPrt c with
              | true => exact absurd e hp
              | false => exact rfl
            clear hp
            have hst : run quoC s i1 = i1 := run_stop (by rw [hc]; unfold quoC; rw [HP.out]; rfl)
            have HO := Lib.hid ((one_quoted HF.out (HR.out.symm.trans hst)).2.2 (by rw [hc]; exact h2) (by rw [hc]; exact h1))
            clear hst hc h1 h2
            obtain ⟨x0, x1, x2, x3, _⟩ := cells4 hB3
            obtain ⟨y0, y1, y2, y3, f0, f1, f2, f3⟩ := cells4 hW3.tok
            obtain ⟨z0, z1, z2, z3, g0, g1, g2, g3⟩ := cells4 hW3.flt
            obtain ⟨s0, s1, s2, s3, _⟩ := hW3.scn.facts
            go_wp2_with (go_at_call 61; refine (isPrintable_c _ _).mono ?_; rintro e w2 ⟨rfl, rfl⟩; rw [HP.out])
            go_region
            go_wp2
            with_reducible exact next_err HJe.out HO.out.1 (by decide) HO.out.2 hW3.but hW3.tok hW3.flt rfl rfl
    · exact absurd hJ (fun h => h)
end Go.Proofs.Ytffgjamnijhlpaa
