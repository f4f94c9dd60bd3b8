/- PutSet, on both sides. -/
import Derived.Test.YtohmlmbolilbbaaOpl
namespace Go.Proofs.Ytohmlmbolilbbaa
open Go.RowKit
theorem infoSl : (Try.prog.info? 22).map (fun i => (i.zero, i.size, i.bytes)) = some (some (.slice none 0 0), 1, 24) := by kernel_rfl
theorem own_below {w w' : World} {base : Nat} {e : TypeId} {size n : Nat} {v : Value} {xs : List Value} (h : w.ownsRow base e size v n xs) (hb : Below w.heap.size w w') : w'.ownsRow base e size v n xs := by
  refine ⟨h.1, ?_⟩
  rcases h.2 with hn | ⟨g, cap, cur, rfl, hg, hh, rest⟩
  · exact .inl hn
  · have hlt : g < w.heap.size := by
      rcases Nat.lt_or_ge g w.heap.size with h' | h'
      · exact h'
      · rw [Array.getElem?_eq_none h'] at hh; cases hh
    exact .inr ⟨g, cap, cur, rfl, hg, (hb.block g hlt).trans hh, rest⟩
theorem own_ne {w : World} {b1 b2 : Nat} {e1 e2 : TypeId} {s1 s2 n1 n2 : Nat} {v1 v2 : Value} {xs1 xs2 : List Value} (h1 : w.ownsRow b1 e1 s1 v1 n1 xs1) (h2 : w.ownsRow b2 e2 s2 v2 n2 xs2) (hne : e1 ≠ e2) : v1.ownBlock = none ∨ v1.ownBlock ≠ v2.ownBlock := by
  rcases h1.2 with ⟨rfl, _⟩ | ⟨g, cap, cur, rfl, _, hh, _⟩
  · exact .inl rfl
  · right
    rcases h2.2 with ⟨rfl, _⟩ | ⟨g', cap', cur', rfl, _, hh', _⟩
    · simp [Value.ownBlock]
    · simp only [Value.ownBlock, ne_eq, Option.some.injEq]
      rintro rfl
      rw [hh] at hh'
      injection hh' with hh'
      injection hh' with _ ht
      exact hne ht
/-- a list of slices of bytes, all of the call's own -/
def OwnP (w : World) (base : Nat) (v : Value) (L : List (List Int)) : Prop :=
  ∃ Vs : List Value, w.ownsRow base 22 1 v L.length Vs ∧ Vs.length = L.length ∧ ∀ (j : Nat) (h1 : j < Vs.length) (h2 : j < L.length), OwnB w base Vs[j] L[j]
theorem OwnP.keep {w w' : World} {base : Nat} {v : Value} {L : List (List Int)} (h : OwnP w base v L) (hb : Below w.heap.size w w') : OwnP w' base v L := by
  obtain ⟨Vs, h1, h2, h3⟩ := h
  exact ⟨Vs, own_below h1 hb, h2, fun j a b => own_below (h3 j a b) hb⟩
theorem OwnP.pcs {w : World} {base : Nat} {v : Value} {L : List (List Int)} (h : OwnP w base v L) (hall : ∀ q ∈ L, AllB q) : Pcs w v L := by
  obtain ⟨Vs, h1, h2, h3⟩ := h
  have ha : AllB L.flatten := fun x hx => by
    obtain ⟨q, hq, hx⟩ := List.mem_flatten.1 hx
    exact hall q hq x hx
  have h10 := h1
  rcases h1.2 with ⟨rfl, h0⟩ | ⟨g, cap, cur, rfl, _, hh, _, _, _, ht⟩
  · exact ⟨ha, none, 0, by rw [h0], fun hne => absurd (List.eq_nil_of_length_eq_zero h0) hne⟩
  · refine ⟨ha, _, cap, rfl, fun hne => ⟨g, 0, rfl, ?_, fun k hk => ?_⟩⟩
    · rcases Nat.lt_or_ge g w.heap.size with h' | h'
      · exact h'
      · rw [Array.getElem?_eq_none h'] at hh; cases hh
    · have hkv : k < Vs.length := by omega
      refine ⟨Vs[k], ?_, (h3 k hkv hk).byts (hall _ (List.getElem_mem hk))⟩
      have := World.ownsRow.cells h10 (g := g) rfl k Vs[k] (List.getElem?_eq_getElem hkv)
      rw [Nat.zero_add]
      simpa [Addr.add_lit] using this
theorem OwnP.one {w : World} {base : Nat} {V : Value} {q : List Int} (hb : base ≤ w.heap.size) (h : OwnB w base V q) : OwnP (w.alloc (.cells #[V] 22)) base (.slice (some ⟨w.heap.size, 0, none⟩) 1 1) [q] := by
  refine ⟨[V], World.ownsRow_lit w #[V] 1 hb (by decide) rfl, rfl, fun j h1 h2 => ?_⟩
  have h0 : j = 0 := by simpa using h1
  subst h0
  exact h.alloc _
theorem wpList_append_piece {w : World} {ops : Array Oper} {rest : List Oper} {o : Oper} {a : Act} {Q : Exit → Act → World → Prop} (hgd : o.guard = none) (s x : Operand)
    (ho : o.op = .call { callee := .builtin .append, args := #[s, x], argTypes := #[63, 63] })
    (base g : Nat) (v V : Value) (L : List (List Int)) (q : List Int) (hs : a.eval s = v) (hx : a.eval x = .slice (some ⟨g, 0, none⟩) 1 1) (hv : OwnP w base v L) (hB : Blk w g 22 #[V]) (hV : OwnB w base V q) (hlen : L.length ≤ 1000) (hbase : base ≤ w.heap.size)
    (h : ∀ v' w', OwnP w' base v' (L ++ [q]) → Below base w w' → wpList Try.prog ops Q rest (a.put o.dst v') w') : wpList Try.prog ops Q (o :: rest) a w := by
  obtain ⟨i0, hi, hz0, hz1, hz2⟩ := info_parts infoSl
  obtain ⟨Vs, h1, h2, h3⟩ := hv
  obtain ⟨av, cv, rfl⟩ := hV.isSlice
  refine wpList_append_own (P := Try.prog) w hgd s x 63 ho base 22 i0 (.slice none 0 0) 1 24 Try.underlying63 hi hz0 hz1 hz2 rfl (by decide) v L.length Vs hs h1 ⟨g, 0, none⟩ 1 1 [.slice av q.length cv] hx rfl ?_ ?_ ?_ ?_ hbase ?_
  · intro j u hu
    have hj : j = 0 := by
      have := (List.getElem?_eq_some_iff.1 hu).1
      simpa using this
    subst hj
    rw [Addr.add_lit]
    simp at hu
    rw [← hu]
    exact hB.cell 0
  · intro u hu
    simp at hu
    rw [hu]
    rfl
  · unfold maxLen; omega
  · omega
  · intro v' w' hown hg _
    have hbl : Below base w w' := (Below.refl _ _).grown hg hbase (fun k hk => (World.ownsRow.lt h1 k hk).1)
    refine h v' w' ⟨Vs ++ [.slice av q.length cv], by simpa using hown, by simp [h2], fun j j1 j2 => ?_⟩ hbl
    have kept : ∀ {V : Value} {q : List Int}, OwnB w base V q → OwnB w' base V q := fun hV' => World.ownsRow.kept hV' hg (own_ne hV' h1 (by decide))
    by_cases hj : j < L.length
    · rw [List.getElem_append_left (by omega), List.getElem_append_left hj]
      exact kept (h3 j (by omega) hj)
    · have hj2 : j = L.length := by simp at j2; omega
      subst hj2
      rw [List.getElem_append_right (by omega), List.getElem_append_right (by omega)]
      simp only [h2, Nat.sub_self, List.getElem_cons_zero]
      exact kept hV
theorem Below.weak {B B' : Nat} {a w : World} (h : Below B a w) (hb : B' ≤ B) : Below B' a w := h.mono hb
theorem box_cell {w : World} {g : Nat} {t : TypeId} {x0 x1 x2 x3 : Int} (h : Blk w g t #[.int .u64 x0, .int .u64 x1, .int .u64 x2, .int .u64 x3]) {i : Nat} (hi : i < 4) : w.cell? ⟨g, i, none⟩ = some (.int .u64 ([x0, x1, x2, x3].getD i 0)) := by
  rw [h.cell]
  rcases (show i = 0 ∨ i = 1 ∨ i = 2 ∨ i = 3 by omega) with rfl | rfl | rfl | rfl <;> rfl
def pcsL (xs : List Int) (K i : Nat) : List (List Int) := code K :: (xs.take i).map (fun x => code x.toNat)
theorem pcsL_len {xs : List Int} {K i : Nat} (h : i ≤ xs.length) : (pcsL xs K i).length = i + 1 := by simp [pcsL]; omega
theorem pcsL_next {xs : List Int} {K i : Nat} (h : i < xs.length) : pcsL xs K (i + 1) = pcsL xs K i ++ [code (xs.getD i 0).toNat] := by
  unfold pcsL
  rw [List.take_succ_eq_append_getElem h, List.map_append, List.getD, List.getElem?_eq_getElem h]
  rfl
theorem pcsL_all {xs : List Int} {K i : Nat} : ∀ q ∈ pcsL xs K i, AllB q := by
  intro q hq
  unfold pcsL at hq
  rcases List.mem_cons.1 hq with rfl | hq
  · exact code_all _
  · obtain ⟨x, _, rfl⟩ := List.mem_map.1 hq
    exact code_all _
theorem pcsL_flat {xs : List Int} : (pcsL xs (elemN xs) (elemN xs)).flatten = encS xs := by
  unfold pcsL encS
  rw [List.flatten_cons, List.flatMap_def]
theorem encS_len {xs : List Int} (h4 : xs.length = 4) (hx : ∀ x ∈ xs, 0 ≤ x ∧ x < 18446744073709551616) : (encS xs).length ≤ 50 := by
  have hle := elemN_le xs
  unfold encS
  rw [List.length_append]
  have h1 := code_len (n := elemN xs) (by omega)
  have h2 : ∀ ys : List Int, (∀ x ∈ ys, 0 ≤ x ∧ x < 18446744073709551616) → (ys.flatMap (fun x => code x.toNat)).length ≤ 10 * ys.length := by
    intro ys
    induction ys with
    | nil => intro _; simp
    | cons y ys ih =>
      intro h
      have hy := h y (by simp)
      have h3 := code_len (n := y.toNat) (by omega)
      have h4 := ih (fun x hx => h x (by simp [hx]))
      rw [List.flatMap_cons, List.length_append, List.length_cons]
      omega
  have h5 := h2 (xs.take (elemN xs)) (fun x h => hx x (List.mem_of_mem_take h))
  rw [List.length_take] at h5
  omega
set_option maxRecDepth 100000 in
set_option maxHeartbeats 4000000 in
theorem putSet_c (v : Value) (l : List Int) (x0 x1 x2 x3 : Int) (w : World) (hB : Byts w v l) (hx : ∀ x ∈ [x0, x1, x2, x3], 0 ≤ x ∧ x < 18446744073709551616) (hlen : l.length ≤ 800000000) :
    Calls Try.prog 27 #[v, .agg #[.int .u64 x0, .int .u64 x1, .int .u64 x2, .int .u64 x3]] w fun e w' => ∃ v', e = .returned v' ∧ OwnB w' w.heap.size v' (l ++ encS [x0, x1, x2, x3]) ∧ Below w.heap.size w w' := by
  have hel := fun w => elements_c x0 x1 x2 x3 w
  have hKle := elemN_le [x0, x1, x2, x3]
  have hfl := @pcsL_flat [x0, x1, x2, x3]
  have hen := encS_len (xs := [x0, x1, x2, x3]) rfl hx
  have HX : Hid (∀ i, i < 4 → 0 ≤ [x0, x1, x2, x3].getD i 0 ∧ [x0, x1, x2, x3].getD i 0 < 18446744073709551616) := Lib.hid fun i hi => hx _ (by
    rcases (show i = 0 ∨ i = 1 ∨ i = 2 ∨ i = 3 by omega) with rfl | rfl | rfl | rfl <;> simp)
  obtain ⟨K, hK⟩ : ∃ K, elemN [x0, x1, x2, x3] = K := ⟨_, rfl⟩
  rw [hK] at hel hKle hfl
  have HFL := Lib.hid hfl
  have HEN := Lib.hid hen
  simp only [List.length_cons, List.length_nil] at hKle
  clear hfl hen hx hK
  go_enter Try.func27, Try.ntmps27
  go_wp2_with fail
  have F : Blk (w.alloc (.cells #[.int .u64 x0, .int .u64 x1, .int .u64 x2, .int .u64 x3] 40)) w.heap.size _ _ := Blk.new w _ _
  have hb : Below w.heap.size w (w.alloc (.cells #[.int .u64 x0, .int .u64 x1, .int .u64 x2, .int .u64 x3] 40)) := (Below.refl _ _).alloc (Nat.le_refl _) _
  refine (hel _).mono ?_
  rintro e w2 ⟨rfl, hb2⟩
  have F2 := F.keep hb2
  have HB := Lib.hid hB
  have hb3 := hb.trans (hb2.mono hb.size)
  have hg2 := F2.lt
  clear F hb hb2 hel hB
  go_wp2_with fail
  refine (encode_c K w2 (by omega)).mono ?_
  rintro e w3 ⟨v3, rfl, ho3, hb4⟩
  obtain ⟨a3, n3, c3, rfl⟩ := ho3.isSliceN
  have hs4 := hb4.size
  have hone : OwnP (w3.alloc (.cells #[.slice a3 n3 c3] 22)) (w.heap.size + 1) (.slice (some ⟨w3.heap.size, 0, none⟩) 1 1) (pcsL [x0, x1, x2, x3] K 0) := OwnP.one (by omega) (ho3.mono (by omega))
  have F3 := (F2.keep hb4).alloc (.cells #[.slice a3 n3 c3] 22)
  have hb5 := (hb3.trans (hb4.mono hb3.size)).alloc (by omega) (.cells #[.slice a3 n3 c3] 22)
  clear F2 hb3 ho3
  have hal : Try.prog.arrayLen 40 = 4 := by kernel_rfl
  have hK4 : (K : Int) ≤ 4 := by omega
  go_wp2_with fail
  obtain ⟨vp, hvp⟩ : ∃ vp, vp = Value.slice (some ⟨w3.heap.size, 0, none⟩) 1 1 := ⟨_, rfl⟩
  rw [← hvp] at hone
  rw [← hvp]
  clear hvp
  generalize w3.alloc (.cells #[.slice a3 n3 c3] 22) = W3 at *
  clear hb4 hs4 hg2 w3 w2
  go_loopw [6, 8, 18] (fun vp _ vi wr => ∃ i : Nat, i ≤ K ∧ vi = .int .i64 i ∧ OwnP wr (w.heap.size + 1) vp (pcsL [x0, x1, x2, x3] K i) ∧ Blk wr w.heap.size 40 #[.int .u64 x0, .int .u64 x1, .int .u64 x2, .int .u64 x3] ∧ Below w.heap.size w wr) (fun _ _ vi _ => K - (intOf vi).toNat)
  case atStart => exact ⟨0, Nat.zero_le _, rfl, hone, F3, hb5⟩
  case round =>
    clear F3 hb5 hone
    obtain ⟨i, hiK, rfl, hO, F, hb⟩ := hrel
    have hg := F.lt
    by_cases hlt : i < K
    · have hxc := box_cell F (i := i) (by omega)
      have hxb := HX.out i (by omega)
      have hlt' : (i : Int) < (K : Int) := by omega
      have HN := Lib.hid (pcsL_next (xs := [x0, x1, x2, x3]) (K := K) (i := i) (by simp; omega))
      have HLn := Lib.hid (pcsL_len (xs := [x0, x1, x2, x3]) (K := K) (i := i) (by simp; omega))
      obtain ⟨X, hX⟩ : ∃ X : Nat, [x0, x1, x2, x3].getD i 0 = X := ⟨([x0, x1, x2, x3].getD i 0).toNat, by omega⟩
      rw [hX] at hxc hxb HN
      rw [Int.toNat_natCast] at HN
      clear hX
      go_wp2_with (first
        | (go_at_call 39; refine (encode_c X _ (by omega)).mono ?_; rintro e w3 ⟨v3, rfl, ho3, hb4⟩; obtain ⟨a3, n3, c3, rfl⟩ := ho3.isSliceN; have hs4 := hb4.size)
        | (at_builtin; refine wpList_append_piece rfl _ _ rfl (w.heap.size + 1) w3.heap.size u6 (.slice a3 n3 c3) _ (code X) rfl rfl ((hO.keep hb4).keep ((Below.refl _ _).alloc (Nat.le_refl _) _)) (Blk.new _ _ _) ((ho3.mono (by omega)).alloc _) (by rw [HLn.out]; omega) (by simp; omega) ?_))
      intro v5 w5 hO5 hb5
      have hb6 : Below (w.heap.size + 1) wr w5 := (hb4.mono (by omega)).trans (((Below.refl _ _).alloc (by omega) _).trans hb5)
      have HO5 : Hid (OwnP w5 (w.heap.size + 1) v5 (pcsL [x0, x1, x2, x3] K (i + 1))) := by rw [HN.out]; exact Lib.hid hO5
      have F5 : Blk w5 w.heap.size 40 #[.int .u64 x0, .int .u64 x1, .int .u64 x2, .int .u64 x3] := F.below hb6 (by omega)
      clear hO5
      go_wp2_with fail
      go_roundw
      case rel => exact ⟨i + 1, hlt, by go_num, HO5.out, F5, hb.trans (hb6.mono (by omega))⟩
      case measure => simp [intOf]; omega
    · obtain rfl : i = K := by omega
      have hJ := join_c v u6 l (pcsL [x0, x1, x2, x3] i i) wr (HB.out.keep hb) (hO.pcs pcsL_all) (by rw [HFL.out]; have := HEN.out; omega) (by rw [pcsL_len (by simp; omega)]; omega)
      rw [HFL.out] at hJ
      have HJ := Lib.hid hJ
      clear hJ
      go_wp2_with (go_at_call 38; refine HJ.out.mono ?_; rintro e w5 ⟨v5, rfl, hB5, ho5, hb5⟩)
      go_ret
      refine ⟨v5, rfl, (ho5 ?_).mono hb.size, hb.trans (hb5.mono hb.size)⟩
      unfold encS
      simp [code_ne]
end Go.Proofs.Ytohmlmbolilbbaa
