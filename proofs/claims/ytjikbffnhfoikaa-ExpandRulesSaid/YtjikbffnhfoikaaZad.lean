/- Exw Exx Exy Exz Eyz Eya Eyb Eyc Eyd Eyg Eyh Eyi -/
import Derived.Test.YtjikbffnhfoikaaZac
import Derived.Laws.Tables
import Derived.Laws.IdiomCopy
/- The visitor of Count. -/
namespace Go.Proofs.Ytjikbffnhfoikaa
open Go.RowKit Go.Sort Go.Maps
/-- the number of entries so far, in the variable at Bl -/
def NL (w : World) (Bl base : Nat) (A : List E) : Prop := base ≤ base ∧ Blk w Bl 3 #[.int .i64 (A.length : Int)]
theorem NL.of {w w' : World} {Bl base : Nat} {A : List E} (h : NL w Bl base A) (hb : Below w.heap.size w w') : NL w' Bl base A := ⟨h.1, h.2.keep hb⟩
set_option maxRecDepth 100000 in
set_option maxHeartbeats 8000000 in
theorem count1_c (s c d : Int) (_hs : 0 ≤ s ∧ s < 256) (_wc : W64 c) (_wd : W64 d) (g Bl base : Nat) (f : Nat → V) (A : List E) (hA : A.length ≤ 500000) (w : World) (hR : RowV w g f) (hL : NL w Bl base A) (hb : base ≤ Bl) :
    Calls Try.prog 38 #[.int .i64 s, .agg #[.int .i64 c, .int .i64 d], .pointer (some ⟨g, 0, none⟩), .pointer (some ⟨Bl, 0, none⟩)] w fun e w' => e = .returned (.tuple #[]) ∧ NL w' Bl base (A ++ rowK c d (fun t => f t.toNat) s 256) ∧ Fr Bl base w w' := by
  have hbl : Bl < w.heap.size := hL.2.lt
  have hgl := hR.lt
  have hne : g ≠ Bl := fun e => by
    subst e
    obtain ⟨cur, h1, _⟩ := hR
    have h2 := hL.2
    unfold Blk at h1 h2
    rw [h1] at h2
    cases h2
  have hbr : Below w.heap.size w (w.alloc (.cells #[.int .i64 c, .int .i64 d] 73)) := (Below.refl _ w).alloc (Nat.le_refl _) _
  have HR0 := Lib.hid (hR.below hbr)
  have HL0 := Lib.hid (hL.of hbr)
  have HF0 : Hid (Fr Bl base w (w.alloc (.cells #[.int .i64 c, .int .i64 d] 73))) := Lib.hid (Fr.of_below hbr)
  have HNE := Lib.hid hne
  have HBL := Lib.hid hbl
  have HBB := Lib.hid hb
  clear hR hL hbr hbl hb hgl hne
  go_enter Try.func38, Try.ntmps38
  go_wp2_with fail
  generalize w.alloc (.cells #[.int .i64 c, .int .i64 d] 73) = W0 at *
  generalize hgp : w.heap.size = gp at *
  go_loopw [11] (fun vi wr => ∃ k : Nat, k ≤ 256 ∧ vi = .int .i64 k ∧ Hid (Fr Bl base w wr) ∧ Hid (NL wr Bl base (A ++ rowK c d (fun t => f t.toNat) s k)) ∧ Hid (RowV wr g f)) (fun vi _ => 256 - (intOf vi).toNat)
  case atStart => exact ⟨0, Nat.zero_le _, rfl, HF0, Lib.hid (by rw [rowK_zero, List.append_nil]; exact HL0.out), HR0⟩
  case round =>
    obtain ⟨k, hk, rfl, HF, HL, HR⟩ := hrel
    by_cases hlt : k < 256
    · have hlt' : (k : Int) < 256 := by omega
      have hge' : ¬ (k : Int) < 0 := by omega
      obtain ⟨F, hF⟩ : ∃ F, f k = F := ⟨_, rfl⟩
      have hcell := HR.out.cells hlt
      rw [hF] at hcell
      obtain ⟨q0, q1, q2, -⟩ := hcell
      go_upto_region 4 with (fail)
      have HV3 : Hid (Blk (wr.alloc (.cells #[.int .u32 (vI F.p), .int .u32 (vI F.q), .int .u32 (vI F.r)] 76)) wr.heap.size 76 #[.int .u32 (vI F.p), .int .u32 (vI F.q), .int .u32 (vI F.r)]) := Lib.hid (Blk.new wr _ _)
      have hb3 : Below wr.heap.size wr (wr.alloc (.cells #[.int .u32 (vI F.p), .int .u32 (vI F.q), .int .u32 (vI F.r)] 76)) := (Below.refl _ wr).alloc (Nat.le_refl _) _
      have HF3 := Lib.hid (HF.out.trans (Fr.of_below hb3))
      have HL3 := Lib.hid (HL.out.of hb3)
      have HR3 := Lib.hid (HR.out.below hb3)
      have HFe := Lib.hid hF
      clear HF HL HR hb3 q0 q1 q2 hF
      generalize (wr.alloc (.cells #[.int .u32 (vI F.p), .int .u32 (vI F.q), .int .u32 (vI F.r)] 76)) = W3 at *
      generalize wr.heap.size = gv at *
      have hv := HV3.out.cell
      have v0 := hv 0
      have v1 := hv 1
      have v2 := hv 2
      clear hv
      by_cases hz : F = zV
      · subst hz
        have hnb := fun u => neqV_z u
        go_wp2_with fail
        go_roundw
        case rel => exact ⟨k + 1, hlt, by go_num, HF3, Lib.hid (by rw [rowK_succ, if_pos (by simpa using HFe.out), List.append_nil]; exact HL3.out), HR3⟩
        case measure => simp [intOf]; omega
      · have hnb := fun u => neqV_n F hz u
        have hrow : rowK c d (fun t => f t.toNat) s (k + 1) = rowK c d (fun t => f t.toNat) s k ++ [mkE s k c d F] := by
          rw [rowK_succ, if_neg (by simpa [HFe.out] using hz)]
          simp [HFe.out]
        have HRW := Lib.hid hrow
        have hln : (A ++ rowK c d (fun t => f t.toNat) s k).length ≤ 600000 := by have := rowK_len c d (fun t => f t.toNat) s k; rw [List.length_append]; omega
        generalize hA1 : A ++ rowK c d (fun t => f t.toNat) s k = A1 at *
        have HA1 := Lib.hid hA1
        have hln2 : ((A1.length : Nat) : Int) ≤ 600000 := by omega
        have hln3 : (0 : Int) ≤ ((A1.length : Nat) : Int) := by omega
        clear hA1 hrow hz hln
        have hB := HL3.out.2
        have b0 := hB.cell 0
        have z0 := hB.frozen 0
        have HB := Lib.hid hB
        clear hB
        go_wp2_with fail
        have HL6 : Hid (NL (W3.setCell ⟨Bl, 0, none⟩ (.int .i64 ((A1.length : Int) + 1))) Bl base (A1 ++ [mkE s k c d F])) := Lib.hid ⟨Nat.le_refl _, by
          have h := HB.out.set 0 (.int .i64 ((A1.length : Int) + 1))
          rw [List.length_append]
          simpa using h⟩
        go_roundw
        case rel => exact ⟨k + 1, hlt, by go_num, Lib.hid (HF3.out.trans (Fr.of_grown (grownBy_set W3 ⟨Bl, 0, none⟩ _) fun q hq => .inl (by cases hq; rfl))), Lib.hid (by rw [HRW.out, ← List.append_assoc, HA1.out]; exact HL6.out), Lib.hid (HR3.out.of (Below.heap_setCell _ _ _ _ HNE.out))⟩
        case measure => simp [intOf]; omega
    · obtain rfl : k = 256 := by omega
      go_wp2_with fail
      exact bodyPost_end (v := .tuple #[]) (by simp [results, Try.results38, go_sem]) rfl ⟨rfl, HL.out, HF.out⟩
end Go.Proofs.Ytjikbffnhfoikaa
/- Clearing a row. -/
namespace Go.Proofs.Ytjikbffnhfoikaa
open Go.RowKit Go.Sort Go.Maps
theorem zero768 : (Builtin.zeroCells #[.int .u32 0, .int .u32 0, .int .u32 0] 256).toList = List.replicate 768 (.int .u32 0) := by
  apply List.ext_getElem?
  intro i
  simp only [Builtin.zeroCells, Array.toList_map, List.getElem?_map, Array.getElem?_toList, List.getElem?_replicate]
  by_cases h : i < 768
  · rw [if_pos h, Array.getElem?_range, if_pos (by exact h)]
    have h3 : i % 3 = 0 ∨ i % 3 = 1 ∨ i % 3 = 2 := by omega
    simp only [Option.map_some, Option.some.injEq, List.size_toArray, List.length_cons, List.length_nil, Nat.reduceAdd]
    rcases h3 with e | e | e <;> rw [e] <;> rfl
  · rw [if_neg h, Array.getElem?_range, if_neg (by exact h)]
    rfl
theorem clear_gen {w : World} {g : Nat} {cur : Array Value} (hg : Blk w g 109 cur) (m : Nat) (Z : List Value) (hZ : (Builtin.zeroCells #[.int .u32 0, .int .u32 0, .int .u32 0] (m + 1)).toList = Z) (hs : cur.size = Z.length) (h1 : ∀ v ∈ Z, v.oneCell' = true) (ty : TypeId) :
    (Builtin.clear_ #[113] ty #[.slice (some ⟨g, 0, none⟩) (m + 1) (m + 1)]).run Try.prog w = .ok (.tuple #[]) (w.setRow g Z.toArray) := by
  have hst := run_storeCells_from (P := Try.prog) g 109 Z 0 cur w hg (by rw [hs, Nat.zero_add]) h1
  simp only [List.take_zero, List.nil_append] at hst
  have hz := Try.zeroValue76
  simp [Builtin.clear_, run_underlying Try.underlying113, hz, Value.cells, hZ, hst]
theorem clear_run {w : World} {g : Nat} {cur : Array Value} (hg : Blk w g 109 cur) (hs : cur.size = 768) (ty : TypeId) :
    (Builtin.clear_ #[113] ty #[.slice (some ⟨g, 0, none⟩) 256 256]).run Try.prog w = .ok (.tuple #[]) (w.setRow g (List.replicate 768 (.int .u32 0)).toArray) :=
  clear_gen hg 255 _ zero768 (by rw [hs, List.length_replicate]) (by intro v hv; rw [List.eq_of_mem_replicate hv]; rfl) ty
/-- a row's block, whatever it holds -/
def RowB (w : World) (g : Nat) : Prop := ∃ cur, Blk w g 109 cur ∧ cur.size = 768
theorem RowV.rowB {w : World} {g : Nat} {f : Nat → V} (h : RowV w g f) : RowB w g := by
  obtain ⟨cur, h1, h2, _⟩ := h
  exact ⟨cur, h1, h2⟩
theorem RowB.lt {w : World} {g : Nat} (h : RowB w g) : g < w.heap.size := by
  obtain ⟨cur, h1, _⟩ := h
  exact h1.lt
theorem RowB.notE {w : World} {g : Nat} (h : RowB w g) : ¬ IsE w g := by
  obtain ⟨cur, h1, _⟩ := h
  exact h1.notE (by decide)
theorem RowB.of {w w' : World} {g : Nat} (h : RowB w g) (hb : w'.heap[g]? = w.heap[g]?) : RowB w' g := by
  obtain ⟨cur, h1, h2⟩ := h
  exact ⟨cur, hb.trans h1, h2⟩
/-- clearing: some world in which the row is zero, and nothing else has turned -/
theorem RowB.clear {w : World} {g : Nat} (h : RowB w g) : ∃ w', (∀ ty, (Builtin.clear_ #[113] ty #[.slice (some ⟨g, 0, none⟩) 256 256]).run Try.prog w = .ok (.tuple #[]) w') ∧ RowV w' g (fun _ => zV) ∧ w.grownBy w' (some g) ∧ w'.heap.size = w.heap.size := by
  obtain ⟨cur, h1, h2⟩ := h
  refine ⟨_, fun ty => clear_run h1 h2 ty, ⟨_, setRow_heap w g cur _ _ (0, 0) h1, by rw [List.size_toArray, List.length_replicate], fun t ht => ?_⟩, ⟨rfl, rfl, rfl, Nat.le_of_eq (size_setRow _ _ _).symm, fun k _ hne => setRow_other w g k _ fun e => hne (by rw [e])⟩, size_setRow _ _ _⟩
  simp only [List.getElem?_toArray, List.getElem?_replicate]
  rw [if_pos (by omega), if_pos (by omega), if_pos (by omega)]
  exact ⟨rfl, rfl, rfl⟩
end Go.Proofs.Ytjikbffnhfoikaa
/- The context of eachRow. -/
namespace Go.Proofs.Ytjikbffnhfoikaa
open Go.RowKit Go.Sort Go.Maps
theorem ownsRow_of {w w' : World} {B n len : Nat} {t : TypeId} {v : Value} {vs : List Value} (h : w.ownsRow B t n v len vs) (hb : ∀ g, v.ownBlock = some g → w'.heap[g]? = w.heap[g]?) : w'.ownsRow B t n v len vs := by
  refine ⟨h.1, ?_⟩
  rcases h.2 with hn | ⟨g, cap, cur, h1, h2, h3, rest⟩
  · exact .inl hn
  · exact .inr ⟨g, cap, cur, h1, h2, (hb g (by rw [h1]; rfl)).trans h3, rest⟩
theorem ownsRow_block {w : World} {B n len : Nat} {t : TypeId} {v : Value} {vs : List Value} (h : w.ownsRow B t n v len vs) {g : Nat} (hg : v.ownBlock = some g) : B ≤ g ∧ g < w.heap.size ∧ ∃ cur, Blk w g t cur := by
  rcases h.2 with ⟨h1, h2⟩ | ⟨g', cap, cur, h1, h2, h3, _⟩
  · rw [h1] at hg; simp [Value.ownBlock] at hg
  · rw [h1] at hg
    obtain rfl : g' = g := by simpa [Value.ownBlock] using hg
    exact ⟨h2, (Array.getElem?_eq_some_iff.1 h3).1, cur, h3⟩
/-- a list of numbers of the call's own, from block B on -/
def IL (w : World) (B : Nat) (v : Value) (S : List Int) : Prop := Own w B v S
theorem IL.of {w w' : World} {B : Nat} {v : Value} {S : List Int} (h : IL w B v S) (hb : ∀ g, B ≤ g → g < w.heap.size → (∃ cur, Blk w g 3 cur) → w'.heap[g]? = w.heap[g]?) : IL w' B v S :=
  ownsRow_of h fun g hg => by
    obtain ⟨h1, h2, h3⟩ := ownsRow_block h hg
    exact hb g h1 h2 h3
theorem IL.at {w : World} {B : Nat} {v : Value} {S : List Int} (h : IL w B v S) {j : Nat} (hj : j < S.length) : ∃ b off cap, v = .slice (some ⟨b, off, none⟩) S.length cap ∧ w.cell? ⟨b, off + j, none⟩ = some (.int .i64 S[j]) := by
  obtain ⟨A, cap, e, hi⟩ := Own.ints h
  obtain ⟨b, off, rfl, hc, _⟩ := hi j hj
  refine ⟨b, off, cap, e, ?_⟩
  rw [hc]
  simp [hj]
theorem IL.form {w : World} {B : Nat} {v : Value} {S : List Int} (h : IL w B v S) : ∃ A cap, v = .slice A S.length cap := by
  obtain ⟨A, cap, e, _⟩ := Own.ints h
  exact ⟨A, cap, e⟩
/-- left, as the places and sources that are done -/
def dnP (left : Lit → Bool) (c d _s : Int) : Bool := !left (klP c d)
def dn2 (left : Lit → Bool) (c d : Int) (T : List Int) (c' d' s' : Int) : Bool := if c' = c ∧ d' = d then decide (s' ∈ T) else !left (klP c' d')
theorem Acc.len_leD {A : List E} {L : List Ru} {dn : Int → Int → Int → Bool} (h : Acc A (fD L dn)) : A.length ≤ (M (allE L)).length := by
  have hp : ∀ x y : E, eqP x y → dn x.c x.d x.s = dn y.c y.d y.s := fun x y e => by rw [e.1, e.2.2.1, e.2.2.2]
  rw [h.length (l := (allE L).filter fun z => dn z.c z.d z.s) (fun z => by
    unfold fD
    rw [con_filter (fun z : E => dn z.c z.d z.s) hp, con_all]), M_filter (fun z : E => dn z.c z.d z.s) hp]
  exact List.length_filter_le _ _
theorem Acc.start {L : List Ru} {f : Lit → Option Value} {w : World} {b : Nat} (h : BP w b L f) : Acc [] (fD L (dnP fun kl => (f kl).isSome)) :=
  Acc.nil.same fun z => by
    unfold fD dnP
    by_cases e : grp L z.c z.d = []
    · have : srcB (grp L z.c z.d) z.s = false := by rw [e]; rfl
      rw [con_undone this]
      simp
    · obtain ⟨v, hv, _⟩ := h.yes z.c z.d z.wf.2.2.1 z.wf.2.2.2 e
      show (if false = true then conR z L else zV) = if (!(f (klP z.c z.d)).isSome) = true then conR z L else zV
      rw [hv]
      simp
theorem Acc.open {A : List E} {L : List Ru} {left : Lit → Bool} {c d : Int} (wc : W64 c) (wd : W64 d) (h : Acc A (fD L (dnP left))) (hl : left (klP c d) = true) : Acc A (fD L (dn2 (fun z => left z && !z.sameKey (klP c d)) c d [])) :=
  h.same fun z => by
    unfold fD dnP dn2
    by_cases e : z.c = c ∧ z.d = d
    · rw [if_pos e, e.1, e.2, hl]
      simp
    · rw [if_neg e]
      have : (klP z.c z.d).sameKey (klP c d) = false := sameKey_ne fun k => e (klP_inj z.wf.2.2.1 z.wf.2.2.2 wc wd k)
      simp [this]
theorem Acc.more {A : List E} {L : List Ru} {left : Lit → Bool} {c d s : Int} {T : List Int} (wc : W64 c) (wd : W64 d) (hs : 0 ≤ s ∧ s < 256) (h : Acc A (fD L (dn2 left c d T))) (hn : s ∉ T) : Acc (A ++ rowE c d (grp L c d) s) (fD L (dn2 left c d (T ++ [s]))) :=
  (h.step wc wd hs (by unfold dn2; rw [if_pos ⟨rfl, rfl⟩]; exact decide_eq_false hn)).ext fun c' d' s' => by
    unfold dnAdd dn2
    by_cases e : c' = c ∧ d' = d
    · rw [if_pos e, if_pos e, e.1, e.2]
      simp only [decide_true, Bool.true_and, List.mem_append, List.mem_cons, List.not_mem_nil, or_false]
      rw [← Bool.decide_or]
    · rw [if_neg e, if_neg e]
      have : (decide (c' = c) && (decide (d' = d) && decide (s' = s))) = false := by
        rw [Bool.eq_false_iff]
        intro k
        simp only [Bool.and_eq_true, decide_eq_true_eq] at k
        exact e ⟨k.1, k.2.1⟩
      rw [this, Bool.or_false]
theorem Acc.shut {A : List E} {L : List Ru} {left : Lit → Bool} {c d : Int} {T : List Int} (hl : left (klP c d) = false) (hT : ∀ s, srcB (grp L c d) s = true → s ∈ T) (h : Acc A (fD L (dn2 left c d T))) : Acc A (fD L (dnP left)) :=
  h.same fun z => by
    unfold fD dn2 dnP
    by_cases e : z.c = c ∧ z.d = d
    · rw [if_pos e, e.1, e.2, hl]
      by_cases k : z.s ∈ T
      · simp [k]
      · have : srcB (grp L z.c z.d) z.s = false := by
          rw [Bool.eq_false_iff]
          intro h
          rw [e.1, e.2] at h
          exact k (hT _ h)
        rw [con_undone this]
        simp
    · rw [if_neg e]
theorem Acc.allDone {A : List E} {L : List Ru} {left : Lit → Bool} (h : Acc A (fD L (dnP left))) (hl : ∀ kl, left kl = false) : Acc A fun z => con z (allE L) :=
  h.done fun c d s _ => by unfold dnP; rw [hl]; rfl
/-- the elements of a set, in order -/
def elS (s : S4) : List Int := elems s.a s.b s.c s.d 256
theorem elS_mem {s : S4} {n : Int} : n ∈ elS s ↔ hasS s n = true := by
  unfold elS elems
  rw [List.mem_filter, mem_below]
  constructor
  · intro h; exact h.2
  · intro h; exact ⟨by have := hasS_in h; omega, h⟩
theorem elS_nodup (s : S4) : (elS s).Pairwise (· < ·) := (below_pair 256).filter _
theorem elS_fresh {s : S4} {j : Nat} (hj : j < (elS s).length) : (elS s)[j] ∉ (elS s).take j := by
  intro h
  obtain ⟨i, hi, e⟩ := List.mem_iff_getElem.1 h
  rw [List.getElem_take] at e
  have hij : i < j := by rw [List.length_take] at hi; omega
  have := List.pairwise_iff_getElem.1 (elS_nodup s) i j (by omega) hj hij
  omega
theorem elS_len (s : S4) : (elS s).length ≤ 256 := elems_le _ _ _ _ _
theorem rowK_congr {c d s : Int} {f f' : Int → V} : ∀ k : Nat, (∀ t : Int, 0 ≤ t → t < (k : Int) → f t = f' t) → rowK c d f s k = rowK c d f' s k
  | 0, _ => rfl
  | k + 1, h => by
    rw [rowK_succ, rowK_succ, rowK_congr k fun t h1 h2 => h t h1 (by omega), h k (by omega) (by omega)]
theorem rowK_row (c d s : Int) (G : List Ru) : rowK c d (fun t => rowV G s ((t.toNat : Nat) : Int)) s 256 = rowE c d G s := by
  rw [← rowK_all]
  refine rowK_congr 256 fun t h1 h2 => ?_
  rw [Int.toNat_of_nonneg h1]
theorem rowV_nil (s t : Int) : rowV [] s t = zV := rfl
theorem addF_row (G : List Ru) (r : Ru) (s : Int) (hs : hasS r.src s = true) (t : Nat) : addF r s (fun t => rowV G s ((t : Nat) : Int)) t = rowV (G ++ [r]) s t := by
  unfold addF
  rw [rowV_snoc, hs, Bool.true_and]
  split
  · rfl
  · rw [orV_z]
theorem skip_row (G : List Ru) (r : Ru) (s : Int) (hs : hasS r.src s = false) (t : Int) : rowV G s t = rowV (G ++ [r]) s t := by
  rw [rowV_snoc, hs, Bool.false_and]
  simp [orV_z]
end Go.Proofs.Ytjikbffnhfoikaa
/- eachRow with the visitor of Entries. -/
namespace Go.Proofs.Ytjikbffnhfoikaa
open Go.RowKit Go.Sort Go.Maps
theorem OwnE.of {w w' : World} {B : Nat} {v : Value} {L : List E} (h : OwnE w B v L) (hb : ∀ g, v.ownBlock = some g → w'.heap[g]? = w.heap[g]?) : OwnE w' B v L := ownsRow_of h hb
theorem EL.keep {w w' : World} {Bl base : Nat} {A : List E} (h : EL w Bl base A) (hk : ∀ k, k < w.heap.size → (k = Bl ∨ IsE w k) → w'.heap[k]? = w.heap[k]?) : EL w' Bl base A := by
  obtain ⟨v, h1, h2⟩ := h
  exact ⟨v, (hk Bl h1.lt (.inl rfl)).trans h1, h2.of fun g hg => hk g (h2.own g hg).2 (.inr (h2.isE hg))⟩
theorem EL.blk {w : World} {Bl base : Nat} {A : List E} (h : EL w Bl base A) : ∃ t cs, Blk w Bl t cs := by
  obtain ⟨v, h1, _⟩ := h
  exact ⟨_, _, h1⟩
theorem BP.of {w w' : World} {b : Nat} {L : List Ru} {f : Lit → Option Value} (h : BP w b L f) (hk : ∀ k, b ≤ k → k < w.heap.size → w'.heap[k]? = w.heap[k]?) : BP w' b L f :=
  ⟨h.no, fun c d h1 h2 h3 => by
    obtain ⟨v, hv, ho⟩ := h.yes c d h1 h2 h3
    exact ⟨v, hv, ho.of fun g hg => hk g (ho.own g hg).1 (ho.own g hg).2⟩, h.key, h.ap⟩
theorem RanR.iter {P : Program} {k : TypeId} {w : World} {b r n cnt : Nat} {f : Lit → Option Value} {left : Lit → Bool} (h : RanR P k w b r n f left cnt) {g : Nat} {t : TypeId} {cs : Array Value} (hg : Blk w g t cs) : g ≠ b ∧ g ≠ r := by
  obtain ⟨D, ⟨es, clock, since, seen, c0, h1, h2, h3, h4, h5, rest⟩, hd⟩ := h
  unfold Blk at hg
  exact ⟨fun e => (by subst e; rw [hg] at h1; cases h1), fun e => (by subst e; rw [hg] at h5; cases h5)⟩
structure EC (w : World) (Bl base g0 b r : Nat) (L : List Ru) (f : Lit → Option Value) (left : Lit → Bool) (cnt : Nat) (A : List E) : Prop where
  ran : RanR Try.prog 73 w b r L.length f left cnt
  bp : BP w (b + 1) L f
  el : EL w Bl base A
  row : RowB w g0
  o1 : base ≤ Bl
  o2 : Bl < g0
  o3 : g0 < b
section
variable {w w' : World} {Bl base g0 b r cnt : Nat} {L : List Ru} {f : Lit → Option Value} {left : Lit → Bool} {A A' : List E}
theorem EC.of (h : EC w Bl base g0 b r L f left cnt A) (hk : ∀ k, k < w.heap.size → k ≠ g0 → w'.heap[k]? = w.heap[k]?) (hr : RowB w' g0) : EC w' Bl base g0 b r L f left cnt A := by
  obtain ⟨cur, hg, _⟩ := h.row
  have hi := h.ran.iter hg
  have hlt := h.ran.lt
  exact ⟨h.ran.of (hk b hlt.2.1 hi.1.symm) (hk r hlt.1 hi.2.symm), h.bp.of fun k h1 h2 => hk k h2 (by have := h.o3; omega),
    h.el.keep fun k h1 h2 => hk k h1 (by
      rcases h2 with rfl | h2
      · have := h.o2; omega
      · rintro rfl; exact h.row.notE h2), hr, h.o1, h.o2, h.o3⟩
theorem EC.below (h : EC w Bl base g0 b r L f left cnt A) (hb : Below w.heap.size w w') : EC w' Bl base g0 b r L f left cnt A :=
  h.of (fun k hk _ => hb.block k hk) (h.row.of (hb.block g0 h.row.lt))
theorem EC.but (h : EC w Bl base g0 b r L f left cnt A) (hb : But w.heap.size g0 w w') (hr : RowB w' g0) : EC w' Bl base g0 b r L f left cnt A := h.of (fun k hk hn => hb.block k hk hn) hr
theorem EC.visit (h : EC w Bl base g0 b r L f left cnt A) (hf : Fr Bl base w w') (he : EL w' Bl base A') : EC w' Bl base g0 b r L f left cnt A' := by
  obtain ⟨t, cs, hB⟩ := h.el.blk
  have hi := h.ran.iter hB
  have hlt := h.ran.lt
  exact ⟨h.ran.of (hf.block b hlt.2.1 hi.1.symm fun x => h.ran.noCells.1 x.2) (hf.block r hlt.1 hi.2.symm fun x => h.ran.noCells.2 x.2), h.bp.fr hf (by have := h.o2; have := h.o3; omega), he,
    h.row.of (hf.block g0 h.row.lt (by have := h.o2; omega) fun x => h.row.notE x.2), h.o1, h.o2, h.o3⟩
theorem EC.next (h : EC w Bl base g0 b r L f left cnt A) {left' : Lit → Bool} {cnt' : Nat} (hr : RanR Try.prog 73 w' b r L.length f left' cnt') (hg : w.grownBy w' (some r)) (hbr : b < r) : EC w' Bl base g0 b r L f left' cnt' A := by
  obtain ⟨cur, hrow, _⟩ := h.row
  obtain ⟨t, cs, hB⟩ := h.el.blk
  have hi := h.ran.iter hrow
  have hi2 := h.ran.iter hB
  exact ⟨hr, ⟨h.bp.no, fun c d h1 h2 h3 => by
      obtain ⟨v, hv, ho⟩ := h.bp.yes c d h1 h2 h3
      exact ⟨v, hv, ho.of fun g hgo => hg.block g (ho.own g hgo).2 (fun e => by
        cases e
        obtain ⟨cur, z, e2⟩ := ho.cellsOf hgo
        obtain ⟨D, ⟨es, clock, since, seen, c0, q1, q2, q3, q4, q5, rest⟩, hd⟩ := h.ran
        rw [q5] at e2; cases e2)⟩, h.bp.key, h.bp.ap⟩,
    h.el.keep fun k h1 h2 => hg.block k h1 (fun e => by
      cases e
      rcases h2 with e | h2
      · exact hi2.2 e.symm
      · exact h.ran.noCells.2 h2), h.row.of (hg.block g0 h.row.lt fun e => hi.2 (by cases e; rfl)), h.o1, h.o2, h.o3⟩
end
theorem row_new (w : World) : RowB (w.alloc (.cells Try.zeroCells109 109)) w.heap.size := ⟨_, Blk.new w _ _, by kernel_rfl⟩
theorem placeK {key : Value} {c d : Int} (wc : W64 c) (wd : W64 d) (h : keyOf Try.prog 73 key = some (klP c d)) : key = .agg #[.int .i64 c, .int .i64 d] := keyed_place.inj h (keyOf_place wc wd)
theorem Fr.newG {Bl base : Nat} {w a a' : World} {row : Option Nat} (h : Fr Bl base w a) (hg : a.grownBy a' row) (hr : ∀ k, row = some k → w.heap.size ≤ k) : Fr Bl base w a' :=
  ⟨hg.os.trans h.os, hg.tape.trans h.tape, hg.output.trans h.output, Nat.le_trans h.size hg.size, fun k hk h1 h2 => (hg.block k (Nat.lt_of_lt_of_le hk h.size) fun e => by have := hr k e.symm; omega).trans (h.block k hk h1 h2)⟩
theorem But.grown {g : Nat} {a a' : World} (h : But a.heap.size g a a') : a.grownBy a' (some g) := ⟨h.os, h.tape, h.output, h.size, fun k hk hne => h.block k hk fun e => hne (by rw [e])⟩
theorem EC.rules {w : World} {Bl base g0 b r cnt : Nat} {L : List Ru} {f : Lit → Option Value} {left : Lit → Bool} {A : List E} (h : EC w Bl base g0 b r L f left cnt A) {c d : Int} (wc : W64 c) (wd : W64 d) (hne : grp L c d ≠ []) {vv : Value} (hf : f (klP c d) = some vv) : Rus w vv (grp L c d) := by
  obtain ⟨v, hv, ho⟩ := h.bp.yes c d wc wd hne
  rw [hf] at hv
  cases hv
  exact ho.rus
set_option maxRecDepth 100000 in
set_option maxHeartbeats 8000000 in
theorem eachE_c (v : Value) (L : List Ru) (hl : L.length ≤ 100000) (hN : (M (allE L)).length ≤ 400000) (w : World) (hE : Rus w v L) (Bl base : Nat) (hb : base ≤ Bl) (hL : EL w Bl base []) :
    Calls Try.prog 33 #[v, .func (.func 34) #[] #[.pointer (some ⟨Bl, 0, none⟩)]] w fun e w' => e = .returned (.tuple #[]) ∧ (∃ A, EL w' Bl base A ∧ Acc A fun z => con z (allE L)) ∧ Fr Bl base w w' := by
  have hbl : Bl < w.heap.size := by obtain ⟨t, cs, h⟩ := hL.blk; exact h.lt
  have hb0 : Below w.heap.size w (w.alloc (.cells Try.zeroCells109 109)) := (Below.refl _ w).alloc (Nat.le_refl _) _
  have HR0 := Lib.hid (row_new w)
  have HL0 := Lib.hid (hL.keep (w' := w.alloc (.cells Try.zeroCells109 109)) fun k hk _ => hb0.block k hk)
  have HF0 : Hid (Fr Bl base w (w.alloc (.cells Try.zeroCells109 109))) := Lib.hid (Fr.of_below hb0)
  have HE0 := Lib.hid (hE.keep hb0)
  have HS0 : Hid ((w.alloc (.cells Try.zeroCells109 109)).heap.size = w.heap.size + 1) := Lib.hid (by simp)
  have HBL := Lib.hid hbl
  have HBB := Lib.hid hb
  clear hbl hb0 hL hE hb
  go_enter Try.func33, Try.ntmps33
  go_upto_region 1 with (fail)
  generalize w.alloc (.cells Try.zeroCells109 109) = W0 at *
  generalize hg0 : w.heap.size = g0 at *
  go_wp2_with (first
    | (go_at_call 59; refine (byPlace_c v L hl W0 HE0.out).mono ?_; rintro e W1 ⟨f, rfl, hM, hP, hB⟩; have HM1 := Lib.hid hM; have HP1 := Lib.hid hP; have HB1 := Lib.hid hB; clear hM hP hB)
    | (at_range; refine wpList_range_R rfl _ 110 rfl 73 41 keyed_place Try.underlying110 W0.heap.size L.length f rfl HM1.out ?_; intro W2 cnt0 hrg hg2 hs2; have HR2 := Lib.hid hrg; have HG2 := Lib.hid hg2; clear hrg hg2 hs2))
  go_frame
  have hlt2 := HR2.out.lt
  have HEC : Hid (EC W2 Bl base g0 W0.heap.size W1.heap.size L f (fun kl => (f kl).isSome) cnt0 []) := Lib.hid
    ⟨HR2.out, HP1.out.kept HG2.out (by simp), (HL0.out.keep fun k hk _ => HB1.out.block k hk).keep fun k hk _ => HG2.out.block k hk (by simp), (HR0.out.of (HB1.out.block _ (by have := HR0.out.lt; omega))).of (HG2.out.block _ (by have := HR0.out.lt; have := HB1.out.size; omega) (by simp)), HBB.out, HBL.out, by have := HS0.out; omega⟩
  have HF2 : Hid (Fr Bl base w W2) := Lib.hid ((HF0.out.trans (Fr.of_below HB1.out)).trans (Fr.of_grown HG2.out (by simp)))
  have HWR : Hid (g0 ≤ W1.heap.size) := Lib.hid (by have := HM1.out.lt; have := HS0.out; omega)
  have HBR : Hid (W0.heap.size < W1.heap.size) := Lib.hid (by have := HM1.out.lt; exact this)
  have HA0 := Lib.hid (Acc.start HP1.out)
  clear HR0 HL0 HF0 HE0 HM1 HR2 HG2 hlt2 HP1 HB1
  generalize hbk : W0.heap.size = b at *
  generalize hrk : W1.heap.size = r at *
  go_loopw [6] (fun v6 wr => ∃ (left : Lit → Bool) (cnt : Nat) (A : List E) (vv : Value), vv = v6 ∧ Hid (EC wr Bl base g0 b r L f left cnt A) ∧ Hid (Acc A (fD L (dnP left))) ∧ Hid (Fr Bl base w wr)) (fun _ wr => wr.rangeLeft b r)
  case atStart => exact ⟨_, cnt0, [], _, rfl, HEC, HA0, HF2⟩
  case round =>
    obtain ⟨left, cnt, A, v6, rfl, HC, HA, HF⟩ := hrel
    go_wp2_with (at_next; refine wpList_next_R rfl _ rfl 73 keyed_place b r L.length f left cnt rfl HC.out.ran ?_ ?_)
    · intro hc0 hl0
      have HA2 := Lib.hid (HA.out.allDone hl0)
      clear hc0 hl0
      go_wp2_with fail
      exact bodyPost_end (v := .tuple #[]) (by simp [results, Try.results33, go_sem]) rfl ⟨rfl, ⟨A, HC.out.el, HA2.out⟩, HF.out⟩
    · intro key vv kl w3 cnt3 hkey hlk hf hrg hlt hgr hsz hen
      obtain ⟨c, d, wc, wd, rfl, hne⟩ := HC.out.bp.key kl vv hf
      obtain rfl := placeK wc wd hkey
      have HC3 := Lib.hid (HC.out.next hrg hgr HBR.out)
      have HF3 := Lib.hid (HF.out.newG hgr (fun q hq => by cases hq; have := HWR.out; omega))
      have HLE := Lib.hid HC.out.ran.left_eq
      have HLT := Lib.hid hlt
      have HGE : Hid (∀ u A', ∀ lf ct, EC u Bl base g0 b r L f lf ct A' → Rus u vv (grp L c d)) := Lib.hid fun u A' lf ct h => h.rules wc wd hne hf
      have HLK := Lib.hid hlk
      have HAO := Lib.hid (HA.out.open wc wd hlk)
      obtain ⟨G, hG⟩ : ∃ G, grp L c d = G := ⟨_, rfl⟩
      have HGG := Lib.hid hG
      have HGL : Hid (G.length ≤ 100000) := Lib.hid (by rw [← hG]; exact Nat.le_trans (List.length_filter_le _ _) hl)
      rw [hG] at HGE
      obtain ⟨aoG, capG, rfl, -⟩ := HGE.out w3 A _ _ HC3.out
      have hb4 : Below w3.heap.size w3 (w3.alloc (.cells #[.int .i64 c, .int .i64 d] 73)) := (Below.refl _ w3).alloc (Nat.le_refl _) _
      have HC4 := Lib.hid (HC3.out.below hb4)
      have HF4 := Lib.hid (HF3.out.trans (Fr.of_below hb4))
      have HP4 : Hid (Blk (w3.alloc (.cells #[.int .i64 c, .int .i64 d] 73)) w3.heap.size 73 #[.int .i64 c, .int .i64 d]) := Lib.hid (Blk.new w3 _ _)
      have HSU := Lib.hid (srcS_U G)
      have HB3 : Hid (Bl < w3.heap.size ∧ g0 < w3.heap.size) := Lib.hid ⟨by have := HC3.out.row.lt; have := HC3.out.o2; omega, HC3.out.row.lt⟩
      clear HC HA HF hne hf hrg hlt hgr hsz hlk hkey hG hb4 HC3 HF3
      go_wp2_with (first
        | (go_at_call 60; refine (sources_c _ G HGL.out _ (HGE.out _ _ _ _ HC4.out)).mono ?_; rintro e w5 ⟨rfl, hb5⟩; have HC5 := Lib.hid (HC4.out.below hb5); have HF5 := Lib.hid (HF4.out.trans (Fr.of_below hb5)); have HP5 := Lib.hid (HP4.out.keep hb5); clear hb5)
        | (go_at_call 26; refine (list_c _ _ _ _ _ HSU.out.a HSU.out.b HSU.out.c HSU.out.d).mono ?_; rintro e w6 ⟨vS, hI, rfl, hb6⟩; have HC6 := Lib.hid (HC5.out.below hb6); have HF6 := Lib.hid (HF5.out.trans (Fr.of_below hb6)); have HP6 := Lib.hid (HP5.out.keep hb6); have HI6 : Hid (IL w6 w5.heap.size vS (elS (srcS G))) := Lib.hid hI; obtain ⟨aS, capS, rfl⟩ := HI6.out.form; clear hb6 hI))
      have HB5 : Hid (Bl < w5.heap.size ∧ g0 < w5.heap.size ∧ w3.heap.size < w5.heap.size) := Lib.hid ⟨by have := HC5.out.row.lt; have := HC5.out.o2; omega, HC5.out.row.lt, HP5.out.lt⟩
      clear HC4 HF4 HP4 HC5 HF5 HP5 hen
      generalize hBi : w5.heap.size = Bi at *
      generalize hgp : w3.heap.size = gp at *
      generalize hS : elS (srcS G) = S at *
      have HSM : Hid (∀ n : Int, n ∈ S ↔ srcB G n = true) := Lib.hid fun n => by rw [← hS, elS_mem, srcS_has n G.length G rfl]
      have HSF : Hid (∀ j (h : j < S.length), S[j] ∉ S.take j) := Lib.hid (by rw [← hS]; exact fun j h => elS_fresh h)
      have HSI : Hid (∀ j (h : j < S.length), 0 ≤ S[j] ∧ S[j] < 256) := Lib.hid fun j h => by
        have hm : S[j] ∈ S := List.getElem_mem h
        have hm2 : S[j] ∈ elS (srcS G) := hS.symm ▸ hm
        exact hasS_in (elS_mem.1 hm2)
      have hSl : S.length ≤ 256 := by rw [← hS]; exact elS_len _
      have hSl2 : (S.length : Int) ≤ 256 := by omega
      clear hS
      go_loopw [23] (fun vj wr2 => ∃ (j : Nat) (A2 : List E), j ≤ S.length ∧ vj = .int .i64 j ∧ Hid (EC wr2 Bl base g0 b r L f (fun z => left z && !z.sameKey (klP c d)) cnt3 A2) ∧ Hid (Acc A2 (fD L (dn2 (fun z => left z && !z.sameKey (klP c d)) c d (S.take j)))) ∧ Hid (Fr Bl base w wr2) ∧ Hid (Blk wr2 gp 73 #[.int .i64 c, .int .i64 d]) ∧ Hid (IL wr2 Bi (.slice aS S.length capS) S)) (fun vj _ => S.length - (intOf vj).toNat)
      case atStart => exact ⟨0, A, Nat.zero_le _, rfl, HC6, Lib.hid (by rw [List.take_zero]; exact HAO.out), HF6, HP6, HI6⟩
      case round =>
        obtain ⟨j, A2, hj, rfl, HC, HA, HF, HP, HI⟩ := hrel
        by_cases hjlt : j < S.length
        · have hjlt' : (j : Int) < (S.length : Int) := by omega
          obtain ⟨bS, oS, capS2, e, hcS⟩ := HI.out.at hjlt
          cases e
          obtain ⟨s, hs⟩ : ∃ s, S[j] = s := ⟨_, rfl⟩
          rw [hs] at hcS
          have hsi : 0 ≤ s ∧ s < 256 := by rw [← hs]; exact HSI.out j hjlt
          have HSN : Hid (s ∉ S.take j) := Lib.hid (by rw [← hs]; exact HSF.out j hjlt)
          have HSJ : Hid (S.take (j + 1) = S.take j ++ [s]) := Lib.hid (by rw [List.take_succ_eq_append_getElem hjlt, hs])
          have HAL : Hid (A2.length ≤ 500000) := Lib.hid (by have := HA.out.len_leD; omega)
          obtain ⟨w7, hcl, hRz, hg7, hs7⟩ := HC.out.row.clear
          have HR7 := Lib.hid hRz
          have HC7 := Lib.hid (HC.out.of (fun k hk hn => hg7.block k hk fun e => hn (by cases e; rfl)) hRz.rowB)
          have HF7 := Lib.hid (HF.out.newG hg7 (fun q hq => by cases hq; omega))
          have HP7 : Hid (Blk w7 gp 73 #[.int .i64 c, .int .i64 d]) := Lib.hid ((hg7.block gp HP.out.lt (fun e => by have := HB3.out; cases e; omega)).trans HP.out)
          have HI7 := Lib.hid (HI.out.of fun q h1 h2 _ => hg7.block q h2 (fun e => by have := HB5.out; cases e; omega))
          clear hs hRz hg7 hs7 HC HF HP HI
          go_wp2_with (simp only [hcl])
          clear hcl hcS
          go_loopw [30] (fun vi wr3 => ∃ i : Nat, i ≤ G.length ∧ vi = .int .i64 i ∧ Hid (EC wr3 Bl base g0 b r L f (fun z => left z && !z.sameKey (klP c d)) cnt3 A2) ∧ Hid (RowV wr3 g0 (fun t => rowV (G.take i) s ((t : Nat) : Int))) ∧ Hid (Fr Bl base w wr3) ∧ Hid (Blk wr3 gp 73 #[.int .i64 c, .int .i64 d]) ∧ Hid (IL wr3 Bi (.slice (some ⟨bS, oS, none⟩) S.length capS) S)) (fun vi _ => G.length - (intOf vi).toNat)
          case atStart => exact ⟨0, Nat.zero_le _, rfl, HC7, Lib.hid (HR7.out.fn fun t _ => by rw [List.take_zero]; rfl), HF7, HP7, HI7⟩
          case round =>
            obtain ⟨i, hi, rfl, HC, HR, HF, HP, HI⟩ := hrel
            by_cases hlt : i < G.length
            · have hlt' : (i : Int) < (G.length : Int) := by omega
              have hgl : (G.length : Int) ≤ 100000 := by have := HGL.out; omega
              obtain ⟨ao2, cap2, e, -, hrow⟩ := HGE.out _ _ _ _ HC.out
              obtain ⟨gG, oG, rfl, hRow⟩ := hrow (by rintro rfl; simp at hlt)
              cases e
              obtain ⟨x, hx⟩ : ∃ x, G[i] = x := ⟨_, rfl⟩
              have hcell := (hRow.at hlt).facts
              rw [hx] at hcell
              obtain ⟨q0, q1, q2, q3, q4, q5, q6, q7, q8, q9, q10, q11, q12⟩ := hcell
              have HX : Hid (G.take (i + 1) = G.take i ++ [x]) := Lib.hid (by rw [List.take_succ_eq_append_getElem hlt, hx])
              have hb8 : Below wr.heap.size wr (wr.alloc (.cells #[.int .i64 x.k, .int .u64 x.src.a, .int .u64 x.src.b, .int .u64 x.src.c, .int .u64 x.src.d, .int .u64 x.tgt.a, .int .u64 x.tgt.b, .int .u64 x.tgt.c, .int .u64 x.tgt.d, .bool x.self, .int .i64 x.cl, .int .u32 (vI x.pm), .int .i64 x.cd] 27)) := (Below.refl _ wr).alloc (Nat.le_refl _) _
              have HC8 := Lib.hid (HC.out.below hb8)
              have HR8 := Lib.hid (HR.out.below hb8)
              have HF8 := Lib.hid (HF.out.trans (Fr.of_below hb8))
              have HP8 := Lib.hid (HP.out.keep hb8)
              have HI8 := Lib.hid (HI.out.of fun q h1 h2 _ => hb8.block q h2)
              have HX8 : Hid (BoxR (wr.alloc (.cells #[.int .i64 x.k, .int .u64 x.src.a, .int .u64 x.src.b, .int .u64 x.src.c, .int .u64 x.src.d, .int .u64 x.tgt.a, .int .u64 x.tgt.b, .int .u64 x.tgt.c, .int .u64 x.tgt.d, .bool x.self, .int .i64 x.cl, .int .u32 (vI x.pm), .int .i64 x.cd] 27)) wr.heap.size x) := Lib.hid (Blk.new wr _ _)
              clear hx hRow hrow hb8 HC HR HF HP HI
              obtain ⟨B, hB⟩ : ∃ B, hasS x.src s = B := ⟨_, rfl⟩
              have HHAS : Hid (∀ u, Calls Try.prog 55 #[.agg #[.int .u64 x.src.a, .int .u64 x.src.b, .int .u64 x.src.c, .int .u64 x.src.d], .int .i64 s] u fun e w' => e = .returned (.bool B) ∧ Below u.heap.size u w') := Lib.hid fun u => by
                have h := has_c x.src.a x.src.b x.src.c x.src.d s u
                have e : hasB x.src.a x.src.b x.src.c x.src.d s = B := hB
                rw [e] at h; exact h
              have HBB2 := Lib.hid hB
              clear hB
              cases B
              · go_wp2_with (go_at_call 55; refine (HHAS.out _).mono ?_; rintro e w9 ⟨rfl, hb9⟩; have HC9 := Lib.hid (HC8.out.below hb9); have HR9 := Lib.hid (HR8.out.below hb9); have HF9 := Lib.hid (HF8.out.trans (Fr.of_below hb9)); have HP9 := Lib.hid (HP8.out.keep hb9); have HI9 := Lib.hid (HI8.out.of fun q h1 h2 _ => hb9.block q h2); clear hb9)
                go_roundw
                case rel => exact ⟨i + 1, hlt, by go_num, HC9, Lib.hid (HR9.out.fn fun t _ => by rw [HX.out]; exact skip_row _ _ _ HBB2.out _), HF9, HP9, HI9⟩
                case measure => simp [intOf]; omega
              · go_wp2_with (first
                  | (go_at_call 55; refine (HHAS.out _).mono ?_; rintro e w9 ⟨rfl, hb9⟩; have HC9 := Lib.hid (HC8.out.below hb9); have HR9 := Lib.hid (HR8.out.below hb9); have HF9 := Lib.hid (HF8.out.trans (Fr.of_below hb9)); have HP9 := Lib.hid (HP8.out.keep hb9); have HI9 := Lib.hid (HI8.out.of fun q h1 h2 _ => hb9.block q h2); have hx9 := HX8.out; have hx10 : BoxR w9 wr.heap.size x := Blk.keep hx9 hb9; obtain ⟨x0, x1, x2, x3, x4, x5, x6, x7, x8, x9, x10, x11, x12⟩ := hx10.cells; clear hb9 hx9 hx10)
                  | (go_at_call 61; refine (add_c g0 x s hsi _ _ HR9.out).mono ?_; rintro e w10 ⟨rfl, hR10, hB10⟩; have HR10 := Lib.hid hR10; have HC10 := Lib.hid (HC9.out.but hB10 hR10.rowB); have HF10 := Lib.hid (HF9.out.newG hB10.grown (fun q hq => by cases hq; omega)); have HP10 : Hid (Blk w10 gp 73 #[.int .i64 c, .int .i64 d]) := Lib.hid (hB10.blk HP9.out HP9.out.lt (by have := HB3.out; omega)); have HI10 := Lib.hid (HI9.out.of fun q h1 h2 _ => hB10.block q h2 (by have := HB5.out; omega)); clear hR10 hB10))
                go_roundw
                case rel => exact ⟨i + 1, hlt, by go_num, HC10, Lib.hid (HR10.out.fn fun t _ => by rw [HX.out]; exact addF_row _ _ _ HBB2.out _), HF10, HP10, HI10⟩
                case measure => simp [intOf]; omega
            · obtain rfl : i = G.length := by omega
              have HRG : Hid (RowV wr g0 (fun t => rowV G s ((t : Nat) : Int))) := Lib.hid (by have := HR.out; rwa [List.take_length] at this)
              have hp := HP.out.cell
              have p0 := hp 0
              have p1 := hp 1
              have hlt' : ¬ ((G.length : Nat) : Int) < (G.length : Int) := by omega
              clear hp HR
              go_wp2_with (go_at_call 34; refine (entries1_c s c d hsi wc wd g0 Bl base _ A2 HAL.out _ HRG.out HC.out.el HBB.out).mono ?_; rintro e w9 ⟨rfl, hE9, hF9⟩; have HE9 := Lib.hid hE9; have HF9 := Lib.hid (HF.out.trans hF9); have HC9 := Lib.hid (HC.out.visit hF9 hE9); have HP9 : Hid (Blk w9 gp 73 #[.int .i64 c, .int .i64 d]) := Lib.hid ((hF9.block gp HP.out.lt (by have := HB3.out; omega) fun x => HP.out.notE (by decide) x.2).trans HP.out); have HI9 := Lib.hid (HI.out.of fun q h1 h2 h3 => hF9.block q h2 (by have := HB5.out; omega) fun x => by obtain ⟨cur, hq⟩ := h3; exact hq.notE (by decide) x.2); clear hE9 hF9)
              go_roundw
              case rel => exact ⟨j + 1, _, hjlt, by go_num, HC9, Lib.hid (by rw [HSJ.out]; have h := HA.out.more wc wd hsi HSN.out; rw [HGG.out, ← rowK_row c d s G] at h; exact h), HF9, HP9, HI9⟩
              case measure => simp [intOf]; omega
        · obtain rfl : j = S.length := by omega
          have HAE : Hid (Acc A2 (fD L (dnP (fun z => left z && !z.sameKey (klP c d))))) := Lib.hid (by
            have h := HA.out
            rw [List.take_length] at h
            exact h.shut (by simp [WideAt.sameKey_self (keyed_place.key (keyOf_place wc wd))]) fun s hs => (HSM.out s).2 (by rw [← HGG.out]; exact hs))
          have hlt' : ¬ ((S.length : Nat) : Int) < (S.length : Int) := by omega
          go_wp2_with fail
          go_roundw
          case rel => exact ⟨_, cnt3, A2, _, rfl, HC, HAE, HF⟩
          case measure => rw [HC.out.ran.left_eq, HLE.out]; exact HLT.out
end Go.Proofs.Ytjikbffnhfoikaa
/- eachRow with the visitor of Count. -/
namespace Go.Proofs.Ytjikbffnhfoikaa
open Go.RowKit Go.Sort Go.Maps
theorem NL.keep {w w' : World} {Bl base : Nat} {A : List E} (h : NL w Bl base A) (hk : ∀ k, k < w.heap.size → (k = Bl ∨ IsE w k) → w'.heap[k]? = w.heap[k]?) : NL w' Bl base A := ⟨h.1, (hk Bl h.2.lt (.inl rfl)).trans h.2⟩
theorem NL.blk {w : World} {Bl base : Nat} {A : List E} (h : NL w Bl base A) : ∃ t cs, Blk w Bl t cs := ⟨_, _, h.2⟩
structure NC (w : World) (Bl base g0 b r : Nat) (L : List Ru) (f : Lit → Option Value) (left : Lit → Bool) (cnt : Nat) (A : List E) : Prop where
  ran : RanR Try.prog 73 w b r L.length f left cnt
  bp : BP w (b + 1) L f
  el : NL w Bl base A
  row : RowB w g0
  o1 : base ≤ Bl
  o2 : Bl < g0
  o3 : g0 < b
section
variable {w w' : World} {Bl base g0 b r cnt : Nat} {L : List Ru} {f : Lit → Option Value} {left : Lit → Bool} {A A' : List E}
theorem NC.of (h : NC w Bl base g0 b r L f left cnt A) (hk : ∀ k, k < w.heap.size → k ≠ g0 → w'.heap[k]? = w.heap[k]?) (hr : RowB w' g0) : NC w' Bl base g0 b r L f left cnt A := by
  obtain ⟨cur, hg, _⟩ := h.row
  have hi := h.ran.iter hg
  have hlt := h.ran.lt
  exact ⟨h.ran.of (hk b hlt.2.1 hi.1.symm) (hk r hlt.1 hi.2.symm), h.bp.of fun k h1 h2 => hk k h2 (by have := h.o3; omega),
    h.el.keep fun k h1 h2 => hk k h1 (by
      rcases h2 with rfl | h2
      · have := h.o2; omega
      · rintro rfl; exact h.row.notE h2), hr, h.o1, h.o2, h.o3⟩
theorem NC.below (h : NC w Bl base g0 b r L f left cnt A) (hb : Below w.heap.size w w') : NC w' Bl base g0 b r L f left cnt A :=
  h.of (fun k hk _ => hb.block k hk) (h.row.of (hb.block g0 h.row.lt))
theorem NC.but (h : NC w Bl base g0 b r L f left cnt A) (hb : But w.heap.size g0 w w') (hr : RowB w' g0) : NC w' Bl base g0 b r L f left cnt A := h.of (fun k hk hn => hb.block k hk hn) hr
theorem NC.visit (h : NC w Bl base g0 b r L f left cnt A) (hf : Fr Bl base w w') (he : NL w' Bl base A') : NC w' Bl base g0 b r L f left cnt A' := by
  obtain ⟨t, cs, hB⟩ := h.el.blk
  have hi := h.ran.iter hB
  have hlt := h.ran.lt
  exact ⟨h.ran.of (hf.block b hlt.2.1 hi.1.symm fun x => h.ran.noCells.1 x.2) (hf.block r hlt.1 hi.2.symm fun x => h.ran.noCells.2 x.2), h.bp.fr hf (by have := h.o2; have := h.o3; omega), he,
    h.row.of (hf.block g0 h.row.lt (by have := h.o2; omega) fun x => h.row.notE x.2), h.o1, h.o2, h.o3⟩
theorem NC.next (h : NC w Bl base g0 b r L f left cnt A) {left' : Lit → Bool} {cnt' : Nat} (hr : RanR Try.prog 73 w' b r L.length f left' cnt') (hg : w.grownBy w' (some r)) (hbr : b < r) : NC w' Bl base g0 b r L f left' cnt' A := by
  obtain ⟨cur, hrow, _⟩ := h.row
  obtain ⟨t, cs, hB⟩ := h.el.blk
  have hi := h.ran.iter hrow
  have hi2 := h.ran.iter hB
  exact ⟨hr, ⟨h.bp.no, fun c d h1 h2 h3 => by
      obtain ⟨v, hv, ho⟩ := h.bp.yes c d h1 h2 h3
      exact ⟨v, hv, ho.of fun g hgo => hg.block g (ho.own g hgo).2 (fun e => by
        cases e
        obtain ⟨cur, z, e2⟩ := ho.cellsOf hgo
        obtain ⟨D, ⟨es, clock, since, seen, c0, q1, q2, q3, q4, q5, rest⟩, hd⟩ := h.ran
        rw [q5] at e2; cases e2)⟩, h.bp.key, h.bp.ap⟩,
    h.el.keep fun k h1 h2 => hg.block k h1 (fun e => by
      cases e
      rcases h2 with e | h2
      · exact hi2.2 e.symm
      · exact h.ran.noCells.2 h2), h.row.of (hg.block g0 h.row.lt fun e => hi.2 (by cases e; rfl)), h.o1, h.o2, h.o3⟩
end
theorem NC.rules {w : World} {Bl base g0 b r cnt : Nat} {L : List Ru} {f : Lit → Option Value} {left : Lit → Bool} {A : List E} (h : NC w Bl base g0 b r L f left cnt A) {c d : Int} (wc : W64 c) (wd : W64 d) (hne : grp L c d ≠ []) {vv : Value} (hf : f (klP c d) = some vv) : Rus w vv (grp L c d) := by
  obtain ⟨v, hv, ho⟩ := h.bp.yes c d wc wd hne
  rw [hf] at hv
  cases hv
  exact ho.rus
set_option maxRecDepth 100000 in
set_option maxHeartbeats 8000000 in
theorem eachN_c (v : Value) (L : List Ru) (hl : L.length ≤ 100000) (hN : (M (allE L)).length ≤ 400000) (w : World) (hE : Rus w v L) (Bl base : Nat) (hb : base ≤ Bl) (hL : NL w Bl base []) :
    Calls Try.prog 33 #[v, .func (.func 38) #[] #[.pointer (some ⟨Bl, 0, none⟩)]] w fun e w' => e = .returned (.tuple #[]) ∧ (∃ A, NL w' Bl base A ∧ Acc A fun z => con z (allE L)) ∧ Fr Bl base w w' := by
  have hbl : Bl < w.heap.size := by obtain ⟨t, cs, h⟩ := NL.blk hL; exact h.lt
  have hb0 : Below w.heap.size w (w.alloc (.cells Try.zeroCells109 109)) := (Below.refl _ w).alloc (Nat.le_refl _) _
  have HR0 := Lib.hid (row_new w)
  have HL0 := Lib.hid (NL.keep hL (w' := w.alloc (.cells Try.zeroCells109 109)) fun k hk _ => hb0.block k hk)
  have HF0 : Hid (Fr Bl base w (w.alloc (.cells Try.zeroCells109 109))) := Lib.hid (Fr.of_below hb0)
  have HE0 := Lib.hid (hE.keep hb0)
  have HS0 : Hid ((w.alloc (.cells Try.zeroCells109 109)).heap.size = w.heap.size + 1) := Lib.hid (by simp)
  have HBL := Lib.hid hbl
  have HBB := Lib.hid hb
  clear hbl hb0 hL hE hb
  go_enter Try.func33, Try.ntmps33
  go_upto_region 1 with (fail)
  generalize w.alloc (.cells Try.zeroCells109 109) = W0 at *
  generalize hg0 : w.heap.size = g0 at *
  go_wp2_with (first
    | (go_at_call 59; refine (byPlace_c v L hl W0 HE0.out).mono ?_; rintro e W1 ⟨f, rfl, hM, hP, hB⟩; have HM1 := Lib.hid hM; have HP1 := Lib.hid hP; have HB1 := Lib.hid hB; clear hM hP hB)
    | (at_range; refine wpList_range_R rfl _ 110 rfl 73 41 keyed_place Try.underlying110 W0.heap.size L.length f rfl HM1.out ?_; intro W2 cnt0 hrg hg2 hs2; have HR2 := Lib.hid hrg; have HG2 := Lib.hid hg2; clear hrg hg2 hs2))
  go_frame
  have hlt2 := HR2.out.lt
  have HNC : Hid (NC W2 Bl base g0 W0.heap.size W1.heap.size L f (fun kl => (f kl).isSome) cnt0 []) := Lib.hid
    ⟨HR2.out, HP1.out.kept HG2.out (by simp), NL.keep (NL.keep HL0.out fun k hk _ => HB1.out.block k hk) fun k hk _ => HG2.out.block k hk (by simp), (HR0.out.of (HB1.out.block _ (by have := HR0.out.lt; omega))).of (HG2.out.block _ (by have := HR0.out.lt; have := HB1.out.size; omega) (by simp)), HBB.out, HBL.out, by have := HS0.out; omega⟩
  have HF2 : Hid (Fr Bl base w W2) := Lib.hid ((HF0.out.trans (Fr.of_below HB1.out)).trans (Fr.of_grown HG2.out (by simp)))
  have HWR : Hid (g0 ≤ W1.heap.size) := Lib.hid (by have := HM1.out.lt; have := HS0.out; omega)
  have HBR : Hid (W0.heap.size < W1.heap.size) := Lib.hid (by have := HM1.out.lt; exact this)
  have HA0 := Lib.hid (Acc.start HP1.out)
  clear HR0 HL0 HF0 HE0 HM1 HR2 HG2 hlt2 HP1 HB1
  generalize hbk : W0.heap.size = b at *
  generalize hrk : W1.heap.size = r at *
  go_loopw [6] (fun v6 wr => ∃ (left : Lit → Bool) (cnt : Nat) (A : List E) (vv : Value), vv = v6 ∧ Hid (NC wr Bl base g0 b r L f left cnt A) ∧ Hid (Acc A (fD L (dnP left))) ∧ Hid (Fr Bl base w wr)) (fun _ wr => wr.rangeLeft b r)
  case atStart => exact ⟨_, cnt0, [], _, rfl, HNC, HA0, HF2⟩
  case round =>
    obtain ⟨left, cnt, A, v6, rfl, HC, HA, HF⟩ := hrel
    go_wp2_with (at_next; refine wpList_next_R rfl _ rfl 73 keyed_place b r L.length f left cnt rfl HC.out.ran ?_ ?_)
    · intro hc0 hl0
      have HA2 := Lib.hid (HA.out.allDone hl0)
      clear hc0 hl0
      go_wp2_with fail
      exact bodyPost_end (v := .tuple #[]) (by simp [results, Try.results33, go_sem]) rfl ⟨rfl, ⟨A, HC.out.el, HA2.out⟩, HF.out⟩
    · intro key vv kl w3 cnt3 hkey hlk hf hrg hlt hgr hsz hen
      obtain ⟨c, d, wc, wd, rfl, hne⟩ := HC.out.bp.key kl vv hf
      obtain rfl := placeK wc wd hkey
      have HC3 := Lib.hid (HC.out.next hrg hgr HBR.out)
      have HF3 := Lib.hid (HF.out.newG hgr (fun q hq => by cases hq; have := HWR.out; omega))
      have HLE := Lib.hid HC.out.ran.left_eq
      have HLT := Lib.hid hlt
      have HGE : Hid (∀ u A', ∀ lf ct, NC u Bl base g0 b r L f lf ct A' → Rus u vv (grp L c d)) := Lib.hid fun u A' lf ct h => h.rules wc wd hne hf
      have HLK := Lib.hid hlk
      have HAO := Lib.hid (HA.out.open wc wd hlk)
      obtain ⟨G, hG⟩ : ∃ G, grp L c d = G := ⟨_, rfl⟩
      have HGG := Lib.hid hG
      have HGL : Hid (G.length ≤ 100000) := Lib.hid (by rw [← hG]; exact Nat.le_trans (List.length_filter_le _ _) hl)
      rw [hG] at HGE
      obtain ⟨aoG, capG, rfl, -⟩ := HGE.out w3 A _ _ HC3.out
      have hb4 : Below w3.heap.size w3 (w3.alloc (.cells #[.int .i64 c, .int .i64 d] 73)) := (Below.refl _ w3).alloc (Nat.le_refl _) _
      have HC4 := Lib.hid (HC3.out.below hb4)
      have HF4 := Lib.hid (HF3.out.trans (Fr.of_below hb4))
      have HP4 : Hid (Blk (w3.alloc (.cells #[.int .i64 c, .int .i64 d] 73)) w3.heap.size 73 #[.int .i64 c, .int .i64 d]) := Lib.hid (Blk.new w3 _ _)
      have HSU := Lib.hid (srcS_U G)
      have HB3 : Hid (Bl < w3.heap.size ∧ g0 < w3.heap.size) := Lib.hid ⟨by have := HC3.out.row.lt; have := HC3.out.o2; omega, HC3.out.row.lt⟩
      clear HC HA HF hne hf hrg hlt hgr hsz hlk hkey hG hb4 HC3 HF3
      go_wp2_with (first
        | (go_at_call 60; refine (sources_c _ G HGL.out _ (HGE.out _ _ _ _ HC4.out)).mono ?_; rintro e w5 ⟨rfl, hb5⟩; have HC5 := Lib.hid (HC4.out.below hb5); have HF5 := Lib.hid (HF4.out.trans (Fr.of_below hb5)); have HP5 := Lib.hid (HP4.out.keep hb5); clear hb5)
        | (go_at_call 26; refine (list_c _ _ _ _ _ HSU.out.a HSU.out.b HSU.out.c HSU.out.d).mono ?_; rintro e w6 ⟨vS, hI, rfl, hb6⟩; have HC6 := Lib.hid (HC5.out.below hb6); have HF6 := Lib.hid (HF5.out.trans (Fr.of_below hb6)); have HP6 := Lib.hid (HP5.out.keep hb6); have HI6 : Hid (IL w6 w5.heap.size vS (elS (srcS G))) := Lib.hid hI; obtain ⟨aS, capS, rfl⟩ := HI6.out.form; clear hb6 hI))
      have HB5 : Hid (Bl < w5.heap.size ∧ g0 < w5.heap.size ∧ w3.heap.size < w5.heap.size) := Lib.hid ⟨by have := HC5.out.row.lt; have := HC5.out.o2; omega, HC5.out.row.lt, HP5.out.lt⟩
      clear HC4 HF4 HP4 HC5 HF5 HP5 hen
      generalize hBi : w5.heap.size = Bi at *
      generalize hgp : w3.heap.size = gp at *
      generalize hS : elS (srcS G) = S at *
      have HSM : Hid (∀ n : Int, n ∈ S ↔ srcB G n = true) := Lib.hid fun n => by rw [← hS, elS_mem, srcS_has n G.length G rfl]
      have HSF : Hid (∀ j (h : j < S.length), S[j] ∉ S.take j) := Lib.hid (by rw [← hS]; exact fun j h => elS_fresh h)
      have HSI : Hid (∀ j (h : j < S.length), 0 ≤ S[j] ∧ S[j] < 256) := Lib.hid fun j h => by
        have hm : S[j] ∈ S := List.getElem_mem h
        have hm2 : S[j] ∈ elS (srcS G) := hS.symm ▸ hm
        exact hasS_in (elS_mem.1 hm2)
      have hSl : S.length ≤ 256 := by rw [← hS]; exact elS_len _
      have hSl2 : (S.length : Int) ≤ 256 := by omega
      clear hS
      go_loopw [23] (fun vj wr2 => ∃ (j : Nat) (A2 : List E), j ≤ S.length ∧ vj = .int .i64 j ∧ Hid (NC wr2 Bl base g0 b r L f (fun z => left z && !z.sameKey (klP c d)) cnt3 A2) ∧ Hid (Acc A2 (fD L (dn2 (fun z => left z && !z.sameKey (klP c d)) c d (S.take j)))) ∧ Hid (Fr Bl base w wr2) ∧ Hid (Blk wr2 gp 73 #[.int .i64 c, .int .i64 d]) ∧ Hid (IL wr2 Bi (.slice aS S.length capS) S)) (fun vj _ => S.length - (intOf vj).toNat)
      case atStart => exact ⟨0, A, Nat.zero_le _, rfl, HC6, Lib.hid (by rw [List.take_zero]; exact HAO.out), HF6, HP6, HI6⟩
      case round =>
        obtain ⟨j, A2, hj, rfl, HC, HA, HF, HP, HI⟩ := hrel
        by_cases hjlt : j < S.length
        · have hjlt' : (j : Int) < (S.length : Int) := by omega
          obtain ⟨bS, oS, capS2, e, hcS⟩ := HI.out.at hjlt
          cases e
          obtain ⟨s, hs⟩ : ∃ s, S[j] = s := ⟨_, rfl⟩
          rw [hs] at hcS
          have hsi : 0 ≤ s ∧ s < 256 := by rw [← hs]; exact HSI.out j hjlt
          have HSN : Hid (s ∉ S.take j) := Lib.hid (by rw [← hs]; exact HSF.out j hjlt)
          have HSJ : Hid (S.take (j + 1) = S.take j ++ [s]) := Lib.hid (by rw [List.take_succ_eq_append_getElem hjlt, hs])
          have HAL : Hid (A2.length ≤ 500000) := Lib.hid (by have := HA.out.len_leD; omega)
          obtain ⟨w7, hcl, hRz, hg7, hs7⟩ := HC.out.row.clear
          have HR7 := Lib.hid hRz
          have HC7 := Lib.hid (HC.out.of (fun k hk hn => hg7.block k hk fun e => hn (by cases e; rfl)) hRz.rowB)
          have HF7 := Lib.hid (HF.out.newG hg7 (fun q hq => by cases hq; omega))
          have HP7 : Hid (Blk w7 gp 73 #[.int .i64 c, .int .i64 d]) := Lib.hid ((hg7.block gp HP.out.lt (fun e => by have := HB3.out; cases e; omega)).trans HP.out)
          have HI7 := Lib.hid (HI.out.of fun q h1 h2 _ => hg7.block q h2 (fun e => by have := HB5.out; cases e; omega))
          clear hs hRz hg7 hs7 HC HF HP HI
          go_wp2_with (simp only [hcl])
          clear hcl hcS
          go_loopw [30] (fun vi wr3 => ∃ i : Nat, i ≤ G.length ∧ vi = .int .i64 i ∧ Hid (NC wr3 Bl base g0 b r L f (fun z => left z && !z.sameKey (klP c d)) cnt3 A2) ∧ Hid (RowV wr3 g0 (fun t => rowV (G.take i) s ((t : Nat) : Int))) ∧ Hid (Fr Bl base w wr3) ∧ Hid (Blk wr3 gp 73 #[.int .i64 c, .int .i64 d]) ∧ Hid (IL wr3 Bi (.slice (some ⟨bS, oS, none⟩) S.length capS) S)) (fun vi _ => G.length - (intOf vi).toNat)
          case atStart => exact ⟨0, Nat.zero_le _, rfl, HC7, Lib.hid (HR7.out.fn fun t _ => by rw [List.take_zero]; rfl), HF7, HP7, HI7⟩
          case round =>
            obtain ⟨i, hi, rfl, HC, HR, HF, HP, HI⟩ := hrel
            by_cases hlt : i < G.length
            · have hlt' : (i : Int) < (G.length : Int) := by omega
              have hgl : (G.length : Int) ≤ 100000 := by have := HGL.out; omega
              obtain ⟨ao2, cap2, e, -, hrow⟩ := HGE.out _ _ _ _ HC.out
              obtain ⟨gG, oG, rfl, hRow⟩ := hrow (by rintro rfl; simp at hlt)
              cases e
              obtain ⟨x, hx⟩ : ∃ x, G[i] = x := ⟨_, rfl⟩
              have hcell := (hRow.at hlt).facts
              rw [hx] at hcell
              obtain ⟨q0, q1, q2, q3, q4, q5, q6, q7, q8, q9, q10, q11, q12⟩ := hcell
              have HX : Hid (G.take (i + 1) = G.take i ++ [x]) := Lib.hid (by rw [List.take_succ_eq_append_getElem hlt, hx])
              have hb8 : Below wr.heap.size wr (wr.alloc (.cells #[.int .i64 x.k, .int .u64 x.src.a, .int .u64 x.src.b, .int .u64 x.src.c, .int .u64 x.src.d, .int .u64 x.tgt.a, .int .u64 x.tgt.b, .int .u64 x.tgt.c, .int .u64 x.tgt.d, .bool x.self, .int .i64 x.cl, .int .u32 (vI x.pm), .int .i64 x.cd] 27)) := (Below.refl _ wr).alloc (Nat.le_refl _) _
              have HC8 := Lib.hid (HC.out.below hb8)
              have HR8 := Lib.hid (HR.out.below hb8)
              have HF8 := Lib.hid (HF.out.trans (Fr.of_below hb8))
              have HP8 := Lib.hid (HP.out.keep hb8)
              have HI8 := Lib.hid (HI.out.of fun q h1 h2 _ => hb8.block q h2)
              have HX8 : Hid (BoxR (wr.alloc (.cells #[.int .i64 x.k, .int .u64 x.src.a, .int .u64 x.src.b, .int .u64 x.src.c, .int .u64 x.src.d, .int .u64 x.tgt.a, .int .u64 x.tgt.b, .int .u64 x.tgt.c, .int .u64 x.tgt.d, .bool x.self, .int .i64 x.cl, .int .u32 (vI x.pm), .int .i64 x.cd] 27)) wr.heap.size x) := Lib.hid (Blk.new wr _ _)
              clear hx hRow hrow hb8 HC HR HF HP HI
              obtain ⟨B, hB⟩ : ∃ B, hasS x.src s = B := ⟨_, rfl⟩
              have HHAS : Hid (∀ u, Calls Try.prog 55 #[.agg #[.int .u64 x.src.a, .int .u64 x.src.b, .int .u64 x.src.c, .int .u64 x.src.d], .int .i64 s] u fun e w' => e = .returned (.bool B) ∧ Below u.heap.size u w') := Lib.hid fun u => by
                have h := has_c x.src.a x.src.b x.src.c x.src.d s u
                have e : hasB x.src.a x.src.b x.src.c x.src.d s = B := hB
                rw [e] at h; exact h
              have HBB2 := Lib.hid hB
              clear hB
              cases B
              · go_wp2_with (go_at_call 55; refine (HHAS.out _).mono ?_; rintro e w9 ⟨rfl, hb9⟩; have HC9 := Lib.hid (HC8.out.below hb9); have HR9 := Lib.hid (HR8.out.below hb9); have HF9 := Lib.hid (HF8.out.trans (Fr.of_below hb9)); have HP9 := Lib.hid (HP8.out.keep hb9); have HI9 := Lib.hid (HI8.out.of fun q h1 h2 _ => hb9.block q h2); clear hb9)
                go_roundw
                case rel => exact ⟨i + 1, hlt, by go_num, HC9, Lib.hid (HR9.out.fn fun t _ => by rw [HX.out]; exact skip_row _ _ _ HBB2.out _), HF9, HP9, HI9⟩
                case measure => simp [intOf]; omega
              · go_wp2_with (first
                  | (go_at_call 55; refine (HHAS.out _).mono ?_; rintro e w9 ⟨rfl, hb9⟩; have HC9 := Lib.hid (HC8.out.below hb9); have HR9 := Lib.hid (HR8.out.below hb9); have HF9 := Lib.hid (HF8.out.trans (Fr.of_below hb9)); have HP9 := Lib.hid (HP8.out.keep hb9); have HI9 := Lib.hid (HI8.out.of fun q h1 h2 _ => hb9.block q h2); have hx9 := HX8.out; have hx10 : BoxR w9 wr.heap.size x := Blk.keep hx9 hb9; obtain ⟨x0, x1, x2, x3, x4, x5, x6, x7, x8, x9, x10, x11, x12⟩ := hx10.cells; clear hb9 hx9 hx10)
                  | (go_at_call 61; refine (add_c g0 x s hsi _ _ HR9.out).mono ?_; rintro e w10 ⟨rfl, hR10, hB10⟩; have HR10 := Lib.hid hR10; have HC10 := Lib.hid (HC9.out.but hB10 hR10.rowB); have HF10 := Lib.hid (HF9.out.newG hB10.grown (fun q hq => by cases hq; omega)); have HP10 : Hid (Blk w10 gp 73 #[.int .i64 c, .int .i64 d]) := Lib.hid (hB10.blk HP9.out HP9.out.lt (by have := HB3.out; omega)); have HI10 := Lib.hid (HI9.out.of fun q h1 h2 _ => hB10.block q h2 (by have := HB5.out; omega)); clear hR10 hB10))
                go_roundw
                case rel => exact ⟨i + 1, hlt, by go_num, HC10, Lib.hid (HR10.out.fn fun t _ => by rw [HX.out]; exact addF_row _ _ _ HBB2.out _), HF10, HP10, HI10⟩
                case measure => simp [intOf]; omega
            · obtain rfl : i = G.length := by omega
              have HRG : Hid (RowV wr g0 (fun t => rowV G s ((t : Nat) : Int))) := Lib.hid (by have := HR.out; rwa [List.take_length] at this)
              have hp := HP.out.cell
              have p0 := hp 0
              have p1 := hp 1
              have hlt' : ¬ ((G.length : Nat) : Int) < (G.length : Int) := by omega
              clear hp HR
              go_wp2_with (go_at_call 38; refine (count1_c s c d hsi wc wd g0 Bl base _ A2 HAL.out _ HRG.out HC.out.el HBB.out).mono ?_; rintro e w9 ⟨rfl, hE9, hF9⟩; have HE9 := Lib.hid hE9; have HF9 := Lib.hid (HF.out.trans hF9); have HC9 := Lib.hid (HC.out.visit hF9 hE9); have HP9 : Hid (Blk w9 gp 73 #[.int .i64 c, .int .i64 d]) := Lib.hid ((hF9.block gp HP.out.lt (by have := HB3.out; omega) fun x => HP.out.notE (by decide) x.2).trans HP.out); have HI9 := Lib.hid (HI.out.of fun q h1 h2 h3 => hF9.block q h2 (by have := HB5.out; omega) fun x => by obtain ⟨cur, hq⟩ := h3; exact hq.notE (by decide) x.2); clear hE9 hF9)
              go_roundw
              case rel => exact ⟨j + 1, _, hjlt, by go_num, HC9, Lib.hid (by rw [HSJ.out]; have h := HA.out.more wc wd hsi HSN.out; rw [HGG.out, ← rowK_row c d s G] at h; exact h), HF9, HP9, HI9⟩
              case measure => simp [intOf]; omega
        · obtain rfl : j = S.length := by omega
          have HAE : Hid (Acc A2 (fD L (dnP (fun z => left z && !z.sameKey (klP c d))))) := Lib.hid (by
            have h := HA.out
            rw [List.take_length] at h
            exact h.shut (by simp [WideAt.sameKey_self (keyed_place.key (keyOf_place wc wd))]) fun s hs => (HSM.out s).2 (by rw [← HGG.out]; exact hs))
          have hlt' : ¬ ((S.length : Nat) : Int) < (S.length : Int) := by omega
          go_wp2_with fail
          go_roundw
          case rel => exact ⟨_, cnt3, A2, _, rfl, HC, HAE, HF⟩
          case measure => rw [HC.out.ran.left_eq, HLE.out]; exact HLT.out
end Go.Proofs.Ytjikbffnhfoikaa
/- Entries and Count. -/
namespace Go.Proofs.Ytjikbffnhfoikaa
open Go.RowKit Go.Sort Go.Maps
theorem Fr.under {Bl base : Nat} {w w' : World} (h : Fr Bl base w w') (hb : base ≤ Bl) (hs : base ≤ w.heap.size) : Below base w w' := (h.below hb).resolve_right (by omega)
set_option maxRecDepth 100000 in
set_option maxHeartbeats 8000000 in
theorem entries_c (u0 u1 u2 u3 u4 u5 u6 u7 u8 u10 u11 u12 u13 u14 u15 u16 v : Value) (L : List Ru) (hl : L.length ≤ 100000) (hN : (M (allE L)).length ≤ 100000) (w : World) (hE : Rus w v L) :
    Calls Try.prog 17 #[.agg #[u0, u1, u2, u3, u4, u5, u6, u7, u8, v, u10, u11, u12, u13, u14, u15, u16]] w fun e w' => ∃ v', e = .returned v' ∧ Ents w' v' (M (allE L)) ∧ Below w.heap.size w w' := by
  have hb0 : Below w.heap.size w ((w.alloc (.cells #[u0, u1, u2, u3, u4, u5, u6, u7, u8, v, u10, u11, u12, u13, u14, u15, u16] 50)).alloc (.cells #[.slice none 0 0] 52)) := ((Below.refl _ w).alloc (Nat.le_refl _) _).alloc (by simp) _
  have HE0 := Lib.hid (hE.keep hb0)
  have HL0 : Hid (EL ((w.alloc (.cells #[u0, u1, u2, u3, u4, u5, u6, u7, u8, v, u10, u11, u12, u13, u14, u15, u16] 50)).alloc (.cells #[.slice none 0 0] 52)) (w.heap.size + 1) (w.heap.size + 1) []) := Lib.hid ⟨.slice none 0 0, by
    have h := Blk.new (w.alloc (.cells #[u0, u1, u2, u3, u4, u5, u6, u7, u8, v, u10, u11, u12, u13, u14, u15, u16] 50)) 52 #[.slice none 0 0]
    rw [World.size_alloc] at h; exact h, OwnE.nil _ _⟩
  have HB0 := Lib.hid hb0
  have HS0 : Hid (((w.alloc (.cells #[u0, u1, u2, u3, u4, u5, u6, u7, u8, v, u10, u11, u12, u13, u14, u15, u16] 50)).alloc (.cells #[.slice none 0 0] 52)).heap.size = w.heap.size + 2) := Lib.hid (by simp)
  clear hb0 hE
  go_enter Try.func17, Try.ntmps17
  go_upto_region 2 with (fail)
  go_upto_region 3 with (go_at_call 33; refine (eachE_c v L hl (Nat.le_trans hN (by decide)) _ HE0.out (w.heap.size + 1) (w.heap.size + 1) (Nat.le_refl _) HL0.out).mono ?_; rintro e w3 ⟨rfl, ⟨A, ⟨vA, hBA, hOA⟩, hA⟩, hF⟩; have hc0 := hBA.cell 0; have HBA := Lib.hid hBA; have HOA := Lib.hid hOA; have HA := Lib.hid hA; have HB3 : Hid (Below w.heap.size w w3) := Lib.hid (HB0.out.trans ((hF.under (Nat.le_refl _) (by have := HS0.out; omega)).mono (Nat.le_succ _))); clear hBA hOA hA hF)
  have hAl : A.length ≤ 100000 := by rw [HA.out.length (fun z => rfl)]; exact hN
  have HSC := Lib.hid (sort_c hAl HOA.out)
  clear hAl
  go_wp2_with (go_at_call 36; refine HSC.out.mono ?_; rintro e w4 ⟨rfl, S, hS, hso, hg⟩; have hB4 : Blk w4 (w.heap.size + 1) 52 #[vA] := (hg.block _ HBA.out.lt (fun x => (HBA.out.notE (by decide)) (HOA.out.isE x.symm))).trans HBA.out; have hc1 := hB4.cell 0; have HS := Lib.hid hS; have HSO := Lib.hid hso; have HG := Lib.hid hg; clear hS hso hg hB4)
  go_ret
  obtain rfl := HA.out.sorted (fun z => rfl) HSO.out.1 HSO.out.2
  exact ⟨_, rfl, HS.out, HB3.out.grown HG.out HB3.out.size (fun k e => by have := (HOA.out.own k e).1; omega)⟩
set_option maxRecDepth 100000 in
set_option maxHeartbeats 8000000 in
theorem count_c' (u0 u1 u2 u3 u4 u5 u6 u7 u8 u10 u11 u12 u13 u14 u15 u16 v : Value) (L : List Ru) (hl : L.length ≤ 100000) (hN : (M (allE L)).length ≤ 100000) (w : World) (hE : Rus w v L) :
    Calls Try.prog 18 #[.agg #[u0, u1, u2, u3, u4, u5, u6, u7, u8, v, u10, u11, u12, u13, u14, u15, u16]] w fun e w' => e = .returned (.int .i64 ((M (allE L)).length : Int)) ∧ Below w.heap.size w w' := by
  have hb0 : Below w.heap.size w ((w.alloc (.cells #[u0, u1, u2, u3, u4, u5, u6, u7, u8, v, u10, u11, u12, u13, u14, u15, u16] 50)).alloc (.cells #[.int .i64 0] 3)) := ((Below.refl _ w).alloc (Nat.le_refl _) _).alloc (by simp) _
  have HE0 := Lib.hid (hE.keep hb0)
  have HL0 : Hid (NL ((w.alloc (.cells #[u0, u1, u2, u3, u4, u5, u6, u7, u8, v, u10, u11, u12, u13, u14, u15, u16] 50)).alloc (.cells #[.int .i64 0] 3)) (w.heap.size + 1) (w.heap.size + 1) []) := Lib.hid ⟨Nat.le_refl _, by
    have h := Blk.new (w.alloc (.cells #[u0, u1, u2, u3, u4, u5, u6, u7, u8, v, u10, u11, u12, u13, u14, u15, u16] 50)) 3 #[.int .i64 0]
    rw [World.size_alloc] at h; exact h⟩
  have HB0 := Lib.hid hb0
  have HS0 : Hid (((w.alloc (.cells #[u0, u1, u2, u3, u4, u5, u6, u7, u8, v, u10, u11, u12, u13, u14, u15, u16] 50)).alloc (.cells #[.int .i64 0] 3)).heap.size = w.heap.size + 2) := Lib.hid (by simp)
  clear hb0 hE
  go_enter Try.func18, Try.ntmps18
  go_upto_region 2 with (fail)
  go_wp2_with (go_at_call 33; refine (eachN_c v L hl (Nat.le_trans hN (by decide)) _ HE0.out (w.heap.size + 1) (w.heap.size + 1) (Nat.le_refl _) HL0.out).mono ?_; rintro e w3 ⟨rfl, ⟨A, hNL, hA⟩, hF⟩; have hc0 := hNL.2.cell 0; have HA := Lib.hid hA; have HB3 : Hid (Below w.heap.size w w3) := Lib.hid (HB0.out.trans ((hF.under (Nat.le_refl _) (by have := HS0.out; omega)).mono (Nat.le_succ _))); clear hNL hA hF)
  go_ret
  exact ⟨by rw [← HA.out.length (fun z => rfl)]; rfl, HB3.out⟩
end Go.Proofs.Ytjikbffnhfoikaa
/- Pairs in memory; Rule. -/
namespace Go.Proofs.Ytjikbffnhfoikaa
open Go.RowKit Go.Sort Go.Maps
def cellsP (p : Int × Int) : List Value := [.int .i64 p.1, .int .i64 p.2]
theorem cellsP_len (p : Int × Int) : (cellsP p).length = 2 := rfl
theorem cellsP_one (p : Int × Int) : ∀ v ∈ cellsP p, v.oneCell' = true := by
  intro v hv
  simp only [cellsP, List.mem_cons, List.not_mem_nil, or_false] at hv
  rcases hv with rfl | rfl <;> rfl
def AtP (w : World) (g o : Nat) (p : Int × Int) : Prop := ∀ k, k < 2 → w.cell? ⟨g, o + k, none⟩ = (cellsP p)[k]?
theorem AtP.facts {w : World} {g o : Nat} {p : Int × Int} (h : AtP w g o p) : w.cell? ⟨g, o, none⟩ = some (.int .i64 p.1) ∧ w.cell? ⟨g, o + 1, none⟩ = some (.int .i64 p.2) := ⟨h 0 (by decide), h 1 (by decide)⟩
def RowP (w : World) (g o : Nat) (L : List (Int × Int)) : Prop := ∀ i r, L[i]? = some r → AtP w g (o + i * 2) r
/-- the value is a slice of the pairs L -/
def Prs (w : World) (v : Value) (L : List (Int × Int)) : Prop := ∃ ao cap, v = .slice ao L.length cap ∧ L.length ≤ cap ∧ (L ≠ [] → ∃ g o, ao = some ⟨g, o, none⟩ ∧ RowP w g o L)
theorem AtP.lt {w : World} {g o : Nat} {p : Int × Int} (h : AtP w g o p) : g < w.heap.size := by
  have := h.facts.1
  rcases Nat.lt_or_ge g w.heap.size with h' | h'
  · exact h'
  · simp [World.cell?, Array.getElem?_eq_none h'] at this
theorem AtP.keep {w w' : World} {g o : Nat} {p : Int × Int} (h : AtP w g o p) (hb : w'.heap[g]? = w.heap[g]?) : AtP w' g o p := fun k hk => (World.cell?_of_block hb).trans (h k hk)
theorem RowP.lt {w : World} {g o : Nat} {L : List (Int × Int)} (h : RowP w g o L) (hl : L ≠ []) : g < w.heap.size := by
  obtain ⟨t, r, rfl⟩ := List.exists_cons_of_ne_nil hl
  exact (h 0 t rfl).lt
theorem RowP.keep {w w' : World} {g o : Nat} {L : List (Int × Int)} (h : RowP w g o L) (hb : w'.heap[g]? = w.heap[g]?) : RowP w' g o L := fun i x hx => (h i x hx).keep hb
theorem RowP.at {w : World} {g o : Nat} {L : List (Int × Int)} (h : RowP w g o L) {i : Nat} (hi : i < L.length) : AtP w g (o + i * 2) L[i] := h i L[i] (List.getElem?_eq_getElem hi)
theorem Prs.keep {w w' : World} {v : Value} {L : List (Int × Int)} (h : Prs w v L) (hb : Below w.heap.size w w') : Prs w' v L := by
  obtain ⟨ao, cap, rfl, hc, hr⟩ := h
  refine ⟨ao, cap, rfl, hc, fun hl => ?_⟩
  obtain ⟨g, o, rfl, hR⟩ := hr hl
  exact ⟨g, o, rfl, hR.keep (hb.block g (hR.lt hl))⟩
theorem Prs.nil {w : World} : Prs w (.slice none 0 0) [] := ⟨none, 0, rfl, Nat.le_refl _, fun h => absurd rfl h⟩
/-- a pair in a block of its own -/
def BoxP (w : World) (g : Nat) (p : Int × Int) : Prop := Blk w g 63 #[.int .i64 p.1, .int .i64 p.2]
/-! rows of one's own -/
def OwnP (w : World) (B : Nat) (v : Value) (L : List (Int × Int)) : Prop := w.ownsRow B 63 2 v L.length (L.flatMap cellsP)
theorem fmP_len (L : List (Int × Int)) : (L.flatMap cellsP).length = L.length * 2 := by
  induction L with
  | nil => rfl
  | cons x r ih => rw [List.flatMap_cons, List.length_append, ih, cellsP_len, List.length_cons]; omega
theorem fmP_get : ∀ (L : List (Int × Int)) (i k : Nat) (x : Int × Int), L[i]? = some x → k < 2 → (L.flatMap cellsP)[i * 2 + k]? = (cellsP x)[k]?
  | [], i, k, x, h, _ => by simp at h
  | y :: r, 0, k, x, h, hk => by
    obtain rfl : y = x := by simpa using h
    rw [List.flatMap_cons, List.getElem?_append_left (by rw [cellsP_len]; omega)]
    congr 1; omega
  | y :: r, i + 1, k, x, h, hk => by
    have h' : r[i]? = some x := by simpa using h
    rw [List.flatMap_cons, List.getElem?_append_right (by rw [cellsP_len]; omega), cellsP_len, show (i + 1) * 2 + k - 2 = i * 2 + k by omega]
    exact fmP_get r i k x h' hk
theorem OwnP.nil (w : World) (B : Nat) : OwnP w B (.slice none 0 0) [] := World.ownsRow_nil _ _ _ _
theorem OwnP.prs {w : World} {B : Nat} {v : Value} {L : List (Int × Int)} (h : OwnP w B v L) : Prs w v L := by
  rcases h.2 with ⟨h1, h2⟩ | ⟨g, cap, cur, h1, h2, h3, h4, h5, h6, h7⟩
  · obtain rfl := List.eq_nil_of_length_eq_zero h2
    rw [h1]; exact Prs.nil
  · refine ⟨_, cap, h1, h4, fun _ => ⟨g, 0, rfl, fun i x hx k hk => ?_⟩⟩
    rw [cell_of_row w g _ cur _ (0, 0) h3, Nat.zero_add, ← fmP_get L i k x hx hk, ← h7, List.getElem?_take]
    have : i < L.length := (List.getElem?_eq_some_iff.1 hx).1
    rw [if_pos (by omega)]
    simp
theorem OwnP.isSl {w : World} {B : Nat} {v : Value} {L : List (Int × Int)} (h : OwnP w B v L) : ∃ ao cap, v = .slice ao L.length cap := by
  obtain ⟨ao, cap, e, _⟩ := h.prs
  exact ⟨ao, cap, e⟩
theorem OwnP.kept {w w' : World} {B : Nat} {v : Value} {L : List (Int × Int)} {row : Option Nat} (h : OwnP w B v L) (hg : w.grownBy w' row) (hne : v.ownBlock = none ∨ v.ownBlock ≠ row) : OwnP w' B v L := World.ownsRow.kept h hg hne
theorem OwnP.below {w w' : World} {B : Nat} {v : Value} {L : List (Int × Int)} (h : OwnP w B v L) (hb : Below w.heap.size w w') : OwnP w' B v L := h.kept (below_grown hb) (by cases v.ownBlock <;> simp)
theorem OwnP.own {w : World} {B : Nat} {v : Value} {L : List (Int × Int)} (h : OwnP w B v L) : ∀ k, v.ownBlock = some k → B ≤ k ∧ k < w.heap.size := World.ownsRow.lt h
theorem OwnP.block {w : World} {B : Nat} {v : Value} {L : List (Int × Int)} (h : OwnP w B v L) (hl : L ≠ []) : ∃ g cap, v = .slice (some ⟨g, 0, none⟩) L.length cap ∧ v.ownBlock = some g := by
  rcases h.2 with ⟨h1, h2⟩ | ⟨g, cap, cur, h1, _⟩
  · exact absurd (List.eq_nil_of_length_eq_zero h2) hl
  · exact ⟨g, cap, h1, by rw [h1]; rfl⟩
theorem infoP : (Try.prog.info? 63).map (fun i => (i.zero, i.size, i.bytes)) = some (some (.agg #[.int .i64 0, .int .i64 0]), 2, 16) := by kernel_rfl
theorem wpList_append_P {w : World} {ops : Array Oper} {rest : List Oper} {o : Oper} {a : Act} {Q : Exit → Act → World → Prop} (hgd : o.guard = none) (s x : Operand)
    (ho : o.op = .call { callee := .builtin .append, args := #[s, x], argTypes := #[29, 29] }) (B : Nat) (v : Value) (L : List (Int × Int)) (N : Nat) (hN : L.length = N) (hs : a.eval s = v) (hown : OwnP w B v L)
    (g : Nat) (y : Int × Int) (hx : a.eval x = .slice (some ⟨g, 0, none⟩) 1 1) (hy : BoxP w g y) (hl : N ≤ 1000000) (hb : B ≤ w.heap.size)
    (h : ∀ g' cap w', OwnP w' B (.slice (some ⟨g', 0, none⟩) (N + 1) cap) (L ++ [y]) → w.grownBy w' v.ownBlock → (v.ownBlock = some g' ∨ g' = w.heap.size) → wpList Try.prog ops Q rest (a.put o.dst (.slice (some ⟨g', 0, none⟩) (N + 1) cap)) w') :
    wpList Try.prog ops Q (o :: rest) a w := by
  subst hN
  obtain ⟨i0, hinf, hz0, hz1, hz2⟩ := info_parts infoP
  refine wpList_append_lies w hgd s x 29 ho B 63 i0 _ 2 16 Try.underlying29 hinf hz0 hz1 hz2 rfl (by decide) v L.length (L.flatMap cellsP) hs hown ⟨g, 0, none⟩ 1 1 (cellsP y) hx rfl
    (World.news_of_block hy) (cellsP_one y) (by decide) (by unfold maxLen; omega) (by omega) hb _ rfl ?_
  intro g' cap w' h1 h2 h3 _
  refine h g' cap w' ?_ h2 h3
  unfold OwnP
  rw [List.length_append, List.flatMap_append]
  simpa using h1
theorem tgs_el (r : Ru) {s : Int} (hs : 0 ≤ s ∧ s < 256) : elS (tgtS r s) = tgs r s := by
  unfold elS elems tgs
  exact List.filter_congr fun t _ => tgtS_has r hs t
theorem srs_el (r : Ru) : elS r.src = srs r := rfl
theorem tgtS_U (r : Ru) (s : Int) : (tgtS r s).U := by
  unfold tgtS
  split
  · exact withS_U s r.wf.2.2.2.2
  · exact r.wf.2.2.2.2
def prK (r : Ru) (l : List Int) : List (Int × Int) := l.flatMap fun s => (tgs r s).map fun t => (s, t)
theorem prK_snoc (r : Ru) (l : List Int) (s : Int) : prK r (l ++ [s]) = prK r l ++ (tgs r s).map fun t => (s, t) := by
  unfold prK
  rw [List.flatMap_append]
  simp
theorem prK_all (r : Ru) : prK r (srs r) = prs r := rfl
theorem tgs_len (r : Ru) (s : Int) : (tgs r s).length ≤ 256 := by
  have := List.length_filter_le (prB r s) (below 256)
  unfold tgs
  refine Nat.le_trans this ?_
  simp [below]
theorem prK_len (r : Ru) : ∀ l : List Int, (prK r l).length ≤ l.length * 256
  | [] => Nat.le_refl _
  | s :: l => by
    have ih := prK_len r l
    have := tgs_len r s
    unfold prK at ih ⊢
    rw [List.flatMap_cons, List.length_append, List.length_map, List.length_cons]
    omega
end Go.Proofs.Ytjikbffnhfoikaa
/- Rule. -/
namespace Go.Proofs.Ytjikbffnhfoikaa
open Go.RowKit Go.Sort Go.Maps
theorem IL.grown {w w' : World} {B b : Nat} {vS v : Value} {S : List Int} {L : List (Int × Int)} (h : IL w B vS S) (ho : OwnP w b v L) (hg : w.grownBy w' v.ownBlock) : IL w' B vS S :=
  h.of fun q _ h2 h3 => hg.block q h2 fun e => by
    obtain ⟨cur, hq⟩ := h3
    obtain ⟨_, _, cur2, hq2⟩ := ownsRow_block ho e.symm
    unfold Blk at hq hq2
    rw [hq] at hq2; cases hq2
theorem BoxR.grown {w w' : World} {b g : Nat} {v : Value} {r : Ru} {L : List (Int × Int)} (h : BoxR w g r) (ho : OwnP w b v L) (hg : w.grownBy w' v.ownBlock) : BoxR w' g r :=
  (hg.block g (Blk.lt h) fun e => by
    obtain ⟨_, _, cur2, hq2⟩ := ownsRow_block ho e.symm
    unfold BoxR Blk at h
    unfold Blk at hq2
    rw [h] at hq2; cases hq2).trans h
theorem IL.below {w w' : World} {B : Nat} {vS : Value} {S : List Int} (h : IL w B vS S) (hb : Below w.heap.size w w') : IL w' B vS S := h.of fun q _ h2 _ => hb.block q h2
set_option maxRecDepth 100000 in
set_option maxHeartbeats 8000000 in
theorem rule_c (r : Ru) (w : World) : Calls Try.prog 11 #[.agg #[.int .i64 r.k, .int .u64 r.src.a, .int .u64 r.src.b, .int .u64 r.src.c, .int .u64 r.src.d, .int .u64 r.tgt.a, .int .u64 r.tgt.b, .int .u64 r.tgt.c, .int .u64 r.tgt.d, .bool r.self, .int .i64 r.cl, .int .u32 (vI r.pm), .int .i64 r.cd]] w fun e w' => ∃ v, e = .returned v ∧ Prs w' v (prs r) ∧ Below w.heap.size w w' := by
  have HX0 : Hid (BoxR (w.alloc (.cells #[.int .i64 r.k, .int .u64 r.src.a, .int .u64 r.src.b, .int .u64 r.src.c, .int .u64 r.src.d, .int .u64 r.tgt.a, .int .u64 r.tgt.b, .int .u64 r.tgt.c, .int .u64 r.tgt.d, .bool r.self, .int .i64 r.cl, .int .u32 (vI r.pm), .int .i64 r.cd] 27)) w.heap.size r) := Lib.hid (Blk.new w _ _)
  have HB0 : Hid (Below w.heap.size w (w.alloc (.cells #[.int .i64 r.k, .int .u64 r.src.a, .int .u64 r.src.b, .int .u64 r.src.c, .int .u64 r.src.d, .int .u64 r.tgt.a, .int .u64 r.tgt.b, .int .u64 r.tgt.c, .int .u64 r.tgt.d, .bool r.self, .int .i64 r.cl, .int .u32 (vI r.pm), .int .i64 r.cd] 27))) := Lib.hid ((Below.refl _ _).alloc (Nat.le_refl _) _)
  have hsU := r.wf.2.2.2.1
  go_enter Try.func11, Try.ntmps11
  go_wp2_with (go_at_call 26; refine (list_c _ _ _ _ _ hsU.a hsU.b hsU.c hsU.d).mono ?_; rintro e w1 ⟨vS, hI, rfl, hb1⟩; have HX1 : Hid (BoxR w1 w.heap.size r) := Lib.hid (Blk.keep HX0.out hb1); have HB1 := Lib.hid (HB0.out.trans (hb1.mono HB0.out.size)); have HI1 : Hid (IL w1 (w.heap.size + 1) vS (elS r.src)) := Lib.hid (by have h := hI; rw [World.size_alloc] at h; exact h); obtain ⟨aS, capS, rfl⟩ := HI1.out.form; clear hb1 hI)
  clear hsU
  have hSl2 : ((elS r.src).length : Int) ≤ 256 := by have := elS_len r.src; omega
  have HSI : Hid (∀ j (h : j < (elS r.src).length), 0 ≤ (elS r.src)[j] ∧ (elS r.src)[j] < 256) := Lib.hid fun j h => hasS_in (elS_mem.1 (List.getElem_mem h))
  have HSS : Hid (prs r = prK r (elS r.src)) := Lib.hid rfl
  have HS1 : Hid (w.heap.size + 1 ≤ w1.heap.size) := Lib.hid (by have := Blk.lt HX1.out; omega)
  generalize elS r.src = S at *
  clear HX0 HB0
  go_loopw [3, 12] (fun v3 vj wr => ∃ (j : Nat) (vv : Value), vv = v3 ∧ j ≤ S.length ∧ vj = .int .i64 j ∧ Hid (OwnP wr (w.heap.size + 1) vv (prK r (S.take j))) ∧ Hid (BoxR wr w.heap.size r) ∧ Hid (IL wr (w.heap.size + 1) (.slice aS S.length capS) S) ∧ Hid (Below w.heap.size w wr) ∧ Hid (w.heap.size + 1 ≤ wr.heap.size)) (fun _ vj _ => S.length - (intOf vj).toNat)
  case atStart => exact ⟨0, _, rfl, Nat.zero_le _, rfl, Lib.hid (by rw [List.take_zero]; exact OwnP.nil _ _), HX1, HI1, HB1, HS1⟩
  case round =>
    obtain ⟨j, v, rfl, hj, rfl, HO, HX, HI, HB, HS⟩ := hrel
    by_cases hjlt : j < S.length
    · have hjlt' : (j : Int) < (S.length : Int) := by omega
      obtain ⟨bS, oS, capS2, e, hcS⟩ := HI.out.at hjlt
      cases e
      obtain ⟨s, hs⟩ : ∃ s, S[j] = s := ⟨_, rfl⟩
      rw [hs] at hcS
      have hsi : 0 ≤ s ∧ s < 256 := by rw [← hs]; exact HSI.out j hjlt
      have HSJ : Hid (S.take (j + 1) = S.take j ++ [s]) := Lib.hid (by rw [List.take_succ_eq_append_getElem hjlt, hs])
      have HLJ : Hid ((prK r (S.take j)).length ≤ 65536) := Lib.hid (by have := prK_len r (S.take j); rw [List.length_take] at this; have h2 : min j S.length ≤ 256 := by omega
                                                                        omega)
      generalize hP : prK r (S.take j) = P at *
      have HP := Lib.hid hP
      clear hP hs
      obtain ⟨x0, x1, x2, x3, x4, x5, x6, x7, x8, x9, x10, x11, x12⟩ := BoxR.cells HX.out
      have HTU := Lib.hid (tgtS_U r s)
      go_wp2_with (first
        | (go_at_call 27; refine (targets_c r s _).mono ?_; rintro e w4 ⟨rfl, hb4⟩; have HO4 := Lib.hid (HO.out.below hb4); have HX4 : Hid (BoxR w4 w.heap.size r) := Lib.hid (Blk.keep HX.out hb4); have HI4 := Lib.hid (HI.out.below hb4); have HB4 := Lib.hid (HB.out.trans (hb4.mono HB.out.size)); have HS4 : Hid (w.heap.size + 1 ≤ w4.heap.size) := Lib.hid (Nat.le_trans HS.out hb4.size); clear hb4)
        | (go_at_call 26; refine (list_c _ _ _ _ _ HTU.out.a HTU.out.b HTU.out.c HTU.out.d).mono ?_; rintro e w5 ⟨vT, hI5, rfl, hb5⟩; have HO5 := Lib.hid (HO4.out.below hb5); have HX5 : Hid (BoxR w5 w.heap.size r) := Lib.hid (Blk.keep HX4.out hb5); have HI5 := Lib.hid (HI4.out.below hb5); have HB5 := Lib.hid (HB4.out.trans (hb5.mono HB4.out.size)); have HS5 : Hid (w.heap.size + 1 ≤ w5.heap.size) := Lib.hid (Nat.le_trans HS4.out hb5.size); have HT5 : Hid (IL w5 w4.heap.size vT (elS (tgtS r s))) := Lib.hid hI5; obtain ⟨aT, capT, rfl⟩ := HT5.out.form; clear hb5 hI5))
      clear HTU x0 x1 x2 x3 x4 x5 x6 x7 x8 x9 x10 x11 x12 hcS HO HX HI HB HS HO4 HX4 HI4 HB4 HS4
      have hTl2 : ((elS (tgtS r s)).length : Int) ≤ 256 := by have := elS_len (tgtS r s); omega
      have HTT : Hid (elS (tgtS r s) = tgs r s) := Lib.hid (tgs_el r hsi)
      generalize elS (tgtS r s) = T at *
      generalize w4.heap.size = bT at *
      go_loopw [3, 21] (fun v3 vi wr2 => ∃ (i : Nat) (vv : Value), vv = v3 ∧ i ≤ T.length ∧ vi = .int .i64 i ∧ Hid (OwnP wr2 (w.heap.size + 1) vv (P ++ (T.take i).map fun t => (s, t))) ∧ Hid (BoxR wr2 w.heap.size r) ∧ Hid (IL wr2 (w.heap.size + 1) (.slice (some ⟨bS, oS, none⟩) S.length capS) S) ∧ Hid (IL wr2 bT (.slice aT T.length capT) T) ∧ Hid (Below w.heap.size w wr2) ∧ Hid (w.heap.size + 1 ≤ wr2.heap.size)) (fun _ vi _ => T.length - (intOf vi).toNat)
      case atStart => exact ⟨0, _, rfl, Nat.zero_le _, rfl, Lib.hid (by rw [List.take_zero, List.map_nil, List.append_nil]; exact HO5.out), HX5, HI5, HT5, HB5, HS5⟩
      case round =>
        obtain ⟨i, v, rfl, hi, rfl, HO, HX, HI, HT, HB, HS⟩ := hrel
        by_cases hlt : i < T.length
        · have hlt' : (i : Int) < (T.length : Int) := by omega
          obtain ⟨bT2, oT, capT2, e, hcT⟩ := HT.out.at hlt
          cases e
          obtain ⟨t, ht⟩ : ∃ t, T[i] = t := ⟨_, rfl⟩
          rw [ht] at hcT
          have HTI : Hid ((T.take (i + 1)).map (fun t => (s, t)) = (T.take i).map (fun t => (s, t)) ++ [(s, t)]) := Lib.hid (by rw [List.take_succ_eq_append_getElem hlt, ht, List.map_append]; rfl)
          have HLN : Hid ((P ++ (T.take i).map fun t => (s, t)).length ≤ 70000) := Lib.hid (by have := HLJ.out; rw [List.length_append, List.length_map, List.length_take]; omega)
          generalize hQ : (P ++ (T.take i).map fun t => (s, t)) = Q at *
          have HQ := Lib.hid hQ
          clear hQ ht
          go_wp2_with (at_builtin; refine wpList_append_P (by rfl) _ _ (by rfl) (w.heap.size + 1) v Q Q.length rfl (by rfl) (HO.out.below ((Below.refl _ wr).alloc (Nat.le_refl _) _)) wr.heap.size (s, t) (by rfl) (Blk.new _ _ _) (by have := HLN.out; omega) (by have := HS.out; simp; omega) ?_; intro g' cap' w6 h1 h2 h3; have H1 := Lib.hid h1; have H2 := Lib.hid h2; clear h1 h2 h3)
          have hba : Below wr.heap.size wr (wr.alloc (.cells #[.int .i64 s, .int .i64 t] 63)) := (Below.refl _ wr).alloc (Nat.le_refl _) _
          have hOa := HO.out.below hba
          have HX6 : Hid (BoxR w6 w.heap.size r) := Lib.hid (BoxR.grown (Blk.keep HX.out hba) hOa H2.out)
          have HI6 := Lib.hid ((HI.out.below hba).grown hOa H2.out)
          have HT6 := Lib.hid ((HT.out.below hba).grown hOa H2.out)
          have HB6 : Hid (Below w.heap.size w w6) := Lib.hid ((HB.out.trans (hba.mono HB.out.size)).grown H2.out (by have := HB.out.size; have := hba.size; omega) (fun k e => by have := (hOa.own k e).1; omega))
          have HS6 : Hid (w.heap.size + 1 ≤ w6.heap.size) := Lib.hid (by have := HS.out; have := hba.size; have := H2.out.size; omega)
          clear hba hOa
          go_wp2_with fail
          go_roundw
          case rel => exact ⟨i + 1, _, rfl, hlt, by go_num, Lib.hid (by rw [HTI.out, ← List.append_assoc, HQ.out]; simpa using H1.out), HX6, HI6, HT6, HB6, HS6⟩
          case measure => simp [intOf]; omega
        · obtain rfl : i = T.length := by omega
          have hlt' : ¬ ((T.length : Nat) : Int) < (T.length : Int) := by omega
          have HO7 : Hid (OwnP wr (w.heap.size + 1) v (prK r (S.take (j + 1)))) := Lib.hid (by rw [HSJ.out, prK_snoc, HP.out, ← HTT.out]; have := HO.out; rwa [List.take_length] at this)
          go_wp2_with fail
          go_roundw
          case rel => exact ⟨j + 1, _, rfl, hjlt, by go_num, HO7, HX, HI, HB, HS⟩
          case measure => simp [intOf]; omega
    · obtain rfl : j = S.length := by omega
      have hlt' : ¬ ((S.length : Nat) : Int) < (S.length : Int) := by omega
      have hO : OwnP wr (w.heap.size + 1) v (prs r) := by rw [HSS.out]; have := HO.out; rwa [List.take_length] at this
      go_wp2_with fail
      go_ret
      exact ⟨_, rfl, hO.prs, HB.out⟩
end Go.Proofs.Ytjikbffnhfoikaa
/- The plain part of Never; forbidding. -/
namespace Go.Proofs.Ytjikbffnhfoikaa
open Go.RowKit Go.Sort Go.Maps
/-- the neverallow rules as rules that allow -/
def asA (r : Ru) : Ru := { r with k := 1, cd := 0, wf := ⟨by decide, r.wf.2.1, by decide, r.wf.2.2.2⟩ }
def nevR (L : List Ru) : List Ru := (L.filter fun r => decide (r.k = 4)).map asA
theorem nevR_snoc (L : List Ru) (r : Ru) : nevR (L ++ [r]) = nevR L ++ (if r.k = 4 then [asA r] else []) := by
  unfold nevR
  rw [List.filter_append, List.map_append]
  congr 1
  by_cases h : r.k = 4
  · simp [h]
  · simp [h]
theorem nevR_len (L : List Ru) : (nevR L).length ≤ L.length := by
  unfold nevR
  rw [List.length_map]
  exact List.length_filter_le _ _
def ltC (x y : E) : Prop := x.s < y.s ∨ (x.s = y.s ∧ (x.t < y.t ∨ (x.t = y.t ∧ x.c < y.c)))
def eqC (x y : E) : Prop := x.s = y.s ∧ x.t = y.t ∧ x.c = y.c
instance (x y : E) : Decidable (ltC x y) := by unfold ltC; infer_instance
instance (x y : E) : Decidable (eqC x y) := by unfold eqC; infer_instance
theorem cmpC_eq {x y : E} : cmpC x y = 0 ↔ eqC x y := by
  unfold cmpC eqC
  have h : ∀ a b : Int, cmpI a b = 0 ↔ a = b := fun a b => by
    unfold cmpI; split
    · omega
    · split <;> omega
  rw [← h x.s y.s, ← h x.t y.t, ← h x.c y.c]
  simp only [orL]
  by_cases h1 : cmpI x.s y.s = 0 <;> by_cases h2 : cmpI x.t y.t = 0 <;> by_cases h3 : cmpI x.c y.c = 0 <;> simp [h1, h2, h3]
theorem cmpC_lt {x y : E} : cmpC x y < 0 ↔ ltC x y := by
  unfold cmpC ltC
  have h : ∀ a b : Int, cmpI a b = 0 ↔ a = b := fun a b => by
    unfold cmpI; split
    · omega
    · split <;> omega
  have k : ∀ a b : Int, cmpI a b < 0 ↔ a < b := fun a b => by
    unfold cmpI; split
    · omega
    · split <;> omega
  rw [← h x.s y.s, ← h x.t y.t, ← k x.s y.s, ← k x.t y.t, ← k x.c y.c]
  simp only [orL]
  by_cases h1 : cmpI x.s y.s = 0 <;> by_cases h2 : cmpI x.t y.t = 0 <;> by_cases h3 : cmpI x.c y.c = 0 <;> simp [h1, h2, h3]
/-- what is forbidden at the case of e -/
def badF (F : List E) (e : E) : BitVec 32 := match F.find? fun x => decide (eqC x e) with
  | some x => x.a
  | none => 0#32
theorem badF_nil (e : E) : badF [] e = 0#32 := rfl
theorem badF_cons (x : E) (F : List E) (e : E) : badF (x :: F) e = if eqC x e then x.a else badF F e := by
  unfold badF
  rw [List.find?_cons]
  by_cases h : eqC x e
  · rw [if_pos h, decide_eq_true h]
  · rw [if_neg h, decide_eq_false h]
theorem badF_none {F : List E} {e : E} (h : ∀ x ∈ F, ¬ eqC x e) : badF F e = 0#32 := by
  unfold badF
  rw [List.find?_eq_none.2 fun x hx => by simpa using h x hx]
theorem badF_append {F G : List E} {e : E} (h : ∀ x ∈ F, ¬ eqC x e) : badF (F ++ G) e = badF G e := by
  induction F with
  | nil => rfl
  | cons x r ih =>
    rw [List.cons_append, badF_cons, if_neg (h x (by simp))]
    exact ih fun y hy => h y (by simp [hy])
/-- what stands of e -/
def nvE (F : List E) (e : E) : List E := if e.a &&& badF F e = 0#32 then [] else [reE e ⟨e.a &&& badF F e, 0#32, 0#32⟩]
def nevE (F L : List E) : List E := L.flatMap (nvE F)
theorem nevE_snoc (F L : List E) (e : E) : nevE F (L ++ [e]) = nevE F L ++ nvE F e := by
  unfold nevE
  rw [List.flatMap_append]
  simp
theorem nevE_len (F : List E) : ∀ L : List E, (nevE F L).length ≤ L.length
  | [] => Nat.le_refl _
  | x :: r => by
    have ih := nevE_len F r
    unfold nevE at ih ⊢
    have h1 : (nvE F x).length ≤ 1 := by unfold nvE; split <;> simp
    rw [List.flatMap_cons, List.length_append, List.length_cons]
    omega
theorem nevE_rest {F L : List E} (h : ∀ e ∈ L, badF F e = 0#32) : nevE F L = [] := by
  unfold nevE
  rw [List.flatMap_eq_nil_iff]
  intro e he
  unfold nvE
  rw [h e he]
  simp
theorem ltC_next {x y z : E} (h : ltC x y) (k : ¬ ltP z y) : ltC x z := by unfold ltC ltP at *; omega
theorem ltC_ne {x y : E} (h : ltC x y) : ¬ eqC x y := by unfold ltC eqC at *; omega
/-- all entries of the rules that allow have the cond 0 -/
theorem nev_d {L : List Ru} : ∀ x ∈ M (allE (nevR L)), x.d = 0 := by
  intro x hx
  have h1 := con_self (M_ne _ x hx) hx
  rw [M_con, con_all] at h1
  have h2 : ∃ r ∈ nevR L, mB r x = true := by
    apply Classical.byContradiction
    intro hno
    apply h1
    have hno2 : ∀ r ∈ nevR L, mB r x ≠ true := fun r hr e => hno ⟨r, hr, e⟩
    clear hno h1 hx
    generalize nevR L = R at hno2
    unfold conR
    induction R with
    | nil => rfl
    | cons r R ih =>
      rw [List.foldr_cons, if_neg (hno2 r (by simp)), z_orV]
      exact ih fun q hq => hno2 q (by simp [hq])
  obtain ⟨r, hr, hm⟩ := h2
  obtain ⟨q, _, rfl⟩ := List.mem_map.1 hr
  unfold mB at hm
  simp only [Bool.and_eq_true, decide_eq_true_eq] at hm
  exact hm.2.1.symm
/-- in a strict list of cond 0, what stands ahead at another case is no more met -/
theorem badF_head {x : E} {F : List E} {e : E} (hs : Strict (x :: F)) (hd : ∀ y ∈ x :: F, y.d = 0) (hge : ¬ ltC x e) : badF (x :: F) e = if eqC x e then x.a else 0#32 := by
  rw [badF_cons]
  by_cases h : eqC x e
  · rw [if_pos h, if_pos h]
  · rw [if_neg h, if_neg h]
    refine badF_none fun y hy => ?_
    have h1 := (List.pairwise_cons.1 hs).1 y hy
    have h2 := hd x (by simp)
    have h3 := hd y (by simp [hy])
    unfold ltP at h1
    unfold ltC at hge
    unfold eqC at h ⊢
    omega
set_option maxRecDepth 100000 in
set_option maxHeartbeats 8000000 in
theorem forbidding_c (v : Value) (L : List Ru) (hl : L.length ≤ 100000) (w : World) (hE : Rus w v L) :
    Calls Try.prog 42 #[v] w fun e w' => ∃ v', e = .returned v' ∧ Rus w' v' (nevR L) ∧ Below w.heap.size w w' := by
  obtain ⟨ao, cap, rfl, hcap, hr⟩ := hE
  have hlen : (L.length : Int) ≤ 100000 := by omega
  go_enter Try.func42, Try.ntmps42
  go_wp2_with fail
  go_loopw [3, 8] (fun v3 vi wr => ∃ (i : Nat) (vv : Value), vv = v3 ∧ i ≤ L.length ∧ vi = .int .i64 i ∧ Hid (OwnR wr w.heap.size vv (nevR (L.take i))) ∧ Hid (Below w.heap.size w wr)) (fun _ vi _ => L.length - (intOf vi).toNat)
  case atStart => exact ⟨0, _, rfl, Nat.zero_le _, rfl, Lib.hid (by rw [List.take_zero]; exact OwnR.nil _ _), Lib.hid (Below.refl _ _)⟩
  case round =>
    obtain ⟨i, v, rfl, hi, rfl, HO, HB⟩ := hrel
    by_cases hlt : i < L.length
    · have hlt' : (i : Int) < (L.length : Int) := by omega
      obtain ⟨g, o, rfl, hR⟩ := hr (by rintro rfl; simp at hlt)
      obtain ⟨r, hx⟩ : ∃ x, L[i] = x := ⟨_, rfl⟩
      have hcell := ((hR.keep (HB.out.block g (hR.lt (by rintro rfl; simp at hlt)))).at hlt).facts
      rw [hx] at hcell
      obtain ⟨q0, q1, q2, q3, q4, q5, q6, q7, q8, q9, q10, q11, q12⟩ := hcell
      have HX : Hid (nevR (L.take (i + 1)) = nevR (L.take i) ++ (if r.k = 4 then [asA r] else [])) := Lib.hid (by rw [List.take_succ_eq_append_getElem hlt, hx, nevR_snoc])
      have HLN : Hid ((nevR (L.take i)).length ≤ 100000) := Lib.hid (by have := nevR_len (L.take i); rw [List.length_take] at this; omega)
      have hb0 : Below wr.heap.size wr (wr.alloc (.cells #[.int .i64 r.k, .int .u64 r.src.a, .int .u64 r.src.b, .int .u64 r.src.c, .int .u64 r.src.d, .int .u64 r.tgt.a, .int .u64 r.tgt.b, .int .u64 r.tgt.c, .int .u64 r.tgt.d, .bool r.self, .int .i64 r.cl, .int .u32 (vI r.pm), .int .i64 r.cd] 27)) := (Below.refl _ wr).alloc (Nat.le_refl _) _
      have HO0 := Lib.hid (HO.out.below hb0)
      have HB0 := Lib.hid (HB.out.trans (hb0.mono HB.out.size))
      clear hx hR hb0
      generalize nevR (L.take i) = Q at *
      by_cases h4 : r.k = 4
      · have h40 : (r.k == 4) = true := by simpa using h4
        rw [if_pos h4] at HX
        have HB1 : Hid (Below w.heap.size w ((wr.alloc (.cells #[.int .i64 (asA r).k, .int .u64 (asA r).src.a, .int .u64 (asA r).src.b, .int .u64 (asA r).src.c, .int .u64 (asA r).src.d, .int .u64 (asA r).tgt.a, .int .u64 (asA r).tgt.b, .int .u64 (asA r).tgt.c, .int .u64 (asA r).tgt.d, .bool (asA r).self, .int .i64 (asA r).cl, .int .u32 (vI (asA r).pm), .int .i64 (asA r).cd] 27)).alloc (.cells #[.int .i64 (asA r).k, .int .u64 (asA r).src.a, .int .u64 (asA r).src.b, .int .u64 (asA r).src.c, .int .u64 (asA r).src.d, .int .u64 (asA r).tgt.a, .int .u64 (asA r).tgt.b, .int .u64 (asA r).tgt.c, .int .u64 (asA r).tgt.d, .bool (asA r).self, .int .i64 (asA r).cl, .int .u32 (vI (asA r).pm), .int .i64 (asA r).cd] 27))) := Lib.hid (HB.out.trans (below_a2.mono HB.out.size))
        have HO1 : Hid (OwnR ((wr.alloc (.cells #[.int .i64 (asA r).k, .int .u64 (asA r).src.a, .int .u64 (asA r).src.b, .int .u64 (asA r).src.c, .int .u64 (asA r).src.d, .int .u64 (asA r).tgt.a, .int .u64 (asA r).tgt.b, .int .u64 (asA r).tgt.c, .int .u64 (asA r).tgt.d, .bool (asA r).self, .int .i64 (asA r).cl, .int .u32 (vI (asA r).pm), .int .i64 (asA r).cd] 27)).alloc (.cells #[.int .i64 (asA r).k, .int .u64 (asA r).src.a, .int .u64 (asA r).src.b, .int .u64 (asA r).src.c, .int .u64 (asA r).src.d, .int .u64 (asA r).tgt.a, .int .u64 (asA r).tgt.b, .int .u64 (asA r).tgt.c, .int .u64 (asA r).tgt.d, .bool (asA r).self, .int .i64 (asA r).cl, .int .u32 (vI (asA r).pm), .int .i64 (asA r).cd] 27)) w.heap.size v Q) := Lib.hid (HO.out.below below_a2)
        have HX1 : Hid (BoxR ((wr.alloc (.cells #[.int .i64 (asA r).k, .int .u64 (asA r).src.a, .int .u64 (asA r).src.b, .int .u64 (asA r).src.c, .int .u64 (asA r).src.d, .int .u64 (asA r).tgt.a, .int .u64 (asA r).tgt.b, .int .u64 (asA r).tgt.c, .int .u64 (asA r).tgt.d, .bool (asA r).self, .int .i64 (asA r).cl, .int .u32 (vI (asA r).pm), .int .i64 (asA r).cd] 27)).alloc (.cells #[.int .i64 (asA r).k, .int .u64 (asA r).src.a, .int .u64 (asA r).src.b, .int .u64 (asA r).src.c, .int .u64 (asA r).src.d, .int .u64 (asA r).tgt.a, .int .u64 (asA r).tgt.b, .int .u64 (asA r).tgt.c, .int .u64 (asA r).tgt.d, .bool (asA r).self, .int .i64 (asA r).cl, .int .u32 (vI (asA r).pm), .int .i64 (asA r).cd] 27)) (wr.heap.size + 1) (asA r)) := Lib.hid (by
          have h := Blk.new (wr.alloc (.cells #[.int .i64 (asA r).k, .int .u64 (asA r).src.a, .int .u64 (asA r).src.b, .int .u64 (asA r).src.c, .int .u64 (asA r).src.d, .int .u64 (asA r).tgt.a, .int .u64 (asA r).tgt.b, .int .u64 (asA r).tgt.c, .int .u64 (asA r).tgt.d, .bool (asA r).self, .int .i64 (asA r).cl, .int .u32 (vI (asA r).pm), .int .i64 (asA r).cd] 27)) 27 #[.int .i64 (asA r).k, .int .u64 (asA r).src.a, .int .u64 (asA r).src.b, .int .u64 (asA r).src.c, .int .u64 (asA r).src.d, .int .u64 (asA r).tgt.a, .int .u64 (asA r).tgt.b, .int .u64 (asA r).tgt.c, .int .u64 (asA r).tgt.d, .bool (asA r).self, .int .i64 (asA r).cl, .int .u32 (vI (asA r).pm), .int .i64 (asA r).cd]
          rw [World.size_alloc] at h; exact h)
        go_wp2_with (at_builtin; refine wpList_append_Ru (by rfl) _ _ (by rfl) w.heap.size v Q Q.length rfl (by rfl) HO1.out (wr.heap.size + 1) (asA r) (by rfl) HX1.out (by have := HLN.out; omega) (by have := HB.out.size; simp; omega) ?_; intro g' cap' w6 h1 h2 h3; have H1 := Lib.hid h1; have H2 := Lib.hid h2; clear h1 h2 h3)
        have HB6 : Hid (Below w.heap.size w w6) := Lib.hid (HB1.out.grown H2.out HB1.out.size (fun k e => (HO1.out.own k e).1))
        go_wp2_with fail
        go_roundw
        case rel => exact ⟨i + 1, _, rfl, hlt, by go_num, Lib.hid (by rw [HX.out]; simpa using H1.out), HB6⟩
        case measure => simp [intOf]; omega
      · have h40 : (r.k == 4) = false := by simpa using h4
        rw [if_neg h4, List.append_nil] at HX
        go_wp2_with fail
        go_roundw
        case rel => exact ⟨i + 1, _, rfl, hlt, by go_num, Lib.hid (by rw [HX.out]; exact HO0.out), HB0⟩
        case measure => simp [intOf]; omega
    · obtain rfl : i = L.length := by omega
      have hlt' : ¬ ((L.length : Nat) : Int) < (L.length : Int) := by omega
      have hO : OwnR wr w.heap.size v (nevR L) := by have := HO.out; rwa [List.take_length] at this
      go_wp2_with fail
      go_ret
      exact ⟨_, rfl, hO.rus, HB.out⟩
end Go.Proofs.Ytjikbffnhfoikaa
/- The reference's Rule. -/
namespace Go.Proofs.Ytjikbffnhfoikaa
open Go.RowKit Go.Sort Go.Maps
def prN (r : Ru) (j : Nat) : List (Int × Int) := prK r ((below j).filter (hasS r.src))
theorem prN_all (r : Ru) : prN r 256 = prs r := rfl
theorem prN_zero (r : Ru) : prN r 0 = [] := rfl
theorem prN_yes {r : Ru} {j : Nat} (h : hasS r.src j = true) : prN r (j + 1) = prN r j ++ (tgs r j).map fun t => ((j : Int), t) := by
  unfold prN
  rw [below_succ, List.filter_append, List.filter_cons, h, if_pos rfl]
  exact prK_snoc r _ _
theorem prN_no {r : Ru} {j : Nat} (h : hasS r.src j = false) : prN r (j + 1) = prN r j := by
  unfold prN
  rw [below_succ, List.filter_append, List.filter_cons, h]
  simp
def tgN (r : Ru) (j k : Nat) : List (Int × Int) := ((below k).filter (prB r j)).map fun t => ((j : Int), t)
theorem tgN_all (r : Ru) (j : Nat) : tgN r j 256 = (tgs r j).map fun t => ((j : Int), t) := rfl
theorem tgN_yes {r : Ru} {j k : Nat} (h : prB r j k = true) : tgN r j (k + 1) = tgN r j k ++ [((j : Int), (k : Int))] := by
  unfold tgN
  rw [below_succ, List.filter_append, List.filter_cons, h, if_pos rfl, List.map_append]
  rfl
theorem tgN_no {r : Ru} {j k : Nat} (h : prB r j k = false) : tgN r j (k + 1) = tgN r j k := by
  unfold tgN
  rw [below_succ, List.filter_append, List.filter_cons, h]
  simp
theorem tgN_len (r : Ru) (j k : Nat) : (tgN r j k).length ≤ k := by
  unfold tgN
  rw [List.length_map]
  refine Nat.le_trans (List.length_filter_le _ _) ?_
  simp [below]
theorem prN_len (r : Ru) {j : Nat} (h : j ≤ 256) : (prN r j).length ≤ 65536 := by
  have h1 := prK_len r ((below j).filter (hasS r.src))
  have h2 := List.length_filter_le (hasS r.src) (below j)
  have h3 : (below j).length = j := by simp [below]
  unfold prN
  omega
set_option maxRecDepth 100000 in
set_option maxHeartbeats 8000000 in
theorem rrule_c (r : Ru) (w : World) : Calls Try.prog 12 #[.agg #[.int .i64 r.k, .int .u64 r.src.a, .int .u64 r.src.b, .int .u64 r.src.c, .int .u64 r.src.d, .int .u64 r.tgt.a, .int .u64 r.tgt.b, .int .u64 r.tgt.c, .int .u64 r.tgt.d, .bool r.self, .int .i64 r.cl, .int .u32 (vI r.pm), .int .i64 r.cd]] w fun e w' => ∃ v, e = .returned v ∧ Prs w' v (prs r) ∧ Below w.heap.size w w' := by
  have HX0 : Hid (BoxR (w.alloc (.cells #[.int .i64 r.k, .int .u64 r.src.a, .int .u64 r.src.b, .int .u64 r.src.c, .int .u64 r.src.d, .int .u64 r.tgt.a, .int .u64 r.tgt.b, .int .u64 r.tgt.c, .int .u64 r.tgt.d, .bool r.self, .int .i64 r.cl, .int .u32 (vI r.pm), .int .i64 r.cd] 27)) w.heap.size r) := Lib.hid (Blk.new w _ _)
  have HB0 : Hid (Below w.heap.size w (w.alloc (.cells #[.int .i64 r.k, .int .u64 r.src.a, .int .u64 r.src.b, .int .u64 r.src.c, .int .u64 r.src.d, .int .u64 r.tgt.a, .int .u64 r.tgt.b, .int .u64 r.tgt.c, .int .u64 r.tgt.d, .bool r.self, .int .i64 r.cl, .int .u32 (vI r.pm), .int .i64 r.cd] 27))) := Lib.hid ((Below.refl _ _).alloc (Nat.le_refl _) _)
  have HS0 : Hid (w.heap.size + 1 ≤ (w.alloc (.cells #[.int .i64 r.k, .int .u64 r.src.a, .int .u64 r.src.b, .int .u64 r.src.c, .int .u64 r.src.d, .int .u64 r.tgt.a, .int .u64 r.tgt.b, .int .u64 r.tgt.c, .int .u64 r.tgt.d, .bool r.self, .int .i64 r.cl, .int .u32 (vI r.pm), .int .i64 r.cd] 27)).heap.size) := Lib.hid (by simp)
  go_enter Try.func12, Try.ntmps12
  go_wp2_with fail
  generalize w.alloc (.cells #[.int .i64 r.k, .int .u64 r.src.a, .int .u64 r.src.b, .int .u64 r.src.c, .int .u64 r.src.d, .int .u64 r.tgt.a, .int .u64 r.tgt.b, .int .u64 r.tgt.c, .int .u64 r.tgt.d, .bool r.self, .int .i64 r.cl, .int .u32 (vI r.pm), .int .i64 r.cd] 27) = W0 at *
  generalize hgx : w.heap.size = gx at *
  go_loopw [3, 4] (fun v3 vj wr => ∃ (j : Nat) (vv : Value), vv = v3 ∧ j ≤ 256 ∧ vj = .int .i64 j ∧ Hid (OwnP wr (gx + 1) vv (prN r j)) ∧ Hid (BoxR wr gx r) ∧ Hid (Below gx w wr) ∧ Hid (gx + 1 ≤ wr.heap.size)) (fun _ vj _ => 256 - (intOf vj).toNat)
  case atStart => exact ⟨0, _, rfl, Nat.zero_le _, rfl, Lib.hid (OwnP.nil _ _), HX0, HB0, HS0⟩
  case round =>
    obtain ⟨j, v, rfl, hj, rfl, HO, HX, HB, HS⟩ := hrel
    by_cases hjlt : j < 256
    · have hjlt' : (j : Int) < 256 := by omega
      obtain ⟨B1, hB1⟩ : ∃ B, hasS r.src j = B := ⟨_, rfl⟩
      have HHS : Hid (∀ u, Calls Try.prog 28 #[.agg #[.int .u64 r.src.a, .int .u64 r.src.b, .int .u64 r.src.c, .int .u64 r.src.d], .int .i64 j] u fun e w' => e = .returned (.bool B1) ∧ Below u.heap.size u w') := Lib.hid fun u => by
        have h := rhas_c r.src.a r.src.b r.src.c r.src.d j u
        have e : hasB r.src.a r.src.b r.src.c r.src.d j = B1 := hB1
        rw [e] at h; exact h
      have HB1 := Lib.hid hB1
      have HLJ := Lib.hid (prN_len r hj)
      clear hB1
      go_wp2_with fail
      go_loopw [3, 5] (fun v3 vi wr2 => ∃ (k : Nat) (vv : Value), vv = v3 ∧ k ≤ 256 ∧ vi = .int .i64 k ∧ (k = 0 ∨ B1 = true) ∧ Hid (OwnP wr2 (gx + 1) vv (prN r j ++ tgN r j k)) ∧ Hid (BoxR wr2 gx r) ∧ Hid (Below gx w wr2) ∧ Hid (gx + 1 ≤ wr2.heap.size)) (fun _ vi _ => 256 - (intOf vi).toNat)
      case atStart => exact ⟨0, _, rfl, Nat.zero_le _, rfl, .inl rfl, Lib.hid (by show OwnP wr (gx + 1) _ (prN r j ++ []); rw [List.append_nil]; exact HO.out), HX, HB, HS⟩
      case round =>
        obtain ⟨k, v, rfl, hk, rfl, hk0, HO, HX, HB, HS⟩ := hrel
        obtain ⟨x0, x1, x2, x3, x4, x5, x6, x7, x8, x9, x10, x11, x12⟩ := BoxR.cells HX.out
        by_cases hklt : k < 256
        · have hklt' : (k : Int) < 256 := by omega
          cases B1
          · have HE : Hid (OwnP wr (gx + 1) v (prN r (j + 1))) := Lib.hid (by
              rw [prN_no HB1.out]
              rcases hk0 with rfl | h
              · have h1 := HO.out
                rwa [show tgN r j 0 = [] from rfl, List.append_nil] at h1
              · cases h)
            go_wp2_with (go_at_call 28; refine (HHS.out _).mono ?_; rintro e w5 ⟨rfl, hb5⟩; have HO5 := Lib.hid (HE.out.below hb5); have HX5 : Hid (BoxR w5 gx r) := Lib.hid (Blk.keep HX.out hb5); have HB5 := Lib.hid (HB.out.trans (hb5.mono (by have := HS.out; omega))); have HS5 : Hid (gx + 1 ≤ w5.heap.size) := Lib.hid (Nat.le_trans HS.out hb5.size); clear hb5)
            go_roundw
            case rel => exact ⟨j + 1, _, rfl, hjlt, by go_num, HO5, HX5, HB5, HS5⟩
            case measure => simp [intOf]; omega
          · obtain ⟨B2, hB2⟩ : ∃ B, hasS r.tgt k = B := ⟨_, rfl⟩
            have HHT : Hid (∀ u, Calls Try.prog 28 #[.agg #[.int .u64 r.tgt.a, .int .u64 r.tgt.b, .int .u64 r.tgt.c, .int .u64 r.tgt.d], .int .i64 k] u fun e w' => e = .returned (.bool B2) ∧ Below u.heap.size u w') := Lib.hid fun u => by
              have h := rhas_c r.tgt.a r.tgt.b r.tgt.c r.tgt.d k u
              have e : hasB r.tgt.a r.tgt.b r.tgt.c r.tgt.d k = B2 := hB2
              rw [e] at h; exact h
            have HB2 := Lib.hid hB2
            have HQL : Hid ((prN r j ++ tgN r j k).length ≤ 70000) := Lib.hid (by have h1 := HLJ.out; have h2 := tgN_len r j k; rw [List.length_append]; omega)
            have HPB : Hid (prB r j k = (B2 || (r.self && decide ((j : Int) = (k : Int))))) := Lib.hid (by unfold prB; rw [hB2])
            clear hB2
            go_upto_region 8 with (go_at_call 28; refine (HHS.out _).mono ?_; rintro e w5 ⟨rfl, hb5⟩; have HO5 := Lib.hid (HO.out.below hb5); have HX5 : Hid (BoxR w5 gx r) := Lib.hid (Blk.keep HX.out hb5); have HB5 := Lib.hid (HB.out.trans (hb5.mono (by have := HS.out; omega))); have HS5 : Hid (gx + 1 ≤ w5.heap.size) := Lib.hid (Nat.le_trans HS.out hb5.size); clear hb5)
            clear HO HX HB HS x0 x1 x2 x3 x4 x5 x6 x7 x8 x9 x10 x11 x12
            obtain ⟨y0, y1, y2, y3, y4, y5, y6, y7, y8, y9, y10, y11, y12⟩ := BoxR.cells HX5.out
            have HZF : Hid (∀ u, Below w5.heap.size w5 u → BoxR u gx r) := Lib.hid fun u h => Blk.keep HX5.out h
            by_cases hp : prB r j k = true
            · have HT : Hid (prN r j ++ tgN r j (k + 1) = (prN r j ++ tgN r j k) ++ [((j : Int), (k : Int))]) := Lib.hid (by rw [tgN_yes hp, List.append_assoc])
              generalize hQ : prN r j ++ tgN r j k = Q at *
              clear hQ
              rw [HPB.out] at hp
              cases B2
              · have hs : r.self = true := by revert hp; cases r.self <;> simp
                have hjk : (j : Int) = (k : Int) := by revert hp; rw [hs]; simp
                have hjk2 : ((j : Int) == (k : Int)) = true := by simpa using hjk
                rw [hs] at y9
                have Hhs := Lib.hid hs
                clear hp hjk hs
                go_wp2_with (first
                  | (go_at_call 28; refine (HHT.out _).mono ?_; rintro e w6 ⟨rfl, hb6⟩; have hz := (BoxR.cells (HZF.out _ hb6)).2.2.2.2.2.2.2.2.2.1; rw [Hhs.out] at hz; have HO6 := Lib.hid (HO5.out.below hb6); have HX6 : Hid (BoxR w6 gx r) := Lib.hid (HZF.out _ hb6); have HB6 := Lib.hid (HB5.out.trans (hb6.mono (by have := HS5.out; omega))); have HS6 : Hid (gx + 1 ≤ w6.heap.size) := Lib.hid (Nat.le_trans HS5.out hb6.size); clear hb6)
                  | (at_builtin; refine wpList_append_P (by rfl) _ _ (by rfl) (gx + 1) v Q Q.length rfl (by rfl) (HO6.out.below ((Below.refl _ w6).alloc (Nat.le_refl _) _)) w6.heap.size (j, k) (by rfl) (Blk.new _ _ _) (by have := HQL.out; omega) (by have := HS6.out; simp; omega) ?_; intro g' cap' w8 h1 h2 h3; have H1 := Lib.hid h1; have H2 := Lib.hid h2; clear h1 h2 h3))
                have hba : Below w6.heap.size w6 (w6.alloc (.cells #[.int .i64 j, .int .i64 k] 63)) := (Below.refl _ w6).alloc (Nat.le_refl _) _
                have hOa := HO6.out.below hba
                have HX8 : Hid (BoxR w8 gx r) := Lib.hid (BoxR.grown (Blk.keep HX6.out hba) hOa H2.out)
                have HB8 : Hid (Below gx w w8) := Lib.hid ((HB6.out.trans (hba.mono (by have := HS6.out; omega))).grown H2.out (by have := HS6.out; have := hba.size; omega) (fun q e => by have := (hOa.own q e).1; omega))
                have HS8 : Hid (gx + 1 ≤ w8.heap.size) := Lib.hid (by have := HS6.out; have := hba.size; have := H2.out.size; omega)
                go_wp2_with fail
                go_roundw
                case rel => exact ⟨k + 1, _, rfl, hklt, by go_num, .inr (by trivial), Lib.hid (by rw [HT.out]; simpa using H1.out), HX8, HB8, HS8⟩
                case measure => simp [intOf]; omega
              · clear hp
                go_wp2_with (first
                  | (go_at_call 28; refine (HHT.out _).mono ?_; rintro e w6 ⟨rfl, hb6⟩; skip; have HO6 := Lib.hid (HO5.out.below hb6); have HX6 : Hid (BoxR w6 gx r) := Lib.hid (HZF.out _ hb6); have HB6 := Lib.hid (HB5.out.trans (hb6.mono (by have := HS5.out; omega))); have HS6 : Hid (gx + 1 ≤ w6.heap.size) := Lib.hid (Nat.le_trans HS5.out hb6.size); clear hb6)
                  | (at_builtin; refine wpList_append_P (by rfl) _ _ (by rfl) (gx + 1) v Q Q.length rfl (by rfl) (HO6.out.below ((Below.refl _ w6).alloc (Nat.le_refl _) _)) w6.heap.size (j, k) (by rfl) (Blk.new _ _ _) (by have := HQL.out; omega) (by have := HS6.out; simp; omega) ?_; intro g' cap' w8 h1 h2 h3; have H1 := Lib.hid h1; have H2 := Lib.hid h2; clear h1 h2 h3))
                have hba : Below w6.heap.size w6 (w6.alloc (.cells #[.int .i64 j, .int .i64 k] 63)) := (Below.refl _ w6).alloc (Nat.le_refl _) _
                have hOa := HO6.out.below hba
                have HX8 : Hid (BoxR w8 gx r) := Lib.hid (BoxR.grown (Blk.keep HX6.out hba) hOa H2.out)
                have HB8 : Hid (Below gx w w8) := Lib.hid ((HB6.out.trans (hba.mono (by have := HS6.out; omega))).grown H2.out (by have := HS6.out; have := hba.size; omega) (fun q e => by have := (hOa.own q e).1; omega))
                have HS8 : Hid (gx + 1 ≤ w8.heap.size) := Lib.hid (by have := HS6.out; have := hba.size; have := H2.out.size; omega)
                go_wp2_with fail
                go_roundw
                case rel => exact ⟨k + 1, _, rfl, hklt, by go_num, .inr (by trivial), Lib.hid (by rw [HT.out]; simpa using H1.out), HX8, HB8, HS8⟩
                case measure => simp [intOf]; omega
            · have HT : Hid (prN r j ++ tgN r j (k + 1) = (prN r j ++ tgN r j k)) := Lib.hid (by rw [tgN_no (by simpa using hp)])
              generalize hQ : prN r j ++ tgN r j k = Q at *
              clear hQ
              rw [HPB.out] at hp
              cases B2
              · rcases Bool.eq_false_or_eq_true r.self with hs | hs
                · have hjk : ¬ (j : Int) = (k : Int) := by intro e; apply hp; rw [hs, decide_eq_true e]; rfl
                  have hjk2 : ((j : Int) == (k : Int)) = false := by simpa using hjk
                  rw [hs] at y9
                  have Hhs := Lib.hid hs
                  clear hp hjk hs
                  go_wp2_with (go_at_call 28; refine (HHT.out _).mono ?_; rintro e w6 ⟨rfl, hb6⟩; have hz := (BoxR.cells (HZF.out _ hb6)).2.2.2.2.2.2.2.2.2.1; rw [Hhs.out] at hz; have HO6 := Lib.hid (HO5.out.below hb6); have HX6 : Hid (BoxR w6 gx r) := Lib.hid (HZF.out _ hb6); have HB6 := Lib.hid (HB5.out.trans (hb6.mono (by have := HS5.out; omega))); have HS6 : Hid (gx + 1 ≤ w6.heap.size) := Lib.hid (Nat.le_trans HS5.out hb6.size); clear hb6)
                  go_roundw
                  case rel => exact ⟨k + 1, _, rfl, hklt, by go_num, .inr (by trivial), Lib.hid (by rw [HT.out]; exact HO6.out), HX6, HB6, HS6⟩
                  case measure => simp [intOf]; omega
                · rw [hs] at y9
                  have Hhs := Lib.hid hs
                  clear hp hs
                  go_wp2_with (go_at_call 28; refine (HHT.out _).mono ?_; rintro e w6 ⟨rfl, hb6⟩; have hz := (BoxR.cells (HZF.out _ hb6)).2.2.2.2.2.2.2.2.2.1; rw [Hhs.out] at hz; have HO6 := Lib.hid (HO5.out.below hb6); have HX6 : Hid (BoxR w6 gx r) := Lib.hid (HZF.out _ hb6); have HB6 := Lib.hid (HB5.out.trans (hb6.mono (by have := HS5.out; omega))); have HS6 : Hid (gx + 1 ≤ w6.heap.size) := Lib.hid (Nat.le_trans HS5.out hb6.size); clear hb6)
                  go_roundw
                  case rel => exact ⟨k + 1, _, rfl, hklt, by go_num, .inr (by trivial), Lib.hid (by rw [HT.out]; exact HO6.out), HX6, HB6, HS6⟩
                  case measure => simp [intOf]; omega
              · exact absurd rfl hp
        · obtain rfl : k = 256 := by omega
          have HE : Hid (OwnP wr (gx + 1) v (prN r (j + 1))) := Lib.hid (by
            rcases hk0 with h | h
            · cases h
            · rw [prN_yes (HB1.out.trans h), ← tgN_all]; exact HO.out)
          go_wp2_with fail
          go_roundw
          case rel => exact ⟨j + 1, _, rfl, hjlt, by go_num, HE, HX, HB, HS⟩
          case measure => simp [intOf]; omega
    · obtain rfl : j = 256 := by omega
      have hO : OwnP wr (gx + 1) v (prs r) := HO.out
      go_wp2_with fail
      go_ret
      exact ⟨_, rfl, hO.prs, by rw [hgx]; exact HB.out⟩
end Go.Proofs.Ytjikbffnhfoikaa
/- Least, to the world that grows. -/
namespace Go.Proofs.Ytjikbffnhfoikaa
open Go.RowKit Go.Sort
set_option maxHeartbeats 1000000 in
theorem has_gr (x0 x1 x2 x3 n : Int) (w : World) :
    Calls Try.prog 55 #[.agg #[.int .u64 x0, .int .u64 x1, .int .u64 x2, .int .u64 x3], .int .i64 n] w fun e w' => e = .returned (.bool (hasB x0 x1 x2 x3 n)) ∧ Gr w w' := by
  by_cases h : n < 0 ∨ 256 ≤ n
  · rw [hasB_out h]
    go_enter Try.func55, Try.ntmps55
    go_wp2_with fail
    go_quiet ((go_at_call 68; exact Calls.quiet_of_same (inr_no _ _ h)))
    go_wp2
    go_ret
    exact ⟨rfl, ((Gr.refl _).alloc _).drewN _⟩
  · have h0 : 0 ≤ n := by omega
    have h1 : n < 256 := by omega
    clear h
    rw [hasB_in h0 h1]
    rcases split4 x0 x1 x2 x3 n h0 h1 with ⟨l, u, hq, hx⟩ | ⟨l, u, hq, hx⟩ | ⟨l, u, hq, hx⟩ | ⟨l, u, hq, hx⟩ <;> rw [hx] <;> clear hx
    all_goals
      go_enter Try.func55, Try.ntmps55
      go_wp2_with fail
      go_quiet ((first | (go_at_call 68; exact Calls.quiet_of_same (inr_yes _ _ h0 h1)) | (go_at_call 69; exact Calls.quiet_of_same (bit_c _ _ h0 h1))))
      go_wp2
      go_ret
      exact ⟨rfl, ((Gr.refl _).alloc _).drewN _⟩
set_option maxRecDepth 100000 in
set_option maxHeartbeats 1000000 in
theorem least_gr (x0 x1 x2 x3 : Int) (w : World) :
    Calls Try.prog 72 #[.agg #[.int .u64 x0, .int .u64 x1, .int .u64 x2, .int .u64 x3]] w (fun e w' => ∃ m : Int, IsLeast x0 x1 x2 x3 m ∧ e = .returned (.int .i64 m) ∧ Gr w w') := by
  go_enter Try.func72, Try.ntmps72
  go_wp2
  go_loopw [4] (fun i wr => ∃ k : Nat, k ≤ 256 ∧ i = .int .i64 k ∧ NoneBelow x0 x1 x2 x3 k ∧ Quad wr w.heap.size x0 x1 x2 x3 ∧ Gr w wr)
    (fun i _ => 256 - (intOf i).toNat)
  case atStart => exact ⟨0, by omega, rfl, fun j hj => absurd hj (by omega), Quad.new _ _ _ _ _, (Gr.refl _).alloc _⟩
  case round =>
    obtain ⟨k, hk, rfl, hn, hs, hb⟩ := hrel
    obtain ⟨c0, c1, c2, c3, _⟩ := hs.facts
    by_cases hlt : k < 256
    · cases hh : hasB x0 x1 x2 x3 k
      · have H := Lib.hid hh
        clear hh
        go_wp2_with (go_at_call 55; refine (has_gr _ _ _ _ _ _).mono ?_; rintro e w' ⟨rfl, hb'⟩; rw [H.out])
        go_roundw
        case rel => exact ⟨k + 1, by omega, by go_num, hn.next H.out, hs.below hb'.below hs.lt, hb.trans hb'⟩
        case measure => simp [intOf]; omega
      · have H := Lib.hid hh
        clear hh
        go_wp2_with (go_at_call 55; refine (has_gr _ _ _ _ _ _).mono ?_; rintro e w' ⟨rfl, hb'⟩; rw [H.out])
        go_ret
        exact ⟨k, .inr ⟨k, hlt, rfl, H.out, hn⟩, rfl, hb.trans hb'⟩
    · go_wp2
      go_ret
      obtain rfl : k = 256 := by omega
      exact ⟨-1, .inl ⟨rfl, hn⟩, rfl, hb⟩
theorem isNaU_c (x : Int) (w : World) : Calls Try.prog 97 #[.int .u32 x] w fun e w' => e = .returned (.bool false) ∧ w = w' := by
  go_enter Try.func97, Try.ntmps97
  go_wp2
  go_ret
  exact ⟨by simp, rfl⟩
theorem compareU_c (x y : Int) (w : World) : Calls Try.prog 71 #[.int .u32 x, .int .u32 y] w fun e w' => e = .returned (.int .i64 (cmpI x y)) ∧ w = w' := by
  obtain ⟨R, hR⟩ : ∃ R, cmpI x y = R := ⟨_, rfl⟩
  rw [hR]
  have HR := Lib.hid hR
  clear hR
  by_cases h1 : x < y
  · go_enter Try.func71, Try.ntmps71
    go_wp2_with (go_at_call 97; refine (isNaU_c _ _).mono ?_; rintro e w' ⟨rfl, rfl⟩)
    go_ret
    exact ⟨by rw [← HR.out, cmpI_lt h1]; rfl, rfl⟩
  · by_cases h2 : y < x
    · go_enter Try.func71, Try.ntmps71
      go_wp2_with (go_at_call 97; refine (isNaU_c _ _).mono ?_; rintro e w' ⟨rfl, rfl⟩)
      go_ret
      exact ⟨by rw [← HR.out, cmpI_gt h2]; rfl, rfl⟩
    · go_enter Try.func71, Try.ntmps71
      go_wp2_with (go_at_call 97; refine (isNaU_c _ _).mono ?_; rintro e w' ⟨rfl, rfl⟩)
      go_ret
      exact ⟨by rw [← HR.out, cmpI_eq (by omega)]; rfl, rfl⟩
/-- the first that is not 0 -/
def leastUp (s : S4) : Nat → Int
  | 0 => -1
  | k + 1 => if hasS s ((256 - (k + 1) : Nat) : Int) = true then ((256 - (k + 1) : Nat) : Int) else leastUp s k
theorem leastUp_is (s : S4) : ∀ k, k ≤ 256 → NoneBelow s.a s.b s.c s.d (256 - k) → IsLeast s.a s.b s.c s.d (leastUp s k)
  | 0, _, h => .inl ⟨rfl, h⟩
  | k + 1, hk, h => by
    unfold leastUp
    by_cases e : hasS s ((256 - (k + 1) : Nat) : Int) = true
    · rw [if_pos e]
      exact .inr ⟨256 - (k + 1), by omega, rfl, e, h⟩
    · rw [if_neg e]
      refine leastUp_is s k (by omega) ?_
      have := h.next (by simpa [hasS] using e)
      rwa [show 256 - (k + 1) + 1 = 256 - k by omega] at this
def leastS (s : S4) : Int := leastUp s 256
theorem leastS_is (s : S4) : IsLeast s.a s.b s.c s.d (leastS s) := leastUp_is s 256 (Nat.le_refl _) (fun j hj => absurd hj (by omega))
theorem leastS_c (s : S4) (w : World) : Calls Try.prog 72 #[.agg #[.int .u64 s.a, .int .u64 s.b, .int .u64 s.c, .int .u64 s.d]] w fun e w' => e = .returned (.int .i64 (leastS s)) ∧ Gr w w' :=
  (least_gr s.a s.b s.c s.d w).mono fun _ _ ⟨_, h1, h2, h3⟩ => ⟨by rw [h2, h1.one (leastS_is s)], h3⟩
end Go.Proofs.Ytjikbffnhfoikaa
/- The comparison of rules. -/
namespace Go.Proofs.Ytjikbffnhfoikaa
open Go.RowKit Go.Sort
def cmpR (x y : Ru) : Int := orL [cmpI x.k y.k, cmpI x.cl y.cl, cmpI x.cd y.cd, cmpI (vI x.pm) (vI y.pm), cmpI (leastS x.src) (leastS y.src)]
set_option maxRecDepth 100000 in
set_option maxHeartbeats 4000000 in
theorem compareRules_c (x y : Ru) (w : World) : Calls Try.prog 47 #[.agg #[.int .i64 x.k, .int .u64 x.src.a, .int .u64 x.src.b, .int .u64 x.src.c, .int .u64 x.src.d, .int .u64 x.tgt.a, .int .u64 x.tgt.b, .int .u64 x.tgt.c, .int .u64 x.tgt.d, .bool x.self, .int .i64 x.cl, .int .u32 (vI x.pm), .int .i64 x.cd], .agg #[.int .i64 y.k, .int .u64 y.src.a, .int .u64 y.src.b, .int .u64 y.src.c, .int .u64 y.src.d, .int .u64 y.tgt.a, .int .u64 y.tgt.b, .int .u64 y.tgt.c, .int .u64 y.tgt.d, .bool y.self, .int .i64 y.cl, .int .u32 (vI y.pm), .int .i64 y.cd]] w fun e w' => e = .returned (.int .i64 (cmpR x y)) ∧ Gr w w' := by
  obtain ⟨R, hR⟩ : ∃ R, cmpR x y = R := ⟨_, rfl⟩
  rw [hR]
  have HR := Lib.hid hR
  clear hR
  obtain ⟨w2, hw2⟩ : ∃ w2, (w.alloc (.cells #[.int .i64 x.k, .int .u64 x.src.a, .int .u64 x.src.b, .int .u64 x.src.c, .int .u64 x.src.d, .int .u64 x.tgt.a, .int .u64 x.tgt.b, .int .u64 x.tgt.c, .int .u64 x.tgt.d, .bool x.self, .int .i64 x.cl, .int .u32 (vI x.pm), .int .i64 x.cd] 27)).alloc (.cells #[.int .i64 y.k, .int .u64 y.src.a, .int .u64 y.src.b, .int .u64 y.src.c, .int .u64 y.src.d, .int .u64 y.tgt.a, .int .u64 y.tgt.b, .int .u64 y.tgt.c, .int .u64 y.tgt.d, .bool y.self, .int .i64 y.cl, .int .u32 (vI y.pm), .int .i64 y.cd] 27) = w2 := ⟨_, rfl⟩
  have B1 : BoxR w2 w.heap.size x := by rw [← hw2]; exact (Blk.new w _ _).alloc _
  have B2 : BoxR w2 (w.heap.size + 1) y := by
    have h := Blk.new (w.alloc (.cells #[.int .i64 x.k, .int .u64 x.src.a, .int .u64 x.src.b, .int .u64 x.src.c, .int .u64 x.src.d, .int .u64 x.tgt.a, .int .u64 x.tgt.b, .int .u64 x.tgt.c, .int .u64 x.tgt.d, .bool x.self, .int .i64 x.cl, .int .u32 (vI x.pm), .int .i64 x.cd] 27)) 27 #[.int .i64 y.k, .int .u64 y.src.a, .int .u64 y.src.b, .int .u64 y.src.c, .int .u64 y.src.d, .int .u64 y.tgt.a, .int .u64 y.tgt.b, .int .u64 y.tgt.c, .int .u64 y.tgt.d, .bool y.self, .int .i64 y.cl, .int .u32 (vI y.pm), .int .i64 y.cd]
    rw [World.size_alloc, hw2] at h; exact h
  have G2 : Gr w w2 := by rw [← hw2]; exact ((Gr.refl w).alloc _).alloc _
  have L1 : Hid (∀ w1, Gr w2 w1 → BoxR w1 w.heap.size x) := Lib.hid fun w1 h => (h.below.block _ B1.lt).trans B1
  have L2 : Hid (∀ w1, Gr w2 w1 → BoxR w1 (w.heap.size + 1) y) := Lib.hid fun w1 h => (h.below.block _ B2.lt).trans B2
  go_enter Try.func47, Try.ntmps47
  go_wp2_with fail
  clear hw2 B1 B2
  refine wp_region_gt 27 (by kernel_rfl) (by kernel_rfl) ?_
  simp only [List.take_succ_cons, List.take_zero, List.drop_succ_cons, List.drop_zero]
  repeat (first
      | go_big_quiet_skip
      | (go_big_quiet_want
         go_big_quiet_op
         first
           | go_big_quiet_on
           | (apply Exists.intro
              refine ⟨fun w1 hC => ?_, ?_⟩
              · first
                  | (go_at_call 65; exact hC.call ((compareI_c _ _ _).mono fun _ _ ⟨he, hb⟩ => ⟨he, hb ▸ Gr.refl _⟩))
                  | (go_at_call 71; exact hC.call ((compareU_c _ _ _).mono fun _ _ ⟨he, hb⟩ => ⟨he, hb ▸ Gr.refl _⟩))
                  | (go_at_call 72; first | with_reducible exact hC.call (leastS_c x.src _) | with_reducible exact hC.call (leastS_c y.src _))
                  | (go_simp; exact ⟨rfl, rfl⟩)
                  | (obtain ⟨b0, b1, b2, b3, b4, b5, b6, b7, b8, b9, b10, b11, b12⟩ := (L1.out _ hC).cells; clear b5 b6 b7 b8 b9; go_simp; exact rfl)
                  | (obtain ⟨d0, d1, d2, d3, d4, d5, d6, d7, d8, d9, d10, d11, d12⟩ := (L2.out _ hC).cells; clear d5 d6 d7 d8 d9; go_simp; exact rfl)
              go_big_quiet_on)))
  refine wpQuiet_nil ?_
  intro W3 hC
  have G3 := G2.trans hC
  obtain ⟨C1, e1⟩ : ∃ C, cmpI x.k y.k = C := ⟨_, rfl⟩
  obtain ⟨C2, e2⟩ : ∃ C, cmpI x.cl y.cl = C := ⟨_, rfl⟩
  obtain ⟨C3, e3⟩ : ∃ C, cmpI x.cd y.cd = C := ⟨_, rfl⟩
  obtain ⟨C4, e4⟩ : ∃ C, cmpI (vI x.pm) (vI y.pm) = C := ⟨_, rfl⟩
  obtain ⟨C5, e5⟩ : ∃ C, cmpI (leastS x.src) (leastS y.src) = C := ⟨_, rfl⟩
  rw [e1, e2, e3, e4, e5]
  have HO : Hid (Calls Try.prog 64 #[.slice (some ⟨W3.heap.size, 0, none⟩) 5 5] (W3.alloc (.cells #[.int .i64 C1, .int .i64 C2, .int .i64 C3, .int .i64 C4, .int .i64 C5] 3)) fun e w' => e = .returned (.int .i64 R) ∧ W3.alloc (.cells #[.int .i64 C1, .int .i64 C2, .int .i64 C3, .int .i64 C4, .int .i64 C5] 3) = w') := Lib.hid (by
    have h := or_c W3.heap.size [C1, C2, C3, C4, C5] (W3.alloc (.cells #[.int .i64 C1, .int .i64 C2, .int .i64 C3, .int .i64 C4, .int .i64 C5] 3)) (by simp) (fun i hi => by
      rw [(Blk.new W3 _ _).cell i]
      simp only [List.length_cons, List.length_nil] at hi
      match i, hi with
      | 0, _ => rfl
      | 1, _ => rfl
      | 2, _ => rfl
      | 3, _ => rfl
      | 4, _ => rfl)
    rw [← HR.out, cmpR, e1, e2, e3, e4, e5]
    exact h)
  clear L1 L2 e1 e2 e3 e4 e5 hC G2
  go_wp2_with (go_at_call 64; refine HO.out.mono ?_; rintro e w' ⟨rfl, rfl⟩)
  go_ret
  exact ⟨rfl, G3.alloc _⟩
end Go.Proofs.Ytjikbffnhfoikaa
