/- The text of a level with names. -/
import Derived.Test.YthjebccidcichaaBdr
import Derived.Test.YthjebccidcichaaLvr
namespace Go.Proofs.Ythjebccidcichaa
open Go.RowKit
def spB (p : Sp) : SpB := (p.1.data.toList, p.2.data.toList)
def lvB (n : ByteArray) (L : List Sp) : LvB := (n.data.toList, L.map spB)
theorem lsR_snoc (x : SpB) : ∀ l : List SpB, l ≠ [] → lsR (l ++ [x]) = lsR l ++ 44 :: spR x
  | [], h => absurd rfl h
  | [y], _ => by simp [lsR]
  | y :: z :: l, _ => by
    have := lsR_snoc x (z :: l) (by simp)
    show spR y ++ (if (z :: l) ++ [x] = [] then [] else 44 :: lsR ((z :: l) ++ [x])) = _
    rw [this, if_neg (by simp)]
    show _ = (spR y ++ (if (z :: l) = [] then [] else 44 :: lsR (z :: l))) ++ 44 :: spR x
    rw [if_neg (by simp)]
    simp
def mkN (i : Nat) : UInt8 := if i = 0 then 58 else 44
theorem levR_snoc (n : Bs) (x : SpB) (l : List SpB) : levR (n, l ++ [x]) = levR (n, l) ++ mkN l.length :: spR x := by
  unfold levR
  cases l with
  | nil => simp [lsR, mkN]
  | cons y l => rw [if_neg (by simp), if_neg (by simp), lsR_snoc x (y :: l) (by simp)]; simp [mkN]
theorem levR_nil (n : Bs) : levR (n, []) = n := by simp [levR]
theorem lv_step {n : ByteArray} {L : List Sp} {i : Nat} (h : i < L.length) : levR (lvB n (L.take (i + 1))) = levR (lvB n (L.take i)) ++ mkN i :: spR (spB L[i]) := by
  unfold lvB
  rw [List.take_succ_eq_append_getElem h, List.map_append, List.map_singleton, levR_snoc]
  simp [Nat.min_eq_left (Nat.le_of_lt h)]
theorem spR_len (p : Sp) : (spR (spB p)).length ≤ p.1.size + p.2.size + 1 := by
  unfold spR spB
  rw [Go.Lib.size_eq, Go.Lib.size_eq, List.length_append]
  split <;> simp <;> omega
theorem cells_app (a b : Bs) : Lib.byteCells (a ++ b) = Lib.byteCells a ++ Lib.byteCells b := by simp [Lib.byteCells]
theorem strB (s : ByteArray) : Lib.strCells s = Lib.byteCells s.data.toList := rfl
theorem bld_keep' {T e : TypeId} {B b : Nat} {bs : List Value} {w w' : World} (h : Lib.IsBuilder T e B b bs w) (hb : Below w.heap.size w w') : Lib.IsBuilder T e B b bs w' :=
  h.imp (fun h => bld_keep h hb) (fun h => bld_keep h hb)
def FewS (L : List Sp) : Prop := L.length ≤ 1000 ∧ ∀ p ∈ L, p.1.size ≤ 1000000 ∧ p.2.size ≤ 1000000
set_option maxRecDepth 100000 in
set_option maxHeartbeats 8000000 in
theorem levelText_c (n : ByteArray) (cv : Value) (L : List Sp) (w : World) (hS : Spans w cv L) (hn : n.size ≤ 1000000) (hL : FewS L) :
    Calls Try.prog 44 #[.agg #[.string n, cv]] w fun e w' => e = .returned (.string (mk (levR (lvB n L)))) ∧ Below w.heap.size w w' := by
  obtain ⟨hL0, hLs⟩ := hL
  obtain ⟨ao, cap, rfl, _⟩ := id hS
  obtain ⟨R, hR⟩ : ∃ R, mk (levR (lvB n L)) = R := ⟨_, rfl⟩
  rw [hR]
  have HR := Lib.hid hR
  have HLS := Lib.hid hLs
  have HS := Lib.hid hS
  clear hR hLs hS
  obtain ⟨hB1, hB2, hW0, hfr⟩ := two_box w 50 78 #[.string n, .slice ao L.length cap] #[.pointer none, .slice none 0 0]
  clear hB2
  have B0 := Lib.fresh_isBuilder 78 5 (w.alloc (.cells #[.string n, .slice ao L.length cap] 50))
  have hz : (w.alloc (.cells #[.string n, .slice ao L.length cap] 50)).heap.size = w.heap.size + 1 := by simp
  rw [hz] at B0
  go_enter Try.func44, Try.ntmps44
  go_wp2_with fail
  generalize (w.alloc (.cells #[.string n, .slice ao L.length cap] 50)).alloc (.cells #[.pointer none, .slice none 0 0] 78) = W at *
  refine (bws_c (w.heap.size + 1) (w.heap.size + 1) [] n W B0 (by simp; omega) (by omega)).mono ?_
  rintro e w2 ⟨rfl, hB2, hb2, hk2⟩
  have q1 := hk2 _ _ _ hB1 (by decide) (by decide)
  obtain ⟨y0, y1⟩ := q1.box2
  have hC2 : Below w.heap.size w w2 := hW0.trans (hb2.mono (by omega))
  have hs2 := hb2.size
  have hB3 : Lib.IsBuilder 78 5 (w.heap.size + 1) (w.heap.size + 1) (Lib.byteCells (levR (lvB n (L.take 0)))) w2 := by
    rw [List.take_zero]
    unfold lvB
    rw [List.map_nil, levR_nil]
    exact .inr (by simpa [strB] using hB2)
  clear q1 hB1 hB2 hb2 hk2 B0 hz hW0
  go_wp2_with fail
  clear y0 y1
  go_loopw [4, 13] (fun vm vi wr => ∃ i : Nat, i ≤ L.length ∧ vi = .int .i64 i ∧ vm = .string ⟨#[mkN i]⟩ ∧ (levR (lvB n (L.take i))).length ≤ 1000000 + i * 3000000 ∧ Lib.IsBuilder 78 5 (w.heap.size + 1) (w.heap.size + 1) (Lib.byteCells (levR (lvB n (L.take i)))) wr ∧ w.heap.size + 1 < wr.heap.size ∧ Below w.heap.size w wr) (fun _ vi _ => L.length - (intOf vi).toNat)
  case atStart => exact ⟨0, Nat.zero_le _, rfl, rfl, by rw [List.take_zero]; unfold lvB; rw [List.map_nil, levR_nil, ← Go.Lib.size_eq]; omega, hB3, by omega, hC2⟩
  case round =>
    clear hB3 hC2
    obtain ⟨i, hi, rfl, rfl, hlen, hB, hsz, hb⟩ := hrel
    by_cases hlt : i < L.length
    · have hlt' : (i : Int) < (L.length : Int) := by omega
      obtain ⟨ao', cap', hv, hr⟩ := HS.out.keep hb
      cases hv
      obtain ⟨g, o, rfl, hRow⟩ := hr (by rintro rfl; simp at hlt)
      obtain ⟨s1, s2⟩ := hRow i hlt
      have hst := lv_step (n := n) hlt
      have hbd := HLS.out _ (List.getElem_mem hlt)
      obtain ⟨sp, hsp⟩ : ∃ sp, L[i] = sp := ⟨_, rfl⟩
      rw [hsp] at s1 s2 hst hbd
      obtain ⟨x1, x2⟩ := sp
      simp only at s1 s2 hbd
      obtain ⟨A, hA⟩ : ∃ A, levR (lvB n (L.take i)) = A := ⟨_, rfl⟩
      obtain ⟨A', hA'⟩ : ∃ A, levR (lvB n (L.take (i + 1))) = A := ⟨_, rfl⟩
      rw [hA] at hlen hB hst
      rw [hA'] at hst
      have hm : (⟨#[mkN i]⟩ : ByteArray).size = 1 := rfl
      have hm2 : Lib.strCells ⟨#[mkN i]⟩ = Lib.byteCells [mkN i] := rfl
      have HA' := Lib.hid hA'
      have HST := Lib.hid hst
      have q5 := Blk.new wr 68 #[.string x1, .string x2]
      have hbb5 : Below wr.heap.size wr (wr.alloc (.cells #[.string x1, .string x2] 68)) := (Below.refl _ _).alloc (Nat.le_refl _) _
      have B5 := bld_keep' hB hbb5
      have HC5 := Lib.hid (bws_c (w.heap.size + 1) (w.heap.size + 1) _ ⟨#[mkN i]⟩ _ B5 (by rw [Lib.byteCells_length, hm]; omega) (by simp; omega))
      have hb5 := hb.alloc (by omega) (.cells #[.string x1, .string x2] 68)
      have hsz5 : (w.heap.size + 1) < (wr.alloc (.cells #[.string x1, .string x2] 68)).heap.size := by simp; omega
      have HQ5 := Lib.hid q5
      have he := empty_beq x2
      have hx1 := Go.Lib.size_eq x1
      have hx2 := Go.Lib.size_eq x2
      clear hA hA' hst hRow hr hB q5 B5 hsp hm hbb5
      by_cases hz : x2.size = 0
      · rw [decide_eq_true hz] at he
        have hE : A' = A ++ mkN i :: x1.data.toList := by rw [HST.out]; unfold spR spB; rw [if_pos (List.eq_nil_of_length_eq_zero (by rw [← hx2]; exact hz)), List.append_nil]
        have HE := Lib.hid hE
        clear hE HST hz
        go_wp2_with fail
        refine HC5.out.mono ?_
        rintro e w6 ⟨rfl, B6, hb6, hk6⟩
        have hb6' : Below w.heap.size w w6 := hb5.trans (hb6.mono (Nat.le_succ _))
        have hsz6 : (w.heap.size + 1) < w6.heap.size := Nat.lt_of_lt_of_le hsz5 hb6.size
        have q6 := hk6 _ _ _ HQ5.out (by decide) (by decide)
        obtain ⟨y0, y1⟩ := q6.box2
        rw [hm2, ← cells_app] at B6
        have HC6 := Lib.hid (bws_c (w.heap.size + 1) (w.heap.size + 1) _ x1 _ (.inr B6) (by rw [Lib.byteCells_length, List.length_append]; simp; omega) (by omega))
        clear HC5 B6 hb6 hk6
        go_wp2_with fail
        refine HC6.out.mono ?_
        rintro e w7 ⟨rfl, B7, hb7, hk7⟩
        have hb7' : Below w.heap.size w w7 := hb6'.trans (hb7.mono (Nat.le_succ _))
        have hsz7 : (w.heap.size + 1) < w7.heap.size := Nat.lt_of_lt_of_le hsz6 hb7.size
        have q7 := hk7 _ _ _ q6 (by decide) (by decide)
        clear y0 y1
        obtain ⟨y0, y1⟩ := q7.box2
        rw [strB, ← cells_app] at B7
        clear HC6 hb7 hk7 q6
        have hA9 : A ++ [mkN i] ++ x1.data.toList = A' := by rw [HE.out]; simp
        rw [hA9] at B7
        have hl9 : A'.length ≤ 1000000 + (i + 1) * 3000000 := by rw [← hA9]; simp; omega
        clear hA9 HE q7
        go_wp2_with fail
        go_roundw
        case rel => exact ⟨i + 1, hlt, by go_num, rfl, by rw [HA'.out]; exact hl9, by rw [HA'.out]; exact .inr B7, hsz7, hb7'⟩
        case measure => simp [intOf]; omega
      · rw [decide_eq_false hz] at he
        have hE : A' = A ++ mkN i :: (x1.data.toList ++ 46 :: x2.data.toList) := by rw [HST.out]; unfold spR spB; rw [if_neg (fun h => hz (by rw [hx2]; exact congrArg List.length h))]
        have HE := Lib.hid hE
        clear hE HST hz
        go_wp2_with fail
        refine HC5.out.mono ?_
        rintro e w6 ⟨rfl, B6, hb6, hk6⟩
        have hb6' : Below w.heap.size w w6 := hb5.trans (hb6.mono (Nat.le_succ _))
        have hsz6 : (w.heap.size + 1) < w6.heap.size := Nat.lt_of_lt_of_le hsz5 hb6.size
        have q6 := hk6 _ _ _ HQ5.out (by decide) (by decide)
        obtain ⟨y0, y1⟩ := q6.box2
        rw [hm2, ← cells_app] at B6
        have HC6 := Lib.hid (bws_c (w.heap.size + 1) (w.heap.size + 1) _ x1 _ (.inr B6) (by rw [Lib.byteCells_length, List.length_append]; simp; omega) (by omega))
        clear HC5 B6 hb6 hk6
        go_wp2_with fail
        refine HC6.out.mono ?_
        rintro e w7 ⟨rfl, B7, hb7, hk7⟩
        have hb7' : Below w.heap.size w w7 := hb6'.trans (hb7.mono (Nat.le_succ _))
        have hsz7 : (w.heap.size + 1) < w7.heap.size := Nat.lt_of_lt_of_le hsz6 hb7.size
        have q7 := hk7 _ _ _ q6 (by decide) (by decide)
        clear y0 y1
        obtain ⟨y0, y1⟩ := q7.box2
        rw [strB, ← cells_app] at B7
        clear HC6 hb7 hk7 q6
        have hm46 : (⟨#[46]⟩ : ByteArray).size = 1 := rfl
        have HC7 := Lib.hid (bws_c (w.heap.size + 1) (w.heap.size + 1) _ ⟨#[46]⟩ _ (.inr B7) (by rw [Lib.byteCells_length, List.length_append, List.length_append, ← hx1, hm46]; simp; omega) (by omega))
        have hm3 : Lib.strCells ⟨#[46]⟩ = Lib.byteCells [46] := rfl
        go_wp2_with fail
        refine HC7.out.mono ?_
        rintro e w8 ⟨rfl, B8, hb8, hk8⟩
        have hb8' : Below w.heap.size w w8 := hb7'.trans (hb8.mono (Nat.le_succ _))
        have hsz8 : (w.heap.size + 1) < w8.heap.size := Nat.lt_of_lt_of_le hsz7 hb8.size
        have q8 := hk8 _ _ _ q7 (by decide) (by decide)
        clear y0 y1
        obtain ⟨y0, y1⟩ := q8.box2
        rw [hm3, ← cells_app] at B8
        have HC8 := Lib.hid (bws_c (w.heap.size + 1) (w.heap.size + 1) _ x2 _ (.inr B8) (by rw [Lib.byteCells_length, List.length_append, List.length_append, List.length_append, ← hx1]; simp; omega) (by omega))
        clear HC7 B7 hb8 hk8 q7
        go_wp2_with fail
        refine HC8.out.mono ?_
        rintro e w9 ⟨rfl, B9, hb9, hk9⟩
        have hb9' : Below w.heap.size w w9 := hb8'.trans (hb9.mono (Nat.le_succ _))
        have hsz9 : (w.heap.size + 1) < w9.heap.size := Nat.lt_of_lt_of_le hsz8 hb9.size
        rw [strB, ← cells_app] at B9
        have hA9 : A ++ [mkN i] ++ x1.data.toList ++ [46] ++ x2.data.toList = A' := by rw [HE.out]; simp
        rw [hA9] at B9
        have hl9 : A'.length ≤ 1000000 + (i + 1) * 3000000 := by rw [← hA9]; simp; omega
        clear HC8 B8 hb9 hk9 q8 y0 y1 hA9 HE
        go_wp2_with fail
        go_roundw
        case rel => exact ⟨i + 1, hlt, by go_num, rfl, by rw [HA'.out]; exact hl9, by rw [HA'.out]; exact .inr B9, hsz9, hb9'⟩
        case measure => simp [intOf]; omega
    · obtain rfl : i = L.length := by omega
      have HB := Lib.hid hB
      rw [List.take_length] at HB
      clear hB hlen
      go_wp2_with fail
      refine (bld_String_any _ _ (levR (lvB n L)) _ HB.out (by omega)).mono ?_
      rintro e w3 ⟨rfl, hb3⟩
      go_wp2_with fail
      go_ret
      exact ⟨by rw [← HR.out]; rfl, hb.trans (hb3.mono (Nat.le_succ _))⟩
end Go.Proofs.Ythjebccidcichaa
