/- Package token: Text, walked. -/
import Derived.Test.YthjfedkginjbeaaTue
namespace Go.Proofs.Ythjfedkginjbeaa
open Go.RowKit
def spc : ByteArray := ⟨#[32]⟩
/-- the source of the first tokens -/
def joinN (l : List TI) : Nat → ByteArray
  | 0 => ⟨#[]⟩
  | n + 1 => match l[n]? with
    | none => joinN l n
    | some t => (if n = 0 then joinN l n else joinN l n ++ spc) ++ spell t.kind t.text
theorem joinN_succ {l : List TI} {n : Nat} (h : n < l.length) : joinN l (n + 1) = (if n = 0 then joinN l n else joinN l n ++ spc) ++ spell l[n].kind l[n].text := by
  simp only [joinN, List.getElem?_eq_getElem h]
theorem joinN_mono (l : List TI) (n : Nat) : (joinN l n).size ≤ (joinN l (n + 1)).size := by
  by_cases h : n < l.length
  · rw [joinN_succ h, ByteArray.size_append]
    split
    · omega
    · rw [ByteArray.size_append]; omega
  · simp [joinN, List.getElem?_eq_none (by omega : l.length ≤ n)]
theorem joinN_le (l : List TI) {n m : Nat} (h : n ≤ m) : (joinN l n).size ≤ (joinN l m).size := by
  induction h with
  | refl => exact Nat.le_refl _
  | step _ ih => exact Nat.le_trans ih (joinN_mono l _)
/-- what Text gives -/
def textR (l : List TI) : ByteArray × Int :=
  if (l.take (firstN l)).all (fun t => chkT t.kind t.text) then
    (if (joinN (l.take (firstN l)) (firstN l)).size ≤ 65536 then (joinN (l.take (firstN l)) (firstN l), 0) else (⟨#[]⟩, 4))
  else (⟨#[]⟩, 2)
theorem spell_size (k : Int) (t : ByteArray) : (spell k t).size ≤ t.size + 2 := by
  unfold spell
  split
  · rw [ByteArray.size_append, ByteArray.size_append]; have : q1.size = 1 := rfl; omega
  · omega
theorem strCells_app (a b : ByteArray) : Lib.strCells (a ++ b) = Lib.strCells a ++ Lib.strCells b := by
  simp [Lib.strCells, ByteArray.data_append]
theorem bld_of {s : ByteArray} : Lib.strCells s = Lib.byteCells s.data.toList := rfl
theorem bld_keep' {T e : TypeId} {B b : Nat} {bs : List Value} {w w' : World} (h : Lib.IsBuilder T e B b bs w) (hb : Below w.heap.size w w') : Lib.IsBuilder T e B b bs w' :=
  h.imp (fun h => bld_keep h hb) (fun h => bld_keep h hb)
set_option maxRecDepth 100000 in
set_option maxHeartbeats 8000000 in
theorem text_c (v : Value) (l : List TI) (w : World) (hn : l.length ≤ 1000000) (hT : Toks w v l) (hs : ∀ t ∈ l, t.text.size ≤ 1000000) :
    Calls Try.prog 24 #[v] w fun e w' => e = .returned (.tuple #[.string (textR l).1, .int .i64 (textR l).2]) ∧ Below w.heap.size w w' := by
  have hBE := bend_c v l w (by omega) hT
  have hFN : (l.take (firstN l)).length = firstN l := by rw [List.length_take]; have := firstN_le l; omega
  obtain ⟨RS, RC, hR⟩ : ∃ RS RC, textR l = (RS, RC) := ⟨_, _, rfl⟩
  rw [hR]
  simp only
  unfold textR at hR
  rw [← hFN] at hR
  rw [hFN] at hR
  have hs' : ∀ t ∈ l.take (firstN l), t.text.size ≤ 1000000 := fun t ht => hs t (List.mem_of_mem_take ht)
  obtain ⟨m, hm⟩ : ∃ m, l.take (firstN l) = m := ⟨_, rfl⟩
  rw [hm] at hBE hFN hR hs'
  rw [← hFN] at hR
  have hmn : m.length ≤ 1000000 := by rw [← hm, List.length_take]; omega
  have HM := Lib.hid hs'
  have HR := Lib.hid hR
  clear hs' hs hT hFN hm hR hn l
  go_enter Try.func24, Try.ntmps24
  go_wp2_with (go_at_call 43; refine hBE.mono ?_; rintro e w2 ⟨v', rfl, ⟨ao, cap, rfl, hcap, hT⟩, hb2⟩)
  clear hBE
  go_loopw [13] (fun vi wr => ∃ i : Nat, i ≤ m.length ∧ vi = .int .i64 i ∧ (∀ k (_ : k < i) (h1 : k < m.length), chkT m[k].kind m[k].text = true) ∧ Below w2.heap.size w2 wr)
    (fun vi _ => m.length - (intOf vi).toNat)
  case atStart => exact ⟨0, Nat.zero_le _, rfl, fun k h => absurd h (by omega), Below.refl _ _⟩
  case round =>
    obtain ⟨i, hi, rfl, hall, hb⟩ := hrel
    have HA := Lib.hid hall
    clear hall
    have hsz := hb.size
    by_cases hlt : i < m.length
    · obtain ⟨g, o, rfl, hRow⟩ := hT (by rintro rfl; simp at hlt)
      have hlg := hRow.lt (by rintro rfl; simp at hlt)
      obtain ⟨r0, r1, r2, r3⟩ := (hRow.keep (hb.block g hlg)).at hlt
      have hlt' : (i : Int) < (m.length : Int) := by omega
      have htz := HM.out m[i] (List.getElem_mem hlt)
      obtain ⟨⟨K, X, L, C⟩, htk⟩ : ∃ t, m[i] = t := ⟨_, rfl⟩
      rw [htk] at r0 r1 r2 r3 htz
      simp only at r0 r1 r2 r3 htz
      cases hc : chkT K X
      · have hall : m.all (fun t => chkT t.kind t.text) = false := by
          rw [List.all_eq_false]
          exact ⟨m[i], List.getElem_mem hlt, by rw [htk]; simpa using hc⟩
        have hR := HR.out
        rw [hall] at hR
        simp only [Bool.false_eq_true, if_false, Prod.mk.injEq] at hR
        obtain ⟨rfl, rfl⟩ := hR
        have HC := Lib.hid hc
        clear htk hc hall HR
        go_wp2_with (go_at_call 21; refine (check_c _ _ _ _ _ (by omega)).mono ?_; rintro e w3 ⟨rfl, hb3⟩; rw [HC.out])
        go_ret2
        exact ⟨rfl, hb2.trans (((hb.alloc (by omega) _).trans (hb3.mono (by simp; omega))).mono hb2.size)⟩
      · have HC := Lib.hid hc
        have HK : Hid (chkT m[i].kind m[i].text = true) := by rw [htk]; exact Lib.hid hc
        clear htk hc
        go_wp2_with (go_at_call 21; refine (check_c _ _ _ _ _ (by omega)).mono ?_; rintro e w3 ⟨rfl, hb3⟩; rw [HC.out])
        go_roundw
        case rel =>
          refine ⟨i + 1, hlt, by simp, fun k h h1 => ?_, (hb.alloc (by omega) _).trans (hb3.mono (by simp; omega))⟩
          rcases Nat.lt_or_ge k i with hk | hk
          · exact HA.out k hk h1
          · obtain rfl : k = i := by omega
            exact HK.out
        case measure => simp [intOf]; omega
    · obtain rfl : i = m.length := by omega
      have hall : m.all (fun t => chkT t.kind t.text) = true := by
        rw [List.all_eq_true]
        intro t ht
        obtain ⟨k, hk, rfl⟩ := List.getElem_of_mem ht
        exact HA.out k hk hk
      have hR := HR.out
      rw [hall] at hR
      simp only [if_true] at hR
      have HR2 := Lib.hid hR
      clear hR hall HR HA
      go_wp2_with fail
      have B0 := Lib.fresh_isBuilder 59 5 wr
      have hW3 := hb.alloc hsz (.cells #[.pointer none, .slice none 0 0] 59)
      have hbs : wr.heap.size < (wr.alloc (.cells #[.pointer none, .slice none 0 0] 59)).heap.size := by simp
      obtain ⟨b, hbb⟩ : ∃ b, wr.heap.size = b := ⟨_, rfl⟩
      rw [hbb] at B0 hsz hbs
      rw [hbb]
      generalize wr.alloc (.cells #[.pointer none, .slice none 0 0] 59) = W3 at *
      clear hb hbb wr
      go_loopw [23] (fun vi wr => ∃ i : Nat, i ≤ m.length ∧ vi = .int .i64 i ∧ (joinN m i).size ≤ 65536 ∧ Lib.IsBuilder 59 5 b b (Lib.strCells (joinN m i)) wr ∧ b < wr.heap.size ∧ Below w2.heap.size w2 wr)
        (fun vi _ => m.length - (intOf vi).toNat)
      case atStart => exact ⟨0, Nat.zero_le _, rfl, Nat.zero_le _, B0, hbs, hW3⟩
      case round =>
        clear hW3 B0 hbs W3
        obtain ⟨i, hi, rfl, hjz, hB, hbs, hb⟩ := hrel
        have hsz2 := hb.size
        by_cases hlt : i < m.length
        · obtain ⟨g, o, rfl, hRow⟩ := hT (by rintro rfl; simp at hlt)
          have hlg := hRow.lt (by rintro rfl; simp at hlt)
          obtain ⟨r0, r1, r2, r3⟩ := (hRow.keep (hb.block g hlg)).at hlt
          have hlt' : (i : Int) < (m.length : Int) := by omega
          have htz := HM.out m[i] (List.getElem_mem hlt)
          have hJ := joinN_succ hlt
          have hJn := joinN_le m (show i + 1 ≤ m.length from hlt)
          obtain ⟨⟨K, X, L, C⟩, htk⟩ : ∃ t, m[i] = t := ⟨_, rfl⟩
          rw [htk] at r0 r1 r2 r3 htz hJ
          simp only at r0 r1 r2 r3 htz hJ
          have hsp := spell_size K X
          clear htk
          obtain ⟨J0, hJ0⟩ : ∃ J, joinN m i = J := ⟨_, rfl⟩
          obtain ⟨J1, hJ1⟩ : ∃ J, joinN m (i + 1) = J := ⟨_, rfl⟩
          rw [hJ0] at hJ hjz hB
          rw [hJ1] at hJ hJn
          have HJ1 := Lib.hid hJ1
          clear hJ0 hJ1
          have B1 := bld_keep' hB ((Below.refl _ wr).alloc (Nat.le_refl _) (.cells #[.int .i64 K, .string X, .int .i64 L, .int .i64 C] 34))
          by_cases hi0 : i = 0
          · subst hi0
            simp only [Nat.zero_mul, Nat.add_zero] at r0 r1 r2 r3
            rw [if_pos rfl] at hJ
            have hsz9 : J1.size = J0.size + (spell K X).size := by rw [hJ, ByteArray.size_append]
            have HJ := Lib.hid hJ
            clear hJ
            by_cases hbig : 65536 < J1.size
            · have c9 : (65536 : Int) < (J1.size : Int) := by omega
              have hR := HR2.out
              rw [if_neg (by omega)] at hR
              simp only [Prod.mk.injEq] at hR
              obtain ⟨rfl, rfl⟩ := hR
              clear HR2
              go_wp2_with (first
              | (go_at_call 39; refine (spelling_c _ _ _ _ _ (by omega)).mono ?_; rintro e w3 ⟨rfl, hb3⟩
                 have B3 := bld_keep' B1 hb3
                 have hs3 := hb3.size
                 try simp at hs3)
              | (go_at_call 45; refine (bws_c b b _ _ _ B3 (by rw [Lib.strCells_length]; omega) (by omega)).mono ?_; rintro e w4 ⟨rfl, hB4, hb4, hk4⟩
                 have hB5 : Lib.BuilderAt 59 5 b b (.pointer (some ⟨b, 0, none⟩)) (Lib.strCells J1) w4 := by rw [HJ.out, strCells_app]; exact hB4)
              | (go_at_call 46; refine (bld_Len b b _ _ (.inr hB5)).mono ?_; rintro e w5 ⟨rfl, rfl⟩; rw [Lib.strCells_length]))
              go_ret2
              exact ⟨rfl, hb2.trans ((((hb.alloc (by omega) _).trans (hb3.mono (by simp; omega))).trans (hb4.mono (by omega))).mono hb2.size)⟩
            · have c9 : ¬ (65536 : Int) < (J1.size : Int) := by omega
              go_wp2_with (first
              | (go_at_call 39; refine (spelling_c _ _ _ _ _ (by omega)).mono ?_; rintro e w3 ⟨rfl, hb3⟩
                 have B3 := bld_keep' B1 hb3
                 have hs3 := hb3.size
                 try simp at hs3)
              | (go_at_call 45; refine (bws_c b b _ _ _ B3 (by rw [Lib.strCells_length]; omega) (by omega)).mono ?_; rintro e w4 ⟨rfl, hB4, hb4, hk4⟩
                 have hB5 : Lib.BuilderAt 59 5 b b (.pointer (some ⟨b, 0, none⟩)) (Lib.strCells J1) w4 := by rw [HJ.out, strCells_app]; exact hB4)
              | (go_at_call 46; refine (bld_Len b b _ _ (.inr hB5)).mono ?_; rintro e w5 ⟨rfl, rfl⟩; rw [Lib.strCells_length]))
              go_roundw
              case rel => exact ⟨0 + 1, hlt, by simp, by rw [HJ1.out]; omega, by rw [HJ1.out]; exact .inr hB5, by have := hb3.size; have := hb4.size; simp at this ⊢; omega, (((hb.alloc (by omega) _).trans (hb3.mono (by simp; omega))).trans (hb4.mono (by omega)))⟩
              case measure => simp [intOf]; omega
          · rw [if_neg hi0] at hJ
            have hip : (0 : Int) < (i : Int) := by omega
            have hsz9 : J1.size = J0.size + 1 + (spell K X).size := by rw [hJ, ByteArray.size_append, ByteArray.size_append]; rfl
            have HJ := Lib.hid hJ
            clear hJ
            by_cases hbig : 65536 < J1.size
            · have c9 : (65536 : Int) < (J1.size : Int) := by omega
              have hR := HR2.out
              rw [if_neg (by omega)] at hR
              simp only [Prod.mk.injEq] at hR
              obtain ⟨rfl, rfl⟩ := hR
              clear HR2
              go_wp2_with (first
              | (go_at_call 44; refine (bwb_c b b _ 32 _ B1 (by rw [Lib.strCells_length]; omega) (by simp; omega)).mono ?_; rintro e w6 ⟨rfl, hB6, hb6, hk6⟩
                 have T6 : Blk w6 wr.heap.size _ _ := hk6 _ _ _ (Blk.new wr _ _) (by decide) (by decide)
                 obtain ⟨t0, t1, t2, t3, _⟩ := cells4 T6
                 have hI6 : Lib.IsBuilder 59 5 b b (Lib.strCells J0 ++ [.int .u8 32]) w6 := .inr hB6
                 have hs6 := hb6.size
                 simp at hs6)
              | (go_at_call 39; refine (spelling_c _ _ _ _ _ (by omega)).mono ?_; rintro e w3 ⟨rfl, hb3⟩
                 have B3 := bld_keep' hI6 hb3
                 have hs3 := hb3.size
                 try simp at hs3)
              | (go_at_call 45; refine (bws_c b b _ _ _ B3 (by rw [List.length_append, Lib.strCells_length]; simp; omega) (by omega)).mono ?_; rintro e w4 ⟨rfl, hB4, hb4, hk4⟩
                 have hB5 : Lib.BuilderAt 59 5 b b (.pointer (some ⟨b, 0, none⟩)) (Lib.strCells J1) w4 := by rw [HJ.out, strCells_app, strCells_app]; exact hB4)
              | (go_at_call 46; refine (bld_Len b b _ _ (.inr hB5)).mono ?_; rintro e w5 ⟨rfl, rfl⟩; rw [Lib.strCells_length]))
              go_ret2
              exact ⟨rfl, hb2.trans (((((hb.alloc (by omega) _).trans (hb6.mono (by omega))).trans (hb3.mono (by omega))).trans (hb4.mono (by omega))).mono hb2.size)⟩
            · have c9 : ¬ (65536 : Int) < (J1.size : Int) := by omega
              go_wp2_with (first
              | (go_at_call 44; refine (bwb_c b b _ 32 _ B1 (by rw [Lib.strCells_length]; omega) (by simp; omega)).mono ?_; rintro e w6 ⟨rfl, hB6, hb6, hk6⟩
                 have T6 : Blk w6 wr.heap.size _ _ := hk6 _ _ _ (Blk.new wr _ _) (by decide) (by decide)
                 obtain ⟨t0, t1, t2, t3, _⟩ := cells4 T6
                 have hI6 : Lib.IsBuilder 59 5 b b (Lib.strCells J0 ++ [.int .u8 32]) w6 := .inr hB6
                 have hs6 := hb6.size
                 simp at hs6)
              | (go_at_call 39; refine (spelling_c _ _ _ _ _ (by omega)).mono ?_; rintro e w3 ⟨rfl, hb3⟩
                 have B3 := bld_keep' hI6 hb3
                 have hs3 := hb3.size
                 try simp at hs3)
              | (go_at_call 45; refine (bws_c b b _ _ _ B3 (by rw [List.length_append, Lib.strCells_length]; simp; omega) (by omega)).mono ?_; rintro e w4 ⟨rfl, hB4, hb4, hk4⟩
                 have hB5 : Lib.BuilderAt 59 5 b b (.pointer (some ⟨b, 0, none⟩)) (Lib.strCells J1) w4 := by rw [HJ.out, strCells_app, strCells_app]; exact hB4)
              | (go_at_call 46; refine (bld_Len b b _ _ (.inr hB5)).mono ?_; rintro e w5 ⟨rfl, rfl⟩; rw [Lib.strCells_length]))
              go_roundw
              case rel => exact ⟨i + 1, hlt, by simp, by rw [HJ1.out]; omega, by rw [HJ1.out]; exact .inr hB5, by have := hb3.size; have := hb4.size; have := hb6.size; simp at this ⊢; omega, ((((hb.alloc (by omega) _).trans (hb6.mono (by omega))).trans (hb3.mono (by omega))).trans (hb4.mono (by omega)))⟩
              case measure => simp [intOf]; omega
        · obtain rfl : i = m.length := by omega
          have hR := HR2.out
          rw [if_pos hjz] at hR
          simp only [Prod.mk.injEq] at hR
          obtain ⟨rfl, rfl⟩ := hR
          clear HR2
          go_wp2_with (go_at_call 47; refine (bld_String_any b b (joinN m m.length).data.toList _ hB (by omega)).mono ?_; rintro e w3 ⟨rfl, hb3⟩)
          go_ret2
          exact ⟨rfl, hb2.trans (hb.trans (hb3.mono hsz) |>.mono hb2.size)⟩
end Go.Proofs.Ythjfedkginjbeaa
