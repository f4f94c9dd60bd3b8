/- The reference's PutSet. -/
import Derived.Test.YtohmlmbolilbbaaOpm
namespace Go.Proofs.Ytohmlmbolilbbaa
open Go.RowKit
def encP (xs : List Int) (K i : Nat) : List Int := code K ++ (xs.take i).flatMap (fun x => code x.toNat)
theorem encP_next {xs : List Int} {K i : Nat} (h : i < xs.length) : encP xs K (i + 1) = encP xs K i ++ code (xs.getD i 0).toNat := by
  unfold encP
  rw [List.take_succ_eq_append_getElem h, List.flatMap_append, List.getD, List.getElem?_eq_getElem h, List.append_assoc]
  simp
theorem encP_all {xs : List Int} {K i : Nat} : AllB (encP xs K i) := by
  refine (code_all _).app ?_
  intro x hx
  obtain ⟨y, _, hy⟩ := List.mem_flatMap.1 hx
  exact code_all _ x hy
theorem encP_end {xs : List Int} : encP xs (elemN xs) (elemN xs) = encS xs := rfl
theorem encP_len {xs : List Int} {K i : Nat} (hK : K ≤ 4) (h4 : xs.length = 4) (hx : ∀ j, j < 4 → 0 ≤ xs.getD j 0 ∧ xs.getD j 0 < 18446744073709551616) : (encP xs K i).length ≤ 50 := by
  unfold encP
  rw [List.length_append]
  have h1 := code_len (n := K) (by omega)
  have h2 : ∀ ys : List Int, (∀ x ∈ ys, 0 ≤ x ∧ x < 18446744073709551616) → (ys.flatMap (fun x => code x.toNat)).length ≤ 10 * ys.length := by
    intro ys
    induction ys with
    | nil => intro _; simp
    | cons y ys ih =>
      intro h
      have hy := h y (by simp)
      have h3 := code_len (n := y.toNat) (by omega)
      have h4 := ih (fun x hx => h x (by simp [hx]))
      rw [List.flatMap_cons, List.length_append, List.length_cons]
      omega
  have h5 := h2 (xs.take i) (fun x h => by
    obtain ⟨j, hj, rfl⟩ := List.mem_iff_getElem.1 (List.mem_of_mem_take h)
    have := hx j (by omega)
    rw [List.getD, List.getElem?_eq_getElem hj] at this
    exact this)
  rw [List.length_take] at h5
  omega
set_option maxRecDepth 100000 in
set_option maxHeartbeats 4000000 in
theorem rPutSet_c (v : Value) (l : List Int) (x0 x1 x2 x3 : Int) (w : World) (hB : Byts w v l) (hx : ∀ x ∈ [x0, x1, x2, x3], 0 ≤ x ∧ x < 18446744073709551616) (hlen : l.length ≤ 200000000) :
    Calls Try.prog 28 #[v, .agg #[.int .u64 x0, .int .u64 x1, .int .u64 x2, .int .u64 x3]] w fun e w' => ∃ v', e = .returned v' ∧ OwnB w' w.heap.size v' (l ++ encS [x0, x1, x2, x3]) ∧ Below w.heap.size w w' := by
  have hKle := elemN_le [x0, x1, x2, x3]
  have hS := fun k => @elemN_step [x0, x1, x2, x3] k
  have hfl := @encP_end [x0, x1, x2, x3]
  have HX : Hid (∀ i, i < 4 → 0 ≤ [x0, x1, x2, x3].getD i 0 ∧ [x0, x1, x2, x3].getD i 0 < 18446744073709551616) := Lib.hid fun i hi => hx _ (by
    rcases (show i = 0 ∨ i = 1 ∨ i = 2 ∨ i = 3 by omega) with rfl | rfl | rfl | rfl <;> simp)
  obtain ⟨K, hK⟩ : ∃ K, elemN [x0, x1, x2, x3] = K := ⟨_, rfl⟩
  rw [hK] at hKle hfl hS
  have HFL := Lib.hid hfl
  have HS := Lib.hid hS
  have HB := Lib.hid hB
  simp only [List.length_cons, List.length_nil] at hKle
  have hPN := fun w hB => rPutNumber_c v l K w hB (by omega) (by omega)
  clear hfl hx hK hS hB
  go_enter Try.func28, Try.ntmps28
  go_wp2_with fail
  have F : Blk (w.alloc (.cells #[.int .u64 x0, .int .u64 x1, .int .u64 x2, .int .u64 x3] 40)) w.heap.size _ _ := Blk.new w _ _
  have hb : Below w.heap.size w (w.alloc (.cells #[.int .u64 x0, .int .u64 x1, .int .u64 x2, .int .u64 x3] 40)) := (Below.refl _ _).alloc (Nat.le_refl _) _
  generalize (w.alloc (.cells #[.int .u64 x0, .int .u64 x1, .int .u64 x2, .int .u64 x3] 40)) = W at *
  obtain ⟨c0, c1, c2, c3⟩ := mem4 F
  have HPN := Lib.hid (hPN W (HB.out.keep hb))
  clear hPN
  go_loop [5] (fun v => ∃ k : Nat, K ≤ k ∧ k ≤ 4 ∧ v = .int .i64 k) (fun v => (intOf v).toNat)
  case atStart => exact ⟨4, by omega, by omega, rfl⟩
  case round =>
    obtain ⟨k, hk1, hk2, rfl⟩ := hrel
    by_cases hk : k = 0
    · subst hk
      obtain rfl : K = 0 := by omega
      go_wp2_with (go_at_call 18; refine HPN.out.mono ?_; rintro e w2 ⟨v2, rfl, ho2, hb2⟩)
      have F2 := F.keep hb2
      have hb3 := hb.trans (hb2.mono hb.size)
      have HO2 : Hid (OwnB w2 w.heap.size v2 (l ++ encP [x0, x1, x2, x3] 0 0)) := by simp only [encP, List.take_zero, List.flatMap_nil, List.append_nil]; exact Lib.hid (ho2.mono hb.size)
      clear ho2 hb2
      go_loopw [6, 7] (fun vo vi wr => ∃ i : Nat, i ≤ 0 ∧ vi = .int .i64 i ∧ Hid (OwnB wr w.heap.size vo (l ++ encP [x0, x1, x2, x3] 0 i)) ∧ Blk wr w.heap.size 40 #[.int .u64 x0, .int .u64 x1, .int .u64 x2, .int .u64 x3] ∧ Below w.heap.size w wr) (fun _ vi _ => 0 - (intOf vi).toNat)
      case atStart => exact ⟨0, Nat.zero_le _, rfl, HO2, F2, hb3⟩
      case round =>
        clear F2 hb3 HO2 hb F c0 c1 c2 c3
        obtain ⟨i, hiK, rfl, HO, F, hb⟩ := hrel
        have hg := F.lt
        by_cases hlt : i < 0
        · exact absurd hlt (by omega)
        · obtain rfl : i = 0 := by omega
          have HO6 : Hid (OwnB wr w.heap.size u6 (l ++ encS [x0, x1, x2, x3])) := by rw [← HFL.out]; exact HO
          go_wp2
          go_ret
          exact ⟨_, rfl, HO6.out, hb⟩
    · obtain ⟨j, rfl⟩ : ∃ j, k = j + 1 := ⟨k - 1, by omega⟩
      have hxc := box_cell F (i := j) (by omega)
      obtain ⟨s1, s2⟩ := HS.out j hk1
      generalize [x0, x1, x2, x3].getD j 0 = X at hxc s1 s2
      clear hk
      by_cases hx : X = 0
      · have s := s1 hx
        subst hx
        clear s1 s2
        go_wp2
        go_round
        case rel => exact ⟨j, s, by omega, by first | rfl | go_num⟩
        case measure => simp [intOf]
      · obtain rfl := s2 hx
        have hx' : (X == 0) = false := by simpa using hx
        clear s1 s2 hx
        go_wp2_with (go_at_call 18; refine HPN.out.mono ?_; rintro e w2 ⟨v2, rfl, ho2, hb2⟩)
        have F2 := F.keep hb2
        have hb3 := hb.trans (hb2.mono hb.size)
        have HO2 : Hid (OwnB w2 w.heap.size v2 (l ++ encP [x0, x1, x2, x3] (j + 1) 0)) := by simp only [encP, List.take_zero, List.flatMap_nil, List.append_nil]; exact Lib.hid (ho2.mono hb.size)
        clear ho2 hb2
        go_loopw [6, 7] (fun vo vi wr => ∃ i : Nat, i ≤ j + 1 ∧ vi = .int .i64 i ∧ Hid (OwnB wr w.heap.size vo (l ++ encP [x0, x1, x2, x3] (j + 1) i)) ∧ Blk wr w.heap.size 40 #[.int .u64 x0, .int .u64 x1, .int .u64 x2, .int .u64 x3] ∧ Below w.heap.size w wr) (fun _ vi _ => j + 1 - (intOf vi).toNat)
        case atStart => exact ⟨0, Nat.zero_le _, rfl, HO2, F2, hb3⟩
        case round =>
          clear F2 hb3 HO2 hb F c0 c1 c2 c3
          obtain ⟨i, hiK, rfl, HO, F, hb⟩ := hrel
          have hg := F.lt
          by_cases hlt : i < j + 1
          · have hxc := box_cell F (i := i) (by omega)
            have hxb := HX.out i (by omega)
            have hlt' : (i : Int) < (j : Int) + 1 := by omega
            have HN := Lib.hid (encP_next (xs := [x0, x1, x2, x3]) (K := j + 1) (i := i) (by simp; omega))
            have hel2 := encP_len (xs := [x0, x1, x2, x3]) (K := j + 1) (i := i) (by omega) rfl HX.out
            obtain ⟨X, hX⟩ : ∃ X : Nat, [x0, x1, x2, x3].getD i 0 = X := ⟨([x0, x1, x2, x3].getD i 0).toNat, by omega⟩
            rw [hX] at hxc hxb HN
            rw [Int.toNat_natCast] at HN
            have HP2 := Lib.hid (rPutNumber_c u6 (l ++ encP [x0, x1, x2, x3] (j + 1) i) X wr (HO.out.byts (HB.out.all.app encP_all)) (by omega) (by rw [List.length_append]; omega))
            clear hX
            go_wp2_with (go_at_call 18; refine HP2.out.mono ?_; rintro e w3 ⟨v3, rfl, ho3, hb4⟩)
            have HO5 : Hid (OwnB w3 w.heap.size v3 (l ++ encP [x0, x1, x2, x3] (j + 1) (i + 1))) := by rw [HN.out, ← List.append_assoc]; first | exact Lib.hid (ho3.mono hb.size) | (rw [List.append_assoc]; exact Lib.hid (ho3.mono hb.size))
            clear ho3
            go_wp2_with fail
            go_roundw
            case rel => exact ⟨i + 1, hlt, by go_num, HO5, F.keep hb4, hb.trans (hb4.mono hb.size)⟩
            case measure => simp [intOf]; omega
          · obtain rfl : i = j + 1 := by omega
            have HO6 : Hid (OwnB wr w.heap.size u6 (l ++ encS [x0, x1, x2, x3])) := by rw [← HFL.out]; exact HO
            go_wp2
            go_ret
            exact ⟨_, rfl, HO6.out, hb⟩
end Go.Proofs.Ytohmlmbolilbbaa
