/- What names mean together: union of the program, called with the function literals of Types and of listed. Condition: at most a million names. -/
import Derived.Test.YtbkejoheefnmiaaNsf
namespace Go.Proofs.Ytbkejoheefnmiaa
open Go.RowKit
def unB (g : ByteArray → Bool) (l : List ByteArray) : Bool := l.all g
def unF (f : ByteArray → S4) (l : List ByteArray) : S4 := l.foldl (fun s x => s.or (f x)) S4.zero
/-- what names mean together: nothing if one of them means nothing -/
def unS (f : ByteArray → S4) (g : ByteArray → Bool) (l : List ByteArray) : S4 := if unB g l then unF f l else S4.zero
theorem unF_snoc (f : ByteArray → S4) {l : List ByteArray} {i : Nat} (h : i < l.length) : unF f (l.take (i + 1)) = (unF f (l.take i)).or (f l[i]) := by
  unfold unF; rw [List.take_succ_eq_append_getElem h, List.foldl_append]; rfl
theorem un_no {fS : ByteArray → S4} {fB : ByteArray → Bool} {l : List ByteArray} {i : Nat} (h : i < l.length) (hb : fB l[i] = false) : unB fB l = false ∧ unS fS fB l = S4.zero := by
  have e : unB fB l = false := by
    unfold unB
    exact List.all_eq_false.2 ⟨l[i], List.getElem_mem h, by rw [hb]; simp⟩
  exact ⟨e, by unfold unS; rw [e]; rfl⟩
theorem un_yes {fS : ByteArray → S4} {fB : ByteArray → Bool} {l : List ByteArray} (h : ∀ k (hk : k < l.length), fB l[k] = true) : unB fB l = true ∧ unS fS fB l = unF fS l := by
  have e : unB fB l = true := by
    unfold unB
    exact List.all_eq_true.2 fun x hx => by
      obtain ⟨i, hi, rfl⟩ := List.mem_iff_getElem.1 hx
      exact h i hi
  exact ⟨e, by unfold unS; rw [e]; rfl⟩
set_option maxRecDepth 100000 in
set_option maxHeartbeats 4000000 in
theorem union_t (ge : Nat) (fS : ByteArray → S4) (fB : ByteArray → Bool) (v : Value) (l : List ByteArray) (w : World) (hS : Strs w v l) (hn : l.length ≤ 1000000)
    (hF : ∀ n W, Kp w W → Calls Try.prog 38 #[.string n, .pointer (some ⟨ge, 0, none⟩)] W (SetOut (fS n) (fB n) W)) :
    Calls Try.prog 49 #[v, .func (.func 38) #[] #[.pointer (some ⟨ge, 0, none⟩)]] w (SetOut (unS fS fB l) (unB fB l) w) := by
  obtain ⟨ao, cap, rfl, hr⟩ := hS
  obtain ⟨B, hB⟩ : ∃ B, unB fB l = B := ⟨_, rfl⟩
  obtain ⟨S, hS⟩ : ∃ S, unS fS fB l = S := ⟨_, rfl⟩
  rw [hB, hS]
  have HB := Lib.hid hB
  have HS := Lib.hid hS
  clear hB hS
  have HF := Lib.hid hF
  clear hF
  have hW : Below w.heap.size w (((w.alloc (.cells #[.int .u64 0, .int .u64 0, .int .u64 0, .int .u64 0] 35))).alloc (.cells #[.int .u64 0, .int .u64 0, .int .u64 0, .int .u64 0] 35)) := ((Below.refl _ _).alloc (Nat.le_refl _) _).alloc (by simp) _
  have hQ1 : Quad (((w.alloc (.cells #[.int .u64 0, .int .u64 0, .int .u64 0, .int .u64 0] 35))).alloc (.cells #[.int .u64 0, .int .u64 0, .int .u64 0, .int .u64 0] 35)) w.heap.size 0 0 0 0 := (Quad.new w 0 0 0 0).alloc _
  have hQ2 : Quad (((w.alloc (.cells #[.int .u64 0, .int .u64 0, .int .u64 0, .int .u64 0] 35))).alloc (.cells #[.int .u64 0, .int .u64 0, .int .u64 0, .int .u64 0] 35)) (w.heap.size + 1) 0 0 0 0 := quad_second w
  have HW := Lib.hid hW
  have HQ1 := Lib.hid hQ1
  have HQ2 := Lib.hid hQ2
  clear hW hQ1 hQ2
  go_enter Try.func49, Try.ntmps49
  go_wp2_with fail
  generalize (((w.alloc (.cells #[.int .u64 0, .int .u64 0, .int .u64 0, .int .u64 0] 35))).alloc (.cells #[.int .u64 0, .int .u64 0, .int .u64 0, .int .u64 0] 35)) = W at *
  go_loopw [13] (fun vi wr => ∃ i : Nat, i ≤ l.length ∧ vi = .int .i64 i ∧ Hid (∀ k (_ : k < i) (h' : k < l.length), fB l[k] = true) ∧ Hid (Kb (w.heap.size + 1) W wr) ∧ ∃ X : S4, Hid (unF fS (l.take i) = X) ∧ Hid (Quad wr (w.heap.size + 1) X.a X.b X.c X.d)) (fun vi _ => l.length - (intOf vi).toNat)
  case atStart => exact ⟨0, Nat.zero_le _, rfl, Lib.hid fun k h => absurd h (by omega), Lib.hid Kb.rfl', S4.zero, Lib.hid rfl, HQ2⟩
  case round =>
    obtain ⟨i, hi, rfl, HN, HK, X, HX, HQ⟩ := hrel
    have HKw : Hid (Kp w wr) := Lib.hid ((But.mono HK.out HW.out.size |> But.trans (But.of_below HW.out)).to_below (Nat.le_succ _))
    by_cases hlt : i < l.length
    · have hlt' : (i : Int) < (l.length : Int) := by omega
      obtain ⟨g, o, rfl, hR⟩ := hr (by rintro rfl; simp at hlt)
      have q := hR.keep (HKw.out.block g (hR.lt (by omega))) i hlt
      obtain ⟨x, hx⟩ : ∃ x, l[i] = x := ⟨_, rfl⟩
      rw [hx] at q
      have HFx := Lib.hid (HF.out x wr HKw.out)
      obtain ⟨Y, hY⟩ : ∃ Y, fS x = Y := ⟨_, rfl⟩
      rw [hY] at HFx
      have HQ1r : Hid (Quad wr w.heap.size 0 0 0 0) := Lib.hid (HK.out.blk HQ1.out (Nat.ne_of_lt (Nat.lt_succ_self _)))
      cases hb : fB x
      · obtain ⟨e1, e2⟩ := un_no (fS := fS) (fB := fB) hlt (by rw [hx]; exact hb)
        obtain rfl : false = B := by rw [← HB.out, e1]
        obtain rfl : S4.zero = S := by rw [← HS.out, e2]
        rw [hb] at HFx
        clear e1 e2 hb hx hY HN HX
        go_wp2_with fail
        refine HFx.out.mono ?_
        rintro e w2 ⟨rfl, hb2⟩
        have hQ := (HQ1r.out.keep hb2).alloc (.cells #[.int .u64 Y.a, .int .u64 Y.b, .int .u64 Y.c, .int .u64 Y.d] 35)
        have HBel : Hid (Kp w (w2.alloc (.cells #[.int .u64 Y.a, .int .u64 Y.b, .int .u64 Y.c, .int .u64 Y.d] 35))) := Lib.hid ((Kp.step HKw.out hb2).alloc _)
        obtain ⟨c0, c1, c2, c3, f0, f1, f2, f3⟩ := hQ.facts
        obtain ⟨r0, r1, r2, r3⟩ := quad_box (hQ.set4 0 0 0 0)
        clear hb2 hQ q
        go_wp2_with fail
        exact bodyPost_ret (v := .tuple #[.agg #[.int .u64 0, .int .u64 0, .int .u64 0, .int .u64 0], .bool false]) (by simp [results, Try.results49, go_sem, r0, r1, r2, r3]) rfl ⟨rfl, below_set4 HBel.out (Nat.le_refl _) _ _ _ _⟩
      · have HN2 : Hid (∀ k (_ : k < i + 1) (h' : k < l.length), fB l[k] = true) := Lib.hid fun k hk h => by
          rcases Nat.lt_or_ge k i with h' | h'
          · exact HN.out k h' h
          · obtain rfl : k = i := by omega
            rw [hx]; exact hb
        have HX2 : Hid (unF fS (l.take (i + 1)) = X.or Y) := Lib.hid (by rw [unF_snoc fS hlt, HX.out, hx, hY])
        rw [hb] at HFx
        clear hb hx hY HN HX
        go_wp2_with fail
        refine HFx.out.mono ?_
        rintro e w2 ⟨rfl, hb2⟩
        have hQ := (HQ.out.keep hb2).alloc (.cells #[.int .u64 Y.a, .int .u64 Y.b, .int .u64 Y.c, .int .u64 Y.d] 35)
        have HK2 : Hid (Kb (w.heap.size + 1) W (w2.alloc (.cells #[.int .u64 Y.a, .int .u64 Y.b, .int .u64 Y.c, .int .u64 Y.d] 35))) := Lib.hid ((HK.out.step hb2).alloc _)
        obtain ⟨c0, c1, c2, c3, f0, f1, f2, f3⟩ := hQ.facts
        have HQQ := Lib.hid hQ
        clear hb2 hQ q f0 f1 f2 f3
        go_wp2_with fail
        refine (union_c _ _ _ _ _ _ _ _ _).mono ?_
        rintro e w3 ⟨rfl, hb3⟩
        have hQ := HQQ.out.keep hb3
        have HK3 := Lib.hid (HK2.out.step hb3)
        clear c0 c1 c2 c3
        obtain ⟨c0, c1, c2, c3, f0, f1, f2, f3⟩ := hQ.facts
        have HQ4 := Lib.hid (hQ.set4 (X.or Y).a (X.or Y).b (X.or Y).c (X.or Y).d)
        clear hb3 hQ
        go_wp2_with fail
        go_roundw
        case rel => exact ⟨i + 1, hlt, by go_num, HN2, Lib.hid ((((HK3.out.set _ _).set _ _).set _ _).set _ _), X.or Y, HX2, HQ4⟩
        case measure => simp [intOf]; omega
    · obtain rfl : i = l.length := by omega
      obtain ⟨e1, e2⟩ := un_yes (fS := fS) (fB := fB) fun k h => HN.out k h h
      obtain rfl : true = B := by rw [← HB.out, e1]
      obtain rfl : X = S := by rw [← HS.out, e2, ← HX.out, List.take_length]
      clear HN e1 e2 HX
      have hQ1 := HK.out.blk HQ1.out (Nat.ne_of_lt (Nat.lt_succ_self _))
      obtain ⟨c0, c1, c2, c3⟩ := quad_box HQ.out
      have hQ1' : Quad wr w.heap.size 0 0 0 0 := hQ1
      obtain ⟨d0, d1, d2, d3, f0, f1, f2, f3⟩ := hQ1'.facts
      obtain ⟨r0, r1, r2, r3⟩ := quad_box (hQ1'.set4 X.a X.b X.c X.d)
      clear hQ1 hQ1'
      go_wp2_with fail
      exact bodyPost_ret (v := .tuple #[.agg #[.int .u64 X.a, .int .u64 X.b, .int .u64 X.c, .int .u64 X.d], .bool true]) (by simp [results, Try.results49, go_sem, r0, r1, r2, r3]) rfl ⟨rfl, below_set4 HKw.out (Nat.le_refl _) _ _ _ _⟩
set_option maxRecDepth 100000 in
set_option maxHeartbeats 4000000 in
theorem union_l (ge : Nat) (fS : ByteArray → S4) (fB : ByteArray → Bool) (v : Value) (l : List ByteArray) (w : World) (hS : Strs w v l) (hn : l.length ≤ 1000000)
    (hF : ∀ n W, Kp w W → Calls Try.prog 54 #[.string n, .pointer (some ⟨ge, 0, none⟩)] W (SetOut (fS n) (fB n) W)) :
    Calls Try.prog 49 #[v, .func (.func 54) #[] #[.pointer (some ⟨ge, 0, none⟩)]] w (SetOut (unS fS fB l) (unB fB l) w) := by
  obtain ⟨ao, cap, rfl, hr⟩ := hS
  obtain ⟨B, hB⟩ : ∃ B, unB fB l = B := ⟨_, rfl⟩
  obtain ⟨S, hS⟩ : ∃ S, unS fS fB l = S := ⟨_, rfl⟩
  rw [hB, hS]
  have HB := Lib.hid hB
  have HS := Lib.hid hS
  clear hB hS
  have HF := Lib.hid hF
  clear hF
  have hW : Below w.heap.size w (((w.alloc (.cells #[.int .u64 0, .int .u64 0, .int .u64 0, .int .u64 0] 35))).alloc (.cells #[.int .u64 0, .int .u64 0, .int .u64 0, .int .u64 0] 35)) := ((Below.refl _ _).alloc (Nat.le_refl _) _).alloc (by simp) _
  have hQ1 : Quad (((w.alloc (.cells #[.int .u64 0, .int .u64 0, .int .u64 0, .int .u64 0] 35))).alloc (.cells #[.int .u64 0, .int .u64 0, .int .u64 0, .int .u64 0] 35)) w.heap.size 0 0 0 0 := (Quad.new w 0 0 0 0).alloc _
  have hQ2 : Quad (((w.alloc (.cells #[.int .u64 0, .int .u64 0, .int .u64 0, .int .u64 0] 35))).alloc (.cells #[.int .u64 0, .int .u64 0, .int .u64 0, .int .u64 0] 35)) (w.heap.size + 1) 0 0 0 0 := quad_second w
  have HW := Lib.hid hW
  have HQ1 := Lib.hid hQ1
  have HQ2 := Lib.hid hQ2
  clear hW hQ1 hQ2
  go_enter Try.func49, Try.ntmps49
  go_wp2_with fail
  generalize (((w.alloc (.cells #[.int .u64 0, .int .u64 0, .int .u64 0, .int .u64 0] 35))).alloc (.cells #[.int .u64 0, .int .u64 0, .int .u64 0, .int .u64 0] 35)) = W at *
  go_loopw [13] (fun vi wr => ∃ i : Nat, i ≤ l.length ∧ vi = .int .i64 i ∧ Hid (∀ k (_ : k < i) (h' : k < l.length), fB l[k] = true) ∧ Hid (Kb (w.heap.size + 1) W wr) ∧ ∃ X : S4, Hid (unF fS (l.take i) = X) ∧ Hid (Quad wr (w.heap.size + 1) X.a X.b X.c X.d)) (fun vi _ => l.length - (intOf vi).toNat)
  case atStart => exact ⟨0, Nat.zero_le _, rfl, Lib.hid fun k h => absurd h (by omega), Lib.hid Kb.rfl', S4.zero, Lib.hid rfl, HQ2⟩
  case round =>
    obtain ⟨i, hi, rfl, HN, HK, X, HX, HQ⟩ := hrel
    have HKw : Hid (Kp w wr) := Lib.hid ((But.mono HK.out HW.out.size |> But.trans (But.of_below HW.out)).to_below (Nat.le_succ _))
    by_cases hlt : i < l.length
    · have hlt' : (i : Int) < (l.length : Int) := by omega
      obtain ⟨g, o, rfl, hR⟩ := hr (by rintro rfl; simp at hlt)
      have q := hR.keep (HKw.out.block g (hR.lt (by omega))) i hlt
      obtain ⟨x, hx⟩ : ∃ x, l[i] = x := ⟨_, rfl⟩
      rw [hx] at q
      have HFx := Lib.hid (HF.out x wr HKw.out)
      obtain ⟨Y, hY⟩ : ∃ Y, fS x = Y := ⟨_, rfl⟩
      rw [hY] at HFx
      have HQ1r : Hid (Quad wr w.heap.size 0 0 0 0) := Lib.hid (HK.out.blk HQ1.out (Nat.ne_of_lt (Nat.lt_succ_self _)))
      cases hb : fB x
      · obtain ⟨e1, e2⟩ := un_no (fS := fS) (fB := fB) hlt (by rw [hx]; exact hb)
        obtain rfl : false = B := by rw [← HB.out, e1]
        obtain rfl : S4.zero = S := by rw [← HS.out, e2]
        rw [hb] at HFx
        clear e1 e2 hb hx hY HN HX
        go_wp2_with fail
        refine HFx.out.mono ?_
        rintro e w2 ⟨rfl, hb2⟩
        have hQ := (HQ1r.out.keep hb2).alloc (.cells #[.int .u64 Y.a, .int .u64 Y.b, .int .u64 Y.c, .int .u64 Y.d] 35)
        have HBel : Hid (Kp w (w2.alloc (.cells #[.int .u64 Y.a, .int .u64 Y.b, .int .u64 Y.c, .int .u64 Y.d] 35))) := Lib.hid ((Kp.step HKw.out hb2).alloc _)
        obtain ⟨c0, c1, c2, c3, f0, f1, f2, f3⟩ := hQ.facts
        obtain ⟨r0, r1, r2, r3⟩ := quad_box (hQ.set4 0 0 0 0)
        clear hb2 hQ q
        go_wp2_with fail
        exact bodyPost_ret (v := .tuple #[.agg #[.int .u64 0, .int .u64 0, .int .u64 0, .int .u64 0], .bool false]) (by simp [results, Try.results49, go_sem, r0, r1, r2, r3]) rfl ⟨rfl, below_set4 HBel.out (Nat.le_refl _) _ _ _ _⟩
      · have HN2 : Hid (∀ k (_ : k < i + 1) (h' : k < l.length), fB l[k] = true) := Lib.hid fun k hk h => by
          rcases Nat.lt_or_ge k i with h' | h'
          · exact HN.out k h' h
          · obtain rfl : k = i := by omega
            rw [hx]; exact hb
        have HX2 : Hid (unF fS (l.take (i + 1)) = X.or Y) := Lib.hid (by rw [unF_snoc fS hlt, HX.out, hx, hY])
        rw [hb] at HFx
        clear hb hx hY HN HX
        go_wp2_with fail
        refine HFx.out.mono ?_
        rintro e w2 ⟨rfl, hb2⟩
        have hQ := (HQ.out.keep hb2).alloc (.cells #[.int .u64 Y.a, .int .u64 Y.b, .int .u64 Y.c, .int .u64 Y.d] 35)
        have HK2 : Hid (Kb (w.heap.size + 1) W (w2.alloc (.cells #[.int .u64 Y.a, .int .u64 Y.b, .int .u64 Y.c, .int .u64 Y.d] 35))) := Lib.hid ((HK.out.step hb2).alloc _)
        obtain ⟨c0, c1, c2, c3, f0, f1, f2, f3⟩ := hQ.facts
        have HQQ := Lib.hid hQ
        clear hb2 hQ q f0 f1 f2 f3
        go_wp2_with fail
        refine (union_c _ _ _ _ _ _ _ _ _).mono ?_
        rintro e w3 ⟨rfl, hb3⟩
        have hQ := HQQ.out.keep hb3
        have HK3 := Lib.hid (HK2.out.step hb3)
        clear c0 c1 c2 c3
        obtain ⟨c0, c1, c2, c3, f0, f1, f2, f3⟩ := hQ.facts
        have HQ4 := Lib.hid (hQ.set4 (X.or Y).a (X.or Y).b (X.or Y).c (X.or Y).d)
        clear hb3 hQ
        go_wp2_with fail
        go_roundw
        case rel => exact ⟨i + 1, hlt, by go_num, HN2, Lib.hid ((((HK3.out.set _ _).set _ _).set _ _).set _ _), X.or Y, HX2, HQ4⟩
        case measure => simp [intOf]; omega
    · obtain rfl : i = l.length := by omega
      obtain ⟨e1, e2⟩ := un_yes (fS := fS) (fB := fB) fun k h => HN.out k h h
      obtain rfl : true = B := by rw [← HB.out, e1]
      obtain rfl : X = S := by rw [← HS.out, e2, ← HX.out, List.take_length]
      clear HN e1 e2 HX
      have hQ1 := HK.out.blk HQ1.out (Nat.ne_of_lt (Nat.lt_succ_self _))
      obtain ⟨c0, c1, c2, c3⟩ := quad_box HQ.out
      have hQ1' : Quad wr w.heap.size 0 0 0 0 := hQ1
      obtain ⟨d0, d1, d2, d3, f0, f1, f2, f3⟩ := hQ1'.facts
      obtain ⟨r0, r1, r2, r3⟩ := quad_box (hQ1'.set4 X.a X.b X.c X.d)
      clear hQ1 hQ1'
      go_wp2_with fail
      exact bodyPost_ret (v := .tuple #[.agg #[.int .u64 X.a, .int .u64 X.b, .int .u64 X.c, .int .u64 X.d], .bool true]) (by simp [results, Try.results49, go_sem, r0, r1, r2, r3]) rfl ⟨rfl, below_set4 HKw.out (Nat.le_refl _) _ _ _ _⟩
end Go.Proofs.Ytbkejoheefnmiaa
