/- Reading a range; Parse. -/
import Derived.Test.YthjebccidcichaaLvv
namespace Go.Proofs.Ythjebccidcichaa
open Go.RowKit
def lvX (s : Bs) : LvB := (rdLv s).getD ([], [])
theorem lvN_X (s : Bs) : lvN s = mk (lvX s).1 := by unfold lvN lvX; cases rdLv s <;> rfl
theorem lvL_X (s : Bs) : lvL s = (lvX s).2.map mkS := by unfold lvL lvX; cases rdLv s <;> rfl
def rgHi (s : Bs) : LvB := if (rdLv (cutL 45 s).1).isSome = true ∧ (cutL 45 s).2.2 = true then lvX (cutL 45 s).2.1 else ([], [])
def rgOk (s : Bs) : Bool := (rdLv (cutL 45 s).1).isSome && (!(cutL 45 s).2.2 || (rdLv (cutL 45 s).2.1).isSome)
theorem rdRg_eq (s : Bs) : rdRg s = if rgOk s = true then some (lvX (cutL 45 s).1, rgHi s) else none := by
  unfold rdRg rgOk rgHi lvX
  cases h1 : rdLv (cutL 45 s).1 with
  | none => simp
  | some lo =>
    cases h2 : (cutL 45 s).2.2
    · simp
    · cases h3 : rdLv (cutL 45 s).2.1 <;> simp
def RgOut (n1 : Bs) (L1 : List SpB) (n2 : Bs) (L2 : List SpB) (ok : Bool) (w : World) (e : Ending) (w' : World) : Prop :=
  ∃ v1 v2, e = .returned (.tuple #[.agg #[.string (mk n1), v1, .string (mk n2), v2], .bool ok]) ∧ Spans w' v1 (L1.map mkS) ∧ Spans w' v2 (L2.map mkS) ∧ Below w.heap.size w w'
set_option maxRecDepth 100000 in
set_option maxHeartbeats 8000000 in
theorem readRange_c (s : Bs) (w : World) (hs : s.length ≤ 1000000) :
    Calls Try.prog 47 #[.string (mk s)] w (RgOut (lvX (cutL 45 s).1).1 (lvX (cutL 45 s).1).2 (rgHi s).1 (rgHi s).2 (rgOk s) w) := by
  obtain ⟨l1, l2⟩ := cut_le 45 s
  have hC := fun W => cut_c (mk s) 45 W hs
  have h1 := fun W => readLevel_c (cutL 45 s).1 W (by omega)
  have h2 := fun W => readLevel_c (cutL 45 s).2.1 W (by omega)
  unfold CutV at hC
  rw [mk_list] at hC
  unfold RdLvOut at h1 h2
  rw [lvN_X, lvL_X] at h1 h2
  unfold rgHi rgOk
  generalize cutL 45 s = t at *
  obtain ⟨f, b, two⟩ := t
  simp only at hC h1 h2 ⊢
  clear l1 l2 hs
  have hz1 : (rdLv f).isSome = false → lvX f = ([], []) := fun h => by unfold lvX; cases hh : rdLv f with | none => rfl | some _ => rw [hh] at h; cases h
  obtain ⟨k1, hk1⟩ : ∃ k, (rdLv f).isSome = k := ⟨_, rfl⟩
  obtain ⟨k2, hk2⟩ : ∃ k, (rdLv b).isSome = k := ⟨_, rfl⟩
  rw [hk1] at h1 hz1 ⊢
  rw [hk2] at h2 ⊢
  generalize lvX f = X1 at *
  generalize lvX b = X2 at *
  obtain ⟨n1, L1⟩ := X1
  obtain ⟨n2, L2⟩ := X2
  simp only at h1 h2 hz1 ⊢
  have HC := Lib.hid hC
  have H1 := Lib.hid h1
  have H2 := Lib.hid h2
  have hB := Blk.new w 52 #[.string ⟨#[]⟩, .slice none 0 0, .string ⟨#[]⟩, .slice none 0 0]
  have hW : Kp w (w.alloc (.cells #[.string ⟨#[]⟩, .slice none 0 0, .string ⟨#[]⟩, .slice none 0 0] 52)) := Kp.rfl'.alloc _
  clear hC h1 h2 hk1 hk2
  cases k1
  · obtain ⟨rfl, rfl⟩ := Prod.mk.inj (hz1 rfl)
    clear hz1 H2
    simp only [Bool.false_eq_true, false_and, if_false, Bool.false_and]
    go_enter Try.func47, Try.ntmps47
    go_wp2_with fail
    refine (HC.out _).mono ?_
    rintro e w2 ⟨rfl, hb2⟩
    have hC2 := Kp.step hW hb2
    have q2 := hB.keep hb2
    clear hb2
    go_wp2_with fail
    refine (H1.out _).mono ?_
    rintro e w3 ⟨v1, rfl, hS3, hb3⟩
    obtain ⟨ao1, cap1, hv, _⟩ := id hS3
    simp only [List.map_nil, List.length_nil] at hv
    subst hv
    have hC3 := (Kp.step hC2 hb3).alloc (.cells #[.string (mk []), .slice ao1 0 cap1] 50)
    have q3 := (q2.keep hb3).alloc (.cells #[.string (mk []), .slice ao1 0 cap1] 50)
    obtain ⟨y0, y1, y2, y3, y4, y5, y6, y7⟩ := q3.cells4
    clear hb3 q2
    go_wp2_with fail
    obtain ⟨r0, r1, r2, r3⟩ := (q3.set4 (.string ⟨#[]⟩) (.slice none 0 0) (.string ⟨#[]⟩) (.slice none 0 0)).box4
    exact bodyPost_ret (v := .tuple #[.agg #[.string ⟨#[]⟩, .slice none 0 0, .string ⟨#[]⟩, .slice none 0 0], .bool false]) (by simp [results, Try.results47, go_sem, r0, r1, r2, r3]) rfl ⟨_, _, rfl, Spans.nil, Spans.nil, below_set4 hC3 (Nat.le_refl _) _ _ _ _⟩
  · clear hz1
    cases two
    · clear H2
      go_enter Try.func47, Try.ntmps47
      go_wp2_with fail
      refine (HC.out _).mono ?_
      rintro e w2 ⟨rfl, hb2⟩
      have hC2 := Kp.step hW hb2
      have q2 := hB.keep hb2
      clear hb2
      go_wp2_with fail
      refine (H1.out _).mono ?_
      rintro e w3 ⟨v1, rfl, hS3, hb3⟩
      obtain ⟨ao1, cap1, hv, _⟩ := id hS3
      rw [List.length_map] at hv
      subst hv
      have hC3 := (Kp.step hC2 hb3).alloc (.cells #[.string (mk n1), .slice ao1 L1.length cap1] 50)
      have q3 := (q2.keep hb3).alloc (.cells #[.string (mk n1), .slice ao1 L1.length cap1] 50)
      have hS4 := hS3.keep ((Below.refl _ _).alloc (Nat.le_refl _) (.cells #[.string (mk n1), .slice ao1 L1.length cap1] 50))
      obtain ⟨y0, y1, y2, y3, y4, y5, y6, y7⟩ := q3.cells4
      have HS4 := Lib.hid hS4
      clear hb3 q2 hS3 hS4
      go_wp2_with fail
      obtain ⟨r0, r1, r2, r3⟩ := (q3.set4 (.string (mk n1)) (.slice ao1 L1.length cap1) (.string ⟨#[]⟩) (.slice none 0 0)).box4
      exact bodyPost_ret (v := .tuple #[.agg #[.string (mk n1), .slice ao1 L1.length cap1, .string ⟨#[]⟩, .slice none 0 0], .bool true]) (by simp [results, Try.results47, go_sem, r0, r1, r2, r3]) rfl ⟨_, _, rfl, HS4.out.set4 q3 _ _ _ _, Spans.nil, below_set4 hC3 (Nat.le_refl _) _ _ _ _⟩
    · go_enter Try.func47, Try.ntmps47
      go_wp2_with fail
      refine (HC.out _).mono ?_
      rintro e w2 ⟨rfl, hb2⟩
      have hC2 := Kp.step hW hb2
      have q2 := hB.keep hb2
      clear hb2
      go_wp2_with fail
      refine (H1.out _).mono ?_
      rintro e w3 ⟨v1, rfl, hS3, hb3⟩
      obtain ⟨ao1, cap1, hv, _⟩ := id hS3
      rw [List.length_map] at hv
      subst hv
      have hC3 := (Kp.step hC2 hb3).alloc (.cells #[.string (mk n1), .slice ao1 L1.length cap1] 50)
      have q3 := (q2.keep hb3).alloc (.cells #[.string (mk n1), .slice ao1 L1.length cap1] 50)
      have p3 := Blk.new w3 50 #[.string (mk n1), .slice ao1 L1.length cap1]
      have hS4 := hS3.keep ((Below.refl _ _).alloc (Nat.le_refl _) (.cells #[.string (mk n1), .slice ao1 L1.length cap1] 50))
      have HS4 := Lib.hid hS4
      have HQ3 := Lib.hid q3
      have HP3 := Lib.hid p3
      clear hb3 q2 q3 p3 hS3 hS4
      go_wp2_with fail
      refine (H2.out _).mono ?_
      rintro e w5 ⟨v2, rfl, hS5, hb5⟩
      obtain ⟨ao2, cap2, hv, _⟩ := id hS5
      rw [List.length_map] at hv
      subst hv
      have hC5 := (Kp.step hC3 hb5).alloc (.cells #[.string (mk n2), .slice ao2 L2.length cap2] 50)
      have hbb : Below w5.heap.size w5 (w5.alloc (.cells #[.string (mk n2), .slice ao2 L2.length cap2] 50)) := (Below.refl _ _).alloc (Nat.le_refl _) _
      have q5 := (HQ3.out.keep hb5).alloc (.cells #[.string (mk n2), .slice ao2 L2.length cap2] 50)
      have p5 := (HP3.out.keep hb5).alloc (.cells #[.string (mk n2), .slice ao2 L2.length cap2] 50)
      have hS6 := (HS4.out.keep hb5).keep hbb
      have hS7 := hS5.keep hbb
      have HS6 := Lib.hid hS6
      have HS7 := Lib.hid hS7
      obtain ⟨y0, y1, y2, y3, y4, y5, y6, y7⟩ := q5.cells4
      obtain ⟨z0, z1, z2, z3⟩ := p5.cells2
      clear hb5 hbb hS5 hS6 hS7 HS4 HQ3 HP3 p5
      go_wp2_with fail
      obtain ⟨r0, r1, r2, r3⟩ := (q5.set4 (.string (mk n1)) (.slice ao1 L1.length cap1) (.string (mk n2)) (.slice ao2 L2.length cap2)).box4
      exact bodyPost_ret (v := .tuple #[.agg #[.string (mk n1), .slice ao1 L1.length cap1, .string (mk n2), .slice ao2 L2.length cap2], .bool k2]) (by simp [results, Try.results47, go_sem, r0, r1, r2, r3]) rfl ⟨_, _, rfl, HS6.out.set4 q5 _ _ _ _, HS7.out.set4 q5 _ _ _ _, below_set4 hC5 (Nat.le_refl _) _ _ _ _⟩
def prsX (l m : List ByteArray) (s : Bs) : Int × Rg :=
  if proper l m = false then (2, zR) else match rdRg s with
    | none => (9, zR)
    | some (lo, hi) => rngX l m (mk lo.1) (lo.2.map mkS) (mk hi.1) (hi.2.map mkS)
theorem lsR_len : ∀ L : List SpB, (∀ x ∈ L, spW x) → L.length ≤ (lsR L).length
  | [], _ => Nat.le_refl _
  | x :: L, h => by
    have h1 := lsR_len L fun y hy => h y (List.mem_cons_of_mem _ hy)
    have h2 : 0 < x.1.length := List.length_pos_iff.2 (nm_iff.1 (h x (List.mem_cons_self ..)).1).1
    unfold lsR
    rw [List.length_append, List.length_cons]
    have h3 : 0 < (spR x).length := by unfold spR; rw [List.length_append]; omega
    by_cases hl : L = []
    · subst hl; simp; omega
    · rw [if_neg hl, List.length_cons]; omega
theorem lvX_le (s : Bs) : (lvX s).2.length ≤ s.length := by
  unfold lvX
  cases h : rdLv s with
  | none => exact Nat.zero_le _
  | some l =>
    obtain ⟨h1, h2⟩ := rdLv_iff.1 h
    have h3 := lsR_len l.2 h2.2
    show l.2.length ≤ _
    rw [h1]
    unfold levR
    rw [List.length_append]
    by_cases hl : l.2 = []
    · rw [hl]; exact Nat.zero_le _
    · rw [if_neg hl, List.length_cons]; omega
theorem lvX_len (s : Bs) : (lvX (cutL 45 s).1).2.length ≤ s.length ∧ (rgHi s).2.length ≤ s.length := by
  obtain ⟨l1, l2⟩ := cut_le 45 s
  refine ⟨Nat.le_trans (lvX_le _) l1, ?_⟩
  unfold rgHi
  split
  · exact Nat.le_trans (lvX_le _) l2
  · exact Nat.zero_le _
set_option maxRecDepth 100000 in
set_option maxHeartbeats 8000000 in
theorem parse_c (s : Bs) (v u : Value) (l m : List ByteArray) (w : World) (hs : s.length ≤ 1000000) (hV : Strs w v l) (hU : Strs w u m) (hF : Few l) (hG : Few m) :
    Calls Try.prog 32 #[.string (mk s), v, u] w fun e w' => e = .returned (.tuple #[rgV (prsX l m s).2, .int .i64 (prsX l m s).1]) ∧ Below w.heap.size w w' := by
  obtain ⟨ao, cap, rfl, _⟩ := id hV
  obtain ⟨ao2, cap2, rfl, _⟩ := id hU
  have HP := Lib.hid (fun W (hW : Kp w W) => proper_c _ _ l m W (hV.keep hW) (hU.keep hW) hF hG)
  have HR := Lib.hid (fun W => readRange_c s W hs)
  have hB := Blk.new w 26 #[.int .i64 0, .int .u64 0, .int .i64 0, .int .u64 0]
  have hW : Kp w (w.alloc (.cells #[.int .i64 0, .int .u64 0, .int .i64 0, .int .u64 0] 26)) := Kp.rfl'.alloc _
  have hlen := lvX_len s
  obtain ⟨X, hX⟩ : ∃ X, prsX l m s = X := ⟨_, rfl⟩
  rw [hX]
  unfold prsX at hX
  have hok := rdRg_eq s
  obtain ⟨lo, hlo⟩ : ∃ X, lvX (cutL 45 s).1 = X := ⟨_, rfl⟩
  obtain ⟨hi, hhi⟩ : ∃ X, rgHi s = X := ⟨_, rfl⟩
  obtain ⟨ok, hoo⟩ : ∃ X, rgOk s = X := ⟨_, rfl⟩
  rw [hlo, hhi, hoo] at HR hok
  rw [hlo, hhi] at hlen
  clear hlo hhi hoo
  obtain ⟨n1, L1⟩ := lo
  obtain ⟨n2, L2⟩ := hi
  simp only at HR hlen hok
  cases hp : proper l m
  · rw [hp] at HP hX
    rw [if_pos rfl] at hX
    subst hX
    clear hok hp HR hV hU
    go_enter Try.func32, Try.ntmps32
    go_wp2_with fail
    refine (HP.out _ hW).mono ?_
    rintro e w2 ⟨rfl, hb2⟩
    have hC2 := Kp.step hW hb2
    have q2 := hB.keep hb2
    obtain ⟨z0, z1, z2, z3, z4, z5, z6, z7⟩ := q2.cells4
    clear hb2
    go_wp2_with fail
    obtain ⟨r0, r1, r2, r3⟩ := (q2.set4 (.int .i64 0) (.int .u64 0) (.int .i64 0) (.int .u64 0)).box4
    exact bodyPost_ret (v := .tuple #[.agg #[.int .i64 0, .int .u64 0, .int .i64 0, .int .u64 0], .int .i64 2]) (by simp [results, Try.results32, go_sem, r0, r1, r2, r3]) rfl ⟨rfl, below_set4 hC2 (Nat.le_refl _) _ _ _ _⟩
  · rw [hp] at HP hX
    rw [if_neg (by decide)] at hX
    cases ok
    · rw [hok, if_neg (by decide)] at hX
      have hX' : ((9 : Int), zR) = X := hX
      subst hX'
      clear hX hok hp hV hU
      go_enter Try.func32, Try.ntmps32
      go_wp2_with fail
      refine (HP.out _ hW).mono ?_
      rintro e w2 ⟨rfl, hb2⟩
      have hC2 := Kp.step hW hb2
      have q2 := hB.keep hb2
      clear hb2
      go_wp2_with fail
      refine (HR.out _).mono ?_
      rintro e w3 ⟨v1, v2, rfl, hS1, hS2, hb3⟩
      obtain ⟨aox, capx, hv, _⟩ := id hS1
      rw [List.length_map] at hv
      subst hv
      obtain ⟨aoy, capy, hv, _⟩ := id hS2
      rw [List.length_map] at hv
      subst hv
      have hC3 := (Kp.step hC2 hb3).alloc (.cells #[.string (mk n1), .slice aox L1.length capx, .string (mk n2), .slice aoy L2.length capy] 52)
      have q3 := (q2.keep hb3).alloc (.cells #[.string (mk n1), .slice aox L1.length capx, .string (mk n2), .slice aoy L2.length capy] 52)
      obtain ⟨z0, z1, z2, z3, z4, z5, z6, z7⟩ := q3.cells4
      clear hb3 hS1 hS2 q2
      go_wp2_with fail
      obtain ⟨r0, r1, r2, r3⟩ := (q3.set4 (.int .i64 0) (.int .u64 0) (.int .i64 0) (.int .u64 0)).box4
      exact bodyPost_ret (v := .tuple #[.agg #[.int .i64 0, .int .u64 0, .int .i64 0, .int .u64 0], .int .i64 9]) (by simp [results, Try.results32, go_sem, r0, r1, r2, r3]) rfl ⟨rfl, below_set4 hC3 (Nat.le_refl _) _ _ _ _⟩
    · rw [hok, if_pos rfl] at hX
      have hX' : rngX l m (mk n1) (L1.map mkS) (mk n2) (L2.map mkS) = X := hX
      have HX := Lib.hid hX'
      have HV := Lib.hid hV
      have HU := Lib.hid hU
      clear hX hok hp hV hU hX'
      go_enter Try.func32, Try.ntmps32
      go_wp2_with fail
      refine (HP.out _ hW).mono ?_
      rintro e w2 ⟨rfl, hb2⟩
      have hC2 := Kp.step hW hb2
      have q2 := hB.keep hb2
      clear hb2
      go_wp2_with fail
      refine (HR.out _).mono ?_
      rintro e w3 ⟨v1, v2, rfl, hS1, hS2, hb3⟩
      obtain ⟨aox, capx, hv, _⟩ := id hS1
      rw [List.length_map] at hv
      subst hv
      obtain ⟨aoy, capy, hv, _⟩ := id hS2
      rw [List.length_map] at hv
      subst hv
      have hC3 := (Kp.step hC2 hb3).alloc (.cells #[.string (mk n1), .slice aox L1.length capx, .string (mk n2), .slice aoy L2.length capy] 52)
      have hbb : Below w3.heap.size w3 (w3.alloc (.cells #[.string (mk n1), .slice aox L1.length capx, .string (mk n2), .slice aoy L2.length capy] 52)) := (Below.refl _ _).alloc (Nat.le_refl _) _
      have q3 := (q2.keep hb3).alloc (.cells #[.string (mk n1), .slice aox L1.length capx, .string (mk n2), .slice aoy L2.length capy] 52)
      have HRG := Lib.hid (range_c _ _ _ _ (mk n1) (mk n2) (L1.map mkS) (L2.map mkS) l m _ (hS1.keep hbb) (hS2.keep hbb) (HV.out.keep hC3) (HU.out.keep hC3) hF hG (by rw [List.length_map]; omega) (by rw [List.length_map]; omega))
      rw [HX.out] at HRG
      obtain ⟨E, R⟩ := X
      obtain ⟨⟨s1, c1⟩, ⟨s2, c2⟩⟩ := R
      clear hb3 hS1 hS2 q2 hbb HX HV HU
      unfold rgV at *
      simp only at HRG ⊢
      go_wp2_with fail
      refine HRG.out.mono ?_
      rintro e w4 ⟨rfl, hb4⟩
      have hC4 := Kp.step hC3 hb4
      have q4 := q3.keep hb4
      obtain ⟨z0, z1, z2, z3, z4, z5, z6, z7⟩ := q4.cells4
      clear hb4 q3
      go_wp2_with fail
      obtain ⟨r0, r1, r2, r3⟩ := (q4.set4 (.int .i64 s1) (.int .u64 c1) (.int .i64 s2) (.int .u64 c2)).box4
      exact bodyPost_ret (v := .tuple #[.agg #[.int .i64 s1, .int .u64 c1, .int .i64 s2, .int .u64 c2], .int .i64 E]) (by simp [results, Try.results32, go_sem, r0, r1, r2, r3]) rfl ⟨rfl, below_set4 hC4 (Nat.le_refl _) _ _ _ _⟩
end Go.Proofs.Ythjebccidcichaa
