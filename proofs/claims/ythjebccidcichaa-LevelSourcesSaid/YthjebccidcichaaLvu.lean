/- strings.Cut at one byte; the readers of spans, levels and ranges. -/
import Derived.Test.YthjebccidcichaaLvt
import Derived.Lib.CutLaws
import Derived.Deep.Draws
import Derived.Laws.Strings3
namespace Go.Proofs.Ythjebccidcichaa
open Go.RowKit
set_option maxRecDepth 100000 in
set_option maxHeartbeats 1000000 in
theorem indexByte_c (s : ByteArray) (c : Int) (w : World) :
    Calls Try.prog 74 #[.string s, .int .u8 c] w fun e w' => e = .returned (.int .i64 (Go.Lib.indexByte s.data.toList c.toNat.toUInt8)) ∧ w' = w := by
  go_enter Try.func74, Try.ntmps74
  go_wp2
  rw [run_callFunc_extern Try.func78 (by kernel_rfl) (by kernel_rfl) (by kernel_rfl) (e := Extern.BytealgIndexByte.indexByte) (by kernel_rfl), Lib.run_indexByteString]
  simp only [Result.andThen]
  rw [Oper.upon_value]
  go_wp2
  go_ret
  exact ⟨rfl, rfl⟩
set_option maxRecDepth 100000 in
set_option maxHeartbeats 2000000 in
theorem indexOne_c (s : ByteArray) (c : UInt8) (w : World) :
    Calls Try.prog 73 #[.string s, .string ⟨#[c]⟩] w fun e w' => e = .returned (.int .i64 (Go.Lib.indexByte s.data.toList c)) ∧ w' = w := by
  go_enter Try.func73, Try.ntmps73
  go_wp2_with (go_at_call 74; refine (indexByte_c _ _ _).mono ?_; rintro e w' ⟨rfl, rfl⟩)
  · have h : ([c] == s.toList) = true := by assumption
    go_ret
    refine ⟨?_, rfl⟩
    have e : s.data.toList = [c] := by rw [← Lib.toList_data]; exact (beq_iff_eq.1 h).symm
    rw [e]
    simp [Lib.indexByte]
  · go_ret
    exact ⟨rfl, rfl⟩
def CutV (c : UInt8) (s : ByteArray) : Value := .tuple #[.string (mk (cutL c s.data.toList).1), .string (mk (cutL c s.data.toList).2.1), .bool (cutL c s.data.toList).2.2]
set_option maxRecDepth 100000 in
set_option maxHeartbeats 2000000 in
theorem slCut_c (s : ByteArray) (c : UInt8) (w : World) (hs : s.size ≤ 1000000) :
    Calls Try.prog 66 #[.string s, .string ⟨#[c]⟩] w fun e w' => e = .returned (CutV c s) ∧ Below w.heap.size w w' := by
  obtain ⟨R, hR⟩ : ∃ R, CutV c s = R := ⟨_, rfl⟩
  rw [hR]
  unfold CutV at hR
  have HR := Lib.hid hR
  have hI := fun W => indexOne_c s c W
  rcases index_cut c s.data.toList with ⟨h1, h2⟩ | ⟨i, h1, h3, h2⟩
  · rw [h1] at hI
    rw [h2] at HR
    have HI := Lib.hid hI
    clear hR hI h1 h2
    go_enter Try.func66, Try.ntmps66
    go_wp2_with (go_at_call 73; refine (HI.out _).mono ?_; rintro e w' ⟨rfl, rfl⟩)
    go_ret3
    refine ⟨?_, Below.refl _ _⟩
    rw [← HR.out, list_mk]
    rfl
  · rw [h1] at hI
    rw [h2] at HR
    have HI := Lib.hid hI
    rw [← Go.Lib.size_eq] at h3
    have e1 : (mk (s.data.toList.take i)) = s.extract 0 i := by rw [Go.Lib.extract_eq]; simp [mk]
    have e2 : (mk (s.data.toList.drop (i + 1))) = s.extract (i + 1) s.size := by
      rw [Go.Lib.extract_eq, List.take_of_length_le (by rw [List.length_drop, ← Go.Lib.size_eq]; exact Nat.le_refl _)]
      rfl
    rw [e1, e2] at HR
    have c1 : (0 : Int) ≤ ↑i := by omega
    have c2 : (↑i : Int) ≤ ↑s.size := by omega
    have c3 : (0 : Int) ≤ ↑i + 1 := by omega
    have c4 : (↑i + 1 : Int) ≤ ↑s.size := by omega
    have hsz : (⟨#[c]⟩ : ByteArray).size = 1 := rfl
    clear hR hI h1 h2 e1 e2
    go_enter Try.func66, Try.ntmps66
    go_wp2_with (go_at_call 73; refine (HI.out _).mono ?_; rintro e w' ⟨rfl, rfl⟩)
    go_quiet (fail)
    go_wp2_with fail
    go_ret3
    exact ⟨by rw [← HR.out]; rfl, below_drewN _⟩
set_option maxRecDepth 100000 in
set_option maxHeartbeats 2000000 in
theorem cut_c (s : ByteArray) (c : UInt8) (w : World) (hs : s.size ≤ 1000000) :
    Calls Try.prog 59 #[.string s, .string ⟨#[c]⟩] w fun e w' => e = .returned (CutV c s) ∧ Below w.heap.size w w' := by
  have H := Lib.hid (fun W => slCut_c s c W hs)
  unfold CutV at *
  go_enter Try.func59, Try.ntmps59
  go_wp2_with (go_at_call 66; refine (H.out _).mono ?_; rintro e w' ⟨rfl, hb⟩)
  go_ret3
  exact ⟨rfl, hb⟩
theorem isName_b (l : Bs) (w : World) (hs : l.length ≤ 1000000) :
    Calls Try.prog 65 #[.string (mk l)] w fun e w' => e = .returned (.bool (nm l)) ∧ Below w.heap.size w w' := by
  rw [← nameS_mk]
  exact isName_c (mk l) w (by rw [mk_size]; omega)
def SpV (s : Bs) : Value := .tuple #[.agg #[.string (mk (cutL 46 s).1), .string (mk (cutL 46 s).2.1)], .bool (rdSp s).isSome]
set_option maxRecDepth 100000 in
set_option maxHeartbeats 4000000 in
theorem readSpan_c (s : Bs) (w : World) (hs : s.length ≤ 1000000) :
    Calls Try.prog 67 #[.string (mk s)] w fun e w' => e = .returned (SpV s) ∧ Below w.heap.size w w' := by
  obtain ⟨l1, l2⟩ := cut_le 46 s
  have hC := fun W => cut_c (mk s) 46 W hs
  have h1 := fun W => isName_b (cutL 46 s).1 W (by omega)
  have h2 := fun W => isName_b (cutL 46 s).2.1 W (by omega)
  unfold SpV
  have hok : (rdSp s).isSome = (nm (cutL 46 s).1 && (!(cutL 46 s).2.2 || nm (cutL 46 s).2.1)) := by
    unfold rdSp
    cases nm (cutL 46 s).1 <;> cases (cutL 46 s).2.2 <;> cases nm (cutL 46 s).2.1 <;> rfl
  rw [hok]
  unfold CutV at hC
  rw [mk_list] at hC
  generalize cutL 46 s = t at *
  obtain ⟨f, t, two⟩ := t
  simp only at hC h1 h2 ⊢
  obtain ⟨n1, hn1⟩ : ∃ n, nm f = n := ⟨_, rfl⟩
  obtain ⟨n2, hn2⟩ : ∃ n, nm t = n := ⟨_, rfl⟩
  rw [hn1] at h1 ⊢
  rw [hn2] at h2 ⊢
  have HC := Lib.hid hC
  have H1 := Lib.hid h1
  have H2 := Lib.hid h2
  have hB := Blk.new w 68 #[.string ⟨#[]⟩, .string ⟨#[]⟩]
  have hW : Kp w (w.alloc (.cells #[.string ⟨#[]⟩, .string ⟨#[]⟩] 68)) := Kp.rfl'.alloc _
  clear hC h1 h2 hok l1 l2 hn1 hn2 hs
  cases n1 <;> cases two <;> cases n2
  all_goals
    go_enter Try.func67, Try.ntmps67
    go_wp2_with fail
    refine (HC.out _).mono ?_
    rintro e w2 ⟨rfl, hb2⟩
    have hC2 := Kp.step hW hb2
    have q2 := hB.keep hb2
    go_wp2_with fail
    refine (H1.out _).mono ?_
    rintro e w3 ⟨rfl, hb3⟩
    have hC3 := Kp.step hC2 hb3
    have q3 := q2.keep hb3
    obtain ⟨y0, y1, y2, y3⟩ := q3.cells2
    clear hb2 hb3
    first
      | (go_wp2_with fail
         obtain ⟨r0, r1⟩ := (q3.set2 (.string (mk f)) (.string (mk t))).box2
         (first | exact bodyPost_ret (v := .tuple #[.agg #[.string (mk f), .string (mk t)], .bool true]) (by simp [results, Try.results67, go_sem, r0, r1]) rfl ⟨rfl, below_set2 hC3 (Nat.le_refl _) _ _⟩ | exact bodyPost_ret (v := .tuple #[.agg #[.string (mk f), .string (mk t)], .bool false]) (by simp [results, Try.results67, go_sem, r0, r1]) rfl ⟨rfl, below_set2 hC3 (Nat.le_refl _) _ _⟩))
      | (go_wp2_with fail
         refine (H2.out _).mono ?_
         rintro e w4 ⟨rfl, hb4⟩
         have hC4 := Kp.step hC3 hb4
         have q4 := q3.keep hb4
         clear y0 y1 y2 y3
         obtain ⟨y0, y1, y2, y3⟩ := q4.cells2
         go_wp2_with fail
         obtain ⟨r0, r1⟩ := (q4.set2 (.string (mk f)) (.string (mk t))).box2
         (first | exact bodyPost_ret (v := .tuple #[.agg #[.string (mk f), .string (mk t)], .bool true]) (by simp [results, Try.results67, go_sem, r0, r1]) rfl ⟨rfl, below_set2 hC4 (Nat.le_refl _) _ _⟩ | exact bodyPost_ret (v := .tuple #[.agg #[.string (mk f), .string (mk t)], .bool false]) (by simp [results, Try.results67, go_sem, r0, r1]) rfl ⟨rfl, below_set2 hC4 (Nat.le_refl _) _ _⟩))
end Go.Proofs.Ythjebccidcichaa
