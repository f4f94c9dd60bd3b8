/- Package octet: join, PutNumber, PutSigned; the reference's Glue, code, PutNumber, Same. -/
import Derived.Test.YtohmlmbolilbbaaOpe
namespace Go.Proofs.Ytohmlmbolilbbaa
open Go.RowKit
/-- the value is a slice of slices of bytes -/
def Pcs (w : World) (v : Value) (L : List (List Int)) : Prop :=
  AllB L.flatten ∧ ∃ ao cap, v = .slice ao L.length cap ∧ (L ≠ [] → ∃ g o, ao = some ⟨g, o, none⟩ ∧ g < w.heap.size ∧ ∀ k (h : k < L.length), ∃ V, w.cell? ⟨g, o + k, none⟩ = some V ∧ Byts w V L[k])
theorem take_flat {L : List (List Int)} {i : Nat} (h : i < L.length) : (L.take (i + 1)).flatten = (L.take i).flatten ++ L[i] := by
  rw [List.take_succ_eq_append_getElem h, List.flatten_append]
  simp
theorem flat_le (L : List (List Int)) (i : Nat) : (L.take i).flatten.length ≤ L.flatten.length := by
  conv => rhs; rw [← List.take_append_drop i L, List.flatten_append, List.length_append]
  omega
set_option maxRecDepth 100000 in
set_option maxHeartbeats 2000000 in
theorem join_c (v vp : Value) (l : List Int) (L : List (List Int)) (w : World) (hB : Byts w v l) (hP : Pcs w vp L) (hlen : l.length + L.flatten.length ≤ 1000000000) (hL : L.length ≤ 1000000000) :
    Calls Try.prog 38 #[v, vp] w fun e w' => ∃ v', e = .returned v' ∧ Byts w' v' (l ++ L.flatten) ∧ (L.flatten ≠ [] → OwnB w' w.heap.size v' (l ++ L.flatten)) ∧ Below w.heap.size w w' := by
  obtain ⟨i0, hi, hz0, hz1, hz2⟩ := info_parts infoU8
  have hpc : Calls Try.prog 36 #[v, .int .i64 0, .int .i64 l.length] w fun e w' => ∃ ao, e = .returned (.slice ao l.length l.length) ∧ Byts w (.slice ao l.length l.length) l ∧ w' = w := by
    have h := pieceB v l 0 l.length w hB (Nat.zero_le _) (Nat.le_refl _)
    simp only [Nat.sub_zero, List.drop_zero, List.take_length] at h
    exact h
  have hB0 := hB
  obtain ⟨_, ao, cap, rfl, hcap, _, _⟩ := hB0
  obtain ⟨hall, ap, cp, rfl, hP⟩ := hP
  have HPP := Lib.hid hP
  clear hP
  go_enter Try.func38, Try.ntmps38
  go_wp2_with (go_at_call 36; refine hpc.mono ?_; rintro e w2 ⟨a1, rfl, hB1, rfl⟩)
  have hJ : Jn w2 w2.heap.size (.slice a1 l.length l.length) l := .inr ⟨a1, rfl, hB1⟩
  obtain ⟨v1, hv1⟩ : ∃ v1, v1 = Value.slice a1 l.length l.length := ⟨_, rfl⟩
  rw [← hv1] at hJ
  rw [← hv1]
  clear hB1 hpc hv1
  go_loopw [0, 6, 13] (fun vb _ vi wr => ∃ i : Nat, i ≤ L.length ∧ vi = .int .i64 i ∧ Jn wr w2.heap.size vb (l ++ (L.take i).flatten) ∧ Hid ((L.take i).flatten ≠ [] → OwnB wr w2.heap.size vb (l ++ (L.take i).flatten)) ∧ Below w2.heap.size w2 wr) (fun _ _ vi _ => L.length - (intOf vi).toNat)
  case atStart => exact ⟨0, Nat.zero_le _, rfl, by simpa using hJ, Lib.hid fun h => absurd rfl h, Below.refl _ _⟩
  case round =>
    obtain ⟨i, hil, rfl, hJ, HO, hb⟩ := hrel
    by_cases hlt : i < L.length
    · obtain ⟨g, o, rfl, hg, hrow⟩ := HPP.out (by rintro rfl; simp at hlt)
      obtain ⟨V, hV, hBV⟩ := hrow i hlt
      have hVr : wr.cell? ⟨g, o + i, none⟩ = some V := (World.cell?_of_block (a := ⟨g, o + i, none⟩) (hb.block g hg)).trans hV
      have hBr := hBV.keep hb
      have hfl := flat_le L (i + 1)
      have htf := take_flat hlt
      have hlen2 : (l ++ (L.take i).flatten).length + L[i].length ≤ 1000000000 := by
        have : (L.take (i + 1)).flatten.length = (L.take i).flatten.length + L[i].length := by rw [htf, List.length_append]
        rw [List.length_append]
        omega
      have HT := Lib.hid htf
      have hlt' : (i : Int) < (L.length : Int) := by omega
      clear htf hV hBV hrow
      go_wp2_with (at_builtin; refine wpList_append_bytes _ rfl _ _ 22 rfl w2.heap.size i0 Try.underlying22 hi hz0 hz1 hz2 _ V _ L[i] rfl rfl hJ hBr hlen2 hb.size ?_)
      intro v3 w3 hJ3 hb3 ho3
      have HJ3 : Hid (Jn w3 w2.heap.size v3 (l ++ (L.take (i + 1)).flatten)) := by rw [HT.out]; exact Lib.hid hJ3
      have HO3 : Hid ((L.take (i + 1)).flatten ≠ [] → OwnB w3 w2.heap.size v3 (l ++ (L.take (i + 1)).flatten)) := by
        rw [HT.out]
        refine Lib.hid fun hne => ho3 ?_
        by_cases h : L[i] = []
        · rw [h, List.append_nil] at hne
          exact .inl (HO.out hne)
        · exact .inr h
      clear hJ3 ho3
      go_wp2
      go_roundw
      case rel => exact ⟨i + 1, hlt, by go_num, HJ3.out, HO3, hb.trans hb3⟩
      case measure => simp [intOf]; omega
    · obtain rfl : i = L.length := by omega
      have HJ4 : Hid (Jn wr w2.heap.size u0 (l ++ L.flatten)) := by rw [List.take_length] at hJ; exact Lib.hid hJ
      have HO4 : Hid (L.flatten ≠ [] → OwnB wr w2.heap.size u0 (l ++ L.flatten)) := by have h := HO.out; rw [List.take_length] at h; exact Lib.hid h
      clear hJ HO
      go_wp2
      go_ret
      exact ⟨_, rfl, HJ4.out.byts (hB.all.app hall), HO4.out, hb⟩
theorem pcs1 {w : World} {g : Nat} {V : Value} {q : List Int} (hq : Byts w V q) (hB : Blk w g 22 #[V]) : Pcs w (.slice (some ⟨g, 0, none⟩) 1 1) [q] := by
  refine ⟨by simpa using hq.all, _, 1, rfl, fun _ => ⟨g, 0, rfl, hB.lt, fun k hk => ?_⟩⟩
  have h0 : k = 0 := by simpa using hk
  subst h0
  exact ⟨V, hB.cell 0, hq⟩
theorem OwnB.isSlice {w : World} {base : Nat} {v : Value} {l : List Int} (h : OwnB w base v l) : ∃ ao cap, v = .slice ao l.length cap := by
  rcases h.2 with ⟨rfl, h0⟩ | ⟨g, cap, _, rfl, _⟩
  · exact ⟨none, 0, by rw [h0]⟩
  · exact ⟨_, _, rfl⟩
theorem code_ne (n : Nat) : code n ≠ [] := List.length_pos_iff.1 (code_pos n)
set_option maxRecDepth 100000 in
theorem putNumber_c (v : Value) (l : List Int) (n : Nat) (w : World) (hB : Byts w v l) (hn : n < 18446744073709551616) (hlen : l.length ≤ 900000000) :
    Calls Try.prog 17 #[v, .int .u64 n] w fun e w' => ∃ v', e = .returned v' ∧ OwnB w' w.heap.size v' (l ++ code n) ∧ Below w.heap.size w w' := by
  have hl := code_len hn
  have hE := encode_c n w hn
  go_enter Try.func17, Try.ntmps17
  go_wp2_with (go_at_call 39; refine hE.mono ?_; rintro e w2 ⟨v2, rfl, ho2, hb2⟩; obtain ⟨a2, c2, rfl⟩ := ho2.isSlice)
  have hJ := join_c v (.slice (some ⟨w2.heap.size, 0, none⟩) 1 1) l [code n] (w2.alloc (.cells #[.slice a2 (code n).length c2] 22)) ((hB.keep hb2).alloc _) (pcs1 ((ho2.byts (code_all n)).alloc _) (Blk.new _ _ _)) (by simp; omega) (by simp)
  clear hE
  go_wp2_with (go_at_call 38; refine hJ.mono ?_; rintro e w3 ⟨v3, rfl, hB3, ho3, hb3⟩)
  go_ret
  refine ⟨v3, rfl, ?_, hb2.trans (((Below.refl _ _).alloc hb2.size _).trans (hb3.mono (by simp; have := hb2.size; omega)))⟩
  have := ho3 (by simpa using code_ne n)
  simp only [List.flatten_cons, List.flatten_nil, List.append_nil] at this
  exact this.mono (by simp; have := hb2.size; omega)
set_option maxRecDepth 100000 in
theorem putSigned_c (v : Value) (l : List Int) (m : Int) (w : World) (hB : Byts w v l) (h1 : -9223372036854775808 ≤ m) (h2 : m ≤ 9223372036854775807) (hlen : l.length ≤ 900000000) :
    Calls Try.prog 19 #[v, .int .i64 m] w fun e w' => ∃ v', e = .returned v' ∧ OwnB w' w.heap.size v' (l ++ code (foldN m).toNat) ∧ Below w.heap.size w w' := by
  have hf := foldN_bd h1 h2
  obtain ⟨n, hn⟩ : ∃ n : Nat, foldN m = n := ⟨(foldN m).toNat, by omega⟩
  have hF := fun w => fold_c m w h1 h2
  rw [hn] at hF hf
  rw [hn, Int.toNat_natCast]
  have hl := code_len (n := n) (by omega)
  have hE := encode_c n w (by omega)
  clear hn
  go_enter Try.func19, Try.ntmps19
  go_wp2_with (first
    | (go_at_call 42; refine (hF _).mono ?_; rintro e w1 ⟨rfl, rfl⟩)
    | (go_at_call 39; refine hE.mono ?_; rintro e w2 ⟨v2, rfl, ho2, hb2⟩; obtain ⟨a2, c2, rfl⟩ := ho2.isSlice))
  have hJ := join_c v (.slice (some ⟨w2.heap.size, 0, none⟩) 1 1) l [code n] (w2.alloc (.cells #[.slice a2 (code n).length c2] 22)) ((hB.keep hb2).alloc _) (pcs1 ((ho2.byts (code_all n)).alloc _) (Blk.new _ _ _)) (by simp; omega) (by simp)
  clear hE
  go_wp2_with (go_at_call 38; refine hJ.mono ?_; rintro e w3 ⟨v3, rfl, hB3, ho3, hb3⟩)
  go_ret
  refine ⟨v3, rfl, ?_, hb2.trans (((Below.refl _ _).alloc hb2.size _).trans (hb3.mono (by simp; have := hb2.size; omega)))⟩
  have := ho3 (by simpa using code_ne n)
  simp only [List.flatten_cons, List.flatten_nil, List.append_nil] at this
  exact this.mono (by simp; have := hb2.size; omega)
end Go.Proofs.Ytohmlmbolilbbaa
