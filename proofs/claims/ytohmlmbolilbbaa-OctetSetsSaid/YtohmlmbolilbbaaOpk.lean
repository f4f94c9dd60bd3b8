/- PutText and Text, on both sides. -/
import Derived.Test.YtohmlmbolilbbaaOpj
namespace Go.Proofs.Ytohmlmbolilbbaa
open Go.RowKit
theorem Byts.of_str {w : World} (s : ByteArray) (cap : Nat) (fr : Nat × Nat) (hc : s.size ≤ cap) : Byts (w.alloc (.cells (bytesRow s cap) 5 fr)) (.slice (some ⟨w.heap.size, 0, none⟩) s.size cap) (bts s) := by
  refine ⟨bts_all s, _, cap, by rw [bts_len], by rw [bts_len]; exact hc, (fun h => by cases h), fun _ => ⟨w.heap.size, 0, rfl, fun k hk => ?_⟩⟩
  rw [bts_len] at hk
  rw [Nat.zero_add, World.cell?_alloc_mark, bytesRow_at s cap k hk]
  simp [bts]
theorem OwnB.isSliceN {w : World} {base : Nat} {v : Value} {l : List Int} (h : OwnB w base v l) : ∃ ao n cap, v = .slice ao n cap := by
  obtain ⟨ao, cap, rfl⟩ := h.isSlice
  exact ⟨_, _, _, rfl⟩
theorem conv_str (w : World) (s : ByteArray) : ∃ cap w', (convert 9 22 (.string s)).run Try.prog w = .ok (.slice (some ⟨w.heap.size, 0, none⟩) s.size cap) w' ∧ Byts w' (.slice (some ⟨w.heap.size, 0, none⟩) s.size cap) (bts s) ∧ Below w.heap.size w w' :=
  ⟨_, _, run_bytes_of_string w _ _ 5 s Try.underlying9 Try.underlying22 Try.underlying5, Byts.of_str (w := w.drew) s _ _ (grownCap_ge w s.size 0 5), (Below.refl _ _).drew.alloc (Nat.le_refl _) _⟩
theorem pcs2 {w : World} {g : Nat} {V U : Value} {p q : List Int} (hp : Byts w V p) (hq : Byts w U q) (hB : Blk w g 22 #[V, U]) : Pcs w (.slice (some ⟨g, 0, none⟩) 2 2) [p, q] := by
  refine ⟨by simpa using hp.all.app hq.all, _, 2, rfl, fun _ => ⟨g, 0, rfl, hB.lt, fun k hk => ?_⟩⟩
  simp only [List.length_cons, List.length_nil] at hk
  rcases (show k = 0 ∨ k = 1 by omega) with rfl | rfl
  · exact ⟨V, hB.cell 0, hp⟩
  · exact ⟨U, hB.cell 1, hq⟩
set_option maxRecDepth 100000 in
set_option maxHeartbeats 1000000 in
theorem putText_c (v : Value) (l : List Int) (s : ByteArray) (w : World) (hB : Byts w v l) (hs : s.size ≤ 100000000) (hlen : l.length ≤ 800000000) :
    Calls Try.prog 23 #[v, .string s] w fun e w' => ∃ v', e = .returned v' ∧ OwnB w' w.heap.size v' (l ++ encT s) ∧ Below w.heap.size w w' := by
  have hl := code_len (n := s.size) (by omega)
  have hE := encode_c s.size w (by omega)
  go_enter Try.func23, Try.ntmps23
  go_wp2_with (go_at_call 39; refine hE.mono ?_; rintro e w2 ⟨v2, rfl, ho2, hb2⟩; obtain ⟨a2, c2, rfl⟩ := ho2.isSlice)
  obtain ⟨c3, w3, hrun, hB3, hb3⟩ := conv_str w2 s
  rw [hrun]
  clear hrun hE
  have hb4 := hb2.trans (hb3.mono hb2.size)
  have h2s := hb2.size
  have h3s := hb3.size
  have hJ := join_c v (.slice (some ⟨w3.heap.size, 0, none⟩) 2 2) l [code s.size, bts s] (w3.alloc (.cells #[.slice a2 (code s.size).length c2, .slice (some ⟨w2.heap.size, 0, none⟩) s.size c3] 22)) ((hB.keep hb4).alloc _) (pcs2 (((ho2.byts (code_all _)).keep hb3).alloc _) (hB3.alloc _) (Blk.new _ _ _)) (by simp [bts_len]; omega) (by simp)
  go_wp2_with (go_at_call 38; refine hJ.mono ?_; rintro e w5 ⟨v5, rfl, hB5, ho5, hb5⟩)
  go_ret
  refine ⟨v5, rfl, ?_, hb4.trans (((Below.refl _ _).alloc (by omega) _).trans (hb5.mono (by simp; omega)))⟩
  have := ho5 (by simp [code_ne])
  simp only [List.flatten_cons, List.flatten_nil, List.append_nil] at this
  exact this.mono (by simp; omega)
set_option maxRecDepth 100000 in
set_option maxHeartbeats 1000000 in
theorem rPutText_c (v : Value) (l : List Int) (s : ByteArray) (w : World) (hB : Byts w v l) (hs : s.size ≤ 100000000) (hlen : l.length ≤ 200000000) :
    Calls Try.prog 24 #[v, .string s] w fun e w' => ∃ v', e = .returned v' ∧ OwnB w' w.heap.size v' (l ++ encT s) ∧ Below w.heap.size w w' := by
  have hl := code_len (n := s.size) (by omega)
  have hE := rPutNumber_c v l s.size w hB (by omega) (by omega)
  go_enter Try.func24, Try.ntmps24
  go_wp2_with (go_at_call 18; refine hE.mono ?_; rintro e w2 ⟨v2, rfl, ho2, hb2⟩; obtain ⟨a2, n2, c2, rfl⟩ := ho2.isSliceN)
  obtain ⟨c3, w3, hrun, hB3, hb3⟩ := conv_str w2 s
  rw [hrun]
  clear hrun hE
  have hb4 := hb2.trans (hb3.mono hb2.size)
  have h2s := hb2.size
  have h3s := hb3.size
  have hG := glue_c _ _ _ _ w3 ((ho2.byts (hB.all.app (code_all _))).keep hb3) hB3 (by rw [List.length_append]; omega) (by rw [bts_len]; omega)
  go_wp2_with (go_at_call 40; refine hG.mono ?_; rintro e w5 ⟨v5, rfl, ho5, hb5⟩)
  go_ret
  refine ⟨v5, rfl, ?_, hb4.trans (hb5.mono (by omega))⟩
  rw [List.append_assoc] at ho5
  exact ho5.mono (by omega)
end Go.Proofs.Ytohmlmbolilbbaa
