/- Sorted. -/
import Derived.Test.YtffgjamnijhlpaaSye
import Derived.Test.YtffgjamnijhlpaaSyi
namespace Go.Proofs.Ytffgjamnijhlpaa
open Go.RowKit Go.Maps Go.Sort
set_option maxRecDepth 100000 in
set_option maxHeartbeats 2000000 in
theorem sorted_c {w : World} {B g limit : Nat} {names : List ByteArray} {E : List (ByteArray × Int)} (h : Tab w B g limit names E) (hE : E.length ≤ 1000000) :
    Calls Try.prog 22 #[.pointer (some ⟨g, 0, none⟩)] w fun e w' => ∃ (v : Value) (ss : List (List UInt8)), e = .returned v ∧ ss.Perm ((Keys E).map (fun s => s.data.toList)) ∧ Strs w' v ((ss.mergeSort (fun x y => decide (x ≤ y))).map (fun s => ⟨s.toArray⟩)) ∧ Below w.heap.size w w' := by
  have HM := Lib.hid (made_c h)
  obtain ⟨bm, vn, h1, h2, h3, h4, h5, h6⟩ := h
  obtain ⟨c0, c1, c2, c3⟩ := box4c h1
  have HS := Lib.hid (sortedKeys_c bm _ (mapD E) _ w h3 (by rw [mapD_size h6]; unfold maxLen; omega) (by rw [mapD_size h6]; omega))
  have HP := Lib.hid (mapD_keys h6)
  have HK := Lib.hid (mapsKeys_c (some bm) w)
  clear h1 h2 h3 h6
  go_enter Try.func22, Try.ntmps22
  go_wp2_with (first
    | (go_at_call 29; refine HM.out.mono ?_; rintro e w1 ⟨rfl, rfl⟩)
    | (go_at_call 35; refine HK.out.mono ?_; rintro e w2 ⟨rfl, rfl⟩)
    | (go_at_call 34; refine HS.out.mono ?_; rintro e w3 ⟨v, ss, rfl, hp, hrow, _, hb⟩))
  go_ret
  have hlen : ss.length = ((ss.mergeSort (fun x y => decide (x ≤ y))).map (fun s => (⟨s.toArray⟩ : ByteArray))).length := by rw [List.length_map, List.length_mergeSort]
  have hrow2 : w3.ownsRow (w1.heap.size + 1) 9 1 v ((ss.mergeSort (fun x y => decide (x ≤ y))).map (fun s => (⟨s.toArray⟩ : ByteArray))).length (((ss.mergeSort (fun x y => decide (x ≤ y))).map (fun s => (⟨s.toArray⟩ : ByteArray))).map Value.string) := by
    rw [← hlen, List.map_map]
    have hf : (Value.string ∘ fun s : List UInt8 => (⟨s.toArray⟩ : ByteArray)) = encStr := rfl
    rw [hf]
    simpa using hrow
  exact ⟨v, ss, rfl, hp.trans HP.out, own_strs hrow2, (Below.refl _ _).alloc (Nat.le_refl _) _ |>.trans (hb.mono (by simp))⟩
end Go.Proofs.Ytffgjamnijhlpaa
