/- Tables that are none: nil, and a zero one. -/
import Derived.Test.YtffgjamnijhlpaaSyf
namespace Go.Proofs.Ytffgjamnijhlpaa
open Go.RowKit Go.Maps Go.Sort
def Idle (w : World) (v : Value) : Prop := v = .pointer none ∨ ∃ g a b c, v = .pointer (some ⟨g, 0, none⟩) ∧ Blk w g 55 #[.pointer none, a, b, c]
theorem Idle.keep {w w' : World} {v : Value} (h : Idle w v) (hb : Below w.heap.size w w') : Idle w' v := by
  rcases h with h | ⟨g, a, b, c, h, hB⟩
  · exact .inl h
  · exact .inr ⟨g, a, b, c, h, hB.keep hb⟩
theorem idle_made {w : World} {v : Value} (h : Idle w v) : Calls Try.prog 29 #[v] w fun e w' => e = .returned (.bool false) ∧ w' = w := by
  rcases h with rfl | ⟨g, a, b, c, rfl, hB⟩
  · exact made_nil w
  · exact made_zero hB
set_option maxRecDepth 100000 in
theorem idle_Add {w : World} {v : Value} (h : Idle w v) (s : ByteArray) : Calls Try.prog 19 #[v, .string s] w fun e w' => e = .returned (.tuple #[.int .i64 0, .int .i64 1]) ∧ w' = w := by
  have HM := Lib.hid (idle_made h)
  clear h
  go_enter Try.func19, Try.ntmps19
  go_wp2_with (go_at_call 29; refine HM.out.mono ?_; rintro e w1 ⟨rfl, rfl⟩)
  go_ret2
  exact ⟨rfl, rfl⟩
set_option maxRecDepth 100000 in
theorem idle_Alias {w : World} {v : Value} (h : Idle w v) (s : ByteArray) (n : Int) : Calls Try.prog 20 #[v, .string s, .int .i64 n] w fun e w' => e = .returned (.int .i64 1) ∧ w' = w := by
  have HM := Lib.hid (idle_made h)
  clear h
  go_enter Try.func20, Try.ntmps20
  go_wp2_with (go_at_call 29; refine HM.out.mono ?_; rintro e w1 ⟨rfl, rfl⟩)
  go_ret
  exact ⟨rfl, rfl⟩
set_option maxRecDepth 100000 in
theorem idle_Find {w : World} {v : Value} (h : Idle w v) (s : ByteArray) : Calls Try.prog 14 #[v, .string s] w fun e w' => e = .returned (.tuple #[.int .i64 0, .bool false]) ∧ w' = w := by
  have HM := Lib.hid (idle_made h)
  clear h
  go_enter Try.func14, Try.ntmps14
  go_wp2_with (go_at_call 29; refine HM.out.mono ?_; rintro e w1 ⟨rfl, rfl⟩)
  go_ret2
  exact ⟨rfl, rfl⟩
set_option maxRecDepth 100000 in
theorem idle_Name {w : World} {v : Value} (h : Idle w v) (n : Int) : Calls Try.prog 16 #[v, .int .i64 n] w fun e w' => e = .returned (.tuple #[.string ⟨#[]⟩, .bool false]) ∧ w' = w := by
  have HM := Lib.hid (idle_made h)
  clear h
  go_enter Try.func16, Try.ntmps16
  go_wp2_with (go_at_call 29; refine HM.out.mono ?_; rintro e w1 ⟨rfl, rfl⟩)
  go_ret2
  exact ⟨rfl, rfl⟩
set_option maxRecDepth 100000 in
theorem idle_Len {w : World} {v : Value} (h : Idle w v) : Calls Try.prog 21 #[v] w fun e w' => e = .returned (.int .i64 0) ∧ w' = w := by
  have HM := Lib.hid (idle_made h)
  clear h
  go_enter Try.func21, Try.ntmps21
  go_wp2_with (go_at_call 29; refine HM.out.mono ?_; rintro e w1 ⟨rfl, rfl⟩)
  go_ret
  exact ⟨rfl, rfl⟩
set_option maxRecDepth 100000 in
theorem idle_Names {w : World} {v : Value} (h : Idle w v) : Calls Try.prog 23 #[v] w fun e w' => e = .returned (.slice none 0 0) ∧ w' = w := by
  have HM := Lib.hid (idle_made h)
  clear h
  go_enter Try.func23, Try.ntmps23
  go_wp2_with (go_at_call 29; refine HM.out.mono ?_; rintro e w1 ⟨rfl, rfl⟩)
  go_ret
  exact ⟨rfl, rfl⟩
set_option maxRecDepth 100000 in
theorem idle_Sorted {w : World} {v : Value} (h : Idle w v) : Calls Try.prog 22 #[v] w fun e w' => e = .returned (.slice none 0 0) ∧ w' = w := by
  have HM := Lib.hid (idle_made h)
  clear h
  go_enter Try.func22, Try.ntmps22
  go_wp2_with (go_at_call 29; refine HM.out.mono ?_; rintro e w1 ⟨rfl, rfl⟩)
  go_ret
  exact ⟨rfl, rfl⟩
set_option maxRecDepth 100000 in
theorem idle_Copy {w : World} {v : Value} (h : Idle w v) : Calls Try.prog 18 #[v] w fun e w' => e = .returned (.pointer none) ∧ w' = w := by
  have HM := Lib.hid (idle_made h)
  clear h
  go_enter Try.func18, Try.ntmps18
  go_wp2_with (go_at_call 29; refine HM.out.mono ?_; rintro e w1 ⟨rfl, rfl⟩)
  go_ret
  exact ⟨rfl, rfl⟩
set_option maxRecDepth 100000 in
set_option maxHeartbeats 8000000 in
theorem nil_c (s : ByteArray) (n : Int) (w : World) : Calls Try.prog 7 #[.string s, .int .i64 n] w fun e w' => e = .returned (.bool true) ∧ Below w.heap.size w w' := by
  go_enter Try.func7, Try.ntmps7
  go_wp2_with fail
  have HZ : Blk ((w.alloc (.cells #[.pointer none, .int .i64 0, .slice none 0 0, .map none] 55)).alloc (.cells #[.pointer none, .pointer (some ⟨w.heap.size, 0, none⟩)] 23)) w.heap.size 55 _ := (Blk.new w 55 #[.pointer none, .int .i64 0, .slice none 0 0, .map none]).alloc _
  have HS : Blk ((w.alloc (.cells #[.pointer none, .int .i64 0, .slice none 0 0, .map none] 55)).alloc (.cells #[.pointer none, .pointer (some ⟨w.heap.size, 0, none⟩)] 23)) (w.heap.size + 1) 23 #[.pointer none, .pointer (some ⟨w.heap.size, 0, none⟩)] := by
    have := Blk.new (w.alloc (.cells #[.pointer none, .int .i64 0, .slice none 0 0, .map none] 55)) 23 #[.pointer none, .pointer (some ⟨w.heap.size, 0, none⟩)]
    simpa using this
  have hW : Below w.heap.size w ((w.alloc (.cells #[.pointer none, .int .i64 0, .slice none 0 0, .map none] 55)).alloc (.cells #[.pointer none, .pointer (some ⟨w.heap.size, 0, none⟩)] 23)) := ((Below.refl _ _).alloc (Nat.le_refl _) _).alloc (by simp) _
  generalize ((w.alloc (.cells #[.pointer none, .int .i64 0, .slice none 0 0, .map none] 55)).alloc (.cells #[.pointer none, .pointer (some ⟨w.heap.size, 0, none⟩)] 23)) = W at *
  have HZ := Lib.hid HZ
  have HS := Lib.hid HS
  go_loopw [17] (fun vi wr => ∃ i : Nat, i ≤ 2 ∧ vi = .int .i64 i ∧ wr = W) (fun vi _ => 2 - (intOf vi).toNat)
  case atStart => exact ⟨0, Nat.zero_le _, rfl, rfl⟩
  case round =>
    obtain ⟨i, hi, rfl, rfl⟩ := hrel
    by_cases hlt : i < 2
    · obtain ⟨t, ht, hI⟩ : ∃ t, wr.cell? ⟨w.heap.size + 1, i, none⟩ = some t ∧ Idle wr t := by
        rcases (by omega : i = 0 ∨ i = 1) with rfl | rfl
        · exact ⟨_, HS.out.cell 0, .inl rfl⟩
        · exact ⟨_, HS.out.cell 1, .inr ⟨_, _, _, _, rfl, HZ.out⟩⟩
      have hlt' : (i : Int) < 2 := by omega
      go_wp2_with (first
        | (go_at_call 19; refine (idle_Add hI s).mono ?_; rintro e w1 ⟨rfl, rfl⟩)
        | (go_at_call 14; refine (idle_Find hI s).mono ?_; rintro e w1 ⟨rfl, rfl⟩)
        | (go_at_call 16; refine (idle_Name hI n).mono ?_; rintro e w1 ⟨rfl, rfl⟩)
        | (go_at_call 20; refine (idle_Alias hI s n).mono ?_; rintro e w1 ⟨rfl, rfl⟩)
        | (go_at_call 21; refine (idle_Len hI).mono ?_; rintro e w1 ⟨rfl, rfl⟩)
        | (go_at_call 23; refine (idle_Names hI).mono ?_; rintro e w1 ⟨rfl, rfl⟩)
        | (go_at_call 22; refine (idle_Sorted hI).mono ?_; rintro e w1 ⟨rfl, rfl⟩)
        | (go_at_call 18; refine (idle_Copy hI).mono ?_; rintro e w1 ⟨rfl, rfl⟩))
      go_roundw
      case rel => exact ⟨i + 1, hlt, by go_num, trivial⟩
      case measure => simp [intOf]; omega
    · obtain rfl : i = 2 := by omega
      go_wp2_with (go_at_call 11; refine (alive_c _).mono ?_; rintro e w2 ⟨rfl, hb2⟩)
      go_ret
      exact ⟨rfl, hW.trans (hb2.mono hW.size)⟩
end Go.Proofs.Ytffgjamnijhlpaa
