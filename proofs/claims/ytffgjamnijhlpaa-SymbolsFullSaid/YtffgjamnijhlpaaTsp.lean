/- Package token: Keyword. -/
import Derived.Test.YtffgjamnijhlpaaTsk
namespace Go.Proofs.Ytffgjamnijhlpaa
open Go.RowKit
def kws : List (List UInt8) := [[109, 111, 100, 117, 108, 101], [99, 108, 97, 115, 115], [116, 121, 112, 101], [97, 108, 105, 97, 115], [116, 121, 112, 101, 97, 116, 116, 114, 105, 98, 117, 116, 101], [97, 116, 116, 114, 105, 98, 117, 116, 101], [114, 111, 108, 101], [116, 121, 112, 101, 115], [114, 111, 108, 101, 97, 108, 108, 111, 119], [114, 111, 108, 101, 95, 116, 114, 97, 110, 115, 105, 116, 105, 111, 110], [117, 115, 101, 114], [114, 111, 108, 101, 115], [108, 101, 118, 101, 108], [114, 97, 110, 103, 101], [98, 111, 111, 108], [116, 114, 117, 101], [102, 97, 108, 115, 101], [115, 101, 110, 115, 105, 116, 105, 118, 105, 116, 121], [99, 97, 116, 101, 103, 111, 114, 121], [97, 108, 108, 111, 119], [97, 117, 100, 105, 116, 97, 108, 108, 111, 119], [100, 111, 110, 116, 97, 117, 100, 105, 116], [110, 101, 118, 101, 114, 97, 108, 108, 111, 119], [116, 121, 112, 101, 95, 116, 114, 97, 110, 115, 105, 116, 105, 111, 110], [116, 121, 112, 101, 95, 99, 104, 97, 110, 103, 101], [116, 121, 112, 101, 95, 109, 101, 109, 98, 101, 114], [114, 97, 110, 103, 101, 95, 116, 114, 97, 110, 115, 105, 116, 105, 111, 110], [99, 111, 110, 115, 116, 114, 97, 105, 110], [118, 97, 108, 105, 100, 97, 116, 101, 116, 114, 97, 110, 115], [105, 102], [101, 108, 115, 101], [111, 112, 116, 105, 111, 110, 97, 108], [114, 101, 113, 117, 105, 114, 101], [115, 105, 100], [102, 105, 108, 101, 99, 111, 110], [112, 101, 114, 109, 105, 115, 115, 105, 118, 101], [97, 115, 115, 101, 114, 116], [115, 101, 108, 102], [105, 110]]
def isKw (s : ByteArray) : Bool := kws.contains s.toList
set_option maxRecDepth 100000 in
set_option maxHeartbeats 4000000 in
theorem kw_no (s : ByteArray) (w : World) (h : isKw s = false) :
    Calls Try.prog 39 #[.string s] w fun e w' => e = .returned (.bool false) ∧ w' = w := by
  simp only [isKw, kws, List.contains_cons, List.contains_nil, Bool.or_false, Bool.or_eq_false_iff] at h
  obtain ⟨h0, h1, h2, h3, h4, h5, h6, h7, h8, h9, h10, h11, h12, h13, h14, h15, h16, h17, h18, h19, h20, h21, h22, h23, h24, h25, h26, h27, h28, h29, h30, h31, h32, h33, h34, h35, h36, h37, h38⟩ := h
  go_enter Try.func39, Try.ntmps39
  go_wp2
  go_ret
  exact ⟨rfl, rfl⟩
set_option maxRecDepth 100000 in
set_option maxHeartbeats 16000000 in
theorem kw_yes (s : ByteArray) (w : World) (h : isKw s = true) :
    Calls Try.prog 39 #[.string s] w fun e w' => e = .returned (.bool true) ∧ w' = w := by
  have hm : s.toList ∈ kws := by simpa [isKw] using h
  clear h
  simp only [kws, List.mem_cons, List.not_mem_nil, or_false] at hm
  rcases hm with h | h | h | h | h | h | h | h | h | h | h | h | h | h | h | h | h | h | h | h | h | h | h | h | h | h | h | h | h | h | h | h | h | h | h | h | h | h | h
  all_goals
    go_enter Try.func39, Try.ntmps39
    go_wp2
    go_ret
    exact ⟨rfl, rfl⟩
theorem kw_c (s : ByteArray) (w : World) :
    Calls Try.prog 39 #[.string s] w fun e w' => e = .returned (.bool (isKw s)) ∧ w' = w := by
  cases h : isKw s
  · exact kw_no s w h
  · exact kw_yes s w h
end Go.Proofs.Ytffgjamnijhlpaa
