/- Rows of texts; the reference's Texts. -/
import Derived.Test.YtffgjamnijhlpaaSyd
namespace Go.Proofs.Ytffgjamnijhlpaa
open Go.RowKit Go.Maps Go.Sort
def SRow (w : World) (g o : Nat) (l : List ByteArray) : Prop := ∀ k (h : k < l.length), w.cell? ⟨g, o + k, none⟩ = some (.string l[k])
/-- a slice that reads as these texts -/
def Strs (w : World) (v : Value) (l : List ByteArray) : Prop := ∃ ao cap, v = .slice ao l.length cap ∧ (l ≠ [] → ∃ g o, ao = some ⟨g, o, none⟩ ∧ SRow w g o l)
theorem below_drewN {B : Nat} {w : World} (n : Nat) : Below B w (w.drewN n) := ⟨rfl, rfl, rfl, Nat.le_refl _, fun _ _ => rfl⟩
section
variable {w w' : World} {v : Value} {l : List ByteArray} {g o : Nat}
theorem SRow.lt (h : SRow w g o l) (hl : 0 < l.length) : g < w.heap.size := by
  have := h 0 hl
  rcases Nat.lt_or_ge g w.heap.size with h' | h'
  · exact h'
  · simp [World.cell?, Array.getElem?_eq_none h'] at this
theorem SRow.keep (h : SRow w g o l) (hb : w'.heap[g]? = w.heap[g]?) : SRow w' g o l := fun k hk => (World.cell?_of_block hb).trans (h k hk)
theorem Strs.nil : Strs w (.slice none 0 0) [] := ⟨none, 0, rfl, fun h => absurd rfl h⟩
theorem Strs.keep (h : Strs w v l) (hb : Below w.heap.size w w') : Strs w' v l := by
  obtain ⟨ao, cap, rfl, hr⟩ := h
  refine ⟨ao, cap, rfl, fun hl => ?_⟩
  obtain ⟨g, o, rfl, hR⟩ := hr hl
  exact ⟨g, o, rfl, hR.keep (hb.block g (hR.lt (List.length_pos_iff.2 hl)))⟩
theorem own_strs {base : Nat} (h : w.ownsRow base 9 1 v l.length (l.map Value.string)) : Strs w v l := by
  have h0 := h
  rcases h.2 with ⟨hv, hl⟩ | ⟨g, cap, cur, hv, _, hh, hc, _, hs, ht⟩
  · have hl : l = [] := List.eq_nil_of_length_eq_zero hl
    subst hl
    exact ⟨none, 0, by simpa using hv, fun hn => absurd rfl hn⟩
  · refine ⟨some ⟨g, 0, none⟩, cap, hv, fun _ => ⟨g, 0, rfl, fun k hk => ?_⟩⟩
    have := World.ownsRow.cells h0 (g := g) (by rw [hv]; rfl) k
    rw [List.getElem?_map, List.getElem?_eq_getElem hk] at this
    have := this _ rfl
    rw [Nat.zero_add]
    simpa [Addr.add_lit] using this
end
def sameS (l m : List ByteArray) : Bool := decide (l = m)
theorem sameS_self (l : List ByteArray) : sameS l l = true := decide_eq_true rfl
theorem sameS_len {l m : List ByteArray} (h : l.length ≠ m.length) : sameS l m = false := decide_eq_false fun e => h (by rw [e])
theorem sameS_no {l m : List ByteArray} {i : Nat} (h1 : i < l.length) (h2 : i < m.length) (h : l[i] ≠ m[i]) : sameS l m = false := decide_eq_false fun e => h (by subst e; rfl)
theorem sameS_yes {l m : List ByteArray} (h : l.length = m.length) (hk : ∀ k (h1 : k < l.length) (h2 : k < m.length), l[k] = m[k]) : sameS l m = true := decide_eq_true (List.ext_getElem h hk)
set_option maxRecDepth 100000 in
set_option maxHeartbeats 2000000 in
theorem texts_c (v u : Value) (l m : List ByteArray) (w : World) (hV : Strs w v l) (hU : Strs w u m) (hn : l.length ≤ 1000000000000) (hm : m.length ≤ 1000000000000) :
    Calls Try.prog 25 #[v, u] w fun e w' => e = .returned (.bool (sameS l m)) ∧ Below w.heap.size w w' := by
  obtain ⟨ao, cap, rfl, hV⟩ := hV
  obtain ⟨ao2, cap2, rfl, hU⟩ := hU
  obtain ⟨R, hR⟩ : ∃ R, sameS l m = R := ⟨_, rfl⟩
  rw [hR]
  have HV := Lib.hid hV
  have HU := Lib.hid hU
  have HR := Lib.hid hR
  clear hV hU hR
  by_cases hlen : l.length = m.length
  · have HL := Lib.hid hlen
    rw [hlen] at hn ⊢
    clear hlen
    go_enter Try.func25, Try.ntmps25
    go_wp2_with fail
    go_loopw [5] (fun vi wr => ∃ i : Nat, i ≤ m.length ∧ vi = .int .i64 i ∧ Hid (∀ k (_ : k < i) (h1 : k < l.length) (h2 : k < m.length), l[k] = m[k]) ∧ Below w.heap.size w wr) (fun vi _ => m.length - (intOf vi).toNat)
    case atStart => exact ⟨0, Nat.zero_le _, rfl, Lib.hid fun k h => absurd h (by omega), Below.refl _ _⟩
    case round =>
      obtain ⟨i, hi, rfl, HA, hb⟩ := hrel
      by_cases hlt2 : i < m.length
      · have hlt : i < l.length := by rw [HL.out]; exact hlt2
        obtain ⟨g, o, rfl, hRow⟩ := HV.out (by rintro rfl; simp at hlt)
        obtain ⟨g2, o2, rfl, hRow2⟩ := HU.out (by rintro rfl; simp at hlt2)
        have q1 := (hRow.keep (hb.block g (hRow.lt (by omega)))) i hlt
        have q2 := (hRow2.keep (hb.block g2 (hRow2.lt (by omega)))) i hlt2
        have hlt2' : (i : Int) < (m.length : Int) := by omega
        obtain ⟨x, hx⟩ : ∃ x, l[i] = x := ⟨_, rfl⟩
        obtain ⟨y, hy⟩ : ∃ y, m[i] = y := ⟨_, rfl⟩
        rw [hx] at q1
        rw [hy] at q2
        by_cases hxy : x = y
        · subst hxy
          have HA2 : Hid (∀ k (_ : k < i + 1) (h1 : k < l.length) (h2 : k < m.length), l[k] = m[k]) := Lib.hid fun k h h1 h2 => by
            rcases Nat.lt_or_ge k i with hk | hk
            · exact HA.out k hk h1 h2
            · obtain rfl : k = i := by omega
              rw [hx, hy]
          clear hx hy HA hRow hRow2
          go_wp2_with fail
          go_quiet (fail)
          go_wp2
          go_roundw
          case rel => exact ⟨i + 1, hlt2, by go_num, HA2, hb.trans (below_drewN _)⟩
          case measure => simp [intOf]; omega
        · have h2 : (x.toList == y.toList) = false := by
            rw [bytes_beq]
            exact decide_eq_false hxy
          have hR0 : R = false := by rw [← HR.out]; exact sameS_no hlt hlt2 (by rw [hx, hy]; exact hxy)
          subst hR0
          clear hx hy HA hRow hRow2 HR
          go_wp2_with fail
          go_quiet (fail)
          go_wp2
          go_ret
          exact ⟨rfl, hb.trans (below_drewN _)⟩
      · obtain rfl : i = m.length := by omega
        have hR0 : R = true := by rw [← HR.out]; exact sameS_yes HL.out (fun k h1 h2 => HA.out k h2 h1 h2)
        subst hR0
        clear HR HA
        go_wp2
        go_ret
        exact ⟨rfl, hb⟩
  · have hR0 : R = false := by rw [← HR.out]; exact sameS_len hlen
    subst hR0
    clear HR
    have hlen' : ((l.length : Int) == (m.length : Int)) = false := by simp; omega
    go_enter Try.func25, Try.ntmps25
    go_wp2_with fail
    go_ret
    exact ⟨rfl, Below.refl _ _⟩
end Go.Proofs.Ytffgjamnijhlpaa
