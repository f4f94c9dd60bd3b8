/- What a list of bytes that is handed in is. -/
import Derived.Test.YthjfedkginjbeaaTlw
import Derived.Test.YthjfedkginjbeaaTuv
namespace Go.Proofs.Ythjfedkginjbeaa
open Go.ChangeShapes Go.WideShapes Go.ChangeAt Go.RowKit
theorem Try.cellsU8 : Try.prog.cellsOf 5 = 1 := by kernel_rfl
theorem open_bytes {H : Type} {enc : TypeId × Value → H} {W : World} {base : Nat} {v : Value} {d : DataW H} {p : List MemPlace} (hok : Value.okWide Try.prog W .any base 43 v)
    (h : DataW.Trod enc Try.prog W 0 (fun _ => true) true 43 v d p) :
    ∃ n : Nat, Byts W v n ∧ n ≤ maxLen := by
  obtain ⟨a0, len0, cap0, rfl⟩ := okWide_slice Try.underlying43 hok
  obtain ⟨fuel, hf⟩ := h
  rcases Go.Deep.open_slice1 Try.underlying43 Try.cellsU8 hf with ⟨hcs, _⟩ | ⟨a, len, cap, m, n, V, D, Pl, hcs, _, hl, hm, hmm, _, hx⟩
  · simp [Value.cells] at hcs
    obtain ⟨rfl, rfl, rfl⟩ := hcs
    exact ⟨0, ⟨none, 0, rfl, fun i hi => absurd hi (by omega)⟩, Nat.zero_le _⟩
  · simp [Value.cells] at hcs
    obtain ⟨rfl, rfl, rfl⟩ := hcs
    have hlm : len0 ≤ m := by rw [hmm]; split <;> omega
    refine ⟨len0, ⟨some a, cap0, rfl, fun i hi => ?_⟩, by omega⟩
    obtain ⟨h1, h2⟩ := hx i (by omega)
    obtain ⟨h10, _⟩ := hx 0 (by omega)
    obtain ⟨b, o, spot⟩ := a
    have hspot : spot = none := by simpa [Addr.add] using World.cell?_spot h10
    subst hspot
    have e : (⟨b, o, none⟩ : Addr).add i = ⟨b, o + i, none⟩ := by unfold Addr.add; split <;> simp_all
    rw [e] at h1
    obtain ⟨x, ex, _, hw⟩ := DataW.trod_int Try.underlying5 h2
    simp at ex
    rw [ex] at h1
    have hb := bounds_u8 hw
    exact ⟨b, o, rfl, x, hb.1, hb.2, h1⟩
end Go.Proofs.Ythjfedkginjbeaa
