/- Package token: Scan of what is too long, and Locate. -/
import Derived.Test.YthjfedkginjbeaaTsl
namespace Go.Proofs.Ythjfedkginjbeaa
open Go.RowKit
set_option maxRecDepth 100000 in
theorem scan_long (s : ByteArray) (w : World) (hm : 65536 < s.size) :
    Calls Try.prog 14 #[.string s] w fun e w' => e = .returned (.tuple #[.slice none 0 0, .agg #[.int .i64 4, .int .i64 0, .int .i64 0, .string ⟨#[]⟩]]) ∧ Below w.heap.size w w' := by
  have hz : 65536 < (s.size : Int) := by omega
  go_enter Try.func14, Try.ntmps14
  go_wp2
  exact bodyPost_ret (mix_ret Try.results14 rfl rfl (Blk.new w _ _)) rfl ⟨rfl, (Below.refl _ _).alloc (Nat.le_refl _) _⟩
theorem posI_next (s : ByteArray) (k : Nat) : posI s (k + 1) = (nxL (posI s k).1 (chI s k), nxC (posI s k).2 (chI s k)) := by
  unfold posI
  rw [adv, Nat.zero_add]
theorem pos_facts {w : World} {g : Nat} {t : TypeId} {a b : Value} (h : Blk w g t #[a, b]) :
    w.cell? ⟨g, 0, none⟩ = some a ∧ w.cell? ⟨g, 1, none⟩ = some b ∧ w.frozen? ⟨g, 0, none⟩ = false ∧ w.frozen? ⟨g, 1, none⟩ = false := by
  have e0 := h.cell 0
  have e1 := h.cell 1
  simp at e0 e1
  exact ⟨e0, e1, h.frozen 0, h.frozen 1⟩
theorem pos_ret {fn : Func} {tmps : Array Value} {t' : Tmp} {w : World} {g' : Nat} {b0 b1 : Value} (h : fn.results = #[.cell t' 26])
    (ht' : tmps.getD t' undef = .pointer (some ⟨g', 0, none⟩)) (q' : Blk w g' 26 #[b0, b1]) :
    (results fn tmps).run Try.prog w = .ok (.agg #[b0, b1]) w := by
  obtain ⟨d0, d1, _⟩ := pos_facts q'
  have e' : tmps[t']?.getD undef = .pointer (some ⟨g', 0, none⟩) := by simpa using ht'
  simp [results, h, e', go_sem, d0, d1]
end Go.Proofs.Ythjfedkginjbeaa
