/- The scanner of package token: peek and step. -/
import Derived.Test.YtffgjamnijhlpaaTsa
import Derived.Test.YtffgjamnijhlpaaMm
namespace Go.Proofs.Ytffgjamnijhlpaa
open Go.RowKit
/-- the byte at i, -1 behind the end -/
def chI (s : ByteArray) (i : Nat) : Int := if h : i < s.size then (s[i].toNat : Int) else -1
theorem chI_lt {s : ByteArray} {i : Nat} (h : i < s.size) : chI s i = (s[i].toNat : Int) := dif_pos h
theorem chI_ge {s : ByteArray} {i : Nat} (h : ¬ i < s.size) : chI s i = -1 := dif_neg h
/-- the scanner that lies in block sb -/
def Scn (w : World) (sb : Nat) (s : ByteArray) (i : Nat) (l k : Int) : Prop := Blk w sb 86 #[.string s, .int .i64 i, .int .i64 l, .int .i64 k]
theorem Scn.facts {w : World} {sb : Nat} {s : ByteArray} {i : Nat} {l k : Int} (h : Scn w sb s i l k) :
    w.cell? ⟨sb, 0, none⟩ = some (.string s) ∧ w.cell? ⟨sb, 1, none⟩ = some (.int .i64 i) ∧ w.cell? ⟨sb, 2, none⟩ = some (.int .i64 l) ∧ w.cell? ⟨sb, 3, none⟩ = some (.int .i64 k) ∧
    w.frozen? ⟨sb, 0, none⟩ = false ∧ w.frozen? ⟨sb, 1, none⟩ = false ∧ w.frozen? ⟨sb, 2, none⟩ = false ∧ w.frozen? ⟨sb, 3, none⟩ = false :=
  ⟨Blk.cell h 0, Blk.cell h 1, Blk.cell h 2, Blk.cell h 3, Blk.frozen h 0, Blk.frozen h 1, Blk.frozen h 2, Blk.frozen h 3⟩
theorem ret_i {k : IntKind} {a b : Int} (h : a = b) : Ending.returned (.int k a) = .returned (.int k b) := by rw [h]
theorem wrap32_u8 (u : UInt8) : wrap32 (u.toNat : Int) = (u.toNat : Int) := by have := u.toNat_lt; unfold wrap32; omega
set_option maxHeartbeats 1000000 in
theorem peek_c (s : ByteArray) (i sb : Nat) (l k : Int) (w : World) (hs : Scn w sb s i l k) (hi : i ≤ s.size) (_hm : s.size ≤ 9223372036854775807) :
    Calls Try.prog 54 #[.pointer (some ⟨sb, 0, none⟩)] w fun e w' => e = .returned (.int .i32 (chI s i)) ∧ ∃ n, w' = w.drewN n := by
  obtain ⟨c0, c1, c2, c3, _⟩ := hs.facts
  by_cases h : i < s.size
  · have hd : ((i : Int) == (s.size : Int)) = false := by simp; omega
    have hi0 : (i : Int) < (s.size : Int) := by omega
    rw [chI_lt h]
    go_enter Try.func54, Try.ntmps54
    go_wp2
    go_quiet (fail)
    go_wp2
    go_quiet (fail)
    go_wp2
    go_ret
    exact ⟨ret_i (wrap32_u8 _), _, World.drewN_drewN _ _ _⟩
  · obtain rfl : i = s.size := by omega
    rw [chI_ge h]
    go_enter Try.func54, Try.ntmps54
    go_wp2
    go_quiet (fail)
    go_wp2
    go_ret
    exact ⟨rfl, _, rfl⟩

theorem Scn.keep {w w' : World} {sb : Nat} {s : ByteArray} {i : Nat} {l k : Int} (h : Scn w sb s i l k) (hb : Below w.heap.size w w') : Scn w' sb s i l k := Blk.keep h hb
theorem Scn.drewN {w : World} {sb : Nat} {s : ByteArray} {i : Nat} {l k : Int} (h : Scn w sb s i l k) (n : Nat) : Scn (w.drewN n) sb s i l k := h
theorem Scn.lt {w : World} {sb : Nat} {s : ByteArray} {i : Nat} {l k : Int} (h : Scn w sb s i l k) : sb < w.heap.size := Blk.lt h
theorem Scn.setPos {w : World} {sb : Nat} {s : ByteArray} {i : Nat} {l k : Int} (h : Scn w sb s i l k) (l' k' : Int) : Scn ((w.setCell ⟨sb, 2, none⟩ (.int .i64 l')).setCell ⟨sb, 3, none⟩ (.int .i64 k')) sb s i l' k' := by
  have e := (Blk.set h 2 (.int .i64 l')).set 3 (.int .i64 k')
  simpa [Scn] using e
theorem Scn.setAt {w : World} {sb : Nat} {s : ByteArray} {i : Nat} {l k : Int} (h : Scn w sb s i l k) (j : Nat) {x : Int} (hx : x = (j : Int)) : Scn (w.setCell ⟨sb, 1, none⟩ (.int .i64 x)) sb s j l k := by
  subst hx
  have e := Blk.set h 1 (.int .i64 (j : Int))
  simpa [Scn] using e
set_option maxRecDepth 100000 in
set_option maxHeartbeats 2000000 in
theorem step_c (s : ByteArray) (i sb : Nat) (l k : Int) (w : World) (hs : Scn w sb s i l k) (hi0 : i < s.size) (hm : s.size ≤ 9223372036854775807)
    (hl : 0 ≤ l) (hl' : l ≤ 9223372036854775806) (hk : 0 ≤ k) (hk' : k ≤ 9223372036854775806) :
    Calls Try.prog 57 #[.pointer (some ⟨sb, 0, none⟩)] w fun e w' => e = .returned (.tuple #[]) ∧ Scn w' sb s (i + 1) (nxL l (chI s i)) (nxC k (chI s i)) ∧ But w.heap.size sb w w' := by
  have hi : i ≤ s.size := Nat.le_of_lt hi0
  obtain ⟨c0, c1, c2, c3, f0, f1, f2, f3⟩ := hs.facts
  have HS := Lib.hid hs
  have hlt := hs.lt
  clear hs
  go_enter Try.func57, Try.ntmps57
  go_wp2_with fail
  go_region_with (first
      | (go_at_call 54; refine (peek_c s i sb l k _ (by exact HS.out) hi hm).mono ?_; rintro e w' ⟨rfl, n, rfl⟩)
      | (go_at_call 74; refine (behind_c _ _ _ _ hl hl' hk hk').mono ?_; rintro e w' ⟨rfl, hb⟩; obtain ⟨d0, d1, d2, d3, g0, g1, g2, g3⟩ := (Scn.keep (by exact HS.out) hb).facts))
  all_goals
    have hq := Scn.keep (by exact HS.out) hb
    have hz := hb.size
    obtain ⟨e0, e1, e2, e3, t0, t1, t2, t3⟩ := (hq.setPos (nxL l (chI s i)) (nxC k (chI s i))).facts
    go_wp2
    have hB : Below w.heap.size w w' := ⟨hb.os, hb.tape, hb.output, hb.size, hb.block⟩
    go_end0
    refine ⟨rfl, ?_, ?_⟩
    · with_reducible exact (hq.setPos (nxL l (chI s i)) (nxC k (chI s i))).setAt (i + 1) (by omega)
    · with_reducible exact (((But.of_below hB).setCell (p := ⟨sb, 2, none⟩) (.inl rfl) _).setCell (p := ⟨sb, 3, none⟩) (.inl rfl) _).setCell (p := ⟨sb, 1, none⟩) (.inl rfl) _
end Go.Proofs.Ytffgjamnijhlpaa
