/- Rows of two cells that a call owns; runs. -/
import Derived.Test.YthjebccidcichaaLvo
import Derived.Deep.RegionHeld3
import Derived.OwnWalk
import Derived.Deep.LoopGhost
import Derived.Deep.AppendSrc
import Derived.Deep.AppendLies
import Derived.Laws.AppendOwnNone
namespace Go.Proofs.Ythjebccidcichaa
open Go.RowKit
theorem addr_at (g j : Nat) : (⟨g, 0, none⟩ : Addr).add j = ⟨g, j, none⟩ := by simp [Addr.add]; exact Eq.symm
def two (p : Value × Value) : List Value := [p.1, p.2]
/-- a row of pairs that a call owns -/
def Own2 (w : World) (base : Nat) (e : TypeId) (v : Value) (xs : List (Value × Value)) : Prop := w.ownsRow base e 2 v xs.length (xs.flatMap two)
section
variable {w w' : World} {base g : Nat} {e t : TypeId} {v : Value} {xs : List (Value × Value)} {cs : Array Value}
theorem Own2.nil : Own2 w base e (.slice none 0 0) [] := World.ownsRow_nil _ _ _ _
theorem Own2.mono {base' : Nat} (h : Own2 w base e v xs) (hb : base' ≤ base) : Own2 w base' e v xs := ⟨h.1, h.2.imp id (fun ⟨g, r1, r2, r3, r4, r5⟩ => ⟨g, r1, r2, r3, Nat.le_trans hb r4, r5⟩)⟩
theorem Own2.keep (h : Own2 w base e v xs) (hb : Below w.heap.size w w') : Own2 w' base e v xs := by
  refine ⟨h.1, ?_⟩
  rcases h.2 with h2 | ⟨k, cap, cur, hv, hk, hh, r⟩
  · exact .inl h2
  · have hlt : k < w.heap.size := by
      rcases Nat.lt_or_ge k w.heap.size with hlt | hge
      · exact hlt
      · rw [Array.getElem?_eq_none hge] at hh; cases hh
    exact .inr ⟨k, cap, cur, hv, hk, (hb.block k hlt).trans hh, r⟩
theorem Own2.alloc (h : Own2 w base e v xs) (o : Obj) : Own2 (w.alloc o) base e v xs := World.ownsRow.alloc h o
theorem Own2.set (h : Own2 w base e v xs) (hg : v.ownBlock ≠ some g) (i : Nat) (u : Value) : Own2 (w.setCell ⟨g, i, none⟩ u) base e v xs := by
  refine ⟨h.1, ?_⟩
  rcases h.2 with h2 | ⟨k, cap, cur, rfl, hk, hh, r⟩
  · exact .inl h2
  · refine .inr ⟨k, cap, cur, rfl, hk, (Below.heap_setCell w ⟨g, i, none⟩ u k ?_).trans hh, r⟩
    exact fun e => hg (by simp [Value.ownBlock, e])
theorem Own2.lt (h : Own2 w base e v xs) : ∀ k, v.ownBlock = some k → base ≤ k ∧ k < w.heap.size := World.ownsRow.lt h
theorem Own2.isSl (h : Own2 w base e v xs) : ∃ ao cap, v = .slice ao xs.length cap := by
  rcases h.2 with ⟨rfl, h0⟩ | ⟨g, cap, _, rfl, _⟩
  · exact ⟨none, 0, by rw [h0]⟩
  · exact ⟨_, _, rfl⟩
theorem Own2.notBlk (h : Own2 w base e v xs) (hb : Blk w g t cs) (hne : t ≠ e) : v.ownBlock ≠ some g := by
  rcases h.2 with ⟨rfl, _⟩ | ⟨g', cap, cur, rfl, _, hh, _⟩
  · simp [Value.ownBlock]
  · simp only [Value.ownBlock, ne_eq, Option.some.injEq]
    rintro rfl
    unfold Blk at hb
    rw [hb] at hh
    injection hh with hh
    injection hh with _ ht
    exact hne ht
theorem flat_two : ∀ (xs : List (Value × Value)) (k : Nat) (h : k < xs.length), (xs.flatMap two)[k * 2]? = some xs[k].1 ∧ (xs.flatMap two)[k * 2 + 1]? = some xs[k].2
  | [], _, h => absurd h (by simp)
  | x :: xs, 0, _ => by simp [two]
  | x :: xs, k + 1, h => by
    have := flat_two xs k (by simpa using h)
    have e1 : ((x :: xs).flatMap two)[(k + 1) * 2]? = (xs.flatMap two)[k * 2]? := by
      rw [show (k + 1) * 2 = k * 2 + 1 + 1 by omega]
      simp [two]
    have e2 : ((x :: xs).flatMap two)[(k + 1) * 2 + 1]? = (xs.flatMap two)[k * 2 + 1]? := by
      rw [show (k + 1) * 2 + 1 = k * 2 + 1 + 1 + 1 by omega]
      simp [two]
    rw [e1, e2]
    simpa using this
theorem Own2.read (h : Own2 w base e v xs) : ∃ ao cap, v = .slice ao xs.length cap ∧ (xs ≠ [] → ∃ g, ao = some ⟨g, 0, none⟩ ∧ ∀ k (h : k < xs.length), w.cell? ⟨g, 0 + k * 2, none⟩ = some xs[k].1 ∧ w.cell? ⟨g, 0 + k * 2 + 1, none⟩ = some xs[k].2) := by
  obtain ⟨ao, cap, rfl⟩ := h.isSl
  refine ⟨ao, cap, rfl, fun hn => ?_⟩
  have hx := h
  rcases h.2 with ⟨hv, h0⟩ | ⟨g, cap', cur, hv, _⟩
  · exact absurd (List.eq_nil_of_length_eq_zero h0) hn
  · cases hv
    refine ⟨g, rfl, fun k hk => ?_⟩
    obtain ⟨f1, f2⟩ := flat_two xs k hk
    have c := World.ownsRow.cells hx (g := g) rfl
    have c1 := c _ _ f1
    have c2 := c _ _ f2
    rw [addr_at] at c1 c2
    rw [Nat.zero_add]
    exact ⟨c1, c2⟩
theorem Blk.grown {row : Option Nat} (h : Blk w g t cs) (hg : w.grownBy w' row) (hn : row ≠ some g) : Blk w' g t cs := (hg.block g h.lt (fun e => hn e.symm)).trans h
theorem two_new {a b : Value} (hg : g = w.heap.size) : ∀ j x, [a, b][j]? = some x → (w.alloc (.cells #[a, b] t)).cell? ((⟨g, 0, none⟩ : Addr).add j) = some x := by
  subst hg
  intro j x h
  have e := (Blk.new w t #[a, b]).cell j
  rw [addr_at, e]
  simpa using h
end
/-- a slice that reads as these numbers -/
def Rns (w : World) (v : Value) (M : List (Nat × Nat)) : Prop := ∃ ao cap, v = .slice ao M.length cap ∧ (M ≠ [] → ∃ g o, o = 0 ∧ ao = some ⟨g, o, none⟩ ∧ ∀ k (h : k < M.length), w.cell? ⟨g, o + k * 2, none⟩ = some (.int .i64 (M[k].1 : Nat)) ∧ w.cell? ⟨g, o + k * 2 + 1, none⟩ = some (.int .i64 (M[k].2 : Nat)))
def rnC (p : Nat × Nat) : Value × Value := (.int .i64 (p.1 : Nat), .int .i64 (p.2 : Nat))
theorem Own2.rns {w : World} {base : Nat} {e : TypeId} {v : Value} {M : List (Nat × Nat)} (h : Own2 w base e v (M.map rnC)) : Rns w v M := by
  obtain ⟨ao, cap, hv, hr⟩ := h.read
  rw [List.length_map] at hv
  refine ⟨ao, cap, hv, fun hn => ?_⟩
  obtain ⟨g, rfl, hk⟩ := hr (by simpa using hn)
  refine ⟨g, 0, rfl, rfl, fun k h => ?_⟩
  have := hk k (by simpa using h)
  simpa [rnC] using this
def RunsOut (c : Nat) (w : World) (e : Ending) (w' : World) : Prop := ∃ v, e = .returned v ∧ Rns w' v (runsQ c 0 none) ∧ Below w.heap.size w w'
theorem infoRun : (Try.prog.info? 94).map (fun i => (i.zero, i.size, i.bytes)) = some (some (.agg #[.int .i64 0, .int .i64 0]), 2, 16) := by kernel_rfl
set_option maxRecDepth 100000 in
set_option maxHeartbeats 4000000 in
theorem runs_c (c : Nat) (w : World) (hc : c < U64) :
    Calls Try.prog 63 #[.int .u64 c] w (RunsOut c w) := by
  obtain ⟨i0, hinf, hz0, hz1, hz2⟩ := info_parts infoRun
  obtain ⟨R, hR⟩ : ∃ R, runsQ c 0 none = R := ⟨_, rfl⟩
  have HH := Lib.hid (fun k (hk : k ≤ 64) W => has_c c k W hc hk)
  have HR := Lib.hid hR
  clear hR
  go_enter Try.func63, Try.ntmps63
  go_wp2_with fail
  go_step3
  go_wp2_with fail
  go_step3
  go_wp2_with fail
  go_loopg [3, 4] 64 (fun g vl vn wr => ∃ (n : Nat) (M : List (Nat × Nat)) (vv : Value), vv = vl ∧ n ≤ 64 ∧ 64 ≤ n + g ∧ vn = .int .i64 n ∧ M.length ≤ n ∧ Hid (M ++ runsQ c n none = R) ∧ Own2 wr w.heap.size 94 vv (M.map rnC) ∧ Below w.heap.size w wr)
  case atStart => exact ⟨0, [], _, rfl, by omega, by omega, rfl, Nat.le_refl _, Lib.hid HR.out, Own2.nil, Below.refl _ _⟩
  case round =>
    obtain ⟨n, M, v, rfl, hn, hng, rfl, hM, HM, hown, hb⟩ := hrel
    by_cases hlt : n < 64
    · obtain ⟨g, rfl⟩ : ∃ g, gk = g + 1 := ⟨gk - 1, by omega⟩
      have hlt' : (n : Int) < 64 := by omega
      have H0 := Lib.hid (fun W => HH.out n hn W)
      have HO := Lib.hid hown
      have HB := Lib.hid hb
      clear hown hb
      cases hq : hasL c n
      · have HM2 : Hid (M ++ runsQ c (n + 1) none = R) := Lib.hid (by rw [← runsQ_no hlt hq]; exact HM.out)
        rw [hq] at H0
        clear hq HM
        go_wp2_with (go_at_call 70; refine (H0.out _).mono ?_; rintro e w1 ⟨rfl, rfl⟩)
        go_roundg g
        case measure => omega
        case rel => exact ⟨n + 1, M, _, rfl, by omega, by omega, by go_num, by omega, HM2, HO.out, HB.out⟩
      · have HM2 : Hid (M ++ runsQ c (n + 1) (some n) = R) := Lib.hid (by rw [← runsQ_open hlt hq]; exact HM.out)
        rw [hq] at H0
        clear hq HM
        go_wp2_with (go_at_call 70; refine (H0.out _).mono ?_; rintro e w1 ⟨rfl, rfl⟩)
        go_loopg [3, 4] 64 (fun g2 vl vk wy => ∃ k : Nat, v = vl ∧ n ≤ k ∧ k < 64 ∧ 64 ≤ k + g2 ∧ vk = .int .i64 k ∧ Hid (M ++ runsQ c (k + 1) (some n) = R) ∧ Own2 wy w.heap.size 94 v (M.map rnC) ∧ Below w.heap.size w wy)
        case atStart => exact ⟨n, rfl, Nat.le_refl _, hlt, by omega, rfl, HM2, HO.out, HB.out⟩
        case round =>
          clear HM2 H0 HO HB
          obtain ⟨k, rfl, hnk, hk, hkg, rfl, HM2, hown, hb⟩ := hrel
          have H1 : Hid (∀ W, Calls Try.prog 70 #[.int .u64 c, .int .i64 ((k : Int) + 1)] W fun e w' => e = .returned (.bool (hasL c (k + 1 : Nat))) ∧ w' = W) := Lib.hid (fun W => HH.out (k + 1) (by omega) W)
          have hk1 : (k : Int) < 64 := by omega
          have HO := Lib.hid hown
          have HB := Lib.hid hb
          clear hown hb
          cases hq : hasL c (k + 1 : Nat)
          · have HM3 : Hid ((M ++ [(n, k)]) ++ runsQ c (k + 1) none = R) := Lib.hid (by
              have := runsQ_stop (a := n) (by omega : k + 1 ≤ 64) hq
              rw [Nat.add_sub_cancel] at this
              rw [List.append_assoc, List.singleton_append, ← this]
              exact HM2.out)
            rw [hq] at H1
            clear hq HM2
            go_wp2_with (first
              | (go_at_call 70; refine (H1.out _).mono ?_; rintro e w2 ⟨rfl, rfl⟩)
              | (at_builtin; refine wpList_append_own _ rfl _ _ 91 rfl w.heap.size 94 i0 (.agg #[.int .i64 0, .int .i64 0]) 2 16 Try.underlying91 hinf hz0 hz1 hz2 rfl (by decide) v (M.map rnC).length ((M.map rnC).flatMap two) rfl ?c0 ⟨_, 0, none⟩ 1 1 [.int .i64 (n : Int), .int .i64 (k : Int)] rfl rfl ?c1 ?c2 ?c3 ?c4 ?c5 ?_))
            case c0 => exact HO.out.alloc _
            case c1 => exact two_new rfl
            case c2 => intro u hu; simp at hu; rcases hu with rfl | rfl <;> rfl
            case c3 => rw [List.length_map]; unfold maxLen; omega
            case c4 => rw [List.length_map]; omega
            case c5 => have := HB.out.size; simp; omega
            · intro v' w3 hown2 hgrow _
              have hlo := HO.out.lt
              have R3 : Own2 w3 w.heap.size 94 v' ((M ++ [(n, k)]).map rnC) := by
                unfold Own2
                simpa [two, rnC] using hown2
              have hsz := HB.out.size
              have B3 : Below w.heap.size w w3 := (HB.out.alloc hsz _).grown hgrow (by simp; omega) (fun k e => by have := hlo _ e; omega)
              clear hown2 hgrow hlo hsz
              go_wp2_with fail
              go_roundg g
              case measure => omega
              case rel => exact ⟨k + 1, M ++ [(n, k)], _, rfl, by omega, by omega, by go_num, by simp; omega, HM3, R3, B3⟩
          · have hk2 := hasL_lt hq
            have HM3 : Hid (M ++ runsQ c (k + 1 + 1) (some n) = R) := Lib.hid (by rw [← runsQ_go hq]; exact HM2.out)
            obtain ⟨g2, rfl⟩ : ∃ g, gk = g + 1 := ⟨gk - 1, by omega⟩
            rw [hq] at H1
            clear hq HM2
            go_wp2_with (go_at_call 70; refine (H1.out _).mono ?_; rintro e w2 ⟨rfl, rfl⟩)
            go_roundg g2
            case measure => omega
            case rel => exact ⟨k + 1, rfl, by omega, hk2, by omega, by go_num, HM3, HO.out, HB.out⟩
    · obtain rfl : n = 64 := by omega
      have HM2 : M = R := by have := HM.out; rwa [runsQ_end, List.append_nil] at this
      have HO := Lib.hid hown
      have HB := Lib.hid hb
      have HME := Lib.hid HM2
      clear hown hb HM HM2 hM
      go_wp2_with fail
      try rw [Exit.noGoto_ret]
      go_ret
      exact ⟨_, rfl, by rw [HR.out, ← HME.out]; exact HO.out.rns, HB.out⟩
end Go.Proofs.Ythjebccidcichaa
