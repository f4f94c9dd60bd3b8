/- The law ModeTypes walked. -/
import Derived.Test.YtbcbhgclgakljaaGdk
import Derived.Test.YtbcbhgclgakljaaMdl
import Derived.Test.YtbcbhgclgakljaaPho
import Derived.Test.YtbcbhgclgakljaaPhl
namespace Go.Proofs.Ytbcbhgclgakljaa
open Go.RowKit Go.Maps
section
variable {K : Nat → Option (Value → World → Prop)} {val : Nat → Option Value} {i : Nat} {u y : Value} {w w' : World} {O : Value → World → Prop}
/-- what is known of an operation's value: a property, or the value -/
def kP (K : Nat → Option (Value → World → Prop)) (val : Nat → Option Value) (i : Nat) (u : Value) (w : World) : Prop := (∀ O, K i = some O → O u w) ∧ (K i = none → ∀ y, val i = some y → u = y)
theorem kP_val (h : kP K val i u w) (hK : K i = none) (hy : val i = some y) : u = y := h.2 hK y hy
theorem kP_mk (hK : K i = none) (hy : val i = some u) : kP K val i u w := ⟨fun O h => (by rw [hK] at h; cases h), fun _ y hz => (by rw [hy] at hz; exact Option.some.inj hz)⟩
theorem kP_of (h : kP K val i u w) (hK : K i = some O) : O u w := h.1 O hK
theorem kP_in (hK : K i = some O) (h : O u w) : kP K val i u w := ⟨fun O' e => (by rw [hK] at e; obtain rfl := Option.some.inj e; exact h), fun e => (by rw [hK] at e; cases e)⟩
theorem kP_keep (hst : ∀ O, K i = some O → ∀ u w w', O u w → Below w.heap.size w w' → O u w') (h : kP K val i u w) (hb : Below w.heap.size w w') : kP K val i u w' := ⟨fun O e => hst O e _ _ _ (h.1 O e) hb, h.2⟩
theorem gives_load {P : Program} {o : Oper} {A : Act} {t : TypeId} {g : Addr} {v : Value} {φ : Value → World → Prop} (x : Operand) (ho : o.op = .load t x) (hx : A.eval x = .pointer (some g)) (h : (Instr.loadAt t (.pointer (some g))).run P w = .ok v w) (hφ : φ v w) : Gives P o A w φ := by
  unfold Gives
  rw [run_load x ho hx h]
  exact gives_val (Below.refl _ _) hφ
theorem giv_load {P : Program} {o : Oper} {A : Act} {t : TypeId} {g : Addr} {v : Value} {φ : Value → World → Prop} (x : Operand) (ho : o.op = .load t x) (hx : A.eval x = .pointer (some g)) (h : (Instr.loadAt t (.pointer (some g))).run P w = .ok v w) (hφ : φ v w) : Giv P o A (fun w w' => Below w.heap.size w w') w φ := by
  unfold Giv
  rw [run_load x ho hx h]
  exact giv_val (Below.refl _ _) hφ
end
/-- a policy of lists of these lengths, with the marks f -/
def OutP (n0 n n2 n3 n4 n5 n6 n7 n8 n9 n10 n11 n12 n13 n14 n15 n16 : Nat) (f : Nat → Tz → Bool) (T : List Tz) (u : Value) (w : World) : Prop :=
  ∃ (b0 b1 b2 b3 b4 b5 b6 b7 b8 b9 b10 b11 b12 b13 b14 b15 b16 : Option Addr) (e0 e1 e2 e3 e4 e5 e6 e7 e8 e9 e10 e11 e12 e13 e14 e15 e16 : Nat), u = .agg #[.slice b0 n0 e0, .slice b1 n e1, .slice b2 n2 e2, .slice b3 n3 e3, .slice b4 n4 e4, .slice b5 n5 e5, .slice b6 n6 e6, .slice b7 n7 e7, .slice b8 n8 e8, .slice b9 n9 e9, .slice b10 n10 e10, .slice b11 n11 e11, .slice b12 n12 e12, .slice b13 n13 e13, .slice b14 n14 e14, .slice b15 n15 e15, .slice b16 n16 e16] ∧ ∃ Tc, RowZ w 0 (.slice b1 n e1) Tc ∧ PZ f T Tc
theorem RowZ.rowT {w : World} {B b : Nat} {v : Value} {T : List Tz} {cs ds : Array Value} (h : RowZ w B v T) (hb : Blk w b 62 cs) : RowZ (w.setRow b ds) B v T := by
  rcases h with h | ⟨g, c, cs1, h1, h2, h3, h4, h5⟩
  · exact .inl h
  · refine .inr ⟨g, c, cs1, h1, h2, h3, (setRow_other w b g ds ?_).trans h4, h5⟩
    rintro rfl
    have e := (show w.heap[g]? = _ from hb).symm.trans (show w.heap[g]? = _ from h4)
    simp at e
/-- numbers -/
def IntsP (L : List Int) (u : Value) (w : World) : Prop := ∃ a k e, u = .slice a k e ∧ Rows' RIn w (.slice a k e) L
/-- a policy's box, new -/
def BoxP (N : Nat) (u : Value) (w : World) : Prop := ∃ b, u = .pointer (some ⟨b, 0, none⟩) ∧ N ≤ b ∧ Blk w b 62 #[.slice none 0 0, .slice none 0 0, .slice none 0 0, .slice none 0 0, .slice none 0 0, .slice none 0 0, .slice none 0 0, .slice none 0 0, .slice none 0 0, .slice none 0 0, .slice none 0 0, .slice none 0 0, .slice none 0 0, .slice none 0 0, .slice none 0 0, .slice none 0 0, .slice none 0 0]
section
variable {w w' : World} {u : Value}
theorem OutP.keep {n0 n n2 n3 n4 n5 n6 n7 n8 n9 n10 n11 n12 n13 n14 n15 n16 : Nat} {f : Nat → Tz → Bool} {T : List Tz} (h : OutP n0 n n2 n3 n4 n5 n6 n7 n8 n9 n10 n11 n12 n13 n14 n15 n16 f T u w) (hb : Below w.heap.size w w') : OutP n0 n n2 n3 n4 n5 n6 n7 n8 n9 n10 n11 n12 n13 n14 n15 n16 f T u w' := by
  obtain ⟨b0, b1, b2, b3, b4, b5, b6, b7, b8, b9, b10, b11, b12, b13, b14, b15, b16, e0, e1, e2, e3, e4, e5, e6, e7, e8, e9, e10, e11, e12, e13, e14, e15, e16, h, Tc, h1, h2⟩ := h
  exact ⟨b0, b1, b2, b3, b4, b5, b6, b7, b8, b9, b10, b11, b12, b13, b14, b15, b16, e0, e1, e2, e3, e4, e5, e6, e7, e8, e9, e10, e11, e12, e13, e14, e15, e16, h, Tc, h1.below hb, h2⟩
theorem IntsP.keep {L : List Int} (h : IntsP L u w) (hb : Below w.heap.size w w') : IntsP L u w' := by
  obtain ⟨a, k, e, h1, h2⟩ := h
  exact ⟨a, k, e, h1, h2.below hb⟩
theorem BoxP.keep {N : Nat} (h : BoxP N u w) (hb : Below w.heap.size w w') : BoxP N u w' := by
  obtain ⟨b, h1, h0, h2⟩ := h
  exact ⟨b, h1, h0, h2.keep hb⟩
theorem Own.toI {B : Nat} {L : List Int} (h : Own RIn w B u L) : IntsP L u w := by
  obtain ⟨a, k, rfl⟩ := h.isSl
  exact ⟨_, _, _, rfl, h.rows⟩
end
def K3 (O B : Value → World → Prop) : Nat → Option (Value → World → Prop)
  | 2 => some O
  | 5 => some O
  | 6 => some B
  | 7 => some B
  | _ => none
def K4 (L O B : Value → World → Prop) : Nat → Option (Value → World → Prop)
  | 2 => some L
  | 3 => some O
  | 4 => some B
  | _ => none
def K5 (L M : Value → World → Prop) : Nat → Option (Value → World → Prop)
  | 1 => some L
  | 3 => some L
  | 21 => some M
  | 23 => some M
  | _ => none
def V3 (p l : Value) : Nat → Option Value
  | 0 => some p
  | 1 => some l
  | 3 => some p
  | 4 => some l
  | _ => none
def V4 (p : Value) : Nat → Option Value
  | 0 => some p
  | 1 => some p
  | _ => none
def V5 (p q r qt rt bt pt q9 p9 q0 p0 q14 p14 : Value) (g2 b5 b6 b7 m9 m0 m14 : Nat) : Nat → Option Value
  | 0 => some (p)
  | 2 => some (p)
  | 4 => some (.bool true)
  | 5 => some (.bool true)
  | 6 => some (.pointer (some ⟨b5, 1, none⟩))
  | 7 => some (qt)
  | 8 => some (.pointer (some ⟨b6, 1, none⟩))
  | 9 => some (rt)
  | 10 => some (.bool true)
  | 11 => some (.bool true)
  | 12 => some (.bool true)
  | 13 => some (.pointer (some ⟨b7, 1, none⟩))
  | 14 => some (bt)
  | 15 => some (.pointer (some ⟨g2, 1, none⟩))
  | 16 => some (pt)
  | 17 => some (.bool true)
  | 18 => some (.bool true)
  | 19 => some (.bool true)
  | 20 => some (q)
  | 22 => some (r)
  | 24 => some (.bool true)
  | 25 => some (.bool true)
  | 26 => some (.bool true)
  | 27 => some (.pointer (some ⟨b5, 9, none⟩))
  | 28 => some (q9)
  | 29 => some (.int .i64 m9)
  | 30 => some (.pointer (some ⟨g2, 9, none⟩))
  | 31 => some (p9)
  | 32 => some (.int .i64 m9)
  | 33 => some (.bool true)
  | 34 => some (.bool true)
  | 35 => some (.bool true)
  | 36 => some (.pointer (some ⟨b5, 0, none⟩))
  | 37 => some (q0)
  | 38 => some (.int .i64 m0)
  | 39 => some (.pointer (some ⟨g2, 0, none⟩))
  | 40 => some (p0)
  | 41 => some (.int .i64 m0)
  | 42 => some (.bool true)
  | 43 => some (.bool true)
  | 44 => some (.bool true)
  | 45 => some (.pointer (some ⟨b5, 14, none⟩))
  | 46 => some (q14)
  | 47 => some (.int .i64 m14)
  | 48 => some (.pointer (some ⟨g2, 14, none⟩))
  | 49 => some (p14)
  | 50 => some (.int .i64 m14)
  | 51 => some (.bool true)
  | 52 => some (.bool true)
  | 53 => some (.bool true)
  | 54 => some (.bool true)
  | 55 => some (.bool true)
  | 56 => some (.bool true)
  | _ => none
section
variable {w w' : World} {val : Nat → Option Value}
theorem keep3 {n0 n n2 n3 n4 n5 n6 n7 n8 n9 n10 n11 n12 n13 n14 n15 n16 N : Nat} {f : Nat → Tz → Bool} {T : List Tz} (i : Nat) (u : Value) (w w' : World) (h : kP (K3 (OutP n0 n n2 n3 n4 n5 n6 n7 n8 n9 n10 n11 n12 n13 n14 n15 n16 f T) (BoxP N)) val i u w) (hb : Below w.heap.size w w') : kP (K3 (OutP n0 n n2 n3 n4 n5 n6 n7 n8 n9 n10 n11 n12 n13 n14 n15 n16 f T) (BoxP N)) val i u w' := kP_keep (fun O e u w w' h hb => by
  unfold K3 at e
  split at e <;> first | (obtain rfl := Option.some.inj e; first | exact OutP.keep h hb | exact BoxP.keep h hb) | cases e) h hb
theorem keep4 {n0 n n2 n3 n4 n5 n6 n7 n8 n9 n10 n11 n12 n13 n14 n15 n16 N : Nat} {L : List Int} {f : Nat → Tz → Bool} {T : List Tz} (i : Nat) (u : Value) (w w' : World) (h : kP (K4 (IntsP L) (OutP n0 n n2 n3 n4 n5 n6 n7 n8 n9 n10 n11 n12 n13 n14 n15 n16 f T) (BoxP N)) val i u w) (hb : Below w.heap.size w w') : kP (K4 (IntsP L) (OutP n0 n n2 n3 n4 n5 n6 n7 n8 n9 n10 n11 n12 n13 n14 n15 n16 f T) (BoxP N)) val i u w' := kP_keep (fun O e u w w' h hb => by
  unfold K4 at e
  split at e <;> first | (obtain rfl := Option.some.inj e; first | exact IntsP.keep h hb | exact OutP.keep h hb | exact BoxP.keep h hb) | cases e) h hb
theorem keep5 {L M : List Int} {i : Nat} {u : Value} (h : kP (K5 (IntsP L) (IntsP M)) val i u w) (hb : Below w.heap.size w w') : kP (K5 (IntsP L) (IntsP M)) val i u w' := kP_keep (fun O e u w w' h hb => by
  unfold K5 at e
  split at e <;> first | (obtain rfl := Option.some.inj e; exact IntsP.keep h hb) | cases e) h hb
end
set_option maxRecDepth 100000 in
set_option maxHeartbeats 4000000 in
theorem withO {w u : World} {a0 a1 a2 a3 a4 a5 a6 a7 a8 a9 a10 a11 a12 a13 a14 a15 a16 : Option Addr} {n0 n n2 n3 n4 n5 n6 n7 n8 n9 n10 n11 n12 n13 n14 n15 n16 c0 c1 c2 c3 c4 c5 c6 c7 c8 c9 c10 c11 c12 c13 c14 c15 c16 : Nat} {T : List Tz} (L : List Int) (al : Option Addr) (m cl : Nat) (h : PolIn w (.slice a0 n0 c0) (.slice a1 n c1) (.slice a2 n2 c2) (.slice a3 n3 c3) (.slice a4 n4 c4) (.slice a5 n5 c5) (.slice a6 n6 c6) (.slice a7 n7 c7) (.slice a8 n8 c8) (.slice a9 n9 c9) (.slice a10 n10 c10) (.slice a11 n11 c11) (.slice a12 n12 c12) (.slice a13 n13 c13) (.slice a14 n14 c14) (.slice a15 n15 c15) (.slice a16 n16 c16) n0 n2 n3 n4 n5 n6 n7 n8 n9 n10 n11 n12 n13 n14 n15 n16 T) (hn : T.length = n) (hb : Below w.heap.size w u) (hl : n ≤ 1000) (hi : Rows' RIn u (.slice al m cl) L) (hml : m ≤ 1000) :
    Calls Try.prog 19 #[.agg #[.slice a0 n0 c0, .slice a1 n c1, .slice a2 n2 c2, .slice a3 n3 c3, .slice a4 n4 c4, .slice a5 n5 c5, .slice a6 n6 c6, .slice a7 n7 c7, .slice a8 n8 c8, .slice a9 n9 c9, .slice a10 n10 c10, .slice a11 n11 c11, .slice a12 n12 c12, .slice a13 n13 c13, .slice a14 n14 c14, .slice a15 n15 c15, .slice a16 n16 c16], .slice al m cl] u fun e w' => ∃ v, e = .returned v ∧ OutP n0 n n2 n3 n4 n5 n6 n7 n8 n9 n10 n11 n12 n13 n14 n15 n16 (fun j _ => inL L j) T v w' ∧ Below u.heap.size u w' := by
  obtain ⟨_, _, e, _, _⟩ := hi.form
  simp only [Value.slice.injEq] at e
  refine (withG w u a0 a1 a2 a3 a4 a5 a6 a7 a8 a9 a10 a11 a12 a13 a14 a15 a16 n0 n n2 n3 n4 n5 n6 n7 n8 n9 n10 n11 n12 n13 n14 n15 n16 c0 c1 c2 c3 c4 c5 c6 c7 c8 c9 c10 c11 c12 c13 c14 c15 c16 T L al m cl h hb (by omega) hi e.2.1 hml).mono ?_
  rintro e w1 ⟨u0, u1, u2, u3, u4, u5, u6, u7, u8, u9, u10, u11, u12, u13, u14, u15, u16, rfl, ⟨s0, s2, s3, s4, s5, s6, s7, s8, s9, s10, s11, s12, s13, s14, s15, s16⟩, ⟨Tc, h1, h2⟩, h3⟩
  obtain ⟨b0, e0, rfl⟩ := s0
  obtain ⟨b2, e2, rfl⟩ := s2
  obtain ⟨b3, e3, rfl⟩ := s3
  obtain ⟨b4, e4, rfl⟩ := s4
  obtain ⟨b5, e5, rfl⟩ := s5
  obtain ⟨b6, e6, rfl⟩ := s6
  obtain ⟨b7, e7, rfl⟩ := s7
  obtain ⟨b8, e8, rfl⟩ := s8
  obtain ⟨b9, e9, rfl⟩ := s9
  obtain ⟨b10, e10, rfl⟩ := s10
  obtain ⟨b11, e11, rfl⟩ := s11
  obtain ⟨b12, e12, rfl⟩ := s12
  obtain ⟨b13, e13, rfl⟩ := s13
  obtain ⟨b14, e14, rfl⟩ := s14
  obtain ⟨b15, e15, rfl⟩ := s15
  obtain ⟨b16, e16, rfl⟩ := s16
  obtain ⟨b1, e1, rfl⟩ := h1.n
  have hl2 := h2.len
  rw [hn] at hl2
  rw [hl2] at h1 ⊢
  exact ⟨_, rfl, ⟨b0, b1, b2, b3, b4, b5, b6, b7, b8, b9, b10, b11, b12, b13, b14, b15, b16, e0, e1, e2, e3, e4, e5, e6, e7, e8, e9, e10, e11, e12, e13, e14, e15, e16, rfl, Tc, h1.base (Nat.zero_le _), h2⟩, h3⟩
set_option maxRecDepth 100000 in
set_option maxHeartbeats 4000000 in
theorem rwithO {u : World} {a0 a1 a2 a3 a4 a5 a6 a7 a8 a9 a10 a11 a12 a13 a14 a15 a16 : Option Addr} {n0 n n2 n3 n4 n5 n6 n7 n8 n9 n10 n11 n12 n13 n14 n15 n16 c0 c1 c2 c3 c4 c5 c6 c7 c8 c9 c10 c11 c12 c13 c14 c15 c16 : Nat} {T : List Tz} (L : List Int) (al : Option Addr) (m cl : Nat) (h : RdZ u (.slice a1 n c1) T) (hl : n ≤ 1000) (hi : Rows' RIn u (.slice al m cl) L) (hml : m ≤ 1000) :
    Calls Try.prog 20 #[.agg #[.slice a0 n0 c0, .slice a1 n c1, .slice a2 n2 c2, .slice a3 n3 c3, .slice a4 n4 c4, .slice a5 n5 c5, .slice a6 n6 c6, .slice a7 n7 c7, .slice a8 n8 c8, .slice a9 n9 c9, .slice a10 n10 c10, .slice a11 n11 c11, .slice a12 n12 c12, .slice a13 n13 c13, .slice a14 n14 c14, .slice a15 n15 c15, .slice a16 n16 c16], .slice al m cl] u fun e w' => ∃ v, e = .returned v ∧ OutP n0 n n2 n3 n4 n5 n6 n7 n8 n9 n10 n11 n12 n13 n14 n15 n16 (fun j _ => inL L j) T v w' ∧ Below u.heap.size u w' := by
  obtain ⟨_, _, e, _, _⟩ := hi.form
  simp only [Value.slice.injEq] at e
  refine (rwithG T L a0 a1 a2 a3 a4 a5 a6 a7 a8 a9 a10 a11 a12 a13 a14 a15 a16 n n0 n2 n3 n4 n5 n6 n7 n8 n9 n10 n11 n12 n13 n14 n15 n16 c0 c1 c2 c3 c4 c5 c6 c7 c8 c9 c10 c11 c12 c13 c14 c15 c16 al m cl h hl hi e.2.1 hml).mono ?_
  rintro e w1 ⟨b1, e1, Tc, rfl, h1, h2, h3⟩
  exact ⟨_, rfl, ⟨a0, b1, a2, a3, a4, a5, a6, a7, a8, a9, a10, a11, a12, a13, a14, a15, a16, c0, e1, c2, c3, c4, c5, c6, c7, c8, c9, c10, c11, c12, c13, c14, c15, c16, rfl, Tc, h1.base (Nat.zero_le _), h2⟩, h3⟩
theorem inL_prz {T : List Tz} {n j : Nat} {x : Tz} (hn : T.length = n) (hx : T[j]? = some x) : inL (prz T n) j = x.pm := by
  have hj : j < n := by rw [← hn]; exact (List.getElem?_eq_some_iff.1 hx).1
  have hy : (T.map toTy)[j]? = some (toTy x) := by rw [List.getElem?_map, hx]; rfl
  unfold inL prz prm
  cases hp : x.pm
  · rw [decide_eq_false_iff_not]
    intro hin
    obtain ⟨k, hk, e⟩ := List.mem_map.1 hin
    have e2 : k = j := by exact Int.ofNat.inj e
    subst e2
    have h2 := (List.mem_filter.1 hk).2
    rw [hy] at h2
    simp only [toTy] at h2
    rw [hp] at h2
    cases h2
  · rw [decide_eq_true_eq]
    refine List.mem_map.2 ⟨j, List.mem_filter.2 ⟨List.mem_range.2 hj, ?_⟩, rfl⟩
    rw [hy]
    exact hp
theorem pz_back {T Tb : List Tz} {n : Nat} (hn : T.length = n) (h : PZ (fun j _ => inL (prz T n) j) T Tb) : Tb = T := List.ext_getElem? fun j => by
  rw [h j]
  cases hx : T[j]? with
  | none => rfl
  | some x =>
    simp only [Option.map_some]
    rw [inL_prz hn hx]
end Go.Proofs.Ytbcbhgclgakljaa
