/- Contracts of Of of package bitset and of its reference: any list of numbers. Condition: none but that the list lies in memory. -/
import Derived.Test.YtbkejoheefnmiaaBsb
import Derived.LoopTactic
namespace Go.Proofs.Ytbkejoheefnmiaa
open Go.RowKit
/-- a block that is known whole -/
def At (w : World) (g : Nat) (t : TypeId) (cs : Array Value) : Prop := w.heap[g]? = some (.cells cs t (0, 0))
theorem At.cell {w : World} {g : Nat} {t : TypeId} {cs : Array Value} (h : At w g t cs) (i : Nat) : w.cell? ⟨g, i, none⟩ = cs[i]? := cell_of_row w g i cs t (0, 0) h
theorem At.frozen {w : World} {g : Nat} {t : TypeId} {cs : Array Value} (h : At w g t cs) (i : Nat) : w.frozen? ⟨g, i, none⟩ = false := by
  unfold At at h
  simp [World.frozen?, h]
theorem At.lt {w : World} {g : Nat} {t : TypeId} {cs : Array Value} (h : At w g t cs) : g < w.heap.size := by
  rcases Nat.lt_or_ge g w.heap.size with hlt | hge
  · exact hlt
  · unfold At at h; rw [Array.getElem?_eq_none hge] at h; cases h
theorem At.new (w : World) (t : TypeId) (cs : Array Value) : At (w.alloc (.cells cs t)) w.heap.size t cs := heap_alloc_new w _
theorem At.alloc {w : World} {g : Nat} {t : TypeId} {cs : Array Value} (h : At w g t cs) (o : Obj) : At (w.alloc o) g t cs := (Below.heap_alloc w o g h.lt).trans h
theorem At.below {B : Nat} {w w' : World} {g : Nat} {t : TypeId} {cs : Array Value} (h : At w g t cs) (hb : Below B w w') (hg : g < B) : At w' g t cs := (hb.block g hg).trans h

theorem At.set {w : World} {g : Nat} {t : TypeId} {cs : Array Value} (h : At w g t cs) (i : Nat) (u : Value) : At (w.setCell ⟨g, i, none⟩ u) g t (cs.setIfInBounds i u) := by
  unfold At at h ⊢
  simp [World.setCell, Array.getElem?_modify, h]
theorem At.far {w : World} {g : Nat} {t : TypeId} {cs : Array Value} (h : At w g t cs) {p : Addr} (hp : g ≠ p.block) (u : Value) : At (w.setCell p u) g t cs := (Below.heap_setCell w p u g hp).trans h
/-- a variable that holds a set -/
def Quad (w : World) (g : Nat) (a b c d : Int) : Prop := At w g 35 #[.int .u64 a, .int .u64 b, .int .u64 c, .int .u64 d]
theorem Quad.facts {w : World} {g : Nat} {a b c d : Int} (h : Quad w g a b c d) :
    w.cell? ⟨g, 0, none⟩ = some (.int .u64 a) ∧ w.cell? ⟨g, 1, none⟩ = some (.int .u64 b) ∧ w.cell? ⟨g, 2, none⟩ = some (.int .u64 c) ∧ w.cell? ⟨g, 3, none⟩ = some (.int .u64 d) ∧
    w.frozen? ⟨g, 0, none⟩ = false ∧ w.frozen? ⟨g, 1, none⟩ = false ∧ w.frozen? ⟨g, 2, none⟩ = false ∧ w.frozen? ⟨g, 3, none⟩ = false :=
  ⟨At.cell h 0, At.cell h 1, At.cell h 2, At.cell h 3, At.frozen h 0, At.frozen h 1, At.frozen h 2, At.frozen h 3⟩
theorem Quad.set4 {w : World} {g : Nat} {a b c d : Int} (h : Quad w g a b c d) (a' b' c' d' : Int) :
    Quad ((((w.setCell ⟨g, 0, none⟩ (.int .u64 a')).setCell ⟨g, 1, none⟩ (.int .u64 b')).setCell ⟨g, 2, none⟩ (.int .u64 c')).setCell ⟨g, 3, none⟩ (.int .u64 d')) g a' b' c' d' := by
  have k := (((At.set h 0 (.int .u64 a')).set 1 (.int .u64 b')).set 2 (.int .u64 c')).set 3 (.int .u64 d')
  simpa [Quad] using k
theorem Quad.lt {w : World} {g : Nat} {a b c d : Int} (h : Quad w g a b c d) : g < w.heap.size := At.lt h
theorem Quad.new (w : World) (a b c d : Int) : Quad (w.alloc (.cells #[.int .u64 a, .int .u64 b, .int .u64 c, .int .u64 d] 35)) w.heap.size a b c d := At.new _ _ _
theorem Quad.alloc {w : World} {g : Nat} {a b c d : Int} (h : Quad w g a b c d) (o : Obj) : Quad (w.alloc o) g a b c d := At.alloc h o
theorem Quad.below {B : Nat} {w w' : World} {g : Nat} {a b c d : Int} (h : Quad w g a b c d) (hb : Below B w w') (hg : g < B) : Quad w' g a b c d := At.below h hb hg
theorem Quad.far4 {w : World} {g g' : Nat} {a b c d a' b' c' d' : Int} (h : Quad w g a b c d) (hne : g ≠ g') :
    Quad ((((w.setCell ⟨g', 0, none⟩ (.int .u64 a')).setCell ⟨g', 1, none⟩ (.int .u64 b')).setCell ⟨g', 2, none⟩ (.int .u64 c')).setCell ⟨g', 3, none⟩ (.int .u64 d')) g a b c d :=
  At.far (At.far (At.far (At.far h hne _) hne _) hne _) hne _
theorem below_set4 {B : Nat} {a w : World} (h : Below B a w) {g : Nat} (hg : B ≤ g) (x0 x1 x2 x3 : Value) :
    Below B a ((((w.setCell ⟨g, 0, none⟩ x0).setCell ⟨g, 1, none⟩ x1).setCell ⟨g, 2, none⟩ x2).setCell ⟨g, 3, none⟩ x3) :=
  (((h.setCell (p := ⟨g, 0, none⟩) hg _).setCell (p := ⟨g, 1, none⟩) hg _).setCell (p := ⟨g, 2, none⟩) hg _).setCell (p := ⟨g, 3, none⟩) hg _

def ofI (l : List Int) (q : Int) : Int := l.foldl (fun x n => withI n q x) 0
theorem ofI_snoc (l : List Int) (n q : Int) : ofI (l ++ [n]) q = withI n q (ofI l q) := by unfold ofI; rw [List.foldl_append]; rfl
/-- a slice of ints that lies in memory -/
def Ints (w : World) (A : Option Addr) (l : List Int) : Prop := ∀ i, i < l.length → ∃ b off, A = some ⟨b, off, none⟩ ∧ w.cell? ⟨b, off + i, none⟩ = some (.int .i64 (l.getD i 0)) ∧ b < w.heap.size
theorem Ints.below {w w' : World} {A : Option Addr} {l : List Int} (h : Ints w A l) (hb : Below w.heap.size w w') : Ints w' A l := fun i hi => by
  obtain ⟨b, off, e, hc, hlt⟩ := h i hi
  exact ⟨b, off, e, (hb.cell (p := ⟨b, off + i, none⟩) hlt).trans hc, Nat.lt_of_lt_of_le hlt hb.size⟩
theorem ofI_take (l : List Int) (k : Nat) (h : k < l.length) (q : Int) : ofI (l.take (k + 1)) q = withI l[k] q (ofI (l.take k) q) := by
  rw [List.take_succ_eq_append_getElem h, ofI_snoc]
theorem set_ret {fn : Func} {tmps : Array Value} {t : Tmp} {w : World} {g : Nat} {a b c d : Int} (h : fn.results = #[.cell t 35]) (ht : tmps.getD t undef = .pointer (some ⟨g, 0, none⟩)) (q : Quad w g a b c d) :
    (results fn tmps).run Try.prog w = .ok (.agg #[.int .u64 a, .int .u64 b, .int .u64 c, .int .u64 d]) w := by
  obtain ⟨c0, c1, c2, c3, _⟩ := q.facts
  have ht' : tmps[t]?.getD undef = .pointer (some ⟨g, 0, none⟩) := by simpa using ht
  simp [results, h, ht', go_sem, c0, c1, c2, c3]
theorem quad_second (w : World) : Quad ((w.alloc (.cells #[.int .u64 0, .int .u64 0, .int .u64 0, .int .u64 0] 35)).alloc (.cells #[.int .u64 0, .int .u64 0, .int .u64 0, .int .u64 0] 35)) (w.heap.size + 1) 0 0 0 0 := by
  have h := Quad.new (w.alloc (.cells #[.int .u64 0, .int .u64 0, .int .u64 0, .int .u64 0] 35)) 0 0 0 0
  simpa using h
/-- the numbers below k, and those of All -/
def below (k : Nat) : List Int := (List.range k).map fun (i : Nat) => (i : Int)
def allN (n : Int) : Nat := (min n 256).toNat
def allL (n : Int) : List Int := below (allN n)
theorem allN_le (n : Int) : allN n ≤ 256 := by unfold allN; omega
theorem allN_lt {n : Int} {k : Nat} (h : k < allN n) : (k : Int) < n ∧ (k : Int) < 256 := by unfold allN at h; omega
theorem allN_end (n : Int) : n ≤ (allN n : Int) ∨ 256 ≤ (allN n : Int) := by unfold allN; omega
theorem ofI_below (k : Nat) (q : Int) : ofI (below (k + 1)) q = withI k q (ofI (below k) q) := by
  unfold below
  rw [List.range_succ, List.map_append]
  exact ofI_snoc _ _ _
set_option maxHeartbeats 1000000 in
theorem of_c (A : Option Addr) (l : List Int) (cap : Nat) (w : World) (hl : Ints w A l) (hm : l.length ≤ maxLen) :
    Calls Try.prog 39 #[.slice A l.length cap] w fun e w' => e = .returned (.agg #[.int .u64 (ofI l 0), .int .u64 (ofI l 1), .int .u64 (ofI l 2), .int .u64 (ofI l 3)]) ∧ Below w.heap.size w w' := by
  unfold maxLen at hm
  go_enter Try.func39, Try.ntmps39
  go_wp2
  go_loopw [8] (fun i wr => ∃ k : Nat, k ≤ l.length ∧ i = .int .i64 k ∧ Quad wr w.heap.size 0 0 0 0 ∧
      Quad wr (w.heap.size + 1) (ofI (l.take k) 0) (ofI (l.take k) 1) (ofI (l.take k) 2) (ofI (l.take k) 3) ∧ Below w.heap.size w wr)
    (fun i _ => l.length - (intOf i).toNat)
  case atStart => exact ⟨0, Nat.zero_le _, rfl, (Quad.new _ _ _ _ _).alloc _, quad_second w, ((Below.refl _ _).alloc (Nat.le_refl _) _).alloc (by simp) _⟩
  case round =>
    obtain ⟨k, hk, rfl, hz, hs, hb⟩ := hrel
    obtain ⟨c0, c1, c2, c3, _⟩ := hs.facts
    have hsz := hs.lt
    by_cases hlt : k < l.length
    · obtain ⟨b, off, hA, hc, hbl⟩ := hl k hlt
      subst hA
      have hcr := (hb.cell (p := ⟨b, off + k, none⟩) hbl).trans hc
      have E : ∀ q, Hid (ofI (l.take (k + 1)) q = withI l[k] q (ofI (l.take k) q)) := fun q => ofI_take l k hlt q
      clear hc
      go_wp2_with (go_at_call 48; refine (with_c _ _ _ _ _ _).mono ?_; rintro e w' ⟨rfl, hb'⟩; obtain ⟨d0, d1, d2, d3, f0, f1, f2, f3⟩ := (hs.below hb' hsz).facts)
      go_roundw
      case rel =>
        refine ⟨k + 1, by omega, by go_num, (hz.below hb' hz.lt).far4 (by omega), ?_, below_set4 (hb.trans (hb'.mono hb.size)) (by omega) _ _ _ _⟩
        rw [(E 0).out, (E 1).out, (E 2).out, (E 3).out]
        exact (hs.below hb' hsz).set4 _ _ _ _
      case measure => simp [intOf]; omega
    · obtain ⟨d0, d1, d2, d3, f0, f1, f2, f3⟩ := hz.facts
      obtain rfl : k = l.length := by omega
      rw [List.take_length] at c0 c1 c2 c3
      go_wp2
      exact bodyPost_ret (v := (.agg #[.int .u64 (ofI l 0), .int .u64 (ofI l 1), .int .u64 (ofI l 2), .int .u64 (ofI l 3)])) (set_ret Try.results39 rfl (hz.set4 _ _ _ _)) rfl ⟨rfl, below_set4 hb (Nat.le_refl _) _ _ _ _⟩
set_option maxHeartbeats 1000000 in
theorem rof_c (A : Option Addr) (l : List Int) (cap : Nat) (w : World) (hl : Ints w A l) (hm : l.length ≤ maxLen) :
    Calls Try.prog 32 #[.slice A l.length cap] w fun e w' => e = .returned (.agg #[.int .u64 (ofI l 0), .int .u64 (ofI l 1), .int .u64 (ofI l 2), .int .u64 (ofI l 3)]) ∧ Below w.heap.size w w' := by
  unfold maxLen at hm
  go_enter Try.func32, Try.ntmps32
  go_wp2
  go_loopw [4] (fun i wr => ∃ k : Nat, k ≤ l.length ∧ i = .int .i64 k ∧ Quad wr w.heap.size 0 0 0 0 ∧
      Quad wr (w.heap.size + 1) (ofI (l.take k) 0) (ofI (l.take k) 1) (ofI (l.take k) 2) (ofI (l.take k) 3) ∧ Below w.heap.size w wr)
    (fun i _ => l.length - (intOf i).toNat)
  case atStart => exact ⟨0, Nat.zero_le _, rfl, (Quad.new _ _ _ _ _).alloc _, quad_second w, ((Below.refl _ _).alloc (Nat.le_refl _) _).alloc (by simp) _⟩
  case round =>
    obtain ⟨k, hk, rfl, hz, hs, hb⟩ := hrel
    obtain ⟨c0, c1, c2, c3, _⟩ := hs.facts
    have hsz := hs.lt
    by_cases hlt : k < l.length
    · obtain ⟨b, off, hA, hc, hbl⟩ := hl k hlt
      subst hA
      have hcr := (hb.cell (p := ⟨b, off + k, none⟩) hbl).trans hc
      have E : ∀ q, Hid (ofI (l.take (k + 1)) q = withI l[k] q (ofI (l.take k) q)) := fun q => ofI_take l k hlt q
      clear hc
      go_wp2
      go_region_with (go_at_call 46; refine (rwith_c _ _ _ _ _ _).mono ?_; rintro e w' ⟨rfl, hb'⟩; obtain ⟨d0, d1, d2, d3, f0, f1, f2, f3⟩ := (Quad.below (w := wr.drew) hs hb' hsz).facts)
      all_goals
        go_wp2
        go_roundw
        case rel =>
          refine ⟨k + 1, by omega, by go_num, (Quad.below (w := wr.drew) hz hb' hz.lt).far4 (by omega), ?_, below_set4 (hb.drew.trans (hb'.mono hb.size)) (by omega) _ _ _ _⟩
          rw [(E 0).out, (E 1).out, (E 2).out, (E 3).out]
          exact (Quad.below (w := wr.drew) hs hb' hsz).set4 _ _ _ _
        case measure => simp [intOf]; omega
    · obtain ⟨d0, d1, d2, d3, f0, f1, f2, f3⟩ := hz.facts
      obtain rfl : k = l.length := by omega
      rw [List.take_length] at c0 c1 c2 c3
      go_wp2
      exact bodyPost_ret (v := (.agg #[.int .u64 (ofI l 0), .int .u64 (ofI l 1), .int .u64 (ofI l 2), .int .u64 (ofI l 3)])) (set_ret Try.results32 rfl (hz.set4 _ _ _ _)) rfl ⟨rfl, below_set4 hb (Nat.le_refl _) _ _ _ _⟩
end Go.Proofs.Ytbkejoheefnmiaa
