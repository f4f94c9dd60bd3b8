/- A cache of a call's own, blocks beside it that stay: what its methods make of it. -/
import Derived.Test.YtbcbhgclgakljaaKco
namespace Go.Proofs.Ytbcbhgclgakljaa
open Go.RowKit Go.Maps Go.WideElems Go.WideShapes
structure At (w0 w : World) (G : Nat → Prop) (c n : Nat) (s : CS) : Prop where
  cf : ∃ F, CF w F c s ∧ (∀ k, F k → w0.heap.size ≤ k) ∧ ∀ k, G k → ¬ F k
  g : ∀ k, G k → k < w.heap.size
  b : Below w0.heap.size w0 w
  ok : OkC s
  sm : Sm n s
  sz : s.size ≤ 1024
def Stay (G : Nat → Prop) (w w' : World) : Prop := ∀ k, G k → w'.heap[k]? = w.heap[k]?
section
variable {w0 w w' : World} {G : Nat → Prop} {c n n' : Nat} {s s' : CS}
theorem Sm.mono (h : Sm n s) (hn : n ≤ n') : Sm n' s := ⟨⟨h.h.1, by have := h.h.2; omega⟩, ⟨h.m.1, by have := h.m.2; omega⟩, ⟨h.e.1, by have := h.e.2; omega⟩, ⟨h.r.1, by have := h.r.2; omega⟩⟩
theorem Sm.new (k : Int) : Sm 0 (newC k) := ⟨⟨Int.le_refl _, Int.le_refl _⟩, ⟨Int.le_refl _, Int.le_refl _⟩, ⟨Int.le_refl _, Int.le_refl _⟩, ⟨Int.le_refl _, Int.le_refl _⟩⟩
theorem At.len (h : At w0 w G c n s) : s.L.length ≤ 1024 := by have := h.ok.sz; have := h.sz; omega
theorem At.keep (h : At w0 w G c n s) (hb : Below w.heap.size w w') : At w0 w' G c n s := by
  obtain ⟨F, h1, h2, h3⟩ := h.cf
  exact ⟨⟨F, h1.keep hb, h2, h3⟩, fun k hk => Nat.lt_of_lt_of_le (h.g k hk) hb.size, h.b.trans (hb.mono h.b.size), h.ok, h.sm, h.sz⟩
theorem At.drop {G' : Nat → Prop} (h : At w0 w G c n s) (hg : ∀ k, G' k → G k) : At w0 w G' c n s := by
  obtain ⟨F, h1, h2, h3⟩ := h.cf
  exact ⟨⟨F, h1, h2, fun k hk => h3 k (hg k hk)⟩, fun k hk => h.g k (hg k hk), h.b, h.ok, h.sm, h.sz⟩
/-- what was made since is to stay, too -/
theorem At.more {w1 : World} {G' : Nat → Prop} (h : At w0 w1 G c n s) (hb : Below w1.heap.size w1 w) (hg : ∀ k, G' k → G k ∨ w1.heap.size ≤ k ∧ k < w.heap.size) : At w0 w G' c n s := by
  obtain ⟨F, h1, h2, h3⟩ := h.cf
  refine ⟨⟨F, h1.keep hb, h2, fun k hk e => ?_⟩, fun k hk => ?_, h.b.trans (hb.mono h.b.size), h.ok, h.sm, h.sz⟩
  · rcases hg k hk with h | h
    · exact h3 k h e
    · have := h1.lt k e; omega
  · rcases hg k hk with h4 | h4
    · exact Nat.lt_of_lt_of_le (h.g k h4) hb.size
    · exact h4.2
theorem At.to {F : Nat → Prop} (h : At w0 w G c n s) (h2 : ∀ k, F k → w0.heap.size ≤ k) (h3 : ∀ k, G k → ¬ F k) (ht : CTo w w' F c s') (ok : OkC s') (sm : Sm n' s') (sz : s'.size ≤ 1024) : At w0 w' G c n' s' ∧ Stay G w w' := by
  obtain ⟨⟨F', h1', h2'⟩, ha⟩ := ht
  have hb := h.b.size
  refine ⟨⟨⟨F', h1', fun k hk => ?_, fun k hk e => ?_⟩, fun k hk => Nat.lt_of_lt_of_le (h.g k hk) ha.size, h.b.trans (ha.below hb h2), ok, sm, sz⟩, fun k hk => ha.block k (h.g k hk) (h3 k hk)⟩
  · rcases h2' k hk with h | h
    · exact h2 k h
    · omega
  · rcases h2' k e with h' | h'
    · exact h3 k hk h'
    · have := h.g k hk; omega
theorem At.call {P : Program} {f : FuncId} {args : Array Value} {v : Value} (h : At w0 w G c n s) (hop : ∀ F, CF w F c s → Calls P f args w fun e w' => e = .returned v ∧ CTo w w' F c s') (ok : OkC s') (sm : Sm n' s') (sz : s'.size ≤ 1024) :
    Calls P f args w fun e w' => e = .returned v ∧ At w0 w' G c n' s' ∧ Stay G w w' := by
  obtain ⟨F, h1, h2, h3⟩ := h.cf
  refine (hop F h1).mono ?_
  rintro e w' ⟨rfl, ht⟩
  exact ⟨rfl, h.to h2 h3 ht ok sm sz⟩
theorem find_at (k : K3) (h : At w0 w G c n s) (hn : n ≤ 1000000) (wk : WK k) :
    Calls Try.prog 28 #[.pointer (some ⟨c, 0, none⟩), .int .i64 k.a, .int .i64 k.b, .int .i64 k.c] w fun e w' => e = .returned (.tuple #[valD (gotC s k), .bool (isC s k)]) ∧ At w0 w' G c (n + 1) (findC s k) ∧ Stay G w w' :=
  h.call (fun F hF => find_c k hF h.sm hn wk) (h.ok.find k) (by have := h.sm.op ⟨0, k, 0, 0⟩; exact this) (by have := doC_size (s := s) ⟨0, k, 0, 0⟩; have e : doC s ⟨0, k, 0, 0⟩ = findC s k := rfl; rw [e] at this; rw [this]; exact h.sz)
theorem Sm.ins (h : Sm n s) (k : K3) (d : Dc) : Sm (n + 1) (insC s k d) := by
  have w := h.mono (Nat.le_succ n)
  unfold insC putC
  split
  · exact w
  · split
    · exact ⟨w.h, w.m, ⟨by have := h.e.1; simp only; omega, by have := h.e.2; simp only; omega⟩, w.r⟩
    · exact ⟨w.h, w.m, w.e, w.r⟩
theorem insC_size (k : K3) (d : Dc) : (insC s k d).size = s.size := by
  unfold insC putC
  repeat' split
  all_goals rfl
theorem insert_at (k : K3) (d : Dc) (h : At w0 w G c n s) (hn : n ≤ 1000000) (wk : WK k) :
    Calls Try.prog 27 #[.pointer (some ⟨c, 0, none⟩), .int .i64 k.a, .int .i64 k.b, .int .i64 k.c, .agg #[.int .u32 d.al, .int .u32 d.aa, .int .u32 d.ad, .bool d.pm, .int .i64 d.sq]] w fun e w' => e = .returned (.int .i64 (staleE d.sq s.seq)) ∧ At w0 w' G c (n + 1) (insC s k d) ∧ Stay G w w' :=
  h.call (fun F hF => insert_c k d hF h.sm hn h.ok wk (by have := h.len; omega)) (h.ok.ins k d) (h.sm.ins k d) (by rw [insC_size]; exact h.sz)
theorem reset_at (m : Int) (h : At w0 w G c n s) (hn : n ≤ 1000000) :
    Calls Try.prog 31 #[.pointer (some ⟨c, 0, none⟩), .int .i64 m] w fun e w' => e = .returned (.int .i64 (staleE m s.seq)) ∧ At w0 w' G c (n + 1) (resC s m) ∧ Stay G w w' :=
  h.call (fun F hF => reset_c m hF h.sm hn) (h.ok.res m) (by have := h.sm.op ⟨2, K3.z, 0, m⟩; exact this) (by have := doC_size (s := s) ⟨2, K3.z, 0, m⟩; have e : doC s ⟨2, K3.z, 0, m⟩ = resC s m := rfl; rw [e] at this; rw [this]; exact h.sz)
theorem keys_at (h : At w0 w G c n s) : Calls Try.prog 29 #[.pointer (some ⟨c, 0, none⟩)] w fun e w' => ∃ v, e = .returned v ∧ Own RK w' w.heap.size v (keysK s.L) ∧ Below w.heap.size w w' := by
  obtain ⟨F, h1, _⟩ := h.cf
  exact ckeys_c h1 (by have := h.len; omega)
theorem stats_at (h : At w0 w G c n s) : Calls Try.prog 30 #[.pointer (some ⟨c, 0, none⟩)] w fun e w' => e = .returned (.tuple #[.int .i64 s.hits, .int .i64 s.misses, .int .i64 s.evicted, .int .i64 s.resets]) ∧ Below w.heap.size w w' := by
  obtain ⟨F, h1, _⟩ := h.cf
  exact stats_c h1
theorem seq_at (h : At w0 w G c n s) : Calls Try.prog 34 #[.pointer (some ⟨c, 0, none⟩)] w fun e w' => e = .returned (.int .i64 s.seq) ∧ w' = w := by
  obtain ⟨F, h1, _⟩ := h.cf
  exact seq_c h1
theorem len_at (h : At w0 w G c n s) : Calls Try.prog 33 #[.pointer (some ⟨c, 0, none⟩)] w fun e w' => e = .returned (.int .i64 s.L.length) ∧ w' = w := by
  obtain ⟨F, h1, _⟩ := h.cf
  exact clen_c h1
theorem new_at (k : Int) (w : World) (h1 : 1 ≤ k) (h2 : k ≤ 1024) : Calls Try.prog 10 #[.int .i64 k] w fun e w' => ∃ c, e = .returned (.pointer (some ⟨c, 0, none⟩)) ∧ At w w' (fun _ => False) c 0 (newC k) := by
  refine (new_c k w h1 h2).mono ?_
  rintro e w' ⟨c, rfl, hc, hb⟩
  exact ⟨c, rfl, ⟨_, hc, fun k hk => hk.1, fun _ h => h.elim⟩, fun _ h => h.elim, hb, OkC.new h1, Sm.new k, h2⟩
theorem Stay.blk {g : Nat} {t : TypeId} {cs : Array Value} (h : Stay G w w') (hg : G g) (hb : Blk w g t cs) : Blk w' g t cs := (h g hg).trans hb
end
end Go.Proofs.Ytbcbhgclgakljaa
