/- Rows of values of several cells, of any type: what a call owns, what can be read, what is appended; != of pointers. -/
import Derived.Test.YtbcbhgclgakljaaKcf
import Derived.Deep.AppendLies
import Derived.Laws.AppendOwnNone
import Derived.OwnWalk
namespace Go.Proofs.Ytbcbhgclgakljaa
open Go.RowKit Go.Maps
structure RowT (α : Type) where
  te : TypeId
  ts : TypeId
  c : α → List Value
  sz : Nat
  by' : Nat
  z : Value
  len : ∀ x, (c x).length = sz
  pos : 0 < sz
  one : ∀ x, ∀ u ∈ c x, u.oneCell' = true
  und : Try.prog.underlying ts = some (.slice te)
  info : (Try.prog.info? te).map (fun i => (i.zero, i.size, i.bytes)) = some (some z, sz, by')
  zc : z.cells.size = sz
  small : by' ≤ 64
section
variable {α : Type} (R : RowT α)
def Own (w : World) (B : Nat) (v : Value) (L : List α) : Prop := w.ownsRow B R.te R.sz v L.length (L.flatMap R.c)
structure Rows' (w : World) (v : Value) (L : List α) : Prop where
  form : ∃ ao cap, v = .slice ao L.length cap ∧ L.length ≤ cap ∧ (L ≠ [] → ∃ g o, ao = some ⟨g, o, none⟩ ∧ g < w.heap.size ∧ ∀ i x, L[i]? = some x → ∀ k u, (R.c x)[k]? = some u → w.cell? ⟨g, o + i * R.sz + k, none⟩ = some u)
theorem fmR_len (L : List α) : (L.flatMap R.c).length = L.length * R.sz := by
  induction L with
  | nil => simp
  | cons x r ih => rw [List.flatMap_cons, List.length_append, ih, R.len, List.length_cons, Nat.add_mul]; omega
theorem fmR_get : ∀ (L : List α) (i k : Nat) (x : α), L[i]? = some x → k < R.sz → (L.flatMap R.c)[i * R.sz + k]? = (R.c x)[k]?
  | [], i, k, x, h, _ => by simp at h
  | y :: r, 0, k, x, h, hk => by
    obtain rfl : y = x := by simpa using h
    rw [List.flatMap_cons, List.getElem?_append_left (by rw [R.len]; omega)]
    congr 1; omega
  | y :: r, i + 1, k, x, h, hk => by
    have h' : r[i]? = some x := by simpa using h
    have e : (i + 1) * R.sz + k - R.sz = i * R.sz + k := by rw [Nat.add_mul]; omega
    have e2 : R.sz ≤ (i + 1) * R.sz + k := by rw [Nat.add_mul]; omega
    rw [List.flatMap_cons, List.getElem?_append_right (by rw [R.len]; exact e2), R.len, e]
    exact fmR_get r i k x h' hk
end
section
variable {α : Type} {R : RowT α} {w w' : World} {B : Nat} {v : Value} {L : List α}
theorem Own.nil (w : World) (B : Nat) : Own R w B (.slice none 0 0) [] := World.ownsRow_nil _ _ _ _
theorem Own.form (h : Own R w B v L) :
    (v = .slice none 0 0 ∧ L = []) ∨ ∃ g cap cur, v = .slice (some ⟨g, 0, none⟩) L.length cap ∧ B ≤ g ∧ w.heap[g]? = some (.cells cur R.te (0, 0)) ∧ L.length ≤ cap ∧ cap ≤ maxLen ∧ cur.size = cap * R.sz ∧ ∀ i x, L[i]? = some x → ∀ k, k < R.sz → cur[i * R.sz + k]? = (R.c x)[k]? := by
  rcases h.2 with ⟨h1, h2⟩ | ⟨g, cap, cur, h1, h2, h3, h4, h5, h6, h7⟩
  · exact .inl ⟨h1, List.eq_nil_of_length_eq_zero h2⟩
  · refine .inr ⟨g, cap, cur, h1, h2, h3, h4, h5, h6, fun i x hx k hk => ?_⟩
    rw [← fmR_get R L i k x hx hk, ← h7, List.getElem?_take]
    have hi : i < L.length := (List.getElem?_eq_some_iff.1 hx).1
    have : i * R.sz + k < L.length * R.sz := by
      have h1 : (i + 1) * R.sz ≤ L.length * R.sz := Nat.mul_le_mul_right _ hi
      rw [Nat.add_mul] at h1
      omega
    rw [if_pos this]
    simp
theorem Own.isSl (h : Own R w B v L) : ∃ ao cap, v = .slice ao L.length cap := by
  rcases h.form with ⟨rfl, rfl⟩ | ⟨g, cap, cur, rfl, _⟩
  · exact ⟨_, _, rfl⟩
  · exact ⟨_, _, rfl⟩
theorem Own.rows (h : Own R w B v L) : Rows' R w v L := by
  rcases h.form with ⟨rfl, rfl⟩ | ⟨g, cap, cur, rfl, _, hg, h4, _, _, h7⟩
  · exact ⟨⟨none, 0, rfl, Nat.le_refl _, fun h => absurd rfl h⟩⟩
  · refine ⟨⟨_, cap, rfl, h4, fun _ => ⟨g, 0, rfl, Blk.lt (show Blk w g _ cur from hg), fun i x hx k u hu => ?_⟩⟩⟩
    rw [cell_of_row w g _ cur _ (0, 0) hg, Nat.zero_add]
    have hk : k < R.sz := by rw [← R.len x]; exact (List.getElem?_eq_some_iff.1 hu).1
    rw [h7 i x hx k hk, hu]
theorem Own.kept {row : Option Nat} (h : Own R w B v L) (hg : w.grownBy w' row) (hne : v.ownBlock = none ∨ v.ownBlock ≠ row) : Own R w' B v L := World.ownsRow.kept h hg hne
theorem Own.below (h : Own R w B v L) (hb : Below w.heap.size w w') : Own R w' B v L :=
  World.ownsRow.kept (row := none) h ⟨hb.os, hb.tape, hb.output, hb.size, fun k hk _ => hb.block k hk⟩ (by cases v.ownBlock <;> simp)
theorem Own.base {B' : Nat} (h : Own R w B v L) (hb : B' ≤ B) : Own R w B' v L := by
  refine ⟨h.1, ?_⟩
  rcases h.2 with hn | ⟨g, cap, cur, hv, hbg, rest⟩
  · exact .inl hn
  · exact .inr ⟨g, cap, cur, hv, Nat.le_trans hb hbg, rest⟩
theorem Own.lt (h : Own R w B v L) : ∀ g, v.ownBlock = some g → B ≤ g ∧ g < w.heap.size := fun g hg => World.ownsRow.lt h g hg
theorem Rows'.apart {F : Nat → Prop} (h : Rows' R w v L) (hb : Apart F w w') (hF : ∀ ao n cap g o, v = .slice ao n cap → ao = some ⟨g, o, none⟩ → L ≠ [] → ¬ F g) : Rows' R w' v L := by
  obtain ⟨ao, cap, rfl, hc, hr⟩ := h.form
  refine ⟨⟨ao, cap, rfl, hc, fun hne => ?_⟩⟩
  obtain ⟨g, o, rfl, hg, hR⟩ := hr hne
  exact ⟨g, o, rfl, Nat.lt_of_lt_of_le hg hb.size, fun i x hx k u hu => (World.cell?_of_block (hb.block g hg (hF _ _ _ g o rfl rfl hne))).trans (hR i x hx k u hu)⟩
theorem Rows'.below (h : Rows' R w v L) (hb : Below w.heap.size w w') : Rows' R w' v L := h.apart (F := fun _ => False) (Apart.of hb) (fun _ _ _ _ _ _ _ _ h => h)
/-- appending one -/
theorem wpList_append_one (R : RowT α) {w : World} {ops : Array Oper} {rest : List Oper} {o : Oper} {a : Act} {Q : Exit → Act → World → Prop} (hgd : o.guard = none) (s x : Operand)
    (ho : o.op = .call { callee := .builtin .append, args := #[s, x], argTypes := #[R.ts, R.ts] }) (B : Nat) (v : Value) (L : List α) (N : Nat) (hN : L.length = N) (hs : a.eval s = v) (hown : Own R w B v L)
    (g : Nat) (y : α) (hx : a.eval x = .slice (some ⟨g, 0, none⟩) 1 1) (hy : w.heap[g]? = some (.cells (R.c y).toArray R.te (0, 0))) (hl : N ≤ 1000000) (hb : B ≤ w.heap.size)
    (h : ∀ g' cap w', Own R w' B (.slice (some ⟨g', 0, none⟩) (N + 1) cap) (L ++ [y]) → w.grownBy w' v.ownBlock → (v.ownBlock = some g' ∨ g' = w.heap.size) → wpList Try.prog ops Q rest (a.put o.dst (.slice (some ⟨g', 0, none⟩) (N + 1) cap)) w') :
    wpList Try.prog ops Q (o :: rest) a w := by
  subst hN
  obtain ⟨i0, hinf, hz0, hz1, hz2⟩ := info_parts R.info
  have hby := R.small
  refine wpList_append_lies w hgd s x R.ts ho B R.te i0 R.z R.sz R.by' R.und hinf hz0 hz1 hz2 R.zc R.pos v L.length (L.flatMap R.c) hs hown ⟨g, 0, none⟩ 1 1 (R.c y) hx (by rw [R.len, Nat.one_mul])
    (fun j u hu => by have := World.news_of_block (cs := (R.c y).toArray) hy j u; exact this (by simpa using hu)) (R.one y) (by decide) (by unfold maxLen; omega) (by
      have : (L.length + 1) * R.by' ≤ (L.length + 1) * 64 := Nat.mul_le_mul_left _ hby
      omega) hb _ rfl ?_
  intro g' cap w' h1 h2 h3 _
  refine h g' cap w' ?_ h2 h3
  unfold Own
  rw [List.length_append, List.flatMap_append]
  simpa using h1
end
def cellsK (k : K3) : List Value := [.int .i64 k.a, .int .i64 k.b, .int .i64 k.c]
def cellsD (d : Dc) : List Value := [.int .u32 d.al, .int .u32 d.aa, .int .u32 d.ad, .bool d.pm, .int .i64 d.sq]
def RK : RowT K3 := ⟨84, 26, cellsK, 3, 24, .agg #[.int .i64 0, .int .i64 0, .int .i64 0], fun _ => rfl, by decide, (by intro x u hu; simp only [cellsK, List.mem_cons, List.not_mem_nil, or_false] at hu; rcases hu with rfl | rfl | rfl <;> rfl), Try.underlying26, by kernel_rfl, rfl, by decide⟩
def RD : RowT Dc := ⟨39, 27, cellsD, 5, 24, .agg #[.int .u32 0, .int .u32 0, .int .u32 0, .bool false, .int .i64 0], fun _ => rfl, by decide, (by intro x u hu; simp only [cellsD, List.mem_cons, List.not_mem_nil, or_false] at hu; rcases hu with rfl | rfl | rfl | rfl | rfl <;> rfl), Try.underlying27, by kernel_rfl, rfl, by decide⟩
section
variable {P : Program} (w : World)
theorem run_neq_ptr_same {tp te : TypeId} {j : TypeInfo} (a : Addr) (hp : P.underlying tp = some (.pointer te)) (hte : P.info? te = some j) :
    (binOp .neq tp (.pointer (some a)) (.pointer (some a))).run P w = .ok (.bool false) w := by
  have h : ∀ d : Nat, (Op.equalIn (d + 1) tp (.pointer (some a)) (.pointer (some a))).run P w = .ok true w := fun d => by
    simp [Op.equalIn, run_underlying hp, sizeOf, typeInfo, hte, run_sameAddr_same]
  simp only [binOp]
  simp [Op.equal, Op.maxDepth, h 9999]
theorem run_neq_ptr_other {tp te : TypeId} {j : TypeInfo} {a b : Addr} {ca cb : Array Value} {ta tb : TypeId} (hp : P.underlying tp = some (.pointer te)) (hte : P.info? te = some j) (hsz : j.size ≠ 0)
    (hne : a ≠ b) (ha : w.heap[a.block]? = some (.cells ca ta (0, 0))) (hb : w.heap[b.block]? = some (.cells cb tb (0, 0))) :
    (binOp .neq tp (.pointer (some a)) (.pointer (some b))).run P w = .ok (.bool true) w := by
  have h : ∀ d : Nat, (Op.equalIn (d + 1) tp (.pointer (some a)) (.pointer (some b))).run P w = .ok false w := fun d => by
    simp [Op.equalIn, run_underlying hp, sizeOf, typeInfo, hte, hsz, run_sameAddr_other w hne ha hb]
  simp only [binOp]
  simp [Op.equal, Op.maxDepth, h 9999]
end
set_option maxRecDepth 100000 in
theorem infoLink : ∃ j, Try.prog.info? 107 = some j ∧ j.size ≠ 0 := by
  have h : ((Try.prog.info? 107).map (fun j => j.size)) = some 10 := by kernel_rfl
  obtain ⟨j, hj, e⟩ := Option.map_eq_some_iff.1 h
  exact ⟨j, hj, by omega⟩
theorem neqLink_same (g : Nat) (w : World) : (binOp .neq 105 (.pointer (some ⟨g, 0, none⟩)) (.pointer (some ⟨g, 0, none⟩))).run Try.prog w = .ok (.bool false) w := by
  obtain ⟨j, hj, _⟩ := infoLink
  exact run_neq_ptr_same w _ Try.underlying105 hj
theorem neqLink_other {g g' : Nat} {cs cs' : Array Value} {w : World} (h : Blk w g 107 cs) (h' : Blk w g' 107 cs') (hne : g ≠ g') : (binOp .neq 105 (.pointer (some ⟨g, 0, none⟩)) (.pointer (some ⟨g', 0, none⟩))).run Try.prog w = .ok (.bool true) w := by
  obtain ⟨j, hj, h0⟩ := infoLink
  exact run_neq_ptr_other w Try.underlying105 hj h0 (fun e => hne (congrArg Addr.block e)) h h'
end Go.Proofs.Ytbcbhgclgakljaa
