/- Part of the proof: Xxa Cxb Ph Pht Phg Phh. No conditions. -/
import Derived.Test.YtbhoofihnmmmfabGreatYaa
import Derived.StillTail
import Derived.Deep.DeepCutAuto
namespace Go.Proofs.YtbhoofihnmmmfabGreat
open Go.RowKit
def I64 (x : Int) : Prop := -9223372036854775808 ≤ x ∧ x ≤ 9223372036854775807
def U32 (x : Int) : Prop := 0 ≤ x ∧ x ≤ 4294967295
def TxW (l : List ByteArray) : Prop := ∀ s ∈ l, s.size ≤ 9223372036854775807
inductive X where
 | mk (op a r b : Int) (ns : List ByteArray) (st : S4) (ks : List X)
def X.op : X → Int | .mk o _ _ _ _ _ _ => o
def X.a : X → Int | .mk _ a _ _ _ _ _ => a
def X.r : X → Int | .mk _ _ r _ _ _ _ => r
def X.b : X → Int | .mk _ _ _ b _ _ _ => b
def X.ns : X → List ByteArray | .mk _ _ _ _ n _ _ => n
def X.st : X → S4 | .mk _ _ _ _ _ s _ => s
def X.ks : X → List X | .mk _ _ _ _ _ _ k => k
/-- a slice of elements of sz cells, each of which reads as C says -/
def SlR {α : Type} (sz : Nat) (C : World → Nat → Nat → α → Prop) (w : World) (v : Value) (L : List α) : Prop :=
 ∃ ao cap, v = .slice ao L.length cap ∧ L.length ≤ cap ∧ (L ≠ [] → ∃ g o, ao = some ⟨g, o, none⟩ ∧ g < w.heap.size ∧ ∀ i (h : i < L.length), C w g (o + i * sz) L[i])
theorem SlR.keep {α : Type} {sz : Nat} {C : World → Nat → Nat → α → Prop} {w w' : World} (hC : ∀ {g o : Nat} {x : α}, g < w.heap.size → C w g o x → C w' g o x) {v : Value} {L : List α} (h : SlR sz C w v L) (hb : Below w.heap.size w w') : SlR sz C w' v L := by
 obtain ⟨ao, cap, rfl, hc, hr⟩ := h
 refine ⟨ao, cap, rfl, hc, fun hl => ?_⟩
 obtain ⟨g, o, rfl, hg, hR⟩ := hr hl
 exact ⟨g, o, rfl, Nat.lt_of_lt_of_le hg hb.size, fun i hi => hC hg (hR i hi)⟩
theorem SlR.nil {α : Type} {sz : Nat} {C : World → Nat → Nat → α → Prop} {w : World} : SlR sz C w (.slice none 0 0) [] := ⟨none, 0, rfl, Nat.le_refl _, fun h => absurd rfl h⟩
theorem SlR.form {α : Type} {sz : Nat} {C : World → Nat → Nat → α → Prop} {w : World} {v : Value} {L : List α} (h : SlR sz C w v L) : ∃ ao cap, v = .slice ao L.length cap := by
 obtain ⟨ao, cap, rfl, _⟩ := h
 exact ⟨ao, cap, rfl⟩
/-- the elements' place -/
theorem SlR.row {α : Type} {sz : Nat} {C : World → Nat → Nat → α → Prop} {w : World} {ao : Option Addr} {n cap : Nat} {L : List α} (h : SlR sz C w (.slice ao n cap) L) {i : Nat} (hi : i < L.length) :
 ∃ g o, ao = some ⟨g, o, none⟩ ∧ g < w.heap.size ∧ ∀ i (h : i < L.length), C w g (o + i * sz) L[i] := by
 obtain ⟨ao', cap', e, _, hr⟩ := h
 simp only [Value.slice.injEq] at e
 obtain ⟨rfl, _, _⟩ := e
 exact hr (fun e => by subst e; exact absurd hi (by simp))
/-- what is known of a node by itself -/
structure XW (op a r b : Int) (ns : List ByteArray) (st : S4) (nk : Nat) : Prop where
 op : I64 op
 a : I64 a
 r : I64 r
 b : I64 b
 tx : TxW ns
 st : U64 st.a ∧ U64 st.b ∧ U64 st.c ∧ U64 st.d
 nn : ns.length ≤ maxLen
 nk : nk ≤ maxLen
mutual
def XAt (w : World) : Nat → Nat → X → Prop
 | g, o, .mk op a r b ns st ks => w.cell? ⟨g, o, none⟩ = some (.int .i64 op) ∧ w.cell? ⟨g, o + 1, none⟩ = some (.int .i64 a) ∧ w.cell? ⟨g, o + 2, none⟩ = some (.int .i64 r) ∧ w.cell? ⟨g, o + 3, none⟩ = some (.int .i64 b) ∧
   (∃ va, w.cell? ⟨g, o + 4, none⟩ = some va ∧ Strs w va ns) ∧ w.cell? ⟨g, o + 5, none⟩ = some (.int .u64 st.a) ∧ w.cell? ⟨g, o + 6, none⟩ = some (.int .u64 st.b) ∧ w.cell? ⟨g, o + 7, none⟩ = some (.int .u64 st.c) ∧ w.cell? ⟨g, o + 8, none⟩ = some (.int .u64 st.d) ∧
   (∃ ao cap, w.cell? ⟨g, o + 9, none⟩ = some (.slice ao ks.length cap) ∧ ks.length ≤ cap ∧ (ks ≠ [] → ∃ g' o', ao = some ⟨g', o', none⟩ ∧ g' < w.heap.size ∧ XRow w g' o' ks)) ∧
   XW op a r b ns st ks.length
def XRow (w : World) : Nat → Nat → List X → Prop
 | _, _, [] => True
 | g, o, k :: r => XAt w g o k ∧ XRow w g (o + 10) r
end
theorem XRow_at {w : World} : ∀ {g o : Nat} {ks : List X}, XRow w g o ks → ∀ i (h : i < ks.length), XAt w g (o + i * 10) ks[i]
 | g, o, [], _, i, hi => absurd hi (by simp)
 | g, o, k :: r, h, 0, _ => by
   unfold XRow at h
   simpa using h.1
 | g, o, k :: r, h, i + 1, hi => by
   unfold XRow at h
   have := XRow_at h.2 i (by simpa using hi)
   rw [show o + (i + 1) * 10 = o + 10 + i * 10 by omega]
   simpa using this
theorem XRow_of {w : World} : ∀ {g o : Nat} {ks : List X}, (∀ i (h : i < ks.length), XAt w g (o + i * 10) ks[i]) → XRow w g o ks
 | g, o, [], _ => by unfold XRow; trivial
 | g, o, k :: r, h => by
   unfold XRow
   refine ⟨?_, XRow_of fun i hi => ?_⟩
   · have h0 := h 0 (by simp)
     rw [Nat.zero_mul, Nat.add_zero] at h0
     exact h0
   · have := h (i + 1) (by simpa using hi)
     rw [show o + (i + 1) * 10 = o + 10 + i * 10 by omega] at this
     exact this
/-- what an expression's cells say -/
theorem XAt.facts {w : World} {g o : Nat} {x : X} (h : XAt w g o x) : w.cell? ⟨g, o, none⟩ = some (.int .i64 x.op) ∧ w.cell? ⟨g, o + 1, none⟩ = some (.int .i64 x.a) ∧ w.cell? ⟨g, o + 2, none⟩ = some (.int .i64 x.r) ∧ w.cell? ⟨g, o + 3, none⟩ = some (.int .i64 x.b) ∧
 (∃ va, w.cell? ⟨g, o + 4, none⟩ = some va ∧ Strs w va x.ns) ∧ w.cell? ⟨g, o + 5, none⟩ = some (.int .u64 x.st.a) ∧ w.cell? ⟨g, o + 6, none⟩ = some (.int .u64 x.st.b) ∧ w.cell? ⟨g, o + 7, none⟩ = some (.int .u64 x.st.c) ∧ w.cell? ⟨g, o + 8, none⟩ = some (.int .u64 x.st.d) ∧
 (∃ vk, w.cell? ⟨g, o + 9, none⟩ = some vk ∧ SlR 10 XAt w vk x.ks) ∧ XW x.op x.a x.r x.b x.ns x.st x.ks.length := by
 obtain ⟨op, a, r, b, ns, st, ks⟩ := x
 unfold XAt at h
 obtain ⟨h0, h1, h2, h3, h4, h5, h6, h7, h8, ⟨ao, cap, h9, hc, hr⟩, hw⟩ := h
 exact ⟨h0, h1, h2, h3, h4, h5, h6, h7, h8, ⟨_, h9, ao, cap, rfl, hc, fun hl => by
  obtain ⟨g', o', e, hg, hR⟩ := hr hl
  exact ⟨g', o', e, hg, XRow_at hR⟩⟩, hw⟩
mutual
theorem XAt.keep {w w' : World} (hb : Below w.heap.size w w') : ∀ {g o : Nat} {x : X}, g < w.heap.size → XAt w g o x → XAt w' g o x
 | g, o, .mk op a r b ns st ks, hg, h => by
   unfold XAt at h ⊢
   obtain ⟨h0, h1, h2, h3, ⟨va, h4, h4'⟩, h5, h6, h7, h8, ⟨ao, cap, h9, hc, hr⟩, hw⟩ := h
   have e : ∀ k, w'.cell? ⟨g, k, none⟩ = w.cell? ⟨g, k, none⟩ := fun k => hb.cell (p := ⟨g, k, none⟩) hg
   refine ⟨(e _).trans h0, (e _).trans h1, (e _).trans h2, (e _).trans h3, ⟨va, (e _).trans h4, h4'.keep hb⟩, (e _).trans h5, (e _).trans h6, (e _).trans h7, (e _).trans h8, ⟨ao, cap, (e _).trans h9, hc, fun hl => ?_⟩, hw⟩
   obtain ⟨g', o', e', hg', hR⟩ := hr hl
   exact ⟨g', o', e', Nat.lt_of_lt_of_le hg' hb.size, XRow.keep hb hg' hR⟩
theorem XRow.keep {w w' : World} (hb : Below w.heap.size w w') : ∀ {g o : Nat} {ks : List X}, g < w.heap.size → XRow w g o ks → XRow w' g o ks
 | _, _, [], _, _ => by unfold XRow; trivial
 | g, o, k :: r, hg, h => by
   unfold XRow at h ⊢
   exact ⟨XAt.keep hb hg h.1, XRow.keep hb hg h.2⟩
end
open Go.RowKit
structure Lv where
 s : Int
 c : Nat
 wf : c < 18446744073709551616
deriving DecidableEq
structure Cx where
 u : Int
 ro : Int
 ty : Int
 lo : Lv
 hi : Lv
structure Ca where
 c1 : Cx
 c2 : Cx
 c3 : Cx
def isz (s : S4) : Bool := same4 s.a s.b s.c s.d 0 0 0 0
def hasF (a r b : Int) (n : Nat) (s : S4) : Bool := !(a == 0) || (!(r == 0) || (!(b == 0) || (decide (0 < n) || !isz s)))
def sortA (a : Int) : Int := if 3 < a.tmod 5 then 3 else a.tmod 5
def cmpE (n a r b : Int) : Int := if a < 0 ∨ n ≤ a ∨ b < 0 ∨ n ≤ b ∨ r < 0 ∨ 4 < r then 3 else if sortA a ≠ sortA b ∨ (sortA a ≠ 3 ∧ 1 < r) then 13 else 0
def memE (n a : Int) : Int := if a < 0 ∨ n ≤ a then 3 else if sortA a = 3 then 13 else 0
/-- the error of an operator -/
def operE (n op a r b : Int) (nn : Nat) (s : S4) (m : Nat) : Int :=
 if op = 2 then (if m ≠ 1 ∨ hasF a r b nn s = true then 2 else 0)
 else if op = 3 ∨ op = 4 then (if m ≠ 2 ∨ hasF a r b nn s = true then 2 else 0)
 else if op = 8 then (if m ≠ 0 ∨ hasF 0 0 0 nn s = true then 2 else cmpE n a r b)
 else if op = 9 then (if m ≠ 0 ∨ hasF 0 r b nn S4.zero = true then 2 else memE n a)
 else 2
def opE (n : Int) (x : X) : Int := operE n x.op x.a x.r x.b x.ns.length x.st x.ks.length
/-- more than n levels -/
def more : Nat → X → Bool
 | 0, _ => true
 | n + 1, x => x.ks.any (more n)
def feL (F : X → Int) : List X → Int
 | [] => 0
 | k :: r => if F k ≠ 0 then F k else feL F r
/-- the first error -/
def fe (E : X → Int) : Nat → X → Int
 | 0, _ => 0
 | n + 1, x => if E x ≠ 0 then E x else feL (fe E n) x.ks
open Go.RowKit Go
section
variable {P : Program} {ops : Array Oper} {n : Nat} {W : World} {a0 : Act} {Φ : Nat → Value → World → Prop} {Q : Exit → Act → World → Prop}
/-- what an operation's run leaves: a value with the property, and all that was there as it was -/
def GivesR (P : Program) (w : World) (φ : Value → World → Prop) : Result Next → Prop
 | .ok (.value u) w' => Below w.heap.size w w' ∧ φ u w'
 | .ok .skip w' => Below w.heap.size w w' ∧ φ undef w'
 | .ok (.enter f args) w' => w' = w ∧ Calls P f args w fun e w'' => ∃ v, e = .returned v ∧ Below w.heap.size w w'' ∧ φ v w''
 | _ => False
def Gives (P : Program) (o : Oper) (A : Act) (w : World) (φ : Value → World → Prop) : Prop := GivesR P w φ ((execOp A.eval o).run P w)
theorem Gives.wp {o : Oper} {a : Act} {w : World} {φ : Value → World → Prop} {K : Act → World → Prop} (h : Gives P o a w φ) (hk : ∀ u w', Below w.heap.size w w' → φ u w' → K (a.put o.dst u) w') : o.wp P a w K Q := by
 unfold Gives at h
 unfold Oper.wp
 generalize (execOp a.eval o).run P w = r at *
 cases r with
 | ok nx w' =>
   cases nx <;> simp only [GivesR] at h <;> simp only [Oper.upon]
   case value u => exact hk _ _ h.1 h.2
   case skip => exact hk _ _ h.1 h.2
   case enter f args =>
    obtain ⟨e1, hc⟩ := h
    rw [e1]
    exact hc.mono fun e w'' ⟨v, he, hb, hv⟩ => by subst he; exact hk _ _ hb hv
 | halt x w' => simp only [GivesR] at h
/-- which operation of the head writes a slot -/
def srcOf (ops : Array Oper) (n : Nat) (t : Nat) : Option Nat := (List.range n).find? fun j => match ops[j]? with | some o => o.dst == some t | none => false
def waitsOn (o : Oper) (j : Nat) : Bool := o.after.any fun e => Region.binds .any e && e.on == j
/-- what is known of a slot when an operation runs -/
def factAt (ops : Array Oper) (n : Nat) (Φ : Nat → Value → World → Prop) (a0 : Act) (o : Oper) (A : Act) (w : World) (t : Nat) : Prop :=
 match srcOf ops n t with
 | none => A.eval (.tmp t) = a0.eval (.tmp t)
 | some j => waitsOn o j = true → Φ j (A.eval (.tmp t)) w
/-- what is known of a slot behind the head -/
def factEnd (ops : Array Oper) (n : Nat) (Φ : Nat → Value → World → Prop) (a0 : Act) (A : Act) (w : World) (t : Nat) : Prop :=
 match srcOf ops n t with
 | none => A.eval (.tmp t) = a0.eval (.tmp t)
 | some j => Φ j (A.eval (.tmp t)) w
def phiB (ops : Array Oper) (n N : Nat) : Bool :=
 (List.range n).all fun i => match ops[i]? with
 | some o => (o.after.all fun e => !Region.binds .any e || decide (e.on < i)) && (match o.dst with | some t => decide (t < N) && (srcOf ops n t == some i) | none => true) &&
    (match o.guard with | none => true | some (j, _) => decide (j < n) && waitsOn o j && (match ops[j]? with | some oj => oj.dst.isSome | none => false))
 | none => false
/-- what is to be shown of an operation -/
def obOf (P : Program) (ops : Array Oper) (n : Nat) (W : World) (a0 : Act) (Φ : Nat → Value → World → Prop) (i : Nat) (o : Oper) : Prop :=
 (match o.guard with | none => True | some (j, b) => ∀ v w, Φ j v w → v = .bool b) ∧ ∀ A w, Kp W w → (∀ t, factAt ops n Φ a0 o A w t) → Gives P o A w (Φ i)
structure PhInv (ops : Array Oper) (n : Nat) (W : World) (a0 : Act) (Φ : Nat → Value → World → Prop) (listed : Array Bool) (a : Act) (w : World) : Prop where
 kp : Kp W w
 size : a.tmps.size = a0.tmps.size
 defers : a.defers = a0.defers
 out : ∀ t, srcOf ops n t = none → a.eval (.tmp t) = a0.eval (.tmp t)
 phi : ∀ j oj t, j < n → ops[j]? = some oj → oj.dst = some t → listed.getD j false = true → Φ j (a.eval (.tmp t)) w
def cntU (n : Nat) (listed : Array Bool) : Nat := (List.range n).countP fun i => !listed.getD i true
theorem cnt_step (p q : Nat → Bool) (i : Nat) (hp : p i = true) (hq : q i = false) (h : ∀ j, j ≠ i → q j = p j) : ∀ N, i < N → (List.range N).countP q + 1 = (List.range N).countP p
 | 0, hi => absurd hi (by omega)
 | N + 1, hi => by
   rw [List.range_succ, List.countP_append, List.countP_append, List.countP_singleton, List.countP_singleton]
   by_cases e : i = N
   · subst e
     rw [hp, hq]
     have : (List.range i).countP q = (List.range i).countP p := List.countP_congr fun j hj => by
      rw [h j (by have := List.mem_range.1 hj; omega)]
     simp [this]
   · have ih := cnt_step p q i hp hq h N (by omega)
     rw [h N (fun e' => e e'.symm)]
     omega
theorem least {p : Nat → Prop} : ∀ (k : Nat), p k → ∃ i, i ≤ k ∧ p i ∧ ∀ j, j < i → ¬ p j := fun k => by
 induction k using Nat.strongRecOn with
 | _ k ih =>
   intro hk
   by_cases h : ∃ j, j < k ∧ p j
   · obtain ⟨j, hj, hpj⟩ := h
     obtain ⟨i, hi, hpi, hm⟩ := ih j hj hpj
     exact ⟨i, by omega, hpi, hm⟩
   · exact ⟨k, Nat.le_refl _, hk, fun j hj hpj => h ⟨j, hj, hpj⟩⟩
theorem phiB_at {N i : Nat} (h : phiB ops n N = true) (hi : i < n) : ∃ o, ops[i]? = some o ∧ (∀ e ∈ o.after, Region.binds .any e = true → e.on < i) ∧ (∀ t, o.dst = some t → t < N ∧ srcOf ops n t = some i) ∧ (∀ j b, o.guard = some (j, b) → j < n ∧ waitsOn o j = true ∧ ∃ oj t, ops[j]? = some oj ∧ oj.dst = some t) := by
 have h1 := List.all_eq_true.1 h i (List.mem_range.2 hi)
 cases ho : ops[i]? with
 | none => rw [ho] at h1; cases h1
 | some o =>
   rw [ho] at h1
   simp only [Bool.and_eq_true] at h1
   obtain ⟨⟨h2, h3⟩, h4⟩ := h1
   refine ⟨o, rfl, fun e he hb => ?_, fun t ht => ?_, fun j b hg => ?_⟩
   · have := Array.all_eq_true'.1 h2 e he
     simpa [hb] using this
   · rw [ht] at h3
     simpa using h3
   · rw [hg] at h4
     simp only [Bool.and_eq_true, decide_eq_true_eq] at h4
     obtain ⟨⟨h5, h6⟩, h7⟩ := h4
     refine ⟨h5, h6, ?_⟩
     cases hj : ops[j]? with
     | none => rw [hj] at h7; cases h7
     | some oj =>
       rw [hj] at h7
       exact ⟨oj, oj.dst.get h7, rfl, by simp⟩
theorem waitsOn_spec {o : Oper} {j : Nat} (h : waitsOn o j = true) : ∃ e ∈ o.after, Region.binds .any e = true ∧ e.on = j := by
 obtain ⟨e, he, hb⟩ := Array.any_eq_true'.1 h
 simp only [Bool.and_eq_true, beq_iff_eq] at hb
 exact ⟨e, he, hb.1, hb.2⟩
theorem srcOf_some {t j : Nat} (h : srcOf ops n t = some j) : j < n ∧ ∃ o, ops[j]? = some o ∧ o.dst = some t := by
 unfold srcOf at h
 have h1 := List.mem_of_find?_eq_some h
 have h2 := List.find?_some h
 refine ⟨List.mem_range.1 h1, ?_⟩
 cases ho : ops[j]? with
 | none => rw [ho] at h2; cases h2
 | some o => rw [ho] at h2; exact ⟨o, rfl, by simpa using h2⟩
theorem eval_same {a : Act} {t : Nat} {v : Value} (h : t < a.tmps.size) : (a.put (some t) v).eval (.tmp t) = v := by
 simp [Act.eval, Act.put, h]
theorem put_size (a : Act) (d : Option Tmp) (v : Value) : (a.put d v).tmps.size = a.tmps.size := by
 cases d <;> simp [Act.put]
theorem put_def (a : Act) (d : Option Tmp) (v : Value) : (a.put d v).defers = a.defers := by
 cases d <;> rfl
theorem phi_head {g : Nat} (hB : phiB ops n a0.tmps.size = true) (hst : ∀ i v w w', Φ i v w → Below w.heap.size w w' → Φ i v w')
 (ob : ∀ i o, i < n → ops[i]? = some o → obOf P ops n W a0 Φ i o)
 (hready : ∀ listed, HeadInv .any ops n listed → (∃ i, i < n ∧ listed.getD i true = false) → ∀ t, n ≤ t → t ∉ Region.ready .any ops listed)
 (leaf : ∀ listed a w, PhInv ops n W a0 Φ listed a w → HeadInv .any ops n listed → (∀ i, i < n → listed.getD i true = true) → wpAny P .any ops Q g listed a w) :
 ∀ (f : Nat) (listed : Array Bool) (a : Act) (w : World), HeadInv .any ops n listed → PhInv ops n W a0 Φ listed a w → cntU n listed = f → wpAny P .any ops Q (f + g) listed a w := by
 intro f
 induction f with
 | zero =>
   intro listed a w hi hv hc
   rw [Nat.zero_add]
   refine leaf listed a w hv hi fun i hin => ?_
   have := List.countP_eq_zero.1 hc i (List.mem_range.2 hin)
   simpa using this
 | succ f ih =>
   intro listed a w hi hv hc
   have hex : ∃ i, i < n ∧ listed.getD i true = false := by
    have hpos : 0 < cntU n listed := by omega
    obtain ⟨i, him, hib⟩ := List.countP_pos_iff.1 hpos
    exact ⟨i, List.mem_range.1 him, by simpa using hib⟩
   have hr := hready listed hi hex
   rw [show f + 1 + g = (f + g) + 1 by omega]
   refine ⟨fun h0 => ?_, fun i him => ?_⟩
   · obtain ⟨k, hkn, hk⟩ := hex
     obtain ⟨i, hik, hil, hmin⟩ := least (p := fun i => listed.getD i true = false) k hk
     obtain ⟨o, ho, hlow, _⟩ := phiB_at hB (show i < n by omega)
     have : i ∈ Region.ready .any ops listed := mem_ready.2 ⟨hil, o, ho, fun e he hb => by
      have h1 := hlow e he hb
      have h2 := hmin e.on h1
      have h3 : e.on < listed.size := by
       rw [hi.size]
       have := (Array.getElem?_eq_some_iff.1 ho).1
       omega
      simp only [Array.getD_eq_getD_getElem?, Array.getElem?_eq_getElem h3, Option.getD_some] at h2 ⊢
      simpa using h2⟩
     rw [h0] at this
     cases this
   · have hin : i < n := by
      rcases Nat.lt_or_ge i n with h | h
      · exact h
      · exact absurd him (hr i h)
     obtain ⟨hil, oi, hoi, hall⟩ := mem_ready.1 him
     obtain ⟨o', ho', hlow, hdst, hgd⟩ := phiB_at hB hin
     obtain rfl : o' = oi := Option.some.inj (ho'.symm.trans hoi)
     obtain ⟨og, ov⟩ := ob i o' hin hoi
     have hlist : ∀ j, waitsOn o' j = true → listed.getD j false = true := fun j hj => by
      obtain ⟨e, he, hb, rfl⟩ := waitsOn_spec hj
      exact hall e he hb
     have hfact : ∀ t, factAt ops n Φ a0 o' a w t := fun t => by
      unfold factAt
      cases hs : srcOf ops n t with
      | none => exact hv.out t hs
      | some j =>
        intro hw
        obtain ⟨hjn, oj, hoj, hdj⟩ := srcOf_some hs
        exact hv.phi j oj t hjn hoj hdj (hlist j hw)
     have hwant : Region.wanted o' (yielded ops a.tmps) = true := by
      unfold Region.wanted
      cases hg : o'.guard with
      | none => rfl
      | some jb =>
        obtain ⟨j, b⟩ := jb
        obtain ⟨hjn, hwj, oj, t, hoj, hdj⟩ := hgd j b hg
        rw [hg] at og
        have hval := og _ _ (hv.phi j oj t hjn hoj hdj (hlist j hwj))
        obtain ⟨_, hoj2, _, hd2, _⟩ := phiB_at hB hjn
        obtain rfl := Option.some.inj (hoj2.symm.trans hoj)
        have ht := (hd2 t hdj).1
        rw [← hv.size] at ht
        have hval2 : a.tmps[t]? = some (.bool b) := by
         simp only [Act.eval, Array.getD_eq_getD_getElem?, Array.getElem?_eq_getElem ht, Option.getD_some] at hval
         rw [Array.getElem?_eq_getElem ht, hval]
        simp [yielded, hoj, hdj, hval2]
     unfold wpOp
     simp only [hoi, hwant, if_true]
     refine .inl ((ov a w hv.kp hfact).wp fun u w' hb hu => ?_)
     refine ih _ _ _ (hi.set him hin) ⟨hv.kp.step hb, by rw [put_size]; exact hv.size, by rw [put_def]; exact hv.defers, fun t ht => ?_, fun j oj t hjn hoj hdj hlj => ?_⟩ ?_
     · rw [Act.eval_put (fun d hd e => ?_)]
       · exact hv.out t ht
       · cases e
         rw [(hdst t hd).2] at ht
         cases ht
     · by_cases hji : j = i
       · subst hji
         obtain rfl := Option.some.inj (hoj.symm.trans hoi)
         rw [hdj, eval_same (by rw [hv.size]; exact (hdst t hdj).1)]
         exact hu
       · rw [getD_set_ne false (Ne.symm hji)] at hlj
         rw [Act.eval_put (fun d hd e => ?_)]
         · exact hst _ _ _ _ (hv.phi j oj t hjn hoj hdj hlj) hb
         · cases e
           obtain ⟨_, hoj2, _, hd2, _⟩ := phiB_at hB hjn
           obtain rfl := Option.some.inj (hoj2.symm.trans hoj)
           have e1 := (hd2 t hdj).2
           rw [(hdst t hd).2] at e1
           exact hji (Option.some.inj e1).symm
     · have := cnt_step (fun j => !listed.getD j true) (fun j => !(listed.setIfInBounds i true).getD j true) i (by rw [hil]; rfl) (by
        have : i < listed.size := by rw [hi.size]; exact (Array.getElem?_eq_some_iff.1 hoi).1
        simp [this]) (fun j hj => by rw [getD_set_ne true (Ne.symm hj)]) n hin
       unfold cntU at hc ⊢
       omega
end
open Go.RowKit
theorem fact_none {ops : Array Oper} {n t : Nat} {Φ : Nat → Value → World → Prop} {a0 A : Act} {o : Oper} {w : World} (h : factAt ops n Φ a0 o A w t) (hs : srcOf ops n t = none) : A.tmps[t]?.getD undef = a0.eval (.tmp t) := by
 unfold factAt at h; rw [hs] at h; simpa [Act.eval] using h
theorem fact_some {ops : Array Oper} {n t j : Nat} {Φ : Nat → Value → World → Prop} {a0 A : Act} {o : Oper} {w : World} (h : factAt ops n Φ a0 o A w t) (hs : srcOf ops n t = some j) (hw : waitsOn o j = true) : Φ j (A.tmps[t]?.getD undef) w := by
 unfold factAt at h; rw [hs] at h; have h2 := h hw; rwa [show A.eval (.tmp t) = A.tmps[t]?.getD undef by simp [Act.eval]] at h2
def obsL (P : Program) (ops : Array Oper) (n : Nat) (W : World) (a0 : Act) (Φ : Nat → Value → World → Prop) : Nat → List Oper → Prop
 | _, [] => True
 | k, o :: r => obOf P ops n W a0 Φ k o ∧ obsL P ops n W a0 Φ (k + 1) r
theorem obs_at {P : Program} {ops : Array Oper} {n : Nat} {W : World} {a0 : Act} {Φ : Nat → Value → World → Prop} : ∀ {l : List Oper} {k : Nat}, obsL P ops n W a0 Φ k l → ∀ i o, l[i]? = some o → obOf P ops n W a0 Φ (k + i) o
 | [], _, _, i, o, h => by simp at h
 | x :: l, k, h, 0, o, ho => by
   obtain rfl : x = o := by simpa using ho
   exact h.1
 | x :: l, k, h, i + 1, o, ho => by
   have := obs_at h.2 i o (by simpa using ho)
   rwa [show k + (i + 1) = k + 1 + i by omega]
theorem act_ext {a : Act} {t : Array Value} {d : List Deferred} (h1 : a.tmps = t) (h2 : a.defers = d) : a = { tmps := t, defers := d } := by subst h1 h2; rfl
/-- whether an operation waits for another one, directly or over others -/
def reachB (md : Region.Mode) (ops : Array Oper) (i : Nat) : Nat → Nat → Bool
 | 0, _ => false
 | f + 1, t => match ops[t]? with
   | some o => o.after.any fun e => Region.binds md e && (e.on == i || reachB md ops i f e.on)
   | none => false
theorem reach_listed {md : Region.Mode} {ops : Array Oper} {i : Nat} {listed : Array Bool} (inv : ∀ j oj, ops[j]? = some oj → listed.getD j false = true → ∀ e ∈ oj.after, Region.binds md e = true → listed.getD e.on false = true) : ∀ (f t : Nat), (∀ o, ops[t]? = some o → ∀ e ∈ o.after, Region.binds md e = true → listed.getD e.on false = true) → reachB md ops i f t = true → listed.getD i false = true
 | 0, _, _, h => by cases h
 | f + 1, t, ht, h => by
   unfold reachB at h
   split at h
   · rename_i o ho
     obtain ⟨e, he, hb⟩ := Array.any_eq_true'.1 h
     simp only [Bool.and_eq_true, Bool.or_eq_true, beq_iff_eq] at hb
     have h1 := ht o ho e he hb.1
     rcases hb.2 with h2 | h2
     · rw [← h2]; exact h1
     · exact reach_listed inv f e.on (fun o' ho' e' he' hb' => inv e.on o' ho' h1 e' he' hb') h2
   · cases h
def sinkT (ops : Array Oper) (n : Nat) : Bool :=
 (List.range ops.size).all fun t => decide (t < n) || (List.range n).all fun i => reachB .any ops i ops.size t
def doneA (n m : Nat) : Array Bool := ((List.replicate n true) ++ (List.replicate m false)).toArray
theorem wp_region_phit {P : Program} {id : Nat} {Q : Exit → Act → World → Prop} {a0 : Act} {W : World} {l : List Oper} (n : Nat) (Φ : Nat → Value → World → Prop) (hm : P.follows .mixedOrders = true) (hn : n ≤ l.length)
 (hB : phiB l.toArray n a0.tmps.size = true) (hs : sinkT l.toArray n = true) (hseq : Region.seqB .any l.toArray (l.length - n) n (doneA n (l.length - n)) = true)
 (hst : ∀ i v w w', Φ i v w → Below w.heap.size w w' → Φ i v w') (ob : obsL P l.toArray n W a0 Φ 0 (l.take n))
 (h : ∀ a w, Kp W w → a.tmps.size = a0.tmps.size → a.defers = a0.defers → (∀ t, factEnd l.toArray n Φ a0 a w t) → wpList P l.toArray Q (l.drop n) a w) : (Code.region id l.toArray true).wp P Q a0 W := by
 refine wp_region_any hm ?_
 have hsz : l.toArray.size = n + (l.length - n) := by simp; omega
 have hready : ∀ listed, HeadInv .any l.toArray n listed → (∃ i, i < n ∧ listed.getD i true = false) → ∀ t, n ≤ t → t ∉ Region.ready .any l.toArray listed := fun listed inv ⟨i, hi, hun⟩ t ht hr => by
  obtain ⟨_, ot, hot, hall⟩ := mem_ready.1 hr
  have htlt : t < l.toArray.size := (Array.getElem?_eq_some_iff.1 hot).1
  have h1 := List.all_eq_true.1 hs t (List.mem_range.2 htlt)
  simp only [Bool.or_eq_true, decide_eq_true_eq] at h1
  rcases h1 with h1 | h1
  · omega
  · have h2 := List.all_eq_true.1 h1 i (List.mem_range.2 hi)
    have h3 := reach_listed inv.closed l.toArray.size t (fun o ho e he hb => by
     obtain rfl : o = ot := Option.some.inj (ho.symm.trans hot)
     exact hall e he hb) h2
    rw [getD_both hun] at h3
    cases h3
 have := phi_head (P := P) (Q := Q) (g := l.length - n) (W := W) (a0 := a0) hB hst (fun i o hi ho => by
  have h1 : (l.take n)[i]? = some o := by rw [List.getElem?_take_of_lt hi]; simpa using ho
  have := obs_at ob i o h1
  rwa [Nat.zero_add] at this) hready (fun listed a w hv hi hall => by
  have hl : listed = doneA n (l.length - n) := by
   refine Array.ext (by rw [hi.size, hsz]; simp [doneA]) fun k hk hk2 => ?_
   rcases Nat.lt_or_ge k n with hkn | hkn
   · have h1 := hall k hkn
     simp only [Array.getD_eq_getD_getElem?, Array.getElem?_eq_getElem hk, Option.getD_some] at h1
     rw [h1]
     simp [doneA, hkn]
   · have h1 := hi.tail k hkn (by rw [← hi.size]; exact hk)
     simp only [Array.getD_eq_getD_getElem?, Array.getElem?_eq_getElem hk, Option.getD_some] at h1
     rw [h1]
     simp [doneA, List.getElem_append, Nat.not_lt.2 hkn]
  subst hl
  have hw := h a w hv.kp hv.size hv.defers fun t => by
   unfold factEnd
   cases hs : srcOf l.toArray n t with
   | none => exact hv.out t hs
   | some j =>
     obtain ⟨hjn, oj, hoj, hdj⟩ := srcOf_some hs
     refine hv.phi j oj t hjn hoj hdj ?_
     have h1 := hall j hjn
     have h2 : j < (doneA n (l.length - n)).size := by simp [doneA]; omega
     simp only [Array.getD_eq_getD_getElem?, Array.getElem?_eq_getElem h2, Option.getD_some] at h1 ⊢
     exact h1
  have hd : (l.drop n).length = l.length - n := by simp
  have := wpAny_of_seq (md := .any) (Q' := Q) (l.drop n) n (doneA n (l.length - n)) a w (fun j => by simp [List.getElem?_drop]) (by rw [hd]; exact hseq) hw
  rwa [hd] at this) n (Array.replicate l.toArray.size false) a0 { W with drawn := W.drawn + 1 }
  ⟨by simp, fun j oj _ hl => (by rw [getD_replicate_false] at hl; cases hl), fun t ht ht' => getD_in (by simpa using ht') (getD_replicate_false _ _)⟩
  ⟨(Below.refl _ _).drew, rfl, rfl, fun _ _ => rfl, fun j oj t _ _ _ hl => (by rw [getD_replicate_false] at hl; cases hl)⟩ (by
    unfold cntU
    rw [List.countP_eq_length.2 fun i hi => by
     rw [getD_in (by have := List.mem_range.1 hi; simp; omega) (getD_replicate_false _ _)]; rfl]
    simp)
 rw [hsz]
 rw [hsz] at this
 exact this
theorem fact_end {ops : Array Oper} {n t j : Nat} {Φ : Nat → Value → World → Prop} {a0 a : Act} {w : World} (h : factEnd ops n Φ a0 a w t) (hs : srcOf ops n t = some j) : Φ j (a.tmps[t]?.getD undef) w := by
 unfold factEnd at h; rw [hs] at h; rwa [show a.eval (.tmp t) = a.tmps[t]?.getD undef by simp [Act.eval]] at h
theorem gives_val {P : Program} {w w' : World} {u : Value} {φ : Value → World → Prop} (hb : Below w.heap.size w w') (h : φ u w') : GivesR P w φ (.ok (.value u) w') := ⟨hb, h⟩
theorem gives_enter {P : Program} {w : World} {f : FuncId} {args : Array Value} {φ : Value → World → Prop} (h : Calls P f args w fun e w'' => ∃ v, e = .returned v ∧ Below w.heap.size w w'' ∧ φ v w'') : GivesR P w φ (.ok (.enter f args) w) := ⟨rfl, h⟩
open Go.RowKit Go
section
variable {P : Program} {ops : Array Oper} {C : (Nat → Bool) → World → Prop} {Rel : Nat → World → World → Prop} {a0 : Act} {Φ : Nat → Value → World → Prop} {Q : Exit → Act → World → Prop}
/-- the property of what an operation has left: of its slot, or of some value where it writes none -/
def outP (φ : Value → World → Prop) (a : Act) (w : World) : Option Tmp → Prop
 | some t => φ (a.eval (.tmp t)) w
 | none => ∃ v, φ v w
theorem outP.any {φ : Value → World → Prop} {a : Act} {w : World} : ∀ {d : Option Tmp}, outP φ a w d → ∃ v, φ v w
 | some _, h => ⟨_, h⟩
 | none, h => h
/-- what an operation's run leaves -/
def GivR (P : Program) (rel : World → World → Prop) (w : World) (φ : Value → World → Prop) : Result Next → Prop
 | .ok (.value u) w' => rel w w' ∧ φ u w'
 | .ok .skip w' => rel w w' ∧ φ undef w'
 | .ok (.enter f args) w' => w' = w ∧ Calls P f args w fun e w'' => ∃ v, e = .returned v ∧ rel w w'' ∧ φ v w''
 | _ => False
def Giv (P : Program) (o : Oper) (A : Act) (rel : World → World → Prop) (w : World) (φ : Value → World → Prop) : Prop := GivR P rel w φ ((execOp A.eval o).run P w)
theorem Giv.wp {o : Oper} {a : Act} {rel : World → World → Prop} {w : World} {φ : Value → World → Prop} {K : Act → World → Prop} (h : Giv P o a rel w φ) (hk : ∀ u w', rel w w' → φ u w' → K (a.put o.dst u) w') : o.wp P a w K Q := by
 unfold Giv at h
 unfold Oper.wp
 generalize (execOp a.eval o).run P w = r at *
 cases r with
 | ok nx w' =>
   cases nx <;> simp only [GivR] at h <;> simp only [Oper.upon]
   case value u => exact hk _ _ h.1 h.2
   case skip => exact hk _ _ h.1 h.2
   case enter f args =>
    obtain ⟨e1, hc⟩ := h
    rw [e1]
    exact hc.mono fun e w'' ⟨v, he, hb, hv⟩ => by subst he; exact hk _ _ hb hv
 | halt x w' => simp only [GivR] at h
def afterB (ops : Array Oper) (j i : Nat) : Bool := match ops[j]? with
 | some oj => waitsOn oj i
 | none => false
/-- what is known of a slot when an operation runs: the property of what wrote it, or, where what writes it waits for this operation, what stood there ahead of the region -/
def facG (ops : Array Oper) (Φ : Nat → Value → World → Prop) (a0 : Act) (i : Nat) (o : Oper) (A : Act) (w : World) (t : Nat) : Prop :=
 match srcOf ops ops.size t with
 | none => A.eval (.tmp t) = a0.eval (.tmp t)
 | some j => (waitsOn o j = true → Φ j (A.eval (.tmp t)) w) ∧ (afterB ops j i = true → A.eval (.tmp t) = a0.eval (.tmp t))
def endG (ops : Array Oper) (Φ : Nat → Value → World → Prop) (a0 : Act) (A : Act) (w : World) (t : Nat) : Prop :=
 match srcOf ops ops.size t with
 | none => A.eval (.tmp t) = a0.eval (.tmp t)
 | some j => Φ j (A.eval (.tmp t)) w
end
open Go.RowKit Go
theorem giv_val {P : Program} {rel : World → World → Prop} {w w' : World} {φ : Value → World → Prop} {u : Value} (h1 : rel w w') (h2 : φ u w') : GivR P rel w φ (.ok (.value u) w') := ⟨h1, h2⟩
theorem giv_skip {P : Program} {rel : World → World → Prop} {w w' : World} {φ : Value → World → Prop} (h1 : rel w w') (h2 : φ undef w') : GivR P rel w φ (.ok .skip w') := ⟨h1, h2⟩
theorem giv_enter {P : Program} {rel : World → World → Prop} {w : World} {φ : Value → World → Prop} {f : FuncId} {args : Array Value} (h : Calls P f args w fun e w'' => ∃ v, e = .returned v ∧ rel w w'' ∧ φ v w'') : GivR P rel w φ (.ok (.enter f args) w) := ⟨rfl, h⟩
section
variable {ops : Array Oper} {Φ : Nat → Value → World → Prop} {a0 A : Act} {i t j : Nat} {o : Oper} {w : World}
theorem fg_none (h : facG ops Φ a0 i o A w t) (hs : srcOf ops ops.size t = none) : A.tmps[t]?.getD undef = a0.eval (.tmp t) := by
 unfold facG at h; rw [hs] at h; simpa [Act.eval] using h
theorem fg_some (h : facG ops Φ a0 i o A w t) (hs : srcOf ops ops.size t = some j) (hw : waitsOn o j = true) : Φ j (A.tmps[t]?.getD undef) w := by
 unfold facG at h; rw [hs] at h; have h2 := h.1 hw; rwa [show A.eval (.tmp t) = A.tmps[t]?.getD undef by simp [Act.eval]] at h2
theorem fe_some (h : endG ops Φ a0 A w t) (hs : srcOf ops ops.size t = some j) : Φ j (A.tmps[t]?.getD undef) w := by
 unfold endG at h; rw [hs] at h; rwa [show A.eval (.tmp t) = A.tmps[t]?.getD undef by simp [Act.eval]] at h
end
/-- the frame written out: the slots of the mask are read off the frame, the others stand as they were -/
def cutM (a : Act) : List Bool → Nat → List Value → List Value
 | [], _, l => l
 | _ :: _, _, [] => []
 | b :: m, t, v :: l => (bif b then a.tmps[t]?.getD undef else v) :: cutM a m (t + 1) l
theorem cutM_nil (a : Act) (t : Nat) (l : List Value) : cutM a [] t l = l := by cases l <;> rfl
theorem cutM_yes (a : Act) (m : List Bool) (t : Nat) (v : Value) (l : List Value) : cutM a (true :: m) t (v :: l) = a.tmps[t]?.getD undef :: cutM a m (t + 1) l := rfl
theorem cutM_no (a : Act) (m : List Bool) (t : Nat) (v : Value) (l : List Value) : cutM a (false :: m) t (v :: l) = v :: cutM a m (t + 1) l := rfl
theorem cutM_done (a : Act) (m : List Bool) (t : Nat) : cutM a m t [] = [] := by cases m <;> rfl
theorem cutM_eq (a : Act) : ∀ (m : List Bool) (l : List Value) (t : Nat) (r : List Value), r.length = l.length → (∀ k (h : k < r.length), a.tmps[t + k]? = some r[k]) → (∀ k (h : k < l.length) (h' : k < r.length), m[k]?.getD false = false → r[k] = l[k]) → r = cutM a m t l
 | [], l, t, r, hl, _, hs => by
   rw [cutM_nil]
   exact List.ext_getElem hl fun k h1 h2 => hs k h2 h1 rfl
 | b :: m, [], t, r, hl, _, _ => by
   rw [cutM_done]
   exact List.eq_nil_of_length_eq_zero hl
 | b :: m, v :: l, t, [], hl, _, _ => by simp at hl
 | b :: m, v :: l, t, x :: r, hl, hg, hs => by
   have h0 := hg 0 (by simp)
   have ih := cutM_eq a m l (t + 1) r (by simpa using hl) (fun k h => by
    have := hg (k + 1) (by simpa using h)
    rwa [show t + (k + 1) = t + 1 + k by omega] at this) (fun k h h' hb => by
    have := hs (k + 1) (by simpa using h) (by simpa using h') (by simpa using hb)
    simpa using this)
   cases b with
   | true =>
     rw [cutM_yes, ← ih]
     have h0' : a.tmps[t]? = some x := h0
     rw [h0']; rfl
   | false =>
     rw [cutM_no, ← ih]
     congr 1
     exact hs 0 (by simp) (by simp) rfl
theorem end_gen {ops : Array Oper} {Φ : Nat → Value → World → Prop} {a0 a : Act} {w : World} (m : List Bool) (hs : a.tmps.size = a0.tmps.size) (hd : a.defers = a0.defers) (hF : ∀ t, endG ops Φ a0 a w t)
 (hB : ((List.range a0.tmps.size).all fun t => m[t]?.getD false || (srcOf ops ops.size t).isNone) = true) : a = { tmps := (cutM a m 0 a0.tmps.toList).toArray, defers := a0.defers } := by
 have e2 : a.tmps.toList = cutM a m 0 a0.tmps.toList := by
  refine cutM_eq a m _ 0 _ (by simpa using hs) (fun k h => ?_) (fun k h h' hb => ?_)
  · have h2 : k < a.tmps.size := by simpa using h
    rw [Nat.zero_add, Array.getElem?_eq_getElem h2]
    simp
  · have h1 : k < a0.tmps.size := by simpa using h
    have h2 : k < a.tmps.size := by simpa using h'
    have := List.all_eq_true.1 hB k (List.mem_range.2 h1)
    rw [hb, Bool.false_or] at this
    have hn : srcOf ops ops.size k = none := by
     cases hc : srcOf ops ops.size k with
     | none => rfl
     | some j => rw [hc] at this; cases this
    have hk := hF k
    unfold endG at hk
    rw [hn] at hk
    have hk2 : a.tmps[k]?.getD undef = a0.tmps[k]?.getD undef := by simpa [Act.eval] using hk
    rw [Array.getElem?_eq_getElem h1, Array.getElem?_eq_getElem h2] at hk2
    simpa using hk2
 exact act_ext (by rw [← e2]) hd
end Go.Proofs.YtbhoofihnmmmfabGreat
