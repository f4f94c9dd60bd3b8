/- Lists of a policy that is handed in, copied. -/
import Derived.Test.YtbcbhgclgakljaaGde
namespace Go.Proofs.Ytbcbhgclgakljaa
open Go.RowKit Go.Maps
structure Tz where
  n : ByteArray
  an : Nat
  pm : Bool
/-- three cells of a type -/
def CzA (x : Tz) (c0 c1 c2 : Option Value) : Prop := c0 = some (.string x.n) ∧ (∃ va, c1 = some va ∧ SlN va x.an) ∧ c2 = some (.bool x.pm)
/-- types that can be read -/
def RdZ (w : World) (v : Value) (T : List Tz) : Prop :=
  ∃ ao c, v = .slice ao T.length c ∧ T.length ≤ c ∧ (T ≠ [] → ∃ g o, ao = some ⟨g, o, none⟩ ∧ g < w.heap.size ∧ ∀ i x, T[i]? = some x → CzA x (w.cell? ⟨g, o + i * 3, none⟩) (w.cell? ⟨g, o + i * 3 + 1, none⟩) (w.cell? ⟨g, o + i * 3 + 2, none⟩))
/-- types in a block of a call's own -/
def RowZ (w : World) (B : Nat) (v : Value) (T : List Tz) : Prop :=
  (T = [] ∧ ∃ a c, v = .slice a 0 c) ∨ ∃ g c cs, v = .slice (some ⟨g, 0, none⟩) T.length c ∧ T.length ≤ c ∧ B ≤ g ∧ Blk w g 99 cs ∧ ∀ i x, T[i]? = some x → CzA x cs[i * 3]? cs[i * 3 + 1]? cs[i * 3 + 2]?
theorem RdZ.below {w w' : World} {v : Value} {T : List Tz} (h : RdZ w v T) (hb : Below w.heap.size w w') : RdZ w' v T := by
  obtain ⟨ao, c, h1, h2, h3⟩ := h
  refine ⟨ao, c, h1, h2, fun hn => ?_⟩
  obtain ⟨g, o, h4, h5, h6⟩ := h3 hn
  refine ⟨g, o, h4, Nat.lt_of_lt_of_le h5 hb.size, fun i x hx => ?_⟩
  have hk : ∀ j, w'.cell? ⟨g, j, none⟩ = w.cell? ⟨g, j, none⟩ := fun j => World.cell?_of_block (hb.block g h5)
  rw [hk, hk, hk]
  exact h6 i x hx
theorem RowZ.below {w w' : World} {B : Nat} {v : Value} {T : List Tz} (h : RowZ w B v T) (hb : Below w.heap.size w w') : RowZ w' B v T := by
  rcases h with h | ⟨g, c, cs, h1, h2, h3, h4, h5⟩
  · exact .inl h
  · exact .inr ⟨g, c, cs, h1, h2, h3, h4.keep hb, h5⟩
theorem RowZ.base {w : World} {B B' : Nat} {v : Value} {T : List Tz} (h : RowZ w B v T) (hb : B' ≤ B) : RowZ w B' v T := by
  rcases h with h | ⟨g, c, cs, h1, h2, h3, h4, h5⟩
  · exact .inl h
  · exact .inr ⟨g, c, cs, h1, h2, Nat.le_trans hb h3, h4, h5⟩
theorem RowZ.rd {w : World} {B : Nat} {v : Value} {T : List Tz} (h : RowZ w B v T) : ∃ v0, RdZ w v0 T ∧ (T ≠ [] → v0 = v) := by
  rcases h with ⟨rfl, _⟩ | ⟨g, c, cs, h1, h2, _, h4, h5⟩
  · exact ⟨.slice none 0 0, ⟨none, 0, rfl, Nat.le_refl _, fun h => absurd rfl h⟩, fun h => absurd rfl h⟩
  · refine ⟨v, ⟨_, c, h1, h2, fun _ => ⟨g, 0, rfl, h4.lt, fun i x hx => ?_⟩⟩, fun _ => rfl⟩
    rw [h4.cell, h4.cell, h4.cell, Nat.zero_add]
    exact h5 i x hx
theorem RowZ.rdz {w : World} {B : Nat} {v : Value} {T : List Tz} (h : RowZ w B v T) : RdZ w v T ∨ (T = [] ∧ ∃ a c, v = .slice a 0 c) := by
  rcases h with h | ⟨g, c, cs, h1, h2, _, h4, h5⟩
  · exact .inr h
  · refine .inl ⟨_, c, h1, h2, fun _ => ⟨g, 0, rfl, h4.lt, fun i x hx => ?_⟩⟩
    rw [h4.cell, h4.cell, h4.cell, Nat.zero_add]
    exact h5 i x hx
theorem RowZ.n {w : World} {B : Nat} {v : Value} {T : List Tz} (h : RowZ w B v T) : SlN v T.length := by
  rcases h with ⟨rfl, a, c, h⟩ | ⟨g, c, cs, h, _⟩
  · exact ⟨a, c, h⟩
  · exact ⟨_, _, h⟩
theorem gcellsClass : Try.prog.cellsOf 116 = 2 := by kernel_rfl
theorem gbytesClass : Try.prog.bytesOf 116 = 40 := by kernel_rfl
theorem gcovClass : covB Try.prog 5 116 = true := by kernel_rfl
theorem gcellsType : Try.prog.cellsOf 99 = 3 := by kernel_rfl
theorem gbytesType : Try.prog.bytesOf 99 = 48 := by kernel_rfl
theorem gcovType : covB Try.prog 5 99 = true := by kernel_rfl
theorem gcellsAttr : Try.prog.cellsOf 128 = 5 := by kernel_rfl
theorem gbytesAttr : Try.prog.bytesOf 128 = 48 := by kernel_rfl
theorem gcovAttr : covB Try.prog 5 128 = true := by kernel_rfl
theorem gcellsRole : Try.prog.cellsOf 131 = 9 := by kernel_rfl
theorem gbytesRole : Try.prog.bytesOf 131 = 80 := by kernel_rfl
theorem gcovRole : covB Try.prog 5 131 = true := by kernel_rfl
theorem gcellsUser : Try.prog.cellsOf 138 = 11 := by kernel_rfl
theorem gbytesUser : Try.prog.bytesOf 138 = 96 := by kernel_rfl
theorem gcovUser : covB Try.prog 5 138 = true := by kernel_rfl
theorem gcellsBool : Try.prog.cellsOf 141 = 2 := by kernel_rfl
theorem gbytesBool : Try.prog.bytesOf 141 = 24 := by kernel_rfl
theorem gcovBool : covB Try.prog 5 141 = true := by kernel_rfl
theorem gcellsExpr : Try.prog.cellsOf 144 = 10 := by kernel_rfl
theorem gbytesExpr : Try.prog.bytesOf 144 = 112 := by kernel_rfl
theorem gcovExpr : covB Try.prog 5 144 = true := by kernel_rfl
theorem gcellsRule : Try.prog.cellsOf 148 = 13 := by kernel_rfl
theorem gbytesRule : Try.prog.bytesOf 148 = 104 := by kernel_rfl
theorem gcovRule : covB Try.prog 5 148 = true := by kernel_rfl
theorem gcellsTrans : Try.prog.cellsOf 151 = 13 := by kernel_rfl
theorem gbytesTrans : Try.prog.bytesOf 151 = 112 := by kernel_rfl
theorem gcovTrans : covB Try.prog 5 151 = true := by kernel_rfl
theorem gcellsRoleTrans : Try.prog.cellsOf 154 = 10 := by kernel_rfl
theorem gbytesRoleTrans : Try.prog.bytesOf 154 = 80 := by kernel_rfl
theorem gcovRoleTrans : covB Try.prog 5 154 = true := by kernel_rfl
theorem gcellsRangeTrans : Try.prog.cellsOf 157 = 13 := by kernel_rfl
theorem gbytesRangeTrans : Try.prog.bytesOf 157 = 104 := by kernel_rfl
theorem gcovRangeTrans : covB Try.prog 5 157 = true := by kernel_rfl
theorem gcellsConstraint : Try.prog.cellsOf 160 = 13 := by kernel_rfl
theorem gbytesConstraint : Try.prog.bytesOf 160 = 128 := by kernel_rfl
theorem gcovConstraint : covB Try.prog 5 160 = true := by kernel_rfl
theorem gcellsInitialSid : Try.prog.cellsOf 168 = 8 := by kernel_rfl
theorem gbytesInitialSid : Try.prog.bytesOf 168 = 72 := by kernel_rfl
theorem gcovInitialSid : covB Try.prog 5 168 = true := by kernel_rfl
theorem gcellsFileRule : Try.prog.cellsOf 171 = 9 := by kernel_rfl
theorem gbytesFileRule : Try.prog.bytesOf 171 = 80 := by kernel_rfl
theorem gcovFileRule : covB Try.prog 5 171 = true := by kernel_rfl
theorem gcellsAssert : Try.prog.cellsOf 174 = 10 := by kernel_rfl
theorem gbytesAssert : Try.prog.bytesOf 174 = 88 := by kernel_rfl
theorem gcovAssert : covB Try.prog 5 174 = true := by kernel_rfl
section
variable {H : Type} {enc : TypeId × Value → H} {W0 : World} {fuel : Nat} {v : Value}
theorem gAttr (h : Good enc Try.prog W0 fuel 47 [v]) : ∃ n, SlN v n ∧ ∀ u, Below W0.heap.size W0 u → Calls Try.prog 61 #[v] u fun e w' => ∃ v', e = .returned v' ∧ SlN v' n ∧ Below u.heap.size u w' := by
  obtain ⟨v1, n, xs, _, e, S, _, _⟩ := Good.sl Try.underlying47 gcellsAttr (by decide) gbytesAttr gcovAttr h
  obtain rfl : v = v1 := by simpa using e
  exact ⟨n, S.n, fun u hu => (cloneAttr_c (S.below hu)).mono fun e w' ⟨v', h1, h2, h3⟩ => ⟨v', h1, owns_sl h2, h3⟩⟩
theorem gRole (h : Good enc Try.prog W0 fuel 48 [v]) : ∃ n, SlN v n ∧ ∀ u, Below W0.heap.size W0 u → Calls Try.prog 62 #[v] u fun e w' => ∃ v', e = .returned v' ∧ SlN v' n ∧ Below u.heap.size u w' := by
  obtain ⟨v1, n, xs, _, e, S, _, _⟩ := Good.sl Try.underlying48 gcellsRole (by decide) gbytesRole gcovRole h
  obtain rfl : v = v1 := by simpa using e
  exact ⟨n, S.n, fun u hu => (cloneRole_c (S.below hu)).mono fun e w' ⟨v', h1, h2, h3⟩ => ⟨v', h1, owns_sl h2, h3⟩⟩
theorem gUser (h : Good enc Try.prog W0 fuel 49 [v]) : ∃ n, SlN v n ∧ ∀ u, Below W0.heap.size W0 u → Calls Try.prog 63 #[v] u fun e w' => ∃ v', e = .returned v' ∧ SlN v' n ∧ Below u.heap.size u w' := by
  obtain ⟨v1, n, xs, _, e, S, _, _⟩ := Good.sl Try.underlying49 gcellsUser (by decide) gbytesUser gcovUser h
  obtain rfl : v = v1 := by simpa using e
  exact ⟨n, S.n, fun u hu => (cloneUser_c (S.below hu)).mono fun e w' ⟨v', h1, h2, h3⟩ => ⟨v', h1, owns_sl h2, h3⟩⟩
theorem gBool (h : Good enc Try.prog W0 fuel 50 [v]) : ∃ n, SlN v n ∧ ∀ u, Below W0.heap.size W0 u → Calls Try.prog 64 #[v] u fun e w' => ∃ v', e = .returned v' ∧ SlN v' n ∧ Below u.heap.size u w' := by
  obtain ⟨v1, n, xs, _, e, S, _, _⟩ := Good.sl Try.underlying50 gcellsBool (by decide) gbytesBool gcovBool h
  obtain rfl : v = v1 := by simpa using e
  exact ⟨n, S.n, fun u hu => (cloneBool_c (S.below hu)).mono fun e w' ⟨v', h1, h2, h3⟩ => ⟨v', h1, owns_sl h2, h3⟩⟩
theorem gStr (h : Good enc Try.prog W0 fuel 51 [v]) : ∃ n, SlN v n ∧ ∀ u, Below W0.heap.size W0 u → Calls Try.prog 58 #[v] u fun e w' => ∃ v', e = .returned v' ∧ SlN v' n ∧ Below u.heap.size u w' := by
  obtain ⟨v1, n, xs, _, e, S, _, _⟩ := Good.sl Try.underlying51 cells_str (by decide) bytes_str cov_str h
  obtain rfl : v = v1 := by simpa using e
  exact ⟨n, S.n, fun u hu => (cloneStr_c (S.below hu)).mono fun e w' ⟨v', h1, h2, h3⟩ => ⟨v', h1, owns_sl h2, h3⟩⟩
theorem gRule (h : Good enc Try.prog W0 fuel 53 [v]) : ∃ n, SlN v n ∧ ∀ u, Below W0.heap.size W0 u → Calls Try.prog 67 #[v] u fun e w' => ∃ v', e = .returned v' ∧ SlN v' n ∧ Below u.heap.size u w' := by
  obtain ⟨v1, n, xs, _, e, S, _, _⟩ := Good.sl Try.underlying53 gcellsRule (by decide) gbytesRule gcovRule h
  obtain rfl : v = v1 := by simpa using e
  exact ⟨n, S.n, fun u hu => (cloneRule_c (S.below hu)).mono fun e w' ⟨v', h1, h2, h3⟩ => ⟨v', h1, owns_sl h2, h3⟩⟩
theorem gTrans (h : Good enc Try.prog W0 fuel 54 [v]) : ∃ n, SlN v n ∧ ∀ u, Below W0.heap.size W0 u → Calls Try.prog 68 #[v] u fun e w' => ∃ v', e = .returned v' ∧ SlN v' n ∧ Below u.heap.size u w' := by
  obtain ⟨v1, n, xs, _, e, S, _, _⟩ := Good.sl Try.underlying54 gcellsTrans (by decide) gbytesTrans gcovTrans h
  obtain rfl : v = v1 := by simpa using e
  exact ⟨n, S.n, fun u hu => (cloneTrans_c (S.below hu)).mono fun e w' ⟨v', h1, h2, h3⟩ => ⟨v', h1, owns_sl h2, h3⟩⟩
theorem gRoleTrans (h : Good enc Try.prog W0 fuel 55 [v]) : ∃ n, SlN v n ∧ ∀ u, Below W0.heap.size W0 u → Calls Try.prog 69 #[v] u fun e w' => ∃ v', e = .returned v' ∧ SlN v' n ∧ Below u.heap.size u w' := by
  obtain ⟨v1, n, xs, _, e, S, _, _⟩ := Good.sl Try.underlying55 gcellsRoleTrans (by decide) gbytesRoleTrans gcovRoleTrans h
  obtain rfl : v = v1 := by simpa using e
  exact ⟨n, S.n, fun u hu => (cloneRoleTrans_c (S.below hu)).mono fun e w' ⟨v', h1, h2, h3⟩ => ⟨v', h1, owns_sl h2, h3⟩⟩
theorem gRangeTrans (h : Good enc Try.prog W0 fuel 56 [v]) : ∃ n, SlN v n ∧ ∀ u, Below W0.heap.size W0 u → Calls Try.prog 70 #[v] u fun e w' => ∃ v', e = .returned v' ∧ SlN v' n ∧ Below u.heap.size u w' := by
  obtain ⟨v1, n, xs, _, e, S, _, _⟩ := Good.sl Try.underlying56 gcellsRangeTrans (by decide) gbytesRangeTrans gcovRangeTrans h
  obtain rfl : v = v1 := by simpa using e
  exact ⟨n, S.n, fun u hu => (cloneRangeTrans_c (S.below hu)).mono fun e w' ⟨v', h1, h2, h3⟩ => ⟨v', h1, owns_sl h2, h3⟩⟩
theorem gInitialSid (h : Good enc Try.prog W0 fuel 58 [v]) : ∃ n, SlN v n ∧ ∀ u, Below W0.heap.size W0 u → Calls Try.prog 73 #[v] u fun e w' => ∃ v', e = .returned v' ∧ SlN v' n ∧ Below u.heap.size u w' := by
  obtain ⟨v1, n, xs, _, e, S, _, _⟩ := Good.sl Try.underlying58 gcellsInitialSid (by decide) gbytesInitialSid gcovInitialSid h
  obtain rfl : v = v1 := by simpa using e
  exact ⟨n, S.n, fun u hu => (cloneInitialSid_c (S.below hu)).mono fun e w' ⟨v', h1, h2, h3⟩ => ⟨v', h1, owns_sl h2, h3⟩⟩
theorem gFileRule (h : Good enc Try.prog W0 fuel 59 [v]) : ∃ n, SlN v n ∧ ∀ u, Below W0.heap.size W0 u → Calls Try.prog 74 #[v] u fun e w' => ∃ v', e = .returned v' ∧ SlN v' n ∧ Below u.heap.size u w' := by
  obtain ⟨v1, n, xs, _, e, S, _, _⟩ := Good.sl Try.underlying59 gcellsFileRule (by decide) gbytesFileRule gcovFileRule h
  obtain rfl : v = v1 := by simpa using e
  exact ⟨n, S.n, fun u hu => (cloneFileRule_c (S.below hu)).mono fun e w' ⟨v', h1, h2, h3⟩ => ⟨v', h1, owns_sl h2, h3⟩⟩
theorem gAssert (h : Good enc Try.prog W0 fuel 60 [v]) : ∃ n, SlN v n ∧ ∀ u, Below W0.heap.size W0 u → Calls Try.prog 75 #[v] u fun e w' => ∃ v', e = .returned v' ∧ SlN v' n ∧ Below u.heap.size u w' := by
  obtain ⟨v1, n, xs, _, e, S, _, _⟩ := Good.sl Try.underlying60 gcellsAssert (by decide) gbytesAssert gcovAssert h
  obtain rfl : v = v1 := by simpa using e
  exact ⟨n, S.n, fun u hu => (cloneAssert_c (S.below hu)).mono fun e w' ⟨v', h1, h2, h3⟩ => ⟨v', h1, owns_sl h2, h3⟩⟩
theorem gClass (h : Good enc Try.prog W0 fuel 45 [v]) : ∃ n, SlN v n ∧ ∀ u, Below W0.heap.size W0 u → Calls Try.prog 56 #[v, .func (.func 57) #[] #[]] u fun e w' => ∃ v', e = .returned v' ∧ SlN v' n ∧ Below u.heap.size u w' := by
  obtain ⟨v1, n, xs, q, e, S, _, G⟩ := Good.sl Try.underlying45 gcellsClass (by decide) gbytesClass gcovClass h
  obtain rfl : v = v1 := by simpa using e
  refine ⟨n, S.n, fun u hu => ?_⟩
  refine (eachClass_c (fun _ _ => True) (fun _ _ _ _ h => h) (S.below hu) ?_).mono fun e w' ⟨v', h1, h2, h3⟩ => ⟨v', h1, h2.n, h3⟩
  intro i hi u2 g2 cs2 hg2 hb2 hblk2 hx2
  have hbW := hu.trans (hb2.mono hu.size)
  have hgW := Nat.le_trans hu.size hg2
  obtain ⟨k, _, h4, _⟩ := Good.fld Try.underlying116 (G i hi) (i := 1) rfl
  change Good enc _ W0 k 51 ((((xs.drop (i * 2)).take 2).drop 1).take (Try.prog.cellsOf 51)) at h4
  rw [cells_strs] at h4
  obtain ⟨v4, n4, xs4, _, e4, S4, _, _⟩ := Good.sl Try.underlying51 cells_str (by decide) bytes_str cov_str h4
  have c4 : cs2[i * 2 + 1]? = some v4 := by rw [hx2 1 (by decide), ← take_at (by decide)]; exact at_of e4 (j := 0) rfl
  refine (policy1_g hblk2 c4 (S4.below hbW)).mono ?_
  rintro e w' ⟨rfl, a, c, h1, h2⟩
  exact ⟨rfl, _, h1, by simp, fun k hk => set_at (by omega), h2, trivial⟩
theorem gExpr (h : Good enc Try.prog W0 fuel 52 [v]) : ∃ n, SlN v n ∧ ∀ u, Below W0.heap.size W0 u → Calls Try.prog 65 #[v, .func (.func 66) #[] #[]] u fun e w' => ∃ v', e = .returned v' ∧ SlN v' n ∧ Below u.heap.size u w' := by
  obtain ⟨v1, n, xs, q, e, S, _, G⟩ := Good.sl Try.underlying52 gcellsExpr (by decide) gbytesExpr gcovExpr h
  obtain rfl : v = v1 := by simpa using e
  refine ⟨n, S.n, fun u hu => ?_⟩
  refine (eachExpr_c (fun _ _ => True) (fun _ _ _ _ h => h) (S.below hu) ?_).mono fun e w' ⟨v', h1, h2, h3⟩ => ⟨v', h1, h2.n, h3⟩
  intro i hi u2 g2 cs2 hg2 hb2 hblk2 hx2
  have hbW := hu.trans (hb2.mono hu.size)
  have hgW := Nat.le_trans hu.size hg2
  have hin := inside_n W0 q (w := u2) (g := g2) (j := i * 10) cs2 _ (G i hi) hbW hgW hblk2 (fun k hk => by rw [take_at hk]; exact hx2 k hk)
  refine hin.mono ?_
  rintro e w' ⟨rfl, cs', h1, h2, h3, h5⟩
  exact ⟨rfl, cs', h1, h2, h3, h5, trivial⟩
set_option maxRecDepth 100000 in
set_option maxHeartbeats 4000000 in
theorem policy3_g {u : World} {g j : Nat} {t : TypeId} {cs : Array Value} {l : List Value} (hg : Good enc Try.prog W0 fuel 144 l) (hb : Below W0.heap.size W0 u) (hgB : W0.heap.size ≤ g) (hblk : Blk u g t cs) (hcs : ∀ k, k < 10 → cs[j + 3 + k]? = l[k]?) :
    Calls Try.prog 72 #[.pointer (some ⟨g, j, none⟩)] u fun e w' => e = .returned (.tuple #[]) ∧ ∃ cs', Blk w' g t cs' ∧ cs'.size = cs.size ∧ (∀ k, (k < j + 3 ∨ j + 3 + 10 ≤ k) → cs'[k]? = cs[k]?) ∧ Bt g u w' := by
  have HI := Lib.hid (inside_n W0 fuel (w := u) (g := g) (j := j + 3) cs l hg hb hgB hblk hcs)
  clear hg hb hgB hblk hcs
  go_enter Try.func72, Try.ntmps72
  go_wp2_with (first | (go_at_call 66; refine HI.out.mono ?_; rintro e w2 ⟨rfl, h2⟩; have H2 := Lib.hid h2; clear h2) | fail)
  refine bodyPost_end (v := .tuple #[]) (by simp [results, Try.results72, go_sem]) rfl ⟨rfl, H2.out⟩
theorem gConstraint (h : Good enc Try.prog W0 fuel 57 [v]) : ∃ n, SlN v n ∧ ∀ u, Below W0.heap.size W0 u → Calls Try.prog 71 #[v, .func (.func 72) #[] #[]] u fun e w' => ∃ v', e = .returned v' ∧ SlN v' n ∧ Below u.heap.size u w' := by
  obtain ⟨v1, n, xs, q, e, S, _, G⟩ := Good.sl Try.underlying57 gcellsConstraint (by decide) gbytesConstraint gcovConstraint h
  obtain rfl : v = v1 := by simpa using e
  refine ⟨n, S.n, fun u hu => ?_⟩
  refine (eachConstraint_c (fun _ _ => True) (fun _ _ _ _ h => h) (S.below hu) ?_).mono fun e w' ⟨v', h1, h2, h3⟩ => ⟨v', h1, h2.n, h3⟩
  intro i hi u2 g2 cs2 hg2 hb2 hblk2 hx2
  have hbW := hu.trans (hb2.mono hu.size)
  have hgW := Nat.le_trans hu.size hg2
  obtain ⟨k, _, h4, _⟩ := Good.fld Try.underlying160 (G i hi) (i := 3) rfl
  change Good enc _ W0 k 144 ((((xs.drop (i * 13)).take 13).drop 3).take (Try.prog.cellsOf 144)) at h4
  rw [cells_expr] at h4
  have hin := policy3_g (u := u2) (g := g2) (j := i * 13) (cs := cs2) h4 hbW hgW hblk2 (fun k hk => by
    rw [List.getElem?_take, if_pos hk, List.getElem?_drop, take_at (by omega), Nat.add_assoc]
    exact hx2 (3 + k) (by omega))
  refine hin.mono ?_
  rintro e w' ⟨rfl, cs', h1, h2, h3, h5⟩
  exact ⟨rfl, cs', h1, h2, fun k hk => h3 k (by omega), h5, trivial⟩
theorem cells_bool' : Try.prog.cellsOf 4 = 1 := by kernel_rfl
theorem gType (h : Good enc Try.prog W0 fuel 46 [v]) : ∃ T : List Tz, RdZ W0 v T ∧ ∀ u, Below W0.heap.size W0 u → Calls Try.prog 59 #[v, .func (.func 60) #[] #[]] u fun e w' => ∃ v', e = .returned v' ∧ RowZ w' u.heap.size v' T ∧ Below u.heap.size u w' := by
  obtain ⟨v1, n, xs, q, e, S, _, G⟩ := Good.sl Try.underlying46 gcellsType (by decide) gbytesType gcovType h
  obtain rfl : v = v1 := by simpa using e
  have each : ∀ i, i < n → ∃ x : Tz, xs[i * 3]? = some (.string x.n) ∧ (∃ va ps, xs[i * 3 + 1]? = some va ∧ SlN va x.an ∧ Sl 1 16 W0 va x.an ps) ∧ xs[i * 3 + 2]? = some (.bool x.pm) := by
    intro i hi
    obtain ⟨k, _, h0, _⟩ := Good.fld Try.underlying99 (G i hi) (i := 0) rfl
    obtain ⟨k1, _, h1, _⟩ := Good.fld Try.underlying99 (G i hi) (i := 1) rfl
    obtain ⟨k2, _, h2, _⟩ := Good.fld Try.underlying99 (G i hi) (i := 2) rfl
    change Good enc _ W0 k 9 ((((xs.drop (i * 3)).take 3).drop 0).take (Try.prog.cellsOf 9)) at h0
    change Good enc _ W0 k1 51 ((((xs.drop (i * 3)).take 3).drop 1).take (Try.prog.cellsOf 51)) at h1
    change Good enc _ W0 k2 4 ((((xs.drop (i * 3)).take 3).drop 2).take (Try.prog.cellsOf 4)) at h2
    rw [cells_str] at h0
    rw [cells_strs] at h1
    rw [cells_bool'] at h2
    obtain ⟨va, an, ps, _, e1, S1, _, _⟩ := Good.sl Try.underlying51 cells_str (by decide) bytes_str cov_str h1
    obtain ⟨y0, h0, _⟩ := h0
    obtain ⟨y2, h2, _⟩ := h2
    obtain ⟨s, e0, _⟩ := DataW.trod_string Try.underlying9 h0
    obtain ⟨b, e2, _⟩ := DataW.trod_bool Try.underlying4 h2
    refine ⟨⟨s, an, b⟩, ?_, ⟨va, ps, ?_, S1.n, S1⟩, ?_⟩
    · have h5 := at_of e0 (j := 0) rfl
      rw [take_at (by decide)] at h5
      exact h5
    · have h5 := at_of e1 (j := 0) rfl
      rw [take_at (by decide)] at h5
      exact h5
    · have h5 := at_of e2 (j := 0) rfl
      rw [take_at (by decide)] at h5
      exact h5
  have : Inhabited Tz := ⟨⟨{ data := #[] }, 0, false⟩⟩
  obtain ⟨V, hV⟩ := Go.Deep.choose_lt each
  refine ⟨(List.range n).map V, ?_, fun u hu => ?_⟩
  · have hTl : ((List.range n).map V).length = n := by simp
    rcases S with ⟨h1, h2, _⟩ | ⟨a, c, h1, h2, _, _, h5, h6, _⟩
    · exact ⟨none, 0, by rw [hTl, h1, h2], by rw [hTl, h2]; exact Nat.le_refl _, fun hne => absurd (by rw [h2]; rfl) hne⟩
    · refine ⟨some a, c, by rw [hTl, h1], by rw [hTl]; exact h2, fun hne => ?_⟩
      have hz : 0 < n := by
        rcases Nat.eq_zero_or_pos n with e | e
        · subst e; exact absurd rfl hne
        · exact e
      obtain ⟨b, o, spot⟩ := a
      have g0 := h6 (0 * 3) _ (hV 0 hz).1
      have hspot : spot = none := by simpa [Addr.add] using World.cell?_spot g0
      subst hspot
      have hadd : ∀ j, (⟨b, o, none⟩ : Addr).add j = ⟨b, o + j, none⟩ := fun j => by unfold Addr.add; split <;> simp_all
      have hbl := cell_block g0
      rw [add_block] at hbl
      refine ⟨b, o, rfl, hbl, fun i x hx => ?_⟩
      have hi : i < n := by rw [← hTl]; exact (List.getElem?_eq_some_iff.1 hx).1
      have hx2 : V i = x := by simpa [hi] using hx
      obtain ⟨k0, ⟨va, ps, k1, k2, _⟩, k3⟩ := hV i hi
      rw [hx2] at k0 k2 k3
      refine ⟨?_, ⟨va, ?_, k2⟩, ?_⟩
      · rw [← hadd]; exact h6 _ _ k0
      · rw [Nat.add_assoc, ← hadd]; exact h6 _ _ k1
      · rw [Nat.add_assoc, ← hadd]; exact h6 _ _ k3
  · have hTl : ((List.range n).map V).length = n := by simp
    have hTi : ∀ i, i < n → ((List.range n).map V)[i]? = some (V i) := fun i hi => by simp [hi]
    generalize (List.range n).map V = T at hTl hTi ⊢
    refine (eachType_c (fun i cs => ∀ x, T[i]? = some x → CzA x cs[i * 3]? cs[i * 3 + 1]? cs[i * 3 + 2]?) (fun i cs cs' hk hX x hx => ?_) (S.below hu) ?_).mono fun e w' ⟨v', h1, h2, h3⟩ => ⟨v', h1, ?_, h3⟩
    · rw [hk (i * 3) (by omega) (by omega), hk (i * 3 + 1) (by omega) (by omega), hk (i * 3 + 2) (by omega) (by omega)]
      exact hX x hx
    · intro i hi u2 g2 cs2 hg2 hb2 hblk2 hx2
      obtain ⟨k0, ⟨va, ps, k1, k2, k4⟩, k3⟩ := hV i hi
      have c1 : cs2[i * 3 + 1]? = some va := by rw [hx2 1 (by decide)]; exact k1
      refine (policy2_g hblk2 c1 (k4.below (hu.trans (hb2.mono hu.size)))).mono ?_
      rintro e w' ⟨rfl, a, c, h1, h2⟩
      refine ⟨rfl, _, h1, by simp, fun k hk => set_at (by omega), h2, fun x hx => ?_⟩
      rw [hTi i hi] at hx
      obtain rfl := Option.some.inj hx
      refine ⟨?_, ⟨.slice a (V i).an c, ?_, a, c, rfl⟩, ?_⟩
      · rw [set_at (by omega)]; exact (hx2 0 (by decide)).trans k0
      · rw [Array.getElem?_setIfInBounds, if_pos rfl, if_pos (Array.getElem?_eq_some_iff.1 c1).1]
      · rw [set_at (by omega)]; exact (hx2 2 (by decide)).trans k3
    · rcases h2 with ⟨q1, a, c, q2⟩ | ⟨g, c, cs, q1, q2, q3, q4, _, q6⟩
      · exact .inl ⟨List.eq_nil_of_length_eq_zero (by rw [hTl, q1]), a, c, q2⟩
      · exact .inr ⟨g, c, cs, by rw [hTl]; exact q1, by rw [hTl]; exact q2, q3, q4, fun i x hx => q6 i (by rw [← hTl]; exact (List.getElem?_eq_some_iff.1 hx).1) x hx⟩
end
end Go.Proofs.Ytbcbhgclgakljaa
