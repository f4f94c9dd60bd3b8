/- Part of the proof: Pla Plb Plc Pna. No conditions. -/
import Derived.Test.YtbhoofihnmmmfabGreatYax
import Derived.Test.YtbhoofihnmmmfabGreatYay
namespace Go.Proofs.YtbhoofihnmmmfabGreat
open Go.RowKit
structure PLv where
 (s c : Int)
structure PCl where
 (n : ByteArray) (ps : List ByteArray)
structure PRo where
 (n : ByteArray) (ts nx : S4)
structure PUs where
 (n : ByteArray) (rs : S4) (df lo hi : PLv)
structure PBo where
 (n : ByteArray) (v : Bool)
structure PRu where
 (k : Int) (src tgt : S4) (self : Bool) (cl pm cd : Int)
structure PTr where
 (k : Int) (src tgt : S4) (cl : Int) (nm : ByteArray) (res cd : Int)
structure PRt where
 (rs ts : S4) (cl res : Int)
structure PRg where
 (src tgt : S4) (cl : Int) (lo hi : PLv)
structure PCx where
 (u r t : Int) (lo hi : PLv)
structure PSi where
 (n : ByteArray) (c : PCx)
structure PFi where
 (p : ByteArray) (k : Int) (c : PCx)
structure PAs where
 (n : ByteArray) (k : Int) (src tgt : S4)
structure PP where
 (cls : List PCl) (tys : List PTy) (ats : List PAt) (ros : List PRo) (uss : List PUs) (bos : List PBo) (sens cats : List ByteArray)
 (cds : List X) (rus : List PRu) (trs : List PTr) (rts : List PRt) (rgs : List PRg) (cos : List PCo) (sis : List PSi) (fis : List PFi) (ass : List PAs)
def allS (n : Int) : S4 := ofS (allL n)
/-! names -/
def inT (s : ByteArray) (l : List ByteArray) : Bool := l.any fun x => decide (x = s)
theorem inT_yes {s : ByteArray} {l : List ByteArray} {i : Nat} (hi : i < l.length) (h : l[i] = s) : inT s l = true := List.any_eq_true.2 ⟨l[i], List.getElem_mem hi, by simp [h]⟩
theorem inT_no {s : ByteArray} {l : List ByteArray} (h : ∀ i (hi : i < l.length), l[i] ≠ s) : inT s l = false := by
 rw [Bool.eq_false_iff]
 intro e
 obtain ⟨x, hx, hd⟩ := List.any_eq_true.1 e
 obtain ⟨i, hi, rfl⟩ := List.mem_iff_getElem.1 hx
 exact h i hi (by simpa using hd)
/-- the first error of the names rest, behind pre -/
def nmE (o : List ByteArray) : List ByteArray → List ByteArray → Int
 | _, [] => 0
 | pre, s :: r => if identB s = false then 10 else if inT s pre = true then 12 else if inT s o = true then 12 else nmE o (pre ++ [s]) r
def namesE (l o : List ByteArray) : Int := nmE o [] l
/-! numbers and sets -/
def bel (i n : Int) : Bool := decide (0 ≤ i) && decide (i < n)
def S4.isZ (s : S4) : Bool := same4 s.a s.b s.c s.d 0 0 0 0
def wiB (s t : S4) : Bool := same4 (bits .andNot .u64 s.a t.a) (bits .andNot .u64 s.b t.b) (bits .andNot .u64 s.c t.c) (bits .andNot .u64 s.d t.d) 0 0 0 0
def lessS (n : Int) (x : S4) : S4 := ⟨lessI n 0 x.a, lessI n 1 x.b, lessI n 2 x.c, lessI n 3 x.d⟩
def someN (s : S4) : Bool := !s.isZ
def someW (s : S4) (n : Int) : Bool := wiB s (allS n)
def procB (p : PP) (s : S4) : Bool := wiB s (lessS 0 (allS p.ros.length))
/-! classes, types, roles -/
def clsE : List ByteArray → List PCl → Int
 | _, [] => 0
 | l, c :: r => if namesE [c.n] l ≠ 0 then namesE [c.n] l else if 32 < c.ps.length then 4 else if c.ps.length = 0 then 2 else if namesE c.ps [] ≠ 0 then namesE c.ps [] else clsE (l ++ [c.n]) r
def classesE (p : PP) : Int := if 32 < p.cls.length then 4 else clsE [] p.cls
def tyNm (l : List PTy) : List ByteArray := l.flatMap fun t => t.n :: t.al
def objR : ByteArray := ⟨#[111, 98, 106, 101, 99, 116, 95, 114]⟩
/-! levels, ranges, users -/
def shr (x : Int) (n : Nat) : Int := x / 2 ^ n
def levB (p : PP) (l : PLv) : Bool := bel l.s p.sens.length && (decide ((64 : Int) ≤ (p.cats.length : Int)) || (shr l.c p.cats.length == 0))
def domB (a b : PLv) : Bool := decide (b.s ≤ a.s) && (bits .andNot .u64 b.c a.c == 0)
def rngB (p : PP) (lo hi : PLv) : Bool := levB p lo && (levB p hi && domB hi lo)
/-! expressions -/
mutual
def lvls : Nat → X → Nat
 | 0, _ => 0
 | m + 1, .mk _ _ _ _ _ _ ks => lvlsL m ks + 1
def lvlsL (m : Nat) : List X → Nat
 | [] => 0
 | k :: r => max (lvls m k) (lvlsL m r)
end
def kidsM (op : Int) : Int := if op = 1 then 0 else if op = 8 then 0 else if op = 9 then 0 else if op = 2 then 1 else if op = 3 then 2 else if op = 4 then 2 else if op = 5 then 2 else if op = 6 then 2 else if op = 7 then 2 else -1
def cndBad (op a r b : Int) (ns : List ByteArray) (st : S4) (nk : Nat) : Bool :=
 (op == 8) || ((op == 9) || (!(kidsM op == (nk : Int)) || (!(r == 0) || (!(b == 0) || (decide (0 < ns.length) || (!st.isZ || (!(op == 1) && !(a == 0))))))))
mutual
def cndE (nb : Nat) : X → Int
 | .mk op a r b ns st ks => if cndBad op a r b ns st ks.length then 2 else if ((op == 1) && !bel a nb) = true then 3 else cndL nb ks
def cndL (nb : Nat) : List X → Int
 | [] => 0
 | k :: r => if cndE nb k ≠ 0 then cndE nb k else cndL nb r
end
def condE (nb : Nat) (e : X) : Int := if 12 < lvls 13 e then 4 else cndE nb e
def fldB (op a r b : Int) (ns : List ByteArray) (st : S4) (nk : Nat) : Bool :=
 if op = 2 ∨ op = 3 ∨ op = 4 then ((nk : Int) == kidsM op) && ((a == 0) && ((r == 0) && ((b == 0) && (((ns.length : Int) == 0) && st.isZ))))
 else if op = 8 then ((nk : Int) == 0) && (((ns.length : Int) == 0) && st.isZ)
 else if op = 9 then ((nk : Int) == 0) && ((r == 0) && ((b == 0) && ((ns.length : Int) == 0)))
 else false
def numP (p : PP) (a : Int) : Int := if a.tmod 5 = 0 then p.uss.length else if a.tmod 5 = 1 then p.ros.length else if a.tmod 5 = 2 then p.tys.length else -1
def cmpX (a r b n : Int) : Int := if bel a n = false then 3 else if bel b n = false then 3 else if bel r 5 = false then 3 else if (decide ((3 : Int) ≤ a.tmod 5) && decide ((3 : Int) ≤ b.tmod 5)) = true then 0 else if (a.tmod 5 == b.tmod 5) = false then 13 else if decide ((1 : Int) < r) = true then 13 else 0
def inE (p : PP) (a : Int) (st : S4) (n : Int) : Int := if bel a n = false then 3 else if numP p a < 0 then 13 else if someW st (numP p a) = false then 3 else if someN st = false then 2 else 0
mutual
def expE (p : PP) (n : Int) : X → Int
 | .mk op a r b ns st ks => if fldB op a r b ns st ks.length = false then 2 else if (op == 8) = true then cmpX a r b n else if (op == 9) = true ∧ inE p a st n ≠ 0 then inE p a st n else expL p n ks
def expL (p : PP) (n : Int) : List X → Int
 | [] => 0
 | k :: r => if expE p n k ≠ 0 then expE p n k else expL p n r
end
def exprE (p : PP) (e : X) (vd : Bool) : Int := if 12 < lvls 13 e then 4 else expE p (if vd then 15 else 10) e
/-! rules and the rest -/
def fstE : List Int → Int
 | [] => 0
 | x :: r => if x ≠ 0 then x else fstE r
def nPerms (p : PP) (c : Int) : Nat := match p.cls[c.toNat]? with
 | some k => k.ps.length
 | none => 0
def vecB (p : PP) (c v : Int) : Bool := bel c p.cls.length && (decide ((32 : Int) ≤ (nPerms p c : Int)) || (shr v (nPerms p c) == 0))
def cdB (p : PP) (n : Int) : Bool := decide (-(p.cds.length : Int) ≤ n) && decide (n ≤ p.cds.length)
def objO (c : Int) : Bool := !(decide (c < 33) || (decide (126 < c) || ((c == 34) || (c == 47))))
def objC (s : ByteArray) : Bool := (List.range s.size).all fun i => objO (chI s i)
def objB (s : ByteArray) : Bool := objC s && (decide ((1 : Int) ≤ (s.size : Int)) && decide ((s.size : Int) ≤ 32))
def placeE (p : PP) (c : PCx) : Int :=
 if bel c.u p.uss.length && (bel c.r p.ros.length && bel c.t p.tys.length) then
  (if rngB p c.lo c.hi = false then 18 else if c.r = 0 then 0 else match p.uss[c.u.toNat]?, p.ros[c.r.toNat]? with
    | some u, some r => if domB c.lo u.lo && domB u.hi c.hi && (hasB u.rs.a u.rs.b u.rs.c u.rs.d c.r && hasB r.ts.a r.ts.b r.ts.c r.ts.d c.t) then 0 else 19
    | _, _ => 19)
 else 3
/-- what Small grants -/
structure SmP (p : PP) : Prop where
 tys : p.tys.length ≤ 12
 ats : p.ats.length ≤ 6
 cls : p.cls.length ≤ 6
 rus : p.rus.length ≤ 40
 cds : p.cds.length ≤ 6
 bos : p.bos.length ≤ 6
 cos : p.cos.length ≤ 12
 uss : p.uss.length ≤ 8
 ros : p.ros.length ≤ 8
 trs : p.trs.length ≤ 36
 rts : p.rts.length ≤ 12
 rgs : p.rgs.length ≤ 12
 sens : p.sens.length ≤ 6
 cats : p.cats.length ≤ 10
 sis : p.sis.length ≤ 8
 fis : p.fis.length ≤ 12
 ass : p.ass.length ≤ 8
 als : ∀ t ∈ p.tys, t.al.length ≤ 4
 lcd : ∀ e ∈ p.cds, lvls 13 e ≤ 6
 lco : ∀ c ∈ p.cos, lvls 13 c.e ≤ 6
open Go.RowKit
/-- a slice of n elements, within its capacity -/
def CapOK (v : Value) (n : Nat) : Prop := ∃ a c, v = .slice a n c ∧ n ≤ c
def CCl (w : World) (g o : Nat) (x : PCl) : Prop := w.cell? ⟨g, o, none⟩ = some (.string x.n) ∧ (∃ va, w.cell? ⟨g, o + 1, none⟩ = some va ∧ Strs w va x.ps ∧ CapOK va x.ps.length) ∧ x.n.size ≤ 9223372036854775807 ∧ TxW x.ps
theorem CCl.keep {w w' : World} (hb : Below w.heap.size w w') {g o : Nat} {x : PCl} (hg : g < w.heap.size) (h : CCl w g o x) : CCl w' g o x := by
 obtain ⟨h0, ⟨va, a1, b1, k1⟩, hw⟩ := h
 exact ⟨(hb.cell (p := ⟨g, o, none⟩) hg).trans h0, ⟨va, (hb.cell (p := ⟨g, o + 1, none⟩) hg).trans a1, b1.keep hb, k1⟩, hw⟩
def CRo (w : World) (g o : Nat) (x : PRo) : Prop := w.cell? ⟨g, o, none⟩ = some (.string x.n) ∧ w.cell? ⟨g, o + 1, none⟩ = some (.int .u64 x.ts.a) ∧ w.cell? ⟨g, o + 2, none⟩ = some (.int .u64 x.ts.b) ∧ w.cell? ⟨g, o + 3, none⟩ = some (.int .u64 x.ts.c) ∧ w.cell? ⟨g, o + 4, none⟩ = some (.int .u64 x.ts.d) ∧ w.cell? ⟨g, o + 5, none⟩ = some (.int .u64 x.nx.a) ∧ w.cell? ⟨g, o + 6, none⟩ = some (.int .u64 x.nx.b) ∧ w.cell? ⟨g, o + 7, none⟩ = some (.int .u64 x.nx.c) ∧ w.cell? ⟨g, o + 8, none⟩ = some (.int .u64 x.nx.d) ∧ x.n.size ≤ 9223372036854775807 ∧ U64 x.ts.a ∧ U64 x.ts.b ∧ U64 x.ts.c ∧ U64 x.ts.d ∧ U64 x.nx.a ∧ U64 x.nx.b ∧ U64 x.nx.c ∧ U64 x.nx.d
theorem CRo.keep {w w' : World} (hb : Below w.heap.size w w') {g o : Nat} {x : PRo} (hg : g < w.heap.size) (h : CRo w g o x) : CRo w' g o x := by
 obtain ⟨h0, h1, h2, h3, h4, h5, h6, h7, h8, hw⟩ := h
 exact ⟨(hb.cell (p := ⟨g, o, none⟩) hg).trans h0, (hb.cell (p := ⟨g, o + 1, none⟩) hg).trans h1, (hb.cell (p := ⟨g, o + 2, none⟩) hg).trans h2, (hb.cell (p := ⟨g, o + 3, none⟩) hg).trans h3, (hb.cell (p := ⟨g, o + 4, none⟩) hg).trans h4, (hb.cell (p := ⟨g, o + 5, none⟩) hg).trans h5, (hb.cell (p := ⟨g, o + 6, none⟩) hg).trans h6, (hb.cell (p := ⟨g, o + 7, none⟩) hg).trans h7, (hb.cell (p := ⟨g, o + 8, none⟩) hg).trans h8, hw⟩
def CUs (w : World) (g o : Nat) (x : PUs) : Prop := w.cell? ⟨g, o, none⟩ = some (.string x.n) ∧ w.cell? ⟨g, o + 1, none⟩ = some (.int .u64 x.rs.a) ∧ w.cell? ⟨g, o + 2, none⟩ = some (.int .u64 x.rs.b) ∧ w.cell? ⟨g, o + 3, none⟩ = some (.int .u64 x.rs.c) ∧ w.cell? ⟨g, o + 4, none⟩ = some (.int .u64 x.rs.d) ∧ w.cell? ⟨g, o + 5, none⟩ = some (.int .i64 x.df.s) ∧ w.cell? ⟨g, o + 6, none⟩ = some (.int .u64 x.df.c) ∧ w.cell? ⟨g, o + 7, none⟩ = some (.int .i64 x.lo.s) ∧ w.cell? ⟨g, o + 8, none⟩ = some (.int .u64 x.lo.c) ∧ w.cell? ⟨g, o + 9, none⟩ = some (.int .i64 x.hi.s) ∧ w.cell? ⟨g, o + 10, none⟩ = some (.int .u64 x.hi.c) ∧ x.n.size ≤ 9223372036854775807 ∧ U64 x.rs.a ∧ U64 x.rs.b ∧ U64 x.rs.c ∧ U64 x.rs.d ∧ I64 x.df.s ∧ U64 x.df.c ∧ I64 x.lo.s ∧ U64 x.lo.c ∧ I64 x.hi.s ∧ U64 x.hi.c
theorem CUs.keep {w w' : World} (hb : Below w.heap.size w w') {g o : Nat} {x : PUs} (hg : g < w.heap.size) (h : CUs w g o x) : CUs w' g o x := by
 obtain ⟨h0, h1, h2, h3, h4, h5, h6, h7, h8, h9, h10, hw⟩ := h
 exact ⟨(hb.cell (p := ⟨g, o, none⟩) hg).trans h0, (hb.cell (p := ⟨g, o + 1, none⟩) hg).trans h1, (hb.cell (p := ⟨g, o + 2, none⟩) hg).trans h2, (hb.cell (p := ⟨g, o + 3, none⟩) hg).trans h3, (hb.cell (p := ⟨g, o + 4, none⟩) hg).trans h4, (hb.cell (p := ⟨g, o + 5, none⟩) hg).trans h5, (hb.cell (p := ⟨g, o + 6, none⟩) hg).trans h6, (hb.cell (p := ⟨g, o + 7, none⟩) hg).trans h7, (hb.cell (p := ⟨g, o + 8, none⟩) hg).trans h8, (hb.cell (p := ⟨g, o + 9, none⟩) hg).trans h9, (hb.cell (p := ⟨g, o + 10, none⟩) hg).trans h10, hw⟩
def CBo (w : World) (g o : Nat) (x : PBo) : Prop := w.cell? ⟨g, o, none⟩ = some (.string x.n) ∧ w.cell? ⟨g, o + 1, none⟩ = some (.bool x.v) ∧ x.n.size ≤ 9223372036854775807
theorem CBo.keep {w w' : World} (hb : Below w.heap.size w w') {g o : Nat} {x : PBo} (hg : g < w.heap.size) (h : CBo w g o x) : CBo w' g o x := by
 obtain ⟨h0, h1, hw⟩ := h
 exact ⟨(hb.cell (p := ⟨g, o, none⟩) hg).trans h0, (hb.cell (p := ⟨g, o + 1, none⟩) hg).trans h1, hw⟩
def CRu (w : World) (g o : Nat) (x : PRu) : Prop := w.cell? ⟨g, o, none⟩ = some (.int .i64 x.k) ∧ w.cell? ⟨g, o + 1, none⟩ = some (.int .u64 x.src.a) ∧ w.cell? ⟨g, o + 2, none⟩ = some (.int .u64 x.src.b) ∧ w.cell? ⟨g, o + 3, none⟩ = some (.int .u64 x.src.c) ∧ w.cell? ⟨g, o + 4, none⟩ = some (.int .u64 x.src.d) ∧ w.cell? ⟨g, o + 5, none⟩ = some (.int .u64 x.tgt.a) ∧ w.cell? ⟨g, o + 6, none⟩ = some (.int .u64 x.tgt.b) ∧ w.cell? ⟨g, o + 7, none⟩ = some (.int .u64 x.tgt.c) ∧ w.cell? ⟨g, o + 8, none⟩ = some (.int .u64 x.tgt.d) ∧ w.cell? ⟨g, o + 9, none⟩ = some (.bool x.self) ∧ w.cell? ⟨g, o + 10, none⟩ = some (.int .i64 x.cl) ∧ w.cell? ⟨g, o + 11, none⟩ = some (.int .u32 x.pm) ∧ w.cell? ⟨g, o + 12, none⟩ = some (.int .i64 x.cd) ∧ I64 x.k ∧ U64 x.src.a ∧ U64 x.src.b ∧ U64 x.src.c ∧ U64 x.src.d ∧ U64 x.tgt.a ∧ U64 x.tgt.b ∧ U64 x.tgt.c ∧ U64 x.tgt.d ∧ I64 x.cl ∧ U32 x.pm ∧ I64 x.cd
theorem CRu.keep {w w' : World} (hb : Below w.heap.size w w') {g o : Nat} {x : PRu} (hg : g < w.heap.size) (h : CRu w g o x) : CRu w' g o x := by
 obtain ⟨h0, h1, h2, h3, h4, h5, h6, h7, h8, h9, h10, h11, h12, hw⟩ := h
 exact ⟨(hb.cell (p := ⟨g, o, none⟩) hg).trans h0, (hb.cell (p := ⟨g, o + 1, none⟩) hg).trans h1, (hb.cell (p := ⟨g, o + 2, none⟩) hg).trans h2, (hb.cell (p := ⟨g, o + 3, none⟩) hg).trans h3, (hb.cell (p := ⟨g, o + 4, none⟩) hg).trans h4, (hb.cell (p := ⟨g, o + 5, none⟩) hg).trans h5, (hb.cell (p := ⟨g, o + 6, none⟩) hg).trans h6, (hb.cell (p := ⟨g, o + 7, none⟩) hg).trans h7, (hb.cell (p := ⟨g, o + 8, none⟩) hg).trans h8, (hb.cell (p := ⟨g, o + 9, none⟩) hg).trans h9, (hb.cell (p := ⟨g, o + 10, none⟩) hg).trans h10, (hb.cell (p := ⟨g, o + 11, none⟩) hg).trans h11, (hb.cell (p := ⟨g, o + 12, none⟩) hg).trans h12, hw⟩
def CTr (w : World) (g o : Nat) (x : PTr) : Prop := w.cell? ⟨g, o, none⟩ = some (.int .i64 x.k) ∧ w.cell? ⟨g, o + 1, none⟩ = some (.int .u64 x.src.a) ∧ w.cell? ⟨g, o + 2, none⟩ = some (.int .u64 x.src.b) ∧ w.cell? ⟨g, o + 3, none⟩ = some (.int .u64 x.src.c) ∧ w.cell? ⟨g, o + 4, none⟩ = some (.int .u64 x.src.d) ∧ w.cell? ⟨g, o + 5, none⟩ = some (.int .u64 x.tgt.a) ∧ w.cell? ⟨g, o + 6, none⟩ = some (.int .u64 x.tgt.b) ∧ w.cell? ⟨g, o + 7, none⟩ = some (.int .u64 x.tgt.c) ∧ w.cell? ⟨g, o + 8, none⟩ = some (.int .u64 x.tgt.d) ∧ w.cell? ⟨g, o + 9, none⟩ = some (.int .i64 x.cl) ∧ w.cell? ⟨g, o + 10, none⟩ = some (.string x.nm) ∧ w.cell? ⟨g, o + 11, none⟩ = some (.int .i64 x.res) ∧ w.cell? ⟨g, o + 12, none⟩ = some (.int .i64 x.cd) ∧ I64 x.k ∧ U64 x.src.a ∧ U64 x.src.b ∧ U64 x.src.c ∧ U64 x.src.d ∧ U64 x.tgt.a ∧ U64 x.tgt.b ∧ U64 x.tgt.c ∧ U64 x.tgt.d ∧ I64 x.cl ∧ x.nm.size ≤ 9223372036854775807 ∧ I64 x.res ∧ I64 x.cd
theorem CTr.keep {w w' : World} (hb : Below w.heap.size w w') {g o : Nat} {x : PTr} (hg : g < w.heap.size) (h : CTr w g o x) : CTr w' g o x := by
 obtain ⟨h0, h1, h2, h3, h4, h5, h6, h7, h8, h9, h10, h11, h12, hw⟩ := h
 exact ⟨(hb.cell (p := ⟨g, o, none⟩) hg).trans h0, (hb.cell (p := ⟨g, o + 1, none⟩) hg).trans h1, (hb.cell (p := ⟨g, o + 2, none⟩) hg).trans h2, (hb.cell (p := ⟨g, o + 3, none⟩) hg).trans h3, (hb.cell (p := ⟨g, o + 4, none⟩) hg).trans h4, (hb.cell (p := ⟨g, o + 5, none⟩) hg).trans h5, (hb.cell (p := ⟨g, o + 6, none⟩) hg).trans h6, (hb.cell (p := ⟨g, o + 7, none⟩) hg).trans h7, (hb.cell (p := ⟨g, o + 8, none⟩) hg).trans h8, (hb.cell (p := ⟨g, o + 9, none⟩) hg).trans h9, (hb.cell (p := ⟨g, o + 10, none⟩) hg).trans h10, (hb.cell (p := ⟨g, o + 11, none⟩) hg).trans h11, (hb.cell (p := ⟨g, o + 12, none⟩) hg).trans h12, hw⟩
def CRt (w : World) (g o : Nat) (x : PRt) : Prop := w.cell? ⟨g, o, none⟩ = some (.int .u64 x.rs.a) ∧ w.cell? ⟨g, o + 1, none⟩ = some (.int .u64 x.rs.b) ∧ w.cell? ⟨g, o + 2, none⟩ = some (.int .u64 x.rs.c) ∧ w.cell? ⟨g, o + 3, none⟩ = some (.int .u64 x.rs.d) ∧ w.cell? ⟨g, o + 4, none⟩ = some (.int .u64 x.ts.a) ∧ w.cell? ⟨g, o + 5, none⟩ = some (.int .u64 x.ts.b) ∧ w.cell? ⟨g, o + 6, none⟩ = some (.int .u64 x.ts.c) ∧ w.cell? ⟨g, o + 7, none⟩ = some (.int .u64 x.ts.d) ∧ w.cell? ⟨g, o + 8, none⟩ = some (.int .i64 x.cl) ∧ w.cell? ⟨g, o + 9, none⟩ = some (.int .i64 x.res) ∧ U64 x.rs.a ∧ U64 x.rs.b ∧ U64 x.rs.c ∧ U64 x.rs.d ∧ U64 x.ts.a ∧ U64 x.ts.b ∧ U64 x.ts.c ∧ U64 x.ts.d ∧ I64 x.cl ∧ I64 x.res
theorem CRt.keep {w w' : World} (hb : Below w.heap.size w w') {g o : Nat} {x : PRt} (hg : g < w.heap.size) (h : CRt w g o x) : CRt w' g o x := by
 obtain ⟨h0, h1, h2, h3, h4, h5, h6, h7, h8, h9, hw⟩ := h
 exact ⟨(hb.cell (p := ⟨g, o, none⟩) hg).trans h0, (hb.cell (p := ⟨g, o + 1, none⟩) hg).trans h1, (hb.cell (p := ⟨g, o + 2, none⟩) hg).trans h2, (hb.cell (p := ⟨g, o + 3, none⟩) hg).trans h3, (hb.cell (p := ⟨g, o + 4, none⟩) hg).trans h4, (hb.cell (p := ⟨g, o + 5, none⟩) hg).trans h5, (hb.cell (p := ⟨g, o + 6, none⟩) hg).trans h6, (hb.cell (p := ⟨g, o + 7, none⟩) hg).trans h7, (hb.cell (p := ⟨g, o + 8, none⟩) hg).trans h8, (hb.cell (p := ⟨g, o + 9, none⟩) hg).trans h9, hw⟩
def CRg (w : World) (g o : Nat) (x : PRg) : Prop := w.cell? ⟨g, o, none⟩ = some (.int .u64 x.src.a) ∧ w.cell? ⟨g, o + 1, none⟩ = some (.int .u64 x.src.b) ∧ w.cell? ⟨g, o + 2, none⟩ = some (.int .u64 x.src.c) ∧ w.cell? ⟨g, o + 3, none⟩ = some (.int .u64 x.src.d) ∧ w.cell? ⟨g, o + 4, none⟩ = some (.int .u64 x.tgt.a) ∧ w.cell? ⟨g, o + 5, none⟩ = some (.int .u64 x.tgt.b) ∧ w.cell? ⟨g, o + 6, none⟩ = some (.int .u64 x.tgt.c) ∧ w.cell? ⟨g, o + 7, none⟩ = some (.int .u64 x.tgt.d) ∧ w.cell? ⟨g, o + 8, none⟩ = some (.int .i64 x.cl) ∧ w.cell? ⟨g, o + 9, none⟩ = some (.int .i64 x.lo.s) ∧ w.cell? ⟨g, o + 10, none⟩ = some (.int .u64 x.lo.c) ∧ w.cell? ⟨g, o + 11, none⟩ = some (.int .i64 x.hi.s) ∧ w.cell? ⟨g, o + 12, none⟩ = some (.int .u64 x.hi.c) ∧ U64 x.src.a ∧ U64 x.src.b ∧ U64 x.src.c ∧ U64 x.src.d ∧ U64 x.tgt.a ∧ U64 x.tgt.b ∧ U64 x.tgt.c ∧ U64 x.tgt.d ∧ I64 x.cl ∧ I64 x.lo.s ∧ U64 x.lo.c ∧ I64 x.hi.s ∧ U64 x.hi.c
theorem CRg.keep {w w' : World} (hb : Below w.heap.size w w') {g o : Nat} {x : PRg} (hg : g < w.heap.size) (h : CRg w g o x) : CRg w' g o x := by
 obtain ⟨h0, h1, h2, h3, h4, h5, h6, h7, h8, h9, h10, h11, h12, hw⟩ := h
 exact ⟨(hb.cell (p := ⟨g, o, none⟩) hg).trans h0, (hb.cell (p := ⟨g, o + 1, none⟩) hg).trans h1, (hb.cell (p := ⟨g, o + 2, none⟩) hg).trans h2, (hb.cell (p := ⟨g, o + 3, none⟩) hg).trans h3, (hb.cell (p := ⟨g, o + 4, none⟩) hg).trans h4, (hb.cell (p := ⟨g, o + 5, none⟩) hg).trans h5, (hb.cell (p := ⟨g, o + 6, none⟩) hg).trans h6, (hb.cell (p := ⟨g, o + 7, none⟩) hg).trans h7, (hb.cell (p := ⟨g, o + 8, none⟩) hg).trans h8, (hb.cell (p := ⟨g, o + 9, none⟩) hg).trans h9, (hb.cell (p := ⟨g, o + 10, none⟩) hg).trans h10, (hb.cell (p := ⟨g, o + 11, none⟩) hg).trans h11, (hb.cell (p := ⟨g, o + 12, none⟩) hg).trans h12, hw⟩
def CSi (w : World) (g o : Nat) (x : PSi) : Prop := w.cell? ⟨g, o, none⟩ = some (.string x.n) ∧ w.cell? ⟨g, o + 1, none⟩ = some (.int .i64 x.c.u) ∧ w.cell? ⟨g, o + 2, none⟩ = some (.int .i64 x.c.r) ∧ w.cell? ⟨g, o + 3, none⟩ = some (.int .i64 x.c.t) ∧ w.cell? ⟨g, o + 4, none⟩ = some (.int .i64 x.c.lo.s) ∧ w.cell? ⟨g, o + 5, none⟩ = some (.int .u64 x.c.lo.c) ∧ w.cell? ⟨g, o + 6, none⟩ = some (.int .i64 x.c.hi.s) ∧ w.cell? ⟨g, o + 7, none⟩ = some (.int .u64 x.c.hi.c) ∧ x.n.size ≤ 9223372036854775807 ∧ I64 x.c.u ∧ I64 x.c.r ∧ I64 x.c.t ∧ I64 x.c.lo.s ∧ U64 x.c.lo.c ∧ I64 x.c.hi.s ∧ U64 x.c.hi.c
theorem CSi.keep {w w' : World} (hb : Below w.heap.size w w') {g o : Nat} {x : PSi} (hg : g < w.heap.size) (h : CSi w g o x) : CSi w' g o x := by
 obtain ⟨h0, h1, h2, h3, h4, h5, h6, h7, hw⟩ := h
 exact ⟨(hb.cell (p := ⟨g, o, none⟩) hg).trans h0, (hb.cell (p := ⟨g, o + 1, none⟩) hg).trans h1, (hb.cell (p := ⟨g, o + 2, none⟩) hg).trans h2, (hb.cell (p := ⟨g, o + 3, none⟩) hg).trans h3, (hb.cell (p := ⟨g, o + 4, none⟩) hg).trans h4, (hb.cell (p := ⟨g, o + 5, none⟩) hg).trans h5, (hb.cell (p := ⟨g, o + 6, none⟩) hg).trans h6, (hb.cell (p := ⟨g, o + 7, none⟩) hg).trans h7, hw⟩
def CFi (w : World) (g o : Nat) (x : PFi) : Prop := w.cell? ⟨g, o, none⟩ = some (.string x.p) ∧ w.cell? ⟨g, o + 1, none⟩ = some (.int .i64 x.k) ∧ w.cell? ⟨g, o + 2, none⟩ = some (.int .i64 x.c.u) ∧ w.cell? ⟨g, o + 3, none⟩ = some (.int .i64 x.c.r) ∧ w.cell? ⟨g, o + 4, none⟩ = some (.int .i64 x.c.t) ∧ w.cell? ⟨g, o + 5, none⟩ = some (.int .i64 x.c.lo.s) ∧ w.cell? ⟨g, o + 6, none⟩ = some (.int .u64 x.c.lo.c) ∧ w.cell? ⟨g, o + 7, none⟩ = some (.int .i64 x.c.hi.s) ∧ w.cell? ⟨g, o + 8, none⟩ = some (.int .u64 x.c.hi.c) ∧ x.p.size ≤ 9223372036854775807 ∧ I64 x.k ∧ I64 x.c.u ∧ I64 x.c.r ∧ I64 x.c.t ∧ I64 x.c.lo.s ∧ U64 x.c.lo.c ∧ I64 x.c.hi.s ∧ U64 x.c.hi.c
theorem CFi.keep {w w' : World} (hb : Below w.heap.size w w') {g o : Nat} {x : PFi} (hg : g < w.heap.size) (h : CFi w g o x) : CFi w' g o x := by
 obtain ⟨h0, h1, h2, h3, h4, h5, h6, h7, h8, hw⟩ := h
 exact ⟨(hb.cell (p := ⟨g, o, none⟩) hg).trans h0, (hb.cell (p := ⟨g, o + 1, none⟩) hg).trans h1, (hb.cell (p := ⟨g, o + 2, none⟩) hg).trans h2, (hb.cell (p := ⟨g, o + 3, none⟩) hg).trans h3, (hb.cell (p := ⟨g, o + 4, none⟩) hg).trans h4, (hb.cell (p := ⟨g, o + 5, none⟩) hg).trans h5, (hb.cell (p := ⟨g, o + 6, none⟩) hg).trans h6, (hb.cell (p := ⟨g, o + 7, none⟩) hg).trans h7, (hb.cell (p := ⟨g, o + 8, none⟩) hg).trans h8, hw⟩
def CAs (w : World) (g o : Nat) (x : PAs) : Prop := w.cell? ⟨g, o, none⟩ = some (.string x.n) ∧ w.cell? ⟨g, o + 1, none⟩ = some (.int .i64 x.k) ∧ w.cell? ⟨g, o + 2, none⟩ = some (.int .u64 x.src.a) ∧ w.cell? ⟨g, o + 3, none⟩ = some (.int .u64 x.src.b) ∧ w.cell? ⟨g, o + 4, none⟩ = some (.int .u64 x.src.c) ∧ w.cell? ⟨g, o + 5, none⟩ = some (.int .u64 x.src.d) ∧ w.cell? ⟨g, o + 6, none⟩ = some (.int .u64 x.tgt.a) ∧ w.cell? ⟨g, o + 7, none⟩ = some (.int .u64 x.tgt.b) ∧ w.cell? ⟨g, o + 8, none⟩ = some (.int .u64 x.tgt.c) ∧ w.cell? ⟨g, o + 9, none⟩ = some (.int .u64 x.tgt.d) ∧ x.n.size ≤ 9223372036854775807 ∧ I64 x.k ∧ U64 x.src.a ∧ U64 x.src.b ∧ U64 x.src.c ∧ U64 x.src.d ∧ U64 x.tgt.a ∧ U64 x.tgt.b ∧ U64 x.tgt.c ∧ U64 x.tgt.d
theorem CAs.keep {w w' : World} (hb : Below w.heap.size w w') {g o : Nat} {x : PAs} (hg : g < w.heap.size) (h : CAs w g o x) : CAs w' g o x := by
 obtain ⟨h0, h1, h2, h3, h4, h5, h6, h7, h8, h9, hw⟩ := h
 exact ⟨(hb.cell (p := ⟨g, o, none⟩) hg).trans h0, (hb.cell (p := ⟨g, o + 1, none⟩) hg).trans h1, (hb.cell (p := ⟨g, o + 2, none⟩) hg).trans h2, (hb.cell (p := ⟨g, o + 3, none⟩) hg).trans h3, (hb.cell (p := ⟨g, o + 4, none⟩) hg).trans h4, (hb.cell (p := ⟨g, o + 5, none⟩) hg).trans h5, (hb.cell (p := ⟨g, o + 6, none⟩) hg).trans h6, (hb.cell (p := ⟨g, o + 7, none⟩) hg).trans h7, (hb.cell (p := ⟨g, o + 8, none⟩) hg).trans h8, (hb.cell (p := ⟨g, o + 9, none⟩) hg).trans h9, hw⟩
/-- a slice that is nil, or stands somewhere -/
def AddrOK (v : Value) : Prop := v = .slice none 0 0 ∨ ∃ a n c, v = .slice (some a) n c
def CTyA (w : World) (g o : Nat) (x : PTy) : Prop := CTy w g o x ∧ ∃ va, w.cell? ⟨g, o + 1, none⟩ = some va ∧ AddrOK va ∧ CapOK va x.al.length
theorem CTyA.keep {w w' : World} (hb : Below w.heap.size w w') {g o : Nat} {x : PTy} (hg : g < w.heap.size) (h : CTyA w g o x) : CTyA w' g o x := by
 obtain ⟨h0, va, h1, h2⟩ := h
 exact ⟨CTy.keep hb hg h0, va, (hb.cell (p := ⟨g, o + 1, none⟩) hg).trans h1, h2⟩
/-- a policy, by the values of its fields -/
structure Pol (w : World) (v0 v1 v2 v3 v4 v5 v6 v7 v8 v9 v10 v11 v12 v13 v14 v15 v16 : Value) (p : PP) : Prop where
 cls : SlR 2 CCl w v0 p.cls
 tys : SlR 3 CTyA w v1 p.tys
 ats : SlR 5 CAt w v2 p.ats
 ros : SlR 9 CRo w v3 p.ros
 uss : SlR 11 CUs w v4 p.uss
 bos : SlR 2 CBo w v5 p.bos
 sens : Strs w v6 p.sens
 cats : Strs w v7 p.cats
 cds : SlR 10 XAt w v8 p.cds
 rus : SlR 13 CRu w v9 p.rus
 trs : SlR 13 CTr w v10 p.trs
 rts : SlR 10 CRt w v11 p.rts
 rgs : SlR 13 CRg w v12 p.rgs
 cos : SlR 13 CCo w v13 p.cos
 sis : SlR 8 CSi w v14 p.sis
 fis : SlR 9 CFi w v15 p.fis
 ass : SlR 10 CAs w v16 p.ass
 ksens : CapOK v6 p.sens.length
 kcats : CapOK v7 p.cats.length
 wsens : TxW p.sens
 wcats : TxW p.cats
theorem Pol.keep {w w' : World} {v0 v1 v2 v3 v4 v5 v6 v7 v8 v9 v10 v11 v12 v13 v14 v15 v16 : Value} {p : PP} (h : Pol w v0 v1 v2 v3 v4 v5 v6 v7 v8 v9 v10 v11 v12 v13 v14 v15 v16 p) (hb : Below w.heap.size w w') : Pol w' v0 v1 v2 v3 v4 v5 v6 v7 v8 v9 v10 v11 v12 v13 v14 v15 v16 p :=
 ⟨h.cls.keep (CCl.keep hb) hb, h.tys.keep (CTyA.keep hb) hb, h.ats.keep (CAt.keep hb) hb, h.ros.keep (CRo.keep hb) hb, h.uss.keep (CUs.keep hb) hb, h.bos.keep (CBo.keep hb) hb, h.sens.keep hb, h.cats.keep hb, h.cds.keep (XAt.keep hb) hb, h.rus.keep (CRu.keep hb) hb, h.trs.keep (CTr.keep hb) hb, h.rts.keep (CRt.keep hb) hb, h.rgs.keep (CRg.keep hb) hb, h.cos.keep (CCo.keep hb) hb, h.sis.keep (CSi.keep hb) hb, h.fis.keep (CFi.keep hb) hb, h.ass.keep (CAs.keep hb) hb, h.ksens, h.kcats, h.wsens, h.wcats⟩
open Go.RowKit Go
structure PV where
 (v0 v1 v2 v3 v4 v5 v6 v7 v8 v9 v10 v11 v12 v13 v14 v15 v16 : Value)
def PV.val (q : PV) : Value := .agg #[q.v0, q.v1, q.v2, q.v3, q.v4, q.v5, q.v6, q.v7, q.v8, q.v9, q.v10, q.v11, q.v12, q.v13, q.v14, q.v15, q.v16]
def PolV (w : World) (q : PV) (p : PP) : Prop := Pol w q.v0 q.v1 q.v2 q.v3 q.v4 q.v5 q.v6 q.v7 q.v8 q.v9 q.v10 q.v11 q.v12 q.v13 q.v14 q.v15 q.v16 p
theorem PolV.keep {w w' : World} {q : PV} {p : PP} (h : PolV w q p) (hb : Below w.heap.size w w') : PolV w' q p := Pol.keep h hb
theorem agg_pol (w : World) : (isAgg 39).run Tryz.prog w = .ok true w := by go_simp
theorem size_pol (w : World) : (sizeOf 39).run Tryz.prog w = .ok 17 w := by go_simp
theorem loadAt_pol {q : PV} {g : Nat} {ty : TypeId} {u : World} (h : Blk u g ty #[q.v0, q.v1, q.v2, q.v3, q.v4, q.v5, q.v6, q.v7, q.v8, q.v9, q.v10, q.v11, q.v12, q.v13, q.v14, q.v15, q.v16]) : (Instr.loadAt 39 (.pointer (some ⟨g, 0, none⟩))).run Tryz.prog u = .ok q.val u := loadAt_blk [q.v0, q.v1, q.v2, q.v3, q.v4, q.v5, q.v6, q.v7, q.v8, q.v9, q.v10, q.v11, q.v12, q.v13, q.v14, q.v15, q.v16] (agg_pol u) (size_pol u) h
theorem Strs.form {w : World} {v : Value} {l : List ByteArray} (h : Strs w v l) : ∃ ao cap, v = .slice ao l.length cap := by
 obtain ⟨ao, cap, e, _⟩ := h
 exact ⟨ao, cap, e⟩
/-- a length of a slice that a policy in a block has -/
theorem pol_cell {w : World} {g k : Nat} {ty : TypeId} {cs : Array Value} {v u : Value} (h : Blk w g ty cs) (hk : cs[k]? = some v) (e : v = u) : w.cell? ⟨g, k, none⟩ = some u := by
 rw [h.cell k, hk, e]
theorem kp_trans {w W u : World} (h : Kp w W) (k : Kp W u) : Kp w u := h.step k
open Go.RowKit Go
theorem bel_t {i n : Int} (h : 0 ≤ i) : bel i n = decide (i < n) := by unfold bel; rw [decide_eq_true h, Bool.true_and]
theorem bel_f {i n : Int} (h : ¬ 0 ≤ i) : bel i n = false := by unfold bel; rw [decide_eq_false h, Bool.false_and]
set_option maxRecDepth 100000 in
set_option maxHeartbeats 16000000 in
theorem nbel_c (i n : Int) (w : World) : Calls Tryz.prog 60 #[.int .i64 i, .int .i64 n] w fun e w' => e = .returned (.bool (bel i n)) ∧ w' = w := by
 by_cases h : 0 ≤ i
 · rw [bel_t h]
   go_enter Tryz.func60, Tryz.ntmps60
   go_wp2
   go_ret
   exact ⟨rfl, rfl⟩
 · rw [bel_f h]
   go_enter Tryz.func60, Tryz.ntmps60
   go_wp2
   go_ret
   exact ⟨rfl, rfl⟩
set_option maxRecDepth 100000 in
set_option maxHeartbeats 16000000 in
theorem nident_c (s : ByteArray) (w : World) (hs : s.size ≤ 9223372036854775807) : Calls Tryz.prog 81 #[.string s] w fun e w' => e = .returned (.bool (identB s)) ∧ w' = w := by
 go_enter Tryz.func81, Tryz.ntmps81
 go_wp2_with (go_at_call 113; refine (rIdent_c _ _ hs).mono ?_; rintro e w2 ⟨rfl, rfl⟩)
 go_ret
 exact ⟨rfl, rfl⟩
set_option maxRecDepth 100000 in
set_option maxHeartbeats 16000000 in
theorem nwithin_c (s : ByteArray) (v : Value) (l : List ByteArray) (w : World) (hS : Strs w v l) (hn : l.length ≤ maxLen) : Calls Tryz.prog 82 #[.string s, v] w fun e w' => e = .returned (.bool (inT s l)) ∧ w' = w := by
 obtain ⟨ao, cap, rfl, hr⟩ := hS
 obtain ⟨R, hR⟩ : ∃ R, inT s l = R := ⟨_, rfl⟩
 rw [hR]
 have HR := Lib.hid hR
 have hnI : (l.length : Int) ≤ 9223372036854775807 := by unfold maxLen at hn; omega
 clear hR hn
 go_enter Tryz.func82, Tryz.ntmps82
 go_wp2_with fail
 go_loop [5] (fun vi => ∃ i : Nat, i ≤ l.length ∧ vi = .int .i64 i ∧ Hid (∀ k (h' : k < l.length), k < i → l[k] ≠ s)) (fun vi => l.length - (intOf vi).toNat)
 case atStart => exact ⟨0, Nat.zero_le _, rfl, Lib.hid fun k _ h => absurd h (by omega)⟩
 case round =>
  obtain ⟨i, hi, rfl, HA⟩ := hrel
  by_cases hlt : i < l.length
  · have hlt' : (i : Int) < (l.length : Int) := by omega
    obtain ⟨g, o, rfl, q⟩ := hr (by rintro rfl; simp at hlt)
    have q := q i hlt
    obtain ⟨x, hx⟩ : ∃ x, l[i] = x := ⟨_, rfl⟩
    rw [hx] at q
    by_cases hs : x = s
    · subst hs
      obtain rfl : true = R := by rw [← HR.out]; exact (inT_yes hlt hx).symm
      clear hx HA
      have hb : (x.toList == x.toList) = true := by simp
      go_wp2_with fail
      go_ret
      exact ⟨rfl, rfl⟩
    · have hb : (x.toList == s.toList) = false := by rw [bytes_beq]; exact decide_eq_false hs
      have HA2 : Hid (∀ k (h' : k < l.length), k < i + 1 → l[k] ≠ s) := Lib.hid fun k h hk => by
       rcases Nat.lt_or_ge k i with h' | h'
       · exact HA.out k h h'
       · obtain rfl : k = i := by omega
         rw [hx]; exact hs
      clear hx HA hs
      go_wp2_with fail
      exact ⟨⟨i + 1, hlt, by simp, HA2⟩, by simp [intOf]; omega⟩
  · have hlt' : ¬ (i : Int) < (l.length : Int) := by omega
    obtain rfl : false = R := by rw [← HR.out]; exact (inT_no fun k h => HA.out k h (by omega)).symm
    clear HA
    go_wp2_with fail
    go_ret
    exact ⟨rfl, rfl⟩
end Go.Proofs.YtbhoofihnmmmfabGreat
