/- Part of the proof: Cye Cyf. No conditions. -/
import Derived.Test.YtbhoofihnmmmfabGreatYas
import Derived.OwnWalk
namespace Go.Proofs.YtbhoofihnmmmfabGreat
open Go.RowKit Go
set_option maxHeartbeats 1000000 in
theorem of_c (A : Option Addr) (l : List Int) (cap : Nat) (w : World) (hl : Ints w A l) (hm : l.length ≤ maxLen) :
 Calls Tryz.prog 127 #[.slice A l.length cap] w fun e w' => e = .returned (.agg #[.int .u64 (ofI l 0), .int .u64 (ofI l 1), .int .u64 (ofI l 2), .int .u64 (ofI l 3)]) ∧ Below w.heap.size w w' := by
 unfold maxLen at hm
 go_enter Tryz.func127, Tryz.ntmps127
 go_wp2
 go_loopw [8] (fun i wr => ∃ k : Nat, k ≤ l.length ∧ i = .int .i64 k ∧ Quad wr w.heap.size 0 0 0 0 ∧
  Quad wr (w.heap.size + 1) (ofI (l.take k) 0) (ofI (l.take k) 1) (ofI (l.take k) 2) (ofI (l.take k) 3) ∧ Below w.heap.size w wr)
  (fun i _ => l.length - (intOf i).toNat)
 case atStart => exact ⟨0, Nat.zero_le _, rfl, (Quad.new _ _ _ _ _).alloc _, quad_second w, ((Below.refl _ _).alloc (Nat.le_refl _) _).alloc (by simp) _⟩
 case round =>
  obtain ⟨k, hk, rfl, hz, hs, hb⟩ := hrel
  obtain ⟨c0, c1, c2, c3, _⟩ := hs.facts
  have hsz := hs.lt
  by_cases hlt : k < l.length
  · obtain ⟨b, off, hA, hc, hbl⟩ := hl k hlt
    subst hA
    have hcr := (hb.cell (p := ⟨b, off + k, none⟩) hbl).trans hc
    have E : ∀ q, Hid (ofI (l.take (k + 1)) q = withI l[k] q (ofI (l.take k) q)) := fun q => ofI_take l k hlt q
    clear hc
    go_wp2_with (go_at_call 122; refine (with_c _ _ _ _ _ _).mono ?_; rintro e w' ⟨rfl, hb'⟩; obtain ⟨d0, d1, d2, d3, f0, f1, f2, f3⟩ := (hs.below hb' hsz).facts)
    go_roundw
    case rel =>
     refine ⟨k + 1, by omega, by go_num, (hz.below hb' hz.lt).far4 (by omega), ?_, below_set4 (hb.trans (hb'.mono hb.size)) (by omega) _ _ _ _⟩
     rw [(E 0).out, (E 1).out, (E 2).out, (E 3).out]
     exact (hs.below hb' hsz).set4 _ _ _ _
    case measure => simp [intOf]; omega
  · obtain ⟨d0, d1, d2, d3, f0, f1, f2, f3⟩ := hz.facts
    obtain rfl : k = l.length := by omega
    rw [List.take_length] at c0 c1 c2 c3
    go_wp2
    exact bodyPost_ret (v := (.agg #[.int .u64 (ofI l 0), .int .u64 (ofI l 1), .int .u64 (ofI l 2), .int .u64 (ofI l 3)])) (set_ret Tryz.results127 rfl (hz.set4 _ _ _ _)) rfl ⟨rfl, below_set4 hb (Nat.le_refl _) _ _ _ _⟩
theorem setbool_ret {fn : Func} {tmps : Array Value} {t s : Tmp} {w : World} {g : Nat} {S : S4} {b : Bool} (h : fn.results = #[.cell t 53, .tmp s]) (ht : tmps.getD t undef = .pointer (some ⟨g, 0, none⟩)) (hs : tmps.getD s undef = .bool b) (q : Blk w g 53 #[.int .u64 S.a, .int .u64 S.b, .int .u64 S.c, .int .u64 S.d]) :
 (results fn tmps).run Tryz.prog w = .ok (.tuple #[.agg #[.int .u64 S.a, .int .u64 S.b, .int .u64 S.c, .int .u64 S.d], .bool b]) w := by
 have c0 := q.cell 0
 have c1 := q.cell 1
 have c2 := q.cell 2
 have c3 := q.cell 3
 have ht' : tmps[t]?.getD undef = .pointer (some ⟨g, 0, none⟩) := by simpa using ht
 have hs' : tmps[s]?.getD undef = .bool b := by simpa using hs
 simp [results, h, ht', hs', go_sem, c0, c1, c2, c3]
theorem one_ofP (n : Int) (w : World) : Calls Tryz.prog 127 #[.slice (some ⟨w.heap.size, 0, none⟩) 1 1] (w.alloc (.cells #[.int .i64 n] 3)) fun e w' => e = .returned (.agg #[.int .u64 (ofS [n]).a, .int .u64 (ofS [n]).b, .int .u64 (ofS [n]).c, .int .u64 (ofS [n]).d]) ∧ Below w.heap.size w w' := by
 refine (of_c (some ⟨w.heap.size, 0, none⟩) [n] 1 (w.alloc (.cells #[.int .i64 n] 3)) (fun i hi => ?_) (by unfold maxLen; simp)).mono fun e w' ⟨he, hb⟩ => ⟨he, ((Below.refl _ _).alloc (Nat.le_refl _) _).trans (hb.mono (by simp))⟩
 obtain rfl : i = 0 := by simpa using hi
 exact ⟨w.heap.size, 0, rfl, (Blk.new w 3 #[.int .i64 n]).cell 0, (Blk.new w 3 #[.int .i64 n]).lt⟩
def aoI (tys : List PTy) (s : ByteArray) : Int := fdI (fun t : PTy => hasT t.al s) tys
def aoJ (ats : List PAt) (s : ByteArray) : Int := fdI (fun a : PAt => decide (a.n = s)) ats
def aoB (tys : List PTy) (ats : List PAt) (s : ByteArray) : Bool := decide (0 ≤ aoI tys s) || decide (0 ≤ aoJ ats s)
def aoS (tys : List PTy) (ats : List PAt) (s : ByteArray) : S4 := if 0 ≤ aoI tys s then ofS [aoI tys s] else if 0 ≤ aoJ ats s then (ats.getD (aoJ ats s).toNat ⟨s, S4.zero⟩).ts else S4.zero
set_option maxRecDepth 100000 in
set_option maxHeartbeats 16000000 in
theorem aliasOr_c (b0 b1 b2 b3 b4 b5 b6 b7 b8 b9 b10 b11 b12 b13 b14 b15 b16 : Value) (gp : Nat) (tys : List PTy) (ats : List PAt) (s : ByteArray) (w : World) (hP : Blk w gp 39 #[b0, b1, b2, b3, b4, b5, b6, b7, b8, b9, b10, b11, b12, b13, b14, b15, b16]) (hT : SlR 3 CTy w b1 tys) (hA : SlR 5 CAt w b2 ats) (hl1 : tys.length ≤ maxLen) (hl2 : ats.length ≤ maxLen) :
 Calls Tryz.prog 128 #[.string s, .pointer (some ⟨gp, 0, none⟩)] w fun e w' => e = .returned (.tuple #[.agg #[.int .u64 (aoS tys ats s).a, .int .u64 (aoS tys ats s).b, .int .u64 (aoS tys ats s).c, .int .u64 (aoS tys ats s).d], .bool (aoB tys ats s)]) ∧ Below w.heap.size w w' := by
 obtain ⟨W, ZW⟩ : ∃ v, Hid (((w.alloc (.cells #[.string s] 9)).alloc (.cells #[.int .u64 0, .int .u64 0, .int .u64 0, .int .u64 0] 53)) = v) := ⟨_, Lib.hid rfl⟩
 have HB : Hid (Below w.heap.size w W) := by cases ZW.out; exact Lib.hid (((Below.refl _ _).alloc (Nat.le_refl _) _).alloc (by simp) _)
 have HN : Hid (Blk W w.heap.size 9 #[.string s]) := by cases ZW.out; exact Lib.hid ((Blk.new w _ _).alloc _)
 have HR : Hid (Blk W (w.heap.size + 1) 53 #[.int .u64 0, .int .u64 0, .int .u64 0, .int .u64 0]) := by cases ZW.out; exact Lib.hid (two_new' _ _ _ _)
 have HP := Lib.hid (hP.keep HB.out)
 have hTW := hT.keep (fun hg k => CTy.keep HB.out hg k) HB.out
 have hAW := hA.keep (fun hg k => CAt.keep HB.out hg k) HB.out
 have HT := Lib.hid hTW
 have HA := Lib.hid hAW
 have HI := Lib.hid (index1_c tys s w.heap.size b1 _ hTW hl1 HN.out)
 have HJ := Lib.hid (fun w1 (h : Kp W w1) => index2_c ats s w.heap.size b2 w1 (HA.out.keep (fun hg k => CAt.keep h hg k) h) hl2 (HN.out.keep h))
 have HIE : Hid (fdI (fun t : PTy => hasT t.al s) tys = aoI tys s) := Lib.hid rfl
 have HJE : Hid (fdI (fun a : PAt => decide (a.n = s)) ats = aoJ ats s) := Lib.hid rfl
 rw [HIE.out] at HI
 simp only [HJE.out] at HJ
 have hin : -1 ≤ aoI tys s ∧ aoI tys s < tys.length := fdI_in _ _
 have hjn : -1 ≤ aoJ ats s ∧ aoJ ats s < ats.length := fdI_in _ _
 unfold aoS aoB
 clear hP hT hA hTW hAW HIE HJE
 generalize aoI tys s = ii at *
 generalize aoJ ats s = jj at *
 by_cases hi : 0 ≤ ii
 · rw [if_pos hi, decide_eq_true hi, Bool.true_or]
   have HOF : Hid (∀ u : World, Calls Tryz.prog 127 #[.slice (some ⟨u.heap.size, 0, none⟩) 1 1] (u.alloc (.cells #[.int .i64 ii] 3)) fun e w' => e = .returned (.agg #[.int .u64 (ofS [ii]).a, .int .u64 (ofS [ii]).b, .int .u64 (ofS [ii]).c, .int .u64 (ofS [ii]).d]) ∧ Below u.heap.size u w') := Lib.hid (one_ofP ii)
   generalize ofS [ii] = SO at *
   go_enter Tryz.func128, Tryz.ntmps128
   go_upto_region 1 with fail
   rw [ZW.out]
   have HLE : Hid (w.heap.size ≤ W.heap.size) := Lib.hid HB.out.size
   have HS : Hid (w.heap.size ≤ w.heap.size + 1) := Lib.hid (Nat.le_succ _)
   generalize w.heap.size + 1 = gr at *
   generalize hgs : w.heap.size = gs at *
   have hp := HP.out.cell
   have p1 := hp 1
   have p2 := hp 2
   clear hp
   go_wp2_with (first
    | (go_at_call 130; (with_reducible refine HI.out.mono ?_); rintro e w1 ⟨rfl, hb1⟩; have HK1 : Hid (Kp W w1) := Lib.hid hb1; have HB1 := Lib.hid (HB.out.trans (hb1.mono HLE.out)); have HL1 := Lib.hid (Nat.le_trans HLE.out hb1.size); have HR1 := Lib.hid (HR.out.keep hb1); have q := (HP.out.keep hb1).cell; have q1 := q 1; have q2 := q 2; clear hb1 q)
    | (go_at_call 127; (with_reducible refine (HOF.out _).mono ?_); rintro e w2 ⟨rfl, hb2⟩; have HB2 := Lib.hid (HB1.out.trans (hb2.mono HL1.out)); have HR2 := Lib.hid (HR1.out.keep hb2); have c := HR2.out.cell; have c0 := c 0; have c1 := c 1; have c2 := c 2; have c3 := c 3; have z := HR2.out.frozen; clear hb2 c))
   exact bodyPost_ret (v := .tuple #[.agg #[.int .u64 (SO).a, .int .u64 (SO).b, .int .u64 (SO).c, .int .u64 (SO).d], .bool true]) (setbool_ret Tryz.results128 rfl rfl ((((HR2.out.set 0 _).set 1 _).set 2 _).set 3 _)) rfl ⟨rfl, by first | exact below_set4 HB2.out HS.out _ _ _ _ | (rw [hgs]; exact below_set4 HB2.out HS.out _ _ _ _)⟩
 · rw [if_neg hi, decide_eq_false hi, Bool.false_or]
   by_cases hj : 0 ≤ jj
   · rw [if_pos hj, decide_eq_true hj]
     have hj2 : ¬ jj < 0 := by omega
     obtain ⟨nj, rfl⟩ : ∃ nj : Nat, jj = nj := ⟨jj.toNat, by omega⟩
     have hjl : nj < ats.length := by omega
     have hjI : (nj : Int) < (ats.length : Int) := by omega
     rw [Int.toNat_natCast, List.getD_eq_getElem?_getD, List.getElem?_eq_getElem hjl, Option.getD_some]
     obtain ⟨y, hy⟩ : ∃ y, ats[nj] = y := ⟨_, rfl⟩
     rw [hy]
     obtain ⟨ak, ck, rfl, -, -⟩ := id HA.out
     obtain ⟨g', o', rfl, hg', hRow⟩ := HA.out.row hjl
     have hAt := hRow nj hjl
     rw [hy] at hAt
     have HAT := Lib.hid hAt
     have HGA := Lib.hid hg'
     clear hRow hAt hg' hy hj hjn
     go_enter Tryz.func128, Tryz.ntmps128
     go_upto_region 1 with fail
     rw [ZW.out]
     have HLE : Hid (w.heap.size ≤ W.heap.size) := Lib.hid HB.out.size
     have HS : Hid (w.heap.size ≤ w.heap.size + 1) := Lib.hid (Nat.le_succ _)
     generalize w.heap.size + 1 = gr at *
     generalize hgs : w.heap.size = gs at *
     have hp := HP.out.cell
     have p1 := hp 1
     have p2 := hp 2
     clear hp
     go_wp2_with (first
      | (go_at_call 130; (with_reducible refine HI.out.mono ?_); rintro e w1 ⟨rfl, hb1⟩; have HK1 : Hid (Kp W w1) := Lib.hid hb1; have HB1 := Lib.hid (HB.out.trans (hb1.mono HLE.out)); have HL1 := Lib.hid (Nat.le_trans HLE.out hb1.size); have HR1 := Lib.hid (HR.out.keep hb1); have q := (HP.out.keep hb1).cell; have q1 := q 1; have q2 := q 2; clear hb1 q)
      | (go_at_call 133; (with_reducible refine (HJ.out _ HK1.out).mono ?_); rintro e w2 ⟨rfl, hb2⟩; have HK2 : Hid (Kp W w2) := Lib.hid (Kp.step HK1.out hb2); have HB2 := Lib.hid (HB1.out.trans (hb2.mono HL1.out)); have HR2 := Lib.hid (HR1.out.keep hb2); have r := (HP.out.keep HK2.out).cell; have r1 := r 1; have r2 := r 2; have c := HR2.out.cell; have c0 := c 0; have c1 := c 1; have c2 := c 2; have c3 := c 3; have z := HR2.out.frozen; obtain ⟨h0, h1, h2, h3, h4, -⟩ := HAT.out.keep HK2.out HGA.out; clear hb2 r c))
     exact bodyPost_ret (v := .tuple #[.agg #[.int .u64 (y.ts).a, .int .u64 (y.ts).b, .int .u64 (y.ts).c, .int .u64 (y.ts).d], .bool true]) (setbool_ret Tryz.results128 rfl rfl ((((HR2.out.set 0 _).set 1 _).set 2 _).set 3 _)) rfl ⟨rfl, by first | exact below_set4 HB2.out HS.out _ _ _ _ | (rw [hgs]; exact below_set4 HB2.out HS.out _ _ _ _)⟩
   · rw [if_neg hj, decide_eq_false hj]
     have hj2 : jj < 0 := by omega
     clear hj hjn
     go_enter Tryz.func128, Tryz.ntmps128
     go_upto_region 1 with fail
     rw [ZW.out]
     have HLE : Hid (w.heap.size ≤ W.heap.size) := Lib.hid HB.out.size
     have HS : Hid (w.heap.size ≤ w.heap.size + 1) := Lib.hid (Nat.le_succ _)
     generalize w.heap.size + 1 = gr at *
     generalize hgs : w.heap.size = gs at *
     have hp := HP.out.cell
     have p1 := hp 1
     have p2 := hp 2
     clear hp
     go_wp2_with (first
      | (go_at_call 130; (with_reducible refine HI.out.mono ?_); rintro e w1 ⟨rfl, hb1⟩; have HK1 : Hid (Kp W w1) := Lib.hid hb1; have HB1 := Lib.hid (HB.out.trans (hb1.mono HLE.out)); have HL1 := Lib.hid (Nat.le_trans HLE.out hb1.size); have HR1 := Lib.hid (HR.out.keep hb1); have q := (HP.out.keep hb1).cell; have q1 := q 1; have q2 := q 2; clear hb1 q)
      | (go_at_call 133; (with_reducible refine (HJ.out _ HK1.out).mono ?_); rintro e w2 ⟨rfl, hb2⟩; have HK2 : Hid (Kp W w2) := Lib.hid (Kp.step HK1.out hb2); have HB2 := Lib.hid (HB1.out.trans (hb2.mono HL1.out)); have HR2 := Lib.hid (HR1.out.keep hb2); have r := (HP.out.keep HK2.out).cell; have r1 := r 1; have r2 := r 2; have c := HR2.out.cell; have c0 := c 0; have c1 := c 1; have c2 := c 2; have c3 := c 3; have z := HR2.out.frozen; clear hb2 r c))
     exact bodyPost_ret (v := .tuple #[.agg #[.int .u64 (S4.zero).a, .int .u64 (S4.zero).b, .int .u64 (S4.zero).c, .int .u64 (S4.zero).d], .bool false]) (setbool_ret Tryz.results128 rfl rfl ((((HR2.out.set 0 _).set 1 _).set 2 _).set 3 _)) rfl ⟨rfl, by first | exact below_set4 HB2.out HS.out _ _ _ _ | (rw [hgs]; exact below_set4 HB2.out HS.out _ _ _ _)⟩
open Go.RowKit Go
/-- a row of texts that a call owns -/
def OwnS (w : World) (base : Nat) (v : Value) (l : List ByteArray) : Prop := w.ownsRow base 9 1 v l.length (l.map Value.string)
section
variable {w w' : World} {base : Nat} {v : Value} {l : List ByteArray}
theorem OwnS.nil : OwnS w base (.slice none 0 0) [] := World.ownsRow_nil _ _ _ _
theorem OwnS.mono {base' : Nat} (h : OwnS w base v l) (hb : base' ≤ base) : OwnS w base' v l := ⟨h.1, h.2.imp id (fun ⟨g, r1, r2, r3, r4, r5⟩ => ⟨g, r1, r2, r3, Nat.le_trans hb r4, r5⟩)⟩
theorem OwnS.keep (h : OwnS w base v l) (hb : Below w.heap.size w w') : OwnS w' base v l := by
 refine ⟨h.1, ?_⟩
 rcases h.2 with h2 | ⟨g, cap, cur, hv, hg, hh, r⟩
 · exact .inl h2
 · have hlt : g < w.heap.size := by
    rcases Nat.lt_or_ge g w.heap.size with hlt | hge
    · exact hlt
    · rw [Array.getElem?_eq_none hge] at hh; cases hh
   exact .inr ⟨g, cap, cur, hv, hg, (hb.block g hlt).trans hh, r⟩
theorem OwnS.alloc (h : OwnS w base v l) (o : Obj) : OwnS (w.alloc o) base v l := World.ownsRow.alloc h o
theorem OwnS.lt (h : OwnS w base v l) : ∀ k, v.ownBlock = some k → base ≤ k ∧ k < w.heap.size := World.ownsRow.lt h
theorem OwnS.strs (h : OwnS w base v l) : ∃ ao cap, v = .slice ao l.length cap ∧ l.length ≤ cap ∧ Strs w v l := by
 rcases h.2 with ⟨hv, hn⟩ | ⟨g, cap, cur, hv, hg, hh, hnc, hcm, hsz, htake⟩
 · obtain rfl := List.eq_nil_of_length_eq_zero hn
   exact ⟨none, 0, hv, Nat.le_refl _, by rw [hv]; exact Strs.nil⟩
 · refine ⟨some ⟨g, 0, none⟩, cap, hv, hnc, some ⟨g, 0, none⟩, cap, hv, fun _ => ⟨g, 0, rfl, fun k hk => ?_⟩⟩
   have hx : (l.map Value.string)[k]? = some (.string l[k]) := by simp [hk]
   rw [Nat.zero_add, cell_of_row w g k cur _ _ hh]
   rw [← htake, List.getElem?_take_of_lt (by omega)] at hx
   simpa using hx
theorem OwnS.isSl (h : OwnS w base v l) : ∃ ao cap, v = .slice ao l.length cap := by
 obtain ⟨ao, cap, e, _⟩ := h.strs
 exact ⟨ao, cap, e⟩
theorem one_newS {t : TypeId} {x : ByteArray} {g : Nat} (hg : g = w.heap.size) : ∀ j u, [Value.string x][j]? = some u → (w.alloc (.cells #[.string x] t)).cell? ((⟨g, 0, none⟩ : Addr).add j) = some u := fun j u h => by
 subst hg; exact cell_one_new _ _ _ j u h
end
theorem infoStr : (Tryz.prog.info? 9).map (fun i => (i.zero, i.size, i.bytes)) = some (some (.string ⟨#[]⟩), 1, 16) := by kernel_rfl
/-- a slice of elements of sz cells whose first cells are these names -/
def NmR (sz : Nat) (w : World) (v : Value) (L : List ByteArray) : Prop := SlR sz (fun w g o s => w.cell? ⟨g, o, none⟩ = some (.string s)) w v L
theorem NmR.keep {sz : Nat} {w w' : World} {v : Value} {L : List ByteArray} (h : NmR sz w v L) (hb : Below w.heap.size w w') : NmR sz w' v L :=
 SlR.keep (fun {g o _} hg k => (hb.cell (p := ⟨g, o, none⟩) hg).trans k) h hb
theorem NmR.tys {w : World} {v : Value} {L : List PTy} (h : SlR 3 CTy w v L) : NmR 3 w v (L.map (·.n)) := by
 obtain ⟨ao, cap, rfl, hc, hr⟩ := h
 refine ⟨ao, cap, by simp, by simpa using hc, fun hl => ?_⟩
 obtain ⟨g, o, e, hg, hR⟩ := hr (by rintro rfl; exact hl rfl)
 exact ⟨g, o, e, hg, fun i hi => by
  have := (hR i (by simpa using hi)).1
  simpa using this⟩
set_option maxRecDepth 100000 in
set_option maxHeartbeats 16000000 in
theorem namesOf_users (b0 b1 b2 b3 b4 b5 b6 b7 b8 b9 b10 b11 b12 b13 b14 b15 b16 : Value) (gp : Nat) (L : List ByteArray) (sort : Int) (hs : sort = 0) (w : World) (hP : Blk w gp 39 #[b0, b1, b2, b3, b4, b5, b6, b7, b8, b9, b10, b11, b12, b13, b14, b15, b16]) (hL : NmR 11 w b4 L) (hl : L.length ≤ 1000000) :
 Calls Tryz.prog 125 #[.pointer (some ⟨gp, 0, none⟩), .int .i64 sort] w fun e w' => ∃ v, e = .returned v ∧ OwnS w' w.heap.size v L ∧ Below w.heap.size w w' := by
 obtain ⟨i0, hinf, hz0, hz1, hz2⟩ := info_parts infoStr
 have q0 : (sort == 0) = true := by simp; omega
 have q1 : (sort == 1) = false := by simp; omega
 obtain ⟨ak, ck, rfl, -, -⟩ := id hL
 have HL := Lib.hid hL
 have HP := Lib.hid hP
 have hp := hP.cell
 have p0 := hp 4
 have hkI : (L.length : Int) ≤ 9223372036854775807 := by omega
 have HML := Lib.hid hl
 have HMX : Hid (∀ n : Nat, n ≤ 1000001 → n ≤ maxLen) := Lib.hid (fun n h => by unfold maxLen; omega)
 clear hL hP hp hl hs
 go_enter Tryz.func125, Tryz.ntmps125
 go_wp2_with fail
 go_loopw [5, 6, 37] (fun v5 v8 v15 wr => ∃ (i : Nat) (vv : Value), vv = v5 ∧ i ≤ L.length ∧ v15 = .int .i64 i ∧ Hid (Kp w wr) ∧ Hid (OwnS wr w.heap.size vv (L.take i))) (fun _ _ v15 _ => L.length - (intOf v15).toNat)
 case atStart => exact ⟨0, _, rfl, Nat.zero_le _, rfl, Lib.hid Kp.rfl', Lib.hid (by rw [List.take_zero]; exact OwnS.nil)⟩
 case round =>
  obtain ⟨i, v, rfl, hi, rfl, HK, HO⟩ := hrel
  by_cases hlt : i < L.length
  · have hlt' : (i : Int) < (L.length : Int) := by omega
    obtain ⟨g, o, hak, hg, hR⟩ := HL.out.row hlt
    subst hak
    have c0 := ((HK.out : Below w.heap.size w wr).cell (p := ⟨g, o + i * 11, none⟩) hg).trans (hR i hlt)
    have r0 := (HP.out.keep HK.out).cell 4
    obtain ⟨x, hx⟩ : ∃ x, L[i] = x := ⟨_, rfl⟩
    rw [hx] at c0
    have HX : Hid (L.take (i + 1) = L.take i ++ [x]) := Lib.hid (by rw [List.take_succ_eq_append_getElem hlt, hx])
    obtain ⟨T, hT⟩ : ∃ T, L.take i = T := ⟨_, rfl⟩
    have hTl : T.length = i := by rw [← hT, List.length_take]; omega
    rw [hT] at HO HX
    have HT := Lib.hid hTl
    obtain ⟨aoT, capT, rfl⟩ := HO.out.isSl
    clear hx hT hTl hg hR
    go_wp2_with (at_builtin; refine wpList_append_own _ rfl _ _ 28 rfl w.heap.size 9 i0 (.string ⟨#[]⟩) 1 16 Tryz.underlying28 hinf hz0 hz1 hz2 rfl (by decide) (.slice aoT T.length capT) T.length (T.map Value.string) rfl (HO.out.alloc _) ⟨_, 0, none⟩ 1 1 [.string x] rfl rfl ?c1 ?c2 ?c3 ?c4 ?c5 ?_)
    case c1 => exact one_newS (by simp)
    case c2 => intro u hu; simp at hu; subst hu; rfl
    case c3 => have := HT.out; have := HML.out; exact HMX.out _ (by omega)
    case c4 => have := HT.out; have := HML.out; omega
    case c5 => have := HK.out.size; simp; omega
    · intro v' w3 hown2 hgrow _
      have hlo := HO.out.lt
      have R3 : OwnS w3 w.heap.size v' (T ++ [x]) := by
       unfold OwnS
       simpa using hown2
      have hsz := HK.out.size
      have B3 : Below w.heap.size w w3 := (HK.out.alloc _).grown hgrow (by simp; omega) (fun k e => by have := hlo _ e; omega)
      have HR := Lib.hid R3
      have HB3 := Lib.hid B3
      clear hown2 hgrow hlo hsz R3 B3
      go_wp2_with fail
      go_roundw
      case rel => exact ⟨i + 1, _, rfl, by omega, by go_num, HB3, Lib.hid (by rw [HX.out]; exact HR.out)⟩
      case measure => simp [intOf]; omega
  · have hlt' : ¬ (i : Int) < (L.length : Int) := by omega
    have HF : Hid (L.take i = L) := Lib.hid (List.take_of_length_le (by omega))
    have HO2 := Lib.hid HO.out
    rw [HF.out] at HO2
    clear HO
    go_wp2_with fail
    go_ret
    exact ⟨_, rfl, HO2.out, HK.out⟩
set_option maxRecDepth 100000 in
set_option maxHeartbeats 16000000 in
theorem namesOf_types (b0 b1 b2 b3 b4 b5 b6 b7 b8 b9 b10 b11 b12 b13 b14 b15 b16 : Value) (gp : Nat) (L : List ByteArray) (sort : Int) (hs : sort ≠ 0 ∧ sort ≠ 1) (w : World) (hP : Blk w gp 39 #[b0, b1, b2, b3, b4, b5, b6, b7, b8, b9, b10, b11, b12, b13, b14, b15, b16]) (hL : NmR 3 w b1 L) (hl : L.length ≤ 1000000) :
 Calls Tryz.prog 125 #[.pointer (some ⟨gp, 0, none⟩), .int .i64 sort] w fun e w' => ∃ v, e = .returned v ∧ OwnS w' w.heap.size v L ∧ Below w.heap.size w w' := by
 obtain ⟨i0, hinf, hz0, hz1, hz2⟩ := info_parts infoStr
 have q0 : (sort == 0) = false := by simp; omega
 have q1 : (sort == 1) = false := by simp; omega
 obtain ⟨ak, ck, rfl, -, -⟩ := id hL
 have HL := Lib.hid hL
 have HP := Lib.hid hP
 have hp := hP.cell
 have p0 := hp 1
 have hkI : (L.length : Int) ≤ 9223372036854775807 := by omega
 have HML := Lib.hid hl
 have HMX : Hid (∀ n : Nat, n ≤ 1000001 → n ≤ maxLen) := Lib.hid (fun n h => by unfold maxLen; omega)
 clear hL hP hp hl hs
 go_enter Tryz.func125, Tryz.ntmps125
 go_wp2_with fail
 go_loopw [5, 8, 15] (fun v5 v8 v15 wr => ∃ (i : Nat) (vv : Value), vv = v5 ∧ i ≤ L.length ∧ v15 = .int .i64 i ∧ Hid (Kp w wr) ∧ Hid (OwnS wr w.heap.size vv (L.take i))) (fun _ _ v15 _ => L.length - (intOf v15).toNat)
 case atStart => exact ⟨0, _, rfl, Nat.zero_le _, rfl, Lib.hid Kp.rfl', Lib.hid (by rw [List.take_zero]; exact OwnS.nil)⟩
 case round =>
  obtain ⟨i, v, rfl, hi, rfl, HK, HO⟩ := hrel
  by_cases hlt : i < L.length
  · have hlt' : (i : Int) < (L.length : Int) := by omega
    obtain ⟨g, o, hak, hg, hR⟩ := HL.out.row hlt
    subst hak
    have c0 := ((HK.out : Below w.heap.size w wr).cell (p := ⟨g, o + i * 3, none⟩) hg).trans (hR i hlt)
    have r0 := (HP.out.keep HK.out).cell 1
    obtain ⟨x, hx⟩ : ∃ x, L[i] = x := ⟨_, rfl⟩
    rw [hx] at c0
    have HX : Hid (L.take (i + 1) = L.take i ++ [x]) := Lib.hid (by rw [List.take_succ_eq_append_getElem hlt, hx])
    obtain ⟨T, hT⟩ : ∃ T, L.take i = T := ⟨_, rfl⟩
    have hTl : T.length = i := by rw [← hT, List.length_take]; omega
    rw [hT] at HO HX
    have HT := Lib.hid hTl
    obtain ⟨aoT, capT, rfl⟩ := HO.out.isSl
    clear hx hT hTl hg hR
    go_wp2_with (at_builtin; refine wpList_append_own _ rfl _ _ 28 rfl w.heap.size 9 i0 (.string ⟨#[]⟩) 1 16 Tryz.underlying28 hinf hz0 hz1 hz2 rfl (by decide) (.slice aoT T.length capT) T.length (T.map Value.string) rfl (HO.out.alloc _) ⟨_, 0, none⟩ 1 1 [.string x] rfl rfl ?c1 ?c2 ?c3 ?c4 ?c5 ?_)
    case c1 => exact one_newS (by simp)
    case c2 => intro u hu; simp at hu; subst hu; rfl
    case c3 => have := HT.out; have := HML.out; exact HMX.out _ (by omega)
    case c4 => have := HT.out; have := HML.out; omega
    case c5 => have := HK.out.size; simp; omega
    · intro v' w3 hown2 hgrow _
      have hlo := HO.out.lt
      have R3 : OwnS w3 w.heap.size v' (T ++ [x]) := by
       unfold OwnS
       simpa using hown2
      have hsz := HK.out.size
      have B3 : Below w.heap.size w w3 := (HK.out.alloc _).grown hgrow (by simp; omega) (fun k e => by have := hlo _ e; omega)
      have HR := Lib.hid R3
      have HB3 := Lib.hid B3
      clear hown2 hgrow hlo hsz R3 B3
      go_wp2_with fail
      go_roundw
      case rel => exact ⟨i + 1, _, rfl, by omega, by go_num, HB3, Lib.hid (by rw [HX.out]; exact HR.out)⟩
      case measure => simp [intOf]; omega
  · have hlt' : ¬ (i : Int) < (L.length : Int) := by omega
    have HF : Hid (L.take i = L) := Lib.hid (List.take_of_length_le (by omega))
    have HO2 := Lib.hid HO.out
    rw [HF.out] at HO2
    clear HO
    go_wp2_with fail
    go_ret
    exact ⟨_, rfl, HO2.out, HK.out⟩
end Go.Proofs.YtbhoofihnmmmfabGreat
