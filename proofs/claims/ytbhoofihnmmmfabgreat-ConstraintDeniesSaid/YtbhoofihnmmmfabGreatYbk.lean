/- Part of the proof: Cyn Cyo. No conditions. -/
import Derived.Test.YtbhoofihnmmmfabGreatYbj
namespace Go.Proofs.YtbhoofihnmmmfabGreat
open Go.RowKit Go
def meanT (tys : List PTy) (ats : List PAt) (E : List ByteArray) : Option S4 := meanL (nameS (tys.map (·.n)) 2 (aoB tys ats) (aoS tys ats)) E S4.zero
theorem mean_pol (b0 b1 b2 b3 b4 b5 b6 b7 b8 b9 b10 b11 b12 b13 b14 b15 b16 : Value) (gp : Nat) (tys : List PTy) (ats : List PAt) (vN : Value) (E : List ByteArray) (w : World) (hP : Blk w gp 39 #[b0, b1, b2, b3, b4, b5, b6, b7, b8, b9, b10, b11, b12, b13, b14, b15, b16]) (hT : SlR 3 CTy w b1 tys) (hA : SlR 5 CAt w b2 ats) (hl1 : tys.length ≤ 1000000) (hl2 : ats.length ≤ 1000000) (hE : Strs w vN E) (hel : E.length ≤ maxLen) :
 Calls Tryz.prog 120 #[vN, .pointer (some ⟨gp, 0, none⟩), .int .i64 2] w fun e w' => e = .returned (.tuple #[.agg #[.int .u64 ((meanT tys ats E).getD S4.zero).a, .int .u64 ((meanT tys ats E).getD S4.zero).b, .int .u64 ((meanT tys ats E).getD S4.zero).c, .int .u64 ((meanT tys ats E).getD S4.zero).d], .bool (meanT tys ats E).isSome]) ∧ Below w.heap.size w w' := by
 have hm : 1000000 ≤ maxLen := by unfold maxLen; omega
 have q1 : tys.length ≤ maxLen := Nat.le_trans hl1 hm
 have q2 : ats.length ≤ maxLen := Nat.le_trans hl2 hm
 have q3 : (tys.map (·.n)).length ≤ maxLen := by rw [List.length_map]; exact q1
 have q4 : (tys.map (·.n)).length ≤ 1000000 := by rw [List.length_map]; exact hl1
 have HN : ∀ W, Kp w W → Calls Tryz.prog 125 #[.pointer (some ⟨gp, 0, none⟩), .int .i64 2] W fun e w' => ∃ v, e = .returned v ∧ OwnS w' W.heap.size v (tys.map (·.n)) ∧ Below W.heap.size W w' := fun W hW => by
  have k1 : Below w.heap.size w W := hW
  exact namesOf_types b0 b1 b2 b3 b4 b5 b6 b7 b8 b9 b10 b11 b12 b13 b14 b15 b16 gp (tys.map (·.n)) 2 (by decide) W (hP.keep k1) ((NmR.tys hT).keep k1) q4
 have HA : ∀ W s, Kp w W → Calls Tryz.prog 128 #[.string s, .pointer (some ⟨gp, 0, none⟩)] W fun e w' => e = .returned (.tuple #[.agg #[.int .u64 (aoS tys ats s).a, .int .u64 (aoS tys ats s).b, .int .u64 (aoS tys ats s).c, .int .u64 (aoS tys ats s).d], .bool (aoB tys ats s)]) ∧ Below W.heap.size W w' := fun W s hW => by
  have k1 : Below w.heap.size w W := hW
  exact aliasOr_c b0 b1 b2 b3 b4 b5 b6 b7 b8 b9 b10 b11 b12 b13 b14 b15 b16 gp tys ats s W (hP.keep k1) (hT.keep (fun hg k => CTy.keep k1 hg k) k1) (hA.keep (fun hg k => CAt.keep k1 hg k) k1) q1 q2
 have h := meaning_c vN E (tys.map (·.n)) gp 2 (aoB tys ats) (aoS tys ats) w hE hel q3
 unfold meanT
 exact h HN HA
def inX (E : List ByteArray) : X := .mk 9 2 0 0 E S4.zero []
theorem inX_op (A : Int) (h : A = 10) (E : List ByteArray) : operE A (inX E).op (inX E).a (inX E).r (inX E).b 0 (inX E).st (inX E).ks.length = 0 := by
 subst h
 show operE 10 9 2 0 0 0 S4.zero 0 = 0
 decide +kernel
set_option maxRecDepth 100000 in
theorem compile_yes (b0 b1 b2 b3 b4 b5 b6 b7 b8 b9 b10 b11 b12 b13 b14 b15 b16 : Value) (tys : List PTy) (ats : List PAt) (vn vk : Value) (E : List ByteArray) (S : S4) (w : World) (hT : SlR 3 CTy w b1 tys) (hA : SlR 5 CAt w b2 ats) (hl1 : tys.length ≤ 1000000) (hl2 : ats.length ≤ 1000000) (hV : XV w vn vk (inX E)) (hel : E.length ≤ maxLen) (hnn : 0 < E.length)
 (hS : meanT tys ats E = some S) (hs0 : same4 S.a S.b S.c S.d 0 0 0 0 = false) :
 Calls Tryz.prog 14 #[.agg #[.int .i64 9, .int .i64 2, .int .i64 0, .int .i64 0, vn, .int .u64 0, .int .u64 0, .int .u64 0, .int .u64 0, vk], .agg #[b0, b1, b2, b3, b4, b5, b6, b7, b8, b9, b10, b11, b12, b13, b14, b15, b16], .bool false] w fun e w' => e = .returned (.tuple #[.agg #[.int .i64 9, .int .i64 2, .int .i64 0, .int .i64 0, .slice none 0 0, .int .u64 S.a, .int .u64 S.b, .int .u64 S.c, .int .u64 S.d, .slice none 0 0], .int .i64 0]) ∧ Below w.heap.size w w' := by
 refine compileTop_c (inX E) vn vk b0 b1 b2 b3 b4 b5 b6 b7 b8 b9 b10 b11 b12 b13 b14 b15 b16 false 9 2 0 0 0 S w hV rfl fun W gp g hW hP hX hg => ?_
 refine compile_ok (inX E) g 0 gp _ 9 2 0 0 S W hX hg rfl fun W2 hW2 => ?_
 refine operator_in (inX E) g 0 gp _ 9 2 0 0 0 S W2 (hX.keep hW2 hg) (Nat.lt_of_lt_of_le hg (Below.size hW2)) rfl fun W3 hW3 => ?_
 refine member_yes (inX E) g 0 gp _ S hs0 W3 ((hX.keep hW2 hg).keep hW3 (Nat.lt_of_lt_of_le hg (Below.size hW2))) (Nat.lt_of_lt_of_le (Nat.lt_of_lt_of_le hg (Below.size hW2)) (Below.size hW3)) hnn rfl (inX_op _ rfl E) fun W4 vN hW4 hN => ?_
 have k0 : Below w.heap.size w W4 := Kp.step (Kp.step (Kp.step hW hW2) hW3) hW4
 have := mean_pol b0 b1 b2 b3 b4 b5 b6 b7 b8 b9 b10 b11 b12 b13 b14 b15 b16 gp tys ats vN E W4 (((hP.keep hW2).keep hW3).keep hW4) (hT.keep (fun hg k => CTy.keep k0 hg k) k0) (hA.keep (fun hg k => CAt.keep k0 hg k) k0) hl1 hl2 hN hel
 rw [hS] at this
 exact this
set_option maxRecDepth 100000 in
theorem compile_none (b0 b1 b2 b3 b4 b5 b6 b7 b8 b9 b10 b11 b12 b13 b14 b15 b16 : Value) (tys : List PTy) (ats : List PAt) (vn vk : Value) (E : List ByteArray) (w : World) (hT : SlR 3 CTy w b1 tys) (hA : SlR 5 CAt w b2 ats) (hl1 : tys.length ≤ 1000000) (hl2 : ats.length ≤ 1000000) (hV : XV w vn vk (inX E)) (hel : E.length ≤ maxLen) (hnn : 0 < E.length)
 (hS : meanT tys ats E = none) :
 Calls Tryz.prog 14 #[.agg #[.int .i64 9, .int .i64 2, .int .i64 0, .int .i64 0, vn, .int .u64 0, .int .u64 0, .int .u64 0, .int .u64 0, vk], .agg #[b0, b1, b2, b3, b4, b5, b6, b7, b8, b9, b10, b11, b12, b13, b14, b15, b16], .bool false] w fun e w' => e = .returned (.tuple #[.agg #[.int .i64 0, .int .i64 0, .int .i64 0, .int .i64 0, .slice none 0 0, .int .u64 0, .int .u64 0, .int .u64 0, .int .u64 0, .slice none 0 0], .int .i64 11]) ∧ Below w.heap.size w w' := by
 refine compileTop_c (inX E) vn vk b0 b1 b2 b3 b4 b5 b6 b7 b8 b9 b10 b11 b12 b13 b14 b15 b16 false 0 0 0 0 11 S4.zero w hV rfl fun W gp g hW hP hX hg => ?_
 refine compile_no (inX E) g 0 gp _ 0 0 0 0 11 S4.zero W hX hg (by decide) fun W2 hW2 => ?_
 refine operator_in (inX E) g 0 gp _ 0 0 0 0 11 S4.zero W2 (hX.keep hW2 hg) (Nat.lt_of_lt_of_le hg (Below.size hW2)) rfl fun W3 hW3 => ?_
 refine member_no (inX E) g 0 gp _ S4.zero W3 ((hX.keep hW2 hg).keep hW3 (Nat.lt_of_lt_of_le hg (Below.size hW2))) (Nat.lt_of_lt_of_le (Nat.lt_of_lt_of_le hg (Below.size hW2)) (Below.size hW3)) hnn rfl (inX_op _ rfl E) fun W4 vN hW4 hN => ?_
 have k0 : Below w.heap.size w W4 := Kp.step (Kp.step (Kp.step hW hW2) hW3) hW4
 have := mean_pol b0 b1 b2 b3 b4 b5 b6 b7 b8 b9 b10 b11 b12 b13 b14 b15 b16 gp tys ats vN E W4 (((hP.keep hW2).keep hW3).keep hW4) (hT.keep (fun hg k => CTy.keep k0 hg k) k0) (hA.keep (fun hg k => CAt.keep k0 hg k) k0) hl1 hl2 hN hel
 rw [hS] at this
 exact this
open Go.RowKit Go
def tysS : List PTy := [⟨⟨#[105, 110, 105, 116, 95, 116]⟩, [], false⟩, ⟨⟨#[117, 115, 101, 114, 95, 116]⟩, [], false⟩, ⟨⟨#[102, 105, 108, 101, 95, 116]⟩, [], false⟩, ⟨⟨#[115, 104, 101, 108, 108, 95, 116]⟩, [], false⟩]
def atsS : List PAt := [⟨⟨#[100, 111, 109, 97, 105, 110]⟩, ofS [0, 1]⟩]
def rolesX : X := .mk 8 1 0 6 [] S4.zero []
def levelsX : X := .mk 8 3 2 8 [] S4.zero []
def cxI : Cx := ⟨0, 1, 0, zcl, zcl⟩
def cxF : Cx := ⟨0, 0, 2, zcl, zcl⟩
theorem tysS_mem {u : World} {v : Value} (h : Lst u v 82 4 smTys) : SlR 3 CTy u v tysS := by
 obtain ⟨g, rfl, hb⟩ := h
 refine ⟨_, _, rfl, by decide, fun _ => ⟨g, 0, rfl, hb.lt, fun i hi => ?_⟩⟩
 have ht : TxW [] := fun s hs => by simp at hs
 have hm : 0 ≤ maxLen := Nat.zero_le _
 match i, hi with
 | 0, _ => exact ⟨hb.cell 0, ⟨_, hb.cell 1, Strs.nil⟩, hb.cell 2, (by decide : (6 : Nat) ≤ 9223372036854775807), ht, hm⟩
 | 1, _ => exact ⟨hb.cell 3, ⟨_, hb.cell 4, Strs.nil⟩, hb.cell 5, (by decide : (6 : Nat) ≤ 9223372036854775807), ht, hm⟩
 | 2, _ => exact ⟨hb.cell 6, ⟨_, hb.cell 7, Strs.nil⟩, hb.cell 8, (by decide : (6 : Nat) ≤ 9223372036854775807), ht, hm⟩
 | 3, _ => exact ⟨hb.cell 9, ⟨_, hb.cell 10, Strs.nil⟩, hb.cell 11, (by decide : (7 : Nat) ≤ 9223372036854775807), ht, hm⟩
theorem u01 : U64 (ofS [0, 1]).a ∧ U64 (ofS [0, 1]).b ∧ U64 (ofS [0, 1]).c ∧ U64 (ofS [0, 1]).d := by
 unfold U64
 decide +kernel
theorem atsS_mem {u : World} {v : Value} (h : Lst u v 89 1 smAts) : SlR 5 CAt u v atsS := by
 obtain ⟨g, rfl, hb⟩ := h
 refine ⟨_, _, rfl, by decide, fun _ => ⟨g, 0, rfl, hb.lt, fun i hi => ?_⟩⟩
 match i, hi with
 | 0, _ => exact ⟨hb.cell 0, hb.cell 1, hb.cell 2, hb.cell 3, hb.cell 4, (by decide : (6 : Nat) ≤ 9223372036854775807), u01.1, u01.2.1, u01.2.2.1, u01.2.2.2⟩
def nmE1 : List ByteArray := [⟨#[105, 110, 105, 116, 95, 116]⟩, ⟨#[102, 105, 108, 101, 95, 116]⟩]
def nmE2 : List ByteArray := [⟨#[110, 111, 116, 104, 105, 110, 103, 95, 116]⟩]
theorem lst_strs {u : World} {v : Value} {E : List ByteArray} (h : Lst u v 9 E.length (E.map Value.string)) : Strs u v E := by
 obtain ⟨g, rfl, hb⟩ := h
 refine ⟨_, _, rfl, fun _ => ⟨g, 0, rfl, fun k hk => ?_⟩⟩
 rw [hb.cell (0 + k)]
 simp [hk]
theorem i9 : I64 9 := ⟨by decide, by decide⟩
theorem i2 : I64 2 := ⟨by decide, by decide⟩
theorem i0 : I64 0 := ⟨by decide, by decide⟩
theorem uz : U64 0 := ⟨by decide, by decide⟩
theorem xv_in {u : World} {v : Value} {E : List ByteArray} (h : Strs u v E) (ht : TxW E) (hl : E.length ≤ maxLen) : XV u v (.slice none 0 0) (inX E) :=
 ⟨h, SlR.nil, ⟨i9, i2, i0, i0, ht, ⟨uz, uz, uz, uz⟩, hl, Nat.zero_le _⟩⟩
theorem tx1 : TxW nmE1 := fun s hs => by
 simp only [nmE1, List.mem_cons, List.not_mem_nil, or_false] at hs
 rcases hs with rfl | rfl <;> decide
theorem tx2 : TxW nmE2 := fun s hs => by
 simp only [nmE2, List.mem_cons, List.not_mem_nil, or_false] at hs
 rcases hs with rfl; decide
theorem xv_leaf {u : World} {op a r b : Int} (h1 : I64 op) (h2 : I64 a) (h3 : I64 r) (h4 : I64 b) : XV u (.slice none 0 0) (.slice none 0 0) (.mk op a r b [] S4.zero []) :=
 ⟨Strs.nil, SlR.nil, ⟨h1, h2, h3, h4, fun s hs => by simp [X.ns] at hs, ⟨uz, uz, uz, uz⟩, Nat.zero_le _, Nat.zero_le _⟩⟩
theorem xv_roles (u : World) : XV u (.slice none 0 0) (.slice none 0 0) rolesX := xv_leaf ⟨by decide, by decide⟩ ⟨by decide, by decide⟩ ⟨by decide, by decide⟩ ⟨by decide, by decide⟩
theorem xv_levels (u : World) : XV u (.slice none 0 0) (.slice none 0 0) levelsX := xv_leaf ⟨by decide, by decide⟩ ⟨by decide, by decide⟩ ⟨by decide, by decide⟩ ⟨by decide, by decide⟩
theorem ex_m1 : meanT tysS atsS nmE1 = some ⟨5, 0, 0, 0⟩ := by decide +kernel
theorem ex_m2 : meanT tysS atsS nmE2 = none := by decide +kernel
theorem ex_ro : evX ⟨cxI, cxF, nocx⟩ rolesX = false := by decide +kernel
theorem ex_le : evX ⟨cxI, cxF, nocx⟩ levelsX = true := by decide +kernel
theorem ex_mn : mnX 6 15 rolesX = true := by decide +kernel
theorem ex_sm : smX 15 rolesX = true := by decide +kernel
theorem ex_ck : opE 10 rolesX = 0 := by decide +kernel
theorem ex_dn : dnL (evX ⟨cxI, cxF, nocx⟩) 1 0 [⟨1, 2, false, rolesX⟩] 0 (-1) = (2, 0) := by decide +kernel
end Go.Proofs.YtbhoofihnmmmfabGreat
