/- Part of the proof: Cym. No conditions. -/
import Derived.Test.YtbhoofihnmmmfabGreatYax
import Derived.Test.YtbhoofihnmmmfabGreatYbi
namespace Go.Proofs.YtbhoofihnmmmfabGreat
open Go.RowKit Go
/-- a slice literal -/
def Lst (u : World) (v : Value) (t : TypeId) (n : Nat) (cs : List Value) : Prop := ∃ g, v = .slice (some ⟨g, 0, none⟩) n n ∧ Blk u g t cs.toArray
theorem Lst.keep {u u' : World} {v : Value} {t : TypeId} {n : Nat} {cs : List Value} (h : Lst u v t n cs) (hb : Below u.heap.size u u') : Lst u' v t n cs := by
 obtain ⟨g, e, h⟩ := h
 exact ⟨g, e, h.keep hb⟩
def smP0 : List Value := [.string ⟨#[102, 111, 114, 107]⟩, .string ⟨#[116, 114, 97, 110, 115, 105, 116, 105, 111, 110]⟩, .string ⟨#[100, 121, 110, 116, 114, 97, 110, 115, 105, 116, 105, 111, 110]⟩, .string ⟨#[115, 101, 110, 100]⟩]
def smFile : List Value := [.string ⟨#[114, 101, 97, 100]⟩, .string ⟨#[119, 114, 105, 116, 101]⟩, .string ⟨#[99, 114, 101, 97, 116, 101]⟩, .string ⟨#[117, 110, 108, 105, 110, 107]⟩, .string ⟨#[101, 120, 101, 99, 117, 116, 101]⟩, .string ⟨#[101, 110, 116, 114, 121, 112, 111, 105, 110, 116]⟩, .string ⟨#[114, 101, 108, 97, 98, 101, 108, 102, 114, 111, 109]⟩, .string ⟨#[114, 101, 108, 97, 98, 101, 108, 116, 111]⟩]
def smDir : List Value := [.string ⟨#[114, 101, 97, 100]⟩, .string ⟨#[119, 114, 105, 116, 101]⟩, .string ⟨#[99, 114, 101, 97, 116, 101]⟩, .string ⟨#[117, 110, 108, 105, 110, 107]⟩, .string ⟨#[97, 100, 100]⟩, .string ⟨#[114, 101, 109, 111, 118, 101]⟩, .string ⟨#[114, 101, 108, 97, 98, 101, 108, 102, 114, 111, 109]⟩, .string ⟨#[114, 101, 108, 97, 98, 101, 108, 116, 111]⟩]
def smTys : List Value := [.string ⟨#[105, 110, 105, 116, 95, 116]⟩, .slice none 0 0, .bool false, .string ⟨#[117, 115, 101, 114, 95, 116]⟩, .slice none 0 0, .bool false, .string ⟨#[102, 105, 108, 101, 95, 116]⟩, .slice none 0 0, .bool false, .string ⟨#[115, 104, 101, 108, 108, 95, 116]⟩, .slice none 0 0, .bool false]
def smAts : List Value := [.string ⟨#[100, 111, 109, 97, 105, 110]⟩, .int .u64 (ofS [0, 1]).a, .int .u64 (ofS [0, 1]).b, .int .u64 (ofS [0, 1]).c, .int .u64 (ofS [0, 1]).d]
def smRos : List Value := [.string ⟨#[111, 98, 106, 101, 99, 116, 95, 114]⟩, .int .u64 0, .int .u64 0, .int .u64 0, .int .u64 0, .int .u64 0, .int .u64 0, .int .u64 0, .int .u64 0, .string ⟨#[115, 121, 115, 116, 101, 109]⟩, .int .u64 (ofS [0, 1]).a, .int .u64 (ofS [0, 1]).b, .int .u64 (ofS [0, 1]).c, .int .u64 (ofS [0, 1]).d, .int .u64 0, .int .u64 0, .int .u64 0, .int .u64 0]
def smUss : List Value := [.string ⟨#[114, 111, 111, 116]⟩, .int .u64 (ofS [1]).a, .int .u64 (ofS [1]).b, .int .u64 (ofS [1]).c, .int .u64 (ofS [1]).d, .int .i64 0, .int .u64 0, .int .i64 0, .int .u64 0, .int .i64 0, .int .u64 0]
def smBos : List Value := [.string ⟨#[115, 104, 97, 114, 101]⟩, .bool false]
def smSens : List Value := [.string ⟨#[115, 48]⟩]
def smCds : List Value := [.int .i64 1, .int .i64 0, .int .i64 0, .int .i64 0, .slice none 0 0, .int .u64 0, .int .u64 0, .int .u64 0, .int .u64 0, .slice none 0 0]
def smRus : List Value := [.int .i64 1, .int .u64 (ofS [0, 1]).a, .int .u64 (ofS [0, 1]).b, .int .u64 (ofS [0, 1]).c, .int .u64 (ofS [0, 1]).d, .int .u64 0, .int .u64 0, .int .u64 0, .int .u64 0, .bool true, .int .i64 0, .int .u32 9, .int .i64 0, .int .i64 1, .int .u64 (ofS [0]).a, .int .u64 (ofS [0]).b, .int .u64 (ofS [0]).c, .int .u64 (ofS [0]).d, .int .u64 (ofS [2, 3]).a, .int .u64 (ofS [2, 3]).b, .int .u64 (ofS [2, 3]).c, .int .u64 (ofS [2, 3]).d, .bool false, .int .i64 1, .int .u32 17, .int .i64 0, .int .i64 1, .int .u64 (ofS [0]).a, .int .u64 (ofS [0]).b, .int .u64 (ofS [0]).c, .int .u64 (ofS [0]).d, .int .u64 (ofS [1]).a, .int .u64 (ofS [1]).b, .int .u64 (ofS [1]).c, .int .u64 (ofS [1]).d, .bool false, .int .i64 0, .int .u32 2, .int .i64 0, .int .i64 1, .int .u64 (ofS [1]).a, .int .u64 (ofS [1]).b, .int .u64 (ofS [1]).c, .int .u64 (ofS [1]).d, .int .u64 (ofS [3]).a, .int .u64 (ofS [3]).b, .int .u64 (ofS [3]).c, .int .u64 (ofS [3]).d, .bool false, .int .i64 1, .int .u32 32, .int .i64 0, .int .i64 1, .int .u64 (ofS [1]).a, .int .u64 (ofS [1]).b, .int .u64 (ofS [1]).c, .int .u64 (ofS [1]).d, .int .u64 (ofS [2]).a, .int .u64 (ofS [2]).b, .int .u64 (ofS [2]).c, .int .u64 (ofS [2]).d, .bool false, .int .i64 1, .int .u32 1, .int .i64 1]
def smTrs : List Value := [.int .i64 1, .int .u64 (ofS [0]).a, .int .u64 (ofS [0]).b, .int .u64 (ofS [0]).c, .int .u64 (ofS [0]).d, .int .u64 (ofS [3]).a, .int .u64 (ofS [3]).b, .int .u64 (ofS [3]).c, .int .u64 (ofS [3]).d, .int .i64 0, .string ⟨#[]⟩, .int .i64 1, .int .i64 0]
def smSis : List Value := [.string ⟨#[107, 101, 114, 110, 101, 108]⟩, .int .i64 0, .int .i64 1, .int .i64 0, .int .i64 0, .int .u64 0, .int .i64 0, .int .u64 0, .string ⟨#[114, 111, 111, 116]⟩, .int .i64 0, .int .i64 0, .int .i64 2, .int .i64 0, .int .u64 0, .int .i64 0, .int .u64 0, .string ⟨#[117, 110, 108, 97, 98, 101, 108, 101, 100]⟩, .int .i64 0, .int .i64 0, .int .i64 2, .int .i64 0, .int .u64 0, .int .i64 0, .int .u64 0]
def smI01 : List Value := [.int .i64 0, .int .i64 1]
def smI23 : List Value := [.int .i64 2, .int .i64 3]
def smI0 : List Value := [.int .i64 0]
def smI1 : List Value := [.int .i64 1]
def smI2 : List Value := [.int .i64 2]
def smI3 : List Value := [.int .i64 3]
def smCls (p0 : Value) (gf gd : Nat) : List Value := [.string ⟨#[112, 114, 111, 99, 101, 115, 115]⟩, p0, .string ⟨#[102, 105, 108, 101]⟩, .slice (some ⟨gf, 0, none⟩) 8 8, .string ⟨#[100, 105, 114]⟩, .slice (some ⟨gd, 0, none⟩) 8 8]
def ClsL (gf gd : Nat) (u : World) (v : Value) : Prop := ∃ p0, Lst u p0 9 4 smP0 ∧ Lst u v 86 3 (smCls p0 gf gd)
def PolS (gf gd : Nat) (u : World) (v : Value) : Prop := ∃ v0 v1 v2 v3 v4 v5 v6 v8 v9 v10 v14, v = .agg #[v0, v1, v2, v3, v4, v5, v6, .slice none 0 0, v8, v9, v10, .slice none 0 0, .slice none 0 0, .slice none 0 0, v14, .slice none 0 0, .slice none 0 0] ∧ ClsL gf gd u v0 ∧ Lst u v1 82 4 smTys ∧ Lst u v2 89 1 smAts ∧ Lst u v3 91 2 smRos ∧ Lst u v4 93 1 smUss ∧ Lst u v5 95 1 smBos ∧ Lst u v6 9 1 smSens ∧ Lst u v8 55 1 smCds ∧ Lst u v9 97 5 smRus ∧ Lst u v10 80 1 smTrs ∧ Lst u v14 99 3 smSis
theorem ClsL.keep {gf gd : Nat} {u u' : World} {v : Value} (h : ClsL gf gd u v) (hb : Below u.heap.size u u') : ClsL gf gd u' v := by
 obtain ⟨p0, h1, h2⟩ := h
 exact ⟨p0, h1.keep hb, h2.keep hb⟩
theorem PolS.keep {gf gd : Nat} {u u' : World} {v : Value} (h : PolS gf gd u v) (hb : Below u.heap.size u u') : PolS gf gd u' v := by
 obtain ⟨v0, v1, v2, v3, v4, v5, v6, v8, v9, v10, v14, e, h0, hv1, hv2, hv3, hv4, hv5, hv6, hv8, hv9, hv10, hv14⟩ := h
 exact ⟨v0, v1, v2, v3, v4, v5, v6, v8, v9, v10, v14, e, h0.keep hb, hv1.keep hb, hv2.keep hb, hv3.keep hb, hv4.keep hb, hv5.keep hb, hv6.keep hb, hv8.keep hb, hv9.keep hb, hv10.keep hb, hv14.keep hb⟩
def smPhi (gf gd : Nat) (k : Nat) (v : Value) (u : World) : Prop := match k with
 | 0 => Lst u v 9 4 smP0
 | 1 => ∃ p, v = .agg #[.string ⟨#[112, 114, 111, 99, 101, 115, 115]⟩, p] ∧ Lst u p 9 4 smP0
 | 2 => v = .slice (some ⟨gf, 0, none⟩) 8 8
 | 3 => v = .agg #[.string ⟨#[102, 105, 108, 101]⟩, .slice (some ⟨gf, 0, none⟩) 8 8]
 | 4 => v = .slice (some ⟨gd, 0, none⟩) 8 8
 | 5 => v = .agg #[.string ⟨#[100, 105, 114]⟩, .slice (some ⟨gd, 0, none⟩) 8 8]
 | 6 => ClsL gf gd u v
 | 7 => v = .agg #[.string ⟨#[105, 110, 105, 116, 95, 116]⟩, .slice none 0 0, .bool false]
 | 8 => v = .agg #[.string ⟨#[117, 115, 101, 114, 95, 116]⟩, .slice none 0 0, .bool false]
 | 9 => v = .agg #[.string ⟨#[102, 105, 108, 101, 95, 116]⟩, .slice none 0 0, .bool false]
 | 10 => v = .agg #[.string ⟨#[115, 104, 101, 108, 108, 95, 116]⟩, .slice none 0 0, .bool false]
 | 11 => Lst u v 82 4 smTys
 | 12 => Lst u v 3 2 smI01
 | 13 => v = .agg #[.int .u64 (ofS [0, 1]).a, .int .u64 (ofS [0, 1]).b, .int .u64 (ofS [0, 1]).c, .int .u64 (ofS [0, 1]).d]
 | 14 => v = .agg #[.string ⟨#[100, 111, 109, 97, 105, 110]⟩, .int .u64 (ofS [0, 1]).a, .int .u64 (ofS [0, 1]).b, .int .u64 (ofS [0, 1]).c, .int .u64 (ofS [0, 1]).d]
 | 15 => Lst u v 89 1 smAts
 | 16 => v = .agg #[.string ⟨#[111, 98, 106, 101, 99, 116, 95, 114]⟩, .int .u64 0, .int .u64 0, .int .u64 0, .int .u64 0, .int .u64 0, .int .u64 0, .int .u64 0, .int .u64 0]
 | 17 => Lst u v 3 2 smI01
 | 18 => v = .agg #[.int .u64 (ofS [0, 1]).a, .int .u64 (ofS [0, 1]).b, .int .u64 (ofS [0, 1]).c, .int .u64 (ofS [0, 1]).d]
 | 19 => v = .agg #[.string ⟨#[115, 121, 115, 116, 101, 109]⟩, .int .u64 (ofS [0, 1]).a, .int .u64 (ofS [0, 1]).b, .int .u64 (ofS [0, 1]).c, .int .u64 (ofS [0, 1]).d, .int .u64 0, .int .u64 0, .int .u64 0, .int .u64 0]
 | 20 => Lst u v 91 2 smRos
 | 21 => Lst u v 3 1 smI1
 | 22 => v = .agg #[.int .u64 (ofS [1]).a, .int .u64 (ofS [1]).b, .int .u64 (ofS [1]).c, .int .u64 (ofS [1]).d]
 | 23 => v = .agg #[.string ⟨#[114, 111, 111, 116]⟩, .int .u64 (ofS [1]).a, .int .u64 (ofS [1]).b, .int .u64 (ofS [1]).c, .int .u64 (ofS [1]).d, .int .i64 0, .int .u64 0, .int .i64 0, .int .u64 0, .int .i64 0, .int .u64 0]
 | 24 => Lst u v 93 1 smUss
 | 25 => v = .agg #[.string ⟨#[115, 104, 97, 114, 101]⟩, .bool false]
 | 26 => Lst u v 95 1 smBos
 | 27 => Lst u v 9 1 smSens
 | 28 => v = .agg #[.int .i64 1, .int .i64 0, .int .i64 0, .int .i64 0, .slice none 0 0, .int .u64 0, .int .u64 0, .int .u64 0, .int .u64 0, .slice none 0 0]
 | 29 => Lst u v 55 1 smCds
 | 30 => Lst u v 3 2 smI01
 | 31 => v = .agg #[.int .u64 (ofS [0, 1]).a, .int .u64 (ofS [0, 1]).b, .int .u64 (ofS [0, 1]).c, .int .u64 (ofS [0, 1]).d]
 | 32 => v = .agg #[.int .i64 1, .int .u64 (ofS [0, 1]).a, .int .u64 (ofS [0, 1]).b, .int .u64 (ofS [0, 1]).c, .int .u64 (ofS [0, 1]).d, .int .u64 0, .int .u64 0, .int .u64 0, .int .u64 0, .bool true, .int .i64 0, .int .u32 9, .int .i64 0]
 | 33 => Lst u v 3 1 smI0
 | 34 => v = .agg #[.int .u64 (ofS [0]).a, .int .u64 (ofS [0]).b, .int .u64 (ofS [0]).c, .int .u64 (ofS [0]).d]
 | 35 => Lst u v 3 2 smI23
 | 36 => v = .agg #[.int .u64 (ofS [2, 3]).a, .int .u64 (ofS [2, 3]).b, .int .u64 (ofS [2, 3]).c, .int .u64 (ofS [2, 3]).d]
 | 37 => v = .agg #[.int .i64 1, .int .u64 (ofS [0]).a, .int .u64 (ofS [0]).b, .int .u64 (ofS [0]).c, .int .u64 (ofS [0]).d, .int .u64 (ofS [2, 3]).a, .int .u64 (ofS [2, 3]).b, .int .u64 (ofS [2, 3]).c, .int .u64 (ofS [2, 3]).d, .bool false, .int .i64 1, .int .u32 17, .int .i64 0]
 | 38 => Lst u v 3 1 smI0
 | 39 => v = .agg #[.int .u64 (ofS [0]).a, .int .u64 (ofS [0]).b, .int .u64 (ofS [0]).c, .int .u64 (ofS [0]).d]
 | 40 => Lst u v 3 1 smI1
 | 41 => v = .agg #[.int .u64 (ofS [1]).a, .int .u64 (ofS [1]).b, .int .u64 (ofS [1]).c, .int .u64 (ofS [1]).d]
 | 42 => v = .agg #[.int .i64 1, .int .u64 (ofS [0]).a, .int .u64 (ofS [0]).b, .int .u64 (ofS [0]).c, .int .u64 (ofS [0]).d, .int .u64 (ofS [1]).a, .int .u64 (ofS [1]).b, .int .u64 (ofS [1]).c, .int .u64 (ofS [1]).d, .bool false, .int .i64 0, .int .u32 2, .int .i64 0]
 | 43 => Lst u v 3 1 smI1
 | 44 => v = .agg #[.int .u64 (ofS [1]).a, .int .u64 (ofS [1]).b, .int .u64 (ofS [1]).c, .int .u64 (ofS [1]).d]
 | 45 => Lst u v 3 1 smI3
 | 46 => v = .agg #[.int .u64 (ofS [3]).a, .int .u64 (ofS [3]).b, .int .u64 (ofS [3]).c, .int .u64 (ofS [3]).d]
 | 47 => v = .agg #[.int .i64 1, .int .u64 (ofS [1]).a, .int .u64 (ofS [1]).b, .int .u64 (ofS [1]).c, .int .u64 (ofS [1]).d, .int .u64 (ofS [3]).a, .int .u64 (ofS [3]).b, .int .u64 (ofS [3]).c, .int .u64 (ofS [3]).d, .bool false, .int .i64 1, .int .u32 32, .int .i64 0]
 | 48 => Lst u v 3 1 smI1
 | 49 => v = .agg #[.int .u64 (ofS [1]).a, .int .u64 (ofS [1]).b, .int .u64 (ofS [1]).c, .int .u64 (ofS [1]).d]
 | 50 => Lst u v 3 1 smI2
 | 51 => v = .agg #[.int .u64 (ofS [2]).a, .int .u64 (ofS [2]).b, .int .u64 (ofS [2]).c, .int .u64 (ofS [2]).d]
 | 52 => v = .agg #[.int .i64 1, .int .u64 (ofS [1]).a, .int .u64 (ofS [1]).b, .int .u64 (ofS [1]).c, .int .u64 (ofS [1]).d, .int .u64 (ofS [2]).a, .int .u64 (ofS [2]).b, .int .u64 (ofS [2]).c, .int .u64 (ofS [2]).d, .bool false, .int .i64 1, .int .u32 1, .int .i64 1]
 | 53 => Lst u v 97 5 smRus
 | 54 => Lst u v 3 1 smI0
 | 55 => v = .agg #[.int .u64 (ofS [0]).a, .int .u64 (ofS [0]).b, .int .u64 (ofS [0]).c, .int .u64 (ofS [0]).d]
 | 56 => Lst u v 3 1 smI3
 | 57 => v = .agg #[.int .u64 (ofS [3]).a, .int .u64 (ofS [3]).b, .int .u64 (ofS [3]).c, .int .u64 (ofS [3]).d]
 | 58 => v = .agg #[.int .i64 1, .int .u64 (ofS [0]).a, .int .u64 (ofS [0]).b, .int .u64 (ofS [0]).c, .int .u64 (ofS [0]).d, .int .u64 (ofS [3]).a, .int .u64 (ofS [3]).b, .int .u64 (ofS [3]).c, .int .u64 (ofS [3]).d, .int .i64 0, .string ⟨#[]⟩, .int .i64 1, .int .i64 0]
 | 59 => Lst u v 80 1 smTrs
 | 60 => v = .agg #[.int .i64 0, .int .i64 1, .int .i64 0, .int .i64 0, .int .u64 0, .int .i64 0, .int .u64 0]
 | 61 => v = .agg #[.string ⟨#[107, 101, 114, 110, 101, 108]⟩, .int .i64 0, .int .i64 1, .int .i64 0, .int .i64 0, .int .u64 0, .int .i64 0, .int .u64 0]
 | 62 => v = .agg #[.int .i64 0, .int .i64 0, .int .i64 2, .int .i64 0, .int .u64 0, .int .i64 0, .int .u64 0]
 | 63 => v = .agg #[.string ⟨#[114, 111, 111, 116]⟩, .int .i64 0, .int .i64 0, .int .i64 2, .int .i64 0, .int .u64 0, .int .i64 0, .int .u64 0]
 | 64 => v = .agg #[.int .i64 0, .int .i64 0, .int .i64 2, .int .i64 0, .int .u64 0, .int .i64 0, .int .u64 0]
 | 65 => v = .agg #[.string ⟨#[117, 110, 108, 97, 98, 101, 108, 101, 100]⟩, .int .i64 0, .int .i64 0, .int .i64 2, .int .i64 0, .int .u64 0, .int .i64 0, .int .u64 0]
 | 66 => Lst u v 99 3 smSis
 | 67 => PolS gf gd u v
 | _ => True
theorem smPhi_keep {gf gd k : Nat} {v : Value} {u u' : World} (h : smPhi gf gd k v u) (hb : Below u.heap.size u u') : smPhi gf gd k v u' := by
 unfold smPhi at h ⊢
 split at h
 · exact h.keep hb
 · obtain ⟨p, e, h⟩ := h
   exact ⟨p, e, h.keep hb⟩
 · exact h
 · exact h
 · exact h
 · exact h
 · exact h.keep hb
 · exact h
 · exact h
 · exact h
 · exact h
 · exact h.keep hb
 · exact h.keep hb
 · exact h
 · exact h
 · exact h.keep hb
 · exact h
 · exact h.keep hb
 · exact h
 · exact h
 · exact h.keep hb
 · exact h.keep hb
 · exact h
 · exact h
 · exact h.keep hb
 · exact h
 · exact h.keep hb
 · exact h.keep hb
 · exact h
 · exact h.keep hb
 · exact h.keep hb
 · exact h
 · exact h
 · exact h.keep hb
 · exact h
 · exact h.keep hb
 · exact h
 · exact h
 · exact h.keep hb
 · exact h
 · exact h.keep hb
 · exact h
 · exact h
 · exact h.keep hb
 · exact h
 · exact h.keep hb
 · exact h
 · exact h
 · exact h.keep hb
 · exact h
 · exact h.keep hb
 · exact h
 · exact h
 · exact h.keep hb
 · exact h.keep hb
 · exact h
 · exact h.keep hb
 · exact h
 · exact h
 · exact h.keep hb
 · exact h
 · exact h
 · exact h
 · exact h
 · exact h
 · exact h
 · exact h.keep hb
 · exact h.keep hb
 · trivial
theorem ofL_c {u : World} {v : Value} (l : List Int) (h : Lst u v 3 l.length (l.map fun n => Value.int .i64 n)) (hm : l.length ≤ maxLen) : Calls Tryz.prog 36 #[v] u fun e w' => e = .returned (.agg #[.int .u64 (ofS l).a, .int .u64 (ofS l).b, .int .u64 (ofS l).c, .int .u64 (ofS l).d]) ∧ Below u.heap.size u w' := by
 obtain ⟨g, rfl, hb⟩ := h
 refine rof_c _ l _ u (fun i hi => ⟨g, 0, rfl, ?_, hb.lt⟩) hm
 rw [hb.cell (0 + i)]
 simp [hi]
set_option maxRecDepth 100000 in
theorem init_c (w : World) : Calls Tryz.prog 15 #[] w fun e w' => e = .returned (.agg #[.int .i64 0, .int .i64 1, .int .i64 0, .int .i64 0, .int .u64 0, .int .i64 0, .int .u64 0]) ∧ Below w.heap.size w w' := by
 go_enter Tryz.func15, Tryz.ntmps15
 go_wp2_with fail
 exact bodyPost_ret (v := .agg #[.int .i64 0, .int .i64 1, .int .i64 0, .int .i64 0, .int .u64 0, .int .i64 0, .int .u64 0]) (ctx_ret (a := ⟨0, 1, 0, zcl, zcl⟩) Tryz.results15 rfl (Blk.new w _ _)) rfl ⟨rfl, (Below.refl _ _).alloc (Nat.le_refl _) _⟩
set_option maxRecDepth 100000 in
theorem file_c (w : World) : Calls Tryz.prog 16 #[] w fun e w' => e = .returned (.agg #[.int .i64 0, .int .i64 0, .int .i64 2, .int .i64 0, .int .u64 0, .int .i64 0, .int .u64 0]) ∧ Below w.heap.size w w' := by
 go_enter Tryz.func16, Tryz.ntmps16
 go_wp2_with fail
 exact bodyPost_ret (v := .agg #[.int .i64 0, .int .i64 0, .int .i64 2, .int .i64 0, .int .u64 0, .int .i64 0, .int .u64 0]) (ctx_ret (a := ⟨0, 0, 2, zcl, zcl⟩) Tryz.results16 rfl (Blk.new w _ _)) rfl ⟨rfl, (Below.refl _ _).alloc (Nat.le_refl _) _⟩
theorem blk_other {u : World} {g g0 : Nat} {T P : TypeId} {cs cs0 : Array Value} (h : Blk u g T cs) (hR : Blk u g0 P cs0) (hne : T ≠ P) (cs1 : Array Value) : Blk (u.setRow g0 cs1) g T cs := by
 refine h.other (fun e => ?_) cs1
 subst e
 unfold Blk at h hR
 rw [h] at hR
 simp only [Option.some.injEq, Obj.cells.injEq] at hR
 exact hne hR.2.1
theorem Lst.other {u : World} {v : Value} {T P : TypeId} {n g0 : Nat} {cs : List Value} {cs0 : Array Value} (h : Lst u v T n cs) (hR : Blk u g0 P cs0) (hne : T ≠ P) (cs1 : Array Value) : Lst (u.setRow g0 cs1) v T n cs := by
 obtain ⟨g, e, hb⟩ := h
 exact ⟨g, e, blk_other hb hR hne cs1⟩
theorem ClsL.other {u : World} {v : Value} {gf gd g0 : Nat} {cs0 : Array Value} (h : ClsL gf gd u v) (hR : Blk u g0 39 cs0) (cs1 : Array Value) : ClsL gf gd (u.setRow g0 cs1) v := by
 obtain ⟨p0, h1, h2⟩ := h
 exact ⟨p0, h1.other hR (by decide) cs1, h2.other hR (by decide) cs1⟩
theorem agg_pol (w : World) : (isAgg 39).run Tryz.prog w = .ok true w := by go_simp
theorem size_pol (w : World) : (sizeOf 39).run Tryz.prog w = .ok 17 w := by go_simp
theorem blk_ret {fn : Func} {tmps : Array Value} {t T : TypeId} {w : World} {g : Nat} (cs : List Value) (h : fn.results = #[.cell t T]) (ht : tmps.getD t undef = .pointer (some ⟨g, 0, none⟩)) {ty : TypeId} (hagg : (isAgg T).run Tryz.prog w = .ok true w) (hsz : (sizeOf T).run Tryz.prog w = .ok cs.length w) (q : Blk w g ty cs.toArray) :
 (results fn tmps).run Tryz.prog w = .ok (.agg cs.toArray) w := by
 have hl := loadAt_blk cs hagg hsz q
 unfold Instr.loadAt Instr.sureAddr at hl
 simp only [Sem.run_bind, Sem.run_pure, Result.andThen_ok] at hl
 have ht' : tmps[t]?.getD undef = .pointer (some ⟨g, 0, none⟩) := by simpa using ht
 simp [results, h, ht', asAddr, hl]
set_option maxRecDepth 100000 in
set_option maxHeartbeats 64000000 in
theorem sample_c (w : World) : Calls Tryz.prog 13 #[] w fun e w' => ∃ v gf gd, e = .returned v ∧ PolS gf gd w' v ∧ Blk w' gf 9 smFile.toArray ∧ Blk w' gd 9 smDir.toArray ∧ Below w.heap.size w w' := by
 have HB : Hid (Below w.heap.size w (((w.alloc (.cells #[.slice none 0 0, .slice none 0 0, .slice none 0 0, .slice none 0 0, .slice none 0 0, .slice none 0 0, .slice none 0 0, .slice none 0 0, .slice none 0 0, .slice none 0 0, .slice none 0 0, .slice none 0 0, .slice none 0 0, .slice none 0 0, .slice none 0 0, .slice none 0 0, .slice none 0 0] 39)).alloc (.cells #[.string ⟨#[114, 101, 97, 100]⟩, .string ⟨#[119, 114, 105, 116, 101]⟩, .string ⟨#[99, 114, 101, 97, 116, 101]⟩, .string ⟨#[117, 110, 108, 105, 110, 107]⟩, .string ⟨#[101, 120, 101, 99, 117, 116, 101]⟩, .string ⟨#[101, 110, 116, 114, 121, 112, 111, 105, 110, 116]⟩, .string ⟨#[114, 101, 108, 97, 98, 101, 108, 102, 114, 111, 109]⟩, .string ⟨#[114, 101, 108, 97, 98, 101, 108, 116, 111]⟩] 9)).alloc (.cells #[.string ⟨#[114, 101, 97, 100]⟩, .string ⟨#[119, 114, 105, 116, 101]⟩, .string ⟨#[99, 114, 101, 97, 116, 101]⟩, .string ⟨#[117, 110, 108, 105, 110, 107]⟩, .string ⟨#[97, 100, 100]⟩, .string ⟨#[114, 101, 109, 111, 118, 101]⟩, .string ⟨#[114, 101, 108, 97, 98, 101, 108, 102, 114, 111, 109]⟩, .string ⟨#[114, 101, 108, 97, 98, 101, 108, 116, 111]⟩] 9))) := Lib.hid ((((Below.refl _ _).alloc (Nat.le_refl _) _).alloc (by simp) _).alloc (by simp; omega) _)
 have HR : Hid (Blk (((w.alloc (.cells #[.slice none 0 0, .slice none 0 0, .slice none 0 0, .slice none 0 0, .slice none 0 0, .slice none 0 0, .slice none 0 0, .slice none 0 0, .slice none 0 0, .slice none 0 0, .slice none 0 0, .slice none 0 0, .slice none 0 0, .slice none 0 0, .slice none 0 0, .slice none 0 0, .slice none 0 0] 39)).alloc (.cells #[.string ⟨#[114, 101, 97, 100]⟩, .string ⟨#[119, 114, 105, 116, 101]⟩, .string ⟨#[99, 114, 101, 97, 116, 101]⟩, .string ⟨#[117, 110, 108, 105, 110, 107]⟩, .string ⟨#[101, 120, 101, 99, 117, 116, 101]⟩, .string ⟨#[101, 110, 116, 114, 121, 112, 111, 105, 110, 116]⟩, .string ⟨#[114, 101, 108, 97, 98, 101, 108, 102, 114, 111, 109]⟩, .string ⟨#[114, 101, 108, 97, 98, 101, 108, 116, 111]⟩] 9)).alloc (.cells #[.string ⟨#[114, 101, 97, 100]⟩, .string ⟨#[119, 114, 105, 116, 101]⟩, .string ⟨#[99, 114, 101, 97, 116, 101]⟩, .string ⟨#[117, 110, 108, 105, 110, 107]⟩, .string ⟨#[97, 100, 100]⟩, .string ⟨#[114, 101, 109, 111, 118, 101]⟩, .string ⟨#[114, 101, 108, 97, 98, 101, 108, 102, 114, 111, 109]⟩, .string ⟨#[114, 101, 108, 97, 98, 101, 108, 116, 111]⟩] 9)) w.heap.size 39 #[.slice none 0 0, .slice none 0 0, .slice none 0 0, .slice none 0 0, .slice none 0 0, .slice none 0 0, .slice none 0 0, .slice none 0 0, .slice none 0 0, .slice none 0 0, .slice none 0 0, .slice none 0 0, .slice none 0 0, .slice none 0 0, .slice none 0 0, .slice none 0 0, .slice none 0 0]) := Lib.hid (((Blk.new w _ _).alloc _).alloc _)
 have HF : Hid (Blk (((w.alloc (.cells #[.slice none 0 0, .slice none 0 0, .slice none 0 0, .slice none 0 0, .slice none 0 0, .slice none 0 0, .slice none 0 0, .slice none 0 0, .slice none 0 0, .slice none 0 0, .slice none 0 0, .slice none 0 0, .slice none 0 0, .slice none 0 0, .slice none 0 0, .slice none 0 0, .slice none 0 0] 39)).alloc (.cells #[.string ⟨#[114, 101, 97, 100]⟩, .string ⟨#[119, 114, 105, 116, 101]⟩, .string ⟨#[99, 114, 101, 97, 116, 101]⟩, .string ⟨#[117, 110, 108, 105, 110, 107]⟩, .string ⟨#[101, 120, 101, 99, 117, 116, 101]⟩, .string ⟨#[101, 110, 116, 114, 121, 112, 111, 105, 110, 116]⟩, .string ⟨#[114, 101, 108, 97, 98, 101, 108, 102, 114, 111, 109]⟩, .string ⟨#[114, 101, 108, 97, 98, 101, 108, 116, 111]⟩] 9)).alloc (.cells #[.string ⟨#[114, 101, 97, 100]⟩, .string ⟨#[119, 114, 105, 116, 101]⟩, .string ⟨#[99, 114, 101, 97, 116, 101]⟩, .string ⟨#[117, 110, 108, 105, 110, 107]⟩, .string ⟨#[97, 100, 100]⟩, .string ⟨#[114, 101, 109, 111, 118, 101]⟩, .string ⟨#[114, 101, 108, 97, 98, 101, 108, 102, 114, 111, 109]⟩, .string ⟨#[114, 101, 108, 97, 98, 101, 108, 116, 111]⟩] 9)) (w.heap.size + 1) 9 smFile.toArray) := Lib.hid ((two_new' _ _ _ _).alloc _)
 have HD : Hid (Blk (((w.alloc (.cells #[.slice none 0 0, .slice none 0 0, .slice none 0 0, .slice none 0 0, .slice none 0 0, .slice none 0 0, .slice none 0 0, .slice none 0 0, .slice none 0 0, .slice none 0 0, .slice none 0 0, .slice none 0 0, .slice none 0 0, .slice none 0 0, .slice none 0 0, .slice none 0 0, .slice none 0 0] 39)).alloc (.cells #[.string ⟨#[114, 101, 97, 100]⟩, .string ⟨#[119, 114, 105, 116, 101]⟩, .string ⟨#[99, 114, 101, 97, 116, 101]⟩, .string ⟨#[117, 110, 108, 105, 110, 107]⟩, .string ⟨#[101, 120, 101, 99, 117, 116, 101]⟩, .string ⟨#[101, 110, 116, 114, 121, 112, 111, 105, 110, 116]⟩, .string ⟨#[114, 101, 108, 97, 98, 101, 108, 102, 114, 111, 109]⟩, .string ⟨#[114, 101, 108, 97, 98, 101, 108, 116, 111]⟩] 9)).alloc (.cells #[.string ⟨#[114, 101, 97, 100]⟩, .string ⟨#[119, 114, 105, 116, 101]⟩, .string ⟨#[99, 114, 101, 97, 116, 101]⟩, .string ⟨#[117, 110, 108, 105, 110, 107]⟩, .string ⟨#[97, 100, 100]⟩, .string ⟨#[114, 101, 109, 111, 118, 101]⟩, .string ⟨#[114, 101, 108, 97, 98, 101, 108, 102, 114, 111, 109]⟩, .string ⟨#[114, 101, 108, 97, 98, 101, 108, 116, 111]⟩] 9)) (w.heap.size + 1 + 1) 9 smDir.toArray) := Lib.hid (three_new' _ _ _ _ _)
 go_enter Tryz.func13, Tryz.ntmps13
 go_upto_region 3 with fail
 generalize ((w.alloc (.cells #[.slice none 0 0, .slice none 0 0, .slice none 0 0, .slice none 0 0, .slice none 0 0, .slice none 0 0, .slice none 0 0, .slice none 0 0, .slice none 0 0, .slice none 0 0, .slice none 0 0, .slice none 0 0, .slice none 0 0, .slice none 0 0, .slice none 0 0, .slice none 0 0, .slice none 0 0] 39)).alloc (.cells #[.string ⟨#[114, 101, 97, 100]⟩, .string ⟨#[119, 114, 105, 116, 101]⟩, .string ⟨#[99, 114, 101, 97, 116, 101]⟩, .string ⟨#[117, 110, 108, 105, 110, 107]⟩, .string ⟨#[101, 120, 101, 99, 117, 116, 101]⟩, .string ⟨#[101, 110, 116, 114, 121, 112, 111, 105, 110, 116]⟩, .string ⟨#[114, 101, 108, 97, 98, 101, 108, 102, 114, 111, 109]⟩, .string ⟨#[114, 101, 108, 97, 98, 101, 108, 116, 111]⟩] 9)).alloc (.cells #[.string ⟨#[114, 101, 97, 100]⟩, .string ⟨#[119, 114, 105, 116, 101]⟩, .string ⟨#[99, 114, 101, 97, 116, 101]⟩, .string ⟨#[117, 110, 108, 105, 110, 107]⟩, .string ⟨#[97, 100, 100]⟩, .string ⟨#[114, 101, 109, 111, 118, 101]⟩, .string ⟨#[114, 101, 108, 97, 98, 101, 108, 102, 114, 111, 109]⟩, .string ⟨#[114, 101, 108, 97, 98, 101, 108, 116, 111]⟩] 9) = W at *
 have HLE : Hid (w.heap.size ≤ W.heap.size) := Lib.hid HB.out.size
 generalize w.heap.size + 1 + 1 = gd at *
 generalize w.heap.size + 1 = gf at *
 generalize hg0 : w.heap.size = g0 at *
 refine wp_region_sqt 68 (smPhi gf gd) (by decide) (by kernel_rfl) (fun k v u u2 h hb => smPhi_keep h hb) ?_ ?_
 · refine ⟨⟨trivial, fun A u hK hF => ?_⟩, ⟨trivial, fun A u hK hF => ?_⟩, ⟨trivial, fun A u hK hF => ?_⟩, ⟨trivial, fun A u hK hF => ?_⟩, ⟨trivial, fun A u hK hF => ?_⟩, ⟨trivial, fun A u hK hF => ?_⟩, ⟨trivial, fun A u hK hF => ?_⟩, ⟨trivial, fun A u hK hF => ?_⟩, ⟨trivial, fun A u hK hF => ?_⟩, ⟨trivial, fun A u hK hF => ?_⟩, ⟨trivial, fun A u hK hF => ?_⟩, ⟨trivial, fun A u hK hF => ?_⟩, ⟨trivial, fun A u hK hF => ?_⟩, ⟨trivial, fun A u hK hF => ?_⟩, ⟨trivial, fun A u hK hF => ?_⟩, ⟨trivial, fun A u hK hF => ?_⟩, ⟨trivial, fun A u hK hF => ?_⟩, ⟨trivial, fun A u hK hF => ?_⟩, ⟨trivial, fun A u hK hF => ?_⟩, ⟨trivial, fun A u hK hF => ?_⟩, ⟨trivial, fun A u hK hF => ?_⟩, ⟨trivial, fun A u hK hF => ?_⟩, ⟨trivial, fun A u hK hF => ?_⟩, ⟨trivial, fun A u hK hF => ?_⟩, ⟨trivial, fun A u hK hF => ?_⟩, ⟨trivial, fun A u hK hF => ?_⟩, ⟨trivial, fun A u hK hF => ?_⟩, ⟨trivial, fun A u hK hF => ?_⟩, ⟨trivial, fun A u hK hF => ?_⟩, ⟨trivial, fun A u hK hF => ?_⟩, ⟨trivial, fun A u hK hF => ?_⟩, ⟨trivial, fun A u hK hF => ?_⟩, ⟨trivial, fun A u hK hF => ?_⟩, ⟨trivial, fun A u hK hF => ?_⟩, ⟨trivial, fun A u hK hF => ?_⟩, ⟨trivial, fun A u hK hF => ?_⟩, ⟨trivial, fun A u hK hF => ?_⟩, ⟨trivial, fun A u hK hF => ?_⟩, ⟨trivial, fun A u hK hF => ?_⟩, ⟨trivial, fun A u hK hF => ?_⟩, ⟨trivial, fun A u hK hF => ?_⟩, ⟨trivial, fun A u hK hF => ?_⟩, ⟨trivial, fun A u hK hF => ?_⟩, ⟨trivial, fun A u hK hF => ?_⟩, ⟨trivial, fun A u hK hF => ?_⟩, ⟨trivial, fun A u hK hF => ?_⟩, ⟨trivial, fun A u hK hF => ?_⟩, ⟨trivial, fun A u hK hF => ?_⟩, ⟨trivial, fun A u hK hF => ?_⟩, ⟨trivial, fun A u hK hF => ?_⟩, ⟨trivial, fun A u hK hF => ?_⟩, ⟨trivial, fun A u hK hF => ?_⟩, ⟨trivial, fun A u hK hF => ?_⟩, ⟨trivial, fun A u hK hF => ?_⟩, ⟨trivial, fun A u hK hF => ?_⟩, ⟨trivial, fun A u hK hF => ?_⟩, ⟨trivial, fun A u hK hF => ?_⟩, ⟨trivial, fun A u hK hF => ?_⟩, ⟨trivial, fun A u hK hF => ?_⟩, ⟨trivial, fun A u hK hF => ?_⟩, ⟨trivial, fun A u hK hF => ?_⟩, ⟨trivial, fun A u hK hF => ?_⟩, ⟨trivial, fun A u hK hF => ?_⟩, ⟨trivial, fun A u hK hF => ?_⟩, ⟨trivial, fun A u hK hF => ?_⟩, ⟨trivial, fun A u hK hF => ?_⟩, ⟨trivial, fun A u hK hF => ?_⟩, ⟨trivial, fun A u hK hF => ?_⟩, trivial⟩
   · unfold Gives
     go_simp
     exact gives_val ((Below.refl _ _).alloc (Nat.le_refl _) _) ⟨_, rfl, Blk.new _ _ _⟩
   · obtain ⟨g5, f5, h5⟩ := (fact_some (hF 5) (j := 0) (by kernel_rfl) (by kernel_rfl) : Lst u (A.tmps[5]?.getD undef) 9 4 smP0)
     unfold Gives
     go_simp
     exact gives_val (Below.refl _ _) ⟨_, rfl, g5, rfl, h5⟩
   · have f1 : A.tmps[1]?.getD undef = .slice (some ⟨gf, 0, none⟩) 8 8 := fact_none (hF 1) (by kernel_rfl)
     unfold Gives
     go_simp
     exact gives_val (Below.refl _ _) rfl
   · have f7 : A.tmps[7]?.getD undef = .slice (some ⟨gf, 0, none⟩) 8 8 := fact_some (hF 7) (j := 2) (by kernel_rfl) (by kernel_rfl)
     unfold Gives
     go_simp
     exact gives_val (Below.refl _ _) rfl
   · have f2 : A.tmps[2]?.getD undef = .slice (some ⟨gd, 0, none⟩) 8 8 := fact_none (hF 2) (by kernel_rfl)
     unfold Gives
     go_simp
     exact gives_val (Below.refl _ _) rfl
   · have f9 : A.tmps[9]?.getD undef = .slice (some ⟨gd, 0, none⟩) 8 8 := fact_some (hF 9) (j := 4) (by kernel_rfl) (by kernel_rfl)
     unfold Gives
     go_simp
     exact gives_val (Below.refl _ _) rfl
   · obtain ⟨p6, f6, l6⟩ := (fact_some (hF 6) (j := 1) (by kernel_rfl) (by kernel_rfl) : ∃ p, (A.tmps[6]?.getD undef) = .agg #[.string ⟨#[112, 114, 111, 99, 101, 115, 115]⟩, p] ∧ Lst u p 9 4 smP0)
     obtain ⟨g6, rfl, h6⟩ := l6
     have f8 : A.tmps[8]?.getD undef = .agg #[.string ⟨#[102, 105, 108, 101]⟩, .slice (some ⟨gf, 0, none⟩) 8 8] := fact_some (hF 8) (j := 3) (by kernel_rfl) (by kernel_rfl)
     have f10 : A.tmps[10]?.getD undef = .agg #[.string ⟨#[100, 105, 114]⟩, .slice (some ⟨gd, 0, none⟩) 8 8] := fact_some (hF 10) (j := 5) (by kernel_rfl) (by kernel_rfl)
     unfold Gives
     go_simp
     exact gives_val ((Below.refl _ _).alloc (Nat.le_refl _) _) ⟨_, Lst.keep ⟨_, rfl, h6⟩ ((Below.refl _ _).alloc (Nat.le_refl _) _), _, rfl, Blk.new _ _ _⟩
   · unfold Gives
     go_simp
     exact gives_val (Below.refl _ _) rfl
   · unfold Gives
     go_simp
     exact gives_val (Below.refl _ _) rfl
   · unfold Gives
     go_simp
     exact gives_val (Below.refl _ _) rfl
   · unfold Gives
     go_simp
     exact gives_val (Below.refl _ _) rfl
   · have f12 : A.tmps[12]?.getD undef = .agg #[.string ⟨#[105, 110, 105, 116, 95, 116]⟩, .slice none 0 0, .bool false] := fact_some (hF 12) (j := 7) (by kernel_rfl) (by kernel_rfl)
     have f13 : A.tmps[13]?.getD undef = .agg #[.string ⟨#[117, 115, 101, 114, 95, 116]⟩, .slice none 0 0, .bool false] := fact_some (hF 13) (j := 8) (by kernel_rfl) (by kernel_rfl)
     have f14 : A.tmps[14]?.getD undef = .agg #[.string ⟨#[102, 105, 108, 101, 95, 116]⟩, .slice none 0 0, .bool false] := fact_some (hF 14) (j := 9) (by kernel_rfl) (by kernel_rfl)
     have f15 : A.tmps[15]?.getD undef = .agg #[.string ⟨#[115, 104, 101, 108, 108, 95, 116]⟩, .slice none 0 0, .bool false] := fact_some (hF 15) (j := 10) (by kernel_rfl) (by kernel_rfl)
     unfold Gives
     go_simp
     exact gives_val ((Below.refl _ _).alloc (Nat.le_refl _) _) ⟨_, rfl, Blk.new _ _ _⟩
   · unfold Gives
     go_simp
     exact gives_val ((Below.refl _ _).alloc (Nat.le_refl _) _) ⟨_, rfl, Blk.new _ _ _⟩
   · have l17 : Lst u (A.tmps[17]?.getD undef) 3 2 smI01 := fact_some (hF 17) (j := 12) (by kernel_rfl) (by kernel_rfl)
     unfold Gives
     go_simp
     exact gives_enter ((ofL_c [0, 1] l17 (by decide)).mono fun e w2 ⟨he, hb⟩ => ⟨_, he, hb, rfl⟩)
   · have f18 : A.tmps[18]?.getD undef = .agg #[.int .u64 (ofS [0, 1]).a, .int .u64 (ofS [0, 1]).b, .int .u64 (ofS [0, 1]).c, .int .u64 (ofS [0, 1]).d] := fact_some (hF 18) (j := 13) (by kernel_rfl) (by kernel_rfl)
     unfold Gives
     go_simp
     exact gives_val (Below.refl _ _) rfl
   · have f19 : A.tmps[19]?.getD undef = .agg #[.string ⟨#[100, 111, 109, 97, 105, 110]⟩, .int .u64 (ofS [0, 1]).a, .int .u64 (ofS [0, 1]).b, .int .u64 (ofS [0, 1]).c, .int .u64 (ofS [0, 1]).d] := fact_some (hF 19) (j := 14) (by kernel_rfl) (by kernel_rfl)
     unfold Gives
     go_simp
     exact gives_val ((Below.refl _ _).alloc (Nat.le_refl _) _) ⟨_, rfl, Blk.new _ _ _⟩
   · unfold Gives
     go_simp
     exact gives_val (Below.refl _ _) rfl
   · unfold Gives
     go_simp
     exact gives_val ((Below.refl _ _).alloc (Nat.le_refl _) _) ⟨_, rfl, Blk.new _ _ _⟩
   · have l22 : Lst u (A.tmps[22]?.getD undef) 3 2 smI01 := fact_some (hF 22) (j := 17) (by kernel_rfl) (by kernel_rfl)
     unfold Gives
     go_simp
     exact gives_enter ((ofL_c [0, 1] l22 (by decide)).mono fun e w2 ⟨he, hb⟩ => ⟨_, he, hb, rfl⟩)
   · have f23 : A.tmps[23]?.getD undef = .agg #[.int .u64 (ofS [0, 1]).a, .int .u64 (ofS [0, 1]).b, .int .u64 (ofS [0, 1]).c, .int .u64 (ofS [0, 1]).d] := fact_some (hF 23) (j := 18) (by kernel_rfl) (by kernel_rfl)
     unfold Gives
     go_simp
     exact gives_val (Below.refl _ _) rfl
   · have f21 : A.tmps[21]?.getD undef = .agg #[.string ⟨#[111, 98, 106, 101, 99, 116, 95, 114]⟩, .int .u64 0, .int .u64 0, .int .u64 0, .int .u64 0, .int .u64 0, .int .u64 0, .int .u64 0, .int .u64 0] := fact_some (hF 21) (j := 16) (by kernel_rfl) (by kernel_rfl)
     have f24 : A.tmps[24]?.getD undef = .agg #[.string ⟨#[115, 121, 115, 116, 101, 109]⟩, .int .u64 (ofS [0, 1]).a, .int .u64 (ofS [0, 1]).b, .int .u64 (ofS [0, 1]).c, .int .u64 (ofS [0, 1]).d, .int .u64 0, .int .u64 0, .int .u64 0, .int .u64 0] := fact_some (hF 24) (j := 19) (by kernel_rfl) (by kernel_rfl)
     unfold Gives
     go_simp
     exact gives_val ((Below.refl _ _).alloc (Nat.le_refl _) _) ⟨_, rfl, Blk.new _ _ _⟩
   · unfold Gives
     go_simp
     exact gives_val ((Below.refl _ _).alloc (Nat.le_refl _) _) ⟨_, rfl, Blk.new _ _ _⟩
   · have l26 : Lst u (A.tmps[26]?.getD undef) 3 1 smI1 := fact_some (hF 26) (j := 21) (by kernel_rfl) (by kernel_rfl)
     unfold Gives
     go_simp
     exact gives_enter ((ofL_c [1] l26 (by decide)).mono fun e w2 ⟨he, hb⟩ => ⟨_, he, hb, rfl⟩)
   · have f27 : A.tmps[27]?.getD undef = .agg #[.int .u64 (ofS [1]).a, .int .u64 (ofS [1]).b, .int .u64 (ofS [1]).c, .int .u64 (ofS [1]).d] := fact_some (hF 27) (j := 22) (by kernel_rfl) (by kernel_rfl)
     unfold Gives
     go_simp
     exact gives_val (Below.refl _ _) rfl
   · have f28 : A.tmps[28]?.getD undef = .agg #[.string ⟨#[114, 111, 111, 116]⟩, .int .u64 (ofS [1]).a, .int .u64 (ofS [1]).b, .int .u64 (ofS [1]).c, .int .u64 (ofS [1]).d, .int .i64 0, .int .u64 0, .int .i64 0, .int .u64 0, .int .i64 0, .int .u64 0] := fact_some (hF 28) (j := 23) (by kernel_rfl) (by kernel_rfl)
     unfold Gives
     go_simp
     exact gives_val ((Below.refl _ _).alloc (Nat.le_refl _) _) ⟨_, rfl, Blk.new _ _ _⟩
   · unfold Gives
     go_simp
     exact gives_val (Below.refl _ _) rfl
   · have f30 : A.tmps[30]?.getD undef = .agg #[.string ⟨#[115, 104, 97, 114, 101]⟩, .bool false] := fact_some (hF 30) (j := 25) (by kernel_rfl) (by kernel_rfl)
     unfold Gives
     go_simp
     exact gives_val ((Below.refl _ _).alloc (Nat.le_refl _) _) ⟨_, rfl, Blk.new _ _ _⟩
   · unfold Gives
     go_simp
     exact gives_val ((Below.refl _ _).alloc (Nat.le_refl _) _) ⟨_, rfl, Blk.new _ _ _⟩
   · unfold Gives
     go_simp
     exact gives_val (Below.refl _ _) rfl
   · have f33 : A.tmps[33]?.getD undef = .agg #[.int .i64 1, .int .i64 0, .int .i64 0, .int .i64 0, .slice none 0 0, .int .u64 0, .int .u64 0, .int .u64 0, .int .u64 0, .slice none 0 0] := fact_some (hF 33) (j := 28) (by kernel_rfl) (by kernel_rfl)
     unfold Gives
     go_simp
     exact gives_val ((Below.refl _ _).alloc (Nat.le_refl _) _) ⟨_, rfl, Blk.new _ _ _⟩
   · unfold Gives
     go_simp
     exact gives_val ((Below.refl _ _).alloc (Nat.le_refl _) _) ⟨_, rfl, Blk.new _ _ _⟩
   · have l35 : Lst u (A.tmps[35]?.getD undef) 3 2 smI01 := fact_some (hF 35) (j := 30) (by kernel_rfl) (by kernel_rfl)
     unfold Gives
     go_simp
     exact gives_enter ((ofL_c [0, 1] l35 (by decide)).mono fun e w2 ⟨he, hb⟩ => ⟨_, he, hb, rfl⟩)
   · have f36 : A.tmps[36]?.getD undef = .agg #[.int .u64 (ofS [0, 1]).a, .int .u64 (ofS [0, 1]).b, .int .u64 (ofS [0, 1]).c, .int .u64 (ofS [0, 1]).d] := fact_some (hF 36) (j := 31) (by kernel_rfl) (by kernel_rfl)
     unfold Gives
     go_simp
     exact gives_val (Below.refl _ _) rfl
   · unfold Gives
     go_simp
     exact gives_val ((Below.refl _ _).alloc (Nat.le_refl _) _) ⟨_, rfl, Blk.new _ _ _⟩
   · have l38 : Lst u (A.tmps[38]?.getD undef) 3 1 smI0 := fact_some (hF 38) (j := 33) (by kernel_rfl) (by kernel_rfl)
     unfold Gives
     go_simp
     exact gives_enter ((ofL_c [0] l38 (by decide)).mono fun e w2 ⟨he, hb⟩ => ⟨_, he, hb, rfl⟩)
   · unfold Gives
     go_simp
     exact gives_val ((Below.refl _ _).alloc (Nat.le_refl _) _) ⟨_, rfl, Blk.new _ _ _⟩
   · have l40 : Lst u (A.tmps[40]?.getD undef) 3 2 smI23 := fact_some (hF 40) (j := 35) (by kernel_rfl) (by kernel_rfl)
     unfold Gives
     go_simp
     exact gives_enter ((ofL_c [2, 3] l40 (by decide)).mono fun e w2 ⟨he, hb⟩ => ⟨_, he, hb, rfl⟩)
   · have f39 : A.tmps[39]?.getD undef = .agg #[.int .u64 (ofS [0]).a, .int .u64 (ofS [0]).b, .int .u64 (ofS [0]).c, .int .u64 (ofS [0]).d] := fact_some (hF 39) (j := 34) (by kernel_rfl) (by kernel_rfl)
     have f41 : A.tmps[41]?.getD undef = .agg #[.int .u64 (ofS [2, 3]).a, .int .u64 (ofS [2, 3]).b, .int .u64 (ofS [2, 3]).c, .int .u64 (ofS [2, 3]).d] := fact_some (hF 41) (j := 36) (by kernel_rfl) (by kernel_rfl)
     unfold Gives
     go_simp
     exact gives_val (Below.refl _ _) rfl
   · unfold Gives
     go_simp
     exact gives_val ((Below.refl _ _).alloc (Nat.le_refl _) _) ⟨_, rfl, Blk.new _ _ _⟩
   · have l43 : Lst u (A.tmps[43]?.getD undef) 3 1 smI0 := fact_some (hF 43) (j := 38) (by kernel_rfl) (by kernel_rfl)
     unfold Gives
     go_simp
     exact gives_enter ((ofL_c [0] l43 (by decide)).mono fun e w2 ⟨he, hb⟩ => ⟨_, he, hb, rfl⟩)
   · unfold Gives
     go_simp
     exact gives_val ((Below.refl _ _).alloc (Nat.le_refl _) _) ⟨_, rfl, Blk.new _ _ _⟩
   · have l45 : Lst u (A.tmps[45]?.getD undef) 3 1 smI1 := fact_some (hF 45) (j := 40) (by kernel_rfl) (by kernel_rfl)
     unfold Gives
     go_simp
     exact gives_enter ((ofL_c [1] l45 (by decide)).mono fun e w2 ⟨he, hb⟩ => ⟨_, he, hb, rfl⟩)
   · have f44 : A.tmps[44]?.getD undef = .agg #[.int .u64 (ofS [0]).a, .int .u64 (ofS [0]).b, .int .u64 (ofS [0]).c, .int .u64 (ofS [0]).d] := fact_some (hF 44) (j := 39) (by kernel_rfl) (by kernel_rfl)
     have f46 : A.tmps[46]?.getD undef = .agg #[.int .u64 (ofS [1]).a, .int .u64 (ofS [1]).b, .int .u64 (ofS [1]).c, .int .u64 (ofS [1]).d] := fact_some (hF 46) (j := 41) (by kernel_rfl) (by kernel_rfl)
     unfold Gives
     go_simp
     exact gives_val (Below.refl _ _) rfl
   · unfold Gives
     go_simp
     exact gives_val ((Below.refl _ _).alloc (Nat.le_refl _) _) ⟨_, rfl, Blk.new _ _ _⟩
   · have l48 : Lst u (A.tmps[48]?.getD undef) 3 1 smI1 := fact_some (hF 48) (j := 43) (by kernel_rfl) (by kernel_rfl)
     unfold Gives
     go_simp
     exact gives_enter ((ofL_c [1] l48 (by decide)).mono fun e w2 ⟨he, hb⟩ => ⟨_, he, hb, rfl⟩)
   · unfold Gives
     go_simp
     exact gives_val ((Below.refl _ _).alloc (Nat.le_refl _) _) ⟨_, rfl, Blk.new _ _ _⟩
   · have l50 : Lst u (A.tmps[50]?.getD undef) 3 1 smI3 := fact_some (hF 50) (j := 45) (by kernel_rfl) (by kernel_rfl)
     unfold Gives
     go_simp
     exact gives_enter ((ofL_c [3] l50 (by decide)).mono fun e w2 ⟨he, hb⟩ => ⟨_, he, hb, rfl⟩)
   · have f49 : A.tmps[49]?.getD undef = .agg #[.int .u64 (ofS [1]).a, .int .u64 (ofS [1]).b, .int .u64 (ofS [1]).c, .int .u64 (ofS [1]).d] := fact_some (hF 49) (j := 44) (by kernel_rfl) (by kernel_rfl)
     have f51 : A.tmps[51]?.getD undef = .agg #[.int .u64 (ofS [3]).a, .int .u64 (ofS [3]).b, .int .u64 (ofS [3]).c, .int .u64 (ofS [3]).d] := fact_some (hF 51) (j := 46) (by kernel_rfl) (by kernel_rfl)
     unfold Gives
     go_simp
     exact gives_val (Below.refl _ _) rfl
   · unfold Gives
     go_simp
     exact gives_val ((Below.refl _ _).alloc (Nat.le_refl _) _) ⟨_, rfl, Blk.new _ _ _⟩
   · have l53 : Lst u (A.tmps[53]?.getD undef) 3 1 smI1 := fact_some (hF 53) (j := 48) (by kernel_rfl) (by kernel_rfl)
     unfold Gives
     go_simp
     exact gives_enter ((ofL_c [1] l53 (by decide)).mono fun e w2 ⟨he, hb⟩ => ⟨_, he, hb, rfl⟩)
   · unfold Gives
     go_simp
     exact gives_val ((Below.refl _ _).alloc (Nat.le_refl _) _) ⟨_, rfl, Blk.new _ _ _⟩
   · have l55 : Lst u (A.tmps[55]?.getD undef) 3 1 smI2 := fact_some (hF 55) (j := 50) (by kernel_rfl) (by kernel_rfl)
     unfold Gives
     go_simp
     exact gives_enter ((ofL_c [2] l55 (by decide)).mono fun e w2 ⟨he, hb⟩ => ⟨_, he, hb, rfl⟩)
   · have f54 : A.tmps[54]?.getD undef = .agg #[.int .u64 (ofS [1]).a, .int .u64 (ofS [1]).b, .int .u64 (ofS [1]).c, .int .u64 (ofS [1]).d] := fact_some (hF 54) (j := 49) (by kernel_rfl) (by kernel_rfl)
     have f56 : A.tmps[56]?.getD undef = .agg #[.int .u64 (ofS [2]).a, .int .u64 (ofS [2]).b, .int .u64 (ofS [2]).c, .int .u64 (ofS [2]).d] := fact_some (hF 56) (j := 51) (by kernel_rfl) (by kernel_rfl)
     unfold Gives
     go_simp
     exact gives_val (Below.refl _ _) rfl
   · have f37 : A.tmps[37]?.getD undef = .agg #[.int .i64 1, .int .u64 (ofS [0, 1]).a, .int .u64 (ofS [0, 1]).b, .int .u64 (ofS [0, 1]).c, .int .u64 (ofS [0, 1]).d, .int .u64 0, .int .u64 0, .int .u64 0, .int .u64 0, .bool true, .int .i64 0, .int .u32 9, .int .i64 0] := fact_some (hF 37) (j := 32) (by kernel_rfl) (by kernel_rfl)
     have f42 : A.tmps[42]?.getD undef = .agg #[.int .i64 1, .int .u64 (ofS [0]).a, .int .u64 (ofS [0]).b, .int .u64 (ofS [0]).c, .int .u64 (ofS [0]).d, .int .u64 (ofS [2, 3]).a, .int .u64 (ofS [2, 3]).b, .int .u64 (ofS [2, 3]).c, .int .u64 (ofS [2, 3]).d, .bool false, .int .i64 1, .int .u32 17, .int .i64 0] := fact_some (hF 42) (j := 37) (by kernel_rfl) (by kernel_rfl)
     have f47 : A.tmps[47]?.getD undef = .agg #[.int .i64 1, .int .u64 (ofS [0]).a, .int .u64 (ofS [0]).b, .int .u64 (ofS [0]).c, .int .u64 (ofS [0]).d, .int .u64 (ofS [1]).a, .int .u64 (ofS [1]).b, .int .u64 (ofS [1]).c, .int .u64 (ofS [1]).d, .bool false, .int .i64 0, .int .u32 2, .int .i64 0] := fact_some (hF 47) (j := 42) (by kernel_rfl) (by kernel_rfl)
     have f52 : A.tmps[52]?.getD undef = .agg #[.int .i64 1, .int .u64 (ofS [1]).a, .int .u64 (ofS [1]).b, .int .u64 (ofS [1]).c, .int .u64 (ofS [1]).d, .int .u64 (ofS [3]).a, .int .u64 (ofS [3]).b, .int .u64 (ofS [3]).c, .int .u64 (ofS [3]).d, .bool false, .int .i64 1, .int .u32 32, .int .i64 0] := fact_some (hF 52) (j := 47) (by kernel_rfl) (by kernel_rfl)
     have f57 : A.tmps[57]?.getD undef = .agg #[.int .i64 1, .int .u64 (ofS [1]).a, .int .u64 (ofS [1]).b, .int .u64 (ofS [1]).c, .int .u64 (ofS [1]).d, .int .u64 (ofS [2]).a, .int .u64 (ofS [2]).b, .int .u64 (ofS [2]).c, .int .u64 (ofS [2]).d, .bool false, .int .i64 1, .int .u32 1, .int .i64 1] := fact_some (hF 57) (j := 52) (by kernel_rfl) (by kernel_rfl)
     unfold Gives
     go_simp
     exact gives_val ((Below.refl _ _).alloc (Nat.le_refl _) _) ⟨_, rfl, Blk.new _ _ _⟩
   · unfold Gives
     go_simp
     exact gives_val ((Below.refl _ _).alloc (Nat.le_refl _) _) ⟨_, rfl, Blk.new _ _ _⟩
   · have l59 : Lst u (A.tmps[59]?.getD undef) 3 1 smI0 := fact_some (hF 59) (j := 54) (by kernel_rfl) (by kernel_rfl)
     unfold Gives
     go_simp
     exact gives_enter ((ofL_c [0] l59 (by decide)).mono fun e w2 ⟨he, hb⟩ => ⟨_, he, hb, rfl⟩)
   · unfold Gives
     go_simp
     exact gives_val ((Below.refl _ _).alloc (Nat.le_refl _) _) ⟨_, rfl, Blk.new _ _ _⟩
   · have l61 : Lst u (A.tmps[61]?.getD undef) 3 1 smI3 := fact_some (hF 61) (j := 56) (by kernel_rfl) (by kernel_rfl)
     unfold Gives
     go_simp
     exact gives_enter ((ofL_c [3] l61 (by decide)).mono fun e w2 ⟨he, hb⟩ => ⟨_, he, hb, rfl⟩)
   · have f60 : A.tmps[60]?.getD undef = .agg #[.int .u64 (ofS [0]).a, .int .u64 (ofS [0]).b, .int .u64 (ofS [0]).c, .int .u64 (ofS [0]).d] := fact_some (hF 60) (j := 55) (by kernel_rfl) (by kernel_rfl)
     have f62 : A.tmps[62]?.getD undef = .agg #[.int .u64 (ofS [3]).a, .int .u64 (ofS [3]).b, .int .u64 (ofS [3]).c, .int .u64 (ofS [3]).d] := fact_some (hF 62) (j := 57) (by kernel_rfl) (by kernel_rfl)
     unfold Gives
     go_simp
     exact gives_val (Below.refl _ _) rfl
   · have f63 : A.tmps[63]?.getD undef = .agg #[.int .i64 1, .int .u64 (ofS [0]).a, .int .u64 (ofS [0]).b, .int .u64 (ofS [0]).c, .int .u64 (ofS [0]).d, .int .u64 (ofS [3]).a, .int .u64 (ofS [3]).b, .int .u64 (ofS [3]).c, .int .u64 (ofS [3]).d, .int .i64 0, .string ⟨#[]⟩, .int .i64 1, .int .i64 0] := fact_some (hF 63) (j := 58) (by kernel_rfl) (by kernel_rfl)
     unfold Gives
     go_simp
     exact gives_val ((Below.refl _ _).alloc (Nat.le_refl _) _) ⟨_, rfl, Blk.new _ _ _⟩
   · unfold Gives
     go_simp
     exact gives_enter ((init_c u).mono fun e w2 ⟨he, hb⟩ => ⟨_, he, hb, rfl⟩)
   · have f65 : A.tmps[65]?.getD undef = .agg #[.int .i64 0, .int .i64 1, .int .i64 0, .int .i64 0, .int .u64 0, .int .i64 0, .int .u64 0] := fact_some (hF 65) (j := 60) (by kernel_rfl) (by kernel_rfl)
     unfold Gives
     go_simp
     exact gives_val (Below.refl _ _) rfl
   · unfold Gives
     go_simp
     exact gives_enter ((file_c u).mono fun e w2 ⟨he, hb⟩ => ⟨_, he, hb, rfl⟩)
   · have f67 : A.tmps[67]?.getD undef = .agg #[.int .i64 0, .int .i64 0, .int .i64 2, .int .i64 0, .int .u64 0, .int .i64 0, .int .u64 0] := fact_some (hF 67) (j := 62) (by kernel_rfl) (by kernel_rfl)
     unfold Gives
     go_simp
     exact gives_val (Below.refl _ _) rfl
   · unfold Gives
     go_simp
     exact gives_enter ((file_c u).mono fun e w2 ⟨he, hb⟩ => ⟨_, he, hb, rfl⟩)
   · have f69 : A.tmps[69]?.getD undef = .agg #[.int .i64 0, .int .i64 0, .int .i64 2, .int .i64 0, .int .u64 0, .int .i64 0, .int .u64 0] := fact_some (hF 69) (j := 64) (by kernel_rfl) (by kernel_rfl)
     unfold Gives
     go_simp
     exact gives_val (Below.refl _ _) rfl
   · have f66 : A.tmps[66]?.getD undef = .agg #[.string ⟨#[107, 101, 114, 110, 101, 108]⟩, .int .i64 0, .int .i64 1, .int .i64 0, .int .i64 0, .int .u64 0, .int .i64 0, .int .u64 0] := fact_some (hF 66) (j := 61) (by kernel_rfl) (by kernel_rfl)
     have f68 : A.tmps[68]?.getD undef = .agg #[.string ⟨#[114, 111, 111, 116]⟩, .int .i64 0, .int .i64 0, .int .i64 2, .int .i64 0, .int .u64 0, .int .i64 0, .int .u64 0] := fact_some (hF 68) (j := 63) (by kernel_rfl) (by kernel_rfl)
     have f70 : A.tmps[70]?.getD undef = .agg #[.string ⟨#[117, 110, 108, 97, 98, 101, 108, 101, 100]⟩, .int .i64 0, .int .i64 0, .int .i64 2, .int .i64 0, .int .u64 0, .int .i64 0, .int .u64 0] := fact_some (hF 70) (j := 65) (by kernel_rfl) (by kernel_rfl)
     unfold Gives
     go_simp
     exact gives_val ((Below.refl _ _).alloc (Nat.le_refl _) _) ⟨_, rfl, Blk.new _ _ _⟩
   · obtain ⟨p11, l11, g11, f11, h11⟩ := (fact_some (hF 11) (j := 6) (by kernel_rfl) (by kernel_rfl) : ClsL gf gd u (A.tmps[11]?.getD undef))
     obtain ⟨g16, f16, h16⟩ := (fact_some (hF 16) (j := 11) (by kernel_rfl) (by kernel_rfl) : Lst u (A.tmps[16]?.getD undef) 82 4 smTys)
     obtain ⟨g20, f20, h20⟩ := (fact_some (hF 20) (j := 15) (by kernel_rfl) (by kernel_rfl) : Lst u (A.tmps[20]?.getD undef) 89 1 smAts)
     obtain ⟨g25, f25, h25⟩ := (fact_some (hF 25) (j := 20) (by kernel_rfl) (by kernel_rfl) : Lst u (A.tmps[25]?.getD undef) 91 2 smRos)
     obtain ⟨g29, f29, h29⟩ := (fact_some (hF 29) (j := 24) (by kernel_rfl) (by kernel_rfl) : Lst u (A.tmps[29]?.getD undef) 93 1 smUss)
     obtain ⟨g31, f31, h31⟩ := (fact_some (hF 31) (j := 26) (by kernel_rfl) (by kernel_rfl) : Lst u (A.tmps[31]?.getD undef) 95 1 smBos)
     obtain ⟨g32, f32, h32⟩ := (fact_some (hF 32) (j := 27) (by kernel_rfl) (by kernel_rfl) : Lst u (A.tmps[32]?.getD undef) 9 1 smSens)
     obtain ⟨g34, f34, h34⟩ := (fact_some (hF 34) (j := 29) (by kernel_rfl) (by kernel_rfl) : Lst u (A.tmps[34]?.getD undef) 55 1 smCds)
     obtain ⟨g58, f58, h58⟩ := (fact_some (hF 58) (j := 53) (by kernel_rfl) (by kernel_rfl) : Lst u (A.tmps[58]?.getD undef) 97 5 smRus)
     obtain ⟨g64, f64, h64⟩ := (fact_some (hF 64) (j := 59) (by kernel_rfl) (by kernel_rfl) : Lst u (A.tmps[64]?.getD undef) 80 1 smTrs)
     obtain ⟨g71, f71, h71⟩ := (fact_some (hF 71) (j := 66) (by kernel_rfl) (by kernel_rfl) : Lst u (A.tmps[71]?.getD undef) 99 3 smSis)
     unfold Gives
     go_simp
     exact gives_val (Below.refl _ _) ⟨_, _, _, _, _, _, _, _, _, _, _, rfl, ⟨_, l11, _, rfl, h11⟩, ⟨_, rfl, h16⟩, ⟨_, rfl, h20⟩, ⟨_, rfl, h25⟩, ⟨_, rfl, h29⟩, ⟨_, rfl, h31⟩, ⟨_, rfl, h32⟩, ⟨_, rfl, h34⟩, ⟨_, rfl, h58⟩, ⟨_, rfl, h64⟩, ⟨_, rfl, h71⟩⟩
 intro a0 W2 hC hsz hdf hF
 have h72 : PolS gf gd W2 (a0.tmps[72]?.getD undef) := fact_end (hF 72) (j := 67) (by kernel_rfl)
 have ha := end_mask [false, false, false, false, false, true, true, true, true, true, true, true, true, true, true, true, true, true, true, true, true, true, true, true, true, true, true, true, true, true, true, true, true, true, true, true, true, true, true, true, true, true, true, true, true, true, true, true, true, true, true, true, true, true, true, true, true, true, true, true, true, true, true, true, true, true, true, true, true, true, true, true, true] hsz hdf hF (by kernel_rfl)
 obtain ⟨v0, v1, v2, v3, v4, v5, v6, v8, v9, v10, v14, e72, hrest⟩ := h72
 rw [ha]
 clear ha hF hsz hdf
 simp only [cutM_yes, cutM_no, cutM_nil, Nat.reduceAdd]
 rw [e72]
 clear e72
 generalize a0.tmps[5]?.getD undef = s5
 generalize a0.tmps[6]?.getD undef = s6
 generalize a0.tmps[7]?.getD undef = s7
 generalize a0.tmps[8]?.getD undef = s8
 generalize a0.tmps[9]?.getD undef = s9
 generalize a0.tmps[10]?.getD undef = s10
 generalize a0.tmps[11]?.getD undef = s11
 generalize a0.tmps[12]?.getD undef = s12
 generalize a0.tmps[13]?.getD undef = s13
 generalize a0.tmps[14]?.getD undef = s14
 generalize a0.tmps[15]?.getD undef = s15
 generalize a0.tmps[16]?.getD undef = s16
 generalize a0.tmps[17]?.getD undef = s17
 generalize a0.tmps[18]?.getD undef = s18
 generalize a0.tmps[19]?.getD undef = s19
 generalize a0.tmps[20]?.getD undef = s20
 generalize a0.tmps[21]?.getD undef = s21
 generalize a0.tmps[22]?.getD undef = s22
 generalize a0.tmps[23]?.getD undef = s23
 generalize a0.tmps[24]?.getD undef = s24
 generalize a0.tmps[25]?.getD undef = s25
 generalize a0.tmps[26]?.getD undef = s26
 generalize a0.tmps[27]?.getD undef = s27
 generalize a0.tmps[28]?.getD undef = s28
 generalize a0.tmps[29]?.getD undef = s29
 generalize a0.tmps[30]?.getD undef = s30
 generalize a0.tmps[31]?.getD undef = s31
 generalize a0.tmps[32]?.getD undef = s32
 generalize a0.tmps[33]?.getD undef = s33
 generalize a0.tmps[34]?.getD undef = s34
 generalize a0.tmps[35]?.getD undef = s35
 generalize a0.tmps[36]?.getD undef = s36
 generalize a0.tmps[37]?.getD undef = s37
 generalize a0.tmps[38]?.getD undef = s38
 generalize a0.tmps[39]?.getD undef = s39
 generalize a0.tmps[40]?.getD undef = s40
 generalize a0.tmps[41]?.getD undef = s41
 generalize a0.tmps[42]?.getD undef = s42
 generalize a0.tmps[43]?.getD undef = s43
 generalize a0.tmps[44]?.getD undef = s44
 generalize a0.tmps[45]?.getD undef = s45
 generalize a0.tmps[46]?.getD undef = s46
 generalize a0.tmps[47]?.getD undef = s47
 generalize a0.tmps[48]?.getD undef = s48
 generalize a0.tmps[49]?.getD undef = s49
 generalize a0.tmps[50]?.getD undef = s50
 generalize a0.tmps[51]?.getD undef = s51
 generalize a0.tmps[52]?.getD undef = s52
 generalize a0.tmps[53]?.getD undef = s53
 generalize a0.tmps[54]?.getD undef = s54
 generalize a0.tmps[55]?.getD undef = s55
 generalize a0.tmps[56]?.getD undef = s56
 generalize a0.tmps[57]?.getD undef = s57
 generalize a0.tmps[58]?.getD undef = s58
 generalize a0.tmps[59]?.getD undef = s59
 generalize a0.tmps[60]?.getD undef = s60
 generalize a0.tmps[61]?.getD undef = s61
 generalize a0.tmps[62]?.getD undef = s62
 generalize a0.tmps[63]?.getD undef = s63
 generalize a0.tmps[64]?.getD undef = s64
 generalize a0.tmps[65]?.getD undef = s65
 generalize a0.tmps[66]?.getD undef = s66
 generalize a0.tmps[67]?.getD undef = s67
 generalize a0.tmps[68]?.getD undef = s68
 generalize a0.tmps[69]?.getD undef = s69
 generalize a0.tmps[70]?.getD undef = s70
 generalize a0.tmps[71]?.getD undef = s71
 have HRest := Lib.hid hrest
 have one : ∀ x ∈ ([v0, v1, v2, v3, v4, v5, v6, .slice none 0 0, v8, v9, v10, .slice none 0 0, .slice none 0 0, .slice none 0 0, v14, .slice none 0 0, .slice none 0 0] : List Value), x.oneCell' = true := by
  obtain ⟨⟨_, -, g, rfl, -⟩, ⟨_, rfl, -⟩, ⟨_, rfl, -⟩, ⟨_, rfl, -⟩, ⟨_, rfl, -⟩, ⟨_, rfl, -⟩, ⟨_, rfl, -⟩, ⟨_, rfl, -⟩, ⟨_, rfl, -⟩, ⟨_, rfl, -⟩, ⟨_, rfl, -⟩⟩ := hrest
  intro x hx
  simp only [List.mem_cons, List.not_mem_nil, or_false] at hx
  rcases hx with rfl | rfl | rfl | rfl | rfl | rfl | rfl | rfl | rfl | rfl | rfl | rfl | rfl | rfl | rfl | rfl | rfl <;> rfl
 have hR2 := HR.out.keep hC
 refine wpList_store_row (by rfl) _ _ rfl rfl (by rfl) [v0, v1, v2, v3, v4, v5, v6, .slice none 0 0, v8, v9, v10, .slice none 0 0, .slice none 0 0, .slice none 0 0, v14, .slice none 0 0, .slice none 0 0] (.agg #[v0, v1, v2, v3, v4, v5, v6, .slice none 0 0, v8, v9, v10, .slice none 0 0, .slice none 0 0, .slice none 0 0, v14, .slice none 0 0, .slice none 0 0]) (by rfl) rfl (size_pol _) hR2 rfl one ?_
 have HR3 := Lib.hid (hR2.row [v0, v1, v2, v3, v4, v5, v6, .slice none 0 0, v8, v9, v10, .slice none 0 0, .slice none 0 0, .slice none 0 0, v14, .slice none 0 0, .slice none 0 0])
 have HBK : Hid (Below g0 w (W2.setRow g0 [v0, v1, v2, v3, v4, v5, v6, .slice none 0 0, v8, v9, v10, .slice none 0 0, .slice none 0 0, .slice none 0 0, v14, .slice none 0 0, .slice none 0 0].toArray)) := Lib.hid (below_row (HB.out.trans (hC.mono HLE.out)) (Nat.le_refl _) _)
 obtain ⟨h0, hv1, hv2, hv3, hv4, hv5, hv6, hv8, hv9, hv10, hv14⟩ := hrest
 have HKS : Hid (PolS gf gd (W2.setRow g0 [v0, v1, v2, v3, v4, v5, v6, .slice none 0 0, v8, v9, v10, .slice none 0 0, .slice none 0 0, .slice none 0 0, v14, .slice none 0 0, .slice none 0 0].toArray) (.agg #[v0, v1, v2, v3, v4, v5, v6, .slice none 0 0, v8, v9, v10, .slice none 0 0, .slice none 0 0, .slice none 0 0, v14, .slice none 0 0, .slice none 0 0])) := Lib.hid ⟨_, _, _, _, _, _, _, _, _, _, _, rfl, ClsL.other h0 hR2 _, hv1.other hR2 (by decide) _, hv2.other hR2 (by decide) _, hv3.other hR2 (by decide) _, hv4.other hR2 (by decide) _, hv5.other hR2 (by decide) _, hv6.other hR2 (by decide) _, hv8.other hR2 (by decide) _, hv9.other hR2 (by decide) _, hv10.other hR2 (by decide) _, hv14.other hR2 (by decide) _⟩
 have HF3 := Lib.hid (blk_other (HF.out.keep hC) hR2 (by decide) [v0, v1, v2, v3, v4, v5, v6, .slice none 0 0, v8, v9, v10, .slice none 0 0, .slice none 0 0, .slice none 0 0, v14, .slice none 0 0, .slice none 0 0].toArray)
 have HD3 := Lib.hid (blk_other (HD.out.keep hC) hR2 (by decide) [v0, v1, v2, v3, v4, v5, v6, .slice none 0 0, v8, v9, v10, .slice none 0 0, .slice none 0 0, .slice none 0 0, v14, .slice none 0 0, .slice none 0 0].toArray)
 clear hR2 h0 hv1 hv2 hv3 hv4 hv5 hv6 hv8 hv9 hv10 hv14 one hC HRest HF HD HB HLE HR
 generalize W2.setRow g0 [v0, v1, v2, v3, v4, v5, v6, .slice none 0 0, v8, v9, v10, .slice none 0 0, .slice none 0 0, .slice none 0 0, v14, .slice none 0 0, .slice none 0 0].toArray = W3 at *
 go_wp2_with fail
 exact bodyPost_ret (v := .agg #[v0, v1, v2, v3, v4, v5, v6, .slice none 0 0, v8, v9, v10, .slice none 0 0, .slice none 0 0, .slice none 0 0, v14, .slice none 0 0, .slice none 0 0]) (blk_ret [v0, v1, v2, v3, v4, v5, v6, .slice none 0 0, v8, v9, v10, .slice none 0 0, .slice none 0 0, .slice none 0 0, v14, .slice none 0 0, .slice none 0 0] Tryz.results13 rfl (agg_pol _) (size_pol _) HR3.out) rfl ⟨_, _, _, rfl, HKS.out, HF3.out, HD3.out, by first | exact HBK.out | (rw [hg0]; exact HBK.out)⟩
end Go.Proofs.YtbhoofihnmmmfabGreat
