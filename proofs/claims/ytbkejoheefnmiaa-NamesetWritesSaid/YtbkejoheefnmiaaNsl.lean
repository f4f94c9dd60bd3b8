/- Plain facts on the words of sets: what the reference combines is what the program combines; a set with one more number. No Go text walked. -/
import Derived.Test.YtbkejoheefnmiaaNsk
import Derived.Test.YtbkejoheefnmiaaBpn
namespace Go.Proofs.Ytbkejoheefnmiaa
open Go.RowKit
theorem wrap_U (x : Int) : U64 (IntKind.u64.wrap x) := by
  have e : IntKind.u64.wrap x = x % 18446744073709551616 := by simp [IntKind.wrap, IntKind.bits, IntKind.signed]
  rw [e]
  exact ⟨Int.emod_nonneg _ (by decide), by have := Int.emod_lt_of_pos x (b := 18446744073709551616) (by decide); omega⟩
theorem bits_U (o : BinOp) (x y : Int) : U64 (bits o .u64 x y) := wrap_U _
theorem or_comm' (x y : Int) : bits .or .u64 x y = bits .or .u64 y x := by
  unfold bits
  simp only [BitVec.or_comm]
theorem zero_or {x : Int} (h : U64 x) : bits .or .u64 0 x = x := by
  obtain ⟨b, rfl⟩ := u64_bv h
  have := bv_or 0#64 b
  simpa using this
structure S4.U (x : S4) : Prop where
  a : U64 x.a
  b : U64 x.b
  c : U64 x.c
  d : U64 x.d
theorem U_zero : S4.zero.U := ⟨⟨by decide, by decide⟩, ⟨by decide, by decide⟩, ⟨by decide, by decide⟩, ⟨by decide, by decide⟩⟩
theorem U_or (x y : S4) : (x.or y).U := ⟨bits_U .or x.a y.a, bits_U .or x.b y.b, bits_U .or x.c y.c, bits_U .or x.d y.d⟩
theorem S4.or_comm (x y : S4) : x.or y = y.or x := by
  unfold S4.or
  rw [or_comm' x.a, or_comm' x.b, or_comm' x.c, or_comm' x.d]
theorem S4.zero_or {x : S4} (h : x.U) : S4.zero.or x = x := by
  unfold S4.or
  show S4.mk (bits .or .u64 0 x.a) (bits .or .u64 0 x.b) (bits .or .u64 0 x.c) (bits .or .u64 0 x.d) = x
  rw [Go.Proofs.Ytbkejoheefnmiaa.zero_or h.a, Go.Proofs.Ytbkejoheefnmiaa.zero_or h.b, Go.Proofs.Ytbkejoheefnmiaa.zero_or h.c, Go.Proofs.Ytbkejoheefnmiaa.zero_or h.d]
theorem comb_eq (al no : Bool) (cnt : Int) {I : S4} (O : S4) (h : I.U) : combR al no cnt I O = combS al no cnt I O := by
  unfold combR combS
  cases al
  · simp only [Bool.false_eq_true, if_false]; rw [S4.zero_or h]
  · simp only [if_true]; rw [S4.or_comm I]
theorem unF_U (f : ByteArray → S4) (l : List ByteArray) : (unF f l).U := by
  rcases List.eq_nil_or_concat l with rfl | ⟨l', x, rfl⟩
  · exact U_zero
  · unfold unF
    rw [List.concat_eq_append, List.foldl_append]
    exact U_or _ _
theorem unS_U (f : ByteArray → S4) (g : ByteArray → Bool) (l : List ByteArray) : (unS f g l).U := by
  unfold unS
  split
  · exact unF_U f l
  · exact U_zero
theorem or_zero {x : Int} (h : U64 x) : bits .or .u64 x 0 = x := by rw [or_comm']; exact zero_or h
theorem withI_or (n q : Int) {x : Int} (h : U64 x) : withI n q x = bits .or .u64 x (withI n q 0) := by
  have hb : U64 (bitI n) := wrap_U _
  by_cases hc : 64 * q ≤ n ∧ n < 64 * q + 64
  · rw [withI_in hc.1 hc.2, withI_in hc.1 hc.2, zero_or hb]
  · rw [withI_out (by omega), withI_out (by omega), or_zero h]
theorem withS_or (k : Int) {S : S4} (h : S.U) : withS k S = S.or (ofS [k]) := by
  unfold withS S4.or ofS ofI
  simp only [List.foldl_cons, List.foldl_nil]
  rw [withI_or k 0 h.a, withI_or k 1 h.b, withI_or k 2 h.c, withI_or k 3 h.d]
def errI (b : Bool) (n : Int) : Int := if b then 0 else n
/-- what a call gives whose set goes with an error -/
def ErrOut (S : S4) (n : Int) (w : World) (e : Ending) (w' : World) : Prop := e = .returned (.tuple #[.agg #[.int .u64 S.a, .int .u64 S.b, .int .u64 S.c, .int .u64 S.d], .int .i64 n]) ∧ Below w.heap.size w w'
end Go.Proofs.Ytbkejoheefnmiaa
