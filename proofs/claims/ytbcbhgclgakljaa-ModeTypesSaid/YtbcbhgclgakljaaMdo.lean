/- What decisions, verdicts and requests that are handed in are. -/
import Derived.Test.YtbcbhgclgakljaaMdn
import Derived.ProofKit
import Derived.WalkSmall
import Derived.ChangeAt
import Derived.Handed
import Derived.JoinedOf
import Derived.OpenShut
import Derived.ChangeOld
import Derived.Laws.IdiomArrays
import Derived.Deep.Slices
import Derived.Deep.Strs
import Derived.ChangeMaps5
namespace Go.Proofs.Ytbcbhgclgakljaa
open Go.ChangeShapes Go.WideShapes Go.ChangeAt Go.RowKit
theorem Try.own : ownKnob Try.prog.godebug = none := by kernel_rfl
theorem Try.laidOut : laidOutB Try.prog = true := by kernel_rfl
theorem Try.cells_dec : Try.prog.cellsOf 39 = 5 := by kernel_rfl
theorem Try.cells_ver : Try.prog.cellsOf 41 = 5 := by kernel_rfl
theorem Try.cells_req : Try.prog.cellsOf 72 = 3 := by kernel_rfl
theorem Try.cells_int : Try.prog.cellsOf 3 = 1 := by kernel_rfl
theorem Try.cells_u32 : Try.prog.cellsOf 33 = 1 := by kernel_rfl
theorem Try.cells_bool : Try.prog.cellsOf 4 = 1 := by kernel_rfl
theorem list5 {α : Type} (l : List α) (h : l.length = 5) : ∃ c0 c1 c2 c3 c4, l = [c0, c1, c2, c3, c4] := by
  match l, h with
  | [a, b, c, d, e], _ => exact ⟨a, b, c, d, e, rfl⟩
theorem list3 {α : Type} (l : List α) (h : l.length = 3) : ∃ c0 c1 c2, l = [c0, c1, c2] := by
  match l, h with
  | [a, b, c], _ => exact ⟨a, b, c, rfl⟩
theorem u32_vI {x : Int} (h : (Lit.int .u32 x).wf = true) : ∃ b : BitVec 32, x = vI b := by
  have := bounds_u32 h
  refine ⟨BitVec.ofNat 32 x.toNat, ?_⟩
  unfold vI
  rw [BitVec.toNat_ofNat]
  omega
section
variable {H : Type} {enc : TypeId × Value → H} {W : World} {base : Nat} {sp : Nat → Bool} {held : Bool} {n : Nat} {x : DataW H × List MemPlace}
set_option maxRecDepth 100000 in
theorem trod_dec {cs : List Value} (h : DataW.trod enc Try.prog W base sp held n 39 cs = some x) : ∃ y : Dn, cs = [.int .u32 (vI y.al), .int .u32 (vI y.aa), .int .u32 (vI y.ad), .bool y.pm, .int .i64 y.sq] := by
  obtain ⟨xs, m, _, _, hl, hlen, hx⟩ := DataW.trod_struct Try.underlying39 h
  have h0 := hx 0 _ rfl
  rw [List.getElem?_eq_getElem (show 0 < xs.length by rw [hlen]; decide)] at h0
  have h1 := hx 1 _ rfl
  rw [List.getElem?_eq_getElem (show 1 < xs.length by rw [hlen]; decide)] at h1
  have h2 := hx 2 _ rfl
  rw [List.getElem?_eq_getElem (show 2 < xs.length by rw [hlen]; decide)] at h2
  have h3 := hx 3 _ rfl
  rw [List.getElem?_eq_getElem (show 3 < xs.length by rw [hlen]; decide)] at h3
  have h4 := hx 4 _ rfl
  rw [List.getElem?_eq_getElem (show 4 < xs.length by rw [hlen]; decide)] at h4
  rw [Try.cells_dec] at hl
  obtain ⟨c0, c1, c2, c3, c4, rfl⟩ := list5 cs hl
  simp [Try.cells_int, Try.cells_u32, Try.cells_bool] at h0 h1 h2 h3 h4
  obtain ⟨x0, e0, _, w0⟩ := DataW.trod_int Try.underlying33 h0
  obtain ⟨x1, e1, _, w1⟩ := DataW.trod_int Try.underlying33 h1
  obtain ⟨x2, e2, _, w2⟩ := DataW.trod_int Try.underlying33 h2
  obtain ⟨x3, e3, _⟩ := DataW.trod_bool Try.underlying4 h3
  obtain ⟨x4, e4, _, w4⟩ := DataW.trod_int Try.underlying3 h4
  simp at e0 e1 e2 e3 e4
  subst e0 e1 e2 e3 e4
  obtain ⟨b0, rfl⟩ := u32_vI w0
  obtain ⟨b1, rfl⟩ := u32_vI w1
  obtain ⟨b2, rfl⟩ := u32_vI w2
  exact ⟨⟨b0, b1, b2, x3, x4⟩, rfl⟩
set_option maxRecDepth 100000 in
theorem trod_ver {cs : List Value} (h : DataW.trod enc Try.prog W base sp held n 41 cs = some x) : ∃ y : Vt, cs = [.bool y.g, .int .u32 (vI y.dn), .int .u32 (vI y.ag), .int .u32 (vI y.ad), .bool y.pm] := by
  obtain ⟨xs, m, _, _, hl, hlen, hx⟩ := DataW.trod_struct Try.underlying41 h
  have h0 := hx 0 _ rfl
  rw [List.getElem?_eq_getElem (show 0 < xs.length by rw [hlen]; decide)] at h0
  have h1 := hx 1 _ rfl
  rw [List.getElem?_eq_getElem (show 1 < xs.length by rw [hlen]; decide)] at h1
  have h2 := hx 2 _ rfl
  rw [List.getElem?_eq_getElem (show 2 < xs.length by rw [hlen]; decide)] at h2
  have h3 := hx 3 _ rfl
  rw [List.getElem?_eq_getElem (show 3 < xs.length by rw [hlen]; decide)] at h3
  have h4 := hx 4 _ rfl
  rw [List.getElem?_eq_getElem (show 4 < xs.length by rw [hlen]; decide)] at h4
  rw [Try.cells_ver] at hl
  obtain ⟨c0, c1, c2, c3, c4, rfl⟩ := list5 cs hl
  simp [Try.cells_u32, Try.cells_bool] at h0 h1 h2 h3 h4
  obtain ⟨x0, e0, _⟩ := DataW.trod_bool Try.underlying4 h0
  obtain ⟨x1, e1, _, w1⟩ := DataW.trod_int Try.underlying33 h1
  obtain ⟨x2, e2, _, w2⟩ := DataW.trod_int Try.underlying33 h2
  obtain ⟨x3, e3, _, w3⟩ := DataW.trod_int Try.underlying33 h3
  obtain ⟨x4, e4, _⟩ := DataW.trod_bool Try.underlying4 h4
  simp at e0 e1 e2 e3 e4
  subst e0 e1 e2 e3 e4
  obtain ⟨b1, rfl⟩ := u32_vI w1
  obtain ⟨b2, rfl⟩ := u32_vI w2
  obtain ⟨b3, rfl⟩ := u32_vI w3
  exact ⟨⟨x0, b1, b2, b3, x4⟩, rfl⟩
set_option maxRecDepth 100000 in
theorem trod_req {cs : List Value} (h : DataW.trod enc Try.prog W base sp held n 72 cs = some x) : ∃ y : Rq, cs = [.int .u32 (vI y.a), .int .u32 (vI y.b), .bool y.e] := by
  obtain ⟨xs, m, _, _, hl, hlen, hx⟩ := DataW.trod_struct Try.underlying72 h
  have h0 := hx 0 _ rfl
  rw [List.getElem?_eq_getElem (show 0 < xs.length by rw [hlen]; decide)] at h0
  have h1 := hx 1 _ rfl
  rw [List.getElem?_eq_getElem (show 1 < xs.length by rw [hlen]; decide)] at h1
  have h2 := hx 2 _ rfl
  rw [List.getElem?_eq_getElem (show 2 < xs.length by rw [hlen]; decide)] at h2
  rw [Try.cells_req] at hl
  obtain ⟨c0, c1, c2, rfl⟩ := list3 cs hl
  simp [Try.cells_u32, Try.cells_bool] at h0 h1 h2
  obtain ⟨x0, e0, _, w0⟩ := DataW.trod_int Try.underlying33 h0
  obtain ⟨x1, e1, _, w1⟩ := DataW.trod_int Try.underlying33 h1
  obtain ⟨x2, e2, _⟩ := DataW.trod_bool Try.underlying4 h2
  simp at e0 e1 e2
  subst e0 e1 e2
  obtain ⟨b0, rfl⟩ := u32_vI w0
  obtain ⟨b1, rfl⟩ := u32_vI w1
  exact ⟨⟨b0, b1, x2⟩, rfl⟩
end
section
variable {H : Type} {enc : TypeId × Value → H} {W : World} {base : Nat} {v : Value} {d : DataW H} {p : List MemPlace}
set_option maxRecDepth 100000 in
theorem open_dec (hok : Value.okWide Try.prog W .any base 39 v) (h : DataW.Trod enc Try.prog W 0 (fun _ => true) true 39 v d p) : ∃ y : Dn, v = .agg #[.int .u32 (vI y.al), .int .u32 (vI y.aa), .int .u32 (vI y.ad), .bool y.pm, .int .i64 y.sq] := by
  obtain ⟨⟨cl⟩, rfl, hsz, _⟩ : ∃ cs, v = .agg cs ∧ cs.size = Try.prog.cellsOf 39 ∧ Row.okWide Try.prog W .any base 39 cs := by
    simpa [Value.okWide, Try.underlying39] using hok
  obtain ⟨fuel, hf⟩ := h
  obtain ⟨y, he⟩ := trod_dec hf
  simp [Value.cells] at he
  exact ⟨y, by rw [he]⟩
set_option maxRecDepth 100000 in
theorem open_ver (hok : Value.okWide Try.prog W .any base 41 v) (h : DataW.Trod enc Try.prog W 0 (fun _ => true) true 41 v d p) : ∃ y : Vt, v = .agg #[.bool y.g, .int .u32 (vI y.dn), .int .u32 (vI y.ag), .int .u32 (vI y.ad), .bool y.pm] := by
  obtain ⟨⟨cl⟩, rfl, hsz, _⟩ : ∃ cs, v = .agg cs ∧ cs.size = Try.prog.cellsOf 41 ∧ Row.okWide Try.prog W .any base 41 cs := by
    simpa [Value.okWide, Try.underlying41] using hok
  obtain ⟨fuel, hf⟩ := h
  obtain ⟨y, he⟩ := trod_ver hf
  simp [Value.cells] at he
  exact ⟨y, by rw [he]⟩
set_option maxRecDepth 100000 in
theorem open_req (hok : Value.okWide Try.prog W .any base 72 v) (h : DataW.Trod enc Try.prog W 0 (fun _ => true) true 72 v d p) : ∃ y : Rq, v = .agg #[.int .u32 (vI y.a), .int .u32 (vI y.b), .bool y.e] := by
  obtain ⟨⟨cl⟩, rfl, hsz, _⟩ : ∃ cs, v = .agg cs ∧ cs.size = Try.prog.cellsOf 72 ∧ Row.okWide Try.prog W .any base 72 cs := by
    simpa [Value.okWide, Try.underlying72] using hok
  obtain ⟨fuel, hf⟩ := h
  obtain ⟨y, he⟩ := trod_req hf
  simp [Value.cells] at he
  exact ⟨y, by rw [he]⟩
end
end Go.Proofs.Ytbcbhgclgakljaa
