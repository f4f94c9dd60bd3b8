/- A region that draws its order, whose operations read what was there before it and whose callees leave alone what was there: one walk of the text's order serves every order. -/
import Derived.Test.YtaigoklmhafhcaaBl1
import Derived.BigQuiet
namespace Go.Proofs.Ytaigoklmhafhcaa
open Go.RowKit
/-- a world in which all that was there in W is as it was -/
def Cls (W w : World) : Prop := Below W.heap.size W w
theorem wp_region_cls {P : Program} {id : Nat} {Q : Exit → Act → World → Prop} {a : Act} {w : World} {l : List Oper} (hm : P.follows .mixedOrders = true) (hB : Region.lexB .any l.toArray = true)
    (h : wpQuiet P l.toArray (Cls w) (fun a' => ∀ w', Cls w w' → Q .normal a' w') l a) : (Code.region id l.toArray true).wp P Q a w :=
  wp_region_quiet (C := Cls w) hm hB (Below.refl _ _).drew (by simpa using h)
theorem Cls.call {P : Program} {f : FuncId} {args : Array Value} {w0 w : World} {v : Value} (hC : Cls w0 w)
    (h : Calls P f args w fun e w' => e = .returned v ∧ Below w.heap.size w w') : Calls P f args w fun e w'' => e = .returned v ∧ Cls w0 w'' :=
  h.mono fun _ _ ⟨he, hb⟩ => ⟨he, Below.trans hC (hb.mono (Below.size hC))⟩
theorem Cls.cell {W w : World} (h : Cls W w) : ∀ b o, b < W.heap.size → w.cell? ⟨b, o, none⟩ = W.cell? ⟨b, o, none⟩ := fun b o hb => Below.cell (p := ⟨b, o, none⟩) h hb
theorem quad_fst (w : World) (x0 x1 x2 x3 : Int) (o : Obj) : Quad ((w.alloc (.cells #[.int .u64 x0, .int .u64 x1, .int .u64 x2, .int .u64 x3] 24)).alloc o) w.heap.size x0 x1 x2 x3 := (Quad.new w x0 x1 x2 x3).alloc o
theorem Quad.cls {W w : World} {g : Nat} {a b c d : Int} (h : Quad W g a b c d) (hC : Cls W w) : w.cell? ⟨g, 0, none⟩ = some (.int .u64 a) ∧ w.cell? ⟨g, 1, none⟩ = some (.int .u64 b) ∧ w.cell? ⟨g, 2, none⟩ = some (.int .u64 c) ∧ w.cell? ⟨g, 3, none⟩ = some (.int .u64 d) := by
  obtain ⟨c0, c1, c2, c3, _⟩ := (h.below hC h.lt).facts
  exact ⟨c0, c1, c2, c3⟩
end Go.Proofs.Ytaigoklmhafhcaa
