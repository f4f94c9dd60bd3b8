/-
  NARROWER THAN 'FOR EVERY INPUT', by the rows' own cells (each row's printed sentence says how): ExpandExact: loops · ExpandNever: loops · ExpandOrder: loops.
  DERIVED. THE GIVEN ROWS OF THIS SEAT. 7 by the template 'for every input the law returns true; each argument reads behind the call as it read before'; 0 by the template 'total and deterministic' (their statements: YtjikbffnhfoikaaTotals.lean).
  GIVEN WITH THE SEED: the statements are not yours to turn. If you find one false, say at which input.
  Laid BY PROGRAM, IN A SANDBOX (cutbox-rows.mjs): the forced cells as the released guide's own fill.sh prints them over the translation 3cd600c5918adf3d… (all of the seat's roots in one cut). By AI agents, Wed Nov 11 2026. No macro, syntax, notation, axiom, sorry.
-/
import Derived.Test.YtjikbffnhfoikaaChecked
import GoSem.Claim
import GoSem.ClaimJoined
import GoSem.ClaimMapViews
import Derived.JoinedTies
import Derived.KernelRfl
namespace Go.Proofs.Ytjikbffnhfoikaa
/- THE CELL 'sum', in the pinned program and in every row, IS THE sha256 OF THE DUMP (.gsa) THAT YtjikbffnhfoikaaProg.lean LOADS. Nothing in Lean hashes anything: it is a label: what it is worth is what the hold of that sum in a sandbox is worth. -/
noncomputable def Try.pinned : Pinned := { name := "ytjikbffnhfoikaa", sum := "3cd600c5918adf3decaec7e3cc6f53484dd63d9373d517f90cb53d0f7c6e0760", checked := Try.checked }
namespace Rows
def none {H : Type} : Left H := { results := [], args := [] }

/-- 'accesscontrollaw15.ExpandPairs': WHATEVER THE INPUT: true; the input reads as it did. -/
def expandPairsSpec : ChangeSpec := { name := "expandPairs", fn := fun _ => fun
  | [d] => { results := [.lit (.bool true)], args := [d] }
  | _ => none }
def expandPairsRow : OpenClaim := { program := "ytjikbffnhfoikaa", sum := "3cd600c5918adf3decaec7e3cc6f53484dd63d9373d517f90cb53d0f7c6e0760", func := "accesscontrol/accesscontrollaw15.ExpandPairs", spec := "expandPairs", unfollowed := true, recurses := true, plainKeys := false, apart := false }
def ExpandPairsSaid : Prop := expandPairsRow.holds Try.pinned (OpenSpec.ofChange expandPairsSpec)

/-- ITS FALSE NEIGHBOUR: 'it returns false'. Refute it at one input. -/
def expandPairsWrong : ChangeSpec := { name := "expandPairs", fn := fun _ => fun
  | [d] => { results := [.lit (.bool false)], args := [d] }
  | _ => none }
def ExpandPairsWrongFalsely : Prop := expandPairsRow.holds Try.pinned (OpenSpec.ofChange expandPairsWrong)

/-- 'accesscontrollaw15.ExpandExact': WHATEVER THE INPUT: true; the input reads as it did. -/
def expandExactSpec : ChangeSpec := { name := "expandExact", fn := fun _ => fun
  | [d] => { results := [.lit (.bool true)], args := [d] }
  | _ => none }
def expandExactRow : OpenClaim := { program := "ytjikbffnhfoikaa", sum := "3cd600c5918adf3decaec7e3cc6f53484dd63d9373d517f90cb53d0f7c6e0760", func := "accesscontrol/accesscontrollaw15.ExpandExact", spec := "expandExact", unfollowed := true, recurses := true, loops := true, plainKeys := false, apart := false }
def ExpandExactSaid : Prop := expandExactRow.holds Try.pinned (OpenSpec.ofChange expandExactSpec)

/-- ITS FALSE NEIGHBOUR: 'it returns false'. Refute it at one input. -/
def expandExactWrong : ChangeSpec := { name := "expandExact", fn := fun _ => fun
  | [d] => { results := [.lit (.bool false)], args := [d] }
  | _ => none }
def ExpandExactWrongFalsely : Prop := expandExactRow.holds Try.pinned (OpenSpec.ofChange expandExactWrong)

/-- 'accesscontrollaw15.ExpandMerges': WHATEVER THE INPUT: true; the input reads as it did. -/
def expandMergesSpec : ChangeSpec := { name := "expandMerges", fn := fun _ => fun
  | [d] => { results := [.lit (.bool true)], args := [d] }
  | _ => none }
def expandMergesRow : OpenClaim := { program := "ytjikbffnhfoikaa", sum := "3cd600c5918adf3decaec7e3cc6f53484dd63d9373d517f90cb53d0f7c6e0760", func := "accesscontrol/accesscontrollaw15.ExpandMerges", spec := "expandMerges", unfollowed := true, recurses := true, plainKeys := false, apart := false }
def ExpandMergesSaid : Prop := expandMergesRow.holds Try.pinned (OpenSpec.ofChange expandMergesSpec)

/-- ITS FALSE NEIGHBOUR: 'it returns false'. Refute it at one input. -/
def expandMergesWrong : ChangeSpec := { name := "expandMerges", fn := fun _ => fun
  | [d] => { results := [.lit (.bool false)], args := [d] }
  | _ => none }
def ExpandMergesWrongFalsely : Prop := expandMergesRow.holds Try.pinned (OpenSpec.ofChange expandMergesWrong)

/-- 'accesscontrollaw15.ExpandNever': WHATEVER THE INPUT: true; the input reads as it did. -/
def expandNeverSpec : ChangeSpec := { name := "expandNever", fn := fun _ => fun
  | [d] => { results := [.lit (.bool true)], args := [d] }
  | _ => none }
def expandNeverRow : OpenClaim := { program := "ytjikbffnhfoikaa", sum := "3cd600c5918adf3decaec7e3cc6f53484dd63d9373d517f90cb53d0f7c6e0760", func := "accesscontrol/accesscontrollaw15.ExpandNever", spec := "expandNever", unfollowed := true, recurses := true, loops := true, plainKeys := false, apart := false }
def ExpandNeverSaid : Prop := expandNeverRow.holds Try.pinned (OpenSpec.ofChange expandNeverSpec)

/-- ITS FALSE NEIGHBOUR: 'it returns false'. Refute it at one input. -/
def expandNeverWrong : ChangeSpec := { name := "expandNever", fn := fun _ => fun
  | [d] => { results := [.lit (.bool false)], args := [d] }
  | _ => none }
def ExpandNeverWrongFalsely : Prop := expandNeverRow.holds Try.pinned (OpenSpec.ofChange expandNeverWrong)

/-- 'accesscontrollaw15.ExpandRules': WHATEVER THE INPUT: true; the input reads as it did. -/
def expandRulesSpec : ChangeSpec := { name := "expandRules", fn := fun _ => fun
  | [d] => { results := [.lit (.bool true)], args := [d] }
  | _ => none }
def expandRulesRow : OpenClaim := { program := "ytjikbffnhfoikaa", sum := "3cd600c5918adf3decaec7e3cc6f53484dd63d9373d517f90cb53d0f7c6e0760", func := "accesscontrol/accesscontrollaw15.ExpandRules", spec := "expandRules", unfollowed := true, recurses := true, plainKeys := false, apart := false }
def ExpandRulesSaid : Prop := expandRulesRow.holds Try.pinned (OpenSpec.ofChange expandRulesSpec)

/-- ITS FALSE NEIGHBOUR: 'it returns false'. Refute it at one input. -/
def expandRulesWrong : ChangeSpec := { name := "expandRules", fn := fun _ => fun
  | [d] => { results := [.lit (.bool false)], args := [d] }
  | _ => none }
def ExpandRulesWrongFalsely : Prop := expandRulesRow.holds Try.pinned (OpenSpec.ofChange expandRulesWrong)

/-- 'accesscontrollaw15.ExpandCompresses': WHATEVER THE INPUT: true; the input reads as it did. -/
def expandCompressesSpec : ChangeSpec := { name := "expandCompresses", fn := fun _ => fun
  | [d] => { results := [.lit (.bool true)], args := [d] }
  | _ => none }
def expandCompressesRow : OpenClaim := { program := "ytjikbffnhfoikaa", sum := "3cd600c5918adf3decaec7e3cc6f53484dd63d9373d517f90cb53d0f7c6e0760", func := "accesscontrol/accesscontrollaw15.ExpandCompresses", spec := "expandCompresses", unfollowed := true, recurses := true, plainKeys := false, apart := false }
def ExpandCompressesSaid : Prop := expandCompressesRow.holds Try.pinned (OpenSpec.ofChange expandCompressesSpec)

/-- ITS FALSE NEIGHBOUR: 'it returns false'. Refute it at one input. -/
def expandCompressesWrong : ChangeSpec := { name := "expandCompresses", fn := fun _ => fun
  | [d] => { results := [.lit (.bool false)], args := [d] }
  | _ => none }
def ExpandCompressesWrongFalsely : Prop := expandCompressesRow.holds Try.pinned (OpenSpec.ofChange expandCompressesWrong)

/-- 'accesscontrollaw15.ExpandOrder': WHATEVER THE INPUT: true; the input reads as it did. -/
def expandOrderSpec : ChangeSpec := { name := "expandOrder", fn := fun _ => fun
  | [d1, d2, d3] => { results := [.lit (.bool true)], args := [d1, d2, d3] }
  | _ => none }
def expandOrderRow : OpenClaim := { program := "ytjikbffnhfoikaa", sum := "3cd600c5918adf3decaec7e3cc6f53484dd63d9373d517f90cb53d0f7c6e0760", func := "accesscontrol/accesscontrollaw15.ExpandOrder", spec := "expandOrder", unfollowed := true, recurses := true, loops := true, plainKeys := false, apart := false }
def ExpandOrderSaid : Prop := expandOrderRow.holds Try.pinned (OpenSpec.ofChange expandOrderSpec)

/-- ITS FALSE NEIGHBOUR: 'it returns false'. Refute it at one input. -/
def expandOrderWrong : ChangeSpec := { name := "expandOrder", fn := fun _ => fun
  | [d1, d2, d3] => { results := [.lit (.bool false)], args := [d1, d2, d3] }
  | _ => none }
def ExpandOrderWrongFalsely : Prop := expandOrderRow.holds Try.pinned (OpenSpec.ofChange expandOrderWrong)

/- THE SECOND FORM. 'bulk': how many values and letters a reading holds, each counted each time it is reached (what is shared counts as often as it is met; a slice's spare places count too). A statement '..UptoSaid' is the law's where the arguments, and the package variables that the reading takes, are together of bulk at most 1048576: NARROWER than '..Said'. Prove '..Said' where nothing that the law and all that it calls make is longer than what came in: it says more and counts as full. Else prove '..UptoSaid'. A law counts once. -/
mutual
def uptoBulk {H : Type} : DataW H → Nat
  | .lit (.string bytes) => bytes.length + 1
  | .lit _ => 1
  | .nil => 1
  | .ptr d => uptoBulk d + 1
  | .slice elems spare => uptoBulkAll elems + uptoBulkAll spare + 1
  | .agg parts => uptoBulkAll parts + 1
  | .iface _ d => uptoBulk d + 1
  | .map entries => uptoBulkEntries entries + 1
  | .held _ => 1
def uptoBulkAll {H : Type} : List (DataW H) → Nat
  | [] => 0
  | d :: r => uptoBulk d + uptoBulkAll r
def uptoBulkEntries {H : Type} : List (Lit × DataW H) → Nat
  | [] => 0
  | x :: r => uptoBulkEntry x + uptoBulkEntries r
def uptoBulkEntry {H : Type} : Lit × DataW H → Nat
  | (.string bytes, d) => bytes.length + uptoBulk d + 1
  | (_, d) => uptoBulk d + 1
 end
def uptoSmall : (H : Type) → List (DataW H) → Bool := fun _ ds => decide (uptoBulkAll ds ≤ 1048576)
def OpenSpec.upto (s : _root_.Go.ChangeSpec) : _root_.Go.OpenSpec := { _root_.Go.OpenSpec.ofChange s with cond := some uptoSmall }

/-- 'accesscontrollaw15.ExpandPairs', WHERE WHAT IT READS IS OF BULK AT MOST 1048576: true; the input reads as it did. -/
def expandPairsUptoRow : OpenClaim := { program := "ytjikbffnhfoikaa", sum := "3cd600c5918adf3decaec7e3cc6f53484dd63d9373d517f90cb53d0f7c6e0760", func := "accesscontrol/accesscontrollaw15.ExpandPairs", spec := "expandPairs", unfollowed := true, recurses := true, plainKeys := false, apart := false, narrowed := true }
def ExpandPairsUptoSaid : Prop := expandPairsUptoRow.holds Try.pinned (OpenSpec.upto expandPairsSpec)

/-- 'accesscontrollaw15.ExpandExact', WHERE WHAT IT READS IS OF BULK AT MOST 1048576: true; the input reads as it did. -/
def expandExactUptoRow : OpenClaim := { program := "ytjikbffnhfoikaa", sum := "3cd600c5918adf3decaec7e3cc6f53484dd63d9373d517f90cb53d0f7c6e0760", func := "accesscontrol/accesscontrollaw15.ExpandExact", spec := "expandExact", unfollowed := true, recurses := true, loops := true, plainKeys := false, apart := false, narrowed := true }
def ExpandExactUptoSaid : Prop := expandExactUptoRow.holds Try.pinned (OpenSpec.upto expandExactSpec)

/-- 'accesscontrollaw15.ExpandMerges', WHERE WHAT IT READS IS OF BULK AT MOST 1048576: true; the input reads as it did. -/
def expandMergesUptoRow : OpenClaim := { program := "ytjikbffnhfoikaa", sum := "3cd600c5918adf3decaec7e3cc6f53484dd63d9373d517f90cb53d0f7c6e0760", func := "accesscontrol/accesscontrollaw15.ExpandMerges", spec := "expandMerges", unfollowed := true, recurses := true, plainKeys := false, apart := false, narrowed := true }
def ExpandMergesUptoSaid : Prop := expandMergesUptoRow.holds Try.pinned (OpenSpec.upto expandMergesSpec)

/-- 'accesscontrollaw15.ExpandNever', WHERE WHAT IT READS IS OF BULK AT MOST 1048576: true; the input reads as it did. -/
def expandNeverUptoRow : OpenClaim := { program := "ytjikbffnhfoikaa", sum := "3cd600c5918adf3decaec7e3cc6f53484dd63d9373d517f90cb53d0f7c6e0760", func := "accesscontrol/accesscontrollaw15.ExpandNever", spec := "expandNever", unfollowed := true, recurses := true, loops := true, plainKeys := false, apart := false, narrowed := true }
def ExpandNeverUptoSaid : Prop := expandNeverUptoRow.holds Try.pinned (OpenSpec.upto expandNeverSpec)

/-- 'accesscontrollaw15.ExpandRules', WHERE WHAT IT READS IS OF BULK AT MOST 1048576: true; the input reads as it did. -/
def expandRulesUptoRow : OpenClaim := { program := "ytjikbffnhfoikaa", sum := "3cd600c5918adf3decaec7e3cc6f53484dd63d9373d517f90cb53d0f7c6e0760", func := "accesscontrol/accesscontrollaw15.ExpandRules", spec := "expandRules", unfollowed := true, recurses := true, plainKeys := false, apart := false, narrowed := true }
def ExpandRulesUptoSaid : Prop := expandRulesUptoRow.holds Try.pinned (OpenSpec.upto expandRulesSpec)

/-- 'accesscontrollaw15.ExpandCompresses', WHERE WHAT IT READS IS OF BULK AT MOST 1048576: true; the input reads as it did. -/
def expandCompressesUptoRow : OpenClaim := { program := "ytjikbffnhfoikaa", sum := "3cd600c5918adf3decaec7e3cc6f53484dd63d9373d517f90cb53d0f7c6e0760", func := "accesscontrol/accesscontrollaw15.ExpandCompresses", spec := "expandCompresses", unfollowed := true, recurses := true, plainKeys := false, apart := false, narrowed := true }
def ExpandCompressesUptoSaid : Prop := expandCompressesUptoRow.holds Try.pinned (OpenSpec.upto expandCompressesSpec)

/-- 'accesscontrollaw15.ExpandOrder', WHERE WHAT IT READS IS OF BULK AT MOST 1048576: true; the input reads as it did. -/
def expandOrderUptoRow : OpenClaim := { program := "ytjikbffnhfoikaa", sum := "3cd600c5918adf3decaec7e3cc6f53484dd63d9373d517f90cb53d0f7c6e0760", func := "accesscontrol/accesscontrollaw15.ExpandOrder", spec := "expandOrder", unfollowed := true, recurses := true, loops := true, plainKeys := false, apart := false, narrowed := true }
def ExpandOrderUptoSaid : Prop := expandOrderUptoRow.holds Try.pinned (OpenSpec.upto expandOrderSpec)

end Rows
end Go.Proofs.Ytjikbffnhfoikaa
