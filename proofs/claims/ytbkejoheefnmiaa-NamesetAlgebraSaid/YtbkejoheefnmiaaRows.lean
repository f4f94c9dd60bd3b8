/-
  No cell of these rows narrows 'for every input' (looked for: loops, veiled, ifaces, maps, wideKeys, modest, calm, conditions, laid).
  DERIVED. THE GIVEN ROWS OF THIS SEAT. 5 by the template 'for every input the law returns true; each argument reads behind the call as it read before'; 0 by the template 'total and deterministic' (their statements: YtbkejoheefnmiaaTotals.lean).
  GIVEN WITH THE SEED: the statements are not yours to turn. If you find one false, say at which input.
  Laid BY PROGRAM, IN A SANDBOX (cutbox-rows.mjs): the forced cells as the released guide's own fill.sh prints them over the translation 22c41d9b8924d635… (all of the seat's roots in one cut). By AI agents, Wed Nov 11 2026. No macro, syntax, notation, axiom, sorry.
-/
import Derived.Test.YtbkejoheefnmiaaChecked
import GoSem.Claim
import GoSem.ClaimJoined
import GoSem.ClaimMapViews
import Derived.JoinedTies
import Derived.KernelRfl
namespace Go.Proofs.Ytbkejoheefnmiaa
/- THE CELL 'sum', in the pinned program and in every row, IS THE sha256 OF THE DUMP (.gsa) THAT YtbkejoheefnmiaaProg.lean LOADS. Nothing in Lean hashes anything: it is a label: what it is worth is what the hold of that sum in a sandbox is worth. -/
noncomputable def Try.pinned : Pinned := { name := "ytbkejoheefnmiaa", sum := "22c41d9b8924d635efaa05d88010e9d57d543ec7e916e5de511e8e4499dadc33", checked := Try.checked }
namespace Rows
def none {H : Type} : Left H := { results := [], args := [] }

/-- 'accesscontrollaw09.NamesetSymbols': WHATEVER THE INPUT: true; the input reads as it did. -/
def namesetSymbolsSpec : ChangeSpec := { name := "namesetSymbols", fn := fun _ => fun
  | [d1, d2] => { results := [.lit (.bool true)], args := [d1, d2] }
  | _ => none }
def namesetSymbolsRow : OpenClaim := { program := "ytbkejoheefnmiaa", sum := "22c41d9b8924d635efaa05d88010e9d57d543ec7e916e5de511e8e4499dadc33", func := "accesscontrol/accesscontrollaw09.NamesetSymbols", spec := "namesetSymbols", unfollowed := true, recurses := true, apart := false }
def NamesetSymbolsSaid : Prop := namesetSymbolsRow.holds Try.pinned (OpenSpec.ofChange namesetSymbolsSpec)

/-- ITS FALSE NEIGHBOUR: 'it returns false'. Refute it at one input. -/
def namesetSymbolsWrong : ChangeSpec := { name := "namesetSymbols", fn := fun _ => fun
  | [d1, d2] => { results := [.lit (.bool false)], args := [d1, d2] }
  | _ => none }
def NamesetSymbolsWrongFalsely : Prop := namesetSymbolsRow.holds Try.pinned (OpenSpec.ofChange namesetSymbolsWrong)

/-- 'accesscontrollaw09.NamesetTypes': WHATEVER THE INPUT: true; the input reads as it did. -/
def namesetTypesSpec : ChangeSpec := { name := "namesetTypes", fn := fun _ => fun
  | [d1, d2] => { results := [.lit (.bool true)], args := [d1, d2] }
  | _ => none }
def namesetTypesRow : OpenClaim := { program := "ytbkejoheefnmiaa", sum := "22c41d9b8924d635efaa05d88010e9d57d543ec7e916e5de511e8e4499dadc33", func := "accesscontrol/accesscontrollaw09.NamesetTypes", spec := "namesetTypes", unfollowed := true, recurses := true, apart := false }
def NamesetTypesSaid : Prop := namesetTypesRow.holds Try.pinned (OpenSpec.ofChange namesetTypesSpec)

/-- ITS FALSE NEIGHBOUR: 'it returns false'. Refute it at one input. -/
def namesetTypesWrong : ChangeSpec := { name := "namesetTypes", fn := fun _ => fun
  | [d1, d2] => { results := [.lit (.bool false)], args := [d1, d2] }
  | _ => none }
def NamesetTypesWrongFalsely : Prop := namesetTypesRow.holds Try.pinned (OpenSpec.ofChange namesetTypesWrong)

/-- 'accesscontrollaw09.NamesetLists': WHATEVER THE INPUT: true; the input reads as it did. -/
def namesetListsSpec : ChangeSpec := { name := "namesetLists", fn := fun _ => fun
  | [d1, d2] => { results := [.lit (.bool true)], args := [d1, d2] }
  | _ => none }
def namesetListsRow : OpenClaim := { program := "ytbkejoheefnmiaa", sum := "22c41d9b8924d635efaa05d88010e9d57d543ec7e916e5de511e8e4499dadc33", func := "accesscontrol/accesscontrollaw09.NamesetLists", spec := "namesetLists", unfollowed := true, recurses := true, apart := false }
def NamesetListsSaid : Prop := namesetListsRow.holds Try.pinned (OpenSpec.ofChange namesetListsSpec)

/-- ITS FALSE NEIGHBOUR: 'it returns false'. Refute it at one input. -/
def namesetListsWrong : ChangeSpec := { name := "namesetLists", fn := fun _ => fun
  | [d1, d2] => { results := [.lit (.bool false)], args := [d1, d2] }
  | _ => none }
def NamesetListsWrongFalsely : Prop := namesetListsRow.holds Try.pinned (OpenSpec.ofChange namesetListsWrong)

/-- 'accesscontrollaw09.NamesetWrites': WHATEVER THE INPUT: true; the input reads as it did. -/
def namesetWritesSpec : ChangeSpec := { name := "namesetWrites", fn := fun _ => fun
  | [d1, d2, d3] => { results := [.lit (.bool true)], args := [d1, d2, d3] }
  | _ => none }
def namesetWritesRow : OpenClaim := { program := "ytbkejoheefnmiaa", sum := "22c41d9b8924d635efaa05d88010e9d57d543ec7e916e5de511e8e4499dadc33", func := "accesscontrol/accesscontrollaw09.NamesetWrites", spec := "namesetWrites", unfollowed := true, recurses := true, apart := false }
def NamesetWritesSaid : Prop := namesetWritesRow.holds Try.pinned (OpenSpec.ofChange namesetWritesSpec)

/-- ITS FALSE NEIGHBOUR: 'it returns false'. Refute it at one input. -/
def namesetWritesWrong : ChangeSpec := { name := "namesetWrites", fn := fun _ => fun
  | [d1, d2, d3] => { results := [.lit (.bool false)], args := [d1, d2, d3] }
  | _ => none }
def NamesetWritesWrongFalsely : Prop := namesetWritesRow.holds Try.pinned (OpenSpec.ofChange namesetWritesWrong)

/-- 'accesscontrollaw09.NamesetAlgebra': WHATEVER THE INPUT: true; the input reads as it did. -/
def namesetAlgebraSpec : ChangeSpec := { name := "namesetAlgebra", fn := fun _ => fun
  | [d1, d2] => { results := [.lit (.bool true)], args := [d1, d2] }
  | _ => none }
def namesetAlgebraRow : OpenClaim := { program := "ytbkejoheefnmiaa", sum := "22c41d9b8924d635efaa05d88010e9d57d543ec7e916e5de511e8e4499dadc33", func := "accesscontrol/accesscontrollaw09.NamesetAlgebra", spec := "namesetAlgebra", unfollowed := true, recurses := true, apart := false }
def NamesetAlgebraSaid : Prop := namesetAlgebraRow.holds Try.pinned (OpenSpec.ofChange namesetAlgebraSpec)

/-- ITS FALSE NEIGHBOUR: 'it returns false'. Refute it at one input. -/
def namesetAlgebraWrong : ChangeSpec := { name := "namesetAlgebra", fn := fun _ => fun
  | [d1, d2] => { results := [.lit (.bool false)], args := [d1, d2] }
  | _ => none }
def NamesetAlgebraWrongFalsely : Prop := namesetAlgebraRow.holds Try.pinned (OpenSpec.ofChange namesetAlgebraWrong)

/- THE SECOND FORM. 'bulk': how many values and letters a reading holds, each counted each time it is reached (what is shared counts as often as it is met; a slice's spare places count too). A statement '..UptoSaid' is the law's where the arguments, and the package variables that the reading takes, are together of bulk at most 1048576: NARROWER than '..Said'. Prove '..Said' where nothing that the law and all that it calls make is longer than what came in: it says more and counts as full. Else prove '..UptoSaid'. A law counts once. -/
mutual
def uptoBulk {H : Type} : DataW H → Nat
  | .lit (.string bytes) => bytes.length + 1
  | .lit _ => 1
  | .nil => 1
  | .ptr d => uptoBulk d + 1
  | .slice elems spare => uptoBulkAll elems + uptoBulkAll spare + 1
  | .agg parts => uptoBulkAll parts + 1
  | .iface _ d => uptoBulk d + 1
  | .map entries => uptoBulkEntries entries + 1
  | .held _ => 1
def uptoBulkAll {H : Type} : List (DataW H) → Nat
  | [] => 0
  | d :: r => uptoBulk d + uptoBulkAll r
def uptoBulkEntries {H : Type} : List (Lit × DataW H) → Nat
  | [] => 0
  | x :: r => uptoBulkEntry x + uptoBulkEntries r
def uptoBulkEntry {H : Type} : Lit × DataW H → Nat
  | (.string bytes, d) => bytes.length + uptoBulk d + 1
  | (_, d) => uptoBulk d + 1
 end
def uptoSmall : (H : Type) → List (DataW H) → Bool := fun _ ds => decide (uptoBulkAll ds ≤ 1048576)
def OpenSpec.upto (s : _root_.Go.ChangeSpec) : _root_.Go.OpenSpec := { _root_.Go.OpenSpec.ofChange s with cond := some uptoSmall }

/-- 'accesscontrollaw09.NamesetSymbols', WHERE WHAT IT READS IS OF BULK AT MOST 1048576: true; the input reads as it did. -/
def namesetSymbolsUptoRow : OpenClaim := { program := "ytbkejoheefnmiaa", sum := "22c41d9b8924d635efaa05d88010e9d57d543ec7e916e5de511e8e4499dadc33", func := "accesscontrol/accesscontrollaw09.NamesetSymbols", spec := "namesetSymbols", unfollowed := true, recurses := true, apart := false, narrowed := true }
def NamesetSymbolsUptoSaid : Prop := namesetSymbolsUptoRow.holds Try.pinned (OpenSpec.upto namesetSymbolsSpec)

/-- 'accesscontrollaw09.NamesetTypes', WHERE WHAT IT READS IS OF BULK AT MOST 1048576: true; the input reads as it did. -/
def namesetTypesUptoRow : OpenClaim := { program := "ytbkejoheefnmiaa", sum := "22c41d9b8924d635efaa05d88010e9d57d543ec7e916e5de511e8e4499dadc33", func := "accesscontrol/accesscontrollaw09.NamesetTypes", spec := "namesetTypes", unfollowed := true, recurses := true, apart := false, narrowed := true }
def NamesetTypesUptoSaid : Prop := namesetTypesUptoRow.holds Try.pinned (OpenSpec.upto namesetTypesSpec)

/-- 'accesscontrollaw09.NamesetLists', WHERE WHAT IT READS IS OF BULK AT MOST 1048576: true; the input reads as it did. -/
def namesetListsUptoRow : OpenClaim := { program := "ytbkejoheefnmiaa", sum := "22c41d9b8924d635efaa05d88010e9d57d543ec7e916e5de511e8e4499dadc33", func := "accesscontrol/accesscontrollaw09.NamesetLists", spec := "namesetLists", unfollowed := true, recurses := true, apart := false, narrowed := true }
def NamesetListsUptoSaid : Prop := namesetListsUptoRow.holds Try.pinned (OpenSpec.upto namesetListsSpec)

/-- 'accesscontrollaw09.NamesetWrites', WHERE WHAT IT READS IS OF BULK AT MOST 1048576: true; the input reads as it did. -/
def namesetWritesUptoRow : OpenClaim := { program := "ytbkejoheefnmiaa", sum := "22c41d9b8924d635efaa05d88010e9d57d543ec7e916e5de511e8e4499dadc33", func := "accesscontrol/accesscontrollaw09.NamesetWrites", spec := "namesetWrites", unfollowed := true, recurses := true, apart := false, narrowed := true }
def NamesetWritesUptoSaid : Prop := namesetWritesUptoRow.holds Try.pinned (OpenSpec.upto namesetWritesSpec)

/-- 'accesscontrollaw09.NamesetAlgebra', WHERE WHAT IT READS IS OF BULK AT MOST 1048576: true; the input reads as it did. -/
def namesetAlgebraUptoRow : OpenClaim := { program := "ytbkejoheefnmiaa", sum := "22c41d9b8924d635efaa05d88010e9d57d543ec7e916e5de511e8e4499dadc33", func := "accesscontrol/accesscontrollaw09.NamesetAlgebra", spec := "namesetAlgebra", unfollowed := true, recurses := true, apart := false, narrowed := true }
def NamesetAlgebraUptoSaid : Prop := namesetAlgebraUptoRow.holds Try.pinned (OpenSpec.upto namesetAlgebraSpec)

end Rows
end Go.Proofs.Ytbkejoheefnmiaa
