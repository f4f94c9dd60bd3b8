/-
  No cell of these rows narrows 'for every input' (looked for: loops, veiled, ifaces, maps, wideKeys, modest, calm, conditions, laid).
  DERIVED. THE GIVEN ROWS OF THIS SEAT. 12 by the template 'for every input the law returns true; each argument reads behind the call as it read before'; 0 by the template 'total and deterministic' (their statements: YtaigoklmhafhcaaTotals.lean).
  GIVEN WITH THE SEED: the statements are not yours to turn. If you find one false, say at which input.
  Laid BY PROGRAM, IN A SANDBOX (cutbox-rows.mjs): the forced cells as the released guide's own fill.sh prints them over the translation 4f35493216ebb216… (all of the seat's roots in one cut). By AI agents, Wed Nov 11 2026. No macro, syntax, notation, axiom, sorry.
-/
import Derived.Test.YtaigoklmhafhcaaChecked
import GoSem.Claim
import GoSem.ClaimJoined
import GoSem.ClaimMapViews
import Derived.JoinedTies
import Derived.KernelRfl
namespace Go.Proofs.Ytaigoklmhafhcaa
/- THE CELL 'sum', in the pinned program and in every row, IS THE sha256 OF THE DUMP (.gsa) THAT YtaigoklmhafhcaaProg.lean LOADS. Nothing in Lean hashes anything: it is a label: what it is worth is what the hold of that sum in a sandbox is worth. -/
noncomputable def Try.pinned : Pinned := { name := "ytaigoklmhafhcaa", sum := "4f35493216ebb21641df41711dbe95fb414d7ebeb3898d4c9ffcb577987f32e0", checked := Try.checked }
namespace Rows
def none {H : Type} : Left H := { results := [], args := [] }

/-- 'accesscontrollaw01.BitsetElements': WHATEVER THE INPUT: true; the input reads as it did. -/
def bitsetElementsSpec : ChangeSpec := { name := "bitsetElements", fn := fun _ => fun
  | [d1, d2, d3] => { results := [.lit (.bool true)], args := [d1, d2, d3] }
  | _ => none }
def bitsetElementsRow : OpenClaim := { program := "ytaigoklmhafhcaa", sum := "4f35493216ebb21641df41711dbe95fb414d7ebeb3898d4c9ffcb577987f32e0", func := "accesscontrol/accesscontrollaw01.BitsetElements", spec := "bitsetElements", apart := false }
def BitsetElementsSaid : Prop := bitsetElementsRow.holds Try.pinned (OpenSpec.ofChange bitsetElementsSpec)

/-- ITS FALSE NEIGHBOUR: 'it returns false'. Refute it at one input. -/
def bitsetElementsWrong : ChangeSpec := { name := "bitsetElements", fn := fun _ => fun
  | [d1, d2, d3] => { results := [.lit (.bool false)], args := [d1, d2, d3] }
  | _ => none }
def BitsetElementsWrongFalsely : Prop := bitsetElementsRow.holds Try.pinned (OpenSpec.ofChange bitsetElementsWrong)

/-- 'accesscontrollaw01.BitsetOperates': WHATEVER THE INPUT: true; the input reads as it did. -/
def bitsetOperatesSpec : ChangeSpec := { name := "bitsetOperates", fn := fun _ => fun
  | [d1, d2] => { results := [.lit (.bool true)], args := [d1, d2] }
  | _ => none }
def bitsetOperatesRow : OpenClaim := { program := "ytaigoklmhafhcaa", sum := "4f35493216ebb21641df41711dbe95fb414d7ebeb3898d4c9ffcb577987f32e0", func := "accesscontrol/accesscontrollaw01.BitsetOperates", spec := "bitsetOperates", apart := false }
def BitsetOperatesSaid : Prop := bitsetOperatesRow.holds Try.pinned (OpenSpec.ofChange bitsetOperatesSpec)

/-- ITS FALSE NEIGHBOUR: 'it returns false'. Refute it at one input. -/
def bitsetOperatesWrong : ChangeSpec := { name := "bitsetOperates", fn := fun _ => fun
  | [d1, d2] => { results := [.lit (.bool false)], args := [d1, d2] }
  | _ => none }
def BitsetOperatesWrongFalsely : Prop := bitsetOperatesRow.holds Try.pinned (OpenSpec.ofChange bitsetOperatesWrong)

/-- 'accesscontrollaw01.BitsetLists': WHATEVER THE INPUT: true; the input reads as it did. -/
def bitsetListsSpec : ChangeSpec := { name := "bitsetLists", fn := fun _ => fun
  | [d] => { results := [.lit (.bool true)], args := [d] }
  | _ => none }
def bitsetListsRow : OpenClaim := { program := "ytaigoklmhafhcaa", sum := "4f35493216ebb21641df41711dbe95fb414d7ebeb3898d4c9ffcb577987f32e0", func := "accesscontrol/accesscontrollaw01.BitsetLists", spec := "bitsetLists", apart := false }
def BitsetListsSaid : Prop := bitsetListsRow.holds Try.pinned (OpenSpec.ofChange bitsetListsSpec)

/-- ITS FALSE NEIGHBOUR: 'it returns false'. Refute it at one input. -/
def bitsetListsWrong : ChangeSpec := { name := "bitsetLists", fn := fun _ => fun
  | [d] => { results := [.lit (.bool false)], args := [d] }
  | _ => none }
def BitsetListsWrongFalsely : Prop := bitsetListsRow.holds Try.pinned (OpenSpec.ofChange bitsetListsWrong)

/-- 'accesscontrollaw01.BitsetAlgebra': WHATEVER THE INPUT: true; the input reads as it did. -/
def bitsetAlgebraSpec : ChangeSpec := { name := "bitsetAlgebra", fn := fun _ => fun
  | [d1, d2, d3] => { results := [.lit (.bool true)], args := [d1, d2, d3] }
  | _ => none }
def bitsetAlgebraRow : OpenClaim := { program := "ytaigoklmhafhcaa", sum := "4f35493216ebb21641df41711dbe95fb414d7ebeb3898d4c9ffcb577987f32e0", func := "accesscontrol/accesscontrollaw01.BitsetAlgebra", spec := "bitsetAlgebra", apart := false }
def BitsetAlgebraSaid : Prop := bitsetAlgebraRow.holds Try.pinned (OpenSpec.ofChange bitsetAlgebraSpec)

/-- ITS FALSE NEIGHBOUR: 'it returns false'. Refute it at one input. -/
def bitsetAlgebraWrong : ChangeSpec := { name := "bitsetAlgebra", fn := fun _ => fun
  | [d1, d2, d3] => { results := [.lit (.bool false)], args := [d1, d2, d3] }
  | _ => none }
def BitsetAlgebraWrongFalsely : Prop := bitsetAlgebraRow.holds Try.pinned (OpenSpec.ofChange bitsetAlgebraWrong)

/-- 'accesscontrollaw01.BitsetEqual': WHATEVER THE INPUT: true; the input reads as it did. -/
def bitsetEqualSpec : ChangeSpec := { name := "bitsetEqual", fn := fun _ => fun
  | [d1, d2] => { results := [.lit (.bool true)], args := [d1, d2] }
  | _ => none }
def bitsetEqualRow : OpenClaim := { program := "ytaigoklmhafhcaa", sum := "4f35493216ebb21641df41711dbe95fb414d7ebeb3898d4c9ffcb577987f32e0", func := "accesscontrol/accesscontrollaw01.BitsetEqual", spec := "bitsetEqual", apart := false }
def BitsetEqualSaid : Prop := bitsetEqualRow.holds Try.pinned (OpenSpec.ofChange bitsetEqualSpec)

/-- ITS FALSE NEIGHBOUR: 'it returns false'. Refute it at one input. -/
def bitsetEqualWrong : ChangeSpec := { name := "bitsetEqual", fn := fun _ => fun
  | [d1, d2] => { results := [.lit (.bool false)], args := [d1, d2] }
  | _ => none }
def BitsetEqualWrongFalsely : Prop := bitsetEqualRow.holds Try.pinned (OpenSpec.ofChange bitsetEqualWrong)

/-- 'accesscontrollaw02.TokenScans': WHATEVER THE INPUT: true; the input reads as it did. -/
def tokenScansSpec : ChangeSpec := { name := "tokenScans", fn := fun _ => fun
  | [d] => { results := [.lit (.bool true)], args := [d] }
  | _ => none }
def tokenScansRow : OpenClaim := { program := "ytaigoklmhafhcaa", sum := "4f35493216ebb21641df41711dbe95fb414d7ebeb3898d4c9ffcb577987f32e0", func := "accesscontrol/accesscontrollaw02.TokenScans", spec := "tokenScans", inPlace := ["internal/abi.NoEscape"], unfollowed := true, recurses := true, apart := false }
def TokenScansSaid : Prop := tokenScansRow.holds Try.pinned (OpenSpec.ofChange tokenScansSpec)

/-- ITS FALSE NEIGHBOUR: 'it returns false'. Refute it at one input. -/
def tokenScansWrong : ChangeSpec := { name := "tokenScans", fn := fun _ => fun
  | [d] => { results := [.lit (.bool false)], args := [d] }
  | _ => none }
def TokenScansWrongFalsely : Prop := tokenScansRow.holds Try.pinned (OpenSpec.ofChange tokenScansWrong)

/-- 'accesscontrollaw02.TokenWords': WHATEVER THE INPUT: true; the input reads as it did. -/
def tokenWordsSpec : ChangeSpec := { name := "tokenWords", fn := fun _ => fun
  | [d] => { results := [.lit (.bool true)], args := [d] }
  | _ => none }
def tokenWordsRow : OpenClaim := { program := "ytaigoklmhafhcaa", sum := "4f35493216ebb21641df41711dbe95fb414d7ebeb3898d4c9ffcb577987f32e0", func := "accesscontrol/accesscontrollaw02.TokenWords", spec := "tokenWords", inPlace := ["internal/abi.NoEscape"], unfollowed := true, recurses := true, apart := false }
def TokenWordsSaid : Prop := tokenWordsRow.holds Try.pinned (OpenSpec.ofChange tokenWordsSpec)

/-- ITS FALSE NEIGHBOUR: 'it returns false'. Refute it at one input. -/
def tokenWordsWrong : ChangeSpec := { name := "tokenWords", fn := fun _ => fun
  | [d] => { results := [.lit (.bool false)], args := [d] }
  | _ => none }
def TokenWordsWrongFalsely : Prop := tokenWordsRow.holds Try.pinned (OpenSpec.ofChange tokenWordsWrong)

/-- 'accesscontrollaw02.TokenChecks': WHATEVER THE INPUT: true; the input reads as it did. -/
def tokenChecksSpec : ChangeSpec := { name := "tokenChecks", fn := fun _ => fun
  | [d] => { results := [.lit (.bool true)], args := [d] }
  | _ => none }
def tokenChecksRow : OpenClaim := { program := "ytaigoklmhafhcaa", sum := "4f35493216ebb21641df41711dbe95fb414d7ebeb3898d4c9ffcb577987f32e0", func := "accesscontrol/accesscontrollaw02.TokenChecks", spec := "tokenChecks", inPlace := ["internal/abi.NoEscape"], unfollowed := true, recurses := true, apart := false }
def TokenChecksSaid : Prop := tokenChecksRow.holds Try.pinned (OpenSpec.ofChange tokenChecksSpec)

/-- ITS FALSE NEIGHBOUR: 'it returns false'. Refute it at one input. -/
def tokenChecksWrong : ChangeSpec := { name := "tokenChecks", fn := fun _ => fun
  | [d] => { results := [.lit (.bool false)], args := [d] }
  | _ => none }
def TokenChecksWrongFalsely : Prop := tokenChecksRow.holds Try.pinned (OpenSpec.ofChange tokenChecksWrong)

/-- 'accesscontrollaw02.TokenTexts': WHATEVER THE INPUT: true; the input reads as it did. -/
def tokenTextsSpec : ChangeSpec := { name := "tokenTexts", fn := fun _ => fun
  | [d] => { results := [.lit (.bool true)], args := [d] }
  | _ => none }
def tokenTextsRow : OpenClaim := { program := "ytaigoklmhafhcaa", sum := "4f35493216ebb21641df41711dbe95fb414d7ebeb3898d4c9ffcb577987f32e0", func := "accesscontrol/accesscontrollaw02.TokenTexts", spec := "tokenTexts", inPlace := ["internal/abi.NoEscape"], unfollowed := true, recurses := true, apart := false }
def TokenTextsSaid : Prop := tokenTextsRow.holds Try.pinned (OpenSpec.ofChange tokenTextsSpec)

/-- ITS FALSE NEIGHBOUR: 'it returns false'. Refute it at one input. -/
def tokenTextsWrong : ChangeSpec := { name := "tokenTexts", fn := fun _ => fun
  | [d] => { results := [.lit (.bool false)], args := [d] }
  | _ => none }
def TokenTextsWrongFalsely : Prop := tokenTextsRow.holds Try.pinned (OpenSpec.ofChange tokenTextsWrong)

/-- 'accesscontrollaw02.TokenRoundTrip': WHATEVER THE INPUT: true; the input reads as it did. -/
def tokenRoundTripSpec : ChangeSpec := { name := "tokenRoundTrip", fn := fun _ => fun
  | [d] => { results := [.lit (.bool true)], args := [d] }
  | _ => none }
def tokenRoundTripRow : OpenClaim := { program := "ytaigoklmhafhcaa", sum := "4f35493216ebb21641df41711dbe95fb414d7ebeb3898d4c9ffcb577987f32e0", func := "accesscontrol/accesscontrollaw02.TokenRoundTrip", spec := "tokenRoundTrip", inPlace := ["internal/abi.NoEscape"], unfollowed := true, recurses := true, apart := false }
def TokenRoundTripSaid : Prop := tokenRoundTripRow.holds Try.pinned (OpenSpec.ofChange tokenRoundTripSpec)

/-- ITS FALSE NEIGHBOUR: 'it returns false'. Refute it at one input. -/
def tokenRoundTripWrong : ChangeSpec := { name := "tokenRoundTrip", fn := fun _ => fun
  | [d] => { results := [.lit (.bool false)], args := [d] }
  | _ => none }
def TokenRoundTripWrongFalsely : Prop := tokenRoundTripRow.holds Try.pinned (OpenSpec.ofChange tokenRoundTripWrong)

/-- 'accesscontrollaw02.TokenLocates': WHATEVER THE INPUT: true; the input reads as it did. -/
def tokenLocatesSpec : ChangeSpec := { name := "tokenLocates", fn := fun _ => fun
  | [d1, d2] => { results := [.lit (.bool true)], args := [d1, d2] }
  | _ => none }
def tokenLocatesRow : OpenClaim := { program := "ytaigoklmhafhcaa", sum := "4f35493216ebb21641df41711dbe95fb414d7ebeb3898d4c9ffcb577987f32e0", func := "accesscontrol/accesscontrollaw02.TokenLocates", spec := "tokenLocates", inPlace := ["internal/abi.NoEscape"], unfollowed := true, recurses := true, apart := false }
def TokenLocatesSaid : Prop := tokenLocatesRow.holds Try.pinned (OpenSpec.ofChange tokenLocatesSpec)

/-- ITS FALSE NEIGHBOUR: 'it returns false'. Refute it at one input. -/
def tokenLocatesWrong : ChangeSpec := { name := "tokenLocates", fn := fun _ => fun
  | [d1, d2] => { results := [.lit (.bool false)], args := [d1, d2] }
  | _ => none }
def TokenLocatesWrongFalsely : Prop := tokenLocatesRow.holds Try.pinned (OpenSpec.ofChange tokenLocatesWrong)

/-- 'accesscontrollaw02.TokenPlaces': WHATEVER THE INPUT: true; the input reads as it did. -/
def tokenPlacesSpec : ChangeSpec := { name := "tokenPlaces", fn := fun _ => fun
  | [d] => { results := [.lit (.bool true)], args := [d] }
  | _ => none }
def tokenPlacesRow : OpenClaim := { program := "ytaigoklmhafhcaa", sum := "4f35493216ebb21641df41711dbe95fb414d7ebeb3898d4c9ffcb577987f32e0", func := "accesscontrol/accesscontrollaw02.TokenPlaces", spec := "tokenPlaces", inPlace := ["internal/abi.NoEscape"], unfollowed := true, recurses := true, apart := false }
def TokenPlacesSaid : Prop := tokenPlacesRow.holds Try.pinned (OpenSpec.ofChange tokenPlacesSpec)

/-- ITS FALSE NEIGHBOUR: 'it returns false'. Refute it at one input. -/
def tokenPlacesWrong : ChangeSpec := { name := "tokenPlaces", fn := fun _ => fun
  | [d] => { results := [.lit (.bool false)], args := [d] }
  | _ => none }
def TokenPlacesWrongFalsely : Prop := tokenPlacesRow.holds Try.pinned (OpenSpec.ofChange tokenPlacesWrong)

/- THE SECOND FORM. 'bulk': how many values and letters a reading holds, each counted each time it is reached (what is shared counts as often as it is met; a slice's spare places count too). A statement '..UptoSaid' is the law's where the arguments, and the package variables that the reading takes, are together of bulk at most 1048576: NARROWER than '..Said'. Prove '..Said' where nothing that the law and all that it calls make is longer than what came in: it says more and counts as full. Else prove '..UptoSaid'. A law counts once. -/
mutual
def uptoBulk {H : Type} : DataW H → Nat
  | .lit (.string bytes) => bytes.length + 1
  | .lit _ => 1
  | .nil => 1
  | .ptr d => uptoBulk d + 1
  | .slice elems spare => uptoBulkAll elems + uptoBulkAll spare + 1
  | .agg parts => uptoBulkAll parts + 1
  | .iface _ d => uptoBulk d + 1
  | .map entries => uptoBulkEntries entries + 1
  | .held _ => 1
def uptoBulkAll {H : Type} : List (DataW H) → Nat
  | [] => 0
  | d :: r => uptoBulk d + uptoBulkAll r
def uptoBulkEntries {H : Type} : List (Lit × DataW H) → Nat
  | [] => 0
  | x :: r => uptoBulkEntry x + uptoBulkEntries r
def uptoBulkEntry {H : Type} : Lit × DataW H → Nat
  | (.string bytes, d) => bytes.length + uptoBulk d + 1
  | (_, d) => uptoBulk d + 1
 end
def uptoSmall : (H : Type) → List (DataW H) → Bool := fun _ ds => decide (uptoBulkAll ds ≤ 1048576)
def OpenSpec.upto (s : _root_.Go.ChangeSpec) : _root_.Go.OpenSpec := { _root_.Go.OpenSpec.ofChange s with cond := some uptoSmall }

/-- 'accesscontrollaw01.BitsetElements', WHERE WHAT IT READS IS OF BULK AT MOST 1048576: true; the input reads as it did. -/
def bitsetElementsUptoRow : OpenClaim := { program := "ytaigoklmhafhcaa", sum := "4f35493216ebb21641df41711dbe95fb414d7ebeb3898d4c9ffcb577987f32e0", func := "accesscontrol/accesscontrollaw01.BitsetElements", spec := "bitsetElements", apart := false, narrowed := true }
def BitsetElementsUptoSaid : Prop := bitsetElementsUptoRow.holds Try.pinned (OpenSpec.upto bitsetElementsSpec)

/-- 'accesscontrollaw01.BitsetOperates', WHERE WHAT IT READS IS OF BULK AT MOST 1048576: true; the input reads as it did. -/
def bitsetOperatesUptoRow : OpenClaim := { program := "ytaigoklmhafhcaa", sum := "4f35493216ebb21641df41711dbe95fb414d7ebeb3898d4c9ffcb577987f32e0", func := "accesscontrol/accesscontrollaw01.BitsetOperates", spec := "bitsetOperates", apart := false, narrowed := true }
def BitsetOperatesUptoSaid : Prop := bitsetOperatesUptoRow.holds Try.pinned (OpenSpec.upto bitsetOperatesSpec)

/-- 'accesscontrollaw01.BitsetLists', WHERE WHAT IT READS IS OF BULK AT MOST 1048576: true; the input reads as it did. -/
def bitsetListsUptoRow : OpenClaim := { program := "ytaigoklmhafhcaa", sum := "4f35493216ebb21641df41711dbe95fb414d7ebeb3898d4c9ffcb577987f32e0", func := "accesscontrol/accesscontrollaw01.BitsetLists", spec := "bitsetLists", apart := false, narrowed := true }
def BitsetListsUptoSaid : Prop := bitsetListsUptoRow.holds Try.pinned (OpenSpec.upto bitsetListsSpec)

/-- 'accesscontrollaw01.BitsetAlgebra', WHERE WHAT IT READS IS OF BULK AT MOST 1048576: true; the input reads as it did. -/
def bitsetAlgebraUptoRow : OpenClaim := { program := "ytaigoklmhafhcaa", sum := "4f35493216ebb21641df41711dbe95fb414d7ebeb3898d4c9ffcb577987f32e0", func := "accesscontrol/accesscontrollaw01.BitsetAlgebra", spec := "bitsetAlgebra", apart := false, narrowed := true }
def BitsetAlgebraUptoSaid : Prop := bitsetAlgebraUptoRow.holds Try.pinned (OpenSpec.upto bitsetAlgebraSpec)

/-- 'accesscontrollaw01.BitsetEqual', WHERE WHAT IT READS IS OF BULK AT MOST 1048576: true; the input reads as it did. -/
def bitsetEqualUptoRow : OpenClaim := { program := "ytaigoklmhafhcaa", sum := "4f35493216ebb21641df41711dbe95fb414d7ebeb3898d4c9ffcb577987f32e0", func := "accesscontrol/accesscontrollaw01.BitsetEqual", spec := "bitsetEqual", apart := false, narrowed := true }
def BitsetEqualUptoSaid : Prop := bitsetEqualUptoRow.holds Try.pinned (OpenSpec.upto bitsetEqualSpec)

/-- 'accesscontrollaw02.TokenScans', WHERE WHAT IT READS IS OF BULK AT MOST 1048576: true; the input reads as it did. -/
def tokenScansUptoRow : OpenClaim := { program := "ytaigoklmhafhcaa", sum := "4f35493216ebb21641df41711dbe95fb414d7ebeb3898d4c9ffcb577987f32e0", func := "accesscontrol/accesscontrollaw02.TokenScans", spec := "tokenScans", inPlace := ["internal/abi.NoEscape"], unfollowed := true, recurses := true, apart := false, narrowed := true }
def TokenScansUptoSaid : Prop := tokenScansUptoRow.holds Try.pinned (OpenSpec.upto tokenScansSpec)

/-- 'accesscontrollaw02.TokenWords', WHERE WHAT IT READS IS OF BULK AT MOST 1048576: true; the input reads as it did. -/
def tokenWordsUptoRow : OpenClaim := { program := "ytaigoklmhafhcaa", sum := "4f35493216ebb21641df41711dbe95fb414d7ebeb3898d4c9ffcb577987f32e0", func := "accesscontrol/accesscontrollaw02.TokenWords", spec := "tokenWords", inPlace := ["internal/abi.NoEscape"], unfollowed := true, recurses := true, apart := false, narrowed := true }
def TokenWordsUptoSaid : Prop := tokenWordsUptoRow.holds Try.pinned (OpenSpec.upto tokenWordsSpec)

/-- 'accesscontrollaw02.TokenChecks', WHERE WHAT IT READS IS OF BULK AT MOST 1048576: true; the input reads as it did. -/
def tokenChecksUptoRow : OpenClaim := { program := "ytaigoklmhafhcaa", sum := "4f35493216ebb21641df41711dbe95fb414d7ebeb3898d4c9ffcb577987f32e0", func := "accesscontrol/accesscontrollaw02.TokenChecks", spec := "tokenChecks", inPlace := ["internal/abi.NoEscape"], unfollowed := true, recurses := true, apart := false, narrowed := true }
def TokenChecksUptoSaid : Prop := tokenChecksUptoRow.holds Try.pinned (OpenSpec.upto tokenChecksSpec)

/-- 'accesscontrollaw02.TokenTexts', WHERE WHAT IT READS IS OF BULK AT MOST 1048576: true; the input reads as it did. -/
def tokenTextsUptoRow : OpenClaim := { program := "ytaigoklmhafhcaa", sum := "4f35493216ebb21641df41711dbe95fb414d7ebeb3898d4c9ffcb577987f32e0", func := "accesscontrol/accesscontrollaw02.TokenTexts", spec := "tokenTexts", inPlace := ["internal/abi.NoEscape"], unfollowed := true, recurses := true, apart := false, narrowed := true }
def TokenTextsUptoSaid : Prop := tokenTextsUptoRow.holds Try.pinned (OpenSpec.upto tokenTextsSpec)

/-- 'accesscontrollaw02.TokenRoundTrip', WHERE WHAT IT READS IS OF BULK AT MOST 1048576: true; the input reads as it did. -/
def tokenRoundTripUptoRow : OpenClaim := { program := "ytaigoklmhafhcaa", sum := "4f35493216ebb21641df41711dbe95fb414d7ebeb3898d4c9ffcb577987f32e0", func := "accesscontrol/accesscontrollaw02.TokenRoundTrip", spec := "tokenRoundTrip", inPlace := ["internal/abi.NoEscape"], unfollowed := true, recurses := true, apart := false, narrowed := true }
def TokenRoundTripUptoSaid : Prop := tokenRoundTripUptoRow.holds Try.pinned (OpenSpec.upto tokenRoundTripSpec)

/-- 'accesscontrollaw02.TokenLocates', WHERE WHAT IT READS IS OF BULK AT MOST 1048576: true; the input reads as it did. -/
def tokenLocatesUptoRow : OpenClaim := { program := "ytaigoklmhafhcaa", sum := "4f35493216ebb21641df41711dbe95fb414d7ebeb3898d4c9ffcb577987f32e0", func := "accesscontrol/accesscontrollaw02.TokenLocates", spec := "tokenLocates", inPlace := ["internal/abi.NoEscape"], unfollowed := true, recurses := true, apart := false, narrowed := true }
def TokenLocatesUptoSaid : Prop := tokenLocatesUptoRow.holds Try.pinned (OpenSpec.upto tokenLocatesSpec)

/-- 'accesscontrollaw02.TokenPlaces', WHERE WHAT IT READS IS OF BULK AT MOST 1048576: true; the input reads as it did. -/
def tokenPlacesUptoRow : OpenClaim := { program := "ytaigoklmhafhcaa", sum := "4f35493216ebb21641df41711dbe95fb414d7ebeb3898d4c9ffcb577987f32e0", func := "accesscontrol/accesscontrollaw02.TokenPlaces", spec := "tokenPlaces", inPlace := ["internal/abi.NoEscape"], unfollowed := true, recurses := true, apart := false, narrowed := true }
def TokenPlacesUptoSaid : Prop := tokenPlacesUptoRow.holds Try.pinned (OpenSpec.upto tokenPlacesSpec)

end Rows
end Go.Proofs.Ytaigoklmhafhcaa
