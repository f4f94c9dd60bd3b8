/-
  No cell of these rows narrows 'for every input' (looked for: loops, veiled, ifaces, maps, wideKeys, modest, calm, conditions, laid).
  DERIVED. THE GIVEN ROWS OF THIS SEAT. 9 by the template 'for every input the law returns true; each argument reads behind the call as it read before'; 0 by the template 'total and deterministic' (their statements: YthjebccidcichaaTotals.lean).
  GIVEN WITH THE SEED: the statements are not yours to turn. If you find one false, say at which input.
  Laid BY PROGRAM, IN A SANDBOX (cutbox-rows.mjs): the forced cells as the released guide's own fill.sh prints them over the translation 49d53b8d684eb000… (all of the seat's roots in one cut). By AI agents, Wed Nov 11 2026. No macro, syntax, notation, axiom, sorry.
-/
import Derived.Test.YthjebccidcichaaChecked
import GoSem.Claim
import GoSem.ClaimJoined
import GoSem.ClaimMapViews
import Derived.JoinedTies
import Derived.KernelRfl
namespace Go.Proofs.Ythjebccidcichaa
/- THE CELL 'sum', in the pinned program and in every row, IS THE sha256 OF THE DUMP (.gsa) THAT YthjebccidcichaaProg.lean LOADS. Nothing in Lean hashes anything: it is a label: what it is worth is what the hold of that sum in a sandbox is worth. -/
noncomputable def Try.pinned : Pinned := { name := "ythjebccidcichaa", sum := "49d53b8d684eb00084c78727559039402993cf8b8200e1c7a41d2a7eebd8a79d", checked := Try.checked }
namespace Rows
def none {H : Type} : Left H := { results := [], args := [] }

/-- 'accesscontrollaw05.LevelChecks': WHATEVER THE INPUT: true; the input reads as it did. -/
def levelChecksSpec : ChangeSpec := { name := "levelChecks", fn := fun _ => fun
  | [d1, d2, d3] => { results := [.lit (.bool true)], args := [d1, d2, d3] }
  | _ => none }
def levelChecksRow : OpenClaim := { program := "ythjebccidcichaa", sum := "49d53b8d684eb00084c78727559039402993cf8b8200e1c7a41d2a7eebd8a79d", func := "accesscontrol/accesscontrollaw05.LevelChecks", spec := "levelChecks", inPlace := ["internal/abi.NoEscape", "internal/bytealg.IndexByteString", "internal/bytealg.IndexString"], named := ["internal/bytealg.MaxLen"], apart := false }
def LevelChecksSaid : Prop := levelChecksRow.holds Try.pinned (OpenSpec.ofChange levelChecksSpec)

/-- ITS FALSE NEIGHBOUR: 'it returns false'. Refute it at one input. -/
def levelChecksWrong : ChangeSpec := { name := "levelChecks", fn := fun _ => fun
  | [d1, d2, d3] => { results := [.lit (.bool false)], args := [d1, d2, d3] }
  | _ => none }
def LevelChecksWrongFalsely : Prop := levelChecksRow.holds Try.pinned (OpenSpec.ofChange levelChecksWrong)

/-- 'accesscontrollaw05.LevelRelates': WHATEVER THE INPUT: true; the input reads as it did. -/
def levelRelatesSpec : ChangeSpec := { name := "levelRelates", fn := fun _ => fun
  | [d1, d2] => { results := [.lit (.bool true)], args := [d1, d2] }
  | _ => none }
def levelRelatesRow : OpenClaim := { program := "ythjebccidcichaa", sum := "49d53b8d684eb00084c78727559039402993cf8b8200e1c7a41d2a7eebd8a79d", func := "accesscontrol/accesscontrollaw05.LevelRelates", spec := "levelRelates", inPlace := ["internal/abi.NoEscape", "internal/bytealg.IndexByteString", "internal/bytealg.IndexString"], named := ["internal/bytealg.MaxLen"], apart := false }
def LevelRelatesSaid : Prop := levelRelatesRow.holds Try.pinned (OpenSpec.ofChange levelRelatesSpec)

/-- ITS FALSE NEIGHBOUR: 'it returns false'. Refute it at one input. -/
def levelRelatesWrong : ChangeSpec := { name := "levelRelates", fn := fun _ => fun
  | [d1, d2] => { results := [.lit (.bool false)], args := [d1, d2] }
  | _ => none }
def LevelRelatesWrongFalsely : Prop := levelRelatesRow.holds Try.pinned (OpenSpec.ofChange levelRelatesWrong)

/-- 'accesscontrollaw05.LevelLattice': WHATEVER THE INPUT: true; the input reads as it did. -/
def levelLatticeSpec : ChangeSpec := { name := "levelLattice", fn := fun _ => fun
  | [d1, d2, d3] => { results := [.lit (.bool true)], args := [d1, d2, d3] }
  | _ => none }
def levelLatticeRow : OpenClaim := { program := "ythjebccidcichaa", sum := "49d53b8d684eb00084c78727559039402993cf8b8200e1c7a41d2a7eebd8a79d", func := "accesscontrol/accesscontrollaw05.LevelLattice", spec := "levelLattice", inPlace := ["internal/abi.NoEscape", "internal/bytealg.IndexByteString", "internal/bytealg.IndexString"], named := ["internal/bytealg.MaxLen"], apart := false }
def LevelLatticeSaid : Prop := levelLatticeRow.holds Try.pinned (OpenSpec.ofChange levelLatticeSpec)

/-- ITS FALSE NEIGHBOUR: 'it returns false'. Refute it at one input. -/
def levelLatticeWrong : ChangeSpec := { name := "levelLattice", fn := fun _ => fun
  | [d1, d2, d3] => { results := [.lit (.bool false)], args := [d1, d2, d3] }
  | _ => none }
def LevelLatticeWrongFalsely : Prop := levelLatticeRow.holds Try.pinned (OpenSpec.ofChange levelLatticeWrong)

/-- 'accesscontrollaw05.LevelRanges': WHATEVER THE INPUT: true; the input reads as it did. -/
def levelRangesSpec : ChangeSpec := { name := "levelRanges", fn := fun _ => fun
  | [d1, d2, d3] => { results := [.lit (.bool true)], args := [d1, d2, d3] }
  | _ => none }
def levelRangesRow : OpenClaim := { program := "ythjebccidcichaa", sum := "49d53b8d684eb00084c78727559039402993cf8b8200e1c7a41d2a7eebd8a79d", func := "accesscontrol/accesscontrollaw05.LevelRanges", spec := "levelRanges", inPlace := ["internal/abi.NoEscape", "internal/bytealg.IndexByteString", "internal/bytealg.IndexString"], named := ["internal/bytealg.MaxLen"], apart := false }
def LevelRangesSaid : Prop := levelRangesRow.holds Try.pinned (OpenSpec.ofChange levelRangesSpec)

/-- ITS FALSE NEIGHBOUR: 'it returns false'. Refute it at one input. -/
def levelRangesWrong : ChangeSpec := { name := "levelRanges", fn := fun _ => fun
  | [d1, d2, d3] => { results := [.lit (.bool false)], args := [d1, d2, d3] }
  | _ => none }
def LevelRangesWrongFalsely : Prop := levelRangesRow.holds Try.pinned (OpenSpec.ofChange levelRangesWrong)

/-- 'accesscontrollaw05.LevelTexts': WHATEVER THE INPUT: true; the input reads as it did. -/
def levelTextsSpec : ChangeSpec := { name := "levelTexts", fn := fun _ => fun
  | [d1, d2] => { results := [.lit (.bool true)], args := [d1, d2] }
  | _ => none }
def levelTextsRow : OpenClaim := { program := "ythjebccidcichaa", sum := "49d53b8d684eb00084c78727559039402993cf8b8200e1c7a41d2a7eebd8a79d", func := "accesscontrol/accesscontrollaw05.LevelTexts", spec := "levelTexts", inPlace := ["internal/abi.NoEscape", "internal/bytealg.IndexByteString", "internal/bytealg.IndexString"], named := ["internal/bytealg.MaxLen"], apart := false }
def LevelTextsSaid : Prop := levelTextsRow.holds Try.pinned (OpenSpec.ofChange levelTextsSpec)

/-- ITS FALSE NEIGHBOUR: 'it returns false'. Refute it at one input. -/
def levelTextsWrong : ChangeSpec := { name := "levelTexts", fn := fun _ => fun
  | [d1, d2] => { results := [.lit (.bool false)], args := [d1, d2] }
  | _ => none }
def LevelTextsWrongFalsely : Prop := levelTextsRow.holds Try.pinned (OpenSpec.ofChange levelTextsWrong)

/-- 'accesscontrollaw05.LevelParses': WHATEVER THE INPUT: true; the input reads as it did. -/
def levelParsesSpec : ChangeSpec := { name := "levelParses", fn := fun _ => fun
  | [d1, d2] => { results := [.lit (.bool true)], args := [d1, d2] }
  | _ => none }
def levelParsesRow : OpenClaim := { program := "ythjebccidcichaa", sum := "49d53b8d684eb00084c78727559039402993cf8b8200e1c7a41d2a7eebd8a79d", func := "accesscontrol/accesscontrollaw05.LevelParses", spec := "levelParses", inPlace := ["internal/abi.NoEscape", "internal/bytealg.IndexByteString", "internal/bytealg.IndexString"], named := ["internal/bytealg.MaxLen"], apart := false }
def LevelParsesSaid : Prop := levelParsesRow.holds Try.pinned (OpenSpec.ofChange levelParsesSpec)

/-- ITS FALSE NEIGHBOUR: 'it returns false'. Refute it at one input. -/
def levelParsesWrong : ChangeSpec := { name := "levelParses", fn := fun _ => fun
  | [d1, d2] => { results := [.lit (.bool false)], args := [d1, d2] }
  | _ => none }
def LevelParsesWrongFalsely : Prop := levelParsesRow.holds Try.pinned (OpenSpec.ofChange levelParsesWrong)

/-- 'accesscontrollaw05.LevelSources': WHATEVER THE INPUT: true; the input reads as it did. -/
def levelSourcesSpec : ChangeSpec := { name := "levelSources", fn := fun _ => fun
  | [d1, d2] => { results := [.lit (.bool true)], args := [d1, d2] }
  | _ => none }
def levelSourcesRow : OpenClaim := { program := "ythjebccidcichaa", sum := "49d53b8d684eb00084c78727559039402993cf8b8200e1c7a41d2a7eebd8a79d", func := "accesscontrol/accesscontrollaw05.LevelSources", spec := "levelSources", inPlace := ["internal/abi.NoEscape", "internal/bytealg.IndexByteString", "internal/bytealg.IndexString"], named := ["internal/bytealg.MaxLen"], apart := false }
def LevelSourcesSaid : Prop := levelSourcesRow.holds Try.pinned (OpenSpec.ofChange levelSourcesSpec)

/-- ITS FALSE NEIGHBOUR: 'it returns false'. Refute it at one input. -/
def levelSourcesWrong : ChangeSpec := { name := "levelSources", fn := fun _ => fun
  | [d1, d2] => { results := [.lit (.bool false)], args := [d1, d2] }
  | _ => none }
def LevelSourcesWrongFalsely : Prop := levelSourcesRow.holds Try.pinned (OpenSpec.ofChange levelSourcesWrong)

/-- 'accesscontrollaw05.LevelShortest': WHATEVER THE INPUT: true; the input reads as it did. -/
def levelShortestSpec : ChangeSpec := { name := "levelShortest", fn := fun _ => fun
  | [d1, d2] => { results := [.lit (.bool true)], args := [d1, d2] }
  | _ => none }
def levelShortestRow : OpenClaim := { program := "ythjebccidcichaa", sum := "49d53b8d684eb00084c78727559039402993cf8b8200e1c7a41d2a7eebd8a79d", func := "accesscontrol/accesscontrollaw05.LevelShortest", spec := "levelShortest", inPlace := ["internal/abi.NoEscape", "internal/bytealg.IndexByteString", "internal/bytealg.IndexString"], named := ["internal/bytealg.MaxLen"], apart := false }
def LevelShortestSaid : Prop := levelShortestRow.holds Try.pinned (OpenSpec.ofChange levelShortestSpec)

/-- ITS FALSE NEIGHBOUR: 'it returns false'. Refute it at one input. -/
def levelShortestWrong : ChangeSpec := { name := "levelShortest", fn := fun _ => fun
  | [d1, d2] => { results := [.lit (.bool false)], args := [d1, d2] }
  | _ => none }
def LevelShortestWrongFalsely : Prop := levelShortestRow.holds Try.pinned (OpenSpec.ofChange levelShortestWrong)

/-- 'accesscontrollaw05.LevelRoundTrip': WHATEVER THE INPUT: true; the input reads as it did. -/
def levelRoundTripSpec : ChangeSpec := { name := "levelRoundTrip", fn := fun _ => fun
  | [d1, d2] => { results := [.lit (.bool true)], args := [d1, d2] }
  | _ => none }
def levelRoundTripRow : OpenClaim := { program := "ythjebccidcichaa", sum := "49d53b8d684eb00084c78727559039402993cf8b8200e1c7a41d2a7eebd8a79d", func := "accesscontrol/accesscontrollaw05.LevelRoundTrip", spec := "levelRoundTrip", inPlace := ["internal/abi.NoEscape", "internal/bytealg.IndexByteString", "internal/bytealg.IndexString"], named := ["internal/bytealg.MaxLen"], apart := false }
def LevelRoundTripSaid : Prop := levelRoundTripRow.holds Try.pinned (OpenSpec.ofChange levelRoundTripSpec)

/-- ITS FALSE NEIGHBOUR: 'it returns false'. Refute it at one input. -/
def levelRoundTripWrong : ChangeSpec := { name := "levelRoundTrip", fn := fun _ => fun
  | [d1, d2] => { results := [.lit (.bool false)], args := [d1, d2] }
  | _ => none }
def LevelRoundTripWrongFalsely : Prop := levelRoundTripRow.holds Try.pinned (OpenSpec.ofChange levelRoundTripWrong)

/- THE SECOND FORM. 'bulk': how many values and letters a reading holds, each counted each time it is reached (what is shared counts as often as it is met; a slice's spare places count too). A statement '..UptoSaid' is the law's where the arguments, and the package variables that the reading takes, are together of bulk at most 1048576: NARROWER than '..Said'. Prove '..Said' where nothing that the law and all that it calls make is longer than what came in: it says more and counts as full. Else prove '..UptoSaid'. A law counts once. -/
mutual
def uptoBulk {H : Type} : DataW H → Nat
  | .lit (.string bytes) => bytes.length + 1
  | .lit _ => 1
  | .nil => 1
  | .ptr d => uptoBulk d + 1
  | .slice elems spare => uptoBulkAll elems + uptoBulkAll spare + 1
  | .agg parts => uptoBulkAll parts + 1
  | .iface _ d => uptoBulk d + 1
  | .map entries => uptoBulkEntries entries + 1
  | .held _ => 1
def uptoBulkAll {H : Type} : List (DataW H) → Nat
  | [] => 0
  | d :: r => uptoBulk d + uptoBulkAll r
def uptoBulkEntries {H : Type} : List (Lit × DataW H) → Nat
  | [] => 0
  | x :: r => uptoBulkEntry x + uptoBulkEntries r
def uptoBulkEntry {H : Type} : Lit × DataW H → Nat
  | (.string bytes, d) => bytes.length + uptoBulk d + 1
  | (_, d) => uptoBulk d + 1
 end
def uptoSmall : (H : Type) → List (DataW H) → Bool := fun _ ds => decide (uptoBulkAll ds ≤ 1048576)
def OpenSpec.upto (s : _root_.Go.ChangeSpec) : _root_.Go.OpenSpec := { _root_.Go.OpenSpec.ofChange s with cond := some uptoSmall }

/-- 'accesscontrollaw05.LevelChecks', WHERE WHAT IT READS IS OF BULK AT MOST 1048576: true; the input reads as it did. -/
def levelChecksUptoRow : OpenClaim := { program := "ythjebccidcichaa", sum := "49d53b8d684eb00084c78727559039402993cf8b8200e1c7a41d2a7eebd8a79d", func := "accesscontrol/accesscontrollaw05.LevelChecks", spec := "levelChecks", inPlace := ["internal/abi.NoEscape", "internal/bytealg.IndexByteString", "internal/bytealg.IndexString"], named := ["internal/bytealg.MaxLen"], apart := false, narrowed := true }
def LevelChecksUptoSaid : Prop := levelChecksUptoRow.holds Try.pinned (OpenSpec.upto levelChecksSpec)

/-- 'accesscontrollaw05.LevelRelates', WHERE WHAT IT READS IS OF BULK AT MOST 1048576: true; the input reads as it did. -/
def levelRelatesUptoRow : OpenClaim := { program := "ythjebccidcichaa", sum := "49d53b8d684eb00084c78727559039402993cf8b8200e1c7a41d2a7eebd8a79d", func := "accesscontrol/accesscontrollaw05.LevelRelates", spec := "levelRelates", inPlace := ["internal/abi.NoEscape", "internal/bytealg.IndexByteString", "internal/bytealg.IndexString"], named := ["internal/bytealg.MaxLen"], apart := false, narrowed := true }
def LevelRelatesUptoSaid : Prop := levelRelatesUptoRow.holds Try.pinned (OpenSpec.upto levelRelatesSpec)

/-- 'accesscontrollaw05.LevelLattice', WHERE WHAT IT READS IS OF BULK AT MOST 1048576: true; the input reads as it did. -/
def levelLatticeUptoRow : OpenClaim := { program := "ythjebccidcichaa", sum := "49d53b8d684eb00084c78727559039402993cf8b8200e1c7a41d2a7eebd8a79d", func := "accesscontrol/accesscontrollaw05.LevelLattice", spec := "levelLattice", inPlace := ["internal/abi.NoEscape", "internal/bytealg.IndexByteString", "internal/bytealg.IndexString"], named := ["internal/bytealg.MaxLen"], apart := false, narrowed := true }
def LevelLatticeUptoSaid : Prop := levelLatticeUptoRow.holds Try.pinned (OpenSpec.upto levelLatticeSpec)

/-- 'accesscontrollaw05.LevelRanges', WHERE WHAT IT READS IS OF BULK AT MOST 1048576: true; the input reads as it did. -/
def levelRangesUptoRow : OpenClaim := { program := "ythjebccidcichaa", sum := "49d53b8d684eb00084c78727559039402993cf8b8200e1c7a41d2a7eebd8a79d", func := "accesscontrol/accesscontrollaw05.LevelRanges", spec := "levelRanges", inPlace := ["internal/abi.NoEscape", "internal/bytealg.IndexByteString", "internal/bytealg.IndexString"], named := ["internal/bytealg.MaxLen"], apart := false, narrowed := true }
def LevelRangesUptoSaid : Prop := levelRangesUptoRow.holds Try.pinned (OpenSpec.upto levelRangesSpec)

/-- 'accesscontrollaw05.LevelTexts', WHERE WHAT IT READS IS OF BULK AT MOST 1048576: true; the input reads as it did. -/
def levelTextsUptoRow : OpenClaim := { program := "ythjebccidcichaa", sum := "49d53b8d684eb00084c78727559039402993cf8b8200e1c7a41d2a7eebd8a79d", func := "accesscontrol/accesscontrollaw05.LevelTexts", spec := "levelTexts", inPlace := ["internal/abi.NoEscape", "internal/bytealg.IndexByteString", "internal/bytealg.IndexString"], named := ["internal/bytealg.MaxLen"], apart := false, narrowed := true }
def LevelTextsUptoSaid : Prop := levelTextsUptoRow.holds Try.pinned (OpenSpec.upto levelTextsSpec)

/-- 'accesscontrollaw05.LevelParses', WHERE WHAT IT READS IS OF BULK AT MOST 1048576: true; the input reads as it did. -/
def levelParsesUptoRow : OpenClaim := { program := "ythjebccidcichaa", sum := "49d53b8d684eb00084c78727559039402993cf8b8200e1c7a41d2a7eebd8a79d", func := "accesscontrol/accesscontrollaw05.LevelParses", spec := "levelParses", inPlace := ["internal/abi.NoEscape", "internal/bytealg.IndexByteString", "internal/bytealg.IndexString"], named := ["internal/bytealg.MaxLen"], apart := false, narrowed := true }
def LevelParsesUptoSaid : Prop := levelParsesUptoRow.holds Try.pinned (OpenSpec.upto levelParsesSpec)

/-- 'accesscontrollaw05.LevelSources', WHERE WHAT IT READS IS OF BULK AT MOST 1048576: true; the input reads as it did. -/
def levelSourcesUptoRow : OpenClaim := { program := "ythjebccidcichaa", sum := "49d53b8d684eb00084c78727559039402993cf8b8200e1c7a41d2a7eebd8a79d", func := "accesscontrol/accesscontrollaw05.LevelSources", spec := "levelSources", inPlace := ["internal/abi.NoEscape", "internal/bytealg.IndexByteString", "internal/bytealg.IndexString"], named := ["internal/bytealg.MaxLen"], apart := false, narrowed := true }
def LevelSourcesUptoSaid : Prop := levelSourcesUptoRow.holds Try.pinned (OpenSpec.upto levelSourcesSpec)

/-- 'accesscontrollaw05.LevelShortest', WHERE WHAT IT READS IS OF BULK AT MOST 1048576: true; the input reads as it did. -/
def levelShortestUptoRow : OpenClaim := { program := "ythjebccidcichaa", sum := "49d53b8d684eb00084c78727559039402993cf8b8200e1c7a41d2a7eebd8a79d", func := "accesscontrol/accesscontrollaw05.LevelShortest", spec := "levelShortest", inPlace := ["internal/abi.NoEscape", "internal/bytealg.IndexByteString", "internal/bytealg.IndexString"], named := ["internal/bytealg.MaxLen"], apart := false, narrowed := true }
def LevelShortestUptoSaid : Prop := levelShortestUptoRow.holds Try.pinned (OpenSpec.upto levelShortestSpec)

/-- 'accesscontrollaw05.LevelRoundTrip', WHERE WHAT IT READS IS OF BULK AT MOST 1048576: true; the input reads as it did. -/
def levelRoundTripUptoRow : OpenClaim := { program := "ythjebccidcichaa", sum := "49d53b8d684eb00084c78727559039402993cf8b8200e1c7a41d2a7eebd8a79d", func := "accesscontrol/accesscontrollaw05.LevelRoundTrip", spec := "levelRoundTrip", inPlace := ["internal/abi.NoEscape", "internal/bytealg.IndexByteString", "internal/bytealg.IndexString"], named := ["internal/bytealg.MaxLen"], apart := false, narrowed := true }
def LevelRoundTripUptoSaid : Prop := levelRoundTripUptoRow.holds Try.pinned (OpenSpec.upto levelRoundTripSpec)

end Rows
end Go.Proofs.Ythjebccidcichaa
