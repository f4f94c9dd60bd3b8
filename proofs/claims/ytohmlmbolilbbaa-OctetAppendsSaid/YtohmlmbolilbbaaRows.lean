/-
  No cell of these rows narrows 'for every input' (looked for: loops, veiled, ifaces, maps, wideKeys, modest, calm, conditions, laid).
  DERIVED. THE GIVEN ROWS OF THIS SEAT. 7 by the template 'for every input the law returns true; each argument reads behind the call as it read before'; 0 by the template 'total and deterministic' (their statements: YtohmlmbolilbbaaTotals.lean).
  GIVEN WITH THE SEED: the statements are not yours to turn. If you find one false, say at which input.
  Laid BY PROGRAM, IN A SANDBOX (cutbox-rows.mjs): the forced cells as the released guide's own fill.sh prints them over the translation ba0a12c865f9027d… (all of the seat's roots in one cut). By AI agents, Wed Nov 11 2026. No macro, syntax, notation, axiom, sorry.
-/
import Derived.Test.YtohmlmbolilbbaaChecked
import GoSem.Claim
import GoSem.ClaimJoined
import GoSem.ClaimMapViews
import Derived.JoinedTies
import Derived.KernelRfl
namespace Go.Proofs.Ytohmlmbolilbbaa
/- THE CELL 'sum', in the pinned program and in every row, IS THE sha256 OF THE DUMP (.gsa) THAT YtohmlmbolilbbaaProg.lean LOADS. Nothing in Lean hashes anything: it is a label: what it is worth is what the hold of that sum in a sandbox is worth. -/
noncomputable def Try.pinned : Pinned := { name := "ytohmlmbolilbbaa", sum := "ba0a12c865f9027d660cb5fa0342849332a0a95b87cf70cf9ab9bd281c50c319", checked := Try.checked }
namespace Rows
def none {H : Type} : Left H := { results := [], args := [] }

/-- 'accesscontrollaw03.OctetNumbers': WHATEVER THE INPUT: true; the input reads as it did. -/
def octetNumbersSpec : ChangeSpec := { name := "octetNumbers", fn := fun _ => fun
  | [d1, d2, d3] => { results := [.lit (.bool true)], args := [d1, d2, d3] }
  | _ => none }
def octetNumbersRow : OpenClaim := { program := "ytohmlmbolilbbaa", sum := "ba0a12c865f9027d660cb5fa0342849332a0a95b87cf70cf9ab9bd281c50c319", func := "accesscontrol/accesscontrollaw03.OctetNumbers", spec := "octetNumbers", apart := false }
def OctetNumbersSaid : Prop := octetNumbersRow.holds Try.pinned (OpenSpec.ofChange octetNumbersSpec)

/-- ITS FALSE NEIGHBOUR: 'it returns false'. Refute it at one input. -/
def octetNumbersWrong : ChangeSpec := { name := "octetNumbers", fn := fun _ => fun
  | [d1, d2, d3] => { results := [.lit (.bool false)], args := [d1, d2, d3] }
  | _ => none }
def OctetNumbersWrongFalsely : Prop := octetNumbersRow.holds Try.pinned (OpenSpec.ofChange octetNumbersWrong)

/-- 'accesscontrollaw03.OctetTexts': WHATEVER THE INPUT: true; the input reads as it did. -/
def octetTextsSpec : ChangeSpec := { name := "octetTexts", fn := fun _ => fun
  | [d1, d2, d3] => { results := [.lit (.bool true)], args := [d1, d2, d3] }
  | _ => none }
def octetTextsRow : OpenClaim := { program := "ytohmlmbolilbbaa", sum := "ba0a12c865f9027d660cb5fa0342849332a0a95b87cf70cf9ab9bd281c50c319", func := "accesscontrol/accesscontrollaw03.OctetTexts", spec := "octetTexts", apart := false }
def OctetTextsSaid : Prop := octetTextsRow.holds Try.pinned (OpenSpec.ofChange octetTextsSpec)

/-- ITS FALSE NEIGHBOUR: 'it returns false'. Refute it at one input. -/
def octetTextsWrong : ChangeSpec := { name := "octetTexts", fn := fun _ => fun
  | [d1, d2, d3] => { results := [.lit (.bool false)], args := [d1, d2, d3] }
  | _ => none }
def OctetTextsWrongFalsely : Prop := octetTextsRow.holds Try.pinned (OpenSpec.ofChange octetTextsWrong)

/-- 'accesscontrollaw03.OctetSets': WHATEVER THE INPUT: true; the input reads as it did. -/
def octetSetsSpec : ChangeSpec := { name := "octetSets", fn := fun _ => fun
  | [d1, d2] => { results := [.lit (.bool true)], args := [d1, d2] }
  | _ => none }
def octetSetsRow : OpenClaim := { program := "ytohmlmbolilbbaa", sum := "ba0a12c865f9027d660cb5fa0342849332a0a95b87cf70cf9ab9bd281c50c319", func := "accesscontrol/accesscontrollaw03.OctetSets", spec := "octetSets", apart := false }
def OctetSetsSaid : Prop := octetSetsRow.holds Try.pinned (OpenSpec.ofChange octetSetsSpec)

/-- ITS FALSE NEIGHBOUR: 'it returns false'. Refute it at one input. -/
def octetSetsWrong : ChangeSpec := { name := "octetSets", fn := fun _ => fun
  | [d1, d2] => { results := [.lit (.bool false)], args := [d1, d2] }
  | _ => none }
def OctetSetsWrongFalsely : Prop := octetSetsRow.holds Try.pinned (OpenSpec.ofChange octetSetsWrong)

/-- 'accesscontrollaw03.OctetSums': WHATEVER THE INPUT: true; the input reads as it did. -/
def octetSumsSpec : ChangeSpec := { name := "octetSums", fn := fun _ => fun
  | [d] => { results := [.lit (.bool true)], args := [d] }
  | _ => none }
def octetSumsRow : OpenClaim := { program := "ytohmlmbolilbbaa", sum := "ba0a12c865f9027d660cb5fa0342849332a0a95b87cf70cf9ab9bd281c50c319", func := "accesscontrol/accesscontrollaw03.OctetSums", spec := "octetSums", apart := false }
def OctetSumsSaid : Prop := octetSumsRow.holds Try.pinned (OpenSpec.ofChange octetSumsSpec)

/-- ITS FALSE NEIGHBOUR: 'it returns false'. Refute it at one input. -/
def octetSumsWrong : ChangeSpec := { name := "octetSums", fn := fun _ => fun
  | [d] => { results := [.lit (.bool false)], args := [d] }
  | _ => none }
def OctetSumsWrongFalsely : Prop := octetSumsRow.holds Try.pinned (OpenSpec.ofChange octetSumsWrong)

/-- 'accesscontrollaw03.OctetRoundTrip': WHATEVER THE INPUT: true; the input reads as it did. -/
def octetRoundTripSpec : ChangeSpec := { name := "octetRoundTrip", fn := fun _ => fun
  | [d1, d2] => { results := [.lit (.bool true)], args := [d1, d2] }
  | _ => none }
def octetRoundTripRow : OpenClaim := { program := "ytohmlmbolilbbaa", sum := "ba0a12c865f9027d660cb5fa0342849332a0a95b87cf70cf9ab9bd281c50c319", func := "accesscontrol/accesscontrollaw03.OctetRoundTrip", spec := "octetRoundTrip", apart := false }
def OctetRoundTripSaid : Prop := octetRoundTripRow.holds Try.pinned (OpenSpec.ofChange octetRoundTripSpec)

/-- ITS FALSE NEIGHBOUR: 'it returns false'. Refute it at one input. -/
def octetRoundTripWrong : ChangeSpec := { name := "octetRoundTrip", fn := fun _ => fun
  | [d1, d2] => { results := [.lit (.bool false)], args := [d1, d2] }
  | _ => none }
def OctetRoundTripWrongFalsely : Prop := octetRoundTripRow.holds Try.pinned (OpenSpec.ofChange octetRoundTripWrong)

/-- 'accesscontrollaw03.OctetOneEncoding': WHATEVER THE INPUT: true; the input reads as it did. -/
def octetOneEncodingSpec : ChangeSpec := { name := "octetOneEncoding", fn := fun _ => fun
  | [d] => { results := [.lit (.bool true)], args := [d] }
  | _ => none }
def octetOneEncodingRow : OpenClaim := { program := "ytohmlmbolilbbaa", sum := "ba0a12c865f9027d660cb5fa0342849332a0a95b87cf70cf9ab9bd281c50c319", func := "accesscontrol/accesscontrollaw03.OctetOneEncoding", spec := "octetOneEncoding", apart := false }
def OctetOneEncodingSaid : Prop := octetOneEncodingRow.holds Try.pinned (OpenSpec.ofChange octetOneEncodingSpec)

/-- ITS FALSE NEIGHBOUR: 'it returns false'. Refute it at one input. -/
def octetOneEncodingWrong : ChangeSpec := { name := "octetOneEncoding", fn := fun _ => fun
  | [d] => { results := [.lit (.bool false)], args := [d] }
  | _ => none }
def OctetOneEncodingWrongFalsely : Prop := octetOneEncodingRow.holds Try.pinned (OpenSpec.ofChange octetOneEncodingWrong)

/-- 'accesscontrollaw03.OctetAppends': WHATEVER THE INPUT: true; the input reads as it did. -/
def octetAppendsSpec : ChangeSpec := { name := "octetAppends", fn := fun _ => fun
  | [d1, d2] => { results := [.lit (.bool true)], args := [d1, d2] }
  | _ => none }
def octetAppendsRow : OpenClaim := { program := "ytohmlmbolilbbaa", sum := "ba0a12c865f9027d660cb5fa0342849332a0a95b87cf70cf9ab9bd281c50c319", func := "accesscontrol/accesscontrollaw03.OctetAppends", spec := "octetAppends", apart := false }
def OctetAppendsSaid : Prop := octetAppendsRow.holds Try.pinned (OpenSpec.ofChange octetAppendsSpec)

/-- ITS FALSE NEIGHBOUR: 'it returns false'. Refute it at one input. -/
def octetAppendsWrong : ChangeSpec := { name := "octetAppends", fn := fun _ => fun
  | [d1, d2] => { results := [.lit (.bool false)], args := [d1, d2] }
  | _ => none }
def OctetAppendsWrongFalsely : Prop := octetAppendsRow.holds Try.pinned (OpenSpec.ofChange octetAppendsWrong)

/- THE SECOND FORM. 'bulk': how many values and letters a reading holds, each counted each time it is reached (what is shared counts as often as it is met; a slice's spare places count too). A statement '..UptoSaid' is the law's where the arguments, and the package variables that the reading takes, are together of bulk at most 1048576: NARROWER than '..Said'. Prove '..Said' where nothing that the law and all that it calls make is longer than what came in: it says more and counts as full. Else prove '..UptoSaid'. A law counts once. -/
mutual
def uptoBulk {H : Type} : DataW H → Nat
  | .lit (.string bytes) => bytes.length + 1
  | .lit _ => 1
  | .nil => 1
  | .ptr d => uptoBulk d + 1
  | .slice elems spare => uptoBulkAll elems + uptoBulkAll spare + 1
  | .agg parts => uptoBulkAll parts + 1
  | .iface _ d => uptoBulk d + 1
  | .map entries => uptoBulkEntries entries + 1
  | .held _ => 1
def uptoBulkAll {H : Type} : List (DataW H) → Nat
  | [] => 0
  | d :: r => uptoBulk d + uptoBulkAll r
def uptoBulkEntries {H : Type} : List (Lit × DataW H) → Nat
  | [] => 0
  | x :: r => uptoBulkEntry x + uptoBulkEntries r
def uptoBulkEntry {H : Type} : Lit × DataW H → Nat
  | (.string bytes, d) => bytes.length + uptoBulk d + 1
  | (_, d) => uptoBulk d + 1
 end
def uptoSmall : (H : Type) → List (DataW H) → Bool := fun _ ds => decide (uptoBulkAll ds ≤ 1048576)
def OpenSpec.upto (s : _root_.Go.ChangeSpec) : _root_.Go.OpenSpec := { _root_.Go.OpenSpec.ofChange s with cond := some uptoSmall }

/-- 'accesscontrollaw03.OctetNumbers', WHERE WHAT IT READS IS OF BULK AT MOST 1048576: true; the input reads as it did. -/
def octetNumbersUptoRow : OpenClaim := { program := "ytohmlmbolilbbaa", sum := "ba0a12c865f9027d660cb5fa0342849332a0a95b87cf70cf9ab9bd281c50c319", func := "accesscontrol/accesscontrollaw03.OctetNumbers", spec := "octetNumbers", apart := false, narrowed := true }
def OctetNumbersUptoSaid : Prop := octetNumbersUptoRow.holds Try.pinned (OpenSpec.upto octetNumbersSpec)

/-- 'accesscontrollaw03.OctetTexts', WHERE WHAT IT READS IS OF BULK AT MOST 1048576: true; the input reads as it did. -/
def octetTextsUptoRow : OpenClaim := { program := "ytohmlmbolilbbaa", sum := "ba0a12c865f9027d660cb5fa0342849332a0a95b87cf70cf9ab9bd281c50c319", func := "accesscontrol/accesscontrollaw03.OctetTexts", spec := "octetTexts", apart := false, narrowed := true }
def OctetTextsUptoSaid : Prop := octetTextsUptoRow.holds Try.pinned (OpenSpec.upto octetTextsSpec)

/-- 'accesscontrollaw03.OctetSets', WHERE WHAT IT READS IS OF BULK AT MOST 1048576: true; the input reads as it did. -/
def octetSetsUptoRow : OpenClaim := { program := "ytohmlmbolilbbaa", sum := "ba0a12c865f9027d660cb5fa0342849332a0a95b87cf70cf9ab9bd281c50c319", func := "accesscontrol/accesscontrollaw03.OctetSets", spec := "octetSets", apart := false, narrowed := true }
def OctetSetsUptoSaid : Prop := octetSetsUptoRow.holds Try.pinned (OpenSpec.upto octetSetsSpec)

/-- 'accesscontrollaw03.OctetSums', WHERE WHAT IT READS IS OF BULK AT MOST 1048576: true; the input reads as it did. -/
def octetSumsUptoRow : OpenClaim := { program := "ytohmlmbolilbbaa", sum := "ba0a12c865f9027d660cb5fa0342849332a0a95b87cf70cf9ab9bd281c50c319", func := "accesscontrol/accesscontrollaw03.OctetSums", spec := "octetSums", apart := false, narrowed := true }
def OctetSumsUptoSaid : Prop := octetSumsUptoRow.holds Try.pinned (OpenSpec.upto octetSumsSpec)

/-- 'accesscontrollaw03.OctetRoundTrip', WHERE WHAT IT READS IS OF BULK AT MOST 1048576: true; the input reads as it did. -/
def octetRoundTripUptoRow : OpenClaim := { program := "ytohmlmbolilbbaa", sum := "ba0a12c865f9027d660cb5fa0342849332a0a95b87cf70cf9ab9bd281c50c319", func := "accesscontrol/accesscontrollaw03.OctetRoundTrip", spec := "octetRoundTrip", apart := false, narrowed := true }
def OctetRoundTripUptoSaid : Prop := octetRoundTripUptoRow.holds Try.pinned (OpenSpec.upto octetRoundTripSpec)

/-- 'accesscontrollaw03.OctetOneEncoding', WHERE WHAT IT READS IS OF BULK AT MOST 1048576: true; the input reads as it did. -/
def octetOneEncodingUptoRow : OpenClaim := { program := "ytohmlmbolilbbaa", sum := "ba0a12c865f9027d660cb5fa0342849332a0a95b87cf70cf9ab9bd281c50c319", func := "accesscontrol/accesscontrollaw03.OctetOneEncoding", spec := "octetOneEncoding", apart := false, narrowed := true }
def OctetOneEncodingUptoSaid : Prop := octetOneEncodingUptoRow.holds Try.pinned (OpenSpec.upto octetOneEncodingSpec)

/-- 'accesscontrollaw03.OctetAppends', WHERE WHAT IT READS IS OF BULK AT MOST 1048576: true; the input reads as it did. -/
def octetAppendsUptoRow : OpenClaim := { program := "ytohmlmbolilbbaa", sum := "ba0a12c865f9027d660cb5fa0342849332a0a95b87cf70cf9ab9bd281c50c319", func := "accesscontrol/accesscontrollaw03.OctetAppends", spec := "octetAppends", apart := false, narrowed := true }
def OctetAppendsUptoSaid : Prop := octetAppendsUptoRow.holds Try.pinned (OpenSpec.upto octetAppendsSpec)

end Rows
end Go.Proofs.Ytohmlmbolilbbaa
