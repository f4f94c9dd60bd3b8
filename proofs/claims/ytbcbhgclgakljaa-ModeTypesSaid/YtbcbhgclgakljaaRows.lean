/-
  NARROWER THAN 'FOR EVERY INPUT', by the rows' own cells (each row's printed sentence says how): ModeTypes: loops.
  DERIVED. THE GIVEN ROWS OF THIS SEAT. 6 by the template 'for every input the law returns true; each argument reads behind the call as it read before'; 0 by the template 'total and deterministic' (their statements: YtbcbhgclgakljaaTotals.lean).
  GIVEN WITH THE SEED: the statements are not yours to turn. If you find one false, say at which input.
  Laid BY PROGRAM, IN A SANDBOX (cutbox-rows.mjs): the forced cells as the released guide's own fill.sh prints them over the translation c5ee432cec237dcb… (all of the seat's roots in one cut). By AI agents, Wed Nov 11 2026. No macro, syntax, notation, axiom, sorry.
-/
import Derived.Test.YtbcbhgclgakljaaChecked
import GoSem.Claim
import GoSem.ClaimJoined
import GoSem.ClaimMapViews
import Derived.JoinedTies
import Derived.KernelRfl
namespace Go.Proofs.Ytbcbhgclgakljaa
/- THE CELL 'sum', in the pinned program and in every row, IS THE sha256 OF THE DUMP (.gsa) THAT YtbcbhgclgakljaaProg.lean LOADS. Nothing in Lean hashes anything: it is a label: what it is worth is what the hold of that sum in a sandbox is worth. -/
noncomputable def Try.pinned : Pinned := { name := "ytbcbhgclgakljaa", sum := "c5ee432cec237dcbe76b45fdc0239c55fca159b342f19e9db1cf9bb8e4a4b66f", checked := Try.checked }
namespace Rows
def none {H : Type} : Left H := { results := [], args := [] }

/-- 'accesscontrollaw28.CacheModel': WHATEVER THE INPUT: true; the input reads as it did. -/
def cacheModelSpec : ChangeSpec := { name := "cacheModel", fn := fun _ => fun
  | [d1, d2] => { results := [.lit (.bool true)], args := [d1, d2] }
  | _ => none }
def cacheModelRow : OpenClaim := { program := "ytbcbhgclgakljaa", sum := "c5ee432cec237dcbe76b45fdc0239c55fca159b342f19e9db1cf9bb8e4a4b66f", func := "accesscontrol/accesscontrollaw28.CacheModel", spec := "cacheModel", plainKeys := false, apart := false }
def CacheModelSaid : Prop := cacheModelRow.holds Try.pinned (OpenSpec.ofChange cacheModelSpec)

/-- ITS FALSE NEIGHBOUR: 'it returns false'. Refute it at one input. -/
def cacheModelWrong : ChangeSpec := { name := "cacheModel", fn := fun _ => fun
  | [d1, d2] => { results := [.lit (.bool false)], args := [d1, d2] }
  | _ => none }
def CacheModelWrongFalsely : Prop := cacheModelRow.holds Try.pinned (OpenSpec.ofChange cacheModelWrong)

/-- 'accesscontrollaw30.ModeJudge': WHATEVER THE INPUT: true; the input reads as it did. -/
def modeJudgeSpec : ChangeSpec := { name := "modeJudge", fn := fun _ => fun
  | [d1, d2, d3] => { results := [.lit (.bool true)], args := [d1, d2, d3] }
  | _ => none }
def modeJudgeRow : OpenClaim := { program := "ytbcbhgclgakljaa", sum := "c5ee432cec237dcbe76b45fdc0239c55fca159b342f19e9db1cf9bb8e4a4b66f", func := "accesscontrol/accesscontrollaw30.ModeJudge", spec := "modeJudge", unfollowed := true, recurses := true, plainKeys := false, apart := false }
def ModeJudgeSaid : Prop := modeJudgeRow.holds Try.pinned (OpenSpec.ofChange modeJudgeSpec)

/-- ITS FALSE NEIGHBOUR: 'it returns false'. Refute it at one input. -/
def modeJudgeWrong : ChangeSpec := { name := "modeJudge", fn := fun _ => fun
  | [d1, d2, d3] => { results := [.lit (.bool false)], args := [d1, d2, d3] }
  | _ => none }
def ModeJudgeWrongFalsely : Prop := modeJudgeRow.holds Try.pinned (OpenSpec.ofChange modeJudgeWrong)

/-- 'accesscontrollaw30.ModeTypes': WHATEVER THE INPUT: true; the input reads as it did. -/
def modeTypesSpec : ChangeSpec := { name := "modeTypes", fn := fun _ => fun
  | [d1, d2] => { results := [.lit (.bool true)], args := [d1, d2] }
  | _ => none }
def modeTypesRow : OpenClaim := { program := "ytbcbhgclgakljaa", sum := "c5ee432cec237dcbe76b45fdc0239c55fca159b342f19e9db1cf9bb8e4a4b66f", func := "accesscontrol/accesscontrollaw30.ModeTypes", spec := "modeTypes", unfollowed := true, recurses := true, loops := true, plainKeys := false, apart := false }
def ModeTypesSaid : Prop := modeTypesRow.holds Try.pinned (OpenSpec.ofChange modeTypesSpec)

/-- ITS FALSE NEIGHBOUR: 'it returns false'. Refute it at one input. -/
def modeTypesWrong : ChangeSpec := { name := "modeTypes", fn := fun _ => fun
  | [d1, d2] => { results := [.lit (.bool false)], args := [d1, d2] }
  | _ => none }
def ModeTypesWrongFalsely : Prop := modeTypesRow.holds Try.pinned (OpenSpec.ofChange modeTypesWrong)

/-- 'accesscontrollaw30.ModeWorst': WHATEVER THE INPUT: true; the input reads as it did. -/
def modeWorstSpec : ChangeSpec := { name := "modeWorst", fn := fun _ => fun
  | [d1, d2] => { results := [.lit (.bool true)], args := [d1, d2] }
  | _ => none }
def modeWorstRow : OpenClaim := { program := "ytbcbhgclgakljaa", sum := "c5ee432cec237dcbe76b45fdc0239c55fca159b342f19e9db1cf9bb8e4a4b66f", func := "accesscontrol/accesscontrollaw30.ModeWorst", spec := "modeWorst", unfollowed := true, recurses := true, plainKeys := false, apart := false }
def ModeWorstSaid : Prop := modeWorstRow.holds Try.pinned (OpenSpec.ofChange modeWorstSpec)

/-- ITS FALSE NEIGHBOUR: 'it returns false'. Refute it at one input. -/
def modeWorstWrong : ChangeSpec := { name := "modeWorst", fn := fun _ => fun
  | [d1, d2] => { results := [.lit (.bool false)], args := [d1, d2] }
  | _ => none }
def ModeWorstWrongFalsely : Prop := modeWorstRow.holds Try.pinned (OpenSpec.ofChange modeWorstWrong)

/-- 'accesscontrollaw30.ModeParts': WHATEVER THE INPUT: true; the input reads as it did. -/
def modePartsSpec : ChangeSpec := { name := "modeParts", fn := fun _ => fun
  | [d1, d2] => { results := [.lit (.bool true)], args := [d1, d2] }
  | _ => none }
def modePartsRow : OpenClaim := { program := "ytbcbhgclgakljaa", sum := "c5ee432cec237dcbe76b45fdc0239c55fca159b342f19e9db1cf9bb8e4a4b66f", func := "accesscontrol/accesscontrollaw30.ModeParts", spec := "modeParts", unfollowed := true, recurses := true, plainKeys := false, apart := false }
def ModePartsSaid : Prop := modePartsRow.holds Try.pinned (OpenSpec.ofChange modePartsSpec)

/-- ITS FALSE NEIGHBOUR: 'it returns false'. Refute it at one input. -/
def modePartsWrong : ChangeSpec := { name := "modeParts", fn := fun _ => fun
  | [d1, d2] => { results := [.lit (.bool false)], args := [d1, d2] }
  | _ => none }
def ModePartsWrongFalsely : Prop := modePartsRow.holds Try.pinned (OpenSpec.ofChange modePartsWrong)

/-- 'accesscontrollaw30.ModeEnforces': WHATEVER THE INPUT: true; the input reads as it did. -/
def modeEnforcesSpec : ChangeSpec := { name := "modeEnforces", fn := fun _ => fun
  | [d1, d2] => { results := [.lit (.bool true)], args := [d1, d2] }
  | _ => none }
def modeEnforcesRow : OpenClaim := { program := "ytbcbhgclgakljaa", sum := "c5ee432cec237dcbe76b45fdc0239c55fca159b342f19e9db1cf9bb8e4a4b66f", func := "accesscontrol/accesscontrollaw30.ModeEnforces", spec := "modeEnforces", unfollowed := true, recurses := true, plainKeys := false, apart := false }
def ModeEnforcesSaid : Prop := modeEnforcesRow.holds Try.pinned (OpenSpec.ofChange modeEnforcesSpec)

/-- ITS FALSE NEIGHBOUR: 'it returns false'. Refute it at one input. -/
def modeEnforcesWrong : ChangeSpec := { name := "modeEnforces", fn := fun _ => fun
  | [d1, d2] => { results := [.lit (.bool false)], args := [d1, d2] }
  | _ => none }
def ModeEnforcesWrongFalsely : Prop := modeEnforcesRow.holds Try.pinned (OpenSpec.ofChange modeEnforcesWrong)

/- THE SECOND FORM. 'bulk': how many values and letters a reading holds, each counted each time it is reached (what is shared counts as often as it is met; a slice's spare places count too). A statement '..UptoSaid' is the law's where the arguments, and the package variables that the reading takes, are together of bulk at most 1048576: NARROWER than '..Said'. Prove '..Said' where nothing that the law and all that it calls make is longer than what came in: it says more and counts as full. Else prove '..UptoSaid'. A law counts once. -/
mutual
def uptoBulk {H : Type} : DataW H → Nat
  | .lit (.string bytes) => bytes.length + 1
  | .lit _ => 1
  | .nil => 1
  | .ptr d => uptoBulk d + 1
  | .slice elems spare => uptoBulkAll elems + uptoBulkAll spare + 1
  | .agg parts => uptoBulkAll parts + 1
  | .iface _ d => uptoBulk d + 1
  | .map entries => uptoBulkEntries entries + 1
  | .held _ => 1
def uptoBulkAll {H : Type} : List (DataW H) → Nat
  | [] => 0
  | d :: r => uptoBulk d + uptoBulkAll r
def uptoBulkEntries {H : Type} : List (Lit × DataW H) → Nat
  | [] => 0
  | x :: r => uptoBulkEntry x + uptoBulkEntries r
def uptoBulkEntry {H : Type} : Lit × DataW H → Nat
  | (.string bytes, d) => bytes.length + uptoBulk d + 1
  | (_, d) => uptoBulk d + 1
 end
def uptoSmall : (H : Type) → List (DataW H) → Bool := fun _ ds => decide (uptoBulkAll ds ≤ 1048576)
def OpenSpec.upto (s : _root_.Go.ChangeSpec) : _root_.Go.OpenSpec := { _root_.Go.OpenSpec.ofChange s with cond := some uptoSmall }

/-- 'accesscontrollaw28.CacheModel', WHERE WHAT IT READS IS OF BULK AT MOST 1048576: true; the input reads as it did. -/
def cacheModelUptoRow : OpenClaim := { program := "ytbcbhgclgakljaa", sum := "c5ee432cec237dcbe76b45fdc0239c55fca159b342f19e9db1cf9bb8e4a4b66f", func := "accesscontrol/accesscontrollaw28.CacheModel", spec := "cacheModel", plainKeys := false, apart := false, narrowed := true }
def CacheModelUptoSaid : Prop := cacheModelUptoRow.holds Try.pinned (OpenSpec.upto cacheModelSpec)

/-- 'accesscontrollaw30.ModeJudge', WHERE WHAT IT READS IS OF BULK AT MOST 1048576: true; the input reads as it did. -/
def modeJudgeUptoRow : OpenClaim := { program := "ytbcbhgclgakljaa", sum := "c5ee432cec237dcbe76b45fdc0239c55fca159b342f19e9db1cf9bb8e4a4b66f", func := "accesscontrol/accesscontrollaw30.ModeJudge", spec := "modeJudge", unfollowed := true, recurses := true, plainKeys := false, apart := false, narrowed := true }
def ModeJudgeUptoSaid : Prop := modeJudgeUptoRow.holds Try.pinned (OpenSpec.upto modeJudgeSpec)

/-- 'accesscontrollaw30.ModeTypes', WHERE WHAT IT READS IS OF BULK AT MOST 1048576: true; the input reads as it did. -/
def modeTypesUptoRow : OpenClaim := { program := "ytbcbhgclgakljaa", sum := "c5ee432cec237dcbe76b45fdc0239c55fca159b342f19e9db1cf9bb8e4a4b66f", func := "accesscontrol/accesscontrollaw30.ModeTypes", spec := "modeTypes", unfollowed := true, recurses := true, loops := true, plainKeys := false, apart := false, narrowed := true }
def ModeTypesUptoSaid : Prop := modeTypesUptoRow.holds Try.pinned (OpenSpec.upto modeTypesSpec)

/-- 'accesscontrollaw30.ModeWorst', WHERE WHAT IT READS IS OF BULK AT MOST 1048576: true; the input reads as it did. -/
def modeWorstUptoRow : OpenClaim := { program := "ytbcbhgclgakljaa", sum := "c5ee432cec237dcbe76b45fdc0239c55fca159b342f19e9db1cf9bb8e4a4b66f", func := "accesscontrol/accesscontrollaw30.ModeWorst", spec := "modeWorst", unfollowed := true, recurses := true, plainKeys := false, apart := false, narrowed := true }
def ModeWorstUptoSaid : Prop := modeWorstUptoRow.holds Try.pinned (OpenSpec.upto modeWorstSpec)

/-- 'accesscontrollaw30.ModeParts', WHERE WHAT IT READS IS OF BULK AT MOST 1048576: true; the input reads as it did. -/
def modePartsUptoRow : OpenClaim := { program := "ytbcbhgclgakljaa", sum := "c5ee432cec237dcbe76b45fdc0239c55fca159b342f19e9db1cf9bb8e4a4b66f", func := "accesscontrol/accesscontrollaw30.ModeParts", spec := "modeParts", unfollowed := true, recurses := true, plainKeys := false, apart := false, narrowed := true }
def ModePartsUptoSaid : Prop := modePartsUptoRow.holds Try.pinned (OpenSpec.upto modePartsSpec)

/-- 'accesscontrollaw30.ModeEnforces', WHERE WHAT IT READS IS OF BULK AT MOST 1048576: true; the input reads as it did. -/
def modeEnforcesUptoRow : OpenClaim := { program := "ytbcbhgclgakljaa", sum := "c5ee432cec237dcbe76b45fdc0239c55fca159b342f19e9db1cf9bb8e4a4b66f", func := "accesscontrol/accesscontrollaw30.ModeEnforces", spec := "modeEnforces", unfollowed := true, recurses := true, plainKeys := false, apart := false, narrowed := true }
def ModeEnforcesUptoSaid : Prop := modeEnforcesUptoRow.holds Try.pinned (OpenSpec.upto modeEnforcesSpec)

end Rows
end Go.Proofs.Ytbcbhgclgakljaa
