/-
  No cell of these rows narrows 'for every input' (looked for: loops, veiled, ifaces, maps, wideKeys, modest, calm, conditions, laid).
  DERIVED. THE GIVEN ROWS OF THIS SEAT. 5 by the template 'for every input the law returns true; each argument reads behind the call as it read before'; 0 by the template 'total and deterministic' (their statements: YtcainohglmgdpaaTotals.lean).
  GIVEN WITH THE SEED: the statements are not yours to turn. If you find one false, say at which input.
  Laid BY PROGRAM, IN A SANDBOX (cutbox-rows.mjs): the forced cells as the released guide's own fill.sh prints them over the translation bd84eacb4db5b11f… (all of the seat's roots in one cut). By AI agents, Wed Nov 11 2026. No macro, syntax, notation, axiom, sorry.
-/
import Derived.Test.YtcainohglmgdpaaChecked
import GoSem.Claim
import GoSem.ClaimJoined
import GoSem.ClaimMapViews
import Derived.JoinedTies
import Derived.KernelRfl
namespace Go.Proofs.Ytcainohglmgdpaa
/- THE CELL 'sum', in the pinned program and in every row, IS THE sha256 OF THE DUMP (.gsa) THAT YtcainohglmgdpaaProg.lean LOADS. Nothing in Lean hashes anything: it is a label: what it is worth is what the hold of that sum in a sandbox is worth. -/
noncomputable def Try.pinned : Pinned := { name := "ytcainohglmgdpaa", sum := "bd84eacb4db5b11fe41e4f126f5d37be5c632255972e87f23c00f29fc7990e9b", checked := Try.checked }
namespace Rows
def none {H : Type} : Left H := { results := [], args := [] }

/-- 'accesscontrollaw31.RatelimitModel': WHATEVER THE INPUT: true; the input reads as it did. -/
def ratelimitModelSpec : ChangeSpec := { name := "ratelimitModel", fn := fun _ => fun
  | [d] => { results := [.lit (.bool true)], args := [d] }
  | _ => none }
def ratelimitModelRow : OpenClaim := { program := "ytcainohglmgdpaa", sum := "bd84eacb4db5b11fe41e4f126f5d37be5c632255972e87f23c00f29fc7990e9b", func := "accesscontrol/accesscontrollaw31.RatelimitModel", spec := "ratelimitModel", unfollowed := true, recurses := true, apart := false }
def RatelimitModelSaid : Prop := ratelimitModelRow.holds Try.pinned (OpenSpec.ofChange ratelimitModelSpec)

/-- ITS FALSE NEIGHBOUR: 'it returns false'. Refute it at one input. -/
def ratelimitModelWrong : ChangeSpec := { name := "ratelimitModel", fn := fun _ => fun
  | [d] => { results := [.lit (.bool false)], args := [d] }
  | _ => none }
def RatelimitModelWrongFalsely : Prop := ratelimitModelRow.holds Try.pinned (OpenSpec.ofChange ratelimitModelWrong)

/-- 'accesscontrollaw31.RatelimitCopies': WHATEVER THE INPUT: true; the input reads as it did. -/
def ratelimitCopiesSpec : ChangeSpec := { name := "ratelimitCopies", fn := fun _ => fun
  | [d] => { results := [.lit (.bool true)], args := [d] }
  | _ => none }
def ratelimitCopiesRow : OpenClaim := { program := "ytcainohglmgdpaa", sum := "bd84eacb4db5b11fe41e4f126f5d37be5c632255972e87f23c00f29fc7990e9b", func := "accesscontrol/accesscontrollaw31.RatelimitCopies", spec := "ratelimitCopies", inPlace := ["maps.clone"], unfollowed := true, recurses := true, apart := false }
def RatelimitCopiesSaid : Prop := ratelimitCopiesRow.holds Try.pinned (OpenSpec.ofChange ratelimitCopiesSpec)

/-- ITS FALSE NEIGHBOUR: 'it returns false'. Refute it at one input. -/
def ratelimitCopiesWrong : ChangeSpec := { name := "ratelimitCopies", fn := fun _ => fun
  | [d] => { results := [.lit (.bool false)], args := [d] }
  | _ => none }
def RatelimitCopiesWrongFalsely : Prop := ratelimitCopiesRow.holds Try.pinned (OpenSpec.ofChange ratelimitCopiesWrong)

/-- 'accesscontrollaw31.RatelimitBound': WHATEVER THE INPUT: true; the input reads as it did. -/
def ratelimitBoundSpec : ChangeSpec := { name := "ratelimitBound", fn := fun _ => fun
  | [d1, d2, d3] => { results := [.lit (.bool true)], args := [d1, d2, d3] }
  | _ => none }
def ratelimitBoundRow : OpenClaim := { program := "ytcainohglmgdpaa", sum := "bd84eacb4db5b11fe41e4f126f5d37be5c632255972e87f23c00f29fc7990e9b", func := "accesscontrol/accesscontrollaw31.RatelimitBound", spec := "ratelimitBound", unfollowed := true, recurses := true, apart := false }
def RatelimitBoundSaid : Prop := ratelimitBoundRow.holds Try.pinned (OpenSpec.ofChange ratelimitBoundSpec)

/-- ITS FALSE NEIGHBOUR: 'it returns false'. Refute it at one input. -/
def ratelimitBoundWrong : ChangeSpec := { name := "ratelimitBound", fn := fun _ => fun
  | [d1, d2, d3] => { results := [.lit (.bool false)], args := [d1, d2, d3] }
  | _ => none }
def RatelimitBoundWrongFalsely : Prop := ratelimitBoundRow.holds Try.pinned (OpenSpec.ofChange ratelimitBoundWrong)

/-- 'accesscontrollaw31.RatelimitLeft': WHATEVER THE INPUT: true; the input reads as it did. -/
def ratelimitLeftSpec : ChangeSpec := { name := "ratelimitLeft", fn := fun _ => fun
  | [d] => { results := [.lit (.bool true)], args := [d] }
  | _ => none }
def ratelimitLeftRow : OpenClaim := { program := "ytcainohglmgdpaa", sum := "bd84eacb4db5b11fe41e4f126f5d37be5c632255972e87f23c00f29fc7990e9b", func := "accesscontrol/accesscontrollaw31.RatelimitLeft", spec := "ratelimitLeft", unfollowed := true, recurses := true, apart := false }
def RatelimitLeftSaid : Prop := ratelimitLeftRow.holds Try.pinned (OpenSpec.ofChange ratelimitLeftSpec)

/-- ITS FALSE NEIGHBOUR: 'it returns false'. Refute it at one input. -/
def ratelimitLeftWrong : ChangeSpec := { name := "ratelimitLeft", fn := fun _ => fun
  | [d] => { results := [.lit (.bool false)], args := [d] }
  | _ => none }
def RatelimitLeftWrongFalsely : Prop := ratelimitLeftRow.holds Try.pinned (OpenSpec.ofChange ratelimitLeftWrong)

/-- 'accesscontrollaw31.RatelimitNil': WHATEVER THE INPUT: true; the input reads as it did. -/
def ratelimitNilSpec : ChangeSpec := { name := "ratelimitNil", fn := fun _ => fun
  | [d1, d2] => { results := [.lit (.bool true)], args := [d1, d2] }
  | _ => none }
def ratelimitNilRow : OpenClaim := { program := "ytcainohglmgdpaa", sum := "bd84eacb4db5b11fe41e4f126f5d37be5c632255972e87f23c00f29fc7990e9b", func := "accesscontrol/accesscontrollaw31.RatelimitNil", spec := "ratelimitNil", inPlace := ["maps.clone"], unfollowed := true, recurses := true, apart := false }
def RatelimitNilSaid : Prop := ratelimitNilRow.holds Try.pinned (OpenSpec.ofChange ratelimitNilSpec)

/-- ITS FALSE NEIGHBOUR: 'it returns false'. Refute it at one input. -/
def ratelimitNilWrong : ChangeSpec := { name := "ratelimitNil", fn := fun _ => fun
  | [d1, d2] => { results := [.lit (.bool false)], args := [d1, d2] }
  | _ => none }
def RatelimitNilWrongFalsely : Prop := ratelimitNilRow.holds Try.pinned (OpenSpec.ofChange ratelimitNilWrong)

/- THE SECOND FORM. 'bulk': how many values and letters a reading holds, each counted each time it is reached (what is shared counts as often as it is met; a slice's spare places count too). A statement '..UptoSaid' is the law's where the arguments, and the package variables that the reading takes, are together of bulk at most 1048576: NARROWER than '..Said'. Prove '..Said' where nothing that the law and all that it calls make is longer than what came in: it says more and counts as full. Else prove '..UptoSaid'. A law counts once. -/
mutual
def uptoBulk {H : Type} : DataW H → Nat
  | .lit (.string bytes) => bytes.length + 1
  | .lit _ => 1
  | .nil => 1
  | .ptr d => uptoBulk d + 1
  | .slice elems spare => uptoBulkAll elems + uptoBulkAll spare + 1
  | .agg parts => uptoBulkAll parts + 1
  | .iface _ d => uptoBulk d + 1
  | .map entries => uptoBulkEntries entries + 1
  | .held _ => 1
def uptoBulkAll {H : Type} : List (DataW H) → Nat
  | [] => 0
  | d :: r => uptoBulk d + uptoBulkAll r
def uptoBulkEntries {H : Type} : List (Lit × DataW H) → Nat
  | [] => 0
  | x :: r => uptoBulkEntry x + uptoBulkEntries r
def uptoBulkEntry {H : Type} : Lit × DataW H → Nat
  | (.string bytes, d) => bytes.length + uptoBulk d + 1
  | (_, d) => uptoBulk d + 1
 end
def uptoSmall : (H : Type) → List (DataW H) → Bool := fun _ ds => decide (uptoBulkAll ds ≤ 1048576)
def OpenSpec.upto (s : _root_.Go.ChangeSpec) : _root_.Go.OpenSpec := { _root_.Go.OpenSpec.ofChange s with cond := some uptoSmall }

/-- 'accesscontrollaw31.RatelimitModel', WHERE WHAT IT READS IS OF BULK AT MOST 1048576: true; the input reads as it did. -/
def ratelimitModelUptoRow : OpenClaim := { program := "ytcainohglmgdpaa", sum := "bd84eacb4db5b11fe41e4f126f5d37be5c632255972e87f23c00f29fc7990e9b", func := "accesscontrol/accesscontrollaw31.RatelimitModel", spec := "ratelimitModel", unfollowed := true, recurses := true, apart := false, narrowed := true }
def RatelimitModelUptoSaid : Prop := ratelimitModelUptoRow.holds Try.pinned (OpenSpec.upto ratelimitModelSpec)

/-- 'accesscontrollaw31.RatelimitCopies', WHERE WHAT IT READS IS OF BULK AT MOST 1048576: true; the input reads as it did. -/
def ratelimitCopiesUptoRow : OpenClaim := { program := "ytcainohglmgdpaa", sum := "bd84eacb4db5b11fe41e4f126f5d37be5c632255972e87f23c00f29fc7990e9b", func := "accesscontrol/accesscontrollaw31.RatelimitCopies", spec := "ratelimitCopies", inPlace := ["maps.clone"], unfollowed := true, recurses := true, apart := false, narrowed := true }
def RatelimitCopiesUptoSaid : Prop := ratelimitCopiesUptoRow.holds Try.pinned (OpenSpec.upto ratelimitCopiesSpec)

/-- 'accesscontrollaw31.RatelimitBound', WHERE WHAT IT READS IS OF BULK AT MOST 1048576: true; the input reads as it did. -/
def ratelimitBoundUptoRow : OpenClaim := { program := "ytcainohglmgdpaa", sum := "bd84eacb4db5b11fe41e4f126f5d37be5c632255972e87f23c00f29fc7990e9b", func := "accesscontrol/accesscontrollaw31.RatelimitBound", spec := "ratelimitBound", unfollowed := true, recurses := true, apart := false, narrowed := true }
def RatelimitBoundUptoSaid : Prop := ratelimitBoundUptoRow.holds Try.pinned (OpenSpec.upto ratelimitBoundSpec)

/-- 'accesscontrollaw31.RatelimitLeft', WHERE WHAT IT READS IS OF BULK AT MOST 1048576: true; the input reads as it did. -/
def ratelimitLeftUptoRow : OpenClaim := { program := "ytcainohglmgdpaa", sum := "bd84eacb4db5b11fe41e4f126f5d37be5c632255972e87f23c00f29fc7990e9b", func := "accesscontrol/accesscontrollaw31.RatelimitLeft", spec := "ratelimitLeft", unfollowed := true, recurses := true, apart := false, narrowed := true }
def RatelimitLeftUptoSaid : Prop := ratelimitLeftUptoRow.holds Try.pinned (OpenSpec.upto ratelimitLeftSpec)

/-- 'accesscontrollaw31.RatelimitNil', WHERE WHAT IT READS IS OF BULK AT MOST 1048576: true; the input reads as it did. -/
def ratelimitNilUptoRow : OpenClaim := { program := "ytcainohglmgdpaa", sum := "bd84eacb4db5b11fe41e4f126f5d37be5c632255972e87f23c00f29fc7990e9b", func := "accesscontrol/accesscontrollaw31.RatelimitNil", spec := "ratelimitNil", inPlace := ["maps.clone"], unfollowed := true, recurses := true, apart := false, narrowed := true }
def RatelimitNilUptoSaid : Prop := ratelimitNilUptoRow.holds Try.pinned (OpenSpec.upto ratelimitNilSpec)

end Rows
end Go.Proofs.Ytcainohglmgdpaa
