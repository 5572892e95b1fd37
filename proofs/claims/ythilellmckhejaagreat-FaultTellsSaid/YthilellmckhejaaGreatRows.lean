/-
  No cell of these rows narrows 'for every input' (looked for: loops, veiled, ifaces, maps, wideKeys, modest, calm, conditions, laid).
  DERIVED. THE GIVEN ROWS OF THIS SEAT. 3 by the template 'for every input the law returns true; each argument reads behind the call as it read before'; 0 by the template 'total and deterministic' (their statements: YthilellmckhejaaGreatTotals.lean).
  GIVEN WITH THE SEED: the statements are not yours to turn. If you find one false, say at which input.
  Laid BY PROGRAM, IN A SANDBOX (cutbox-rows.mjs): the forced cells as the released guide's own fill.sh prints them over the translation af5c914aadbd4bfc… (all of the seat's roots in one cut). By AI agents, Wed Nov 11 2026. No macro, syntax, notation, axiom, sorry.
-/
import Derived.Test.YthilellmckhejaaGreatChecked
import GoSem.Claim
import GoSem.ClaimJoined
import GoSem.ClaimMapViews
import Derived.JoinedTies
import Derived.KernelRfl
namespace Go.Proofs.YthilellmckhejaaGreat
/- THE CELL 'sum', in the pinned program and in every row, IS THE sha256 OF THE DUMP (.gsa) THAT YthilellmckhejaaGreatProg.lean LOADS. Nothing in Lean hashes anything: it is a label: what it is worth is what the hold of that sum in a sandbox is worth. -/
noncomputable def Tryz.pinned : Pinned := { name := "ythilellmckhejaagreat", sum := "af5c914aadbd4bfc11a4091bfe5ae38d22f2ad9d3bf57c15d73e7053ed17af64", checked := Tryz.checked }
namespace Rows
def none {H : Type} : Left H := { results := [], args := [] }

/-- 'remudalaw07.BackEncodes': WHATEVER THE INPUT: true; the input reads as it did. -/
def backEncodesSpec : ChangeSpec := { name := "backEncodes", fn := fun _ => fun
  | [d1, d2] => { results := [.lit (.bool true)], args := [d1, d2] }
  | _ => none }
def backEncodesRow : OpenClaim := { program := "ythilellmckhejaagreat", sum := "af5c914aadbd4bfc11a4091bfe5ae38d22f2ad9d3bf57c15d73e7053ed17af64", func := "remuda/remudalaw07.BackEncodes", spec := "backEncodes", inPlace := ["internal/bytealg.IndexByteString", "internal/bytealg.IndexByte"], unfollowed := true, recurses := true, apart := false }
def BackEncodesSaid : Prop := backEncodesRow.holds Tryz.pinned (OpenSpec.ofChange backEncodesSpec)

/-- ITS FALSE NEIGHBOUR: 'it returns false'. Refute it at one input. -/
def backEncodesWrong : ChangeSpec := { name := "backEncodes", fn := fun _ => fun
  | [d1, d2] => { results := [.lit (.bool false)], args := [d1, d2] }
  | _ => none }
def BackEncodesWrongFalsely : Prop := backEncodesRow.holds Tryz.pinned (OpenSpec.ofChange backEncodesWrong)

/-- 'remudalaw07.BackDecodes': WHATEVER THE INPUT: true; the input reads as it did. -/
def backDecodesSpec : ChangeSpec := { name := "backDecodes", fn := fun _ => fun
  | [d] => { results := [.lit (.bool true)], args := [d] }
  | _ => none }
def backDecodesRow : OpenClaim := { program := "ythilellmckhejaagreat", sum := "af5c914aadbd4bfc11a4091bfe5ae38d22f2ad9d3bf57c15d73e7053ed17af64", func := "remuda/remudalaw07.BackDecodes", spec := "backDecodes", inPlace := ["internal/bytealg.IndexByteString", "internal/bytealg.IndexByte"], unfollowed := true, recurses := true, apart := false }
def BackDecodesSaid : Prop := backDecodesRow.holds Tryz.pinned (OpenSpec.ofChange backDecodesSpec)

/-- ITS FALSE NEIGHBOUR: 'it returns false'. Refute it at one input. -/
def backDecodesWrong : ChangeSpec := { name := "backDecodes", fn := fun _ => fun
  | [d] => { results := [.lit (.bool false)], args := [d] }
  | _ => none }
def BackDecodesWrongFalsely : Prop := backDecodesRow.holds Tryz.pinned (OpenSpec.ofChange backDecodesWrong)

/-- 'remudalaw08.FaultTells': WHATEVER THE INPUT: true; the input reads as it did. -/
def faultTellsSpec : ChangeSpec := { name := "faultTells", fn := fun _ => fun
  | [d1, d2, d3, d4, d5] => { results := [.lit (.bool true)], args := [d1, d2, d3, d4, d5] }
  | _ => none }
def faultTellsRow : OpenClaim := { program := "ythilellmckhejaagreat", sum := "af5c914aadbd4bfc11a4091bfe5ae38d22f2ad9d3bf57c15d73e7053ed17af64", func := "remuda/remudalaw08.FaultTells", spec := "faultTells", inPlace := ["internal/bytealg.IndexByteString"], unfollowed := true, recurses := true, apart := false }
def FaultTellsSaid : Prop := faultTellsRow.holds Tryz.pinned (OpenSpec.ofChange faultTellsSpec)

/-- ITS FALSE NEIGHBOUR: 'it returns false'. Refute it at one input. -/
def faultTellsWrong : ChangeSpec := { name := "faultTells", fn := fun _ => fun
  | [d1, d2, d3, d4, d5] => { results := [.lit (.bool false)], args := [d1, d2, d3, d4, d5] }
  | _ => none }
def FaultTellsWrongFalsely : Prop := faultTellsRow.holds Tryz.pinned (OpenSpec.ofChange faultTellsWrong)

/- THE SECOND FORM. 'bulk': how many values and letters a reading holds, each counted each time it is reached (what is shared counts as often as it is met; a slice's spare places count too). A statement '..UptoSaid' is the law's where the arguments, and the package variables that the reading takes, are together of bulk at most 1048576: NARROWER than '..Said'. Prove '..Said' where nothing that the law and all that it calls make is longer than what came in: it says more and counts as full. Else prove '..UptoSaid'. A law counts once. -/
mutual
def uptoBulk {H : Type} : DataW H → Nat
  | .lit (.string bytes) => bytes.length + 1
  | .lit _ => 1
  | .nil => 1
  | .ptr d => uptoBulk d + 1
  | .slice elems spare => uptoBulkAll elems + uptoBulkAll spare + 1
  | .agg parts => uptoBulkAll parts + 1
  | .iface _ d => uptoBulk d + 1
  | .map entries => uptoBulkEntries entries + 1
  | .held _ => 1
def uptoBulkAll {H : Type} : List (DataW H) → Nat
  | [] => 0
  | d :: r => uptoBulk d + uptoBulkAll r
def uptoBulkEntries {H : Type} : List (Lit × DataW H) → Nat
  | [] => 0
  | x :: r => uptoBulkEntry x + uptoBulkEntries r
def uptoBulkEntry {H : Type} : Lit × DataW H → Nat
  | (.string bytes, d) => bytes.length + uptoBulk d + 1
  | (_, d) => uptoBulk d + 1
 end
def uptoSmall : (H : Type) → List (DataW H) → Bool := fun _ ds => decide (uptoBulkAll ds ≤ 1048576)
def OpenSpec.upto (s : _root_.Go.ChangeSpec) : _root_.Go.OpenSpec := { _root_.Go.OpenSpec.ofChange s with cond := some uptoSmall }

/-- 'remudalaw07.BackEncodes', WHERE WHAT IT READS IS OF BULK AT MOST 1048576: true; the input reads as it did. -/
def backEncodesUptoRow : OpenClaim := { program := "ythilellmckhejaagreat", sum := "af5c914aadbd4bfc11a4091bfe5ae38d22f2ad9d3bf57c15d73e7053ed17af64", func := "remuda/remudalaw07.BackEncodes", spec := "backEncodes", inPlace := ["internal/bytealg.IndexByteString", "internal/bytealg.IndexByte"], unfollowed := true, recurses := true, apart := false, narrowed := true }
def BackEncodesUptoSaid : Prop := backEncodesUptoRow.holds Tryz.pinned (OpenSpec.upto backEncodesSpec)

/-- 'remudalaw07.BackDecodes', WHERE WHAT IT READS IS OF BULK AT MOST 1048576: true; the input reads as it did. -/
def backDecodesUptoRow : OpenClaim := { program := "ythilellmckhejaagreat", sum := "af5c914aadbd4bfc11a4091bfe5ae38d22f2ad9d3bf57c15d73e7053ed17af64", func := "remuda/remudalaw07.BackDecodes", spec := "backDecodes", inPlace := ["internal/bytealg.IndexByteString", "internal/bytealg.IndexByte"], unfollowed := true, recurses := true, apart := false, narrowed := true }
def BackDecodesUptoSaid : Prop := backDecodesUptoRow.holds Tryz.pinned (OpenSpec.upto backDecodesSpec)

/-- 'remudalaw08.FaultTells', WHERE WHAT IT READS IS OF BULK AT MOST 1048576: true; the input reads as it did. -/
def faultTellsUptoRow : OpenClaim := { program := "ythilellmckhejaagreat", sum := "af5c914aadbd4bfc11a4091bfe5ae38d22f2ad9d3bf57c15d73e7053ed17af64", func := "remuda/remudalaw08.FaultTells", spec := "faultTells", inPlace := ["internal/bytealg.IndexByteString"], unfollowed := true, recurses := true, apart := false, narrowed := true }
def FaultTellsUptoSaid : Prop := faultTellsUptoRow.holds Tryz.pinned (OpenSpec.upto faultTellsSpec)

end Rows
end Go.Proofs.YthilellmckhejaaGreat
