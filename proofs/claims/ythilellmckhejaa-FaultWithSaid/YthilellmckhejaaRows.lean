/-
  No cell of these rows narrows 'for every input' (looked for: loops, veiled, ifaces, maps, wideKeys, modest, calm, conditions, laid).
  DERIVED. THE GIVEN ROWS OF THIS SEAT. 4 by the template 'for every input the law returns true; each argument reads behind the call as it read before'; 0 by the template 'total and deterministic' (their statements: YthilellmckhejaaTotals.lean).
  GIVEN WITH THE SEED: the statements are not yours to turn. If you find one false, say at which input.
  Laid BY PROGRAM, IN A SANDBOX (cutbox-rows.mjs): the forced cells as the released guide's own fill.sh prints them over the translation 7ff9d55222e5c45e… (all of the seat's roots in one cut). By AI agents, Wed Nov 11 2026. No macro, syntax, notation, axiom, sorry.
-/
import Derived.Test.YthilellmckhejaaChecked
import GoSem.Claim
import GoSem.ClaimJoined
import GoSem.ClaimMapViews
import Derived.JoinedTies
import Derived.KernelRfl
namespace Go.Proofs.Ythilellmckhejaa
/- THE CELL 'sum', in the pinned program and in every row, IS THE sha256 OF THE DUMP (.gsa) THAT YthilellmckhejaaProg.lean LOADS. Nothing in Lean hashes anything: it is a label: what it is worth is what the hold of that sum in a sandbox is worth. -/
noncomputable def Try.pinned : Pinned := { name := "ythilellmckhejaa", sum := "7ff9d55222e5c45e277e2a532de6c43a9f97e535dd67982d079cccbb7a4f6d0a", checked := Try.checked }
namespace Rows
def none {H : Type} : Left H := { results := [], args := [] }

/-- 'remudalaw05.HelloBack': WHATEVER THE INPUT: true; the input reads as it did. -/
def helloBackSpec : ChangeSpec := { name := "helloBack", fn := fun _ => fun
  | [d1, d2] => { results := [.lit (.bool true)], args := [d1, d2] }
  | _ => none }
def helloBackRow : OpenClaim := { program := "ythilellmckhejaa", sum := "7ff9d55222e5c45e277e2a532de6c43a9f97e535dd67982d079cccbb7a4f6d0a", func := "remuda/remudalaw05.HelloBack", spec := "helloBack", inPlace := ["internal/bytealg.IndexByteString", "internal/bytealg.IndexByte"], unfollowed := true, recurses := true, apart := false }
def HelloBackSaid : Prop := helloBackRow.holds Try.pinned (OpenSpec.ofChange helloBackSpec)

/-- ITS FALSE NEIGHBOUR: 'it returns false'. Refute it at one input. -/
def helloBackWrong : ChangeSpec := { name := "helloBack", fn := fun _ => fun
  | [d1, d2] => { results := [.lit (.bool false)], args := [d1, d2] }
  | _ => none }
def HelloBackWrongFalsely : Prop := helloBackRow.holds Try.pinned (OpenSpec.ofChange helloBackWrong)

/-- 'remudalaw08.FaultWith': WHATEVER THE INPUT: true; the input reads as it did. -/
def faultWithSpec : ChangeSpec := { name := "faultWith", fn := fun _ => fun
  | [d1, d2, d3, d4] => { results := [.lit (.bool true)], args := [d1, d2, d3, d4] }
  | _ => none }
def faultWithRow : OpenClaim := { program := "ythilellmckhejaa", sum := "7ff9d55222e5c45e277e2a532de6c43a9f97e535dd67982d079cccbb7a4f6d0a", func := "remuda/remudalaw08.FaultWith", spec := "faultWith", inPlace := ["internal/bytealg.IndexByteString"], unfollowed := true, recurses := true, apart := false }
def FaultWithSaid : Prop := faultWithRow.holds Try.pinned (OpenSpec.ofChange faultWithSpec)

/-- ITS FALSE NEIGHBOUR: 'it returns false'. Refute it at one input. -/
def faultWithWrong : ChangeSpec := { name := "faultWith", fn := fun _ => fun
  | [d1, d2, d3, d4] => { results := [.lit (.bool false)], args := [d1, d2, d3, d4] }
  | _ => none }
def FaultWithWrongFalsely : Prop := faultWithRow.holds Try.pinned (OpenSpec.ofChange faultWithWrong)

/-- 'remudalaw10.ColsTell': WHATEVER THE INPUT: true; the input reads as it did. -/
def colsTellSpec : ChangeSpec := { name := "colsTell", fn := fun _ => fun
  | [d1, d2] => { results := [.lit (.bool true)], args := [d1, d2] }
  | _ => none }
def colsTellRow : OpenClaim := { program := "ythilellmckhejaa", sum := "7ff9d55222e5c45e277e2a532de6c43a9f97e535dd67982d079cccbb7a4f6d0a", func := "remuda/remudalaw10.ColsTell", spec := "colsTell", unfollowed := true, recurses := true, apart := false }
def ColsTellSaid : Prop := colsTellRow.holds Try.pinned (OpenSpec.ofChange colsTellSpec)

/-- ITS FALSE NEIGHBOUR: 'it returns false'. Refute it at one input. -/
def colsTellWrong : ChangeSpec := { name := "colsTell", fn := fun _ => fun
  | [d1, d2] => { results := [.lit (.bool false)], args := [d1, d2] }
  | _ => none }
def ColsTellWrongFalsely : Prop := colsTellRow.holds Try.pinned (OpenSpec.ofChange colsTellWrong)

/-- 'remudalaw10.ColsMay': WHATEVER THE INPUT: true; the input reads as it did. -/
def colsMaySpec : ChangeSpec := { name := "colsMay", fn := fun _ => fun
  | [d] => { results := [.lit (.bool true)], args := [d] }
  | _ => none }
def colsMayRow : OpenClaim := { program := "ythilellmckhejaa", sum := "7ff9d55222e5c45e277e2a532de6c43a9f97e535dd67982d079cccbb7a4f6d0a", func := "remuda/remudalaw10.ColsMay", spec := "colsMay", inPlace := ["internal/bytealg.IndexByteString"], unfollowed := true, recurses := true, apart := false }
def ColsMaySaid : Prop := colsMayRow.holds Try.pinned (OpenSpec.ofChange colsMaySpec)

/-- ITS FALSE NEIGHBOUR: 'it returns false'. Refute it at one input. -/
def colsMayWrong : ChangeSpec := { name := "colsMay", fn := fun _ => fun
  | [d] => { results := [.lit (.bool false)], args := [d] }
  | _ => none }
def ColsMayWrongFalsely : Prop := colsMayRow.holds Try.pinned (OpenSpec.ofChange colsMayWrong)

/- THE SECOND FORM. 'bulk': how many values and letters a reading holds, each counted each time it is reached (what is shared counts as often as it is met; a slice's spare places count too). A statement '..UptoSaid' is the law's where the arguments, and the package variables that the reading takes, are together of bulk at most 1048576: NARROWER than '..Said'. Prove '..Said' where nothing that the law and all that it calls make is longer than what came in: it says more and counts as full. Else prove '..UptoSaid'. A law counts once. -/
mutual
def uptoBulk {H : Type} : DataW H → Nat
  | .lit (.string bytes) => bytes.length + 1
  | .lit _ => 1
  | .nil => 1
  | .ptr d => uptoBulk d + 1
  | .slice elems spare => uptoBulkAll elems + uptoBulkAll spare + 1
  | .agg parts => uptoBulkAll parts + 1
  | .iface _ d => uptoBulk d + 1
  | .map entries => uptoBulkEntries entries + 1
  | .held _ => 1
def uptoBulkAll {H : Type} : List (DataW H) → Nat
  | [] => 0
  | d :: r => uptoBulk d + uptoBulkAll r
def uptoBulkEntries {H : Type} : List (Lit × DataW H) → Nat
  | [] => 0
  | x :: r => uptoBulkEntry x + uptoBulkEntries r
def uptoBulkEntry {H : Type} : Lit × DataW H → Nat
  | (.string bytes, d) => bytes.length + uptoBulk d + 1
  | (_, d) => uptoBulk d + 1
 end
def uptoSmall : (H : Type) → List (DataW H) → Bool := fun _ ds => decide (uptoBulkAll ds ≤ 1048576)
def OpenSpec.upto (s : _root_.Go.ChangeSpec) : _root_.Go.OpenSpec := { _root_.Go.OpenSpec.ofChange s with cond := some uptoSmall }

/-- 'remudalaw05.HelloBack', WHERE WHAT IT READS IS OF BULK AT MOST 1048576: true; the input reads as it did. -/
def helloBackUptoRow : OpenClaim := { program := "ythilellmckhejaa", sum := "7ff9d55222e5c45e277e2a532de6c43a9f97e535dd67982d079cccbb7a4f6d0a", func := "remuda/remudalaw05.HelloBack", spec := "helloBack", inPlace := ["internal/bytealg.IndexByteString", "internal/bytealg.IndexByte"], unfollowed := true, recurses := true, apart := false, narrowed := true }
def HelloBackUptoSaid : Prop := helloBackUptoRow.holds Try.pinned (OpenSpec.upto helloBackSpec)

/-- 'remudalaw08.FaultWith', WHERE WHAT IT READS IS OF BULK AT MOST 1048576: true; the input reads as it did. -/
def faultWithUptoRow : OpenClaim := { program := "ythilellmckhejaa", sum := "7ff9d55222e5c45e277e2a532de6c43a9f97e535dd67982d079cccbb7a4f6d0a", func := "remuda/remudalaw08.FaultWith", spec := "faultWith", inPlace := ["internal/bytealg.IndexByteString"], unfollowed := true, recurses := true, apart := false, narrowed := true }
def FaultWithUptoSaid : Prop := faultWithUptoRow.holds Try.pinned (OpenSpec.upto faultWithSpec)

/-- 'remudalaw10.ColsTell', WHERE WHAT IT READS IS OF BULK AT MOST 1048576: true; the input reads as it did. -/
def colsTellUptoRow : OpenClaim := { program := "ythilellmckhejaa", sum := "7ff9d55222e5c45e277e2a532de6c43a9f97e535dd67982d079cccbb7a4f6d0a", func := "remuda/remudalaw10.ColsTell", spec := "colsTell", unfollowed := true, recurses := true, apart := false, narrowed := true }
def ColsTellUptoSaid : Prop := colsTellUptoRow.holds Try.pinned (OpenSpec.upto colsTellSpec)

/-- 'remudalaw10.ColsMay', WHERE WHAT IT READS IS OF BULK AT MOST 1048576: true; the input reads as it did. -/
def colsMayUptoRow : OpenClaim := { program := "ythilellmckhejaa", sum := "7ff9d55222e5c45e277e2a532de6c43a9f97e535dd67982d079cccbb7a4f6d0a", func := "remuda/remudalaw10.ColsMay", spec := "colsMay", inPlace := ["internal/bytealg.IndexByteString"], unfollowed := true, recurses := true, apart := false, narrowed := true }
def ColsMayUptoSaid : Prop := colsMayUptoRow.holds Try.pinned (OpenSpec.upto colsMaySpec)

end Rows
end Go.Proofs.Ythilellmckhejaa
