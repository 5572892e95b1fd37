/-
  No cell of these rows narrows 'for every input' (looked for: loops, veiled, ifaces, maps, wideKeys, modest, calm, conditions, laid).
  DERIVED. THE GIVEN ROWS OF THIS SEAT. 8 by the template 'for every input the law returns true; each argument reads behind the call as it read before'; 0 by the template 'total and deterministic' (their statements: YtcaimoidnppnbaaTotals.lean).
  GIVEN WITH THE SEED: the statements are not yours to turn. If you find one false, say at which input.
  Laid BY PROGRAM, IN A SANDBOX (cutbox-rows.mjs): the forced cells as the released guide's own fill.sh prints them over the translation c34aa23ef7d2402b… (all of the seat's roots in one cut). By AI agents, Wed Nov 11 2026. No macro, syntax, notation, axiom, sorry.
-/
import Derived.Test.YtcaimoidnppnbaaChecked
import GoSem.Claim
import GoSem.ClaimJoined
import GoSem.ClaimMapViews
import Derived.JoinedTies
import Derived.KernelRfl
namespace Go.Proofs.Ytcaimoidnppnbaa
/- THE CELL 'sum', in the pinned program and in every row, IS THE sha256 OF THE DUMP (.gsa) THAT YtcaimoidnppnbaaProg.lean LOADS. Nothing in Lean hashes anything: it is a label: what it is worth is what the hold of that sum in a sandbox is worth. -/
noncomputable def Try.pinned : Pinned := { name := "ytcaimoidnppnbaa", sum := "c34aa23ef7d2402bda516f989a5e160e1f5e74449ecb05a56a9ad74c54b81a86", checked := Try.checked }
namespace Rows
def none {H : Type} : Left H := { results := [], args := [] }

/-- 'remudalaw05.HelloParses': WHATEVER THE INPUT: true; the input reads as it did. -/
def helloParsesSpec : ChangeSpec := { name := "helloParses", fn := fun _ => fun
  | [d] => { results := [.lit (.bool true)], args := [d] }
  | _ => none }
def helloParsesRow : OpenClaim := { program := "ytcaimoidnppnbaa", sum := "c34aa23ef7d2402bda516f989a5e160e1f5e74449ecb05a56a9ad74c54b81a86", func := "remuda/remudalaw05.HelloParses", spec := "helloParses", inPlace := ["internal/bytealg.IndexByteString", "internal/bytealg.IndexByte"], unfollowed := true, recurses := true, apart := false }
def HelloParsesSaid : Prop := helloParsesRow.holds Try.pinned (OpenSpec.ofChange helloParsesSpec)

/-- ITS FALSE NEIGHBOUR: 'it returns false'. Refute it at one input. -/
def helloParsesWrong : ChangeSpec := { name := "helloParses", fn := fun _ => fun
  | [d] => { results := [.lit (.bool false)], args := [d] }
  | _ => none }
def HelloParsesWrongFalsely : Prop := helloParsesRow.holds Try.pinned (OpenSpec.ofChange helloParsesWrong)

/-- 'remudalaw05.HelloBuilds': WHATEVER THE INPUT: true; the input reads as it did. -/
def helloBuildsSpec : ChangeSpec := { name := "helloBuilds", fn := fun _ => fun
  | [d] => { results := [.lit (.bool true)], args := [d] }
  | _ => none }
def helloBuildsRow : OpenClaim := { program := "ytcaimoidnppnbaa", sum := "c34aa23ef7d2402bda516f989a5e160e1f5e74449ecb05a56a9ad74c54b81a86", func := "remuda/remudalaw05.HelloBuilds", spec := "helloBuilds", inPlace := ["internal/bytealg.IndexByteString", "internal/bytealg.IndexByte"], unfollowed := true, recurses := true, apart := false }
def HelloBuildsSaid : Prop := helloBuildsRow.holds Try.pinned (OpenSpec.ofChange helloBuildsSpec)

/-- ITS FALSE NEIGHBOUR: 'it returns false'. Refute it at one input. -/
def helloBuildsWrong : ChangeSpec := { name := "helloBuilds", fn := fun _ => fun
  | [d] => { results := [.lit (.bool false)], args := [d] }
  | _ => none }
def HelloBuildsWrongFalsely : Prop := helloBuildsRow.holds Try.pinned (OpenSpec.ofChange helloBuildsWrong)

/-- 'remudalaw05.HelloBack': WHATEVER THE INPUT: true; the input reads as it did. -/
def helloBackSpec : ChangeSpec := { name := "helloBack", fn := fun _ => fun
  | [d1, d2] => { results := [.lit (.bool true)], args := [d1, d2] }
  | _ => none }
def helloBackRow : OpenClaim := { program := "ytcaimoidnppnbaa", sum := "c34aa23ef7d2402bda516f989a5e160e1f5e74449ecb05a56a9ad74c54b81a86", func := "remuda/remudalaw05.HelloBack", spec := "helloBack", inPlace := ["internal/bytealg.IndexByteString", "internal/bytealg.IndexByte"], unfollowed := true, recurses := true, apart := false }
def HelloBackSaid : Prop := helloBackRow.holds Try.pinned (OpenSpec.ofChange helloBackSpec)

/-- ITS FALSE NEIGHBOUR: 'it returns false'. Refute it at one input. -/
def helloBackWrong : ChangeSpec := { name := "helloBack", fn := fun _ => fun
  | [d1, d2] => { results := [.lit (.bool false)], args := [d1, d2] }
  | _ => none }
def HelloBackWrongFalsely : Prop := helloBackRow.holds Try.pinned (OpenSpec.ofChange helloBackWrong)

/-- 'remudalaw06.FrontEncodes': WHATEVER THE INPUT: true; the input reads as it did. -/
def frontEncodesSpec : ChangeSpec := { name := "frontEncodes", fn := fun _ => fun
  | [d1, d2] => { results := [.lit (.bool true)], args := [d1, d2] }
  | _ => none }
def frontEncodesRow : OpenClaim := { program := "ytcaimoidnppnbaa", sum := "c34aa23ef7d2402bda516f989a5e160e1f5e74449ecb05a56a9ad74c54b81a86", func := "remuda/remudalaw06.FrontEncodes", spec := "frontEncodes", inPlace := ["internal/bytealg.IndexByteString", "internal/bytealg.IndexByte"], unfollowed := true, recurses := true, apart := false }
def FrontEncodesSaid : Prop := frontEncodesRow.holds Try.pinned (OpenSpec.ofChange frontEncodesSpec)

/-- ITS FALSE NEIGHBOUR: 'it returns false'. Refute it at one input. -/
def frontEncodesWrong : ChangeSpec := { name := "frontEncodes", fn := fun _ => fun
  | [d1, d2] => { results := [.lit (.bool false)], args := [d1, d2] }
  | _ => none }
def FrontEncodesWrongFalsely : Prop := frontEncodesRow.holds Try.pinned (OpenSpec.ofChange frontEncodesWrong)

/-- 'remudalaw06.FrontDecodes': WHATEVER THE INPUT: true; the input reads as it did. -/
def frontDecodesSpec : ChangeSpec := { name := "frontDecodes", fn := fun _ => fun
  | [d] => { results := [.lit (.bool true)], args := [d] }
  | _ => none }
def frontDecodesRow : OpenClaim := { program := "ytcaimoidnppnbaa", sum := "c34aa23ef7d2402bda516f989a5e160e1f5e74449ecb05a56a9ad74c54b81a86", func := "remuda/remudalaw06.FrontDecodes", spec := "frontDecodes", inPlace := ["internal/bytealg.IndexByteString", "internal/bytealg.IndexByte"], unfollowed := true, recurses := true, apart := false }
def FrontDecodesSaid : Prop := frontDecodesRow.holds Try.pinned (OpenSpec.ofChange frontDecodesSpec)

/-- ITS FALSE NEIGHBOUR: 'it returns false'. Refute it at one input. -/
def frontDecodesWrong : ChangeSpec := { name := "frontDecodes", fn := fun _ => fun
  | [d] => { results := [.lit (.bool false)], args := [d] }
  | _ => none }
def FrontDecodesWrongFalsely : Prop := frontDecodesRow.holds Try.pinned (OpenSpec.ofChange frontDecodesWrong)

/-- 'remudalaw06.FrontBack': WHATEVER THE INPUT: true; the input reads as it did. -/
def frontBackSpec : ChangeSpec := { name := "frontBack", fn := fun _ => fun
  | [d1, d2] => { results := [.lit (.bool true)], args := [d1, d2] }
  | _ => none }
def frontBackRow : OpenClaim := { program := "ytcaimoidnppnbaa", sum := "c34aa23ef7d2402bda516f989a5e160e1f5e74449ecb05a56a9ad74c54b81a86", func := "remuda/remudalaw06.FrontBack", spec := "frontBack", inPlace := ["internal/bytealg.IndexByteString", "internal/bytealg.IndexByte"], unfollowed := true, recurses := true, apart := false }
def FrontBackSaid : Prop := frontBackRow.holds Try.pinned (OpenSpec.ofChange frontBackSpec)

/-- ITS FALSE NEIGHBOUR: 'it returns false'. Refute it at one input. -/
def frontBackWrong : ChangeSpec := { name := "frontBack", fn := fun _ => fun
  | [d1, d2] => { results := [.lit (.bool false)], args := [d1, d2] }
  | _ => none }
def FrontBackWrongFalsely : Prop := frontBackRow.holds Try.pinned (OpenSpec.ofChange frontBackWrong)

/-- 'remudalaw07.BackBack': WHATEVER THE INPUT: true; the input reads as it did. -/
def backBackSpec : ChangeSpec := { name := "backBack", fn := fun _ => fun
  | [d1, d2] => { results := [.lit (.bool true)], args := [d1, d2] }
  | _ => none }
def backBackRow : OpenClaim := { program := "ytcaimoidnppnbaa", sum := "c34aa23ef7d2402bda516f989a5e160e1f5e74449ecb05a56a9ad74c54b81a86", func := "remuda/remudalaw07.BackBack", spec := "backBack", inPlace := ["internal/bytealg.IndexByteString", "internal/bytealg.IndexByte"], unfollowed := true, recurses := true, apart := false }
def BackBackSaid : Prop := backBackRow.holds Try.pinned (OpenSpec.ofChange backBackSpec)

/-- ITS FALSE NEIGHBOUR: 'it returns false'. Refute it at one input. -/
def backBackWrong : ChangeSpec := { name := "backBack", fn := fun _ => fun
  | [d1, d2] => { results := [.lit (.bool false)], args := [d1, d2] }
  | _ => none }
def BackBackWrongFalsely : Prop := backBackRow.holds Try.pinned (OpenSpec.ofChange backBackWrong)

/-- 'remudalaw08.FaultWith': WHATEVER THE INPUT: true; the input reads as it did. -/
def faultWithSpec : ChangeSpec := { name := "faultWith", fn := fun _ => fun
  | [d1, d2, d3, d4] => { results := [.lit (.bool true)], args := [d1, d2, d3, d4] }
  | _ => none }
def faultWithRow : OpenClaim := { program := "ytcaimoidnppnbaa", sum := "c34aa23ef7d2402bda516f989a5e160e1f5e74449ecb05a56a9ad74c54b81a86", func := "remuda/remudalaw08.FaultWith", spec := "faultWith", inPlace := ["internal/bytealg.IndexByteString"], unfollowed := true, recurses := true, apart := false }
def FaultWithSaid : Prop := faultWithRow.holds Try.pinned (OpenSpec.ofChange faultWithSpec)

/-- ITS FALSE NEIGHBOUR: 'it returns false'. Refute it at one input. -/
def faultWithWrong : ChangeSpec := { name := "faultWith", fn := fun _ => fun
  | [d1, d2, d3, d4] => { results := [.lit (.bool false)], args := [d1, d2, d3, d4] }
  | _ => none }
def FaultWithWrongFalsely : Prop := faultWithRow.holds Try.pinned (OpenSpec.ofChange faultWithWrong)

/- THE SECOND FORM. 'bulk': how many values and letters a reading holds, each counted each time it is reached (what is shared counts as often as it is met; a slice's spare places count too). A statement '..UptoSaid' is the law's where the arguments, and the package variables that the reading takes, are together of bulk at most 1048576: NARROWER than '..Said'. Prove '..Said' where nothing that the law and all that it calls make is longer than what came in: it says more and counts as full. Else prove '..UptoSaid'. A law counts once. -/
mutual
def uptoBulk {H : Type} : DataW H → Nat
  | .lit (.string bytes) => bytes.length + 1
  | .lit _ => 1
  | .nil => 1
  | .ptr d => uptoBulk d + 1
  | .slice elems spare => uptoBulkAll elems + uptoBulkAll spare + 1
  | .agg parts => uptoBulkAll parts + 1
  | .iface _ d => uptoBulk d + 1
  | .map entries => uptoBulkEntries entries + 1
  | .held _ => 1
def uptoBulkAll {H : Type} : List (DataW H) → Nat
  | [] => 0
  | d :: r => uptoBulk d + uptoBulkAll r
def uptoBulkEntries {H : Type} : List (Lit × DataW H) → Nat
  | [] => 0
  | x :: r => uptoBulkEntry x + uptoBulkEntries r
def uptoBulkEntry {H : Type} : Lit × DataW H → Nat
  | (.string bytes, d) => bytes.length + uptoBulk d + 1
  | (_, d) => uptoBulk d + 1
 end
def uptoSmall : (H : Type) → List (DataW H) → Bool := fun _ ds => decide (uptoBulkAll ds ≤ 1048576)
def OpenSpec.upto (s : _root_.Go.ChangeSpec) : _root_.Go.OpenSpec := { _root_.Go.OpenSpec.ofChange s with cond := some uptoSmall }

/-- 'remudalaw05.HelloParses', WHERE WHAT IT READS IS OF BULK AT MOST 1048576: true; the input reads as it did. -/
def helloParsesUptoRow : OpenClaim := { program := "ytcaimoidnppnbaa", sum := "c34aa23ef7d2402bda516f989a5e160e1f5e74449ecb05a56a9ad74c54b81a86", func := "remuda/remudalaw05.HelloParses", spec := "helloParses", inPlace := ["internal/bytealg.IndexByteString", "internal/bytealg.IndexByte"], unfollowed := true, recurses := true, apart := false, narrowed := true }
def HelloParsesUptoSaid : Prop := helloParsesUptoRow.holds Try.pinned (OpenSpec.upto helloParsesSpec)

/-- 'remudalaw05.HelloBuilds', WHERE WHAT IT READS IS OF BULK AT MOST 1048576: true; the input reads as it did. -/
def helloBuildsUptoRow : OpenClaim := { program := "ytcaimoidnppnbaa", sum := "c34aa23ef7d2402bda516f989a5e160e1f5e74449ecb05a56a9ad74c54b81a86", func := "remuda/remudalaw05.HelloBuilds", spec := "helloBuilds", inPlace := ["internal/bytealg.IndexByteString", "internal/bytealg.IndexByte"], unfollowed := true, recurses := true, apart := false, narrowed := true }
def HelloBuildsUptoSaid : Prop := helloBuildsUptoRow.holds Try.pinned (OpenSpec.upto helloBuildsSpec)

/-- 'remudalaw05.HelloBack', WHERE WHAT IT READS IS OF BULK AT MOST 1048576: true; the input reads as it did. -/
def helloBackUptoRow : OpenClaim := { program := "ytcaimoidnppnbaa", sum := "c34aa23ef7d2402bda516f989a5e160e1f5e74449ecb05a56a9ad74c54b81a86", func := "remuda/remudalaw05.HelloBack", spec := "helloBack", inPlace := ["internal/bytealg.IndexByteString", "internal/bytealg.IndexByte"], unfollowed := true, recurses := true, apart := false, narrowed := true }
def HelloBackUptoSaid : Prop := helloBackUptoRow.holds Try.pinned (OpenSpec.upto helloBackSpec)

/-- 'remudalaw06.FrontEncodes', WHERE WHAT IT READS IS OF BULK AT MOST 1048576: true; the input reads as it did. -/
def frontEncodesUptoRow : OpenClaim := { program := "ytcaimoidnppnbaa", sum := "c34aa23ef7d2402bda516f989a5e160e1f5e74449ecb05a56a9ad74c54b81a86", func := "remuda/remudalaw06.FrontEncodes", spec := "frontEncodes", inPlace := ["internal/bytealg.IndexByteString", "internal/bytealg.IndexByte"], unfollowed := true, recurses := true, apart := false, narrowed := true }
def FrontEncodesUptoSaid : Prop := frontEncodesUptoRow.holds Try.pinned (OpenSpec.upto frontEncodesSpec)

/-- 'remudalaw06.FrontDecodes', WHERE WHAT IT READS IS OF BULK AT MOST 1048576: true; the input reads as it did. -/
def frontDecodesUptoRow : OpenClaim := { program := "ytcaimoidnppnbaa", sum := "c34aa23ef7d2402bda516f989a5e160e1f5e74449ecb05a56a9ad74c54b81a86", func := "remuda/remudalaw06.FrontDecodes", spec := "frontDecodes", inPlace := ["internal/bytealg.IndexByteString", "internal/bytealg.IndexByte"], unfollowed := true, recurses := true, apart := false, narrowed := true }
def FrontDecodesUptoSaid : Prop := frontDecodesUptoRow.holds Try.pinned (OpenSpec.upto frontDecodesSpec)

/-- 'remudalaw06.FrontBack', WHERE WHAT IT READS IS OF BULK AT MOST 1048576: true; the input reads as it did. -/
def frontBackUptoRow : OpenClaim := { program := "ytcaimoidnppnbaa", sum := "c34aa23ef7d2402bda516f989a5e160e1f5e74449ecb05a56a9ad74c54b81a86", func := "remuda/remudalaw06.FrontBack", spec := "frontBack", inPlace := ["internal/bytealg.IndexByteString", "internal/bytealg.IndexByte"], unfollowed := true, recurses := true, apart := false, narrowed := true }
def FrontBackUptoSaid : Prop := frontBackUptoRow.holds Try.pinned (OpenSpec.upto frontBackSpec)

/-- 'remudalaw07.BackBack', WHERE WHAT IT READS IS OF BULK AT MOST 1048576: true; the input reads as it did. -/
def backBackUptoRow : OpenClaim := { program := "ytcaimoidnppnbaa", sum := "c34aa23ef7d2402bda516f989a5e160e1f5e74449ecb05a56a9ad74c54b81a86", func := "remuda/remudalaw07.BackBack", spec := "backBack", inPlace := ["internal/bytealg.IndexByteString", "internal/bytealg.IndexByte"], unfollowed := true, recurses := true, apart := false, narrowed := true }
def BackBackUptoSaid : Prop := backBackUptoRow.holds Try.pinned (OpenSpec.upto backBackSpec)

/-- 'remudalaw08.FaultWith', WHERE WHAT IT READS IS OF BULK AT MOST 1048576: true; the input reads as it did. -/
def faultWithUptoRow : OpenClaim := { program := "ytcaimoidnppnbaa", sum := "c34aa23ef7d2402bda516f989a5e160e1f5e74449ecb05a56a9ad74c54b81a86", func := "remuda/remudalaw08.FaultWith", spec := "faultWith", inPlace := ["internal/bytealg.IndexByteString"], unfollowed := true, recurses := true, apart := false, narrowed := true }
def FaultWithUptoSaid : Prop := faultWithUptoRow.holds Try.pinned (OpenSpec.upto faultWithSpec)

end Rows
end Go.Proofs.Ytcaimoidnppnbaa
