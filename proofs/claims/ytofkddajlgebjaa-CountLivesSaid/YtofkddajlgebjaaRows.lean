/-
  No cell of these rows narrows 'for every input' (looked for: loops, veiled, ifaces, maps, wideKeys, modest, calm, conditions, laid).
  DERIVED. THE GIVEN ROWS OF THIS SEAT. 3 by the template 'for every input the law returns true; each argument reads behind the call as it read before'; 0 by the template 'total and deterministic' (their statements: YtofkddajlgebjaaTotals.lean).
  GIVEN WITH THE SEED: the statements are not yours to turn. If you find one false, say at which input.
  Laid BY PROGRAM, IN A SANDBOX (cutbox-rows.mjs): the forced cells as the released guide's own fill.sh prints them over the translation 15ef60a000d4e03d… (all of the seat's roots in one cut). By AI agents, Wed Nov 11 2026. No macro, syntax, notation, axiom, sorry.
-/
import Derived.Test.YtofkddajlgebjaaChecked
import GoSem.Claim
import GoSem.ClaimJoined
import GoSem.ClaimMapViews
import Derived.JoinedTies
import Derived.KernelRfl
namespace Go.Proofs.Ytofkddajlgebjaa
/- THE CELL 'sum', in the pinned program and in every row, IS THE sha256 OF THE DUMP (.gsa) THAT YtofkddajlgebjaaProg.lean LOADS. Nothing in Lean hashes anything: it is a label: what it is worth is what the hold of that sum in a sandbox is worth. -/
noncomputable def Try.pinned : Pinned := { name := "ytofkddajlgebjaa", sum := "15ef60a000d4e03d8876a2c085ea8de6b8a264369aac895e4a7fb585cb27b87b", checked := Try.checked }
namespace Rows
def none {H : Type} : Left H := { results := [], args := [] }

/-- 'remudalaw37.CountLives': WHATEVER THE INPUT: true; the input reads as it did. -/
def countLivesSpec : ChangeSpec := { name := "countLives", fn := fun _ => fun
  | [d] => { results := [.lit (.bool true)], args := [d] }
  | _ => none }
def countLivesRow : OpenClaim := { program := "ytofkddajlgebjaa", sum := "15ef60a000d4e03d8876a2c085ea8de6b8a264369aac895e4a7fb585cb27b87b", func := "remuda/remudalaw37.CountLives", spec := "countLives", inPlace := ["sync/atomic.AddInt64", "sync/atomic.LoadInt64"], apart := false }
def CountLivesSaid : Prop := countLivesRow.holds Try.pinned (OpenSpec.ofChange countLivesSpec)

/-- ITS FALSE NEIGHBOUR: 'it returns false'. Refute it at one input. -/
def countLivesWrong : ChangeSpec := { name := "countLives", fn := fun _ => fun
  | [d] => { results := [.lit (.bool false)], args := [d] }
  | _ => none }
def CountLivesWrongFalsely : Prop := countLivesRow.holds Try.pinned (OpenSpec.ofChange countLivesWrong)

/-- 'remudalaw37.CountTotal': WHATEVER THE INPUT: true; the input reads as it did. -/
def countTotalSpec : ChangeSpec := { name := "countTotal", fn := fun _ => fun
  | [d] => { results := [.lit (.bool true)], args := [d] }
  | _ => none }
def countTotalRow : OpenClaim := { program := "ytofkddajlgebjaa", sum := "15ef60a000d4e03d8876a2c085ea8de6b8a264369aac895e4a7fb585cb27b87b", func := "remuda/remudalaw37.CountTotal", spec := "countTotal", inPlace := ["sync/atomic.AddInt64", "sync/atomic.LoadInt64"], apart := false }
def CountTotalSaid : Prop := countTotalRow.holds Try.pinned (OpenSpec.ofChange countTotalSpec)

/-- ITS FALSE NEIGHBOUR: 'it returns false'. Refute it at one input. -/
def countTotalWrong : ChangeSpec := { name := "countTotal", fn := fun _ => fun
  | [d] => { results := [.lit (.bool false)], args := [d] }
  | _ => none }
def CountTotalWrongFalsely : Prop := countTotalRow.holds Try.pinned (OpenSpec.ofChange countTotalWrong)

/-- 'remudalaw37.CountNobody': WHATEVER THE INPUT: true; the input reads as it did. -/
def countNobodySpec : ChangeSpec := { name := "countNobody", fn := fun _ => fun
  | [d] => { results := [.lit (.bool true)], args := [d] }
  | _ => none }
def countNobodyRow : OpenClaim := { program := "ytofkddajlgebjaa", sum := "15ef60a000d4e03d8876a2c085ea8de6b8a264369aac895e4a7fb585cb27b87b", func := "remuda/remudalaw37.CountNobody", spec := "countNobody", inPlace := ["sync/atomic.AddInt64", "sync/atomic.LoadInt64"], apart := false }
def CountNobodySaid : Prop := countNobodyRow.holds Try.pinned (OpenSpec.ofChange countNobodySpec)

/-- ITS FALSE NEIGHBOUR: 'it returns false'. Refute it at one input. -/
def countNobodyWrong : ChangeSpec := { name := "countNobody", fn := fun _ => fun
  | [d] => { results := [.lit (.bool false)], args := [d] }
  | _ => none }
def CountNobodyWrongFalsely : Prop := countNobodyRow.holds Try.pinned (OpenSpec.ofChange countNobodyWrong)

/- THE SECOND FORM. 'bulk': how many values and letters a reading holds, each counted each time it is reached (what is shared counts as often as it is met; a slice's spare places count too). A statement '..UptoSaid' is the law's where the arguments, and the package variables that the reading takes, are together of bulk at most 1048576: NARROWER than '..Said'. Prove '..Said' where nothing that the law and all that it calls make is longer than what came in: it says more and counts as full. Else prove '..UptoSaid'. A law counts once. -/
mutual
def uptoBulk {H : Type} : DataW H → Nat
  | .lit (.string bytes) => bytes.length + 1
  | .lit _ => 1
  | .nil => 1
  | .ptr d => uptoBulk d + 1
  | .slice elems spare => uptoBulkAll elems + uptoBulkAll spare + 1
  | .agg parts => uptoBulkAll parts + 1
  | .iface _ d => uptoBulk d + 1
  | .map entries => uptoBulkEntries entries + 1
  | .held _ => 1
def uptoBulkAll {H : Type} : List (DataW H) → Nat
  | [] => 0
  | d :: r => uptoBulk d + uptoBulkAll r
def uptoBulkEntries {H : Type} : List (Lit × DataW H) → Nat
  | [] => 0
  | x :: r => uptoBulkEntry x + uptoBulkEntries r
def uptoBulkEntry {H : Type} : Lit × DataW H → Nat
  | (.string bytes, d) => bytes.length + uptoBulk d + 1
  | (_, d) => uptoBulk d + 1
 end
def uptoSmall : (H : Type) → List (DataW H) → Bool := fun _ ds => decide (uptoBulkAll ds ≤ 1048576)
def OpenSpec.upto (s : _root_.Go.ChangeSpec) : _root_.Go.OpenSpec := { _root_.Go.OpenSpec.ofChange s with cond := some uptoSmall }

/-- 'remudalaw37.CountLives', WHERE WHAT IT READS IS OF BULK AT MOST 1048576: true; the input reads as it did. -/
def countLivesUptoRow : OpenClaim := { program := "ytofkddajlgebjaa", sum := "15ef60a000d4e03d8876a2c085ea8de6b8a264369aac895e4a7fb585cb27b87b", func := "remuda/remudalaw37.CountLives", spec := "countLives", inPlace := ["sync/atomic.AddInt64", "sync/atomic.LoadInt64"], apart := false, narrowed := true }
def CountLivesUptoSaid : Prop := countLivesUptoRow.holds Try.pinned (OpenSpec.upto countLivesSpec)

/-- 'remudalaw37.CountTotal', WHERE WHAT IT READS IS OF BULK AT MOST 1048576: true; the input reads as it did. -/
def countTotalUptoRow : OpenClaim := { program := "ytofkddajlgebjaa", sum := "15ef60a000d4e03d8876a2c085ea8de6b8a264369aac895e4a7fb585cb27b87b", func := "remuda/remudalaw37.CountTotal", spec := "countTotal", inPlace := ["sync/atomic.AddInt64", "sync/atomic.LoadInt64"], apart := false, narrowed := true }
def CountTotalUptoSaid : Prop := countTotalUptoRow.holds Try.pinned (OpenSpec.upto countTotalSpec)

/-- 'remudalaw37.CountNobody', WHERE WHAT IT READS IS OF BULK AT MOST 1048576: true; the input reads as it did. -/
def countNobodyUptoRow : OpenClaim := { program := "ytofkddajlgebjaa", sum := "15ef60a000d4e03d8876a2c085ea8de6b8a264369aac895e4a7fb585cb27b87b", func := "remuda/remudalaw37.CountNobody", spec := "countNobody", inPlace := ["sync/atomic.AddInt64", "sync/atomic.LoadInt64"], apart := false, narrowed := true }
def CountNobodyUptoSaid : Prop := countNobodyUptoRow.holds Try.pinned (OpenSpec.upto countNobodySpec)

end Rows
end Go.Proofs.Ytofkddajlgebjaa
