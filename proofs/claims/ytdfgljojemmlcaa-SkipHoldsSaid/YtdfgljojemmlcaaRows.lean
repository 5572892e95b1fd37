/-
  No cell of these rows narrows 'for every input' (looked for: loops, veiled, ifaces, maps, wideKeys, modest, calm, conditions, laid).
  DERIVED. THE GIVEN ROWS OF THIS SEAT. 2 by the template 'for every input the law returns true; each argument reads behind the call as it read before'; 0 by the template 'total and deterministic' (their statements: YtdfgljojemmlcaaTotals.lean).
  GIVEN WITH THE SEED: the statements are not yours to turn. If you find one false, say at which input.
  Laid BY PROGRAM, IN A SANDBOX (cutbox-rows.mjs): the forced cells as the released guide's own fill.sh prints them over the translation b02b94a08a4f9178… (all of the seat's roots in one cut). By AI agents, Wed Nov 11 2026. No macro, syntax, notation, axiom, sorry.
-/
import Derived.Test.YtdfgljojemmlcaaChecked
import GoSem.Claim
import GoSem.ClaimJoined
import GoSem.ClaimMapViews
import Derived.JoinedTies
import Derived.KernelRfl
namespace Go.Proofs.Ytdfgljojemmlcaa
/- THE CELL 'sum', in the pinned program and in every row, IS THE sha256 OF THE DUMP (.gsa) THAT YtdfgljojemmlcaaProg.lean LOADS. Nothing in Lean hashes anything: it is a label: what it is worth is what the hold of that sum in a sandbox is worth. -/
noncomputable def Try.pinned : Pinned := { name := "ytdfgljojemmlcaa", sum := "b02b94a08a4f91780afc9169700042c57d48f5af33bf7335843f45f93124b665", checked := Try.checked }
namespace Rows
def none {H : Type} : Left H := { results := [], args := [] }

/-- 'remudalaw23.SkipTells': WHATEVER THE INPUT: true; the input reads as it did. -/
def skipTellsSpec : ChangeSpec := { name := "skipTells", fn := fun _ => fun
  | [d1, d2, d3] => { results := [.lit (.bool true)], args := [d1, d2, d3] }
  | _ => none }
def skipTellsRow : OpenClaim := { program := "ytdfgljojemmlcaa", sum := "b02b94a08a4f91780afc9169700042c57d48f5af33bf7335843f45f93124b665", func := "remuda/remudalaw23.SkipTells", spec := "skipTells", apart := false }
def SkipTellsSaid : Prop := skipTellsRow.holds Try.pinned (OpenSpec.ofChange skipTellsSpec)

/-- ITS FALSE NEIGHBOUR: 'it returns false'. Refute it at one input. -/
def skipTellsWrong : ChangeSpec := { name := "skipTells", fn := fun _ => fun
  | [d1, d2, d3] => { results := [.lit (.bool false)], args := [d1, d2, d3] }
  | _ => none }
def SkipTellsWrongFalsely : Prop := skipTellsRow.holds Try.pinned (OpenSpec.ofChange skipTellsWrong)

/-- 'remudalaw23.SkipHolds': WHATEVER THE INPUT: true; the input reads as it did. -/
def skipHoldsSpec : ChangeSpec := { name := "skipHolds", fn := fun _ => fun
  | [d1, d2] => { results := [.lit (.bool true)], args := [d1, d2] }
  | _ => none }
def skipHoldsRow : OpenClaim := { program := "ytdfgljojemmlcaa", sum := "b02b94a08a4f91780afc9169700042c57d48f5af33bf7335843f45f93124b665", func := "remuda/remudalaw23.SkipHolds", spec := "skipHolds", apart := false }
def SkipHoldsSaid : Prop := skipHoldsRow.holds Try.pinned (OpenSpec.ofChange skipHoldsSpec)

/-- ITS FALSE NEIGHBOUR: 'it returns false'. Refute it at one input. -/
def skipHoldsWrong : ChangeSpec := { name := "skipHolds", fn := fun _ => fun
  | [d1, d2] => { results := [.lit (.bool false)], args := [d1, d2] }
  | _ => none }
def SkipHoldsWrongFalsely : Prop := skipHoldsRow.holds Try.pinned (OpenSpec.ofChange skipHoldsWrong)

/- THE SECOND FORM. 'bulk': how many values and letters a reading holds, each counted each time it is reached (what is shared counts as often as it is met; a slice's spare places count too). A statement '..UptoSaid' is the law's where the arguments, and the package variables that the reading takes, are together of bulk at most 1048576: NARROWER than '..Said'. Prove '..Said' where nothing that the law and all that it calls make is longer than what came in: it says more and counts as full. Else prove '..UptoSaid'. A law counts once. -/
mutual
def uptoBulk {H : Type} : DataW H → Nat
  | .lit (.string bytes) => bytes.length + 1
  | .lit _ => 1
  | .nil => 1
  | .ptr d => uptoBulk d + 1
  | .slice elems spare => uptoBulkAll elems + uptoBulkAll spare + 1
  | .agg parts => uptoBulkAll parts + 1
  | .iface _ d => uptoBulk d + 1
  | .map entries => uptoBulkEntries entries + 1
  | .held _ => 1
def uptoBulkAll {H : Type} : List (DataW H) → Nat
  | [] => 0
  | d :: r => uptoBulk d + uptoBulkAll r
def uptoBulkEntries {H : Type} : List (Lit × DataW H) → Nat
  | [] => 0
  | x :: r => uptoBulkEntry x + uptoBulkEntries r
def uptoBulkEntry {H : Type} : Lit × DataW H → Nat
  | (.string bytes, d) => bytes.length + uptoBulk d + 1
  | (_, d) => uptoBulk d + 1
 end
def uptoSmall : (H : Type) → List (DataW H) → Bool := fun _ ds => decide (uptoBulkAll ds ≤ 1048576)
def OpenSpec.upto (s : _root_.Go.ChangeSpec) : _root_.Go.OpenSpec := { _root_.Go.OpenSpec.ofChange s with cond := some uptoSmall }

/-- 'remudalaw23.SkipTells', WHERE WHAT IT READS IS OF BULK AT MOST 1048576: true; the input reads as it did. -/
def skipTellsUptoRow : OpenClaim := { program := "ytdfgljojemmlcaa", sum := "b02b94a08a4f91780afc9169700042c57d48f5af33bf7335843f45f93124b665", func := "remuda/remudalaw23.SkipTells", spec := "skipTells", apart := false, narrowed := true }
def SkipTellsUptoSaid : Prop := skipTellsUptoRow.holds Try.pinned (OpenSpec.upto skipTellsSpec)

/-- 'remudalaw23.SkipHolds', WHERE WHAT IT READS IS OF BULK AT MOST 1048576: true; the input reads as it did. -/
def skipHoldsUptoRow : OpenClaim := { program := "ytdfgljojemmlcaa", sum := "b02b94a08a4f91780afc9169700042c57d48f5af33bf7335843f45f93124b665", func := "remuda/remudalaw23.SkipHolds", spec := "skipHolds", apart := false, narrowed := true }
def SkipHoldsUptoSaid : Prop := skipHoldsUptoRow.holds Try.pinned (OpenSpec.upto skipHoldsSpec)

end Rows
end Go.Proofs.Ytdfgljojemmlcaa
