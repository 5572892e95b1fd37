/-
  No cell of these rows narrows 'for every input' (looked for: loops, veiled, ifaces, maps, wideKeys, modest, calm, conditions, laid).
  DERIVED. THE GIVEN ROWS OF THIS SEAT. 3 by the template 'for every input the law returns true; each argument reads behind the call as it read before'; 0 by the template 'total and deterministic' (their statements: YtlbgjlmokpkkeaaTotals.lean).
  GIVEN WITH THE SEED: the statements are not yours to turn. If you find one false, say at which input.
  Laid BY PROGRAM, IN A SANDBOX (cutbox-rows.mjs): the forced cells as the released guide's own fill.sh prints them over the translation 507be7bc48e815c4… (all of the seat's roots in one cut). By AI agents, Wed Nov 11 2026. No macro, syntax, notation, axiom, sorry.
-/
import Derived.Test.YtlbgjlmokpkkeaaChecked
import GoSem.Claim
import GoSem.ClaimJoined
import GoSem.ClaimMapViews
import Derived.JoinedTies
import Derived.KernelRfl
namespace Go.Proofs.Ytlbgjlmokpkkeaa
/- THE CELL 'sum', in the pinned program and in every row, IS THE sha256 OF THE DUMP (.gsa) THAT YtlbgjlmokpkkeaaProg.lean LOADS. Nothing in Lean hashes anything: it is a label: what it is worth is what the hold of that sum in a sandbox is worth. -/
noncomputable def Try.pinned : Pinned := { name := "ytlbgjlmokpkkeaa", sum := "507be7bc48e815c44aba682a32ec8098cad99ee858482ff553835a5988a9a05f", checked := Try.checked }
namespace Rows
def none {H : Type} : Left H := { results := [], args := [] }

/-- 'remudalaw32.FifoLives': WHATEVER THE INPUT: true; the input reads as it did. -/
def fifoLivesSpec : ChangeSpec := { name := "fifoLives", fn := fun _ => fun
  | [d] => { results := [.lit (.bool true)], args := [d] }
  | _ => none }
def fifoLivesRow : OpenClaim := { program := "ytlbgjlmokpkkeaa", sum := "507be7bc48e815c44aba682a32ec8098cad99ee858482ff553835a5988a9a05f", func := "remuda/remudalaw32.FifoLives", spec := "fifoLives", unfollowed := true, recurses := true, apart := false }
def FifoLivesSaid : Prop := fifoLivesRow.holds Try.pinned (OpenSpec.ofChange fifoLivesSpec)

/-- ITS FALSE NEIGHBOUR: 'it returns false'. Refute it at one input. -/
def fifoLivesWrong : ChangeSpec := { name := "fifoLives", fn := fun _ => fun
  | [d] => { results := [.lit (.bool false)], args := [d] }
  | _ => none }
def FifoLivesWrongFalsely : Prop := fifoLivesRow.holds Try.pinned (OpenSpec.ofChange fifoLivesWrong)

/-- 'remudalaw32.FifoOrder': WHATEVER THE INPUT: true; the input reads as it did. -/
def fifoOrderSpec : ChangeSpec := { name := "fifoOrder", fn := fun _ => fun
  | [d] => { results := [.lit (.bool true)], args := [d] }
  | _ => none }
def fifoOrderRow : OpenClaim := { program := "ytlbgjlmokpkkeaa", sum := "507be7bc48e815c44aba682a32ec8098cad99ee858482ff553835a5988a9a05f", func := "remuda/remudalaw32.FifoOrder", spec := "fifoOrder", apart := false }
def FifoOrderSaid : Prop := fifoOrderRow.holds Try.pinned (OpenSpec.ofChange fifoOrderSpec)

/-- ITS FALSE NEIGHBOUR: 'it returns false'. Refute it at one input. -/
def fifoOrderWrong : ChangeSpec := { name := "fifoOrder", fn := fun _ => fun
  | [d] => { results := [.lit (.bool false)], args := [d] }
  | _ => none }
def FifoOrderWrongFalsely : Prop := fifoOrderRow.holds Try.pinned (OpenSpec.ofChange fifoOrderWrong)

/-- 'remudalaw32.FifoNobody': WHATEVER THE INPUT: true; the input reads as it did. -/
def fifoNobodySpec : ChangeSpec := { name := "fifoNobody", fn := fun _ => fun
  | [d] => { results := [.lit (.bool true)], args := [d] }
  | _ => none }
def fifoNobodyRow : OpenClaim := { program := "ytlbgjlmokpkkeaa", sum := "507be7bc48e815c44aba682a32ec8098cad99ee858482ff553835a5988a9a05f", func := "remuda/remudalaw32.FifoNobody", spec := "fifoNobody", unfollowed := true, recurses := true, apart := false }
def FifoNobodySaid : Prop := fifoNobodyRow.holds Try.pinned (OpenSpec.ofChange fifoNobodySpec)

/-- ITS FALSE NEIGHBOUR: 'it returns false'. Refute it at one input. -/
def fifoNobodyWrong : ChangeSpec := { name := "fifoNobody", fn := fun _ => fun
  | [d] => { results := [.lit (.bool false)], args := [d] }
  | _ => none }
def FifoNobodyWrongFalsely : Prop := fifoNobodyRow.holds Try.pinned (OpenSpec.ofChange fifoNobodyWrong)

/- THE SECOND FORM. 'bulk': how many values and letters a reading holds, each counted each time it is reached (what is shared counts as often as it is met; a slice's spare places count too). A statement '..UptoSaid' is the law's where the arguments, and the package variables that the reading takes, are together of bulk at most 1048576: NARROWER than '..Said'. Prove '..Said' where nothing that the law and all that it calls make is longer than what came in: it says more and counts as full. Else prove '..UptoSaid'. A law counts once. -/
mutual
def uptoBulk {H : Type} : DataW H → Nat
  | .lit (.string bytes) => bytes.length + 1
  | .lit _ => 1
  | .nil => 1
  | .ptr d => uptoBulk d + 1
  | .slice elems spare => uptoBulkAll elems + uptoBulkAll spare + 1
  | .agg parts => uptoBulkAll parts + 1
  | .iface _ d => uptoBulk d + 1
  | .map entries => uptoBulkEntries entries + 1
  | .held _ => 1
def uptoBulkAll {H : Type} : List (DataW H) → Nat
  | [] => 0
  | d :: r => uptoBulk d + uptoBulkAll r
def uptoBulkEntries {H : Type} : List (Lit × DataW H) → Nat
  | [] => 0
  | x :: r => uptoBulkEntry x + uptoBulkEntries r
def uptoBulkEntry {H : Type} : Lit × DataW H → Nat
  | (.string bytes, d) => bytes.length + uptoBulk d + 1
  | (_, d) => uptoBulk d + 1
 end
def uptoSmall : (H : Type) → List (DataW H) → Bool := fun _ ds => decide (uptoBulkAll ds ≤ 1048576)
def OpenSpec.upto (s : _root_.Go.ChangeSpec) : _root_.Go.OpenSpec := { _root_.Go.OpenSpec.ofChange s with cond := some uptoSmall }

/-- 'remudalaw32.FifoLives', WHERE WHAT IT READS IS OF BULK AT MOST 1048576: true; the input reads as it did. -/
def fifoLivesUptoRow : OpenClaim := { program := "ytlbgjlmokpkkeaa", sum := "507be7bc48e815c44aba682a32ec8098cad99ee858482ff553835a5988a9a05f", func := "remuda/remudalaw32.FifoLives", spec := "fifoLives", unfollowed := true, recurses := true, apart := false, narrowed := true }
def FifoLivesUptoSaid : Prop := fifoLivesUptoRow.holds Try.pinned (OpenSpec.upto fifoLivesSpec)

/-- 'remudalaw32.FifoOrder', WHERE WHAT IT READS IS OF BULK AT MOST 1048576: true; the input reads as it did. -/
def fifoOrderUptoRow : OpenClaim := { program := "ytlbgjlmokpkkeaa", sum := "507be7bc48e815c44aba682a32ec8098cad99ee858482ff553835a5988a9a05f", func := "remuda/remudalaw32.FifoOrder", spec := "fifoOrder", apart := false, narrowed := true }
def FifoOrderUptoSaid : Prop := fifoOrderUptoRow.holds Try.pinned (OpenSpec.upto fifoOrderSpec)

/-- 'remudalaw32.FifoNobody', WHERE WHAT IT READS IS OF BULK AT MOST 1048576: true; the input reads as it did. -/
def fifoNobodyUptoRow : OpenClaim := { program := "ytlbgjlmokpkkeaa", sum := "507be7bc48e815c44aba682a32ec8098cad99ee858482ff553835a5988a9a05f", func := "remuda/remudalaw32.FifoNobody", spec := "fifoNobody", unfollowed := true, recurses := true, apart := false, narrowed := true }
def FifoNobodyUptoSaid : Prop := fifoNobodyUptoRow.holds Try.pinned (OpenSpec.upto fifoNobodySpec)

end Rows
end Go.Proofs.Ytlbgjlmokpkkeaa
