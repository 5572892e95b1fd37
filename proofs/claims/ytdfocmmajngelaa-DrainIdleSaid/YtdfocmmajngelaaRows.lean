/-
  No cell of these rows narrows 'for every input' (looked for: loops, veiled, ifaces, maps, wideKeys, modest, calm, conditions, laid).
  DERIVED. THE GIVEN ROWS OF THIS SEAT. 5 by the template 'for every input the law returns true; each argument reads behind the call as it read before'; 0 by the template 'total and deterministic' (their statements: YtdfocmmajngelaaTotals.lean).
  GIVEN WITH THE SEED: the statements are not yours to turn. If you find one false, say at which input.
  Laid BY PROGRAM, IN A SANDBOX (cutbox-rows.mjs): the forced cells as the released guide's own fill.sh prints them over the translation 9ddef92b5f664c90… (all of the seat's roots in one cut). By AI agents, Wed Nov 11 2026. No macro, syntax, notation, axiom, sorry.
-/
import Derived.Test.YtdfocmmajngelaaChecked
import GoSem.Claim
import GoSem.ClaimJoined
import GoSem.ClaimMapViews
import Derived.JoinedTies
import Derived.KernelRfl
namespace Go.Proofs.Ytdfocmmajngelaa
/- THE CELL 'sum', in the pinned program and in every row, IS THE sha256 OF THE DUMP (.gsa) THAT YtdfocmmajngelaaProg.lean LOADS. Nothing in Lean hashes anything: it is a label: what it is worth is what the hold of that sum in a sandbox is worth. -/
noncomputable def Try.pinned : Pinned := { name := "ytdfocmmajngelaa", sum := "9ddef92b5f664c90b0ae564993f7656be25da87113ee756371fb1e5409d490e2", checked := Try.checked }
namespace Rows
def none {H : Type} : Left H := { results := [], args := [] }

/-- 'remudalaw33.LeaseLives': WHATEVER THE INPUT: true; the input reads as it did. -/
def leaseLivesSpec : ChangeSpec := { name := "leaseLives", fn := fun _ => fun
  | [d1, d2] => { results := [.lit (.bool true)], args := [d1, d2] }
  | _ => none }
def leaseLivesRow : OpenClaim := { program := "ytdfocmmajngelaa", sum := "9ddef92b5f664c90b0ae564993f7656be25da87113ee756371fb1e5409d490e2", func := "remuda/remudalaw33.LeaseLives", spec := "leaseLives", unfollowed := true, recurses := true, apart := false }
def LeaseLivesSaid : Prop := leaseLivesRow.holds Try.pinned (OpenSpec.ofChange leaseLivesSpec)

/-- ITS FALSE NEIGHBOUR: 'it returns false'. Refute it at one input. -/
def leaseLivesWrong : ChangeSpec := { name := "leaseLives", fn := fun _ => fun
  | [d1, d2] => { results := [.lit (.bool false)], args := [d1, d2] }
  | _ => none }
def LeaseLivesWrongFalsely : Prop := leaseLivesRow.holds Try.pinned (OpenSpec.ofChange leaseLivesWrong)

/-- 'remudalaw33.LeaseOnce': WHATEVER THE INPUT: true; the input reads as it did. -/
def leaseOnceSpec : ChangeSpec := { name := "leaseOnce", fn := fun _ => fun
  | [d1, d2] => { results := [.lit (.bool true)], args := [d1, d2] }
  | _ => none }
def leaseOnceRow : OpenClaim := { program := "ytdfocmmajngelaa", sum := "9ddef92b5f664c90b0ae564993f7656be25da87113ee756371fb1e5409d490e2", func := "remuda/remudalaw33.LeaseOnce", spec := "leaseOnce", unfollowed := true, recurses := true, apart := false }
def LeaseOnceSaid : Prop := leaseOnceRow.holds Try.pinned (OpenSpec.ofChange leaseOnceSpec)

/-- ITS FALSE NEIGHBOUR: 'it returns false'. Refute it at one input. -/
def leaseOnceWrong : ChangeSpec := { name := "leaseOnce", fn := fun _ => fun
  | [d1, d2] => { results := [.lit (.bool false)], args := [d1, d2] }
  | _ => none }
def LeaseOnceWrongFalsely : Prop := leaseOnceRow.holds Try.pinned (OpenSpec.ofChange leaseOnceWrong)

/-- 'remudalaw33.LeaseNobody': WHATEVER THE INPUT: true; the input reads as it did. -/
def leaseNobodySpec : ChangeSpec := { name := "leaseNobody", fn := fun _ => fun
  | [d] => { results := [.lit (.bool true)], args := [d] }
  | _ => none }
def leaseNobodyRow : OpenClaim := { program := "ytdfocmmajngelaa", sum := "9ddef92b5f664c90b0ae564993f7656be25da87113ee756371fb1e5409d490e2", func := "remuda/remudalaw33.LeaseNobody", spec := "leaseNobody", unfollowed := true, recurses := true, apart := false }
def LeaseNobodySaid : Prop := leaseNobodyRow.holds Try.pinned (OpenSpec.ofChange leaseNobodySpec)

/-- ITS FALSE NEIGHBOUR: 'it returns false'. Refute it at one input. -/
def leaseNobodyWrong : ChangeSpec := { name := "leaseNobody", fn := fun _ => fun
  | [d] => { results := [.lit (.bool false)], args := [d] }
  | _ => none }
def LeaseNobodyWrongFalsely : Prop := leaseNobodyRow.holds Try.pinned (OpenSpec.ofChange leaseNobodyWrong)

/-- 'remudalaw34.DrainTells': WHATEVER THE INPUT: true; the input reads as it did. -/
def drainTellsSpec : ChangeSpec := { name := "drainTells", fn := fun _ => fun
  | [d1, d2, d3, d4] => { results := [.lit (.bool true)], args := [d1, d2, d3, d4] }
  | _ => none }
def drainTellsRow : OpenClaim := { program := "ytdfocmmajngelaa", sum := "9ddef92b5f664c90b0ae564993f7656be25da87113ee756371fb1e5409d490e2", func := "remuda/remudalaw34.DrainTells", spec := "drainTells", apart := false }
def DrainTellsSaid : Prop := drainTellsRow.holds Try.pinned (OpenSpec.ofChange drainTellsSpec)

/-- ITS FALSE NEIGHBOUR: 'it returns false'. Refute it at one input. -/
def drainTellsWrong : ChangeSpec := { name := "drainTells", fn := fun _ => fun
  | [d1, d2, d3, d4] => { results := [.lit (.bool false)], args := [d1, d2, d3, d4] }
  | _ => none }
def DrainTellsWrongFalsely : Prop := drainTellsRow.holds Try.pinned (OpenSpec.ofChange drainTellsWrong)

/-- 'remudalaw34.DrainIdle': WHATEVER THE INPUT: true; the input reads as it did. -/
def drainIdleSpec : ChangeSpec := { name := "drainIdle", fn := fun _ => fun
  | [d1, d2, d3] => { results := [.lit (.bool true)], args := [d1, d2, d3] }
  | _ => none }
def drainIdleRow : OpenClaim := { program := "ytdfocmmajngelaa", sum := "9ddef92b5f664c90b0ae564993f7656be25da87113ee756371fb1e5409d490e2", func := "remuda/remudalaw34.DrainIdle", spec := "drainIdle", apart := false }
def DrainIdleSaid : Prop := drainIdleRow.holds Try.pinned (OpenSpec.ofChange drainIdleSpec)

/-- ITS FALSE NEIGHBOUR: 'it returns false'. Refute it at one input. -/
def drainIdleWrong : ChangeSpec := { name := "drainIdle", fn := fun _ => fun
  | [d1, d2, d3] => { results := [.lit (.bool false)], args := [d1, d2, d3] }
  | _ => none }
def DrainIdleWrongFalsely : Prop := drainIdleRow.holds Try.pinned (OpenSpec.ofChange drainIdleWrong)

/- THE SECOND FORM. 'bulk': how many values and letters a reading holds, each counted each time it is reached (what is shared counts as often as it is met; a slice's spare places count too). A statement '..UptoSaid' is the law's where the arguments, and the package variables that the reading takes, are together of bulk at most 1048576: NARROWER than '..Said'. Prove '..Said' where nothing that the law and all that it calls make is longer than what came in: it says more and counts as full. Else prove '..UptoSaid'. A law counts once. -/
mutual
def uptoBulk {H : Type} : DataW H → Nat
  | .lit (.string bytes) => bytes.length + 1
  | .lit _ => 1
  | .nil => 1
  | .ptr d => uptoBulk d + 1
  | .slice elems spare => uptoBulkAll elems + uptoBulkAll spare + 1
  | .agg parts => uptoBulkAll parts + 1
  | .iface _ d => uptoBulk d + 1
  | .map entries => uptoBulkEntries entries + 1
  | .held _ => 1
def uptoBulkAll {H : Type} : List (DataW H) → Nat
  | [] => 0
  | d :: r => uptoBulk d + uptoBulkAll r
def uptoBulkEntries {H : Type} : List (Lit × DataW H) → Nat
  | [] => 0
  | x :: r => uptoBulkEntry x + uptoBulkEntries r
def uptoBulkEntry {H : Type} : Lit × DataW H → Nat
  | (.string bytes, d) => bytes.length + uptoBulk d + 1
  | (_, d) => uptoBulk d + 1
 end
def uptoSmall : (H : Type) → List (DataW H) → Bool := fun _ ds => decide (uptoBulkAll ds ≤ 1048576)
def OpenSpec.upto (s : _root_.Go.ChangeSpec) : _root_.Go.OpenSpec := { _root_.Go.OpenSpec.ofChange s with cond := some uptoSmall }

/-- 'remudalaw33.LeaseLives', WHERE WHAT IT READS IS OF BULK AT MOST 1048576: true; the input reads as it did. -/
def leaseLivesUptoRow : OpenClaim := { program := "ytdfocmmajngelaa", sum := "9ddef92b5f664c90b0ae564993f7656be25da87113ee756371fb1e5409d490e2", func := "remuda/remudalaw33.LeaseLives", spec := "leaseLives", unfollowed := true, recurses := true, apart := false, narrowed := true }
def LeaseLivesUptoSaid : Prop := leaseLivesUptoRow.holds Try.pinned (OpenSpec.upto leaseLivesSpec)

/-- 'remudalaw33.LeaseOnce', WHERE WHAT IT READS IS OF BULK AT MOST 1048576: true; the input reads as it did. -/
def leaseOnceUptoRow : OpenClaim := { program := "ytdfocmmajngelaa", sum := "9ddef92b5f664c90b0ae564993f7656be25da87113ee756371fb1e5409d490e2", func := "remuda/remudalaw33.LeaseOnce", spec := "leaseOnce", unfollowed := true, recurses := true, apart := false, narrowed := true }
def LeaseOnceUptoSaid : Prop := leaseOnceUptoRow.holds Try.pinned (OpenSpec.upto leaseOnceSpec)

/-- 'remudalaw33.LeaseNobody', WHERE WHAT IT READS IS OF BULK AT MOST 1048576: true; the input reads as it did. -/
def leaseNobodyUptoRow : OpenClaim := { program := "ytdfocmmajngelaa", sum := "9ddef92b5f664c90b0ae564993f7656be25da87113ee756371fb1e5409d490e2", func := "remuda/remudalaw33.LeaseNobody", spec := "leaseNobody", unfollowed := true, recurses := true, apart := false, narrowed := true }
def LeaseNobodyUptoSaid : Prop := leaseNobodyUptoRow.holds Try.pinned (OpenSpec.upto leaseNobodySpec)

/-- 'remudalaw34.DrainTells', WHERE WHAT IT READS IS OF BULK AT MOST 1048576: true; the input reads as it did. -/
def drainTellsUptoRow : OpenClaim := { program := "ytdfocmmajngelaa", sum := "9ddef92b5f664c90b0ae564993f7656be25da87113ee756371fb1e5409d490e2", func := "remuda/remudalaw34.DrainTells", spec := "drainTells", apart := false, narrowed := true }
def DrainTellsUptoSaid : Prop := drainTellsUptoRow.holds Try.pinned (OpenSpec.upto drainTellsSpec)

/-- 'remudalaw34.DrainIdle', WHERE WHAT IT READS IS OF BULK AT MOST 1048576: true; the input reads as it did. -/
def drainIdleUptoRow : OpenClaim := { program := "ytdfocmmajngelaa", sum := "9ddef92b5f664c90b0ae564993f7656be25da87113ee756371fb1e5409d490e2", func := "remuda/remudalaw34.DrainIdle", spec := "drainIdle", apart := false, narrowed := true }
def DrainIdleUptoSaid : Prop := drainIdleUptoRow.holds Try.pinned (OpenSpec.upto drainIdleSpec)

end Rows
end Go.Proofs.Ytdfocmmajngelaa
