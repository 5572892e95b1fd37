/-
  No cell of these rows narrows 'for every input' (looked for: loops, veiled, ifaces, maps, wideKeys, modest, calm, conditions, laid).
  DERIVED. THE GIVEN ROWS OF THIS SEAT. 7 by the template 'for every input the law returns true; each argument reads behind the call as it read before'; 0 by the template 'total and deterministic' (their statements: YtphgbfemigcalaaTotals.lean).
  GIVEN WITH THE SEED: the statements are not yours to turn. If you find one false, say at which input.
  Laid BY PROGRAM, IN A SANDBOX (cutbox-rows.mjs): the forced cells as the released guide's own fill.sh prints them over the translation 0bc26b86ac6ba1f5… (all of the seat's roots in one cut). By AI agents, Wed Nov 11 2026. No macro, syntax, notation, axiom, sorry.
-/
import Derived.Test.YtphgbfemigcalaaChecked
import GoSem.Claim
import GoSem.ClaimJoined
import GoSem.ClaimMapViews
import Derived.JoinedTies
import Derived.KernelRfl
namespace Go.Proofs.Ytphgbfemigcalaa
/- THE CELL 'sum', in the pinned program and in every row, IS THE sha256 OF THE DUMP (.gsa) THAT YtphgbfemigcalaaProg.lean LOADS. Nothing in Lean hashes anything: it is a label: what it is worth is what the hold of that sum in a sandbox is worth. -/
noncomputable def Try.pinned : Pinned := { name := "ytphgbfemigcalaa", sum := "0bc26b86ac6ba1f5a18ea39ac6b4c826a76f6124334ce8a5395713b751a0e517", checked := Try.checked }
namespace Rows
def none {H : Type} : Left H := { results := [], args := [] }

/-- 'remudalaw15.TableLives': WHATEVER THE INPUT: true; the input reads as it did. -/
def tableLivesSpec : ChangeSpec := { name := "tableLives", fn := fun _ => fun
  | [d1, d2] => { results := [.lit (.bool true)], args := [d1, d2] }
  | _ => none }
def tableLivesRow : OpenClaim := { program := "ytphgbfemigcalaa", sum := "0bc26b86ac6ba1f5a18ea39ac6b4c826a76f6124334ce8a5395713b751a0e517", func := "remuda/remudalaw15.TableLives", spec := "tableLives", unfollowed := true, recurses := true, apart := false }
def TableLivesSaid : Prop := tableLivesRow.holds Try.pinned (OpenSpec.ofChange tableLivesSpec)

/-- ITS FALSE NEIGHBOUR: 'it returns false'. Refute it at one input. -/
def tableLivesWrong : ChangeSpec := { name := "tableLives", fn := fun _ => fun
  | [d1, d2] => { results := [.lit (.bool false)], args := [d1, d2] }
  | _ => none }
def TableLivesWrongFalsely : Prop := tableLivesRow.holds Try.pinned (OpenSpec.ofChange tableLivesWrong)

/-- 'remudalaw15.TableKeeps': WHATEVER THE INPUT: true; the input reads as it did. -/
def tableKeepsSpec : ChangeSpec := { name := "tableKeeps", fn := fun _ => fun
  | [d1, d2, d3] => { results := [.lit (.bool true)], args := [d1, d2, d3] }
  | _ => none }
def tableKeepsRow : OpenClaim := { program := "ytphgbfemigcalaa", sum := "0bc26b86ac6ba1f5a18ea39ac6b4c826a76f6124334ce8a5395713b751a0e517", func := "remuda/remudalaw15.TableKeeps", spec := "tableKeeps", apart := false }
def TableKeepsSaid : Prop := tableKeepsRow.holds Try.pinned (OpenSpec.ofChange tableKeepsSpec)

/-- ITS FALSE NEIGHBOUR: 'it returns false'. Refute it at one input. -/
def tableKeepsWrong : ChangeSpec := { name := "tableKeeps", fn := fun _ => fun
  | [d1, d2, d3] => { results := [.lit (.bool false)], args := [d1, d2, d3] }
  | _ => none }
def TableKeepsWrongFalsely : Prop := tableKeepsRow.holds Try.pinned (OpenSpec.ofChange tableKeepsWrong)

/-- 'remudalaw15.TableNobody': WHATEVER THE INPUT: true; the input reads as it did. -/
def tableNobodySpec : ChangeSpec := { name := "tableNobody", fn := fun _ => fun
  | [d1, d2] => { results := [.lit (.bool true)], args := [d1, d2] }
  | _ => none }
def tableNobodyRow : OpenClaim := { program := "ytphgbfemigcalaa", sum := "0bc26b86ac6ba1f5a18ea39ac6b4c826a76f6124334ce8a5395713b751a0e517", func := "remuda/remudalaw15.TableNobody", spec := "tableNobody", unfollowed := true, recurses := true, apart := false }
def TableNobodySaid : Prop := tableNobodyRow.holds Try.pinned (OpenSpec.ofChange tableNobodySpec)

/-- ITS FALSE NEIGHBOUR: 'it returns false'. Refute it at one input. -/
def tableNobodyWrong : ChangeSpec := { name := "tableNobody", fn := fun _ => fun
  | [d1, d2] => { results := [.lit (.bool false)], args := [d1, d2] }
  | _ => none }
def TableNobodyWrongFalsely : Prop := tableNobodyRow.holds Try.pinned (OpenSpec.ofChange tableNobodyWrong)

/-- 'remudalaw16.OverTells': WHATEVER THE INPUT: true; the input reads as it did. -/
def overTellsSpec : ChangeSpec := { name := "overTells", fn := fun _ => fun
  | [d1, d2, d3, d4] => { results := [.lit (.bool true)], args := [d1, d2, d3, d4] }
  | _ => none }
def overTellsRow : OpenClaim := { program := "ytphgbfemigcalaa", sum := "0bc26b86ac6ba1f5a18ea39ac6b4c826a76f6124334ce8a5395713b751a0e517", func := "remuda/remudalaw16.OverTells", spec := "overTells", unfollowed := true, recurses := true, apart := false }
def OverTellsSaid : Prop := overTellsRow.holds Try.pinned (OpenSpec.ofChange overTellsSpec)

/-- ITS FALSE NEIGHBOUR: 'it returns false'. Refute it at one input. -/
def overTellsWrong : ChangeSpec := { name := "overTells", fn := fun _ => fun
  | [d1, d2, d3, d4] => { results := [.lit (.bool false)], args := [d1, d2, d3, d4] }
  | _ => none }
def OverTellsWrongFalsely : Prop := overTellsRow.holds Try.pinned (OpenSpec.ofChange overTellsWrong)

/-- 'remudalaw16.OverApplies': WHATEVER THE INPUT: true; the input reads as it did. -/
def overAppliesSpec : ChangeSpec := { name := "overApplies", fn := fun _ => fun
  | [d1, d2, d3, d4] => { results := [.lit (.bool true)], args := [d1, d2, d3, d4] }
  | _ => none }
def overAppliesRow : OpenClaim := { program := "ytphgbfemigcalaa", sum := "0bc26b86ac6ba1f5a18ea39ac6b4c826a76f6124334ce8a5395713b751a0e517", func := "remuda/remudalaw16.OverApplies", spec := "overApplies", unfollowed := true, recurses := true, apart := false }
def OverAppliesSaid : Prop := overAppliesRow.holds Try.pinned (OpenSpec.ofChange overAppliesSpec)

/-- ITS FALSE NEIGHBOUR: 'it returns false'. Refute it at one input. -/
def overAppliesWrong : ChangeSpec := { name := "overApplies", fn := fun _ => fun
  | [d1, d2, d3, d4] => { results := [.lit (.bool false)], args := [d1, d2, d3, d4] }
  | _ => none }
def OverAppliesWrongFalsely : Prop := overAppliesRow.holds Try.pinned (OpenSpec.ofChange overAppliesWrong)

/-- 'remudalaw16.OverLater': WHATEVER THE INPUT: true; the input reads as it did. -/
def overLaterSpec : ChangeSpec := { name := "overLater", fn := fun _ => fun
  | [d1, d2, d3] => { results := [.lit (.bool true)], args := [d1, d2, d3] }
  | _ => none }
def overLaterRow : OpenClaim := { program := "ytphgbfemigcalaa", sum := "0bc26b86ac6ba1f5a18ea39ac6b4c826a76f6124334ce8a5395713b751a0e517", func := "remuda/remudalaw16.OverLater", spec := "overLater", unfollowed := true, recurses := true, apart := false }
def OverLaterSaid : Prop := overLaterRow.holds Try.pinned (OpenSpec.ofChange overLaterSpec)

/-- ITS FALSE NEIGHBOUR: 'it returns false'. Refute it at one input. -/
def overLaterWrong : ChangeSpec := { name := "overLater", fn := fun _ => fun
  | [d1, d2, d3] => { results := [.lit (.bool false)], args := [d1, d2, d3] }
  | _ => none }
def OverLaterWrongFalsely : Prop := overLaterRow.holds Try.pinned (OpenSpec.ofChange overLaterWrong)

/-- 'remudalaw16.OverNobody': WHATEVER THE INPUT: true; the input reads as it did. -/
def overNobodySpec : ChangeSpec := { name := "overNobody", fn := fun _ => fun
  | [d1, d2, d3] => { results := [.lit (.bool true)], args := [d1, d2, d3] }
  | _ => none }
def overNobodyRow : OpenClaim := { program := "ytphgbfemigcalaa", sum := "0bc26b86ac6ba1f5a18ea39ac6b4c826a76f6124334ce8a5395713b751a0e517", func := "remuda/remudalaw16.OverNobody", spec := "overNobody", unfollowed := true, recurses := true, apart := false }
def OverNobodySaid : Prop := overNobodyRow.holds Try.pinned (OpenSpec.ofChange overNobodySpec)

/-- ITS FALSE NEIGHBOUR: 'it returns false'. Refute it at one input. -/
def overNobodyWrong : ChangeSpec := { name := "overNobody", fn := fun _ => fun
  | [d1, d2, d3] => { results := [.lit (.bool false)], args := [d1, d2, d3] }
  | _ => none }
def OverNobodyWrongFalsely : Prop := overNobodyRow.holds Try.pinned (OpenSpec.ofChange overNobodyWrong)

/- THE SECOND FORM. 'bulk': how many values and letters a reading holds, each counted each time it is reached (what is shared counts as often as it is met; a slice's spare places count too). A statement '..UptoSaid' is the law's where the arguments, and the package variables that the reading takes, are together of bulk at most 1048576: NARROWER than '..Said'. Prove '..Said' where nothing that the law and all that it calls make is longer than what came in: it says more and counts as full. Else prove '..UptoSaid'. A law counts once. -/
mutual
def uptoBulk {H : Type} : DataW H → Nat
  | .lit (.string bytes) => bytes.length + 1
  | .lit _ => 1
  | .nil => 1
  | .ptr d => uptoBulk d + 1
  | .slice elems spare => uptoBulkAll elems + uptoBulkAll spare + 1
  | .agg parts => uptoBulkAll parts + 1
  | .iface _ d => uptoBulk d + 1
  | .map entries => uptoBulkEntries entries + 1
  | .held _ => 1
def uptoBulkAll {H : Type} : List (DataW H) → Nat
  | [] => 0
  | d :: r => uptoBulk d + uptoBulkAll r
def uptoBulkEntries {H : Type} : List (Lit × DataW H) → Nat
  | [] => 0
  | x :: r => uptoBulkEntry x + uptoBulkEntries r
def uptoBulkEntry {H : Type} : Lit × DataW H → Nat
  | (.string bytes, d) => bytes.length + uptoBulk d + 1
  | (_, d) => uptoBulk d + 1
 end
def uptoSmall : (H : Type) → List (DataW H) → Bool := fun _ ds => decide (uptoBulkAll ds ≤ 1048576)
def OpenSpec.upto (s : _root_.Go.ChangeSpec) : _root_.Go.OpenSpec := { _root_.Go.OpenSpec.ofChange s with cond := some uptoSmall }

/-- 'remudalaw15.TableLives', WHERE WHAT IT READS IS OF BULK AT MOST 1048576: true; the input reads as it did. -/
def tableLivesUptoRow : OpenClaim := { program := "ytphgbfemigcalaa", sum := "0bc26b86ac6ba1f5a18ea39ac6b4c826a76f6124334ce8a5395713b751a0e517", func := "remuda/remudalaw15.TableLives", spec := "tableLives", unfollowed := true, recurses := true, apart := false, narrowed := true }
def TableLivesUptoSaid : Prop := tableLivesUptoRow.holds Try.pinned (OpenSpec.upto tableLivesSpec)

/-- 'remudalaw15.TableKeeps', WHERE WHAT IT READS IS OF BULK AT MOST 1048576: true; the input reads as it did. -/
def tableKeepsUptoRow : OpenClaim := { program := "ytphgbfemigcalaa", sum := "0bc26b86ac6ba1f5a18ea39ac6b4c826a76f6124334ce8a5395713b751a0e517", func := "remuda/remudalaw15.TableKeeps", spec := "tableKeeps", apart := false, narrowed := true }
def TableKeepsUptoSaid : Prop := tableKeepsUptoRow.holds Try.pinned (OpenSpec.upto tableKeepsSpec)

/-- 'remudalaw15.TableNobody', WHERE WHAT IT READS IS OF BULK AT MOST 1048576: true; the input reads as it did. -/
def tableNobodyUptoRow : OpenClaim := { program := "ytphgbfemigcalaa", sum := "0bc26b86ac6ba1f5a18ea39ac6b4c826a76f6124334ce8a5395713b751a0e517", func := "remuda/remudalaw15.TableNobody", spec := "tableNobody", unfollowed := true, recurses := true, apart := false, narrowed := true }
def TableNobodyUptoSaid : Prop := tableNobodyUptoRow.holds Try.pinned (OpenSpec.upto tableNobodySpec)

/-- 'remudalaw16.OverTells', WHERE WHAT IT READS IS OF BULK AT MOST 1048576: true; the input reads as it did. -/
def overTellsUptoRow : OpenClaim := { program := "ytphgbfemigcalaa", sum := "0bc26b86ac6ba1f5a18ea39ac6b4c826a76f6124334ce8a5395713b751a0e517", func := "remuda/remudalaw16.OverTells", spec := "overTells", unfollowed := true, recurses := true, apart := false, narrowed := true }
def OverTellsUptoSaid : Prop := overTellsUptoRow.holds Try.pinned (OpenSpec.upto overTellsSpec)

/-- 'remudalaw16.OverApplies', WHERE WHAT IT READS IS OF BULK AT MOST 1048576: true; the input reads as it did. -/
def overAppliesUptoRow : OpenClaim := { program := "ytphgbfemigcalaa", sum := "0bc26b86ac6ba1f5a18ea39ac6b4c826a76f6124334ce8a5395713b751a0e517", func := "remuda/remudalaw16.OverApplies", spec := "overApplies", unfollowed := true, recurses := true, apart := false, narrowed := true }
def OverAppliesUptoSaid : Prop := overAppliesUptoRow.holds Try.pinned (OpenSpec.upto overAppliesSpec)

/-- 'remudalaw16.OverLater', WHERE WHAT IT READS IS OF BULK AT MOST 1048576: true; the input reads as it did. -/
def overLaterUptoRow : OpenClaim := { program := "ytphgbfemigcalaa", sum := "0bc26b86ac6ba1f5a18ea39ac6b4c826a76f6124334ce8a5395713b751a0e517", func := "remuda/remudalaw16.OverLater", spec := "overLater", unfollowed := true, recurses := true, apart := false, narrowed := true }
def OverLaterUptoSaid : Prop := overLaterUptoRow.holds Try.pinned (OpenSpec.upto overLaterSpec)

/-- 'remudalaw16.OverNobody', WHERE WHAT IT READS IS OF BULK AT MOST 1048576: true; the input reads as it did. -/
def overNobodyUptoRow : OpenClaim := { program := "ytphgbfemigcalaa", sum := "0bc26b86ac6ba1f5a18ea39ac6b4c826a76f6124334ce8a5395713b751a0e517", func := "remuda/remudalaw16.OverNobody", spec := "overNobody", unfollowed := true, recurses := true, apart := false, narrowed := true }
def OverNobodyUptoSaid : Prop := overNobodyUptoRow.holds Try.pinned (OpenSpec.upto overNobodySpec)

end Rows
end Go.Proofs.Ytphgbfemigcalaa
