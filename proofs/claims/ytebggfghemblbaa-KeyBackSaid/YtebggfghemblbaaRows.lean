/-
  No cell of these rows narrows 'for every input' (looked for: loops, veiled, ifaces, maps, wideKeys, modest, calm, conditions, laid).
  DERIVED. THE GIVEN ROWS OF THIS SEAT. 6 by the template 'for every input the law returns true; each argument reads behind the call as it read before'; 0 by the template 'total and deterministic' (their statements: YtebggfghemblbaaTotals.lean).
  GIVEN WITH THE SEED: the statements are not yours to turn. If you find one false, say at which input.
  Laid BY PROGRAM, IN A SANDBOX (cutbox-rows.mjs): the forced cells as the released guide's own fill.sh prints them over the translation 640ff58ee814117e… (all of the seat's roots in one cut). By AI agents, Wed Nov 11 2026. No macro, syntax, notation, axiom, sorry.
-/
import Derived.Test.YtebggfghemblbaaChecked
import GoSem.Claim
import GoSem.ClaimJoined
import GoSem.ClaimMapViews
import Derived.JoinedTies
import Derived.KernelRfl
namespace Go.Proofs.Ytebggfghemblbaa
/- THE CELL 'sum', in the pinned program and in every row, IS THE sha256 OF THE DUMP (.gsa) THAT YtebggfghemblbaaProg.lean LOADS. Nothing in Lean hashes anything: it is a label: what it is worth is what the hold of that sum in a sandbox is worth. -/
noncomputable def Try.pinned : Pinned := { name := "ytebggfghemblbaa", sum := "640ff58ee814117e2960a0861d2860c76007b7452de17d4a46b476925970c76f", checked := Try.checked }
namespace Rows
def none {H : Type} : Left H := { results := [], args := [] }

/-- 'remudalaw10.ColsTell': WHATEVER THE INPUT: true; the input reads as it did. -/
def colsTellSpec : ChangeSpec := { name := "colsTell", fn := fun _ => fun
  | [d1, d2] => { results := [.lit (.bool true)], args := [d1, d2] }
  | _ => none }
def colsTellRow : OpenClaim := { program := "ytebggfghemblbaa", sum := "640ff58ee814117e2960a0861d2860c76007b7452de17d4a46b476925970c76f", func := "remuda/remudalaw10.ColsTell", spec := "colsTell", unfollowed := true, recurses := true, apart := false }
def ColsTellSaid : Prop := colsTellRow.holds Try.pinned (OpenSpec.ofChange colsTellSpec)

/-- ITS FALSE NEIGHBOUR: 'it returns false'. Refute it at one input. -/
def colsTellWrong : ChangeSpec := { name := "colsTell", fn := fun _ => fun
  | [d1, d2] => { results := [.lit (.bool false)], args := [d1, d2] }
  | _ => none }
def ColsTellWrongFalsely : Prop := colsTellRow.holds Try.pinned (OpenSpec.ofChange colsTellWrong)

/-- 'remudalaw10.ColsMay': WHATEVER THE INPUT: true; the input reads as it did. -/
def colsMaySpec : ChangeSpec := { name := "colsMay", fn := fun _ => fun
  | [d] => { results := [.lit (.bool true)], args := [d] }
  | _ => none }
def colsMayRow : OpenClaim := { program := "ytebggfghemblbaa", sum := "640ff58ee814117e2960a0861d2860c76007b7452de17d4a46b476925970c76f", func := "remuda/remudalaw10.ColsMay", spec := "colsMay", inPlace := ["internal/bytealg.IndexByteString"], unfollowed := true, recurses := true, apart := false }
def ColsMaySaid : Prop := colsMayRow.holds Try.pinned (OpenSpec.ofChange colsMaySpec)

/-- ITS FALSE NEIGHBOUR: 'it returns false'. Refute it at one input. -/
def colsMayWrong : ChangeSpec := { name := "colsMay", fn := fun _ => fun
  | [d] => { results := [.lit (.bool false)], args := [d] }
  | _ => none }
def ColsMayWrongFalsely : Prop := colsMayRow.holds Try.pinned (OpenSpec.ofChange colsMayWrong)

/-- 'remudalaw11.GreetTells': WHATEVER THE INPUT: true; the input reads as it did. -/
def greetTellsSpec : ChangeSpec := { name := "greetTells", fn := fun _ => fun
  | [d1, d2] => { results := [.lit (.bool true)], args := [d1, d2] }
  | _ => none }
def greetTellsRow : OpenClaim := { program := "ytebggfghemblbaa", sum := "640ff58ee814117e2960a0861d2860c76007b7452de17d4a46b476925970c76f", func := "remuda/remudalaw11.GreetTells", spec := "greetTells", inPlace := ["internal/bytealg.IndexByteString"], unfollowed := true, recurses := true, apart := false }
def GreetTellsSaid : Prop := greetTellsRow.holds Try.pinned (OpenSpec.ofChange greetTellsSpec)

/-- ITS FALSE NEIGHBOUR: 'it returns false'. Refute it at one input. -/
def greetTellsWrong : ChangeSpec := { name := "greetTells", fn := fun _ => fun
  | [d1, d2] => { results := [.lit (.bool false)], args := [d1, d2] }
  | _ => none }
def GreetTellsWrongFalsely : Prop := greetTellsRow.holds Try.pinned (OpenSpec.ofChange greetTellsWrong)

/-- 'remudalaw11.GreetEnds': WHATEVER THE INPUT: true; the input reads as it did. -/
def greetEndsSpec : ChangeSpec := { name := "greetEnds", fn := fun _ => fun
  | [d1, d2] => { results := [.lit (.bool true)], args := [d1, d2] }
  | _ => none }
def greetEndsRow : OpenClaim := { program := "ytebggfghemblbaa", sum := "640ff58ee814117e2960a0861d2860c76007b7452de17d4a46b476925970c76f", func := "remuda/remudalaw11.GreetEnds", spec := "greetEnds", inPlace := ["internal/bytealg.IndexByteString"], unfollowed := true, recurses := true, apart := false }
def GreetEndsSaid : Prop := greetEndsRow.holds Try.pinned (OpenSpec.ofChange greetEndsSpec)

/-- ITS FALSE NEIGHBOUR: 'it returns false'. Refute it at one input. -/
def greetEndsWrong : ChangeSpec := { name := "greetEnds", fn := fun _ => fun
  | [d1, d2] => { results := [.lit (.bool false)], args := [d1, d2] }
  | _ => none }
def GreetEndsWrongFalsely : Prop := greetEndsRow.holds Try.pinned (OpenSpec.ofChange greetEndsWrong)

/-- 'remudalaw12.KeyTells': WHATEVER THE INPUT: true; the input reads as it did. -/
def keyTellsSpec : ChangeSpec := { name := "keyTells", fn := fun _ => fun
  | [d1, d2, d3] => { results := [.lit (.bool true)], args := [d1, d2, d3] }
  | _ => none }
def keyTellsRow : OpenClaim := { program := "ytebggfghemblbaa", sum := "640ff58ee814117e2960a0861d2860c76007b7452de17d4a46b476925970c76f", func := "remuda/remudalaw12.KeyTells", spec := "keyTells", unfollowed := true, recurses := true, apart := false }
def KeyTellsSaid : Prop := keyTellsRow.holds Try.pinned (OpenSpec.ofChange keyTellsSpec)

/-- ITS FALSE NEIGHBOUR: 'it returns false'. Refute it at one input. -/
def keyTellsWrong : ChangeSpec := { name := "keyTells", fn := fun _ => fun
  | [d1, d2, d3] => { results := [.lit (.bool false)], args := [d1, d2, d3] }
  | _ => none }
def KeyTellsWrongFalsely : Prop := keyTellsRow.holds Try.pinned (OpenSpec.ofChange keyTellsWrong)

/-- 'remudalaw12.KeyBack': WHATEVER THE INPUT: true; the input reads as it did. -/
def keyBackSpec : ChangeSpec := { name := "keyBack", fn := fun _ => fun
  | [d1, d2] => { results := [.lit (.bool true)], args := [d1, d2] }
  | _ => none }
def keyBackRow : OpenClaim := { program := "ytebggfghemblbaa", sum := "640ff58ee814117e2960a0861d2860c76007b7452de17d4a46b476925970c76f", func := "remuda/remudalaw12.KeyBack", spec := "keyBack", unfollowed := true, recurses := true, apart := false }
def KeyBackSaid : Prop := keyBackRow.holds Try.pinned (OpenSpec.ofChange keyBackSpec)

/-- ITS FALSE NEIGHBOUR: 'it returns false'. Refute it at one input. -/
def keyBackWrong : ChangeSpec := { name := "keyBack", fn := fun _ => fun
  | [d1, d2] => { results := [.lit (.bool false)], args := [d1, d2] }
  | _ => none }
def KeyBackWrongFalsely : Prop := keyBackRow.holds Try.pinned (OpenSpec.ofChange keyBackWrong)

/- THE SECOND FORM. 'bulk': how many values and letters a reading holds, each counted each time it is reached (what is shared counts as often as it is met; a slice's spare places count too). A statement '..UptoSaid' is the law's where the arguments, and the package variables that the reading takes, are together of bulk at most 1048576: NARROWER than '..Said'. Prove '..Said' where nothing that the law and all that it calls make is longer than what came in: it says more and counts as full. Else prove '..UptoSaid'. A law counts once. -/
mutual
def uptoBulk {H : Type} : DataW H → Nat
  | .lit (.string bytes) => bytes.length + 1
  | .lit _ => 1
  | .nil => 1
  | .ptr d => uptoBulk d + 1
  | .slice elems spare => uptoBulkAll elems + uptoBulkAll spare + 1
  | .agg parts => uptoBulkAll parts + 1
  | .iface _ d => uptoBulk d + 1
  | .map entries => uptoBulkEntries entries + 1
  | .held _ => 1
def uptoBulkAll {H : Type} : List (DataW H) → Nat
  | [] => 0
  | d :: r => uptoBulk d + uptoBulkAll r
def uptoBulkEntries {H : Type} : List (Lit × DataW H) → Nat
  | [] => 0
  | x :: r => uptoBulkEntry x + uptoBulkEntries r
def uptoBulkEntry {H : Type} : Lit × DataW H → Nat
  | (.string bytes, d) => bytes.length + uptoBulk d + 1
  | (_, d) => uptoBulk d + 1
 end
def uptoSmall : (H : Type) → List (DataW H) → Bool := fun _ ds => decide (uptoBulkAll ds ≤ 1048576)
def OpenSpec.upto (s : _root_.Go.ChangeSpec) : _root_.Go.OpenSpec := { _root_.Go.OpenSpec.ofChange s with cond := some uptoSmall }

/-- 'remudalaw10.ColsTell', WHERE WHAT IT READS IS OF BULK AT MOST 1048576: true; the input reads as it did. -/
def colsTellUptoRow : OpenClaim := { program := "ytebggfghemblbaa", sum := "640ff58ee814117e2960a0861d2860c76007b7452de17d4a46b476925970c76f", func := "remuda/remudalaw10.ColsTell", spec := "colsTell", unfollowed := true, recurses := true, apart := false, narrowed := true }
def ColsTellUptoSaid : Prop := colsTellUptoRow.holds Try.pinned (OpenSpec.upto colsTellSpec)

/-- 'remudalaw10.ColsMay', WHERE WHAT IT READS IS OF BULK AT MOST 1048576: true; the input reads as it did. -/
def colsMayUptoRow : OpenClaim := { program := "ytebggfghemblbaa", sum := "640ff58ee814117e2960a0861d2860c76007b7452de17d4a46b476925970c76f", func := "remuda/remudalaw10.ColsMay", spec := "colsMay", inPlace := ["internal/bytealg.IndexByteString"], unfollowed := true, recurses := true, apart := false, narrowed := true }
def ColsMayUptoSaid : Prop := colsMayUptoRow.holds Try.pinned (OpenSpec.upto colsMaySpec)

/-- 'remudalaw11.GreetTells', WHERE WHAT IT READS IS OF BULK AT MOST 1048576: true; the input reads as it did. -/
def greetTellsUptoRow : OpenClaim := { program := "ytebggfghemblbaa", sum := "640ff58ee814117e2960a0861d2860c76007b7452de17d4a46b476925970c76f", func := "remuda/remudalaw11.GreetTells", spec := "greetTells", inPlace := ["internal/bytealg.IndexByteString"], unfollowed := true, recurses := true, apart := false, narrowed := true }
def GreetTellsUptoSaid : Prop := greetTellsUptoRow.holds Try.pinned (OpenSpec.upto greetTellsSpec)

/-- 'remudalaw11.GreetEnds', WHERE WHAT IT READS IS OF BULK AT MOST 1048576: true; the input reads as it did. -/
def greetEndsUptoRow : OpenClaim := { program := "ytebggfghemblbaa", sum := "640ff58ee814117e2960a0861d2860c76007b7452de17d4a46b476925970c76f", func := "remuda/remudalaw11.GreetEnds", spec := "greetEnds", inPlace := ["internal/bytealg.IndexByteString"], unfollowed := true, recurses := true, apart := false, narrowed := true }
def GreetEndsUptoSaid : Prop := greetEndsUptoRow.holds Try.pinned (OpenSpec.upto greetEndsSpec)

/-- 'remudalaw12.KeyTells', WHERE WHAT IT READS IS OF BULK AT MOST 1048576: true; the input reads as it did. -/
def keyTellsUptoRow : OpenClaim := { program := "ytebggfghemblbaa", sum := "640ff58ee814117e2960a0861d2860c76007b7452de17d4a46b476925970c76f", func := "remuda/remudalaw12.KeyTells", spec := "keyTells", unfollowed := true, recurses := true, apart := false, narrowed := true }
def KeyTellsUptoSaid : Prop := keyTellsUptoRow.holds Try.pinned (OpenSpec.upto keyTellsSpec)

/-- 'remudalaw12.KeyBack', WHERE WHAT IT READS IS OF BULK AT MOST 1048576: true; the input reads as it did. -/
def keyBackUptoRow : OpenClaim := { program := "ytebggfghemblbaa", sum := "640ff58ee814117e2960a0861d2860c76007b7452de17d4a46b476925970c76f", func := "remuda/remudalaw12.KeyBack", spec := "keyBack", unfollowed := true, recurses := true, apart := false, narrowed := true }
def KeyBackUptoSaid : Prop := keyBackUptoRow.holds Try.pinned (OpenSpec.upto keyBackSpec)

end Rows
end Go.Proofs.Ytebggfghemblbaa
