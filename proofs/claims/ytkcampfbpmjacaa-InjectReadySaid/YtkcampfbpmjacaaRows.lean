/-
  No cell of these rows narrows 'for every input' (looked for: loops, veiled, ifaces, maps, wideKeys, modest, calm, conditions, laid).
  DERIVED. THE GIVEN ROWS OF THIS SEAT. 4 by the template 'for every input the law returns true; each argument reads behind the call as it read before'; 0 by the template 'total and deterministic' (their statements: YtkcampfbpmjacaaTotals.lean).
  GIVEN WITH THE SEED: the statements are not yours to turn. If you find one false, say at which input.
  Laid BY PROGRAM, IN A SANDBOX (cutbox-rows.mjs): the forced cells as the released guide's own fill.sh prints them over the translation 2314874c290a924d… (all of the seat's roots in one cut). By AI agents, Wed Nov 11 2026. No macro, syntax, notation, axiom, sorry.
-/
import Derived.Test.YtkcampfbpmjacaaChecked
import GoSem.Claim
import GoSem.ClaimJoined
import GoSem.ClaimMapViews
import Derived.JoinedTies
import Derived.KernelRfl
namespace Go.Proofs.Ytkcampfbpmjacaa
/- THE CELL 'sum', in the pinned program and in every row, IS THE sha256 OF THE DUMP (.gsa) THAT YtkcampfbpmjacaaProg.lean LOADS. Nothing in Lean hashes anything: it is a label: what it is worth is what the hold of that sum in a sandbox is worth. -/
noncomputable def Try.pinned : Pinned := { name := "ytkcampfbpmjacaa", sum := "2314874c290a924d1795e5f019cd83ce5e72faa1319534341afabce1b5e10a6d", checked := Try.checked }
namespace Rows
def none {H : Type} : Left H := { results := [], args := [] }

/-- 'remudalaw19.InjectTells': WHATEVER THE INPUT: true; the input reads as it did. -/
def injectTellsSpec : ChangeSpec := { name := "injectTells", fn := fun _ => fun
  | [d1, d2, d3, d4, d5] => { results := [.lit (.bool true)], args := [d1, d2, d3, d4, d5] }
  | _ => none }
def injectTellsRow : OpenClaim := { program := "ytkcampfbpmjacaa", sum := "2314874c290a924d1795e5f019cd83ce5e72faa1319534341afabce1b5e10a6d", func := "remuda/remudalaw19.InjectTells", spec := "injectTells", unfollowed := true, recurses := true, apart := false }
def InjectTellsSaid : Prop := injectTellsRow.holds Try.pinned (OpenSpec.ofChange injectTellsSpec)

/-- ITS FALSE NEIGHBOUR: 'it returns false'. Refute it at one input. -/
def injectTellsWrong : ChangeSpec := { name := "injectTells", fn := fun _ => fun
  | [d1, d2, d3, d4, d5] => { results := [.lit (.bool false)], args := [d1, d2, d3, d4, d5] }
  | _ => none }
def InjectTellsWrongFalsely : Prop := injectTellsRow.holds Try.pinned (OpenSpec.ofChange injectTellsWrong)

/-- 'remudalaw19.InjectReady': WHATEVER THE INPUT: true; the input reads as it did. -/
def injectReadySpec : ChangeSpec := { name := "injectReady", fn := fun _ => fun
  | [d1, d2, d3, d4] => { results := [.lit (.bool true)], args := [d1, d2, d3, d4] }
  | _ => none }
def injectReadyRow : OpenClaim := { program := "ytkcampfbpmjacaa", sum := "2314874c290a924d1795e5f019cd83ce5e72faa1319534341afabce1b5e10a6d", func := "remuda/remudalaw19.InjectReady", spec := "injectReady", inPlace := ["internal/bytealg.IndexByteString"], unfollowed := true, recurses := true, apart := false }
def InjectReadySaid : Prop := injectReadyRow.holds Try.pinned (OpenSpec.ofChange injectReadySpec)

/-- ITS FALSE NEIGHBOUR: 'it returns false'. Refute it at one input. -/
def injectReadyWrong : ChangeSpec := { name := "injectReady", fn := fun _ => fun
  | [d1, d2, d3, d4] => { results := [.lit (.bool false)], args := [d1, d2, d3, d4] }
  | _ => none }
def InjectReadyWrongFalsely : Prop := injectReadyRow.holds Try.pinned (OpenSpec.ofChange injectReadyWrong)

/-- 'remudalaw20.EntryTells': WHATEVER THE INPUT: true; the input reads as it did. -/
def entryTellsSpec : ChangeSpec := { name := "entryTells", fn := fun _ => fun
  | [d1, d2, d3] => { results := [.lit (.bool true)], args := [d1, d2, d3] }
  | _ => none }
def entryTellsRow : OpenClaim := { program := "ytkcampfbpmjacaa", sum := "2314874c290a924d1795e5f019cd83ce5e72faa1319534341afabce1b5e10a6d", func := "remuda/remudalaw20.EntryTells", spec := "entryTells", inPlace := ["internal/bytealg.IndexByteString"], apart := false }
def EntryTellsSaid : Prop := entryTellsRow.holds Try.pinned (OpenSpec.ofChange entryTellsSpec)

/-- ITS FALSE NEIGHBOUR: 'it returns false'. Refute it at one input. -/
def entryTellsWrong : ChangeSpec := { name := "entryTells", fn := fun _ => fun
  | [d1, d2, d3] => { results := [.lit (.bool false)], args := [d1, d2, d3] }
  | _ => none }
def EntryTellsWrongFalsely : Prop := entryTellsRow.holds Try.pinned (OpenSpec.ofChange entryTellsWrong)

/-- 'remudalaw20.EntryOnce': WHATEVER THE INPUT: true; the input reads as it did. -/
def entryOnceSpec : ChangeSpec := { name := "entryOnce", fn := fun _ => fun
  | [d1, d2] => { results := [.lit (.bool true)], args := [d1, d2] }
  | _ => none }
def entryOnceRow : OpenClaim := { program := "ytkcampfbpmjacaa", sum := "2314874c290a924d1795e5f019cd83ce5e72faa1319534341afabce1b5e10a6d", func := "remuda/remudalaw20.EntryOnce", spec := "entryOnce", inPlace := ["internal/bytealg.IndexByteString"], apart := false }
def EntryOnceSaid : Prop := entryOnceRow.holds Try.pinned (OpenSpec.ofChange entryOnceSpec)

/-- ITS FALSE NEIGHBOUR: 'it returns false'. Refute it at one input. -/
def entryOnceWrong : ChangeSpec := { name := "entryOnce", fn := fun _ => fun
  | [d1, d2] => { results := [.lit (.bool false)], args := [d1, d2] }
  | _ => none }
def EntryOnceWrongFalsely : Prop := entryOnceRow.holds Try.pinned (OpenSpec.ofChange entryOnceWrong)

/- THE SECOND FORM. 'bulk': how many values and letters a reading holds, each counted each time it is reached (what is shared counts as often as it is met; a slice's spare places count too). A statement '..UptoSaid' is the law's where the arguments, and the package variables that the reading takes, are together of bulk at most 1048576: NARROWER than '..Said'. Prove '..Said' where nothing that the law and all that it calls make is longer than what came in: it says more and counts as full. Else prove '..UptoSaid'. A law counts once. -/
mutual
def uptoBulk {H : Type} : DataW H → Nat
  | .lit (.string bytes) => bytes.length + 1
  | .lit _ => 1
  | .nil => 1
  | .ptr d => uptoBulk d + 1
  | .slice elems spare => uptoBulkAll elems + uptoBulkAll spare + 1
  | .agg parts => uptoBulkAll parts + 1
  | .iface _ d => uptoBulk d + 1
  | .map entries => uptoBulkEntries entries + 1
  | .held _ => 1
def uptoBulkAll {H : Type} : List (DataW H) → Nat
  | [] => 0
  | d :: r => uptoBulk d + uptoBulkAll r
def uptoBulkEntries {H : Type} : List (Lit × DataW H) → Nat
  | [] => 0
  | x :: r => uptoBulkEntry x + uptoBulkEntries r
def uptoBulkEntry {H : Type} : Lit × DataW H → Nat
  | (.string bytes, d) => bytes.length + uptoBulk d + 1
  | (_, d) => uptoBulk d + 1
 end
def uptoSmall : (H : Type) → List (DataW H) → Bool := fun _ ds => decide (uptoBulkAll ds ≤ 1048576)
def OpenSpec.upto (s : _root_.Go.ChangeSpec) : _root_.Go.OpenSpec := { _root_.Go.OpenSpec.ofChange s with cond := some uptoSmall }

/-- 'remudalaw19.InjectTells', WHERE WHAT IT READS IS OF BULK AT MOST 1048576: true; the input reads as it did. -/
def injectTellsUptoRow : OpenClaim := { program := "ytkcampfbpmjacaa", sum := "2314874c290a924d1795e5f019cd83ce5e72faa1319534341afabce1b5e10a6d", func := "remuda/remudalaw19.InjectTells", spec := "injectTells", unfollowed := true, recurses := true, apart := false, narrowed := true }
def InjectTellsUptoSaid : Prop := injectTellsUptoRow.holds Try.pinned (OpenSpec.upto injectTellsSpec)

/-- 'remudalaw19.InjectReady', WHERE WHAT IT READS IS OF BULK AT MOST 1048576: true; the input reads as it did. -/
def injectReadyUptoRow : OpenClaim := { program := "ytkcampfbpmjacaa", sum := "2314874c290a924d1795e5f019cd83ce5e72faa1319534341afabce1b5e10a6d", func := "remuda/remudalaw19.InjectReady", spec := "injectReady", inPlace := ["internal/bytealg.IndexByteString"], unfollowed := true, recurses := true, apart := false, narrowed := true }
def InjectReadyUptoSaid : Prop := injectReadyUptoRow.holds Try.pinned (OpenSpec.upto injectReadySpec)

/-- 'remudalaw20.EntryTells', WHERE WHAT IT READS IS OF BULK AT MOST 1048576: true; the input reads as it did. -/
def entryTellsUptoRow : OpenClaim := { program := "ytkcampfbpmjacaa", sum := "2314874c290a924d1795e5f019cd83ce5e72faa1319534341afabce1b5e10a6d", func := "remuda/remudalaw20.EntryTells", spec := "entryTells", inPlace := ["internal/bytealg.IndexByteString"], apart := false, narrowed := true }
def EntryTellsUptoSaid : Prop := entryTellsUptoRow.holds Try.pinned (OpenSpec.upto entryTellsSpec)

/-- 'remudalaw20.EntryOnce', WHERE WHAT IT READS IS OF BULK AT MOST 1048576: true; the input reads as it did. -/
def entryOnceUptoRow : OpenClaim := { program := "ytkcampfbpmjacaa", sum := "2314874c290a924d1795e5f019cd83ce5e72faa1319534341afabce1b5e10a6d", func := "remuda/remudalaw20.EntryOnce", spec := "entryOnce", inPlace := ["internal/bytealg.IndexByteString"], apart := false, narrowed := true }
def EntryOnceUptoSaid : Prop := entryOnceUptoRow.holds Try.pinned (OpenSpec.upto entryOnceSpec)

end Rows
end Go.Proofs.Ytkcampfbpmjacaa
