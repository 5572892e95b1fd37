/-
  No cell of these rows narrows 'for every input' (looked for: loops, veiled, ifaces, maps, wideKeys, modest, calm, conditions, laid).
  DERIVED. THE GIVEN ROWS OF THIS SEAT. 8 by the template 'for every input the law returns true; each argument reads behind the call as it read before'; 0 by the template 'total and deterministic' (their statements: YtpogpofmakcodaaTotals.lean).
  GIVEN WITH THE SEED: the statements are not yours to turn. If you find one false, say at which input.
  Laid BY PROGRAM, IN A SANDBOX (cutbox-rows.mjs): the forced cells as the released guide's own fill.sh prints them over the translation 4bc80b6530db8078… (all of the seat's roots in one cut). By AI agents, Wed Nov 11 2026. No macro, syntax, notation, axiom, sorry.
-/
import Derived.Test.YtpogpofmakcodaaChecked
import GoSem.Claim
import GoSem.ClaimJoined
import GoSem.ClaimMapViews
import Derived.JoinedTies
import Derived.KernelRfl
namespace Go.Proofs.Ytpogpofmakcodaa
/- THE CELL 'sum', in the pinned program and in every row, IS THE sha256 OF THE DUMP (.gsa) THAT YtpogpofmakcodaaProg.lean LOADS. Nothing in Lean hashes anything: it is a label: what it is worth is what the hold of that sum in a sandbox is worth. -/
noncomputable def Try.pinned : Pinned := { name := "ytpogpofmakcodaa", sum := "4bc80b6530db8078fa1f58bc373a7cec210b1de4d38b101ce3c1b0c17cea9fd6", checked := Try.checked }
namespace Rows
def none {H : Type} : Left H := { results := [], args := [] }

/-- 'remudalaw21.QueueLives': WHATEVER THE INPUT: true; the input reads as it did. -/
def queueLivesSpec : ChangeSpec := { name := "queueLives", fn := fun _ => fun
  | [d1, d2] => { results := [.lit (.bool true)], args := [d1, d2] }
  | _ => none }
def queueLivesRow : OpenClaim := { program := "ytpogpofmakcodaa", sum := "4bc80b6530db8078fa1f58bc373a7cec210b1de4d38b101ce3c1b0c17cea9fd6", func := "remuda/remudalaw21.QueueLives", spec := "queueLives", unfollowed := true, recurses := true, apart := false }
def QueueLivesSaid : Prop := queueLivesRow.holds Try.pinned (OpenSpec.ofChange queueLivesSpec)

/-- ITS FALSE NEIGHBOUR: 'it returns false'. Refute it at one input. -/
def queueLivesWrong : ChangeSpec := { name := "queueLives", fn := fun _ => fun
  | [d1, d2] => { results := [.lit (.bool false)], args := [d1, d2] }
  | _ => none }
def QueueLivesWrongFalsely : Prop := queueLivesRow.holds Try.pinned (OpenSpec.ofChange queueLivesWrong)

/-- 'remudalaw21.QueueOrder': WHATEVER THE INPUT: true; the input reads as it did. -/
def queueOrderSpec : ChangeSpec := { name := "queueOrder", fn := fun _ => fun
  | [d1, d2] => { results := [.lit (.bool true)], args := [d1, d2] }
  | _ => none }
def queueOrderRow : OpenClaim := { program := "ytpogpofmakcodaa", sum := "4bc80b6530db8078fa1f58bc373a7cec210b1de4d38b101ce3c1b0c17cea9fd6", func := "remuda/remudalaw21.QueueOrder", spec := "queueOrder", unfollowed := true, recurses := true, apart := false }
def QueueOrderSaid : Prop := queueOrderRow.holds Try.pinned (OpenSpec.ofChange queueOrderSpec)

/-- ITS FALSE NEIGHBOUR: 'it returns false'. Refute it at one input. -/
def queueOrderWrong : ChangeSpec := { name := "queueOrder", fn := fun _ => fun
  | [d1, d2] => { results := [.lit (.bool false)], args := [d1, d2] }
  | _ => none }
def QueueOrderWrongFalsely : Prop := queueOrderRow.holds Try.pinned (OpenSpec.ofChange queueOrderWrong)

/-- 'remudalaw21.QueueSame': WHATEVER THE INPUT: true; the input reads as it did. -/
def queueSameSpec : ChangeSpec := { name := "queueSame", fn := fun _ => fun
  | [d1, d2] => { results := [.lit (.bool true)], args := [d1, d2] }
  | _ => none }
def queueSameRow : OpenClaim := { program := "ytpogpofmakcodaa", sum := "4bc80b6530db8078fa1f58bc373a7cec210b1de4d38b101ce3c1b0c17cea9fd6", func := "remuda/remudalaw21.QueueSame", spec := "queueSame", unfollowed := true, recurses := true, apart := false }
def QueueSameSaid : Prop := queueSameRow.holds Try.pinned (OpenSpec.ofChange queueSameSpec)

/-- ITS FALSE NEIGHBOUR: 'it returns false'. Refute it at one input. -/
def queueSameWrong : ChangeSpec := { name := "queueSame", fn := fun _ => fun
  | [d1, d2] => { results := [.lit (.bool false)], args := [d1, d2] }
  | _ => none }
def QueueSameWrongFalsely : Prop := queueSameRow.holds Try.pinned (OpenSpec.ofChange queueSameWrong)

/-- 'remudalaw21.QueueNobody': WHATEVER THE INPUT: true; the input reads as it did. -/
def queueNobodySpec : ChangeSpec := { name := "queueNobody", fn := fun _ => fun
  | [d] => { results := [.lit (.bool true)], args := [d] }
  | _ => none }
def queueNobodyRow : OpenClaim := { program := "ytpogpofmakcodaa", sum := "4bc80b6530db8078fa1f58bc373a7cec210b1de4d38b101ce3c1b0c17cea9fd6", func := "remuda/remudalaw21.QueueNobody", spec := "queueNobody", unfollowed := true, recurses := true, apart := false }
def QueueNobodySaid : Prop := queueNobodyRow.holds Try.pinned (OpenSpec.ofChange queueNobodySpec)

/-- ITS FALSE NEIGHBOUR: 'it returns false'. Refute it at one input. -/
def queueNobodyWrong : ChangeSpec := { name := "queueNobody", fn := fun _ => fun
  | [d] => { results := [.lit (.bool false)], args := [d] }
  | _ => none }
def QueueNobodyWrongFalsely : Prop := queueNobodyRow.holds Try.pinned (OpenSpec.ofChange queueNobodyWrong)

/-- 'remudalaw22.MatchGets': WHATEVER THE INPUT: true; the input reads as it did. -/
def matchGetsSpec : ChangeSpec := { name := "matchGets", fn := fun _ => fun
  | [d1, d2] => { results := [.lit (.bool true)], args := [d1, d2] }
  | _ => none }
def matchGetsRow : OpenClaim := { program := "ytpogpofmakcodaa", sum := "4bc80b6530db8078fa1f58bc373a7cec210b1de4d38b101ce3c1b0c17cea9fd6", func := "remuda/remudalaw22.MatchGets", spec := "matchGets", inPlace := ["internal/bytealg.IndexByteString"], unfollowed := true, recurses := true, apart := false }
def MatchGetsSaid : Prop := matchGetsRow.holds Try.pinned (OpenSpec.ofChange matchGetsSpec)

/-- ITS FALSE NEIGHBOUR: 'it returns false'. Refute it at one input. -/
def matchGetsWrong : ChangeSpec := { name := "matchGets", fn := fun _ => fun
  | [d1, d2] => { results := [.lit (.bool false)], args := [d1, d2] }
  | _ => none }
def MatchGetsWrongFalsely : Prop := matchGetsRow.holds Try.pinned (OpenSpec.ofChange matchGetsWrong)

/-- 'remudalaw22.MatchOnce': WHATEVER THE INPUT: true; the input reads as it did. -/
def matchOnceSpec : ChangeSpec := { name := "matchOnce", fn := fun _ => fun
  | [d1, d2] => { results := [.lit (.bool true)], args := [d1, d2] }
  | _ => none }
def matchOnceRow : OpenClaim := { program := "ytpogpofmakcodaa", sum := "4bc80b6530db8078fa1f58bc373a7cec210b1de4d38b101ce3c1b0c17cea9fd6", func := "remuda/remudalaw22.MatchOnce", spec := "matchOnce", inPlace := ["internal/bytealg.IndexByteString"], unfollowed := true, recurses := true, apart := false }
def MatchOnceSaid : Prop := matchOnceRow.holds Try.pinned (OpenSpec.ofChange matchOnceSpec)

/-- ITS FALSE NEIGHBOUR: 'it returns false'. Refute it at one input. -/
def matchOnceWrong : ChangeSpec := { name := "matchOnce", fn := fun _ => fun
  | [d1, d2] => { results := [.lit (.bool false)], args := [d1, d2] }
  | _ => none }
def MatchOnceWrongFalsely : Prop := matchOnceRow.holds Try.pinned (OpenSpec.ofChange matchOnceWrong)

/-- 'remudalaw22.MatchInstead': WHATEVER THE INPUT: true; the input reads as it did. -/
def matchInsteadSpec : ChangeSpec := { name := "matchInstead", fn := fun _ => fun
  | [d] => { results := [.lit (.bool true)], args := [d] }
  | _ => none }
def matchInsteadRow : OpenClaim := { program := "ytpogpofmakcodaa", sum := "4bc80b6530db8078fa1f58bc373a7cec210b1de4d38b101ce3c1b0c17cea9fd6", func := "remuda/remudalaw22.MatchInstead", spec := "matchInstead", inPlace := ["internal/bytealg.IndexByteString"], unfollowed := true, recurses := true, apart := false }
def MatchInsteadSaid : Prop := matchInsteadRow.holds Try.pinned (OpenSpec.ofChange matchInsteadSpec)

/-- ITS FALSE NEIGHBOUR: 'it returns false'. Refute it at one input. -/
def matchInsteadWrong : ChangeSpec := { name := "matchInstead", fn := fun _ => fun
  | [d] => { results := [.lit (.bool false)], args := [d] }
  | _ => none }
def MatchInsteadWrongFalsely : Prop := matchInsteadRow.holds Try.pinned (OpenSpec.ofChange matchInsteadWrong)

/-- 'remudalaw22.MatchStrange': WHATEVER THE INPUT: true; the input reads as it did. -/
def matchStrangeSpec : ChangeSpec := { name := "matchStrange", fn := fun _ => fun
  | [d1, d2] => { results := [.lit (.bool true)], args := [d1, d2] }
  | _ => none }
def matchStrangeRow : OpenClaim := { program := "ytpogpofmakcodaa", sum := "4bc80b6530db8078fa1f58bc373a7cec210b1de4d38b101ce3c1b0c17cea9fd6", func := "remuda/remudalaw22.MatchStrange", spec := "matchStrange", inPlace := ["internal/bytealg.IndexByteString"], unfollowed := true, recurses := true, apart := false }
def MatchStrangeSaid : Prop := matchStrangeRow.holds Try.pinned (OpenSpec.ofChange matchStrangeSpec)

/-- ITS FALSE NEIGHBOUR: 'it returns false'. Refute it at one input. -/
def matchStrangeWrong : ChangeSpec := { name := "matchStrange", fn := fun _ => fun
  | [d1, d2] => { results := [.lit (.bool false)], args := [d1, d2] }
  | _ => none }
def MatchStrangeWrongFalsely : Prop := matchStrangeRow.holds Try.pinned (OpenSpec.ofChange matchStrangeWrong)

/- THE SECOND FORM. 'bulk': how many values and letters a reading holds, each counted each time it is reached (what is shared counts as often as it is met; a slice's spare places count too). A statement '..UptoSaid' is the law's where the arguments, and the package variables that the reading takes, are together of bulk at most 1048576: NARROWER than '..Said'. Prove '..Said' where nothing that the law and all that it calls make is longer than what came in: it says more and counts as full. Else prove '..UptoSaid'. A law counts once. -/
mutual
def uptoBulk {H : Type} : DataW H → Nat
  | .lit (.string bytes) => bytes.length + 1
  | .lit _ => 1
  | .nil => 1
  | .ptr d => uptoBulk d + 1
  | .slice elems spare => uptoBulkAll elems + uptoBulkAll spare + 1
  | .agg parts => uptoBulkAll parts + 1
  | .iface _ d => uptoBulk d + 1
  | .map entries => uptoBulkEntries entries + 1
  | .held _ => 1
def uptoBulkAll {H : Type} : List (DataW H) → Nat
  | [] => 0
  | d :: r => uptoBulk d + uptoBulkAll r
def uptoBulkEntries {H : Type} : List (Lit × DataW H) → Nat
  | [] => 0
  | x :: r => uptoBulkEntry x + uptoBulkEntries r
def uptoBulkEntry {H : Type} : Lit × DataW H → Nat
  | (.string bytes, d) => bytes.length + uptoBulk d + 1
  | (_, d) => uptoBulk d + 1
 end
def uptoSmall : (H : Type) → List (DataW H) → Bool := fun _ ds => decide (uptoBulkAll ds ≤ 1048576)
def OpenSpec.upto (s : _root_.Go.ChangeSpec) : _root_.Go.OpenSpec := { _root_.Go.OpenSpec.ofChange s with cond := some uptoSmall }

/-- 'remudalaw21.QueueLives', WHERE WHAT IT READS IS OF BULK AT MOST 1048576: true; the input reads as it did. -/
def queueLivesUptoRow : OpenClaim := { program := "ytpogpofmakcodaa", sum := "4bc80b6530db8078fa1f58bc373a7cec210b1de4d38b101ce3c1b0c17cea9fd6", func := "remuda/remudalaw21.QueueLives", spec := "queueLives", unfollowed := true, recurses := true, apart := false, narrowed := true }
def QueueLivesUptoSaid : Prop := queueLivesUptoRow.holds Try.pinned (OpenSpec.upto queueLivesSpec)

/-- 'remudalaw21.QueueOrder', WHERE WHAT IT READS IS OF BULK AT MOST 1048576: true; the input reads as it did. -/
def queueOrderUptoRow : OpenClaim := { program := "ytpogpofmakcodaa", sum := "4bc80b6530db8078fa1f58bc373a7cec210b1de4d38b101ce3c1b0c17cea9fd6", func := "remuda/remudalaw21.QueueOrder", spec := "queueOrder", unfollowed := true, recurses := true, apart := false, narrowed := true }
def QueueOrderUptoSaid : Prop := queueOrderUptoRow.holds Try.pinned (OpenSpec.upto queueOrderSpec)

/-- 'remudalaw21.QueueSame', WHERE WHAT IT READS IS OF BULK AT MOST 1048576: true; the input reads as it did. -/
def queueSameUptoRow : OpenClaim := { program := "ytpogpofmakcodaa", sum := "4bc80b6530db8078fa1f58bc373a7cec210b1de4d38b101ce3c1b0c17cea9fd6", func := "remuda/remudalaw21.QueueSame", spec := "queueSame", unfollowed := true, recurses := true, apart := false, narrowed := true }
def QueueSameUptoSaid : Prop := queueSameUptoRow.holds Try.pinned (OpenSpec.upto queueSameSpec)

/-- 'remudalaw21.QueueNobody', WHERE WHAT IT READS IS OF BULK AT MOST 1048576: true; the input reads as it did. -/
def queueNobodyUptoRow : OpenClaim := { program := "ytpogpofmakcodaa", sum := "4bc80b6530db8078fa1f58bc373a7cec210b1de4d38b101ce3c1b0c17cea9fd6", func := "remuda/remudalaw21.QueueNobody", spec := "queueNobody", unfollowed := true, recurses := true, apart := false, narrowed := true }
def QueueNobodyUptoSaid : Prop := queueNobodyUptoRow.holds Try.pinned (OpenSpec.upto queueNobodySpec)

/-- 'remudalaw22.MatchGets', WHERE WHAT IT READS IS OF BULK AT MOST 1048576: true; the input reads as it did. -/
def matchGetsUptoRow : OpenClaim := { program := "ytpogpofmakcodaa", sum := "4bc80b6530db8078fa1f58bc373a7cec210b1de4d38b101ce3c1b0c17cea9fd6", func := "remuda/remudalaw22.MatchGets", spec := "matchGets", inPlace := ["internal/bytealg.IndexByteString"], unfollowed := true, recurses := true, apart := false, narrowed := true }
def MatchGetsUptoSaid : Prop := matchGetsUptoRow.holds Try.pinned (OpenSpec.upto matchGetsSpec)

/-- 'remudalaw22.MatchOnce', WHERE WHAT IT READS IS OF BULK AT MOST 1048576: true; the input reads as it did. -/
def matchOnceUptoRow : OpenClaim := { program := "ytpogpofmakcodaa", sum := "4bc80b6530db8078fa1f58bc373a7cec210b1de4d38b101ce3c1b0c17cea9fd6", func := "remuda/remudalaw22.MatchOnce", spec := "matchOnce", inPlace := ["internal/bytealg.IndexByteString"], unfollowed := true, recurses := true, apart := false, narrowed := true }
def MatchOnceUptoSaid : Prop := matchOnceUptoRow.holds Try.pinned (OpenSpec.upto matchOnceSpec)

/-- 'remudalaw22.MatchInstead', WHERE WHAT IT READS IS OF BULK AT MOST 1048576: true; the input reads as it did. -/
def matchInsteadUptoRow : OpenClaim := { program := "ytpogpofmakcodaa", sum := "4bc80b6530db8078fa1f58bc373a7cec210b1de4d38b101ce3c1b0c17cea9fd6", func := "remuda/remudalaw22.MatchInstead", spec := "matchInstead", inPlace := ["internal/bytealg.IndexByteString"], unfollowed := true, recurses := true, apart := false, narrowed := true }
def MatchInsteadUptoSaid : Prop := matchInsteadUptoRow.holds Try.pinned (OpenSpec.upto matchInsteadSpec)

/-- 'remudalaw22.MatchStrange', WHERE WHAT IT READS IS OF BULK AT MOST 1048576: true; the input reads as it did. -/
def matchStrangeUptoRow : OpenClaim := { program := "ytpogpofmakcodaa", sum := "4bc80b6530db8078fa1f58bc373a7cec210b1de4d38b101ce3c1b0c17cea9fd6", func := "remuda/remudalaw22.MatchStrange", spec := "matchStrange", inPlace := ["internal/bytealg.IndexByteString"], unfollowed := true, recurses := true, apart := false, narrowed := true }
def MatchStrangeUptoSaid : Prop := matchStrangeUptoRow.holds Try.pinned (OpenSpec.upto matchStrangeSpec)

end Rows
end Go.Proofs.Ytpogpofmakcodaa
