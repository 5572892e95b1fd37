/-
  No cell of these rows narrows 'for every input' (looked for: loops, veiled, ifaces, maps, wideKeys, modest, calm, conditions, laid).
  DERIVED. THE GIVEN ROWS OF THIS SEAT. 3 by the template 'for every input the law returns true; each argument reads behind the call as it read before'; 0 by the template 'total and deterministic' (their statements: YtmdapcmdlblnnaaTotals.lean).
  GIVEN WITH THE SEED: the statements are not yours to turn. If you find one false, say at which input.
  Laid BY PROGRAM, IN A SANDBOX (cutbox-rows.mjs): the forced cells as the released guide's own fill.sh prints them over the translation b7f2d72e64e6325d… (all of the seat's roots in one cut). By AI agents, Wed Nov 11 2026. No macro, syntax, notation, axiom, sorry.
-/
import Derived.Test.YtmdapcmdlblnnaaChecked
import GoSem.Claim
import GoSem.ClaimJoined
import GoSem.ClaimMapViews
import Derived.JoinedTies
import Derived.KernelRfl
namespace Go.Proofs.Ytmdapcmdlblnnaa
/- THE CELL 'sum', in the pinned program and in every row, IS THE sha256 OF THE DUMP (.gsa) THAT YtmdapcmdlblnnaaProg.lean LOADS. Nothing in Lean hashes anything: it is a label: what it is worth is what the hold of that sum in a sandbox is worth. -/
noncomputable def Try.pinned : Pinned := { name := "ytmdapcmdlblnnaa", sum := "b7f2d72e64e6325d26389a321cb20a0fdf779fba95348ee87caf0b0a293a366b", checked := Try.checked }
namespace Rows
def none {H : Type} : Left H := { results := [], args := [] }

/-- 'remudalaw28.PortalLives': WHATEVER THE INPUT: true; the input reads as it did. -/
def portalLivesSpec : ChangeSpec := { name := "portalLives", fn := fun _ => fun
  | [d] => { results := [.lit (.bool true)], args := [d] }
  | _ => none }
def portalLivesRow : OpenClaim := { program := "ytmdapcmdlblnnaa", sum := "b7f2d72e64e6325d26389a321cb20a0fdf779fba95348ee87caf0b0a293a366b", func := "remuda/remudalaw28.PortalLives", spec := "portalLives", unfollowed := true, recurses := true, apart := false }
def PortalLivesSaid : Prop := portalLivesRow.holds Try.pinned (OpenSpec.ofChange portalLivesSpec)

/-- ITS FALSE NEIGHBOUR: 'it returns false'. Refute it at one input. -/
def portalLivesWrong : ChangeSpec := { name := "portalLives", fn := fun _ => fun
  | [d] => { results := [.lit (.bool false)], args := [d] }
  | _ => none }
def PortalLivesWrongFalsely : Prop := portalLivesRow.holds Try.pinned (OpenSpec.ofChange portalLivesWrong)

/-- 'remudalaw28.PortalFetches': WHATEVER THE INPUT: true; the input reads as it did. -/
def portalFetchesSpec : ChangeSpec := { name := "portalFetches", fn := fun _ => fun
  | [d1, d2] => { results := [.lit (.bool true)], args := [d1, d2] }
  | _ => none }
def portalFetchesRow : OpenClaim := { program := "ytmdapcmdlblnnaa", sum := "b7f2d72e64e6325d26389a321cb20a0fdf779fba95348ee87caf0b0a293a366b", func := "remuda/remudalaw28.PortalFetches", spec := "portalFetches", unfollowed := true, recurses := true, apart := false }
def PortalFetchesSaid : Prop := portalFetchesRow.holds Try.pinned (OpenSpec.ofChange portalFetchesSpec)

/-- ITS FALSE NEIGHBOUR: 'it returns false'. Refute it at one input. -/
def portalFetchesWrong : ChangeSpec := { name := "portalFetches", fn := fun _ => fun
  | [d1, d2] => { results := [.lit (.bool false)], args := [d1, d2] }
  | _ => none }
def PortalFetchesWrongFalsely : Prop := portalFetchesRow.holds Try.pinned (OpenSpec.ofChange portalFetchesWrong)

/-- 'remudalaw28.PortalNobody': WHATEVER THE INPUT: true; the input reads as it did. -/
def portalNobodySpec : ChangeSpec := { name := "portalNobody", fn := fun _ => fun
  | [d1, d2] => { results := [.lit (.bool true)], args := [d1, d2] }
  | _ => none }
def portalNobodyRow : OpenClaim := { program := "ytmdapcmdlblnnaa", sum := "b7f2d72e64e6325d26389a321cb20a0fdf779fba95348ee87caf0b0a293a366b", func := "remuda/remudalaw28.PortalNobody", spec := "portalNobody", recurses := true, apart := false }
def PortalNobodySaid : Prop := portalNobodyRow.holds Try.pinned (OpenSpec.ofChange portalNobodySpec)

/-- ITS FALSE NEIGHBOUR: 'it returns false'. Refute it at one input. -/
def portalNobodyWrong : ChangeSpec := { name := "portalNobody", fn := fun _ => fun
  | [d1, d2] => { results := [.lit (.bool false)], args := [d1, d2] }
  | _ => none }
def PortalNobodyWrongFalsely : Prop := portalNobodyRow.holds Try.pinned (OpenSpec.ofChange portalNobodyWrong)

/- THE SECOND FORM. 'bulk': how many values and letters a reading holds, each counted each time it is reached (what is shared counts as often as it is met; a slice's spare places count too). A statement '..UptoSaid' is the law's where the arguments, and the package variables that the reading takes, are together of bulk at most 1048576: NARROWER than '..Said'. Prove '..Said' where nothing that the law and all that it calls make is longer than what came in: it says more and counts as full. Else prove '..UptoSaid'. A law counts once. -/
mutual
def uptoBulk {H : Type} : DataW H → Nat
  | .lit (.string bytes) => bytes.length + 1
  | .lit _ => 1
  | .nil => 1
  | .ptr d => uptoBulk d + 1
  | .slice elems spare => uptoBulkAll elems + uptoBulkAll spare + 1
  | .agg parts => uptoBulkAll parts + 1
  | .iface _ d => uptoBulk d + 1
  | .map entries => uptoBulkEntries entries + 1
  | .held _ => 1
def uptoBulkAll {H : Type} : List (DataW H) → Nat
  | [] => 0
  | d :: r => uptoBulk d + uptoBulkAll r
def uptoBulkEntries {H : Type} : List (Lit × DataW H) → Nat
  | [] => 0
  | x :: r => uptoBulkEntry x + uptoBulkEntries r
def uptoBulkEntry {H : Type} : Lit × DataW H → Nat
  | (.string bytes, d) => bytes.length + uptoBulk d + 1
  | (_, d) => uptoBulk d + 1
 end
def uptoSmall : (H : Type) → List (DataW H) → Bool := fun _ ds => decide (uptoBulkAll ds ≤ 1048576)
def OpenSpec.upto (s : _root_.Go.ChangeSpec) : _root_.Go.OpenSpec := { _root_.Go.OpenSpec.ofChange s with cond := some uptoSmall }

/-- 'remudalaw28.PortalLives', WHERE WHAT IT READS IS OF BULK AT MOST 1048576: true; the input reads as it did. -/
def portalLivesUptoRow : OpenClaim := { program := "ytmdapcmdlblnnaa", sum := "b7f2d72e64e6325d26389a321cb20a0fdf779fba95348ee87caf0b0a293a366b", func := "remuda/remudalaw28.PortalLives", spec := "portalLives", unfollowed := true, recurses := true, apart := false, narrowed := true }
def PortalLivesUptoSaid : Prop := portalLivesUptoRow.holds Try.pinned (OpenSpec.upto portalLivesSpec)

/-- 'remudalaw28.PortalFetches', WHERE WHAT IT READS IS OF BULK AT MOST 1048576: true; the input reads as it did. -/
def portalFetchesUptoRow : OpenClaim := { program := "ytmdapcmdlblnnaa", sum := "b7f2d72e64e6325d26389a321cb20a0fdf779fba95348ee87caf0b0a293a366b", func := "remuda/remudalaw28.PortalFetches", spec := "portalFetches", unfollowed := true, recurses := true, apart := false, narrowed := true }
def PortalFetchesUptoSaid : Prop := portalFetchesUptoRow.holds Try.pinned (OpenSpec.upto portalFetchesSpec)

/-- 'remudalaw28.PortalNobody', WHERE WHAT IT READS IS OF BULK AT MOST 1048576: true; the input reads as it did. -/
def portalNobodyUptoRow : OpenClaim := { program := "ytmdapcmdlblnnaa", sum := "b7f2d72e64e6325d26389a321cb20a0fdf779fba95348ee87caf0b0a293a366b", func := "remuda/remudalaw28.PortalNobody", spec := "portalNobody", recurses := true, apart := false, narrowed := true }
def PortalNobodyUptoSaid : Prop := portalNobodyUptoRow.holds Try.pinned (OpenSpec.upto portalNobodySpec)

end Rows
end Go.Proofs.Ytmdapcmdlblnnaa
