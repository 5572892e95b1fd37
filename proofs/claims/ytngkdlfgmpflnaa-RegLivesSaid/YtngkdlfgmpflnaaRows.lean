/-
  No cell of these rows narrows 'for every input' (looked for: loops, veiled, ifaces, maps, wideKeys, modest, calm, conditions, laid).
  DERIVED. THE GIVEN ROWS OF THIS SEAT. 5 by the template 'for every input the law returns true; each argument reads behind the call as it read before'; 0 by the template 'total and deterministic' (their statements: YtngkdlfgmpflnaaTotals.lean).
  GIVEN WITH THE SEED: the statements are not yours to turn. If you find one false, say at which input.
  Laid BY PROGRAM, IN A SANDBOX (cutbox-rows.mjs): the forced cells as the released guide's own fill.sh prints them over the translation e57fce1b7d845a6d… (all of the seat's roots in one cut). By AI agents, Wed Nov 11 2026. No macro, syntax, notation, axiom, sorry.
-/
import Derived.Test.YtngkdlfgmpflnaaChecked
import GoSem.Claim
import GoSem.ClaimJoined
import GoSem.ClaimMapViews
import Derived.JoinedTies
import Derived.KernelRfl
namespace Go.Proofs.Ytngkdlfgmpflnaa
/- THE CELL 'sum', in the pinned program and in every row, IS THE sha256 OF THE DUMP (.gsa) THAT YtngkdlfgmpflnaaProg.lean LOADS. Nothing in Lean hashes anything: it is a label: what it is worth is what the hold of that sum in a sandbox is worth. -/
noncomputable def Try.pinned : Pinned := { name := "ytngkdlfgmpflnaa", sum := "e57fce1b7d845a6d77a0f39fb7e341b3959ae2a30cc88d21ce38a502d85b1a9a", checked := Try.checked }
namespace Rows
def none {H : Type} : Left H := { results := [], args := [] }

/-- 'remudalaw13.NamesTell': WHATEVER THE INPUT: true; the input reads as it did. -/
def namesTellSpec : ChangeSpec := { name := "namesTell", fn := fun _ => fun
  | [d1, d2] => { results := [.lit (.bool true)], args := [d1, d2] }
  | _ => none }
def namesTellRow : OpenClaim := { program := "ytngkdlfgmpflnaa", sum := "e57fce1b7d845a6d77a0f39fb7e341b3959ae2a30cc88d21ce38a502d85b1a9a", func := "remuda/remudalaw13.NamesTell", spec := "namesTell", recurses := true, apart := false }
def NamesTellSaid : Prop := namesTellRow.holds Try.pinned (OpenSpec.ofChange namesTellSpec)

/-- ITS FALSE NEIGHBOUR: 'it returns false'. Refute it at one input. -/
def namesTellWrong : ChangeSpec := { name := "namesTell", fn := fun _ => fun
  | [d1, d2] => { results := [.lit (.bool false)], args := [d1, d2] }
  | _ => none }
def NamesTellWrongFalsely : Prop := namesTellRow.holds Try.pinned (OpenSpec.ofChange namesTellWrong)

/-- 'remudalaw13.NamesApart': WHATEVER THE INPUT: true; the input reads as it did. -/
def namesApartSpec : ChangeSpec := { name := "namesApart", fn := fun _ => fun
  | [d1, d2] => { results := [.lit (.bool true)], args := [d1, d2] }
  | _ => none }
def namesApartRow : OpenClaim := { program := "ytngkdlfgmpflnaa", sum := "e57fce1b7d845a6d77a0f39fb7e341b3959ae2a30cc88d21ce38a502d85b1a9a", func := "remuda/remudalaw13.NamesApart", spec := "namesApart", apart := false }
def NamesApartSaid : Prop := namesApartRow.holds Try.pinned (OpenSpec.ofChange namesApartSpec)

/-- ITS FALSE NEIGHBOUR: 'it returns false'. Refute it at one input. -/
def namesApartWrong : ChangeSpec := { name := "namesApart", fn := fun _ => fun
  | [d1, d2] => { results := [.lit (.bool false)], args := [d1, d2] }
  | _ => none }
def NamesApartWrongFalsely : Prop := namesApartRow.holds Try.pinned (OpenSpec.ofChange namesApartWrong)

/-- 'remudalaw14.RegLives': WHATEVER THE INPUT: true; the input reads as it did. -/
def regLivesSpec : ChangeSpec := { name := "regLives", fn := fun _ => fun
  | [d] => { results := [.lit (.bool true)], args := [d] }
  | _ => none }
def regLivesRow : OpenClaim := { program := "ytngkdlfgmpflnaa", sum := "e57fce1b7d845a6d77a0f39fb7e341b3959ae2a30cc88d21ce38a502d85b1a9a", func := "remuda/remudalaw14.RegLives", spec := "regLives", unfollowed := true, recurses := true, apart := false }
def RegLivesSaid : Prop := regLivesRow.holds Try.pinned (OpenSpec.ofChange regLivesSpec)

/-- ITS FALSE NEIGHBOUR: 'it returns false'. Refute it at one input. -/
def regLivesWrong : ChangeSpec := { name := "regLives", fn := fun _ => fun
  | [d] => { results := [.lit (.bool false)], args := [d] }
  | _ => none }
def RegLivesWrongFalsely : Prop := regLivesRow.holds Try.pinned (OpenSpec.ofChange regLivesWrong)

/-- 'remudalaw14.RegOnce': WHATEVER THE INPUT: true; the input reads as it did. -/
def regOnceSpec : ChangeSpec := { name := "regOnce", fn := fun _ => fun
  | [d] => { results := [.lit (.bool true)], args := [d] }
  | _ => none }
def regOnceRow : OpenClaim := { program := "ytngkdlfgmpflnaa", sum := "e57fce1b7d845a6d77a0f39fb7e341b3959ae2a30cc88d21ce38a502d85b1a9a", func := "remuda/remudalaw14.RegOnce", spec := "regOnce", unfollowed := true, recurses := true, apart := false }
def RegOnceSaid : Prop := regOnceRow.holds Try.pinned (OpenSpec.ofChange regOnceSpec)

/-- ITS FALSE NEIGHBOUR: 'it returns false'. Refute it at one input. -/
def regOnceWrong : ChangeSpec := { name := "regOnce", fn := fun _ => fun
  | [d] => { results := [.lit (.bool false)], args := [d] }
  | _ => none }
def RegOnceWrongFalsely : Prop := regOnceRow.holds Try.pinned (OpenSpec.ofChange regOnceWrong)

/-- 'remudalaw14.RegNobody': WHATEVER THE INPUT: true; the input reads as it did. -/
def regNobodySpec : ChangeSpec := { name := "regNobody", fn := fun _ => fun
  | [d1, d2] => { results := [.lit (.bool true)], args := [d1, d2] }
  | _ => none }
def regNobodyRow : OpenClaim := { program := "ytngkdlfgmpflnaa", sum := "e57fce1b7d845a6d77a0f39fb7e341b3959ae2a30cc88d21ce38a502d85b1a9a", func := "remuda/remudalaw14.RegNobody", spec := "regNobody", unfollowed := true, recurses := true, apart := false }
def RegNobodySaid : Prop := regNobodyRow.holds Try.pinned (OpenSpec.ofChange regNobodySpec)

/-- ITS FALSE NEIGHBOUR: 'it returns false'. Refute it at one input. -/
def regNobodyWrong : ChangeSpec := { name := "regNobody", fn := fun _ => fun
  | [d1, d2] => { results := [.lit (.bool false)], args := [d1, d2] }
  | _ => none }
def RegNobodyWrongFalsely : Prop := regNobodyRow.holds Try.pinned (OpenSpec.ofChange regNobodyWrong)

/- THE SECOND FORM. 'bulk': how many values and letters a reading holds, each counted each time it is reached (what is shared counts as often as it is met; a slice's spare places count too). A statement '..UptoSaid' is the law's where the arguments, and the package variables that the reading takes, are together of bulk at most 1048576: NARROWER than '..Said'. Prove '..Said' where nothing that the law and all that it calls make is longer than what came in: it says more and counts as full. Else prove '..UptoSaid'. A law counts once. -/
mutual
def uptoBulk {H : Type} : DataW H → Nat
  | .lit (.string bytes) => bytes.length + 1
  | .lit _ => 1
  | .nil => 1
  | .ptr d => uptoBulk d + 1
  | .slice elems spare => uptoBulkAll elems + uptoBulkAll spare + 1
  | .agg parts => uptoBulkAll parts + 1
  | .iface _ d => uptoBulk d + 1
  | .map entries => uptoBulkEntries entries + 1
  | .held _ => 1
def uptoBulkAll {H : Type} : List (DataW H) → Nat
  | [] => 0
  | d :: r => uptoBulk d + uptoBulkAll r
def uptoBulkEntries {H : Type} : List (Lit × DataW H) → Nat
  | [] => 0
  | x :: r => uptoBulkEntry x + uptoBulkEntries r
def uptoBulkEntry {H : Type} : Lit × DataW H → Nat
  | (.string bytes, d) => bytes.length + uptoBulk d + 1
  | (_, d) => uptoBulk d + 1
 end
def uptoSmall : (H : Type) → List (DataW H) → Bool := fun _ ds => decide (uptoBulkAll ds ≤ 1048576)
def OpenSpec.upto (s : _root_.Go.ChangeSpec) : _root_.Go.OpenSpec := { _root_.Go.OpenSpec.ofChange s with cond := some uptoSmall }

/-- 'remudalaw13.NamesTell', WHERE WHAT IT READS IS OF BULK AT MOST 1048576: true; the input reads as it did. -/
def namesTellUptoRow : OpenClaim := { program := "ytngkdlfgmpflnaa", sum := "e57fce1b7d845a6d77a0f39fb7e341b3959ae2a30cc88d21ce38a502d85b1a9a", func := "remuda/remudalaw13.NamesTell", spec := "namesTell", recurses := true, apart := false, narrowed := true }
def NamesTellUptoSaid : Prop := namesTellUptoRow.holds Try.pinned (OpenSpec.upto namesTellSpec)

/-- 'remudalaw13.NamesApart', WHERE WHAT IT READS IS OF BULK AT MOST 1048576: true; the input reads as it did. -/
def namesApartUptoRow : OpenClaim := { program := "ytngkdlfgmpflnaa", sum := "e57fce1b7d845a6d77a0f39fb7e341b3959ae2a30cc88d21ce38a502d85b1a9a", func := "remuda/remudalaw13.NamesApart", spec := "namesApart", apart := false, narrowed := true }
def NamesApartUptoSaid : Prop := namesApartUptoRow.holds Try.pinned (OpenSpec.upto namesApartSpec)

/-- 'remudalaw14.RegLives', WHERE WHAT IT READS IS OF BULK AT MOST 1048576: true; the input reads as it did. -/
def regLivesUptoRow : OpenClaim := { program := "ytngkdlfgmpflnaa", sum := "e57fce1b7d845a6d77a0f39fb7e341b3959ae2a30cc88d21ce38a502d85b1a9a", func := "remuda/remudalaw14.RegLives", spec := "regLives", unfollowed := true, recurses := true, apart := false, narrowed := true }
def RegLivesUptoSaid : Prop := regLivesUptoRow.holds Try.pinned (OpenSpec.upto regLivesSpec)

/-- 'remudalaw14.RegOnce', WHERE WHAT IT READS IS OF BULK AT MOST 1048576: true; the input reads as it did. -/
def regOnceUptoRow : OpenClaim := { program := "ytngkdlfgmpflnaa", sum := "e57fce1b7d845a6d77a0f39fb7e341b3959ae2a30cc88d21ce38a502d85b1a9a", func := "remuda/remudalaw14.RegOnce", spec := "regOnce", unfollowed := true, recurses := true, apart := false, narrowed := true }
def RegOnceUptoSaid : Prop := regOnceUptoRow.holds Try.pinned (OpenSpec.upto regOnceSpec)

/-- 'remudalaw14.RegNobody', WHERE WHAT IT READS IS OF BULK AT MOST 1048576: true; the input reads as it did. -/
def regNobodyUptoRow : OpenClaim := { program := "ytngkdlfgmpflnaa", sum := "e57fce1b7d845a6d77a0f39fb7e341b3959ae2a30cc88d21ce38a502d85b1a9a", func := "remuda/remudalaw14.RegNobody", spec := "regNobody", unfollowed := true, recurses := true, apart := false, narrowed := true }
def RegNobodyUptoSaid : Prop := regNobodyUptoRow.holds Try.pinned (OpenSpec.upto regNobodySpec)

end Rows
end Go.Proofs.Ytngkdlfgmpflnaa
