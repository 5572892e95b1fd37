/-
  No cell of these rows narrows 'for every input' (looked for: loops, veiled, ifaces, maps, wideKeys, modest, calm, conditions, laid).
  DERIVED. THE GIVEN ROWS OF THIS SEAT. 7 by the template 'for every input the law returns true; each argument reads behind the call as it read before'; 0 by the template 'total and deterministic' (their statements: YtabfaambilbpeaaTotals.lean).
  GIVEN WITH THE SEED: the statements are not yours to turn. If you find one false, say at which input.
  Laid BY PROGRAM, IN A SANDBOX (cutbox-rows.mjs): the forced cells as the released guide's own fill.sh prints them over the translation a82e926f01581c7e… (all of the seat's roots in one cut). By AI agents, Wed Nov 11 2026. No macro, syntax, notation, axiom, sorry.
-/
import Derived.Test.YtabfaambilbpeaaChecked
import GoSem.Claim
import GoSem.ClaimJoined
import GoSem.ClaimMapViews
import Derived.JoinedTies
import Derived.KernelRfl
namespace Go.Proofs.Ytabfaambilbpeaa
/- THE CELL 'sum', in the pinned program and in every row, IS THE sha256 OF THE DUMP (.gsa) THAT YtabfaambilbpeaaProg.lean LOADS. Nothing in Lean hashes anything: it is a label: what it is worth is what the hold of that sum in a sandbox is worth. -/
noncomputable def Try.pinned : Pinned := { name := "ytabfaambilbpeaa", sum := "a82e926f01581c7eca1d540d35dbe5748756c0371dbd95152f55e658fb2aed72", checked := Try.checked }
namespace Rows
def none {H : Type} : Left H := { results := [], args := [] }

/-- 'remudalaw17.LruLives': WHATEVER THE INPUT: true; the input reads as it did. -/
def lruLivesSpec : ChangeSpec := { name := "lruLives", fn := fun _ => fun
  | [d1, d2] => { results := [.lit (.bool true)], args := [d1, d2] }
  | _ => none }
def lruLivesRow : OpenClaim := { program := "ytabfaambilbpeaa", sum := "a82e926f01581c7eca1d540d35dbe5748756c0371dbd95152f55e658fb2aed72", func := "remuda/remudalaw17.LruLives", spec := "lruLives", apart := false }
def LruLivesSaid : Prop := lruLivesRow.holds Try.pinned (OpenSpec.ofChange lruLivesSpec)

/-- ITS FALSE NEIGHBOUR: 'it returns false'. Refute it at one input. -/
def lruLivesWrong : ChangeSpec := { name := "lruLives", fn := fun _ => fun
  | [d1, d2] => { results := [.lit (.bool false)], args := [d1, d2] }
  | _ => none }
def LruLivesWrongFalsely : Prop := lruLivesRow.holds Try.pinned (OpenSpec.ofChange lruLivesWrong)

/-- 'remudalaw17.LruBounds': WHATEVER THE INPUT: true; the input reads as it did. -/
def lruBoundsSpec : ChangeSpec := { name := "lruBounds", fn := fun _ => fun
  | [d1, d2] => { results := [.lit (.bool true)], args := [d1, d2] }
  | _ => none }
def lruBoundsRow : OpenClaim := { program := "ytabfaambilbpeaa", sum := "a82e926f01581c7eca1d540d35dbe5748756c0371dbd95152f55e658fb2aed72", func := "remuda/remudalaw17.LruBounds", spec := "lruBounds", recurses := true, apart := false }
def LruBoundsSaid : Prop := lruBoundsRow.holds Try.pinned (OpenSpec.ofChange lruBoundsSpec)

/-- ITS FALSE NEIGHBOUR: 'it returns false'. Refute it at one input. -/
def lruBoundsWrong : ChangeSpec := { name := "lruBounds", fn := fun _ => fun
  | [d1, d2] => { results := [.lit (.bool false)], args := [d1, d2] }
  | _ => none }
def LruBoundsWrongFalsely : Prop := lruBoundsRow.holds Try.pinned (OpenSpec.ofChange lruBoundsWrong)

/-- 'remudalaw17.LruNobody': WHATEVER THE INPUT: true; the input reads as it did. -/
def lruNobodySpec : ChangeSpec := { name := "lruNobody", fn := fun _ => fun
  | [d] => { results := [.lit (.bool true)], args := [d] }
  | _ => none }
def lruNobodyRow : OpenClaim := { program := "ytabfaambilbpeaa", sum := "a82e926f01581c7eca1d540d35dbe5748756c0371dbd95152f55e658fb2aed72", func := "remuda/remudalaw17.LruNobody", spec := "lruNobody", apart := false }
def LruNobodySaid : Prop := lruNobodyRow.holds Try.pinned (OpenSpec.ofChange lruNobodySpec)

/-- ITS FALSE NEIGHBOUR: 'it returns false'. Refute it at one input. -/
def lruNobodyWrong : ChangeSpec := { name := "lruNobody", fn := fun _ => fun
  | [d] => { results := [.lit (.bool false)], args := [d] }
  | _ => none }
def LruNobodyWrongFalsely : Prop := lruNobodyRow.holds Try.pinned (OpenSpec.ofChange lruNobodyWrong)

/-- 'remudalaw18.CacheLives': WHATEVER THE INPUT: true; the input reads as it did. -/
def cacheLivesSpec : ChangeSpec := { name := "cacheLives", fn := fun _ => fun
  | [d1, d2, d3, d4] => { results := [.lit (.bool true)], args := [d1, d2, d3, d4] }
  | _ => none }
def cacheLivesRow : OpenClaim := { program := "ytabfaambilbpeaa", sum := "a82e926f01581c7eca1d540d35dbe5748756c0371dbd95152f55e658fb2aed72", func := "remuda/remudalaw18.CacheLives", spec := "cacheLives", unfollowed := true, recurses := true, apart := false }
def CacheLivesSaid : Prop := cacheLivesRow.holds Try.pinned (OpenSpec.ofChange cacheLivesSpec)

/-- ITS FALSE NEIGHBOUR: 'it returns false'. Refute it at one input. -/
def cacheLivesWrong : ChangeSpec := { name := "cacheLives", fn := fun _ => fun
  | [d1, d2, d3, d4] => { results := [.lit (.bool false)], args := [d1, d2, d3, d4] }
  | _ => none }
def CacheLivesWrongFalsely : Prop := cacheLivesRow.holds Try.pinned (OpenSpec.ofChange cacheLivesWrong)

/-- 'remudalaw18.CacheLater': WHATEVER THE INPUT: true; the input reads as it did. -/
def cacheLaterSpec : ChangeSpec := { name := "cacheLater", fn := fun _ => fun
  | [d1, d2] => { results := [.lit (.bool true)], args := [d1, d2] }
  | _ => none }
def cacheLaterRow : OpenClaim := { program := "ytabfaambilbpeaa", sum := "a82e926f01581c7eca1d540d35dbe5748756c0371dbd95152f55e658fb2aed72", func := "remuda/remudalaw18.CacheLater", spec := "cacheLater", unfollowed := true, recurses := true, apart := false }
def CacheLaterSaid : Prop := cacheLaterRow.holds Try.pinned (OpenSpec.ofChange cacheLaterSpec)

/-- ITS FALSE NEIGHBOUR: 'it returns false'. Refute it at one input. -/
def cacheLaterWrong : ChangeSpec := { name := "cacheLater", fn := fun _ => fun
  | [d1, d2] => { results := [.lit (.bool false)], args := [d1, d2] }
  | _ => none }
def CacheLaterWrongFalsely : Prop := cacheLaterRow.holds Try.pinned (OpenSpec.ofChange cacheLaterWrong)

/-- 'remudalaw18.CacheGone': WHATEVER THE INPUT: true; the input reads as it did. -/
def cacheGoneSpec : ChangeSpec := { name := "cacheGone", fn := fun _ => fun
  | [d1, d2] => { results := [.lit (.bool true)], args := [d1, d2] }
  | _ => none }
def cacheGoneRow : OpenClaim := { program := "ytabfaambilbpeaa", sum := "a82e926f01581c7eca1d540d35dbe5748756c0371dbd95152f55e658fb2aed72", func := "remuda/remudalaw18.CacheGone", spec := "cacheGone", unfollowed := true, recurses := true, apart := false }
def CacheGoneSaid : Prop := cacheGoneRow.holds Try.pinned (OpenSpec.ofChange cacheGoneSpec)

/-- ITS FALSE NEIGHBOUR: 'it returns false'. Refute it at one input. -/
def cacheGoneWrong : ChangeSpec := { name := "cacheGone", fn := fun _ => fun
  | [d1, d2] => { results := [.lit (.bool false)], args := [d1, d2] }
  | _ => none }
def CacheGoneWrongFalsely : Prop := cacheGoneRow.holds Try.pinned (OpenSpec.ofChange cacheGoneWrong)

/-- 'remudalaw18.CacheNobody': WHATEVER THE INPUT: true; the input reads as it did. -/
def cacheNobodySpec : ChangeSpec := { name := "cacheNobody", fn := fun _ => fun
  | [d1, d2] => { results := [.lit (.bool true)], args := [d1, d2] }
  | _ => none }
def cacheNobodyRow : OpenClaim := { program := "ytabfaambilbpeaa", sum := "a82e926f01581c7eca1d540d35dbe5748756c0371dbd95152f55e658fb2aed72", func := "remuda/remudalaw18.CacheNobody", spec := "cacheNobody", unfollowed := true, recurses := true, apart := false }
def CacheNobodySaid : Prop := cacheNobodyRow.holds Try.pinned (OpenSpec.ofChange cacheNobodySpec)

/-- ITS FALSE NEIGHBOUR: 'it returns false'. Refute it at one input. -/
def cacheNobodyWrong : ChangeSpec := { name := "cacheNobody", fn := fun _ => fun
  | [d1, d2] => { results := [.lit (.bool false)], args := [d1, d2] }
  | _ => none }
def CacheNobodyWrongFalsely : Prop := cacheNobodyRow.holds Try.pinned (OpenSpec.ofChange cacheNobodyWrong)

/- THE SECOND FORM. 'bulk': how many values and letters a reading holds, each counted each time it is reached (what is shared counts as often as it is met; a slice's spare places count too). A statement '..UptoSaid' is the law's where the arguments, and the package variables that the reading takes, are together of bulk at most 1048576: NARROWER than '..Said'. Prove '..Said' where nothing that the law and all that it calls make is longer than what came in: it says more and counts as full. Else prove '..UptoSaid'. A law counts once. -/
mutual
def uptoBulk {H : Type} : DataW H → Nat
  | .lit (.string bytes) => bytes.length + 1
  | .lit _ => 1
  | .nil => 1
  | .ptr d => uptoBulk d + 1
  | .slice elems spare => uptoBulkAll elems + uptoBulkAll spare + 1
  | .agg parts => uptoBulkAll parts + 1
  | .iface _ d => uptoBulk d + 1
  | .map entries => uptoBulkEntries entries + 1
  | .held _ => 1
def uptoBulkAll {H : Type} : List (DataW H) → Nat
  | [] => 0
  | d :: r => uptoBulk d + uptoBulkAll r
def uptoBulkEntries {H : Type} : List (Lit × DataW H) → Nat
  | [] => 0
  | x :: r => uptoBulkEntry x + uptoBulkEntries r
def uptoBulkEntry {H : Type} : Lit × DataW H → Nat
  | (.string bytes, d) => bytes.length + uptoBulk d + 1
  | (_, d) => uptoBulk d + 1
 end
def uptoSmall : (H : Type) → List (DataW H) → Bool := fun _ ds => decide (uptoBulkAll ds ≤ 1048576)
def OpenSpec.upto (s : _root_.Go.ChangeSpec) : _root_.Go.OpenSpec := { _root_.Go.OpenSpec.ofChange s with cond := some uptoSmall }

/-- 'remudalaw17.LruLives', WHERE WHAT IT READS IS OF BULK AT MOST 1048576: true; the input reads as it did. -/
def lruLivesUptoRow : OpenClaim := { program := "ytabfaambilbpeaa", sum := "a82e926f01581c7eca1d540d35dbe5748756c0371dbd95152f55e658fb2aed72", func := "remuda/remudalaw17.LruLives", spec := "lruLives", apart := false, narrowed := true }
def LruLivesUptoSaid : Prop := lruLivesUptoRow.holds Try.pinned (OpenSpec.upto lruLivesSpec)

/-- 'remudalaw17.LruBounds', WHERE WHAT IT READS IS OF BULK AT MOST 1048576: true; the input reads as it did. -/
def lruBoundsUptoRow : OpenClaim := { program := "ytabfaambilbpeaa", sum := "a82e926f01581c7eca1d540d35dbe5748756c0371dbd95152f55e658fb2aed72", func := "remuda/remudalaw17.LruBounds", spec := "lruBounds", recurses := true, apart := false, narrowed := true }
def LruBoundsUptoSaid : Prop := lruBoundsUptoRow.holds Try.pinned (OpenSpec.upto lruBoundsSpec)

/-- 'remudalaw17.LruNobody', WHERE WHAT IT READS IS OF BULK AT MOST 1048576: true; the input reads as it did. -/
def lruNobodyUptoRow : OpenClaim := { program := "ytabfaambilbpeaa", sum := "a82e926f01581c7eca1d540d35dbe5748756c0371dbd95152f55e658fb2aed72", func := "remuda/remudalaw17.LruNobody", spec := "lruNobody", apart := false, narrowed := true }
def LruNobodyUptoSaid : Prop := lruNobodyUptoRow.holds Try.pinned (OpenSpec.upto lruNobodySpec)

/-- 'remudalaw18.CacheLives', WHERE WHAT IT READS IS OF BULK AT MOST 1048576: true; the input reads as it did. -/
def cacheLivesUptoRow : OpenClaim := { program := "ytabfaambilbpeaa", sum := "a82e926f01581c7eca1d540d35dbe5748756c0371dbd95152f55e658fb2aed72", func := "remuda/remudalaw18.CacheLives", spec := "cacheLives", unfollowed := true, recurses := true, apart := false, narrowed := true }
def CacheLivesUptoSaid : Prop := cacheLivesUptoRow.holds Try.pinned (OpenSpec.upto cacheLivesSpec)

/-- 'remudalaw18.CacheLater', WHERE WHAT IT READS IS OF BULK AT MOST 1048576: true; the input reads as it did. -/
def cacheLaterUptoRow : OpenClaim := { program := "ytabfaambilbpeaa", sum := "a82e926f01581c7eca1d540d35dbe5748756c0371dbd95152f55e658fb2aed72", func := "remuda/remudalaw18.CacheLater", spec := "cacheLater", unfollowed := true, recurses := true, apart := false, narrowed := true }
def CacheLaterUptoSaid : Prop := cacheLaterUptoRow.holds Try.pinned (OpenSpec.upto cacheLaterSpec)

/-- 'remudalaw18.CacheGone', WHERE WHAT IT READS IS OF BULK AT MOST 1048576: true; the input reads as it did. -/
def cacheGoneUptoRow : OpenClaim := { program := "ytabfaambilbpeaa", sum := "a82e926f01581c7eca1d540d35dbe5748756c0371dbd95152f55e658fb2aed72", func := "remuda/remudalaw18.CacheGone", spec := "cacheGone", unfollowed := true, recurses := true, apart := false, narrowed := true }
def CacheGoneUptoSaid : Prop := cacheGoneUptoRow.holds Try.pinned (OpenSpec.upto cacheGoneSpec)

/-- 'remudalaw18.CacheNobody', WHERE WHAT IT READS IS OF BULK AT MOST 1048576: true; the input reads as it did. -/
def cacheNobodyUptoRow : OpenClaim := { program := "ytabfaambilbpeaa", sum := "a82e926f01581c7eca1d540d35dbe5748756c0371dbd95152f55e658fb2aed72", func := "remuda/remudalaw18.CacheNobody", spec := "cacheNobody", unfollowed := true, recurses := true, apart := false, narrowed := true }
def CacheNobodyUptoSaid : Prop := cacheNobodyUptoRow.holds Try.pinned (OpenSpec.upto cacheNobodySpec)

end Rows
end Go.Proofs.Ytabfaambilbpeaa
