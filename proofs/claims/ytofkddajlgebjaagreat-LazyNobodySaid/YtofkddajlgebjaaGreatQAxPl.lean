/- Numbers, texts and lists there and back, on lists of bytes. -/
import Derived.Test.YtofkddajlgebjaaGreatQAxXr
import Derived.Test.YtofkddajlgebjaaGreatRows
import Derived.Test.YtofkddajlgebjaaGreatQAxWo
import Derived.Test.YtofkddajlgebjaaGreatQAxSc
/- The texts of functions over values without memory, as the kernel reckons them out of the program. -/
namespace Go.Proofs.YtofkddajlgebjaaGreat.Ax
open Go.RowKit Go By

end Go.Proofs.YtofkddajlgebjaaGreat.Ax
/- The contracts of what package wire reads, and of what the document reads, over values without memory. -/
namespace Go.Proofs.YtofkddajlgebjaaGreat.Ax
open Go.RowKit Go By YtofkddajlgebjaaGreat.Nm Sc Dg
set_option linter.unusedSimpArgs false
set_option linter.unusedVariables false
set_option maxRecDepth 10000

/-- What is read again and again: v is read where a scan stands, and leads to s. -/
def readR {α : Type} (v : Sta → α) (s : Sta → Sta) : Nat → Sta → List α × Sta
  | 0, st => ([], st)
  | k + 1, st => (v st :: (readR v s k (s st)).1, (readR v s k (s st)).2)
section
variable {α : Type} (v : Sta → α) (s : Sta → Sta)
end
/-- A list that is read: how many, and each; none, if anything could not be had. -/
def listV {α : Type} (v : Sta → α) (s : Sta → Sta) (st : Sta) : List α :=
  if (readR v s (numV st 2).toNat (numS st 2)).2 = none then [] else (readR v s (numV st 2).toNat (numS st 2)).1
def listS {α : Type} (v : Sta → α) (s : Sta → Sta) (st : Sta) : Sta := (readR v s (numV st 2).toNat (numS st 2)).2
/-- A cell that is read. -/
def cellV (st : Sta) : Cl := if numV st 4 = 4294967295 then (true, []) else (false, takeL (numS st 4) (numV st 4))
def cellS (st : Sta) : Sta := if numV st 4 = 4294967295 then numS st 4 else takeS (numS st 4) (numV st 4)
/-! ### The document's -/
/-- What is read as long as all could be had. -/
def readU {α : Type} (v : Sta → α) (s : Sta → Sta) : Nat → Sta → List α
  | 0, _ => []
  | k + 1, st => if st = none then [] else v st :: readU v s k (s st)
/-- A list that the document reads. -/
def listU {α : Type} (v : Sta → α) (s : Sta → Sta) (st : Sta) : List α := readU v s (numV st 2).toNat (numS st 2)
/-- The document's scan goes on so, again and again. -/
def rsN (q : Rs → Rs) : Nat → Rs → Rs
  | 0, r => r
  | k + 1, r => rsN q k (q r)
def listRs (q : Rs → Rs) (r : Rs) : Rs := rsN q (numV (rabs r) 2).toNat (rstep (numS · 2) r)
section
variable {α : Type} (v : Sta → α) (s : Sta → Sta) (q : Rs → Rs) (hq : ∀ r, rabs (q r) = s (rabs r)) (hb : ∀ r, rabs r = none → q r = r) (r : Rs) (n : Nat) (hn : numV (rabs r) 2 = n)
include hq hn
end
/-- The document's scan behind a cell. -/
def rcellQ (r : Rs) : Rs := if numV (rabs r) 4 = 4294967295 then rstep (numS · 4) r else rstep (takeS · (numV (rabs r) 4)) (rstep (numS · 4) r)
end Go.Proofs.YtofkddajlgebjaaGreat.Ax
namespace Go.Proofs.YtofkddajlgebjaaGreat.Ax
open Go.RowKit Go By YtofkddajlgebjaaGreat.Nm Sc Dg
open He (textL)
set_option linter.unusedSimpArgs false
set_option linter.unusedVariables false

/-! ### Numbers -/
theorem putL_right {n : Int} {size : Nat} (hr : rightB n size = true) : putL [] n size = putTo n size size := by
  unfold putL; rw [if_pos hr]; simp
theorem two : ((2 : Nat) : Int) = 2 := rfl
/-! ### Again and again -/
section
variable {α : Type} (e : α → List UInt8) (v : Sta → α) (s : Sta → Sta) (ok : α → Prop)
variable {e v s ok}
end
end Go.Proofs.YtofkddajlgebjaaGreat.Ax
