/- Finding by a function in a variable's elements, over values without memory. No program is named here. -/
import Derived.Test.YtofkddajlgebjaaQAxX
/- The functions of package slices that find by a function, that compare lists, over values without memory. No program is named here. Written by gen/slices.py. -/
namespace Go.Proofs.Ytofkddajlgebjaa.Ax
open Go.RowKit Go By
set_option linter.unusedSimpArgs false
set_option maxRecDepth 10000

end Go.Proofs.Ytofkddajlgebjaa.Ax
namespace Go.Proofs.Ytofkddajlgebjaa.Ax
open Go.RowKit Go By
set_option linter.unusedSimpArgs false
set_option maxRecDepth 10000

/-! ### A variable that is not written any more -/
@[simp] theorem frz_v (i : Nat) (cs : List AV) (x : Value) : (AV.v x).frz i cs = .v x := of_eq_true (eq_self _)
@[simp] theorem frz_any (i : Nat) (cs : List AV) : AV.any.frz i cs = .any := of_eq_true (eq_self _)
@[simp] theorem frz_box (i : Nat) (cs : List AV) (j o : Nat) : (AV.box j o).frz i cs = .box j o := of_eq_true (eq_self _)
@[simp] theorem frz_ro (i : Nat) (cs l : List AV) : (AV.ro l).frz i cs = .ro l := of_eq_true (eq_self _)
@[simp] theorem frz_sl (i : Nat) (cs : List AV) (k : Nat) (es : List (List AV)) (nul : Option Bool) (room : Room) : (AV.sl k es nul room).frz i cs = .sl k es nul room := of_eq_true (eq_self _)
@[simp] theorem frz_fn (i : Nat) (cs : List AV) (f : Fn) (a b : List AV) : (AV.fn f a b).frz i cs = .fn f a b := of_eq_true (eq_self _)
@[simp] theorem frz_agg (i : Nat) (cs l : List AV) : (AV.agg l).frz i cs = .agg l := of_eq_true (eq_self _)
@[simp] theorem frz_tup (i : Nat) (cs l : List AV) : (AV.tup l).frz i cs = .tup l := of_eq_true (eq_self _)
@[simp] theorem r_frzE_nil (i : Nat) (cs : List AV) : frzE i cs [] = [] := of_eq_true (eq_self _)
@[simp] theorem r_frzE_cons (i : Nat) (cs : List AV) (t : Nat) (a : AV) (r : List (Nat × AV)) : frzE i cs ((t, a) :: r) = (t, a.frz i cs) :: frzE i cs r := of_eq_true (eq_self _)
@[simp] theorem r_frz (i : Nat) (cs : List AV) (e o : List (Nat × AV)) (h : List (List AV)) (wr : List Nat) : (St.mk e o h wr).frz i cs = ⟨frzE i cs e, o, h.set i [], wr⟩ := of_eq_true (eq_self _)
end Go.Proofs.Ytofkddajlgebjaa.Ax
