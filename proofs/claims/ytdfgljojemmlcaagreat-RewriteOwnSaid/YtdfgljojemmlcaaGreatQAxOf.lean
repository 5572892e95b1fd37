import Derived.Test.YtdfgljojemmlcaaGreatQAxXr
import Derived.Test.YtdfgljojemmlcaaGreatRows
import Derived.Test.YtdfgljojemmlcaaGreatQAxOa
import Derived.Test.YtdfgljojemmlcaaGreatQAxIb
set_option linter.unusedSimpArgs false
set_option linter.unusedVariables false
namespace Go.Proofs.YtdfgljojemmlcaaGreat.Ax
open Go.RowKit Go By
def c93 : XFun := ⟨32, (.seq (.ops [⟨(some 5), (.box (.tmp 2)), none⟩, ⟨(some 6), (.assign (.const (.int .i64 0))), none⟩, ⟨(some 7), (.assign (.const (.bool false))), none⟩]) (.seq (.ops [⟨(some 12), (.move (.tmp 0)), none⟩, ⟨(some 13), (.load1 (.tmp 5)), none⟩, ⟨(some 14), (.call 119 [(.tmp 12), (.tmp 13)]), none⟩, ⟨(some 11), (.move (.tmp 14)), none⟩, ⟨(some 15), (.extract (.tmp 11) 0), none⟩, ⟨(some 16), (.extract (.tmp 11) 1), none⟩, ⟨(some 8), (.alloc [(.v (.int .i64 0))]), none⟩, ⟨(some 9), (.alloc [(.v (.bool false))]), none⟩, ⟨none, (.store 1 (.tmp 8) (.tmp 15)), none⟩, ⟨none, (.store 1 (.tmp 9) (.tmp 16)), none⟩]) (.seq (.seq (.ops [⟨(some 17), (.move (.tmp 1)), none⟩, ⟨(some 18), (.call 120 [(.tmp 17)]), none⟩]) (.block 0 (.range (.tmp 18) [19] (.ops [⟨(some 10), (.alloc [(.v (.bool false)), (.v (.string (strB []))), (.v (.int .i64 0))]), none⟩, ⟨none, (.store 3 (.tmp 10) (.tmp 19)), none⟩]) (.block 1 (.block 2 (.seq (.ops [⟨(some 21), (.faddr 1 (.tmp 10)), none⟩, ⟨(some 22), (.load1 (.tmp 21)), none⟩, ⟨(some 23), (.load1 (.tmp 5)), none⟩, ⟨(some 24), (.bin .neq (.tmp 22) (.tmp 23)), none⟩, ⟨(some 20), (.assign (.tmp 24)), none⟩]) (.cond (.tmp 20) .skip (.seq (.ops [⟨(some 26), (.faddr 0 (.tmp 10)), none⟩, ⟨(some 27), (.load1 (.tmp 26)), none⟩, ⟨(some 25), (.assign (.tmp 27)), none⟩]) (.cond (.tmp 25) (.ops [⟨(some 28), (.faddr 2 (.tmp 10)), none⟩, ⟨(some 29), (.load1 (.tmp 28)), none⟩, ⟨none, (.store 1 (.tmp 8) (.tmp 29)), none⟩, ⟨none, (.store 1 (.tmp 9) (.const (.bool true))), none⟩]) (.ops [⟨none, (.store 1 (.tmp 8) (.const (.int .i64 0))), none⟩, ⟨none, (.store 1 (.tmp 9) (.const (.bool false))), none⟩])))))))))) (.seq (.draws (.take ⟨(some 30), (.load1 (.tmp 8)), none⟩ (.take ⟨(some 31), (.load1 (.tmp 9)), none⟩ (.take ⟨(some 6), (.assign (.tmp 30)), none⟩ (.take ⟨(some 7), (.assign (.tmp 31)), none⟩ .done))))) .ret)))), [(.move (.tmp 6)), (.move (.tmp 7))]⟩
theorem k93 : cfun Tryz.prog 93 = some c93 := by kernel_rfl
def c120 : XFun := ⟨4, (.seq (.ops [⟨(some 1), (.box (.tmp 0)), none⟩, ⟨(some 2), (.assign (.const .nilFunc)), none⟩]) (.seq (.ops [⟨(some 3), (.mkfn (.func 139) [] [(.tmp 1)]), none⟩, ⟨(some 2), (.assign (.tmp 3)), none⟩]) .ret)), [(.move (.tmp 2))]⟩
theorem k120 : cfun Tryz.prog 120 = some c120 := by kernel_rfl
def c139 : XFun := ⟨26, (.seq (.ops [⟨(some 7), (.load1 (.tmp 1)), none⟩, ⟨(some 8), (.lenL (.tmp 7)), none⟩, ⟨(some 9), (.move (.const (.int .i64 0))), none⟩]) (.block 0 (.loop (.seq (.ops [⟨(some 10), (.bin .lss (.tmp 9) (.tmp 8)), none⟩]) (.seq (.cond (.tmp 10) .skip (.exit 0)) (.seq (.block 1 (.seq (.ops [⟨(some 11), (.iaddr 8 (.tmp 7) (.tmp 9)), none⟩, ⟨(some 12), (.loadN 8 (.tmp 11)), none⟩, ⟨(some 4), (.alloc [(.v (.int .i64 0)), (.v (.bool false)), (.v (.string (strB []))), (.v (.string (strB []))), (.sl 0 [] (some true) .exact), (.sl 0 [] (some true) .exact), (.sl 0 [] (some true) .exact), (.sl 0 [] (some true) .exact)]), none⟩, ⟨none, (.store 8 (.tmp 4) (.tmp 12)), none⟩]) (.seq (.ops [⟨(some 13), (.faddr 4 (.tmp 4)), none⟩, ⟨(some 14), (.load1 (.tmp 13)), none⟩, ⟨(some 15), (.lenL (.tmp 14)), none⟩, ⟨(some 16), (.move (.const (.int .i64 0))), none⟩]) (.block 2 (.loop (.seq (.ops [⟨(some 17), (.bin .lss (.tmp 16) (.tmp 15)), none⟩]) (.seq (.cond (.tmp 17) .skip (.exit 2)) (.seq (.block 3 (.seq (.ops [⟨(some 18), (.iaddr 3 (.tmp 14) (.tmp 16)), none⟩, ⟨(some 19), (.loadN 3 (.tmp 18)), none⟩, ⟨(some 6), (.alloc [(.v (.bool false)), (.v (.string (strB []))), (.v (.int .i64 0))]), none⟩, ⟨none, (.store 3 (.tmp 6) (.tmp 19)), none⟩]) (.seq (.ops [⟨(some 20), (.move (.tmp 0)), none⟩, ⟨(some 21), (.loadN 3 (.tmp 6)), none⟩, ⟨(some 22), (.callv (.tmp 20) [(.tmp 21)]), none⟩, ⟨(some 23), (.un .not (.tmp 22)), none⟩]) (.cond (.tmp 23) .ret .skip)))) (.ops [⟨(some 24), (.bin .add (.tmp 16) (.const (.int .i64 1))), none⟩, ⟨(some 16), (.move (.tmp 24)), none⟩]))))))))) (.ops [⟨(some 25), (.bin .add (.tmp 9) (.const (.int .i64 1))), none⟩, ⟨(some 9), (.move (.tmp 25)), none⟩]))))))), []⟩
theorem k139 : cfun Tryz.prog 139 = some c139 := by kernel_rfl
end Go.Proofs.YtdfgljojemmlcaaGreat.Ax
namespace Go.Proofs.YtdfgljojemmlcaaGreat.Ax
open Go.RowKit Go By
set_option maxRecDepth 10000
theorem coming_c (l : List En) (h : List (List AV)) : Contract Tryz.prog 120 [.sl 8 (enc enC l) none .no] h (.fn (.func 139) [] [.box h.length 0]) (h ++ [[.sl 8 (enc enC l) none .no]]) [] := by
 refine contract_of k120 mixed (by simp [c120]) fun hh hargs => ?_
 simp [c120, hh]
def offO (l : List En) (a : Nat) : Nat := (opsOf (l.take a)).length
theorem offO_succ {l : List En} {a : Nat} (ha : a < l.length) : offO l (a + 1) = offO l a + l[a].good.length := by
 unfold offO opsOf
 rw [take_snoc ha, List.flatMap_append]
 simp
theorem offO_all (l : List En) : offO l l.length = (opsOf l).length := by unfold offO; rw [List.take_length]
theorem offO_le (l : List En) (a : Nat) : offO l a <= (opsOf l).length := by
 unfold offO opsOf
 conv => rhs; rw [<- List.take_append_drop a l, List.flatMap_append, List.length_append]
 omega
theorem opsOf_at {l : List En} {a q : Nat} (ha : a < l.length) (hq : q < l[a].good.length) : (opsOf l)[offO l a + q]? = some l[a].good[q] := by
 have e : opsOf l = opsOf (l.take a) ++ (l[a].good ++ opsOf (l.drop (a + 1))) := by
  unfold opsOf
  conv => lhs; rw [<- List.take_append_drop a l, List.flatMap_append, List.drop_eq_getElem_cons ha, List.flatMap_cons]
 rw [e, List.getElem?_append_right (by unfold offO; omega)]
 show (l[a].good ++ _)[offO l a + q - offO l a]? = _
 rw [show offO l a + q - offO l a = q by omega, List.getElem?_append_left hq, List.getElem?_eq_getElem hq]
def opAt (l : List En) (j : Nat) : To := (opsOf l).getD j ⟨false, [], 0⟩
theorem opAt_at {l : List En} {a q : Nat} (ha : a < l.length) (hq : q < l[a].good.length) : opAt l (offO l a + q) = l[a].good[q] := by
 unfold opAt
 rw [List.getD_eq_getElem?_getD, opsOf_at ha hq]; rfl
theorem opAt_get {l : List En} {j : Nat} (hj : j < (opsOf l).length) : opAt l j = (opsOf l)[j] := by
 unfold opAt
 rw [List.getD_eq_getElem?_getD, List.getElem?_eq_getElem hj]; rfl
def RC (i0 : Nat) (l : List En) (L : Nat) (H : List (List AV)) : Prop := H.length = L /\ ltLL L H /\ H[i0]? = some [.sl 8 (enc enC l) none .no]
theorem coming_iter (l : List En) (hl : l.length <= 1000000) (hg : ∀ x ∈ l, x.good.length <= 1000000) (i0 L : Nat) : IterE Tryz.prog 139 [.box i0 0] (opsOf l).length (fun j => [.agg (toC (opAt l j))]) true (RC i0 l L) (fun j => [toC (opAt l j)]) := by
 intro i r c slots H wr hR hY
 have hL : ∀ j, j <= (opsOf l).length -> (H j).length = L := fun j hj => (hR j hj).1
 have hT : ∀ j, j <= (opsOf l).length -> ltLL L (H j) := fun j hj => (hR j hj).2.1
 have hI : ∀ j, j <= (opsOf l).length -> (H j)[i0]? = some [.sl 8 (enc enC l) none .no] := fun j hj => (hR j hj).2.2
 have h0 := hL 0 (by omega)
 refine contract_of k139 mixed (by simp [c139]) fun hh hargs => ?_
 rw [h0] at hh hargs ⊢
 simp at hargs
 simp [c139, hI 0 (by omega)]
 refine xloop_ok (D := Nat) (fun a => ⟨[(0, .yld i r c slots), (1, .box i0 0), (7, .sl 8 (enc enC l) none .no), (8, .v (.int .i64 (l.length : Int))), (9, .v (.int .i64 (a : Int)))], [], H (offO l a), wr⟩) (fun a => a <= l.length) (fun a => l.length - a) 0 (by omega) ?_ ?_
 ·have e0 : offO l 0 = 0 := rfl
  simp [Leq, hh, h0, hargs, leqH_take, e0]
  done
 ·intro a ha
  have hoa := offO_le l a
  by_cases hlt : a < l.length
  ·have hos := offO_succ hlt
   have hos2 := offO_le l (a + 1)
   have hgl := hg l[a] (List.getElem_mem hlt)
   have l1 := hL _ hoa
   have t1 := hT _ hoa
   simp [hlt, l1]
   refine xloop_ok (D := Nat) (fun q => ⟨[(0, .yld i r c slots), (1, .box i0 0), (7, .sl 8 (enc enC l) none .no), (8, .v (.int .i64 (l.length : Int))), (9, .v (.int .i64 (a : Int))), (14, .sl 3 (enc toC l[a].good) none .no), (15, .v (.int .i64 (l[a].good.length : Int))), (16, .v (.int .i64 (q : Int)))], [], H (offO l a + q), wr⟩) (fun q => q <= l[a].good.length) (fun q => l[a].good.length - q) 0 (by omega) ?_ ?_
   ·simp [Leq, h0, l1, t1, hargs, leqH_take, sub_self]
    done
   ·intro q hq
    by_cases hqt : q < l[a].good.length
    ·have eop := opAt_at hlt hqt
     have hyj := hY (offO l a + q) (by omega)
     dsimp only at hyj
     rw [eop] at hyj
     have l2 := hL (offO l a + q) (by omega)
     simp [hqt, l2]
     refine xyield_self (by simp) hyj ?_
     have hw : IntKind.i64.wrap ((q : Int) + 1) = (q : Int) + 1 := wrap64 (by omega) (by omega)
     have l3 := hL (offO l a + q + 1) (by omega)
     have t3 := hT (offO l a + q + 1) (by omega)
     simp [hw]
     refine ⟨q + 1, by omega, by omega, ?_⟩
     have e1 : offO l a + (q + 1) = offO l a + q + 1 := by omega
     simp [Leq, h0, l3, t3, hargs, leqH_take, e1, sub_self]
     intro x h1 h2
     rcases h1 with h1 | h1 | h1
     ·exact h1
     ·omega
     ·exact h1
    ·have : q = l[a].good.length := by omega
     subst this
     have hw : IntKind.i64.wrap ((a : Int) + 1) = (a : Int) + 1 := wrap64 (by omega) (by omega)
     have l3 := hL (offO l (a + 1)) (by omega)
     have t3 := hT (offO l (a + 1)) (by omega)
     rw [<- hos]
     simp [hw]
     refine ⟨a + 1, by omega, by omega, ?_⟩
     simp [Leq, h0, l3, t3, hargs, leqH_take, sub_self]
     done
  ·have : a = l.length := by omega
   subst this
   rw [offO_all]
   have h2 := hL _ (Nat.le_refl _)
   have h3 := hT _ (Nat.le_refl _)
   simp [h2, h3, leqH_take, sub_self]
   done
theorem prefix_lt {l : List En} {j : Nat} (hj : j < (opsOf l).length) : (opsOf l).take (j + 1) = (opsOf l).take j ++ [opAt l j] := by
 rw [take_snoc hj, opAt_get hj]
def heapG (name : List UInt8) (l : List En) (h : List (List AV)) (g : Option Int) : List (List AV) := h ++ [[.v (.string (strB name))], [.v (.int .i64 (g.getD 0))], [.v (.bool g.isSome)], [.sl 8 (enc enC l) none .no]]
theorem olookup_c {h : List (List AV)} {lo i : Nat} {T : Tb} (ht : TbAt lo h i T) (l : List En) (hl : l.length <= 1000000) (hg : ∀ x ∈ l, x.good.length <= 1000000) (name : List UInt8) :
  Contract Tryz.prog 93 [.box i 0, .sl 8 (enc enC l) none .no, .v (.string (strB name))] h (.tup [.v (.int .i64 ((lookO name (T.get name) (opsOf l)).getD 0)), .v (.bool (lookO name (T.get name) (opsOf l)).isSome)]) h [] := by
 have hi := ht.i_lt
 refine contract_of k93 mixed (by simp [c93]) fun hh hargs => ?_
 simp [c93]
 refine xcall_self (by simp) (tget_c (ht.app _ (by simp)) name) ?_
 simp
 refine xcall_self (by simp) (coming_c l _) ?_
 simp
 have hp := ltLL_mono (Nat.le_add_right h.length 5) hh
 have hp4 := ltLL_mono (Nat.le_add_right h.length 4) hh
 have hp6 := ltLL_mono (Nat.le_add_right h.length 6) hh
 refine xrange_allE (coming_iter l hl hg (h.length + 3) (h.length + 5)) (fun j => heapG name l h (lookO name (T.get name) ((opsOf l).take j))) [h.length + 1, h.length + 2, h.length + 4] (by simp) (by simp) (fun _ => by simp [XCode.okIn]) (fun _ => by simp [XCode.okIn]) (by simp [heapG, lookO, Tb.old]) (fun j _ => by simp [heapG]) (fun j _ => ⟨by simp [heapG], by simp [heapG, lstate, hp], by simp [heapG]⟩) (by simp [heapG, hp4]) (fun j hj => ⟨rfl, by simp, ?_⟩) ?_
 ·have e1 := prefix_lt hj
  have e2 := lookO_snoc name (T.get name) ((opsOf l).take j) (opAt l j)
  rw [<- e1] at e2
  dsimp only
  rw [e2]
  generalize lookO name (T.get name) ((opsOf l).take j) = g
  generalize opAt l j = op
  unfold stepG
  by_cases hn : op.name = name
  ·cases hs : op.set with
   | true =>
    simp [heapG, toC_mk, hn, hs, strB_toList]
    simp [rnd, stays, St.turn, hp6]
    done
   | false =>
    simp [heapG, toC_mk, hn, hs, strB_toList]
    simp [rnd, stays, St.turn, hp6]
    done
  ·simp [heapG, toC_mk, hn, strB_toList]
   simp [rnd, stays, St.turn, hp6]
   done
 ·simp [heapG, hh]
  done
section
variable {lo : Nat} {h : List (List AV)} {i : Nat} {T : Tb}
end
section
variable {lo : Nat} {h : List (List AV)} {i : Nat} {T : Tb}
end
section
variable {h : List (List AV)}
end
section
variable {h : List (List AV)} {tv : AV} {L : List Nm}
end
end Go.Proofs.YtdfgljojemmlcaaGreat.Ax
