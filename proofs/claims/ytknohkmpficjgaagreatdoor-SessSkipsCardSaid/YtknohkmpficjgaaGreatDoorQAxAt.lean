import Derived.Test.YtknohkmpficjgaaGreatDoorQAxXr
import Derived.Test.YtknohkmpficjgaaGreatDoorRows
import Derived.Laws.LoneSync
import Derived.Test.YtknohkmpficjgaaGreatDoorQAxIp
set_option linter.unusedSimpArgs false
set_option linter.unusedVariables false
namespace Go.Proofs.YtknohkmpficjgaaGreatDoor.Ax
open Go.RowKit Go By
def c9 : XFun := ⟨4, (.seq (.ops [⟨(some 0), (.assign (.const (.pointer none))), none⟩]) (.seq (.ops [⟨(some 1), (.makeMap 0 false), none⟩, ⟨(some 2), (.build [(.v (.map none)), (.v (.int .i64 0))] [(0, (1, (.tmp 1)))]), none⟩, ⟨(some 3), (.box (.tmp 2)), none⟩, ⟨(some 0), (.assign (.tmp 3)), none⟩]) .ret)), [(.move (.tmp 0))]⟩
theorem k9 : cfun Tryz.prog 9 = some c9 := by kernel_rfl
def c143 : XFun := ⟨10, (.seq (.ops [⟨(some 2), (.assign (.const (.int .i64 0))), none⟩]) (.seq (.seq (.ops [⟨(some 3), (.move (.tmp 0)), none⟩, ⟨(some 4), (.call 139 [(.tmp 3)]), none⟩, ⟨(some 5), (.un .not (.tmp 4)), none⟩]) (.cond (.tmp 5) (.seq (.ops [⟨(some 2), (.assign (.const (.int .i64 0))), none⟩]) .ret) .skip)) (.seq (.ops [⟨(some 6), (.move (.tmp 0)), none⟩, ⟨(some 7), (.nilCheck (.tmp 6)), none⟩, ⟨(some 8), (.faddr 1 (.tmp 7)), none⟩, ⟨(some 9), (.call 200 [(.tmp 8), (.const (.int .i64 1))]), none⟩, ⟨(some 2), (.assign (.tmp 9)), none⟩]) .ret))), [(.move (.tmp 2))]⟩
theorem k143 : cfun Tryz.prog 143 = some c143 := by kernel_rfl
def c81 : XFun := ⟨31, (.seq (.ops [⟨(some 4), (.box (.tmp 1)), none⟩, ⟨(some 6), (.assign (.const (.slice none 0 0))), none⟩]) (.seq (.seq (.ops [⟨(some 7), (.move (.tmp 0)), none⟩, ⟨(some 8), (.call 139 [(.tmp 7)]), none⟩, ⟨(some 9), (.un .not (.tmp 8)), none⟩]) (.cond (.tmp 9) (.seq (.ops [⟨(some 6), (.assign (.const (.slice none 0 0))), none⟩]) .ret) .skip)) (.seq (.seq (.ops [⟨(some 10), (.faddr 0 (.tmp 4)), none⟩, ⟨(some 11), (.load1 (.tmp 10)), none⟩]) (.block 0 (.seq (.ops [⟨(some 13), (.bin .eql (.tmp 11) (.const (.int .i64 5))), none⟩, ⟨(some 12), (.assign (.tmp 13)), none⟩]) (.cond (.tmp 12) (.seq (.ops [⟨(some 14), (.faddr 1 (.tmp 4)), none⟩, ⟨(some 15), (.load1 (.tmp 14)), none⟩, ⟨(some 16), (.call 140 [(.tmp 15)]), none⟩, ⟨(some 6), (.assign (.tmp 16)), none⟩]) .ret) (.seq (.ops [⟨(some 18), (.bin .eql (.tmp 11) (.const (.int .i64 6))), none⟩, ⟨(some 17), (.assign (.tmp 18)), none⟩]) (.cond (.tmp 17) (.seq (.ops [⟨(some 19), (.move (.tmp 2)), none⟩, ⟨(some 20), (.call 141 [(.tmp 19)]), none⟩, ⟨(some 21), (.buildSlice 1 1 [(.sl 0 [] (some true) .exact)] [(0, (.tmp 20))]), none⟩, ⟨(some 6), (.assign (.tmp 21)), none⟩]) .ret) (.seq (.ops [⟨(some 23), (.bin .eql (.tmp 11) (.const (.int .i64 7))), none⟩, ⟨(some 22), (.assign (.tmp 23)), none⟩]) (.cond (.tmp 22) (.seq (.ops [⟨(some 24), (.move (.tmp 0)), none⟩, ⟨(some 25), (.call 143 [(.tmp 24)]), none⟩, ⟨(some 26), (.call 142 [(.tmp 25)]), none⟩, ⟨(some 27), (.s2b (.tmp 26)), none⟩, ⟨(some 28), (.build [(.v (.bool false)), (.sl 0 [] (some true) .exact)] [(1, (1, (.tmp 27)))]), none⟩, ⟨(some 29), (.buildSlice 2 1 [(.v (.bool false)), (.sl 0 [] (some true) .exact)] [(0, (.tmp 28))]), none⟩, ⟨(some 30), (.buildSlice 1 1 [(.sl 0 [] (some true) .exact)] [(0, (.tmp 29))]), none⟩, ⟨(some 6), (.assign (.tmp 30)), none⟩]) .ret) .skip)))))))) (.seq (.ops [⟨(some 6), (.assign (.const (.slice none 0 0))), none⟩]) .ret)))), [(.move (.tmp 6))]⟩
theorem k81 : cfun Tryz.prog 81 = some c81 := by kernel_rfl
def c126 : XFun := ⟨36, (.seq (.ops [⟨(some 6), (.assign (.const (.string (strB [])))), none⟩, ⟨(some 7), (.assign (.const (.string (strB [])))), none⟩, ⟨(some 8), (.assign (.const (.bool false))), none⟩]) (.seq (.ops [⟨(some 10), (.move (.tmp 1)), none⟩, ⟨(some 11), (.call 76 [(.tmp 10)]), none⟩, ⟨(some 9), (.alloc [(.v (.int .i64 0)), (.v (.int .i64 0)), (.v (.string (strB [])))]), none⟩, ⟨none, (.store 3 (.tmp 9) (.tmp 11)), none⟩]) (.seq (.block 0 (.seq (.ops [⟨(some 13), (.move (.tmp 0)), none⟩, ⟨(some 14), (.call 139 [(.tmp 13)]), none⟩, ⟨(some 15), (.un .not (.tmp 14)), none⟩, ⟨(some 12), (.assign (.tmp 15)), none⟩]) (.cond (.tmp 12) (.seq (.ops [⟨(some 6), (.assign (.const (.string (strB [])))), none⟩, ⟨(some 7), (.assign (.const (.string (strB [])))), none⟩, ⟨(some 8), (.assign (.const (.bool false))), none⟩]) .ret) (.seq (.ops [⟨(some 17), (.faddr 0 (.tmp 9)), none⟩, ⟨(some 18), (.load1 (.tmp 17)), none⟩, ⟨(some 19), (.bin .eql (.tmp 18) (.const (.int .i64 0))), none⟩, ⟨(some 16), (.assign (.tmp 19)), none⟩]) (.cond (.tmp 16) (.seq (.ops [⟨(some 6), (.assign (.const (.string (strB [52, 50, 54, 48, 49])))), none⟩, ⟨(some 7), (.assign (.const (.string (strB [115, 121, 110, 116, 97, 120, 32, 101, 114, 114, 111, 114])))), none⟩, ⟨(some 8), (.assign (.const (.bool true))), none⟩]) .ret) (.seq (.ops [⟨(some 21), (.loadN 3 (.tmp 9)), none⟩, ⟨(some 22), (.call 134 [(.tmp 21)]), none⟩, ⟨(some 20), (.assign (.tmp 22)), none⟩]) (.cond (.tmp 20) (.seq (.ops [⟨(some 6), (.assign (.const (.string (strB [])))), none⟩, ⟨(some 7), (.assign (.const (.string (strB [])))), none⟩, ⟨(some 8), (.assign (.const (.bool false))), none⟩]) .ret) (.seq (.ops [⟨(some 24), (.move (.tmp 2)), none⟩, ⟨(some 25), (.bin .eql (.tmp 24) (.const (.int .u8 69))), none⟩, ⟨(some 23), (.assign (.tmp 25)), none⟩]) (.cond (.tmp 23) (.seq (.ops [⟨(some 26), (.call 176 []), none⟩, ⟨(some 6), (.assign (.const (.string (strB [50, 53, 80, 48, 50])))), none⟩, ⟨(some 7), (.assign (.tmp 26)), none⟩, ⟨(some 8), (.assign (.const (.bool true))), none⟩]) .ret) (.seq (.ops [⟨(some 28), (.faddr 0 (.tmp 9)), none⟩, ⟨(some 29), (.load1 (.tmp 28)), none⟩, ⟨(some 30), (.bin .neq (.tmp 29) (.const (.int .i64 1))), none⟩, ⟨(some 31), (.move (.tmp 30)), none⟩, ⟨(some 32), (.move (.tmp 0)), (some (31, true))⟩, ⟨(some 33), (.move (.tmp 1)), (some (31, true))⟩, ⟨(some 34), (.call 177 [(.tmp 32), (.tmp 33)]), (some (31, true))⟩, ⟨(some 35), (.pick (.tmp 31) (.tmp 34) (.const (.bool false))), none⟩, ⟨(some 27), (.assign (.tmp 35)), none⟩]) (.cond (.tmp 27) (.seq (.ops [⟨(some 6), (.assign (.const (.string (strB [52, 50, 80, 48, 49])))), none⟩, ⟨(some 7), (.assign (.const (.string (strB [114, 101, 108, 97, 116, 105, 111, 110, 32, 100, 111, 101, 115, 32, 110, 111, 116, 32, 101, 120, 105, 115, 116])))), none⟩, ⟨(some 8), (.assign (.const (.bool true))), none⟩]) .ret) .skip))))))))))) (.seq (.ops [⟨(some 6), (.assign (.const (.string (strB [])))), none⟩, ⟨(some 7), (.assign (.const (.string (strB [])))), none⟩, ⟨(some 8), (.assign (.const (.bool false))), none⟩]) .ret)))), [(.move (.tmp 6)), (.move (.tmp 7)), (.move (.tmp 8))]⟩
theorem k126 : cfun Tryz.prog 126 = some c126 := by kernel_rfl
def c176 : XFun := ⟨1, (.seq (.ops [⟨(some 0), (.assign (.const (.string (strB [])))), none⟩]) (.seq (.ops [⟨(some 0), (.assign (.const (.string (strB [99, 117, 114, 114, 101, 110, 116, 32, 116, 114, 97, 110, 115, 97, 99, 116, 105, 111, 110, 32, 105, 115, 32, 97, 98, 111, 114, 116, 101, 100, 44, 32, 99, 111, 109, 109, 97, 110, 100, 115, 32, 105, 103, 110, 111, 114, 101, 100, 32, 117, 110, 116, 105, 108, 32, 101, 110, 100, 32, 111, 102, 32, 116, 114, 97, 110, 115, 97, 99, 116, 105, 111, 110, 32, 98, 108, 111, 99, 107])))), none⟩]) .ret)), [(.move (.tmp 0))]⟩
theorem k176 : cfun Tryz.prog 176 = some c176 := by kernel_rfl
def c139 : XFun := ⟨12, (.seq (.ops [⟨(some 2), (.assign (.const (.bool false))), none⟩]) (.seq (.ops [⟨(some 3), (.move (.tmp 0)), none⟩, ⟨(some 4), (.pnileq true (.tmp 3)), none⟩, ⟨(some 5), (.move (.tmp 4)), none⟩, ⟨(some 6), (.move (.tmp 0)), (some (5, true))⟩, ⟨(some 7), (.nilCheck (.tmp 6)), (some (5, true))⟩, ⟨(some 8), (.faddr 0 (.tmp 7)), (some (5, true))⟩, ⟨(some 9), (.load1 (.tmp 8)), (some (5, true))⟩, ⟨(some 10), (.mnileq true (.tmp 9)), (some (5, true))⟩, ⟨(some 11), (.pick (.tmp 5) (.tmp 10) (.const (.bool false))), none⟩, ⟨(some 2), (.assign (.tmp 11)), none⟩]) .ret)), [(.move (.tmp 2))]⟩
theorem k139 : cfun Tryz.prog 139 = some c139 := by kernel_rfl
def c177 : XFun := ⟨17, (.seq (.ops [⟨(some 4), (.assign (.const (.bool false))), none⟩]) (.seq (.ops [⟨(some 8), (.move (.tmp 0)), none⟩, ⟨(some 9), (.nilCheck (.tmp 8)), none⟩, ⟨(some 10), (.faddr 0 (.tmp 9)), none⟩, ⟨(some 11), (.load1 (.tmp 10)), none⟩, ⟨(some 12), (.move (.tmp 1)), none⟩, ⟨(some 13), (.lookup none 0 false true [] (.tmp 11) (.tmp 12)), none⟩, ⟨(some 7), (.move (.tmp 13)), none⟩, ⟨(some 14), (.extract (.tmp 7) 0), none⟩, ⟨(some 15), (.extract (.tmp 7) 1), none⟩, ⟨(some 5), (.alloc []), none⟩, ⟨none, (.store 0 (.tmp 5) (.tmp 14)), none⟩, ⟨(some 6), (.assign (.tmp 15)), none⟩]) (.seq (.ops [⟨(some 16), (.move (.tmp 6)), none⟩, ⟨(some 4), (.assign (.tmp 16)), none⟩]) .ret))), [(.move (.tmp 4))]⟩
theorem k177 : cfun Tryz.prog 177 = some c177 := by kernel_rfl
end Go.Proofs.YtknohkmpficjgaaGreatDoor.Ax
namespace Go.Proofs.YtknohkmpficjgaaGreatDoor.Ax
set_option maxRecDepth 100000
open Go.RowKit Go By
set_option maxRecDepth 10000
section
variable {P : Program} {f : FuncId} {args : List AV} {h : List (List AV)}
theorem contract_set1 (hE : entersB P f = true) {i off : Nat} {cs : List AV} {x : Value} {r : AV} (hcs : h[i]? = some cs) (ho : off < cs.length) (hx : x.oneCell' = true) (hr : r.idOf = none)
  (hc : ∀ (G : Ghost) (w : World) (vs : List Value), WorldOk G w -> SeesH G h -> SeesL G args vs -> ∃ b v, G.boxes[i]? = some b /\ G.kinds b = none /\ Sees G r v /\ Calls P f vs.toArray w fun e w' => e = .returned v /\ w' = w.setCell ⟨b, G.base i + off, none⟩ x) :
  Contract P f args h r (h.set i (cs.set off (.v x))) [i] := by
 refine ⟨enters_ofB hE, fun G w vs cls hW hS hvs hown hoh => ?_⟩
 obtain ⟨b, v, hb, hk, hv, hcl⟩ := hc G w vs hW hS hvs
 refine hcl.mono fun e w' he => ?_
 obtain ⟨rfl, rfl⟩ := he
 have hlh : i < h.length := (List.getElem?_eq_some_iff.1 hcs).1
 have hbl : i < G.boxv.length := by rw [<- hS.1]; exact hlh
 obtain ⟨us, hus⟩ : ∃ us, G.boxv[i]? = some us := ⟨_, List.getElem?_eq_getElem hbl⟩
 obtain ⟨q1, q2, q3⟩ := hS.2 i cs us hcs hus
 have hW' := hW.setBox hb hk hus off [x] (by rw [q1]; simp; omega)
 have hE' : Ext G (G.setBox i (Ax.lay us off [x])) := Ext.setBox i _
 have el : Ax.lay us off [x] = us.set off x := rfl
 rw [el] at hW' hE'
 have at_ : ∀ (j : Nat) (ds : List AV) (ws : List Value), (h.set i (cs.set off (.v x)))[j]? = some ds -> (G.boxv.set i (us.set off x))[j]? = some ws -> (j = i /\ ds = cs.set off (.v x) /\ ws = us.set off x) \/ (j ≠ i /\ h[j]? = some ds /\ G.boxv[j]? = some ws) := fun j ds ws e1 e2 => by
  rw [List.getElem?_set] at e1 e2
  by_cases hi : i = j
  ·rw [if_pos hi, if_pos hlh] at e1
   rw [if_pos hi, if_pos hbl] at e2
   injection e1 with e1; injection e2 with e2
   exact .inl ⟨hi.symm, e1.symm, e2.symm⟩
  ·rw [if_neg hi] at e1 e2
   exact .inr ⟨fun hh => hi hh.symm, e1, e2⟩
 refine ⟨v, G.setBox i (us.set off x), cls, rfl, hE', hW', ⟨by simp [Ghost.setBox, hS.1], fun j ds ws e1 e2 => ?_⟩, fun j ds ws e1 e2 p y hj => ?_, hv.ext hE', .none _ hr, fun y hy => (by rw [hr] at hy; cases hy), fun j hj hn => ?_, fun y B hy _ => hy⟩
 ·rcases at_ j ds ws e1 e2 with ⟨_, rfl, rfl⟩ | ⟨_, h3, h4⟩
  ·refine ⟨by simpa using q1, fun y hy => ?_, fun p c hp => ?_⟩
   ·rcases List.mem_or_eq_of_mem_set hy with hy | rfl
    ·exact q2 y hy
    ·exact hx
   ·rw [List.getElem?_set] at hp
    by_cases hpo : off = p
    ·rw [if_pos hpo, if_pos ho] at hp
     injection hp with hp
     subst hp hpo
     rw [List.getD_eq_getElem?_getD, List.getElem?_set_self (by rw [q1]; exact ho)]
     exact .v _
    ·rw [if_neg hpo] at hp
     rw [List.getD_eq_getElem?_getD, List.getElem?_set_ne hpo, <- List.getD_eq_getElem?_getD]
     exact (q3 p c hp).ext hE'
  ·obtain ⟨h5, h6, h7⟩ := hS.2 j ds ws h3 h4
   exact ⟨h5, h6, fun p c hp => (h7 p c hp).ext hE'⟩
 ·rcases at_ j ds ws e1 e2 with ⟨rfl, rfl, rfl⟩ | ⟨_, h3, h4⟩
  ·rw [List.getElem?_set] at hj
   by_cases hpo : off = p
   ·rw [if_pos hpo, if_pos ho] at hj
    injection hj with hj
    subst hj
    exact ⟨.none _ rfl, fun y hy => by cases hy⟩
   ·rw [if_neg hpo] at hj
    obtain ⟨h5, h6⟩ := hoh j cs us hcs hus p y hj
    refine ⟨?_, h6⟩
    rw [List.getD_eq_getElem?_getD, List.getElem?_set_ne hpo, <- List.getD_eq_getElem?_getD]
    exact h5.move fun q y' B hB' _ hbB hcl => ⟨hbB, hcl, .inr (.inr ⟨j, cs, us, p, y, hcs, hus, hj, hB'⟩)⟩
  ·obtain ⟨h5, h6⟩ := hoh j ds ws h3 h4 p y hj
   exact ⟨h5.move fun q y' B hB' _ hbB hcl => ⟨hbB, hcl, .inr (.inr ⟨j, ds, ws, p, y, h3, h4, hj, hB'⟩)⟩, h6⟩
 ·show (G.boxv.set i _)[j]? = _
  rw [List.getElem?_set_ne (fun e => hn (by rw [e]; exact List.mem_cons_self ..))]
end
theorem atomAdd_any (b o : Nat) (n d : Int) (w : World) (hc : w.cell? ⟨b, o, none⟩ = some (.int .i64 n)) (hz : w.frozen? ⟨b, o, none⟩ = false) :
  Calls Tryz.prog 200 #[.pointer (some ⟨b, o, none⟩), .int .i64 d] w fun e w' => e = .returned (.int .i64 (IntKind.i64.wrap (n + d))) /\ w' = w.setCell ⟨b, o, none⟩ (.int .i64 (IntKind.i64.wrap (n + d))) := by
 have hadd := run_call_add (P := Tryz.prog) Tryz.func216 (by kernel_rfl) (by kernel_rfl) (by kernel_rfl) .i64 (by kernel_rfl) (y := d) (s := IntKind.i64.wrap (n + d)) hc hz (by simp [go_sem])
 go_enter Tryz.func200, Tryz.ntmps200
 go_wp2
 go_ret
 have e : IntKind.i64.wrap (n + d) = RowKit.wrap64 (n + d) := by unfold RowKit.wrap64; exact IntKind.wrap_i64 _
 rw [e]
 exact ⟨rfl, rfl⟩
theorem box_cell {G : Ghost} {w : World} {h : List (List AV)} (hW : WorldOk G w) (hS : SeesH G h) {i b off : Nat} {cs : List AV} {x : Value} (hcs : h[i]? = some cs) (hx : cs[off]? = some (.v x)) (hb : G.boxes[i]? = some b /\ G.kinds b = none) :
  w.cell? ⟨b, G.base i + off, none⟩ = some x /\ w.frozen? ⟨b, G.base i + off, none⟩ = false := by
 have hbl : i < G.boxv.length := by rw [<- hS.1]; exact (List.getElem?_eq_some_iff.1 hcs).1
 obtain ⟨us, hus⟩ : ∃ us, G.boxv[i]? = some us := ⟨_, List.getElem?_eq_getElem hbl⟩
 obtain ⟨q1, q2, q3⟩ := hS.2 i cs us hcs hus
 obtain ⟨b1, b2, b3, b4⟩ := hW.box i b us hb.1 hus
 have ho : off < us.length := by rw [q1]; exact (List.getElem?_eq_some_iff.1 hx).1
 have e := (q3 off _ hx).inv_v
 rw [List.getD_eq_getElem?_getD, List.getElem?_eq_getElem ho] at e
 have e : us[off] = x := e
 exact b4 off x (by rw [List.getElem?_eq_getElem ho, e]) hb.2
theorem atomAdd_c {h : List (List AV)} {i off : Nat} {cs : List AV} {n d : Int} (hcs : h[i]? = some cs) (hx : cs[off]? = some (.v (.int .i64 n))) :
  Contract Tryz.prog 200 [.box i off, .v (.int .i64 d)] h (.v (.int .i64 (IntKind.i64.wrap (n + d)))) (h.set i (cs.set off (.v (.int .i64 (IntKind.i64.wrap (n + d)))))) [i] :=
 contract_set1 (by kernel_rfl) hcs (List.getElem?_eq_some_iff.1 hx).1 rfl rfl fun G w vs hW hS hvs => by
  obtain ⟨a, c, rfl, ha, hc⟩ := seesL2 hvs
  obtain ⟨b, rfl, hb⟩ := ha.inv_box
  rw [hc.inv_v]
  obtain ⟨h1, h2⟩ := box_cell hW hS hcs hx hb
  exact ⟨b, _, hb.1, hb.2, .v _, atomAdd_any b _ n d w h1 h2⟩
end Go.Proofs.YtknohkmpficjgaaGreatDoor.Ax
