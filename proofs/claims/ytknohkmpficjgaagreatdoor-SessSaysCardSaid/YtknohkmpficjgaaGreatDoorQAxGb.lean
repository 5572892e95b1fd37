import Derived.Test.YtknohkmpficjgaaGreatDoorQAxSv
import Derived.Test.YtknohkmpficjgaaGreatDoorQAxAt
import Derived.Test.YtknohkmpficjgaaGreatDoorQAxSt
import Derived.Test.YtknohkmpficjgaaGreatDoorQAxCy
set_option linter.unusedSimpArgs false
set_option linter.unusedVariables false
open List renaming getElem?_append_left -> Q7, getElem?_eq_some_iff -> Q8, range_succ -> Ra, map_append -> Rb, range -> Rc
open Int renaming toNat_natCast -> Q9
namespace Go.Proofs.YtknohkmpficjgaaGreatDoor.Ax
open Go.RowKit Go By
def Gp:XFun:=⟨5,.seq (.ops [oN 2]) (.seq (.ops [oM 3 0,oX 4 (.call 214 [.tmp 3,.func 215]),oA 2 4]) .ret),[.move (.tmp 2)]⟩
theorem Pg : ai Tryz.prog 194 = some Gp := by kernel_rfl
def F4:XFun:=⟨6,.seq (.ops [oZ 2 bM]) (.seq (.ops [oM 3 0,oC 4 194 [3],oX 5 (.build bM [(0,1,.const (.int .u8 84)),(8,1,.tmp 4)]),oS 11 2 5]) .ret),[.loadN 11 (.tmp 2)]⟩
theorem OM : ai Tryz.prog 135 = some F4 := by kernel_rfl
def F9:XFun:=⟨5,.seq (.ops [oN 2]) (.seq (.ops [oM 3 0,oX 4 (.call 195 [.tmp 3,.func 196]),oA 2 4]) .ret),[.move (.tmp 2)]⟩
theorem OR : ai Tryz.prog 140 = some F9 := by kernel_rfl
def F6:XFun:=⟨6,.seq (.ops [oZ 2 bM]) (.seq (.ops [oM 3 0,oC 4 141 [3],oX 5 (.build bM [(0,1,.const (.int .u8 68)),(9,1,.tmp 4)]),oS 11 2 5]) .ret),[.loadN 11 (.tmp 2)]⟩
theorem OO : ai Tryz.prog 137 = some F6 := by kernel_rfl
def F7:XFun:=⟨6,.seq (.ops [oK 2 (.string (ah []))]) (.seq (.ops [oM 3 0,oC 4 142 [3],oX 5 (.bin .add (.const (.string (ah [83,69,76,69,67,84,32]))) (.tmp 4)),oA 2 5]) .ret),[.move (.tmp 2)]⟩
theorem OP : ai Tryz.prog 138 = some F7 := by kernel_rfl
def Gu:XFun:=⟨22,.seq (.ops [oN 4]) (.seq (.ops [oN 5]) (.seq (.seq (.ops [oM 7 0,oX 8 (.maxI [.tmp 7,.const (.int .i64 0)]),oX 9 (.minI [.tmp 8,.const (.int .i64 1000)]),oX 10 (.move (.const (.int .i64 0)))]) (.block 0 (.loop (.seq (.ops [oB 11 .lss 10 9]) (.seq (.cond (.tmp 11) .skip (.exit 0)) (.seq (.block 1 (.seq (.ops [oM 12 10,oA 6 12]) (.ops [oM 13 5,oM 14 1,oM 15 6,oI 16 .add 15 (.int .i64 1),oX 17 (.callv (.tmp 14) [.tmp 16]),oR 18 7 1 17 EC,oX 19 (.append 7 64 (.tmp 13) (.tmp 18)),oA 5 19]))) (.ops [oI 20 .add 10 (.int .i64 1),oM 10 20]))))))) (.seq (.ops [oM 21 5,oA 4 21]) .ret))),[.move (.tmp 4)]⟩
theorem Pp : ai Tryz.prog 214 = some Gu := by kernel_rfl
def Gq:XFun:=⟨22,.seq (.ops [oN 4]) (.seq (.ops [oN 5]) (.seq (.seq (.ops [oM 7 0,oX 8 (.maxI [.tmp 7,.const (.int .i64 0)]),oX 9 (.minI [.tmp 8,.const (.int .i64 1000)]),oX 10 (.move (.const (.int .i64 0)))]) (.block 0 (.loop (.seq (.ops [oB 11 .lss 10 9]) (.seq (.cond (.tmp 11) .skip (.exit 0)) (.seq (.block 1 (.seq (.ops [oM 12 10,oA 6 12]) (.ops [oM 13 5,oM 14 1,oM 15 6,oI 16 .add 15 (.int .i64 1),oX 17 (.callv (.tmp 14) [.tmp 16]),oR 18 1 1 17 yj,oX 19 (.append 1 24 (.tmp 13) (.tmp 18)),oA 5 19]))) (.ops [oI 20 .add 10 (.int .i64 1),oM 10 20]))))))) (.seq (.ops [oM 21 5,oA 4 21]) .ret))),[.move (.tmp 4)]⟩
theorem Ph : ai Tryz.prog 195 = some Gq := by kernel_rfl
def Gv:XFun:=⟨7,.seq (.ops [oZ 2 EC]) (.seq (.ops [oM 3 0,oC 4 142 [3],oX 5 (.bin .add (.const (.string (ah [99]))) (.tmp 4)),oX 6 (.build EC [(0,1,.tmp 5),(3,1,.const (.int .i64 25)),(4,1,.const (.int .i64 (-1))),(5,1,.const (.int .i64 (-1)))]),oS 7 2 6]) .ret),[.loadN 7 (.tmp 2)]⟩
theorem Pq : ai Tryz.prog 215 = some Gv := by kernel_rfl
def Gr:XFun:=⟨8,.seq (.ops [oN 2]) (.seq (.ops [oM 3 0,oC 4 142 [3],oX 5 (.s2b (.tmp 4)),oD 6 1 xg 5,oR 7 2 1 6 xg,oA 2 7]) .ret),[.move (.tmp 2)]⟩
theorem Pi : ai Tryz.prog 196 = some Gr := by kernel_rfl
end Go.Proofs.YtknohkmpficjgaaGreatDoor.Ax
namespace Go.Proofs.YtknohkmpficjgaaGreatDoor.Ax
open Go.RowKit Go By YtknohkmpficjgaaGreatDoor.Nm Sc Dg
set_option maxRecDepth 10000
def dt (n : Int) : Int := if n < 0 then 0 else if 1000 < n then 1000 else n
theorem tL (n : Int) : zc (tV n [0]) [1000] = dt n := by
 unfold zc tV dt
 simp only [List.foldl_cons, List.foldl_nil]
 repeat' split
 all_goals omega
theorem fF (n : Int) : 0 <= dt n /\ dt n <= 1000 := by unfold dt; repeat' split
                                                       all_goals omega
def yA (i : Int) : Co := ⟨99 :: Dg.textL i, 0, 0, 25, -1, -1, 0⟩
def er (k : Nat) : List Co := (Rc k).map fun (j : Nat) => yA ((j : Int) + 1)
theorem ve (j : Nat) : er (j + 1) = er j ++ [yA ((j : Int) + 1)] := by unfold er; rw [Ra, Rb]; rfl
theorem ql (j : Nat) : (er j).length = j := by unfold er; simp
theorem GS (n : Int) (h1 : -9223372036854775808 <= n) (h2 : n <= 9223372036854775807) (h : List (List AV)) : ae Tryz.prog 215 [.v (.int .i64 n)] h (.agg (iE (yA n))) h [] := by
 have hl := dy n h1 h2
 refine ac Pq mixed (by simp [Gv]) fun hh hargs => ?_
 simp [Gv]
 refine aa (by simp) (jf n h1 h2 _) ?_
 simp [hh, yA, vd]
 omega
theorem GV (n : Int) (h : List (List AV)) : ae Tryz.prog 214 [.v (.int .i64 n), .fn (.func 215) [] []] h (.sl 7 (al iE (er (dt n).toNat)) none .no) h [] := by
 obtain ⟨hk0, hk1⟩ := fF n
 have e := tL n
 obtain ⟨k, hk⟩ : ∃ k : Nat, dt n = k := ⟨(dt n).toNat, by omega⟩
 refine ac Pp mixed (by simp [Gu]) fun hh hargs => ?_
 rw [hk, Q9]
 rw [hk] at e
 simp [Gu, e]
 refine ar (D := Nat) (fun j => ⟨[(1, .fn (.func 215) [] []), (9, .v (.int .i64 k)), (10, .v (.int .i64 j))], [(5, .sl 7 (al iE (er j)) none (.own (.slot 5)))], h, []⟩) (fun j => j <= k) (fun j => k - j) 0 (by simp) ?_ ?_
 ·simp [Leq, hh, er]
 ·intro j hj
  by_cases hlt : j < k
  ·have hw : IntKind.i64.wrap ((j : Int) + 1) = (j : Int) + 1 := wrap64 (by omega) (by omega)
   have hlen := ql j
   simp [hlt, hw]
   refine aa (by simp) (GS _ (by omega) (by omega) _) ?_
   simp [hw, hlen]
   refine ⟨by omega, by omega, j + 1, by omega, by omega, ?_⟩
   simp [Leq, hh, ve]
  ·have : j = k := by omega
   subst this
   simp [hh]
theorem Dp (n : Int) (h : List (List AV)) : ae Tryz.prog 194 [.v (.int .i64 n)] h (.sl 7 (al iE (er (dt n).toNat)) none .no) h [] := by
 refine ac Pg mixed (by simp [Gp]) fun hh hargs => ?_
 simp [Gp]
 refine aa (by simp) (GV n _) ?_
 simp [hh]
def BF (i : Int) : List Cl := [(false, Dg.textL i)]
def iY (k : Nat) : List (List Cl) := (Rc k).map fun (j : Nat) => BF ((j : Int) + 1)
theorem wh (j : Nat) : iY (j + 1) = iY j ++ [BF ((j : Int) + 1)] := by unfold iY; rw [Ra, Rb]; rfl
theorem qW (j : Nat) : (iY j).length = j := by unfold iY; simp
theorem GX (n : Int) (h1 : -9223372036854775808 <= n) (h2 : n <= 9223372036854775807) (h : List (List AV)) : ae Tryz.prog 196 [.v (.int .i64 n)] h (.sl 2 (al aq (BF n)) none .no) h [] := by
 have hl := dy n h1 h2
 refine ac Pi mixed (by simp [Gr]) fun hh hargs => ?_
 simp [Gr]
 refine aa (by simp) (jf n h1 h2 _) ?_
 simp [hh, BF, aq]
 omega
theorem GY (n : Int) (h1 : -9223372036854775808 <= n) (h2 : n <= 9223372036854775807) (h : List (List AV)) : ae Tryz.prog 138 [.v (.int .i64 n)] h (.v (.string (ah ([83, 69, 76, 69, 67, 84, 32] ++ Dg.textL n)))) h [] := by
 have hl := dy n h1 h2
 refine ac OP mixed (by simp [F7]) fun hh hargs => ?_
 simp [F7]
 refine aa (by simp) (jf n h1 h2 _) ?_
 simp [hh]
 omega
theorem Dq (n : Int) (h : List (List AV)) : ae Tryz.prog 135 [.v (.int .i64 n)] h (.agg (aU ⟨84, 0, [], [], [], 0, 0, [], er (dt n).toNat, [], []⟩)) h [] := by
 refine ac OM mixed (by simp [F4]) fun hh hargs => ?_
 simp [F4]
 refine aa (by simp) (Dp n _) ?_
 simp [hh, aB]
theorem Dr (n : Int) (h : List (List AV)) : ae Tryz.prog 195 [.v (.int .i64 n), .fn (.func 196) [] []] h (.sl 1 (al bl (iY (dt n).toNat)) none .no) h [] := by
 obtain ⟨hk0, hk1⟩ := fF n
 have e := tL n
 obtain ⟨k, hk⟩ : ∃ k : Nat, dt n = k := ⟨(dt n).toNat, by omega⟩
 refine ac Ph mixed (by simp [Gq]) fun hh hargs => ?_
 rw [hk, Q9]
 rw [hk] at e
 simp [Gq, e]
 refine ar (D := Nat) (fun j => ⟨[(1, .fn (.func 196) [] []), (9, .v (.int .i64 k)), (10, .v (.int .i64 j))], [(5, .sl 1 (al bl (iY j)) none (.own (.slot 5)))], h, []⟩) (fun j => j <= k) (fun j => k - j) 0 (by simp) ?_ ?_
 ·simp [Leq, hh, iY]
 ·intro j hj
  by_cases hlt : j < k
  ·have hw : IntKind.i64.wrap ((j : Int) + 1) = (j : Int) + 1 := wrap64 (by omega) (by omega)
   have hlen := qW j
   simp [hlt, hw]
   refine aa (by simp) (GX _ (by omega) (by omega) _) ?_
   simp [hw, hlen]
   refine ⟨by omega, by omega, j + 1, by omega, by omega, ?_⟩
   simp [Leq, hh, wh, lk]
  ·have : j = k := by omega
   subst this
   simp [hh]
theorem Du (n : Int) (h : List (List AV)) : ae Tryz.prog 140 [.v (.int .i64 n)] h (.sl 1 (al bl (iY (dt n).toNat)) none .no) h [] := by
 refine ac OR mixed (by simp [F9]) fun hh hargs => ?_
 simp [F9]
 refine aa (by simp) (Dr n _) ?_
 simp [hh]
end Go.Proofs.YtknohkmpficjgaaGreatDoor.Ax
namespace Go.Proofs.YtknohkmpficjgaaGreatDoor.Ax
open Go.RowKit Go By Dg
set_option maxRecDepth 10000
def JA (_ : Unit) : List AV := []
theorem DC (v : Unit) : (JA v).length = 0 := rfl
theorem zf (v : Unit) : ∀ c ∈ JA v, c.idOf = none := fun c hc => by cases hc
structure Eg where
 a : Nat
 n : Nat
 clock : Nat
 e : List (KE Unit)
def Eg.cells (T : Eg) : List AV := aJ T.clock (T.e.map (KE.ent JA))
def Eg.no (T : Eg) (k : List UInt8) : Bool := (KE.get k T.e).isSome
theorem Eg.of_cells (T : Eg) : mapOf 0 T.cells = some (T.clock, T.e.map (KE.ent JA)) := KE.ents_of DC _ _
theorem Eg.keys (T : Eg) : fa none (T.e.map (KE.ent JA)) := KE.ents_keys zf _
theorem Eg.found (T : Eg) (k : List UInt8) : Ax.found false true [] (AEnt.find (.string (ah k)) (T.e.map (KE.ent JA)) 0) = .tup [.agg [], .v (.bool (T.no k))] := by
 rw [KE.found_eq]
 unfold Eg.no
 cases KE.get k T.e <;> rfl
def fB (a : Nat) (n : Nat) : List AV := [.mp a 0 false, .v (.int .i64 (n : Int))]
structure EgAt (h : List (List AV)) (i : Nat) (T : Eg) : Prop where
 top : h[i]? = some (fB T.a T.n)
 ents : h[T.a]? = some T.cells
 apart : i ≠ T.a
section
variable {h : List (List AV)} {i : Nat} {T : Eg}
theorem EgAt.i_lt (ht : EgAt h i T) : i < h.length := (Q8.1 ht.top).1
theorem EgAt.a_lt (ht : EgAt h i T) : T.a < h.length := (Q8.1 ht.ents).1
theorem EgAt.move (ht : EgAt h i T) {h' : List (List AV)} (h1 : h'[i]? = h[i]?) (h2 : h'[T.a]? = h[T.a]?) : EgAt h' i T := ⟨h1.trans ht.top, h2.trans ht.ents, ht.apart⟩
theorem EgAt.app (ht : EgAt h i T) (xs : List (List AV)) : EgAt (h ++ xs) i T := ht.move (Q7 ht.i_lt) (Q7 ht.a_lt)
theorem vQ (ht : EgAt h i T) : ae Tryz.prog 139 [.box i 0] h (.v (.bool true)) h [] := by
 have h1 := ht.top
 refine ac OQ mixed (by simp [F8]) fun hh hargs => ?_
 simp [F8, h1, fB, hh]
theorem vx (ht : EgAt h i T) (k : List UInt8) : ae Tryz.prog 177 [.box i 0, .v (.string (ah k))] h (.v (.bool (T.no k))) h [] := by
 have h1 := ht.top
 have h2 := ht.ents
 have h3 := T.of_cells
 have h4 := T.keys
 have h5 := T.found k
 have hi := ht.i_lt
 have ha := ht.a_lt
 have g1 : ∀ xs, (h ++ xs)[i]? = some (fB T.a T.n) := fun xs => by rw [Q7 hi]; exact h1
 have g2 : ∀ xs, (h ++ xs)[T.a]? = some T.cells := fun xs => by rw [Q7 ha]; exact h2
 refine ac O6 mixed (by simp [Gh]) fun hh hargs => ?_
 simp [Gh, h1, h2, h3, h4, h5, hh, fB, g1, g2]
theorem Dh (ht : EgAt h i T) (hn : T.n <= 1000000) : ae Tryz.prog 143 [.box i 0] h (.v (.int .i64 ((T.n + 1 : Nat) : Int))) (h.set i (fB T.a (T.n + 1))) [i] := by
 have h1 := ht.top
 have hi := ht.i_lt
 have ha := ht.a_lt
 have hw : IntKind.i64.wrap ((T.n : Int) + 1) = ((T.n + 1 : Nat) : Int) := wrap64 (by omega) (by omega)
 have key := yo (n := (T.n : Int)) (d := 1) (off := 1) h1 rfl
 rw [hw] at key
 have e : (fB T.a T.n).set 1 (.v (.int .i64 ((T.n + 1 : Nat) : Int))) = fB T.a (T.n + 1) := rfl
 rw [e] at key
 refine ac OS mixed (by simp [Ga]) fun hh hargs => ?_
 simp [Ga]
 refine aa (by simp) (vQ ht) ?_
 simp
 refine aa (by simp) key ?_
 simp [fB, ay, hh, ha]
end
end Go.Proofs.YtknohkmpficjgaaGreatDoor.Ax
