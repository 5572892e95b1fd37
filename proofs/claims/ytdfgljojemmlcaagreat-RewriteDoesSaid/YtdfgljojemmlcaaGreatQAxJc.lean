import Derived.Test.YtdfgljojemmlcaaGreatQAxWo
set_option linter.unusedSimpArgs false
set_option linter.unusedVariables false
open List renaming take_length -> Q0, take_succ_eq_append_getElem -> Q1, getElem_mem -> Q3
open Bool renaming eq_iff_iff -> Q2
namespace Go.Proofs.YtdfgljojemmlcaaGreat.Ax
open Go.RowKit Go By
def Kz:XFun:=⟨30,.seq (.ops [oN 4,oN 5]) (.seq (.seq (.ops [oM 8 0,oH 9 8,oI 10 .eql 9 (.int .i64 0),oM 11 10,oG 11 false (oM 12 0),oG 11 false (oH 13 12),oG 11 false (oM 14 1),oG 11 false (oB 15 .lss 13 14),oU 16 11 15]) (.cond (.tmp 16) (.seq (.ops [oN 4,oN 5]) .ret) .skip)) (.seq (.ops [oM 17 0,oX 18 (.iaddr 1 (.tmp 17) (.const (.int .i64 0))),oL 19 18,oA 6 19]) (.seq (.ops [oM 20 6,oX 21 (.build z6 [(0,1,.const (.int .i64 2)),(1,1,.tmp 20)]),oR 22 2 1 21 z6,oX 23 (.call 96 [.const (.int .i64 7),.tmp 22]),oZ 7 z0,oS 8 7 23]) (.seq (.draws (.take (oM 24 6) (.take (oP 28 8 7) (.two (oC 25 63 [24]) (oR 29 8 1 28 z0) (.two (oC 26 97 [25]) (oR 29 8 1 28 z0) (.two (oR 27 10 1 26 z1) (oR 29 8 1 28 z0) (.take (oA 4 27) (.only (oR 29 8 1 28 z0) (.take (oA 5 29) .done))) (.only (oR 27 10 1 26 z1) (.take (oA 4 27) (.take (oA 5 29) .done)))) (.only (oC 26 97 [25]) (.only (oR 27 10 1 26 z1) (.take (oA 4 27) (.take (oA 5 29) .done))))) (.only (oC 25 63 [24]) (.only (oC 26 97 [25]) (.only (oR 27 10 1 26 z1) (.take (oA 4 27) (.take (oA 5 29) .done))))))))) .ret)))),[.move (.tmp 4),.move (.tmp 5)]⟩
theorem Qo : ak Tryz.prog 62 = some Kz := by kernel_rfl
def c66:XFun:=⟨37,.seq (.ops [oJ 7 3,oN 8,oN 9]) (.seq (.seq (.ops [oM 13 0,oM 14 2,oC 15 59 [13,14]]) (.cond (.tmp 15) (.seq (.ops [oN 8,oN 9]) .ret) .skip)) (.seq (.ops [oM 17 0,oM 18 1,oC 19 62 [17,18],oM 16 19,oE 20 16 0,oE 21 16 1,oA 10 20,oA 11 21]) (.seq (.ops [oM 22 2,oX 23 (.build z6 [(0,1,.const (.int .i64 1)),(1,1,.tmp 22)]),oR 24 2 1 23 z6,oX 25 (.call 96 [.const (.int .i64 2),.tmp 24]),oZ 12 z0,oS 8 12 25]) (.seq (.draws (.take (oM 26 10) (.take (oM 27 2) (.take (oP 29 2 7) (.take (oM 33 11) (.take (oP 34 8 12) (.two (oC 28 63 [27]) (oR 35 8 1 34 z0) (.two (oC 30 99 [28,29]) (oR 35 8 1 34 z0) (.two (oR 31 10 1 30 z1) (oR 35 8 1 34 z0) (.two (oX 32 (.append 10 160 (.tmp 26) (.tmp 31))) (oR 35 8 1 34 z0) (.only (oR 35 8 1 34 z0) (.only (oX 36 (.append 8 144 (.tmp 33) (.tmp 35))) (.take (oA 8 32) (.take (oA 9 36) .done)))) (.only (oX 32 (.append 10 160 (.tmp 26) (.tmp 31))) (.only (oX 36 (.append 8 144 (.tmp 33) (.tmp 35))) (.take (oA 8 32) (.take (oA 9 36) .done))))) (.only (oR 31 10 1 30 z1) (.only (oX 32 (.append 10 160 (.tmp 26) (.tmp 31))) (.only (oX 36 (.append 8 144 (.tmp 33) (.tmp 35))) (.take (oA 8 32) (.take (oA 9 36) .done)))))) (.only (oC 30 99 [28,29]) (.only (oR 31 10 1 30 z1) (.only (oX 32 (.append 10 160 (.tmp 26) (.tmp 31))) (.only (oX 36 (.append 8 144 (.tmp 33) (.tmp 35))) (.take (oA 8 32) (.take (oA 9 36) .done))))))) (.only (oC 28 63 [27]) (.only (oC 30 99 [28,29]) (.only (oR 31 10 1 30 z1) (.only (oX 32 (.append 10 160 (.tmp 26) (.tmp 31))) (.only (oX 36 (.append 8 144 (.tmp 33) (.tmp 35))) (.take (oA 8 32) (.take (oA 9 36) .done)))))))))))))) .ret)))),[.move (.tmp 8),.move (.tmp 9)]⟩
theorem PD : ak Tryz.prog 66 = some c66 := by kernel_rfl
def OM:XFun:=⟨12,.seq (.ops [oJ 3 1,oZ 4 z1]) (.seq (.draws (.take (oM 5 0) (.take (oF 6 0 3) (.take (oL 7 6) (.take (oF 8 1 3) (.take (oL 9 8) (.only (oC 10 53 [9]) (.take (oX 11 (.build z1 [(0,1,.const (.int .u8 80)),(2,1,.tmp 5),(4,1,.tmp 7),(5,1,.tmp 10)])) (.last (oS 10 4 11)))))))))) .ret),[.loadN 10 (.tmp 4)]⟩
theorem Ql : ak Tryz.prog 99 = some OM := by kernel_rfl
def Nw:XFun:=⟨5,.seq (.ops [oZ 2 z1]) (.seq (.ops [oM 3 0,oX 4 (.build z1 [(0,1,.const (.int .u8 67)),(1,1,.const (.int .u8 83)),(2,1,.tmp 3)]),oS 10 2 4]) .ret),[.loadN 10 (.tmp 2)]⟩
theorem Qj : ak Tryz.prog 97 = some Nw := by kernel_rfl
def NK:XFun:=⟨8,.seq (.ops [oZ 4 z0]) (.seq (.ops [oM 5 0,oM 6 1,oX 7 (.build z0 [(0,1,.tmp 5),(1,1,.const (.bool true)),(6,1,.tmp 6)]),oS 8 4 7]) .ret),[.loadN 8 (.tmp 4)]⟩
theorem PY : ak Tryz.prog 96 = some NK := by kernel_rfl
def Ib:XFun:=⟨30,.seq (.ops [oN 4,oN 5]) (.seq (.seq (.ops [oM 7 0,oH 8 7,oM 9 1,oB 10 .lss 8 9,oM 11 10,oG 11 false (oM 12 0),oG 11 false (oH 13 12),oG 11 false (oI 14 .eql 13 (.int .i64 0)),oU 15 11 14]) (.cond (.tmp 15) (.seq (.ops [oN 4,oN 5]) .ret) .skip)) (.seq (.ops [oM 16 0,oX 17 (.iaddr 1 (.tmp 16) (.const (.int .i64 0))),oL 18 17,oX 19 (.build z6 [(0,1,.const (.int .i64 2)),(1,1,.tmp 18)]),oR 20 2 1 19 z6,oX 21 (.build z0 [(0,1,.const (.int .i64 7)),(1,1,.const (.bool true)),(6,1,.tmp 20)]),oZ 6 z0,oS 8 6 21]) (.seq (.draws (.take (oM 22 0) (.take (oX 23 (.iaddr 1 (.tmp 22) (.const (.int .i64 0)))) (.take (oL 24 23) (.take (oP 28 8 6) (.two (oC 25 74 [24]) (oR 29 8 1 28 z0) (.two (oC 26 103 [25]) (oR 29 8 1 28 z0) (.two (oR 27 10 1 26 z1) (oR 29 8 1 28 z0) (.take (oA 4 27) (.only (oR 29 8 1 28 z0) (.take (oA 5 29) .done))) (.only (oR 27 10 1 26 z1) (.take (oA 4 27) (.take (oA 5 29) .done)))) (.only (oC 26 103 [25]) (.only (oR 27 10 1 26 z1) (.take (oA 4 27) (.take (oA 5 29) .done))))) (.only (oC 25 74 [24]) (.only (oC 26 103 [25]) (.only (oR 27 10 1 26 z1) (.take (oA 4 27) (.take (oA 5 29) .done))))))))))) .ret))),[.move (.tmp 4),.move (.tmp 5)]⟩
theorem Qa : ak Tryz.prog 73 = some Ib := by kernel_rfl
def c76:XFun:=⟨37,.seq (.ops [oJ 7 3,oN 8,oN 9]) (.seq (.seq (.ops [oM 13 0,oM 14 2,oC 15 72 [13,14]]) (.cond (.tmp 15) (.seq (.ops [oN 8,oN 9]) .ret) .skip)) (.seq (.ops [oM 17 0,oM 18 1,oC 19 73 [17,18],oM 16 19,oE 20 16 0,oE 21 16 1,oA 10 20,oA 11 21]) (.seq (.ops [oM 22 2,oX 23 (.build z6 [(0,1,.const (.int .i64 1)),(1,1,.tmp 22)]),oR 24 2 1 23 z6,oX 25 (.build z0 [(0,1,.const (.int .i64 2)),(1,1,.const (.bool true)),(6,1,.tmp 24)]),oZ 12 z0,oS 8 12 25]) (.seq (.draws (.take (oM 26 10) (.take (oM 27 2) (.take (oP 29 2 7) (.take (oM 33 11) (.take (oP 34 8 12) (.two (oC 28 74 [27]) (oR 35 8 1 34 z0) (.two (oC 30 105 [28,29]) (oR 35 8 1 34 z0) (.two (oR 31 10 1 30 z1) (oR 35 8 1 34 z0) (.two (oX 32 (.append 10 160 (.tmp 26) (.tmp 31))) (oR 35 8 1 34 z0) (.only (oR 35 8 1 34 z0) (.only (oX 36 (.append 8 144 (.tmp 33) (.tmp 35))) (.take (oA 8 32) (.take (oA 9 36) .done)))) (.only (oX 32 (.append 10 160 (.tmp 26) (.tmp 31))) (.only (oX 36 (.append 8 144 (.tmp 33) (.tmp 35))) (.take (oA 8 32) (.take (oA 9 36) .done))))) (.only (oR 31 10 1 30 z1) (.only (oX 32 (.append 10 160 (.tmp 26) (.tmp 31))) (.only (oX 36 (.append 8 144 (.tmp 33) (.tmp 35))) (.take (oA 8 32) (.take (oA 9 36) .done)))))) (.only (oC 30 105 [28,29]) (.only (oR 31 10 1 30 z1) (.only (oX 32 (.append 10 160 (.tmp 26) (.tmp 31))) (.only (oX 36 (.append 8 144 (.tmp 33) (.tmp 35))) (.take (oA 8 32) (.take (oA 9 36) .done))))))) (.only (oC 28 74 [27]) (.only (oC 30 105 [28,29]) (.only (oR 31 10 1 30 z1) (.only (oX 32 (.append 10 160 (.tmp 26) (.tmp 31))) (.only (oX 36 (.append 8 144 (.tmp 33) (.tmp 35))) (.take (oA 8 32) (.take (oA 9 36) .done)))))))))))))) .ret)))),[.move (.tmp 8),.move (.tmp 9)]⟩
theorem PC : ak Tryz.prog 76 = some c76 := by kernel_rfl
def Gw:XFun:=⟨12,.seq (.ops [oJ 3 1,oZ 4 z1]) (.seq (.draws (.take (oM 5 0) (.take (oF 6 0 3) (.take (oL 7 6) (.take (oF 8 1 3) (.take (oL 9 8) (.only (oX 10 (.append 1 8 (.const (.slice none 0 0)) (.tmp 9))) (.take (oX 11 (.build z1 [(0,1,.const (.int .u8 80)),(2,1,.tmp 5),(4,1,.tmp 7),(5,1,.tmp 10)])) (.last (oS 10 4 11)))))))))) .ret),[.loadN 10 (.tmp 4)]⟩
theorem Mb : ak Tryz.prog 105 = some Gw := by kernel_rfl
def GK:XFun:=⟨5,.seq (.ops [oZ 2 z1]) (.seq (.ops [oM 3 0,oX 4 (.build z1 [(0,1,.const (.int .u8 67)),(1,1,.const (.int .u8 83)),(2,1,.tmp 3)]),oS 10 2 4]) .ret),[.loadN 10 (.tmp 2)]⟩
theorem N9 : ak Tryz.prog 103 = some GK := by kernel_rfl
def Lz:XFun:=⟨27,.seq (.ops [oK 4 (.bool false)]) (.seq (.seq (.ops [oM 6 0,oH 7 6,oM 8 1,oH 9 8,oB 10 .neq 7 9]) (.cond (.tmp 10) (.seq (.ops [oK 4 (.bool false)]) .ret) .skip)) (.seq (.seq (.ops [oK 5 (.int .i64 0)]) (.block 0 (.loop (.seq (.seq (.ops [oM 11 5,oM 12 0,oH 13 12,oB 14 .lss 11 13]) (.cond (.tmp 14) .skip (.exit 0))) (.seq (.block 1 (.seq (.draws (.take (oM 17 0) (.take (oM 18 5) (.take (oW 19 8 17 18) (.take (oP 20 8 19) (.take (oM 21 1) (.take (oM 22 5) (.take (oW 23 8 21 22) (.take (oP 24 8 23) (.only (oC 25 39 [20,24]) (.take (oV 26 25) .done))))))))))) (.cond (.tmp 26) (.seq (.ops [oK 4 (.bool false)]) .ret) .skip))) (.ops [oM 15 5,oI 16 .add 15 (.int .i64 1),oA 5 16])))))) (.seq (.ops [oK 4 (.bool true)]) .ret))),[.move (.tmp 4)]⟩
theorem P2 : ak Tryz.prog 11 = some Lz := by kernel_rfl
def Dn:XFun:=⟨80,.seq (.ops [oJ 2 0,oJ 3 1,oK 4 (.bool false)]) (.seq (.seq (.ops [oF 6 0 2,oL 7 6,oF 8 0 3,oL 9 8,oB 10 .neq 7 9,oM 11 10,oG 11 false (oF 12 1 2),oG 11 false (oL 13 12),oG 11 false (oF 14 1 3),oG 11 false (oL 15 14),oG 11 false (oX 16 (.beq true (.tmp 13) (.tmp 15))),oU 17 11 16,oM 18 17,oG 18 false (oF 19 2 2),oG 18 false (oL 20 19),oG 18 false (oF 21 2 3),oG 18 false (oL 22 21),oG 18 false (oB 23 .neq 20 22),oU 24 18 23,oM 25 24,oG 25 false (oF 26 3 2),oG 25 false (oL 27 26),oG 25 false (oF 28 3 3),oG 25 false (oL 29 28),oG 25 false (oB 30 .neq 27 29),oU 31 25 30,oM 32 31,oG 32 false (oF 33 7 2),oG 32 false (oL 34 33),oG 32 false (oX 35 (.b2s (.tmp 34))),oG 32 false (oF 36 7 3),oG 32 false (oL 37 36),oG 32 false (oX 38 (.b2s (.tmp 37))),oG 32 false (oB 39 .neq 35 38),oU 40 32 39,oM 41 40,oG 41 false (oF 42 6 2),oG 41 false (oL 43 42),oG 41 false (oH 44 43),oG 41 false (oF 45 6 3),oG 41 false (oL 46 45),oG 41 false (oH 47 46),oG 41 false (oB 48 .neq 44 47),oU 49 41 48]) (.cond (.tmp 49) (.seq (.ops [oK 4 (.bool false)]) .ret) .skip)) (.seq (.seq (.ops [oK 5 (.int .i64 0)]) (.block 0 (.loop (.seq (.seq (.ops [oM 50 5,oF 51 6 2,oL 52 51,oH 53 52,oB 54 .lss 50 53]) (.cond (.tmp 54) .skip (.exit 0))) (.seq (.block 1 (.seq (.draws (.take (oF 57 6 2) (.take (oL 58 57) (.take (oM 59 5) (.take (oW 60 2 58 59) (.take (oP 61 2 60) (.take (oF 62 6 3) (.take (oL 63 62) (.take (oM 64 5) (.take (oW 65 2 63 64) (.take (oP 66 2 65) (.take (oX 67 (.aeq true [1,1] (.tmp 61) (.tmp 66))) .done)))))))))))) (.cond (.tmp 67) (.seq (.ops [oK 4 (.bool false)]) .ret) .skip))) (.ops [oM 55 5,oI 56 .add 55 (.int .i64 1),oA 5 56])))))) (.seq (.ops [oF 68 4 2,oL 69 68,oF 70 4 3,oL 71 70,oC 72 81 [69,71],oM 73 72,oG 73 true (oF 74 5 2),oG 73 true (oL 75 74),oG 73 true (oF 76 5 3),oG 73 true (oL 77 76),oG 73 true (oC 78 81 [75,77]),oT 79 73 78,oA 4 79]) .ret))),[.move (.tmp 4)]⟩
theorem Qe : ak Tryz.prog 39 = some Dn := by kernel_rfl
def Lu:XFun:=⟨26,.seq (.ops [oK 4 (.bool false)]) (.seq (.seq (.ops [oM 6 0,oH 7 6,oM 8 1,oH 9 8,oB 10 .neq 7 9]) (.cond (.tmp 10) (.seq (.ops [oK 4 (.bool false)]) .ret) .skip)) (.seq (.seq (.ops [oK 5 (.int .i64 0)]) (.block 0 (.loop (.seq (.seq (.ops [oM 11 5,oM 12 0,oH 13 12,oB 14 .lss 11 13]) (.cond (.tmp 14) .skip (.exit 0))) (.seq (.block 1 (.seq (.draws (.take (oM 17 0) (.take (oM 18 5) (.take (oW 19 3 17 18) (.take (oP 20 3 19) (.take (oM 21 1) (.take (oM 22 5) (.take (oW 23 3 21 22) (.take (oP 24 3 23) (.take (oX 25 (.aeq true [0,2,1] (.tmp 20) (.tmp 24))) .done)))))))))) (.cond (.tmp 25) (.seq (.ops [oK 4 (.bool false)]) .ret) .skip))) (.ops [oM 15 5,oI 16 .add 15 (.int .i64 1),oA 5 16])))))) (.seq (.ops [oK 4 (.bool true)]) .ret))),[.move (.tmp 4)]⟩
theorem Qt : ak Tryz.prog 81 = some Lu := by kernel_rfl
def Qz:XFun:=⟨32,.seq (.ops [oK 6 (.bool false)]) (.seq (.seq (.ops [oM 10 0,oH 11 10,oM 12 1,oH 13 12,oB 14 .neq 11 13]) (.cond (.tmp 14) (.seq (.ops [oK 6 (.bool false)]) .ret) .skip)) (.seq (.seq (.ops [oM 15 0,oH 16 15,oX 17 (.move (.const (.int .i64 0)))]) (.block 0 (.loop (.seq (.ops [oB 18 .lss 17 16]) (.seq (.cond (.tmp 18) .skip (.exit 0)) (.seq (.block 1 (.seq (.ops [oM 19 17,oW 20 10 15 17,oP 21 10 20,oZ 8 z1,oA 7 19,oS 10 8 21]) (.seq (.ops [oM 22 1,oM 23 7,oW 24 10 22 23,oP 25 10 24,oZ 9 z1,oS 10 9 25]) (.seq (.ops [oM 26 2,oP 27 10 8,oP 28 10 9,oX 29 (.callv (.tmp 26) [.tmp 27,.tmp 28]),oV 30 29]) (.cond (.tmp 30) (.seq (.ops [oK 6 (.bool false)]) .ret) .skip))))) (.ops [oI 31 .add 17 (.int .i64 1),oM 17 31]))))))) (.seq (.ops [oK 6 (.bool true)]) .ret))),[.move (.tmp 6)]⟩
theorem Qc : ak Tryz.prog 37 = some Qz := by kernel_rfl
def MP:XFun:=⟨9,.seq (.ops [oK 4 (.bool false)]) (.seq (.ops [oM 5 0,oM 6 1,oC 7 94 [5,6],oI 8 .geq 7 (.int .i64 0),oA 4 8]) .ret),[.move (.tmp 4)]⟩
theorem PS : ak Tryz.prog 59 = some MP := by kernel_rfl
def Pi:XFun:=⟨19,.seq (.ops [oK 4 (.int .i64 0)]) (.seq (.seq (.ops [oM 6 0,oH 7 6,oX 8 (.move (.const (.int .i64 0)))]) (.block 0 (.loop (.seq (.ops [oB 9 .lss 8 7]) (.seq (.cond (.tmp 9) .skip (.exit 0)) (.seq (.block 1 (.seq (.ops [oM 10 8,oA 5 10]) (.seq (.ops [oM 11 1,oM 12 0,oM 13 5,oW 14 1 12 13,oL 15 14,oB 16 .eql 11 15]) (.cond (.tmp 16) (.seq (.ops [oM 17 5,oA 4 17]) .ret) .skip)))) (.ops [oI 18 .add 8 (.int .i64 1),oM 8 18]))))))) (.seq (.ops [oK 4 (.int .i64 (-1))]) .ret)),[.move (.tmp 4)]⟩
theorem Qn : ak Tryz.prog 94 = some Pi := by kernel_rfl
end Go.Proofs.YtdfgljojemmlcaaGreat.Ax
namespace Go.Proofs.YtdfgljojemmlcaaGreat.Ax
open Go.RowKit Go By
set_option maxRecDepth 10000
theorem nf {α : Type} {a b : List α} {j : Nat} (h1 : j < a.length) (h2 : j < b.length) (hp : a.take j = b.take j) (e : a[j] = b[j]) : a.take (j + 1) = b.take (j + 1) := by
 rw [Q1 h1, Q1 h2, hp, e]
theorem oy {α : Type} {a b : List α} {j : Nat} (h1 : j < a.length) (h2 : j < b.length) (e : ¬ a[j] = b[j]) : ¬ a = b := fun h => by
 subst h; exact e rfl
def zt (x y : To) : Bool := x.set == y.set && (x.name == y.name && x.id == y.id)
theorem vv (x y : To) : zt x y = decide (x = y) := by
 obtain ⟨a1, a2, a3⟩ := x
 obtain ⟨b1, b2, b3⟩ := y
 rw [Q2]; simp [zt]
def za (x y : Oc) : Bool := x.kind == y.kind && x.id == y.id
theorem we (x y : Oc) : za x y = decide (x = y) := by
 obtain ⟨a1, a2⟩ := x
 obtain ⟨b1, b2⟩ := y
 rw [Q2]; simp [za]
theorem Mr : ∀ {x y z : Bool}, (x && (y && z)) = false -> (!x || (!y || !z)) = true := by decide
theorem O5 : ∀ {x y : Bool}, (x && y) = false -> (!x || !y) = true := by decide
theorem Bn (a b : List To) (hl : a.length <= 1000000) (h : List (List AV)) : Contract Tryz.prog 81 [.sl 3 (ai mY a) none .no, .sl 3 (ai mY b) none .no] h (.v (.bool (decide (a = b)))) h [] := by
 refine ab Qt mixed (by simp [Lu]) fun hh hargs => ?_
 by_cases hlen : a.length = b.length
 ·have hlen2 : (a.length : Int) = b.length := by omega
  simp [Lu, hlen2]
  refine am (D := Nat) (fun j => ⟨[(0, .sl 3 (ai mY a) none .no), (1, .sl 3 (ai mY b) none .no), (5, .v (.int .i64 (j : Int)))], [], h, []⟩) (fun j => j <= a.length /\ a.take j = b.take j) (fun j => a.length - j) 0 ⟨by omega, by simp⟩ ?_ ?_
  ·simp [Leq, hh, ac]
   done
  ·rintro j ⟨hj, hp⟩
   by_cases hlt : j < a.length
   ·have hlb : j < b.length := by omega
    have hw : IntKind.i64.wrap ((j : Int) + 1) = (j : Int) + 1 := wrap64 (by omega) (by omega)
    have hs := vv a[j] b[j]
    by_cases e : a[j] = b[j]
    ·simp [hlt, hlb, e, bG, hw]
     refine ⟨j + 1, ⟨by omega, nf hlt hlb hp e⟩, by omega, ?_⟩
     simp [Leq, hh, ac]
     done
    ·rw [decide_eq_false e] at hs
     have hne := oy hlt hlb e
     have hs2 : (a[j].set == b[j].set && (a[j].name == b[j].name && a[j].id == b[j].id)) = false := hs
     have hs3 := Mr hs2
     simp [hlt, hlb, bG, hs3, hne, hh]
     done
   ·have hjl : j = a.length := by omega
    subst hjl
    have e : a = b := by rw [Q0, hlen, Q0] at hp; exact hp
    subst e
    simp [hh]
    done
 ·have hlen2 : ¬ (a.length : Int) = b.length := by omega
  have hne : ¬ a = b := fun e => hlen (by rw [e])
  simp [Lu, hlen2, hne, hh]
  done
def fF (e : En) : Prop := e.good.length <= 1000000 /\ e.bad.length <= 1000000 /\ e.cache.length <= 1000000 /\ e.reply.length <= 1000000
def kJ (a b : En) : Bool := a.kind == b.kind && (a.hide == b.hide && (a.from_ == b.from_ && (a.to == b.to && (a.reply == b.reply && decide (a.cache.length = b.cache.length)))))
theorem JD (a b : En) : decide (a = b) = (kJ a b && (decide (a.cache = b.cache) && (decide (a.good = b.good) && decide (a.bad = b.bad)))) := by
 obtain ⟨a1, a2, a3, a4, a5, a6, a7, a8⟩ := a
 obtain ⟨b1, b2, b3, b4, b5, b6, b7, b8⟩ := b
 rw [Q2]
 simp [kJ]
 constructor
 ·rintro ⟨rfl, rfl, rfl, rfl, rfl, rfl, rfl, rfl⟩; simp
 ·rintro ⟨⟨rfl, rfl, rfl, rfl, rfl, h0⟩, rfl, rfl, rfl⟩; simp
theorem bJ {α : Type} [BEq α] {x y : α} {c : Bool} (h : (x == y) = c) : (x != y) = !c := by unfold bne; rw [h]
theorem xM (a b : En) (ha : fF a) (hb : fF b) (h : List (List AV)) : Contract Tryz.prog 39 [.agg (aK a), .agg (aK b)] h (.v (.bool (decide (a = b)))) h [] := by
 obtain ⟨q1, q2, q3, q4⟩ := ha
 obtain ⟨w1, w2, w3, w4⟩ := hb
 refine ab Qe mixed (by simp [Dn]) fun hh hargs => ?_
 have hl2 := al (Nat.le_add_right h.length 2) hh
 rw [JD]
 cases p1 : a.kind == b.kind with
 | false => simp [Dn, hh, ac, hl2, kJ, p1, bJ p1]
 | true =>
 cases p2 : a.hide == b.hide with
 | false => simp [Dn, hh, ac, hl2, kJ, p1, p2, bJ p1, bJ p2]
 | true =>
 cases p3 : a.from_ == b.from_ with
 | false => simp [Dn, hh, ac, hl2, kJ, p1, p2, p3, bJ p1, bJ p2, bJ p3]
 | true =>
 cases p4 : a.to == b.to with
 | false => simp [Dn, hh, ac, hl2, kJ, p1, p2, p3, p4, bJ p1, bJ p2, bJ p3, bJ p4]
 | true =>
 cases p5 : a.reply == b.reply with
 | false =>
  simp [Dn, hh, ac, hl2, kJ, p1, p2, p3, p4, bJ p1, bJ p2, bJ p3, bJ p4, p5, bJ p5]
  done
 | true =>
 by_cases p6 : a.cache.length = b.cache.length
 ·have p6' : (a.cache.length : Int) = b.cache.length := by omega
  have hd : kJ a b = true := by unfold kJ; rw [p1, p2, p3, p4, p5, decide_eq_true p6]; rfl
  rw [hd]
  simp [Dn, p1, p2, p3, p4, bJ p1, bJ p2, bJ p3, bJ p4, p5, bJ p5, p6']
  refine am (D := Nat) (fun j => ⟨[(2, .box h.length 0), (3, .box (h.length + 1) 0), (5, .v (.int .i64 (j : Int)))], [], h ++ [aK a, aK b], []⟩) (fun j => j <= a.cache.length /\ a.cache.take j = b.cache.take j) (fun j => a.cache.length - j) 0 ⟨by omega, by simp⟩ ?_ ?_
  ·simp [Leq, hl2, ac]
   done
  ·rintro j ⟨hj, hp⟩
   by_cases hlt : j < a.cache.length
   ·have hlb : j < b.cache.length := by omega
    have hlt2 : (j : Int) < b.cache.length := by omega
    have hw : IntKind.i64.wrap ((j : Int) + 1) = (j : Int) + 1 := wrap64 (by omega) (by omega)
    by_cases e : a.cache[j] = b.cache[j]
    ·simp [hlt, hlb, hlt2, e, sV, hw, p6']
     refine ⟨j + 1, ⟨by omega, nf hlt hlb hp e⟩, by omega, ?_⟩
     simp [Leq, hl2, ac]
     done
    ·have hs := we a.cache[j] b.cache[j]
     rw [decide_eq_false e] at hs
     have hs2 : (a.cache[j].kind == b.cache[j].kind && a.cache[j].id == b.cache[j].id) = false := hs
     have hne := oy hlt hlb e
     have hs3 := O5 hs2
     simp [hlt, hlb, hlt2, sV, p6', hs3, hne, hh, hl2, ac]
     done
   ·have hjl : j = a.cache.length := by omega
    subst hjl
    have e : a.cache = b.cache := by rw [Q0, p6, Q0] at hp; exact hp
    simp [p6']
    refine aa (by simp) (Bn _ _ q1 _) ?_
    by_cases e1 : a.good = b.good
    ·simp [e1]
     refine aa (by simp) (Bn _ _ q2 _) ?_
     simp [hh, hl2, ac, e]
     done
    ·simp [e1, hh, hl2, ac]
     done
 ·have p6' : ¬ (a.cache.length : Int) = b.cache.length := by omega
  have p7 : ((a.cache.length : Int) != b.cache.length) = true := by simpa using p6'
  simp [Dn, hh, ac, hl2, kJ, p1, p2, p3, p4, bJ p1, bJ p2, bJ p3, bJ p4, p5, bJ p5, p6, p6', p7]
  done
theorem GO (l m : List En) (hl : l.length <= 1000000) (hf : ∀ e ∈ l, fF e) (hg : ∀ e ∈ m, fF e) (h : List (List AV)) : Contract Tryz.prog 11 [.sl 8 (ai aK l) none .no, .sl 8 (ai aK m) none .no] h (.v (.bool (decide (l = m)))) h [] := by
 refine ab P2 mixed (by simp [Lz]) fun hh hargs => ?_
 by_cases hlen : l.length = m.length
 ·have hlen2 : (l.length : Int) = m.length := by omega
  simp [Lz, hlen2]
  refine am (D := Nat) (fun j => ⟨[(0, .sl 8 (ai aK l) none .no), (1, .sl 8 (ai aK m) none .no), (5, .v (.int .i64 (j : Int)))], [], h, []⟩) (fun j => j <= l.length /\ l.take j = m.take j) (fun j => l.length - j) 0 ⟨by omega, by simp⟩ ?_ ?_
  ·simp [Leq, hh, ac]
   done
  ·rintro j ⟨hj, hp⟩
   by_cases hlt : j < l.length
   ·have hlb : j < m.length := by omega
    have hw : IntKind.i64.wrap ((j : Int) + 1) = (j : Int) + 1 := wrap64 (by omega) (by omega)
    have key := xM l[j] m[j] (hf _ (Q3 hlt)) (hg _ (Q3 hlb)) h
    simp [hlt, hlb]
    refine aa (by simp) key ?_
    by_cases e : l[j] = m[j]
    ·simp [e, hw]
     refine ⟨j + 1, ⟨by omega, nf hlt hlb hp e⟩, by omega, ?_⟩
     simp [Leq, hh, ac]
     done
    ·have hne := oy hlt hlb e
     simp [e, hne, hh]
     done
   ·have hjl : j = l.length := by omega
    subst hjl
    have e : l = m := by rw [Q0, hlen, Q0] at hp; exact hp
    subst e
    simp [hh]
    done
 ·have hlen2 : ¬ (l.length : Int) = m.length := by omega
  have hne : ¬ l = m := fun e => hlen (by rw [e])
  simp [Lz, hlen2, hne, hh]
  done
end Go.Proofs.YtdfgljojemmlcaaGreat.Ax
