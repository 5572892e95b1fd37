import Derived.Test.YtdfgljojemmlcaaGreatQAxWo
import Derived.Test.YtdfgljojemmlcaaGreatQCodeF
set_option linter.unusedSimpArgs false
set_option linter.unusedVariables false
open List renaming take_length -> Q0, all_eq_true -> Q1
open Nat renaming lt_or_ge -> Q2
namespace Go.Proofs.YtdfgljojemmlcaaGreat.Ax
open Go.RowKit Go By
def B8:XFun:=⟨75,.seq (.ops [oJ 2 0,oJ 3 1,oK 4 (.bool false)]) (.seq (.ops [oF 6 0 2,oL 7 6,oF 8 0 3,oL 9 8,oB 10 .eql 7 9,oM 11 10,oG 11 true (oF 12 1 2),oG 11 true (oL 13 12),oG 11 true (oF 14 1 3),oG 11 true (oL 15 14),oG 11 true (oB 16 .eql 13 15),oT 17 11 16,oM 18 17,oG 18 true (oF 19 2 2),oG 18 true (oL 20 19),oG 18 true (oF 21 2 3),oG 18 true (oL 22 21),oG 18 true (oB 23 .eql 20 22),oT 24 18 23,oM 25 24,oG 25 true (oF 26 3 2),oG 25 true (oL 27 26),oG 25 true (oF 28 3 3),oG 25 true (oL 29 28),oG 25 true (oB 30 .eql 27 29),oT 31 25 30,oM 32 31,oG 32 true (oF 33 4 2),oG 32 true (oL 34 33),oG 32 true (oF 35 4 3),oG 32 true (oL 36 35),oG 32 true (oB 37 .eql 34 36),oT 38 32 37,oM 39 38,oG 39 true (oF 40 9 2),oG 39 true (oL 41 40),oG 39 true (oF 42 9 3),oG 39 true (oL 43 42),oG 39 true (oB 44 .eql 41 43),oT 45 39 44,oA 5 45]) (.seq (.ops [oM 46 5,oM 47 46,oG 47 true (oF 48 5 2),oG 47 true (oL 49 48),oG 47 true (oF 50 5 3),oG 47 true (oL 51 50),oG 47 true (oC 52 79 [49,51]),oT 53 47 52,oM 54 53,oG 54 true (oF 55 6 2),oG 54 true (oL 56 55),oG 54 true (oF 57 6 3),oG 54 true (oL 58 57),oG 54 true (oC 59 79 [56,58]),oT 60 54 59,oM 61 60,oG 61 true (oF 62 7 2),oG 61 true (oL 63 62),oG 61 true (oF 64 7 3),oG 61 true (oL 65 64),oG 61 true (oC 66 79 [63,65]),oT 67 61 66,oM 68 67,oG 68 true (oF 69 8 2),oG 68 true (oL 70 69),oG 68 true (oF 71 8 3),oG 68 true (oL 72 71),oG 68 true (oC 73 80 [70,72]),oT 74 68 73,oA 4 74]) .ret)),[.move (.tmp 4)]⟩
theorem Qu : ak Tryz.prog 38 = some B8 := by kernel_rfl
def tM:XFun:=⟨20,.seq (.ops [oK 2 (.int .i64 0)]) (.seq (.seq (.ops [oM 3 0]) (.block 0 (.seq (.seq (.ops [oI 5 .eql 3 (.int .u8 66),oA 4 5]) (.cond (.tmp 4) .skip (.seq (.ops [oI 6 .eql 3 (.int .u8 67),oA 4 6]) (.cond (.tmp 4) .skip (.seq (.ops [oI 7 .eql 3 (.int .u8 68),oA 4 7]) (.cond (.tmp 4) .skip (.seq (.ops [oI 8 .eql 3 (.int .u8 69),oA 4 8]) (.cond (.tmp 4) .skip (.seq (.ops [oI 9 .eql 3 (.int .u8 72),oA 4 9]) (.cond (.tmp 4) .skip (.seq (.ops [oI 10 .eql 3 (.int .u8 80),oA 4 10]) (.cond (.tmp 4) .skip (.seq (.ops [oI 11 .eql 3 (.int .u8 81),oA 4 11]) (.cond (.tmp 4) .skip (.seq (.ops [oI 12 .eql 3 (.int .u8 83),oA 4 12]) (.cond (.tmp 4) .skip (.ops [oI 13 .eql 3 (.int .u8 88),oA 4 13]))))))))))))))))) (.cond (.tmp 4) (.seq (.ops [oK 2 (.int .i64 1)]) .ret) (.seq (.seq (.ops [oI 15 .eql 3 (.int .u8 70),oA 14 15]) (.cond (.tmp 14) .skip (.seq (.ops [oI 16 .eql 3 (.int .u8 99),oA 14 16]) (.cond (.tmp 14) .skip (.seq (.ops [oI 17 .eql 3 (.int .u8 100),oA 14 17]) (.cond (.tmp 14) .skip (.seq (.ops [oI 18 .eql 3 (.int .u8 102),oA 14 18]) (.cond (.tmp 14) .skip (.ops [oI 19 .eql 3 (.int .u8 112),oA 14 19]))))))))) (.cond (.tmp 14) (.seq (.ops [oK 2 (.int .i64 2)]) .ret) .skip)))))) (.seq (.ops [oK 2 (.int .i64 0)]) .ret)),[.move (.tmp 2)]⟩
theorem QD : ak Tryz.prog 41 = some tM := by kernel_rfl
def ER:XFun:=⟨26,.seq (.ops [oN 6]) (.seq (.ops [oM 8 0,oM 9 1,oH 10 9,oX 11 (.call 88 [.tmp 8,.tmp 10,.const (.int .i64 2)]),oA 0 11]) (.seq (.seq (.ops [oK 7 (.int .i64 0)]) (.block 0 (.loop (.seq (.seq (.ops [oM 12 7,oM 13 1,oH 14 13,oB 15 .lss 12 14]) (.cond (.tmp 15) .skip (.exit 0))) (.seq (.block 1 (.ops [oM 18 0,oM 19 1,oM 20 7,oW 21 1 19 20,oL 22 21,oM 23 2,oC 24 88 [18,22,23],oA 0 24])) (.ops [oM 16 7,oI 17 .add 16 (.int .i64 1),oA 7 17])))))) (.seq (.ops [oM 25 0,oA 6 25]) .ret))),[.move (.tmp 6)]⟩
theorem OO : ak Tryz.prog 110 = some ER := by kernel_rfl
def FU:XFun:=⟨10,.seq (.ops [oN 4]) (.seq (.ops [oM 5 0,oM 6 1,oX 7 (.appendS (.tmp 5) (.tmp 6)),oX 8 (.buildSlice 1 1 zK [(0,.const (.int .u8 0))]),oX 9 (.append 1 1 (.tmp 7) (.tmp 8)),oA 4 9]) .ret),[.move (.tmp 4)]⟩
theorem NA : ak Tryz.prog 107 = some FU := by kernel_rfl
def Gp:XFun:=⟨38,.seq (.ops [oN 4]) (.seq (.ops [oM 6 0,oM 7 1,oH 8 7,oX 9 (.call 88 [.tmp 6,.tmp 8,.const (.int .i64 2)]),oA 0 9]) (.seq (.seq (.ops [oK 5 (.int .i64 0)]) (.block 0 (.loop (.seq (.seq (.ops [oM 10 5,oM 11 1,oH 12 11,oB 13 .lss 10 12]) (.cond (.tmp 13) .skip (.exit 0))) (.seq (.block 1 (.seq (.ops [oM 16 1,oM 17 5,oW 18 2 16 17,oF 19 0 18,oL 20 19]) (.cond (.tmp 20) (.ops [oM 21 0,oX 22 (.call 88 [.tmp 21,.const (.int .i64 (-1)),.const (.int .i64 4)]),oA 0 22]) (.draws (.take (oM 23 0) (.take (oM 24 1) (.take (oM 25 5) (.take (oW 26 2 24 25) (.take (oF 27 1 26) (.take (oL 28 27) (.take (oH 29 28) (.take (oM 31 1) (.take (oM 32 5) (.take (oW 33 2 31 32) (.take (oF 34 1 33) (.take (oL 35 34) (.only (oX 30 (.call 88 [.tmp 23,.tmp 29,.const (.int .i64 4)])) (.only (oX 36 (.append 1 1 (.tmp 30) (.tmp 35))) (.take (oA 0 36) .done))))))))))))))))))) (.ops [oM 14 5,oI 15 .add 14 (.int .i64 1),oA 5 15])))))) (.seq (.ops [oM 37 0,oA 4 37]) .ret))),[.move (.tmp 4)]⟩
theorem M1 : ak Tryz.prog 108 = some Gp := by kernel_rfl
def KU:XFun:=⟨31,.seq (.ops [oK 6 (.bool false)]) (.seq (.seq (.ops [oM 8 0,oH 9 8,oI 10 .gtr 9 (.int .i64 65535)]) (.cond (.tmp 10) (.seq (.ops [oK 6 (.bool false)]) .ret) .skip)) (.seq (.seq (.ops [oK 7 (.int .i64 0)]) (.block 0 (.loop (.seq (.seq (.ops [oM 11 7,oM 12 0,oH 13 12,oB 14 .lss 11 13]) (.cond (.tmp 14) .skip (.exit 0))) (.seq (.block 1 (.seq (.ops [oM 17 0,oM 18 7,oW 19 1 17 18,oL 20 19,oM 21 1,oB 22 .lss 20 21,oM 23 22,oG 23 false (oM 24 0),oG 23 false (oM 25 7),oG 23 false (oW 26 1 24 25),oG 23 false (oL 27 26),oG 23 false (oM 28 2),oG 23 false (oB 29 .gtr 27 28),oU 30 23 29]) (.cond (.tmp 30) (.seq (.ops [oK 6 (.bool false)]) .ret) .skip))) (.ops [oM 15 7,oI 16 .add 15 (.int .i64 1),oA 7 16])))))) (.seq (.ops [oK 6 (.bool true)]) .ret))),[.move (.tmp 6)]⟩
theorem QI : ak Tryz.prog 87 = some KU := by kernel_rfl
def Cg:XFun:=⟨36,.seq (.ops [oK 2 (.bool false)]) (.seq (.seq (.ops [oM 4 0,oH 5 4,oI 6 .gtr 5 (.int .i64 65535)]) (.cond (.tmp 6) (.seq (.ops [oK 2 (.bool false)]) .ret) .skip)) (.seq (.seq (.ops [oK 3 (.int .i64 0)]) (.block 0 (.loop (.seq (.seq (.ops [oM 7 3,oM 8 0,oH 9 8,oB 10 .lss 7 9]) (.cond (.tmp 10) .skip (.exit 0))) (.seq (.block 1 (.seq (.ops [oM 13 0,oM 14 3,oW 15 2 13 14,oF 16 0 15,oL 17 16,oM 18 17,oG 18 true (oM 19 0),oG 18 true (oM 20 3),oG 18 true (oW 21 2 19 20),oG 18 true (oF 22 1 21),oG 18 true (oL 23 22),oG 18 true (oH 24 23),oG 18 true (oI 25 .gtr 24 (.int .i64 0)),oT 26 18 25,oM 27 26,oG 27 false (oM 28 0),oG 27 false (oM 29 3),oG 27 false (oW 30 2 28 29),oG 27 false (oF 31 1 30),oG 27 false (oL 32 31),oG 27 false (oH 33 32),oG 27 false (oI 34 .gtr 33 (.int .i64 1048576)),oU 35 27 34]) (.cond (.tmp 35) (.seq (.ops [oK 2 (.bool false)]) .ret) .skip))) (.ops [oM 11 3,oI 12 .add 11 (.int .i64 1),oA 3 12])))))) (.seq (.ops [oK 2 (.bool true)]) .ret))),[.move (.tmp 2)]⟩
theorem MI : ak Tryz.prog 131 = some Cg := by kernel_rfl
def Lv:XFun:=⟨26,.seq (.ops [oK 4 (.bool false)]) (.seq (.seq (.ops [oM 6 0,oH 7 6,oM 8 1,oH 9 8,oB 10 .neq 7 9]) (.cond (.tmp 10) (.seq (.ops [oK 4 (.bool false)]) .ret) .skip)) (.seq (.seq (.ops [oK 5 (.int .i64 0)]) (.block 0 (.loop (.seq (.seq (.ops [oM 11 5,oM 12 0,oH 13 12,oB 14 .lss 11 13]) (.cond (.tmp 14) .skip (.exit 0))) (.seq (.block 1 (.seq (.draws (.take (oM 17 0) (.take (oM 18 5) (.take (oW 19 1 17 18) (.take (oL 20 19) (.take (oM 21 1) (.take (oM 22 5) (.take (oW 23 1 21 22) (.take (oL 24 23) (.take (oB 25 .neq 20 24) .done)))))))))) (.cond (.tmp 25) (.seq (.ops [oK 4 (.bool false)]) .ret) .skip))) (.ops [oM 15 5,oI 16 .add 15 (.int .i64 1),oA 5 16])))))) (.seq (.ops [oK 4 (.bool true)]) .ret))),[.move (.tmp 4)]⟩
theorem QT : ak Tryz.prog 79 = some Lv := by kernel_rfl
def Lp:XFun:=⟨43,.seq (.ops [oK 4 (.bool false)]) (.seq (.seq (.ops [oM 6 0,oH 7 6,oM 8 1,oH 9 8,oB 10 .neq 7 9]) (.cond (.tmp 10) (.seq (.ops [oK 4 (.bool false)]) .ret) .skip)) (.seq (.seq (.ops [oK 5 (.int .i64 0)]) (.block 0 (.loop (.seq (.seq (.ops [oM 11 5,oM 12 0,oH 13 12,oB 14 .lss 11 13]) (.cond (.tmp 14) .skip (.exit 0))) (.seq (.block 1 (.seq (.draws (.take (oM 17 0) (.take (oM 18 5) (.take (oW 19 2 17 18) (.take (oF 20 0 19) (.take (oL 21 20) (.take (oM 22 1) (.take (oM 23 5) (.take (oW 24 2 22 23) (.take (oF 25 0 24) (.take (oL 26 25) (.take (oX 27 (.beq true (.tmp 21) (.tmp 26))) (.take (oM 28 27) (.take (oG 28 false (oM 29 0)) (.take (oG 28 false (oM 30 5)) (.take (oG 28 false (oW 31 2 29 30)) (.take (oG 28 false (oF 32 1 31)) (.take (oG 28 false (oL 33 32)) (.take (oG 28 false (oX 34 (.b2s (.tmp 33)))) (.take (oG 28 false (oM 35 1)) (.take (oG 28 false (oM 36 5)) (.take (oG 28 false (oW 37 2 35 36)) (.take (oG 28 false (oF 38 1 37)) (.take (oG 28 false (oL 39 38)) (.take (oG 28 false (oX 40 (.b2s (.tmp 39)))) (.take (oG 28 false (oB 41 .neq 34 40)) (.take (oU 42 28 41) .done))))))))))))))))))))))))))) (.cond (.tmp 42) (.seq (.ops [oK 4 (.bool false)]) .ret) .skip))) (.ops [oM 15 5,oI 16 .add 15 (.int .i64 1),oA 5 16])))))) (.seq (.ops [oK 4 (.bool true)]) .ret))),[.move (.tmp 4)]⟩
theorem P4 : ak Tryz.prog 80 = some Lp := by kernel_rfl
def c17:XFun:=⟨44,.seq (.ops [oJ 1 0,oK 2 (.bool false)]) (.seq (.seq (.ops [oF 3 5 1,oL 4 3,oH 5 4,oI 6 .gtr 5 (.int .i64 50),oM 7 6,oG 7 false (oF 8 6 1),oG 7 false (oL 9 8),oG 7 false (oH 10 9),oG 7 false (oI 11 .gtr 10 (.int .i64 50)),oU 12 7 11,oM 13 12,oG 13 false (oF 14 7 1),oG 13 false (oL 15 14),oG 13 false (oH 16 15),oG 13 false (oI 17 .gtr 16 (.int .i64 50)),oU 18 13 17,oM 19 18,oG 19 false (oF 20 8 1),oG 19 false (oL 21 20),oG 19 false (oH 22 21),oG 19 false (oI 23 .gtr 22 (.int .i64 50)),oU 24 19 23]) (.cond (.tmp 24) (.seq (.ops [oK 2 (.bool false)]) .ret) .skip)) (.seq (.seq (.ops [oF 25 8 1,oL 26 25,oX 27 (.call 44 [.tmp 26,.func 45])]) (.cond (.tmp 27) (.seq (.ops [oK 2 (.bool false)]) .ret) .skip)) (.seq (.ops [oF 28 2 1,oL 29 28,oX 30 (.lenS (.tmp 29)),oI 31 .leq 30 (.int .i64 300),oM 32 31,oG 32 true (oF 33 3 1),oG 32 true (oL 34 33),oG 32 true (oX 35 (.lenS (.tmp 34))),oG 32 true (oI 36 .leq 35 (.int .i64 300)),oT 37 32 36,oM 38 37,oG 38 true (oF 39 4 1),oG 38 true (oL 40 39),oG 38 true (oX 41 (.lenS (.tmp 40))),oG 38 true (oI 42 .leq 41 (.int .i64 1000)),oT 43 38 42,oA 2 43]) .ret))),[.move (.tmp 2)]⟩
theorem QQ : ak Tryz.prog 17 = some c17 := by kernel_rfl
def MG:XFun:=⟨7,.seq (.ops [oJ 1 0,oK 2 (.bool false)]) (.seq (.ops [oF 3 1 1,oL 4 3,oH 5 4,oI 6 .gtr 5 (.int .i64 300),oA 2 6]) .ret),[.move (.tmp 2)]⟩
theorem PW : ak Tryz.prog 45 = some MG := by kernel_rfl
end Go.Proofs.YtdfgljojemmlcaaGreat.Ax
namespace Go.Proofs.YtdfgljojemmlcaaGreat.Ax
open Go.RowKit Go By Go.Proofs.YtdfgljojemmlcaaGreat.Nm Sc Dg
set_option maxRecDepth 10000
def be (k : Int) : Int :=
 if k = 66 \/ k = 67 \/ k = 68 \/ k = 69 \/ k = 72 \/ k = 80 \/ k = 81 \/ k = 83 \/ k = 88 then 1 else if k = 70 \/ k = 99 \/ k = 100 \/ k = 102 \/ k = 112 then 2 else 0
theorem Cm (k : Int) (h : List (List AV)) : Contract Tryz.prog 40 [.v (.int .u8 k)] h (.v (.int .i64 (be k))) h [] := by
 refine ab QV mixed (by simp [uR]) fun hh hargs => ?_
 by_cases h66 : k = 66
 ·subst h66; simp [uR, hh, be]
 by_cases h67 : k = 67
 ·subst h67; simp [uR, hh, be]
 by_cases h68 : k = 68
 ·subst h68; simp [uR, hh, be]
 by_cases h69 : k = 69
 ·subst h69; simp [uR, hh, be]
 by_cases h72 : k = 72
 ·subst h72; simp [uR, hh, be]
 by_cases h80 : k = 80
 ·subst h80; simp [uR, hh, be]
 by_cases h81 : k = 81
 ·subst h81; simp [uR, hh, be]
 by_cases h83 : k = 83
 ·subst h83; simp [uR, hh, be]
 by_cases h88 : k = 88
 ·subst h88; simp [uR, hh, be]
 by_cases h70 : k = 70
 ·subst h70; simp [uR, hh, be]
 by_cases h99 : k = 99
 ·subst h99; simp [uR, hh, be]
 by_cases h100 : k = 100
 ·subst h100; simp [uR, hh, be]
 by_cases h102 : k = 102
 ·subst h102; simp [uR, hh, be]
 by_cases h112 : k = 112
 ·subst h112; simp [uR, hh, be]
 simp [uR, hh, be, h66, h67, h68, h69, h72, h80, h81, h83, h88, h70, h99, h100, h102, h112]
theorem zY (k : Int) (h : List (List AV)) : Contract Tryz.prog 41 [.v (.int .u8 k)] h (.v (.int .i64 (be k))) h [] := by
 refine ab QD mixed (by simp [tM]) fun hh hargs => ?_
 by_cases h66 : k = 66
 ·subst h66; simp [tM, hh, be]
 by_cases h67 : k = 67
 ·subst h67; simp [tM, hh, be]
 by_cases h68 : k = 68
 ·subst h68; simp [tM, hh, be]
 by_cases h69 : k = 69
 ·subst h69; simp [tM, hh, be]
 by_cases h72 : k = 72
 ·subst h72; simp [tM, hh, be]
 by_cases h80 : k = 80
 ·subst h80; simp [tM, hh, be]
 by_cases h81 : k = 81
 ·subst h81; simp [tM, hh, be]
 by_cases h83 : k = 83
 ·subst h83; simp [tM, hh, be]
 by_cases h88 : k = 88
 ·subst h88; simp [tM, hh, be]
 by_cases h70 : k = 70
 ·subst h70; simp [tM, hh, be]
 by_cases h99 : k = 99
 ·subst h99; simp [tM, hh, be]
 by_cases h100 : k = 100
 ·subst h100; simp [tM, hh, be]
 by_cases h102 : k = 102
 ·subst h102; simp [tM, hh, be]
 by_cases h112 : k = 112
 ·subst h112; simp [tM, hh, be]
 simp [tM, hh, be, h66, h67, h68, h69, h72, h80, h81, h83, h88, h70, h99, h100, h102, h112]
def fi (m : Fm) : Prop := m.oids.length <= 140737488355328 /\ m.formats.length <= 140737488355328 /\ m.results.length <= 140737488355328 /\ m.params.length <= 140737488355328 /\ (∀ c ∈ m.params, c.2.length <= 140737488355328) /\ m.name.length <= 140737488355328 /\ m.portal.length <= 140737488355328 /\ m.text.length <= 140737488355328
def ol (a b : Fm) : Bool := a.kind == b.kind && a.what == b.what && (a.name == b.name && a.portal == b.portal && a.text == b.text) && a.max == b.max && a.oids == b.oids && a.formats == b.formats && a.results == b.results && a.params == b.params
theorem zG (a b : Fm) : ol a b = decide (a = b) := by
 obtain ⟨a1, a2, a3, a4, a5, a6, a7, a8, a9, a10⟩ := a
 obtain ⟨b1, b2, b3, b4, b5, b6, b7, b8, b9, b10⟩ := b
 rw [Bool.eq_iff_iff]
 simp [ol]
 constructor
 ·rintro ⟨⟨⟨⟨⟨⟨⟨h1, h2⟩, h3, h4, h5⟩, h6⟩, h7⟩, h8⟩, h9⟩, h10⟩; simp_all
 ·rintro ⟨h1, h2, h3, h4, h5, h6, h7, h8, h9, h10⟩; simp_all
theorem vT (l m : List Int) (hl : l.length <= 140737488355328) (h : List (List AV)) : Contract Tryz.prog 167 [.sl 1 (ai ao l) none .no, .sl 1 (ai ao m) none .no] h (.v (.bool (l == m))) h [] := by
 have := wj mixed L8 l m h hl
 rwa [eU] at this
theorem lR (xs ys : List Int) (hl : xs.length <= 140737488355328) (h : List (List AV)) : Contract Tryz.prog 79 [.sl 1 (ai ao xs) none .no, .sl 1 (ai ao ys) none .no] h (.v (.bool (xs == ys))) h [] := by
 refine ab QT mixed (by simp [Lv]) fun hh hargs => ?_
 rw [<- eU]
 by_cases hlen : xs.length = ys.length
 ·simp [Lv, hlen]
  refine am (D := Nat) (fun j => ⟨[(0, .sl 1 (ai ao xs) none .no), (1, .sl 1 (ai ao ys) none .no), (5, .v (.int .i64 j))], [], h, []⟩) (fun j => j <= xs.length /\ ∀ i (h1 : i < xs.length) (h2 : i < ys.length), i < j -> ((· == ·) : Int -> Int -> Bool) xs[i] ys[i] = true) (fun j => xs.length - j) 0 ⟨by omega, fun i h1 h2 h3 => by omega⟩ ?_ ?_
  ·simp [Leq, hh]
  ·rintro j ⟨hj, hp⟩
   by_cases hlt : j < ys.length
   ·have hlt' : j < xs.length := by omega
    have hw : IntKind.i64.wrap ((j : Int) + 1) = (j : Int) + 1 := wrap64 (by omega) (by omega)
    simp [hlt, hlt', ao]
    refine aY (xs[j] != ys[j]) (by simp) (fun ht => ?_) (fun hf' => ?_)
    ·simp at ht
     have : ko (· == ·) xs ys = false := lu (i := j) hlt' hlt (by simpa using ht)
     simp [hh, this]
    ·simp at hf'
     simp [hw]
     refine ⟨j + 1, ⟨by omega, fun i h1 h2 h3 => ?_⟩, by omega, ?_⟩
     ·rcases Q2 i j with h4 | h4
      ·simpa using hp i h1 h2 h4
      ·have : i = j := by omega
       subst this; simpa using hf'
     ·simp [Leq, hh]
   ·have hx : ko (· == ·) xs ys = true := (eA _ xs ys).2 ⟨hlen, fun i h1 h2 => hp i h1 h2 (by omega)⟩
    have hlt' : ¬ j < xs.length := by omega
    simp [hh, hx, hlt, hlt']
 ·have hne : (xs.length : Int) ≠ ys.length := by omega
  have hx : ko (· == ·) xs ys = false := iz hlen
  simp [Lv, hne, hh, hx]
theorem tq (xs ys : List Cl) (hl : xs.length <= 140737488355328) (h : List (List AV)) : Contract Tryz.prog 80 [.sl 2 (ai aC xs) none .no, .sl 2 (ai aC ys) none .no] h (.v (.bool (xs == ys))) h [] := by
 refine ab P4 mixed (by simp [Lp]) fun hh hargs => ?_
 rw [<- eU]
 by_cases hlen : xs.length = ys.length
 ·simp [Lp, hlen]
  refine am (D := Nat) (fun j => ⟨[(0, .sl 2 (ai aC xs) none .no), (1, .sl 2 (ai aC ys) none .no), (5, .v (.int .i64 j))], [], h, []⟩) (fun j => j <= xs.length /\ ∀ i (h1 : i < xs.length) (h2 : i < ys.length), i < j -> ((· == ·) : Cl -> Cl -> Bool) xs[i] ys[i] = true) (fun j => xs.length - j) 0 ⟨by omega, fun i h1 h2 h3 => by omega⟩ ?_ ?_
  ·simp [Leq, hh]
  ·rintro j ⟨hj, hp⟩
   by_cases hlt : j < ys.length
   ·have hlt' : j < xs.length := by omega
    have hw : IntKind.i64.wrap ((j : Int) + 1) = (j : Int) + 1 := wrap64 (by omega) (by omega)
    obtain ⟨n, b, hx⟩ : ∃ n b, xs[j] = (n, b) := ⟨_, _, rfl⟩
    obtain ⟨m, d, hy⟩ : ∃ m d, ys[j] = (m, d) := ⟨_, _, rfl⟩
    have next : xs[j] = ys[j] -> ∀ i (h1 : i < xs.length) (h2 : i < ys.length), i < j + 1 -> ((· == ·) : Cl -> Cl -> Bool) xs[i] ys[i] = true := fun he i h1 h2 h3 => by
     rcases Q2 i j with h4 | h4
     ·exact hp i h1 h2 h4
     ·have : i = j := by omega
      subst this; simp [he]
    have no : xs[j] ≠ ys[j] -> ko (· == ·) xs ys = false := fun he => lu (i := j) hlt' hlt (by simpa using he)
    rw [hx, hy] at next no
    cases hnm : n == m with
    | false =>
     have e := no (by rintro he; injection he with h1 h2; simp [h1] at hnm)
     simp [hlt, hlt', hx, hy, dk, hnm, hh, e]
    | true =>
     have hnm' : n = m := by simpa using hnm
     cases hbd : b == d with
     | false =>
      have e := no (by rintro he; injection he with h1 h2; simp [h2] at hbd)
      simp [hlt, hlt', hx, hy, dk, hnm, hbd, hh, e]
     | true =>
      have hbd' : b = d := by simpa using hbd
      have e := next (by rw [hnm', hbd'])
      simp [hlt, hlt', hx, hy, dk, hnm, hbd, hw]
      refine ⟨j + 1, ⟨by omega, fun i h1 h2 h3 => by simpa using e i h1 h2 h3⟩, by omega, ?_⟩
      simp [Leq, hh]
   ·have hx : ko (· == ·) xs ys = true := (eA _ xs ys).2 ⟨hlen, fun i h1 h2 => hp i h1 h2 (by omega)⟩
    have hlt' : ¬ j < xs.length := by omega
    simp [hh, hx, hlt, hlt']
 ·have hne : (xs.length : Int) ≠ ys.length := by omega
  have hx : ko (· == ·) xs ys = false := iz hlen
  simp [Lp, hne, hh, hx]
def cD (lo hi z : Int) : Bool := !decide (z < lo) && !decide (hi < z)
theorem fb {α : Type} {p : α -> Bool} {xs : List α} {j : Nat} (hj : j < xs.length) (h1 : ∀ x ∈ xs.take j, p x = true) (h2 : p xs[j] = true) : ∀ x ∈ xs.take (j + 1), p x = true := by
 rw [jZ hj]
 intro x hx
 rcases List.mem_append.1 hx with h | h
 ·exact h1 x h
 ·simp at h; subst h; exact h2
theorem nd {α : Type} {p : α -> Bool} {xs : List α} {j : Nat} (hj : j < xs.length) (h2 : p xs[j] = false) : xs.all p = false := by
 rw [List.all_eq_false]; exact ⟨_, List.getElem_mem hj, by simp [h2]⟩
theorem oq (l : List Int) (lo hi : Int) (h : List (List AV)) : Contract Tryz.prog 87 [.sl 1 (ai ao l) none .no, .v (.int .i64 lo), .v (.int .i64 hi)] h (.v (.bool (decide (l.length <= 65535) && l.all (cD lo hi)))) h [] := by
 refine ab QI mixed (by simp [KU]) fun hh hargs => ?_
 by_cases hl : (65535 : Int) < l.length
 ·have hl' : ¬ l.length <= 65535 := by omega
  simp [KU, hl, hl', hh]
 ·have hl' : l.length <= 65535 := by omega
  simp [KU, hl, hl']
  refine am (D := Nat) (fun j => ⟨[(0, .sl 1 (ai ao l) none .no), (1, .v (.int .i64 lo)), (2, .v (.int .i64 hi)), (7, .v (.int .i64 j))], [], h, []⟩) (fun j => j <= l.length /\ ∀ x ∈ l.take j, cD lo hi x = true) (fun j => l.length - j) 0 (by simp) ?_ ?_
  ·simp [Leq, hh]
  ·rintro j ⟨hj, hp⟩
   by_cases hlt : j < l.length
   ·have hw : IntKind.i64.wrap ((j : Int) + 1) = (j : Int) + 1 := wrap64 (by omega) (by omega)
    by_cases h1 : l[j] < lo
    ·have e := nd (p := cD lo hi) hlt (by simp [cD, h1])
     simp [hlt, ao, h1, hh, e]
    ·by_cases h2 : hi < l[j]
     ·have e := nd (p := cD lo hi) hlt (by simp [cD, h2])
      simp [hlt, ao, h1, h2, hh, e]
     ·simp [hlt, ao, h1, h2, hw]
      refine ⟨j + 1, ⟨by omega, fb hlt hp (by simp [cD, h1, h2])⟩, by omega, ?_⟩
      simp [Leq, hh]
   ·have : j = l.length := by omega
    subst this
    have e : l.all (cD lo hi) = true := by rw [Q0] at hp; exact Q1.2 hp
    simp [hh, e]
theorem yk (l : List Cl) (h : List (List AV)) : Contract Tryz.prog 131 [.sl 2 (ai aC l) none .no] h (.v (.bool (decide (l.length <= 65535) && l.all dx))) h [] := by
 refine ab MI mixed (by simp [Cg]) fun hh hargs => ?_
 by_cases hl : (65535 : Int) < l.length
 ·have hl' : ¬ l.length <= 65535 := by omega
  simp [Cg, hl, hl', hh]
 ·have hl' : l.length <= 65535 := by omega
  simp [Cg, hl, hl']
  refine am (D := Nat) (fun j => ⟨[(0, .sl 2 (ai aC l) none .no), (3, .v (.int .i64 j))], [], h, []⟩) (fun j => j <= l.length /\ ∀ x ∈ l.take j, dx x = true) (fun j => l.length - j) 0 (by simp) ?_ ?_
  ·simp [Leq, hh]
  ·rintro j ⟨hj, hp⟩
   by_cases hlt : j < l.length
   ·have hw : IntKind.i64.wrap ((j : Int) + 1) = (j : Int) + 1 := wrap64 (by omega) (by omega)
    obtain ⟨n, b, hx⟩ : ∃ n b, l[j] = (n, b) := ⟨_, _, rfl⟩
    by_cases h1 : (1048576 : Int) < b.length
    ·have h3 : ¬ b.length <= 1048576 := by omega
     have e := nd (p := dx) hlt (by rw [hx]; simp [dx, h3])
     cases n
     ·simp [hlt, hx, dk, h1, hh, e]
     ·have h2 : 0 < b.length := by omega
      simp [hlt, hx, dk, h1, h2, hh, e]
    ·have h1' : b.length <= 1048576 := by omega
     cases n
     ·simp [hlt, hx, dk, h1, hw]
      refine ⟨j + 1, ⟨by omega, ⟨fun b => fb hlt hp (by rw [hx]; simp [dx, h1']) (_, b), fun b => fb hlt hp (by rw [hx]; simp [dx, h1']) (_, b)⟩⟩, by omega, ?_⟩
      simp [Leq, hh]
     ·by_cases h2 : 0 < b.length
      ·have e := nd (p := dx) hlt (by rw [hx]; simp [dx, h2])
       simp [hlt, hx, dk, h1, h2, hh, e]
      ·simp [hlt, hx, dk, h1, h2, hw]
       refine ⟨j + 1, ⟨by omega, ⟨fun b => fb hlt hp (by rw [hx]; simp [dx, h1', h2]) (_, b), fun b => fb hlt hp (by rw [hx]; simp [dx, h1', h2]) (_, b)⟩⟩, by omega, ?_⟩
       simp [Leq, hh]
   ·have : j = l.length := by omega
    subst this
    have e : l.all dx = true := by rw [Q0] at hp; exact Q1.2 hp
    simp [hh, e]
theorem CG (a b : Fm) (ha : fi a) (h : List (List AV)) : Contract Tryz.prog 38 [.agg (aG a), .agg (aG b)] h (.v (.bool (ol a b))) h [] := by
 obtain ⟨q1, q2, q3, q4, _⟩ := ha
 refine ab Qu mixed (by simp [B8]) fun hh hargs => ?_
 have one : ol a b = ((a.kind == b.kind && (a.what == b.what && (a.name == b.name && (a.portal == b.portal && (a.text == b.text && a.max == b.max))))) && (a.oids == b.oids && (a.formats == b.formats && (a.results == b.results && a.params == b.params)))) := by
  simp only [ol, Bool.and_assoc]
 rw [one]
 cases p1 : a.kind == b.kind with
 | false => simp [B8, hh, p1]
 | true =>
 cases p2 : a.what == b.what with
 | false => simp [B8, hh, p1, p2]
 | true =>
 cases p3 : a.name == b.name with
 | false => simp [B8, hh, p1, p2, p3]
 | true =>
 cases p4 : a.portal == b.portal with
 | false => simp [B8, hh, p1, p2, p3, p4]
 | true =>
 cases p5 : a.text == b.text with
 | false => simp [B8, hh, p1, p2, p3, p4, p5]
 | true =>
 cases p6 : a.max == b.max with
 | false => simp [B8, hh, p1, p2, p3, p4, p5, p6]
 | true =>
 simp [B8, p1, p2, p3, p4, p5, p6]
 refine aa (by simp) (lR _ _ q1 _) ?_
 cases p7 : a.oids == b.oids with
 | false => simp [hh]
 | true =>
 simp
 refine aa (by simp) (lR _ _ q2 _) ?_
 cases p8 : a.formats == b.formats with
 | false => simp [hh]
 | true =>
 simp
 refine aa (by simp) (lR _ _ q3 _) ?_
 cases p9 : a.results == b.results with
 | false => simp [hh]
 | true =>
 simp
 refine aa (by simp) (tq _ _ q4 _) ?_
 simp [hh]
def nK (m : Fm) : Bool := decide (50 < (m.oids.length : Int)) || (decide (50 < (m.formats.length : Int)) || (decide (50 < (m.results.length : Int)) || decide (50 < (m.params.length : Int))))
def pR (c : Cl) : Bool := decide (300 < (c.2.length : Int))
def ft (m : Fm) : Bool := !nK m && (!m.params.any pR && (decide ((m.name.length : Int) <= 300) && (decide ((m.portal.length : Int) <= 300) && decide ((m.text.length : Int) <= 1000))))
theorem BE (c : Cl) (h : List (List AV)) : Contract Tryz.prog 45 [.agg (aC c)] h (.v (.bool (pR c))) h [] := by
 refine ab PW mixed (by simp [MG]) fun hh hargs => ?_
 simp [MG, hh, pR]
theorem Cy (m : Fm) (h : List (List AV)) : Contract Tryz.prog 17 [.agg (aG m)] h (.v (.bool (ft m))) h [] := by
 refine aF (XCode.cuts [false, true] c17.code) QQ rfl mixed (by simp [c17]) fun hh hargs => ?_
 have plain_no : nK m = true -> ft m = false := fun h => by unfold ft; rw [h]; rfl
 have many_of : ∀ b, b = nK m -> b = true -> ft m = false := fun b h1 h2 => plain_no (h1 ▸ h2)
 simp [c17]
 by_cases hm : nK m = true
 ·rw [plain_no hm]
  refine KQ ?_
  unfold nK at hm
  by_cases h1 : 50 < (m.oids.length : Int)
  ·simp [h1, hh]
  by_cases h2 : 50 < (m.formats.length : Int)
  ·simp [h1, h2, hh]
  by_cases h3 : 50 < (m.results.length : Int)
  ·simp [h1, h2, h3, hh]
  by_cases h4 : 50 < (m.params.length : Int)
  ·simp [h1, h2, h3, h4, hh]
  simp [h1, h2, h3, h4] at hm
 ·have hm' : nK m = false := by simpa using hm
  have hp : ft m = (!m.params.any pR && (decide ((m.name.length : Int) <= 300) && (decide ((m.portal.length : Int) <= 300) && decide ((m.text.length : Int) <= 1000)))) := by unfold ft; rw [hm']; rfl
  rw [hp]
  unfold nK at hm'
  simp only [Bool.or_eq_false_iff, decide_eq_false_iff_not] at hm'
  obtain ⟨h1, h2, h3, h4⟩ := hm'
  refine aU ⟨[(1, .box h.length 0)], [], h ++ [aG m], []⟩ ?_ ?_
  ·simp [h1, h2, h3, h4, Leq, hh]
  ·simp
   refine aa (by simp) (dB mixed PB PA aC pR m.params [] _ (by simp) (by simp) (by simp) (fun c hm => BE c _) (by omega)) ?_
   cases p1 : m.params.any pR with
   | true => simp [hh]
   | false =>
   simp
   by_cases p2 : (m.name.length : Int) <= 300
   ·by_cases p3 : (m.portal.length : Int) <= 300
    ·simp [p2, p3, hh]
    ·simp [p2, p3, hh]
   ·simp [p2, hh]
end Go.Proofs.YtdfgljojemmlcaaGreat.Ax
