import Derived.Test.YtknohkmpficjgaaGreatDoorQAxSx
import Derived.Test.YtknohkmpficjgaaGreatDoorQAxSo
import Derived.Lib.TrimU
set_option linter.unusedSimpArgs false
set_option linter.unusedVariables false
open List renaming eq_nil_of_length_eq_zero -> Q7, drop_eq_nil_of_le -> Q8
open Nat renaming le_refl -> Q9
namespace Go.Proofs.YtknohkmpficjgaaGreatDoor.Ax
open Go.RowKit Go By
def NM:XFun:=⟨28,.seq (.ops [oZ 2 kI]) (.seq (.ops [oM 7 0,oX 8 (.call 127 [.tmp 7,.const (.string (ah [32]))]),oA 0 8]) (.seq (.seq (.ops [oM 10 0,oX 11 (.call 128 [.tmp 10,.const (.string (ah [115,101,108,101,99,116,32]))]),oM 9 11,oE 12 9 0,oE 13 9 1,oA 3 12,oA 4 13]) (.seq (.ops [oM 14 4]) (.cond (.tmp 14) (.seq (.ops [oM 15 3,oC 16 129 [15],oS 3 2 16]) .ret) .skip))) (.seq (.seq (.ops [oM 18 0,oX 19 (.call 128 [.tmp 18,.const (.string (ah [102,97,105,108,32]))]),oM 17 19,oE 20 17 0,oE 21 17 1,oA 5 20,oA 6 21]) (.seq (.ops [oM 22 6]) (.cond (.tmp 22) (.seq (.ops [oM 23 5,oC 24 130 [23],oS 3 2 24]) .ret) .skip))) (.seq (.ops [oM 25 0,oX 26 (.buildSlice 1 6 ly [(0,.const (.int .i64 1)),(1,.const (.int .i64 2)),(2,.const (.int .i64 3)),(3,.const (.int .i64 4)),(4,.const (.int .i64 6)),(5,.const (.int .i64 7))]),oC 27 131 [25,26],oS 3 2 27]) .ret)))),[.loadN 3 (.tmp 2)]⟩
theorem QY : ai Tryz.prog 76 = some NM := by kernel_rfl
def Ap:XFun:=⟨6,.seq (.ops [oJ 1 0,oK 2 (.bool false)]) (.seq (.ops [oP 3 3 1,oX 4 (.buildSlice 1 2 ly [(0,.const (.int .i64 3)),(1,.const (.int .i64 4))]),oC 5 132 [3,4],oA 2 5]) .ret),[.move (.tmp 2)]⟩
theorem KT : ai Tryz.prog 134 = some Ap := by kernel_rfl
def NN:XFun:=⟨6,.seq (.ops [oJ 1 0,oK 2 (.bool false)]) (.seq (.ops [oP 3 3 1,oX 4 (.buildSlice 1 3 ly [(0,.const (.int .i64 5)),(1,.const (.int .i64 6)),(2,.const (.int .i64 7))]),oC 5 132 [3,4],oA 2 5]) .ret),[.move (.tmp 2)]⟩
theorem QZ : ai Tryz.prog 77 = some NN := by kernel_rfl
def F5:XFun:=⟨15,.seq (.ops [oJ 2 0,oK 4 (.int .i64 0)]) (.seq (.block 0 (.seq (.ops [oF 6 0 2,oL 7 6,oI 8 .eql 7 (.int .i64 6),oA 5 8]) (.cond (.tmp 5) (.seq (.ops [oM 9 1,oX 10 (.maxI [.tmp 9,.const (.int .i64 0)]),oX 11 (.minI [.tmp 10,.const (.int .i64 1000)]),oA 4 11]) .ret) (.seq (.ops [oP 13 3 2,oC 14 77 [13],oA 12 14]) (.cond (.tmp 12) (.seq (.ops [oK 4 (.int .i64 1)]) .ret) .skip))))) (.seq (.ops [oK 4 (.int .i64 0)]) .ret)),[.move (.tmp 4)]⟩
theorem ON : ai Tryz.prog 136 = some F5 := by kernel_rfl
def F1:XFun:=⟨15,.seq (.ops [oZ 2 kI]) (.seq (.ops [oM 6 0,oX 7 (.call 186 [.tmp 6,.const (.int .i64 99)]),oM 5 7,oE 8 5 0,oE 9 5 1,oA 3 8,oA 4 9]) (.seq (.seq (.ops [oM 10 4,oV 11 10]) (.cond (.tmp 11) (.seq (.ops [oX 12 (.build kI []),oS 3 2 12]) .ret) .skip)) (.seq (.ops [oM 13 3,oX 14 (.build kI [(0,1,.const (.int .i64 5)),(1,1,.tmp 13)]),oS 3 2 14]) .ret))),[.loadN 3 (.tmp 2)]⟩
theorem OI : ai Tryz.prog 129 = some F1 := by kernel_rfl
def CY:XFun:=⟨13,.seq (.ops [oZ 2 kI]) (.seq (.seq (.ops [oM 3 0,oX 4 (.lenS (.tmp 3)),oI 5 .neq 4 (.int .i64 5),oM 6 5,oG 6 false (oM 7 0),oG 6 false (oX 8 (.call 187 [.tmp 7,.func 188])),oU 9 6 8]) (.cond (.tmp 9) (.seq (.ops [oX 10 (.build kI []),oS 3 2 10]) .ret) .skip)) (.seq (.ops [oM 11 0,oX 12 (.build kI [(0,1,.const (.int .i64 8)),(2,1,.tmp 11)]),oS 3 2 12]) .ret)),[.loadN 3 (.tmp 2)]⟩
theorem OJ : ai Tryz.prog 130 = some CY := by kernel_rfl
def F2:XFun:=⟨21,.seq (.ops [oZ 4 kI]) (.seq (.seq (.ops [oM 7 1,oH 8 7,oX 9 (.move (.const (.int .i64 0)))]) (.block 0 (.loop (.seq (.ops [oB 10 .lss 9 8]) (.seq (.cond (.tmp 10) .skip (.exit 0)) (.seq (.block 1 (.seq (.ops [oW 11 1 7 9,oL 12 11,oA 6 12]) (.seq (.ops [oM 13 0,oM 14 6,oC 15 189 [14],oB 16 .eql 13 15]) (.cond (.tmp 16) (.seq (.ops [oM 17 6,oD 18 0 kI 17,oS 3 4 18]) .ret) .skip)))) (.ops [oI 19 .add 9 (.int .i64 1),oM 9 19]))))))) (.seq (.ops [oX 20 (.build kI []),oS 3 4 20]) .ret)),[.loadN 3 (.tmp 4)]⟩
theorem OK : ai Tryz.prog 131 = some F2 := by kernel_rfl
def pP:XFun:=⟨18,.seq (.ops [oK 2 (.string (ah []))]) (.seq (.seq (.ops [oM 3 0]) (.block 0 (.seq (.ops [oI 5 .eql 3 (.int .i64 2),oA 4 5]) (.cond (.tmp 4) (.seq (.ops [oK 2 (.string (ah [98,101,103,105,110]))]) .ret) (.seq (.ops [oI 7 .eql 3 (.int .i64 3),oA 6 7]) (.cond (.tmp 6) (.seq (.ops [oK 2 (.string (ah [99,111,109,109,105,116]))]) .ret) (.seq (.ops [oI 9 .eql 3 (.int .i64 4),oA 8 9]) (.cond (.tmp 8) (.seq (.ops [oK 2 (.string (ah [114,111,108,108,98,97,99,107]))]) .ret) (.seq (.ops [oI 11 .eql 3 (.int .i64 5),oA 10 11]) (.cond (.tmp 10) (.seq (.ops [oK 2 (.string (ah [115,101,108,101,99,116,32]))]) .ret) (.seq (.ops [oI 13 .eql 3 (.int .i64 6),oA 12 13]) (.cond (.tmp 12) (.seq (.ops [oK 2 (.string (ah [101,99,104,111]))]) .ret) (.seq (.ops [oI 15 .eql 3 (.int .i64 7),oA 14 15]) (.cond (.tmp 14) (.seq (.ops [oK 2 (.string (ah [110,101,120,116]))]) .ret) (.seq (.ops [oI 17 .eql 3 (.int .i64 8),oA 16 17]) (.cond (.tmp 16) (.seq (.ops [oK 2 (.string (ah [102,97,105,108,32]))]) .ret) .skip)))))))))))))))) (.seq (.ops [oK 2 (.string (ah []))]) .ret)),[.move (.tmp 2)]⟩
theorem Pb : ai Tryz.prog 189 = some pP := by kernel_rfl
def Ao:XFun:=⟨9,.seq (.ops [oJ 2 0,oK 4 (.bool false)]) (.seq (.ops [oM 5 1,oF 6 0 2,oL 7 6,oC 8 190 [5,7],oA 4 8]) .ret),[.move (.tmp 4)]⟩
theorem KS : ai Tryz.prog 132 = some Ao := by kernel_rfl
def CX:XFun:=⟨43,.seq (.ops [oK 4 (.string (ah []))]) (.seq (.seq (.ops [oM 7 0,oI 8 .eql 7 (.string (ah [])),oM 9 8,oG 9 false (oM 10 1),oG 9 false (oI 11 .eql 10 (.string (ah []))),oU 12 9 11]) (.cond (.tmp 12) (.seq (.ops [oM 13 0,oA 4 13]) .ret) .skip)) (.seq (.seq (.ops [oM 14 1,oX 15 (.lenS (.tmp 14)),oI 16 .eql 15 (.int .i64 1),oM 17 16,oG 17 true (oM 18 1),oG 17 true (oX 19 (.idxS (.tmp 18) (.const (.int .i64 0)))),oG 17 true (oI 20 .lss 19 (.int .u8 128)),oT 21 17 20]) (.cond (.tmp 21) (.seq (.draws (.take (oM 22 0) (.take (oM 23 1) (.take (oX 24 (.idxS (.tmp 23) (.const (.int .i64 0)))) (.take (oM 26 1) (.take (oX 27 (.idxS (.tmp 26) (.const (.int .i64 0)))) (.only (oC 25 179 [22,24]) (.only (oC 28 178 [25,27]) (.take (oA 4 28) .done))))))))) .ret) .skip)) (.seq (.seq (.ops [oM 30 1,oC 31 180 [30],oM 29 31,oE 32 29 0,oE 33 29 1,oZ 5 [.v (.bool false),.v (.bool false),.v (.bool false),.v (.bool false),.v (.bool false),.v (.bool false),.v (.bool false),.v (.bool false),.v (.bool false),.v (.bool false),.v (.bool false),.v (.bool false),.v (.bool false),.v (.bool false),.v (.bool false),.v (.bool false),.v (.bool false),.v (.bool false),.v (.bool false),.v (.bool false),.v (.bool false),.v (.bool false),.v (.bool false),.v (.bool false),.v (.bool false),.v (.bool false),.v (.bool false),.v (.bool false),.v (.bool false),.v (.bool false),.v (.bool false),.v (.bool false),.v (.bool false),.v (.bool false),.v (.bool false),.v (.bool false),.v (.bool false),.v (.bool false),.v (.bool false),.v (.bool false),.v (.bool false),.v (.bool false),.v (.bool false),.v (.bool false),.v (.bool false),.v (.bool false),.v (.bool false),.v (.bool false),.v (.bool false),.v (.bool false),.v (.bool false),.v (.bool false),.v (.bool false),.v (.bool false),.v (.bool false),.v (.bool false),.v (.bool false),.v (.bool false),.v (.bool false),.v (.bool false),.v (.bool false),.v (.bool false),.v (.bool false),.v (.bool false),.v (.bool false),.v (.bool false),.v (.bool false),.v (.bool false),.v (.bool false),.v (.bool false),.v (.bool false),.v (.bool false),.v (.bool false),.v (.bool false),.v (.bool false),.v (.bool false),.v (.bool false),.v (.bool false),.v (.bool false),.v (.bool false),.v (.bool false),.v (.bool false),.v (.bool false),.v (.bool false),.v (.bool false),.v (.bool false),.v (.bool false),.v (.bool false),.v (.bool false),.v (.bool false),.v (.bool false),.v (.bool false),.v (.bool false),.v (.bool false),.v (.bool false),.v (.bool false),.v (.bool false),.v (.bool false),.v (.bool false),.v (.bool false),.v (.bool false),.v (.bool false),.v (.bool false),.v (.bool false),.v (.bool false),.v (.bool false),.v (.bool false),.v (.bool false),.v (.bool false),.v (.bool false),.v (.bool false),.v (.bool false),.v (.bool false),.v (.bool false),.v (.bool false),.v (.bool false),.v (.bool false),.v (.bool false),.v (.bool false),.v (.bool false),.v (.bool false),.v (.bool false),.v (.bool false),.v (.bool false),.v (.bool false),.v (.bool false),.v (.bool false),.v (.bool false),.v (.bool false),.v (.bool false),.v (.bool false),.v (.bool false),.v (.bool false),.v (.bool false),.v (.bool false),.v (.bool false),.v (.bool false),.v (.bool false),.v (.bool false),.v (.bool false),.v (.bool false),.v (.bool false),.v (.bool false),.v (.bool false),.v (.bool false),.v (.bool false),.v (.bool false),.v (.bool false),.v (.bool false),.v (.bool false),.v (.bool false),.v (.bool false),.v (.bool false),.v (.bool false),.v (.bool false),.v (.bool false),.v (.bool false),.v (.bool false),.v (.bool false),.v (.bool false),.v (.bool false),.v (.bool false),.v (.bool false),.v (.bool false),.v (.bool false),.v (.bool false),.v (.bool false),.v (.bool false),.v (.bool false),.v (.bool false),.v (.bool false),.v (.bool false),.v (.bool false),.v (.bool false),.v (.bool false),.v (.bool false),.v (.bool false),.v (.bool false),.v (.bool false),.v (.bool false),.v (.bool false),.v (.bool false),.v (.bool false),.v (.bool false),.v (.bool false),.v (.bool false),.v (.bool false),.v (.bool false),.v (.bool false),.v (.bool false),.v (.bool false),.v (.bool false),.v (.bool false),.v (.bool false),.v (.bool false),.v (.bool false),.v (.bool false),.v (.bool false),.v (.bool false),.v (.bool false),.v (.bool false),.v (.bool false),.v (.bool false),.v (.bool false),.v (.bool false),.v (.bool false),.v (.bool false),.v (.bool false),.v (.bool false),.v (.bool false),.v (.bool false),.v (.bool false),.v (.bool false),.v (.bool false),.v (.bool false),.v (.bool false),.v (.bool false),.v (.bool false),.v (.bool false),.v (.bool false),.v (.bool false),.v (.bool false),.v (.bool false),.v (.bool false),.v (.bool false),.v (.bool false),.v (.bool false),.v (.bool false),.v (.bool false),.v (.bool false),.v (.bool false),.v (.bool false),.v (.bool false),.v (.bool false),.v (.bool false),.v (.bool false),.v (.bool false),.v (.bool false),.v (.bool false),.v (.bool false),.v (.bool false),.v (.bool false),.v (.bool false),.v (.bool false),.v (.bool false),.v (.bool false),.v (.bool false),.v (.bool false),.v (.bool false),.v (.bool false),.v (.bool false),.v (.bool false),.v (.bool false),.v (.bool false),.v (.bool false),.v (.bool false)],oS 256 5 32,oA 6 33]) (.seq (.ops [oM 34 6]) (.cond (.tmp 34) (.seq (.ops [oM 35 0,oC 36 182 [35,5],oC 37 181 [36,5],oA 4 37]) .ret) .skip))) (.seq (.ops [oM 38 0,oM 39 1,oC 40 184 [38,39],oM 41 1,oC 42 183 [40,41],oA 4 42]) .ret)))),[.move (.tmp 4)]⟩
theorem OG : ai Tryz.prog 127 = some CX := by kernel_rfl
def Gi:XFun:=⟨17,.seq (.ops [oK 4 (.string (ah []))]) (.seq (.block 0 (.loop (.seq (.seq (.ops [oM 5 0,oX 6 (.lenS (.tmp 5)),oI 7 .gtr 6 (.int .i64 0),oM 8 7,oG 8 true (oM 9 0),oG 8 true (oX 10 (.idxS (.tmp 9) (.const (.int .i64 0)))),oG 8 true (oM 11 1),oG 8 true (oB 12 .eql 10 11),oT 13 8 12]) (.cond (.tmp 13) .skip (.exit 0))) (.block 1 (.ops [oM 14 0,oX 15 (.sliceS (.tmp 14) (some (.const (.int .i64 1))) none),oA 0 15]))))) (.seq (.ops [oM 16 0,oA 4 16]) .ret)),[.move (.tmp 4)]⟩
theorem O7 : ai Tryz.prog 178 = some Gi := by kernel_rfl
def Gj:XFun:=⟨23,.seq (.ops [oK 4 (.string (ah []))]) (.seq (.block 0 (.loop (.seq (.seq (.ops [oM 5 0,oX 6 (.lenS (.tmp 5)),oI 7 .gtr 6 (.int .i64 0),oM 8 7,oG 8 true (oM 9 0),oG 8 true (oM 10 0),oG 8 true (oX 11 (.lenS (.tmp 10))),oG 8 true (oI 12 .sub 11 (.int .i64 1)),oG 8 true (oX 13 (.idxS (.tmp 9) (.tmp 12))),oG 8 true (oM 14 1),oG 8 true (oB 15 .eql 13 14),oT 16 8 15]) (.cond (.tmp 16) .skip (.exit 0))) (.block 1 (.ops [oM 17 0,oM 18 0,oX 19 (.lenS (.tmp 18)),oI 20 .sub 19 (.int .i64 1),oX 21 (.sliceS (.tmp 17) none (some (.tmp 20))),oA 0 21]))))) (.seq (.ops [oM 22 0,oA 4 22]) .ret)),[.move (.tmp 4)]⟩
theorem O8 : ai Tryz.prog 179 = some Gj := by kernel_rfl
def Gl:XFun:=⟨9,.seq (.ops [oK 4 (.bool false)]) (.seq (.ops [oM 5 0,oM 6 1,oC 7 212 [5,6],oI 8 .geq 7 (.int .i64 0),oA 4 8]) .ret),[.move (.tmp 4)]⟩
theorem Pa : ai Tryz.prog 187 = some Gl := by kernel_rfl
def Gs:XFun:=⟨8,.seq (.ops [oK 4 (.int .i64 0)]) (.seq (.ops [oM 5 0,oM 6 1,oX 7 (.call 220 [.tmp 5,.tmp 6,.const (.bool true)]),oA 4 7]) .ret),[.move (.tmp 4)]⟩
theorem Pn : ai Tryz.prog 212 = some Gs := by kernel_rfl
end Go.Proofs.YtknohkmpficjgaaGreatDoor.Ax
namespace Go.Proofs.YtknohkmpficjgaaGreatDoor.Ax
set_option maxRecDepth 100000
open Go.RowKit Go By Dg
set_option maxRecDepth 10000
theorem rG {x : UInt8} : ((x.toNat : Int) = 32) ↔ x = 32 := by
 constructor
 ·intro e
  exact UInt8.toNat_inj.1 (by show x.toNat = 32; omega)
 ·intro e; subst e; rfl
theorem wK (s : List UInt8) (hs : s.length <= 9223372036854775807) (h : List (List AV)) : ae Tryz.prog 178 [.v (.string (ah s)), .v (.int .u8 32)] h (.v (.string (ah (cW s)))) h [] := by
 refine ac O7 mixed (by simp [Gi]) fun hh hargs => ?_
 simp [Gi]
 refine ar (D := List UInt8) (fun u => ⟨[(0, .v (.string (ah u))), (1, .v (.int .u8 32))], [], h, []⟩) (fun u => u.length <= s.length /\ cW u = cW s) (fun u => u.length) s ⟨Q9 _, rfl⟩ ?_ ?_
 ·simp [Leq, hh, af]
 ·rintro u ⟨hj, hl⟩
  cases u with
  | nil => simp [hh, <- hl, cW]
  | cons x t =>
   simp at hj
   by_cases e : x = 32
   ·have e3 : (0 : Int) <= (t.length : Int) := by omega
    simp [e, lq, e3]
    refine ⟨by omega, t, ⟨by omega, ?_⟩, ?_⟩
    ·rw [<- hl, cW, if_pos e]
    ·simp [Leq, hh, af]
   ·have e4 : ((x.toNat : Int) == 32) = false := by
     rw [beq_eq_false_iff_ne]
     exact fun k => e (rG.1 k)
    have e5 : ¬ (x.toNat : Int) = 32 := fun k => e (rG.1 k)
    rw [cW, if_neg e] at hl
    simp [e4, e5, hh, <- hl]
theorem uF (s : List UInt8) (hs : s.length <= 9223372036854775807) (h : List (List AV)) : ae Tryz.prog 179 [.v (.string (ah s)), .v (.int .u8 32)] h (.v (.string (ah (bV s)))) h [] := by
 refine ac O8 mixed (by simp [Gj]) fun hh hargs => ?_
 simp [Gj]
 refine ar (D := List UInt8) (fun u => ⟨[(0, .v (.string (ah u))), (1, .v (.int .u8 32))], [], h, []⟩) (fun u => u.length <= s.length /\ bV u = bV s) (fun u => u.length) s ⟨Q9 _, rfl⟩ ?_ ?_
 ·simp [Leq, hh, af]
 ·rintro u ⟨hj, hl⟩
  by_cases hu : u = []
  ·subst hu
   simp [hh, <- hl, bV]
  ·obtain ⟨v, x, rfl⟩ := Ea hu
   simp at hj
   have hw : IntKind.i64.wrap (v.length : Int) = (v.length : Int) := wrap64 (by omega) (by omega)
   by_cases e : x = 32
   ·simp [e, lq, hw]
    refine ⟨by omega, by omega, v, ⟨by omega, ?_⟩, by omega, ?_⟩
    ·rw [<- hl, e, wi]
    ·simp [Leq, hh, af]
   ·have e4 : ((x.toNat : Int) == 32) = false := by
     rw [beq_eq_false_iff_ne]
     exact fun k => e (rG.1 k)
    have e5 : ¬ (x.toNat : Int) = 32 := fun k => e (rG.1 k)
    rw [zr v e] at hl
    simp [e4, e5, hh, <- hl, hw]
    omega
theorem Ib (s : List UInt8) (hs : s.length <= 9223372036854775807) (h : List (List AV)) : ae Tryz.prog 127 [.v (.string (ah s)), .v (.string (ah [32]))] h (.v (.string (ah (fm s)))) h [] := by
 refine ac OG mixed (by simp [CX]) fun hh hargs => ?_
 by_cases e : s = []
 ·subst e
  simp [CX, hh, fm, cW, bV]
 ·have e0 : (s == []) = false := by simpa using e
  simp [CX, e, e0]
  refine aa (by simp) (uF s hs _) ?_
  simp
  refine aa (by simp) (wK (bV s) (Nat.le_trans (qY s) hs) _) ?_
  simp [hh, fm, zI]
theorem sZ {p : UInt8 -> Bool} {s : List UInt8} {j : Nat} (hj : j < s.length) (h : (s.take j).all p = true) (e : p s[j] = true) : (s.take (j + 1)).all p = true := by
 rw [List.take_succ_eq_append_getElem hj, List.all_append, h]
 simp [e]
def fj (x : Nat) : Bool := !((decide (48 <= x) && decide (x <= 57)) || (decide (65 <= x) && decide (x <= 90)))
theorem tX (x : Nat) (W : World) : Calls Tryz.prog 188 #[.int .i32 (x : Int)] W fun e w' => e = .returned (.bool (fj x)) /\ ∃ q, w' = W.drewN q := by
 have e : fj x = ((decide ((x : Int) < 48) || decide (57 < (x : Int))) && (decide ((x : Int) < 65) || decide (90 < (x : Int)))) := by
  unfold fj
  rw [Bool.eq_iff_iff]
  simp
  omega
 go_enter Tryz.func188, Tryz.ntmps188
 go_wp2
 all_goals go_ret
 all_goals exact ⟨by first | rfl | (rw [e]; simp; done) | (rw [e]; simp; omega) | (rw [e]; simp_all; omega) | (simp_all; omega), 0, rfl⟩
theorem tN (s : List UInt8) (h : List (List AV)) : ae Tryz.prog 220 [.v (.string (ah s)), .fn (.func 188) [] [], .v (.bool true)] h (.v (.int .i64 (Lib.idxFunc fj true (ah s)))) h [] :=
 bw (by kernel_rfl) rfl fun G w vs _ hs => by
  obtain ⟨a, r, rfl, h1, h2⟩ := hs.split
  obtain ⟨b, r, rfl, h3, h4⟩ := h2.split
  obtain ⟨c, r, rfl, h5, h6⟩ := h4.split
  have hr : r = [] := Q7 (by have := h6.1; simpa using this)
  rw [h1.inv_v, h5.inv_v, hr]
  cases h3 with
  | fn _ _ _ us vs l1 l2 _ _ =>
   have e1 : us = [] := Q7 (by simpa using l1)
   have e2 : vs = [] := Q7 (by simpa using l2)
   subst e1 e2
   refine (Tryz.strings_indexFunc 188 #[] (fun args W => gF (cl (by kernel_rfl)) args W) fj true (ah s) w fun W x _ => ?_).mono fun e w' he => ?_
   ·exact tX x W
   ·exact ⟨_, he.1, .v _, he.2⟩
theorem decode_high (n b0 b1 b2 b3 : Nat) (h : 128 <= b0) : 128 <= (Lib.decodeN n b0 b1 b2 b3).1 := by
 unfold Lib.decodeN
 repeat' split
 all_goals (simp only; omega)
theorem vh (n b0 b1 b2 b3 : Nat) (h : b0 < 128) : Lib.decodeN n b0 b1 b2 b3 = (b0, 1) := by unfold Lib.decodeN; rw [if_pos h]
theorem B4 (s : List UInt8) {j : Nat} (hj : j < s.length) : (ah s).get! j = s[j] := by
 show (ah s).data[j]! = s[j]
 have : (ah s).data = s.toArray := rfl
 rw [this]
 simp [hj]
theorem xq (s : List UInt8) : ∀ (f j : Nat), s.length <= j + f -> decide (0 <= Lib.idxFuncFrom fj true (ah s) f j) = !((s.drop j).all CF)
 | 0, j, h => by
  have : s.drop j = [] := Q8 (by omega)
  rw [this]; rfl
 | f + 1, j, h => by
  unfold Lib.idxFuncFrom
  rw [cY]
  by_cases hj : j < s.length
  ·rw [if_pos hj, List.drop_eq_getElem_cons hj, List.all_cons, Lib.decode_at, B4 s hj]
   by_cases hb : s[j].toNat < 128
   ·rw [vh _ _ _ _ _ hb]
    have e : fj s[j].toNat = !CF s[j] := rfl
    simp only [e]
    cases hc : CF s[j] with
    | true =>
     simp only [Bool.not_true, Bool.false_eq_true, if_false, Bool.true_and]
     exact xq s f (j + 1) (by omega)
    | false => simp
   ·have h1 := decode_high ((ah s).size - j) s[j].toNat ((ah s).get! (j + 1)).toNat ((ah s).get! (j + 2)).toNat ((ah s).get! (j + 3)).toNat (by omega)
    generalize Lib.decodeN ((ah s).size - j) s[j].toNat ((ah s).get! (j + 1)).toNat ((ah s).get! (j + 2)).toNat ((ah s).get! (j + 3)).toNat = q at h1 ⊢
    have e1 : fj q.1 = true := by unfold fj; simp; omega
    have e2 : CF s[j] = false := by unfold CF; simp; omega
    rw [e1, e2]
    simp
  ·have : s.drop j = [] := Q8 (by omega)
   rw [if_neg hj, this]; rfl
theorem ti (s : List UInt8) (hs : s.length <= 9223372036854775807) (h : List (List AV)) : ae Tryz.prog 187 [.v (.string (ah s)), .fn (.func 188) [] []] h (.v (.bool (!s.all CF))) h [] := by
 have hi : ae Tryz.prog 212 [.v (.string (ah s)), .fn (.func 188) [] []] h (.v (.int .i64 (Lib.idxFunc fj true (ah s)))) h [] := by
  refine ac Pn mixed (by simp [Gs]) fun hh hargs => ?_
  simp [Gs]
  refine aa (by simp) (tN s _) ?_
  simp [hh]
 have e := xq s s.length 0 (by omega)
 rw [List.drop_zero] at e
 have e : decide (0 <= Lib.idxFunc fj true (ah s)) = !s.all CF := by rw [<- e]; unfold Lib.idxFunc; rw [cY]
 refine ac Pa mixed (by simp [Gl]) fun hh hargs => ?_
 rw [<- e]
 simp [Gl]
 refine aa (by simp) hi ?_
 simp [hh]
end Go.Proofs.YtknohkmpficjgaaGreatDoor.Ax
