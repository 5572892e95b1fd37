import Derived.Test.YtdfgljojemmlcaaGreatQAxMs
import Derived.Test.YtdfgljojemmlcaaGreatQAxSo
import Derived.Shelf.Strconv.Clone
set_option linter.unusedSimpArgs false
set_option linter.unusedVariables false
namespace Go.Proofs.YtdfgljojemmlcaaGreat.Ax
open Go.RowKit Go By
def Oi:XFun:=⟨14,.seq (.ops [oK 2 (.pointer none),oK 3 (.int .i64 0)]) (.seq (.seq (.ops [oM 4 0,oI 5 .lss 4 (.int .i64 1),oM 6 5,oG 6 false (oM 7 0),oG 6 false (oI 8 .gtr 7 (.int .i64 4096)),oU 9 6 8]) (.cond (.tmp 9) (.seq (.ops [oK 2 (.pointer none),oK 3 (.int .i64 1)]) .ret) .skip)) (.seq (.ops [oX 10 (.makeMap 1 true),oM 11 0,oX 12 (.build [.v (.map none),.v (.int .i64 0)] [(0,1,.tmp 10),(1,1,.tmp 11)]),oJ 13 12,oA 2 13,oK 3 (.int .i64 0)]) .ret)),[.move (.tmp 2),.move (.tmp 3)]⟩
theorem Qq : ak Tryz.prog 19 = some Oi := by kernel_rfl
def FG:XFun:=⟨50,.seq (.ops [oK 6 (.int .i64 0),oK 7 (.int .i64 0)]) (.seq (.seq (.ops [oM 10 0,oX 11 (.pnileq false (.tmp 10)),oM 12 11,oG 12 false (oM 13 0),oG 12 false (oX 14 (.nilCheck (.tmp 13))),oG 12 false (oF 15 0 14),oG 12 false (oL 16 15),oG 12 false (oX 17 (.mnileq false (.tmp 16))),oU 18 12 17]) (.cond (.tmp 18) (.seq (.ops [oK 6 (.int .i64 0),oK 7 (.int .i64 2)]) .ret) .skip)) (.seq (.ops [oM 20 0,oX 21 (.nilCheck (.tmp 20)),oF 22 0 21,oL 23 22,oM 24 1,oX 25 (.lookup none 1 true true z9 (.tmp 23) (.tmp 24)),oM 19 25,oE 26 19 0,oE 27 19 1,oA 8 26,oA 9 27]) (.seq (.seq (.draws (.take (oM 28 9) (.take (oV 29 28) (.take (oM 30 29) (.take (oG 30 true (oM 31 0)) (.take (oG 30 true (oX 32 (.nilCheck (.tmp 31)))) (.take (oG 30 true (oF 33 0 32)) (.take (oG 30 true (oL 34 33)) (.take (oG 30 true (oX 35 (.lenM 1 true (.tmp 34)))) (.take (oG 30 true (oM 36 0)) (.take (oG 30 true (oX 37 (.nilCheck (.tmp 36)))) (.take (oG 30 true (oF 38 1 37)) (.take (oG 30 true (oL 39 38)) (.take (oG 30 true (oB 40 .geq 35 39)) (.take (oT 41 30 40) .done))))))))))))))) (.cond (.tmp 41) (.seq (.ops [oK 6 (.int .i64 0),oK 7 (.int .i64 6)]) .ret) .skip)) (.seq (.draws (.take (oM 42 0) (.take (oX 43 (.nilCheck (.tmp 42))) (.take (oF 44 0 43) (.take (oL 45 44) (.take (oM 46 1) (.take (oM 48 2) (.only (oC 47 51 [46]) (.last ⟨none,.mapUpd none 1 true (.tmp 45) (.tmp 47) (.tmp 48),none⟩))))))))) (.seq (.ops [oM 49 8,oA 6 49,oK 7 (.int .i64 0)]) .ret))))),[.move (.tmp 6),.move (.tmp 7)]⟩
theorem O4 : ak Tryz.prog 23 = some FG := by kernel_rfl
def Fl:XFun:=⟨21,.seq (.ops [oK 4 (.int .i64 0),oK 5 (.bool false)]) (.seq (.seq (.ops [oM 8 0,oX 9 (.pnileq false (.tmp 8))]) (.cond (.tmp 9) (.seq (.ops [oK 4 (.int .i64 0),oK 5 (.bool false)]) .ret) .skip)) (.seq (.ops [oM 11 0,oX 12 (.nilCheck (.tmp 11)),oF 13 0 12,oL 14 13,oM 15 1,oX 16 (.lookup none 1 true true z9 (.tmp 14) (.tmp 15)),oM 10 16,oE 17 10 0,oE 18 10 1,oA 6 17,oA 7 18]) (.seq (.ops [oM 19 6,oM 20 7,oA 4 19,oA 5 20]) .ret))),[.move (.tmp 4),.move (.tmp 5)]⟩
theorem MW : ak Tryz.prog 119 = some Fl := by kernel_rfl
def MU:XFun:=⟨13,.seq (.ops [oK 2 (.pointer none),oK 3 (.int .i64 0)]) (.seq (.seq (.ops [oM 4 0,oI 5 .lss 4 (.int .i64 1),oM 6 5,oG 6 false (oM 7 0),oG 6 false (oI 8 .gtr 7 (.int .i64 4096)),oU 9 6 8]) (.cond (.tmp 9) (.seq (.ops [oK 2 (.pointer none),oK 3 (.int .i64 1)]) .ret) .skip)) (.seq (.ops [oM 10 0,oD 11 1 Ll 10,oJ 12 11,oA 2 12,oK 3 (.int .i64 0)]) .ret)),[.move (.tmp 2),.move (.tmp 3)]⟩
theorem PQ : ak Tryz.prog 20 = some MU := by kernel_rfl
def Fw:XFun:=⟨100,.seq (.ops [oK 6 (.int .i64 0),oK 7 (.int .i64 0)]) (.seq (.seq (.ops [oK 8 (.int .i64 0)]) (.block 0 (.loop (.seq (.seq (.ops [oM 11 8,oM 12 0,oX 13 (.nilCheck (.tmp 12)),oF 14 0 13,oL 15 14,oH 16 15,oB 17 .lss 11 16]) (.cond (.tmp 17) .skip (.exit 0))) (.seq (.block 1 (.seq (.ops [oM 20 0,oX 21 (.nilCheck (.tmp 20)),oF 22 0 21,oL 23 22,oM 24 8,oW 25 2 23 24,oF 26 0 25,oL 27 26,oM 28 1,oB 29 .eql 27 28]) (.cond (.tmp 29) (.seq (.ops [oM 30 0,oX 31 (.nilCheck (.tmp 30)),oF 32 0 31,oL 33 32,oM 34 8,oW 35 2 33 34,oF 36 1 35,oL 37 36,oA 9 37]) (.seq (.ops [oM 38 0,oX 39 (.nilCheck (.tmp 38)),oF 40 0 39,oL 41 40,oM 42 8,oM 43 2,oW 44 2 41 42,oF 45 1 44,oS 1 45 43]) (.seq (.ops [oM 46 9,oA 6 46,oK 7 (.int .i64 0)]) .ret))) .skip))) (.ops [oM 18 8,oI 19 .add 18 (.int .i64 1),oA 8 19])))))) (.seq (.seq (.draws (.take (oM 47 0) (.take (oX 48 (.nilCheck (.tmp 47))) (.take (oF 49 0 48) (.take (oL 50 49) (.take (oH 51 50) (.take (oM 52 0) (.take (oX 53 (.nilCheck (.tmp 52))) (.take (oF 54 1 53) (.take (oL 55 54) (.take (oB 56 .geq 51 55) .done))))))))))) (.cond (.tmp 56) (.seq (.ops [oK 6 (.int .i64 0),oK 7 (.int .i64 6)]) .ret) .skip)) (.seq (.ops [oK 10 (.int .i64 0)]) (.seq (.block 2 (.loop (.seq (.seq (.ops [oM 57 10,oM 58 0,oX 59 (.nilCheck (.tmp 58)),oF 60 0 59,oL 61 60,oH 62 61,oB 63 .lss 57 62,oM 64 63,oG 64 true (oM 65 0),oG 64 true (oX 66 (.nilCheck (.tmp 65))),oG 64 true (oF 67 0 66),oG 64 true (oL 68 67),oG 64 true (oM 69 10),oG 64 true (oW 70 2 68 69),oG 64 true (oF 71 0 70),oG 64 true (oL 72 71),oG 64 true (oM 73 1),oG 64 true (oB 74 .lss 72 73),oT 75 64 74]) (.cond (.tmp 75) .skip (.exit 2))) (.block 3 (.ops [oM 76 10,oI 77 .add 76 (.int .i64 1),oA 10 77]))))) (.seq (.draws (.take (oM 78 0) (.take (oM 79 0) (.take (oX 80 (.nilCheck (.tmp 79))) (.take (oF 81 0 80) (.take (oL 82 81) (.take (oM 83 10) (.take (oX 84 (.slice 2 (.tmp 82) none (some (.tmp 83)) none)) (.take (oM 86 1) (.take (oM 87 2) (.take (oX 88 (.build Lf [(0,1,.tmp 86),(1,1,.tmp 87)])) (.take (oM 91 0) (.take (oX 92 (.nilCheck (.tmp 91))) (.take (oF 93 0 92) (.take (oL 94 93) (.take (oM 95 10) (.take (oX 96 (.slice 2 (.tmp 94) (some (.tmp 95)) none none)) (.two (oX 85 (.appendN 2 24 (.tmp 84))) (oR 89 2 1 88 Lf) (.only (oR 89 2 1 88 Lf) (.only (oX 90 (.append 2 24 (.tmp 85) (.tmp 89))) (.only (oX 97 (.append 2 24 (.tmp 90) (.tmp 96))) (.take (oX 98 (.nilCheck (.tmp 78))) (.take (oF 99 0 98) (.last (oS 1 99 97))))))) (.only (oX 85 (.appendN 2 24 (.tmp 84))) (.only (oX 90 (.append 2 24 (.tmp 85) (.tmp 89))) (.only (oX 97 (.append 2 24 (.tmp 90) (.tmp 96))) (.take (oX 98 (.nilCheck (.tmp 78))) (.take (oF 99 0 98) (.last (oS 1 99 97))))))))))))))))))))))))) (.seq (.ops [oK 6 (.int .i64 0),oK 7 (.int .i64 0)]) .ret)))))),[.move (.tmp 6),.move (.tmp 7)]⟩
theorem Og : ak Tryz.prog 24 = some Fw := by kernel_rfl
def yX:XFun:=⟨54,.seq (.ops [oK 4 (.int .i64 0),oK 5 (.bool false)]) (.seq (.seq (.ops [oK 6 (.int .i64 0)]) (.block 0 (.loop (.seq (.seq (.ops [oM 8 6,oM 9 0,oX 10 (.nilCheck (.tmp 9)),oF 11 0 10,oL 12 11,oH 13 12,oB 14 .lss 8 13]) (.cond (.tmp 14) .skip (.exit 0))) (.seq (.block 1 (.seq (.ops [oM 17 0,oX 18 (.nilCheck (.tmp 17)),oF 19 0 18,oL 20 19,oM 21 6,oW 22 2 20 21,oF 23 0 22,oL 24 23,oM 25 1,oB 26 .eql 24 25]) (.cond (.tmp 26) (.seq (.ops [oM 27 0,oX 28 (.nilCheck (.tmp 27)),oF 29 0 28,oL 30 29,oM 31 6,oW 32 2 30 31,oF 33 1 32,oL 34 33,oA 7 34]) (.seq (.draws (.take (oM 35 0) (.take (oM 36 0) (.take (oX 37 (.nilCheck (.tmp 36))) (.take (oF 38 0 37) (.take (oL 39 38) (.take (oM 40 6) (.take (oX 41 (.slice 2 (.tmp 39) none (some (.tmp 40)) none)) (.take (oM 43 0) (.take (oX 44 (.nilCheck (.tmp 43))) (.take (oF 45 0 44) (.take (oL 46 45) (.take (oM 47 6) (.take (oI 48 .add 47 (.int .i64 1)) (.take (oX 49 (.slice 2 (.tmp 46) (some (.tmp 48)) none none)) (.only (oX 42 (.appendN 2 24 (.tmp 41))) (.only (oX 50 (.append 2 24 (.tmp 42) (.tmp 49))) (.take (oX 51 (.nilCheck (.tmp 35))) (.take (oF 52 0 51) (.last (oS 1 52 50))))))))))))))))))))) (.seq (.ops [oM 53 7,oA 4 53,oK 5 (.bool true)]) .ret))) .skip))) (.ops [oM 15 6,oI 16 .add 15 (.int .i64 1),oA 6 16])))))) (.seq (.ops [oK 4 (.int .i64 0),oK 5 (.bool false)]) .ret)),[.move (.tmp 4),.move (.tmp 5)]⟩
theorem Ks : ak Tryz.prog 102 = some yX := by kernel_rfl
def Pt:XFun:=⟨34,.seq (.ops [oK 4 (.int .i64 0),oK 5 (.bool false)]) (.seq (.seq (.ops [oK 6 (.int .i64 0)]) (.block 0 (.loop (.seq (.seq (.ops [oM 7 6,oM 8 0,oX 9 (.nilCheck (.tmp 8)),oF 10 0 9,oL 11 10,oH 12 11,oB 13 .lss 7 12]) (.cond (.tmp 13) .skip (.exit 0))) (.seq (.block 1 (.seq (.ops [oM 16 0,oX 17 (.nilCheck (.tmp 16)),oF 18 0 17,oL 19 18,oM 20 6,oW 21 2 19 20,oF 22 0 21,oL 23 22,oM 24 1,oB 25 .eql 23 24]) (.cond (.tmp 25) (.seq (.ops [oM 26 0,oX 27 (.nilCheck (.tmp 26)),oF 28 0 27,oL 29 28,oM 30 6,oW 31 2 29 30,oF 32 1 31,oL 33 32,oA 4 33,oK 5 (.bool true)]) .ret) .skip))) (.ops [oM 14 6,oI 15 .add 14 (.int .i64 1),oA 6 15])))))) (.seq (.ops [oK 4 (.int .i64 0),oK 5 (.bool false)]) .ret)),[.move (.tmp 4),.move (.tmp 5)]⟩
theorem QB : ak Tryz.prog 71 = some Pt := by kernel_rfl
def Nl:XFun:=⟨5,.seq (.ops [oK 2 (.string (ah []))]) (.seq (.ops [oM 3 0,oC 4 90 [3],oA 2 4]) .ret),[.move (.tmp 2)]⟩
theorem QY : ak Tryz.prog 51 = some Nl := by kernel_rfl
end Go.Proofs.YtdfgljojemmlcaaGreat.Ax
namespace Go.Proofs.YtdfgljojemmlcaaGreat.Ax
open Go.RowKit Go By Go.Sort Go.Shelf
def Bt : Go.Shelf.Ren := ⟨fun | 316 => 90 | n => n, fun | 0 => 0 | 3 => 3 | 4 => 4 | 5 => 5 | 9 => 9 | 37 => 52 | 127 => 169 | n => n, fun | n => n⟩
theorem xC : LaysM.n316 Tryz.prog Bt := {
 mixed := by kernel_rfl
 f316 := Tryz.func90.trans (congrArg some (by kernel_rfl))
 t0 := Tryz.underlying0
 a0 := Tryz.isAgg0
 z0 := Tryz.sizeOf0
 v0 := Tryz.zeroValue0
 t3 := Tryz.underlying3
 a3 := Tryz.isAgg3
 z3 := Tryz.sizeOf3
 v3 := Tryz.zeroValue3
 t4 := Tryz.underlying4
 a4 := Tryz.isAgg4
 z4 := Tryz.sizeOf4
 v4 := Tryz.zeroValue4
 t5 := Tryz.underlying5
 a5 := Tryz.isAgg5
 z5 := Tryz.sizeOf5
 v5 := Tryz.zeroValue5
 t9 := Tryz.underlying9
 a9 := Tryz.isAgg9
 z9 := Tryz.sizeOf9
 v9 := Tryz.zeroValue9
 t37 := Tryz.underlying52
 a37 := Tryz.isAgg52
 z37 := Tryz.sizeOf52
 v37 := Tryz.zeroValue52
 t127 := Tryz.underlying169
 a127 := Tryz.isAgg169
 z127 := Tryz.sizeOf169
 v127 := Tryz.zeroValue169
 i0 := by kernel_rfl
 i3 := by kernel_rfl
 i4 := by kernel_rfl
 i5 := by kernel_rfl
 i9 := by kernel_rfl
 i37 := by kernel_rfl
 i127 := by kernel_rfl }
theorem xw (s : List UInt8) (hs : s.length <= 281474976710656) (h : List (List AV)) : Contract Tryz.prog 90 [.v (.string (ah s))] h (.v (.string (ah s))) h [] :=
 gh (by kernel_rfl) rfl fun G w vs _ hv => by
  rw [eQ (l := [.string (ah s)]) hv]
  refine (Any.stringslite_Clone xC (ah s) w (by rw [dr]; exact hs)).mono fun e w' he => ?_
  exact ⟨_, he.1, .v _, he.2⟩
theorem uD (s : List UInt8) (hs : s.length <= 281474976710656) (h : List (List AV)) : Contract Tryz.prog 51 [.v (.string (ah s))] h (.v (.string (ah s))) h [] := by
 refine ab QY mixed (by simp [Nl]) fun hh hargs => ?_
 simp [Nl]
 refine aa (by simp) (xw s hs _) ?_
 simp [hh]
theorem tr : ∀ (x y : List UInt8), Op.bytesLess x y = decide (x < y) := Go.Proofs.bytesLess_eq
def tp (l : List (List UInt8)) : List (List UInt8) := l.mergeSort fun x y => decide (x <= y)
theorem tz {l m : List (List UInt8)} (hl : l.Pairwise (· < ·)) (hm : m.Nodup) (h : ∀ x, x ∈ m ↔ x ∈ l) : tp m = l := by
 have hnd : l.Nodup := hl.imp fun {a b} h e => by subst e; exact List.lt_irrefl _ h
 have hp : m.Perm l := (List.perm_ext_iff_of_nodup hm hnd).2 h
 have h1 : (tp m).Perm l := (List.mergeSort_perm ..).trans hp
 have h2 : (tp m).Pairwise (fun x y => decide (x <= y) = true) := List.pairwise_mergeSort (fun a b c h1 h2 => by simp at *; exact List.le_trans h1 h2) (fun a b => by simp; exact List.le_total a b) _
 have h3 : l.Pairwise (fun x y => decide (x <= y) = true) := hl.imp fun h => by simp; exact List.le_of_lt h
 exact h1.eq_of_pairwise (fun a b _ _ h1 h2 => by simp at h1 h2; exact List.le_antisymm h1 h2) h2 h3
end Go.Proofs.YtdfgljojemmlcaaGreat.Ax
