import Derived.Test.YtlbgjlmokpkkeaaGreatDoorQAxWo
import Derived.Test.YtlbgjlmokpkkeaaGreatDoorQAxGc
set_option linter.all false
set_option maxRecDepth 10000
namespace Go.Proofs.YtlbgjlmokpkkeaaGreatDoor
namespace Ax
open Go.RowKit Go By
def xG:XFun:=⟨20,.seq (.ops [oK 2 (.int .i64 0)]) (.seq (.seq (.ops [oM 3 0]) (.block 0 (.seq (.seq (.ops [oI 5 .eql 3 (.int .u8 66),oA 4 5]) (.cond (.tmp 4) .skip (.seq (.ops [oI 6 .eql 3 (.int .u8 67),oA 4 6]) (.cond (.tmp 4) .skip (.seq (.ops [oI 7 .eql 3 (.int .u8 68),oA 4 7]) (.cond (.tmp 4) .skip (.seq (.ops [oI 8 .eql 3 (.int .u8 69),oA 4 8]) (.cond (.tmp 4) .skip (.seq (.ops [oI 9 .eql 3 (.int .u8 72),oA 4 9]) (.cond (.tmp 4) .skip (.seq (.ops [oI 10 .eql 3 (.int .u8 80),oA 4 10]) (.cond (.tmp 4) .skip (.seq (.ops [oI 11 .eql 3 (.int .u8 81),oA 4 11]) (.cond (.tmp 4) .skip (.seq (.ops [oI 12 .eql 3 (.int .u8 83),oA 4 12]) (.cond (.tmp 4) .skip (.ops [oI 13 .eql 3 (.int .u8 88),oA 4 13]))))))))))))))))) (.cond (.tmp 4) (.seq (.ops [oK 2 (.int .i64 1)]) .ret) (.seq (.seq (.ops [oI 15 .eql 3 (.int .u8 70),oA 14 15]) (.cond (.tmp 14) .skip (.seq (.ops [oI 16 .eql 3 (.int .u8 99),oA 14 16]) (.cond (.tmp 14) .skip (.seq (.ops [oI 17 .eql 3 (.int .u8 100),oA 14 17]) (.cond (.tmp 14) .skip (.seq (.ops [oI 18 .eql 3 (.int .u8 102),oA 14 18]) (.cond (.tmp 14) .skip (.ops [oI 19 .eql 3 (.int .u8 112),oA 14 19]))))))))) (.cond (.tmp 14) (.seq (.ops [oK 2 (.int .i64 2)]) .ret) .skip)))))) (.seq (.ops [oK 2 (.int .i64 0)]) .ret)),[.move (.tmp 2)]⟩
theorem ZX:aj Tryz.prog 65=some xG:=by kernel_rfl
def VQ:XFun:=⟨35,.seq (.ops [oJ 1 0,oZ 2 iQ,oK 3 (.int .i64 0)]) (.seq (.seq (.ops [oF 6 0 1,oL 7 6,oC 8 65 [7]]) (.block 0 (.seq (.ops [oI 10 .eql 8 (.int .i64 0),oA 9 10]) (.cond (.tmp 9) (.seq (.ops [oX 11 (.build iQ []),oS 10 2 11,oK 3 (.int .i64 4)]) .ret) (.seq (.ops [oI 13 .eql 8 (.int .i64 2),oA 12 13]) (.cond (.tmp 12) (.seq (.ops [oX 14 (.build iQ []),oS 10 2 14,oK 3 (.int .i64 9)]) .ret) .skip)))))) (.seq (.ops [oF 15 1 1,oL 16 15,oC 17 66 [16],oD 18 0 qw 17,oZ 4 qw,oS 1 4 18]) (.seq (.ops [oP 19 1 4,oF 20 0 1,oL 21 20,oC 22 67 [19,21],oZ 5 iQ,oS 10 5 22]) (.seq (.seq (.ops [oF 23 0 4,oF 24 0 23,oL 25 24,oC 26 68 [25],oV 27 26,oM 28 27,oG 28 false (oP 29 10 5),oG 28 false (oC 30 69 [29]),oG 28 false (oV 31 30),oU 32 28 31]) (.cond (.tmp 32) (.seq (.ops [oX 33 (.build iQ []),oS 10 2 33,oK 3 (.int .i64 4)]) .ret) .skip)) (.seq (.ops [oP 34 10 5,oS 10 2 34,oK 3 (.int .i64 0)]) .ret))))),[.loadN 10 (.tmp 2),.move (.tmp 3)]⟩
theorem ZI:aj Tryz.prog 45=some VQ:=by kernel_rfl
def Sh:XFun:=⟨21,.seq (.ops [oJ 1 0,oK 2 (.bool false)]) (.seq (.ops [oF 3 0 1,oL 4 3,oI 5 .neq 4 (.int .u8 67),oM 6 5,oG 6 true (oF 7 0 1),oG 6 true (oL 8 7),oG 6 true (oI 9 .neq 8 (.int .u8 68)),oT 10 6 9,oM 11 10,oG 11 false (oF 12 1 1),oG 11 false (oL 13 12),oG 11 false (oI 14 .eql 13 (.int .u8 83)),oU 15 11 14,oM 16 15,oG 16 false (oF 17 1 1),oG 16 false (oL 18 17),oG 16 false (oI 19 .eql 18 (.int .u8 80)),oU 20 16 19,oA 2 20]) .ret),[.move (.tmp 2)]⟩
theorem Kj:aj Tryz.prog 69=some Sh:=by kernel_rfl
def LM:XFun:=⟨92,.seq (.ops [oJ 2 0,oZ 4 iQ]) (.seq (.ops [oM 6 1,oD 7 0 iQ 6,oZ 5 iQ,oS 10 5 7]) (.seq (.seq (.ops [oM 8 1]) (.block 0 (.seq (.ops [oI 10 .eql 8 (.int .u8 80),oA 9 10]) (.cond (.tmp 9) (.seq (.ops [oF 11 0 2,oF 12 0 11,oL 13 12,oC 14 88 [13],oF 15 2 5,oS 1 15 14]) (.seq (.ops [oF 16 0 2,oF 17 0 16,oL 18 17,oC 19 88 [18],oF 20 4 5,oS 1 20 19]) (.ops [oF 21 0 2,oP 22 1 21,oX 23 (.call 89 [.tmp 22,.const (.int .i64 4)]),oF 24 5 5,oS 1 24 23]))) (.seq (.ops [oI 26 .eql 8 (.int .u8 66),oA 25 26]) (.cond (.tmp 25) (.seq (.ops [oF 27 0 2,oF 28 0 27,oL 29 28,oC 30 88 [29],oF 31 3 5,oS 1 31 30]) (.seq (.ops [oF 32 0 2,oF 33 0 32,oL 34 33,oC 35 88 [34],oF 36 2 5,oS 1 36 35]) (.seq (.ops [oF 37 0 2,oP 38 1 37,oX 39 (.call 89 [.tmp 38,.const (.int .i64 2)]),oF 40 6 5,oS 1 40 39]) (.seq (.ops [oF 41 0 2,oP 42 1 41,oC 43 90 [42],oF 44 8 5,oS 1 44 43]) (.ops [oF 45 0 2,oP 46 1 45,oX 47 (.call 89 [.tmp 46,.const (.int .i64 2)]),oF 48 7 5,oS 1 48 47]))))) (.seq (.seq (.ops [oI 50 .eql 8 (.int .u8 67),oA 49 50]) (.cond (.tmp 49) .skip (.ops [oI 51 .eql 8 (.int .u8 68),oA 49 51]))) (.cond (.tmp 49) (.seq (.ops [oF 52 0 2,oF 53 0 52,oL 54 53,oX 55 (.call 76 [.tmp 54,.const (.int .i64 1)]),oX 56 (.conv .u8 (.tmp 55)),oF 57 1 5,oS 1 57 56]) (.seq (.ops [oF 58 1 5,oL 59 58,oI 60 .eql 59 (.int .u8 83)]) (.cond (.tmp 60) (.ops [oF 61 0 2,oF 62 0 61,oL 63 62,oC 64 88 [63],oF 65 2 5,oS 1 65 64]) (.ops [oF 66 0 2,oF 67 0 66,oL 68 67,oC 69 88 [68],oF 70 3 5,oS 1 70 69])))) (.seq (.ops [oI 72 .eql 8 (.int .u8 69),oA 71 72]) (.cond (.tmp 71) (.seq (.ops [oF 73 0 2,oF 74 0 73,oL 75 74,oC 76 88 [75],oF 77 3 5,oS 1 77 76]) (.ops [oF 78 0 2,oF 79 0 78,oL 80 79,oX 81 (.call 76 [.tmp 80,.const (.int .i64 4)]),oX 82 (.call 91 [.tmp 81,.const (.int .i64 4)]),oF 83 9 5,oS 1 83 82])) (.seq (.ops [oI 85 .eql 8 (.int .u8 81),oA 84 85]) (.cond (.tmp 84) (.ops [oF 86 0 2,oF 87 0 86,oL 88 87,oC 89 88 [88],oF 90 4 5,oS 1 90 89]) .skip)))))))))))) (.seq (.ops [oP 91 10 5,oS 10 4 91]) .ret))),[.loadN 10 (.tmp 4)]⟩
theorem OD:aj Tryz.prog 67=some LM:=by kernel_rfl
end Ax
namespace Ax
open Go.RowKit Go By YtlbgjlmokpkkeaaGreatDoor.Nm Sc Dg
def az(k:Int):Int :=
 if k=66 \/ k=67 \/ k=68 \/ k=69 \/ k=72 \/ k=80 \/ k=81 \/ k=83 \/ k=88 then 1 else if k=70 \/ k=99 \/ k=100 \/ k=102 \/ k=112 then 2 else 0
theorem Km(k:Int)(h:d4):ae Tryz.prog 65 [.v (.int .u8 k)] h (.v (.int .i64 (az k))) h []:=by
 refine ac ZX mixed (by simp[xG]) fun hh hargs=>?_
 by_cases h66:k=66
 ·subst h66;simp[xG,hh,az]
 by_cases h67:k=67
 ·subst h67;simp[xG,hh,az]
 by_cases h68:k=68
 ·subst h68;simp[xG,hh,az]
 by_cases h69:k=69
 ·subst h69;simp[xG,hh,az]
 by_cases h72:k=72
 ·subst h72;simp[xG,hh,az]
 by_cases h80:k=80
 ·subst h80;simp[xG,hh,az]
 by_cases h81:k=81
 ·subst h81;simp[xG,hh,az]
 by_cases h83:k=83
 ·subst h83;simp[xG,hh,az]
 by_cases h88:k=88
 ·subst h88;simp[xG,hh,az]
 by_cases h70:k=70
 ·subst h70;simp[xG,hh,az]
 by_cases h99:k=99
 ·subst h99;simp[xG,hh,az]
 by_cases h100:k=100
 ·subst h100;simp[xG,hh,az]
 by_cases h102:k=102
 ·subst h102;simp[xG,hh,az]
 by_cases h112:k=112
 ·subst h112;simp[xG,hh,az]
 simp[xG,hh,az,h66,h67,h68,h69,h72,h80,h81,h83,h88,h70,h99,h100,h102,h112]
theorem Hw(k:Int)(h:d4):ae Tryz.prog 57 [.v (.int .u8 k)] h (.v (.int .i64 (az k))) h []:=by
 refine ac ZP mixed (by simp[xF]) fun hh hargs=>?_
 by_cases h66:k=66
 ·subst h66;simp[xF,hh,az]
 by_cases h67:k=67
 ·subst h67;simp[xF,hh,az]
 by_cases h68:k=68
 ·subst h68;simp[xF,hh,az]
 by_cases h69:k=69
 ·subst h69;simp[xF,hh,az]
 by_cases h72:k=72
 ·subst h72;simp[xF,hh,az]
 by_cases h80:k=80
 ·subst h80;simp[xF,hh,az]
 by_cases h81:k=81
 ·subst h81;simp[xF,hh,az]
 by_cases h83:k=83
 ·subst h83;simp[xF,hh,az]
 by_cases h88:k=88
 ·subst h88;simp[xF,hh,az]
 by_cases h70:k=70
 ·subst h70;simp[xF,hh,az]
 by_cases h99:k=99
 ·subst h99;simp[xF,hh,az]
 by_cases h100:k=100
 ·subst h100;simp[xF,hh,az]
 by_cases h102:k=102
 ·subst h102;simp[xF,hh,az]
 by_cases h112:k=112
 ·subst h112;simp[xF,hh,az]
 simp[xF,hh,az,h66,h67,h68,h69,h72,h80,h81,h83,h88,h70,h99,h100,h102,h112]
def rf(m:Fm):Prop:=m.oids.length <= 140737488355328 /\ m.formats.length <= 140737488355328 /\ m.results.length <= 140737488355328 /\ m.params.length <= 140737488355328 /\ (∀ c∈m.params,c.2.length <= 140737488355328) /\ m.name.length <= 140737488355328 /\ m.portal.length <= 140737488355328 /\ m.text.length <= 140737488355328
def mn(a b:Fm):Bool:=a.kind==b.kind&&a.what==b.what&&(a.name==b.name&&a.portal==b.portal&&a.text==b.text)&&a.max==b.max&&a.oids==b.oids&&a.formats==b.formats&&a.results==b.results&&a.params==b.params
theorem zd(a b:Fm):mn a b=decide (a=b):=by
 obtain⟨a1,a2,a3,a4,a5,a6,a7,a8,a9,a10⟩:=a
 obtain⟨b1,b2,b3,b4,b5,b6,b7,b8,b9,b10⟩:=b
 rw[Bool.eq_iff_iff]
 simp[mn]
 constructor
 ·rintro⟨⟨⟨⟨⟨⟨⟨h1,h2⟩,h3,h4,h5⟩,h6⟩,h7⟩,h8⟩,h9⟩,h10⟩;simp_all
 ·rintro⟨h1,h2,h3,h4,h5,h6,h7,h8,h9,h10⟩;simp_all
theorem Bv(l m:List Int)(hl:l.length <= 140737488355328)(h:d4):ae Tryz.prog 164 [.sl 1 (am aX l) none .no,.sl 1 (am aX m) none .no] h (.v (.bool (l==m))) h []:=by
 have:=Ao mixed XE l m h hl
 rwa [jz] at this
def jo(m:Fm):Bool:=(!(m.kind==67)&&!(m.kind==68))||m.what==83||m.what==80
theorem ww(m:Fm)(h:d4):ae Tryz.prog 69 [.agg (aJ m)] h (.v (.bool (jo m))) h []:=by
 refine ac Kj mixed (by simp[Sh]) fun hh hargs=>?_
 unfold jo
 cases h1:m.kind==67 with
 | false =>
  have e1:(m.kind != 67)=true:=by simp[bne,h1]
  cases h2:m.kind==68 with
  | false =>
   have e2:(m.kind != 68)=true:=by simp[bne,h2]
   simp[Sh,aL,hh,e1,e2]
  | true =>
   have e2:(m.kind != 68)=false:=by simp[bne,h2]
   cases h3:m.what==83<;>simp[Sh,aL,hh,e1,e2,h3]
 | true =>
  have e1:(m.kind != 67)=false:=by simp[bne,h1]
  cases h3:m.what==83<;>simp[Sh,aL,hh,e1,h3]
def so(m:Fm):Bool:=(decide (m.oids.length <= 65535)&&(decide (m.formats.length <= 65535)&&(decide (m.results.length <= 65535)&&decide (m.params.length <= 65535))))&&(m.oids.all (cu 4)&&(m.formats.all (cu 2)&&(m.results.all (cu 2)&&m.params.all bS)))
def bw(m:Fm):Fm :=
 if m.kind=80 then⟨80,0,m.name,[],m.text,m.oids,[],[],[],0⟩
 else if m.kind=66 then⟨66,0,m.name,m.portal,[],[],m.formats,m.results,m.params,0⟩
 else if m.kind=67 \/ m.kind=68 then(if m.what=83 then⟨m.kind,m.what,m.name,[],[],[],[],[],[],0⟩ else⟨m.kind,m.what,[],m.portal,[],[],[],[],[],0⟩)
 else if m.kind=69 then⟨69,0,[],m.portal,[],[],[],[],[],m.max⟩
 else if m.kind=81 then⟨81,0,[],[],m.text,[],[],[],[],0⟩
 else⟨m.kind,0,[],[],[],[],[],[],[],0⟩
def eT(m:Fm):Bool:=cleanB m.name&&(cleanB m.portal&&cleanB m.text)
def fD(m:Fm):Int :=
 if ¬az m.kind=1 then 9
 else if jo m&&(so m&&(eT m&&(oh 4 m.max&&mn m (bw m)))) then 0 else 1
theorem Ay{m:Fm}(h:rf m):rf (bw m):=by
 obtain⟨h1,h2,h3,h4,h5,h6,h7,h8⟩:=h
 unfold bw rf
 repeat' split
 all_goals simp[h1,h2,h3,h4,h6,h7,h8]
 all_goals exact⟨fun b hc=>h5 (_,b) hc,fun b hc=>h5 (_,b) hc⟩
end Ax
end Go.Proofs.YtlbgjlmokpkkeaaGreatDoor
