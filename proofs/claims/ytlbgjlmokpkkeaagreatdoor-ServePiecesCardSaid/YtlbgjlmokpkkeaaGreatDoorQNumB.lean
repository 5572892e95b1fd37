import Derived.Test.YtlbgjlmokpkkeaaGreatDoorRows
import Derived.Test.YtlbgjlmokpkkeaaGreatDoorQElems
open Int renaming eq_ofNat_of_zero_le -> aaa
open Nat renaming zero_le -> aab
set_option linter.all false
namespace Go.Proofs.YtlbgjlmokpkkeaaGreatDoor.Nm
set_option maxRecDepth 100000
open Go.RowKit Go
def szB(n:Int):Bool:=n==1||n==2||n==4
def jc(n:Int):Int:=if n=1 then 256 else if n=2 then 65536 else 4294967296
def aB(n size:Int):Bool:=szB size&&(decide (-(jc size / 2) <= n)&&decide (n<jc size))
def cv(n size:Int):Int:=if szB size=true /\ jc size / 2 <= n /\ n<jc size then n-jc size else n
theorem em{n:Int}(h:szB n=true):n=1 \/ n=2 \/ n=4:=by
 simp[szB] at h;omega
theorem cG(n:Int)(w:World):
  Calls Tryz.prog 105 #[.int .i64 n] w fun e w'=>e=.returned (.bool (szB n)) /\ w=w':=by
 by_cases h1:n=1
 ·subst h1
  go_enter Tryz.func105,Tryz.ntmps105
  go_wp2
  go_ret
  exact⟨rfl,rfl⟩
 ·have h1':(n==1)=false:=by simpa using h1
  by_cases h2:n=2
  ·subst h2
   go_enter Tryz.func105,Tryz.ntmps105
   go_wp2
   go_ret
   exact⟨rfl,rfl⟩
  ·have h2':(n==2)=false:=by simpa using h2
   have hs:szB n=(n==4):=by simp[szB,h1',h2']
   rw[hs];clear hs
   go_enter Tryz.func105,Tryz.ntmps105
   go_wp2
   go_ret
   exact⟨rfl,rfl⟩
theorem lN(n:Int)(w:World):
  Calls Tryz.prog 81 #[.int .i64 n] w fun e w'=>e=.returned (.bool (szB n)) /\ w=w':=by
 by_cases h1:n=1
 ·subst h1
  go_enter Tryz.func81,Tryz.ntmps81
  go_wp2
  go_ret
  exact⟨rfl,rfl⟩
 ·have h1':(n==1)=false:=by simpa using h1
  by_cases h2:n=2
  ·subst h2
   go_enter Tryz.func81,Tryz.ntmps81
   go_wp2
   go_ret
   exact⟨rfl,rfl⟩
  ·have h2':(n==2)=false:=by simpa using h2
   have hs:szB n=(n==4):=by simp[szB,h1',h2']
   rw[hs];clear hs
   go_enter Tryz.func81,Tryz.ntmps81
   go_wp2
   go_ret
   exact⟨rfl,rfl⟩
theorem sZ(n:Int)(w:World)(h:szB n=true):
  Calls Tryz.prog 126 #[.int .i64 n] w fun e w'=>e=.returned (.int .i64 (jc n)) /\ w=w':=by
 rcases em h with h |h |h
 all_goals
  subst h
  go_enter Tryz.func126,Tryz.ntmps126
  go_wp2
  go_ret
  exact⟨rfl,rfl⟩
def AZ:Nat -> Int
 | 0=>1
 | k+1=>AZ k*256
theorem CI:∀ k,k <= 4 -> 1 <= AZ k /\ AZ k <= 4294967296
 | 0,_=>by decide
 | 1,_=>by decide
 | 2,_=>by decide
 | 3,_=>by decide
 | 4,_=>by decide
 | k+5,h=>by omega
set_option maxHeartbeats 400000 in
theorem oa(k:Nat)(w:World)(hk:k <= 4):
  Calls Tryz.prog 56 #[.int .i64 k] w fun e w'=>e=.returned (.int .i64 (AZ k)) /\ w=w':=by
 go_enter Tryz.func56,Tryz.ntmps56
 go_wp2
 go_loop [3,4] (fun n i=>∃ j:Nat,j <= k /\ i=.int .i64 j /\ n=.int .i64 (AZ j)) (fun _ i=>k-(intOf i).toNat)
 case atStart=>exact⟨0,aab _,rfl,rfl⟩
 case round =>
  obtain⟨j,hj,rfl,rfl⟩:=hrel
  have hb:=CI j (by omega)
  by_cases hlt:j<k
  ·have hb1:=(CI (j+1) (by omega)).2
   have hx:AZ (j+1)=AZ j*256:=rfl
   rw[hx] at hb1
   clear hx
   go_wp2
   go_round
   case rel=>exact⟨j+1,by omega,by go_num,rfl⟩
   case measure=>simp[intOf];omega
  ·obtain rfl:j=k:=by omega
   go_wp2
   go_ret
   exact⟨rfl,rfl⟩
theorem je{n size:Int}(h:¬-(jc size / 2) <= n):aB n size=false:=by
 unfold aB;rw[decide_eq_false h];simp
theorem jf{n size:Int}(hs:szB size=true)(h : -(jc size / 2) <= n):aB n size=decide (n<jc size):=by
 unfold aB;rw[decide_eq_true h,hs];simp
theorem jd(n size:Int)(w:World):
  Calls Tryz.prog 163 #[.int .i64 n,.int .i64 size] w fun e w'=>e=.returned (.bool (aB n size)) /\ w=w':=by
 cases h:szB size with
 | false =>
  have hf:aB n size=false:=by simp[aB,h]
  rw[hf];clear hf
  have H:=Lib.hid h;clear h
  go_enter Tryz.func163,Tryz.ntmps163
  go_wp2_with (go_at_call 105;refine(cG _ _).mono ?_;rintro e w' ⟨rfl,rfl⟩;rw[H.out])
  go_ret
  exact⟨rfl,rfl⟩
 | true =>
  have hs:=em h
  rcases hs with rfl |rfl |rfl
  ·by_cases hl:(-128:Int) <= n
   ·rw[jf (by rfl) hl]
    clear h
    go_enter Tryz.func163,Tryz.ntmps163
    go_wp2
    go_ret
    exact⟨rfl,rfl⟩
   ·rw[je hl]
    clear h
    go_enter Tryz.func163,Tryz.ntmps163
    go_wp2
    go_ret
    exact⟨rfl,rfl⟩
  ·by_cases hl:(-32768:Int) <= n
   ·rw[jf (by rfl) hl]
    clear h
    go_enter Tryz.func163,Tryz.ntmps163
    go_wp2
    go_ret
    exact⟨rfl,rfl⟩
   ·rw[je hl]
    clear h
    go_enter Tryz.func163,Tryz.ntmps163
    go_wp2
    go_ret
    exact⟨rfl,rfl⟩
  ·by_cases hl:(-2147483648:Int) <= n
   ·rw[jf (by rfl) hl]
    clear h
    go_enter Tryz.func163,Tryz.ntmps163
    go_wp2
    go_ret
    exact⟨rfl,rfl⟩
   ·rw[je hl]
    clear h
    go_enter Tryz.func163,Tryz.ntmps163
    go_wp2
    go_ret
    exact⟨rfl,rfl⟩
theorem A8(size:Int)(w:World)(h:szB size=true):
  Calls Tryz.prog 56 #[.int .i64 size] w fun e w'=>e=.returned (.int .i64 (jc size)) /\ w=w':=by
 rcases em h with rfl |rfl |rfl
 ·exact oa 1 w (by omega)
 ·exact oa 2 w (by omega)
 ·exact oa 4 w (by omega)
theorem yR(w:World):Calls Tryz.prog 56 #[.int .i64 1] w fun e w'=>e=.returned (.int .i64 256) /\ w=w':=A8 1 w rfl
theorem CY(w:World):Calls Tryz.prog 81 #[.int .i64 1] w fun e w'=>e=.returned (.bool true) /\ w=w':=lN 1 w
theorem sa(w:World):Calls Tryz.prog 105 #[.int .i64 1] w fun e w'=>e=.returned (.bool true) /\ w=w':=cG 1 w
theorem Bx(w:World):Calls Tryz.prog 126 #[.int .i64 1] w fun e w'=>e=.returned (.int .i64 256) /\ w=w':=sZ 1 w rfl
theorem CL(w:World):Calls Tryz.prog 56 #[.int .i64 2] w fun e w'=>e=.returned (.int .i64 65536) /\ w=w':=A8 2 w rfl
theorem CZ(w:World):Calls Tryz.prog 81 #[.int .i64 2] w fun e w'=>e=.returned (.bool true) /\ w=w':=lN 2 w
theorem sb(w:World):Calls Tryz.prog 105 #[.int .i64 2] w fun e w'=>e=.returned (.bool true) /\ w=w':=cG 2 w
theorem Bz(w:World):Calls Tryz.prog 126 #[.int .i64 2] w fun e w'=>e=.returned (.int .i64 65536) /\ w=w':=sZ 2 w rfl
theorem Hc(w:World):Calls Tryz.prog 56 #[.int .i64 4] w fun e w'=>e=.returned (.int .i64 4294967296) /\ w=w':=A8 4 w rfl
theorem C0(w:World):Calls Tryz.prog 81 #[.int .i64 4] w fun e w'=>e=.returned (.bool true) /\ w=w':=lN 4 w
theorem sc(w:World):Calls Tryz.prog 105 #[.int .i64 4] w fun e w'=>e=.returned (.bool true) /\ w=w':=cG 4 w
theorem BA(w:World):Calls Tryz.prog 126 #[.int .i64 4] w fun e w'=>e=.returned (.int .i64 4294967296) /\ w=w':=sZ 4 w rfl
theorem gF(n size:Int)(w:World):
  Calls Tryz.prog 55 #[.int .i64 n,.int .i64 size] w fun e w'=>e=.returned (.bool (aB n size)) /\ w=w':=by
 cases h:szB size with
 | false =>
  have hf:aB n size=false:=by simp[aB,h]
  rw[hf];clear hf
  have H:=Lib.hid h;clear h
  go_enter Tryz.func55,Tryz.ntmps55
  go_wp2_with (go_at_call 81;refine(lN _ _).mono ?_;rintro e w' ⟨rfl,rfl⟩;rw[H.out])
  go_ret
  exact⟨rfl,rfl⟩
 | true =>
  have hs:=em h
  rcases hs with rfl |rfl |rfl
  ·by_cases hl:(-128:Int) <= n
   ·rw[jf (by rfl) hl]
    clear h
    go_enter Tryz.func55,Tryz.ntmps55
    go_wp2_with (first |(go_at_call 56;refine(yR _).mono ?_;rintro e w' ⟨rfl,rfl⟩) |(go_at_call 81;refine(CY _).mono ?_;rintro e w' ⟨rfl,rfl⟩))
    go_ret
    exact⟨rfl,rfl⟩
   ·rw[je hl]
    clear h
    go_enter Tryz.func55,Tryz.ntmps55
    go_wp2_with (first |(go_at_call 56;refine(yR _).mono ?_;rintro e w' ⟨rfl,rfl⟩) |(go_at_call 81;refine(CY _).mono ?_;rintro e w' ⟨rfl,rfl⟩))
    go_ret
    exact⟨rfl,rfl⟩
  ·by_cases hl:(-32768:Int) <= n
   ·rw[jf (by rfl) hl]
    clear h
    go_enter Tryz.func55,Tryz.ntmps55
    go_wp2_with (first |(go_at_call 56;refine(CL _).mono ?_;rintro e w' ⟨rfl,rfl⟩) |(go_at_call 81;refine(CZ _).mono ?_;rintro e w' ⟨rfl,rfl⟩))
    go_ret
    exact⟨rfl,rfl⟩
   ·rw[je hl]
    clear h
    go_enter Tryz.func55,Tryz.ntmps55
    go_wp2_with (first |(go_at_call 56;refine(CL _).mono ?_;rintro e w' ⟨rfl,rfl⟩) |(go_at_call 81;refine(CZ _).mono ?_;rintro e w' ⟨rfl,rfl⟩))
    go_ret
    exact⟨rfl,rfl⟩
  ·by_cases hl:(-2147483648:Int) <= n
   ·rw[jf (by rfl) hl]
    clear h
    go_enter Tryz.func55,Tryz.ntmps55
    go_wp2_with (first |(go_at_call 56;refine(Hc _).mono ?_;rintro e w' ⟨rfl,rfl⟩) |(go_at_call 81;refine(C0 _).mono ?_;rintro e w' ⟨rfl,rfl⟩))
    go_ret
    exact⟨rfl,rfl⟩
   ·rw[je hl]
    clear h
    go_enter Tryz.func55,Tryz.ntmps55
    go_wp2_with (first |(go_at_call 56;refine(Hc _).mono ?_;rintro e w' ⟨rfl,rfl⟩) |(go_at_call 81;refine(C0 _).mono ?_;rintro e w' ⟨rfl,rfl⟩))
    go_ret
    exact⟨rfl,rfl⟩
theorem nl{n size:Int}(hs:szB size=true)(h1:jc size / 2 <= n)(h2:n<jc size):cv n size=n-jc size:=by
 unfold cv;rw[if_pos ⟨hs,h1,h2⟩]
theorem pI{n size:Int}(h1:¬jc size / 2 <= n):cv n size=n:=by
 unfold cv;rw[if_neg (fun h=>h1 h.2.1)]
theorem pH{n size:Int}(h1:¬n<jc size):cv n size=n:=by
 unfold cv;rw[if_neg (fun h=>h1 h.2.2)]
theorem Bu{n size:Int}(h1:szB size=false):cv n size=n:=by
 unfold cv;rw[if_neg (fun h=>by rw[h1] at h;cases h.1)]
theorem Bt(n size:Int)(w:World):
  Calls Tryz.prog 91 #[.int .i64 n,.int .i64 size] w fun e w'=>e=.returned (.int .i64 (cv n size)) /\ w=w':=by
 cases h:szB size with
 | false =>
  rw[Bu h]
  have H:=Lib.hid h;clear h
  go_enter Tryz.func91,Tryz.ntmps91
  go_wp2_with (go_at_call 105;refine(cG _ _).mono ?_;rintro e w' ⟨rfl,rfl⟩;rw[H.out])
  go_ret
  exact⟨rfl,rfl⟩
 | true =>
  have hs:=em h
  rcases hs with rfl |rfl |rfl
  ·by_cases hl:(128:Int) <= n
   ·by_cases hr:n<(256:Int)
    ·rw[nl (by rfl) hl hr]
     clear h
     go_enter Tryz.func91,Tryz.ntmps91
     go_wp2_with (first |(go_at_call 126;refine(Bx _).mono ?_;rintro e w' ⟨rfl,rfl⟩) |(go_at_call 105;refine(sa _).mono ?_;rintro e w' ⟨rfl,rfl⟩))
     go_ret
     exact⟨rfl,rfl⟩
    ·rw[pH hr]
     clear h
     go_enter Tryz.func91,Tryz.ntmps91
     go_wp2_with (first |(go_at_call 126;refine(Bx _).mono ?_;rintro e w' ⟨rfl,rfl⟩) |(go_at_call 105;refine(sa _).mono ?_;rintro e w' ⟨rfl,rfl⟩))
     go_ret
     exact⟨rfl,rfl⟩
   ·rw[pI hl]
    clear h
    go_enter Tryz.func91,Tryz.ntmps91
    go_wp2_with (first |(go_at_call 126;refine(Bx _).mono ?_;rintro e w' ⟨rfl,rfl⟩) |(go_at_call 105;refine(sa _).mono ?_;rintro e w' ⟨rfl,rfl⟩))
    go_ret
    exact⟨rfl,rfl⟩
  ·by_cases hl:(32768:Int) <= n
   ·by_cases hr:n<(65536:Int)
    ·rw[nl (by rfl) hl hr]
     clear h
     go_enter Tryz.func91,Tryz.ntmps91
     go_wp2_with (first |(go_at_call 126;refine(Bz _).mono ?_;rintro e w' ⟨rfl,rfl⟩) |(go_at_call 105;refine(sb _).mono ?_;rintro e w' ⟨rfl,rfl⟩))
     go_ret
     exact⟨rfl,rfl⟩
    ·rw[pH hr]
     clear h
     go_enter Tryz.func91,Tryz.ntmps91
     go_wp2_with (first |(go_at_call 126;refine(Bz _).mono ?_;rintro e w' ⟨rfl,rfl⟩) |(go_at_call 105;refine(sb _).mono ?_;rintro e w' ⟨rfl,rfl⟩))
     go_ret
     exact⟨rfl,rfl⟩
   ·rw[pI hl]
    clear h
    go_enter Tryz.func91,Tryz.ntmps91
    go_wp2_with (first |(go_at_call 126;refine(Bz _).mono ?_;rintro e w' ⟨rfl,rfl⟩) |(go_at_call 105;refine(sb _).mono ?_;rintro e w' ⟨rfl,rfl⟩))
    go_ret
    exact⟨rfl,rfl⟩
  ·by_cases hl:(2147483648:Int) <= n
   ·by_cases hr:n<(4294967296:Int)
    ·rw[nl (by rfl) hl hr]
     clear h
     go_enter Tryz.func91,Tryz.ntmps91
     go_wp2_with (first |(go_at_call 126;refine(BA _).mono ?_;rintro e w' ⟨rfl,rfl⟩) |(go_at_call 105;refine(sc _).mono ?_;rintro e w' ⟨rfl,rfl⟩))
     go_ret
     exact⟨rfl,rfl⟩
    ·rw[pH hr]
     clear h
     go_enter Tryz.func91,Tryz.ntmps91
     go_wp2_with (first |(go_at_call 126;refine(BA _).mono ?_;rintro e w' ⟨rfl,rfl⟩) |(go_at_call 105;refine(sc _).mono ?_;rintro e w' ⟨rfl,rfl⟩))
     go_ret
     exact⟨rfl,rfl⟩
   ·rw[pI hl]
    clear h
    go_enter Tryz.func91,Tryz.ntmps91
    go_wp2_with (first |(go_at_call 126;refine(BA _).mono ?_;rintro e w' ⟨rfl,rfl⟩) |(go_at_call 105;refine(sc _).mono ?_;rintro e w' ⟨rfl,rfl⟩))
    go_ret
    exact⟨rfl,rfl⟩
end Go.Proofs.YtlbgjlmokpkkeaaGreatDoor.Nm
namespace Go.Proofs.YtlbgjlmokpkkeaaGreatDoor.Nm
set_option maxRecDepth 100000
open Go.RowKit Go By
def cn(len:Nat)(i size:Int):Int:=if szB size=false \/ i<0 then 1 else if i>len-size then 3 else 0
def cO(xs:List UInt8)(i size:Int):Int:=if cn xs.length i size=0 then dG xs i.toNat size.toNat else 0
theorem AB{len:Nat}{i size:Int}(h:szB size=false \/ i<0):cn len i size=1:=by
 unfold cn;rw[if_pos h]
theorem nO{len:Nat}{i size:Int}(hs:szB size=true)(h0:0 <= i)(h:(len:Int)-size<i):cn len i size=3:=by
 have h1:¬(szB size=false \/ i<0):=by simp[hs];omega
 unfold cn;rw[if_neg h1,if_pos h]
theorem iY{len i:Nat}{size:Nat}(hs:szB (size:Int)=true)(h:i+size <= len):cn len i size=0:=by
 have h1:¬(szB (size:Int)=false \/ (i:Int)<0):=by simp[hs]
 unfold cn;rw[if_neg h1,if_neg (by omega)]
def kV(xs:List UInt8)(i size:Int):Value:=.tuple #[.int .i64 (cO xs i size),.int .i64 (cn xs.length i size)]
theorem AD{xs:List UInt8}{i size:Int}(h:szB size=false \/ i<0):kV xs i size=.tuple #[.int .i64 0,.int .i64 1]:=by
 unfold kV cO;rw[AB h];rfl
theorem wx{xs:List UInt8}{i size:Int}(hs:szB size=true)(h0:0 <= i)(h:(xs.length:Int)-size<i):kV xs i size=.tuple #[.int .i64 0,.int .i64 3]:=by
 unfold kV cO;rw[nO hs h0 h];rfl
theorem D7{xs:List UInt8}{i size:Nat}(hs:szB (size:Int)=true)(h:i+size <= xs.length):kV xs i size=.tuple #[.int .i64 (dG xs i size),.int .i64 0]:=by
 unfold kV cO;rw[iY hs h];rfl
theorem oq{n:Int}(h:szB n=true):1 <= n /\ n <= 4:=by have:=em h;omega
set_option maxHeartbeats 400000 in
theorem Ov(b off cap:Nat)(xs:List UInt8)(i size:Nat)(w:World)(hm:xs.length <= 9223372036854775807)
  (hc:∀ j,j<xs.length -> w.cell? ⟨b,off+j,none⟩=some (.int .u8 (bt xs j))) (hs:szB (size:Int)=true) (h:i+size <= xs.length) :
  Calls Tryz.prog 84 #[.slice (some ⟨b,off,none⟩) xs.length cap,.int .i64 i,.int .i64 size] w fun e w'=>e=.returned (.tuple #[.int .i64 (dG xs i size),.int .i64 0]) /\ w=w':=by
 have h4:=oq hs
 obtain⟨len,HL⟩:∃ len,Hid (xs.length=len):=⟨_,rfl⟩
 rw[HL.out] at h hm ⊢
 have HS:=Lib.hid hs;have HC:=Lib.hid hc
 clear hs hc
 go_enter Tryz.func84,Tryz.ntmps84
 go_wp2_with (go_at_call 105;refine(cG _ _).mono ?_;rintro e w' ⟨rfl,rfl⟩;rw[HS.out])
 go_loop [8,24] (fun n k=>∃ j:Nat,j <= size /\ k=.int .i64 j /\ n=.int .i64 (dG xs i j)) (fun _ k=>size-(intOf k).toNat)
 case atStart=>exact⟨0,aab _,rfl,rfl⟩
 case round =>
  obtain⟨j,hj,rfl,rfl⟩:=hrel
  by_cases hlt:j<size
  ·have hcell:=HC.out (i+j) (by have:=HL.out;omega)
   have hr:=Gu xs i j (by omega)
   have hb:=nB xs (i+j)
   have hor:=KD (dG xs i j) (bt xs (i+j)) hr.1 hr.2 hb.1 hb.2
   have HO:Hid (dG xs i (j+1)=dG xs i j*256+bt xs (i+j)):=rfl
   go_wp2
   go_round
   case rel=>exact⟨j+1,by omega,by go_num,by rw[HO.out]⟩
   case measure=>simp[intOf];omega
  ·obtain rfl:j=size:=by omega
   go_wp2
   go_ret2
   exact⟨rfl,rfl⟩
theorem Kc(a:Option Addr)(len cap:Nat)(i size:Int)(w:World)(h:szB size=false \/ i<0):
  Calls Tryz.prog 84 #[.slice a len cap,.int .i64 i,.int .i64 size] w fun e w'=>e=.returned (.tuple #[.int .i64 0,.int .i64 1]) /\ w=w':=by
 cases hs:szB size with
 | false =>
  have HS:=Lib.hid hs
  clear hs h
  go_enter Tryz.func84,Tryz.ntmps84
  go_wp2_with (go_at_call 105;refine(cG _ _).mono ?_;rintro e w' ⟨rfl,rfl⟩;rw[HS.out])
  go_ret2
  exact⟨rfl,rfl⟩
 | true =>
  have hi:i<0:=by simpa[hs] using h
  have HS:=Lib.hid hs
  clear hs h
  go_enter Tryz.func84,Tryz.ntmps84
  go_wp2_with (go_at_call 105;refine(cG _ _).mono ?_;rintro e w' ⟨rfl,rfl⟩;rw[HS.out])
  go_ret2
  exact⟨rfl,rfl⟩
theorem D0(a:Option Addr)(len cap:Nat)(i size:Int)(w:World)(hm:len <= 9223372036854775807)(hs:szB size=true)(h0:0 <= i)(h:(len:Int)-size<i):
  Calls Tryz.prog 84 #[.slice a len cap,.int .i64 i,.int .i64 size] w fun e w'=>e=.returned (.tuple #[.int .i64 0,.int .i64 3]) /\ w=w':=by
 have h4:=oq hs
 have HS:=Lib.hid hs
 clear hs
 go_enter Tryz.func84,Tryz.ntmps84
 go_wp2_with (go_at_call 105;refine(cG _ _).mono ?_;rintro e w' ⟨rfl,rfl⟩;rw[HS.out])
 go_ret2
 exact⟨rfl,rfl⟩
theorem Kb(B:Nat)(a:Option Addr)(cap:Nat)(xs:List UInt8)(i size:Int)(w:World)(hm:xs.length <= 9223372036854775807)(hb:BytesAt w B a xs):
  Calls Tryz.prog 84 #[.slice a xs.length cap,.int .i64 i,.int .i64 size] w fun e w'=>e=.returned (kV xs i size) /\ w=w':=by
 by_cases h1:szB size=false \/ i<0
 ·rw[AD h1];exact Kc a _ cap i size w h1
 ·have hs:szB size=true:=by cases h:szB size<;>simp_all
  have h0:0 <= i:=by omega
  have h4:=oq hs
  by_cases h2:(xs.length:Int)-size<i
  ·rw[wx hs h0 h2];exact D0 a _ cap i size w hm hs h0 h2
  ·obtain⟨k,rfl⟩:=aaa h0
   obtain⟨m,rfl⟩:=aaa (by omega:0 <= size)
   obtain⟨b,off,rfl,_,hc⟩:=hb (by omega)
   rw[D7 hs (by omega)]
   exact Ov b off cap xs k m w hm hc hs (by omega)
end Go.Proofs.YtlbgjlmokpkkeaaGreatDoor.Nm
