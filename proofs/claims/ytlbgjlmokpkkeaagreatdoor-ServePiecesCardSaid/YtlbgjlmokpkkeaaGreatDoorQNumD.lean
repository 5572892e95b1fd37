import Derived.Test.YtlbgjlmokpkkeaaGreatDoorQNumB
open Nat renaming le_refl -> aaa, min_self -> aad, lt_or_ge -> aae
open List renaming getElem?_eq_none -> aab, replicate -> aac
set_option linter.all false
namespace Go.Proofs.YtlbgjlmokpkkeaaGreatDoor.Nm
set_option maxRecDepth 100000
open Go.RowKit Go By
theorem byte_info:(Tryz.prog.info? 5).map (fun i=>(i.zero,i.size,i.bytes))=some (some (.int .u8 0),1,1):=by kernel_rfl
def Made(xs:List UInt8)(w:World)(e:Ending)(w':World):Prop :=
 ∃ a cap,e=.returned (.slice a xs.length cap) /\ (a=none -> cap=0) /\ OwnB 5 w' w.heap.size (.slice a xs.length cap) xs /\ BytesAt w' w'.heap.size a xs /\ Below w.heap.size w w'
theorem Made.of{xs:List UInt8}{w w':World}{e:Ending}(h:∃ v,e=.returned v /\ OwnB 5 w' w.heap.size v xs /\ Below w.heap.size w w'):Made xs w e w':=by
 obtain⟨v,he,ho,hb⟩:=h
 obtain⟨a,cap,rfl,_,_,hc⟩:=ho.at_
 refine⟨a,cap,he,fun hn=>?_,ho,hc,hb⟩
 subst hn
 rcases ho.2 with⟨h1,_⟩ |⟨g,_,_,h1,_⟩
 ·injection h1
 ·injection h1 with h1;cases h1
def cg(n:Int)(k:Nat):UInt8:=UInt8.ofNat (n / 256 ^ k % 256).toNat
theorem aN(n:Int)(k:Nat):((cg n k).toNat:Int)=n / 256 ^ k % 256:=by
 unfold cg
 have h:0 <= n / 256 ^ k % 256 /\ n / 256 ^ k % 256<256:=by omega
 rw[UInt8.toNat_ofNat']
 omega
def aH(n:Int)(size:Nat):Nat -> List UInt8
 | 0=>[]
 | j+1=>aH n size j++[cg n (size-1-j)]
theorem aE(n:Int)(size:Nat):∀ j,(aH n size j).length=j
 | 0=>rfl
 | j+1=>by rw[aH,List.length_append,aE n size j];rfl
def aY(xs:List UInt8)(n size:Int):List UInt8:=if aB n size=true then xs++aH n size.toNat size.toNat else xs
set_option maxHeartbeats 400000 in
theorem Ti(B:Nat)(a:Option Addr)(cap:Nat)(xs:List UInt8)(n:Int)(w:World)(h:BytesAt w B a xs)(hB:B <= w.heap.size)(hl:xs.length <= 140737488351232)(hr:aB n 1=true):
  Calls Tryz.prog 168 #[.slice a xs.length cap,.int .i64 n,.int .i64 1] w (Made (xs++aH n 1 1) w):=by
 obtain⟨i0,hi,hz0,hz1,hz2⟩:=info_parts byte_info
 have HR:=Lib.hid hr;have HX:=Lib.hid h
 clear hr h
 obtain⟨len,HL⟩:∃ len,Hid (xs.length=len):=⟨_,rfl⟩
 rw[HL.out] at hl ⊢
 go_enter Tryz.func168,Tryz.ntmps168
 go_wp2_with (first
  | (go_at_call 163;refine(jd _ _ _).mono ?_;rintro e w' ⟨rfl,rfl⟩;rw[HR.out])
  | (at_make;refine ck rfl _ _ 23 rfl 5 i0 Tryz.underlying23 hi hz0 hz1 hz2 .i64 .i64 len (len+1) _ _ rfl rfl rfl (by omega) (by omega) (by omega) ?_;intro w1 hg1 hb1 hs1)
  | (with_reducible refine wpList_copy_splice (o:=⟨some 24,_,_,_,_,_⟩) rfl (.tmp 22) (.tmp 23) 23 23 rfl 5 Tryz.underlying23 (by kernel_rfl) _ _ len (len+1) len cap rfl rfl w.heap.size 0 (aac (len+1) (.int .u8 0)) 5 hg1.out (vals xs) (by rw[cj,HL.out];exact(aad len).symm) ?c1 ?c2 (lw xs) w.heap.size w hb1 (aaa _) ?c3))
 case c1 =>
  intro hp
  obtain⟨b,off,e,_,hc⟩:=(HX.out.below (hb1.mono hB)) (by simpa[vals] using hp)
  refine⟨_,e,fun j u hu=>?_⟩
  have hj:j<xs.length:=by
   rcases aae j xs.length with h1 |h1
   ·exact h1
   ·rw[aab (by simpa[vals] using h1)] at hu;cases hu
  rw[eI xs j hj] at hu
  injection hu with hu
  subst hu
  rw[add_plain]
  exact hc j hj
 case c2=>simp[vals,HL.out]
 case c3 =>
  intro w2 hg2 hb2
  have HO:Hid (OwnB 5 w2 w.heap.size (.slice (some ⟨w.heap.size,0,none⟩) xs.length (len+1)) xs) :=
   Lib.hid (OwnB.of_block hg2.out (aaa _) (by rw[length_splice _ _ _ (by simp[vals,HL.out])];simp) (by unfold maxLen;omega) (by rw[HL.out];omega)
    (by unfold splice;rw[<- cj xs];simp))
  rw[HL.out] at HO
  clear hg2 hg1 hb1 hs1 HR
  go_wp2
  go_loopw [7,26] (fun v i wr=>∃ j:Int,0 <= j /\ j <= 1 /\ i=.int .i64 j /\ OwnB 5 wr w.heap.size v (xs++aH n 1 j.toNat) /\ Below w.heap.size w wr) (fun _ i _=>1-(intOf i).toNat)
  case atStart=>exact⟨0,by omega,by omega,rfl,by simpa[aH] using HO.out,hb2⟩
  case round =>
   obtain⟨j,hj0,hj4,rfl,hown,hbw⟩:=hrel
   have HW:=Lib.hid hown
   have HB:=Lib.hid hbw
   clear hown hbw hb2 HO
   have hj:j=0 \/ j=1:=by omega
   rcases hj with rfl |rfl
   ·go_wp2_with (at_builtin;refine au rfl (.tmp 29) (.tmp 38) 23 rfl w.heap.size 5 i0 Tryz.underlying23 hi hz0 hz1 hz2 _ (xs++aH n 1 0) (cg n 0) _ (by rw[aN];simp) rfl HW.out rfl (by simp[aE,HL.out];omega) HB.out.size w HB.out ?_;intro v3 w3 ho3 hb3)
    go_roundw
    case rel=>exact⟨1,by omega,by omega,rfl,by simpa[aH] using ho3,hb3⟩
    case measure=>simp[intOf]
   ·go_wp2
    go_ret
    exact Made.of ⟨_,rfl,HW.out,HB.out⟩
set_option maxHeartbeats 400000 in
theorem Tj(B:Nat)(a:Option Addr)(cap:Nat)(xs:List UInt8)(n:Int)(w:World)(h:BytesAt w B a xs)(hB:B <= w.heap.size)(hl:xs.length <= 140737488351232)(hr:aB n 2=true):
  Calls Tryz.prog 168 #[.slice a xs.length cap,.int .i64 n,.int .i64 2] w (Made (xs++aH n 2 2) w):=by
 obtain⟨i0,hi,hz0,hz1,hz2⟩:=info_parts byte_info
 have HR:=Lib.hid hr;have HX:=Lib.hid h
 clear hr h
 obtain⟨len,HL⟩:∃ len,Hid (xs.length=len):=⟨_,rfl⟩
 rw[HL.out] at hl ⊢
 go_enter Tryz.func168,Tryz.ntmps168
 go_wp2_with (first
  | (go_at_call 163;refine(jd _ _ _).mono ?_;rintro e w' ⟨rfl,rfl⟩;rw[HR.out])
  | (at_make;refine ck rfl _ _ 23 rfl 5 i0 Tryz.underlying23 hi hz0 hz1 hz2 .i64 .i64 len (len+2) _ _ rfl rfl rfl (by omega) (by omega) (by omega) ?_;intro w1 hg1 hb1 hs1)
  | (with_reducible refine wpList_copy_splice (o:=⟨some 24,_,_,_,_,_⟩) rfl (.tmp 22) (.tmp 23) 23 23 rfl 5 Tryz.underlying23 (by kernel_rfl) _ _ len (len+2) len cap rfl rfl w.heap.size 0 (aac (len+2) (.int .u8 0)) 5 hg1.out (vals xs) (by rw[cj,HL.out];exact(aad len).symm) ?c1 ?c2 (lw xs) w.heap.size w hb1 (aaa _) ?c3))
 case c1 =>
  intro hp
  obtain⟨b,off,e,_,hc⟩:=(HX.out.below (hb1.mono hB)) (by simpa[vals] using hp)
  refine⟨_,e,fun j u hu=>?_⟩
  have hj:j<xs.length:=by
   rcases aae j xs.length with h1 |h1
   ·exact h1
   ·rw[aab (by simpa[vals] using h1)] at hu;cases hu
  rw[eI xs j hj] at hu
  injection hu with hu
  subst hu
  rw[add_plain]
  exact hc j hj
 case c2=>simp[vals,HL.out]
 case c3 =>
  intro w2 hg2 hb2
  have HO:Hid (OwnB 5 w2 w.heap.size (.slice (some ⟨w.heap.size,0,none⟩) xs.length (len+2)) xs) :=
   Lib.hid (OwnB.of_block hg2.out (aaa _) (by rw[length_splice _ _ _ (by simp[vals,HL.out])];simp) (by unfold maxLen;omega) (by rw[HL.out];omega)
    (by unfold splice;rw[<- cj xs];simp))
  rw[HL.out] at HO
  clear hg2 hg1 hb1 hs1 HR
  go_wp2
  go_loopw [7,26] (fun v i wr=>∃ j:Int,0 <= j /\ j <= 2 /\ i=.int .i64 j /\ OwnB 5 wr w.heap.size v (xs++aH n 2 j.toNat) /\ Below w.heap.size w wr) (fun _ i _=>2-(intOf i).toNat)
  case atStart=>exact⟨0,by omega,by omega,rfl,by simpa[aH] using HO.out,hb2⟩
  case round =>
   obtain⟨j,hj0,hj4,rfl,hown,hbw⟩:=hrel
   have HW:=Lib.hid hown
   have HB:=Lib.hid hbw
   clear hown hbw hb2 HO
   have hj:j=0 \/ j=1 \/ j=2:=by omega
   rcases hj with rfl |rfl |rfl
   ·go_wp2_with (at_builtin;refine au rfl (.tmp 29) (.tmp 38) 23 rfl w.heap.size 5 i0 Tryz.underlying23 hi hz0 hz1 hz2 _ (xs++aH n 2 0) (cg n 1) _ (by rw[aN];simp) rfl HW.out rfl (by simp[aE,HL.out];omega) HB.out.size w HB.out ?_;intro v3 w3 ho3 hb3)
    go_roundw
    case rel=>exact⟨1,by omega,by omega,rfl,by simpa[aH] using ho3,hb3⟩
    case measure=>simp[intOf]
   ·go_wp2_with (at_builtin;refine au rfl (.tmp 29) (.tmp 38) 23 rfl w.heap.size 5 i0 Tryz.underlying23 hi hz0 hz1 hz2 _ (xs++aH n 2 1) (cg n 0) _ (by rw[aN];simp) rfl HW.out rfl (by simp[aE,HL.out];omega) HB.out.size w HB.out ?_;intro v3 w3 ho3 hb3)
    go_roundw
    case rel=>exact⟨2,by omega,by omega,rfl,by simpa[aH] using ho3,hb3⟩
    case measure=>simp[intOf]
   ·go_wp2
    go_ret
    exact Made.of ⟨_,rfl,HW.out,HB.out⟩
set_option maxHeartbeats 400000 in
theorem Tk(B:Nat)(a:Option Addr)(cap:Nat)(xs:List UInt8)(n:Int)(w:World)(h:BytesAt w B a xs)(hB:B <= w.heap.size)(hl:xs.length <= 140737488351232)(hr:aB n 4=true):
  Calls Tryz.prog 168 #[.slice a xs.length cap,.int .i64 n,.int .i64 4] w (Made (xs++aH n 4 4) w):=by
 obtain⟨i0,hi,hz0,hz1,hz2⟩:=info_parts byte_info
 have HR:=Lib.hid hr;have HX:=Lib.hid h
 clear hr h
 obtain⟨len,HL⟩:∃ len,Hid (xs.length=len):=⟨_,rfl⟩
 rw[HL.out] at hl ⊢
 go_enter Tryz.func168,Tryz.ntmps168
 go_wp2_with (first
  | (go_at_call 163;refine(jd _ _ _).mono ?_;rintro e w' ⟨rfl,rfl⟩;rw[HR.out])
  | (at_make;refine ck rfl _ _ 23 rfl 5 i0 Tryz.underlying23 hi hz0 hz1 hz2 .i64 .i64 len (len+4) _ _ rfl rfl rfl (by omega) (by omega) (by omega) ?_;intro w1 hg1 hb1 hs1)
  | (with_reducible refine wpList_copy_splice (o:=⟨some 24,_,_,_,_,_⟩) rfl (.tmp 22) (.tmp 23) 23 23 rfl 5 Tryz.underlying23 (by kernel_rfl) _ _ len (len+4) len cap rfl rfl w.heap.size 0 (aac (len+4) (.int .u8 0)) 5 hg1.out (vals xs) (by rw[cj,HL.out];exact(aad len).symm) ?c1 ?c2 (lw xs) w.heap.size w hb1 (aaa _) ?c3))
 case c1 =>
  intro hp
  obtain⟨b,off,e,_,hc⟩:=(HX.out.below (hb1.mono hB)) (by simpa[vals] using hp)
  refine⟨_,e,fun j u hu=>?_⟩
  have hj:j<xs.length:=by
   rcases aae j xs.length with h1 |h1
   ·exact h1
   ·rw[aab (by simpa[vals] using h1)] at hu;cases hu
  rw[eI xs j hj] at hu
  injection hu with hu
  subst hu
  rw[add_plain]
  exact hc j hj
 case c2=>simp[vals,HL.out]
 case c3 =>
  intro w2 hg2 hb2
  have HO:Hid (OwnB 5 w2 w.heap.size (.slice (some ⟨w.heap.size,0,none⟩) xs.length (len+4)) xs) :=
   Lib.hid (OwnB.of_block hg2.out (aaa _) (by rw[length_splice _ _ _ (by simp[vals,HL.out])];simp) (by unfold maxLen;omega) (by rw[HL.out];omega)
    (by unfold splice;rw[<- cj xs];simp))
  rw[HL.out] at HO
  clear hg2 hg1 hb1 hs1 HR
  go_wp2
  go_loopw [7,26] (fun v i wr=>∃ j:Int,0 <= j /\ j <= 4 /\ i=.int .i64 j /\ OwnB 5 wr w.heap.size v (xs++aH n 4 j.toNat) /\ Below w.heap.size w wr) (fun _ i _=>4-(intOf i).toNat)
  case atStart=>exact⟨0,by omega,by omega,rfl,by simpa[aH] using HO.out,hb2⟩
  case round =>
   obtain⟨j,hj0,hj4,rfl,hown,hbw⟩:=hrel
   have HW:=Lib.hid hown
   have HB:=Lib.hid hbw
   clear hown hbw hb2 HO
   have hj:j=0 \/ j=1 \/ j=2 \/ j=3 \/ j=4:=by omega
   rcases hj with rfl |rfl |rfl |rfl |rfl
   ·go_wp2_with (at_builtin;refine au rfl (.tmp 29) (.tmp 38) 23 rfl w.heap.size 5 i0 Tryz.underlying23 hi hz0 hz1 hz2 _ (xs++aH n 4 0) (cg n 3) _ (by rw[aN];simp) rfl HW.out rfl (by simp[aE,HL.out];omega) HB.out.size w HB.out ?_;intro v3 w3 ho3 hb3)
    go_roundw
    case rel=>exact⟨1,by omega,by omega,rfl,by simpa[aH] using ho3,hb3⟩
    case measure=>simp[intOf]
   ·go_wp2_with (at_builtin;refine au rfl (.tmp 29) (.tmp 38) 23 rfl w.heap.size 5 i0 Tryz.underlying23 hi hz0 hz1 hz2 _ (xs++aH n 4 1) (cg n 2) _ (by rw[aN];simp) rfl HW.out rfl (by simp[aE,HL.out];omega) HB.out.size w HB.out ?_;intro v3 w3 ho3 hb3)
    go_roundw
    case rel=>exact⟨2,by omega,by omega,rfl,by simpa[aH] using ho3,hb3⟩
    case measure=>simp[intOf]
   ·go_wp2_with (at_builtin;refine au rfl (.tmp 29) (.tmp 38) 23 rfl w.heap.size 5 i0 Tryz.underlying23 hi hz0 hz1 hz2 _ (xs++aH n 4 2) (cg n 1) _ (by rw[aN];simp) rfl HW.out rfl (by simp[aE,HL.out];omega) HB.out.size w HB.out ?_;intro v3 w3 ho3 hb3)
    go_roundw
    case rel=>exact⟨3,by omega,by omega,rfl,by simpa[aH] using ho3,hb3⟩
    case measure=>simp[intOf]
   ·go_wp2_with (at_builtin;refine au rfl (.tmp 29) (.tmp 38) 23 rfl w.heap.size 5 i0 Tryz.underlying23 hi hz0 hz1 hz2 _ (xs++aH n 4 3) (cg n 0) _ (by rw[aN];simp) rfl HW.out rfl (by simp[aE,HL.out];omega) HB.out.size w HB.out ?_;intro v3 w3 ho3 hb3)
    go_roundw
    case rel=>exact⟨4,by omega,by omega,rfl,by simpa[aH] using ho3,hb3⟩
    case measure=>simp[intOf]
   ·go_wp2
    go_ret
    exact Made.of ⟨_,rfl,HW.out,HB.out⟩
theorem KJ(B:Nat)(a:Option Addr)(cap:Nat)(xs:List UInt8)(n size:Int)(w:World)(h:BytesAt w B a xs)(hc:a=none -> cap=0)(hl:xs.length <= 140737488351232)(hr:aB n size=false):
  Calls Tryz.prog 168 #[.slice a xs.length cap,.int .i64 n,.int .i64 size] w (Made xs w):=by
 obtain⟨i0,hi,hz0,hz1,hz2⟩:=info_parts byte_info
 have HR:=Lib.hid hr;have HX:=Lib.hid h;have HC:=Lib.hid hc;have HM:=Lib.hid hl
 clear hr h hc hl
 go_enter Tryz.func168,Tryz.ntmps168
 go_wp2_with (first
  | (go_at_call 163;refine(jd _ _ _).mono ?_;rintro e w' ⟨rfl,rfl⟩;rw[HR.out])
  | (at_builtin;refine bq rfl _ _ 23 rfl w.heap.size 5 i0 Tryz.underlying23 hi hz0 hz1 hz2 (.slice none 0 0) [] rfl (World.ownsRow_nil _ _ _ _) B _ cap xs rfl HX.out HC.out (by have:=HM.out;simp;omega) (aaa _) ?_;intro v3 w3 ho3 hg3 _))
 have HO:=Lib.hid ho3
 clear ho3
 go_ret
 exact Made.of ⟨_,rfl,HO.out,(Below.refl _ _).grown hg3 (aaa _) (by simp[Value.ownBlock])⟩
theorem KI(B:Nat)(a:Option Addr)(cap:Nat)(xs:List UInt8)(n size:Int)(w:World)(h:BytesAt w B a xs)(hB:B <= w.heap.size)(hc:a=none -> cap=0)(hl:xs.length <= 140737488351232):
  Calls Tryz.prog 168 #[.slice a xs.length cap,.int .i64 n,.int .i64 size] w (Made (aY xs n size) w):=by
 cases hr:aB n size with
 | false=>rw[aY,if_neg (by simp[hr])];exact KJ B a cap xs n size w h hc hl hr
 | true =>
  rw[aY,if_pos hr]
  have hs:szB size=true:=by
   cases hs:szB size with
   | true=>rfl
   | false=>simp[aB,hs] at hr
  rcases em hs with rfl |rfl |rfl
  ·exact Ti B a cap xs n w h hB hl hr
  ·exact Tj B a cap xs n w h hB hl hr
  ·exact Tk B a cap xs n w h hB hl hr
theorem Hb(w:World):Calls Tryz.prog 56 #[.int .i64 0] w fun e w'=>e=.returned (.int .i64 1) /\ w=w':=oa 0 w (by omega)
theorem Th(w:World):Calls Tryz.prog 56 #[.int .i64 3] w fun e w'=>e=.returned (.int .i64 16777216) /\ w=w':=oa 3 w (by omega)
theorem jO{n size:Int}(h:aB n size=true): -(jc size / 2) <= n /\ n<jc size:=by
 simp[aB] at h;exact h.2
set_option maxHeartbeats 400000 in
theorem Pz(B:Nat)(a:Option Addr)(cap:Nat)(xs:List UInt8)(n:Int)(w:World)(h:BytesAt w B a xs)(hc:a=none -> cap=0)(hl:xs.length <= 140737488351232)(hr:aB n 1=true):
  Calls Tryz.prog 37 #[.slice a xs.length cap,.int .i64 n,.int .i64 1] w (Made (xs++aH n 1 1) w):=by
 obtain⟨i0,hi,hz0,hz1,hz2⟩:=info_parts byte_info
 have hbd : -128 <= n /\ n<256:=jO hr
 have HR:=Lib.hid hr;have HX:=Lib.hid h;have HC:=Lib.hid hc
 obtain⟨h1,h2⟩:=hbd
 clear hr h hc
 obtain⟨len,HL⟩:∃ len,Hid (xs.length=len):=⟨_,rfl⟩
 have HM:Hid (xs.length <= 140737488351232):=Lib.hid hl
 rw[HL.out] at hl
 by_cases hn:n<0
 all_goals
  go_enter Tryz.func37,Tryz.ntmps37
  go_wp2_with (first
   | (go_at_call 55;refine(gF _ _ _).mono ?_;rintro e w' ⟨rfl,rfl⟩;rw[HR.out])
   | (go_at_call 56;refine(yR _).mono ?_;rintro e w' ⟨rfl,rfl⟩)
   | (at_builtin;refine bq rfl _ _ 23 rfl w.heap.size 5 i0 Tryz.underlying23 hi hz0 hz1 hz2 (.slice none 0 0) [] rfl (World.ownsRow_nil _ _ _ _) B _ cap xs rfl HX.out HC.out (by have:=HM.out;simp;omega) (aaa _) ?_;intro v1 w1 ho1 hg1 _;have HO:=Lib.hid ho1;clear ho1))
  have HB1:=Lib.hid ((Below.refl w.heap.size w).grown hg1 (aaa _) (by simp[Value.ownBlock]))
  clear hg1
  go_loopw [7,8] (fun v i wr=>∃ j:Int,0 <= j /\ j <= 1 /\ i=.int .i64 (0-j) /\ OwnB 5 wr w.heap.size v (xs++aH n 1 j.toNat) /\ Below w.heap.size w wr) (fun _ i _=>(intOf i+1).toNat)
  case atStart=>exact⟨0,by omega,by omega,rfl,by simpa[aH] using HO.out,HB1.out⟩
  case round =>
   obtain⟨j,hj0,hj4,rfl,hown,hbw⟩:=hrel
   have HW:=Lib.hid hown
   have HB:=Lib.hid hbw
   clear hown hbw HB1 HO
   have hj:j=0 \/ j=1:=by omega
   rcases hj with rfl |rfl
   ·go_wp2_with (first
     | (go_at_call 56;refine(Hb _).mono ?_;rintro e w' ⟨rfl,rfl⟩)
     | (at_builtin;refine au rfl (.tmp 28) (.tmp 35) 23 rfl w.heap.size 5 i0 Tryz.underlying23 hi hz0 hz1 hz2 _ (xs++aH n 1 0) (cg n 0) _ (by rw[aN];simp<;>omega) rfl HW.out rfl (by simp[aE,HL.out];omega) HB.out.size w HB.out ?_;intro v3 w3 ho3 hb3))
    go_roundw
    case rel=>exact⟨1,by omega,by omega,rfl,by simpa[aH] using ho3,hb3⟩
    case measure=>simp[intOf]
   ·go_wp2
    go_ret
    exact Made.of ⟨_,rfl,HW.out,HB.out⟩
set_option maxHeartbeats 400000 in
theorem PA(B:Nat)(a:Option Addr)(cap:Nat)(xs:List UInt8)(n:Int)(w:World)(h:BytesAt w B a xs)(hc:a=none -> cap=0)(hl:xs.length <= 140737488351232)(hr:aB n 2=true):
  Calls Tryz.prog 37 #[.slice a xs.length cap,.int .i64 n,.int .i64 2] w (Made (xs++aH n 2 2) w):=by
 obtain⟨i0,hi,hz0,hz1,hz2⟩:=info_parts byte_info
 have hbd : -32768 <= n /\ n<65536:=jO hr
 have HR:=Lib.hid hr;have HX:=Lib.hid h;have HC:=Lib.hid hc
 obtain⟨h1,h2⟩:=hbd
 clear hr h hc
 obtain⟨len,HL⟩:∃ len,Hid (xs.length=len):=⟨_,rfl⟩
 have HM:Hid (xs.length <= 140737488351232):=Lib.hid hl
 rw[HL.out] at hl
 by_cases hn:n<0
 all_goals
  go_enter Tryz.func37,Tryz.ntmps37
  go_wp2_with (first
   | (go_at_call 55;refine(gF _ _ _).mono ?_;rintro e w' ⟨rfl,rfl⟩;rw[HR.out])
   | (go_at_call 56;refine(CL _).mono ?_;rintro e w' ⟨rfl,rfl⟩)
   | (at_builtin;refine bq rfl _ _ 23 rfl w.heap.size 5 i0 Tryz.underlying23 hi hz0 hz1 hz2 (.slice none 0 0) [] rfl (World.ownsRow_nil _ _ _ _) B _ cap xs rfl HX.out HC.out (by have:=HM.out;simp;omega) (aaa _) ?_;intro v1 w1 ho1 hg1 _;have HO:=Lib.hid ho1;clear ho1))
  have HB1:=Lib.hid ((Below.refl w.heap.size w).grown hg1 (aaa _) (by simp[Value.ownBlock]))
  clear hg1
  go_loopw [7,8] (fun v i wr=>∃ j:Int,0 <= j /\ j <= 2 /\ i=.int .i64 (1-j) /\ OwnB 5 wr w.heap.size v (xs++aH n 2 j.toNat) /\ Below w.heap.size w wr) (fun _ i _=>(intOf i+1).toNat)
  case atStart=>exact⟨0,by omega,by omega,rfl,by simpa[aH] using HO.out,HB1.out⟩
  case round =>
   obtain⟨j,hj0,hj4,rfl,hown,hbw⟩:=hrel
   have HW:=Lib.hid hown
   have HB:=Lib.hid hbw
   clear hown hbw HB1 HO
   have hj:j=0 \/ j=1 \/ j=2:=by omega
   rcases hj with rfl |rfl |rfl
   ·go_wp2_with (first
     | (go_at_call 56;refine(yR _).mono ?_;rintro e w' ⟨rfl,rfl⟩)
     | (at_builtin;refine au rfl (.tmp 28) (.tmp 35) 23 rfl w.heap.size 5 i0 Tryz.underlying23 hi hz0 hz1 hz2 _ (xs++aH n 2 0) (cg n 1) _ (by rw[aN];simp<;>omega) rfl HW.out rfl (by simp[aE,HL.out];omega) HB.out.size w HB.out ?_;intro v3 w3 ho3 hb3))
    go_roundw
    case rel=>exact⟨1,by omega,by omega,rfl,by simpa[aH] using ho3,hb3⟩
    case measure=>simp[intOf]
   ·go_wp2_with (first
     | (go_at_call 56;refine(Hb _).mono ?_;rintro e w' ⟨rfl,rfl⟩)
     | (at_builtin;refine au rfl (.tmp 28) (.tmp 35) 23 rfl w.heap.size 5 i0 Tryz.underlying23 hi hz0 hz1 hz2 _ (xs++aH n 2 1) (cg n 0) _ (by rw[aN];simp<;>omega) rfl HW.out rfl (by simp[aE,HL.out];omega) HB.out.size w HB.out ?_;intro v3 w3 ho3 hb3))
    go_roundw
    case rel=>exact⟨2,by omega,by omega,rfl,by simpa[aH] using ho3,hb3⟩
    case measure=>simp[intOf]
   ·go_wp2
    go_ret
    exact Made.of ⟨_,rfl,HW.out,HB.out⟩
set_option maxHeartbeats 400000 in
theorem PB(B:Nat)(a:Option Addr)(cap:Nat)(xs:List UInt8)(n:Int)(w:World)(h:BytesAt w B a xs)(hc:a=none -> cap=0)(hl:xs.length <= 140737488351232)(hr:aB n 4=true):
  Calls Tryz.prog 37 #[.slice a xs.length cap,.int .i64 n,.int .i64 4] w (Made (xs++aH n 4 4) w):=by
 obtain⟨i0,hi,hz0,hz1,hz2⟩:=info_parts byte_info
 have hbd : -2147483648 <= n /\ n<4294967296:=jO hr
 have HR:=Lib.hid hr;have HX:=Lib.hid h;have HC:=Lib.hid hc
 obtain⟨h1,h2⟩:=hbd
 clear hr h hc
 obtain⟨len,HL⟩:∃ len,Hid (xs.length=len):=⟨_,rfl⟩
 have HM:Hid (xs.length <= 140737488351232):=Lib.hid hl
 rw[HL.out] at hl
 by_cases hn:n<0
 all_goals
  go_enter Tryz.func37,Tryz.ntmps37
  go_wp2_with (first
   | (go_at_call 55;refine(gF _ _ _).mono ?_;rintro e w' ⟨rfl,rfl⟩;rw[HR.out])
   | (go_at_call 56;refine(Hc _).mono ?_;rintro e w' ⟨rfl,rfl⟩)
   | (at_builtin;refine bq rfl _ _ 23 rfl w.heap.size 5 i0 Tryz.underlying23 hi hz0 hz1 hz2 (.slice none 0 0) [] rfl (World.ownsRow_nil _ _ _ _) B _ cap xs rfl HX.out HC.out (by have:=HM.out;simp;omega) (aaa _) ?_;intro v1 w1 ho1 hg1 _;have HO:=Lib.hid ho1;clear ho1))
  have HB1:=Lib.hid ((Below.refl w.heap.size w).grown hg1 (aaa _) (by simp[Value.ownBlock]))
  clear hg1
  go_loopw [7,8] (fun v i wr=>∃ j:Int,0 <= j /\ j <= 4 /\ i=.int .i64 (3-j) /\ OwnB 5 wr w.heap.size v (xs++aH n 4 j.toNat) /\ Below w.heap.size w wr) (fun _ i _=>(intOf i+1).toNat)
  case atStart=>exact⟨0,by omega,by omega,rfl,by simpa[aH] using HO.out,HB1.out⟩
  case round =>
   obtain⟨j,hj0,hj4,rfl,hown,hbw⟩:=hrel
   have HW:=Lib.hid hown
   have HB:=Lib.hid hbw
   clear hown hbw HB1 HO
   have hj:j=0 \/ j=1 \/ j=2 \/ j=3 \/ j=4:=by omega
   rcases hj with rfl |rfl |rfl |rfl |rfl
   ·go_wp2_with (first
     | (go_at_call 56;refine(Th _).mono ?_;rintro e w' ⟨rfl,rfl⟩)
     | (at_builtin;refine au rfl (.tmp 28) (.tmp 35) 23 rfl w.heap.size 5 i0 Tryz.underlying23 hi hz0 hz1 hz2 _ (xs++aH n 4 0) (cg n 3) _ (by rw[aN];simp<;>omega) rfl HW.out rfl (by simp[aE,HL.out];omega) HB.out.size w HB.out ?_;intro v3 w3 ho3 hb3))
    go_roundw
    case rel=>exact⟨1,by omega,by omega,rfl,by simpa[aH] using ho3,hb3⟩
    case measure=>simp[intOf]
   ·go_wp2_with (first
     | (go_at_call 56;refine(CL _).mono ?_;rintro e w' ⟨rfl,rfl⟩)
     | (at_builtin;refine au rfl (.tmp 28) (.tmp 35) 23 rfl w.heap.size 5 i0 Tryz.underlying23 hi hz0 hz1 hz2 _ (xs++aH n 4 1) (cg n 2) _ (by rw[aN];simp<;>omega) rfl HW.out rfl (by simp[aE,HL.out];omega) HB.out.size w HB.out ?_;intro v3 w3 ho3 hb3))
    go_roundw
    case rel=>exact⟨2,by omega,by omega,rfl,by simpa[aH] using ho3,hb3⟩
    case measure=>simp[intOf]
   ·go_wp2_with (first
     | (go_at_call 56;refine(yR _).mono ?_;rintro e w' ⟨rfl,rfl⟩)
     | (at_builtin;refine au rfl (.tmp 28) (.tmp 35) 23 rfl w.heap.size 5 i0 Tryz.underlying23 hi hz0 hz1 hz2 _ (xs++aH n 4 2) (cg n 1) _ (by rw[aN];simp<;>omega) rfl HW.out rfl (by simp[aE,HL.out];omega) HB.out.size w HB.out ?_;intro v3 w3 ho3 hb3))
    go_roundw
    case rel=>exact⟨3,by omega,by omega,rfl,by simpa[aH] using ho3,hb3⟩
    case measure=>simp[intOf]
   ·go_wp2_with (first
     | (go_at_call 56;refine(Hb _).mono ?_;rintro e w' ⟨rfl,rfl⟩)
     | (at_builtin;refine au rfl (.tmp 28) (.tmp 35) 23 rfl w.heap.size 5 i0 Tryz.underlying23 hi hz0 hz1 hz2 _ (xs++aH n 4 3) (cg n 0) _ (by rw[aN];simp<;>omega) rfl HW.out rfl (by simp[aE,HL.out];omega) HB.out.size w HB.out ?_;intro v3 w3 ho3 hb3))
    go_roundw
    case rel=>exact⟨4,by omega,by omega,rfl,by simpa[aH] using ho3,hb3⟩
    case measure=>simp[intOf]
   ·go_wp2
    go_ret
    exact Made.of ⟨_,rfl,HW.out,HB.out⟩
theorem HH(B:Nat)(a:Option Addr)(cap:Nat)(xs:List UInt8)(n size:Int)(w:World)(h:BytesAt w B a xs)(hc:a=none -> cap=0)(hl:xs.length <= 140737488351232)(hr:aB n size=false):
  Calls Tryz.prog 37 #[.slice a xs.length cap,.int .i64 n,.int .i64 size] w (Made xs w):=by
 obtain⟨i0,hi,hz0,hz1,hz2⟩:=info_parts byte_info
 have HR:=Lib.hid hr;have HX:=Lib.hid h;have HC:=Lib.hid hc;have HM:=Lib.hid hl
 clear hr h hc hl
 go_enter Tryz.func37,Tryz.ntmps37
 go_wp2_with (first
  | (go_at_call 55;refine(gF _ _ _).mono ?_;rintro e w' ⟨rfl,rfl⟩;rw[HR.out])
  | (at_builtin;refine bq rfl _ _ 23 rfl w.heap.size 5 i0 Tryz.underlying23 hi hz0 hz1 hz2 (.slice none 0 0) [] rfl (World.ownsRow_nil _ _ _ _) B _ cap xs rfl HX.out HC.out (by have:=HM.out;simp;omega) (aaa _) ?_;intro v3 w3 ho3 hg3 _;have HO:=Lib.hid ho3;clear ho3))
 go_ret
 exact Made.of ⟨_,rfl,HO.out,(Below.refl _ _).grown hg3 (aaa _) (by simp[Value.ownBlock])⟩
theorem HG(B:Nat)(a:Option Addr)(cap:Nat)(xs:List UInt8)(n size:Int)(w:World)(h:BytesAt w B a xs)(hc:a=none -> cap=0)(hl:xs.length <= 140737488351232):
  Calls Tryz.prog 37 #[.slice a xs.length cap,.int .i64 n,.int .i64 size] w (Made (aY xs n size) w):=by
 cases hr:aB n size with
 | false=>rw[aY,if_neg (by simp[hr])];exact HH B a cap xs n size w h hc hl hr
 | true =>
  rw[aY,if_pos hr]
  have hs:szB size=true:=by
   cases hs:szB size with
   | true=>rfl
   | false=>simp[aB,hs] at hr
  rcases em hs with rfl |rfl |rfl
  ·exact Pz B a cap xs n w h hc hl hr
  ·exact PA B a cap xs n w h hc hl hr
  ·exact PB B a cap xs n w h hc hl hr
end Go.Proofs.YtlbgjlmokpkkeaaGreatDoor.Nm
