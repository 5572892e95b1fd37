import Derived.Test.YtlbgjlmokpkkeaaGreatDoorQAxXr
open List renaming take -> aaa, mem_map -> aab
set_option linter.all false
namespace Go.Proofs.YtlbgjlmokpkkeaaGreatDoor.Ax
open Go.RowKit Go By
theorem aC{α:Sort _}{a:α}:a=a:=of_eq_true (eq_self a)
abbrev Cl:=Bool×d5
def aq(c:Cl):List AV:=[.v (.bool c.1),.sl 1 (ai c.2) none .no]
@[simp] theorem QI(x:Cl):(aq x).length=2:=aC
@[simp] theorem LN(x:Cl):(aq x).map AV.unown=aq x:=aC
@[simp] theorem Oc(x:Cl):aaa 2 (aq x)=aq x:=aC
@[simp] theorem Sm(x:Cl)(h:1<(aq x).length):(aq x)[1]=.sl 1 (ai x.2) none .no:=aC
theorem cW(x:Cl):aq x=[.v (.bool x.1),.sl 1 (ai x.2) none .no]:=rfl
@[simp] theorem FW(n:Nat)(x:Cl):cb n (aq x):=by simp[cW]
@[simp] theorem OM(n:Nat)(l:List Cl):aK n (am aq l):=dd _ n (FW n) l
structure Ms where
 type:Int
 body:d5
 deriving DecidableEq
def bL(x:Ms):List AV:=[.v (.int .u8 x.type),.sl 1 (ai x.body) none .no]
@[simp] theorem UH(x:Ms):(bL x).length=2:=aC
@[simp] theorem Q6(x:Ms):(bL x).map AV.unown=bL x:=aC
@[simp] theorem Tf(x:Ms):aaa 2 (bL x)=bL x:=aC
@[simp] theorem YD(x:Ms)(h:0<(bL x).length):(bL x)[0]=.v (.int .u8 x.type):=aC
@[simp] theorem YE(x:Ms)(h:1<(bL x).length):(bL x)[1]=.sl 1 (ai x.body) none .no:=aC
theorem aO(x:Ms):bL x=[.v (.int .u8 x.type),.sl 1 (ai x.body) none .no]:=rfl
@[simp] theorem YF(n:Nat)(x:Ms):cb n (bL x):=by simp[aO]
structure Pa where
 name:d5
 value:d5
 deriving DecidableEq
def Je(x:Pa):List AV:=[.v (.string (af x.name)),.v (.string (af x.value))]
theorem lf(x:Pa):Je x=[.v (.string (af x.name)),.v (.string (af x.value))]:=rfl
@[simp] theorem OX(n:Nat)(x:Pa):cb n (Je x):=by simp[lf]
@[simp] theorem Td(n:Nat)(l:List Pa):aK n (am Je l):=dd _ n (OX n) l
structure Co where
 name:d5
 table:Int
 attr:Int
 oid:Int
 size:Int
 mod:Int
 format:Int
 deriving DecidableEq
def jq(x:Co):List AV:=[.v (.string (af x.name)),.v (.int .i64 x.table),.v (.int .i64 x.attr),.v (.int .i64 x.oid),.v (.int .i64 x.size),.v (.int .i64 x.mod),.v (.int .i64 x.format)]
@[simp] theorem Uo(x:Co):(jq x).length=7:=aC
@[simp] theorem QM(x:Co):(jq x).map AV.unown=jq x:=aC
@[simp] theorem Sp(x:Co):aaa 7 (jq x)=jq x:=aC
@[simp] theorem Wc(x:Co)(h:0<(jq x).length):(jq x)[0]=.v (.string (af x.name)):=aC
@[simp] theorem Wd(x:Co)(h:1<(jq x).length):(jq x)[1]=.v (.int .i64 x.table):=aC
@[simp] theorem We(x:Co)(h:2<(jq x).length):(jq x)[2]=.v (.int .i64 x.attr):=aC
@[simp] theorem Wf(x:Co)(h:3<(jq x).length):(jq x)[3]=.v (.int .i64 x.oid):=aC
@[simp] theorem Wg(x:Co)(h:4<(jq x).length):(jq x)[4]=.v (.int .i64 x.size):=aC
@[simp] theorem Wh(x:Co)(h:5<(jq x).length):(jq x)[5]=.v (.int .i64 x.mod):=aC
@[simp] theorem Wi(x:Co)(h:6<(jq x).length):(jq x)[6]=.v (.int .i64 x.format):=aC
theorem zX(x:Co):jq x=[.v (.string (af x.name)),.v (.int .i64 x.table),.v (.int .i64 x.attr),.v (.int .i64 x.oid),.v (.int .i64 x.size),.v (.int .i64 x.mod),.v (.int .i64 x.format)]:=rfl
@[simp] theorem Od(n:Nat)(x:Co):cb n (jq x):=by simp[zX]
@[simp] theorem Ta(n:Nat)(l:List Co):aK n (am jq l):=dd _ n (Od n) l
structure Fi where
 code:Int
 text:d5
 deriving DecidableEq
def qN(x:Fi):List AV:=[.v (.int .u8 x.code),.v (.string (af x.text))]
@[simp] theorem Us(x:Fi):(qN x).length=2:=aC
@[simp] theorem QR(x:Fi):(qN x).map AV.unown=qN x:=aC
@[simp] theorem Sv(x:Fi):aaa 2 (qN x)=qN x:=aC
@[simp] theorem Wl(x:Fi)(h:0<(qN x).length):(qN x)[0]=.v (.int .u8 x.code):=aC
@[simp] theorem Wm(x:Fi)(h:1<(qN x).length):(qN x)[1]=.v (.string (af x.text)):=aC
theorem Aw(x:Fi):qN x=[.v (.int .u8 x.code),.v (.string (af x.text))]:=rfl
@[simp] theorem Oo(n:Nat)(x:Fi):cb n (qN x):=by simp[Aw]
@[simp] theorem Tb(n:Nat)(l:List Fi):aK n (am qN l):=dd _ n (Oo n) l
structure Hm where
 code:Int
 process:Int
 secret:Int
 params:List Pa
 deriving DecidableEq
def tH(x:Hm):List AV:=[.v (.int .i64 x.code),.v (.int .i64 x.process),.v (.int .i64 x.secret),.sl 2 (am Je x.params) none .no]
@[simp] theorem Uz(x:Hm):(tH x).length=4:=aC
@[simp] theorem QV(x:Hm):(tH x).map AV.unown=tH x:=aC
@[simp] theorem SG(x:Hm):aaa 4 (tH x)=tH x:=aC
@[simp] theorem Wy(x:Hm)(h:0<(tH x).length):(tH x)[0]=.v (.int .i64 x.code):=aC
@[simp] theorem Wz(x:Hm)(h:1<(tH x).length):(tH x)[1]=.v (.int .i64 x.process):=aC
@[simp] theorem WA(x:Hm)(h:2<(tH x).length):(tH x)[2]=.v (.int .i64 x.secret):=aC
@[simp] theorem WB(x:Hm)(h:3<(tH x).length):(tH x)[3]=.sl 2 (am Je x.params) none .no:=aC
theorem jD(x:Hm):tH x=[.v (.int .i64 x.code),.v (.int .i64 x.process),.v (.int .i64 x.secret),.sl 2 (am Je x.params) none .no]:=rfl
@[simp] theorem WC(n:Nat)(x:Hm):cb n (tH x):=by simp[jD]
structure Fm where
 kind:Int
 what:Int
 name:d5
 portal:d5
 text:d5
 oids:List Int
 formats:List Int
 results:List Int
 params:List Cl
 max:Int
 deriving DecidableEq
def aJ(x:Fm):List AV:=[.v (.int .u8 x.kind),.v (.int .u8 x.what),.v (.string (af x.name)),.v (.string (af x.portal)),.v (.string (af x.text)),.sl 1 (am aX x.oids) none .no,.sl 1 (am aX x.formats) none .no,.sl 1 (am aX x.results) none .no,.sl 2 (am aq x.params) none .no,.v (.int .i64 x.max)]
@[simp] theorem Uv(x:Fm):(aJ x).length=10:=aC
@[simp] theorem QT(x:Fm):(aJ x).map AV.unown=aJ x:=aC
@[simp] theorem SD(x:Fm):aaa 10 (aJ x)=aJ x:=aC
@[simp] theorem Wn(x:Fm)(h:0<(aJ x).length):(aJ x)[0]=.v (.int .u8 x.kind):=aC
@[simp] theorem Wo(x:Fm)(h:1<(aJ x).length):(aJ x)[1]=.v (.int .u8 x.what):=aC
@[simp] theorem Wp(x:Fm)(h:2<(aJ x).length):(aJ x)[2]=.v (.string (af x.name)):=aC
@[simp] theorem Wq(x:Fm)(h:3<(aJ x).length):(aJ x)[3]=.v (.string (af x.portal)):=aC
@[simp] theorem Wr(x:Fm)(h:4<(aJ x).length):(aJ x)[4]=.v (.string (af x.text)):=aC
@[simp] theorem Ws(x:Fm)(h:5<(aJ x).length):(aJ x)[5]=.sl 1 (am aX x.oids) none .no:=aC
@[simp] theorem Wt(x:Fm)(h:6<(aJ x).length):(aJ x)[6]=.sl 1 (am aX x.formats) none .no:=aC
@[simp] theorem Wu(x:Fm)(h:7<(aJ x).length):(aJ x)[7]=.sl 1 (am aX x.results) none .no:=aC
@[simp] theorem Wv(x:Fm)(h:8<(aJ x).length):(aJ x)[8]=.sl 2 (am aq x.params) none .no:=aC
@[simp] theorem Ww(x:Fm)(h:9<(aJ x).length):(aJ x)[9]=.v (.int .i64 x.max):=aC
theorem aL(x:Fm):aJ x=[.v (.int .u8 x.kind),.v (.int .u8 x.what),.v (.string (af x.name)),.v (.string (af x.portal)),.v (.string (af x.text)),.sl 1 (am aX x.oids) none .no,.sl 1 (am aX x.formats) none .no,.sl 1 (am aX x.results) none .no,.sl 2 (am aq x.params) none .no,.v (.int .i64 x.max)]:=rfl
@[simp] theorem rX(n:Nat)(x:Fm):cb n (aJ x):=by simp[aL]
@[simp] theorem Tc(n:Nat)(l:List Fm):aK n (am aJ l):=dd _ n (rX n) l
@[simp] theorem Ot(x:Fm):∀ y∈aJ x,y.idOf=none:=by simp[aL]
structure Bk where
 kind:Int
 status:Int
 tag:d5
 name:d5
 value:d5
 n:Int
 m:Int
 oids:List Int
 cols:List Co
 row:List Cl
 fields:List Fi
 deriving DecidableEq
def bh(x:Bk):List AV:=[.v (.int .u8 x.kind),.v (.int .u8 x.status),.v (.string (af x.tag)),.v (.string (af x.name)),.v (.string (af x.value)),.v (.int .i64 x.n),.v (.int .i64 x.m),.sl 1 (am aX x.oids) none .no,.sl 7 (am jq x.cols) none .no,.sl 2 (am aq x.row) none .no,.sl 2 (am qN x.fields) none .no]
@[simp] theorem Ug(x:Bk):(bh x).length=11:=aC
@[simp] theorem QE(x:Bk):(bh x).map AV.unown=bh x:=aC
@[simp] theorem R9(x:Bk):aaa 11 (bh x)=bh x:=aC
@[simp] theorem U8(x:Bk)(h:0<(bh x).length):(bh x)[0]=.v (.int .u8 x.kind):=aC
@[simp] theorem U9(x:Bk)(h:1<(bh x).length):(bh x)[1]=.v (.int .u8 x.status):=aC
@[simp] theorem Vc(x:Bk)(h:2<(bh x).length):(bh x)[2]=.v (.string (af x.tag)):=aC
@[simp] theorem Ve(x:Bk)(h:3<(bh x).length):(bh x)[3]=.v (.string (af x.name)):=aC
@[simp] theorem Vf(x:Bk)(h:4<(bh x).length):(bh x)[4]=.v (.string (af x.value)):=aC
@[simp] theorem Vg(x:Bk)(h:5<(bh x).length):(bh x)[5]=.v (.int .i64 x.n):=aC
@[simp] theorem Vh(x:Bk)(h:6<(bh x).length):(bh x)[6]=.v (.int .i64 x.m):=aC
@[simp] theorem Vi(x:Bk)(h:7<(bh x).length):(bh x)[7]=.sl 1 (am aX x.oids) none .no:=aC
@[simp] theorem Vj(x:Bk)(h:8<(bh x).length):(bh x)[8]=.sl 7 (am jq x.cols) none .no:=aC
@[simp] theorem Vk(x:Bk)(h:9<(bh x).length):(bh x)[9]=.sl 2 (am aq x.row) none .no:=aC
@[simp] theorem Uf(x:Bk)(h:10<(bh x).length):(bh x)[10]=.sl 2 (am qN x.fields) none .no:=aC
theorem aV(x:Bk):bh x=[.v (.int .u8 x.kind),.v (.int .u8 x.status),.v (.string (af x.tag)),.v (.string (af x.name)),.v (.string (af x.value)),.v (.int .i64 x.n),.v (.int .i64 x.m),.sl 1 (am aX x.oids) none .no,.sl 7 (am jq x.cols) none .no,.sl 2 (am aq x.row) none .no,.sl 2 (am qN x.fields) none .no]:=rfl
@[simp] theorem MS(n:Nat)(x:Bk):cb n (bh x):=by simp[aV]
@[simp] theorem S9(n:Nat)(l:List Bk):aK n (am bh l):=dd _ n (MS n) l
structure Vb where
 kind:Int
 n:Int
 code:d5
 deriving DecidableEq
def fC(x:Vb):List AV:=[.v (.int .i64 x.kind),.v (.int .i64 x.n),.v (.string (af x.code))]
@[simp] theorem US(x:Vb):(fC x).length=3:=aC
@[simp] theorem Rp(x:Vb):(fC x).map AV.unown=fC x:=aC
@[simp] theorem TK(x:Vb):aaa 3 (fC x)=fC x:=aC
@[simp] theorem YN(x:Vb)(h:0<(fC x).length):(fC x)[0]=.v (.int .i64 x.kind):=aC
@[simp] theorem YO(x:Vb)(h:1<(fC x).length):(fC x)[1]=.v (.int .i64 x.n):=aC
@[simp] theorem YP(x:Vb)(h:2<(fC x).length):(fC x)[2]=.v (.string (af x.code)):=aC
theorem gO(x:Vb):fC x=[.v (.int .i64 x.kind),.v (.int .i64 x.n),.v (.string (af x.code))]:=rfl
@[simp] theorem YQ(n:Nat)(x:Vb):cb n (fC x):=by simp[gO]
def bN(r:List Cl):List AV:=[.sl 2 (am aq r) none .no]
theorem oc(r:List Cl):bN r=[.sl 2 (am aq r) none .no]:=rfl
@[simp] theorem Hy(n:Nat)(r:List Cl):cb n (bN r):=⟨wD fun e he=>by
 unfold am at he
 obtain⟨x,_,rfl⟩:=aab.1 he
 exact⟨trivial,cH n _,trivial⟩,trivial⟩
@[simp] theorem Py(n:Nat)(l:List (List Cl)):aK n (am bN l):=wD fun e he=>by
 unfold am at he
 obtain⟨x,_,rfl⟩:=aab.1 he
 exact Hy n x
end Go.Proofs.YtlbgjlmokpkkeaaGreatDoor.Ax
