import Derived.WalkKit
import Derived.WalkSpells
import Derived.WalkLawsBesides
import Derived.Lib.Hide
import Derived.Deep.Draws
import Derived.Deep.AppendLies
import Derived.Maps.AppendAt
import Derived.Laws.CopyOwn
import Derived.Laws.AppendOwnNone
import Derived.Laws.BytesArg
import Derived.Lib.Strings
import Derived.Deep.Slices
import Derived.Deep.Fields
import Derived.ChangeSame
import Derived.ProofKit
import Derived.OpenShut
import Derived.ShutString
import Derived.ChangeOld
import Derived.Lib.SmallJoins
open List renaming eq_nil_of_length_eq_zero -> aaa, getD_eq_getElem?_getD -> aab, getElem?_eq_none -> aad
open Int renaming eq_ofNat_of_zero_le -> aac
open Nat renaming eq_zero_or_pos -> aae, lt_or_ge -> aaf
open UInt8 renaming ofNat -> aag
set_option linter.all false
namespace Go.Proofs.YtlbgjlmokpkkeaaGreatDoor.By
open Go.RowKit Go
def bt(xs:List UInt8)(i:Nat):Int:=((xs.getD i 0).toNat:Int)
theorem nB(xs:List UInt8)(i:Nat):0 <= bt xs i /\ bt xs i<256:=by
 unfold bt;have:=(xs.getD i 0).toNat_lt;omega
theorem mD(xs ys:List UInt8)(i:Nat)(h:i<xs.length):bt (xs++ys) i=bt xs i:=by
 unfold bt;rw[aab,List.getElem?_append_left h,<- aab]
def dG(xs:List UInt8)(i:Nat):Nat -> Int
 | 0=>0
 | k+1=>dG xs i k*256+bt xs (i+k)
theorem eV(xs:List UInt8)(i:Nat):∀ k,k <= 4 -> 0 <= dG xs i k /\ dG xs i k<256 ^ k
 | 0,_=>by simp[dG]
 | k+1,h=>by
  have:=eV xs i k (by omega)
  have hb:=nB xs (i+k)
  rw[dG,Int.pow_succ]
  omega
theorem Gu(xs:List UInt8)(i k:Nat)(h:k <= 3):0 <= dG xs i k /\ dG xs i k<16777216:=by
 have h1:=eV xs i k (by omega)
 have h2:(256:Int) ^ k <= 16777216:=by
  rcases k with _ |_ |_ |_ |k
  all_goals first |decide |omega
 omega
theorem OV(a b:Nat)(ha:a<4294967296)(hb:b<4294967296):bits .or .i64 (a:Int) (b:Int)=((a ||| b:Nat):Int):=by
 have hx:a ||| b<2 ^ 32:=Nat.or_lt_two_pow (by omega) (by omega)
 show IntKind.i64.wrap ((BitVec.ofInt 64 (a:Int) ||| BitVec.ofInt 64 (b:Int)).toNat:Int)=_
 rw[BitVec.toNat_or,ofInt_u64 a (by omega),ofInt_u64 b (by omega)]
 exact IntWalk.i64_in _ (by omega)
theorem KD(n c:Int)(h0:0 <= n)(h1:n<16777216)(h2:0 <= c)(h3:c<256):bits .or .i64 (n*256) c=n*256+c:=by
 obtain⟨a,rfl⟩:=aac h0
 obtain⟨b,rfl⟩:=aac h2
 have hj:a*256 ||| b=a*256+b:=nat_join 8 (a*256) b (by omega) (by omega)
 have:=OV (a*256) b (by omega) (by omega)
 rw[hj] at this
 simpa using this
def BytesAt(w:World)(B:Nat)(a:Option Addr)(xs:List UInt8):Prop :=
 0<xs.length -> ∃ b off,a=some ⟨b,off,none⟩ /\ b<B /\ ∀ i,i<xs.length -> w.cell? ⟨b,off+i,none⟩=some (.int .u8 (bt xs i))
section
variable {w w':World} {B B':Nat} {a:Option Addr} {xs:List UInt8}
theorem BytesAt.keep(h:BytesAt w B a xs)(hk:∀ p:Addr,p.block<B -> w'.cell? p=w.cell? p):BytesAt w' B a xs:=fun hn=>by
 obtain⟨b,off,e,hb,hc⟩:=h hn
 exact⟨b,off,e,hb,fun i hi=>(hk _ hb).trans (hc i hi)⟩
theorem BytesAt.below(h:BytesAt w B a xs)(hb:Below B w w'):BytesAt w' B a xs:=h.keep fun _ hp=>hb.cell hp
end
def vals(xs:List UInt8):List Value:=xs.map fun c=>Value.int .u8 (c.toNat:Int)
theorem cj(xs:List UInt8):(vals xs).length=xs.length:=by simp[vals]
theorem zH(xs ys:List UInt8):vals (xs++ys)=vals xs++vals ys:=by simp[vals]
theorem lw(xs:List UInt8):∀ u∈vals xs,u.oneCell'=true:=by
 intro u hu
 obtain⟨c,_,rfl⟩:=List.mem_map.1 hu
 rfl
theorem eI(xs:List UInt8)(i:Nat)(h:i<xs.length):(vals xs)[i]?=some (.int .u8 (bt xs i)):=by
 simp[vals,bt,List.getD,h]
theorem add_plain(b off j:Nat):(⟨b,off,none⟩:Addr).add j=⟨b,off+j,none⟩:=by
 unfold Addr.add;by_cases h:j=0<;>simp[h]
def OwnB(E:TypeId)(w:World)(base:Nat)(v:Value)(xs:List UInt8):Prop:=w.ownsRow base E 1 v xs.length (vals xs)
theorem OwnB.at_{E:TypeId}{w:World}{base:Nat}{v:Value}{xs:List UInt8}(h:OwnB E w base v xs):
  ∃ a cap,v=.slice a xs.length cap /\ xs.length <= cap /\ cap <= maxLen /\ BytesAt w w.heap.size a xs:=by
 have h0:=h
 obtain⟨_,h2⟩:=h
 rcases h2 with⟨rfl,hn⟩ |⟨g,cap,cur,rfl,hg,hh,hnc,hcm,hcs,ht⟩
 ·exact⟨none,0,by rw[hn],by omega,by simp[maxLen],fun hp=>by omega⟩
 ·refine⟨_,_,rfl,hnc,hcm,fun hp=>⟨g,0,rfl,?_,fun i hi=>?_⟩⟩
  ·obtain⟨g',cap',e,_,hlt⟩:=World.ownsRow.form h0 hp
   simp at e
   rw[e.1];exact hlt
  ·have:=World.ownsRow.cells h0 (g:=g) rfl i _ (eI xs i hi)
   rw[add_plain] at this
   exact this
theorem BytesAt.lit{E:TypeId}(w:World)(xs:List UInt8){B:Nat}(hB:w.heap.size<B):BytesAt (w.alloc (.cells (vals xs).toArray E)) B (some ⟨w.heap.size,0,none⟩) xs:=fun _ =>
 ⟨w.heap.size,0,rfl,hB,fun i hi=>by
  rw[Nat.zero_add,cell_of_row _ _ i _ E (0,0) (heap_alloc_new w _)]
  simpa using eI xs i hi⟩
theorem OwnB.of_block{E:TypeId}{w:World}{base g cap:Nat}{cur:List Value}{xs:List UInt8}(hg:w.heap[g]?=some (.cells cur.toArray E (0,0)))(hb:base <= g)
  (hl:cur.length=cap) (hm:cap <= maxLen) (hn:xs.length <= cap) (ht:cur.take xs.length=vals xs):OwnB E w base (.slice (some ⟨g,0,none⟩) xs.length cap) xs :=
 ⟨by simp[vals],.inr ⟨g,cap,cur.toArray,rfl,hb,hg,hn,hm,by simp[hl],by simpa using ht⟩⟩
theorem ck{P:Program}{w:World}{ops:Array Oper}{rest:List Oper}{o:Oper}{a:Act}{Q:Exit -> Act -> World -> Prop}(hgd:o.guard=none)(l c:Operand)(t:TypeId)
  (hop:o.op=Op.makeSlice t l c) (e:TypeId) (i:TypeInfo) (ht:P.underlying t=some (.slice e)) (hi:P.info? e=some i) (hz:i.zero=some (.int .u8 0)) (hsize:i.size=1) (hby:i.bytes=1)
  (kl kc:IntKind) (n k:Nat) (L C:Int) (hl:a.eval l=.int kl L) (hc:a.eval c=.int kc C) (hL:L=(n:Int)) (hC:C=(k:Int)) (hnk:n <= k) (hk:k <= 281474976710656)
  (h:∀ w',Hid (w'.heap[w.heap.size]?=some (.cells (List.replicate k (Value.int .u8 0)).toArray e (0,0))) -> Below w.heap.size w w' -> w'.heap.size=w.heap.size+1 -> wpList P ops Q rest (a.put o.dst (.slice (some ⟨w.heap.size,0,none⟩) n k)) w') :
  wpList P ops Q (o::rest) a w:=by
 refine wpList_plain hgd fun K hK=>?_
 subst hL hC
 have hr:=run_make (P:=P) w t e i _ ht hi hz kl kc n k (by omega) (by omega) (by rw[hby];omega) (by omega)
 simp only[Int.toNat_natCast] at hr
 unfold Oper.wp
 simp[execOp,hop,hl,hc,hr,Result.andThen]
 refine hK _ _ (h _ ?_ ((Below.refl _ _).alloc (Nat.le_refl _) _) (by simp))
 show _=_
 rw[heap_alloc_new,hsize,Nat.mul_one]
 congr 2
 apply Array.toList_inj.1
 rw[Value.cells,toList_madeCells_one]
 simp
theorem bq{P:Program}{w:World}{ops:Array Oper}{rest:List Oper}{o:Oper}{a:Act}{Q:Exit -> Act -> World -> Prop}(hgd:o.guard=none)(s x:Operand)(t:TypeId)
  (ho:o.op=.call { callee:=.builtin .append,args:=#[s,x],argTypes:=#[t,t] })
  (base:Nat) (e:TypeId) (i:TypeInfo) (ht:P.underlying t=some (.slice e)) (hi:P.info? e=some i) (hz:i.zero=some (.int .u8 0))
  (hsize:i.size=1) (hby:i.bytes=1)
  (v:Value) (xs:List UInt8) (hs:a.eval s=v) (hown:OwnB e w base v xs)
  (B:Nat) (A:Option Addr) (c:Nat) (ys:List UInt8) (hx:a.eval x=.slice A ys.length c) (hys:BytesAt w B A ys) (hc0:A=none -> c=0)
  (hfit:xs.length+ys.length <= 140737488355328) (hbase:base <= w.heap.size)
  (h:∀ v' w',OwnB e w' base v' (xs++ys) -> w.grownBy w' v.ownBlock -> (v'.ownBlock=v.ownBlock \/ v'.ownBlock=some w.heap.size) -> wpList P ops Q rest (a.put o.dst v') w'):wpList P ops Q (o::rest) a w:=by
 cases A with
 | none =>
  have h0:ys.length=0:=by
   rcases aae ys.length with h0 |h0
   ·exact h0
   ·obtain⟨_,_,hh,_⟩:=hys h0
    cases hh
  have hn:ys=[]:=aaa h0
  subst hn
  rw[hc0 rfl] at hx
  refine wpList_append_own_none hgd s x t ho base e i 1 ht hi v xs.length (vals xs) hs hown hx ?_
  have:=h v w (by simpa using hown) (World.grownBy.refl w _) (.inl rfl)
  exact this
 | some ad =>
  refine wpList_append_own_at (w:=w) hgd s x t ho base e i (.int .u8 0) 1 1 ht hi hz hsize hby rfl (by omega) v xs.length (vals xs) hs hown ad ys.length c (vals ys) hx (by simp[vals]) ?_ (lw ys) ?_ (by omega) hbase ?_
  ·intro j u hu
   have hj:j<ys.length:=by
    rcases aaf j ys.length with h1 |h1
    ·exact h1
    ·rw[aad (by simpa[vals] using h1)] at hu;cases hu
   obtain⟨b,off,he,_,hc⟩:=hys (by omega)
   injection he with he
   subst he
   rw[eI ys j hj] at hu
   injection hu with hu
   subst hu
   rw[add_plain]
   exact hc j hj
  ·unfold maxLen;omega
  ·intro v' w' hown' hg _ hat
   refine h v' w' ?_ hg hat
   have e1:(xs++ys).length=xs.length+ys.length:=List.length_append
   unfold OwnB
   rw[e1,zH]
   exact hown'
theorem OwnB.below_grown{E:TypeId}{w w':World}{base:Nat}{v:Value}{xs:List UInt8}(h:OwnB E w base v xs){W:World}(hb:Below base W w)(hbase:base <= w.heap.size)
  (hg:w.grownBy w' v.ownBlock):Below base W w':=hb.grown hg hbase fun k hk=>(World.ownsRow.lt h k hk).1
theorem au{P:Program}{w0:World}{ops:Array Oper}{rest:List Oper}{o:Oper}{a:Act}{Q:Exit -> Act -> World -> Prop}(hgd:o.guard=none)(s x:Operand)(t:TypeId)
  (ho:o.op=.call { callee:=.builtin .append,args:=#[s,x],argTypes:=#[t,t] })
  (base:Nat) (e:TypeId) (i:TypeInfo) (ht:P.underlying t=some (.slice e)) (hi:P.info? e=some i) (hz:i.zero=some (.int .u8 0))
  (hsize:i.size=1) (hby:i.bytes=1)
  (v:Value) (xs:List UInt8) (c:UInt8) (X:Int) (hX:X=(c.toNat:Int)) (hs:a.eval s=v) (hown:OwnB e w0 base v xs)
  (hx:a.eval x=.slice (some ⟨w0.heap.size,0,none⟩) 1 1) (hfit:xs.length+1 <= 140737488355328) (hbase:base <= w0.heap.size) (W:World) (hb:Below base W w0)
  (h:∀ v' w',OwnB e w' base v' (xs++[c]) -> Below base W w' -> wpList P ops Q rest (a.put o.dst v') w'):wpList P ops Q (o::rest) a (w0.alloc (.cells #[.int .u8 X] e)):=by
 subst hX
 have ho':OwnB e (w0.alloc (.cells #[.int .u8 (c.toNat:Int)] e)) base v xs:=World.ownsRow.alloc hown _
 have hb':Below base W (w0.alloc (.cells #[.int .u8 (c.toNat:Int)] e)):=hb.alloc hbase _
 refine bq hgd s x t ho base e i ht hi hz hsize hby v xs hs ho' (w0.heap.size+1) (some ⟨w0.heap.size,0,none⟩) 1 [c] hx
  (BytesAt.lit (E:=e) w0 [c] (Nat.lt_succ_self _)) (fun hh=>by cases hh) hfit (by simp;omega) fun v' w' h1 h2 _=>h v' w' h1 (ho'.below_grown hb' (by simp;omega) h2)
def af(xs:List UInt8):ByteArray:=⟨xs.toArray⟩
theorem zl(xs:List UInt8):(af xs).toList=xs:=by
 rw[ByteArray.toList_eq];rfl
theorem ej(xs:List UInt8):(af xs).size=xs.length:=by simp[af,ByteArray.size]
theorem dz{P:Program}(src e dst:TypeId)(hs:P.underlying src=some (.slice e))(he:P.underlying e=some (.int .u8))(hd:P.underlying dst=some .string)
  (w:World) (B:Nat) (a:Option Addr) (cap:Nat) (xs:List UInt8) (h:BytesAt w B a xs) :
  (convert src dst (.slice a xs.length cap)).run P w=.ok (.string (af xs)) w:=by
 cases a with
 | none =>
  have h0:xs.length=0:=by
   rcases aae xs.length with h0 |h0
   ·exact h0
   ·obtain⟨_,_,hh,_⟩:=h h0
    cases hh
  have hn:xs=[]:=aaa h0
  subst hn
  exact run_convert_bytes_nil w src e hs he _ _ dst hd
 | some ad =>
  rw[run_convert_bytes_string w src dst e _ _ cap hs he hd]
  have hl:(loadCells ad xs.length).run P w=.ok (vals xs).toArray w:=by
   have:=run_loadCells_list (P:=P) w ad (vals xs) (fun j v hj=>by
    have hjl:j<xs.length:=by
     rcases aaf j xs.length with h1 |h1
     ·exact h1
     ·rw[aad (by simpa[vals] using h1)] at hj;cases hj
    obtain⟨b,off,hh,_,hc⟩:=h (by omega)
    injection hh with hh
    subst hh
    rw[eI xs j hjl] at hj
    injection hj with hj
    subst hj
    rw[add_plain]
    exact hc j hjl)
   rw[cj] at this
   exact this
  have hm:vals xs=(xs.map fun c=>(c.toNat:Int)).map (Value.int .u8):=by simp[vals]
  rw[hm] at hl
  rw[run_bytesToString w ad xs.length cap _ hl,foldl_push_bytes]
  congr 2
  have e1:(xs.map fun c=>(c.toNat:Int)).map (fun n=>aag n.toNat)=xs:=by
   rw[List.map_map]
   have e2:((fun n:Int=>aag n.toNat)∘fun c:UInt8=>(c.toNat:Int))=id:=by
    funext c;simp
   rw[e2,List.map_id]
  rw[e1]
  simp[af,ByteArray.empty,ByteArray.emptyWithCapacity]
  rfl
theorem zu{x:Int}(h:(Lit.int .u8 x).wf=true):0 <= x /\ x<256:=by
 have lo:IntKind.u8.min=0:=rfl
 have hi:IntKind.u8.max=255:=rfl
 simp[Lit.wf] at h
 omega
theorem mS{w:World}{p:Addr}{v:Value}(h:w.cell? p=some v):p.block<w.heap.size:=by
 rcases aaf p.block w.heap.size with h1 |h1
 ·exact h1
 ·exfalso
  unfold World.cell? at h
  rw[Array.getElem?_eq_none h1] at h
  simp at h
end Go.Proofs.YtlbgjlmokpkkeaaGreatDoor.By
namespace Go.Proofs.YtlbgjlmokpkkeaaGreatDoor.By
open Go.RowKit Go.Deep Go.ChangeShapes Go.WideShapes Go.ChangeAt Go.Joins Go
section
variable {H:Type} {am:TypeId×Value -> H} {P:Program} {w:World} {base:Nat} {spare:Nat -> Bool} {held:Bool}
end
section
variable {w w':World} {B:Nat} {a:Option Addr} {k:Nat} {es:List (List Value)}
end
section
variable {H:Type} {am:TypeId×Value -> H} {P:Program} {w:World} {base:Nat} {held:Bool}
end
end Go.Proofs.YtlbgjlmokpkkeaaGreatDoor.By
