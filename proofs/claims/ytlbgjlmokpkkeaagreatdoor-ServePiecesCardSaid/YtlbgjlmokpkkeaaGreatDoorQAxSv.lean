import Derived.Test.YtlbgjlmokpkkeaaGreatDoorQAxSz
set_option linter.all false
set_option maxRecDepth 10000
namespace Go.Proofs.YtlbgjlmokpkkeaaGreatDoor
namespace Ax
open Go.RowKit Go By
theorem Oy{n:Int}(h:(Lit.int .i64 n).wf=true): -9223372036854775808 <= n /\ n <= 9223372036854775807:=by
 simp[Lit.wf,IntKind.min,IntKind.max,IntKind.signed,IntKind.bits] at h
 omega
theorem Ig:Shape Tryz.prog 3 (fun n:Int=>[.v (.int .i64 n)]) (fun n=>-9223372036854775808 <= n /\ n <= 9223372036854775807):=Shape.map (pG Tryz.underlying3) id (fun _=>rfl) (fun _=>Oy)
theorem Mk:Shape Tryz.prog 5 (fun n:Int=>[.v (.int .u8 n)]) (fun n=>0 <= n /\ n<256):=Shape.map (pG Tryz.underlying5) id (fun _=>rfl) (fun _=>zu)
theorem K6:Shape Tryz.prog 4 (fun b:Bool=>[.v (.bool b)]) (fun _=>True):=Bs Tryz.underlying4
theorem Br:Shape Tryz.prog 9 lW (fun s=>s.length <= maxLen):=EN Tryz.underlying9
theorem sh_bytes:Shape Tryz.prog 23 (fun l:d5=>[.sl 1 (ai l) none .no]) (fun l=>l.length <= maxLen):=zh Tryz.underlying23 (by kernel_rfl) Tryz.underlying5
theorem wX:Shape Tryz.prog 39 (fun l:List Int=>[.sl 1 (am aX l) none .no]) (fun l=>l.length <= maxLen):=Shape.map (iz Tryz.underlying39 (by kernel_rfl) (by decide) Ig (fun _=>rfl)) id (fun _=>rfl) (fun _ h=>h.1)
def ML(x:Cl):Prop:=True /\ x.2.length <= maxLen
theorem If:Shape Tryz.prog 74 aq ML :=
 Shape.map (ol Tryz.underlying74 (by kernel_rfl) (co (k:=1) rfl (by kernel_rfl) K6 (by kernel_rfl) (vx (k:=1) rfl (by kernel_rfl) sh_bytes))) (fun p=>(p.1,p.2)) (fun _=>rfl) (fun _ h=>h)
theorem EM:Shape Tryz.prog 40 (fun l:List Cl=>[.sl 2 (am aq l) none .no]) (fun l=>l.length <= maxLen /\ ∀ x∈l,ML x):=iz Tryz.underlying40 (by kernel_rfl) (by decide) If (fun _=>rfl)
def MN(x:Pa):Prop:=x.name.length <= maxLen /\ x.value.length <= maxLen
def MM(x:Fm):Prop:=(0 <= x.kind /\ x.kind<256) /\ (0 <= x.what /\ x.what<256) /\ x.name.length <= maxLen /\ x.portal.length <= maxLen /\ x.text.length <= maxLen /\ x.oids.length <= maxLen /\ x.formats.length <= maxLen /\ x.results.length <= maxLen /\ (x.params.length <= maxLen /\ ∀ c∈x.params,ML c) /\ (-9223372036854775808 <= x.max /\ x.max <= 9223372036854775807)
theorem PC:Shape Tryz.prog 42 aJ MM :=
 Shape.map (ol Tryz.underlying42 (by kernel_rfl) (co (k:=1) rfl (by kernel_rfl) Mk (by kernel_rfl) (co (k:=1) rfl (by kernel_rfl) Mk (by kernel_rfl) (co (k:=1) rfl (by kernel_rfl) Br (by kernel_rfl) (co (k:=1) rfl (by kernel_rfl) Br (by kernel_rfl) (co (k:=1) rfl (by kernel_rfl) Br (by kernel_rfl) (co (k:=1) rfl (by kernel_rfl) wX (by kernel_rfl) (co (k:=1) rfl (by kernel_rfl) wX (by kernel_rfl) (co (k:=1) rfl (by kernel_rfl) wX (by kernel_rfl) (co (k:=1) rfl (by kernel_rfl) EM (by kernel_rfl) (vx (k:=1) rfl (by kernel_rfl) Ig))))))))))) (fun p=>⟨p.1,p.2.1,p.2.2.1,p.2.2.2.1,p.2.2.2.2.1,p.2.2.2.2.2.1,p.2.2.2.2.2.2.1,p.2.2.2.2.2.2.2.1,p.2.2.2.2.2.2.2.2.1,p.2.2.2.2.2.2.2.2.2⟩) (fun _=>rfl) (fun _ h=>h)
theorem sh_fmCL:Shape Tryz.prog 22 (fun l:List Fm=>[.sl 10 (am aJ l) none .no]) (fun l=>l.length <= maxLen /\ ∀ x∈l,MM x):=iz Tryz.underlying22 (by kernel_rfl) (by decide) PC (fun _=>rfl)
end Ax
namespace Ax
open Go.RowKit Go By Dg
theorem CN(v:Vb)(h:d4):ae Tryz.prog 184 [.agg (fC v)] h (.v (.bool ([3,4].contains v.kind))) h []:=by
 refine ac SN mixed (by simp[FR]) fun hh hargs=>?_
 simp[FR]
 refine ak (L3 v [3,4] (by simp) _) (by simp[aX]) (by simp) ?_
 simp[hh]
theorem CO(v:Vb)(h:d4):ae Tryz.prog 130 [.agg (fC v)] h (.v (.bool ([5,6,7].contains v.kind))) h []:=by
 refine ac Xi mixed (by simp[Nh]) fun hh hargs=>?_
 simp[Nh]
 refine ak (L3 v [5,6,7] (by simp) _) (by simp[aX]) (by simp) ?_
 simp[hh]
def xN(v:Vb)(n:Int):Int:=if v.kind=6 then tY (tX n [0]) [1000] else if[5,6,7].contains v.kind=true then 1 else 0
theorem KL(v:Vb)(n:Int)(h:d4):ae Tryz.prog 186 [.agg (fC v),.v (.int .i64 n)] h (.v (.int .i64 (xN v n))) h []:=by
 refine ac XV mixed (by simp[NH]) fun hh hargs=>?_
 simp[NH]
 unfold xN
 by_cases e:v.kind=6
 ·simp[e,hh]
  done
 ·simp[e]
  refine aa (by simp) (CO v _) ?_
  by_cases e5:v.kind=5
  ·simp[e5,hh]
  by_cases e7:v.kind=7
  ·simp[e7,hh]
  simp[e,e5,e7,hh]
end Ax
end Go.Proofs.YtlbgjlmokpkkeaaGreatDoor
