import Derived.Test.YtknohkmpficjgaaGreatDoorQAxSr
import Derived.Test.YtknohkmpficjgaaGreatDoorQAxEr
set_option linter.unusedSimpArgs false
set_option linter.unusedVariables false
open List renaming mem_singleton -> Q7, getElem?_append_left -> Q8, getElem?_set_ne -> Q9, mem_cons_self -> Rb, mem_map -> Rc, set_append_left -> Re, length_set -> Rg, getElem?_eq_some_iff -> Rh, getElem?_set_self -> Ri, mem_of_getElem? -> Rj, getElem?_append_right -> Rk, append_assoc -> Rl, all_eq_true -> Rm, mem_append -> Rp, singleton_append -> Rq, nodup_nil -> Rr, mem_cons -> Rt, length_append -> Ru, cons_append -> Rw, mem_flatten -> Rx, nil_append -> Ry
open Nat renaming le_succ -> Ra, le_refl -> Rf, le_trans -> Rn, le_add_right -> Ro, le_succ_of_le -> Rv
namespace Go.Proofs.YtknohkmpficjgaaGreatDoor.Ax
open Go.RowKit Go By
def F3:XFun:=⟨22,.seq (.ops [oJ 3 1,oK 4 (.int .u8 0),oK 5 (.string (ah []))]) (.seq (.seq (.ops [oM 6 0,oC 7 191 [6],oV 8 7]) (.cond (.tmp 8) (.ops [oK 0 (.int .u8 73)]) .skip)) (.seq (.block 0 (.seq (.ops [oF 10 0 3,oL 11 10,oI 12 .eql 11 (.int .i64 2),oA 9 12]) (.cond (.tmp 9) (.seq (.ops [oM 13 0,oC 14 192 [13],oA 4 14,oK 5 (.string (ah [66,69,71,73,78]))]) .ret) (.seq (.ops [oP 16 3 3,oC 17 134 [16],oA 15 17]) (.cond (.tmp 15) (.seq (.ops [oM 18 0,oP 19 3 3,oC 20 193 [18,19],oK 4 (.int .u8 73),oA 5 20]) .ret) .skip))))) (.seq (.ops [oM 21 0,oA 4 21,oK 5 (.string (ah []))]) .ret))),[.move (.tmp 4),.move (.tmp 5)]⟩
theorem OL : ai Tryz.prog 133 = some F3 := by kernel_rfl
def Mc:XFun:=⟨9,.seq (.ops [oK 2 (.int .u8 0)]) (.seq (.seq (.ops [oM 3 0,oI 4 .eql 3 (.int .u8 84),oM 5 4,oG 5 false (oM 6 0),oG 5 false (oI 7 .eql 6 (.int .u8 69)),oU 8 5 7]) (.cond (.tmp 8) (.seq (.ops [oK 2 (.int .u8 69)]) .ret) .skip)) (.seq (.ops [oK 2 (.int .u8 73)]) .ret)),[.move (.tmp 2)]⟩
theorem QG : ai Tryz.prog 49 = some Mc := by kernel_rfl
def As:XFun:=⟨13,.seq (.ops [oK 2 (.bool false)]) (.seq (.ops [oM 3 0,oI 4 .eql 3 (.int .u8 73),oM 5 4,oG 5 false (oM 6 0),oG 5 false (oI 7 .eql 6 (.int .u8 84)),oU 8 5 7,oM 9 8,oG 9 false (oM 10 0),oG 9 false (oI 11 .eql 10 (.int .u8 69)),oU 12 9 11,oA 2 12]) .ret),[.move (.tmp 2)]⟩
theorem Pd : ai Tryz.prog 191 = some As := by kernel_rfl
def Gn:XFun:=⟨6,.seq (.ops [oK 2 (.int .u8 0)]) (.seq (.seq (.ops [oM 3 0,oI 4 .eql 3 (.int .u8 73)]) (.cond (.tmp 4) (.seq (.ops [oK 2 (.int .u8 84)]) .ret) .skip)) (.seq (.ops [oM 5 0,oA 2 5]) .ret)),[.move (.tmp 2)]⟩
theorem Pe : ai Tryz.prog 192 = some Gn := by kernel_rfl
def C3:XFun:=⟨12,.seq (.ops [oJ 3 1,oK 4 (.string (ah []))]) (.seq (.seq (.ops [oF 5 0 3,oL 6 5,oI 7 .eql 6 (.int .i64 4),oM 8 7,oG 8 false (oM 9 0),oG 8 false (oI 10 .eql 9 (.int .u8 69)),oU 11 8 10]) (.cond (.tmp 11) (.seq (.ops [oK 4 (.string (ah [82,79,76,76,66,65,67,75]))]) .ret) .skip)) (.seq (.ops [oK 4 (.string (ah [67,79,77,77,73,84]))]) .ret)),[.move (.tmp 4)]⟩
theorem Pf : ai Tryz.prog 193 = some C3 := by kernel_rfl
end Go.Proofs.YtknohkmpficjgaaGreatDoor.Ax
namespace Go.Proofs.YtknohkmpficjgaaGreatDoor.Ax
open Go.RowKit Go By Dg
set_option maxRecDepth 10000
theorem If (v : Vb) (ks : List Int) (hk : ks.length <= 1000) (h : List (List AV)) : ae Tryz.prog 132 [.agg (ea v), .sl 1 (al aN ks) none .no] h (.v (.bool (ks.contains v.kind))) h [] := by
 refine ac KS mixed (by simp [Ao]) fun hh hargs => ?_
 simp [Ao]
 refine aa (by simp) (A3 (by omega) _) ?_
 simp [hh]
theorem uH (v : Vb) (h : List (List AV)) : ae Tryz.prog 134 [.agg (ea v)] h (.v (.bool ([3, 4].contains v.kind))) h [] := by
 refine ac KT mixed (by simp [Ap]) fun hh hargs => ?_
 simp [Ap]
 refine ao (If v [3, 4] (by simp) _) (by simp [aN]) (by simp) ?_
 simp [hh]
def wM (s : Int) : Bool := decide (s = 73 \/ s = 84 \/ s = 69)
def ya (s : Int) : Int := if s = 84 \/ s = 69 then 69 else 73
def Cd (s : Int) : Int := if wM s = true then s else 73
def yb (s : Int) (k : Int) : Int := if k = 2 then (if Cd s = 73 then 84 else Cd s) else if k = 3 \/ k = 4 then 73 else Cd s
def lu : List UInt8 := [66, 69, 71, 73, 78]
def pq : List UInt8 := [67, 79, 77, 77, 73, 84]
def sH : List UInt8 := [82, 79, 76, 76, 66, 65, 67, 75]
def Ie (s : Int) (k : Int) : List UInt8 := if k = 2 then lu else if k = 4 \/ (k = 3 /\ s = 69) then sH else if k = 3 then pq else []
theorem zL (s : Int) : wM (Cd s) = true := by
 unfold Cd
 split
 ·assumption
 ·rfl
theorem Ic (s : Int) : Cd s = 69 ↔ s = 69 := by
 unfold Cd wM
 split
 ·exact Iff.rfl
 ·rename_i h
  simp at h
  omega
theorem zJ (s : Int) : wM (ya s) = true := by
 unfold ya wM
 split <;> simp
theorem zK (s k : Int) : wM (yb s k) = true := by
 have := zL s
 unfold yb
 split
 ·split
  ·rfl
  ·assumption
 ·split
  ·rfl
  ·assumption
theorem zM (s : Int) (h : List (List AV)) : ae Tryz.prog 191 [.v (.int .u8 s)] h (.v (.bool (wM s))) h [] := by
 refine ac Pd mixed (by simp [As]) fun hh hargs => ?_
 by_cases h1 : s = 73
 ·simp [As, h1, hh, wM]
 by_cases h2 : s = 84
 ·simp [As, h1, h2, hh, wM]
 by_cases h3 : s = 69 <;> simp [As, h1, h2, h3, hh, wM]
theorem uI (s : Int) (h : List (List AV)) : ae Tryz.prog 49 [.v (.int .u8 s)] h (.v (.int .u8 (ya s))) h [] := by
 refine ac QG mixed (by simp [Mc]) fun hh hargs => ?_
 by_cases h2 : s = 84
 ·simp [Mc, h2, hh, ya]
 by_cases h3 : s = 69 <;> simp [Mc, h2, h3, hh, ya]
theorem rl (s : Int) (h : List (List AV)) : ae Tryz.prog 192 [.v (.int .u8 s)] h (.v (.int .u8 (if s = 73 then 84 else s))) h [] := by
 refine ac Pe mixed (by simp [Gn]) fun hh hargs => ?_
 by_cases h2 : s = 73 <;> simp [Gn, h2, hh]
theorem jo (s : Int) (v : Vb) (h : List (List AV)) : ae Tryz.prog 193 [.v (.int .u8 s), .agg (ea v)] h (.v (.string (ah (if v.kind = 4 \/ s = 69 then sH else pq)))) h [] := by
 refine ac Pf mixed (by simp [C3]) fun hh hargs => ?_
 by_cases h2 : v.kind = 4
 ·simp [C3, h2, hh, sH, af]
 by_cases h3 : s = 69 <;> simp [C3, h2, h3, hh, sH, pq, af]
theorem uJ (s : Int) (v : Vb) (h : List (List AV)) : ae Tryz.prog 133 [.v (.int .u8 s), .agg (ea v)] h (.tup [.v (.int .u8 (yb s v.kind)), .v (.string (ah (Ie s v.kind)))]) h [] := by
 refine ac OL mixed (by simp [F3]) fun hh hargs => ?_
 have h69 := Ic s
 unfold yb Ie
 simp [F3]
 refine aa (by simp) (zM s _) ?_
 cases hr : wM s with
 | true =>
  have e : Cd s = s := by unfold Cd; rw [if_pos hr]
  rw [e]
  by_cases k2 : v.kind = 2
  ·simp [k2]
   refine aa (by simp) (rl s _) ?_
   simp [hh, lu, af]
  have k2' : (v.kind == 2) = false := by simpa using k2
  simp [k2, k2']
  refine aa (by simp) (uH v _) ?_
  by_cases k3 : v.kind = 3
  ·simp [k3]
   refine aa (by simp) (jo s v _) ?_
   by_cases h3 : s = 69 <;> simp [k3, h3, hh, af]
  by_cases k4 : v.kind = 4
  ·simp [k4]
   refine aa (by simp) (jo s v _) ?_
   simp [k4, hh, af]
  have k3' : (v.kind == 3) = false := by simpa using k3
  have k4' : (v.kind == 4) = false := by simpa using k4
  simp [k3, k4, k3', k4', hh, af]
 | false =>
  have e : Cd s = 73 := by unfold Cd; rw [if_neg (by simp [hr])]
  have hne : ¬ s = 69 := fun e2 => by rw [e2] at hr; cases hr
  rw [e]
  by_cases k2 : v.kind = 2
  ·simp [k2]
   refine aa (by simp) (rl 73 _) ?_
   simp [hh, lu, af]
  have k2' : (v.kind == 2) = false := by simpa using k2
  simp [k2, k2']
  refine aa (by simp) (uH v _) ?_
  by_cases k3 : v.kind = 3
  ·simp [k3]
   refine aa (by simp) (jo 73 v _) ?_
   simp [k3, hne, hh, af]
  by_cases k4 : v.kind = 4
  ·simp [k4]
   refine aa (by simp) (jo 73 v _) ?_
   simp [k4, hh, af]
  have k3' : (v.kind == 3) = false := by simpa using k3
  have k4' : (v.kind == 4) = false := by simpa using k4
  simp [k3, k4, k3', k4', hh, af]
end Go.Proofs.YtknohkmpficjgaaGreatDoor.Ax
namespace Go.Proofs.YtknohkmpficjgaaGreatDoor.Ax
open Go.RowKit Go By
set_option maxRecDepth 10000
section
variable {L : List (Nat × List AV)} {h : List (List AV)} {i : Nat} {Z : Zs}
theorem SsG.does (g : SsG [] h i Z) {H : List (List AV)} (hH : ∀ q < h.length, q ∉ Z.vars i -> H[q]? = h[q]?) (hlH : h.length <= H.length) {L' : List (Nat × List AV)} {h' : List (List AV)} {Z' : Zs} (g' : SsG L' h' i Z') {wr w0 : List Nat} (hw : ∀ q ∈ wr, q < H.length -> q ∈ Z.S.vars)
  (hs : ∀ q < H.length, q ∉ Z.S.vars -> h'[q]? = H[q]?) (hv : ∀ q ∈ Z'.S.vars, q ∈ Z.S.vars \/ H.length <= q) (hl : H.length <= h'.length) (hown : Z'.own i = Z.own i) (hp : Z'.p = Z.p) (hw0 : ∀ q ∈ w0, q < h.length -> q ∈ Z.own i)
  {f : FuncId} {args : List AV} {v : AV} {r : List (List AV) -> AV -> Prop} (k : ae Tryz.prog f args h v h' (wr ++ w0)) (hr : r h' v) : DoesS f args h i Z r Z' := by
 refine ⟨h', wr ++ w0, v, k, hr, g'.none, fun q hq hlt => ?_, by omega, fun q hq hn => ?_, fun q hq => ?_⟩
 ·rcases Rp.1 hq with h1 | h1
  ·exact Zs.vars_mem.2 (.inr (.inr (hw q h1 (by omega))))
  ·exact Zs.vars_mem.2 (.inr (.inl (hw0 q h1 hlt)))
 ·rw [hs q (by omega) fun hh => hn (Zs.vars_mem.2 (.inr (.inr hh))), hH q hq hn]
 ·rcases Zs.vars_mem.1 hq with h1 | h1 | h1
  ·exact .inl (Zs.vars_mem.2 (.inl (h1.trans hp)))
  ·exact .inl (Zs.vars_mem.2 (.inr (.inl (hown ▸ h1))))
  ·rcases hv q h1 with h2 | h2
   ·exact .inl (Zs.vars_mem.2 (.inr (.inr h2)))
   ·exact .inr (by omega)
theorem SsG.idle (g : SsG [] h i Z) {f : FuncId} {args : List AV} {v : AV} {r : List (List AV) -> AV -> Prop} (k : ae Tryz.prog f args h v h []) (hr : r h v) : DoesS f args h i Z r Z :=
 ⟨h, [], v, k, hr, g, (fun q hq => by cases hq), Rf _, (fun _ _ _ => rfl), (fun q hq => .inl hq)⟩
theorem SsG.at_ (g : SsG L h i Z) (xs : List (List AV)) : (h ++ xs)[i]? = some Z.top := by rw [Q8 g.i_lt]; exact g.top
def eR (Z : Zs) (f : Fm) : List Bk × Er :=
 if f.what = 83 then (match dk Z f.name with
  | (_, some e) => ([], some e)
  | (s, none) => ([⟨116, 0, [], [], [], 0, 0, s.oids, [], [], []⟩, pU s], none))
 else if f.what = 80 then (match gC Z f.portal with
  | (_, some e) => ([], some e)
  | (p, none) => ([pU ⟨p.text, p.oids⟩], none))
 else ([], none)
theorem uv (g : SsG [] h i Z) (ho : PsOk Z.S) (hz : Short Z) (hp : uX Z) (f : Fm) (hn : f.name.length <= 100000) (hpn : f.portal.length <= 100000) : ae Tryz.prog 45 [.box i 0, .agg (aG f)] h (au (eR Z f).1 (eR Z f).2) h [] := by
 have g1 := g.app (c := aG f) (by simp) (by simp [aF])
 have hst := xW g1 hz f.name hn
 have hpt := xQ g1 ho hp f.portal hpn
 have hss : (dk Z f.name).1.text.length <= 100000 /\ (dk Z f.name).1.oids.length <= 1000 := by
  unfold dk
  cases hg : Z.get f.name with
  | none => simp
  | some s => exact hz.get hg
 have hsp : (gC Z f.portal).1.text.length <= 100000 := by
  unfold gC
  cases hg : Z.S.get f.portal with
  | none => simp [L2]
  | some x => obtain ⟨y, hy, _, rfl⟩ := cx hg; exact hp y hy
 refine ac QF mixed (by simp [Kw]) fun hh hargs => ?_
 unfold eR
 by_cases w83 : f.what = 83
 ·rw [if_pos w83]
  obtain ⟨⟨s, o⟩, hso⟩ : ∃ x, x = dk Z f.name := ⟨_, rfl⟩
  rw [<- hso] at hst hss ⊢
  dsimp only at hss
  simp only [eC] at hst
  simp [Kw, w83]
  refine aa (by simp) hst ?_
  cases o with
  | some e =>
   obtain ⟨c, t⟩ := e
   simp [au, hh, af]
  | none =>
   have hd := fun H => sA s hss.1 H
   simp only [eC] at hd
   simp
   refine aa (by simp) (iO s.oids (by omega) _) ?_
   simp
   refine aa (by simp) (hd _) ?_
   simp [au, hh, af, aB]
   done
 ·rw [if_neg w83]
  have w83' : (f.what == 83) = false := by simpa using w83
  by_cases w80 : f.what = 80
  ·rw [if_pos w80]
   obtain ⟨⟨p, o⟩, hso⟩ : ∃ x, x = gC Z f.portal := ⟨_, rfl⟩
   rw [<- hso] at hpt hsp ⊢
   simp only [cZ, aT] at hpt
   simp [Kw, w83, w83', w80]
   refine aa (by simp) hpt ?_
   cases o with
   | some e =>
    obtain ⟨c, t⟩ := e
    simp [au, hh, af]
   | none =>
    have hd := fun H => sA ⟨p.text, p.oids⟩ hsp H
    simp only [eC] at hd
    simp
    refine aa (by simp) (hd _) ?_
    simp [au, hh, af]
    done
  ·rw [if_neg w80]
   have w80' : (f.what == 80) = false := by simpa using w80
   simp [Kw, w83, w83', w80, w80', hh, af, au]
def jM : List UInt8 := [48, 56, 80, 48, 49]
def gP : List UInt8 := [52, 50, 80, 48, 51]
def dv (s : Sx) (f : Fm) : Pt := ⟨s.text, s.oids, f.params, [], false, false⟩
def mh (Z : Zs) (f : Fm) : Er := match dk Z f.name with
 | (_, some e) => some e
 | (s, none) => if f.params.length ≠ s.oids.length then some (jM, iz f.params.length f.name s.oids.length) else if f.portal ≠ [] /\ (Z.S.get f.portal).isSome = true then some (gP, mu f.portal) else none
theorem pk {Z : Zs} {k : List UInt8} {s : Sx} (h : dk Z k = (s, none)) : Z.get k = some s := by
 unfold dk at h
 cases hg : Z.get k with
 | none => rw [hg] at h; cases h
 | some y => rw [hg] at h; injection h with h1 h2; rw [h1]
theorem xL (g : SsG [] h i Z) (ho : PsOk Z.S) (hz : Short Z) (f : Fm) (hn : f.name.length <= 100000) (hpn : f.portal.length <= 100000) (hps : f.params.length <= 1000 /\ ∀ c ∈ f.params, c.2.length <= 100000) :
  ∃ Z', DoesS 44 [.box i 0, .agg (aG f)] h i Z (fun _ v => v = au [pB 50] (mh Z f)) Z' /\ (mh Z f ≠ none -> Z' = Z) /\ (mh Z f = none -> ∃ x s, Z.get f.name = some s /\ x.p = dv s f /\ Z' = { Z with S := Z.S.put f.portal x }) := by
 have g1 := g.app (c := aG f) (by simp) (by simp [aF])
 have hst := xW g1 hz f.name hn
 have ni := g.ni
 have oi := g.oi
 obtain ⟨⟨s, o⟩, hso⟩ : ∃ x, x = dk Z f.name := ⟨_, rfl⟩
 rw [<- hso] at hst
 have hsl : s.text.length <= 100000 /\ s.oids.length <= 1000 := by
  have : s = (dk Z f.name).1 := by rw [<- hso]
  rw [this]
  unfold dk
  cases hg : Z.get f.name with
  | none => simp
  | some s => exact hz.get hg
 unfold mh
 rw [<- hso]
 have g2 := g1.app (c := eC s) (by simp [eC]) (by simp [eC])
 have e2 : ∀ xs, (h ++ xs)[i]? = some Z.top := fun xs => g.at_ xs
 simp only [eC] at hst g2
 cases o with
 | some e =>
  obtain ⟨c, t⟩ := e
  refine ⟨Z, g.idle (v := au [pB 50] (some (c, t))) ?_ rfl, fun _ => rfl, fun hh => by cases hh⟩
  refine ac Mz mixed (by simp [C7]) fun hh hargs => ?_
  simp [C7]
  refine aa (by simp) hst ?_
  simp [au, hh, af]
 | none =>
  by_cases hne : f.params.length = s.oids.length
  ·have hne' : ((f.params.length : Int) != (s.oids.length : Int)) = false := by simp [hne]
   by_cases hcur : f.portal ≠ [] /\ (Z.S.get f.portal).isSome = true
   ·have hres : (if f.params.length ≠ s.oids.length then some (jM, iz f.params.length f.name s.oids.length) else if f.portal ≠ [] /\ (Z.S.get f.portal).isSome = true then some (gP, mu f.portal) else none : Er) = some (gP, mu f.portal) := by rw [if_neg (by simp [hne]), if_pos hcur]
    dsimp only
    rw [hres]
    obtain ⟨x, hx⟩ := Option.isSome_iff_exists.1 hcur.2
    refine ⟨Z, g.idle (v := au [pB 50] (some (gP, mu f.portal))) ?_ rfl, fun _ => rfl, fun hh => by cases hh⟩
    have kp := wb g2.por hcur.1 hx (dv s f)
    simp only [cZ, aT, dv, Rl, Rq, Rw, Ry] at kp
    refine ac Mz mixed (by simp [C7]) fun hh hargs => ?_
    simp [C7]
    refine aa (by simp) hst ?_
    simp [hne', hne, e2, Zs.top_mk]
    refine ao kp (by simp) (by simp) ?_
    simp
    refine aa (by simp) (Ef f.portal hpn _) ?_
    simp [au, hh, af, gP]
   ·have hres : (if f.params.length ≠ s.oids.length then some (jM, iz f.params.length f.name s.oids.length) else if f.portal ≠ [] /\ (Z.S.get f.portal).isSome = true then some (gP, mu f.portal) else none : Er) = none := by rw [if_neg (by simp [hne]), if_neg hcur]
    dsimp only
    rw [hres]
    have hc : f.portal = [] \/ Z.S.get f.portal = none := by
     by_cases hp0 : f.portal = []
     ·exact .inl hp0
     ·right
      cases hg : Z.S.get f.portal with
      | none => rfl
      | some x => exact absurd ⟨hp0, by rw [hg]; rfl⟩ hcur
    have hfit : (dv s f).fit := ⟨by show s.text.length <= _; omega, by show s.oids.length <= _; omega, ⟨by show f.params.length <= _; omega, fun c hcm => by have := hps.2 c hcm; omega⟩, ⟨by simp [dv], fun r hr => by simp [dv] at hr⟩⟩
    obtain ⟨x, hx, dp⟩ := Hi g2.por ho (k := f.portal) (by omega) hc hfit
    obtain ⟨h', wr, kp, g', ht, hl, hw, hs, hv⟩ := g2.byP dp
    have t1 := ht (h.length, aG f) (by simp)
    have t2 := ht ((h ++ [aG f]).length, [AV.v (.string (ah s.text)), .sl 1 (al aN s.oids) none .no]) (by simp)
    obtain ⟨o1, _⟩ := g2.off hw
    simp only [Ru, List.length_cons, List.length_nil, Nat.zero_add] at t1 t2
    simp only [cZ, aT, dv, Rl, Rq, Rw, Ry] at kp
    have hgh := g'.hh
    have hl' : h.length + 1 + 1 <= h'.length := by simpa using hl
    refine ⟨_, g.does (H := h ++ [aG f] ++ [[AV.v (.string (ah s.text)), .sl 1 (al aN s.oids) none .no]]) (fun q hq _ => by rw [Rl, Q8 hq]) (by simp) g' hw hs hv hl rfl rfl (w0 := []) (fun q hq => by cases hq) (v := au [pB 50] none) ?_ rfl, fun hh => absurd rfl hh, fun _ => ⟨x, s, pk hso.symm, hx, rfl⟩⟩
    refine ac Mz mixed (by simp [C7]) fun hh hargs => ?_
    simp [C7]
    refine aa (by simp) hst ?_
    simp [hne', hne, e2, Zs.top_mk]
    refine ao kp (by simp) (by simp) ?_
    simp [au, hgh, af, t1, t2, o1, pB, aB]
    refine ⟨by omega, fun q hq _ => hq.resolve_right (by omega)⟩
  ·have hne2 : ¬ (f.params.length : Int) = (s.oids.length : Int) := by omega
   have hres : (if f.params.length ≠ s.oids.length then some (jM, iz f.params.length f.name s.oids.length) else if f.portal ≠ [] /\ (Z.S.get f.portal).isSome = true then some (gP, mu f.portal) else none : Er) = some (jM, iz f.params.length f.name s.oids.length) := if_pos hne
   dsimp only
   rw [hres]
   refine ⟨Z, g.idle (v := au [pB 50] (some (jM, iz f.params.length f.name s.oids.length))) ?_ rfl, fun _ => rfl, fun hh => by cases hh⟩
   refine ac Mz mixed (by simp [C7]) fun hh hargs => ?_
   simp [C7]
   refine aa (by simp) hst ?_
   simp [hne2]
   refine aa (by simp) (B6 _ _ f.name (by omega) (by omega) hn _) ?_
   simp [au, hh, af, jM]
end
end Go.Proofs.YtknohkmpficjgaaGreatDoor.Ax
namespace Go.Proofs.YtknohkmpficjgaaGreatDoor.Ax
open Go.RowKit Go By YtknohkmpficjgaaGreatDoor.Nm Dg
set_option maxRecDepth 10000
structure BkG (c : Bool) (m : Bk) : Prop where
 fit : ix m
 kind : m.kind ≠ 90
 ok : c = true -> m.kind = 69 \/ cD m = 0
theorem lC (c : Bool) {k : Int} (h : k = 49 \/ k = 50 \/ k = 51 \/ k = 73 \/ k = 110 \/ k = 115) : BkG c (pB k) := by
 refine ⟨by simp [ix, pB], ?_, fun _ => .inr ?_⟩
 ·show k ≠ 90
  omega
 ·rcases h with rfl | rfl | rfl | rfl | rfl | rfl <;> decide
theorem Ak (c : Bool) (a b : List UInt8) : BkG c (xl a b) := ⟨by simp [ix, xl], by simp [xl], fun _ => .inl rfl⟩
theorem iC {m : Bk} (hk : bP m.kind = true) (hr : lT m = true) (hb : eD m = true) (hc : jd m = true) (hn : jv m = true) (hs : ew m = m) : cD m = 0 := by
 unfold cD
 rw [hk, hr, hb, hc, hn, hs, wn]; rfl
def Ca (t : List UInt8) : Bk := ⟨67, 0, t, [], [], 0, 0, [], [], [], []⟩
theorem xi (c : Bool) {t : List UInt8} (h : aA t = true) : BkG c (Ca t) := by
 refine ⟨by simp [ix, Ca], by simp [Ca], fun _ => .inr (iC (by decide : bP 67 = true) rfl rfl ?_ (by decide : jv ⟨67, 0, [], [], [], 0, 0, [], [], [], []⟩ = true) rfl)⟩
 show (aA t && (aA [] && aA [])) = true
 rw [h]; rfl
theorem lr (k : Nat) : aA (Dg.textL (k : Int)) = true := by
 unfold Dg.textL aA
 rw [if_neg (by omega), Int.toNat_natCast]
 have h := Dg.digsN_all k
 simp only [Bool.not_eq_true', List.contains_eq_mem, decide_eq_false_iff_not]
 intro h0
 have := Rm.1 h 0 h0
 revert this; decide
theorem CO (c : Bool) (n : Nat) (more : Bool) : BkG c (AI n more) := by
 unfold AI
 split
 ·exact lC c (by simp)
 ·refine xi c ?_
  have := lr n
  unfold aA at this ⊢
  simpa using this
theorem Ay (i : Nat) : mQ (yA (i : Int)) = true := by
 have h1 : aA (99 :: Dg.textL (i : Int)) = true := by
  have := lr i
  unfold aA at this ⊢
  simpa using this
 unfold mQ yA
 simp only [h1, Bool.true_and]
 decide
theorem rF (c : Bool) (s : Sx) : BkG c (pU s) := by
 unfold pU
 split
 ·obtain ⟨h0, h1⟩ := fF (th (gG s.text) s.oids.length)
  obtain ⟨k, hk⟩ : ∃ k, k = (dt (th (gG s.text) s.oids.length)).toNat := ⟨_, rfl⟩
  rw [<- hk]
  have hl := ql k
  have hall : (er k).all mQ = true := Rm.2 fun c hc => by
   unfold er at hc
   obtain ⟨j, _, rfl⟩ := Rc.1 hc
   exact Ay (j + 1)
  refine ⟨⟨by simp, by show (er k).length <= _; omega, by simp, by simp, by simp⟩, by simp, fun _ => .inr (iC (by decide : bP 84 = true) rfl ?_ rfl (by decide : jv ⟨84, 0, [], [], [], 0, 0, [], [], [], []⟩ = true) rfl)⟩
  have hfew : rX ⟨84, 0, [], [], [], 0, 0, [], er k, [], []⟩ = true := by
   unfold rX
   simp only [decide_eq_true_eq]
   refine ⟨by simp, ?_, by simp, by simp⟩
   omega
  unfold eD
  rw [hfew]
  show (true && (([] : List Int).all (dl 4) && (([] : List Cl).all bE && ((er k).all mQ && ([] : List Fi).all iK)))) = true
  rw [hall]; rfl
 ·exact lC c (by simp)
def Fk (l : List Int) : Bk := ⟨116, 0, [], [], [], 0, 0, l, [], [], []⟩
theorem yq (c : Bool) {l : List Int} (hl : l.length <= 1000) (h : c = true -> l.all (dl 4) = true) : BkG c (Fk l) := by
 refine ⟨⟨by show l.length <= _; omega, by simp [Fk], by simp [Fk], by simp [Fk], by simp [Fk]⟩, by simp [Fk], fun hc => .inr (iC (by decide : bP 116 = true) rfl ?_ rfl (by decide : jv ⟨116, 0, [], [], [], 0, 0, [], [], [], []⟩ = true) rfl)⟩
 have hfew : rX (Fk l) = true := by
  unfold rX Fk
  simp only [decide_eq_true_eq]
  refine ⟨?_, by simp, by simp, by simp⟩
  omega
 unfold eD
 rw [hfew]
 show (true && (l.all (dl 4) && (([] : List Cl).all bE && (([] : List Co).all mQ && ([] : List Fi).all iK)))) = true
 rw [h hc]; rfl
def lz (c : Bool) (r : List Cl) : Prop := r.length <= 1000 /\ ∀ x ∈ r, x.2.length <= 1000 /\ (c = true -> bE x = true)
theorem CP (c : Bool) {r : List Cl} (h : lz c r) : BkG c (mX r) := by
 obtain ⟨h1, h2⟩ := h
 refine ⟨⟨by simp [mX], by simp [mX], by show r.length <= _; omega, by simp [mX], fun x hx => by have := (h2 x hx).1; omega⟩, by simp [mX], fun hc => .inr (iC (by decide : bP 68 = true) rfl ?_ rfl (by decide : jv ⟨68, 0, [], [], [], 0, 0, [], [], [], []⟩ = true) rfl)⟩
 have hfew : rX (mX r) = true := by
  unfold rX mX
  simp only [decide_eq_true_eq]
  refine ⟨by simp, by simp, ?_, by simp⟩
  omega
 have hall : r.all bE = true := Rm.2 fun x hx => (h2 x hx).2 hc
 unfold eD
 rw [hfew]
 show (true && (([] : List Int).all (dl 4) && (r.all bE && (([] : List Co).all mQ && ([] : List Fi).all iK)))) = true
 rw [hall]; rfl
def RowsF (c : Bool) (l : List (List Cl)) : Prop := l.length <= 1000 /\ ∀ r ∈ l, lz c r
theorem nr (c : Bool) {l : List (List Cl)} (h : RowsF c l) (more : Bool) : ∀ m ∈ cC l more, BkG c m := fun m hm => by
 unfold cC at hm
 rcases Rp.1 hm with hm | hm
 ·obtain ⟨r, hr, rfl⟩ := Rc.1 hm
  exact CP c (h.2 r hr)
 ·rw [Q7.1 hm]; exact CO c _ _
theorem RowsF.fit {c : Bool} {l : List (List Cl)} (h : RowsF c l) : RowsFit l := ⟨by have := h.1; omega, fun r hr => ⟨by have := (h.2 r hr).1; omega, fun x hx => by have := ((h.2 r hr).2 x hx).1; omega⟩⟩
theorem RowsF.told {c : Bool} {l : List (List Cl)} (h : RowsF c l) : l.length <= 1000000 /\ ∀ r ∈ l, r.length <= 1000000 /\ ∀ x ∈ r, x.2.length <= 140737488351232 := ⟨by have := h.1; omega, fun r hr => ⟨by have := (h.2 r hr).1; omega, fun x hx => by have := ((h.2 r hr).2 x hx).1; omega⟩⟩
theorem RowsF.sub {c : Bool} {l m : List (List Cl)} (h : RowsF c l) (hs : m.Sublist l) : RowsF c m := ⟨Rn hs.length_le h.1, fun r hr => h.2 r (hs.subset hr)⟩
theorem nu (n : Nat) (hn : n <= 1000000) : (Dg.textL (n : Int)).length <= 1000 /\ bE (false, Dg.textL (n : Int)) = true := by
 have := dy (n : Int) (by omega) (by omega)
 refine ⟨by omega, ?_⟩
 unfold bE
 simp; omega
theorem xJ (c : Bool) (v : Vb) (n : Nat) (hn : n <= 100000) {ps : List Cl} (hp : lz c ps) : RowsF c (mF v n ps) := by
 unfold mF
 split
 ·obtain ⟨h0, h1⟩ := fF v.n
  have hl := qW (dt v.n).toNat
  refine ⟨by omega, fun r hr => ?_⟩
  unfold iY at hr
  obtain ⟨j, hj, rfl⟩ := Rc.1 hr
  have hj2 := List.mem_range.1 hj
  obtain ⟨q1, q2⟩ := nu (j + 1) (by omega)
  rw [show ((j + 1 : Nat) : Int) = (j : Int) + 1 by omega] at q1 q2
  exact ⟨by simp [BF], fun x hx => by rw [Q7.1 hx]; exact ⟨q1, fun _ => q2⟩⟩
 ·split
  ·exact ⟨by simp, fun r hr => by rw [Q7.1 hr]; exact hp⟩
  ·split
   ·obtain ⟨q1, q2⟩ := nu (n + 1) (by omega)
    rw [show ((n + 1 : Nat) : Int) = (n : Int) + 1 by omega] at q1 q2
    exact ⟨by simp, fun r hr => by rw [Q7.1 hr]; exact ⟨by simp, fun x hx => by rw [Q7.1 hx]; exact ⟨q1, fun _ => q2⟩⟩⟩
   ·exact ⟨by simp, fun r hr => by cases hr⟩
theorem tW (v : Vb) (n : Nat) : ff v n <= n + 1 := by unfold ff; split <;> omega
structure FmS (c : Bool) (f : Fm) : Prop where
 name : f.name.length <= 1000
 portal : f.portal.length <= 1000
 text : f.text.length <= 1000
 oids : f.oids.length <= 1000 /\ (c = true -> f.oids.all (dl 4) = true)
 params : lz c f.params
structure PtF (c : Bool) (p : Pt) : Prop where
 text : p.text.length <= 1000
 oids : p.oids.length <= 1000
 ps : lz c p.ps
 rows : RowsF c p.rows
structure ZOk (c : Bool) (n : Nat) (Z : Zs) : Prop where
 en : Z.T.n <= n
 ko : KE.Ok Z.clock Z.st
 len : Z.st.length <= n
 sx : ∀ x ∈ Z.st, x.val.text.length <= 1000 /\ x.val.oids.length <= 1000 /\ (c = true -> x.val.oids.all (dl 4) = true)
 po : PsOk Z.S
 pf : ∀ x ∈ Z.S.e, PtF c x.val.p
 st : wM Z.status = true
section
variable {c : Bool} {n : Nat} {Z : Zs}
theorem ZOk.short (z : ZOk c n Z) : Short Z := fun x hx => by have := z.sx x hx; exact ⟨by omega, by omega⟩
theorem ZOk.shortP (z : ZOk c n Z) : uX Z := fun x hx => by have := (z.pf x hx).text; omega
theorem ZOk.mono (z : ZOk c n Z) {m : Nat} (h : n <= m) : ZOk c m Z := ⟨Rn z.en h, z.ko, Rn z.len h, z.sx, z.po, z.pf, z.st⟩
theorem ZOk.get (z : ZOk c n Z) {k : List UInt8} {s : Sx} (h : Z.get k = some s) : s.text.length <= 1000 /\ s.oids.length <= 1000 /\ (c = true -> s.oids.all (dl 4) = true) := by
 obtain ⟨x, hx, _, rfl⟩ := cx h
 exact z.sx x hx
theorem ZOk.getP (z : ZOk c n Z) {k : List UInt8} {x : PV} (h : Z.S.get k = some x) : PtF c x.p := by
 obtain ⟨y, hy, _, rfl⟩ := cx h
 exact z.pf y hy
theorem ZOk.del (z : ZOk c n Z) (k : List UInt8) : ZOk c n (Z.del k) := ⟨z.en, KE.del_ok z.ko k, Rn (KE.del_len _ _) z.len, fun x hx => z.sx x ((KE.mem_del z.ko).1 hx).1, z.po, z.pf, z.st⟩
theorem ZOk.put (z : ZOk c n Z) (k : List UInt8) {s : Sx} (h : s.text.length <= 1000 /\ s.oids.length <= 1000 /\ (c = true -> s.oids.all (dl 4) = true)) : ZOk c (n + 1) (Z.put k s) := by
 refine ⟨Rv z.en, KE.put_ok z.ko k s, ?_, fun x hx => ?_, z.po, z.pf, z.st⟩
 ·show (KE.put k Z.clock s Z.st).length <= _
  rw [KE.put_len]
  have := z.len
  split <;> omega
 ·rcases cq z.ko hx with ⟨_, e⟩ | ⟨_, h2⟩
  ·rw [e]; exact h
  ·exact z.sx x h2
theorem ZOk.setS (z : ZOk c n Z) {S : Ps} (ho : PsOk S) (hf : ∀ x ∈ S.e, PtF c x.val.p) : ZOk c n { Z with S := S } := ⟨z.en, z.ko, z.len, z.sx, ho, hf, z.st⟩
theorem ZOk.clear (z : ZOk c n Z) : ZOk c n { Z with S := Z.S.clear } := z.setS PsOk.clear (fun x hx => by cases hx)
theorem ZOk.delP (z : ZOk c n Z) (k : List UInt8) : ZOk c n { Z with S := Z.S.del k } := z.setS (z.po.del k) (fun x hx => z.pf x ((KE.mem_del z.po.ok).1 hx).1)
theorem PtF.fit {p : Pt} (h : PtF c p) : p.fit := ⟨by have := h.text; omega, by have := h.oids; omega, ⟨by have := h.ps.1; omega, fun x hx => by have := (h.ps.2 x hx).1; omega⟩, h.rows.fit⟩
theorem ZOk.putP (z : ZOk c n Z) (k : List UInt8) {x : PV} (hx : PtF c x.p) : ZOk c n { Z with S := Z.S.put k x } := z.setS (z.po.put k hx.fit) (fun y hy => by
 rcases cq z.po.ok hy with ⟨_, e⟩ | ⟨_, h2⟩
 ·rw [e]; exact hx
 ·exact z.pf y h2)
theorem ZOk.setT (z : ZOk c n Z) {s : Int} (h : wM s = true) (sk ov : Bool) : ZOk c n { Z with status := s, skips := sk, over := ov } := ⟨z.en, z.ko, z.len, z.sx, z.po, z.pf, h⟩
theorem ZOk.setE (z : ZOk c n Z) {m : Nat} (h : m <= n + 1) : ZOk c (n + 1) { Z with T := { Z.T with n := m } } := ⟨h, z.ko, Rv z.len, z.sx, z.po, z.pf, z.st⟩
theorem ZOk.parse1 (z : ZOk c n Z) (f : Fm) : ZOk c n (parse1 Z f) := by
 unfold Ax.parse1
 split
 ·exact z.del _
 ·exact z
theorem ZOk.parse (z : ZOk c n Z) {f : Fm} (hf : FmS c f) : ZOk c (n + 1) (ki Z f) := by
 unfold ki
 split
 ·exact (z.parse1 f).mono (Ra _)
 ·split
  ·exact (z.parse1 f).mono (Ra _)
  ·exact (z.parse1 f).put _ ⟨hf.text, hf.oids.1, hf.oids.2⟩
theorem ZOk.close (z : ZOk c n Z) (f : Fm) : ZOk c n (nA Z f) := by
 unfold nA
 split
 ·exact z.del _
 ·split
  ·exact z.delP _
  ·exact z
theorem Aj (z : ZOk c n Z) (f : Fm) : ∀ m ∈ (eR Z f).1, BkG c m := by
 unfold eR
 split
 ·obtain ⟨⟨s, o⟩, hso⟩ : ∃ x, x = dk Z f.name := ⟨_, rfl⟩
  rw [<- hso]
  cases o with
  | some e => intro m hm; cases hm
  | none =>
   have hs := z.get (pk hso.symm)
   intro m hm
   simp at hm
   rcases hm with rfl | rfl
   ·exact yq c hs.2.1 hs.2.2
   ·exact rF c s
 ·split
  ·obtain ⟨⟨p, o⟩, hso⟩ : ∃ x, x = gC Z f.portal := ⟨_, rfl⟩
   rw [<- hso]
   cases o with
   | some e => intro m hm; cases hm
   | none =>
    intro m hm
    simp at hm
    rw [hm]; exact rF c _
  ·intro m hm; cases hm
theorem yp (c : Bool) (f : Fm) : ∀ m ∈ jP f, BkG c m := by
 unfold jP
 split
 ·intro m hm; rw [Q7.1 hm]; exact lC c (by simp)
 ·intro m hm; cases hm
end
end Go.Proofs.YtknohkmpficjgaaGreatDoor.Ax
namespace Go.Proofs.YtknohkmpficjgaaGreatDoor.Ax
open Go.RowKit Go By
set_option maxRecDepth 10000
section
variable {L : List (Nat × List AV)} {h : List (List AV)} {i : Nat} {Z : Zs}
def Mu : List UInt8 := [102, 97, 105, 108, 101, 100, 32, 111, 110, 32, 112, 117, 114, 112, 111, 115, 101]
def fY (v : Vb) : Er := if v.kind = 8 then some (v.code, Mu) else none
def js (Z : Zs) (v : Vb) : Bk := if v.kind = 1 then pB 73 else Ca (Ie Z.status v.kind)
def gL (Z : Zs) (v : Vb) : Zs := if v.kind = 1 \/ v.kind = 8 then Z else { Z with status := yb Z.status v.kind, S := if jy v.kind = true then Z.S.clear else Z.S }
def uY (m : Bk) (o : Er) : AV := .tup [if o.isSome = true then .sl 0 [] (some true) .exact else .sl 11 [aU m] (some false) .exact, pK o]
theorem qh (m : Bk) : uY m none = .tup [.sl 11 [aU m] (some false) .exact, .v .nilIface] := rfl
theorem yl (m : Bk) (c t : List UInt8) : uY m (some (c, t)) = .tup [.sl 0 [] (some true) .exact, pK (some (c, t))] := rfl
theorem EU (Z : Zs) (i : Nat) : ∀ q ∈ [i], q ∈ Z.own i := by simp [Zs.own]
theorem SsG.turned (g : SsG [] h i Z) (st : Int) (sk ov : Bool) {f : FuncId} {args : List AV} {v : AV} {r : List (List AV) -> AV -> Prop} (k : ae Tryz.prog f args h v (h.set i { Z with status := st, skips := sk, over := ov }.top) [i]) (hr : ∀ h', r h' v) : DoesS f args h i Z r { Z with status := st, skips := sk, over := ov } :=
 ⟨_, [i], v, k, hr _, g.setTop st sk ov, fun q hq _ => Zs.vars_mem.2 (.inr (.inl (EU Z i q hq))), by simp, fun q hq hn => Q9 fun e => hn (by rw [<- e]; exact Zs.vars_mem.2 (.inr (.inl (by simp [Zs.own])))), fun q hq => .inl hq⟩
theorem wm (g : SsG [] h i Z) (v : Vb) : DoesS 78 [.box i 0, .agg (ea v)] h i Z (fun _ r => r = uY (js Z v) (fY v)) (gL Z v) := by
 have e1 : ∀ xs, (h ++ xs)[i]? = some Z.top := fun xs => g.at_ xs
 have e3 : ∀ xs cs, (h ++ xs).set i cs = h.set i cs ++ xs := fun xs cs => Re _ _ g.i_lt
 have f1 : ∀ xs cs, (h.set i cs ++ xs)[i]? = some cs := fun xs cs => by rw [Q8 (by simpa using g.i_lt)]; exact Ri g.i_lt
 by_cases k1 : v.kind = 1
 ·have k8 : ¬ v.kind = 8 := by omega
  have ez : gL Z v = Z := if_pos (.inl k1)
  have eb : js Z v = pB 73 := if_pos k1
  have eo : fY v = none := if_neg k8
  rw [ez, eb, eo, qh]
  refine g.idle (v := .tup [.sl 11 [aU (pB 73)] (some false) .exact, .v .nilIface]) ?_ rfl
  refine ac MA mixed (by simp [C8]) fun hh hargs => ?_
  simp [C8, k1, hh, af, pB, aB]
 have k1' : (v.kind == 1) = false := by simpa using k1
 by_cases k8 : v.kind = 8
 ·have ez : gL Z v = Z := if_pos (.inr k8)
  have eo : fY v = some (v.code, Mu) := if_pos k8
  rw [ez, eo, yl]
  refine g.idle (v := .tup [.sl 0 [] (some true) .exact, pK (some (v.code, Mu))]) ?_ rfl
  refine ac MA mixed (by simp [C8]) fun hh hargs => ?_
  simp [C8, k1, k1', k8, hh, af, Mu]
 have k8' : (v.kind == 8) = false := by simpa using k8
 have ez : gL Z v = { Z with status := yb Z.status v.kind, S := if jy v.kind = true then Z.S.clear else Z.S } := if_neg (by rintro (e | e); exact k1 e; exact k8 e)
 have eb : js Z v = Ca (Ie Z.status v.kind) := if_neg k1
 have eo : fY v = none := if_neg k8
 rw [ez, eb, eo, qh]
 cases hx : jy v.kind with
 | false =>
  rw [if_neg (by simp)]
  refine g.turned (yb Z.status v.kind) Z.skips Z.over (v := .tup [.sl 11 [aU (Ca (Ie Z.status v.kind))] (some false) .exact, .v .nilIface]) ?_ (fun _ => rfl)
  have hl := ay (i := i) g.hh (Zs.top_lt { Z with status := yb Z.status v.kind } g.e_lt g.a_lt g.p_lt)
  simp only [Zs.top_mk] at hl ⊢
  refine ac MA mixed (by simp [C8]) fun hh hargs => ?_
  simp [C8, k1, k1', k8, k8', e1, Zs.top_mk]
  refine aa (by simp) (uJ Z.status v _) ?_
  simp [e1, Zs.top_mk, e3]
  refine aa (by simp) (sB v _) ?_
  simp [hx, hl, af, aY, Ca, aB]
 | true =>
  rw [if_pos rfl]
  have g1 := (g.setTop (yb Z.status v.kind) Z.skips Z.over).app (c := ea v) (by simp) (by simp [fq])
  obtain ⟨h', wr, k, g', ht, hl, hw, hs, hv⟩ := g1.byP (og g1.por)
  obtain ⟨o1, _⟩ := g1.off hw
  have t1 := ht ((h.set i { Z with status := yb Z.status v.kind, skips := Z.skips, over := Z.over }.top).length, ea v) (by simp)
  have hl' : h.length + 1 <= h'.length := by simpa using hl
  have hgh := g'.hh
  simp only [Rg] at t1
  simp only [Zs.top_mk] at k
  refine g.does (H := h.set i { Z with status := yb Z.status v.kind, skips := Z.skips, over := Z.over }.top ++ [ea v]) (fun q hq hn => ?_) (by simp) g' hw hs hv hl rfl rfl (w0 := [i]) (fun q hq _ => EU Z i q hq) (v := .tup [.sl 11 [aU (Ca (Ie Z.status v.kind))] (some false) .exact, .v .nilIface]) ?_ rfl
  ·rw [Q8 (by simpa using hq), Q9 fun e => hn (by rw [<- e]; exact Zs.vars_mem.2 (.inr (.inl (by simp [Zs.own]))))]
  ·refine ac MA mixed (by simp [C8]) fun hh hargs => ?_
   simp [C8, k1, k1', k8, k8', e1, Zs.top_mk]
   refine aa (by simp) (uJ Z.status v _) ?_
   simp [e1, Zs.top_mk, e3]
   refine aa (by simp) (sB v _) ?_
   simp [hx, f1]
   refine aa (by simp) k ?_
   simp [hgh, af, Ca, aB, o1, t1]
   refine ⟨by omega, ?_⟩
   intro q hq _
   first | exact hq | exact hq.symm | (rcases hq with hq | hq; exact .inr hq; exact .inl hq)
def nL (Z : Zs) : Zs := { Z with status := ya Z.status, S := if ya Z.status = 69 then Z.S.clear else Z.S }
theorem pc (g : SsG L h i Z) : ae Tryz.prog 26 [.box i 0, .v .nilIface] h (.sl 0 [] (some true) .exact) h [] := by
 refine ac Pv mixed (by simp [Gx]) fun hh hargs => ?_
 simp [Gx]
 refine aa (by simp) (CN _ rfl) ?_
 simp [hh, af]
theorem ur (g : SsG [] h i Z) (c t : List UInt8) : DoesS 26 [.box i 0, pK (some (c, t))] h i Z (fun _ r => r = .sl 11 [aU (xl c t)] (some false) .exact) (nL Z) := by
 have e1 : ∀ xs, (h ++ xs)[i]? = some Z.top := fun xs => g.at_ xs
 have e3 : ∀ xs cs, (h ++ xs).set i cs = h.set i cs ++ xs := fun xs cs => Re _ _ g.i_lt
 have f1 : ∀ xs cs, (h.set i cs ++ xs)[i]? = some cs := fun xs cs => by rw [Q8 (by simpa using g.i_lt)]; exact Ri g.i_lt
 have oi := g.oi
 have ka := CM (h := h ++ [[AV.v (.string (ah [])), .v (.string (ah []))]]) c t (i := h.length) (cs := [AV.v (.string (ah [])), .v (.string (ah []))]) (by simp) rfl
 simp only [D8, List.set_cons_zero] at ka
 have hb : ∀ H, ae Tryz.prog 50 [.v (.string (ah c)), .v (.string (ah t))] H (.agg (aU (xl c t))) H [] := fun H => AN c t H
 unfold nL
 by_cases s69 : ya Z.status = 69
 ·rw [if_pos s69]
  have g1 := (g.setTop (ya Z.status) Z.skips Z.over).app (c := [AV.v (.string (ah c)), .v (.string (ah t))]) (by simp) (by simp)
  obtain ⟨h', wr, k, g', ht, hl, hw, hs, hv⟩ := g1.byP (og g1.por)
  obtain ⟨o1, _⟩ := g1.off hw
  obtain ⟨t2, _⟩ := g'.tmp _ (Rb ..)
  have t1 := ht ((h.set i { Z with status := ya Z.status, skips := Z.skips, over := Z.over }.top).length, [AV.v (.string (ah c)), .v (.string (ah t))]) (by simp)
  have hl' : h.length + 1 <= h'.length := by simpa using hl
  have hgh := g'.hh
  simp only [Rg] at t1 t2
  simp only [Zs.top_mk] at k
  refine g.does (H := h.set i { Z with status := ya Z.status, skips := Z.skips, over := Z.over }.top ++ [[AV.v (.string (ah c)), .v (.string (ah t))]]) (fun q hq hn => ?_) (by simp) g' hw hs hv hl rfl rfl (w0 := [i, h.length]) (fun q hq hlt => ?_) (v := .sl 11 [aU (xl c t)] (some false) .exact) ?_ rfl
  ·rw [Q8 (by simpa using hq), Q9 fun e => hn (by rw [<- e]; exact Zs.vars_mem.2 (.inr (.inl (by simp [Zs.own]))))]
  ·simp at hq
   rcases hq with rfl | rfl
   ·simp [Zs.own]
   ·omega
  ·rw [s69] at k
   refine ac Pv mixed (by simp [Gx]) fun hh hargs => ?_
   simp [Gx]
   refine aa (by simp) ka ?_
   simp [e1, Zs.top_mk, oi]
   refine aa (by simp) (uI Z.status _) ?_
   simp [e1, Zs.top_mk, e3, s69, f1]
   refine aa (by simp) k ?_
   simp [t2]
   refine aa (by simp) (hb _) ?_
   simp [hgh, af, o1, t1]
   refine ⟨by omega, ?_⟩
   intro q hq _
   first | exact hq | (rcases hq with hq | hq | hq <;> simp [hq])
 ·rw [if_neg s69]
  have s69' : (ya Z.status == 69) = false := by simpa using s69
  refine g.turned (ya Z.status) Z.skips Z.over (v := .sl 11 [aU (xl c t)] (some false) .exact) ?_ (fun _ => rfl)
  have hl := ay (i := i) g.hh (Zs.top_lt { Z with status := ya Z.status } g.e_lt g.a_lt g.p_lt)
  simp only [Zs.top_mk] at hl ⊢
  refine ac Pv mixed (by simp [Gx]) fun hh hargs => ?_
  simp [Gx]
  refine aa (by simp) ka ?_
  simp [e1, Zs.top_mk, oi]
  refine aa (by simp) (uI Z.status _) ?_
  simp [e1, Zs.top_mk, e3, s69, s69', f1]
  refine aa (by simp) (hb _) ?_
  simp [hl, af, aY]
def zB (s : Int) : Bk := ⟨90, s, [], [], [], 0, 0, [], [], [], []⟩
def cb (Z : Zs) : Zs := { Z with S := if Z.status = 73 then Z.S.clear else Z.S }
theorem SsG.setTmp (g : SsG L h i Z) {t : Nat} (ht : t ∉ Z.vars i) (hL : ∀ x ∈ L, x.1 ≠ t) {c : List AV} (hc : cg h.length c) (hid : ∀ x ∈ c, x.idOf = .none) : SsG L (h.set t c) i Z := by
 have ne : ∀ q ∈ Z.vars i, t ≠ q := fun q hq e => ht (e ▸ hq)
 have own : ∀ q ∈ Z.own i, (h.set t c)[q]? = h[q]? := fun q hq => Q9 (ne q (Zs.vars_mem.2 (.inr (.inl hq))))
 have hl := ay (i := t) g.hh hc
 refine ⟨(own i (by simp [Zs.own])).trans g.top, g.eng.move (own _ (by simp [Zs.own])) (own _ (by simp [Zs.own])), (own _ (by simp [Zs.own])).trans g.ents, ?_, g.nd, g.sep, fun x hx => ?_, bz g.pl hid _⟩
 ·exact g.por.move (Q9 (ne _ (Zs.vars_mem.2 (.inl rfl)))) (fun q hq => Q9 (ne q (Zs.vars_mem.2 (.inr (.inr hq))))) (by rw [Rg]; exact hl)
 ·obtain ⟨t1, t2⟩ := g.tmp x hx
  exact ⟨by rw [Q9 (Ne.symm (hL x hx))]; exact t1, t2⟩
theorem ln (g : SsG [] h i Z) : DoesS 23 [.box i 0] h i Z (fun _ r => r = .agg (aU (zB Z.status))) (cb Z) := by
 have e1 : ∀ xs, (h ++ xs)[i]? = some Z.top := fun xs => g.at_ xs
 by_cases s73 : Z.status = 73
 ·have ez : cb Z = { Z with S := Z.S.clear } := by unfold cb; rw [if_pos s73]
  rw [ez]
  have g1 := g.app (c := Kp) (by simp [Kp]) (by simp [Kp])
  obtain ⟨h', wr, k, g', ht, hl, hw, hs, hv⟩ := g1.byP (og g1.por)
  obtain ⟨o1, _⟩ := g1.off hw
  have t1 := ht (h.length, Kp) (by simp)
  obtain ⟨t2, t3⟩ := g'.tmp _ (Rb ..)
  have hl' : h.length + 1 <= h'.length := by simpa using hl
  dsimp only at t1 t2 t3
  have g2 := g'.none.setTmp (t := h.length) t3 (fun x hx => by cases hx) (c := aU (zB Z.status)) (by simp) (by simp [aB])
  have hgh := g2.hh
  have ni : ¬ i = h.length := g.oi
  obtain ⟨t4, _⟩ := g'.none.setTmp (t := h.length) t3 (fun x hx => by cases hx) (c := aU (zB Z.status)) (by simp) (by simp [aB])
  have t5 : h'[i]? = some Z.top := by
   have := g'.top
   exact this
  simp only [Rg] at hgh
  simp only [Kp] at k t2
  have hlen1 : (h ++ [Kp]).length = h.length + 1 := by simp
  refine g.does (H := h) (fun q hq hn => rfl) (Rf _) g2 (fun q hq hlt => hw q hq (by omega)) (fun q hq hn => ?_) (fun q hq => ?_) (by rw [Rg]; omega) rfl rfl (w0 := [h.length]) (fun q hq hlt => ?_) (v := .agg (aU (zB Z.status))) ?_ rfl
  ·rw [Q9 (by omega), hs q (by omega) hn, Q8 hq]
  ·rcases hv q hq with h1 | h1
   ·exact .inl h1
   ·right; omega
  ·simp at hq; omega
  ·simp only [zB, aB] at hgh ⊢
   refine ac PW mixed (by simp [Ku]) fun hh hargs => ?_
   simp [Ku, e1, Zs.top_mk, s73]
   refine aa (by simp) k ?_
   have e6 : ∀ X, (h'.set h.length X)[h.length]? = some X := fun X => Ri (by omega)
   simp [t5, Zs.top_mk, t2, s73, hgh, e6, af, t1, o1]
   exact ⟨by omega, by simpa [s73] using hgh, fun q hq _ => .inl hq⟩
 ·have ez : cb Z = Z := by unfold cb; rw [if_neg s73]
  have s73' : (Z.status == 73) = false := by simpa using s73
  rw [ez]
  refine g.idle (v := .agg (aU (zB Z.status))) ?_ rfl
  refine ac PW mixed (by simp [Ku]) fun hh hargs => ?_
  simp [Ku, e1, Zs.top_mk, s73, s73', hh, af, zB, aB]
end
structure Via (h : List (List AV)) (i : Nat) (Z : Zs) (W : List Nat) (H : List (List AV)) (Z' : Zs) : Prop where
 len : h.length <= H.length
 kept : ∀ q < h.length, q ∉ Z.vars i -> H[q]? = h[q]?
 wr : ∀ q ∈ W, q < h.length -> q ∈ Z.vars i
 vars : ∀ q ∈ Z'.vars i, q ∈ Z.vars i \/ h.length <= q
section
variable {L : List (Nat × List AV)} {h H : List (List AV)} {i : Nat} {Z Z' Z2 : Zs} {W : List Nat}
theorem Via.refl (h : List (List AV)) (i : Nat) (Z : Zs) : Via h i Z [] h Z := ⟨Rf _, fun _ _ _ => rfl, (fun q hq => by cases hq), fun q hq => .inl hq⟩
theorem Via.step (v : Via h i Z W H Z') {wr : List Nat} {h2 : List (List AV)} (hl : H.length <= h2.length) (hw : ∀ q ∈ wr, q < H.length -> q ∈ Z'.vars i) (hs : ∀ q < H.length, q ∉ Z'.vars i -> h2[q]? = H[q]?) (hv : ∀ q ∈ Z2.vars i, q ∈ Z'.vars i \/ H.length <= q) : Via h i Z (wr ++ W) h2 Z2 := by
 have back : ∀ q, q < h.length -> q ∈ Z'.vars i -> q ∈ Z.vars i := fun q hq hv => by
  rcases v.vars q hv with h1 | h1
  ·exact h1
  ·omega
 have := v.len
 refine ⟨by omega, fun q hq hn => ?_, fun q hq hlt => ?_, fun q hq => ?_⟩
 ·rw [hs q (by omega) fun hh => hn (back q hq hh), v.kept q hq hn]
 ·rcases Rp.1 hq with h1 | h1
  ·exact back q hlt (hw q h1 (by omega))
  ·exact v.wr q h1 hlt
 ·rcases hv q hq with h1 | h1
  ·exact v.vars q h1
  ·exact .inr (by omega)
theorem Via.app (v : Via h i Z W H Z') (xs : List (List AV)) : Via h i Z W (H ++ xs) Z' := ⟨by have := v.len; simp; omega, fun q hq hn => by rw [Q8 (by have := v.len; omega)]; exact v.kept q hq hn, v.wr, v.vars⟩
theorem Via.set (v : Via h i Z W H Z') {q0 : Nat} (hq0 : q0 ∈ Z'.vars i) (cs : List AV) (he : Z2.vars i = Z'.vars i) : Via h i Z (q0 :: W) (H.set q0 cs) Z2 :=
 v.step (wr := [q0]) (by simp) (fun q hq _ => by rw [Q7.1 hq]; exact hq0) (fun q hq hn => Q9 fun e => hn (by rw [<- e]; exact hq0)) (fun q hq => .inl (by rw [<- he]; exact hq))
theorem Via.new (v : Via h i Z W H Z') {q0 : Nat} (hq0 : h.length <= q0) (cs : List AV) : Via h i Z (q0 :: W) (H.set q0 cs) Z' := ⟨by simpa using v.len, fun q hq hn => by rw [Q9 (by omega)]; exact v.kept q hq hn, fun q hq hlt => by
 rcases Rt.1 hq with h1 | h1
 ·omega
 ·exact v.wr q h1 hlt, v.vars⟩
theorem Via.byP (v : Via h i Z W H Z') {wr : List Nat} {h2 : List (List AV)} {S' : Ps} (hl : H.length <= h2.length) (hw : ∀ q ∈ wr, q < H.length -> q ∈ Z'.S.vars) (hs : ∀ q < H.length, q ∉ Z'.S.vars -> h2[q]? = H[q]?) (hv : ∀ q ∈ S'.vars, q ∈ Z'.S.vars \/ H.length <= q) : Via h i Z (wr ++ W) h2 { Z' with S := S' } :=
 v.step hl (fun q hq hlt => Zs.vars_mem.2 (.inr (.inr (hw q hq hlt)))) (fun q hq hn => hs q hq fun hh => hn (Zs.vars_mem.2 (.inr (.inr hh)))) (fun q hq => by
  rcases Zs.vars_mem.1 hq with h1 | h1 | h1
  ·exact .inl (Zs.vars_mem.2 (.inl h1))
  ·exact .inl (Zs.vars_mem.2 (.inr (.inl h1)))
  ·rcases hv q h1 with h2 | h2
   ·exact .inl (Zs.vars_mem.2 (.inr (.inr h2)))
   ·exact .inr h2)
theorem Via.does (v : Via h i Z W H Z') {L' : List (Nat × List AV)} (g' : SsG L' H i Z') {f : FuncId} {args : List AV} {r : List (List AV) -> AV -> Prop} {x : AV} (k : ae Tryz.prog f args h x H W) (hr : r H x) : DoesS f args h i Z r Z' := ⟨H, W, x, k, hr, g'.none, v.wr, v.len, v.kept, v.vars⟩
theorem wZ (Z : Zs) (i : Nat) : Z.e ∈ Z.vars i := Zs.vars_mem.2 (.inr (.inl (by simp [Zs.own])))
theorem xa (Z : Zs) (i : Nat) : i ∈ Z.vars i := Zs.vars_mem.2 (.inr (.inl (by simp [Zs.own])))
theorem Iq (Z : Zs) (i : Nat) : Z.a ∈ Z.vars i := Zs.vars_mem.2 (.inr (.inl (by simp [Zs.own])))
theorem qv {c : Bool} {p : Nat} {S : Ps} (hr : PsAt h p S) (ho : PsOk S) (hf : ∀ x ∈ S.e, PtF c x.val.p) (k : List UInt8) (most : Int) :
  ∃ R more S', mf 92 [.box p 0, .v (.string (ah k)), .v (.int .i64 most)] h p S (.tup [.sl 1 (al bl R) none .no, .v (.bool more)]) S' /\ RowsF c R /\ PsOk S' /\ ∀ x ∈ S'.e, PtF c x.val.p := by
 have idle : ae Tryz.prog 92 [.box p 0, .v (.string (ah k)), .v (.int .i64 most)] h (.tup [.sl 1 (al bl []) none .no, .v (.bool false)]) h [] -> mf 92 [.box p 0, .v (.string (ah k)), .v (.int .i64 most)] h p S (.tup [.sl 1 (al bl []) none .no, .v (.bool false)]) S :=
  fun kk => ⟨h, [], kk, hr, (fun q hq => by cases hq), Rf _, (fun _ _ _ => rfl), (fun q hq => .inl hq), fun hp => hp⟩
 cases hg : S.get k with
 | none => exact ⟨[], false, S, idle (Bp hr hg most), ⟨by simp, fun r hr => by cases hr⟩, ho, hf⟩
 | some x =>
  by_cases hno : x.p.ran = false \/ x.p.over = true
  ·exact ⟨[], false, S, idle (zj hr hg hno most), ⟨by simp, fun r hr => by cases hr⟩, ho, hf⟩
  ·rw [not_or] at hno
   have hran : x.p.ran = true := by simpa using hno.1
   have hov : x.p.over = false := by simpa using hno.2
   have hx : PtF c x.p := by obtain ⟨y, hy, _, rfl⟩ := cx hg; exact hf y hy
   have hx2 : PtF c (rW x most).p := ⟨hx.text, hx.oids, hx.ps, hx.rows.sub (List.drop_sublist ..)⟩
   exact ⟨_, _, _, Bo hr ho hg hran hov most, hx.rows.sub (List.take_sublist ..), ho.put k hx2.fit, fun y hy => by
    rcases cq ho.ok hy with ⟨_, e⟩ | ⟨_, h2⟩
    ·rw [e]; exact hx2
    ·exact hf y h2⟩
theorem BL (v : Vb) (h : List (List AV)) : ae Tryz.prog 90 [.agg (ea v)] h (.v (.bool (eh v.kind || v.kind == 1))) h [] := by
 refine ac Do mixed (by simp [NV]) fun hh hargs => ?_
 simp [NV]
 refine aa (by simp) (nk v _) ?_
 cases hr : eh v.kind <;> simp [hh, af]
def Hz : List UInt8 := [53, 53, 48, 48, 48]
def HG : List UInt8 := [112, 111, 114, 116, 97, 108, 32, 99, 97, 110, 110, 111, 116, 32, 98, 101, 32, 114, 117, 110]
theorem vZ {Z : Zs} {k : List UInt8} {p : Pt} (h : gC Z k = (p, none)) : ∃ x, Z.S.get k = some x /\ x.p = p := by
 unfold gC at h
 cases hg : Z.S.get k with
 | none => rw [hg] at h; cases h
 | some y => rw [hg] at h; injection h with h1 h2; exact ⟨y, rfl, h1⟩
theorem rE (c : Bool) (Z : Zs) (v : Vb) : BkG c (js Z v) := by
 unfold js
 split
 ·exact lC c (by simp)
 ·refine xi c ?_
  unfold Ie
  repeat' split
  all_goals decide
theorem ZOk.act {c : Bool} {n : Nat} {Z : Zs} (z : ZOk c n Z) (v : Vb) : ZOk c n (gL Z v) := by
 unfold gL
 split
 ·exact z
 ·have h1 := z.setT (zK Z.status v.kind) Z.skips Z.over
  split
  ·exact h1.clear
  ·exact h1
theorem zm {c : Bool} {n : Nat} (g : SsG L h i Z) (z : ZOk c n Z) (hn : n <= 1000) {k : List UInt8} {x : PV} (hx : Z.S.get k = some x) (hran : x.p.ran = false) (v : Vb) :
  ∃ h' wr Z', ae Tryz.prog 81 [.box Z.e 0, .agg (ea v), .sl 2 (al aq x.p.ps) none .no] h (.sl 1 (al bl (mF v Z.T.n x.p.ps)) none .no) (h.set Z.e (fB Z.T.a (ff v Z.T.n))) [Z.e] /\
   ae Tryz.prog 91 [.box Z.p 0, .v (.string (ah k)), .sl 1 (al bl (mF v Z.T.n x.p.ps)) none .no] (h.set Z.e (fB Z.T.a (ff v Z.T.n))) (.v (.bool true)) h' wr /\ SsG L h' i Z' /\ ZOk c (n + 1) Z' /\
   (∀ t ∈ L, t.1 ∉ wr /\ t.1 ≠ Z.e) /\ i ∉ wr /\ (∀ {h0 : List (List AV)} {Z0 : Zs} {W : List Nat}, Via h0 i Z0 W h Z -> Via h0 i Z0 (wr ++ Z.e :: W) h' Z') /\ Z'.p = Z.p /\ (Z'.status = Z.status /\ Z'.st = Z.st /\ Z'.clock = Z.clock /\ Z'.skips = Z.skips /\ Z'.over = Z.over) := by
 have hp := z.getP hx
 have hrf := xJ c v Z.T.n (by have := z.en; omega) hp.ps
 have kr := xm g.eng (by have := z.en; omega) v x.p.ps (by have := hp.ps.1; omega) (fun y hy => by have := (hp.ps.2 y hy).1; omega)
 have g2 := g.setEng (ff v Z.T.n)
 have z2 : ZOk c (n + 1) { Z with T := { Z.T with n := ff v Z.T.n } } := z.setE (by have := tW v Z.T.n; have := z.en; omega)
 obtain ⟨h', wr, k2, g3, ht, hl, hw, hs, hv⟩ := g2.byP (Hj g2.por z.po hx hran hrf.fit)
 refine ⟨h', wr, _, kr, k2, g3, z2.putP k (x := ⟨x.v, lj x.p (mF v Z.T.n x.p.ps), _, 0⟩) ⟨hp.text, hp.oids, hp.ps, hrf⟩, fun t ht2 => ⟨ht t ht2, fun e => (g.tmp t ht2).2 (by rw [e]; exact wZ Z i)⟩, (g2.off hw).1, fun {h0 Z0 W} vv => ?_, rfl, rfl, rfl, rfl, rfl, rfl⟩
 exact (vv.set (wZ Z i) _ (Z2 := { Z with T := { Z.T with n := ff v Z.T.n } }) rfl).byP hl hw hs hv
end
section
variable {h : List (List AV)} {i : Nat} {Z : Zs}
theorem sX (m : Bk) (o : Er) : ∃ A B, uY m o = .tup [A, pK o] /\ au [m] o = .tup [B, pK o] /\ A.unown = A /\ A.idOf = none /\ weak A B /\ B.unown = B /\ B.idOf = none /\ ∀ n, A.lt n /\ B.lt n := by
 refine ⟨_, _, rfl, rfl, ?_⟩
 cases o with
 | some e => simp
 | none => simp [weak, al, fK]
def Kq (Z : Zs) (k : List UInt8) (M : List Bk) (o : Er) (Z' : Zs) : Prop :=
 ∀ x, Z.S.get k = some x -> ed Z ⟨x.p.text, x.p.oids⟩ = none -> x.p.ran = false -> eh (gG x.p.text).kind = false -> fY (gG x.p.text) = none ->
  M = [js Z (gG x.p.text)] /\ o = none /\ Z'.status = (gL Z (gG x.p.text)).status /\ Z'.st = Z.st /\ Z'.clock = Z.clock /\ Z'.skips = Z.skips /\ Z'.over = Z.over
theorem uZ (Z : Zs) (v : Vb) : (gL Z v).st = Z.st /\ (gL Z v).clock = Z.clock /\ (gL Z v).skips = Z.skips /\ (gL Z v).over = Z.over := by
 unfold gL
 split <;> exact ⟨rfl, rfl, rfl, rfl⟩
theorem sW (Z Z2 : Zs) (v : Vb) (h : Z.status = Z2.status) : (gL Z v).status = (gL Z2 v).status := by
 unfold gL
 split
 ·exact h
 ·show yb Z.status v.kind = yb Z2.status v.kind
  rw [h]
set_option maxHeartbeats 1000000 in
theorem xM {c : Bool} {n : Nat} (g : SsG [] h i Z) (z : ZOk c n Z) (hn : n <= 1000) (k : List UInt8) (hk : k.length <= 100000) (most : Int) :
  ∃ M o Z', DoesS 46 [.box i 0, .v (.string (ah k)), .v (.int .i64 most)] h i Z (fun _ r => r = au M o) Z' /\ ZOk c (n + 1) Z' /\ ((∀ m ∈ M, BkG c m) /\ M.length <= 2000) /\ Kq Z k M o Z' := by
 have hpt := xQ g z.po z.shortP k hk
 obtain ⟨⟨p, o⟩, hpo⟩ : ∃ x, x = gC Z k := ⟨_, rfl⟩
 rw [<- hpo] at hpt
 cases o with
 | some e =>
  obtain ⟨c0, t0⟩ := e
  refine ⟨[], some (c0, t0), Z, g.idle (v := au [] (some (c0, t0))) ?_ rfl, z.mono (Ra _), ⟨fun m hm => (by cases hm), by simp⟩, fun x hx ha _ _ _ => by unfold gC at hpo; rw [hx] at hpo; simp only [ha] at hpo; cases hpo⟩
  simp only [cZ, aT] at hpt
  refine ac Js mixed (by simp [yw]) fun hh hargs => ?_
  simp [yw]
  refine aa (by simp) hpt ?_
  simp [au, hh, af]
 | none =>
  obtain ⟨x, hx, rfl⟩ := vZ hpo.symm
  have hxt := (z.getP hx).text
  have hq := fun H => iV x.p.text (by omega) H
  obtain ⟨v, hv⟩ : ∃ v, v = gG x.p.text := ⟨_, rfl⟩
  have hv' : ej (fm x.p.text) = v := hv.symm
  rw [hv'] at hq
  have g2 : SsG [((h ++ [cZ x.p]).length, ea v), (h.length, cZ x.p)] (h ++ [cZ x.p] ++ [ea v]) i Z := (g.app (c := cZ x.p) (wc (by simp)) (kq rfl)).app (c := ea v) (by simp) (by simp [fq])
  have via2 : Via h i Z [] (h ++ [cZ x.p] ++ [ea v]) Z := ((Via.refl h i Z).app _).app _
  have e1 : ∀ xs, (h ++ xs)[i]? = some Z.top := fun xs => g.at_ xs
  have ni := g.ni
  have oi := g.oi
  have hag := fun H => BL v H
  have hrw := fun H => nk v H
  have happ : h ++ [cZ x.p] ++ [ea v] = h ++ [cZ x.p, ea v] := by simp
  have hlen1 : (h ++ [cZ x.p]).length = h.length + 1 := by simp
  rw [happ, hlen1] at g2
  rw [happ] at via2
  cases hran : x.p.ran with
  | true =>
   cases hagain : (eh v.kind || v.kind == 1) with
   | false =>
    rw [hagain] at hag
    refine ⟨[], some (Hz, HG), Z, g.idle (v := au [] (some (Hz, HG))) ?_ rfl, z.mono (Ra _), ⟨fun m hm => (by cases hm), by simp⟩, fun y hy _ hr _ _ => by rw [hx] at hy; injection hy with hy; subst hy; rw [hran] at hr; cases hr⟩
    simp only [cZ, aT, hran] at hpt
    refine ac Js mixed (by simp [yw]) fun hh hargs => ?_
    simp [yw]
    refine aa (by simp) hpt ?_
    simp
    refine aa (by simp) (hq _) ?_
    simp
    refine aa (by simp) (hag _) ?_
    simp [au, hh, af, Hz, HG]
   | true =>
    rw [hagain] at hag
    cases hrows : eh v.kind with
    | false =>
     rw [hrows] at hrw
     obtain ⟨h5, w5, r5, k5, hr5, g5, t5, hl5, hw5, hs5, hv5⟩ := g2.byS (wm g2.none v)
     subst hr5
     obtain ⟨A, B, eA, eB, a1, a2, a3, b1, b2, ab⟩ := sX (js Z v) (fY v)
     rw [eA] at k5
     have via5 := via2.step hl5 hw5 hs5 hv5
     have hg5 := g5.hh
     have hab := ab h5.length
     have hl5' : h.length + 2 <= h5.length := by simpa using hl5
     refine ⟨[js Z v], fY v, gL Z v, via5.does g5 (x := au [js Z v] (fY v)) ?_ rfl, (z.act v).mono (Ra _), ⟨fun m hm => (by rw [Q7.1 hm]; exact rE c Z v), by simp⟩, fun y hy _ hr _ _ => by rw [hx] at hy; injection hy with hy; subst hy; rw [hran] at hr; cases hr⟩
     rw [eB]
     have hid := gS (fY v)
     have hel := gT h5.length (fY v)
     simp only [cZ, aT, hran] at hpt k5
     refine ac Js mixed (by simp [yw]) fun hh hargs => ?_
     simp [yw]
     refine aa (by simp) hpt ?_
     simp
     refine aa (by simp) (hq _) ?_
     simp
     refine aa (by simp) (hag _) ?_
     simp
     refine aa (by simp) (hrw _) ?_
     simp
     refine aa (by simp) k5 ?_
     simp [a1, a2, a3, hid, hg5, af, hab, hel]
     refine ⟨by omega, fun q hq hlt => ?_⟩
     rcases hq with hq | hq | hq
     ·exact hq
     ·omega
     ·omega
    | true =>
     rw [hrows] at hrw
     obtain ⟨R, more, S', dP, hR, hoS, hfS⟩ := qv (c := c) g2.por z.po z.pf k most
     obtain ⟨h5, w5, k5, g5, t5, hl5, hw5, hs5, hv5⟩ := g2.byP dP
     have via5 := via2.byP hl5 hw5 hs5 hv5
     have hg5 := g5.hh
     have hl5' : h.length + 2 <= h5.length := by simpa using hl5
     have kt := fun H => sF R more hR.told.1 hR.told.2 H
     refine ⟨cC R more, none, { Z with S := S' }, via5.does g5 (x := au (cC R more) none) ?_ rfl, (z.setS hoS hfS).mono (Ra _), ⟨nr c hR more, by have := hR.1; unfold cC; simp; omega⟩, fun y hy _ hr _ _ => by rw [hx] at hy; injection hy with hy; subst hy; rw [hran] at hr; cases hr⟩
     simp only [cZ, aT, hran] at hpt k5
     refine ac Js mixed (by simp [yw]) fun hh hargs => ?_
     simp [yw]
     refine aa (by simp) hpt ?_
     simp
     refine aa (by simp) (hq _) ?_
     simp
     refine aa (by simp) (hag _) ?_
     simp
     refine aa (by simp) (hrw _) ?_
     simp [e1, Zs.top_mk]
     refine aa (by simp) k5 ?_
     simp
     refine aa (by simp) (kt _) ?_
     simp [au, hg5, af]
     refine ⟨by omega, fun q hq hlt => ?_⟩
     rcases hq with hq | hq | hq
     ·exact hq
     ·omega
     ·omega
  | false =>
   obtain ⟨h4, w4, Z4, kr, k2, g4, z4, t4, oi4, via4', hp4, ke⟩ := zm g2 z hn hx hran v
   have via4 := via4' via2
   obtain ⟨t4a, t4b⟩ := t4 (h.length + 1, ea v) (by simp)
   obtain ⟨t4c, t4d⟩ := t4 (h.length, cZ x.p) (by simp)
   obtain ⟨m4a, _⟩ := g4.tmp (h.length + 1, ea v) (by simp)
   obtain ⟨m4b, _⟩ := g4.tmp (h.length, cZ x.p) (by simp)
   have top4 := g4.top
   have hie : ¬ i = Z.e := g.nd4.1
   have noe := g.oe
   have nne := g.ne
   dsimp only at t4a t4b t4c t4d m4a m4b
   have t4b' : ¬ Z.e = h.length + 1 := fun e => t4b e.symm
   have t4d' : ¬ Z.e = h.length := fun e => t4d e.symm
   cases hrows : eh v.kind with
   | false =>
    rw [hrows] at hrw
    obtain ⟨h5, w5, r5, k5, hr5, g5, t5, hl5, hw5, hs5, hv5⟩ := g4.byS (wm g4.none v)
    subst hr5
    obtain ⟨A, B, eA, eB, a1, a2, a3, b1, b2, ab⟩ := sX (js Z4 v) (fY v)
    rw [eA] at k5
    have via5 := via4.step hl5 hw5 hs5 hv5
    have hg5 := g5.hh
    have hab := ab h5.length
    have hl5' := via5.len
    refine ⟨[js Z4 v], fY v, gL Z4 v, via5.does g5 (x := au [js Z4 v] (fY v)) ?_ rfl, z4.act v, ⟨fun m hm => (by rw [Q7.1 hm]; exact rE c Z4 v), by simp⟩, fun y hy _ _ _ ha => ?_⟩
    rotate_left
    ·rw [hx] at hy; injection hy with hy; subst hy
     rw [<- hv] at ha ⊢
     obtain ⟨q1, q2, q3, q4⟩ := uZ Z4 v
     refine ⟨?_, ha, sW _ _ _ ke.1, q1.trans ke.2.1, q2.trans ke.2.2.1, q3.trans ke.2.2.2.1, q4.trans ke.2.2.2.2⟩
     unfold js
     rw [ke.1]
    rw [eB]
    have hid := gS (fY v)
    have hel := gT h5.length (fY v)
    simp only [cZ, aT, hran] at hpt kr k2 m4b
    refine ac Js mixed (by simp [yw]) fun hh hargs => ?_
    simp [yw]
    refine aa (by simp) hpt ?_
    simp
    refine aa (by simp) (hq _) ?_
    simp [e1, Zs.top_mk]
    refine aa (by simp) kr ?_
    simp [hie, t4b, t4d, t4b', t4d']
    refine aa (by simp) k2 ?_
    simp [m4a, m4b, oi4, t4a, t4c, hie, t4b, t4d, t4b', t4d']
    refine aa (by simp) (hrw _) ?_
    simp [m4a]
    refine aa (by simp) k5 ?_
    simp [a1, a2, a3, hid, hg5, af, hab, hel]
    refine ⟨hl5', fun q hq hlt => ?_⟩
    rcases hq with hq | hq | hq | hq | hq
    ·exact .inl hq
    ·exact .inr (.inl hq)
    ·exact .inr (.inr hq)
    ·omega
    ·omega
   | true =>
    rw [hrows] at hrw
    obtain ⟨R, more, S', dP, hR, hoS, hfS⟩ := qv (c := c) g4.por z4.po z4.pf k most
    obtain ⟨h5, w5, k5, g5, t5, hl5, hw5, hs5, hv5⟩ := g4.byP dP
    have via5 := via4.byP hl5 hw5 hs5 hv5
    have hg5 := g5.hh
    have hl5' := via5.len
    have kt := fun H => sF R more hR.told.1 hR.told.2 H
    refine ⟨cC R more, none, { Z4 with S := S' }, via5.does g5 (x := au (cC R more) none) ?_ rfl, z4.setS hoS hfS, ⟨nr c hR more, by have := hR.1; unfold cC; simp; omega⟩, fun y hy _ _ hr _ => by rw [hx] at hy; injection hy with hy; subst hy; rw [<- hv, hrows] at hr; cases hr⟩
    simp only [cZ, aT, hran] at hpt kr k2 m4b
    refine ac Js mixed (by simp [yw]) fun hh hargs => ?_
    simp [yw]
    refine aa (by simp) hpt ?_
    simp
    refine aa (by simp) (hq _) ?_
    simp [e1, Zs.top_mk]
    refine aa (by simp) kr ?_
    simp [hie, t4b, t4d, t4b', t4d']
    refine aa (by simp) k2 ?_
    simp [m4a, m4b, oi4, t4a, t4c, hie, t4b, t4d, t4b', t4d']
    refine aa (by simp) (hrw _) ?_
    simp [top4, Zs.top_mk]
    refine aa (by simp) k5 ?_
    simp
    refine aa (by simp) (kt _) ?_
    simp [au, hg5, af]
    refine ⟨hl5', fun q hq hlt => ?_⟩
    rcases hq with hq | hq | hq | hq | hq
    ·exact .inl hq
    ·exact .inr (.inl hq)
    ·exact .inr (.inr hq)
    ·omega
    ·omega
end
section
variable {e o : List (Nat × AV)} {h : List (List AV)} {wr : List Nat} {d : Option Nat} {K : St -> List Nat -> Prop} {k bytes : Nat}
theorem jH {es es2 : List (List AV)} {nul nul2 : Option Bool} {room2 : Room} (h1 : es ≠ []) (i1 : ∀ c ∈ es.flatten, c.idOf = none) (h2 : es2 ≠ []) (i2 : ∀ c ∈ es2.flatten, c.idOf = none) (s1 : (es.length + es2.length) * bytes <= 140737488355328) (s2 : es.length + es2.length <= 140737488355328)
  (hK : K (St.puts ⟨e, o, h ++ [es.flatten ++ es2.flatten], wr⟩ d (.bsl h.length 0 k (es.length + es2.length)) false) []) : bA ⟨e, o, h, wr⟩ k bytes d (.sl k es nul .exact) (.sl k es2 nul2 room2) K :=
 .inr (.inl ⟨es2, if_pos rfl, h2, i2, .inr ⟨rfl, h1, rfl, i1, s1, s2, hK⟩⟩)
theorem sM {b off n : Nat} {cs : List AV} {es2 : List (List AV)} {nul2 : Option Bool} {room2 : Room} (hb : h[b]? = some cs) (hne : cs ≠ []) (hf : off + n * k <= cs.length) (i1 : ∀ c ∈ cs, c.idOf = none) (h2 : es2 ≠ []) (i2 : ∀ c ∈ es2.flatten, c.idOf = none) (s1 : (n + es2.length) * bytes <= 140737488355328) (s2 : n + es2.length <= 140737488355328)
  (hK : K (St.puts ⟨e, o, h.set b [] ++ [(cs.drop off).take (n * k) ++ es2.flatten], b :: wr⟩ d (.bsl h.length 0 k (n + es2.length)) false) []) : bA ⟨e, o, h, wr⟩ k bytes d (.bsl b off k n) (.sl k es2 nul2 room2) K :=
 .inr (.inl ⟨es2, if_pos rfl, h2, i2, rfl, cs, hb, hne, hf, i1, s1, s2, hK⟩)
theorem sL {k1 k2 : Nat} {es : List (List AV)} {nul2 : Option Bool} {room2 : Room} (hk : 2 <= k) (hK : K (St.puts ⟨e, o, h, wr⟩ d (.sl k1 es none .no) false) []) : bA ⟨e, o, h, wr⟩ k bytes d (.sl k1 es none .no) (.sl k2 [] nul2 room2) K := .inr (.inr ⟨rfl, .inr (.inr ⟨hk, rfl, rfl, hK⟩)⟩)
theorem qg {k1 k2 b off n : Nat} {nul2 : Option Bool} {room2 : Room} (hk : 2 <= k) (hK : K (St.puts ⟨e, o, h, wr⟩ d (.bsl b off k1 n) false) []) : bA ⟨e, o, h, wr⟩ k bytes d (.bsl b off k1 n) (.sl k2 [] nul2 room2) K := .inr (.inr ⟨rfl, hk, hK⟩)
end
section
variable {h : List (List AV)} {i : Nat} {Z : Zs}
inductive OnceR (lo i : Nat) (Z' : Zs) (M : List Bk) (o : Er) (h' : List (List AV)) (v : AV) : Prop
 | err (c t : List UInt8) (ho : o = some (c, t)) (hm : M = []) (hv : v = .tup [.sl 0 [] (some true) .exact, pK (some (c, t))])
 | one (m : Bk) (ho : o = none) (hm : M = [m]) (hv : v = .tup [.sl 11 [aU m] (some false) .exact, .v .nilIface])
 | many (b : Nat) (ho : o = none) (hm : M ≠ []) (hv : v = .tup [.bsl b 0 11 M.length, .v .nilIface]) (hl : lo <= b) (hb : h'[b]? = some (al aU M).flatten) (hn : b ∉ Z'.vars i)
theorem zh {lo : Nat} {Z' : Zs} {h' : List (List AV)} (m : Bk) (o : Er) : OnceR lo i Z' (if o.isSome = true then [] else [m]) o h' (uY m o) := by
 cases o with
 | some e => exact .err e.1 e.2 rfl rfl rfl
 | none => exact .one m rfl rfl rfl
theorem cS (M : List Bk) : ∀ c ∈ (al aU M).flatten, c.idOf = none := fun c hc => by
 obtain ⟨l, h1, h2⟩ := Rx.1 hc
 obtain ⟨m, _, rfl⟩ := Rc.1 h1
 simp [aB] at h2
 rcases h2 with rfl | rfl | rfl | rfl | rfl | rfl | rfl | rfl | rfl | rfl | rfl <;> rfl
theorem dT (n : Nat) (M : List Bk) : cg n (al aU M).flatten := cE fun j c hj => by
 obtain ⟨l, h1, h2⟩ := Rx.1 (Rj hj)
 obtain ⟨m, _, rfl⟩ := Rc.1 h1
 obtain ⟨q, hq⟩ := List.getElem?_of_mem h2
 exact cd (by simp) q c hq
theorem ym (m : Bk) (o : Er) : ∃ A, uY m o = .tup [A, pK o] /\ A.unown = A /\ A.idOf = none /\ ∀ n, A.lt n := by
 refine ⟨_, rfl, ?_⟩
 cases o with
 | some e => simp
 | none => simp
set_option maxHeartbeats 1000000 in
theorem Eb {c : Bool} {n : Nat} (g : SsG [] h i Z) (z : ZOk c n Z) (hn : n <= 1000) (s : List UInt8) (hs : s.length <= 1000) :
  ∃ M o Z', DoesS 42 [.box i 0, .v (.string (ah s))] h i Z (OnceR h.length i Z' M o) Z' /\ ZOk c (n + 1) Z' /\ (∀ m ∈ M, BkG c m) /\ M.length <= 2000 := by
 have hvd := pm g s (by omega)
 cases ho : fV Z s with
 | some e =>
  obtain ⟨c0, t0⟩ := e
  rw [ho] at hvd
  refine ⟨[], some (c0, t0), Z, g.idle (v := .tup [.sl 0 [] (some true) .exact, pK (some (c0, t0))]) ?_ (.err c0 t0 rfl rfl rfl), z.mono (Ra _), (fun m hm => by cases hm), by simp⟩
  refine ac Pw mixed (by simp [Gy]) fun hh hargs => ?_
  simp [Gy]
  refine aa (by simp) hvd ?_
  simp [hh]
 | none =>
  rw [ho] at hvd
  have hq := fun H => iV s (by omega) H
  obtain ⟨v, hv⟩ : ∃ v, v = gG s := ⟨_, rfl⟩
  have hv' : ej (fm s) = v := hv.symm
  rw [hv'] at hq
  have hrw := fun H => nk v H
  have g2 := g.app (c := ea v) (by simp) (by simp [fq])
  have via2 : Via h i Z [] (h ++ [ea v]) Z := (Via.refl h i Z).app _
  have e1 : ∀ xs, (h ++ xs)[i]? = some Z.top := fun xs => g.at_ xs
  cases hrows : eh v.kind with
  | false =>
   rw [hrows] at hrw
   obtain ⟨h5, w5, r5, k5, hr5, g5, t5, hl5, hw5, hs5, hv5⟩ := g2.byS (wm g2.none v)
   subst hr5
   obtain ⟨A, eA, a1, a2, ab⟩ := ym (js Z v) (fY v)
   have via5 := via2.step hl5 hw5 hs5 hv5
   have hg5 := g5.hh
   have hab := ab h5.length
   have hl5' := via5.len
   refine ⟨_, fY v, gL Z v, via5.does g5 (x := uY (js Z v) (fY v)) ?_ (zh _ _), (z.act v).mono (Ra _), fun m hm => ?_, by split <;> simp⟩
   ·rw [eA] at k5 ⊢
    have hid := gS (fY v)
    have hel := gT h5.length (fY v)
    refine ac Pw mixed (by simp [Gy]) fun hh hargs => ?_
    simp [Gy]
    refine aa (by simp) hvd ?_
    simp
    refine aa (by simp) (hq _) ?_
    simp
    refine aa (by simp) (hrw _) ?_
    simp
    refine aa (by simp) k5 ?_
    simp [a1, a2, hid, hg5, af, hab, hel]
    refine ⟨hl5', fun q hq hlt => ?_⟩
    rcases hq with hq | hq
    ·exact hq
    ·omega
   ·split at hm
    ·cases hm
    ·rw [Q7.1 hm]; exact rE c Z v
  | true =>
   rw [hrows] at hrw
   have hrf := xJ c v Z.T.n (by have := z.en; omega) (ps := []) ⟨by simp, fun y hy => by cases hy⟩
   have kr := xm g2.eng (by have := z.en; omega) v [] (by simp) (fun y hy => by cases hy)
   obtain ⟨R, hR⟩ : ∃ R, R = mF v Z.T.n [] := ⟨_, rfl⟩
   rw [<- hR] at hrf kr
   have kd := fun H => sA ⟨s, []⟩ (by show s.length <= _; omega) H
   have kt := fun H => sF R false hrf.told.1 hrf.told.2 H
   have g3 := g2.setEng (ff v Z.T.n)
   have z3 : ZOk c (n + 1) { Z with T := { Z.T with n := ff v Z.T.n } } := z.setE (by have := tW v Z.T.n; have := z.en; omega)
   have via3 : Via h i Z [Z.e] ((h ++ [ea v]).set Z.e (fB Z.T.a (ff v Z.T.n))) { Z with T := { Z.T with n := ff v Z.T.n } } := via2.set (wZ Z i) _ rfl
   obtain ⟨M, hM⟩ : ∃ M, M = pU ⟨s, []⟩ :: cC R false := ⟨_, rfl⟩
   have hMl : M.length = (cC R false).length + 1 := by rw [hM]; rfl
   have hMf : (al aU M).flatten = aU (pU ⟨s, []⟩) ++ (al aU (cC R false)).flatten := by rw [hM]; rfl
   have htl : (cC R false).length = R.length + 1 := by simp [cC]
   have hrl := hrf.1
   have g4 := g3.app (c := (al aU M).flatten) (dT _ M) (cS M)
   have via4 := via3.app [(al aU M).flatten]
   obtain ⟨m4, m5⟩ := g4.tmp _ (Rb ..)
   have hg4 := g4.hh
   have hie : ¬ i = Z.e := g.nd4.1
   have noe := g.oe
   have noe' : ¬ h.length = Z.e := fun e => noe e.symm
   refine ⟨M, none, _, via4.does g4 (x := .tup [.bsl ((h ++ [ea v]).set Z.e (fB Z.T.a (ff v Z.T.n))).length 0 11 M.length, .v .nilIface]) ?_ (.many _ rfl (by rw [hM]; simp) rfl (by simp) m4 m5), z3, fun m hm => ?_, by rw [hMl, htl]; omega⟩
   ·simp only [eC] at kd
    refine ac Pw mixed (by simp [Gy]) fun hh hargs => ?_
    simp [Gy]
    refine aa (by simp) hvd ?_
    simp
    refine aa (by simp) (hq _) ?_
    simp
    refine aa (by simp) (hrw _) ?_
    simp [e1, Zs.top_mk]
    refine ao (kd _) (by simp) (by simp) ?_
    have hne1 : cC R false ≠ [] := by simp [cC]
    have hne2 : al aU (cC R false) ≠ [] := by simp [al, cC]
    have hel : (al aU (cC R false)).length = R.length + 1 := by simp [htl]
    have hidT := cS (cC R false)
    have hid1 : ∀ c ∈ ([aU (pU ⟨s, []⟩)] : List (List AV)).flatten, c.idOf = none := by
     have := cS [pU ⟨s, []⟩]
     simpa [al] using this
    have eM : R.length + 1 + 1 = M.length := by rw [hMl, htl]
    have fin : ∀ q : Nat, q = 1 + (R.length + 1) -> q = M.length := fun q hq => by omega
    have hcount : 1 + (R.length + 1) = M.length := by omega
    simp only [fB] at kr hg4
    have hll : aR (h.length + 1 + 1) ((h ++ [ea v]).set Z.e [AV.mp Z.T.a 0 false, AV.v (Value.int IntKind.i64 ↑(ff v Z.T.n))]) := by
     have := aH (Ra _) g3.hh
     simpa [fB] using this
    simp [noe', hie]
    refine ⟨?_, ?_⟩
    ·refine ao kr (by simp) (by simp) ?_
     simp [noe', hie]
     refine aa (by simp) (kt _) ?_
     simp
     refine jH (by simp) hid1 hne2 hidT (by simp [htl]; omega) (by simp [htl]; omega) ?_
     simp [hMf, htl, hcount, fB, af]
     exact ⟨by omega, hll, dT _ _⟩
    ·refine ao kr (by simp) (by simp) ?_
     simp [noe', hie]
     refine ⟨?_, ?_⟩
     all_goals refine aa (by simp) (kt _) ?_
     all_goals simp
     all_goals refine jH (by simp) hid1 hne2 hidT (by simp [htl]; omega) (by simp [htl]; omega) ?_
     all_goals simp [hMf, htl, hcount, fB, af]
     all_goals exact ⟨by omega, hll, dT _ _⟩
   ·rw [hM] at hm
    rcases Rt.1 hm with rfl | hm
    ·exact rF c _
    ·exact nr c hrf false m hm
end
section
variable {L : List (Nat × List AV)} {h : List (List AV)} {i : Nat} {Z : Zs} {c : Bool} {n : Nat}
theorem ia (M : List Bk) (o : Er) : ∃ B, au M o = .tup [B, pK o] /\ B.unown = B /\ B.idOf = none /\ ∀ n, B.lt n := by
 refine ⟨_, rfl, ?_⟩
 cases o with
 | some e => simp
 | none => simp
theorem ZOk.fail (z : ZOk c n Z) : ZOk c n (nL Z) := by
 unfold nL
 have h1 := z.setT (zJ Z.status) Z.skips Z.over
 split
 ·exact h1.clear
 ·exact h1
theorem ZOk.ready (z : ZOk c n Z) : ZOk c n (cb Z) := by
 unfold cb
 split
 ·exact z.clear
 ·exact z
theorem xV (g : SsG [] h i Z) (f : Fm) (hk : f.kind = 80) {M : List Bk} {o : Er} {Z2 : Zs} (d2 : DoesS 43 [.box i 0, .agg (aG f)] (h ++ [aG f]) i Z (fun _ r => r = au M o) Z2) : DoesS 25 [.box i 0, .agg (aG f)] h i Z (fun _ r => r = au M o) Z2 := by
 have g1 := g.app (c := aG f) (by simp) (by simp [aF])
 have via1 : Via h i Z [] (h ++ [aG f]) Z := (Via.refl h i Z).app _
 obtain ⟨h5, w5, r5, k5, hr5, g5, t5, hl5, hw5, hs5, hv5⟩ := g1.byS d2
 subst hr5
 obtain ⟨B, eB, b1, b2, b3⟩ := ia M o
 have via5 := via1.step hl5 hw5 hs5 hv5
 have hl5' := via5.len
 have hg5 := g5.hh
 refine via5.does g5 (x := au M o) ?_ rfl
 rw [eB] at k5 ⊢
 have hid := gS o
 have hel := gT h5.length o
 refine ac Jr mixed (by simp [yv]) fun hh hargs => ?_
 simp [yv, hk]
 refine aa (by simp) k5 ?_
 simp [b1, b2, b3, hid, hel, hg5, af]
 refine ⟨hl5', fun q hq hlt => ?_⟩
 first | exact hq | (rcases hq with hq | hq; exact hq; omega)
theorem xT (g : SsG [] h i Z) (f : Fm) (hk : f.kind = 66) {M : List Bk} {o : Er} {Z2 : Zs} (d2 : DoesS 44 [.box i 0, .agg (aG f)] (h ++ [aG f]) i Z (fun _ r => r = au M o) Z2) : DoesS 25 [.box i 0, .agg (aG f)] h i Z (fun _ r => r = au M o) Z2 := by
 have g1 := g.app (c := aG f) (by simp) (by simp [aF])
 have via1 : Via h i Z [] (h ++ [aG f]) Z := (Via.refl h i Z).app _
 obtain ⟨h5, w5, r5, k5, hr5, g5, t5, hl5, hw5, hs5, hv5⟩ := g1.byS d2
 subst hr5
 obtain ⟨B, eB, b1, b2, b3⟩ := ia M o
 have via5 := via1.step hl5 hw5 hs5 hv5
 have hl5' := via5.len
 have hg5 := g5.hh
 refine via5.does g5 (x := au M o) ?_ rfl
 rw [eB] at k5 ⊢
 have hid := gS o
 have hel := gT h5.length o
 refine ac Jr mixed (by simp [yv]) fun hh hargs => ?_
 simp [yv, hk]
 refine aa (by simp) k5 ?_
 simp [b1, b2, b3, hid, hel, hg5, af]
 refine ⟨hl5', fun q hq hlt => ?_⟩
 first | exact hq | (rcases hq with hq | hq; exact hq; omega)
theorem xU (g : SsG [] h i Z) (f : Fm) (hk : f.kind = 69) {M : List Bk} {o : Er} {Z2 : Zs} (d2 : DoesS 46 [.box i 0, .v (.string (ah f.portal)), .v (.int .i64 f.max)] (h ++ [aG f]) i Z (fun _ r => r = au M o) Z2) : DoesS 25 [.box i 0, .agg (aG f)] h i Z (fun _ r => r = au M o) Z2 := by
 have g1 := g.app (c := aG f) (by simp) (by simp [aF])
 have via1 : Via h i Z [] (h ++ [aG f]) Z := (Via.refl h i Z).app _
 obtain ⟨h5, w5, r5, k5, hr5, g5, t5, hl5, hw5, hs5, hv5⟩ := g1.byS d2
 subst hr5
 obtain ⟨B, eB, b1, b2, b3⟩ := ia M o
 have via5 := via1.step hl5 hw5 hs5 hv5
 have hl5' := via5.len
 have hg5 := g5.hh
 refine via5.does g5 (x := au M o) ?_ rfl
 rw [eB] at k5 ⊢
 have hid := gS o
 have hel := gT h5.length o
 refine ac Jr mixed (by simp [yv]) fun hh hargs => ?_
 simp [yv, hk]
 refine aa (by simp) k5 ?_
 simp [b1, b2, b3, hid, hel, hg5, af]
 refine ⟨hl5', fun q hq hlt => ?_⟩
 first | exact hq | (rcases hq with hq | hq; exact hq; omega)
theorem AA (Z : Zs) (f : Fm) : (eR Z f).1.length <= 2000 := by
 unfold eR
 split
 ·obtain ⟨s, o⟩ := dk Z f.name
  cases o <;> simp
 ·split
  ·obtain ⟨s, o⟩ := gC Z f.portal
   cases o <;> simp
  ·simp
set_option maxHeartbeats 1000000 in
theorem Ed (g : SsG [] h i Z) (z : ZOk c n Z) (hn : n <= 1000) (f : Fm) (hf : FmS c f) :
  ∃ M o Z', DoesS 25 [.box i 0, .agg (aG f)] h i Z (fun _ r => r = au M o) Z' /\ ZOk c (n + 1) Z' /\ (∀ m ∈ M, BkG c m) /\ M.length <= 2000 := by
 have g1 := g.app (c := aG f) (by simp) (by simp [aF])
 have via1 : Via h i Z [] (h ++ [aG f]) Z := (Via.refl h i Z).app _
 have hfn := hf.name
 have hfp := hf.portal
 have hft := hf.text
 by_cases GR : f.kind = 80
 ·exact ⟨[pB 49], oc Z f, ki Z f, xV g f GR (uA g1.none z.ko f (by omega) (by omega) (by have := hf.oids.1; omega)), z.parse hf, (fun m hm => by rw [Q7.1 hm]; exact lC c (by simp)), by simp⟩
 have k80' : (f.kind == 80) = false := by simpa using GR
 by_cases k66 : f.kind = 66
 ·obtain ⟨Z2, d2, q1, q2⟩ := xL g1.none z.po z.short f (by omega) (by omega) ⟨hf.params.1, fun x hx => by have := (hf.params.2 x hx).1; omega⟩
  have z2 : ZOk c (n + 1) Z2 := by
   cases ho : mh Z f with
   | some e => rw [q1 (by rw [ho]; simp)]; exact z.mono (Ra _)
   | none =>
    obtain ⟨x, s, hs, hx, e⟩ := q2 ho
    have hsz := z.get hs
    rw [e]
    exact (z.putP f.portal (x := x) (by rw [hx]; exact ⟨hsz.1, hsz.2.1, hf.params, ⟨by simp [dv], fun r hr => by simp [dv] at hr⟩⟩)).mono (Ra _)
  exact ⟨[pB 50], mh Z f, Z2, xT g f k66 d2, z2, (fun m hm => by rw [Q7.1 hm]; exact lC c (by simp)), by simp⟩
 have k66' : (f.kind == 66) = false := by simpa using k66
 by_cases Jt : f.kind = 68
 ·have k5 := uv g1.none z.po z.short z.shortP f (by omega) (by omega)
  obtain ⟨B, eB, b1, b2, b3⟩ := ia (eR Z f).1 (eR Z f).2
  refine ⟨(eR Z f).1, (eR Z f).2, Z, g.idle (v := au (eR Z f).1 (eR Z f).2) ?_ rfl, z.mono (Ra _), Aj z f, AA Z f⟩
  rw [eB] at k5 ⊢
  have hid := gS (eR Z f).2
  have hel := gT h.length (eR Z f).2
  refine ac Jr mixed (by simp [yv]) fun hh hargs => ?_
  simp [yv, GR, k80', k66, k66', Jt]
  refine aa (by simp) k5 ?_
  simp [b1, b2, b3, hid, hel, hh, af]
 have k68' : (f.kind == 68) = false := by simpa using Jt
 by_cases sQ : f.kind = 69
 ·obtain ⟨M, o, Z2, d2, z2, m2, _⟩ := xM g1.none z hn f.portal (by omega) f.max
  exact ⟨M, o, Z2, xU g f sQ d2, z2, m2⟩
 have k69' : (f.kind == 69) = false := by simpa using sQ
 by_cases KY : f.kind = 67
 ·obtain ⟨h5, w5, r5, k5, hr5, g5, t5, hl5, hw5, hs5, hv5⟩ := g1.byS (BP g1.none f)
  subst hr5
  have via5 := via1.step hl5 hw5 hs5 hv5
  have hl5' := via5.len
  have hg5 := g5.hh
  refine ⟨jP f, none, nA Z f, via5.does g5 (x := au (jP f) none) ?_ rfl, (z.close f).mono (Ra _), yp c f, by unfold jP; split <;> simp⟩
  refine ac Jr mixed (by simp [yv]) fun hh hargs => ?_
  simp [yv, GR, k80', k66, k66', Jt, k68', sQ, k69', KY]
  refine aa (by simp) k5 ?_
  simp [au, hg5, af]
  refine ⟨hl5', fun q hq hlt => ?_⟩
  first | exact hq | (rcases hq with hq | hq; exact hq; omega)
 have k67' : (f.kind == 67) = false := by simpa using KY
 refine ⟨[], none, Z, g.idle (v := au [] none) ?_ rfl, z.mono (Ra _), (fun m hm => by cases hm), by simp⟩
 refine ac Jr mixed (by simp [yv]) fun hh hargs => ?_
 simp [yv, GR, k80', k66, k66', Jt, k68', sQ, k69', KY, k67', au, hh, af]
inductive RepX (lo i : Nat) (Z' : Zs) (M : List Bk) (h' : List (List AV)) (v : AV) : Prop
 | sl (hv : v = .sl 11 (al aU M) none .no)
 | bx (b : Nat) (hl : lo <= b) (hv : v = .bsl b 0 11 M.length) (hb : h'[b]? = some (al aU M).flatten) (hn : b ∉ Z'.vars i)
theorem SsG.more (g : SsG L h i Z) {b : Nat} {cs : List AV} (hb : h[b]? = some cs) (hn : b ∉ Z.vars i) : SsG ((b, cs) :: L) h i Z := ⟨g.top, g.eng, g.ents, g.por, g.nd, g.sep, fun t ht => by
 rcases Rt.1 ht with rfl | ht
 ·exact ⟨hb, hn⟩
 ·exact g.tmp t ht, g.pl⟩
theorem eF (Z : Zs) : (cb Z).status = Z.status := rfl
set_option maxHeartbeats 2000000 in
theorem B2 (g : SsG [] h i Z) (z : ZOk c n Z) (hn : n <= 1000) (s : List UInt8) (hs : s.length <= 1000) :
  ∃ M Z', DoesS 24 [.box i 0, .v (.string (ah s))] h i Z (RepX h.length i Z' (M ++ [zB Z'.status])) Z' /\ ZOk c (n + 1) Z' /\ (∀ m ∈ M, BkG c m) /\ M.length <= 2000 := by
 have g1 := g.setEnts Z.clock (KE.del [] Z.st)
 have z1 := z.del []
 have via1 : Via h i Z [Z.a] (h.set Z.a (Z.del []).cells) (Z.del []) := (Via.refl h i Z).set (Iq Z i) _ rfl
 have hd := Z.del_cells []
 have h1 := g.top
 have h2 := g.ents
 have h3 := Z.of_cells
 have h4 := Z.keys
 have f1 : (h.set Z.a (Z.del []).cells)[i]? = some Z.top := by rw [Q9 (Ne.symm g.nd4.2.2.1)]; exact g.top
 obtain ⟨H2, w2, k2, g2, t2, hl2, hw2, hs2, hv2⟩ := g1.byP (Bn g1.por [])
 have z2 := z1.delP []
 have via2 := via1.byP hl2 hw2 hs2 hv2
 obtain ⟨M, o, Z3, d3, z3, m3, l3⟩ := Eb (Z := { (Z.del []) with S := (Z.del []).S.del [] }) g2 z2 hn s hs
 obtain ⟨H3, w3, v3, k3, r3, g3, t3, hl3, hw3, hs3, hv3⟩ := g2.byS d3
 have via3 := via2.step hl3 hw3 hs3 hv3
 have fin : True := trivial
 cases r3 with
 | err c0 t0 ho hm hv =>
  subst hv
  obtain ⟨H4, w4, v4, k4, r4, g4, t4, hl4, hw4, hs4, hv4⟩ := g3.byS (ur g3 c0 t0)
  subst r4
  have via4 := via3.step hl4 hw4 hs4 hv4
  obtain ⟨H5, w5, v5, k5, r5, g5, t5, hl5, hw5, hs5, hv5⟩ := g4.byS (ln g4)
  subst r5
  have via5 := via4.step hl5 hw5 hs5 hv5
  have hg5 := g5.hh
  have hl := via5.len
  refine ⟨[xl c0 t0], cb (nL Z3), via5.does g5 (x := .sl 11 (al aU ([xl c0 t0] ++ [zB (cb (nL Z3)).status])) none .no) ?_ (.sl rfl), z3.fail.ready, (fun m hm => by rw [Q7.1 hm]; exact Ak c _ _), by simp⟩
  rw [eF]
  refine ac Pu mixed (by simp [Gw]) fun hh hargs => ?_
  simp [Gw, h1, h2, h3, h4, hd, Zs.top_mk, f1]
  refine aa (by simp) k2 ?_
  simp
  refine aa (by simp) k3 ?_
  simp
  refine aa (by simp) k4 ?_
  simp
  refine dm ?_
  simp
  refine aa (by simp) k5 ?_
  simp [hg5, af]
  exact ⟨hl, fun q hq _ => hq⟩
 | one m ho hm hv =>
  subst hv hm
  have kb := pc g3
  obtain ⟨H5, w5, v5, k5, r5, g5, t5, hl5, hw5, hs5, hv5⟩ := g3.byS (ln g3)
  subst r5
  have via5 := via3.step hl5 hw5 hs5 hv5
  have hg5 := g5.hh
  have hl := via5.len
  refine ⟨[m], cb Z3, via5.does g5 (x := .sl 11 (al aU ([m] ++ [zB (cb Z3).status])) none .no) ?_ (.sl rfl), z3.ready, m3, by simp⟩
  rw [eF]
  refine ac Pu mixed (by simp [Gw]) fun hh hargs => ?_
  simp [Gw, h1, h2, h3, h4, hd, Zs.top_mk, f1]
  refine aa (by simp) k2 ?_
  simp
  refine aa (by simp) k3 ?_
  simp
  refine aa (by simp) kb ?_
  simp
  refine dm ?_
  simp
  refine aa (by simp) k5 ?_
  simp [hg5, af]
  exact ⟨hl, fun q hq _ => hq⟩
 | many b ho hm hv hlb hb hnb =>
  subst hv
  have kb := pc g3
  have g3b := g3.more hb hnb
  obtain ⟨H5, w5, v5, k5, r5, g5, t5, hl5, hw5, hs5, hv5⟩ := g3b.byS (ln g3)
  subst r5
  obtain ⟨b1, b2⟩ := g5.tmp _ (Rb ..)
  have b3 := t5 _ (Rb ..)
  dsimp only at b1 b2 b3
  have hbl : h.length <= b := by have := via2.len; omega
  have via5 := via3.step hl5 hw5 hs5 hv5
  have g6 := g5.none.setTmp (t := b) b2 (fun x hx => by cases hx) (c := []) trivial (fun x hx => by cases hx)
  have via6 := via5.new hbl []
  obtain ⟨X, hX⟩ : ∃ X, X = (al aU (M ++ [zB Z3.status])).flatten := ⟨_, rfl⟩
  have hXe : X = (al aU M).flatten ++ aU (zB Z3.status) := by rw [hX]; simp [al]
  have g7 := g6.app (c := X) (by rw [hX]; exact dT _ _) (by rw [hX]; exact cS _)
  have via7 := via6.app [X]
  obtain ⟨m7, n7⟩ := g7.tmp _ (Rb ..)
  have hg7 := g7.hh
  have hl := via7.len
  have hne : (al aU M).flatten ≠ [] := by
   cases M with
   | nil => exact absurd rfl hm
   | cons a r => simp [al, aB]
  have hfl : (al aU M).flatten.length = M.length * 11 := by
   have : ∀ M : List Bk, (al aU M).flatten.length = M.length * 11 := fun M => by
    induction M with
    | nil => rfl
    | cons a r ih => rw [de, List.flatten_cons, Ru, ih]; simp; omega
   exact this M
  have hcnt : (M ++ [zB Z3.status]).length = M.length + 1 := by simp
  have hMl : M.length <= 100000 := by omega
  have htk : (al aU M).flatten.take (M.length * 11) = (al aU M).flatten := List.take_of_length_le (by omega)
  have hlt5 : aR (H5.length + 1) (H5.set b []) := by
   have := aH (Ra _) g6.hh
   simpa using this
  have hlm := fun k => dT k M
  have hl5' := via5.len
  refine ⟨M, cb Z3, via7.does g7 (x := .bsl (H5.set b []).length 0 11 (M ++ [zB (cb Z3).status]).length) ?_ (.bx _ (by have := via6.len; exact this) rfl (by rw [eF, <- hX]; exact m7) n7), z3.ready, m3, l3⟩
  rw [eF, hcnt]
  simp only [zB, aB] at hXe k5
  have hidZ := cS [zB Z3.status]
  have hidM := cS M
  refine ac Pu mixed (by simp [Gw]) fun hh hargs => ?_
  simp [Gw, h1, h2, h3, h4, hd, Zs.top_mk, f1]
  refine aa (by simp) k2 ?_
  simp
  refine aa (by simp) k3 ?_
  simp
  refine aa (by simp) kb ?_
  simp
  refine qg (by omega) ?_
  simp
  refine aa (by simp) k5 ?_
  simp
  refine sM b1 hne (by omega) hidM (by simp) (by simp) (by simp; omega) (by simp; omega) ?_
  simp [htk, hXe, hlt5, hlm, af]
  exact ⟨by omega, fun q hq _ => .inr hq⟩
end
section
variable {L : List (Nat × List AV)} {h : List (List AV)} {i : Nat} {Z : Zs} {c : Bool} {n : Nat}
def lN (Z : Zs) (k : Int) : Bool := !Z.over && (!Z.skips || decide (k = 83 \/ k = 88))
theorem fk (g : SsG L h i Z) (k : Int) : ae Tryz.prog 22 [.box i 0, .v (.int .u8 k)] h (.v (.bool (lN Z k))) h [] := by
 have h1 := g.top
 unfold lN
 refine ac Qs mixed (by simp [Jd]) fun hh hargs => ?_
 cases ho : Z.over with
 | true => simp [Jd, h1, Zs.top_mk, ho, hh]
 | false =>
  cases hs : Z.skips with
  | false => simp [Jd, h1, Zs.top_mk, ho, hs, hh]
  | true =>
   by_cases jC : k = 83
   ·simp [Jd, h1, Zs.top_mk, ho, hs, hh, jC]
   ·have k83' : (k == 83) = false := by simpa using jC
    by_cases qE : k = 88 <;> simp [Jd, h1, Zs.top_mk, ho, hs, hh, jC, k83', qE]
def cu (Z : Zs) (f : Fm) : Bool := !Z.over && (decide (f.kind = 83) || (decide (f.kind = 81) && !Z.skips))
theorem BQ (g : SsG [] h i Z) (f : Fm) (hl : lN Z f.kind = false) : ae Tryz.prog 10 [.box i 0, .agg (aG f)] h (.sl 11 [] none .no) h [] := by
 have g1 := g.app (c := aG f) (by simp) (by simp [aF])
 have kl := fk g1 f.kind
 rw [hl] at kl
 refine ac GP mixed (by simp [va]) fun hh hargs => ?_
 simp [va]
 refine aa (by simp) kl ?_
 simp [hh, af]
theorem Dv {Z : Zs} {k : Int} (h : lN Z k = true) : Z.over = false /\ (Z.skips = false \/ k = 83 \/ k = 88) := by
 unfold lN at h
 cases ho : Z.over <;> cases hs : Z.skips <;> simp [ho, hs] at h ⊢
 exact h
theorem uw (g : SsG [] h i Z) (f : Fm) (hl : lN Z f.kind = true) (jC : f.kind = 83) :
  DoesS 10 [.box i 0, .agg (aG f)] h i Z (fun _ v => v = .sl 11 (al aU [zB Z.status]) none .no) (cb { Z with skips := false }) := by
 have g1 := g.app (c := aG f) (by simp) (by simp [aF])
 have kl := fk g1 f.kind
 rw [hl, jC] at kl
 have e1 : ∀ xs, (h ++ xs)[i]? = some Z.top := fun xs => g.at_ xs
 have e3 : ∀ xs cs, (h ++ xs).set i cs = h.set i cs ++ xs := fun xs cs => Re _ _ g.i_lt
 have g2 := (g.setTop Z.status false Z.over).app (c := aG f) (by simp) (by simp [aF])
 have via2 : Via h i Z [i] (h.set i { Z with status := Z.status, skips := false, over := Z.over }.top ++ [aG f]) { Z with status := Z.status, skips := false, over := Z.over } := ((Via.refl h i Z).set (xa Z i) _ (Z2 := { Z with status := Z.status, skips := false, over := Z.over }) rfl).app _
 obtain ⟨H5, w5, v5, k5, r5, g5, t5, hl5, hw5, hs5, hv5⟩ := g2.byS (ln g2.none)
 subst r5
 have via5 := via2.step hl5 hw5 hs5 hv5
 have hg5 := g5.hh
 have hlen := via5.len
 refine via5.does g5 (x := .sl 11 (al aU [zB Z.status]) none .no) ?_ rfl
 simp only [Zs.top_mk] at k5
 refine ac GP mixed (by simp [va]) fun hh hargs => ?_
 simp [va, jC]
 refine aa (by simp) kl ?_
 simp [jC, e1, Zs.top_mk, e3]
 refine aa (by simp) k5 ?_
 simp [hg5, af, hlen]
 intro q hq _
 first | exact hq | exact hq.symm | (rcases hq with hq | hq <;> simp [hq])
theorem DoesS.imp {f : FuncId} {args : List AV} {r r' : List (List AV) -> AV -> Prop} {Z' : Zs} (d : DoesS f args h i Z r Z') (hr : ∀ h' v, r h' v -> r' h' v) : DoesS f args h i Z r' Z' := by
 obtain ⟨h', wr, v, k, h1, rest⟩ := d
 exact ⟨h', wr, v, k, hr _ _ h1, rest⟩
theorem ll (g : SsG [] h i Z) (f : Fm) (hl : lN Z f.kind = true) (jC : ¬ f.kind = 83) (qE : ¬ f.kind = 88) (mV : ¬ f.kind = 81) {M : List Bk} {Z2 : Zs} (d2 : DoesS 25 [.box i 0, .agg (aG f)] (h ++ [aG f]) i Z (fun _ r => r = au M none) Z2) :
  DoesS 10 [.box i 0, .agg (aG f)] h i Z (fun _ v => v = .sl 11 (al aU M) none .no) { Z2 with status := Z2.status, skips := false, over := Z2.over } := by
 have k83' : (f.kind == 83) = false := by simpa using jC
 have k88' : (f.kind == 88) = false := by simpa using qE
 have k81' : (f.kind == 81) = false := by simpa using mV
 have g1 := g.app (c := aG f) (by simp) (by simp [aF])
 have via1 : Via h i Z [] (h ++ [aG f]) Z := (Via.refl h i Z).app _
 have kl := fk g1 f.kind
 rw [hl] at kl
 obtain ⟨H2, w2, r2, k2, hr2, g2, t2, hl2, hw2, hs2, hv2⟩ := g1.byS d2
 subst hr2
 have via2 := via1.step hl2 hw2 hs2 hv2
 have top2 := g2.top
 have g3 := g2.setTop Z2.status false Z2.over
 have via3 : Via h i Z (i :: (w2 ++ [])) (H2.set i { Z2 with status := Z2.status, skips := false, over := Z2.over }.top) { Z2 with status := Z2.status, skips := false, over := Z2.over } := via2.set (xa Z2 i) _ rfl
 have kb := pc g3
 have hg3 := g3.hh
 have hlen := via3.len
 refine via3.does g3 (x := .sl 11 (al aU M) none .no) ?_ rfl
 simp only [Zs.top_mk] at kb hg3 hlen ⊢
 simp only [wF] at k2
 refine ac GP mixed (by simp [va]) fun hh hargs => ?_
 simp [va, jC, k83', qE, k88', mV, k81']
 refine aa (by simp) kl ?_
 simp [jC, k83', qE, k88', mV, k81']
 refine aa (by simp) k2 ?_
 simp [top2, Zs.top_mk]
 refine aa (by simp) kb ?_
 simp
 refine sL (by omega) ?_
 simp at hg3 hlen
 simp [hg3, af, hlen, aY]
 exact fun q hq _ => .inr hq
theorem BR (g : SsG [] h i Z) (f : Fm) (hl : lN Z f.kind = true) (jC : ¬ f.kind = 83) (qE : ¬ f.kind = 88) (mV : ¬ f.kind = 81) {M : List Bk} {c0 t0 : List UInt8} {Z2 : Zs} (d2 : DoesS 25 [.box i 0, .agg (aG f)] (h ++ [aG f]) i Z (fun _ r => r = au M (some (c0, t0))) Z2) :
  DoesS 10 [.box i 0, .agg (aG f)] h i Z (fun _ v => v = .sl 11 (al aU [xl c0 t0]) none .no) (nL { Z2 with status := Z2.status, skips := true, over := Z2.over }) := by
 have k83' : (f.kind == 83) = false := by simpa using jC
 have k88' : (f.kind == 88) = false := by simpa using qE
 have k81' : (f.kind == 81) = false := by simpa using mV
 have g1 := g.app (c := aG f) (by simp) (by simp [aF])
 have via1 : Via h i Z [] (h ++ [aG f]) Z := (Via.refl h i Z).app _
 have kl := fk g1 f.kind
 rw [hl] at kl
 obtain ⟨H2, w2, r2, k2, hr2, g2, t2, hl2, hw2, hs2, hv2⟩ := g1.byS d2
 subst hr2
 have via2 := via1.step hl2 hw2 hs2 hv2
 have top2 := g2.top
 have g3 := g2.setTop Z2.status true Z2.over
 have via3 : Via h i Z (i :: (w2 ++ [])) (H2.set i { Z2 with status := Z2.status, skips := true, over := Z2.over }.top) { Z2 with status := Z2.status, skips := true, over := Z2.over } := via2.set (xa Z2 i) _ rfl
 obtain ⟨h4, w4, r4, k4, hr4, g4, t4, hl4, hw4, hs4, hv4⟩ := g3.byS (ur g3.none c0 t0)
 subst hr4
 have via4 := via3.step hl4 hw4 hs4 hv4
 have hg4 := g4.hh
 have hlen := via4.len
 refine via4.does g4 (x := .sl 11 (al aU [xl c0 t0]) none .no) ?_ rfl
 simp only [Zs.top_mk] at k4
 simp only [wG] at k2
 simp only [AL] at k4
 refine ac GP mixed (by simp [va]) fun hh hargs => ?_
 simp [va, jC, k83', qE, k88', mV, k81']
 refine aa (by simp) kl ?_
 simp [jC, k83', qE, k88', mV, k81']
 refine aa (by simp) k2 ?_
 simp [top2, Zs.top_mk]
 refine aa (by simp) k4 ?_
 simp
 refine dm ?_
 simp [hg4, af, hlen]
 exact fun q hq _ => hq
set_option maxHeartbeats 1000000 in
theorem Ls (g : SsG [] h i Z) (z : ZOk c n Z) (hn : n <= 1000) (f : Fm) (hf : FmS c f) :
  ∃ M Z', DoesS 10 [.box i 0, .agg (aG f)] h i Z (RepX h.length i Z' (M ++ (if cu Z f = true then [zB Z'.status] else []))) Z' /\ ZOk c (n + 1) Z' /\ (∀ m ∈ M, BkG c m) /\ M.length <= 2000 := by
 cases hl : lN Z f.kind with
 | false =>
  have hw : cu Z f = false := by
   unfold lN at hl
   unfold cu
   cases ho : Z.over <;> cases hs : Z.skips <;> simp [ho, hs] at hl ⊢
   exact hl.1
  exact ⟨[], Z, g.idle (BQ g f hl) (by rw [hw]; exact .sl rfl), z.mono (Ra _), (fun m hm => by cases hm), by simp⟩
 | true =>
  obtain ⟨ho, hsk⟩ := Dv hl
  by_cases jC : f.kind = 83
  ·have hw : cu Z f = true := by unfold cu; simp [ho, jC]
   obtain ⟨h', wr, v, kk, hv, rest⟩ := uw g f hl jC
   refine ⟨[], cb { Z with skips := false }, ⟨h', wr, v, kk, ?_, rest⟩, ((z.setT z.st false Z.over).ready).mono (Ra _), (fun m hm => by cases hm), by simp⟩
   rw [hw]
   exact .sl hv
  have k83' : (f.kind == 83) = false := by simpa using jC
  have g1 := g.app (c := aG f) (by simp) (by simp [aF])
  have via1 : Via h i Z [] (h ++ [aG f]) Z := (Via.refl h i Z).app _
  have kl := fk g1 f.kind
  rw [hl] at kl
  have e1 : ∀ xs, (h ++ xs)[i]? = some Z.top := fun xs => g.at_ xs
  have e3 : ∀ xs cs, (h ++ xs).set i cs = h.set i cs ++ xs := fun xs cs => Re _ _ g.i_lt
  by_cases qE : f.kind = 88
  ·have hw : cu Z f = false := by unfold cu; simp [qE]
   refine ⟨[], { Z with status := Z.status, skips := Z.skips, over := true }, g.turned Z.status Z.skips true (v := .sl 11 [] none .no) ?_ (fun h' => by rw [hw]; exact .sl rfl), (z.setT z.st Z.skips true).mono (Ra _), (fun m hm => by cases hm), by simp⟩
   have hlt := ay (i := i) g.hh (Zs.top_lt { Z with over := true } g.e_lt g.a_lt g.p_lt)
   simp only [Zs.top_mk] at hlt ⊢
   rw [qE] at kl
   refine ac GP mixed (by simp [va]) fun hh hargs => ?_
   simp [va, qE]
   refine aa (by simp) kl ?_
   simp [qE, e1, Zs.top_mk, e3, hlt, af, aY]
  have k88' : (f.kind == 88) = false := by simpa using qE
  have hns : Z.skips = false := hsk.resolve_right (by rintro (e | e); exact jC e; exact qE e)
  by_cases mV : f.kind = 81
  ·have hw : cu Z f = true := by unfold cu; simp [ho, mV, hns]
   obtain ⟨M, Z2, d2, z2, m2⟩ := B2 g1.none z hn f.text hf.text
   obtain ⟨h5, w5, r5, k5, hr5, g5, t5, hl5, hw5, hs5, hv5⟩ := g1.byS d2
   have via5 := via1.step hl5 hw5 hs5 hv5
   have hlen := via5.len
   have hg5 := g5.hh
   rw [mV] at kl
   cases hr5 with
   | sl hv =>
    subst hv
    refine ⟨M, Z2, via5.does g5 (x := .sl 11 (al aU (M ++ [zB Z2.status])) none .no) ?_ (by rw [hw]; exact .sl rfl), z2, m2⟩
    refine ac GP mixed (by simp [va]) fun hh hargs => ?_
    simp [va, mV]
    refine aa (by simp) kl ?_
    simp [mV]
    refine aa (by simp) k5 ?_
    simp [hg5, af, hlen]
    exact fun q hq _ => hq
   | bx b hlb hv hb hnb =>
    subst hv
    have hbl : b < h5.length := (Rh.1 hb).1
    refine ⟨M, Z2, via5.does g5 (x := .bsl b 0 11 (M ++ [zB Z2.status]).length) ?_ (by rw [hw]; exact .bx b (by simp at hlb; omega) rfl hb hnb), z2, m2⟩
    refine ac GP mixed (by simp [va]) fun hh hargs => ?_
    simp [va, mV]
    refine aa (by simp) kl ?_
    simp [mV]
    refine aa (by simp) k5 ?_
    simp [hg5, af, hlen, hbl]
    exact fun q hq _ => hq
  have hw : cu Z f = false := by unfold cu; simp [jC, mV]
  obtain ⟨M, o, Z2, d2, z2, m2⟩ := Ed g1.none z hn f hf
  cases o with
  | none => exact ⟨M, _, (ll g f hl jC qE mV d2).imp fun h' v hv => by rw [hw]; exact .sl (by simpa using hv), z2.setT z2.st false Z2.over, m2⟩
  | some e =>
   obtain ⟨c0, t0⟩ := e
   exact ⟨[xl c0 t0], _, (BR g f hl jC qE mV d2).imp fun h' v hv => by rw [hw]; exact .sl (by simpa using hv), (z2.setT z2.st true Z2.over).fail, (fun m hm => by rw [Q7.1 hm]; exact Ak c _ _), by simp⟩
end
section
variable {L : List (Nat × List AV)} {h : List (List AV)} {i : Nat} {Z : Zs}
theorem lX (g : SsG L h i Z) : ae Tryz.prog 14 [.box i 0] h (.v (.int .u8 Z.status)) h [] := by
 have h1 := g.top
 refine ac Ql mixed (by simp [Nq]) fun hh hargs => ?_
 simp [Nq, h1, Zs.top_mk, hh]
theorem B3 (g : SsG L h i Z) : ae Tryz.prog 11 [.box i 0] h (.v (.bool Z.skips)) h [] := by
 have h1 := g.top
 refine ac Qi mixed (by simp [Nh]) fun hh hargs => ?_
 simp [Nh, h1, Zs.top_mk, hh]
theorem Ec {x0 x1 x2 x3 x4 : AV} {b : Bool} (h1 : h[i]? = some [x0, x1, x2, x3, x4, .v (.bool b)]) : ae Tryz.prog 12 [.box i 0] h (.v (.bool b)) h [] := by
 refine ac Qj mixed (by simp [No]) fun hh hargs => ?_
 simp [No, h1, hh]
def lO (l : List (KE Sx)) : List (List UInt8) := ey (l.map KE.key)
theorem BZ {a clock : Nat} {l : List (KE Sx)} {x0 x2 x3 x4 x5 : AV} (e1 : h[i]? = some [x0, .mp a 2 false, x2, x3, x4, x5]) (e2 : h[a]? = some (aJ clock (l.map (KE.ent eC)))) (ho : KE.Ok clock l) (hlen : l.length <= 4096) (hp : bZ h) :
  ae Tryz.prog 13 [.box i 0] h (.sl 1 (al gh (lO l)) none .no) h [] := by
 have hi := (Rh.1 e1).1
 have hla := (Rh.1 e2).1
 have e3 := KE.ents_of xY clock l
 have g2 : ∀ xs, (h ++ xs)[a]? = some (aJ clock (l.map (KE.ent eC))) := fun xs => by rw [Q8 hla]; exact e2
 obtain ⟨MC, hMC⟩ : ∃ MC, MC = aJ clock (l.map (KE.ent eC)) := ⟨_, rfl⟩
 rw [<- hMC] at e2 e3 g2
 refine ac Qk mixed (by simp [Np]) fun hh hargs => ?_
 simp [Np, e1, e2, e3]
 refine ar (D := List (KE Sx)) (fun seen => ⟨[(0, .box i 0), (11, .itr h.length (some a) 2 false)], [(3, .sl 1 (al gh (seen.map KE.key)) none (.own (.new 3)))], h ++ [nS clock clock (seen.map KE.born)], []⟩) (fun seen => KE.Seen l seen) (fun seen => l.length - seen.length) [] ⟨Rr, fun x hx => by cases hx⟩ ?_ ?_
 ·simp [Leq, hh, hargs, hi, hla, af, nS]
  omega
 ·intro seen hs
  simp [g2, e3]
  refine ⟨fun a ha => ho.lt a ha, fun hall => ?_, ?_⟩
  ·have hperm := hs.perm ho fun x hx => hall x hx
   have hlen2 : (seen.map KE.key).length <= 4096 := by rw [List.length_map, hperm.length_eq]; exact hlen
   have hsort : ey (seen.map KE.key) = lO l := wA (hperm.map _)
   refine ⟨mY (seen.map KE.key), mY (ey (seen.map KE.key)), 1, none, .own (.new 3), by rw [yd]; rfl, .inl ⟨rfl, _, rfl, rfl⟩, zF (seen.map KE.key) (by omega), ⟨by simp, hp⟩, by simp, ?_⟩
   rw [yd, hsort]
   have hres : ∀ m (es : List (List AV)), iu m (.sl 1 es none (.own (.new 2))) = .sl 1 es none (.own .res) := fun _ _ => rfl
   simp [St.sorted, St.calm, hh, hres]
   done
  ·intro a ha hnew
   have hb := KE.at_born (f := eC) ho.borns ha
   have hkey : (KE.ent eC a).key = .string (ah a.key) := rfl
   have hborn : (KE.ent eC a).born = a.born := rfl
   have hout : a ∉ seen := fun hx => hnew a hx rfl
   have hs2 := hs.snoc ha hout
   have hle := hs2.le
   simp at hle
   simp [hb, hkey, hborn]
   refine ⟨by omega, by omega, seen ++ [a], hs2, by simp; omega, ?_⟩
   simp [Leq, hh, hargs, hi, hla, af, nS, gh, al, KE.ent, eC]
   refine ⟨cE fun j c hc => ?_, iR fun j c hc => ?_, by omega, by omega⟩
   ·obtain ⟨b, _, rfl⟩ := Rc.1 (Rj hc); simp
   ·obtain ⟨b, _, rfl⟩ := Rc.1 (Rj hc); simp [gh]
theorem SsG.names {c : Bool} {n : Nat} (g : SsG L h i Z) (z : ZOk c n Z) (hn : n <= 1000) : ae Tryz.prog 13 [.box i 0] h (.sl 1 (al gh (lO Z.st)) Option.none .no) h [] :=
 BZ g.top g.ents z.ko (by have := z.len; omega) g.pl
theorem B0 (e : AV) (he : e.idOf = none) (hu : e.cells = some [e]) (hun : e.unown = e) (h : List (List AV)) (hl : e.lt h.length) : ae Tryz.prog 8 [e] h (.box (h.length + 3) 0) (h ++ [aJ 0 [], aJ 0 [], [.mp (h.length + 1) 1 true], [e, .mp h.length 2 false, .box (h.length + 2) 0, .v (.int .u8 73), .v (.bool false), .v (.bool false)]]) [] := by
 refine ac k8 mixed (by simp [c8]) fun hh hargs => ?_
 have hl4 := aH (Ro h.length 4) hh
 have hle := sg (Ro h.length 4) hl
 simp [c8, he]
 refine aa (by simp) (Hg _) ?_
 simp [he, hu, hun]
 simp [aJ, hl4, hle]
def z0 (b : Nat) : Zs := ⟨b + 1, Bf b, b + 2, 0, [], b + 4, DA (b + 3), 73, false, false⟩
def dU (h : List (List AV)) : List (List AV) := h ++ [aJ 0 [], fB h.length 0, aJ 0 [], aJ 0 [], [.mp (h.length + 3) 1 true], (z0 h.length).top]
theorem FJ (hh : aR h.length h) (hp : bZ h) : SsG [] (dU h) (h.length + 5) (z0 h.length) := by
 have at_ : ∀ (j : Nat) (l : List (List AV)), (h ++ l)[h.length + j]? = l[j]? := fun j l => by rw [Rk (by omega)]; simp
 have hl := aH (Ro h.length 6) hh
 refine ⟨?_, ⟨?_, ?_, ?_⟩, ?_, ⟨?_, ?_, fun x hx => (by cases hx), fun x hx => (by cases hx), fun x hx => (by cases hx), fun x hx => (by cases hx), ?_, ?_⟩, ?_, ?_, fun t ht => (by cases ht), ?_⟩
 ·unfold dU; rw [at_]; rfl
 ·unfold dU; show (h ++ _)[h.length + 1]? = _; rw [at_]; rfl
 ·unfold dU; show (h ++ _)[h.length]? = _; rw [Rk (Rf _)]; simp [z0, Bf, Eg.cells]
 ·show h.length + 1 ≠ h.length; omega
 ·unfold dU; show (h ++ _)[h.length + 2]? = _; rw [at_]; rfl
 ·unfold dU; show (h ++ _)[h.length + 4]? = _; rw [at_]; rfl
 ·unfold dU; show (h ++ _)[h.length + 3]? = _; rw [at_]; rfl
 ·show h.length + 4 ≠ h.length + 3; omega
 ·unfold dU; simp [z0, Zs.top, fB, aJ, hl]
 ·simp [Zs.own, z0, Bf]
 ·intro q hq
  simp [Zs.own, z0, Bf] at hq
  simp [z0, DA, Ps.vars]
  omega
 ·unfold dU
  refine cG hp fun cs hcs => ?_
  simp [aJ, fB, z0, Zs.top] at hcs
  rcases hcs with rfl | rfl | rfl | rfl | rfl <;> simp
theorem CC (c : Bool) (b : Nat) : ZOk c 0 (z0 b) := ⟨Rf _, ⟨Rr, Rr, fun x hx => by cases hx⟩, Rf _, (fun x hx => by cases hx), DB _, (fun x hx => by cases hx), rfl⟩
theorem EB (b : Nat) : ∀ q ∈ (z0 b).vars (b + 5), b <= q := fun q hq => by
 simp [Zs.vars, Zs.own, z0, Bf, DA, Ps.vars] at hq
 omega
theorem DoesS.low {f : FuncId} {args : List AV} {r : List (List AV) -> AV -> Prop} {Z' : Zs} (d : DoesS f args h i Z r Z') {lo : Nat} (hlo : ∀ q ∈ Z.vars i, lo <= q) (hl : lo <= h.length) :
  ∃ h' wr v, ae Tryz.prog f args h v h' wr /\ r h' v /\ SsG [] h' i Z' /\ (∀ q ∈ wr, lo <= q) /\ h.length <= h'.length /\ (∀ q < lo, h'[q]? = h[q]?) /\ (∀ q ∈ Z'.vars i, lo <= q) := by
 obtain ⟨h', wr, v, k, hr, g', hw, hlen, hs, hv⟩ := d
 refine ⟨h', wr, v, k, hr, g', fun q hq => ?_, hlen, fun q hq => hs q (by omega) fun hh => by have := hlo q hh; omega, fun q hq => ?_⟩
 ·rcases Nat.lt_or_ge q h.length with h1 | h1
  ·exact hlo q (hw q hq h1)
  ·omega
 ·rcases hv q hq with h1 | h1
  ·exact hlo q h1
  ·omega
end
theorem zx (l : List (List UInt8)) (hl : l.length <= 1000000) (h : List (List AV)) : ae Tryz.prog 15 [.sl 1 (al gh l) none .no, .sl 1 (al gh l) none .no] h (.v (.bool true)) h [] := by
 refine ac Qm mixed (by simp [Nr]) fun hh hargs => ?_
 simp [Nr]
 refine ar (D := Nat) (fun j => ⟨[(0, .sl 1 (al gh l) none .no), (1, .sl 1 (al gh l) none .no), (12, .v (.int .i64 (l.length : Int))), (13, .v (.int .i64 (j : Int)))], [], h, []⟩) (fun j => j <= l.length) (fun j => l.length - j) 0 (by simp) ?_ ?_
 ·simp [Leq, hh]
 ·intro j hj
  by_cases hlt : j < l.length
  ·have hw : IntKind.i64.wrap ((j : Int) + 1) = (j : Int) + 1 := wrap64 (by omega) (by omega)
   simp [hlt, gh, hw]
   refine ⟨j + 1, by omega, by omega, ?_⟩
   simp [Leq, hh]
  ·simp [hlt, hh]
def f1S : Fm := ⟨80, 0, [97], [], [98, 101, 103, 105, 110], [], [], [], [], 0⟩
def f2S : Fm := ⟨66, 0, [97], [], [], [], [], [], [], 0⟩
def f3S : Fm := ⟨69, 0, [], [], [], [], [], [], [], 0⟩
def PP : Fm := ⟨83, 0, [], [], [], [], [], [], [], 0⟩
theorem pb : (gG [98, 101, 103, 105, 110]).kind = 2 := by decide +kernel
set_option maxHeartbeats 2000000 in
theorem uq (h : List (List AV)) (hp : bZ h) : ae Tryz.prog 7 [] h (.v (.bool true)) h [] := by
 refine ac k7 mixed (by simp [c7]) fun hh hargs => ?_
 have g0 := FJ hh hp
 have lo0 := EB h.length
 have l0 : h.length <= (dU h).length := by unfold dU; simp
 obtain ⟨b, hb⟩ : ∃ b, b = h.length := ⟨_, rfl⟩
 rw [<- hb] at g0 lo0
 have hvd : fV (z0 b) [98, 101, 103, 105, 110] = none := by
  unfold fV PL verdict
  rw [pb]
  rfl
 obtain ⟨s1, hs1⟩ : ∃ s1 : Sx, s1 = ⟨[98, 101, 103, 105, 110], []⟩ := ⟨_, rfl⟩
 have p1 : oc (z0 b) f1S = none /\ ki (z0 b) f1S = (z0 b).put [97] s1 := by
  have hvd' : fV (z0 b) f1S.text = none := hvd
  unfold oc ki
  rw [hvd', hs1]
  exact ⟨rfl, rfl⟩
 have g0a := (g0.app (c := aG f1S) (by simp) (by simp [aF])).none
 have g0b := (g0a.app (c := aG f1S) (by simp) (by simp [aF])).none
 have d1 := uA g0b (CC false b).ko f1S (by simp [f1S]) (by simp [f1S]) (by simp [f1S])
 rw [p1.1, p1.2] at d1
 have D1 := ll g0 f1S rfl (by decide) (by decide) (by decide) (xV g0a f1S rfl d1)
 obtain ⟨h1, w1, v1, k1, r1, g1, lw1, hl1, hs1', lo1⟩ := D1.low lo0 (by omega)
 subst r1
 obtain ⟨Z1, hZ1⟩ : ∃ Z1, Z1 = { (z0 b).put [97] s1 with status := ((z0 b).put [97] s1).status, skips := false, over := ((z0 b).put [97] s1).over } := ⟨_, rfl⟩
 rw [<- hZ1] at g1 lo1
 have z1 : ZOk false 1 Z1 := by rw [hZ1]; exact ((CC false b).put [97] (by rw [hs1]; simp)).setT rfl _ _
 have st1 : Z1.status = 73 /\ Z1.over = false /\ Z1.skips = false /\ Z1.st = [⟨[97], 0, s1⟩] := by rw [hZ1]; exact ⟨rfl, rfl, rfl, rfl⟩
 have get1 : Z1.get [97] = some s1 := by unfold Zs.get; rw [st1.2.2.2]; rfl
 have al1 : ∀ s, ed Z1 s = none := fun s => by unfold ed; rw [if_neg (by rw [st1.1]; simp)]
 have b1 : mh Z1 f2S = none := by
  have : dk Z1 f2S.name = (s1, none) := by
   show dk Z1 [97] = _
   unfold dk
   rw [get1]
   simp only [al1]
  unfold mh
  rw [this, hs1]
  rfl
 have g1a := (g1.app (c := aG f2S) (by simp) (by simp [aF])).none
 have g1b := (g1a.app (c := aG f2S) (by simp) (by simp [aF])).none
 obtain ⟨Z2', d2, _, q2⟩ := xL g1b z1.po z1.short f2S (by simp [f2S]) (by simp [f2S]) (by simp [f2S])
 obtain ⟨x, s2, hg2, hx, rfl⟩ := q2 b1
 have hg2' : Z1.get [97] = some s2 := hg2
 rw [get1] at hg2'
 injection hg2' with hg2'
 subst hg2'
 rw [b1] at d2
 have D2 := ll g1 f2S (by unfold lN; rw [st1.2.1, st1.2.2.1]; rfl) (by decide) (by decide) (by decide) (xT g1a f2S rfl d2)
 obtain ⟨h2, w2, v2, k2, r2, g2, lw2, hl2, hs2, lo2⟩ := D2.low lo1 (by omega)
 subst r2
 obtain ⟨Z2, hZ2⟩ : ∃ Z2, Z2 = { ({ Z1 with S := Z1.S.put f2S.portal x } : Zs) with status := Z1.status, skips := false, over := Z1.over } := ⟨_, rfl⟩
 have g2 : SsG [] h2 (b + 5) Z2 := by rw [hZ2]; exact g2
 have lo2 : ∀ q ∈ Z2.vars (b + 5), b <= q := by rw [hZ2]; exact lo2
 have hpf : PtF false x.p := by rw [hx]; exact ⟨by rw [hs1]; simp [dv], by rw [hs1]; simp [dv], by simp [dv, f2S, lz], by simp [dv, RowsF]⟩
 have z2 : ZOk false 1 Z2 := by rw [hZ2]; exact (z1.putP f2S.portal hpf).setT z1.st _ _
 have st2 : Z2.status = 73 /\ Z2.over = false /\ Z2.skips = false /\ Z2.st = [⟨[97], 0, s1⟩] /\ Z2.S.get [] = some x := by
  rw [hZ2]
  refine ⟨st1.1, st1.2.1, rfl, st1.2.2.2, ?_⟩
  show (Z1.S.put [] x).get [] = some x
  rw [Ps.get_put z1.po]; rfl
 have g2a := (g2.app (c := aG f3S) (by simp) (by simp [aF])).none
 have g2b := (g2a.app (c := aG f3S) (by simp) (by simp [aF])).none
 obtain ⟨M, o, Z3', d3, z3', m3, ex⟩ := xM g2b z2 (by omega) f3S.portal (by simp [f3S]) f3S.max
 have hxt : (gG x.p.text).kind = 2 := by rw [hx]; show (gG s1.text).kind = 2; rw [hs1]; exact pb
 obtain ⟨e1, e2, e3, e4, e5, e6, e7⟩ := ex x st2.2.2.2.2 (by unfold ed; rw [if_neg (by rw [st2.1]; simp)]) (by rw [hx]; rfl) (by rw [hxt]; rfl) (by unfold fY; rw [if_neg (by rw [hxt]; decide)])
 subst e2
 have D3 := ll g2 f3S (by unfold lN; rw [st2.2.1, st2.2.2.1]; rfl) (by decide) (by decide) (by decide) (xU g2a f3S rfl d3)
 obtain ⟨h3, w3, v3, k3, r3, g3, lw3, hl3, hs3, lo3⟩ := D3.low lo2 (by omega)
 subst r3
 have hM : M = [Ca lu] := by
  rw [e1]
  unfold js
  rw [if_neg (by rw [hxt]; decide), hxt, st2.1]; rfl
 have hst3 : Z3'.status = 84 := by
  rw [e3]
  unfold gL
  rw [if_neg (by rw [hxt]; decide)]
  show yb Z2.status (gG x.p.text).kind = 84
  rw [st2.1, hxt]; rfl
 obtain ⟨Z3, hZ3⟩ : ∃ Z3, Z3 = { Z3' with status := Z3'.status, skips := false, over := Z3'.over } := ⟨_, rfl⟩
 rw [<- hZ3] at g3 lo3
 have st3 : Z3.status = 84 /\ Z3.over = false /\ Z3.skips = false /\ Z3.st = [⟨[97], 0, s1⟩] := by rw [hZ3]; exact ⟨hst3, e7.trans st2.2.1, rfl, e4.trans st2.2.2.2.1⟩
 have z3 : ZOk false 2 Z3 := by rw [hZ3]; exact z3'.setT z3'.st _ _
 have D4 := uw g3 PP (by unfold lN; rw [st3.2.1, st3.2.2.1]; rfl) rfl
 obtain ⟨h4, w4, v4, k4, r4, g4, lw4, hl4, hs4, lo4⟩ := D4.low lo3 (by omega)
 subst r4
 rw [st3.1] at k4
 have z4 := (z3.setT z3.st false Z3.over).ready
 have kst := lX g4
 have kst' : ae Tryz.prog 14 [.box (b + 5) 0] h4 (.v (.int .u8 84)) h4 [] := by
  have : (cb { Z3 with skips := false }).status = 84 := st3.1
  rw [this] at kst; exact kst
 have kn := g4.names z4 (by omega)
 have hnm : lO (cb { Z3 with skips := false }).st = [[97]] := by
  show lO Z3.st = _
  rw [st3.2.2.2]
  unfold lO ey
  simp
 rw [hnm] at kn
 have hbT : aU (Ca lu) = [AV.v (.int .u8 67), .v (.int .u8 0), .v (.string (ah [66, 69, 71, 73, 78])), .v (.string (ah [])), .v (.string (ah [])), .v (.int .i64 0), .v (.int .i64 0), .sl 1 [] none .no, .sl 7 [] none .no, .sl 2 [] none .no, .sl 2 [] none .no] := rfl
 have hbZ : aU (zB 84) = [AV.v (.int .u8 90), .v (.int .u8 84), .v (.string (ah [])), .v (.string (ah [])), .v (.string (ah [])), .v (.int .i64 0), .v (.int .i64 0), .sl 1 [] none .no, .sl 7 [] none .no, .sl 2 [] none .no, .sl 2 [] none .no] := rfl
 rw [hM] at k3
 have ke := AJ h
 have hh2 : h ++ [aJ 0 [], fB h.length 0] = h ++ [aJ 0 [], fB h.length 0] := rfl
 have kn0 := B0 (.box (h.length + 1) 0) rfl rfl rfl (h ++ [aJ 0 [], fB h.length 0]) (by simp)
 have hheap : (h ++ [aJ 0 [], fB h.length 0]) ++ [aJ 0 [], aJ 0 [], [.mp ((h ++ [aJ 0 [], fB h.length 0]).length + 1) 1 true], [.box (h.length + 1) 0, .mp (h ++ [aJ 0 [], fB h.length 0]).length 2 false, .box ((h ++ [aJ 0 [], fB h.length 0]).length + 2) 0, .v (.int .u8 73), .v (.bool false), .v (.bool false)]] = dU h := by
  unfold dU
  simp [z0, Zs.top]
 rw [hheap] at kn0
 have hlen2 : (h ++ [aJ 0 [], fB h.length 0]).length + 3 = b + 5 := by simp [hb]
 rw [hlen2] at kn0
 subst hb
 simp [c7]
 refine aa (by simp) ke ?_
 simp
 refine aa (by simp) kn0 ?_
 simp
 refine ao k1 (by simp [aF, f1S]) (by simp) ?_
 simp
 refine ao k2 (by simp [aF, f2S]) (by simp) ?_
 simp
 refine ao k3 (by simp [aF, f3S]) (by simp) ?_
 simp
 refine ao k4 (by simp [aF, PP]) (by simp) ?_
 simp [hbT, hbZ]
 refine aa (by simp) kst' ?_
 simp
 refine aa (by simp) kn ?_
 simp
 refine ao (zx [[97]] (by simp) _) (by simp [gh]) (by simp) ?_
 simp [hh]
 have hk : ∀ q < h.length, h4[q]? = h[q]? := fun q hq => by
  rw [hs4 q hq, hs3 q hq, hs2 q hq, hs1' q hq]
  unfold dU
  rw [Q8 hq]
 refine ⟨by omega, za (by omega) hk, fun q hq => ?_⟩
 rcases hq with hq | hq | hq | hq
 ·exact lw4 q hq
 ·exact lw3 q hq
 ·exact lw2 q hq
 ·exact lw1 q hq
end Go.Proofs.YtknohkmpficjgaaGreatDoor.Ax
