import Derived.LaidEql
import Derived.Stop.Asserts
import Derived.RowKitTokens
import Derived.Deep.MidRow
import Derived.Test.YtknohkmpficjgaaGreatDoorQAxIp
set_option linter.unusedSimpArgs false
set_option linter.unusedVariables false
open List renaming getElem?_eq_getElem -> Q7, getElem?_eq_some_iff -> Q8, getElem?_eq_none -> Q9, getElem?_map -> Rb
open Nat renaming add_zero -> Ra
namespace Go.Proofs.YtknohkmpficjgaaGreatDoor.Ax
open Go.RowKit Go By
set_option maxRecDepth 10000
section
variable {P : Program} {f : FuncId} {args : List AV} {h : List (List AV)}
theorem WorldOk.below_of {G : Ghost} {w w' : World} (hW : WorldOk G w) (hb : Below w.heap.size w w') : WorldOk G w' := by
 have hcell : ∀ (b j : Nat), b < w.heap.size -> w'.cell? ⟨b, j, none⟩ = w.cell? ⟨b, j, none⟩ /\ w'.frozen? ⟨b, j, none⟩ = w.frozen? ⟨b, j, none⟩ := fun b j hlt =>
  ⟨World.cell?_of_block (w := w) (a := ⟨b, j, none⟩) (hb.block b hlt), World.frozen?_of_block (w := w) (a := ⟨b, j, none⟩) (hb.block b hlt)⟩
 refine ⟨hW.below.trans (hb.mono hW.size), fun b B hB => ?_, fun i b us h1 h2 => ?_, hW.nodup2, hW.len, hW.objK (dg hb)⟩
 ·obtain ⟨h1, h2, h3, h4, h5⟩ := hW.buf b B hB
  exact ⟨h1, by have := hb.size; omega, h3, fun j hj => by rw [(hcell b j h2).1, (hcell b j h2).2]; exact h4 j hj, fun j x hx => by rw [(hcell b j h2).1]; exact h5 j x hx⟩
 ·obtain ⟨h3, h4, h5, h6⟩ := hW.box i b us h1 h2
  exact ⟨h3, by have := hb.size; omega, h5, fun j x hx => by rw [(hcell b _ h4).1, (hcell b _ h4).2]; exact h6 j x hx⟩
theorem WorldOk.cell0 {G : Ghost} {w : World} (hW : WorldOk G w) {b : Nat} {x : Value} (hd : G.w0.cell? ⟨b, 0, none⟩ = some x) : w.cell? ⟨b, 0, none⟩ = some x := by
 have hlt : b < G.w0.heap.size := fw (b := b) (j := 0) (by rw [hd]; rfl)
 rw [hW.below.cell (p := ⟨b, 0, none⟩) hlt]
 exact hd
theorem mT (hE : cL P f = true) {i : Nat} {cs : List AV} {xs : List Value} {r : AV} (hcs : h[i]? = some cs) (hl : xs.length = cs.length) (hx : ∀ x ∈ xs, x.oneCell' = true) (hr : r.idOf = none)
  (hc : ∀ (G : Ghost) (w : World) (vs : List Value), WorldOk G w -> db G h -> SeesL G args vs -> ∃ b v, G.boxes[i]? = some b /\ G.kinds b = none /\ Sees G r v /\ Calls P f vs.toArray w fun e w' => e = .returned v /\ ∃ w1, Below w.heap.size w w1 /\ w' = w1.setCells b (G.base i) xs) :
  ae P f args h r (h.set i (xs.map AV.v)) [i] := by
 refine ⟨cl hE, fun G w vs cls hW hS hvs hown hoh => ?_⟩
 obtain ⟨b, v, hb, hk, hv, hcl⟩ := hc G w vs hW hS hvs
 refine hcl.mono fun e w' he => ?_
 obtain ⟨rfl, w1, hbel, rfl⟩ := he
 have hlh : i < h.length := (Q8.1 hcs).1
 have hbl : i < G.boxv.length := by rw [<- hS.1]; exact hlh
 obtain ⟨us, hus⟩ : ∃ us, G.boxv[i]? = some us := ⟨_, Q7 hbl⟩
 obtain ⟨q1, q2, q3⟩ := hS.2 i cs us hcs hus
 have hW' := (hW.below_of hbel).setBox hb hk hus 0 xs (by rw [q1]; omega)
 have hxu : xs.length = us.length := by omega
 have el : Ax.lay us 0 xs = xs := List.ext_getElem? fun q => by
  rw [gV xs us 0 q (by omega), Nat.zero_add, Nat.sub_zero]
  split
  ·rfl
  ·rw [Q9 (by omega), Q9 (by omega)]
 rw [el, Ra] at hW'
 have hE' : Ext G (G.setBox i xs) := Ext.setBox i _
 have at_ : ∀ (j : Nat) (ds : List AV) (ws : List Value), (h.set i (xs.map AV.v))[j]? = some ds -> (G.boxv.set i xs)[j]? = some ws -> (j = i /\ ds = xs.map AV.v /\ ws = xs) \/ (j ≠ i /\ h[j]? = some ds /\ G.boxv[j]? = some ws) := fun j ds ws e1 e2 => by
  rw [List.getElem?_set] at e1 e2
  by_cases hi : i = j
  ·rw [if_pos hi, if_pos hlh] at e1
   rw [if_pos hi, if_pos hbl] at e2
   injection e1 with e1; injection e2 with e2
   exact .inl ⟨hi.symm, e1.symm, e2.symm⟩
  ·rw [if_neg hi] at e1 e2
   exact .inr ⟨fun hh => hi hh.symm, e1, e2⟩
 have vid : ∀ (p : Nat) (y : AV), (xs.map AV.v)[p]? = some y -> y.idOf = none := fun p y hp => by
  rw [Rb] at hp
  cases hx : xs[p]? with
  | none => rw [hx] at hp; cases hp
  | some z => rw [hx] at hp; injection hp with hp; subst hp; rfl
 refine ⟨v, G.setBox i xs, cls, rfl, hE', hW', ⟨by simp [Ghost.setBox, hS.1], fun j ds ws e1 e2 => ?_⟩, fun j ds ws e1 e2 p y hj => ?_, hv.ext hE', .none _ hr, fun y hy => (by rw [hr] at hy; cases hy), fun j hj hn => ?_, fun y B hy _ => hy⟩
 ·rcases at_ j ds ws e1 e2 with ⟨_, rfl, rfl⟩ | ⟨_, h3, h4⟩
  ·refine ⟨by simp, hx, fun p c hp => ?_⟩
   rw [Rb] at hp
   cases hxp : ws[p]? with
   | none => rw [hxp] at hp; cases hp
   | some z => rw [hxp] at hp; injection hp with hp; subst hp; rw [List.getD_eq_getElem?_getD, hxp]; exact .v _
  ·obtain ⟨h5, h6, h7⟩ := hS.2 j ds ws h3 h4
   exact ⟨h5, h6, fun p c hp => (h7 p c hp).ext hE'⟩
 ·rcases at_ j ds ws e1 e2 with ⟨rfl, rfl, rfl⟩ | ⟨_, h3, h4⟩
  ·have := vid p y hj
   exact ⟨.none _ this, fun x hx => by rw [this] at hx; cases hx⟩
  ·obtain ⟨h5, h6⟩ := hoh j ds ws h3 h4 p y hj
   exact ⟨h5.move fun q y' B hB' _ hbB hcl => ⟨hbB, hcl, .inr (.inr ⟨j, ds, ws, p, y, h3, h4, hj, hB'⟩)⟩, h6⟩
 ·show (G.boxv.set i _)[j]? = _
  rw [List.getElem?_set_ne (fun e => hn (by rw [e]; exact List.mem_cons_self ..))]
end
end Go.Proofs.YtknohkmpficjgaaGreatDoor.Ax
namespace Go.Proofs.YtknohkmpficjgaaGreatDoor.Ax
set_option maxRecDepth 100000
open Go.RowKit Go.Extern.Stop Go.Stop Go.Extern Go By
set_option maxRecDepth 10000
theorem FN (t : Value) (w : World) :
  Calls Tryz.prog 48 #[.nilIface, t] w fun e w' => e = .returned (.bool false) /\ w' = w := by
 go_enter Tryz.func48, Tryz.ntmps48
 go_wp2
 go_ret
 exact ⟨rfl, rfl⟩
theorem tw (t : Addr) (w : World) : (ReflectliteValue.unpack (.iface 92 (.pointer (some t)))).run Tryz.prog w
  = .ok (.agg #[.pointer (some ⟨4, 92, none⟩), .pointer (some ⟨w.heap.size, 0, none⟩), .int .u64 150]) (w.alloc (.cells #[.pointer (some t)] 92)) := by kernel_rfl
theorem AU (a : Addr) (w : World) : (ReflectliteValue.methodAny (ReflectliteValue.valueError "reflectlite.Value.Type" 0) (fun t _ _ _ => ReflectliteType.toType t) #[.agg #[.pointer (some ⟨4, 92, none⟩), .pointer (some a), .int .u64 150]]).run Tryz.prog w
  = .ok (.iface 211 (.agg #[.pointer (some ⟨4, 92, none⟩)])) w := by kernel_rfl
theorem AT (h : Value) (w : World) : (Go.method 404 211 (.agg #[h]) "Kind").run Tryz.prog w = .ok (238, h) w := by kernel_rfl
theorem AP (w : World) : ((ReflectliteType.abiMethod fun t => (fun a : Nat => Value.int IntKind.u8 (a : Int)) <$> Rtype.kind t) #[.pointer (some ⟨4, 92, none⟩)]).run Tryz.prog w = .ok (.int .u8 22) w := by kernel_rfl
theorem AQ (w : World) : ((ReflectliteType.abiMethod fun t => (fun a : Nat => Value.int IntKind.u8 (a : Int)) <$> Rtype.kind t) #[.pointer (some ⟨4, 90, none⟩)]).run Tryz.prog w = .ok (.int .u8 25) w := by kernel_rfl
theorem qu (a : Addr) (w : World) : (ReflectliteValue.parts (.agg #[.pointer (some ⟨4, 92, none⟩), .pointer (some a), .int .u64 150])).run Tryz.prog w = .ok (some (92, a, 150)) w := by kernel_rfl
theorem yN (a p : Addr) (W : World) (ha : W.cell? a = some (.pointer (some p))) :
  (ReflectliteValue.method (ReflectliteValue.valueError "reflectlite.Value.IsNil" 0) ReflectliteValue.isNil #[.agg #[.pointer (some ⟨4, 92, none⟩), .pointer (some a), .int .u64 150]]).run Tryz.prog W = .ok (.bool false) W := by
 change (bind (ReflectliteValue.parts (.agg #[.pointer (some ⟨4, 92, none⟩), .pointer (some a), .int .u64 150])) _).run _ _ = _
 rw [Sem.run_bind, qu]
 simp only [Result.andThen]
 simp [ReflectliteValue.isNil, loadVar, isAgg, underlying, Tryz.underlying92, ha, Result.andThen]
theorem AR (h : Value) (w : World) : (Go.method 404 211 (.agg #[h]) "Elem").run Tryz.prog w = .ok (249, .agg #[h]) w := by kernel_rfl
theorem AS (h : Value) (w : World) : (Go.method 404 211 (.agg #[h]) "Implements").run Tryz.prog w = .ok (250, .agg #[h]) w := by kernel_rfl
theorem Dk (h : Value) (w : World) : (Go.method 404 211 (.agg #[h]) "AssignableTo").run Tryz.prog w = .ok (247, .agg #[h]) w := by kernel_rfl
theorem AM (w : World) : (ReflectliteType.method ReflectliteType.elem #[.agg #[.pointer (some ⟨4, 92, none⟩)]]).run Tryz.prog w = .ok (.iface 211 (.agg #[.pointer (some ⟨4, 90, none⟩)])) w := by kernel_rfl
theorem AO (w : World) : (ReflectliteType.relation "Implements" ReflectliteType.implements_ #[.agg #[.pointer (some ⟨4, 90, none⟩)], .iface 211 (.agg #[.pointer (some ⟨4, 66, none⟩)])]).run Tryz.prog w = .ok (.bool true) w := by kernel_rfl
theorem vw (v : Value) (w : World) : (ReflectliteType.typeOf #[.iface 90 v]).run Tryz.prog w = .ok (.iface 211 (.agg #[.pointer (some ⟨4, 90, none⟩)])) w := by kernel_rfl
theorem Dj (w : World) : (ReflectliteType.relation "AssignableTo" ReflectliteType.assignableTo #[.agg #[.pointer (some ⟨4, 90, none⟩)], .iface 211 (.agg #[.pointer (some ⟨4, 90, none⟩)])]).run Tryz.prog w = .ok (.bool true) w := by kernel_rfl
theorem tz (c s : ByteArray) (w : World) : (ReflectliteValue.unpack (.iface 90 (.agg #[.string c, .string s]))).run Tryz.prog w
  = .ok (.agg #[.pointer (some ⟨4, 90, none⟩), .pointer (some ⟨w.heap.size, 0, none⟩), .int .u64 153]) (w.alloc (.cells #[.string c, .string s] 90)) := by kernel_rfl
theorem vu (w : World) : (Rtype.elem? 92).run Tryz.prog w = .ok (some 90) w := by kernel_rfl
theorem GH (p : Addr) (w : World) : (ReflectliteValue.mk 90 p ReflectliteValue.flagAddr).run Tryz.prog w = .ok (.agg #[.pointer (some ⟨4, 90, none⟩), .pointer (some p), .int .u64 409]) w := by kernel_rfl
theorem yM (a p : Addr) (W : World) (ha : W.cell? a = some (.pointer (some p))) :
  (ReflectliteValue.method (ReflectliteValue.valueError "reflectlite.Value.Elem" 0) ReflectliteValue.elem #[.agg #[.pointer (some ⟨4, 92, none⟩), .pointer (some a), .int .u64 150]]).run Tryz.prog W
   = .ok (.agg #[.pointer (some ⟨4, 90, none⟩), .pointer (some p), .int .u64 409]) W := by
 change (bind (ReflectliteValue.parts (.agg #[.pointer (some ⟨4, 92, none⟩), .pointer (some a), .int .u64 150])) _).run _ _ = _
 rw [Sem.run_bind, qu]
 simp only [Result.andThen]
 simp [ReflectliteValue.elem, loadVar, isAgg, underlying, Tryz.underlying92, ha, Result.andThen, vu, GH]
theorem yO (a : Addr) (w : World) : (ReflectliteValue.parts (.agg #[.pointer (some ⟨4, 90, none⟩), .pointer (some a), .int .u64 409])).run Tryz.prog w = .ok (some (90, a, 409)) w := by kernel_rfl
theorem yP (a : Addr) (w : World) : (ReflectliteValue.parts (.agg #[.pointer (some ⟨4, 90, none⟩), .pointer (some a), .int .u64 153])).run Tryz.prog w = .ok (some (90, a, 153)) w := by kernel_rfl
theorem vt (w : World) : (Rtype.directlyAssignable 90 90).run Tryz.prog w = .ok true w := by kernel_rfl
theorem tv : (Tryz.prog.info? 90).map (·.size) = some 2 := by kernel_rfl
theorem Dm (tb to_ bb : Nat) (c s : ByteArray) (W : World) (hb0 : W.cell? ⟨bb, 0, none⟩ = some (.string c)) (hb1 : W.cell? ⟨bb, 1, none⟩ = some (.string s)) (ht : ∀ j, j < 2 -> (W.cell? ⟨tb, to_ + j, none⟩).isSome = true /\ W.frozen? ⟨tb, to_ + j, none⟩ = false) :
  (ReflectliteValue.set #[.agg #[.pointer (some ⟨4, 90, none⟩), .pointer (some ⟨tb, to_, none⟩), .int .u64 409], .agg #[.pointer (some ⟨4, 90, none⟩), .pointer (some ⟨bb, 0, none⟩), .int .u64 153]]).run Tryz.prog W
   = .ok (.tuple #[]) (W.setCells tb to_ [.string c, .string s]) := by
 have hl := run_loadVar_mid (P := Tryz.prog) W bb 0 90 [.string c, .string s] _ (fun j v hv => by
  match j with
  | 0 => simp at hv; subst hv; exact hb0
  | 1 => simp at hv; subst hv; exact hb1
  | j + 2 => simp at hv) Tryz.underlying90 rfl tv
 have hs := run_storeVar_mid (P := Tryz.prog) W tb to_ 90 #[.string c, .string s] (fun j hj => ht j hj) tv (by simp [Value.oneCell'])
 have hl' : (loadVar 90 ⟨bb, 0, none⟩).run Tryz.prog W = .ok (.agg #[.string c, .string s]) W := hl
 change (bind (ReflectliteValue.parts (.agg #[.pointer (some ⟨4, 90, none⟩), .pointer (some ⟨tb, to_, none⟩), .int .u64 409])) fun x => bind (ReflectliteValue.parts (.agg #[.pointer (some ⟨4, 90, none⟩), .pointer (some ⟨bb, 0, none⟩), .int .u64 153])) _).run _ _ = _
 rw [Sem.run_bind, yO]
 simp only [Result.andThen]
 rw [Sem.run_bind, yP]
 simp only [Result.andThen]
 simp [ReflectliteValue.flagAddr, hl', Result.andThen, vt, hs]
set_option maxHeartbeats 4000000 in
theorem FM (tb to_ : Nat) (c s : ByteArray) (w : World) (hg : w.cell? ⟨0, 0, none⟩ = some (.iface 211 (.agg #[.pointer (some ⟨4, 66, none⟩)]))) (ht : ∀ j, j < 2 -> (w.cell? ⟨tb, to_ + j, none⟩).isSome = true /\ w.frozen? ⟨tb, to_ + j, none⟩ = false) :
  Calls Tryz.prog 48 #[.iface 90 (.agg #[.string c, .string s]), .iface 92 (.pointer (some ⟨tb, to_, none⟩))] w fun ev w' => ev = .returned (.bool true) /\ ∃ w1, Below w.heap.size w w1 /\ w' = w1.setCells tb to_ [.string c, .string s] := by
 have h6 := @run_callFunc_extern Tryz.prog 93 _ (fun args => ReflectliteValue.unpack (args.getD 0 (.tuple #[]))) Tryz.func93 (by kernel_rfl) (by kernel_rfl) (by kernel_rfl) (by kernel_rfl)
 have h7 := @run_callFunc_extern Tryz.prog 94 _ (ReflectliteValue.methodAny (ReflectliteValue.valueError "reflectlite.Value.Type" 0) (fun t _ _ _ => ReflectliteType.toType t)) Tryz.func94 (by kernel_rfl) (by kernel_rfl) (by kernel_rfl) (by kernel_rfl)
 have h8 := @run_callFunc_extern Tryz.prog 95 _ (ReflectliteValue.method (ReflectliteValue.valueError "reflectlite.Value.IsNil" 0) ReflectliteValue.isNil) Tryz.func95 (by kernel_rfl) (by kernel_rfl) (by kernel_rfl) (by kernel_rfl)
 have h27 := @run_callFunc_extern Tryz.prog 238 _ (ReflectliteType.abiMethod fun t => do pure (.int .u8 (<- Rtype.kind t))) Tryz.func238 (by kernel_rfl) (by kernel_rfl) (by kernel_rfl) (by kernel_rfl)
 have h37 := @run_callFunc_extern Tryz.prog 249 _ (ReflectliteType.method ReflectliteType.elem) Tryz.func249 (by kernel_rfl) (by kernel_rfl) (by kernel_rfl) (by kernel_rfl)
 have h38 := @run_callFunc_extern Tryz.prog 250 _ (ReflectliteType.relation "Implements" ReflectliteType.implements_) Tryz.func250 (by kernel_rfl) (by kernel_rfl) (by kernel_rfl) (by kernel_rfl)
 have h10 := @run_callFunc_extern Tryz.prog 155 _ ReflectliteType.typeOf Tryz.func155 (by kernel_rfl) (by kernel_rfl) (by kernel_rfl) (by kernel_rfl)
 have h35 := @run_callFunc_extern Tryz.prog 247 _ (ReflectliteType.relation "AssignableTo" ReflectliteType.assignableTo) Tryz.func247 (by kernel_rfl) (by kernel_rfl) (by kernel_rfl) (by kernel_rfl)
 have h11 := @run_callFunc_extern Tryz.prog 156 _ (ReflectliteValue.method (ReflectliteValue.valueError "reflectlite.Value.Elem" 0) ReflectliteValue.elem) Tryz.func156 (by kernel_rfl) (by kernel_rfl) (by kernel_rfl) (by kernel_rfl)
 have h12 := @run_callFunc_extern Tryz.prog 157 _ ReflectliteValue.set Tryz.func157 (by kernel_rfl) (by kernel_rfl) (by kernel_rfl) (by kernel_rfl)
 have tO := vw
 have mA := Dk
 have aS := Dj
 have vS := tz c s
 have f6 := tw
 have f7 := AU
 have mK := AT
 have mE := AR
 have mI := AS
 have kP := AP
 have kS := AQ
 have eP := AM
 have iS := AO
 have htl : tb < w.heap.size := fw (ht 0 (by decide)).1
 have hlt : 0 < w.heap.size := fw (b := 0) (j := 0) (by rw [hg]; rfl)
 obtain ⟨W1, hW1⟩ : ∃ W1, W1 = w.alloc (.cells #[.pointer (some ⟨tb, to_, none⟩)] 92) := ⟨_, rfl⟩
 obtain ⟨W2, hW2⟩ : ∃ W2, W2 = W1.alloc (.cells #[.pointer (some ⟨4, 92, none⟩), .pointer (some ⟨w.heap.size, 0, none⟩), .int .u64 150] 152) := ⟨_, rfl⟩
 obtain ⟨W3, hW3⟩ : ∃ W3, W3 = W2.alloc (.cells #[.pointer (some ⟨4, 92, none⟩), .pointer (some ⟨w.heap.size, 0, none⟩), .int .u64 150] 152) := ⟨_, rfl⟩
 obtain ⟨W4, hW4⟩ : ∃ W4, W4 = W3.alloc (.cells #[.string c, .string s] 90) := ⟨_, rfl⟩
 have z1 : W1.heap.size = w.heap.size + 1 := by rw [hW1]; simp
 have z2 : W2.heap.size = w.heap.size + 2 := by rw [hW2]; simp [z1]
 have z3 : W3.heap.size = w.heap.size + 3 := by rw [hW3]; simp [z2]
 have c1 : W1.cell? ⟨w.heap.size, 0, none⟩ = some (.pointer (some ⟨tb, to_, none⟩)) := by rw [hW1]; exact cell_of_row _ _ 0 _ _ (0, 0) (heap_alloc_new w _)
 have c2 : W2.cell? ⟨w.heap.size, 0, none⟩ = some (.pointer (some ⟨tb, to_, none⟩)) := by rw [hW2, (aj W1 _ 0 (by omega)).1]; exact c1
 have c3 : W3.cell? ⟨w.heap.size, 0, none⟩ = some (.pointer (some ⟨tb, to_, none⟩)) := by rw [hW3, (aj W2 _ 0 (by omega)).1]; exact c2
 have g2 : W2.cell? ⟨0, 0, none⟩ = some (.iface 211 (.agg #[.pointer (some ⟨4, 66, none⟩)])) := by
  rw [hW2, (aj W1 _ 0 (by omega)).1, hW1, (aj w _ 0 hlt).1]; exact hg
 have t4 : ∀ j, j < 2 -> (W4.cell? ⟨tb, to_ + j, none⟩).isSome = true /\ W4.frozen? ⟨tb, to_ + j, none⟩ = false := fun j hj => by
  rw [hW4, (aj W3 _ _ (by omega)).1, (aj W3 _ _ (by omega)).2, hW3, (aj W2 _ _ (by omega)).1, (aj W2 _ _ (by omega)).2, hW2, (aj W1 _ _ (by omega)).1, (aj W1 _ _ (by omega)).2, hW1, (aj w _ _ htl).1, (aj w _ _ htl).2]
  exact ht j hj
 have b4 : Below w.heap.size w W4 := by
  rw [hW4, hW3, hW2, hW1]
  exact (((((Below.refl _ _).alloc (Nat.le_refl _) _).alloc (by simp) _).alloc (by simp; omega) _).alloc (by simp; omega) _)
 have n8 := yN ⟨w.heap.size, 0, none⟩ ⟨tb, to_, none⟩ W2 c2
 have el := yM ⟨w.heap.size, 0, none⟩ ⟨tb, to_, none⟩ W3 c3
 have st := Dm tb to_ (w.heap.size + 3) c s W4 (by rw [hW4, <- z3]; exact cell_of_row _ _ 0 _ _ (0, 0) (heap_alloc_new W3 _)) (by rw [hW4, <- z3]; exact cell_of_row _ _ 1 _ _ (0, 0) (heap_alloc_new W3 _)) t4
 subst hW4 hW3 hW2 hW1
 go_enter Tryz.func48, Tryz.ntmps48
 go_wp2
 refine wp_loop_rounds 1 ?_
 rw [rounds_succ]
 go_wp2
 go_ret
 exact ⟨rfl, _, b4, rfl⟩
section
variable {h : List (List AV)}
theorem CM (c s : List UInt8) {i : Nat} {cs : List AV} (hcs : h[i]? = some cs) (hl : cs.length = 2) :
  ae Tryz.prog 48 [.ifc 90 (.agg [.v (.string (ah c)), .v (.string (ah s))]), .ifc 92 (.box i 0)] h (.v (.bool true)) (h.set i [.v (.string (ah c)), .v (.string (ah s))]) [i] := by
 refine mT (xs := [.string (ah c), .string (ah s)]) (by kernel_rfl) hcs (by simp [hl]) (by simp [Value.oneCell']) rfl fun G w vs hW hS hvs => ?_
 obtain ⟨x, y, rfl, hx, hy⟩ := wq hvs
 obtain ⟨x', rfl, hx'⟩ := hx.inv_ifc
 obtain ⟨y', rfl, hy'⟩ := hy.inv_ifc
 obtain ⟨b, rfl, hb⟩ := hy'.inv_box
 cases hx' with
 | agg _ us hul hus h1 =>
  match us, hul with
  | [u0, u1], _ =>
   have e0 := (hus 0 _ rfl).inv_v
   have e1 := (hus 1 _ rfl).inv_v
   simp at e0 e1
   subst e0 e1
   have hg : w.cell? ⟨0, 0, none⟩ = some (.iface 211 (.agg #[.pointer (some ⟨4, 66, none⟩)])) := hW.cell0 hW.dom
   have hbl : i < G.boxv.length := by rw [<- hS.1]; exact (Q8.1 hcs).1
   obtain ⟨us, hus⟩ : ∃ us, G.boxv[i]? = some us := ⟨_, Q7 hbl⟩
   obtain ⟨q1, q2, q3⟩ := hS.2 i cs us hcs hus
   obtain ⟨b1, b2, b3, b4⟩ := hW.box i b us hb.1 hus
   refine ⟨b, _, hb.1, hb.2, .v _, ?_⟩
   have := FM b (G.base i + 0) (ah c) (ah s) w hg (fun j hj => by
    have hju : j < us.length := by omega
    obtain ⟨h3, h4⟩ := b4 j _ (Q7 hju) hb.2
    rw [Ra]
    exact ⟨by rw [h3]; rfl, h4⟩)
   rw [Ra] at this
   exact this
theorem CN (y : AV) (hy : y.idOf = none) : ae Tryz.prog 48 [.v .nilIface, y] h (.v (.bool false)) h [] := by
 refine bw (by kernel_rfl) rfl fun G w vs hW hvs => ?_
 obtain ⟨x, y, rfl, hx, hy⟩ := wq hvs
 rw [hx.inv_v]
 refine (FN _ w).mono fun e w' he => ?_
 obtain ⟨rfl, rfl⟩ := he
 exact ⟨_, rfl, .v _, Below.refl _ _⟩
end
end Go.Proofs.YtknohkmpficjgaaGreatDoor.Ax
