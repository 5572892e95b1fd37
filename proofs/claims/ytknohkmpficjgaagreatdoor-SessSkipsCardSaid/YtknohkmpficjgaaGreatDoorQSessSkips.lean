/- Behind a fault nothing is said up to the next sync, nor is anything done. -/
import Derived.Test.YtknohkmpficjgaaGreatDoorQAxXr
import Derived.Test.YtknohkmpficjgaaGreatDoorQAxSv
import Derived.Test.YtknohkmpficjgaaGreatDoorQAxSf
import Derived.Test.YtknohkmpficjgaaGreatDoorRows
import Derived.Test.YtknohkmpficjgaaGreatDoorCards
import Derived.Test.YtknohkmpficjgaaGreatDoorTie
import Derived.Test.YtknohkmpficjgaaGreatDoorQElems
import Derived.WalkKit
import Derived.ProofKit
import Derived.OpenShut
import Derived.ShutString
import Derived.ChangeOld
import Derived.Below
import Derived.LaidMore
import Derived.LaidHandle
import Derived.LaidSub
import Derived.LaidLaws
import Derived.Lay
import Derived.SevenTiedAt
import Derived.Stop.Joined
set_option linter.unusedSimpArgs false
set_option linter.unusedVariables false
namespace Go.Proofs.YtknohkmpficjgaaGreatDoor.Ax
open Go.RowKit Go.Deep Go.ChangeShapes Go.WideShapes Go.ChangeAt Go.Joins Go By
section
variable {P : Program} {t : TypeId}
end
end Go.Proofs.YtknohkmpficjgaaGreatDoor.Ax
namespace Go.Proofs.YtknohkmpficjgaaGreatDoor.Ax
open Go.RowKit Go By YtknohkmpficjgaaGreatDoor.Nm Dg
set_option maxRecDepth 10000
section
variable {h : List (List AV)} {i : Nat}
end
theorem sq_size {m : Fm} (h : plainF m = true) : FmFit m /\ (∀ c ∈ m.params, c.2.length <= 300) /\ (bodyF m).length <= 100000 /\ m.params.length <= 50 /\ m.oids.length <= 50 /\ m.name.length <= 300 /\ m.portal.length <= 300 /\ m.text.length <= 1000 := by
 unfold plainF manyF at h
 simp only [Bool.and_eq_true, Bool.not_eq_true', Bool.or_eq_false_iff, decide_eq_false_iff_not, decide_eq_true_eq] at h
 obtain ⟨⟨h1, h2, h3, h4⟩, h5, h6, h7, h8⟩ := h
 have hc : ∀ c ∈ m.params, c.2.length <= 300 := fun c hc => by
  have := List.any_eq_false.1 h5 c hc
  simp [longC] at this; omega
 refine ⟨⟨by omega, by omega, by omega, by omega, fun c h => by have := hc c h; omega, by omega, by omega, by omega⟩, hc, ?_, by omega, by omega, by omega, by omega, by omega⟩
 have numsL : ∀ (size : Int) (l : List Int), size <= 4 -> l.length <= 50 -> (listL (numE size) l).length <= 204 := fun size l hs hl => by
  have key : ∀ l : List Int, (l.flatMap (numE size)).length <= 4 * l.length := fun l => by
   induction l with
   | nil => simp
   | cons x l ih =>
    have := put_len x size hs []
    rw [List.flatMap_cons, List.length_append, List.length_cons]
    simp only [numE, List.length_nil] at this ⊢
    omega
  have := key l
  have := put_len (l.length : Int) 2 (by omega) []
  unfold listL
  rw [List.length_append]
  simp only [List.length_nil] at this
  omega
 have cellsL : (listL cellE m.params).length <= 15204 := by
  have key : ∀ l : List Cl, (∀ c ∈ l, c.2.length <= 300) -> (l.flatMap cellE).length <= 304 * l.length := fun l => by
   induction l with
   | nil => intro _; simp
   | cons x l ih =>
    intro hl
    have h1 := ih fun c hc => hl c (List.mem_cons_of_mem _ hc)
    have h2 := hl x (List.mem_cons_self ..)
    rw [List.flatMap_cons, List.length_append, List.length_cons]
    obtain ⟨n, b⟩ := x
    have h2' : b.length <= 300 := h2
    cases n with
    | true =>
     have := put_len 4294967295 4 (by omega) []
     rw [cellE_null]; simp only [List.length_nil] at this; omega
    | false =>
     have := put_len (b.length : Int) 4 (by omega) []
     rw [cellE_bytes, List.length_append]; simp only [List.length_nil] at this; omega
  have := key m.params hc
  have := put_len (m.params.length : Int) 2 (by omega) []
  unfold listL
  rw [List.length_append]
  simp only [List.length_nil] at this
  omega
 have n1 := numsL 4 m.oids (by omega) (by omega)
 have n2 := numsL 2 m.formats (by omega) (by omega)
 have n3 := numsL 2 m.results (by omega) (by omega)
 have n4 := put_len m.max 4 (by omega) (textsL [m.portal])
 have t : ∀ (l : List UInt8), (He.encT l).length = l.length + 1 := encT_len
 unfold bodyF
 repeat' split
 all_goals simp only [textsL, List.flatMap_cons, List.flatMap_nil, List.length_append, List.length_cons, List.length_nil, t, List.append_nil] at n4 ⊢
 all_goals omega
theorem sq_bet {l : List Int} (h : l.all (betB 0 4294967295) = true) : l.all (unsB 4) = true := List.all_eq_true.2 fun x hx => by
 have := List.all_eq_true.1 h x hx
 unfold betB at this
 simp at this
 unfold unsB rightB szB powI
 simp
 omega
theorem fmS_of {m : Fm} (h : plainF m = true) (c : Bool) (hc : c = true -> rcheckF m = 0) : FmS c m := by
 obtain ⟨_, q1, _, q2, q3, q4, q5, q6⟩ := sq_size h
 have parts : c = true -> m.oids.all (betB 0 4294967295) = true /\ m.params.all cellB = true := fun hh => by
  have := hc hh
  unfold rcheckF at this
  split at this
  ·cases this
  ·split at this
   ·rename_i h2
    simp only [Bool.and_eq_true, rlistsB] at h2
    exact ⟨h2.2.1.1.2, h2.2.1.2.2.2.2⟩
   ·cases this
 exact ⟨by omega, by omega, q6, ⟨by omega, fun hh => sq_bet (parts hh).1⟩, ⟨by omega, fun x hx => ⟨by have := q1 x hx; omega, fun hh => List.all_eq_true.1 (parts hh).2 x hx⟩⟩⟩
theorem sqPlain_yes {n : Nat} {l : List Fm} (h : sqPlain n l = true) : l.length <= n /\ ∀ m ∈ l, plainF m = true := by
 unfold sqPlain at h
 simp only [Bool.and_eq_true, decide_eq_true_eq] at h
 exact ⟨by omega, fun m hm => List.all_eq_true.1 h.2 m hm⟩
structure SL where
 H : List (List AV)
 Z : Zs
 j : Nat
structure SL.Ok (c : Bool) (m : Nat) (d : SL) : Prop where
 le : d.j <= m
 g : SsG [] d.H 5 d.Z
 z : ZOk c d.j d.Z
theorem RepX.id {lo i : Nat} {Z' : Zs} {M : List Bk} {h' : List (List AV)} {v : AV} (r : RepX lo i Z' M h' v) : v.idOf = none := by
 cases r with
 | sl hv => subst hv; rfl
 | bx b hl hv hb hn => subst hv; rfl
structure SM where
 H : List (List AV)
 j : Nat
theorem namesK_len (l : List (KE Sx)) : (namesK l).length = l.length := by unfold namesK sortS; rw [List.length_mergeSort, List.length_map]
theorem s0_at : SsG [] (heap0 []) 5 (z0 0) := z0_at (h := []) trivial (fun cs hcs => by cases hcs)
set_option maxHeartbeats 4000000 in
theorem sskipslaw_c (l more : List Fm) : Contract Tryz.prog 3 [.sl 10 (enc fmC l) none .no, .sl 10 (enc fmC more) none .no] [] (.v (.bool true)) [] [] := by
 refine contract_of k3 mixed (by simp [c3]) fun hh hargs => ?_
 have kf := fun (l : List Fm) H => sqfronts_c l 40 (by omega) H
 have hp0 : plainH ([] : List (List AV)) := fun cs hcs => by cases hcs
 simp [c3]
 refine xcall_self (by simp) (kf l _) ?_
 cases hl : sqPlain 40 l with
 | false =>
  simp
  refine xcall_self (by simp) (sawake_c _ hp0) ?_
  simp
 | true =>
 simp
 refine xcall_self (by simp) (kf more _) ?_
 cases hm : sqPlain 40 more with
 | false =>
  simp
  refine xcall_self (by simp) (sawake_c _ hp0) ?_
  simp
 | true =>
 obtain ⟨hl40, hlp⟩ := sqPlain_yes hl
 obtain ⟨hm40, hmp⟩ := sqPlain_yes hm
 have kn0 := snew_c (.box 1 0) rfl rfl rfl ([] ++ [mapC 0 [], egC 0 0]) (by simp)
 have hheap : ([] ++ [mapC 0 [], egC 0 0]) ++ [mapC 0 [], mapC 0 [], [AV.mp (([] ++ [mapC 0 [], egC 0 0] : List (List AV)).length + 1) 1 true], [AV.box 1 0, .mp ([] ++ [mapC 0 [], egC 0 0] : List (List AV)).length 2 false, .box (([] ++ [mapC 0 [], egC 0 0] : List (List AV)).length + 2) 0, .v (.int .u8 73), .v (.bool false), .v (.bool false)]] = heap0 [] := rfl
 rw [hheap] at kn0
 simp only [List.nil_append, List.length_cons, List.length_nil] at kn0
 simp
 refine xcall_self (by simp) (enew_c []) ?_
 simp
 refine xcall_self (by simp) kn0 ?_
 have g0 := s0_at
 obtain ⟨H0, hH0⟩ : ∃ H0, H0 = heap0 [] := ⟨_, rfl⟩
 rw [<- hH0] at g0
 simp [<- hH0]
 have hH0l : H0.length = 6 := by rw [hH0]; rfl
 refine xloop_ok (D := SL) (fun d => ⟨[(0, .sl 10 (enc fmC l) none .no), (1, .sl 10 (enc fmC more) none .no), (5, .box 5 0), (26, .sl 10 (enc fmC l) none .no), (27, .v (.int .i64 (l.length : Int))), (28, .v (.int .i64 (d.j : Int)))], [], d.H, []⟩) (SL.Ok false l.length) (fun d => l.length - d.j) ⟨H0, z0 0, 0⟩ ⟨Nat.zero_le _, g0, z0_ok false 0⟩ ?_ ?_
 ·simp [Leq]
  exact ⟨g0.hh, by omega⟩
 ·rintro ⟨H, Z, j⟩ ⟨hj, g, z⟩
  dsimp only at hj g z
  have hgh := g.hh
  have hg5 := g.i_lt
  by_cases hlt : j < l.length
  ·have hw : IntKind.i64.wrap ((j : Int) + 1) = (j : Int) + 1 := wrap64 (by omega) (by omega)
   obtain ⟨f, hf⟩ : ∃ f, f = l[j] := ⟨_, rfl⟩
   have hfs : FmS false f := by rw [hf]; exact fmS_of (hlp _ (List.getElem_mem hlt)) false (fun h => by cases h)
   have g1 := g.app (c := fmC f) (by simp) (by simp [fmC_mk])
   obtain ⟨M, Z2, d2, z2, _⟩ := sdo_d g1.none z (by omega) f hfs
   obtain ⟨h2, w2, v2, k2, hr2, g2, t2, hl2, hw2, hs2, hv2⟩ := g1.byS d2
   simp [hlt, <- hf]
   refine xcall_self (by simp) k2 ?_
   have hv2 := hr2.id
   have hg2 := g2.hh
   have hi2 := g2.i_lt
   simp [hw, hv2]
   refine ⟨⟨h2, Z2, j + 1⟩, ⟨by show j + 1 <= _; omega, g2.none, z2⟩, by show l.length - (j + 1) < l.length - j; omega, ?_⟩
   simp [Leq, hg2, hi2]
   done
  ·have hjl : j = l.length := by omega
   subst hjl
   have top := g.top
   simp
   refine xcall_self (by simp) (sskips_c g) ?_
   have ka0 := sawake_c H g.pl
   cases hsk : Z.skips with
   | false =>
    simp
    refine xcall_self (by simp) ka0 ?_
    simp
   | true =>
   simp
   refine xcall_self (by simp) (sover_c (b := Z.over) top) ?_
   cases hov : Z.over with
   | true =>
    simp
    refine xcall_self (by simp) ka0 ?_
    simp
   | false =>
   have hlS : lisB Z f4S.kind = true := by unfold lisB; rw [hov, hsk]; rfl
   have hbZ : bkC (zB Z.status) = [AV.v (.int .u8 90), .v (.int .u8 Z.status), .v (.string (strB [])), .v (.string (strB [])), .v (.string (strB [])), .v (.int .i64 0), .v (.int .i64 0), .sl 1 [] none .no, .sl 7 [] none .no, .sl 2 [] none .no, .sl 2 [] none .no] := rfl
   simp
   refine xcall_self (by simp) (g.names z (by omega)) ?_
   simp
   refine xcall_self (by simp) (sstatus_c g) ?_
   simp
   refine xloop_ok (D := SM) (fun d => ⟨[(5, .box 5 0), (8, .sl 1 (enc strC (namesK Z.st)) none .no), (9, .v (.int .u8 Z.status)), (48, .sl 10 (enc fmC more) none .no), (49, .v (.int .i64 (more.length : Int))), (50, .v (.int .i64 (d.j : Int)))], [], d.H, []⟩) (fun d => d.j <= more.length /\ SsG [] d.H 5 Z) (fun d => more.length - d.j) ⟨H, 0⟩ ⟨Nat.zero_le _, g⟩ ?_ ?_
   ·simp [Leq, hgh, hg5]
    done
   ·rintro ⟨H2, j2⟩ ⟨hj2, g2⟩
    dsimp only at hj2 g2
    have hg2 := g2.hh
    have hi2 := g2.i_lt
    by_cases hlt2 : j2 < more.length
    ·have hw : IntKind.i64.wrap ((j2 : Int) + 1) = (j2 : Int) + 1 := wrap64 (by omega) (by omega)
     obtain ⟨f, hf⟩ : ∃ f, f = more[j2] := ⟨_, rfl⟩
     have g3 := (g2.app (c := fmC f) (by simp) (by simp [fmC_mk])).none
     simp [hlt2, <- hf]
     by_cases k83 : f.kind = 83
     ·simp [k83]
      have g6 := g3
      obtain ⟨h5, w5, v5, k5, r5, g5, _⟩ := g6.byS (sdo_sync g6 f4S hlS rfl)
      subst r5
      have ks : Contract Tryz.prog 11 [.box 5 0] h5 (.v (.bool false)) h5 [] := sskips_c g5
      have ka := sawake_c h5 g5.pl
      refine xcall_of k5 (by simp [fmC_mk, f4S]) (by simp) ?_
      simp [hbZ]
      refine xcall_self (by simp) ks ?_
      simp
      refine xcall_self (by simp) ka ?_
      simp
     have k83' : (f.kind == 83) = false := by simpa using k83
     by_cases k88 : f.kind = 88
     ·simp [k83, k83', k88]
      have g6 := g3
      obtain ⟨h5, w5, v5, k5, r5, g5, _⟩ := g6.byS (sdo_sync g6 f4S hlS rfl)
      subst r5
      have ks : Contract Tryz.prog 11 [.box 5 0] h5 (.v (.bool false)) h5 [] := sskips_c g5
      have ka := sawake_c h5 g5.pl
      refine xcall_of k5 (by simp [fmC_mk, f4S]) (by simp) ?_
      simp [hbZ]
      refine xcall_self (by simp) ks ?_
      simp
      refine xcall_self (by simp) ka ?_
      simp
     have k88' : (f.kind == 88) = false := by simpa using k88
     have hdeaf : lisB Z f.kind = false := by unfold lisB; simp [hov, hsk, k83, k88]
     have hns := (namesK_len Z.st)
     simp [k83, k83', k88, k88']
     refine xcall_self (by simp) (sdo_deaf g3 f hdeaf) ?_
     simp
     refine xcall_self (by simp) (sskips_c g3) ?_
     simp [hsk]
     refine xcall_self (by simp) (g3.names z (by omega)) ?_
     simp
     refine xcall_self (by simp) (sameStr_c (namesK Z.st) (by have := z.len; omega) _) ?_
     simp
     refine xcall_self (by simp) (sstatus_c g3) ?_
     simp [hw]
     have hg3 := g3.hh
     have hi3 := g3.i_lt
     refine ⟨⟨H2 ++ [fmC f], j2 + 1⟩, ⟨by show j2 + 1 <= _; omega, g3⟩, by show more.length - (j2 + 1) < more.length - j2; omega, ?_⟩
     simp [Leq, hg2, hi2]
     omega
    ·have hjl : j2 = more.length := by omega
     subst hjl
     simp
     have g6 := g2
     obtain ⟨h5, w5, v5, k5, r5, g5, _⟩ := g6.byS (sdo_sync g6 f4S hlS rfl)
     subst r5
     have ks : Contract Tryz.prog 11 [.box 5 0] h5 (.v (.bool false)) h5 [] := sskips_c g5
     have ka := sawake_c h5 g5.pl
     refine xcall_of k5 (by simp [fmC_mk, f4S]) (by simp) ?_
     simp [hbZ]
     refine xcall_self (by simp) ks ?_
     simp
     refine xcall_self (by simp) ka ?_
     simp
end Go.Proofs.YtknohkmpficjgaaGreatDoor.Ax
namespace Go.Proofs.YtknohkmpficjgaaGreatDoor.sessSkips
open Go.ChangeShapes Go.WideShapes Go.ChangeAt Go.RowKit
open Go.ChangeMaps (open_string shut_string)
theorem own : ownKnob Tryz.prog.godebug = none := by kernel_rfl
theorem laidOut : laidOutB Tryz.prog = true := by kernel_rfl
theorem et : Tryz.prog.globalNamed "errors.errorType" = some 0 := by kernel_rfl
theorem rt : (Tryz.prog.cutTypes.find? (·.1 == "internal/reflectlite.rtype")).map (·.2) = some 211 := by kernel_rfl
theorem oneRow : ((List.range 304).filter fun t => Tryz.prog.rowNamed t [101, 114, 114, 111, 114]) = [66] := by kernel_rfl
theorem size : Tryz.prog.types.size = 304 := by kernel_rfl
theorem dom (W : World) (h : laidMetH Tryz.prog Rows.sessSkipsRow.laid W) : Ax.Dom W := by
 obtain ⟨name, u, ty, e1, e2, e3, e4, e5⟩ := (laidMetH_iff.1 h).2 ("errors.errorType", Rows.laid_errors_errorType) (List.mem_filter.2 ⟨by simp [Rows.sessSkipsRow], by kernel_rfl⟩)
 have en : name = [101, 114, 114, 111, 114] := (Option.some.inj e1).symm
 subst en
 obtain rfl := Option.some.inj (rt.symm.trans e2)
 have hm : ty ∈ (List.range 304).filter fun t => Tryz.prog.rowNamed t [101, 114, 114, 111, 114] := List.mem_filter.2 ⟨List.mem_range.2 (by rw [<- size]; exact e3), e4⟩
 rw [oneRow] at hm
 obtain rfl := List.mem_singleton.1 hm
 have := World.var?_cell et e5 0
 unfold Ax.Dom
 simpa using this
def data : List (String × DataW Unit) := Rows.sessSkipsRow.laid.filter fun x => x.2.handleName?.isNone
noncomputable def laidWorld (os : Os) : World :=
 { World.laidAll Tryz.prog os data with heap := (World.laidAll Tryz.prog os data).heap.modify 0 fun
   | .cells _ t frozen => .cells #[.iface 211 (.agg #[.pointer (some ⟨4, 66, none⟩)])] t frozen
   | o => o }
set_option maxRecDepth 100000 in
theorem laidWorld_met (os : Os) (args : Array Value) : laidMetH Tryz.prog Rows.sessSkipsRow.laid ((laidWorld os).forCall (fun _ _ => 0) ⟨#[], args, []⟩).memory :=
 laidMetH_of_parts (laidMet_of_run' 300 (by kernel_rfl) (by kernel_rfl)) (by kernel_rfl)
set_option maxRecDepth 100000 in
theorem lifted (os : Os) (started : os.Started) (H : Type) (enc : TypeId × Value -> H) :
  ReturnsInHanded {} Tryz.checked os 3 .any (fun w args => (Rows.sessSkipsSpec.pre enc Tryz.prog Tryz.f3 Rows.sessSkipsRow.domain false w args /\ laidMetH Tryz.prog Rows.sessSkipsRow.laid w) /\ sizedMet enc Tryz.prog Tryz.f3 (OpenSpec.ofChange Rows.sessSkipsSpec) false w args) (Rows.sessSkipsSpec.post enc Tryz.prog Tryz.f3 false true false false) := by
 refine returnsInHanded_of_change_and (C := Tryz.checked) (X := fun w _ => laidMetH Tryz.prog Rows.sessSkipsRow.laid w) (fun _ _ _ hh h => h.of_heap hh) own started (by kernel_rfl) Tryz.func3
  (ChangeSpec.witness_shaped (enc := enc) (C := Tryz.checked) (os := os) (X := fun w _ => laidMetH Tryz.prog Rows.sessSkipsRow.laid w) false (laidWorld os) #[.slice none 0 0, .slice none 0 0] 8 (World.laidAll_os _ _ _)
   (by first | exact World.shaped_of_ZipB (by kernel_rfl) (by kernel_rfl) | exact World.shaped_of_RefB (by kernel_rfl) (by kernel_rfl)) (by kernel_rfl) (by kernel_rfl) (by kernel_rfl) (laidWorld_met os _)) ?_
 intro W base args ds gs before hval0 hW hcnd hreach hL _
 have hval : ∀ (j : Nat) t v, Tryz.f3.params[j]? = some t -> args[j]? = some v -> Value.okWide Tryz.prog W .any base t v := hval0
 have hW' := hW
 obtain ⟨p, q, hA0, hV, rfl, hfz, hnd⟩ := hW
 have hA : DataW.TrodAll enc Tryz.prog W 0 (fun _ => true) true Tryz.f3.params.toList args.toList ds p := hA0
 rw [Tryz.params3] at hA hval
 obtain ⟨v0, vs0, d0, ds0, p0, q0, hargs, rfl, rfl, h0, r0⟩ := trodAll_cons hA
 obtain ⟨v1, vs1, d1, ds1, p1, q1, rfl, rfl, rfl, h1, r1⟩ := trodAll_cons r0
 obtain ⟨rfl, rfl, rfl⟩ := trodAll_nil r1
 obtain rfl : args = #[v0, v1] := by cases args; simp_all
 obtain ⟨rfl, rfl⟩ := trodVars_none hV
 have k0 := h0
 have lt0 : ∀ x ∈ p0, x.block < W.heap.size := by obtain ⟨m, hm⟩ := k0; exact DataW.trod_lt m _ _ _ hm
 obtain ⟨a0, ok0, s0⟩ := Ax.arg_slice Tryz.underlying22 Ax.sh_fmCL (hval 0 22 v0 rfl rfl) h0
 have k1 := h1
 have lt1 : ∀ x ∈ p1, x.block < W.heap.size := by obtain ⟨m, hm⟩ := k1; exact DataW.trod_lt m _ _ _ hm
 obtain ⟨a1, ok1, s1⟩ := Ax.arg_slice Tryz.underlying22 Ax.sh_fmCL (hval 1 22 v1 rfl rfl) h1
 clear hA0 hval0 hreach
 refine (Ax.law_walk (w := W) (dom W hL) (Ax.sskipslaw_c a0 a1) (by simp) (.cons s0 (.cons s1 .nil))).mono fun e W' ⟨he, bel⟩ => ?_
 subst he
 exact ⟨_, rfl, _, _, _, [], _, [], hW', trodAll_mk1 (shut_bool Tryz.underlying4 _), (trodAll_cons_mk (Below.trod laidOut (by kernel_rfl) (of_decide_eq_true (by kernel_rfl)) k0 bel lt0) (trodAll_cons_mk (Below.trod laidOut (by kernel_rfl) (of_decide_eq_true (by kernel_rfl)) k1 bel lt1) trodAll_mk0)), rfl, bel.frame _, fun h => by cases h⟩
theorem over : Rows.sessSkipsRow.holds Tryz.pinned (OpenSpec.ofChange Rows.sessSkipsSpec) :=
 OpenClaim.holds_of_wide 3 Tryz.f3 rfl rfl rfl rfl rfl rfl rfl ⟨rfl, rfl, rfl, rfl, rfl⟩ rfl rfl rfl rfl rfl (by kernel_rfl) Tryz.func3 (by kernel_rfl)
  (of_decide_eq_true (by kernel_rfl)) (by unfold Func.isWrapper; first | (rw [if_pos (by decide +kernel)]; kernel_rfl) | (rw [if_neg (by decide +kernel)]; exact ⟨rfl, rfl⟩))
  (fun os started H enc _ => lifted os started H enc)
theorem proved : Rows.SessSkipsCardSaid :=
 Claim7.holds_tied_plain_at .later [] [.data, .handle, .pinned] true (true, "7c2996b83169c07b8443652d1372eeed5fc8b65bc769881be6ac719c615e99a3") true over (fun _ h => by cases h) (by kernel_rfl) (fun _ h => by cases h) sessSkips_row_tie rfl ⟨rfl, rfl⟩ (by kernel_rfl) rfl
  (fun f fn hf hfn => by
   obtain rfl : f = 3 := Option.some.inj ((show Tryz.prog.funcNamed "remuda/remudalaw30.SessSkips" = some 3 by kernel_rfl).symm.trans hf) |>.symm
   obtain rfl : fn = Tryz.f3 := (Option.some.inj (Tryz.func3.symm.trans hfn)).symm
   exact ⟨by kernel_rfl, fun j t ht => by
    rw [Tryz.params3] at ht
    have hm : t ∈ [22, 22] := by simpa using Array.mem_of_getElem? ht
    have hall : ([22, 22].all fun u => !Tryz.prog.wantsStandIn u) = true := by kernel_rfl
    exact (show Tryz.prog.wantsStandIn t = false by simpa using List.all_eq_true.1 hall t hm)⟩)
  (by kernel_rfl)
#print axioms proved
end Go.Proofs.YtknohkmpficjgaaGreatDoor.sessSkips
