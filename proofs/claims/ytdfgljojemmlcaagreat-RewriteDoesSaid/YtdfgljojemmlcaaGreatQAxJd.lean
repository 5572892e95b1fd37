import Derived.Test.YtdfgljojemmlcaaGreatQAxPf
import Derived.Test.YtdfgljojemmlcaaGreatQAxNa
import Derived.Test.YtdfgljojemmlcaaGreatQAxJc
set_option linter.unusedSimpArgs false
set_option linter.unusedVariables false
open List renaming mem_singleton -> Q0, getElem_mem -> Q1, mem_append -> Q2, take_length -> Q3
namespace Go.Proofs.YtdfgljojemmlcaaGreat.Ax
open Go.RowKit Go By
def M7:XFun:=⟨18,.seq (.ops [oK 4 (.bool false)]) (.seq (.seq (.ops [oK 5 (.int .i64 0)]) (.block 0 (.loop (.seq (.seq (.ops [oM 6 5,oM 7 0,oH 8 7,oB 9 .lss 6 8]) (.cond (.tmp 9) .skip (.exit 0))) (.seq (.block 1 (.seq (.ops [oM 12 0,oM 13 5,oW 14 1 12 13,oL 15 14,oM 16 1,oB 17 .eql 15 16]) (.cond (.tmp 17) (.seq (.ops [oK 4 (.bool true)]) .ret) .skip))) (.ops [oM 10 5,oI 11 .add 10 (.int .i64 1),oA 5 11])))))) (.seq (.ops [oK 4 (.bool false)]) .ret)),[.move (.tmp 4)]⟩
theorem P1 : ak Tryz.prog 72 = some M7 := by kernel_rfl
end Go.Proofs.YtdfgljojemmlcaaGreat.Ax
namespace Go.Proofs.YtdfgljojemmlcaaGreat.Ax
open Go.RowKit Go By
set_option maxRecDepth 10000
theorem v6 {P : Program} (hm : P.follows .mixedOrders = true) {f g : FuncId} {z : List AV} {k : Nat} (hf : ak P f = some (jB z k)) (hz : z.length = k) {α : Type} (e : α -> α -> Bool) (c : α -> List AV) (hc : ∀ x, (c x).length = k) (hu : ∀ x, (c x).map AV.unown = c x) (xs ys : List α) (h : List (List AV))
  (hg : ∀ x ∈ xs, ∀ y h, Contract P g [.agg (c x), .agg (c y)] h (.v (.bool (e x y))) h []) (hl : xs.length <= 140737488355328) :
  Contract P f [.sl k (ai c xs) none .no, .sl k (ai c ys) none .no, .fn (.func g) [] []] h (.v (.bool (ko e xs ys))) h [] := by
 refine ab hf hm (by simp [jB]) fun hh hargs => ?_
 simp at hargs
 have tk : ∀ x, (c x).take k = c x := fun x => List.take_of_length_le (by rw [hc]; exact Nat.le_refl _)
 by_cases hlen : xs.length = ys.length
 ·simp [jB, hlen]
  refine am (D := Nat) (fun j => ⟨[(0, .sl k (ai c xs) none .no), (1, .sl k (ai c ys) none .no), (2, .fn (.func g) [] []), (15, .sl k (ai c xs) none .no), (16, .v (.int .i64 ys.length)), (17, .v (.int .i64 j))], [], h, []⟩) (fun j => j <= xs.length /\ ∀ i (h1 : i < xs.length) (h2 : i < ys.length), i < j -> e xs[i] ys[i] = true) (fun j => xs.length - j) 0 ⟨by omega, fun i h1 h2 h3 => by omega⟩ ?_ ?_
  ·simp [Leq, hh, hargs]
  ·rintro j ⟨hj, hp⟩
   simp
   refine aY (decide (j < ys.length)) (by simp) (fun hlt => ?_) (fun hge => ?_)
   ·simp at hlt
    have hlt' : j < xs.length := by omega
    have hw : IntKind.i64.wrap ((j : Int) + 1) = (j : Int) + 1 := wrap64 (by omega) (by omega)
    simp [hlt, hlt', hc, hu, hz, uC, tk]
    refine aa (by simp) (hg _ (Q1 hlt') _ _) ?_
    simp
    refine aY (!e xs[j] ys[j]) (by simp) (fun ht => ?_) (fun hf' => ?_)
    ·simp at ht
     simp [hh, lu hlt' hlt ht]
    ·simp at hf'
     simp
     refine ⟨j + 1, ⟨by omega, fun i h1 h2 h3 => ?_⟩, by omega, ?_⟩
     ·rcases Nat.lt_or_ge i j with h4 | h4
      ·exact hp i h1 h2 h4
      ·have : i = j := by omega
       subst this; exact hf'
     ·simp [Leq, hh, hargs, hw]
   ·simp at hge
    have hx : ko e xs ys = true := (eA _ xs ys).2 ⟨hlen, fun i h1 h2 => hp i h1 h2 (by omega)⟩
    simp [hh, hx]
 ·have hne : (xs.length : Int) ≠ ys.length := by omega
  have hx : ko e xs ys = false := iz hlen
  simp [jB, hne, hh, hx]
theorem uF {n : Int} (h1 : 1 <= n) (h2 : n <= 2147483648) : (Lit.int .i64 n).wf = true := by
 simp [Lit.wf, IntKind.min, IntKind.max, IntKind.signed, IntKind.bits]
 omega
theorem dn (n : Int) (h : List (List AV)) : Contract Tryz.prog 63 [.v (.int .i64 n)] h (.v (.string (ah (an n)))) h [] := by
 by_cases h1 : n < 1
 ·refine ab NX mixed (by simp [Cn]) fun hh hargs => ?_
  simp [Cn, h1, hh, an]
 ·by_cases h2 : 2147483648 < n
  ·refine ab NX mixed (by simp [Cn]) fun hh hargs => ?_
   simp [Cn, h1, h2, hh, an]
  ·exact yr n (uF (by omega) (by omega)) h
theorem dw (n : Int) (h : List (List AV)) : Contract Tryz.prog 74 [.v (.int .i64 n)] h (.v (.string (ah (an n)))) h [] := by
 by_cases h1 : n < 1
 ·refine ab Nb mixed (by simp [CY]) fun hh hargs => ?_
  simp [CY, h1, hh, an]
 ·by_cases h2 : 2147483648 < n
  ·refine ab Nb mixed (by simp [CY]) fun hh hargs => ?_
   simp [CY, h1, h2, hh, an]
  ·exact vA n (uF (by omega) (by omega)) h
def jA (name : List UInt8) : Fm := ⟨67, 83, name, [], [], [], [], [], [], 0⟩
def cc (name : List UInt8) (s : Sm) : Fm := ⟨80, 0, name, [], s.text, s.oids, [], [], [], 0⟩
def cL (kind : Int) (op : Oc) : En := ⟨kind, true, [], [], [], [], [op], []⟩
def fA (spec : List Int) (most : Int) : Bool := !(decide (spec.length = 0) || decide ((spec.length : Int) < most))
def cA (spec : List Int) (most : Int) : List Fm := if fA spec most = true then [jA (an (spec.headD 0))] else []
def roomE (spec : List Int) (most : Int) : List En := if fA spec most = true then [cL 7 ⟨2, spec.headD 0⟩] else []
def ba (spec : List Int) (most id : Int) (s : Sm) : List Fm := if spec.contains id then [] else cA spec most ++ [cc (an id) s]
def aI (spec : List Int) (most id : Int) : List En := if spec.contains id then [] else roomE spec most ++ [cL 2 ⟨1, id⟩]
theorem tA (kind : Int) (ops : List Oc) (h : List (List AV)) : Contract Tryz.prog 96 [.v (.int .i64 kind), .sl 2 (ai jg ops) none .no] h (.agg (aK ⟨kind, true, [], [], [], [], ops, []⟩)) h [] := by
 refine ab PY mixed (by simp [NK]) fun hh hargs => ?_
 simp [NK, aW, hh, ac]
 done
theorem qp (name : List UInt8) (h : List (List AV)) : Contract Tryz.prog 97 [.v (.string (ah name))] h (.agg (aG (jA name))) h [] := by
 refine ab Qj mixed (by simp [Nw]) fun hh hargs => ?_
 simp [Nw, fy, jA, hh, ac]
 done
theorem mu (name : List UInt8) (h : List (List AV)) : Contract Tryz.prog 103 [.v (.string (ah name))] h (.agg (aG (jA name))) h [] := by
 refine ab N9 mixed (by simp [GK]) fun hh hargs => ?_
 simp [GK, fy, jA, hh, ac]
 done
theorem lD (l : List Int) (hl : l.length <= 1000000) (h : List (List AV)) : Contract Tryz.prog 53 [.sl 1 (ai ao l) none .no] h (.sl 1 (ai ao l) none .no) h [] := by
 refine lW (pre := []) (post := []) (fun he => ?_) ?_
 ·have : l = [] := by cases l with | nil => rfl | cons _ _ => simp [ai] at he
  subst this
  refine ab KX mixed (by simp [Dk]) fun hh hargs => ?_
  simp [Dk, hh, ai]
 ·refine ab KX mixed (by simp [Dk]) fun hh hargs => ?_
  simp [Dk, hh]
  refine cP ?_
  simp [hh]
  omega
theorem pz (name : List UInt8) (s : Sm) (hs : s.oids.length <= 1000000) (h : List (List AV)) : Contract Tryz.prog 99 [.v (.string (ah name)), .agg (db s)] h (.agg (aG (cc name s))) h [] := by
 refine ab Ql mixed (by simp [OM]) fun hh hargs => ?_
 simp [OM]
 refine aa (by simp) (lD s.oids hs _) ?_
 simp [fy, cc, hh, ac]
 done
theorem mC (name : List UInt8) (s : Sm) (hs : s.oids.length <= 1000000) (h : List (List AV)) : Contract Tryz.prog 105 [.v (.string (ah name)), .agg (db s)] h (.agg (aG (cc name s))) h [] := by
 refine ab Mb mixed (by simp [Gw]) fun hh hargs => ?_
 simp [Gw]
 refine cP ?_
 simp [fy, cc, hh, ac]
 omega
theorem nI {L : List Int} {x : Int} {j : Nat} (hj : j < L.length) (h : x ∉ L.take j) (e : ¬ L[j] = x) : x ∉ L.take (j + 1) := by
 rw [List.take_succ_eq_append_getElem hj]
 intro hm
 rcases Q2.1 hm with h1 | h1
 ·exact h h1
 ·exact e (Q0.1 h1).symm
theorem yU {h : List (List AV)} {L : List Int} (hl : L.length <= 1000000) (x : Int) : ∃ n : Int, Contract Tryz.prog 94 [.sl 1 (ai ao L) none .no, .v (.int .i64 x)] h (.v (.int .i64 n)) h [] /\ (decide (0 <= n) = L.contains x) := by
 refine ⟨if x ∈ L then (L.idxOf x : Int) else -1, ?_, ?_⟩
 ·refine ab Qn mixed (by simp [Pi]) fun hh hargs => ?_
  simp [Pi]
  refine am (D := Nat) (fun j => ⟨[(0, .sl 1 (ai ao L) none .no), (1, .v (.int .i64 x)), (7, .v (.int .i64 (L.length : Int))), (8, .v (.int .i64 (j : Int)))], [], h, []⟩) (fun j => j <= L.length /\ x ∉ L.take j) (fun j => L.length - j) 0 ⟨by omega, by simp⟩ ?_ ?_
  ·simp [Leq, hh, ac]
   done
  ·rintro j ⟨hj, hno⟩
   by_cases hlt : j < L.length
   ·have hw : IntKind.i64.wrap ((j : Int) + 1) = (j : Int) + 1 := wrap64 (by omega) (by omega)
    by_cases e : L[j] = x
    ·have hm : x ∈ L := e ▸ Q1 hlt
     have hi : L.idxOf x = j := by
      have hx := List.take_append_drop j L
      rw [<- hx, List.idxOf_append, if_neg hno, List.drop_eq_getElem_cons hlt, e, List.idxOf_cons_self, List.length_take]
      omega
     have e2 : x = L[j] := e.symm
     simp [hlt, ao, e, hh, hm, hi]
     done
    ·have e2 : ¬ x = L[j] := fun k => e k.symm
     have e3 : (x == L[j]) = false := by simpa using e2
     simp [hlt, ao, e2, e3, hw]
     refine ⟨j + 1, ⟨by omega, nI hlt hno e⟩, by omega, ?_⟩
     simp [Leq, hh, ac]
     done
   ·have : j = L.length := by omega
    subst this
    rw [Q3] at hno
    simp [hh, hno]
    done
 ·by_cases hm : x ∈ L
  ·rw [if_pos hm]; simp [hm]
  ·rw [if_neg hm]; simp [hm]
theorem sD {h : List (List AV)} {L : List Int} (hl : L.length <= 1000000) (x : Int) : Contract Tryz.prog 59 [.sl 1 (ai ao L) none .no, .v (.int .i64 x)] h (.v (.bool (L.contains x))) h [] := by
 refine ab PS mixed (by simp [MP]) fun hh hargs => ?_
 obtain ⟨n, k1, k2⟩ := yU (h := h) hl x
 simp [MP]
 refine aa (by simp) k1 ?_
 have k3 : decide (0 <= n) = decide (x ∈ L) := by rw [k2]; simp
 simp [hh, k3]
 done
theorem nY {h : List (List AV)} {L : List Int} (hl : L.length <= 1000000) (x : Int) : Contract Tryz.prog 72 [.sl 1 (ai ao L) none .no, .v (.int .i64 x)] h (.v (.bool (L.contains x))) h [] := by
 refine ab P1 mixed (by simp [M7]) fun hh hargs => ?_
 simp [M7]
 refine am (D := Nat) (fun j => ⟨[(0, .sl 1 (ai ao L) none .no), (1, .v (.int .i64 x)), (5, .v (.int .i64 (j : Int)))], [], h, []⟩) (fun j => j <= L.length /\ x ∉ L.take j) (fun j => L.length - j) 0 ⟨by omega, by simp⟩ ?_ ?_
 ·simp [Leq, hh, ac]
  done
 ·rintro j ⟨hj, hno⟩
  by_cases hlt : j < L.length
  ·have hw : IntKind.i64.wrap ((j : Int) + 1) = (j : Int) + 1 := wrap64 (by omega) (by omega)
   by_cases e : L[j] = x
   ·have hm : x ∈ L := e ▸ Q1 hlt
    simp [hlt, ao, e, hh, hm]
    done
   ·simp [hlt, ao, e, hw]
    refine ⟨j + 1, ⟨by omega, nI hlt hno e⟩, by omega, ?_⟩
    simp [Leq, hh, ac]
    done
  ·have : j = L.length := by omega
   subst this
   rw [Q3] at hno
   simp [hh, hno]
   done
theorem pk (most : Int) : fA [] most = false := by simp [fA]
theorem j8 {spec : List Int} {most : Int} (h : fA spec most = false) : cA spec most = [] /\ roomE spec most = [] := by
 unfold cA roomE; rw [h]; exact ⟨rfl, rfl⟩
theorem pD {spec : List Int} {most : Int} (h : fA spec most = true) : cA spec most = [jA (an (spec.headD 0))] /\ roomE spec most = [cL 7 ⟨2, spec.headD 0⟩] := by
 unfold cA roomE; rw [h]; exact ⟨rfl, rfl⟩
def fm {α : Type} (k : Nat) (f : α -> List AV) : List α -> AV
 | [] => .sl 0 [] none .exact
 | x :: r => .sl k (ai f (x :: r)) none .exact
theorem wJ (spec : List Int) (hl : spec.length <= 1000000) (most : Int) (h : List (List AV)) : Contract Tryz.prog 62 [.sl 1 (ai ao spec) none .no, .v (.int .i64 most)] h (.tup [fm 10 aG (cA spec most), fm 8 aK (roomE spec most)]) h [] := by
 refine ab Qo mixed (by simp [Kz]) fun hh hargs => ?_
 cases spec with
 | nil =>
  obtain ⟨e1, e2⟩ := j8 (pk most)
  rw [e1, e2]
  simp [Kz, hh, fm]
  done
 | cons x r =>
  have h0 : ¬ ((r.length : Int) + 1) = 0 := by omega
  by_cases hm : ((r.length : Int) + 1) < most
  ·obtain ⟨e1, e2⟩ := j8 (spec := x :: r) (most := most) (by simp [fA, hm])
   rw [e1, e2]
   simp [Kz, hm, h0, hh, fm]
   done
  ·obtain ⟨e1, e2⟩ := pD (spec := x :: r) (most := most) (by simp [fA]; omega)
   rw [e1, e2]
   simp [Kz, hm, h0, ao]
   refine aj (tA 7 [⟨2, x⟩] _) (by simp [jg]) (by simp) ?_
   simp
   refine ⟨?_, ?_⟩
   ·refine aa (by simp) (dn x _) ?_
    simp
    refine ⟨?_, ?_⟩
    ·refine aa (by simp) (qp _ _) ?_
     simp [fm, hh, ai, ac, cL, aW, jg]
     done
    ·refine aa (by simp) (qp _ _) ?_
     simp [fm, hh, ai, ac, cL, aW, jg]
     done
   ·refine aa (by simp) (dn x _) ?_
    simp
    refine aa (by simp) (qp _ _) ?_
    simp [fm, hh, ai, ac, cL, aW, jg]
    done
theorem tw (spec : List Int) (hl : spec.length <= 1000000) (most : Int) (h : List (List AV)) : Contract Tryz.prog 73 [.sl 1 (ai ao spec) none .no, .v (.int .i64 most)] h (.tup [fm 10 aG (cA spec most), fm 8 aK (roomE spec most)]) h [] := by
 refine ab Qa mixed (by simp [Ib]) fun hh hargs => ?_
 cases spec with
 | nil =>
  obtain ⟨e1, e2⟩ := j8 (pk most)
  rw [e1, e2]
  by_cases h0 : (0 : Int) < most
  ·simp [Ib, hh, fm, h0]
  ·simp [Ib, hh, fm, h0]
  done
 | cons x r =>
  have h0 : ¬ ((r.length : Int) + 1) = 0 := by omega
  by_cases hm : ((r.length : Int) + 1) < most
  ·obtain ⟨e1, e2⟩ := j8 (spec := x :: r) (most := most) (by simp [fA, hm])
   rw [e1, e2]
   simp [Ib, hm, h0, hh, fm]
   done
  ·obtain ⟨e1, e2⟩ := pD (spec := x :: r) (most := most) (by simp [fA]; omega)
   rw [e1, e2]
   simp [Ib, hm, h0, ao]
   refine ⟨?_, ?_⟩
   ·refine aa (by simp) (dw x _) ?_
    simp
    refine ⟨?_, ?_⟩
    ·refine aa (by simp) (mu _ _) ?_
     simp [fm, hh, ai, ac, cL, aW, jg]
     done
    ·refine aa (by simp) (mu _ _) ?_
     simp [fm, hh, ai, ac, cL, aW, jg]
     done
   ·refine aa (by simp) (dw x _) ?_
    simp
    refine aa (by simp) (mu _ _) ?_
    simp [fm, hh, ai, ac, cL, aW, jg]
    done
end Go.Proofs.YtdfgljojemmlcaaGreat.Ax
namespace Go.Proofs.YtdfgljojemmlcaaGreat.Ax
open Go.RowKit Go By Dg
set_option maxRecDepth 10000
theorem iQ (n : Int) : (an n).length <= 100 := by
 unfold an
 split
 ·simp
 ·have := ng n (by omega) (by omega)
  simp [Ci]
  omega
theorem xL (n : Int) : fi (jA (an n)) := by
 have := iQ n
 unfold fi jA
 simp
 omega
theorem yF {name : List UInt8} {s : Sm} (hn : name.length <= 1000) (ht : s.text.length <= 1000) (ho : s.oids.length <= 1000) : fi (cc name s) := by
 unfold fi cc
 simp
 omega
theorem wK (k : Int) (op : Oc) : fF (cL k op) := by unfold fF cL; simp
theorem gX (spec : List Int) (most : Int) : (∀ m ∈ cA spec most, fi m) /\ (∀ e ∈ roomE spec most, fF e) /\ (cA spec most).length <= 1 /\ (roomE spec most).length = (cA spec most).length := by
 cases hf : fA spec most with
 | false => obtain ⟨e1, e2⟩ := j8 hf; rw [e1, e2]; simp
 | true =>
  obtain ⟨e1, e2⟩ := pD hf
  rw [e1, e2]
  refine ⟨fun m hm => ?_, fun e he => ?_, by simp, by simp⟩
  ·rw [Q0.1 hm]; exact xL _
  ·rw [Q0.1 he]; exact wK _ _
theorem mA (spec : List Int) (most id : Int) (s : Sm) (ht : s.text.length <= 1000) (ho : s.oids.length <= 1000) : (∀ m ∈ ba spec most id s, fi m) /\ (∀ e ∈ aI spec most id, fF e) /\ (ba spec most id s).length <= 2 /\ (aI spec most id).length = (ba spec most id s).length := by
 obtain ⟨r1, r2, r3, r4⟩ := gX spec most
 unfold ba aI
 split
 ·simp
 ·have hp := yF (name := an id) (s := s) (by have := iQ id; omega) ht ho
  refine ⟨fun m hm => ?_, fun e he => ?_, by simp; omega, by simp [r4]⟩
  ·rcases Q2.1 hm with h1 | h1
   ·exact r1 m h1
   ·rw [Q0.1 h1]; exact hp
  ·rcases Q2.1 he with h1 | h1
   ·exact r2 e h1
   ·rw [Q0.1 h1]; exact wK _ _
theorem pd : an 1 = [95, 112, 49] := by decide +kernel
end Go.Proofs.YtdfgljojemmlcaaGreat.Ax
