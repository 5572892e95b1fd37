import Derived.Test.YtdfgljojemmlcaaGreatQAxXr
import Derived.Test.YtdfgljojemmlcaaGreatRows
import Derived.Test.YtdfgljojemmlcaaGreatQAxWo
import Derived.Test.YtdfgljojemmlcaaGreatQAxPf
import Derived.Test.YtdfgljojemmlcaaGreatQAxNa
import Derived.Test.YtdfgljojemmlcaaGreatQAxJc
import Derived.Test.YtdfgljojemmlcaaGreatQAxKc0
set_option linter.unusedSimpArgs false
set_option linter.unusedVariables false
namespace Go.Proofs.YtdfgljojemmlcaaGreat.Ax
open Go.RowKit Go By
end Go.Proofs.YtdfgljojemmlcaaGreat.Ax
namespace Go.Proofs.YtdfgljojemmlcaaGreat.Ax
open Go.RowKit Go By
set_option maxRecDepth 10000
theorem wf_small {n : Int} (h1 : 1 <= n) (h2 : n <= 2147483648) : (Lit.int .i64 n).wf = true := by
 simp [Lit.wf, IntKind.min, IntKind.max, IntKind.signed, IntKind.bits]
 omega
theorem nserver_any (n : Int) (h : List (List AV)) : Contract Tryz.prog 63 [.v (.int .i64 n)] h (.v (.string (strB (serverL n)))) h [] := by
 by_cases h1 : n < 1
 ·refine contract_of k63 mixed (by simp [c63]) fun hh hargs => ?_
  simp [c63, h1, hh, serverL]
 ·by_cases h2 : 2147483648 < n
  ·refine contract_of k63 mixed (by simp [c63]) fun hh hargs => ?_
   simp [c63, h1, h2, hh, serverL]
  ·exact nserver_c n (wf_small (by omega) (by omega)) h
def closeF (name : List UInt8) : Fm := ⟨67, 83, name, [], [], [], [], [], [], 0⟩
def parseF (name : List UInt8) (s : Sm) : Fm := ⟨80, 0, name, [], s.text, s.oids, [], [], [], 0⟩
def hidE (kind : Int) (op : Oc) : En := ⟨kind, true, [], [], [], [], [op], []⟩
def full19 (spec : List Int) (most : Int) : Bool := !(decide (spec.length = 0) || decide ((spec.length : Int) < most))
def roomF (spec : List Int) (most : Int) : List Fm := if full19 spec most = true then [closeF (serverL (spec.headD 0))] else []
def roomE (spec : List Int) (most : Int) : List En := if full19 spec most = true then [hidE 7 ⟨2, spec.headD 0⟩] else []
def readyF (spec : List Int) (most id : Int) (s : Sm) : List Fm := if spec.contains id then [] else roomF spec most ++ [parseF (serverL id) s]
def readyE (spec : List Int) (most id : Int) : List En := if spec.contains id then [] else roomE spec most ++ [hidE 2 ⟨1, id⟩]
theorem hidden_c (kind : Int) (ops : List Oc) (h : List (List AV)) : Contract Tryz.prog 96 [.v (.int .i64 kind), .sl 2 (enc ocC ops) none .no] h (.agg (enC ⟨kind, true, [], [], [], [], ops, []⟩)) h [] := by
 refine contract_of k96 mixed (by simp [c96]) fun hh hargs => ?_
 simp [c96, enC_mk, hh, leqH_take]
 done
theorem jclose_c (name : List UInt8) (h : List (List AV)) : Contract Tryz.prog 97 [.v (.string (strB name))] h (.agg (fmC (closeF name))) h [] := by
 refine contract_of k97 mixed (by simp [c97]) fun hh hargs => ?_
 simp [c97, fmC_mk, closeF, hh, leqH_take]
 done
theorem jclone_c (l : List Int) (hl : l.length <= 1000000) (h : List (List AV)) : Contract Tryz.prog 53 [.sl 1 (enc intC l) none .no] h (.sl 1 (enc intC l) none .no) h [] := by
 refine contract_nul (pre := []) (post := []) (fun he => ?_) ?_
 ·have : l = [] := by cases l with | nil => rfl | cons _ _ => simp [enc] at he
  subst this
  refine contract_of k53 mixed (by simp [c53]) fun hh hargs => ?_
  simp [c53, hh, enc]
 ·refine contract_of k53 mixed (by simp [c53]) fun hh hargs => ?_
  simp [c53, hh]
  refine xappendA_own ?_
  simp [hh]
  omega
theorem jparse_c (name : List UInt8) (s : Sm) (hs : s.oids.length <= 1000000) (h : List (List AV)) : Contract Tryz.prog 99 [.v (.string (strB name)), .agg (smC s)] h (.agg (fmC (parseF name s))) h [] := by
 refine contract_of k99 mixed (by simp [c99]) fun hh hargs => ?_
 simp [c99]
 refine xcall_self (by simp) (jclone_c s.oids hs _) ?_
 simp [fmC_mk, parseF, hh, leqH_take]
 done
theorem nothas_take {L : List Int} {x : Int} {j : Nat} (hj : j < L.length) (h : x ∉ L.take j) (e : ¬ L[j] = x) : x ∉ L.take (j + 1) := by
 rw [List.take_succ_eq_append_getElem hj]
 intro hm
 rcases List.mem_append.1 hm with h1 | h1
 ·exact h h1
 ·exact e (List.mem_singleton.1 h1).symm
theorem jindex_c {h : List (List AV)} {L : List Int} (hl : L.length <= 1000000) (x : Int) : ∃ n : Int, Contract Tryz.prog 94 [.sl 1 (enc intC L) none .no, .v (.int .i64 x)] h (.v (.int .i64 n)) h [] /\ (decide (0 <= n) = L.contains x) := by
 refine ⟨if x ∈ L then (L.idxOf x : Int) else -1, ?_, ?_⟩
 ·refine contract_of k94 mixed (by simp [c94]) fun hh hargs => ?_
  simp [c94]
  refine xloop_ok (D := Nat) (fun j => ⟨[(0, .sl 1 (enc intC L) none .no), (1, .v (.int .i64 x)), (7, .v (.int .i64 (L.length : Int))), (8, .v (.int .i64 (j : Int)))], [], h, []⟩) (fun j => j <= L.length /\ x ∉ L.take j) (fun j => L.length - j) 0 ⟨by omega, by simp⟩ ?_ ?_
  ·simp [Leq, hh, leqH_take]
   done
  ·rintro j ⟨hj, hno⟩
   by_cases hlt : j < L.length
   ·have hw : IntKind.i64.wrap ((j : Int) + 1) = (j : Int) + 1 := wrap64 (by omega) (by omega)
    by_cases e : L[j] = x
    ·have hm : x ∈ L := e ▸ List.getElem_mem hlt
     have hi : L.idxOf x = j := by
      have hx := List.take_append_drop j L
      rw [<- hx, List.idxOf_append, if_neg hno, List.drop_eq_getElem_cons hlt, e, List.idxOf_cons_self, List.length_take]
      omega
     have e2 : x = L[j] := e.symm
     simp [hlt, intC, e, hh, hm, hi]
     done
    ·have e2 : ¬ x = L[j] := fun k => e k.symm
     have e3 : (x == L[j]) = false := by simpa using e2
     simp [hlt, intC, e2, e3, hw]
     refine ⟨j + 1, ⟨by omega, nothas_take hlt hno e⟩, by omega, ?_⟩
     simp [Leq, hh, leqH_take]
     done
   ·have : j = L.length := by omega
    subst this
    rw [List.take_length] at hno
    simp [hh, hno]
    done
 ·by_cases hm : x ∈ L
  ·rw [if_pos hm]; simp [hm]
  ·rw [if_neg hm]; simp [hm]
theorem jhas_c {h : List (List AV)} {L : List Int} (hl : L.length <= 1000000) (x : Int) : Contract Tryz.prog 59 [.sl 1 (enc intC L) none .no, .v (.int .i64 x)] h (.v (.bool (L.contains x))) h [] := by
 refine contract_of k59 mixed (by simp [c59]) fun hh hargs => ?_
 obtain ⟨n, k1, k2⟩ := jindex_c (h := h) hl x
 simp [c59]
 refine xcall_self (by simp) k1 ?_
 have k3 : decide (0 <= n) = decide (x ∈ L) := by rw [k2]; simp
 simp [hh, k3]
 done
theorem full_nil (most : Int) : full19 [] most = false := by simp [full19]
theorem room_no {spec : List Int} {most : Int} (h : full19 spec most = false) : roomF spec most = [] /\ roomE spec most = [] := by
 unfold roomF roomE; rw [h]; exact ⟨rfl, rfl⟩
theorem room_yes {spec : List Int} {most : Int} (h : full19 spec most = true) : roomF spec most = [closeF (serverL (spec.headD 0))] /\ roomE spec most = [hidE 7 ⟨2, spec.headD 0⟩] := by
 unfold roomF roomE; rw [h]; exact ⟨rfl, rfl⟩
def litV {α : Type} (k : Nat) (f : α -> List AV) : List α -> AV
 | [] => .sl 0 [] none .exact
 | x :: r => .sl k (enc f (x :: r)) none .exact
theorem jroom_c (spec : List Int) (hl : spec.length <= 1000000) (most : Int) (h : List (List AV)) : Contract Tryz.prog 62 [.sl 1 (enc intC spec) none .no, .v (.int .i64 most)] h (.tup [litV 10 fmC (roomF spec most), litV 8 enC (roomE spec most)]) h [] := by
 refine contract_of k62 mixed (by simp [c62]) fun hh hargs => ?_
 cases spec with
 | nil =>
  obtain ⟨e1, e2⟩ := room_no (full_nil most)
  rw [e1, e2]
  simp [c62, hh, litV]
  done
 | cons x r =>
  have h0 : ¬ ((r.length : Int) + 1) = 0 := by omega
  by_cases hm : ((r.length : Int) + 1) < most
  ·obtain ⟨e1, e2⟩ := room_no (spec := x :: r) (most := most) (by simp [full19, hm])
   rw [e1, e2]
   simp [c62, hm, h0, hh, litV]
   done
  ·obtain ⟨e1, e2⟩ := room_yes (spec := x :: r) (most := most) (by simp [full19]; omega)
   rw [e1, e2]
   simp [c62, hm, h0, intC]
   refine xcall_of (hidden_c 7 [⟨2, x⟩] _) (by simp [ocC]) (by simp) ?_
   simp
   refine ⟨?_, ?_⟩
   ·refine xcall_self (by simp) (nserver_any x _) ?_
    simp
    refine ⟨?_, ?_⟩
    ·refine xcall_self (by simp) (jclose_c _ _) ?_
     simp [litV, hh, enc, leqH_take, hidE, enC_mk, ocC]
     done
    ·refine xcall_self (by simp) (jclose_c _ _) ?_
     simp [litV, hh, enc, leqH_take, hidE, enC_mk, ocC]
     done
   ·refine xcall_self (by simp) (nserver_any x _) ?_
    simp
    refine xcall_self (by simp) (jclose_c _ _) ?_
    simp [litV, hh, enc, leqH_take, hidE, enC_mk, ocC]
    done
end Go.Proofs.YtdfgljojemmlcaaGreat.Ax
namespace Go.Proofs.YtdfgljojemmlcaaGreat.Ax
open Go.RowKit Go By Dg
set_option maxRecDepth 10000
theorem server_len19 (n : Int) : (serverL n).length <= 100 := by
 unfold serverL
 split
 ·simp
 ·have := dtext_len n (by omega) (by omega)
  simp [preN]
  omega
theorem close_fit (n : Int) : FmFit (closeF (serverL n)) := by
 have := server_len19 n
 unfold FmFit closeF
 simp
 omega
theorem parse_fit {name : List UInt8} {s : Sm} (hn : name.length <= 1000) (ht : s.text.length <= 1000) (ho : s.oids.length <= 1000) : FmFit (parseF name s) := by
 unfold FmFit parseF
 simp
 omega
theorem hid_fit (k : Int) (op : Oc) : EnFit (hidE k op) := by unfold EnFit hidE; simp
theorem room_fit (spec : List Int) (most : Int) : (∀ m ∈ roomF spec most, FmFit m) /\ (∀ e ∈ roomE spec most, EnFit e) /\ (roomF spec most).length <= 1 /\ (roomE spec most).length = (roomF spec most).length := by
 cases hf : full19 spec most with
 | false => obtain ⟨e1, e2⟩ := room_no hf; rw [e1, e2]; simp
 | true =>
  obtain ⟨e1, e2⟩ := room_yes hf
  rw [e1, e2]
  refine ⟨fun m hm => ?_, fun e he => ?_, by simp, by simp⟩
  ·rw [List.mem_singleton.1 hm]; exact close_fit _
  ·rw [List.mem_singleton.1 he]; exact hid_fit _ _
theorem ready_fit (spec : List Int) (most id : Int) (s : Sm) (ht : s.text.length <= 1000) (ho : s.oids.length <= 1000) : (∀ m ∈ readyF spec most id s, FmFit m) /\ (∀ e ∈ readyE spec most id, EnFit e) /\ (readyF spec most id s).length <= 2 /\ (readyE spec most id).length = (readyF spec most id s).length := by
 obtain ⟨r1, r2, r3, r4⟩ := room_fit spec most
 unfold readyF readyE
 split
 ·simp
 ·have hp := parse_fit (name := serverL id) (s := s) (by have := server_len19 id; omega) ht ho
  refine ⟨fun m hm => ?_, fun e he => ?_, by simp; omega, by simp [r4]⟩
  ·rcases List.mem_append.1 hm with h1 | h1
   ·exact r1 m h1
   ·rw [List.mem_singleton.1 h1]; exact hp
  ·rcases List.mem_append.1 he with h1 | h1
   ·exact r2 e h1
   ·rw [List.mem_singleton.1 h1]; exact hid_fit _ _
theorem server_one : serverL 1 = [95, 112, 49] := by decide +kernel
end Go.Proofs.YtdfgljojemmlcaaGreat.Ax
