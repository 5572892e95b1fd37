/- Those that wait do any calls in any order as the document's own answer does. -/
import Derived.Test.YtlbgjlmokpkkeaaQAxX
import Derived.Test.YtlbgjlmokpkkeaaRows
import Derived.Test.YtlbgjlmokpkkeaaQAxIl
import Derived.Test.YtlbgjlmokpkkeaaQAxIj
import Derived.Test.YtlbgjlmokpkkeaaQElems
import Derived.WalkKit
import Derived.ProofKit
import Derived.OpenShut
import Derived.ShutString
import Derived.ChangeOld
import Derived.Below
/- The texts of functions over values without memory, as the kernel reckons them out of the program. -/
namespace Go.Proofs.Ytlbgjlmokpkkeaa.Ax
open Go.RowKit Go By

def c16 : XFun := ⟨26, (.seq (.ops [⟨(some 4), (.assign (.const (.bool false))), none⟩]) (.seq (.seq (.ops [⟨(some 6), (.move (.tmp 0)), none⟩, ⟨(some 7), (.lenL (.tmp 6)), none⟩, ⟨(some 8), (.move (.tmp 1)), none⟩, ⟨(some 9), (.lenL (.tmp 8)), none⟩, ⟨(some 10), (.bin .neq (.tmp 7) (.tmp 9)), none⟩]) (.cond (.tmp 10) (.seq (.ops [⟨(some 4), (.assign (.const (.bool false))), none⟩]) .ret) .skip)) (.seq (.seq (.ops [⟨(some 11), (.move (.tmp 0)), none⟩, ⟨(some 12), (.lenL (.tmp 11)), none⟩, ⟨(some 13), (.move (.const (.int .i64 0))), none⟩]) (.block 0 (.loop (.seq (.ops [⟨(some 14), (.bin .lss (.tmp 13) (.tmp 12)), none⟩]) (.seq (.cond (.tmp 14) .skip (.exit 0)) (.seq (.block 1 (.seq (.ops [⟨(some 15), (.move (.tmp 13)), none⟩, ⟨(some 5), (.assign (.tmp 15)), none⟩]) (.seq (.draws (.take ⟨(some 16), (.move (.tmp 0)), none⟩ (.take ⟨(some 17), (.move (.tmp 5)), none⟩ (.take ⟨(some 18), (.iaddr 1 (.tmp 16) (.tmp 17)), none⟩ (.take ⟨(some 19), (.load1 (.tmp 18)), none⟩ (.take ⟨(some 20), (.move (.tmp 1)), none⟩ (.take ⟨(some 21), (.move (.tmp 5)), none⟩ (.take ⟨(some 22), (.iaddr 1 (.tmp 20) (.tmp 21)), none⟩ (.take ⟨(some 23), (.load1 (.tmp 22)), none⟩ (.take ⟨(some 24), (.bin .neq (.tmp 19) (.tmp 23)), none⟩ .done)))))))))) (.cond (.tmp 24) (.seq (.ops [⟨(some 4), (.assign (.const (.bool false))), none⟩]) .ret) .skip)))) (.ops [⟨(some 25), (.bin .add (.tmp 13) (.const (.int .i64 1))), none⟩, ⟨(some 13), (.move (.tmp 25)), none⟩]))))))) (.seq (.ops [⟨(some 4), (.assign (.const (.bool true))), none⟩]) .ret)))), [(.move (.tmp 4))]⟩
theorem k16 : cfun Try.prog 16 = some c16 := by kernel_rfl
end Go.Proofs.Ytlbgjlmokpkkeaa.Ax
/- Layer 32 over values without memory: List; fifos that no call made; the document's. -/
namespace Go.Proofs.Ytlbgjlmokpkkeaa.Ax
open Go.RowKit Go By
set_option linter.unusedSimpArgs false
set_option linter.unusedVariables false
set_option maxRecDepth 10000

theorem plainH_unown (h : List (List AV)) : plainH (unownH h) := fun cs hcs c hc => by
  unfold unownH at hcs
  obtain ⟨ds, _, rfl⟩ := List.mem_map.1 hcs
  obtain ⟨x, _, rfl⟩ := List.mem_map.1 hc
  cases x with
  | sl k es nul room => cases room <;> rfl
  | _ => rfl
section
variable {h : List (List AV)} {i : Nat} {F : Ff}
set_option maxHeartbeats 1000000 in
theorem flist_c (hr : FfAt h i F) {m : Nat} (ho : FfOk m F) (hm : m ≤ 1000000) (hp : plainH h) : Contract Try.prog 17 [.box i 0] h (.sl 1 (enc intC F.waits) none .no) h [] := by
  have hi := hr.i_lt
  have hla := hr.a_lt
  have e2 := hr.ents
  have e3 := F.of_cells
  have g2 : ∀ xs, (h ++ xs)[F.a]? = some F.cells := fun xs => by rw [List.getElem?_append_left hla]; exact e2
  have hr1 := hr.app [[.v (.map none)]]
  refine contract_of k17 mixedFo (by simp [c17]) fun hh hargs => ?_
  simp [c17]
  refine xcall_self (by simp) (fwait_c hr) ?_
  have g3 : ∀ xs, (h ++ [.mp F.a 1 true] :: xs)[F.a]? = some F.cells := fun xs => by rw [List.getElem?_append_left hla]; exact e2
  simp [g2, g3, e3]
  refine xloop_ok (D := List (IE Int)) (fun seen => ⟨[(3, .box h.length 0), (9, .itr (h.length + 1) (some F.a) 1 true)], [(4, .sl 1 (enc intC (seen.map IE.key)) none (.own (.new 4)))], h ++ [[.mp F.a 1 true], itC F.clock F.clock (seen.map IE.born)], []⟩) (fun seen => IE.Seen F.l seen) (fun seen => F.l.length - seen.length) [] ⟨List.nodup_nil, fun x hx => by cases hx⟩ ?_ ?_
  · simp [Leq, hh, hargs, hi, hla, leqH_take, itC]
    omega
  · intro seen hs
    simp [g2, g3, e3]
    refine ⟨fun a ha => ho.ok.lt a ha, fun hall => ?_, ?_⟩
    · have hperm := hs.perm ho.ok fun x hx => hall x hx
      have hins := sort_turns ho hm hperm (h := h ++ [[.mp F.a 1 true], itC F.clock F.clock (seen.map IE.born)]) (i := h.length) (by simp) (g3 _)
      refine ⟨intsV (seen.map IE.key), intsV F.waits, 1, none, .own (.new 4), by rw [vE_ints]; rfl, .inl ⟨rfl, _, rfl, rfl⟩, trivial, hins, ⟨by simp, hp⟩, by simp, ?_⟩
      rw [vE_ints]
      have hres : ∀ m (es : List (List AV)), resOf m (.sl 1 es none (.own (.new 2))) = .sl 1 es none (.own .res) := fun _ _ => rfl
      simp [St.sortedF, St.calm, hh, hres]
      done
    · intro a ha hnew
      have hb := IE.at_born (f := intC) ho.ok.borns ha
      have hkey : (IE.ent intC a).key = .int .i64 a.key := rfl
      have hborn : (IE.ent intC a).born = a.born := rfl
      have hout : a ∉ seen := fun hx => hnew a hx rfl
      have hs2 := hs.snoc ha hout
      have hle := hs2.le
      have hlen := ho.len
      simp at hle
      simp [hb, hkey, hborn]
      refine ⟨by omega, by omega, seen ++ [a], hs2, by simp; omega, ?_⟩
      simp [Leq, hh, hargs, hi, hla, leqH_take, itC, intC, enc, IE.ent]
      and_intros
      all_goals first | omega | (refine ltL_of fun j c hc => ?_; obtain ⟨b, _, rfl⟩ := List.mem_map.1 (List.mem_of_getElem? hc); simp) | (refine ltLL_of' fun j c hc => ?_; obtain ⟨b, _, rfl⟩ := List.mem_map.1 (List.mem_of_getElem? hc); exact intC_lt _ _)
end
/-! ### Nobody's -/
section
variable {h : List (List AV)} {i : Nat} {p : AV}
end
end Go.Proofs.Ytlbgjlmokpkkeaa.Ax
/- Layer 32 over values without memory: the document's; any calls in any order. -/
namespace Go.Proofs.Ytlbgjlmokpkkeaa.Ax
open Go.RowKit Go By
set_option linter.unusedSimpArgs false
set_option linter.unusedVariables false
set_option maxRecDepth 10000

/-- The document's list, as its cell has it. -/
def xfC (i : Nat) (L : List Int) : List AV := [.sl 1 (enc intC L) none (.own (.cell i 0))]
theorem xfC_lt (i n : Nat) (L : List Int) : ltL n (xfC i L) := by simp [xfC]
section
variable {h : List (List AV)} {i : Nat} {L : List Int}
theorem xpush_c (hi : h[i]? = some (xfC i L)) (hl : L.length ≤ 1000) (n : Int) : Contract Try.prog 8 [.box i 0, .v (.int .i64 n)] h (.v (.bool (!decide (n ∈ L)))) (if n ∈ L then h else h.set i (xfC i (L ++ [n]))) (if n ∈ L then [] else [i]) := by
  have hil := (List.getElem?_eq_some_iff.1 hi).1
  refine contract_of k8 mixedFo (by simp [c8]) fun hh hargs => ?_
  have hi0 := hi
  unfold xfC at hi
  simp [c8]
  refine xloop_ok (D := Nat) (fun j => ⟨[(0, .box i 0), (1, .v (.int .i64 n)), (5, .v (.int .i64 (j : Int)))], [], h, []⟩) (fun j => j ≤ L.length ∧ ∀ q (hq : q < L.length), q < j → L[q] ≠ n) (fun j => L.length - j) 0 ⟨Nat.zero_le _, fun q _ hq => absurd hq (Nat.not_lt_zero _)⟩ ?_ ?_
  · simp [Leq, hh, hil]
  · rintro j ⟨hj, hno⟩
    simp [hi]
    by_cases hlt : j < L.length
    · have hw : IntKind.i64.wrap ((j : Int) + 1) = (j : Int) + 1 := wrap64 (by omega) (by omega)
      by_cases he : L[j] = n
      · have hm : n ∈ L := by rw [← he]; exact List.getElem_mem hlt
        simp [hlt, hi, intC, he, hm, hh]
      · simp [hlt, hi, intC, he, hw]
        refine ⟨j + 1, ⟨by omega, fun q hq hq2 => ?_⟩, by omega, ?_⟩
        · by_cases e : q = j
          · subst e; exact he
          · exact hno q hq (by omega)
        · simp [Leq, hh, hil]
    · have hjl : j = L.length := by omega
      subst hjl
      have hm : n ∉ L := fun hm => by
        obtain ⟨q, hq, e⟩ := List.mem_iff_getElem.1 hm
        exact hno q hq hq e
      have hu : unownAt h i 0 = h.set i [.sl 1 (enc intC L) none .no] := by unfold unownAt; rw [hi]; rfl
      have hset : ∀ X : List AV, (h.set i X)[i]? = some X := fun X => List.getElem?_set_self hil
      have hlt2 := ltLL_set (i := i) hh (xfC_lt i h.length (L ++ [n]))
      simp [hi, hm, hu, hset, List.set_set]
      refine ⟨by omega, by omega, .inl ?_, hlt2⟩
      have e : enc intC (L ++ [n]) = enc intC L ++ [[.v (.int .i64 n)]] := by simp [enc, intC]
      unfold xfC
      rw [e]
      exact ⟨leqV_refl _ _, trivial⟩
theorem xhead_c (hi : h[i]? = some (xfC i L)) : Contract Try.prog 14 [.box i 0] h (.tup [.v (.int .i64 (L.headD 0)), .v (.bool (!L.isEmpty))]) h [] := by
  have hil := (List.getElem?_eq_some_iff.1 hi).1
  refine contract_of k14 mixedFo (by simp [c14]) fun hh hargs => ?_
  unfold xfC at hi
  cases L with
  | nil => simp [c14, hi, hh]
  | cons x r =>
    have e0 : ((r.length : Int) + 1 == 0) = false := by simp; omega
    have e1 : (0 : Int) < (r.length : Int) + 1 := by omega
    simp [c14, hi, hh, e0, e1, intC]
def keepL (n : Int) (L : List Int) : List Int := L.filter fun x => decide (x ≠ n)
theorem keepL_snoc (n x : Int) (L : List Int) : keepL n (L ++ [x]) = keepL n L ++ (if x = n then [] else [x]) := by
  unfold keepL
  rw [List.filter_append]
  by_cases h : x = n <;> simp [h]
theorem keepL_len (n : Int) (L : List Int) : ((keepL n L).length < L.length) = (n ∈ L) := by
  unfold keepL
  have := List.length_filter_lt_length_iff_exists (l := L) (p := fun x => decide (x ≠ n))
  rw [this]
  simp
set_option maxHeartbeats 1000000 in
theorem xremove_c (hi : h[i]? = some (xfC i L)) (hl : L.length ≤ 1000) (n : Int) : Contract Try.prog 12 [.box i 0, .v (.int .i64 n)] h (.v (.bool (decide (n ∈ L)))) (h.set i (xfC i (keepL n L))) [i] := by
  have hil := (List.getElem?_eq_some_iff.1 hi).1
  refine contract_of k12 mixedFo (by simp [c12]) fun hh hargs => ?_
  unfold xfC at hi
  simp [c12]
  refine xloop_ok (D := Nat) (fun j => ⟨[(0, .box i 0), (1, .v (.int .i64 n)), (6, .v (.int .i64 (j : Int)))], [(5, .sl 1 (enc intC (keepL n (L.take j))) none (.own (.new 5)))], h, []⟩) (fun j => j ≤ L.length) (fun j => L.length - j) 0 (Nat.zero_le _) ?_ ?_
  · simp [Leq, hh, hil, keepL]
  · intro j hj
    simp [hi]
    have hkl : (keepL n (L.take j)).length ≤ 1000 := by unfold keepL; have := List.length_filter_le (fun x => decide (x ≠ n)) (L.take j); simp at this ⊢; omega
    by_cases hlt : j < L.length
    · have hw : IntKind.i64.wrap ((j : Int) + 1) = (j : Int) + 1 := wrap64 (by omega) (by omega)
      have ht : keepL n (L.take (j + 1)) = keepL n (L.take j) ++ (if L[j] = n then [] else [L[j]]) := by rw [take_next hlt, keepL_snoc]
      by_cases he : L[j] = n
      · have hne : (L[j] != n) = false := by simpa using he
        rw [if_pos he, List.append_nil] at ht
        simp [hlt, hi, intC, he, hw]
        refine ⟨j + 1, by omega, by omega, ?_⟩
        rw [ht]
        simp [Leq, hh, hil]
      · have hne : (L[j] != n) = true := by simpa using he
        rw [if_neg he] at ht
        simp [hlt, hi, intC, he, hne, hw]
        refine ⟨by omega, by omega, j + 1, by omega, by omega, ?_⟩
        rw [ht]
        simp [Leq, hh, hil, enc, intC]
        exact ltLL_ints _ _
    · have hjl : j = L.length := by omega
      subst hjl
      have hset : ∀ X : List AV, (h.set i X)[i]? = some X := fun X => List.getElem?_set_self hil
      have hu : unownAt h i 0 = h.set i [.sl 1 (enc intC L) none .no] := by unfold unownAt; rw [hi]; rfl
      have hlt2 := ltLL_set (i := i) hh (xfC_lt i h.length (keepL n L))
      simp [hi, hu, hset, List.set_set]
      exact ⟨by rw [keepL_len], .inl ⟨leqV_refl _ _, trivial⟩, hlt2⟩
theorem xpop_c (hi : h[i]? = some (xfC i L)) (hl : L.length ≤ 1000) : Contract Try.prog 10 [.box i 0] h (.tup [.v (.int .i64 (L.headD 0)), .v (.bool (!L.isEmpty))]) (h.set i (xfC i (keepL (L.headD 0) L))) [i] := by
  have hil := (List.getElem?_eq_some_iff.1 hi).1
  have k1 := xhead_c hi
  have k2 := xremove_c hi hl (L.headD 0)
  refine contract_of k10 mixedFo (by simp [c10]) fun hh hargs => ?_
  have hlt2 := ltLL_set (i := i) hh (xfC_lt i h.length (keepL (L.headD 0) L))
  have htk : (h.set i (xfC i (keepL (L.headD 0) L))).take h.length = h.set i (xfC i (keepL (L.headD 0) L)) := List.take_of_length_le (by simp)
  simp only [List.headD_eq_head?_getD] at *
  simp [c10]
  refine xcall_self (by simp) k1 ?_
  simp
  refine xcall_self (by simp) k2 ?_
  simp [hlt2, htk]
end
theorem unown_same {cs : List AV} (h : ∀ c ∈ cs, c.idOf = none) : cs.map AV.unown = cs := by
  conv => rhs; rw [← List.map_id cs]
  refine List.map_congr_left fun c hc => ?_
  have := h c hc
  cases c with
  | sl k es nul room => cases room with
    | own x => cases this
    | _ => rfl
  | _ => rfl
/-! ### Any calls in any order -/
structure SV where
  H : List (List AV)
  F : Ff
  j : Nat
structure SV.Ok (n : Nat) (d : SV) : Prop where
  at_ : FfAt d.H 1 d.F
  a : d.F.a = 0
  ok : FfOk d.j d.F
  x : d.H[2]? = some (xfC 2 d.F.waits)
  lt : ltLL d.H.length d.H
  j : d.j ≤ n ∧ d.j ≤ 100
def SV.st (l : List Ld) (d : SV) : St := ⟨[(0, .sl 2 (enc ldC l) none .no), (3, .box 1 0), (4, .box 2 0), (19, .sl 2 (enc ldC l) none .no), (20, .v (.int .i64 (l.length : Int))), (21, .v (.int .i64 (d.j : Int)))], [], d.H, []⟩
theorem waits_nodup {F : Ff} {m : Nat} (ho : FfOk m F) : F.waits.Nodup := ho.ok.keys
theorem keepL_erase {F : Ff} {m : Nat} (ho : FfOk m F) (n : Int) : keepL n F.waits = (F.del n).waits := by
  rw [Ff.waits_del, (waits_nodup ho).erase_eq_filter]
  unfold keepL
  congr 1
  funext x
  by_cases h : x = n <;> simp [h]
theorem SV.Ok.more {n : Nat} {d : SV} (ho : d.Ok n) (hj : d.j < n) (h100 : d.j < 100) (k : Ld) : SV.Ok n { d with H := d.H ++ [ldC k], j := d.j + 1 } := by
  have h3 : 2 < d.H.length := (List.getElem?_eq_some_iff.1 ho.x).1
  refine ⟨ho.at_.app _, ho.a, ho.ok.mono (Nat.le_succ _), ?_, ?_, ⟨hj, h100⟩⟩
  · show (d.H ++ _)[2]? = _
    rw [List.getElem?_append_left h3]; exact ho.x
  · have := ltLL_mono (Nat.le_add_right d.H.length 1) ho.lt
    show ltLL (d.H ++ _).length (d.H ++ _)
    simp [this, ldC]
theorem SV.Ok.push {n : Nat} {d : SV} (ho : d.Ok n) (hj : d.j < n) (h100 : d.j < 100) (k : Ld) (hn : IE.get k.id d.F.l = none) (H2 : List (List AV)) (h2 : H2 = d.F.pushH (d.H ++ [ldC k]) 1 k.id) : SV.Ok n ⟨H2.set 2 (xfC 2 (d.F.waits ++ [k.id])), d.F.push k.id, d.j + 1⟩ := by
  have hm := ho.more hj h100 k
  have hat := hm.at_.push k.id
  have hlt2 := pushH_lt (n := k.id) hm.at_ hm.lt
  have hx2 : (d.F.pushH (d.H ++ [ldC k]) 1 k.id)[2]? = some (xfC 2 d.F.waits) := by rw [pushH_get (by decide) (by rw [ho.a]; decide)]; exact hm.x
  dsimp only at hat hlt2
  subst h2
  refine ⟨hat.move (List.getElem?_set_ne (by decide)) (List.getElem?_set_ne (by show 2 ≠ d.F.a; rw [ho.a]; decide)), ho.a, ho.ok.push hn, ?_, ?_, ⟨hj, h100⟩⟩
  · show ((d.F.pushH (d.H ++ [ldC k]) 1 k.id).set 2 _)[2]? = some (xfC 2 (d.F.push k.id).waits)
    rw [List.getElem?_set_self (List.getElem?_eq_some_iff.1 hx2).1, Ff.waits_push]
  · show ltLL ((d.F.pushH (d.H ++ [ldC k]) 1 k.id).set 2 _).length _
    rw [List.length_set]
    exact ltLL_set hlt2 (xfC_lt _ _ _)
theorem SV.Ok.del {n : Nat} {d : SV} (ho : d.Ok n) (q : Int) (H2 : List (List AV)) (h2 : H2 = d.F.delH d.H q) : SV.Ok n ⟨H2.set 2 (xfC 2 (keepL q d.F.waits)), d.F.del q, d.j⟩ := by
  have hat := ho.at_.del q
  have hlt2 := delH_lt (F := d.F) (n := q) ho.lt
  have hx2 : (d.F.delH d.H q)[2]? = some (xfC 2 d.F.waits) := by rw [delH_get (by rw [ho.a]; decide)]; exact ho.x
  subst h2
  refine ⟨hat.move (List.getElem?_set_ne (by decide)) (List.getElem?_set_ne (by show 2 ≠ d.F.a; rw [ho.a]; decide)), ho.a, ho.ok.del q, ?_, ?_, ho.j⟩
  · show ((d.F.delH d.H q).set 2 _)[2]? = some (xfC 2 (d.F.del q).waits)
    rw [List.getElem?_set_self (List.getElem?_eq_some_iff.1 hx2).1, keepL_erase ho.ok]
  · show ltLL ((d.F.delH d.H q).set 2 _).length _
    rw [List.length_set]
    exact ltLL_set hlt2 (xfC_lt _ _ _)
set_option maxHeartbeats 4000000 in
theorem flives_c (l : List Ld) (hl : l.length ≤ maxLen ∧ ∀ x ∈ l, OkLd x) : Contract Try.prog 3 [.sl 2 (enc ldC l) none .no] [] (.v (.bool true)) [] [] := by
  refine contract_cut (XCode.inside (XCode.cuts [true]) [1, 1, 0, 1, 1, 1, 1, 1, 0, 1, 1, 1, 1] (XCode.inside (XCode.cuts [true]) [1, 1, 0, 1, 1, 1, 1, 1, 0, 1, 1, 1, 1, 0, 1, 1] c3.code)) k3 rfl mixedFo (by simp [c3]) fun hh hargs => ?_
  have kn := fnew_c []
  simp at kn
  simp [c3]
  refine xcall_self (by simp) kn ?_
  simp
  refine xloop_ok (D := SV) (SV.st l) (SV.Ok l.length) (fun d => l.length - d.j) ⟨[mapC 0 [], [.mp 0 1 true, .v (.int .i64 0)], xfC 2 []], ⟨0, 0, 0, []⟩, 0⟩ ?_ ?_ ?_
  · exact ⟨⟨rfl, rfl, by decide⟩, rfl, newFf_ok 0, rfl, by simp [mapC, xfC], ⟨Nat.zero_le _, Nat.zero_le _⟩⟩
  · simp [Leq, SV.st, mapC, xfC]
  · rintro ⟨H, F, j⟩ hO
    have hO2 := hO
    obtain ⟨hat, hFa, hok, hx, hlt, ⟨hjl, hj100⟩⟩ := hO
    dsimp only at hat hFa hok hx hlt hjl hj100
    unfold SV.st
    dsimp only
    have hlen3 : 2 < H.length := (List.getElem?_eq_some_iff.1 hx).1
    by_cases hjn : j < l.length
    · obtain ⟨k, hk⟩ : ∃ k, k = l[j] := ⟨_, rfl⟩
      have hw : IntKind.i64.wrap ((j : Int) + 1) = (j : Int) + 1 := wrap64 (by omega) (by omega)
      by_cases h100 : 100 ≤ j
      · have : (100 : Int) ≤ (j : Int) := by omega
        simp [hjn, ← hk, ldC, this]
        refine xcall_self (by simp) (fawake_c _) ?_
        simp
      have h100' : ¬ (100 : Int) ≤ (j : Int) := by omega
      have hM := hO2.more hjn (by show j < 100; omega) k
      have hP := hO2.push hjn (by show j < 100; omega) k
      obtain ⟨H1, hH1⟩ : ∃ H1, H1 = H ++ [ldC k] := ⟨_, rfl⟩
      have hbx : H1[H.length]? = some (ldC k) := by rw [hH1]; simp
      have hl1 : H1.length = H.length + 1 := by rw [hH1]; simp
      dsimp only at hM hP
      rw [← hH1] at hM hP
      have hat1 := hM.at_
      have hlt1 := hM.lt
      have hx1 := hM.x
      dsimp only at hat1 hlt1 hx1
      have hbk : ldC k = [AV.v (.int .i64 k.op), AV.v (.int .i64 k.id)] := rfl
      rw [hbk] at hbx
      simp [hjn, ← hk, ldC, h100']
      have e1 : H ++ [[AV.v (.int .i64 k.op), AV.v (.int .i64 k.id)]] = H1 := hH1.symm
      rw [e1]
      refine xseq_some (β := { d : SV // d.Ok l.length ∧ d.j = j + 1 }) (fun d => ⟨[(0, .sl 2 (enc ldC l) none .no), (3, .box 1 0), (4, .box 2 0), (7, .v (.bool true)), (19, .sl 2 (enc ldC l) none .no), (20, .v (.int .i64 (l.length : Int))), (21, .v (.int .i64 (j : Int)))], [], d.1.H, []⟩) ?_ ?_
      · simp [hbx]
        refine xseq_cut ⟨[(0, .sl 2 (enc ldC l) none .no), (3, .box 1 0), (4, .box 2 0), (6, .box H.length 0), (19, .sl 2 (enc ldC l) none .no), (20, .v (.int .i64 (l.length : Int))), (21, .v (.int .i64 (j : Int))), (29, .v (.int .i64 k.op)), (39, .v (.bool (decide (k.op = 0 ∨ k.op = 1 ∨ k.op = 2))))], [], H1, []⟩ ?_ ?_
        · by_cases o0 : k.op = 0
          · simp [o0, Leq, hlt1]
            omega
          · by_cases o1 : k.op = 1
            · simp [o0, o1, Leq, hlt1]
              omega
            · by_cases o2 : k.op = 2
              · simp [o0, o1, o2, Leq, hlt1]
                omega
              · simp [o0, o1, o2, Leq, hlt1]
                omega
        · have get_waits : (IE.get k.id F.l).isSome = decide (k.id ∈ F.waits) := F.get_mem k.id
          have hlen : F.waits.length ≤ 1000 := by have := hok.len; unfold Ff.waits; rw [List.length_map]; omega
          by_cases c : k.op = 0 ∨ k.op = 1 ∨ k.op = 2
          · simp [c, hbx]
            cases hg : IE.get k.id F.l with
            | some v =>
              rw [hg] at get_waits
              have hmem : k.id ∈ F.waits := by simpa using get_waits.symm
              have kx := xpush_c hx1 hlen k.id
              simp only [hmem, if_true, decide_true, Bool.not_true] at kx
              refine xcall_self (by simp) (fpush_no hat1 (n := k.id) (by rw [hg]; rfl)) ?_
              simp
              refine xcall_self (by simp) kx ?_
              simp
              refine ⟨_, ⟨hM, rfl⟩, ?_⟩
              simp [Leq, hlt1]
              omega
            | none =>
              rw [hg] at get_waits
              have hmem : k.id ∉ F.waits := by simpa using get_waits.symm
              refine xcall_self (by simp) (fpush_yes hat1 hok (by omega) (n := k.id) hg) ?_
              obtain ⟨H2, hH2⟩ : ∃ H2, H2 = F.pushH H1 1 k.id := ⟨_, rfl⟩
              have hP2 := hP hg H2 hH2
              have hp1 := hP2.lt
              dsimp only at hp1
              rw [List.length_set] at hp1
              have hx2 : H2[2]? = some (xfC 2 F.waits) := by rw [hH2, pushH_get (by decide) (by rw [hFa]; decide)]; exact hx1
              have hbx2 : H2[H.length]? = some [AV.v (.int .i64 k.op), AV.v (.int .i64 k.id)] := by rw [hH2, pushH_get (by omega) (by rw [hFa]; omega)]; exact hbx
              have kx := xpush_c hx2 hlen k.id
              simp only [hmem, if_false, decide_false, Bool.not_false] at kx
              have hl2 : H2.length = H1.length := by rw [hH2, pushH_len]
              simp [← hH2, hbx2]
              refine ⟨by omega, ?_⟩
              refine xcall_self (by simp) kx ?_
              simp
              refine ⟨by omega, _, ⟨hP2, rfl⟩, ?_⟩
              simp [Leq, hp1]
              omega
          · by_cases c3 : k.op = 3
            · simp [c, c3, hbx]
              have hkx := xpop_c hx1 hlen
              cases hwt : F.waits with
              | nil =>
                rw [hwt] at hkx
                have hs : H1.set 2 (xfC 2 (keepL ([].headD 0) [])) = H1 := by
                  rw [hwt] at hx1
                  obtain ⟨h1, h2⟩ := List.getElem?_eq_some_iff.1 hx1
                  have e : xfC 2 (keepL ([].headD 0) []) = H1[2] := h2.symm
                  rw [e, List.set_getElem_self]
                rw [hs] at hkx
                simp at hkx
                refine xcall_self (by simp) (fpop_none hat1 hok hwt) ?_
                simp
                refine xcall_self (by simp) hkx ?_
                simp
                refine ⟨_, ⟨hM, rfl⟩, ?_⟩
                simp [Leq, hlt1]
                omega
              | cons n r =>
                refine xcall_self (by simp) (fpop_some hat1 hok hwt) ?_
                obtain ⟨H2, hH2⟩ : ∃ H2, H2 = F.delH H1 n := ⟨_, rfl⟩
                have hD := hM.del n H2 hH2
                have hp1 := hD.lt
                dsimp only at hp1
                rw [List.length_set] at hp1
                have hx2 : H2[2]? = some (xfC 2 F.waits) := by rw [hH2, delH_get (by rw [hFa]; decide)]; exact hx1
                have hkx := xpop_c hx2 hlen
                have hh0 : F.waits.headD 0 = n := by rw [hwt]; rfl
                have hh1 : F.waits.isEmpty = false := by rw [hwt]; rfl
                rw [hh0, hh1] at hkx
                simp at hkx
                have hl2 : H2.length = H1.length := by rw [hH2, delH_len]
                simp [← hH2]
                refine xcall_self (by simp) hkx ?_
                simp
                refine ⟨_, ⟨hD, rfl⟩, ?_⟩
                simp [Leq, hp1]
                omega
            · simp [c, c3, hbx]
              refine xcall_self (by simp) (fremove_c hat1 k.id) ?_
              obtain ⟨H2, hH2⟩ : ∃ H2, H2 = F.delH H1 k.id := ⟨_, rfl⟩
              have hD := hM.del k.id H2 hH2
              have hp1 := hD.lt
              dsimp only at hp1
              rw [List.length_set] at hp1
              have hx2 : H2[2]? = some (xfC 2 F.waits) := by rw [hH2, delH_get (by rw [hFa]; decide)]; exact hx1
              have hbx2 : H2[H.length]? = some [AV.v (.int .i64 k.op), AV.v (.int .i64 k.id)] := by rw [hH2, delH_get (by rw [hFa]; omega)]; exact hbx
              have hl2 : H2.length = H1.length := by rw [hH2, delH_len]
              have kx := xremove_c hx2 hlen k.id
              rw [get_waits]
              simp [← hH2, hbx2]
              refine ⟨by omega, ?_⟩
              refine xcall_self (by simp) kx ?_
              simp
              refine ⟨by omega, _, ⟨hD, rfl⟩, ?_⟩
              simp [Leq, hp1]
              omega
      · rintro ⟨⟨H2, F2, j2⟩, hO3, hj2⟩
        have hj2 : j2 = j + 1 := hj2
        subst hj2
        have hO4 := hO3
        obtain ⟨hat2, hFa2, hok2, hx2, hlt2, _⟩ := hO3
        dsimp only at hat2 hFa2 hok2 hx2 hlt2
        have hlen2 : F2.waits.length ≤ 1000 := by have := hok2.len; unfold Ff.waits; rw [List.length_map]; omega
        simp
        refine xcall_self (by simp) (fhead_c hat2 hok2) ?_
        have kx := xhead_c hx2
        simp only [List.headD_eq_head?_getD] at kx
        simp
        refine xcall_self (by simp) kx ?_
        simp
        have hx3 := hx2
        have hlen4 : 2 < H2.length := (List.getElem?_eq_some_iff.1 hx2).1
        unfold xfC at hx3
        have hun : FfAt (unownH H2) 1 F2 := ⟨unownH_get hat2.top rfl, unownH_get hat2.ents (unown_same F2.plain), hat2.ne⟩
        have kl := flist_c hun hok2 (by omega) (plainH_unown H2)
        have heq := equal1_any (P := Try.prog) mixedFo (f := 16) k16 F2.waits F2.waits H2 (by omega)
        rw [eqL_beq, beq_self_eq_true] at heq
        simp [hx3]
        refine xcall_self (by simp) (flen_c hat2) ?_
        simp [hx3]
        refine xcallU_self (by simp) kl (keepsH_none _) ?_
        simp
        refine xcall_of heq (by simp) (by simp) ?_
        simp [hw]
        refine ⟨⟨H2, F2, j + 1⟩, hO4, by show l.length - (j + 1) < l.length - j; omega, ?_⟩
        simp [Leq, hlt2]
        omega
    · have hjl2 : j = l.length := by omega
      subst hjl2
      simp
      refine xcall_self (by simp) (fawake_c _) ?_
      simp
end Go.Proofs.Ytlbgjlmokpkkeaa.Ax
namespace Go.Proofs.Ytlbgjlmokpkkeaa.fifoLives
open Go.ChangeShapes Go.WideShapes Go.ChangeAt Go.RowKit
open Go.ChangeMaps (open_string shut_string)
set_option linter.unusedVariables false

theorem own : ownKnob Try.prog.godebug = none := by kernel_rfl
theorem laidOut : laidOutB Try.prog = true := by kernel_rfl

set_option maxRecDepth 100000 in
theorem lifted (os : Os) (started : os.Started) (H : Type) (enc : TypeId × Value → H) :
    ReturnsInHanded {} Try.checked os 3 .any (Rows.fifoLivesSpec.pre6 enc Try.prog Try.f3 Rows.fifoLivesRow.domain false) (Rows.fifoLivesSpec.post enc Try.prog Try.f3 false true false false) := by
  refine returnsInHanded_of_change (C := Try.checked) own started (by kernel_rfl) Try.func3
    (ChangeSpec.witness6 (enc := enc) (C := Try.checked) false ⟨#[], #[.slice none 0 0], []⟩ 8 (by kernel_rfl) (by kernel_rfl) (by kernel_rfl) (by kernel_rfl)) ?_
  intro W base args ds gs before hval0 hW hcnd _
  have hval : ∀ (j : Nat) t v, Try.f3.params[j]? = some t → args[j]? = some v → Value.okWide Try.prog W .any base t v := hval0
  have hW' := hW
  obtain ⟨p, q, hA0, hV, rfl, hfz, hnd⟩ := hW
  have hA : DataW.TrodAll enc Try.prog W 0 (fun _ => true) true Try.f3.params.toList args.toList ds p := hA0
  rw [Try.params3] at hA hval
  obtain ⟨v0, vs0, d0, ds0, p0, q0, hargs, rfl, rfl, h0, r0⟩ := trodAll_cons hA
  obtain ⟨rfl, rfl, rfl⟩ := trodAll_nil r0
  obtain rfl : args = #[v0] := by cases args; simp_all
  obtain ⟨rfl, rfl⟩ := trodVars_none hV
  have k0 := h0
  have lt0 : ∀ x ∈ p0, x.block < W.heap.size := by obtain ⟨m, hm⟩ := k0; exact DataW.trod_lt m _ _ _ hm
  obtain ⟨a0, ok0, s0⟩ := Ax.arg_slice Try.underlying22 Ax.sh_ldCL (hval 0 22 v0 rfl rfl) h0
  clear hA0 hval0
  refine (Ax.law_walk (w := W) (Ax.dom_any W) (Ax.flives_c a0 ok0) (by simp) (.cons s0 .nil)).mono fun e W' ⟨he, bel⟩ => ?_
  subst he
  exact ⟨_, rfl, _, _, _, [], _, [], hW', trodAll_mk1 (shut_bool Try.underlying4 _), (trodAll_cons_mk (Below.trod laidOut (by kernel_rfl) (of_decide_eq_true (by kernel_rfl)) k0 bel lt0) trodAll_mk0), rfl, bel.frame _, fun h => by cases h⟩

theorem over : Rows.fifoLivesRow.holds Try.pinned (OpenSpec.ofChange Rows.fifoLivesSpec) :=
  OpenClaim.holds_of_wide 3 Try.f3 rfl rfl rfl rfl rfl rfl rfl ⟨rfl, rfl, rfl, rfl, rfl⟩ rfl rfl rfl rfl rfl (by kernel_rfl) Try.func3 (by kernel_rfl)
    (of_decide_eq_true (by kernel_rfl)) (by unfold Func.isWrapper; first | (rw [if_pos (by decide +kernel)]; kernel_rfl) | (rw [if_neg (by decide +kernel)]; exact ⟨rfl, rfl⟩))
    (fun os started H enc _ => lifted os started H enc)

theorem proved : Rows.FifoLivesSaid := over
#print axioms proved
end Go.Proofs.Ytlbgjlmokpkkeaa.fifoLives
