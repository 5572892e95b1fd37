/- The engine over values without memory: what it is, and its calls; the document's. -/
import Derived.Test.YtmdapcmdlblnnaaDoorQAxXr
import Derived.Test.YtmdapcmdlblnnaaDoorRows
import Derived.Test.YtmdapcmdlblnnaaDoorQAxCm
import Derived.Test.YtmdapcmdlblnnaaDoorQAxKc0
import Derived.Test.YtmdapcmdlblnnaaDoorQAxAt
import Derived.Test.YtmdapcmdlblnnaaDoorQAxSt
import Derived.Test.YtmdapcmdlblnnaaDoorQAxSv
import Derived.Test.YtmdapcmdlblnnaaDoorQAxKb
/- The texts of functions over values without memory, as the kernel reckons them out of the program. -/
namespace Go.Proofs.YtmdapcmdlblnnaaDoor.Ax
open Go.RowKit Go By

def c28 : XFun := ⟨24, (.seq (.ops [⟨(some 2), (.assign (.const (.slice none 0 0))), none⟩]) (.seq (.ops [⟨(some 5), (.move (.tmp 0)), none⟩, ⟨(some 6), (.call 41 [(.tmp 5)]), none⟩, ⟨(some 3), (.assign (.tmp 6)), none⟩]) (.seq (.seq (.ops [⟨(some 7), (.move (.tmp 3)), none⟩, ⟨(some 8), (.lenL (.tmp 7)), none⟩, ⟨(some 9), (.move (.const (.int .i64 0))), none⟩]) (.block 0 (.loop (.seq (.ops [⟨(some 10), (.bin .lss (.tmp 9) (.tmp 8)), none⟩]) (.seq (.cond (.tmp 10) .skip (.exit 0)) (.seq (.block 1 (.seq (.ops [⟨(some 11), (.move (.tmp 9)), none⟩, ⟨(some 4), (.assign (.tmp 11)), none⟩]) (.ops [⟨(some 12), (.move (.tmp 3)), none⟩, ⟨(some 13), (.move (.tmp 4)), none⟩, ⟨(some 14), (.move (.tmp 3)), none⟩, ⟨(some 15), (.move (.tmp 4)), none⟩, ⟨(some 16), (.iaddr 2 (.tmp 14) (.tmp 15)), none⟩, ⟨(some 17), (.faddr 1 (.tmp 16)), none⟩, ⟨(some 18), (.load1 (.tmp 17)), none⟩, ⟨(some 19), (.call 42 [(.tmp 18)]), none⟩, ⟨(some 20), (.iaddr 2 (.tmp 12) (.tmp 13)), none⟩, ⟨(some 21), (.faddr 1 (.tmp 20)), none⟩, ⟨none, (.store 1 (.tmp 21) (.tmp 19)), none⟩]))) (.ops [⟨(some 22), (.bin .add (.tmp 9) (.const (.int .i64 1))), none⟩, ⟨(some 9), (.move (.tmp 22)), none⟩]))))))) (.seq (.ops [⟨(some 23), (.move (.tmp 3)), none⟩, ⟨(some 2), (.assign (.tmp 23)), none⟩]) .ret)))), [(.move (.tmp 2))]⟩
theorem k28 : cfun Tryd.prog 28 = some c28 := by kernel_rfl
end Go.Proofs.YtmdapcmdlblnnaaDoor.Ax
/- A row of cells, with bytes of its own. -/
namespace Go.Proofs.YtmdapcmdlblnnaaDoor.Ax
open Go.RowKit Go By Sc Dg
set_option linter.unusedSimpArgs false
set_option linter.unusedVariables false
set_option maxRecDepth 10000
theorem copyCells_c (l : List Cl) (hl : l.length ≤ 1000000) (hb : ∀ c ∈ l, c.2.length ≤ 140737488351232) (h : List (List AV)) : Contract Tryd.prog 28 [.sl 2 (enc cellC l) none .no] h (.sl 2 (enc cellC l) none .no) h [] := by
  by_cases hne : l = []
  · subst hne
    refine contract_of k28 mixed (by simp [c28]) fun hh hargs => ?_
    simp [c28]
    refine xcall_self (by simp) (clone_cell0_c _) ?_
    simp
    refine xloop_ok (D := Nat) (fun _ => ⟨[(3, .sl 2 [] none .no), (8, .v (.int .i64 0)), (9, .v (.int .i64 0))], [], h, []⟩) (fun _ => True) (fun _ => 0) 0 trivial ?_ ?_
    · simp [Leq, hh]
    · intro _ _
      simp [hh]
  refine contract_cut (XCode.cuts [false, false, true] c28.code) k28 rfl mixed (by simp [c28]) fun hh hargs => ?_
  have hlen := flat_len2 (c := cellC) (k := 2) (fun _ => rfl) l
  have hfz : frzOk (enc cellC l).flatten := by
    cases l with
    | nil => exact absurd rfl hne
    | cons x r => exact trivial
  simp [c28]
  refine xcall_self (by simp) (clone_cell_c l hne (by omega) _) ?_
  simp
  have hz := frz_all (c := cellC) (k := 2) (fun _ => rfl) l h.length l.length rfl
  have hget := flat_getb l
  have hF := fun n => flat_ltB n l
  generalize (enc cellC l).flatten = F at *
  refine xseq_frz h.length F ⟨[(3, .sl 2 (enc cellC l) none .no)], [], h, []⟩ (Nat.le_refl _) hfz ?_ ?_
  · simp
    refine xloop_ok (D := Nat) (fun j => ⟨[(3, .bsl h.length 0 2 l.length), (8, .v (.int .i64 l.length)), (9, .v (.int .i64 j))], [], h ++ [F], []⟩) (fun j => j ≤ l.length) (fun j => l.length - j) 0 (by simp) ?_ ?_
    · simp [Leq, hh, hF]
    · intro j hj
      by_cases hlt : j < l.length
      · have hw : IntKind.i64.wrap ((j : Int) + 1) = (j : Int) + 1 := wrap64 (by omega) (by omega)
        have hg := hget j hlt
        have hfit : j * 2 + 1 + 1 ≤ F.length := by omega
        have hbl := hb _ (List.getElem_mem hlt)
        generalize l[j] = c at *
        simp [hlt, hg]
        refine xcall_self (by simp) (clone_by_c c.2 (by omega) _) ?_
        have hfit2 : j * 2 + 1 < F.length := by omega
        simp [hlt, hg, hw, hfit, hfit2]
        refine ⟨j + 1, by omega, by omega, ?_⟩
        have hq := leqH_front (a := [F.set (j * 2 + 1) (.sl 1 (bytesE c.2) none (.own (.cell h.length (j * 2 + 1))))]) (b := [F]) h 0 ⟨.inr (leqC_put F 0 (j * 2 + 1) _ _ hg (by simp [LeqV])), trivial⟩
        simp [Leq, hh, hF] at hq ⊢
        exact hq
      · have : j = l.length := by omega
        subst this
        simp [Leq, hh, hz]
  · simp [hh]
end Go.Proofs.YtmdapcmdlblnnaaDoor.Ax
namespace Go.Proofs.YtmdapcmdlblnnaaDoor.Ax
open Go.RowKit Go By Dg
set_option linter.unusedSimpArgs false
set_option linter.unusedVariables false
set_option maxRecDepth 10000

/-- No cells. -/
def noC (_ : Unit) : List AV := []
theorem noC_len (v : Unit) : (noC v).length = 0 := rfl
theorem noC_plain (v : Unit) : ∀ c ∈ noC v, c.idOf = none := fun c hc => by cases hc
structure Eg where
  a : Nat
  n : Nat
  clock : Nat
  e : List (KE Unit)
namespace Eg
def cells (T : Eg) : List AV := mapC T.clock (T.e.map (KE.ent noC))
def no (T : Eg) (k : List UInt8) : Bool := (KE.get k T.e).isSome
def turn (T : Eg) (k : List UInt8) : Eg := if T.no k = true then { T with e := KE.del k T.e } else { T with clock := KE.tick k T.clock T.e, e := KE.put k T.clock () T.e }
theorem turn_a (T : Eg) (k : List UInt8) : (T.turn k).a = T.a := by unfold turn; split <;> rfl
theorem turn_n (T : Eg) (k : List UInt8) : (T.turn k).n = T.n := by unfold turn; split <;> rfl
theorem of_cells (T : Eg) : mapOf 0 T.cells = some (T.clock, T.e.map (KE.ent noC)) := KE.ents_of noC_len _ _
theorem keys (T : Eg) : keysOk none (T.e.map (KE.ent noC)) := KE.ents_keys noC_plain _
theorem lt (T : Eg) (n : Nat) : ltL n T.cells := mapC_ltE fun e he => by obtain ⟨s, _, rfl⟩ := List.mem_map.1 he; simp [KE.ent, noC]
theorem found (T : Eg) (k : List UInt8) : Ax.found false true [] (AEnt.find (.string (strB k)) (T.e.map (KE.ent noC)) 0) = .tup [.agg [], .v (.bool (T.no k))] := by
  rw [KE.found_eq]
  unfold no
  cases KE.get k T.e <;> rfl
end Eg
def egC (a : Nat) (n : Nat) : List AV := [.mp a 0 false, .v (.int .i64 (n : Int))]
structure EgAt (h : List (List AV)) (i : Nat) (T : Eg) : Prop where
  top : h[i]? = some (egC T.a T.n)
  ents : h[T.a]? = some T.cells
  apart : i ≠ T.a
structure EgOk (T : Eg) : Prop where
  ok : KE.Ok T.clock T.e
theorem EgOk.turn {T : Eg} (ho : EgOk T) (k : List UInt8) : EgOk (T.turn k) := by
  unfold Eg.turn
  split
  · exact ⟨KE.del_ok ho.ok k⟩
  · exact ⟨KE.put_ok ho.ok k ()⟩
theorem Eg.no_turn {T : Eg} (ho : EgOk T) (k s : List UInt8) : (T.turn k).no s = if s = k then !T.no k else T.no s := by
  unfold Eg.turn
  split
  · rename_i hn
    unfold Eg.no at hn ⊢
    show (KE.get s (KE.del k T.e)).isSome = _
    rw [KE.get_del ho.ok]
    split <;> simp [hn]
  · rename_i hn
    unfold Eg.no at hn ⊢
    show (KE.get s (KE.put k T.clock () T.e)).isSome = _
    rw [KE.get_put ho.ok]
    split <;> simp_all
section
variable {h : List (List AV)} {i : Nat} {T : Eg}
theorem EgAt.i_lt (ht : EgAt h i T) : i < h.length := (List.getElem?_eq_some_iff.1 ht.top).1
theorem EgAt.a_lt (ht : EgAt h i T) : T.a < h.length := (List.getElem?_eq_some_iff.1 ht.ents).1
theorem EgAt.move (ht : EgAt h i T) {h' : List (List AV)} (h1 : h'[i]? = h[i]?) (h2 : h'[T.a]? = h[T.a]?) : EgAt h' i T := ⟨h1.trans ht.top, h2.trans ht.ents, ht.apart⟩
theorem EgAt.app (ht : EgAt h i T) (xs : List (List AV)) : EgAt (h ++ xs) i T := ht.move (List.getElem?_append_left ht.i_lt) (List.getElem?_append_left ht.a_lt)
theorem made_c (ht : EgAt h i T) : Contract Tryd.prog 21 [.box i 0] h (.v (.bool true)) h [] := by
  have h1 := ht.top
  refine contract_of k21 mixed (by simp [c21]) fun hh hargs => ?_
  simp [c21, h1, egC, hh]
theorem erefuses_c (ht : EgAt h i T) (k : List UInt8) : Contract Tryd.prog 22 [.box i 0, .v (.string (strB k))] h (.v (.bool (T.no k))) h [] := by
  have h1 := ht.top
  have h2 := ht.ents
  have h3 := T.of_cells
  have h4 := T.keys
  have h5 := T.found k
  have hi := ht.i_lt
  have ha := ht.a_lt
  have g1 : ∀ xs, (h ++ xs)[i]? = some (egC T.a T.n) := fun xs => by rw [List.getElem?_append_left hi]; exact h1
  have g2 : ∀ xs, (h ++ xs)[T.a]? = some T.cells := fun xs => by rw [List.getElem?_append_left ha]; exact h2
  refine contract_of k22 mixed (by simp [c22]) fun hh hargs => ?_
  simp [c22, h1, h2, h3, h4, h5, hh, egC, g1, g2]
theorem ecount_c (ht : EgAt h i T) : Contract Tryd.prog 17 [.box i 0] h (.v (.int .i64 (T.n : Int))) h [] := by
  have h1 := ht.top
  refine contract_of k17 mixed (by simp [c17]) fun hh hargs => ?_
  simp [c17]
  refine xcall_self (by simp) (made_c ht) ?_
  simp
  refine xcall_self (by simp) (atomLoad_c (n := (T.n : Int)) h1 rfl) ?_
  simp [hh]
theorem enext_c (ht : EgAt h i T) (hn : T.n ≤ 1000000) : Contract Tryd.prog 10 [.box i 0] h (.v (.int .i64 ((T.n + 1 : Nat) : Int))) (h.set i (egC T.a (T.n + 1))) [i] := by
  have h1 := ht.top
  have hi := ht.i_lt
  have ha := ht.a_lt
  have hw : IntKind.i64.wrap ((T.n : Int) + 1) = ((T.n + 1 : Nat) : Int) := wrap64 (by omega) (by omega)
  have key := atomAdd_c (n := (T.n : Int)) (d := 1) (off := 1) h1 rfl
  rw [hw] at key
  have e : (egC T.a T.n).set 1 (.v (.int .i64 ((T.n + 1 : Nat) : Int))) = egC T.a (T.n + 1) := rfl
  rw [e] at key
  refine contract_of k10 mixed (by simp [c10]) fun hh hargs => ?_
  simp [c10]
  refine xcall_self (by simp) (made_c ht) ?_
  simp
  refine xcall_self (by simp) key ?_
  simp [egC, ltLL_set, hh, ha]
theorem eturn_c (ht : EgAt h i T) (ho : EgOk T) (k : List UInt8) (hk : k.length ≤ 281474976710656) : Contract Tryd.prog 8 [.box i 0, .v (.string (strB k))] h (.v (.bool (!T.no k))) (h.set T.a (T.turn k).cells) [T.a] := by
  have h1 := ht.top
  have h2 := ht.ents
  have h3 := T.of_cells
  have h4 := T.keys
  have hi := ht.i_lt
  have ha := ht.a_lt
  have he : ∀ q : T.a < h.length, h[T.a] = T.cells := fun q => by have := ht.ents; rw [List.getElem?_eq_getElem q] at this; injection this
  have hl2 := (T.turn k).lt h.length
  refine contract_of k8 mixed (by simp [c8]) fun hh hargs => ?_
  simp [c8]
  refine xcall_self (by simp) (made_c ht) ?_
  simp
  refine xcall_self (by simp) (erefuses_c ht k) ?_
  cases hn : T.no k with
  | true =>
    have hdel : mapC T.clock (AEnt.del (.string (strB k)) (T.e.map (KE.ent noC))) = (T.turn k).cells := by unfold Eg.turn; rw [if_pos hn, KE.del_eq]; rfl
    simp [h1, egC, h2, h3, h4, hdel, ltLL_set, hh, hl2, leqC_same]
  | false =>
    have hput : mapC (AEnt.put (.string (strB k)) T.clock [] (T.e.map (KE.ent noC))).2 (AEnt.put (.string (strB k)) T.clock [] (T.e.map (KE.ent noC))).1 = (T.turn k).cells := by
      have := KE.put_eq noC ho.ok k ()
      have e : noC () = [] := rfl
      rw [e] at this
      rw [this]; unfold Eg.turn; rw [if_neg (by simp [hn])]; rfl
    simp [h1, egC]
    refine xcall_self (by simp) (sclone_c k hk _) ?_
    simp [h2, h3, h4, hput, ltLL_set, hh, hl2, leqC_same]
end
end Go.Proofs.YtmdapcmdlblnnaaDoor.Ax
