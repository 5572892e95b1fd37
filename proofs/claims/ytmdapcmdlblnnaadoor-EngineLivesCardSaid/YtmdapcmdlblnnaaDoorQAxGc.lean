/- The engine over values without memory: Verdict, Rows; the document's engine. -/
import Derived.Test.YtmdapcmdlblnnaaDoorQAxXr
import Derived.Test.YtmdapcmdlblnnaaDoorRows
import Derived.Test.YtmdapcmdlblnnaaDoorQAxGb
/- The texts of functions over values without memory, as the kernel reckons them out of the program. -/
namespace Go.Proofs.YtmdapcmdlblnnaaDoor.Ax
open Go.RowKit Go By

def c26 : XFun := ⟨43, (.seq (.ops [⟨(some 4), (.assign (.const (.bool false))), none⟩]) (.seq (.seq (.ops [⟨(some 6), (.move (.tmp 0)), none⟩, ⟨(some 7), (.lenL (.tmp 6)), none⟩, ⟨(some 8), (.move (.tmp 1)), none⟩, ⟨(some 9), (.lenL (.tmp 8)), none⟩, ⟨(some 10), (.bin .neq (.tmp 7) (.tmp 9)), none⟩]) (.cond (.tmp 10) (.seq (.ops [⟨(some 4), (.assign (.const (.bool false))), none⟩]) .ret) .skip)) (.seq (.seq (.ops [⟨(some 5), (.assign (.const (.int .i64 0))), none⟩]) (.block 0 (.loop (.seq (.seq (.ops [⟨(some 11), (.move (.tmp 5)), none⟩, ⟨(some 12), (.move (.tmp 0)), none⟩, ⟨(some 13), (.lenL (.tmp 12)), none⟩, ⟨(some 14), (.bin .lss (.tmp 11) (.tmp 13)), none⟩]) (.cond (.tmp 14) .skip (.exit 0))) (.seq (.block 1 (.seq (.draws (.take ⟨(some 17), (.move (.tmp 0)), none⟩ (.take ⟨(some 18), (.move (.tmp 5)), none⟩ (.take ⟨(some 19), (.iaddr 2 (.tmp 17) (.tmp 18)), none⟩ (.take ⟨(some 20), (.faddr 0 (.tmp 19)), none⟩ (.take ⟨(some 21), (.load1 (.tmp 20)), none⟩ (.take ⟨(some 22), (.move (.tmp 1)), none⟩ (.take ⟨(some 23), (.move (.tmp 5)), none⟩ (.take ⟨(some 24), (.iaddr 2 (.tmp 22) (.tmp 23)), none⟩ (.take ⟨(some 25), (.faddr 0 (.tmp 24)), none⟩ (.take ⟨(some 26), (.load1 (.tmp 25)), none⟩ (.take ⟨(some 27), (.beq true (.tmp 21) (.tmp 26)), none⟩ (.take ⟨(some 28), (.move (.tmp 27)), none⟩ (.take ⟨(some 29), (.move (.tmp 0)), (some (28, false))⟩ (.take ⟨(some 30), (.move (.tmp 5)), (some (28, false))⟩ (.take ⟨(some 31), (.iaddr 2 (.tmp 29) (.tmp 30)), (some (28, false))⟩ (.take ⟨(some 32), (.faddr 1 (.tmp 31)), (some (28, false))⟩ (.take ⟨(some 33), (.load1 (.tmp 32)), (some (28, false))⟩ (.take ⟨(some 34), (.b2s (.tmp 33)), (some (28, false))⟩ (.take ⟨(some 35), (.move (.tmp 1)), (some (28, false))⟩ (.take ⟨(some 36), (.move (.tmp 5)), (some (28, false))⟩ (.take ⟨(some 37), (.iaddr 2 (.tmp 35) (.tmp 36)), (some (28, false))⟩ (.take ⟨(some 38), (.faddr 1 (.tmp 37)), (some (28, false))⟩ (.take ⟨(some 39), (.load1 (.tmp 38)), (some (28, false))⟩ (.take ⟨(some 40), (.b2s (.tmp 39)), (some (28, false))⟩ (.take ⟨(some 41), (.bin .neq (.tmp 34) (.tmp 40)), (some (28, false))⟩ (.take ⟨(some 42), (.pick (.tmp 28) (.const (.bool true)) (.tmp 41)), none⟩ .done))))))))))))))))))))))))))) (.cond (.tmp 42) (.seq (.ops [⟨(some 4), (.assign (.const (.bool false))), none⟩]) .ret) .skip))) (.ops [⟨(some 15), (.move (.tmp 5)), none⟩, ⟨(some 16), (.bin .add (.tmp 15) (.const (.int .i64 1))), none⟩, ⟨(some 5), (.assign (.tmp 16)), none⟩])))))) (.seq (.ops [⟨(some 4), (.assign (.const (.bool true))), none⟩]) .ret)))), [(.move (.tmp 4))]⟩
theorem k26 : cfun Tryd.prog 26 = some c26 := by kernel_rfl
end Go.Proofs.YtmdapcmdlblnnaaDoor.Ax
namespace Go.Proofs.YtmdapcmdlblnnaaDoor.Ax
open Go.RowKit Go By Dg
set_option linter.unusedSimpArgs false
set_option linter.unusedVariables false
set_option maxRecDepth 10000

def synC : List UInt8 := [52, 50, 54, 48, 49]
def synT : List UInt8 := [115, 121, 110, 116, 97, 120, 32, 101, 114, 114, 111, 114]
def abC : List UInt8 := [50, 53, 80, 48, 50]
def abT : List UInt8 := [99, 117, 114, 114, 101, 110, 116, 32, 116, 114, 97, 110, 115, 97, 99, 116, 105, 111, 110, 32, 105, 115, 32, 97, 98, 111, 114, 116, 101, 100, 44, 32, 99, 111, 109, 109, 97, 110, 100, 115, 32, 105, 103, 110, 111, 114, 101, 100, 32, 117, 110, 116, 105, 108, 32, 101, 110, 100, 32, 111, 102, 32, 116, 114, 97, 110, 115, 97, 99, 116, 105, 111, 110, 32, 98, 108, 111, 99, 107]
def relC : List UInt8 := [52, 50, 80, 48, 49]
def relT : List UInt8 := [114, 101, 108, 97, 116, 105, 111, 110, 32, 100, 111, 101, 115, 32, 110, 111, 116, 32, 101, 120, 105, 115, 116]
/-- A verdict: its code, what it says, whether there is one. -/
structure Vd where
  code : List UInt8
  text : List UInt8
  is : Bool
def vdV (d : Vd) : AV := .tup [.v (.string (strB d.code)), .v (.string (strB d.text)), .v (.bool d.is)]
def verdict (no : Bool) (v : Vb) (st : Int) : Vd :=
  if v.kind = 0 then ⟨synC, synT, true⟩ else if v.kind = 3 ∨ v.kind = 4 then ⟨[], [], false⟩ else if st = 69 then ⟨abC, abT, true⟩ else if v.kind = 1 then ⟨[], [], false⟩ else if no = true then ⟨relC, relT, true⟩ else ⟨[], [], false⟩
theorem eaborted_c (h : List (List AV)) : Contract Tryd.prog 18 [] h (.v (.string (strB abT))) h [] := by
  refine contract_of k18 mixed (by simp [c18]) fun hh hargs => ?_
  simp [c18, hh, abT]
theorem eraborted_c (h : List (List AV)) : Contract Tryd.prog 19 [] h (.v (.string (strB abT))) h [] := by
  refine contract_of k19 mixed (by simp [c19]) fun hh hargs => ?_
  simp [c19, hh, abT]
section
variable {h : List (List AV)} {i : Nat} {T : Eg}
theorem everdict_c (ht : EgAt h i T) (s : List UInt8) (hs : s.length ≤ 9223372036854775807) (st : Int) : Contract Tryd.prog 15 [.box i 0, .v (.string (strB s)), .v (.int .u8 st)] h (vdV (verdict (T.no s) (sayQ (trimL s)) st)) h [] := by
  refine contract_of k15 mixed (by simp [c15]) fun hh hargs => ?_
  simp [c15]
  refine xcall_self (by simp) (qparse_c s hs _) ?_
  generalize sayQ (trimL s) = v
  have hm := made_c (ht.app [vbC v])
  have hr := erefuses_c (ht.app [vbC v]) s
  simp
  refine xcall_self (by simp) hm ?_
  unfold verdict
  by_cases k0 : v.kind = 0
  · simp [k0, hh, vdV, synC, synT, leqH_take]
  have k0' : (v.kind == 0) = false := by simpa using k0
  simp [k0, k0']
  refine xcall_self (by simp) (qexit_c v _) ?_
  by_cases k3 : v.kind = 3
  · simp [k3, hh, vdV, leqH_take]
  by_cases k4 : v.kind = 4
  · simp [k4, hh, vdV, leqH_take]
  have k3' : (v.kind == 3) = false := by simpa using k3
  have k4' : (v.kind == 4) = false := by simpa using k4
  simp [k3, k4, k3', k4']
  by_cases s69 : st = 69
  · simp [s69]
    refine xcall_self (by simp) (eaborted_c _) ?_
    simp [hh, vdV, abC, leqH_take]
  have s69' : (st == 69) = false := by simpa using s69
  by_cases k1 : v.kind = 1
  · simp [s69, s69', k1, hh, vdV, leqH_take]
  have k1' : (v.kind == 1) = false := by simpa using k1
  have k1n : (v.kind != 1) = true := by simpa using k1
  simp [s69, s69', k1, k1', k1n]
  refine xcall_self (by simp) hr ?_
  cases hn : T.no s with
  | true => simp [hh, vdV, relC, relT, leqH_take]
  | false => simp [hh, vdV, leqH_take]
/-- What a verb has. -/
def rowsV (v : Vb) (n : Nat) (ps : List Cl) : List (List Cl) := if v.kind = 5 then rowsK (heldI v.n).toNat else if v.kind = 6 then [ps] else if v.kind = 7 then [[(false, textL ((n : Int) + 1))]] else []
def nextV (v : Vb) (n : Nat) : Nat := if v.kind = 7 then n + 1 else n
theorem EgAt.set_self (ht : EgAt h i T) : h.set i (egC T.a T.n) = h := by
  obtain ⟨h1, h2⟩ := List.getElem?_eq_some_iff.1 ht.top
  rw [← h2, List.set_getElem_self]
theorem erows_c (ht : EgAt h i T) (hn : T.n ≤ 1000000) (v : Vb) (ps : List Cl) (hl : ps.length ≤ 1000000) (hb : ∀ c ∈ ps, c.2.length ≤ 140737488351232) : Contract Tryd.prog 13 [.box i 0, .agg (vbC v), .sl 2 (enc cellC ps) none .no] h (.sl 1 (enc rowKC (rowsV v T.n ps)) none .no) (h.set i (egC T.a (nextV v T.n))) [i] := by
  have hset := ht.set_self
  have ht2 := ht.app [vbC v]
  have hi := ht.i_lt
  have ha := ht.a_lt
  refine contract_of k13 mixed (by simp [c13]) fun hh hargs => ?_
  simp [c13]
  refine xcall_self (by simp) (made_c ht2) ?_
  unfold rowsV nextV
  by_cases k5 : v.kind = 5
  · simp [k5]
    refine xcall_self (by simp) (krows_c v.n _) ?_
    simp [hset, hh, leqH_take]
  have k5' : (v.kind == 5) = false := by simpa using k5
  by_cases k6 : v.kind = 6
  · simp [k6]
    refine xcall_self (by simp) (copyCells_c ps hl hb _) ?_
    simp [hset, hh, leqH_take, rowKC_mk]
  have k6' : (v.kind == 6) = false := by simpa using k6
  by_cases k7 : v.kind = 7
  · have ht3 := enext_c ht2 hn
    have e : (h ++ [vbC v]).set i (egC T.a (T.n + 1)) = h.set i (egC T.a (T.n + 1)) ++ [vbC v] := by rw [List.set_append_left _ _ hi]
    rw [e] at ht3
    have hlen := dtext_len ((T.n : Int) + 1) (by omega) (by omega)
    have hlt := ltLL_set (i := i) hh (show ltL h.length (egC T.a (T.n + 1)) by simp [egC, ha])
    simp [k7]
    refine xcall_self (by simp) ht3 ?_
    simp
    refine xcall_self (by simp) (dtext_c ((T.n : Int) + 1) (by omega) (by omega) _) ?_
    simp [hh, leqH_take, rowKC_mk, cellC, hlt]
    omega
  have k7' : (v.kind == 7) = false := by simpa using k7
  simp [k5, k6, k7, k5', k6', k7', hset, hh, leqH_take]
theorem enew_c (h : List (List AV)) : Contract Tryd.prog 7 [] h (.box (h.length + 1) 0) (h ++ [mapC 0 [], egC h.length 0]) [] := by
  refine contract_of k7 mixed (by simp [c7]) fun hh hargs => ?_
  have hl := ltLL_mono (Nat.le_add_right h.length 2) hh
  simp [c7, hl, egC, mapC]
/-! ### The document's -/
def edC (i : Nat) (L : List (List UInt8)) (n : Nat) : List AV := [.sl 1 (enc strC L) none (.own (.cell i 0)), .v (.int .i64 (n : Int))]
def turnD (L : List (List UInt8)) (s : List UInt8) : List (List UInt8) := if L.contains s = true then L.filter fun x => !(x == s) else L ++ [s]
theorem turnD_len (L : List (List UInt8)) (s : List UInt8) : (turnD L s).length ≤ L.length + 1 := by
  unfold turnD
  split
  · exact Nat.le_succ_of_le (List.length_filter_le ..)
  · simp
theorem turnD_has (L : List (List UInt8)) (s x : List UInt8) : (turnD L s).contains x = if x = s then !L.contains s else L.contains x := by
  unfold turnD
  by_cases hs : s ∈ L <;> by_cases e : x = s <;> simp_all
variable {L : List (List UInt8)} {n : Nat}
theorem edC_lt (m i : Nat) (L : List (List UInt8)) (n : Nat) : ltL m (edC i L n) := by simp [edC]
theorem rerefuses_c (ht : h[i]? = some (edC i L n)) (hl : L.length ≤ 1000000) (s : List UInt8) : Contract Tryd.prog 24 [.box i 0, .v (.string (strB s))] h (.v (.bool (L.contains s))) h [] := by
  have hi := (List.getElem?_eq_some_iff.1 ht).1
  refine contract_of k24 mixed (by simp [c24]) fun hh hargs => ?_
  simp [c24]
  refine xloop_ok (D := Nat) (fun j => ⟨[(0, .box i 0), (1, .v (.string (strB s))), (5, .v (.int .i64 (j : Int)))], [], h, []⟩) (fun j => j ≤ L.length ∧ (L.take j).contains s = false) (fun j => L.length - j) 0 ⟨by omega, by simp⟩ ?_ ?_
  · simp [Leq, hh, hi]
  · rintro j ⟨hj, hp⟩
    by_cases hlt : j < L.length
    · have hw : IntKind.i64.wrap ((j : Int) + 1) = (j : Int) + 1 := wrap64 (by omega) (by omega)
      by_cases e : L[j] = s
      · have hc : L.contains s = true := by rw [← e]; simp
        have hm : s ∈ L := by simpa using hc
        simp [ht, edC, hlt, strC, e, hc, hm, hh]
      · have e' : (L[j] == s) = false := by simpa using e
        simp [ht, edC, hlt, strC, e, e', hw]
        refine ⟨j + 1, ⟨by omega, ?_⟩, by omega, ?_⟩
        · rw [List.take_succ_eq_append_getElem hlt]
          simp only [List.contains_eq_mem, decide_eq_false_iff_not, List.mem_append, List.mem_singleton, not_or] at hp ⊢
          exact ⟨hp, fun h => e h.symm⟩
        · simp [Leq, hh, hi]
    · have : j = L.length := by omega
      subst this
      rw [List.take_length] at hp
      have hm : s ∉ L := by simpa using hp
      simp [ht, edC, hp, hm, hh]
theorem return_c (ht : h[i]? = some (edC i L n)) (hl : L.length ≤ 1000000) (s : List UInt8) : Contract Tryd.prog 9 [.box i 0, .v (.string (strB s))] h (.v (.bool (!L.contains s))) (h.set i (edC i (turnD L s) n)) [i] := by
  have hi := (List.getElem?_eq_some_iff.1 ht).1
  have hl2 := edC_lt h.length i (turnD L s) n
  have he : ∀ q : i < h.length, h[i] = edC i L n := fun q => by rw [List.getElem?_eq_getElem q] at ht; injection ht
  refine contract_of k9 mixed (by simp [c9]) fun hh hargs => ?_
  simp [c9]
  refine xcall_self (by simp) (rerefuses_c ht hl s) ?_
  cases hc : L.contains s with
  | false =>
    have e : turnD L s = L ++ [s] := by unfold turnD; rw [if_neg (by rw [hc]; exact Bool.false_ne_true)]
    have hm : s ∉ L := by simpa using hc
    have hu : unownAt h i 0 = h.set i [.sl 1 (enc strC L) none .no, .v (.int .i64 (n : Int))] := by unfold unownAt; rw [ht]; rfl
    rw [e] at hl2 ⊢
    simp only [edC] at hl2
    simp [ht, edC, strC, hm, hu, hi, he]
    refine ⟨by omega, by omega, ?_⟩
    simp [hu, hi, he, edC, hh, hl2, ltLL_set, enc_append, strC]
  | true =>
    have e : turnD L s = L.filter fun x => !(x == s) := by unfold turnD; rw [if_pos hc]
    rw [e] at hl2 ⊢
    have hm : s ∈ L := by simpa using hc
    simp
    refine xloop_ok (D := Nat) (fun j => ⟨[(0, .box i 0), (1, .v (.string (strB s))), (6, .v (.int .i64 (j : Int)))], [(5, .sl 1 (enc strC ((L.take j).filter fun x => !(x == s))) none (.own (.slot 5)))], h, []⟩) (fun j => j ≤ L.length) (fun j => L.length - j) 0 (by simp) ?_ ?_
    · simp [Leq, hh, hi]
    · intro j hj
      by_cases hlt : j < L.length
      · have hw : IntKind.i64.wrap ((j : Int) + 1) = (j : Int) + 1 := wrap64 (by omega) (by omega)
        have hfl : ((L.take j).filter fun x => !(x == s)).length ≤ 1000000 := Nat.le_trans (List.length_filter_le ..) (by simp; omega)
        by_cases e : L[j] = s
        · have e2 : ((L.take (j + 1)).filter fun x => !(x == s)) = ((L.take j).filter fun x => !(x == s)) := by rw [List.take_succ_eq_append_getElem hlt, List.filter_append]; simp [e]
          simp [ht, edC, hlt, strC, e, hw]
          refine ⟨j + 1, by omega, by omega, ?_⟩
          simp [Leq, hh, hi, e2]
        · have e' : (L[j] != s) = true := by simpa using e
          have e2 : ((L.take (j + 1)).filter fun x => !(x == s)) = ((L.take j).filter fun x => !(x == s)) ++ [L[j]] := by rw [List.take_succ_eq_append_getElem hlt, List.filter_append]; simp [e]
          simp [ht, edC, hlt, strC, e, e', hw]
          refine ⟨by omega, by omega, j + 1, by omega, by omega, ?_⟩
          simp [Leq, hh, hi, e2, enc_append, strC]
      · have : j = L.length := by omega
        subst this
        simp [ht, edC, hh, hm, hi, he, ltLL_set]
def newE (a : Nat) : Eg := ⟨a, 0, 0, []⟩
theorem newE_ok (a : Nat) : EgOk (newE a) := ⟨⟨List.nodup_nil, List.nodup_nil, fun x hx => by cases hx⟩⟩
end
end Go.Proofs.YtmdapcmdlblnnaaDoor.Ax
