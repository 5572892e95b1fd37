/- The contracts of what package wire writes, over values without memory. -/
import Derived.Test.YtlbgjlmokpkkeaaGreatDoorQAxKc0
import Derived.Test.YtlbgjlmokpkkeaaGreatDoorQAxCy
import Derived.Test.YtlbgjlmokpkkeaaGreatDoorQAxRo
import Derived.Test.YtlbgjlmokpkkeaaGreatDoorQHelA
/- The contracts of package wire's checks and of what it writes, over values without memory. -/
namespace Go.Proofs.YtlbgjlmokpkkeaaGreatDoor.Ax
open Go.RowKit Go By YtlbgjlmokpkkeaaGreatDoor.Nm Sc Dg
set_option linter.unusedSimpArgs false
set_option maxRecDepth 10000

/-! ### bytes.Equal -/
theorem equal_c (xs ys : List UInt8) (h : List (List AV)) : Contract Tryz.prog 216 [.sl 1 (bytesE xs) none .no, .sl 1 (bytesE ys) none .no] h (.v (.bool (xs == ys))) h [] := by
  refine contract_of k216 mixed (by simp [c216]) fun hh hargs => ?_
  simp [c216, hh]

/-! ### Checks -/
theorem wclean1_c (s : List UInt8) (h : List (List AV)) : Contract Tryz.prog 159 [.v (.string (strB s))] h (.v (.bool (!cleanB s))) h [] := by
  refine contract_of k159 mixed (by simp [c159]) fun hh hargs => ?_
  simp [c159]
  refine xcall_self (by simp) (clean_c s h) ?_
  simp [hh]
theorem wclean_c (l : List (List UInt8)) (hl : l.length ≤ 140737488355328) (h : List (List AV)) : Contract Tryz.prog 109 [.sl 1 (enc strC l) none .no] h (.v (.bool (l.all cleanB))) h [] := by
  refine contract_of k109 mixed (by simp [c109]) fun hh hargs => ?_
  simp [c109]
  refine xcall_self (by simp) (contains1_any mixed k158 k211 (fun s => .v (.string (strB s))) (fun s => !cleanB s) l [] h (by simp) (by simp) (by simp) (fun s _ => wclean1_c s h) hl) ?_
  simp [hh, List.not_any_eq_all_not]
def unsB (size n : Int) : Bool := !decide (n < 0) && rightB n size
theorem wuns1_c (size n : Int) (i : Nat) (h : List (List AV)) (hi : h[i]? = some [.v (.int .i64 size)]) : Contract Tryz.prog 162 [.v (.int .i64 n), .box i 0] h (.v (.bool (!unsB size n))) h [] := by
  refine contract_of k162 mixed (by simp [c162]) fun hh hargs => ?_
  by_cases hn : n < 0
  · simp [c162, hn, hh, unsB]
  · simp [c162, hn, hi]
    refine xcall_self (by simp) (right_c n size h) ?_
    simp [hh, unsB, hn]
theorem wuns_c (size : Int) (l : List Int) (hl : l.length ≤ 140737488355328) (h : List (List AV)) : Contract Tryz.prog 110 [.v (.int .i64 size), .sl 1 (enc intC l) none .no] h (.v (.bool (l.all (unsB size)))) h [] := by
  refine contract_of k110 mixed (by simp [c110]) fun hh hargs => ?_
  simp [c110]
  refine xcall_self (by simp) (contains1_any mixed k161 k213 (fun n => .v (.int .i64 n)) (fun n => !unsB size n) l [.box h.length 0] _ (by simp) (by simp) (by simp) (fun n _ => wuns1_c size n _ _ (by simp)) hl) ?_
  simp [hh, List.not_any_eq_all_not]
def sgnB (size n : Int) : Bool := rightB n size && signedI n size == n
theorem wsgn1_c (size n : Int) (i : Nat) (h : List (List AV)) (hi : h[i]? = some [.v (.int .i64 size)]) : Contract Tryz.prog 243 [.v (.int .i64 n), .box i 0] h (.v (.bool (!sgnB size n))) h [] := by
  refine contract_of k243 mixed (by simp [c243]) fun hh hargs => ?_
  simp [c243, hi]
  refine xcall_self (by simp) (right_c n size h) ?_
  cases hr : rightB n size with
  | false => simp [hh, sgnB, hr]
  | true =>
    simp [hi]
    refine xcall_self (by simp) (signed_c n size h) ?_
    simp [hh, sgnB, hr]
    rfl
theorem wsgn_c (size : Int) (l : List Int) (hl : l.length ≤ 140737488355328) (h : List (List AV)) : Contract Tryz.prog 209 [.v (.int .i64 size), .sl 1 (enc intC l) none .no] h (.v (.bool (l.all (sgnB size)))) h [] := by
  refine contract_of k209 mixed (by simp [c209]) fun hh hargs => ?_
  simp [c209]
  refine xcall_self (by simp) (contains1_any mixed k161 k213 (fun n => .v (.int .i64 n)) (fun n => !sgnB size n) l [.box h.length 0] _ (by simp) (by simp) (by simp) (fun n _ => wsgn1_c size n _ _ (by simp)) hl) ?_
  simp [hh, List.not_any_eq_all_not]
/-- A cell may be said. -/
def cellB (c : Cl) : Bool := decide (c.2.length ≤ 1048576) && !(c.1 && decide (0 < c.2.length))
theorem wcell1_c (c : Cl) (hc : c.2.length ≤ 140737488355328) (h : List (List AV)) : Contract Tryz.prog 207 [.agg (cellC c)] h (.v (.bool (!cellB c))) h [] := by
  refine contract_of k207 mixed (by simp [c207]) fun hh hargs => ?_
  obtain ⟨n, b⟩ := c
  by_cases hb : (1048576 : Int) < b.length
  · have hb' : ¬ b.length ≤ 1048576 := by omega
    simp [c207, cellC, hb, hb', hh, cellB]
  · have hb' : b.length ≤ 1048576 := by omega
    cases n with
    | false => simp [c207, cellC, hb, hb', hh, cellB]
    | true =>
      simp [c207, cellC, hb, hb', hh, cellB]
theorem wcells_c (l : List Cl) (hl : l.length ≤ 140737488355328) (hc : ∀ c ∈ l, c.2.length ≤ 140737488355328) (h : List (List AV)) : Contract Tryz.prog 151 [.sl 2 (enc cellC l) none .no] h (.v (.bool (l.all cellB))) h [] := by
  refine contract_of k151 mixed (by simp [c151]) fun hh hargs => ?_
  simp [c151]
  refine xcall_self (by simp) (containsN_any mixed k31 k51 cellC (fun c => !cellB c) l [] h (by simp) (by simp) (by simp) (fun c hm => wcell1_c c (hc c hm) h) hl) ?_
  simp [hh, List.not_any_eq_all_not]
theorem wsame1_c (a b : Cl) (h : List (List AV)) : Contract Tryz.prog 215 [.agg (cellC a), .agg (cellC b)] h (.v (.bool (a == b))) h [] := by
  refine contract_of k215 mixed (by simp [c215]) fun hh hargs => ?_
  obtain ⟨n, x⟩ := a
  obtain ⟨m, y⟩ := b
  have e : ((n, x) == (m, y)) = (n == m && x == y) := rfl
  cases hnm : n == m with
  | false => simp [c215, cellC, hnm, hh, e]
  | true =>
    simp [c215, cellC, hnm]
    refine xcall_self (by simp) (equal_c x y _) ?_
    simp [hh, e, hnm]
theorem wsame_c (l m : List Cl) (hl : l.length ≤ 140737488355328) (h : List (List AV)) : Contract Tryz.prog 166 [.sl 2 (enc cellC l) none .no, .sl 2 (enc cellC m) none .no] h (.v (.bool (l == m))) h [] := by
  refine contract_of k166 mixed (by simp [c166]) fun hh hargs => ?_
  simp [c166]
  refine xcall_self (by simp) (equalF_any mixed k214 (by rfl) (· == ·) cellC (by simp) (by simp) l m h (fun x y h => wsame1_c x y h) hl) ?_
  simp [hh, eqL_beq]
end Go.Proofs.YtlbgjlmokpkkeaaGreatDoor.Ax
namespace Go.Proofs.YtlbgjlmokpkkeaaGreatDoor.Ax
open Go.RowKit Go By YtlbgjlmokpkkeaaGreatDoor.Nm Sc Dg
set_option linter.unusedSimpArgs false
set_option linter.unusedVariables false
set_option maxRecDepth 10000

theorem wflat_len {α : Type} (e : α → List UInt8) (l : List α) (j : Nat) : ((l.take j).flatMap e).length ≤ (l.flatMap e).length := by
  conv => rhs; rw [← List.take_append_drop j l]
  rw [List.flatMap_append, List.length_append]; omega
theorem flat_next {α : Type} (e : α → List UInt8) {l : List α} {j : Nat} (hj : j < l.length) : (l.take (j + 1)).flatMap e = (l.take j).flatMap e ++ e l[j] := by
  rw [take_next hj, List.flatMap_append]; simp
theorem put_len (n size : Int) (h4 : size ≤ 4) (xs : List UInt8) : (putL xs n size).length ≤ xs.length + 4 := by
  unfold putL
  split
  · simp [putTo_length]; omega
  · omega
/-- What is appended element by element. -/
theorem flat_step {α : Type} (e : α → List UInt8) (l : List α) (a j : Nat) (hj : j < l.length) (N : Nat) (hN : a + (l.flatMap e).length ≤ N) : (l.take (j + 1)).flatMap e = (l.take j).flatMap e ++ e l[j] ∧ a + (((l.take j).flatMap e).length + (e l[j]).length) ≤ N := by
  have h1 := flat_next e hj
  have h2 := wflat_len e l (j + 1)
  rw [h1, List.length_append] at h2
  exact ⟨h1, by omega⟩

/-! ### Texts -/
def textsL (l : List (List UInt8)) : List UInt8 := l.flatMap He.encT
theorem wtexts_c (l : List (List UInt8)) (hl : (textsL l).length ≤ 140737488355328) (h : List (List AV)) : Contract Tryz.prog 114 [.sl 1 (enc strC l) none .no] h (.sl 1 (bytesE (textsL l)) none (.own .res)) h [] := by
  have hn : ∀ l : List (List UInt8), l.length ≤ (textsL l).length := fun l => by
    induction l with
    | nil => simp
    | cons x r ih => simp [textsL, He.encT] at ih ⊢; omega
  have hl0 := hn l
  refine contract_of k114 mixed (by simp [c114]) fun hh hargs => ?_
  simp at hargs
  simp [c114]
  refine xloop_ok (D := Nat) (fun j => ⟨[(6, .sl 1 (enc strC l) none .no), (7, .v (.int .i64 l.length)), (8, .v (.int .i64 j))], [(3, .sl 1 (bytesE (textsL (l.take j))) none (.own (.slot 3)))], h, []⟩) (fun j => j ≤ l.length) (fun j => l.length - j) 0 (by simp) ?_ ?_
  · simp [Leq, hh, hargs, textsL]
  · intro j hj
    by_cases hlt : j < l.length
    · have hlt' : (j : Int) < l.length := by omega
      have hw : IntKind.i64.wrap ((j : Int) + 1) = (j : Int) + 1 := wrap64 (by omega) (by omega)
      obtain ⟨hx, hb⟩ := flat_step He.encT l 0 j hlt _ (by simpa [textsL] using hl)
      have hx' : textsL (l.take (j + 1)) = textsL (l.take j) ++ (l[j] ++ [0]) := hx
      have hb' : 0 + ((textsL (l.take j)).length + (l[j] ++ [0]).length) ≤ 140737488355328 := hb
      rw [List.length_append, List.length_singleton] at hb'
      simp [hlt, hlt', strC, hw]
      refine ⟨by omega, by omega, j + 1, by omega, by omega, ?_⟩
      simp [Leq, hh, hargs, hx']
    · have hlt' : ¬ (j : Int) < l.length := by omega
      have : j = l.length := by omega
      subst this
      simp [hh]

/-! ### Lists -/
def listL {α : Type} (e : α → List UInt8) (l : List α) : List UInt8 := putL [] l.length 2 ++ l.flatMap e
theorem wlistI_c (e : Int → List UInt8) (l : List Int) (g : FuncId) (cap : List AV) (h : List (List AV)) (hl : (listL e l).length ≤ 140737488355328) (hl2 : l.length ≤ 140737488355328) (hcap : ∀ c ∈ cap, c.idOf = none) (hlt : ltL h.length cap)
    (hg : ∀ n, n ∈ l → Contract Tryz.prog g (.v (.int .i64 n) :: cap) h (.sl 1 (bytesE (e n)) none (.own .res)) h []) :
    Contract Tryz.prog 173 [.sl 1 (enc intC l) none .no, .fn (.func g) [] cap] h (.sl 1 (bytesE (listL e l)) none (.own .res)) h [] := by
  refine contract_of k173 mixed (by simp [c173]) fun hh hargs => ?_
  simp at hargs
  simp [c173]
  refine xcall_of (put_c [] l.length 2 (by simp) h) (by simp) (by simp) ?_
  simp
  refine xloop_ok (D := Nat) (fun j => ⟨[(1, .fn (.func g) [] cap), (11, .sl 1 (enc intC l) none .no), (12, .v (.int .i64 l.length)), (13, .v (.int .i64 j))], [(5, .sl 1 (bytesE (putL [] l.length 2 ++ (l.take j).flatMap e)) none (.own (.slot 5)))], h, []⟩) (fun j => j ≤ l.length) (fun j => l.length - j) 0 (by simp) ?_ ?_
  · simp [Leq, hh, hargs]
  · intro j hj
    by_cases hlt : j < l.length
    · have hlt' : (j : Int) < l.length := by omega
      have hw : IntKind.i64.wrap ((j : Int) + 1) = (j : Int) + 1 := wrap64 (by omega) (by omega)
      obtain ⟨hx, hb⟩ := flat_step e l (putL [] l.length 2).length j hlt _ (by simpa [listL] using hl)
      have hq : ∀ y ∈ (AV.v (.int .i64 l[j])) :: cap, y.idOf = none := by simpa using hcap
      simp [hlt, hlt', intC]
      refine ⟨hcap, xcall_self hq (hg l[j] (List.getElem_mem _)) ?_⟩
      simp [idsOf_none hq, idsOf_none hcap, hw, -List.length_flatMap]
      refine ⟨by omega, j + 1, by omega, by omega, ?_⟩
      simp [Leq, hh, hargs, hx]
    · have hlt' : ¬ (j : Int) < l.length := by omega
      have : j = l.length := by omega
      subst this
      simp [hh, listL]
theorem wlistC_c (e : Cl → List UInt8) (l : List Cl) (g : FuncId) (cap : List AV) (h : List (List AV)) (hl : (listL e l).length ≤ 140737488355328) (hl2 : l.length ≤ 140737488355328) (hcap : ∀ c ∈ cap, c.idOf = none) (hlt : ltL h.length cap)
    (hg : ∀ n, n ∈ l → ∀ h', Contract Tryz.prog g (.agg (cellC n) :: cap) (h ++ h') (.sl 1 (bytesE (e n)) none (.own .res)) (h ++ h') []) :
    Contract Tryz.prog 170 [.sl 2 (enc cellC l) none .no, .fn (.func g) [] cap] h (.sl 1 (bytesE (listL e l)) none (.own .res)) h [] := by
  refine contract_of k170 mixed (by simp [c170]) fun hh hargs => ?_
  simp at hargs
  simp [c170]
  refine xcall_of (put_c [] l.length 2 (by simp) h) (by simp) (by simp) ?_
  simp
  refine xloop_ok (D := Nat) (fun j => ⟨[(1, .fn (.func g) [] cap), (11, .sl 2 (enc cellC l) none .no), (12, .v (.int .i64 l.length)), (13, .v (.int .i64 j))], [(5, .sl 1 (bytesE (putL [] l.length 2 ++ (l.take j).flatMap e)) none (.own (.slot 5)))], h, []⟩) (fun j => j ≤ l.length) (fun j => l.length - j) 0 (by simp) ?_ ?_
  · simp [Leq, hh, hargs]
  · intro j hj
    by_cases hlt : j < l.length
    · have hlt' : (j : Int) < l.length := by omega
      have hw : IntKind.i64.wrap ((j : Int) + 1) = (j : Int) + 1 := wrap64 (by omega) (by omega)
      obtain ⟨hx, hb⟩ := flat_step e l (putL [] l.length 2).length j hlt _ (by simpa [listL] using hl)
      have hq : ∀ y ∈ (AV.agg (cellC l[j])) :: cap, y.idOf = none := by simpa using hcap
      simp [hlt, hlt']
      refine ⟨hcap, xcall_self hq (hg l[j] (List.getElem_mem _) _) ?_⟩
      simp [idsOf_none hq, idsOf_none hcap, hw, -List.length_flatMap]
      refine ⟨by omega, j + 1, by omega, by omega, ?_⟩
      simp [Leq, hh, hargs, hx]
    · have hlt' : ¬ (j : Int) < l.length := by omega
      have : j = l.length := by omega
      subst this
      simp [hh, listL]
def numE (size : Int) (n : Int) : List UInt8 := putL [] n size
theorem wnum1_c (size n : Int) (i : Nat) (h : List (List AV)) (hi : h[i]? = some [.v (.int .i64 size)]) : Contract Tryz.prog 174 [.v (.int .i64 n), .box i 0] h (.sl 1 (bytesE (numE size n)) none (.own .res)) h [] := by
  refine contract_of k174 mixed (by simp [c174]) fun hh hargs => ?_
  simp [c174, hi]
  refine xcall_of (put_c [] n size (by simp) h) (by simp) (by simp) ?_
  simp [hh, numE]
theorem wnumbers_c (size : Int) (l : List Int) (h : List (List AV)) (hl : (listL (numE size) l).length ≤ 140737488355328) (hl2 : l.length ≤ 140737488355328) :
    Contract Tryz.prog 119 [.v (.int .i64 size), .sl 1 (enc intC l) none .no] h (.sl 1 (bytesE (listL (numE size) l)) none (.own .res)) h [] := by
  refine contract_of k119 mixed (by simp [c119]) fun hh hargs => ?_
  simp [c119]
  refine xcall_self (by simp) (wlistI_c (numE size) l _ [.box h.length 0] _ hl hl2 (by simp) (by simp) fun n _ => wnum1_c size n _ _ (by simp)) ?_
  simp [hh]
/-- A cell's bytes. -/
def cellE (c : Cl) : List UInt8 := if c.1 = true then putL [] 4294967295 4 else putL [] c.2.length 4 ++ c.2
theorem cellE_null (b : List UInt8) : cellE (true, b) = putL [] 4294967295 4 := if_pos rfl
theorem cellE_bytes (b : List UInt8) : cellE (false, b) = putL [] b.length 4 ++ b := if_neg (by simp)
theorem wcell_c (c : Cl) (h : List (List AV)) (hl : c.2.length ≤ 70000000000000) : Contract Tryz.prog 171 [.agg (cellC c)] h (.sl 1 (bytesE (cellE c)) none (.own .res)) h [] := by
  refine contract_of k171 mixed (by simp [c171]) fun hh hargs => ?_
  obtain ⟨n, b⟩ := c
  cases n with
  | true =>
    rw [cellE_null]
    generalize hN : (4294967295 : Int) = N
    have hc : c171 = c171 := rfl
    simp [c171, cellC, hN]
    refine xcall_of (put_c [] N 4 (by simp) _) (by simp) (by simp) ?_
    simp [hh]
  | false =>
    have hp := put_len b.length 4 (by omega) []
    rw [cellE_bytes]
    simp [c171, cellC]
    refine xcall_of (put_c [] b.length 4 (by simp) _) (by simp) (by simp) ?_
    simp at hl hp
    simp [hh]
    omega
theorem wcells2_c (l : List Cl) (h : List (List AV)) (hl : (listL cellE l).length ≤ 140737488355328) (hl2 : l.length ≤ 140737488355328) (hl3 : ∀ c ∈ l, c.2.length ≤ 70000000000000) :
    Contract Tryz.prog 116 [.sl 2 (enc cellC l) none .no] h (.sl 1 (bytesE (listL cellE l)) none (.own .res)) h [] := by
  refine contract_of k116 mixed (by simp [c116]) fun hh hargs => ?_
  simp [c116]
  refine xcall_self (by simp) (wlistC_c cellE l _ [] _ hl hl2 (by simp) (by simp) fun n hn h' => wcell_c n _ (hl3 n hn)) ?_
  simp [hh]
end Go.Proofs.YtlbgjlmokpkkeaaGreatDoor.Ax
