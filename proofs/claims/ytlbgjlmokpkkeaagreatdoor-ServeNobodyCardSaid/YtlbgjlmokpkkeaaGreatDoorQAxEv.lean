/- A server over values without memory: messages are said. -/
import Derived.Test.YtlbgjlmokpkkeaaGreatDoorQAxX
import Derived.Test.YtlbgjlmokpkkeaaGreatDoorRows
import Derived.Test.YtlbgjlmokpkkeaaGreatDoorQAxRo
import Derived.Test.YtlbgjlmokpkkeaaGreatDoorQAxKc0
import Derived.Test.YtlbgjlmokpkkeaaGreatDoorQAxWf
import Derived.Test.YtlbgjlmokpkkeaaGreatDoorQAxSf
import Derived.Test.YtlbgjlmokpkkeaaGreatDoorQAxFm
import Derived.Test.YtlbgjlmokpkkeaaGreatDoorQAxBl
import Derived.Test.YtlbgjlmokpkkeaaGreatDoorQAxEs
/- The texts of functions over values without memory, as the kernel reckons them out of the program. -/
namespace Go.Proofs.YtlbgjlmokpkkeaaGreatDoor.Ax
open Go.RowKit Go By

def c48 : XFun := ⟨39, (.seq (.ops [⟨(some 4), (.assign (.const (.slice none 0 0))), none⟩]) (.seq (.ops [⟨(some 10), (.build [(.v (.int .u8 0)), (.v (.int .u8 0)), (.v (.string (strB []))), (.v (.string (strB []))), (.v (.string (strB []))), (.v (.int .i64 0)), (.v (.int .i64 0)), (.sl 0 [] (some true) .exact), (.sl 0 [] (some true) .exact), (.sl 0 [] (some true) .exact), (.sl 0 [] (some true) .exact)] [(0, (1, (.const (.int .u8 82))))]), none⟩, ⟨(some 11), (.buildSlice 11 1 [(.v (.int .u8 0)), (.v (.int .u8 0)), (.v (.string (strB []))), (.v (.string (strB []))), (.v (.string (strB []))), (.v (.int .i64 0)), (.v (.int .i64 0)), (.sl 0 [] (some true) .exact), (.sl 0 [] (some true) .exact), (.sl 0 [] (some true) .exact), (.sl 0 [] (some true) .exact)] [(0, (.tmp 10))]), none⟩, ⟨(some 5), (.assign (.tmp 11)), none⟩]) (.seq (.seq (.ops [⟨(some 12), (.move (.tmp 0)), none⟩, ⟨(some 13), (.lenL (.tmp 12)), none⟩, ⟨(some 14), (.move (.const (.int .i64 0))), none⟩]) (.block 0 (.loop (.seq (.ops [⟨(some 15), (.bin .lss (.tmp 14) (.tmp 13)), none⟩]) (.seq (.cond (.tmp 15) .skip (.exit 0)) (.seq (.block 1 (.seq (.ops [⟨(some 16), (.iaddr 2 (.tmp 12) (.tmp 14)), none⟩, ⟨(some 17), (.loadN 2 (.tmp 16)), none⟩, ⟨(some 7), (.alloc [(.v (.string (strB []))), (.v (.string (strB [])))]), none⟩, ⟨none, (.store 2 (.tmp 7) (.tmp 17)), none⟩]) (.ops [⟨(some 18), (.move (.tmp 5)), none⟩, ⟨(some 19), (.faddr 0 (.tmp 7)), none⟩, ⟨(some 20), (.load1 (.tmp 19)), none⟩, ⟨(some 21), (.faddr 1 (.tmp 7)), none⟩, ⟨(some 22), (.load1 (.tmp 21)), none⟩, ⟨(some 23), (.build [(.v (.int .u8 0)), (.v (.int .u8 0)), (.v (.string (strB []))), (.v (.string (strB []))), (.v (.string (strB []))), (.v (.int .i64 0)), (.v (.int .i64 0)), (.sl 0 [] (some true) .exact), (.sl 0 [] (some true) .exact), (.sl 0 [] (some true) .exact), (.sl 0 [] (some true) .exact)] [(0, (1, (.const (.int .u8 83)))), (3, (1, (.tmp 20))), (4, (1, (.tmp 22)))]), none⟩, ⟨(some 24), (.buildSlice 11 1 [(.v (.int .u8 0)), (.v (.int .u8 0)), (.v (.string (strB []))), (.v (.string (strB []))), (.v (.string (strB []))), (.v (.int .i64 0)), (.v (.int .i64 0)), (.sl 0 [] (some true) .exact), (.sl 0 [] (some true) .exact), (.sl 0 [] (some true) .exact), (.sl 0 [] (some true) .exact)] [(0, (.tmp 23))]), none⟩, ⟨(some 25), (.append 11 168 (.tmp 18) (.tmp 24)), none⟩, ⟨(some 5), (.assign (.tmp 25)), none⟩]))) (.ops [⟨(some 26), (.bin .add (.tmp 14) (.const (.int .i64 1))), none⟩, ⟨(some 14), (.move (.tmp 26)), none⟩]))))))) (.seq (.ops [⟨(some 28), (.move (.tmp 1)), none⟩, ⟨(some 29), (.call 79 [(.tmp 28)]), none⟩, ⟨(some 27), (.move (.tmp 29)), none⟩, ⟨(some 30), (.extract (.tmp 27) 0), none⟩, ⟨(some 31), (.extract (.tmp 27) 1), none⟩, ⟨(some 8), (.assign (.tmp 30)), none⟩, ⟨(some 9), (.assign (.tmp 31)), none⟩]) (.seq (.ops [⟨(some 32), (.move (.tmp 5)), none⟩, ⟨(some 33), (.move (.tmp 8)), none⟩, ⟨(some 34), (.move (.tmp 9)), none⟩, ⟨(some 35), (.build [(.v (.int .u8 0)), (.v (.int .u8 0)), (.v (.string (strB []))), (.v (.string (strB []))), (.v (.string (strB []))), (.v (.int .i64 0)), (.v (.int .i64 0)), (.sl 0 [] (some true) .exact), (.sl 0 [] (some true) .exact), (.sl 0 [] (some true) .exact), (.sl 0 [] (some true) .exact)] [(0, (1, (.const (.int .u8 75)))), (5, (1, (.tmp 33))), (6, (1, (.tmp 34)))]), none⟩, ⟨(some 36), (.build [(.v (.int .u8 0)), (.v (.int .u8 0)), (.v (.string (strB []))), (.v (.string (strB []))), (.v (.string (strB []))), (.v (.int .i64 0)), (.v (.int .i64 0)), (.sl 0 [] (some true) .exact), (.sl 0 [] (some true) .exact), (.sl 0 [] (some true) .exact), (.sl 0 [] (some true) .exact)] [(0, (1, (.const (.int .u8 90)))), (1, (1, (.const (.int .u8 73))))]), none⟩, ⟨(some 37), (.buildSlice 11 2 [(.v (.int .u8 0)), (.v (.int .u8 0)), (.v (.string (strB []))), (.v (.string (strB []))), (.v (.string (strB []))), (.v (.int .i64 0)), (.v (.int .i64 0)), (.sl 0 [] (some true) .exact), (.sl 0 [] (some true) .exact), (.sl 0 [] (some true) .exact), (.sl 0 [] (some true) .exact)] [(0, (.tmp 35)), (1, (.tmp 36))]), none⟩, ⟨(some 38), (.append 11 168 (.tmp 32) (.tmp 37)), none⟩, ⟨(some 4), (.assign (.tmp 38)), none⟩]) .ret))))), [(.move (.tmp 4))]⟩
theorem k48 : cfun Tryz.prog 48 = some c48 := by kernel_rfl
def c79 : XFun := ⟨14, (.seq (.ops [⟨(some 2), (.assign (.const (.int .i64 0))), none⟩, ⟨(some 3), (.assign (.const (.int .i64 0))), none⟩]) (.seq (.ops [⟨(some 5), (.move (.tmp 0)), none⟩, ⟨(some 6), (.maxI [(.tmp 5), (.const (.int .i64 0))]), none⟩, ⟨(some 7), (.minI [(.tmp 6), (.const (.int .i64 1048576))]), none⟩, ⟨(some 8), (.bin .add (.tmp 7) (.const (.int .i64 1))), none⟩, ⟨(some 4), (.assign (.tmp 8)), none⟩]) (.seq (.ops [⟨(some 9), (.move (.tmp 4)), none⟩, ⟨(some 10), (.bin .rem (.tmp 9) (.const (.int .i64 2147483648))), none⟩, ⟨(some 11), (.move (.tmp 4)), none⟩, ⟨(some 12), (.bin .mul (.tmp 11) (.const (.int .i64 7919))), none⟩, ⟨(some 13), (.bin .rem (.tmp 12) (.const (.int .i64 2147483648))), none⟩, ⟨(some 2), (.assign (.tmp 10)), none⟩, ⟨(some 3), (.assign (.tmp 13)), none⟩]) .ret))), [(.move (.tmp 2)), (.move (.tmp 3))]⟩
theorem k79 : cfun Tryz.prog 79 = some c79 := by kernel_rfl
end Go.Proofs.YtlbgjlmokpkkeaaGreatDoor.Ax
/- What a server says first, over values without memory: greet.Keys and greet.Backs. -/
namespace Go.Proofs.YtlbgjlmokpkkeaaGreatDoor.Ax
open Go.RowKit Go By YtlbgjlmokpkkeaaGreatDoor.Nm Dg
set_option linter.unusedSimpArgs false
set_option linter.unusedVariables false
set_option maxRecDepth 10000

def heldG (n : Int) : Int := if n < 0 then 0 else if 1048576 < n then 1048576 else n
theorem heldG_eq (n : Int) : minZ (maxZ n [0]) [1048576] = heldG n := by
  unfold minZ maxZ heldG
  simp only [List.foldl_cons, List.foldl_nil]
  repeat' split
  all_goals omega
theorem heldG_range (n : Int) : 0 ≤ heldG n ∧ heldG n ≤ 1048576 := by
  unfold heldG
  repeat' split
  all_goals omega
def kA (id : Int) : Int := (heldG id + 1).tmod 2147483648
def kB (id : Int) : Int := ((heldG id + 1) * 7919).tmod 2147483648
theorem gkeys_c (id : Int) (h : List (List AV)) : Contract Tryz.prog 79 [.v (.int .i64 id)] h (.tup [.v (.int .i64 (kA id)), .v (.int .i64 (kB id))]) h [] := by
  have e := heldG_eq id
  obtain ⟨h1, h2⟩ := heldG_range id
  have w1 : IntKind.i64.wrap (heldG id + 1) = heldG id + 1 := wrap64 (by omega) (by omega)
  have w2 : IntKind.i64.wrap ((heldG id + 1) * 7919) = (heldG id + 1) * 7919 := wrap64 (by omega) (by omega)
  refine contract_of k79 mixed (by simp [c79]) fun hh hargs => ?_
  simp [c79, e, w1, w2, hh, kA, kB]
def rG : Bk := ⟨82, 0, [], [], [], 0, 0, [], [], [], []⟩
def sG (p : Pa) : Bk := ⟨83, 0, [], p.name, p.value, 0, 0, [], [], [], []⟩
def kG (id : Int) : Bk := ⟨75, 0, [], [], [], kA id, kB id, [], [], [], []⟩
def zG : Bk := ⟨90, 73, [], [], [], 0, 0, [], [], [], []⟩
def backsG (l : List Pa) (id : Int) : List Bk := (rG :: l.map sG) ++ [kG id, zG]
def saidP (l : List Pa) (j : Nat) : List Bk := (l.take j).map sG
theorem saidP_zero (l : List Pa) : saidP l 0 = [] := rfl
theorem saidP_succ {l : List Pa} {j : Nat} (hlt : j < l.length) : saidP l (j + 1) = saidP l j ++ [sG l[j]] := by unfold saidP; rw [take_next hlt, List.map_append]; rfl
theorem saidP_len {l : List Pa} {j : Nat} (hj : j ≤ l.length) : (saidP l j).length = j := by unfold saidP; simp; omega
theorem saidP_all (l : List Pa) : saidP l l.length = l.map sG := by unfold saidP; rw [List.take_length]
theorem gbacks_c (l : List Pa) (id : Int) (hl : l.length ≤ 1000000) (h : List (List AV)) : Contract Tryz.prog 48 [.sl 2 (enc paC l) none .no, .v (.int .i64 id)] h (.sl 11 (enc bkC (backsG l id)) none .no) h [] := by
  refine contract_of k48 mixed (by simp [c48]) fun hh hargs => ?_
  simp [c48]
  refine xloop_ok (D := Nat) (fun j => ⟨[(1, .v (.int .i64 id)), (12, .sl 2 (enc paC l) none .no), (13, .v (.int .i64 l.length)), (14, .v (.int .i64 j))], [(5, .sl 11 (enc bkC (rG :: saidP l j)) none (.own (.slot 5)))], h, []⟩) (fun j => j ≤ l.length) (fun j => l.length - j) 0 (by simp) ?_ ?_
  · simp [Leq, hh, bkC_mk, rG, saidP_zero]
  · intro j hj
    by_cases hlt : j < l.length
    · have hw : IntKind.i64.wrap ((j : Int) + 1) = (j : Int) + 1 := wrap64 (by omega) (by omega)
      have hp := saidP_len hj
      simp [hlt, paC_mk, hw, hp]
      refine ⟨by omega, by omega, j + 1, by omega, by omega, ?_⟩
      rw [saidP_succ hlt]
      simp [Leq, hh, bkC_mk, sG]
    · have : j = l.length := by omega
      subst this
      have hp := saidP_all l
      rw [hp]
      simp
      refine xcall_self (by simp) (gkeys_c id _) ?_
      simp [hh]
      refine ⟨by omega, by omega, ?_⟩
      simp [backsG, bkC_mk, kG, zG]
end Go.Proofs.YtlbgjlmokpkkeaaGreatDoor.Ax
/- What a server says to a stream of bytes, as a function of what is seen of its session: messages in bytes; how many are said. -/
namespace Go.Proofs.YtlbgjlmokpkkeaaGreatDoor.Ax
open Go.RowKit Go By YtlbgjlmokpkkeaaGreatDoor.Nm Sc Dg
set_option linter.unusedSimpArgs false
set_option linter.unusedVariables false
set_option maxRecDepth 10000

/-! ### A message's bytes, with a type or without -/
theorem evz4 : Sz 4 := .inr (.inr rfl)
theorem getI_off (xs : List UInt8) (i : Nat) : ∀ k, getI xs i k = getI (xs.drop i) 0 k
  | 0 => rfl
  | k + 1 => by
    rw [getI, getI, getI_off xs i k]
    congr 1
    unfold byteAt
    rw [List.getD_eq_getElem?_getD, List.getD_eq_getElem?_getD, List.getElem?_drop, Nat.zero_add]
theorem numE4_l (n : Int) (h : 0 ≤ n ∧ n < 4294967296) : (numE 4 n).length = 4 := by
  unfold numE
  have hr : rightB n 4 = true := by rw [right4]; omega
  have e : putL [] n 4 = putTo n 4 4 := putL_right (size := 4) hr
  rw [e, putTo_length]
theorem getI_numE (n : Int) (h : 0 ≤ n ∧ n < 4294967296) (r : List UInt8) : getI (numE 4 n ++ r) 0 4 = n := by
  have h1 : numV (some (numE 4 n ++ r)) 4 = n := (nums_there evz4 n r ⟨h.1, by rw [p256_4]; exact h.2⟩).1
  have hl := numE4_l n h
  have h2 : getErr (numE 4 n ++ r).length 0 4 = 0 := getErr_ok (i := 0) (size := 4) rfl (by rw [List.length_append]; omega)
  exact (if_pos h2).symm.trans h1
def tyN (typed : Bool) : Nat := if typed = true then 1 else 0
/-- A type, or none; a number's bytes; what comes behind. -/
def mk2 (typed : Bool) (t : UInt8) (N b : List UInt8) : List UInt8 := (if typed = true then [t] else []) ++ (N ++ b)
theorem mk2_len (typed : Bool) (t : UInt8) (N b : List UInt8) : (mk2 typed t N b).length = tyN typed + (N.length + b.length) := by
  unfold mk2 tyN
  cases typed <;> simp <;> omega
theorem mk2_off (typed : Bool) (t : UInt8) (N b y : List UInt8) : (mk2 typed t N b ++ y).drop (tyN typed) = N ++ (b ++ y) := by
  unfold mk2 tyN
  cases typed <;> simp
theorem mk2_body (typed : Bool) (t : UInt8) (N b : List UInt8) : (mk2 typed t N b).drop (tyN typed + N.length) = b := by
  have h := mk2_off typed t N b []
  rw [List.append_nil, List.append_nil] at h
  rw [← List.drop_drop, h, List.drop_left]
theorem mk2_type (t : UInt8) (N b : List UInt8) : (mk2 true t N b).getD 0 0 = t := rfl
def itB (typed : Bool) (m : Ms) : List UInt8 := mk2 typed (UInt8.ofNat m.type.toNat) (numE 4 ((m.body.length : Int) + 4)) m.body
theorem itB_len (typed : Bool) (m : Ms) (hm : m.body.length ≤ 1000000) : (itB typed m).length = tyN typed + 4 + m.body.length := by
  have := numE4_l ((m.body.length : Int) + 4) (by omega)
  unfold itB
  rw [mk2_len, this]
  omega
theorem itB_val (typed : Bool) (m : Ms) (hm : m.body.length ≤ 1000000) (y : List UInt8) : getI (itB typed m ++ y) (tyN typed) 4 = (m.body.length : Int) + 4 := by
  have h := getI_numE ((m.body.length : Int) + 4) (by omega) (m.body ++ y)
  unfold itB
  rw [getI_off, mk2_off]
  exact h
theorem Fw.ts_eq (F : Fw) : F.ts = tyN F.typed := rfl
/-- A message that isn't whole yet. -/
theorem Fw.size_part {F : Fw} {m : Ms} {y z : List UInt8} (he : F.rest ++ z = itB F.typed m ++ y) (hm : m.body.length + 4 ≤ F.most) (hM : F.most ≤ 65536) (hlt : F.rest.length < (itB F.typed m).length) : (F.size.1 = 0 ∨ F.rest.length < F.size.1) ∧ F.size.2 = 0 := by
  have ht := F.ts_eq
  have hle : tyN F.typed ≤ 1 := by unfold tyN; split <;> omega
  unfold Fw.size
  by_cases h4 : F.rest.length < F.ts + 4
  · have e : getErr F.rest.length (F.ts : Int) 4 = 3 := getErr_short rfl (by omega) (by omega)
    rw [if_pos (by rw [e]; decide)]
    exact ⟨.inl rfl, rfl⟩
  · have e : getErr F.rest.length (F.ts : Int) 4 = 0 := getErr_ok (i := F.ts) (size := 4) rfl (by omega)
    have v : getVal F.rest (F.ts : Int) 4 = (m.body.length : Int) + 4 := by
      unfold getVal
      rw [if_pos e]
      show getI F.rest F.ts 4 = _
      rw [← getI_pre F.rest z F.ts 4 (by omega), he, ht]
      exact itB_val _ _ (by omega) _
    rw [if_neg (by rw [e]; decide), v, if_neg (by omega), if_neg (by omega)]
    rw [itB_len _ _ (by omega)] at hlt
    refine ⟨.inr ?_, rfl⟩
    show F.rest.length < F.ts + ((m.body.length : Int) + 4).toNat
    omega
/-- A whole one. -/
theorem Fw.size_full {F : Fw} {m : Ms} {y : List UInt8} (he : F.rest = itB F.typed m ++ y) (hm : m.body.length + 4 ≤ F.most) (hM : F.most ≤ 65536) (hty : if F.typed = true then 0 ≤ m.type ∧ m.type < 256 else m.type = 0) : F.size = ((itB F.typed m).length, 0) ∧ ¬ F.size.1 = 0 ∧ F.size.1 ≤ F.rest.length ∧ F.head (F.rest.take F.size.1) = m ∧ F.rest.drop F.size.1 = y := by
  have ht := F.ts_eq
  have hle : tyN F.typed ≤ 1 := by unfold tyN; split <;> omega
  have hl := itB_len F.typed m (by omega)
  have hs : F.size = ((itB F.typed m).length, 0) := by
    have e : getErr F.rest.length (F.ts : Int) 4 = 0 := getErr_ok (i := F.ts) (size := 4) rfl (by rw [he, List.length_append]; omega)
    have v : getVal F.rest (F.ts : Int) 4 = (m.body.length : Int) + 4 := by
      unfold getVal
      rw [if_pos e]
      show getI F.rest F.ts 4 = _
      rw [he, ht]
      exact itB_val _ _ (by omega) _
    unfold Fw.size
    rw [if_neg (by rw [e]; decide), v, if_neg (by omega), if_neg (by omega)]
    exact Prod.ext (by show F.ts + ((m.body.length : Int) + 4).toNat = _; omega) rfl
  refine ⟨hs, by rw [hs]; show ¬ (itB F.typed m).length = 0; omega, by rw [hs, he, List.length_append]; exact Nat.le_add_right _ _, ?_, by rw [hs, he]; show (itB F.typed m ++ y).drop (itB F.typed m).length = y; rw [List.drop_left]⟩
  rw [hs, he]
  show F.head ((itB F.typed m ++ y).take (itB F.typed m).length) = m
  rw [List.take_left]
  have hn := numE4_l ((m.body.length : Int) + 4) (by omega)
  obtain ⟨t, b⟩ := m
  dsimp only at hn hty
  have hd : (itB F.typed ⟨t, b⟩).drop (F.ts + 4) = b := by
    have h := mk2_body F.typed (UInt8.ofNat t.toNat) (numE 4 ((b.length : Int) + 4)) b
    rw [hn] at h
    rw [ht]
    exact h
  have hg : (if F.typed = true then ((((itB F.typed ⟨t, b⟩).getD 0 0).toNat : Nat) : Int) else 0) = t := by
    cases hty2 : F.typed with
    | true =>
      rw [hty2, if_pos rfl] at hty
      rw [if_pos rfl]
      have : (itB true ⟨t, b⟩).getD 0 0 = UInt8.ofNat t.toNat := mk2_type _ _ _
      rw [this, UInt8.toNat_ofNat']
      omega
    | false =>
      rw [hty2] at hty
      rw [if_neg (by simp)] at hty ⊢
      exact hty.symm
  unfold Fw.head
  rw [hg, hd]
/-! ### What a session says is small -/
def BkSm (m : Bk) : Prop := (0 ≤ m.status ∧ m.status < 256) ∧ m.tag.length ≤ 1000 ∧ m.oids.length ≤ 1000 ∧ (m.cols.length ≤ 1000 ∧ ∀ c ∈ m.cols, c.name.length ≤ 1000) ∧ (m.row.length ≤ 1000 ∧ ∀ c ∈ m.row, c.2.length ≤ 1000) ∧ (m.fields.length ≤ 10 ∧ ∀ f ∈ m.fields, (0 ≤ f.code ∧ f.code < 256) ∧ f.text.length ≤ 10000) ∧ m.name.length ≤ 1000 ∧ m.value.length ≤ 1000
theorem flat_le {α : Type} (e : α → List UInt8) (K : Nat) : ∀ (l : List α), (∀ x ∈ l, (e x).length ≤ K) → (l.flatMap e).length ≤ K * l.length
  | [], _ => by simp
  | x :: l, h => by
    have h1 := h x (List.mem_cons_self ..)
    have h2 := flat_le e K l fun y hy => h y (List.mem_cons_of_mem _ hy)
    rw [List.flatMap_cons, List.length_append, List.length_cons, Nat.mul_succ]
    omega
theorem listL_le {α : Type} (e : α → List UInt8) (K : Nat) (l : List α) (h : ∀ x ∈ l, (e x).length ≤ K) : (listL e l).length ≤ 4 + K * l.length := by
  have h1 := flat_le e K l h
  have h2 := numE_len 2 (l.length : Int) (by omega)
  rw [listL_eq, List.length_append]
  unfold numE at h2
  omega
theorem BkSm.parts {m : Bk} (h : BkSm m) : BkFit m ∧ BkOk m ∧ (bodyB m).length ≤ 100000000 := by
  obtain ⟨h1, h2, h3, ⟨h4, h5⟩, ⟨h6, h7⟩, ⟨h8, h9⟩, h10, h11⟩ := h
  refine ⟨⟨by omega, by omega, by omega, by omega, fun c hc => by have := h7 c hc; omega⟩, ⟨h1, fun c hc => by have := h7 c hc; omega, fun c hc => by have := h5 c hc; omega, fun f hf => (h9 f hf).1⟩, ?_⟩
  have tl : ∀ s : List UInt8, (He.encT s).length = s.length + 1 := fun s => by simp [He.encT]
  have n0 := numE_len 4 0 (by omega)
  have n1 := numE_len 4 m.n (by omega)
  have n2 := numE_len 4 m.m (by omega)
  have b1 := listL_le cellE 1010 m.row fun c hc => by
    have := h7 c hc
    obtain ⟨n, b⟩ := c
    cases n with
    | true => have := put_len 4294967295 4 (by omega) []; rw [cellE_null]; simp only [List.length_nil] at this; omega
    | false =>
      have h3 : b.length ≤ 1000 := this
      have := put_len (b.length : Int) 4 (by omega) []
      rw [cellE_bytes, List.length_append]; simp only [List.length_nil] at this; omega
  have b2 := listL_le colE 1100 m.cols fun c hc => by
    have := h5 c hc
    have l1 := numE_len 4 c.table (by omega)
    have l2 := numE_len 2 c.attr (by omega)
    have l3 := numE_len 4 c.oid (by omega)
    have l4 := numE_len 2 c.size (by omega)
    have l5 := numE_len 4 c.mod (by omega)
    have l6 := numE_len 2 c.format (by omega)
    unfold colE
    simp only [textsL, List.flatMap_cons, List.flatMap_nil, List.length_append, tl, List.length_nil]
    omega
  have b3 := listL_le (numE 4) 4 m.oids fun n _ => numE_len 4 n (by omega)
  have b4 := flat_le fieldE 10002 m.fields fun f hf => by
    have := (h9 f hf).2
    unfold fieldE
    simp only [textsL, List.flatMap_cons, List.flatMap_nil, List.length_append, tl, List.length_nil, List.length_cons]
    omega
  unfold bodyB fieldsE
  repeat' split
  all_goals try simp only [textsL, List.flatMap_cons, List.flatMap_nil, List.length_append, tl, List.length_nil, List.length_cons]
  all_goals omega
section
variable {k : Nat} {A : Va}
end
/-! ### All that is said -/
def sayM (l : List Bk) : List Ms := l.filterMap fun b => if (encB b).2 = 0 then some (encB b).1 else none
theorem sayM_len (l : List Bk) : (sayM l).length ≤ l.length := List.length_filterMap_le _ _
theorem sayM_app (a b : List Bk) : sayM (a ++ b) = sayM a ++ sayM b := List.filterMap_append
end Go.Proofs.YtlbgjlmokpkkeaaGreatDoor.Ax
namespace Go.Proofs.YtlbgjlmokpkkeaaGreatDoor.Ax
open Go.RowKit Go By YtlbgjlmokpkkeaaGreatDoor.Nm Dg
set_option linter.unusedSimpArgs false
set_option linter.unusedVariables false
set_option maxRecDepth 10000

/-! ### One message behind the others -/
def mqH : Option (Nat × Nat) → List (List AV) → List (List AV)
  | none, h => h
  | some p, h => h.set p.1 []
def mqW : Option (Nat × Nat) → List Nat → List Nat
  | none, w => w
  | some p, w => p.1 :: w
theorem mqH_len (o : Option (Nat × Nat)) (h : List (List AV)) : (mqH o h).length = h.length := by cases o <;> simp [mqH]
theorem mqH_get {o : Option (Nat × Nat)} {h : List (List AV)} {q : Nat} (hq : q ∉ oVar o) : (mqH o h)[q]? = h[q]? := by
  cases o with
  | none => rfl
  | some p => exact List.getElem?_set_ne fun e => hq (List.mem_singleton.2 e.symm)
theorem ms_flat_id (Q : List Ms) : ∀ c ∈ (enc msC Q).flatten, c.idOf = none := fun c hc => by
  obtain ⟨l, h1, h2⟩ := List.mem_flatten.1 hc
  obtain ⟨m, _, rfl⟩ := List.mem_map.1 h1
  simp [msC_mk] at h2
  rcases h2 with rfl | rfl <;> rfl
theorem ms_flat_lt (n : Nat) (Q : List Ms) : ltL n (enc msC Q).flatten := ltL_of fun j c hj => by
  obtain ⟨l, h1, h2⟩ := List.mem_flatten.1 (List.mem_of_getElem? hj)
  obtain ⟨m, _, rfl⟩ := List.mem_map.1 h1
  simp [msC_mk] at h2
  rcases h2 with rfl | rfl <;> simp
theorem ms_flat_len (Q : List Ms) : (enc msC Q).flatten.length = Q.length * 2 := by
  induction Q with
  | nil => rfl
  | cons a r ih => rw [enc_cons, List.flatten_cons, List.length_append, ih]; simp [msC_mk]; omega
theorem mq_app {e ow : List (Nat × AV)} {H : List (List AV)} {wr : List Nat} {d : Option Nat} {K : St → List Nat → Prop} {o : Option (Nat × Nat)} {Q : List Ms} (m : MqAt H o Q) (hq : Q.length ≤ 1000000) (x : Ms) {nul : Option Bool} {room : Room}
    (hK : K (St.puts ⟨e, ow, mqH o H ++ [(enc msC (Q ++ [x])).flatten], mqW o wr⟩ d (.bsl H.length 0 2 (Q.length + 1)) false) []) : xappendA ⟨e, ow, H, wr⟩ 2 32 d (mqV o Q.length) (.sl 2 [msC x] nul room) K := by
  have e1 : (enc msC (Q ++ [x])).flatten = (enc msC Q).flatten ++ [msC x].flatten := by simp [enc]
  cases o with
  | none =>
    have hQ := m.emp rfl
    subst hQ
    refine .inr (.inl ⟨[msC x], by simp [rowsOf], by simp, ?_, ?_⟩)
    · simp [msC_mk]
    · exact .inl ⟨.inl rfl, by simp, by simp, hK⟩
  | some p =>
    obtain ⟨A, hA, hb, hne, hid⟩ := m.row p rfl
    have hfl := ms_flat_len Q
    refine xappendA_bsl hb hne (by rw [List.length_append, hfl, hA]; exact Nat.le_refl _) (fun c hc => ?_) (by simp) (by simp [msC_mk]) (by simp; omega) (by simp; omega) ?_
    · rcases List.mem_append.1 hc with hc | hc
      · exact hid c hc
      · exact ms_flat_id Q c hc
    · rw [hA, List.drop_left, List.take_of_length_le (by rw [hfl]; exact Nat.le_refl _), ← e1]
      exact hK
/-- What is handed in: written out, or in a variable. -/
inductive SayX (h : List (List AV)) (S : Srv) (L : List Bk) (x : AV) : Prop
  | sl (hv : x = .sl 11 (enc bkC L) none .no)
  | bx (b : Nat) (hv : x = .bsl b 0 11 L.length) (hb : h[b]? = some (enc bkC L).flatten) (hn : b ∉ S.vars)
theorem bk_flat_len (Q : List Bk) : (enc bkC Q).flatten.length = Q.length * 11 := by
  induction Q with
  | nil => rfl
  | cons a r ih => rw [enc_cons, List.flatten_cons, List.length_append, ih]; simp; omega
section
variable {h : List (List AV)} {S : Srv}
/-- One message behind the others: a new list. -/
def Srv.pushed (S : Srv) (n : Nat) (x : Ms) : Srv := { S with Q := S.Q ++ [x], o := some (n, 0) }
def pushV (H1 : List (List AV)) (S : Srv) (x : Ms) : List (List AV) := (mqH S.o H1 ++ [(enc msC (S.Q ++ [x])).flatten]).set S.i (S.pushed H1.length x).top
theorem pushV_len (H1 : List (List AV)) (S : Srv) (x : Ms) : (pushV H1 S x).length = H1.length + 1 := by unfold pushV; simp [mqH_len]
theorem SvAt.pushed (g : SvAt h S) (x : Ms) : SvAt (pushV h S x) (S.pushed h.length x) ∧ ViaV h S (S.i :: oVar S.o) (pushV h S x) (S.pushed h.length x) := by
  have hil := g.i_lt
  have hfl := g.f_lt
  have hsl := g.s_lt
  have at_ : ∀ q < h.length, q ≠ S.i → q ∉ oVar S.o → (pushV h S x)[q]? = h[q]? := fun q hq h1 h2 => by
    unfold pushV
    rw [List.getElem?_set_ne (Ne.symm h1), List.getElem?_append_left (by rw [mqH_len]; exact hq), mqH_get h2]
  have new_ : (pushV h S x)[h.length]? = some (enc msC (S.Q ++ [x])).flatten := by
    unfold pushV
    rw [List.getElem?_set_ne (by omega), List.getElem?_append_right (by rw [mqH_len]; exact Nat.le_refl _), mqH_len, Nat.sub_self]; rfl
  have top_ : (pushV h S x)[S.i]? = some (S.pushed h.length x).top := by
    unfold pushV
    rw [List.getElem?_set_self (by simp [mqH_len]; omega)]
  have hne : ¬ h.length = S.i := by omega
  have hnv : ∀ q ∈ S.vars, q ≠ h.length := fun q hq => by have := g.vars_lt hq; omega
  have hlt : ltLL (pushV h S x).length (pushV h S x) := by
    rw [pushV_len]
    unfold pushV
    have h1 : ltLL (h.length + 1) (mqH S.o h ++ [(enc msC (S.Q ++ [x])).flatten]) := by
      rw [ltLL_append]
      refine ⟨ltLL_mono (Nat.le_succ _) ?_, ⟨ms_flat_lt _ _, trivial⟩⟩
      cases S.o with
      | none => exact g.hh
      | some p => exact ltLL_set g.hh trivial
    refine ltLL_set h1 ?_
    simp [Srv.top, Srv.pushed, mqV]
    omega
  refine ⟨⟨top_, ?_, ⟨(fun e => by cases e), fun p hp => ?_⟩, ?_, g.ne, fun q hq => ?_, g.out, g.pln⟩, ⟨by rw [pushV_len]; omega, fun q hq hn => ?_, fun q hq _ => ?_, fun q hq => ?_⟩⟩
  · exact (at_ S.f hfl (Ne.symm g.ne) fun hh => (g.one _ hh).2.1 rfl).trans g.fr
  · injection hp with hp
    subst hp
    refine ⟨[], rfl, by rw [List.nil_append]; exact new_, ?_, fun c hc => by cases hc⟩
    intro e
    have := congrArg List.length e
    rw [List.nil_append, ms_flat_len] at this
    simp [Srv.pushed] at this
  · exact g.ses.turn g.pln (fun q hq => at_ q (g.ses.vars_lt hq) (fun e => g.out.1 (by rw [← e]; exact hq)) fun hh => (g.one q hh).2.2 hq) hlt
  · have hq : q ∈ oVar (some (h.length, 0)) := hq
    rw [List.mem_singleton.1 hq]
    exact ⟨hne, by show h.length ≠ S.f; omega, fun hh => by have := g.ses.vars_lt hh; omega⟩
  · exact at_ q hq (fun e => hn (by rw [e]; exact sv_i S)) fun hh => hn (Srv.vars_mem.2 (.inr (.inr (.inl hh))))
  · rcases List.mem_cons.1 hq with rfl | hq
    · exact sv_i S
    · exact Srv.vars_mem.2 (.inr (.inr (.inl hq)))
  · rcases Srv.vars_mem.1 hq with h1 | h1 | h1 | h1
    · exact .inl (Srv.vars_mem.2 (.inl h1))
    · exact .inl (Srv.vars_mem.2 (.inr (.inl h1)))
    · have h1 : q ∈ oVar (some (h.length, 0)) := h1
      rw [List.mem_singleton.1 h1]
      exact .inr (Nat.le_refl _)
    · exact .inl (Srv.vars_mem.2 (.inr (.inr (.inr h1))))
/-- What a loop that says messages makes of memory. -/
structure SY where
  H : List (List AV)
  S : Srv
def SY.step (y : SY) (m : Bk) : SY :=
  if (encB m).2 = 0 then ⟨pushV (y.H ++ [bkC m, msC (encB m).1]) y.S (encB m).1, y.S.pushed (y.H ++ [bkC m, msC (encB m).1]).length (encB m).1⟩
  else ⟨y.H ++ [bkC m, msC (encB m).1], y.S⟩
def sayY (h : List (List AV)) (S : Srv) (l : List Bk) : SY := l.foldl SY.step ⟨h, S⟩
theorem sayY_next (h : List (List AV)) (S : Srv) {L : List Bk} {j : Nat} (hj : j < L.length) : sayY h S (L.take (j + 1)) = (sayY h S (L.take j)).step L[j] := by
  unfold sayY
  rw [take_next hj, List.foldl_append]
  rfl
structure SY.Ok (h : List (List AV)) (S : Srv) (l : List Bk) (y : SY) : Prop where
  at_ : SvAt y.H y.S
  via : ∃ W, ViaV h S W y.H y.S ∧ ∀ q ∈ (S.i :: oVar S.o), q ∈ S.i :: oVar S.o
  eq : ∃ o, y.S = { S with Q := S.Q ++ sayM l, o := o }
  old : ∀ q ∈ oVar y.S.o, q ∈ oVar S.o ∨ h.length ≤ q
theorem SY.Ok.step {l : List Bk} {y : SY} (o : SY.Ok h S l y) (m : Bk) : SY.Ok h S (l ++ [m]) (y.step m) := by
  obtain ⟨at_, ⟨W, via, hw⟩, ⟨o1, eq⟩, old⟩ := o
  have hlt : ltLL (y.H.length + 2) [bkC m, msC (encB m).1] := by simp [msC_mk]
  have g1 := at_.app [bkC m, msC (encB m).1] hlt
  have v1 := via.app [bkC m, msC (encB m).1]
  have hs : sayM (l ++ [m]) = sayM l ++ (if (encB m).2 = 0 then [(encB m).1] else []) := by
    rw [sayM_app]
    congr 1
    unfold sayM
    by_cases h : (encB m).2 = 0 <;> simp [h]
  unfold SY.step
  by_cases he : (encB m).2 = 0
  · rw [if_pos he]
    rw [if_pos he] at hs
    obtain ⟨g2, v2⟩ := g1.pushed (encB m).1
    refine ⟨g2, ⟨_, v1.step v2, hw⟩, ⟨some ((y.H ++ [bkC m, msC (encB m).1]).length, 0), ?_⟩, fun q hq => ?_⟩
    · show y.S.pushed _ _ = _
      rw [hs, eq]
      unfold Srv.pushed
      dsimp only
      rw [List.append_assoc]
    · have hq : q ∈ oVar (some ((y.H ++ [bkC m, msC (encB m).1]).length, 0)) := hq
      rw [List.mem_singleton.1 hq]
      right
      have := via.len
      simp
      omega
  · rw [if_neg he]
    rw [if_neg he, List.append_nil] at hs
    exact ⟨g1, ⟨_, v1, hw⟩, ⟨o1, by rw [hs]; exact eq⟩, old⟩
theorem sayY_ok (g : SvAt h S) (L : List Bk) : ∀ j, j ≤ L.length → SY.Ok h S (L.take j) (sayY h S (L.take j))
  | 0, _ => ⟨g, ⟨[], ViaV.refl h S, fun q hq => hq⟩, ⟨S.o, by show S = _; unfold sayM; simp⟩, fun q hq => .inl hq⟩
  | j + 1, hj => by
    rw [sayY_next h S hj, take_next hj]
    exact (sayY_ok g L j (by omega)).step _
set_option maxHeartbeats 2000000 in
theorem vsay_d (g : SvAt h S) {x : AV} {L : List Bk} (hx : SayX h S L x) (hL : ∀ m ∈ L, BkSm m) (hl : L.length ≤ 1000) (hq : S.Q.length ≤ 100000) :
    ∃ o, DoesV 43 [.box S.i 0, x] h S (.tup []) { S with Q := S.Q ++ sayM L, o := o } := by
  have okL := sayY_ok g L L.length (Nat.le_refl _)
  rw [List.take_length] at okL
  obtain ⟨at2, ⟨W2, via2, _⟩, ⟨o2, eq2⟩, _⟩ := okL
  rw [eq2] at at2 via2
  have hlen2 := via2.len
  refine ⟨o2, (sayY h S L).H, S.i :: oVar S.o, ?_, at2, ⟨via2.len, via2.kept, fun q hq _ => ?_, via2.vars⟩⟩
  · have hxid : x.idOf = none := by cases hx with | sl hv => rw [hv]; rfl | bx b hv _ _ => rw [hv]; rfl
    have hxun : x.unown = x := by cases hx with | sl hv => rw [hv]; rfl | bx b hv _ _ => rw [hv]; rfl
    have hxl : vLenL x = ⟨True, .v (.int .i64 (L.length : Int)), false, []⟩ := by cases hx with | sl hv => rw [hv]; simp | bx b hv _ _ => rw [hv]; simp
    have hxlt : x.lt h.length := by
      cases hx with
      | sl hv => rw [hv]; simp
      | bx b hv hb _ => rw [hv]; exact (List.getElem?_eq_some_iff.1 hb).1
    refine contract_cut (XCode.inside (XCode.cuts [true]) [1, 1, 1, 1, 1, 0, 1] c43.code) k43 rfl mixed (by simp [c43]) fun hh hargs => ?_
    simp [-vLenL, c43, hxid, hxl]
    refine xloop_ok (D := Nat) (fun j => ⟨[(0, .box S.i 0), (8, x), (9, .v (.int .i64 (L.length : Int))), (10, .v (.int .i64 (j : Int)))], [], (sayY h S (L.take j)).H, S.i :: oVar S.o⟩) (fun j => j ≤ L.length) (fun j => L.length - j) 0 (Nat.zero_le _) ?_ ?_
    · have e0 : (sayY h S (L.take 0)).H = h := rfl
      rw [e0]
      simp [Leq, hh, g.i_lt, hxlt, hxid]
    · intro j hj
      have hok := sayY_ok g L j hj
      obtain ⟨y, hy⟩ : ∃ y, y = sayY h S (L.take j) := ⟨_, rfl⟩
      rw [← hy] at hok ⊢
      obtain ⟨atY, ⟨WY, viaY, _⟩, ⟨oY, eqY⟩, oldY⟩ := hok
      have hlenY := viaY.len
      have hhY := atY.hh
      have hxY : x.lt y.H.length := lt_mono hlenY hxlt
      by_cases hlt : j < L.length
      · have hw : IntKind.i64.wrap ((j : Int) + 1) = (j : Int) + 1 := wrap64 (by omega) (by omega)
        have hyn := sayY_next h S hlt
        rw [← hy] at hyn
        obtain ⟨m, hm⟩ : ∃ m, m = L[j] := ⟨_, rfl⟩
        rw [← hm] at hyn
        obtain ⟨b1, b2, b3⟩ := (hL m (by rw [hm]; exact List.getElem_mem hlt)).parts
        simp [hlt]
        refine xseq_cut ⟨[(0, .box S.i 0), (5, .box y.H.length 0), (8, x), (9, .v (.int .i64 (L.length : Int))), (10, .v (.int .i64 (j : Int)))], [], y.H ++ [bkC m], S.i :: oVar S.o⟩ ?_ ?_
        · have h11 := ltLL_mono (Nat.le_succ y.H.length) hhY
          have hSi : S.i < y.H.length := by have := g.i_lt; omega
          have hlenY' : ¬ y.H.length < h.length := by omega
          cases hx with
          | sl hv =>
            subst hv
            simp [hlt, ← hm]
            simp [Leq, h11]
            exact ⟨by omega, by omega, fun hh2 => absurd hh2 hlenY', fun a ha _ => .inr ha⟩
          | bx b hv hb hn =>
            subst hv
            have hbl := (List.getElem?_eq_some_iff.1 hb).1
            have hbY : y.H[b]? = some (enc bkC L).flatten := (viaY.kept b hbl hn).trans hb
            have hld := flat_one (c := bkC) (k := 11) (by simp) L j hlt
            rw [← hm] at hld
            have hfl := bk_flat_len L
            generalize (enc bkC L).flatten = Fl at *
            have hfit : j * 11 + 11 ≤ Fl.length := by omega
            simp [hlt, ← hm, hbY, hld, hfit]
            simp [Leq, h11]
            exact ⟨by omega, ⟨by omega, by omega⟩, fun hh2 => absurd hh2 hlenY', fun a ha _ => .inr ha⟩
        · have hSY : y.S.i = S.i := by rw [eqY]
          have top1 := atY.top
          rw [Srv.top_mk, hSY] at top1
          have hil := (List.getElem?_eq_some_iff.1 top1).1
          have g1 : ∀ xs, (y.H ++ xs)[S.i]? = _ := fun xs => (List.getElem?_append_left hil).trans top1
          have h0 : ∀ (c : List AV) xs, (y.H ++ c :: xs)[y.H.length]? = some c := fun c xs => by rw [List.getElem?_append_right (Nat.le_refl _), Nat.sub_self]; rfl
          have h1 : ∀ (c d : List AV) xs, (y.H ++ c :: d :: xs)[y.H.length + 1]? = some d := fun c d xs => by rw [List.getElem?_append_right (by omega)]; simp
          have hlt2 : ltLL (y.H.length + 2) [bkC m, msC (encB m).1] := by simp [msC_mk]
          have g2 := atY.app [bkC m, msC (encB m).1] hlt2
          have hQl : y.S.Q.length ≤ 1000000 := by
            rw [eqY]
            show (S.Q ++ sayM (L.take j)).length ≤ _
            have := sayM_len (L.take j)
            simp at this ⊢
            omega
          simp [h0]
          refine xcall_self (by simp) (bencode_c m b1 b2 (by omega) _) ?_
          by_cases he : (encB m).2 = 0
          · have hyn2 : y.step m = ⟨pushV (y.H ++ [bkC m, msC (encB m).1]) y.S (encB m).1, y.S.pushed (y.H ++ [bkC m, msC (encB m).1]).length (encB m).1⟩ := if_pos he
            have happ := fun (e ow : List (Nat × AV)) (wr : List Nat) (d : Option Nat) (K : St → List Nat → Prop) (nul : Option Bool) (room : Room) => mq_app (e := e) (ow := ow) (wr := wr) (d := d) (K := K) (nul := nul) (room := room) g2.mq hQl (encB m).1
            have hqid := mqV_id y.S.o y.S.Q.length
            have hqun := mqV_unown y.S.o y.S.Q.length
            have hqce := mqV_cells y.S.o y.S.Q.length
            have hpv : pushV (y.H ++ [bkC m, msC (encB m).1]) y.S (encB m).1 = (mqH y.S.o (y.H ++ [bkC m, msC (encB m).1]) ++ [(enc msC (y.S.Q ++ [(encB m).1])).flatten]).set S.i [.bsl (y.H.length + 2) 0 2 (y.S.Q.length + 1), .box y.S.f 0, .box y.S.s 0, .sl 0 [] (some true) .exact, .v (.int .i64 y.S.id), .v (.bool y.S.greeted), .v (.bool y.S.over)] := by
              unfold pushV
              rw [hSY]
              simp [Srv.top, Srv.pushed, mqV]
            have hpl := pushV_len (y.H ++ [bkC m, msC (encB m).1]) y.S (encB m).1
            have hph := (g2.pushed (encB m).1).1.hh
            have hXi : (mqH y.S.o (y.H ++ [bkC m, msC (encB m).1]) ++ [(enc msC (y.S.Q ++ [(encB m).1])).flatten])[S.i]? = some [mqV y.S.o y.S.Q.length, .box y.S.f 0, .box y.S.s 0, .sl 0 [] (some true) .exact, .v (.int .i64 y.S.id), .v (.bool y.S.greeted), .v (.bool y.S.over)] := by
              rw [List.getElem?_append_left (by rw [mqH_len]; simp; omega), mqH_get (fun hh2 => (atY.one _ hh2).1 hSY.symm)]
              exact g1 _
            obtain ⟨X, hX⟩ : ∃ X, X = mqH y.S.o (y.H ++ [bkC m, msC (encB m).1]) ++ [(enc msC (y.S.Q ++ [(encB m).1])).flatten] := ⟨_, rfl⟩
            obtain ⟨n, hn, hnm⟩ : ∃ n, mqW y.S.o ((y.H.length + 1) :: S.i :: oVar S.o) = n ++ ((y.H.length + 1) :: S.i :: oVar S.o) ∧ ∀ q ∈ n, q ∈ oVar y.S.o := by
              cases y.S.o with
              | none => exact ⟨[], rfl, fun q hq => by cases hq⟩
              | some p => exact ⟨[p.1], rfl, fun q hq => hq⟩
            have hn1 : ¬ y.H.length + 1 ∈ n := fun hh2 => by have := atY.vars_lt (Srv.vars_mem.2 (.inr (.inr (.inl (hnm _ hh2))))); omega
            have hn2 : ¬ S.i ∈ n := fun hh2 => (atY.one _ (hnm _ hh2)).1 hSY.symm
            rw [← hX] at hpv hXi
            simp only [← hX] at happ
            generalize mqV y.S.o y.S.Q.length = qv at *
            simp [he, h0, h1, g1, hqid, hqun]
            refine happ _ _ _ _ _ _ _ ?_
            simp [hn, hn1, hn2, hXi, ← hpv, hw]
            refine ⟨j + 1, by omega, by omega, ?_⟩
            rw [hyn, hyn2]
            have hyl : (y.H ++ [bkC m, msC (encB m).1]).length = y.H.length + 2 := by simp
            rw [hpl, hyl] at hph
            simp [Leq, hxid, hpl]
            have htk := List.take_of_length_le (Nat.le_of_eq hpl)
            rw [hyl] at htk
            rw [htk]
            refine ⟨by omega, leqH_refl _ _, hph, ⟨by have := g.i_lt; omega, lt_mono (by omega) hxY⟩, fun a ha hh3 => ?_⟩
            · rcases ha with ha | rfl | ha
              · rcases oldY _ (hnm _ ha) with h5 | h5
                · exact .inr h5
                · omega
              · omega
              · exact ha
          · have hyn2 : y.step m = ⟨y.H ++ [bkC m, msC (encB m).1], y.S⟩ := if_neg he
            have he' : ((encB m).2 == 0) = false := by simpa using he
            simp [he, he', h0, h1, hw]
            refine ⟨j + 1, by omega, by omega, ?_⟩
            rw [hyn, hyn2]
            simp [Leq, hxid]
            exact ⟨by omega, ltLL_mono (by omega) hhY, ⟨by omega, lt_mono (by omega) hxY⟩, fun hh2 => absurd hh2 (by omega), fun a ha _ => .inr ha⟩
      · have hjl : j = L.length := by omega
        subst hjl
        rw [List.take_length] at hy
        rw [← hy] at at2 ⊢
        simp
        exact ⟨hlenY, hhY, fun a ha _ => .inr ha⟩
  · rcases List.mem_cons.1 hq with rfl | hq
    · exact sv_i S
    · exact Srv.vars_mem.2 (.inr (.inr (.inl hq)))
end
end Go.Proofs.YtlbgjlmokpkkeaaGreatDoor.Ax
