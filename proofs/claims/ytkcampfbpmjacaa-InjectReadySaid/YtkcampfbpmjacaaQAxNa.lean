/- Names that servers know, over values without memory: names, the document's answer, and the statements of layer 13. -/
import Derived.Test.YtkcampfbpmjacaaQAxX
import Derived.Test.YtkcampfbpmjacaaRows
import Derived.Test.YtkcampfbpmjacaaQAxDg
import Derived.Test.YtkcampfbpmjacaaQDigC
/- The texts of functions over values without memory, as the kernel reckons them out of the program. -/
namespace Go.Proofs.Ytkcampfbpmjacaa.Ax
open Go.RowKit Go By

def c35 : XFun := ⟨12, (.seq (.ops [⟨(some 2), (.assign (.const (.string (strB [])))), none⟩]) (.seq (.seq (.ops [⟨(some 3), (.move (.tmp 0)), none⟩, ⟨(some 4), (.bin .lss (.tmp 3) (.const (.int .i64 1))), none⟩, ⟨(some 5), (.move (.tmp 4)), none⟩, ⟨(some 6), (.move (.tmp 0)), (some (5, false))⟩, ⟨(some 7), (.bin .gtr (.tmp 6) (.const (.int .i64 2147483648))), (some (5, false))⟩, ⟨(some 8), (.pick (.tmp 5) (.const (.bool true)) (.tmp 7)), none⟩]) (.cond (.tmp 8) (.seq (.ops [⟨(some 2), (.assign (.const (.string (strB [])))), none⟩]) .ret) .skip)) (.seq (.ops [⟨(some 9), (.move (.tmp 0)), none⟩, ⟨(some 10), (.call 58 [(.tmp 9)]), none⟩, ⟨(some 11), (.bin .add (.const (.string (strB [95, 112]))) (.tmp 10)), none⟩, ⟨(some 2), (.assign (.tmp 11)), none⟩]) .ret))), [(.move (.tmp 2))]⟩
theorem k35 : cfun Try.prog 35 = some c35 := by kernel_rfl
def c36 : XFun := ⟨12, (.seq (.ops [⟨(some 2), (.assign (.const (.string (strB [])))), none⟩]) (.seq (.seq (.ops [⟨(some 3), (.move (.tmp 0)), none⟩, ⟨(some 4), (.bin .lss (.tmp 3) (.const (.int .i64 1))), none⟩, ⟨(some 5), (.move (.tmp 4)), none⟩, ⟨(some 6), (.move (.tmp 0)), (some (5, false))⟩, ⟨(some 7), (.bin .gtr (.tmp 6) (.const (.int .i64 2147483648))), (some (5, false))⟩, ⟨(some 8), (.pick (.tmp 5) (.const (.bool true)) (.tmp 7)), none⟩]) (.cond (.tmp 8) (.seq (.ops [⟨(some 2), (.assign (.const (.string (strB [])))), none⟩]) .ret) .skip)) (.seq (.ops [⟨(some 9), (.move (.tmp 0)), none⟩, ⟨(some 10), (.call 59 [(.tmp 9)]), none⟩, ⟨(some 11), (.bin .add (.const (.string (strB [95, 112]))) (.tmp 10)), none⟩, ⟨(some 2), (.assign (.tmp 11)), none⟩]) .ret))), [(.move (.tmp 2))]⟩
theorem k36 : cfun Try.prog 36 = some c36 := by kernel_rfl
end Go.Proofs.Ytkcampfbpmjacaa.Ax
namespace Go.Proofs.Ytkcampfbpmjacaa.Ax
open Go.RowKit Go By Nm Sc Dg
set_option linter.unusedSimpArgs false
set_option linter.unusedVariables false
set_option maxRecDepth 10000

/-! ### Parsing, prefixes -/
theorem strB_cut (xs : List UInt8) (i j : Nat) : (strB xs).extract i j = strB ((xs.drop i).take (j - i)) := by
  apply ByteArray.ext
  simp [strB, ByteArray.data_extract]
def hasP (s p : List UInt8) : Bool := decide (p.length ≤ s.length) && (s.take p.length == p)
def cutP (s p : List UInt8) : List UInt8 := if hasP s p = true then s.drop p.length else s
/-! ### Names -/
def preN : List UInt8 := [95, 112]
def dupN : List UInt8 := [95, 100, 117, 112]
def noneN : List UInt8 := [95, 110, 111, 110, 101]
def nidB (s : List UInt8) : Bool := hasP s preN && (parseB (s.drop 2) 2147483648 && decide (1 ≤ parseV (s.drop 2) 2147483648))
def nidV (s : List UInt8) : Int := if nidB s = true then parseV (s.drop 2) 2147483648 else 0
def serverL (n : Int) : List UInt8 := if n < 1 ∨ 2147483648 < n then [] else preN ++ textL n
def ownN (s : List UInt8) : Bool := nidB s || (s == dupN || s == noneN)
theorem parse_nil (most : Int) : parseB [] most = false := (form_not (form_short (by simp))).1
theorem nserver_c (n : Int) (h0 : (Lit.int .i64 n).wf = true) (h : List (List AV)) : Contract Try.prog 35 [.v (.int .i64 n)] h (.v (.string (strB (serverL n)))) h [] := by
  obtain ⟨l1, l2⟩ := int_of_wf h0
  refine contract_of k35 mixed (by simp [c35]) fun hh hargs => ?_
  by_cases h1 : n < 1
  · simp [c35, h1, hh, serverL]
  · by_cases h2 : 2147483648 < n
    · simp [c35, h1, h2, hh, serverL]
    · have h3 : ¬ n > 2147483648 := h2
      have hl := dtext_len n l1 l2
      simp [c35, h1, h2, h3]
      refine xcall_self (by simp) (dtext_c n l1 l2 _) ?_
      simp [hh, serverL, h1, h2, str_append, preN]
      omega
theorem rnserver_c (n : Int) (h0 : (Lit.int .i64 n).wf = true) (h : List (List AV)) : Contract Try.prog 36 [.v (.int .i64 n)] h (.v (.string (strB (serverL n)))) h [] := by
  obtain ⟨l1, l2⟩ := int_of_wf h0
  refine contract_of k36 mixed (by simp [c36]) fun hh hargs => ?_
  by_cases h1 : n < 1
  · simp [c36, h1, hh, serverL]
  · by_cases h2 : 2147483648 < n
    · simp [c36, h1, h2, hh, serverL]
    · have h3 : ¬ n > 2147483648 := h2
      have hl := dtext_len n l1 l2
      simp [c36, h1, h2, h3]
      refine xcall_self (by simp) (drtext_c n l1 l2 _) ?_
      simp [hh, serverL, h1, h2, str_append, preN]
      omega
/-! ### Names there and back -/
theorem text_nat (m : Nat) : textL (m : Int) = digsN m := by
  unfold textL
  rw [if_neg (by omega), Int.toNat_natCast]
theorem server_id {n : Int} (h1 : 1 ≤ n) (h2 : n ≤ 2147483648) : nidB (serverL n) = true ∧ nidV (serverL n) = n := by
  obtain ⟨m, rfl⟩ : ∃ m : Nat, n = m := ⟨n.toNat, by omega⟩
  have hm : m < 10000000000 := by omega
  have e : serverL (m : Int) = preN ++ digsN m := by
    unfold serverL
    rw [if_neg (by omega), text_nat]
  have hf : formB (digsN m) = true := by
    have := (parse_digs m hm).1
    unfold parseB at this
    simp only [Bool.and_eq_true] at this
    exact this.1
  obtain ⟨p1, p2⟩ := parse_yes (most := 2147483648) hf (by rw [num_digs]; omega)
  rw [num_digs] at p2
  have hd : (serverL (m : Int)).drop 2 = digsN m := by rw [e]; rfl
  have hp : hasP (serverL (m : Int)) preN = true := by
    rw [e]; unfold hasP
    simp
  have hb : nidB (serverL (m : Int)) = true := by
    unfold nidB
    rw [hd, hp, p1, p2]
    simp; omega
  refine ⟨hb, ?_⟩
  unfold nidV
  rw [if_pos hb, hd, p2]
theorem server_len (n : Int) (h0 : (Lit.int .i64 n).wf = true) : (serverL n).length ≤ 100 := by
  obtain ⟨l1, l2⟩ := int_of_wf h0
  have := dtext_len n l1 l2
  unfold serverL
  split
  · simp
  · simp [preN]; omega
theorem nid_dup : nidB dupN = false := by unfold nidB; rw [show hasP dupN preN = false from by decide]; rfl
theorem nid_none : nidB noneN = false := by unfold nidB; rw [show hasP noneN preN = false from by decide]; rfl
theorem own_dup : ownN dupN = true := by unfold ownN; rw [nid_dup]; decide
theorem server_seven : serverL 7 = [95, 112, 55] := by
  have : serverL 7 = preN ++ digsN 7 := by
    unfold serverL
    rw [if_neg (by omega)]
    rfl
  rw [this, digsN_small (by omega)]
  rfl
end Go.Proofs.Ytkcampfbpmjacaa.Ax
