/- strings.Trim of blanks, strings.ContainsFunc of bytes that are none of a code, over values without memory. -/
import Derived.Shelf.GgClosure.StringsIndexFunc
import Derived.Test.YtmdapcmdlblnnaaDoorProg
import Derived.Test.YtmdapcmdlblnnaaDoorQAxSx
import Derived.Test.YtmdapcmdlblnnaaDoorQCodeC
import Derived.Lib.TrimU
/- Contracts of Go's library, laid at this program by the kit's shelf (plain words): strings_indexFunc. -/
namespace Go.Sort
end Go.Sort
namespace Go.Proofs
open Go.Shelf Go.RowKit Go.Lib Go.Sort
def Tryd.lays315_ren : Go.Shelf.Ren := ⟨fun | 315 => 79 | n => n, fun | 9 => 9 | 40 => 93 | 4 => 4 | 3 => 3 | 0 => 0 | 21 => 21 | n => n, fun | n => n⟩
theorem Tryd.lays315 : Go.Proofs.Lays.n315 Tryd.prog Tryd.lays315_ren := {
  mixed := by kernel_rfl
  f315 := Tryd.func79.trans (congrArg some (by kernel_rfl))
  t0 := Tryd.underlying0
  a0 := Tryd.isAgg0
  z0 := Tryd.sizeOf0
  v0 := Tryd.zeroValue0
  t3 := Tryd.underlying3
  a3 := Tryd.isAgg3
  z3 := Tryd.sizeOf3
  v3 := Tryd.zeroValue3
  t4 := Tryd.underlying4
  a4 := Tryd.isAgg4
  z4 := Tryd.sizeOf4
  v4 := Tryd.zeroValue4
  t9 := Tryd.underlying9
  a9 := Tryd.isAgg9
  z9 := Tryd.sizeOf9
  v9 := Tryd.zeroValue9
  t21 := Tryd.underlying21
  a21 := Tryd.isAgg21
  z21 := Tryd.sizeOf21
  v21 := Tryd.zeroValue21
  t40 := Tryd.underlying93
  a40 := Tryd.isAgg93
  z40 := Tryd.sizeOf93
  v40 := Tryd.zeroValue93 }
theorem Tryd.strings_indexFunc (g : Nat) (lb : Array Value) (eg : ∀ args w, (callFunc g args).run Tryd.prog w = .ok (.enter g args) w) (p : Nat → Bool) (truth : Bool) (s : ByteArray) (w : World) (hp : PredAt Tryd.prog g lb encR p w) :
    Calls Tryd.prog 79 #[.string s, .func (.func g) #[] lb, .bool truth] w fun e w' => e = .returned (.int .i64 (Lib.idxFunc p truth s)) ∧ Below w.heap.size w w' := Any.strings_indexFunc Tryd.lays315 g lb eg p truth s w hp
end Go.Proofs
namespace Go.Proofs.YtmdapcmdlblnnaaDoor.Ax
set_option maxRecDepth 100000
open Go.RowKit Go By Dg
set_option linter.unusedSimpArgs false
set_option linter.unusedVariables false
set_option maxRecDepth 10000

/-! ### Blanks -/
theorem byte32 {x : UInt8} : ((x.toNat : Int) = 32) ↔ x = 32 := by
  constructor
  · intro e
    exact UInt8.toNat_inj.1 (by show x.toNat = 32; omega)
  · intro e; subst e; rfl
theorem trimLeft_c (s : List UInt8) (hs : s.length ≤ 9223372036854775807) (h : List (List AV)) : Contract Tryd.prog 56 [.v (.string (strB s)), .v (.int .u8 32)] h (.v (.string (strB (ltrim s)))) h [] := by
  refine contract_of k56 mixed (by simp [c56]) fun hh hargs => ?_
  simp [c56]
  refine xloop_ok (D := List UInt8) (fun u => ⟨[(0, .v (.string (strB u))), (1, .v (.int .u8 32))], [], h, []⟩) (fun u => u.length ≤ s.length ∧ ltrim u = ltrim s) (fun u => u.length) s ⟨Nat.le_refl _, rfl⟩ ?_ ?_
  · simp [Leq, hh, leqH_take]
  · rintro u ⟨hj, hl⟩
    cases u with
    | nil => simp [hh, ← hl, ltrim]
    | cons x t =>
      simp at hj
      by_cases e : x = 32
      · have e3 : (0 : Int) ≤ (t.length : Int) := by omega
        simp [e, strB_cut, e3]
        refine ⟨by omega, t, ⟨by omega, ?_⟩, ?_⟩
        · rw [← hl, ltrim, if_pos e]
        · simp [Leq, hh, leqH_take]
      · have e4 : ((x.toNat : Int) == 32) = false := by
          rw [beq_eq_false_iff_ne]
          exact fun k => e (byte32.1 k)
        have e5 : ¬ (x.toNat : Int) = 32 := fun k => e (byte32.1 k)
        rw [ltrim, if_neg e] at hl
        simp [e4, e5, hh, ← hl]
theorem trimRight_c (s : List UInt8) (hs : s.length ≤ 9223372036854775807) (h : List (List AV)) : Contract Tryd.prog 57 [.v (.string (strB s)), .v (.int .u8 32)] h (.v (.string (strB (rtrim s)))) h [] := by
  refine contract_of k57 mixed (by simp [c57]) fun hh hargs => ?_
  simp [c57]
  refine xloop_ok (D := List UInt8) (fun u => ⟨[(0, .v (.string (strB u))), (1, .v (.int .u8 32))], [], h, []⟩) (fun u => u.length ≤ s.length ∧ rtrim u = rtrim s) (fun u => u.length) s ⟨Nat.le_refl _, rfl⟩ ?_ ?_
  · simp [Leq, hh, leqH_take]
  · rintro u ⟨hj, hl⟩
    by_cases hu : u = []
    · subst hu
      simp [hh, ← hl, rtrim]
    · obtain ⟨v, x, rfl⟩ := snoc_of hu
      simp at hj
      have hw : IntKind.i64.wrap (v.length : Int) = (v.length : Int) := wrap64 (by omega) (by omega)
      by_cases e : x = 32
      · simp [e, strB_cut, hw]
        refine ⟨by omega, by omega, v, ⟨by omega, ?_⟩, by omega, ?_⟩
        · rw [← hl, e, rtrim_snoc]
        · simp [Leq, hh, leqH_take]
      · have e4 : ((x.toNat : Int) == 32) = false := by
          rw [beq_eq_false_iff_ne]
          exact fun k => e (byte32.1 k)
        have e5 : ¬ (x.toNat : Int) = 32 := fun k => e (byte32.1 k)
        rw [rtrim_end v e] at hl
        simp [e4, e5, hh, ← hl, hw]
        omega
theorem trim_c (s : List UInt8) (hs : s.length ≤ 9223372036854775807) (h : List (List AV)) : Contract Tryd.prog 46 [.v (.string (strB s)), .v (.string (strB [32]))] h (.v (.string (strB (trimL s)))) h [] := by
  refine contract_of k46 mixed (by simp [c46]) fun hh hargs => ?_
  by_cases e : s = []
  · subst e
    simp [c46, hh, trimL, ltrim, rtrim]
  · have e0 : (s == []) = false := by simpa using e
    simp [c46, e, e0]
    refine xcall_self (by simp) (trimRight_c s hs _) ?_
    simp
    refine xcall_self (by simp) (trimLeft_c (rtrim s) (Nat.le_trans (rtrim_len s) hs) _) ?_
    simp [hh, trimL, trim_swap]
/-! ### Codes -/
theorem all_next {p : UInt8 → Bool} {s : List UInt8} {j : Nat} (hj : j < s.length) (h : (s.take j).all p = true) (e : p s[j] = true) : (s.take (j + 1)).all p = true := by
  rw [List.take_succ_eq_append_getElem hj, List.all_append, h]
  simp [e]
/-- Is the rune none of a code's? -/
def runeNo (x : Nat) : Bool := !((decide (48 ≤ x) && decide (x ≤ 57)) || (decide (65 ≤ x) && decide (x ≤ 90)))
theorem notCode_any (x : Nat) (W : World) : Calls Tryd.prog 66 #[.int .i32 (x : Int)] W fun e w' => e = .returned (.bool (runeNo x)) ∧ ∃ q, w' = W.drewN q := by
  have e : runeNo x = ((decide ((x : Int) < 48) || decide (57 < (x : Int))) && (decide ((x : Int) < 65) || decide (90 < (x : Int)))) := by
    unfold runeNo
    rw [Bool.eq_iff_iff]
    simp
    omega
  go_enter Tryd.func66, Tryd.ntmps66
  go_wp2
  all_goals go_ret
  all_goals exact ⟨by first | rfl | (rw [e]; simp; done) | (rw [e]; simp; omega) | (rw [e]; simp_all; omega) | (simp_all; omega), 0, rfl⟩
theorem indexFunc_c (s : List UInt8) (h : List (List AV)) : Contract Tryd.prog 79 [.v (.string (strB s)), .fn (.func 66) [] [], .v (.bool true)] h (.v (.int .i64 (Lib.idxFunc runeNo true (strB s)))) h [] :=
  contract_blank (by kernel_rfl) rfl fun G w vs _ hs => by
    obtain ⟨a, r, rfl, h1, h2⟩ := hs.split
    obtain ⟨b, r, rfl, h3, h4⟩ := h2.split
    obtain ⟨c, r, rfl, h5, h6⟩ := h4.split
    have hr : r = [] := List.eq_nil_of_length_eq_zero (by have := h6.1; simpa using this)
    rw [h1.inv_v, h5.inv_v, hr]
    cases h3 with
    | fn _ _ _ us vs l1 l2 _ _ =>
      have e1 : us = [] := List.eq_nil_of_length_eq_zero (by simpa using l1)
      have e2 : vs = [] := List.eq_nil_of_length_eq_zero (by simpa using l2)
      subst e1 e2
      refine (Tryd.strings_indexFunc 66 #[] (fun args W => run_enter (enters_ofB (by kernel_rfl)) args W) runeNo true (strB s) w fun W x _ => ?_).mono fun e w' he => ?_
      · exact notCode_any x W
      · exact ⟨_, he.1, .v _, he.2⟩
theorem decode_high (n b0 b1 b2 b3 : Nat) (h : 128 ≤ b0) : 128 ≤ (Lib.decodeN n b0 b1 b2 b3).1 := by
  unfold Lib.decodeN
  repeat' split
  all_goals (simp only; omega)
theorem decode_low (n b0 b1 b2 b3 : Nat) (h : b0 < 128) : Lib.decodeN n b0 b1 b2 b3 = (b0, 1) := by unfold Lib.decodeN; rw [if_pos h]
theorem strB_get (s : List UInt8) {j : Nat} (hj : j < s.length) : (strB s).get! j = s[j] := by
  show (strB s).data[j]! = s[j]
  have : (strB s).data = s.toArray := rfl
  rw [this]
  simp [hj]
theorem idx_has (s : List UInt8) : ∀ (f j : Nat), s.length ≤ j + f → decide (0 ≤ Lib.idxFuncFrom runeNo true (strB s) f j) = !((s.drop j).all cdB)
  | 0, j, h => by
    have : s.drop j = [] := List.drop_eq_nil_of_le (by omega)
    rw [this]; rfl
  | f + 1, j, h => by
    unfold Lib.idxFuncFrom
    rw [strB_size]
    by_cases hj : j < s.length
    · rw [if_pos hj, List.drop_eq_getElem_cons hj, List.all_cons, Lib.decode_at, strB_get s hj]
      by_cases hb : s[j].toNat < 128
      · rw [decode_low _ _ _ _ _ hb]
        have e : runeNo s[j].toNat = !cdB s[j] := rfl
        simp only [e]
        cases hc : cdB s[j] with
        | true =>
          simp only [Bool.not_true, Bool.false_eq_true, if_false, Bool.true_and]
          exact idx_has s f (j + 1) (by omega)
        | false => simp
      · have h1 := decode_high ((strB s).size - j) s[j].toNat ((strB s).get! (j + 1)).toNat ((strB s).get! (j + 2)).toNat ((strB s).get! (j + 3)).toNat (by omega)
        generalize Lib.decodeN ((strB s).size - j) s[j].toNat ((strB s).get! (j + 1)).toNat ((strB s).get! (j + 2)).toNat ((strB s).get! (j + 3)).toNat = q at h1 ⊢
        have e1 : runeNo q.1 = true := by unfold runeNo; simp; omega
        have e2 : cdB s[j] = false := by unfold cdB; simp; omega
        rw [e1, e2]
        simp
    · have : s.drop j = [] := List.drop_eq_nil_of_le (by omega)
      rw [if_neg hj, this]; rfl
theorem containsF_c (s : List UInt8) (hs : s.length ≤ 9223372036854775807) (h : List (List AV)) : Contract Tryd.prog 65 [.v (.string (strB s)), .fn (.func 66) [] []] h (.v (.bool (!s.all cdB))) h [] := by
  have hi : Contract Tryd.prog 74 [.v (.string (strB s)), .fn (.func 66) [] []] h (.v (.int .i64 (Lib.idxFunc runeNo true (strB s)))) h [] := by
    refine contract_of k74 mixed (by simp [c74]) fun hh hargs => ?_
    simp [c74]
    refine xcall_self (by simp) (indexFunc_c s _) ?_
    simp [hh]
  have e := idx_has s s.length 0 (by omega)
  rw [List.drop_zero] at e
  have e : decide (0 ≤ Lib.idxFunc runeNo true (strB s)) = !s.all cdB := by rw [← e]; unfold Lib.idxFunc; rw [strB_size]
  refine contract_of k65 mixed (by simp [c65]) fun hh hargs => ?_
  rw [← e]
  simp [c65]
  refine xcall_self (by simp) hi ?_
  simp [hh]
end Go.Proofs.YtmdapcmdlblnnaaDoor.Ax
