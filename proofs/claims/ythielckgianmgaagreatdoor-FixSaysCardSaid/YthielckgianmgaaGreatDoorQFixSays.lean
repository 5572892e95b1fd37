/- What a server says of its own name a client is told of its name (P25.1): for every input. -/
import Derived.Test.YthielckgianmgaaGreatDoorQAxHs
import Derived.Test.YthielckgianmgaaGreatDoorRows
import Derived.Test.YthielckgianmgaaGreatDoorQAxKc0
import Derived.Test.YthielckgianmgaaGreatDoorQAxSc
import Derived.Test.YthielckgianmgaaGreatDoorQAxIb
import Derived.Test.YthielckgianmgaaGreatDoorQAxFy
import Derived.Test.YthielckgianmgaaGreatDoorQAxTz
import Derived.Test.YthielckgianmgaaGreatDoorCards
import Derived.Test.YthielckgianmgaaGreatDoorTie
import Derived.Test.YthielckgianmgaaGreatDoorQElems
import Derived.Shelf.Vars
import Derived.WalkKit
import Derived.ProofKit
import Derived.OpenShut
import Derived.ShutString
import Derived.ChangeOld
import Derived.Below
import Derived.LaidMore
import Derived.Lay
import Derived.SevenTiedAt
import Derived.Stop.Joined
/- The texts of functions over values without memory, as the kernel reckons them out of the program. -/
namespace Go.Proofs.YthielckgianmgaaGreatDoor.Ax
open Go.RowKit Go By

def c6 : XFun := ⟨12, (.seq (.ops [⟨(some 4), (.assign (.const (.bool false))), none⟩]) (.seq (.seq (.ops [⟨(some 5), (.move (.tmp 0)), none⟩, ⟨(some 6), (.lenL (.tmp 5)), none⟩, ⟨(some 7), (.move (.tmp 1)), none⟩, ⟨(some 8), (.bin .gtr (.tmp 6) (.tmp 7)), none⟩]) (.cond (.tmp 8) (.seq (.ops [⟨(some 4), (.assign (.const (.bool false))), none⟩]) .ret) .skip)) (.seq (.ops [⟨(some 9), (.move (.tmp 0)), none⟩, ⟨(some 10), (.call 21 [(.tmp 9), (.func 22)]), none⟩, ⟨(some 11), (.un .not (.tmp 10)), none⟩, ⟨(some 4), (.assign (.tmp 11)), none⟩]) .ret))), [(.move (.tmp 4))]⟩
theorem k6 : cfun Tryz.prog 6 = some c6 := by kernel_rfl
end Go.Proofs.YthielckgianmgaaGreatDoor.Ax
/- Entries that are few, over values without memory. -/
namespace Go.Proofs.YthielckgianmgaaGreatDoor.Ax
open Go.RowKit Go By
set_option linter.unusedSimpArgs false
set_option linter.unusedVariables false
set_option maxRecDepth 10000

/-! ### Entries that are few -/
end Go.Proofs.YthielckgianmgaaGreatDoor.Ax
/- Replies as clients get them: the statements of layer 25. -/
namespace Go.Proofs.YthielckgianmgaaGreatDoor.Ax
open Go.RowKit Go By Sc Dg
set_option linter.unusedSimpArgs false
set_option linter.unusedVariables false
set_option maxRecDepth 10000

theorem get_fix (e : En) (sev code text : List UInt8) : getF (fixB e (toldF sev code text)).fields 77 = ((if e.from_ = e.to then text else renQ code text e.from_ e.to), true) := by
  have g1 : getF (makeF sev code text) 67 = (code, true) := rfl
  have g2 : getF (makeF sev code text) 77 = (text, true) := rfl
  by_cases h : e.from_ = e.to
  · have : fixB e (toldF sev code text) = toldF sev code text := by unfold fixB; rw [if_neg (by simp [h])]
    rw [this, if_pos h]
    exact g2
  · have : (fixB e (toldF sev code text)).fields = renF (makeF sev code text) e.from_ e.to := by unfold fixB; rw [if_pos ⟨rfl, h⟩]; rfl
    rw [this, if_neg h]
    unfold renF
    rw [g1, g2]
    simp only [Bool.and_self, if_true]
    rw [get_with, g2]
    rfl
def errT : List UInt8 := [69, 82, 82, 79, 82]
def namesE (a b : List UInt8) : En := ⟨0, false, a, b, [], [], [], []⟩
theorem told_mid {sev code text : List UInt8} (h1 : sev.length ≤ 1000) (h2 : code.length ≤ 1000) (h3 : text.length ≤ 1000) : BkMid (toldF sev code text) := by
  refine ⟨by simp [toldF], by simp [toldF], by simp [toldF], by simp [toldF, makeF], by simp [toldF], fun f hf => ?_⟩
  simp [toldF, makeF] at hf
  rcases hf with rfl | rfl | rfl | rfl <;> simp <;> omega
theorem told_tell {sev code text : List UInt8} (h1 : sev.length ≤ 1000) (h2 : code.length ≤ 1000) (h3 : text.length ≤ 1000) : Tellable (toldF sev code text) := by
  obtain ⟨f1, f2, f3⟩ := told_fit sev code text h1 h2 h3
  refine ⟨f1, ⟨by simp [toldF], by simp [toldF], fun f hf => ?_⟩, f2, by omega⟩
  simp [toldF, makeF] at hf
  rcases hf with rfl | rfl | rfl | rfl <;> simp <;> omega
/-! ### Awake -/
def noneT : List UInt8 := [95, 110, 111, 110, 101]
def awE25 : En := namesE noneT [97]
def awB25 : Bk := fixB awE25 (toldF errT [50, 54, 48, 48, 48] (missL noneT))
theorem aw25_get : getF awB25.fields 77 = (missL [97], true) := by decide +kernel
theorem aw25_len : 10 < (bytesB [fixB awE25 awB25]).length := by decide +kernel
theorem aw25_mid : BkMid awB25 := by
  refine ⟨by decide +kernel, by decide +kernel, by decide +kernel, by decide +kernel, by decide +kernel, ?_⟩
  have : ∀ f ∈ awB25.fields, f.text.length ≤ 3000 := by decide +kernel
  exact this
theorem aw25_tell : Tellable awB25 := fix_tell (told_tell (by simp [errT]) (by simp) (by decide)) (told_mid (by simp [errT]) (by simp) (by decide)) ⟨by decide, by decide⟩
theorem awake25_c (h : List (List AV)) : Contract Tryz.prog 8 [] h (.v (.bool true)) h [] := by
  have k1 := fun h => fixback_c awE25 (toldF errT [50, 54, 48, 48, 48] (missL noneT)) (told_mid (by simp [errT]) (by simp) (by decide)) ⟨by decide, by decide⟩ h
  have k2 := fun h => fixshown_c awE25 awB25 aw25_tell aw25_mid ⟨by decide, by decide⟩ h
  have k3 := fun h => tmiss_c noneT (by decide) h
  have k4 := fun h => tmiss_c [97] (by decide) h
  have k5 := fun h => ferror_c [50, 54, 48, 48, 48] (missL noneT) h
  have k6 := fun h => fget_c awB25.fields 77 (by decide +kernel) h
  rw [aw25_get] at k6
  have hl : (10 : Int) < (shownB awE25 awB25).length := by
    have e : shownB awE25 awB25 = bytesB [fixB awE25 awB25] := rfl
    have := aw25_len
    rw [e]
    omega
  refine contract_cut (XCode.cuts [false, true, true] c8.code) k8 rfl mixed (by simp [c8]) fun hh hargs => ?_
  simp [c8]
  refine xseq_cut ⟨[(1, .box h.length 0)], [], h ++ [enC awE25], []⟩ ?_ ?_
  · simp [Leq, hh, leqH_take, enC_mk, awE25, namesE, noneT]
    refine leqH_front h 0 ?_
    simp
    done
  refine xseq_cut ⟨[(1, .box h.length 0), (2, .box (h.length + 1) 0)], [], h ++ [enC awE25, bkC awB25], []⟩ ?_ ?_
  · simp
    have hcut : ∀ (x : List AV), List.take h.length (h ++ [enC awE25, x]) = h := fun x => List.take_left
    refine ⟨?_, ?_⟩
    · refine xcall_self (by simp) (k3 _) ?_
      simp
      refine ⟨?_, ?_⟩
      · refine xcall_self (by simp) (k5 _) ?_
        simp
        refine ⟨?_, ?_⟩
        · refine xcall_self (by simp) (k1 _) ?_
          simp [Leq, hh, leqH_take, awB25]
        · refine xcall_self (by simp) (k1 _) ?_
          simp [Leq, hh, leqH_take, awB25]
      · refine xcall_self (by simp) (k5 _) ?_
        simp
        refine xcall_self (by simp) (k1 _) ?_
        simp [Leq, hh, leqH_take, awB25]
    · refine xcall_self (by simp) (k3 _) ?_
      simp
      refine xcall_self (by simp) (k5 _) ?_
      simp
      refine xcall_self (by simp) (k1 _) ?_
      simp [Leq, hh, leqH_take, awB25]
  · simp
    refine xcall_self (by simp) (k6 _) ?_
    simp
    refine xcall_self (by simp) (k4 _) ?_
    simp
    refine xcall_self (by simp) (k2 _) ?_
    simp [hh, hl]
end Go.Proofs.YthielckgianmgaaGreatDoor.Ax
/- The statements of layer 25: what a reply is told as. -/
namespace Go.Proofs.YthielckgianmgaaGreatDoor.Ax
open Go.RowKit Go By Sc Dg
set_option linter.unusedSimpArgs false
set_option linter.unusedVariables false
set_option maxRecDepth 10000

end Go.Proofs.YthielckgianmgaaGreatDoor.Ax
/- The statements of layer 25: a client is told its own name. -/
namespace Go.Proofs.YthielckgianmgaaGreatDoor.Ax
open Go.RowKit Go By Sc Dg
set_option linter.unusedSimpArgs false
set_option linter.unusedVariables false
set_option maxRecDepth 10000

theorem say26 (a b : List UInt8) : (if a = b then missL a else renQ [50, 54, 48, 48, 48] (missL a) a b) = missL b := by
  by_cases h : a = b
  · rw [if_pos h, h]
  · rw [if_neg h]
    unfold renQ
    rw [if_pos rfl]
    exact ren26_self a b
theorem say42 (a b : List UInt8) : (if a = b then existL a else renQ [52, 50, 80, 48, 53] (existL a) a b) = existL b := by
  by_cases h : a = b
  · rw [if_pos h, h]
  · rw [if_neg h]
    unfold renQ
    rw [if_neg (by decide), if_pos rfl]
    exact ren42_self a b
theorem say08 (n m : Int) (a b : List UInt8) : (if a = b then arityL n a m else renQ [48, 56, 80, 48, 49] (arityL n a m) a b) = arityL n b m := by
  by_cases h : a = b
  · rw [if_pos h, h]
  · rw [if_neg h]
    unfold renQ
    rw [if_neg (by decide), if_neg (by decide), if_pos rfl]
    exact ren08_self n m a b
theorem fixsays_c (a b : List UInt8) (n m : Int) (hn : (Lit.int .u8 n).wf = true) (hm : (Lit.int .u8 m).wf = true) : Contract Tryz.prog 5 [.v (.string (strB a)), .v (.string (strB b)), .v (.int .u8 n), .v (.int .u8 m)] [] (.v (.bool true)) [] [] := by
  have rng : ∀ {n : Int}, (Lit.int .u8 n).wf = true → 0 ≤ n ∧ n < 256 := fun h => by
    simp [Lit.wf, IntKind.min, IntKind.max, IntKind.signed, IntKind.bits] at h
    omega
  obtain ⟨n1, n2⟩ := rng hn
  obtain ⟨m1, m2⟩ := rng hm
  have wn : IntKind.i64.wrap n = n := wrap64 (by omega) (by omega)
  have wm : IntKind.i64.wrap m = m := wrap64 (by omega) (by omega)
  refine contract_cut (XCode.cuts [false, false, true] c5.code) k5 rfl mixed (by simp [c5]) fun hh hargs => ?_
  simp [c5]
  by_cases hx : (300 : Int) < a.length
  · simp [hx]
    refine xcall_self (by simp) (awake25_c _) ?_
    simp
  by_cases hy : (300 : Int) < b.length
  · simp [hx, hy]
    refine xcall_self (by simp) (awake25_c _) ?_
    simp
  simp [hx, hy]
  have ha : a.length ≤ 1000 := by omega
  have hb : b.length ≤ 1000 := by omega
  have s1 := stmt_len a
  have lar : (arityL n a m).length ≤ 1000 := by
    have l1 := dtext_len n (by omega) (by omega)
    have l2 := dtext_len m (by omega) (by omega)
    have l3 := req_len a
    simp [arityL, bindT, paramsT]
    omega
  have hnm : OkNames (namesE a b) := ⟨ha, hb⟩
  have two : ∀ (code text : List UInt8), code.length ≤ 1000 → text.length ≤ 1000 → ∀ h, Contract Tryz.prog 16 [.sl 2 (enc fiC (fixB (namesE a b) (toldF errT code text)).fields) none .no, .v (.int .u8 77)] h (.tup [.v (.string (strB (if a = b then text else renQ code text a b))), .v (.bool true)]) h [] := fun code text h1 h2 h => by
    have hf := fix_tell (told_tell (sev := errT) (by simp [errT]) h1 h2) (told_mid (sev := errT) (by simp [errT]) h1 h2) hnm
    have := fget_c (fixB (namesE a b) (toldF errT code text)).fields 77 hf.1.2.2.2.1 h
    rw [get_fix] at this
    exact this
  have one : ∀ (code text : List UInt8), code.length ≤ 1000 → text.length ≤ 1000 → ∀ h, Contract Tryz.prog 10 [.agg (enC (namesE a b)), .agg (bkC (toldF errT code text))] h (.agg (bkC (fixB (namesE a b) (toldF errT code text)))) h [] := fun code text h1 h2 h =>
    fixback_c (namesE a b) _ (told_mid (by simp [errT]) h1 h2) hnm h
  have g1 := two [50, 54, 48, 48, 48] (missL a) (by simp) (by omega)
  have g2 := two [52, 50, 80, 48, 53] (existL a) (by simp) (by omega)
  have g3 := two [48, 56, 80, 48, 49] (arityL n a m) (by simp) lar
  rw [say26] at g1
  rw [say42] at g2
  rw [say08] at g3
  refine xseq_cut ⟨[(0, .v (.string (strB a))), (1, .v (.string (strB b))), (2, .v (.int .u8 n)), (3, .v (.int .u8 m)), (9, .box 0 0)], [], [enC (namesE a b)], []⟩ ?_ ?_
  · simp [Leq, enC_mk, namesE]
    done
  · simp
    refine xcall_self (by simp) (tmiss_c a (by omega) _) ?_
    simp
    refine xcall_self (by simp) (ferror_c _ _ _) ?_
    simp
    refine xcall_self (by simp) (one _ _ (by simp) (by omega) _) ?_
    simp
    refine xcall_self (by simp) (g1 _) ?_
    simp
    refine xcall_self (by simp) (texist_c a (by omega) _) ?_
    simp
    refine xcall_self (by simp) (ferror_c _ _ _) ?_
    simp
    refine xcall_self (by simp) (one _ _ (by simp) (by omega) _) ?_
    simp
    refine xcall_self (by simp) (g2 _) ?_
    simp [wn, wm]
    refine xcall_self (by simp) (tarity_c n m a ⟨by omega, by omega⟩ ⟨by omega, by omega⟩ (by omega) _) ?_
    simp
    refine xcall_self (by simp) (ferror_c _ _ _) ?_
    simp
    refine xcall_self (by simp) (one _ _ (by simp) lar _) ?_
    simp
    refine xcall_self (by simp) (g3 _) ?_
    simp
    refine xcall_self (by simp) (tmiss_c b (by omega) _) ?_
    simp
    refine xcall_self (by simp) (texist_c b (by omega) _) ?_
    simp [wn, wm]
    refine xcall_self (by simp) (tarity_c n m b ⟨by omega, by omega⟩ ⟨by omega, by omega⟩ (by omega) _) ?_
    simp
    refine xcall_self (by simp) (awake25_c _) ?_
    simp
end Go.Proofs.YthielckgianmgaaGreatDoor.Ax
namespace Go.Proofs.YthielckgianmgaaGreatDoor.fixSays
open Go.ChangeShapes Go.WideShapes Go.ChangeAt Go.RowKit
open Go.ChangeMaps (open_string shut_string)
set_option linter.unusedVariables false

theorem own : ownKnob Tryz.prog.godebug = none := by kernel_rfl
theorem laidOut : laidOutB Tryz.prog = true := by kernel_rfl

set_option maxRecDepth 100000 in
theorem dom (W : World) (h : W.ShapedOpen Tryz.prog) : Ax.Dom W :=
  cell_of_shapedOpen_int (g := 0) (t := 3) (zero := #[.int .i64 0]) h (of_decide_eq_true (by kernel_rfl)) (by kernel_rfl) rfl (by kernel_rfl) (by kernel_rfl) Tryz.underlying3

set_option maxRecDepth 100000 in
theorem lifted (os : Os) (started : os.Started) (H : Type) (enc : TypeId × Value → H) :
    ReturnsInHanded {} Tryz.checked os 5 .any (fun w args => (Rows.fixSaysSpec.pre enc Tryz.prog Tryz.f5 Rows.fixSaysRow.domain false w args ∧ laidMetH Tryz.prog Rows.fixSaysRow.laid w) ∧ sizedMet enc Tryz.prog Tryz.f5 (OpenSpec.ofChange Rows.fixSaysSpec) false w args) (Rows.fixSaysSpec.post enc Tryz.prog Tryz.f5 false true false false) := by
  refine Ax.handed_shaped (C := Tryz.checked) (X := fun w _ => laidMetH Tryz.prog Rows.fixSaysRow.laid w) (fun _ _ _ hh h => h.of_heap hh) own started (by kernel_rfl) Tryz.func5
    (ChangeSpec.witness_shaped (enc := enc) (C := Tryz.checked) (os := os) (X := fun w _ => laidMetH Tryz.prog Rows.fixSaysRow.laid w) false (World.laidAll Tryz.prog os Rows.fixSaysRow.laid) #[.string ByteArray.empty, .string ByteArray.empty, .int .u8 0, .int .u8 0] 8 (World.laidAll_os _ _ _)
      (World.shaped_of_ZipB (by kernel_rfl) (by kernel_rfl)) (by kernel_rfl) (by kernel_rfl) (by kernel_rfl)
      (by rw [MakeChecks.laidMetH_plain _ _ _ (by kernel_rfl)]; exact laidMet_laidAll _ (by kernel_rfl) (by kernel_rfl))) ?_
  intro W base args ds gs before hval0 hW hL hsh _
  have hdom : Ax.Dom W := dom W hsh
  have hval : ∀ (j : Nat) t v, Tryz.f5.params[j]? = some t → args[j]? = some v → Value.okWide Tryz.prog W .any base t v := hval0
  have hW' := hW
  obtain ⟨p, q, hA0, hV, rfl, hfz, hnd⟩ := hW
  have hA : DataW.TrodAll enc Tryz.prog W 0 (fun _ => true) true Tryz.f5.params.toList args.toList ds p := hA0
  rw [Tryz.params5] at hA hval
  obtain ⟨v0, vs0, d0, ds0, p0, q0, hargs, rfl, rfl, h0, r0⟩ := trodAll_cons hA
  obtain ⟨v1, vs1, d1, ds1, p1, q1, rfl, rfl, rfl, h1, r1⟩ := trodAll_cons r0
  obtain ⟨v2, vs2, d2, ds2, p2, q2, rfl, rfl, rfl, h2, r2⟩ := trodAll_cons r1
  obtain ⟨v3, vs3, d3, ds3, p3, q3, rfl, rfl, rfl, h3, r3⟩ := trodAll_cons r2
  obtain ⟨rfl, rfl, rfl⟩ := trodAll_nil r3
  obtain rfl : args = #[v0, v1, v2, v3] := by cases args; simp_all
  obtain ⟨rfl, rfl⟩ := trodVars_none hV
  have k0 := h0
  have lt0 : ∀ x ∈ p0, x.block < W.heap.size := by obtain ⟨m, hm⟩ := k0; exact DataW.trod_lt m _ _ _ hm
  obtain ⟨a0, ok0, s0⟩ := Ax.arg_str Tryz.underlying9 (hval 0 9 v0 rfl rfl) h0
  have k1 := h1
  have lt1 : ∀ x ∈ p1, x.block < W.heap.size := by obtain ⟨m, hm⟩ := k1; exact DataW.trod_lt m _ _ _ hm
  obtain ⟨a1, ok1, s1⟩ := Ax.arg_str Tryz.underlying9 (hval 1 9 v1 rfl rfl) h1
  have k2 := h2
  have lt2 : ∀ x ∈ p2, x.block < W.heap.size := by obtain ⟨m, hm⟩ := k2; exact DataW.trod_lt m _ _ _ hm
  obtain ⟨a2, ok2, s2⟩ := Ax.arg_int Tryz.underlying5 (hval 2 5 v2 rfl rfl) h2
  have k3 := h3
  have lt3 : ∀ x ∈ p3, x.block < W.heap.size := by obtain ⟨m, hm⟩ := k3; exact DataW.trod_lt m _ _ _ hm
  obtain ⟨a3, ok3, s3⟩ := Ax.arg_int Tryz.underlying5 (hval 3 5 v3 rfl rfl) h3
  clear hA0 hval0 hL hsh
  refine (Ax.law_walk (w := W) hdom (Ax.fixsays_c a0 a1 a2 a3 ok2 ok3) (by simp) (.cons s0 (.cons s1 (.cons s2 (.cons s3 .nil))))).mono fun e W' ⟨he, bel⟩ => ?_
  subst he
  exact ⟨_, rfl, _, _, _, [], _, [], hW', trodAll_mk1 (shut_bool Tryz.underlying4 _), (trodAll_cons_mk (Below.trod laidOut (by kernel_rfl) (of_decide_eq_true (by kernel_rfl)) k0 bel lt0) (trodAll_cons_mk (Below.trod laidOut (by kernel_rfl) (of_decide_eq_true (by kernel_rfl)) k1 bel lt1) (trodAll_cons_mk (Below.trod laidOut (by kernel_rfl) (of_decide_eq_true (by kernel_rfl)) k2 bel lt2) (trodAll_cons_mk (Below.trod laidOut (by kernel_rfl) (of_decide_eq_true (by kernel_rfl)) k3 bel lt3) trodAll_mk0)))), rfl, bel.frame _, fun h => by cases h⟩

theorem over : Rows.fixSaysRow.holds Tryz.pinned (OpenSpec.ofChange Rows.fixSaysSpec) :=
  OpenClaim.holds_of_wide 5 Tryz.f5 rfl rfl rfl rfl rfl rfl rfl ⟨rfl, rfl, rfl, rfl, rfl⟩ rfl rfl rfl rfl rfl (by kernel_rfl) Tryz.func5 (by kernel_rfl)
    (of_decide_eq_true (by kernel_rfl)) (by unfold Func.isWrapper; first | (rw [if_pos (by decide +kernel)]; kernel_rfl) | (rw [if_neg (by decide +kernel)]; exact ⟨rfl, rfl⟩))
    (fun os started H enc _ => lifted os started H enc)

theorem proved : Rows.FixSaysCardSaid :=
  Claim7.holds_tied_plain_at .later [] [.data, .pinned] true (true, "e29613268a1fcaf2ec0fe5fc326ac9731bf14d9e295aa49132f397e6333a1654") false over (fun _ h => by cases h) (by kernel_rfl) (fun _ h => by cases h) fixSays_row_tie rfl ⟨rfl, rfl⟩ (by kernel_rfl) rfl
    (fun f fn hf hfn => by
      obtain rfl : f = 5 := Option.some.inj ((show Tryz.prog.funcNamed "remuda/remudalaw25.FixSays" = some 5 by kernel_rfl).symm.trans hf) |>.symm
      obtain rfl : fn = Tryz.f5 := (Option.some.inj (Tryz.func5.symm.trans hfn)).symm
      exact ⟨by kernel_rfl, fun j t ht => by
        rw [Tryz.params5] at ht
        have hm : t ∈ [9, 9, 5, 5] := by simpa using Array.mem_of_getElem? ht
        have hall : ([9, 9, 5, 5].all fun u => !Tryz.prog.wantsStandIn u) = true := by kernel_rfl
        exact (show Tryz.prog.wantsStandIn t = false by simpa using List.all_eq_true.1 hall t hm)⟩)
    (by kernel_rfl)
#print axioms proved
end Go.Proofs.YthielckgianmgaaGreatDoor.fixSays
