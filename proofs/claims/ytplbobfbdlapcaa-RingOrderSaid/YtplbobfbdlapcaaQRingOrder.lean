/- all that is taken of a ring, and what is left in it, is what was put, in its order -/
import Derived.Test.YtplbobfbdlapcaaRows
import Derived.Test.YtplbobfbdlapcaaQElems
import Derived.WalkKit
import Derived.Lib.Walk
import Derived.Lib.AppendZeros
import Derived.Test.YtplbobfbdlapcaaQAxIb
import Derived.Test.YtplbobfbdlapcaaQCodeA
import Derived.Test.YtplbobfbdlapcaaQNumD
import Derived.Test.YtplbobfbdlapcaaQDigC
import Derived.Test.YtplbobfbdlapcaaQScanB
import Derived.Test.YtplbobfbdlapcaaQAxCl
import Derived.Test.YtplbobfbdlapcaaQAxTz
import Derived.Test.YtplbobfbdlapcaaQAxOs
import Derived.Test.YtplbobfbdlapcaaQAxX
import Derived.ProofKit
import Derived.OpenShut
import Derived.ShutString
import Derived.ChangeOld
import Derived.Below
/- The contract of slices.Grow at no slice of bytes: a slice of the call's own, without bytes. -/
namespace Go.Proofs.Ytplbobfbdlapcaa.Nm
open Go.RowKit Go By

end Go.Proofs.Ytplbobfbdlapcaa.Nm
/- The contracts of what other packages and the document's answers build on, over values without memory: numbers, texts, bytes. -/
namespace Go.Proofs.Ytplbobfbdlapcaa.Ax
open Go.RowKit Go By Ytplbobfbdlapcaa.Nm Sc Dg
set_option linter.unusedSimpArgs false
set_option maxRecDepth 10000

/-! ### Numbers -/
/-! ### Bytes with a number behind; a number in bytes -/
end Go.Proofs.Ytplbobfbdlapcaa.Ax
/- slices.Clone of elements of k cells, as a call; and as a contract: a copy is a variable of its own. Written by gen/clone.py. -/
namespace Go.Proofs.Ytplbobfbdlapcaa.Ax
open Go.RowKit Go By Ytplbobfbdlapcaa.Nm
set_option linter.unusedSimpArgs false
set_option linter.unusedVariables false
set_option maxRecDepth 10000

end Go.Proofs.Ytplbobfbdlapcaa.Ax
/- Cells that are put in place, one by one: what is known stays. No function is named here. -/
namespace Go.Proofs.Ytplbobfbdlapcaa.Ax
open Go.RowKit Go By Ytplbobfbdlapcaa.Nm Sc Dg
set_option linter.unusedSimpArgs false
set_option linter.unusedVariables false
set_option maxRecDepth 10000

end Go.Proofs.Ytplbobfbdlapcaa.Ax
/- The document's bytes that wait, over values without memory. -/
namespace Go.Proofs.Ytplbobfbdlapcaa.Ax
open Go.RowKit Go By
set_option linter.unusedSimpArgs false
set_option linter.unusedVariables false
set_option maxRecDepth 10000

theorem equalR_c (xs ys : List UInt8) (h : List (List AV)) : Contract Try.prog 15 [.sl 1 (bytesE xs) none .no, .sl 1 (bytesE ys) none .no] h (.v (.bool (xs == ys))) h [] := by
  refine contract_of k15 mixedRi (by simp [c15]) fun hh hargs => ?_
  simp [c15, hh]
structure Rd where
  take : Bool
  n : Int
  bytes : List UInt8
def rdC (d : Rd) : List AV := [.v (.bool d.take), .v (.int .i64 d.n), .sl 1 (bytesE d.bytes) none .no]
@[simp] theorem rdC_len (d : Rd) : (rdC d).length = 3 := of_eq_true (eq_self _)
@[simp] theorem rdC_lt (n : Nat) (l : List Rd) : ltLL n (enc rdC l) = True := eq_true (ltLL_of' fun j e he => by obtain ⟨s, _, rfl⟩ := List.mem_map.1 (List.mem_of_getElem? he); simp [rdC])
def OkRd (d : Rd) : Prop := True ∧ (-9223372036854775808 ≤ d.n ∧ d.n ≤ 9223372036854775807) ∧ d.bytes.length ≤ maxLen
theorem sh_rdC : Shape Try.prog 42 rdC OkRd :=
  Shape.map (shape_struct Try.underlying42 (by kernel_rfl) (shape_cons (k := 1) rfl (by kernel_rfl) sh_bool (by kernel_rfl) (shape_cons (k := 1) rfl (by kernel_rfl) sh_int (by kernel_rfl) (shape_one (k := 1) rfl (by kernel_rfl) sh_bytes)))) (fun p => ⟨p.1, p.2.1, p.2.2⟩) (fun p => rfl) (fun _ h => h)
theorem sh_rdCL : Shape Try.prog 33 (fun l : List Rd => [.sl 3 (enc rdC l) none .no]) (fun l => l.length ≤ maxLen ∧ ∀ x ∈ l, OkRd x) := shape_slice Try.underlying33 (by kernel_rfl) (by decide) sh_rdC (fun _ => rfl)

section
variable {h : List (List AV)} {i n : Nat} {X : List UInt8}
end
end Go.Proofs.Ytplbobfbdlapcaa.Ax
/- Layer 36 over values without memory: what is taken is what was put, in its order. -/
namespace Go.Proofs.Ytplbobfbdlapcaa.Ax
open Go.RowKit Go By
set_option linter.unusedSimpArgs false
set_option linter.unusedVariables false
set_option maxRecDepth 10000

structure RO where
  H : List (List AV)
  L : List UInt8
  I : List UInt8
  O : List UInt8
  f : Nat
  j : Nat
structure RO.Ok (m n : Nat) (d : RO) : Prop where
  at_ : RiAt d.H 1 0 n d.f d.L
  lt : ltLL d.H.length d.H
  all : d.I = d.O ++ d.L
  size : d.I.length ≤ d.j * 500
  j : d.j ≤ m ∧ d.j ≤ 100
def RO.st (s : Int) (l : List Rd) (d : RO) : St := ⟨[(0, .v (.int .u8 s)), (5, .box 1 0), (24, .sl 3 (enc rdC l) none .no), (25, .v (.int .i64 (l.length : Int))), (26, .v (.int .i64 (d.j : Int)))], [(7, .sl 1 (bytesE d.I) none (.own (.new 7))), (8, .sl 1 (bytesE d.O) none (.own (.new 8)))], d.H, []⟩
set_option maxHeartbeats 4000000 in
theorem riorder_c (s : Int) (hs : 0 ≤ s ∧ s < 256) (l : List Rd) (hl : l.length ≤ maxLen ∧ ∀ x ∈ l, OkRd x) : Contract Try.prog 6 [.v (.int .u8 s), .sl 3 (enc rdC l) none .no] [] (.v (.bool true)) [] [] := by
  obtain ⟨n, hn⟩ : ∃ n : Nat, (n : Int) = 1 + s := ⟨(1 + s).toNat, by omega⟩
  have hn1 : 1 ≤ n := by omega
  have hn2 : n ≤ 256 := by omega
  have hw1 : IntKind.i64.wrap s = s := wrap64 (by omega) (by omega)
  have hw2 : IntKind.i64.wrap (1 + s) = (n : Int) := by rw [← hn]; exact wrap64 (by omega) (by omega)
  have kn := rinew_c [] hn1 (by omega)
  have at0 := newRi_at [] hn1 (by omega)
  refine contract_of k6 mixedRi (by simp [c6]) fun hh hargs => ?_
  have lt0 := newRi_lt (h := []) hh n
  simp only [List.length_nil, List.nil_append, Nat.zero_add] at kn at0 lt0
  simp [c6, hw1, hw2]
  refine xcall_self (by simp) kn ?_
  simp
  refine xloop_ok (D := RO) (RO.st s l) (RO.Ok l.length n) (fun d => l.length - d.j) ⟨newRi n 0, [], [], [], 0, 0⟩ ⟨at0, lt0, rfl, Nat.zero_le _, Nat.zero_le _, Nat.zero_le _⟩ ?_ ?_
  · simp [Leq, RO.st, lt0, at0.i_lt]
  · rintro ⟨H, L, I, O, f, j⟩ hO
    obtain ⟨hat, hlt, hall, hsz, hjl, hj100⟩ := hO
    dsimp only at hat hlt hall hsz hjl hj100
    have hOI : O.length + L.length = I.length := by rw [hall, List.length_append]
    unfold RO.st
    dsimp only
    have fin : ∃ H' : List (List AV), Contract Try.prog 16 [.box 1 0, .v (.int .i64 (L.length : Int))] H (.sl 1 (bytesE L) none .no) H' [0, 1] := by
      obtain ⟨H', f', hc, _⟩ := rtake_c hat (L.length : Int)
      have : takeN L (L.length : Int) = L.length := by unfold takeN; omega
      rw [this, List.take_length] at hc
      exact ⟨H', hc⟩
    obtain ⟨HF, hcF⟩ := fin
    by_cases hjn : j < l.length
    · obtain ⟨k, hk⟩ : ∃ k, k = l[j] := ⟨_, rfl⟩
      have hkm : k ∈ l := by rw [hk]; exact List.getElem_mem hjn
      have hkok := hl.2 k hkm
      have hw : IntKind.i64.wrap ((j : Int) + 1) = (j : Int) + 1 := wrap64 (by omega) (by omega)
      have h5 : 1 < H.length := hat.i_lt
      have hcG : ∃ HG : List (List AV), Contract Try.prog 16 [.box 1 0, .v (.int .i64 (L.length : Int))] (H ++ [rdC k]) (.sl 1 (bytesE L) none .no) HG [0, 1] := by
        obtain ⟨H', f', hc, _⟩ := rtake_c (hat.app [rdC k]) (L.length : Int)
        have : takeN L (L.length : Int) = L.length := by unfold takeN; omega
        rw [this, List.take_length] at hc
        exact ⟨H', hc⟩
      obtain ⟨HG, hcG⟩ := hcG
      have hat1 := hat.app [rdC k]
      by_cases h100 : 100 ≤ j
      · have : (100 : Int) ≤ (j : Int) := by omega
        simp only [rdC] at hcG hat1
        simp [hjn, ← hk, rdC, this]
        refine xcall_self (by simp) (rlen_c hat1) ?_
        simp
        refine xcall_self (by simp) hcG ?_
        simp
        refine ⟨by omega, ?_⟩
        refine xcall_of (equalR_c I (O ++ L) _) (by simp) (by simp) ?_
        simp [hall]
        refine xcall_self (by simp) (riawake_c _) ?_
        simp
      have h100' : ¬ (100 : Int) ≤ (j : Int) := by omega
      by_cases h500 : 500 < k.bytes.length
      · have : (500 : Int) < (k.bytes.length : Int) := by omega
        simp only [rdC] at hcG hat1
        simp [hjn, ← hk, rdC, h100', this]
        refine xcall_self (by simp) (rlen_c hat1) ?_
        simp
        refine xcall_self (by simp) hcG ?_
        simp
        refine ⟨by omega, ?_⟩
        refine xcall_of (equalR_c I (O ++ L) _) (by simp) (by simp) ?_
        simp [hall]
        refine xcall_self (by simp) (riawake_c _) ?_
        simp
      have h500' : ¬ (500 : Int) < (k.bytes.length : Int) := by omega
      have hlt1 : ltLL (H ++ [rdC k]).length (H ++ [rdC k]) := by
        have := ltLL_mono (Nat.le_add_right H.length 1) hlt
        simp [this, rdC]
      have pre : ∀ (H2 : List (List AV)) (L2 : List UInt8) (f2 : Nat), RiAt H2 1 0 n f2 L2 → IntKind.i64.wrap ((n : Int) - (L2.length : Int)) = (n : Int) - (L2.length : Int) ∧ IntKind.i64.wrap ((L2.length : Int) + ((n : Int) - (L2.length : Int))) = (n : Int) ∧ ¬ (n : Int) - (L2.length : Int) < 0 := fun H2 L2 f2 h => by
        have := h.len
        refine ⟨wrap64 (by omega) (by omega), ?_, by omega⟩
        rw [show (L2.length : Int) + ((n : Int) - (L2.length : Int)) = (n : Int) by omega]
        exact wrap64 (by omega) (by omega)
      have hne : ¬ H = [] := by intro e; rw [e] at h5; cases h5
      have hne1 : ¬ H.length = 1 := by omega
      cases htk : k.take with
      | true =>
        obtain ⟨H2, f2, hc, hat2, hl2, hq2, hlt2⟩ := rtake_c hat1 k.n
        have hlt3 := hlt2 hlt1
        rw [← hl2] at hlt3
        have hb2 : H2[H.length]? = some (rdC k) := by rw [hq2 _ (by omega) (by omega)]; simp
        obtain ⟨hw3, hw4, hng⟩ := pre _ _ _ hat2
        obtain ⟨H1, hH1⟩ : ∃ H1, H1 = H ++ [rdC k] := ⟨_, rfl⟩
        have hb1 : H1[H.length]? = some (rdC k) := by rw [hH1]; simp
        rw [← hH1] at hc hl2
        have htl := takeN_le L k.n
        obtain ⟨b, m, xs⟩ := k
        dsimp only at htk h500' hc hat2 hw3 hw4 hng htl
        subst htk
        simp only [rdC] at hb1 hb2 hH1
        simp [hjn, ← hk, rdC, h100', h500']
        rw [← hH1]
        refine xcall_self (by simp) hc ?_
        simp
        refine ⟨by omega, ?_⟩
        obtain ⟨L2, hL2⟩ : ∃ L2, L2 = L.drop (takeN L m) := ⟨_, rfl⟩
        rw [← hL2] at hat2 hw3 hw4 hng
        refine xcall_self (by simp) (rlen_c hat2) ?_
        simp
        refine xcall_self (by simp) (rroom_c hat2) ?_
        simp [hw3, hw4, hw1, hw2]
        refine xcall_self (by simp) (rroom_c hat2) ?_
        simp [hng, hw]
        refine ⟨⟨H2, L2, I, O ++ L.take (takeN L m), f2, j + 1⟩, ⟨hat2, hlt3, by show I = _; rw [hL2, hall, List.append_assoc, List.take_append_drop], by show I.length ≤ (j + 1) * 500; omega, by show j + 1 ≤ l.length; omega, by show j + 1 ≤ 100; omega⟩, by show l.length - (j + 1) < l.length - j; omega, ?_⟩
        simp [Leq, hlt3, hat2.i_lt]
      | false =>
        obtain ⟨H2, f2, hc, hat2, hl2, hq2, hlt2⟩ := rput_ hat1 k.bytes hkok.2.2
        have hlt3 := hlt2 hlt1
        rw [← hl2] at hlt3
        have hb2 : H2[H.length]? = some (rdC k) := by rw [hq2 _ (by omega) (by omega)]; simp
        obtain ⟨hw3, hw4, hng⟩ := pre _ _ _ hat2
        obtain ⟨H1, hH1⟩ : ∃ H1, H1 = H ++ [rdC k] := ⟨_, rfl⟩
        have hb1 : H1[H.length]? = some (rdC k) := by rw [hH1]; simp
        rw [← hH1] at hc hl2
        obtain ⟨b, m, xs⟩ := k
        dsimp only at htk h500' h500 hc hat2 hw3 hw4 hng
        subst htk
        simp only [rdC] at hb1 hb2 hH1
        by_cases hfit : L.length + xs.length ≤ n
        · have hL2e : putL' n L xs = L ++ xs := by unfold putL'; rw [if_pos hfit]
          have hE2 : putE n L xs = 0 := by unfold putE; rw [if_pos hfit]
          rw [hE2] at hc
          rw [hL2e] at hat2 hw3 hw4 hng
          obtain ⟨L2, hL2⟩ : ∃ L2, L2 = L ++ xs := ⟨_, rfl⟩
          rw [← hL2] at hat2 hw3 hw4 hng
          simp [hjn, ← hk, rdC, h100', h500']
          rw [← hH1]
          refine xcall_self (by simp) hc ?_
          simp [hb2]
          refine ⟨by omega, ?_⟩
          refine xcall_self (by simp) (rlen_c hat2) ?_
          simp
          refine xcall_self (by simp) (rroom_c hat2) ?_
          simp [hw3, hw4, hw1, hw2]
          refine xcall_self (by simp) (rroom_c hat2) ?_
          simp [hng, hw]
          refine ⟨⟨H2, L2, I ++ xs, O, f2, j + 1⟩, ⟨hat2, hlt3, by show I ++ xs = _; rw [hL2, hall, List.append_assoc], by show (I ++ xs).length ≤ (j + 1) * 500; rw [List.length_append]; omega, by show j + 1 ≤ l.length; omega, by show j + 1 ≤ 100; omega⟩, by show l.length - (j + 1) < l.length - j; omega, ?_⟩
          simp [Leq, hlt3, hat2.i_lt]
        · have hL2e : putL' n L xs = L := by unfold putL'; rw [if_neg hfit]
          have hE2 : putE n L xs = 6 := by unfold putE; rw [if_neg hfit]
          rw [hE2] at hc
          rw [hL2e] at hat2 hw3 hw4 hng
          obtain ⟨L2, hL2⟩ : ∃ L2, L2 = L := ⟨_, rfl⟩
          rw [← hL2] at hat2 hw3 hw4 hng
          simp [hjn, ← hk, rdC, h100', h500']
          rw [← hH1]
          refine xcall_self (by simp) hc ?_
          simp
          refine xcall_self (by simp) (rlen_c hat2) ?_
          simp
          refine xcall_self (by simp) (rroom_c hat2) ?_
          simp [hw3, hw4, hw1, hw2]
          refine xcall_self (by simp) (rroom_c hat2) ?_
          simp [hng, hw]
          refine ⟨⟨H2, L2, I, O, f2, j + 1⟩, ⟨hat2, hlt3, by show I = O ++ L2; rw [hL2]; exact hall, by show I.length ≤ (j + 1) * 500; omega, by show j + 1 ≤ l.length; omega, by show j + 1 ≤ 100; omega⟩, by show l.length - (j + 1) < l.length - j; omega, ?_⟩
          simp [Leq, hlt3, hat2.i_lt]
    · have hjl2 : j = l.length := by omega
      subst hjl2
      simp
      refine xcall_self (by simp) (rlen_c hat) ?_
      simp
      refine xcall_self (by simp) hcF ?_
      simp
      refine ⟨by omega, ?_⟩
      refine xcall_of (equalR_c I (O ++ L) _) (by simp) (by simp) ?_
      simp [hall]
      refine xcall_self (by simp) (riawake_c _) ?_
      simp
theorem riorder_l (s : Int) (l : List Rd) (h0 : (Lit.int .u8 s).wf = true) (hl : l.length ≤ maxLen ∧ ∀ x ∈ l, OkRd x) : Contract Try.prog 6 [.v (.int .u8 s), .sl 3 (enc rdC l) none .no] [] (.v (.bool true)) [] [] := riorder_c s (u8_bounds h0) l hl
end Go.Proofs.Ytplbobfbdlapcaa.Ax
namespace Go.Proofs.Ytplbobfbdlapcaa.ringOrder
open Go.ChangeShapes Go.WideShapes Go.ChangeAt Go.RowKit
open Go.ChangeMaps (open_string shut_string)
set_option linter.unusedVariables false

theorem own : ownKnob Try.prog.godebug = none := by kernel_rfl
theorem laidOut : laidOutB Try.prog = true := by kernel_rfl

set_option maxRecDepth 100000 in
theorem lifted (os : Os) (started : os.Started) (H : Type) (enc : TypeId × Value → H) :
    ReturnsInHanded {} Try.checked os 6 .any (Rows.ringOrderSpec.pre6 enc Try.prog Try.f6 Rows.ringOrderRow.domain false) (Rows.ringOrderSpec.post enc Try.prog Try.f6 false true false false) := by
  refine returnsInHanded_of_change (C := Try.checked) own started (by kernel_rfl) Try.func6
    (ChangeSpec.witness6 (enc := enc) (C := Try.checked) false ⟨#[], #[.int .u8 0, .slice none 0 0], []⟩ 8 (by kernel_rfl) (by kernel_rfl) (by kernel_rfl) (by kernel_rfl)) ?_
  intro W base args ds gs before hval0 hW hcnd _
  have hval : ∀ (j : Nat) t v, Try.f6.params[j]? = some t → args[j]? = some v → Value.okWide Try.prog W .any base t v := hval0
  have hW' := hW
  obtain ⟨p, q, hA0, hV, rfl, hfz, hnd⟩ := hW
  have hA : DataW.TrodAll enc Try.prog W 0 (fun _ => true) true Try.f6.params.toList args.toList ds p := hA0
  rw [Try.params6] at hA hval
  obtain ⟨v0, vs0, d0, ds0, p0, q0, hargs, rfl, rfl, h0, r0⟩ := trodAll_cons hA
  obtain ⟨v1, vs1, d1, ds1, p1, q1, rfl, rfl, rfl, h1, r1⟩ := trodAll_cons r0
  obtain ⟨rfl, rfl, rfl⟩ := trodAll_nil r1
  obtain rfl : args = #[v0, v1] := by cases args; simp_all
  obtain ⟨rfl, rfl⟩ := trodVars_none hV
  have k0 := h0
  have lt0 : ∀ x ∈ p0, x.block < W.heap.size := by obtain ⟨m, hm⟩ := k0; exact DataW.trod_lt m _ _ _ hm
  obtain ⟨a0, ok0, s0⟩ := Ax.arg_int Try.underlying5 (hval 0 5 v0 rfl rfl) h0
  have k1 := h1
  have lt1 : ∀ x ∈ p1, x.block < W.heap.size := by obtain ⟨m, hm⟩ := k1; exact DataW.trod_lt m _ _ _ hm
  obtain ⟨a1, ok1, s1⟩ := Ax.arg_slice Try.underlying33 Ax.sh_rdCL (hval 1 33 v1 rfl rfl) h1
  clear hA0 hval0
  refine (Ax.law_walk (w := W) (Ax.dom_any W) (Ax.riorder_l a0 a1 ok0 ok1) (by simp) (.cons s0 (.cons s1 .nil))).mono fun e W' ⟨he, bel⟩ => ?_
  subst he
  exact ⟨_, rfl, _, _, _, [], _, [], hW', trodAll_mk1 (shut_bool Try.underlying4 _), (trodAll_cons_mk (Below.trod laidOut (by kernel_rfl) (of_decide_eq_true (by kernel_rfl)) k0 bel lt0) (trodAll_cons_mk (Below.trod laidOut (by kernel_rfl) (of_decide_eq_true (by kernel_rfl)) k1 bel lt1) trodAll_mk0)), rfl, bel.frame _, fun h => by cases h⟩

theorem over : Rows.ringOrderRow.holds Try.pinned (OpenSpec.ofChange Rows.ringOrderSpec) :=
  OpenClaim.holds_of_wide 6 Try.f6 rfl rfl rfl rfl rfl rfl rfl ⟨rfl, rfl, rfl, rfl, rfl⟩ rfl rfl rfl rfl rfl (by kernel_rfl) Try.func6 (by kernel_rfl)
    (of_decide_eq_true (by kernel_rfl)) (by unfold Func.isWrapper; first | (rw [if_pos (by decide +kernel)]; kernel_rfl) | (rw [if_neg (by decide +kernel)]; exact ⟨rfl, rfl⟩))
    (fun os started H enc _ => lifted os started H enc)

theorem proved : Rows.RingOrderSaid := over
#print axioms proved
end Go.Proofs.Ytplbobfbdlapcaa.ringOrder
