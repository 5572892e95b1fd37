/- bytes are put and taken, in any order of calls, as the document's own plain list does -/
import Derived.Test.YtplbobfbdlapcaaRows
import Derived.Test.YtplbobfbdlapcaaQElems
import Derived.WalkKit
import Derived.Lib.Walk
import Derived.Lib.AppendZeros
import Derived.Test.YtplbobfbdlapcaaQAxIb
import Derived.Test.YtplbobfbdlapcaaQCodeA
import Derived.Test.YtplbobfbdlapcaaQNumD
import Derived.Test.YtplbobfbdlapcaaQDigC
import Derived.Test.YtplbobfbdlapcaaQScanB
import Derived.Test.YtplbobfbdlapcaaQAxCl
import Derived.Test.YtplbobfbdlapcaaQAxTz
import Derived.Test.YtplbobfbdlapcaaQAxOs
import Derived.Test.YtplbobfbdlapcaaQAxX
import Derived.ProofKit
import Derived.OpenShut
import Derived.ShutString
import Derived.ChangeOld
import Derived.Below
/- The contract of slices.Grow at no slice of bytes: a slice of the call's own, without bytes. -/
namespace Go.Proofs.Ytplbobfbdlapcaa.Nm
open Go.RowKit Go By

end Go.Proofs.Ytplbobfbdlapcaa.Nm
/- The contracts of what other packages and the document's answers build on, over values without memory: numbers, texts, bytes. -/
namespace Go.Proofs.Ytplbobfbdlapcaa.Ax
open Go.RowKit Go By Ytplbobfbdlapcaa.Nm Sc Dg
set_option linter.unusedSimpArgs false
set_option maxRecDepth 10000

/-! ### Numbers -/
/-! ### Bytes with a number behind; a number in bytes -/
end Go.Proofs.Ytplbobfbdlapcaa.Ax
/- slices.Clone of elements of k cells, as a call; and as a contract: a copy is a variable of its own. Written by gen/clone.py. -/
namespace Go.Proofs.Ytplbobfbdlapcaa.Ax
open Go.RowKit Go By Ytplbobfbdlapcaa.Nm
set_option linter.unusedSimpArgs false
set_option linter.unusedVariables false
set_option maxRecDepth 10000

end Go.Proofs.Ytplbobfbdlapcaa.Ax
/- Cells that are put in place, one by one: what is known stays. No function is named here. -/
namespace Go.Proofs.Ytplbobfbdlapcaa.Ax
open Go.RowKit Go By Ytplbobfbdlapcaa.Nm Sc Dg
set_option linter.unusedSimpArgs false
set_option linter.unusedVariables false
set_option maxRecDepth 10000

theorem leqC_same {i : Nat} : ∀ (F : List AV) (j : Nat), leqC i j F F
  | [], _ => trivial
  | x :: r, j => ⟨leqV_refl _ _, leqC_same r (j + 1)⟩
theorem leqC_put {i : Nat} : ∀ (F : List AV) (j p : Nat) (a b : AV), F[p]? = some b → LeqV (.cell i (j + p)) a b → leqC i j (F.set p a) F
  | x :: r, j, 0, a, b, h, hv => by
    simp at h
    subst h
    exact ⟨hv, leqC_same r (j + 1)⟩
  | x :: r, j, p + 1, a, b, h, hv => ⟨leqV_refl _ _, leqC_put r (j + 1) p a b (by simpa using h) (by rw [show j + 1 + p = j + (p + 1) by omega]; exact hv)⟩
theorem leqH_front {a b : List (List AV)} : ∀ (h : List (List AV)) (k : Nat), leqH (k + h.length) a b → leqH k (h ++ a) (h ++ b)
  | [], k, hh => by simpa using hh
  | c :: r, k, hh => ⟨.inl rfl, leqH_front r (k + 1) (by simp only [List.length_cons] at hh; rw [show k + 1 + r.length = k + (r.length + 1) by omega]; exact hh)⟩
end Go.Proofs.Ytplbobfbdlapcaa.Ax
/- The document's bytes that wait, over values without memory. -/
namespace Go.Proofs.Ytplbobfbdlapcaa.Ax
open Go.RowKit Go By
set_option linter.unusedSimpArgs false
set_option linter.unusedVariables false
set_option maxRecDepth 10000

theorem equalR_c (xs ys : List UInt8) (h : List (List AV)) : Contract Try.prog 15 [.sl 1 (bytesE xs) none .no, .sl 1 (bytesE ys) none .no] h (.v (.bool (xs == ys))) h [] := by
  refine contract_of k15 mixedRi (by simp [c15]) fun hh hargs => ?_
  simp [c15, hh]
structure Rd where
  take : Bool
  n : Int
  bytes : List UInt8
def rdC (d : Rd) : List AV := [.v (.bool d.take), .v (.int .i64 d.n), .sl 1 (bytesE d.bytes) none .no]
@[simp] theorem rdC_len (d : Rd) : (rdC d).length = 3 := of_eq_true (eq_self _)
@[simp] theorem rdC_lt (n : Nat) (l : List Rd) : ltLL n (enc rdC l) = True := eq_true (ltLL_of' fun j e he => by obtain ⟨s, _, rfl⟩ := List.mem_map.1 (List.mem_of_getElem? he); simp [rdC])
def OkRd (d : Rd) : Prop := True ∧ (-9223372036854775808 ≤ d.n ∧ d.n ≤ 9223372036854775807) ∧ d.bytes.length ≤ maxLen
theorem sh_rdC : Shape Try.prog 42 rdC OkRd :=
  Shape.map (shape_struct Try.underlying42 (by kernel_rfl) (shape_cons (k := 1) rfl (by kernel_rfl) sh_bool (by kernel_rfl) (shape_cons (k := 1) rfl (by kernel_rfl) sh_int (by kernel_rfl) (shape_one (k := 1) rfl (by kernel_rfl) sh_bytes)))) (fun p => ⟨p.1, p.2.1, p.2.2⟩) (fun p => rfl) (fun _ h => h)
theorem sh_rdCL : Shape Try.prog 33 (fun l : List Rd => [.sl 3 (enc rdC l) none .no]) (fun l => l.length ≤ maxLen ∧ ∀ x ∈ l, OkRd x) := shape_slice Try.underlying33 (by kernel_rfl) (by decide) sh_rdC (fun _ => rfl)

structure RxAt (h : List (List AV)) (i n : Nat) (X : List UInt8) : Prop where
  top : h[i]? = some [.sl 1 (bytesE X) none .no, .v (.int .i64 (n : Int))]
  len : X.length ≤ n
  most : n ≤ 1048576
def rxH (h : List (List AV)) (i n : Nat) (X : List UInt8) : List (List AV) := h.set i [.sl 1 (bytesE X) none .no, .v (.int .i64 (n : Int))]
section
variable {h : List (List AV)} {i n : Nat} {X : List UInt8}
theorem RxAt.i_lt (hr : RxAt h i n X) : i < h.length := (List.getElem?_eq_some_iff.1 hr.top).1
theorem RxAt.move {h2 : List (List AV)} (hr : RxAt h i n X) (h1 : h2[i]? = h[i]?) : RxAt h2 i n X := ⟨h1.trans hr.top, hr.len, hr.most⟩
theorem RxAt.app (hr : RxAt h i n X) (xs : List (List AV)) : RxAt (h ++ xs) i n X := hr.move (List.getElem?_append_left hr.i_lt)
theorem RxAt.turn (hr : RxAt h i n X) {Y : List UInt8} (hl : Y.length ≤ n) : RxAt (rxH h i n Y) i n Y := ⟨List.getElem?_set_self hr.i_lt, hl, hr.most⟩
theorem RxAt.same (hr : RxAt h i n X) : rxH h i n X = h := set_same hr.top
theorem rxH_len (h : List (List AV)) (i n : Nat) (X : List UInt8) : (rxH h i n X).length = h.length := by unfold rxH; simp
theorem rxH_lt {h : List (List AV)} (hh : ltLL h.length h) (i n : Nat) (X : List UInt8) : ltLL h.length (rxH h i n X) := ltLL_set hh (by simp)
theorem rx_leq (h : List (List AV)) (i n : Nat) (Y : List UInt8) : leqH 0 (h.set i [.sl 1 (bytesE Y) none (.own (.cell i 0)), .v (.int .i64 (n : Int))]) (rxH h i n Y) := leqH_set (leqC_put [.sl 1 (bytesE Y) none .no, .v (.int .i64 (n : Int))] 0 0 _ _ rfl (by simp [LeqV]))
theorem rxnew_c (h : List (List AV)) {n : Nat} (h1 : 1 ≤ n) (h2 : n ≤ 1048576) : Contract Try.prog 14 [.v (.int .i64 n)] h (.tup [.box h.length 0, .v (.int .i64 0)]) (h ++ [[.sl 1 (bytesE []) none .no, .v (.int .i64 (n : Int))]]) [] := by
  refine contract_of k14 mixedRi (by simp [c14]) fun hh hargs => ?_
  have g1 : ¬ (n : Int) < 1 := by omega
  have g2 : ¬ (1048576 : Int) < (n : Int) := by omega
  have hl2 := ltLL_mono (Nat.le_add_right h.length 1) hh
  simp [c14, g1, g2, hl2]
  exact leqH_front h 0 ⟨.inr (leqC_put [.sl 1 [] none .no, .v (.int .i64 (n : Int))] 0 0 _ _ rfl (by simp [LeqV])), trivial⟩
theorem rxnew_no (h : List (List AV)) {n : Int} (hn : n < 1 ∨ 1048576 < n) : Contract Try.prog 14 [.v (.int .i64 n)] h (.tup [.v (.pointer none), .v (.int .i64 1)]) h [] := by
  refine contract_of k14 mixedRi (by simp [c14]) fun hh hargs => ?_
  by_cases g1 : n < 1
  · simp [c14, g1, hh]
  · have g2 : (1048576 : Int) < n := by omega
    simp [c14, g1, g2, hh]
theorem rxput_c (hr : RxAt h i n X) (xs : List UInt8) (hxl : xs.length ≤ 1000) : Contract Try.prog 19 [.box i 0, .sl 1 (bytesE xs) none .no] h (.v (.int .i64 (putE n X xs))) (rxH h i n (putL' n X xs)) [i] := by
  have h1 := hr.top
  have h2 := hr.len
  have h3 := hr.most
  have hi := hr.i_lt
  have hw : IntKind.i64.wrap ((n : Int) - (X.length : Int)) = (n : Int) - (X.length : Int) := wrap64 (by omega) (by omega)
  unfold putE putL'
  by_cases hfit : X.length + xs.length ≤ n
  · rw [if_pos hfit, if_pos hfit]
    have hng : ¬ (n : Int) - (X.length : Int) < (xs.length : Int) := by omega
    refine contract_of k19 mixedRi (by simp [c19]) fun hh hargs => ?_
    have hlt := rxH_lt hh i n (X ++ xs)
    simp [c19, h1, hw, hng]
    refine xappendA_own ?_
    simp [h1]
    rw [rxH_len, take_set_len, ← bytesE_append]
    exact ⟨by omega, by omega, Nat.le_refl _, Nat.le_refl _, rx_leq .., hlt⟩
  · rw [if_neg hfit, if_neg hfit, hr.same]
    have hng : (n : Int) - (X.length : Int) < (xs.length : Int) := by omega
    refine contract_of k19 mixedRi (by simp [c19]) fun hh hargs => ?_
    simp [c19, h1, hw, hng, hh]
theorem rxtake_c (hr : RxAt h i n X) (k : Int) : Contract Try.prog 17 [.box i 0, .v (.int .i64 k)] h (.sl 1 (bytesE (X.take (takeN X k))) none (.own .res)) (rxH h i n (X.drop (takeN X k))) [i] := by
  have h1 := hr.top
  have h2 := hr.len
  have h3 := hr.most
  have hi := hr.i_lt
  obtain ⟨c, hc⟩ : ∃ c, c = takeN X k := ⟨_, rfl⟩
  have hkl := takeN_le X k
  rw [← hc] at hkl ⊢
  have hm : minZ (maxZ k [0]) [(X.length : Int)] = (c : Int) := by
    rw [minZ_two, hc]
    simp only [maxZ, List.foldl_cons, List.foldl_nil]
    unfold takeN
    split <;> omega
  refine contract_of k17 mixedRi (by simp [c17]) fun hh hargs => ?_
  have hlt := rxH_lt hh i n (X.drop c)
  simp [c17, h1, hm, hkl]
  refine xappendA_own ?_
  have h5 : min c X.length ≤ 140737488355328 := by omega
  simp [h1, hkl, h5]
  refine ⟨by omega, ?_⟩
  refine xappendA_own ?_
  simp [h1]
  rw [rxH_len, take_set_len]
  exact ⟨by omega, Nat.le_refl _, Nat.le_refl _, rx_leq .., hlt⟩
end
end Go.Proofs.Ytplbobfbdlapcaa.Ax
/- Layer 36 over values without memory: bytes are put and taken as the document says. -/
namespace Go.Proofs.Ytplbobfbdlapcaa.Ax
open Go.RowKit Go By
set_option linter.unusedSimpArgs false
set_option linter.unusedVariables false
set_option maxRecDepth 10000

structure RV where
  H : List (List AV)
  L : List UInt8
  f : Nat
  j : Nat
structure RV.Ok (m n : Nat) (d : RV) : Prop where
  at_ : RiAt d.H 1 0 n d.f d.L
  x : RxAt d.H 2 n d.L
  lt : ltLL d.H.length d.H
  j : d.j ≤ m ∧ d.j ≤ 100
def RV.st (n : Nat) (l : List Rd) (d : RV) : St := ⟨[(0, .v (.int .i64 (n : Int))), (5, .box 1 0), (7, .box 2 0), (32, .sl 3 (enc rdC l) none .no), (33, .v (.int .i64 (l.length : Int))), (34, .v (.int .i64 (d.j : Int)))], [], d.H, []⟩
theorem putL'_len {n : Nat} {L xs : List UInt8} (h : L.length ≤ n) : (putL' n L xs).length ≤ n := by unfold putL'; split <;> (try rw [List.length_append]) <;> omega
set_option maxHeartbeats 4000000 in
theorem rilives_c (s : Int) (l : List Rd) (hl : l.length ≤ maxLen ∧ ∀ x ∈ l, OkRd x) : Contract Try.prog 5 [.v (.int .i64 s), .sl 3 (enc rdC l) none .no] [] (.v (.bool true)) [] [] := by
  refine contract_of k5 mixedRi (by simp [c5]) fun hh hargs => ?_
  by_cases hs : s < 1 ∨ 1048576 < s
  · simp [c5]
    refine xcall_self (by simp) (rinew_no [] hs) ?_
    simp
    refine xcall_self (by simp) (rxnew_no [] hs) ?_
    simp
    refine xloop_ok (D := Nat) (fun _ => ⟨[(7, .v (.pointer none)), (32, .sl 3 (enc rdC l) none .no), (33, .v (.int .i64 (l.length : Int))), (34, .v (.int .i64 (0 : Nat)))], [], [], []⟩) (fun _ => True) (fun _ => 0) 0 trivial ?_ ?_
    · simp [Leq]
    · intro _ _
      by_cases h0 : 0 < l.length
      · obtain ⟨k, hk⟩ : ∃ k, k = l[0] := ⟨_, rfl⟩
        simp [h0, ← hk, rdC]
        refine xcall_self (by simp) (riawake_c _) ?_
        simp
      · simp [h0]
        refine xcall_self (by simp) (riawake_c _) ?_
        simp
  · obtain ⟨n, rfl⟩ : ∃ n : Nat, s = (n : Int) := ⟨s.toNat, by omega⟩
    have hn1 : 1 ≤ n := by omega
    have hn2 : n ≤ 1048576 := by omega
    have kn := rinew_c [] hn1 hn2
    have at0 := newRi_at [] hn1 hn2
    have lt0 := newRi_lt (h := []) hh n
    simp only [List.length_nil, List.nil_append, Nat.zero_add] at kn at0 lt0
    have kx := rxnew_c (newRi n 0) hn1 hn2
    have hl3 : (newRi n 0).length = 2 := rfl
    rw [hl3] at kx
    obtain ⟨H0, hH0⟩ : ∃ H0, H0 = newRi n 0 ++ [[.sl 1 (bytesE []) none .no, .v (.int .i64 (n : Int))]] := ⟨_, rfl⟩
    rw [← hH0] at kx
    have x0 : RxAt H0 2 n [] := ⟨by rw [hH0]; rfl, Nat.zero_le _, hn2⟩
    have at1 : RiAt H0 1 0 n 0 [] := by rw [hH0]; exact at0.app _
    have lt1 : ltLL H0.length H0 := by
      rw [hH0]
      have := ltLL_mono (Nat.le_add_right _ 1) lt0
      rw [hl3] at this
      simp [hl3, this]
    simp [c5]
    refine xcall_self (by simp) kn ?_
    simp
    refine xcall_self (by simp) kx ?_
    simp
    refine xloop_ok (D := RV) (RV.st n l) (RV.Ok l.length n) (fun d => l.length - d.j) ⟨H0, [], 0, 0⟩ ⟨at1, x0, lt1, Nat.zero_le _, Nat.zero_le _⟩ ?_ ?_
    · simp [Leq, RV.st, lt1, at1.i_lt, x0.i_lt]
    · rintro ⟨H, L, f, j⟩ hO
      obtain ⟨hat, hx, hlt, hjl, hj100⟩ := hO
      dsimp only at hat hx hlt hjl hj100
      unfold RV.st
      dsimp only
      by_cases hjn : j < l.length
      · obtain ⟨k, hk⟩ : ∃ k, k = l[j] := ⟨_, rfl⟩
        have hkm : k ∈ l := by rw [hk]; exact List.getElem_mem hjn
        have hkok := hl.2 k hkm
        have hw : IntKind.i64.wrap ((j : Int) + 1) = (j : Int) + 1 := wrap64 (by omega) (by omega)
        have h5 : 2 < H.length := hx.i_lt
        by_cases h100 : 100 ≤ j
        · have : (100 : Int) ≤ (j : Int) := by omega
          simp [hjn, ← hk, rdC, this]
          refine xcall_self (by simp) (riawake_c _) ?_
          simp
        have h100' : ¬ (100 : Int) ≤ (j : Int) := by omega
        by_cases h500 : 500 < k.bytes.length
        · have : (500 : Int) < (k.bytes.length : Int) := by omega
          simp [hjn, ← hk, rdC, h100', this]
          refine xcall_self (by simp) (riawake_c _) ?_
          simp
        have h500' : ¬ (500 : Int) < (k.bytes.length : Int) := by omega
        have hat1 := hat.app [rdC k]
        have hx1 := hx.app [rdC k]
        have hlt1 : ltLL (H ++ [rdC k]).length (H ++ [rdC k]) := by
          have := ltLL_mono (Nat.le_add_right H.length 1) hlt
          simp [this, rdC]
        cases htk : k.take with
        | true =>
          obtain ⟨H2, f2, hc, hat2, hl2, hq2, hlt2⟩ := rtake_c hat1 k.n
          have hlt3 := hlt2 hlt1
          rw [← hl2] at hlt3
          have hx2 : RxAt H2 2 n L := hx1.move (hq2 2 (by decide) (by decide))
          have hcx := rxtake_c hx2 k.n
          obtain ⟨L2, hL2⟩ : ∃ L2, L2 = L.drop (takeN L k.n) := ⟨_, rfl⟩
          have hL2n : L2.length ≤ n := by rw [hL2]; rw [List.length_drop]; have := hat.len; omega
          rw [← hL2] at hat2 hcx
          obtain ⟨H3, hH3⟩ : ∃ H3, H3 = rxH H2 2 n L2 := ⟨_, rfl⟩
          have hx3 : RxAt H3 2 n L2 := by rw [hH3]; exact hx2.turn hL2n
          have hq3 : ∀ q, q ≠ 2 → H3[q]? = H2[q]? := fun q hq => by rw [hH3]; exact List.getElem?_set_ne (Ne.symm hq)
          have hat3 : RiAt H3 1 0 n f2 L2 := hat2.move (hq3 1 (by decide)) (hq3 0 (by decide))
          have hl3 : H3.length = H2.length := by rw [hH3, rxH_len]
          have hlt4 : ltLL H3.length H3 := by rw [hl3, hH3]; exact rxH_lt hlt3 2 n L2
          rw [← hH3] at hcx
          have hb2 : H2[H.length]? = some (rdC k) := by rw [hq2 _ (by omega) (by omega)]; simp
          have hb3 : H3[H.length]? = some (rdC k) := by rw [hq3 _ (by omega)]; exact hb2
          have hl2' : H2.length = H.length + 1 := by rw [hl2]; simp
          obtain ⟨H1, hH1⟩ : ∃ H1, H1 = H ++ [rdC k] := ⟨_, rfl⟩
          have hb1 : H1[H.length]? = some (rdC k) := by rw [hH1]; simp
          rw [← hH1] at hc hl2
          have hne : ¬ H = [] := by intro e; rw [e] at h5; cases h5
          have hne1 : ¬ H.length = 1 := by omega
          have hne2 : ¬ H.length = 2 := by omega
          have hcal := rlen_c hat3
          have hcbl := rroom_c hat3
          have htop := hx3.top
          have hw2 : IntKind.i64.wrap ((n : Int) - (L2.length : Int)) = (n : Int) - (L2.length : Int) := wrap64 (by omega) (by omega)
          obtain ⟨b, m, xs⟩ := k
          dsimp only at htk h500' hc hcx
          subst htk
          simp only [rdC] at hb1 hb2 hb3 hH1
          simp [hjn, ← hk, rdC, h100', h500']
          rw [← hH1]
          refine xcall_self (by simp) hc ?_
          simp [hne, hne1, hne2, hb2]
          refine xcall_of hcx (by simp) (by simp) ?_
          simp [hne2, hb3]
          refine xcall_of (equalR_c (L.take (takeN L m)) (L.take (takeN L m)) _) (by simp) (by simp) ?_
          simp [htop]
          refine xcall_self (by simp) hcal ?_
          simp [htop, hw2]
          refine xcall_self (by simp) hcbl ?_
          simp [hw]
          refine ⟨⟨H3, L2, f2, j + 1⟩, ⟨hat3, hx3, hlt4, by show j + 1 ≤ l.length; omega, by show j + 1 ≤ 100; omega⟩, by show l.length - (j + 1) < l.length - j; omega, ?_⟩
          simp [Leq, hlt4, hat3.i_lt, hx3.i_lt]
        | false =>
          obtain ⟨H2, f2, hc, hat2, hl2, hq2, hlt2⟩ := rput_ hat1 k.bytes hkok.2.2
          have hlt3 := hlt2 hlt1
          rw [← hl2] at hlt3
          have hx2 : RxAt H2 2 n L := hx1.move (hq2 2 (by decide) (by decide))
          have hcx := rxput_c hx2 k.bytes (by omega)
          obtain ⟨L2, hL2⟩ : ∃ L2, L2 = putL' n L k.bytes := ⟨_, rfl⟩
          have hL2n : L2.length ≤ n := by rw [hL2]; exact putL'_len hat.len
          rw [← hL2] at hat2 hcx
          obtain ⟨H3, hH3⟩ : ∃ H3, H3 = rxH H2 2 n L2 := ⟨_, rfl⟩
          have hx3 : RxAt H3 2 n L2 := by rw [hH3]; exact hx2.turn hL2n
          have hq3 : ∀ q, q ≠ 2 → H3[q]? = H2[q]? := fun q hq => by rw [hH3]; exact List.getElem?_set_ne (Ne.symm hq)
          have hat3 : RiAt H3 1 0 n f2 L2 := hat2.move (hq3 1 (by decide)) (hq3 0 (by decide))
          have hl3 : H3.length = H2.length := by rw [hH3, rxH_len]
          have hlt4 : ltLL H3.length H3 := by rw [hl3, hH3]; exact rxH_lt hlt3 2 n L2
          rw [← hH3] at hcx
          have hb2 : H2[H.length]? = some (rdC k) := by rw [hq2 _ (by omega) (by omega)]; simp
          have hb3 : H3[H.length]? = some (rdC k) := by rw [hq3 _ (by omega)]; exact hb2
          have hl2' : H2.length = H.length + 1 := by rw [hl2]; simp
          obtain ⟨H1, hH1⟩ : ∃ H1, H1 = H ++ [rdC k] := ⟨_, rfl⟩
          have hb1 : H1[H.length]? = some (rdC k) := by rw [hH1]; simp
          rw [← hH1] at hc hl2
          have hne : ¬ H = [] := by intro e; rw [e] at h5; cases h5
          have hne1 : ¬ H.length = 1 := by omega
          have hne2 : ¬ H.length = 2 := by omega
          have hcal := rlen_c hat3
          have hcbl := rroom_c hat3
          have htop := hx3.top
          have hw2 : IntKind.i64.wrap ((n : Int) - (L2.length : Int)) = (n : Int) - (L2.length : Int) := wrap64 (by omega) (by omega)
          obtain ⟨b, m, xs⟩ := k
          dsimp only at htk h500' hc hcx
          subst htk
          simp only [rdC] at hb1 hb2 hb3 hH1
          simp [hjn, ← hk, rdC, h100', h500']
          rw [← hH1]
          refine xcall_self (by simp) hc ?_
          simp [hne, hne1, hne2, hb2]
          refine xcall_self (by simp) hcx ?_
          simp [hne2, hb3, htop]
          refine xcall_self (by simp) hcal ?_
          simp [htop, hw2]
          refine xcall_self (by simp) hcbl ?_
          simp [hw]
          refine ⟨⟨H3, L2, f2, j + 1⟩, ⟨hat3, hx3, hlt4, by show j + 1 ≤ l.length; omega, by show j + 1 ≤ 100; omega⟩, by show l.length - (j + 1) < l.length - j; omega, ?_⟩
          simp [Leq, hlt4, hat3.i_lt, hx3.i_lt]
      · have hjl2 : j = l.length := by omega
        subst hjl2
        simp
        refine xcall_self (by simp) (riawake_c _) ?_
        simp
end Go.Proofs.Ytplbobfbdlapcaa.Ax
namespace Go.Proofs.Ytplbobfbdlapcaa.ringLives
open Go.ChangeShapes Go.WideShapes Go.ChangeAt Go.RowKit
open Go.ChangeMaps (open_string shut_string)
set_option linter.unusedVariables false

theorem own : ownKnob Try.prog.godebug = none := by kernel_rfl
theorem laidOut : laidOutB Try.prog = true := by kernel_rfl

set_option maxRecDepth 100000 in
theorem lifted (os : Os) (started : os.Started) (H : Type) (enc : TypeId × Value → H) :
    ReturnsInHanded {} Try.checked os 5 .any (Rows.ringLivesSpec.pre6 enc Try.prog Try.f5 Rows.ringLivesRow.domain false) (Rows.ringLivesSpec.post enc Try.prog Try.f5 false true false false) := by
  refine returnsInHanded_of_change (C := Try.checked) own started (by kernel_rfl) Try.func5
    (ChangeSpec.witness6 (enc := enc) (C := Try.checked) false ⟨#[], #[.int .i64 0, .slice none 0 0], []⟩ 8 (by kernel_rfl) (by kernel_rfl) (by kernel_rfl) (by kernel_rfl)) ?_
  intro W base args ds gs before hval0 hW hcnd _
  have hval : ∀ (j : Nat) t v, Try.f5.params[j]? = some t → args[j]? = some v → Value.okWide Try.prog W .any base t v := hval0
  have hW' := hW
  obtain ⟨p, q, hA0, hV, rfl, hfz, hnd⟩ := hW
  have hA : DataW.TrodAll enc Try.prog W 0 (fun _ => true) true Try.f5.params.toList args.toList ds p := hA0
  rw [Try.params5] at hA hval
  obtain ⟨v0, vs0, d0, ds0, p0, q0, hargs, rfl, rfl, h0, r0⟩ := trodAll_cons hA
  obtain ⟨v1, vs1, d1, ds1, p1, q1, rfl, rfl, rfl, h1, r1⟩ := trodAll_cons r0
  obtain ⟨rfl, rfl, rfl⟩ := trodAll_nil r1
  obtain rfl : args = #[v0, v1] := by cases args; simp_all
  obtain ⟨rfl, rfl⟩ := trodVars_none hV
  have k0 := h0
  have lt0 : ∀ x ∈ p0, x.block < W.heap.size := by obtain ⟨m, hm⟩ := k0; exact DataW.trod_lt m _ _ _ hm
  obtain ⟨a0, ok0, s0⟩ := Ax.arg_int Try.underlying3 (hval 0 3 v0 rfl rfl) h0
  have k1 := h1
  have lt1 : ∀ x ∈ p1, x.block < W.heap.size := by obtain ⟨m, hm⟩ := k1; exact DataW.trod_lt m _ _ _ hm
  obtain ⟨a1, ok1, s1⟩ := Ax.arg_slice Try.underlying33 Ax.sh_rdCL (hval 1 33 v1 rfl rfl) h1
  clear hA0 hval0
  refine (Ax.law_walk (w := W) (Ax.dom_any W) (Ax.rilives_c a0 a1 ok1) (by simp) (.cons s0 (.cons s1 .nil))).mono fun e W' ⟨he, bel⟩ => ?_
  subst he
  exact ⟨_, rfl, _, _, _, [], _, [], hW', trodAll_mk1 (shut_bool Try.underlying4 _), (trodAll_cons_mk (Below.trod laidOut (by kernel_rfl) (of_decide_eq_true (by kernel_rfl)) k0 bel lt0) (trodAll_cons_mk (Below.trod laidOut (by kernel_rfl) (of_decide_eq_true (by kernel_rfl)) k1 bel lt1) trodAll_mk0)), rfl, bel.frame _, fun h => by cases h⟩

theorem over : Rows.ringLivesRow.holds Try.pinned (OpenSpec.ofChange Rows.ringLivesSpec) :=
  OpenClaim.holds_of_wide 5 Try.f5 rfl rfl rfl rfl rfl rfl rfl ⟨rfl, rfl, rfl, rfl, rfl⟩ rfl rfl rfl rfl rfl (by kernel_rfl) Try.func5 (by kernel_rfl)
    (of_decide_eq_true (by kernel_rfl)) (by unfold Func.isWrapper; first | (rw [if_pos (by decide +kernel)]; kernel_rfl) | (rw [if_neg (by decide +kernel)]; exact ⟨rfl, rfl⟩))
    (fun os started H enc _ => lifted os started H enc)

theorem proved : Rows.RingLivesSaid := over
#print axioms proved
end Go.Proofs.Ytplbobfbdlapcaa.ringLives
