/- The walk of HelloParses. -/
import Derived.Test.YtngmfgdoopkkdaaHelM
import Derived.Test.YtngmfgdoopkkdaaHelL
import Derived.Test.YtngmfgdoopkkdaaHelG
import Derived.Deep.RegionHeld3
namespace Go.Proofs.Ytngmfgdoopkkdaa.He
set_option maxRecDepth 100000
open Go.RowKit Go By Nm Sc

/-- The ordinary message of the check. -/
def aHm : Hm := (196608, 0, 0, [(userText, [97])])
theorem a_may : mayB aHm = true := by decide
theorem a_len : (buildB aHm).length = 12 := by decide

/-- What stands behind Parse of bytes whose message is known. -/
theorem parse_is (B : Nat) (a : Option Addr) (cap : Nat) (xs : List UInt8) (l : List Pr) (s : Sta) (m : Hm) (er : Int) (n : Nat) (w : World) (h : BytesAt w B a xs) (hB : B ≤ w.heap.size) (hc : a = none → cap = 0) (hl : xs.length ≤ 100000)
    (hP : Prs (numS (some xs) 4) l s) (hm : helloR (numV (some xs) 4) (numS (some xs) 4) l s = (m, er)) (hn : xs.length = n) :
    Calls Try.prog 10 #[.slice a n cap] w (Answered (m, er) w) := by
  rw [← hm, ← hn]
  exact hparse_any B a cap xs l s w h hB hc hl hP
theorem rparse_is (B : Nat) (a : Option Addr) (cap : Nat) (xs : List UInt8) (l : List Pr) (s : Sta) (m : Hm) (er : Int) (n : Nat) (w : World) (h : BytesAt w B a xs) (hB : B ≤ w.heap.size) (hc : a = none → cap = 0) (hl : xs.length ≤ 100000)
    (hP : Prs (numS (some xs) 4) l s) (hm : helloR (numV (some xs) 4) (numS (some xs) 4) l s = (m, er)) (hn : xs.length = n) :
    Calls Try.prog 11 #[.slice a n cap] w (Answered (m, er) w) := by
  rw [← hm, ← hn]
  exact rhparse_any B a cap xs l s w h hB hc hl hP

set_option maxHeartbeats 2000000 in
theorem hawake_any (w : World) : Calls Try.prog 9 #[] w fun e w' => e = .returned (.bool true) ∧ Below w.heap.size w w' := by
  have HE : Hid (Elems (w.alloc (.cells #[.string (strB userText), .string (strB [97])] 55)) (w.heap.size + 1) (some ⟨w.heap.size, 0, none⟩) 2 (prE [(userText, [97])])) :=
    Lib.hid (elems_lit (E := 55) (w := w) [.string (strB userText), .string (strB [97])] (Nat.lt_succ_self _))
  have HS : Hid (Below w.heap.size w (w.alloc (.cells #[.string (strB userText), .string (strB [97])] 55))) := Lib.hid ((Below.refl _ _).alloc (Nat.le_refl _) _)
  obtain ⟨l, s, hP, hR⟩ := read_build a_may
  have HP := Lib.hid hP
  have HR := Lib.hid hR
  clear hP hR
  go_enter Try.func9, Try.ntmps9
  go_wp2_with fail
  refine (show Calls _ _ _ _ (Built aHm _) from hbuild_any 196608 0 0 (w.heap.size + 1) (some ⟨w.heap.size, 0, none⟩) 1 1 [(userText, [97])] _ HE.out (by simp) rfl (by omega) (by decide)).mono ?_
  rintro e w2 ⟨a2, k2, er, l2, rfl, hy, _, hx2, hn2, _, _, hb2⟩
  obtain ⟨rfl, rfl⟩ := hy a_may
  have HX2 := Lib.hid hx2
  have HN2 := Lib.hid hn2
  have HB2 := Lib.hid (HS.out.trans (hb2.mono (by simp)))
  rw [a_len]
  clear hy hx2 hn2 hb2
  go_wp2_with fail
  refine (parse_is w2.heap.size a2 k2 (buildB aHm) l s aHm 0 12 w2 HX2.out (Nat.le_refl _) HN2.out (by rw [a_len]; omega) HP.out HR.out a_len).mono ?_
  rintro e w3 ⟨a3, k3, rfl, hE3, hb3⟩
  have HE3 := Lib.hid hE3
  have HB3 := Lib.hid (HB2.out.trans (hb3.mono HB2.out.size))
  clear hE3 hb3
  have hu : strB (userL aHm.2.2.2) = ⟨#[97]⟩ := rfl
  have hl : (aHm.2.2.2).length = 1 := rfl
  go_wp2_with fail
  refine (huser_any aHm.1 aHm.2.1 aHm.2.2.1 w3.heap.size a3 _ k3 aHm.2.2.2 _ (HE3.out.below ((Below.refl _ _).alloc (Nat.le_refl _) _)) (by simp) rfl (by rw [hl]; omega)).mono ?_
  rintro e w4 ⟨rfl, hb4⟩
  rw [hu]
  have HB4 := Lib.hid ((HB3.out.alloc HB3.out.size _).trans (hb4.mono (by have := HB3.out.size; simp; omega)))
  clear hb4
  go_wp2
  go_ret
  exact ⟨rfl, HB4.out⟩

/-- Two first messages in memory, the same but for where their pairs lie. -/
def Two8 (b1 b2 : Nat) (c p q : Int) (v1 v2 : Value) (W : World) : Prop :=
  W.cell? ⟨b1, 0, none⟩ = some (.int .i64 c) ∧ W.cell? ⟨b1, 1, none⟩ = some (.int .i64 p) ∧ W.cell? ⟨b1, 2, none⟩ = some (.int .i64 q) ∧ W.cell? ⟨b1, 3, none⟩ = some v1 ∧
  W.cell? ⟨b2, 0, none⟩ = some (.int .i64 c) ∧ W.cell? ⟨b2, 1, none⟩ = some (.int .i64 p) ∧ W.cell? ⟨b2, 2, none⟩ = some (.int .i64 q) ∧ W.cell? ⟨b2, 3, none⟩ = some v2
theorem Two8.below {b1 b2 : Nat} {c p q : Int} {v1 v2 : Value} {W W' : World} {B : Nat} (h : Two8 b1 b2 c p q v1 v2 W) (hb : Below B W W') (h1 : b1 < B) (h2 : b2 < B) : Two8 b1 b2 c p q v1 v2 W' := by
  obtain ⟨k0, k1, k2, k3, k4, k5, k6, k7⟩ := h
  exact ⟨(hb.cell h1).trans k0, (hb.cell h1).trans k1, (hb.cell h1).trans k2, (hb.cell h1).trans k3, (hb.cell h2).trans k4, (hb.cell h2).trans k5, (hb.cell h2).trans k6, (hb.cell h2).trans k7⟩

set_option maxHeartbeats 4000000 in
theorem helloParses_walk (a0 : Option Addr) (len0 cap0 : Nat) (z0 : List Int) (w : World) (w0 : Row w a0 len0 cap0 z0) :
    Calls Try.prog 3 #[.slice a0 len0 cap0] w fun e w' => e = .returned (.bool true) ∧ Below w.heap.size w w' := by
  obtain ⟨xs, rfl, hx, hxn, _, _⟩ := w0.bytes
  have HX := Lib.hid hx
  have HXN := Lib.hid hxn
  clear hx hxn w0
  by_cases hlen : (2000 : Int) < xs.length
  · go_enter Try.func3, Try.ntmps3
    go_wp2_with (go_at_call 9; refine (hawake_any _).mono ?_; rintro e w' ⟨rfl, hb⟩)
    go_ret
    exact ⟨rfl, hb⟩
  · have HLen : Hid (xs.length ≤ 2000) := Lib.hid (by omega)
    obtain ⟨l, s, hP⟩ := Prs.total (numS (some xs) 4)
    have HP := Lib.hid hP
    obtain ⟨⟨⟨c, p, q, ps⟩, er⟩, hm⟩ : ∃ r, helloR (numV (some xs) 4) (numS (some xs) 4) l s = r := ⟨_, rfl⟩
    have HM := Lib.hid hm
    have hpl : ps.length ≤ 2000 := by
      have h1 := hP.len
      have h2 := lenS_num xs 4
      have h3 : ps = l ∨ ps = [] := by
        have hm' := hm
        generalize numS (some xs) 4 = st at hm'
        cases st with
        | none => injection hm' with hm' _; exact .inr (by simp [noHm] at hm'; exact hm'.2.2.2)
        | some r =>
          simp only [helloR] at hm'
          repeat' split at hm'
          all_goals (injection hm' with h4 _; simp [noHm] at h4; first | exact .inl h4.2.2.2.symm | exact .inr h4.2.2.2.symm | exact .inr h4.2.2.2)
      rcases h3 with h3 | h3
      · rw [h3]; omega
      · rw [h3]; simp
    have HPl := Lib.hid hpl
    obtain ⟨len, HL⟩ : ∃ n, Hid (xs.length = n) := ⟨_, rfl⟩
    obtain ⟨n, HN⟩ : ∃ n, Hid (ps.length = n) := ⟨_, rfl⟩
    rw [HL.out] at hlen ⊢
    have hn2 : n ≤ 2000 := by rw [← HN.out]; exact hpl
    clear hP hm hpl
    go_enter Try.func3, Try.ntmps3
    go_wp2_with fail
    refine (parse_is w.heap.size a0 cap0 xs l s (c, p, q, ps) er len w HX.out (Nat.le_refl _) HXN.out (by have := HLen.out; omega) HP.out HM.out HL.out).mono ?_
    rintro e w3 ⟨a3, k3, rfl, hE3, hb3⟩
    rw [show ((c, p, q, ps), er).1.2.2.2.length = n from HN.out]
    have HE3 := Lib.hid hE3
    have HB3 : Hid (Below w.heap.size w (w3.alloc (.cells #[.int .i64 c, .int .i64 p, .int .i64 q, .slice a3 n k3] 26))) := Lib.hid (hb3.alloc hb3.size _)
    have HK3 := Lib.hid (Blk.new w3 26 [.int .i64 c, .int .i64 p, .int .i64 q, .slice a3 n k3])
    clear hE3 hb3
    go_wp2_with fail
    refine (rparse_is w.heap.size a0 cap0 xs l s (c, p, q, ps) er len _ (HX.out.below HB3.out) HB3.out.size HXN.out (by have := HLen.out; omega) HP.out HM.out HL.out).mono ?_
    rintro e w5 ⟨a5, k5, rfl, hE5, hb5⟩
    rw [show ((c, p, q, ps), er).1.2.2.2.length = n from HN.out]
    have HE5 := Lib.hid hE5
    have hz5 : w3.heap.size + 1 ≤ w5.heap.size := by have := hb5.size; simpa using this
    have HE3' : Hid (Elems w5 w3.heap.size a3 2 (prE ps)) := Lib.hid ((HE3.out.below ((Below.refl _ w3).alloc (Nat.le_refl _) _)).below (hb5.mono (by simp)))
    have HB5 : Hid (Below w.heap.size w (w5.alloc (.cells #[.int .i64 c, .int .i64 p, .int .i64 q, .slice a5 n k5] 26))) := Lib.hid ((HB3.out.trans (hb5.mono HB3.out.size)).alloc (Nat.le_trans HB3.out.size hb5.size) _)
    have HT : Hid (Two8 w3.heap.size w5.heap.size c p q (.slice a3 n k3) (.slice a5 n k5) (w5.alloc (.cells #[.int .i64 c, .int .i64 p, .int .i64 q, .slice a5 n k5] 26))) := Lib.hid (by
      have h1 := (HK3.out.keep (hb5.block _ (by simp))).alloc (.cells #[.int .i64 c, .int .i64 p, .int .i64 q, .slice a5 n k5] 26)
      have h2 := Blk.new w5 26 [.int .i64 c, .int .i64 p, .int .i64 q, .slice a5 n k5]
      exact ⟨h1.cell 0 _ rfl, h1.cell 1 _ rfl, h1.cell 2 _ rfl, h1.cell 3 _ rfl, h2.cell 0 _ rfl, h2.cell 1 _ rfl, h2.cell 2 _ rfl, h2.cell 3 _ rfl⟩)
    clear hE5 hb5
    go_wp2_with fail
    obtain ⟨q0, q1, q2, q3, q4, q5, q6, q7⟩ := HT.out
    generalize hW : w5.alloc _ = W5 at *
    have HZ : Hid (w5.heap.size + 1 = W5.heap.size) := Lib.hid (by rw [← hW]; simp)
    have HEa : Hid (Elems W5 w3.heap.size a3 2 (prE ps)) := Lib.hid (by rw [← hW]; exact HE3'.out.below ((Below.refl _ w5).alloc (by omega) _))
    have HEb : Hid (Elems W5 w5.heap.size a5 2 (prE ps)) := Lib.hid (by rw [← hW]; exact HE5.out.below ((Below.refl _ w5).alloc (Nat.le_refl _) _))
    clear hW
    go_region_held3 (fun W => W.cell? ⟨w3.heap.size, 0, none⟩ = some (.int .i64 c) ∧ W.cell? ⟨w3.heap.size, 1, none⟩ = some (.int .i64 p) ∧ W.cell? ⟨w3.heap.size, 2, none⟩ = some (.int .i64 q) ∧ W.cell? ⟨w3.heap.size, 3, none⟩ = some (.slice a3 n k3) ∧ W.cell? ⟨w5.heap.size, 0, none⟩ = some (.int .i64 c) ∧ W.cell? ⟨w5.heap.size, 1, none⟩ = some (.int .i64 p) ∧ W.cell? ⟨w5.heap.size, 2, none⟩ = some (.int .i64 q) ∧ W.cell? ⟨w5.heap.size, 3, none⟩ = some (.slice a5 n k5))
      (first
        | exact HT.out
        | exact T6.out
        | exact T7.out
        | exact T8.out
        | exact T9.out)
      (first
        | (go_at_call 12; refine (rsame_yes c p q w5.heap.size a3 a5 n k3 k5 ps W5.drew (elems_more HEa.out (by omega)) HEb.out (by have := HZ.out; simp; omega) HN.out (by omega)).mono ?_; rintro e w6 ⟨rfl, hb⟩; have hb6 : Below W5.heap.size W5 w6 := ⟨hb.os, hb.tape, hb.output, hb.size, hb.block⟩; have T6 := Lib.hid (Two8.below HT.out hb6 (by have := HZ.out; omega) (by have := HZ.out; omega)); have B6 := Lib.hid (HB5.out.trans (hb6.mono HB5.out.size)); have E6 := Lib.hid (And.intro (HEa.out.below (hb6.mono (by have := HZ.out; omega))) (HEb.out.below (hb6.mono (by have := HZ.out; omega)))); have Z6 : Hid (w5.heap.size + 1 ≤ w6.heap.size) := Lib.hid (by have := HZ.out; have := hb6.size; omega); clear hb hb6)
        | (go_at_call 13; refine (huser_any c p q w3.heap.size a3 n k3 ps w6 E6.out.1 (by have := Z6.out; omega) HN.out (by omega)).mono ?_; rintro e w7 ⟨rfl, hb7⟩; have T7 := Lib.hid (Two8.below T6.out hb7 (by have := Z6.out; omega) (by have := Z6.out; omega)); have B7 := Lib.hid (B6.out.trans (hb7.mono B6.out.size)); have E7 := Lib.hid (E6.out.2.below (hb7.mono (by have := Z6.out; omega))); have Z7 : Hid (w5.heap.size + 1 ≤ w7.heap.size) := Lib.hid (Nat.le_trans Z6.out hb7.size); clear hb7)
        | (go_at_call 14; refine (ruser_any c p q w5.heap.size a5 n k5 ps w7 E7.out (by have := Z7.out; omega) HN.out (by omega)).mono ?_; rintro e w8 ⟨rfl, hb8⟩; have T8 := Lib.hid (Two8.below T7.out hb8 (by have := Z7.out; omega) (by have := Z7.out; omega)); have B8 := Lib.hid (B7.out.trans (hb8.mono B7.out.size)); clear hb8)
        | (go_at_call 9; refine (hawake_any w8).mono ?_; rintro e w9 ⟨rfl, hb9⟩; have T9 : Hid (Two8 w3.heap.size w5.heap.size c p q (.slice a3 n k3) (.slice a5 n k5) w9) := Lib.hid (Two8.below T8.out hb9 (by have := T8.out; exact lt_of_cell this.1) (by have := T8.out; exact lt_of_cell this.2.2.2.2.1)); have B9 := Lib.hid (B8.out.trans (hb9.mono B8.out.size)); clear hb9))
    go_wp2
    go_ret
    exact ⟨rfl, B9.out⟩
end Go.Proofs.Ytngmfgdoopkkdaa.He
