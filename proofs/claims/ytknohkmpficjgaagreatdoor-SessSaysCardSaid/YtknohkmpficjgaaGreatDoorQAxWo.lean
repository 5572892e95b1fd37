import Derived.Test.YtknohkmpficjgaaGreatDoorQAxCy
set_option linter.unusedSimpArgs false
set_option linter.unusedVariables false
open List renaming not_any_eq_all_not -> Q7, flatMap_append -> Q8, length_append -> Q9
namespace Go.Proofs.YtknohkmpficjgaaGreatDoor.Ax
open Go.RowKit Go By YtknohkmpficjgaaGreatDoor.Nm Sc Dg
set_option maxRecDepth 10000
theorem Di (xs ys : List UInt8) (h : List (List AV)) : ae Tryz.prog 120 [.sl 1 (ak xs) none .no, .sl 1 (ak ys) none .no] h (.v (.bool (xs == ys))) h [] := by
 refine ac OA mixed (by simp [FV]) fun hh hargs => ?_
 simp [FV, hh]
theorem zT (s : List UInt8) (h : List (List AV)) : ae Tryz.prog 62 [.v (.string (ah s))] h (.v (.bool (!aA s))) h [] := by
 refine ac QR mixed (by simp [NH]) fun hh hargs => ?_
 simp [NH]
 refine aa (by simp) (Db s h) ?_
 simp [hh]
theorem pC (l : List (List UInt8)) (hl : l.length <= 140737488355328) (h : List (List AV)) : ae Tryz.prog 31 [.sl 1 (al gh l) none .no] h (.v (.bool (l.all aA))) h [] := by
 refine ac Qw mixed (by simp [Nw]) fun hh hargs => ?_
 simp [Nw]
 refine aa (by simp) (ga mixed QQ Ox (fun s => .v (.string (ah s))) (fun s => !aA s) l [] h (by simp) (by simp) (by simp) (fun s _ => zT s h) hl) ?_
 simp [hh, Q7]
def dl (size n : Int) : Bool := !decide (n < 0) && bp n size
theorem Et (size n : Int) (i : Nat) (h : List (List AV)) (hi : h[i]? = some [.v (.int .i64 size)]) : ae Tryz.prog 65 [.v (.int .i64 n), .box i 0] h (.v (.bool (!dl size n))) h [] := by
 refine ac QS mixed (by simp [Mf]) fun hh hargs => ?_
 by_cases hn : n < 0
 ·simp [Mf, hn, hh, dl]
 ·simp [Mf, hn, hi]
  refine aa (by simp) (xH n size h) ?_
  simp [hh, dl, hn]
theorem sK (size : Int) (l : List Int) (hl : l.length <= 140737488355328) (h : List (List AV)) : ae Tryz.prog 32 [.v (.int .i64 size), .sl 1 (al aN l) none .no] h (.v (.bool (l.all (dl size)))) h [] := by
 refine ac Qx mixed (by simp [Nx]) fun hh hargs => ?_
 simp [Nx]
 refine aa (by simp) (ga mixed P0 KR (fun n => .v (.int .i64 n)) (fun n => !dl size n) l [.box h.length 0] _ (by simp) (by simp) (by simp) (fun n _ => Et size n _ _ (by simp)) hl) ?_
 simp [hh, Q7]
def uy (size n : Int) : Bool := bp n size && dj n size == n
theorem Es (size n : Int) (i : Nat) (h : List (List AV)) (hi : h[i]? = some [.v (.int .i64 size)]) : ae Tryz.prog 165 [.v (.int .i64 n), .box i 0] h (.v (.bool (!uy size n))) h [] := by
 refine ac OZ mixed (by simp [Gf]) fun hh hargs => ?_
 simp [Gf, hi]
 refine aa (by simp) (xH n size h) ?_
 cases hr : bp n size with
 | false => simp [hh, uy, hr]
 | true =>
  simp [hi]
  refine aa (by simp) (BY n size h) ?_
  simp [hh, uy, hr]
  rfl
theorem Ct (size : Int) (l : List Int) (hl : l.length <= 140737488355328) (h : List (List AV)) : ae Tryz.prog 111 [.v (.int .i64 size), .sl 1 (al aN l) none .no] h (.v (.bool (l.all (uy size)))) h [] := by
 refine ac Ov mixed (by simp [FU]) fun hh hargs => ?_
 simp [FU]
 refine aa (by simp) (ga mixed P0 KR (fun n => .v (.int .i64 n)) (fun n => !uy size n) l [.box h.length 0] _ (by simp) (by simp) (by simp) (fun n _ => Es size n _ _ (by simp)) hl) ?_
 simp [hh, Q7]
def bE (c : Cl) : Bool := decide (c.2.length <= 1048576) && !(c.1 && decide (0 < c.2.length))
theorem Cq (c : Cl) (hc : c.2.length <= 140737488355328) (h : List (List AV)) : ae Tryz.prog 109 [.agg (aq c)] h (.v (.bool (!bE c))) h [] := by
 refine ac Ot mixed (by simp [An]) fun hh hargs => ?_
 obtain ⟨n, b⟩ := c
 by_cases hb : (1048576 : Int) < b.length
 ·have hb' : ¬ b.length <= 1048576 := by omega
  simp [An, aq, hb, hb', hh, bE]
 ·have hb' : b.length <= 1048576 := by omega
  cases n with
  | false => simp [An, aq, hb, hb', hh, bE]
  | true =>
   simp [An, aq, hb, hb', hh, bE]
theorem Cr (l : List Cl) (hl : l.length <= 140737488355328) (hc : ∀ c ∈ l, c.2.length <= 140737488355328) (h : List (List AV)) : ae Tryz.prog 54 [.sl 2 (al aq l) none .no] h (.v (.bool (l.all bE))) h [] := by
 refine ac QJ mixed (by simp [ND]) fun hh hargs => ?_
 simp [ND]
 refine aa (by simp) (bW mixed PX P1 aq (fun c => !bE c) l [] h (by simp) (by simp) (by simp) (fun c hm => Cq c (hc c hm) h) hl) ?_
 simp [hh, Q7]
theorem Cs (a b : Cl) (h : List (List AV)) : ae Tryz.prog 119 [.agg (aq a), .agg (aq b)] h (.v (.bool (a == b))) h [] := by
 refine ac Oz mixed (by simp [CW]) fun hh hargs => ?_
 obtain ⟨n, x⟩ := a
 obtain ⟨m, y⟩ := b
 have e : ((n, x) == (m, y)) = (n == m && x == y) := rfl
 cases hnm : n == m with
 | false => simp [CW, aq, hnm, hh, e]
 | true =>
  simp [CW, aq, hnm]
  refine aa (by simp) (Di x y _) ?_
  simp [hh, e, hnm]
theorem Ep (l m : List Cl) (hl : l.length <= 140737488355328) (h : List (List AV)) : ae Tryz.prog 69 [.sl 2 (al aq l) none .no, .sl 2 (al aq m) none .no] h (.v (.bool (l == m))) h [] := by
 refine ac sQ mixed (by simp [NI]) fun hh hargs => ?_
 simp [NI]
 refine aa (by simp) (vr mixed Oy (by rfl) (· == ·) aq (by simp) (by simp) l m h (fun x y h => Cs x y h) hl) ?_
 simp [hh, gR]
theorem zU {α : Type} (e : α -> List UInt8) (l : List α) (j : Nat) : ((l.take j).flatMap e).length <= (l.flatMap e).length := by
 conv => rhs; rw [<- List.take_append_drop j l]
 rw [Q8, Q9]; omega
theorem yT {α : Type} (e : α -> List UInt8) {l : List α} {j : Nat} (hj : j < l.length) : (l.take (j + 1)).flatMap e = (l.take j).flatMap e ++ e l[j] := by
 rw [eN hj, Q8]; simp
theorem put_len (n size : Int) (h4 : size <= 4) (xs : List UInt8) : (bG xs n size).length <= xs.length + 4 := by
 unfold bG
 split
 ·simp [bo]; omega
 ·omega
theorem qA {α : Type} (e : α -> List UInt8) (l : List α) (a j : Nat) (hj : j < l.length) (N : Nat) (hN : a + (l.flatMap e).length <= N) : (l.take (j + 1)).flatMap e = (l.take j).flatMap e ++ e l[j] /\ a + (((l.take j).flatMap e).length + (e l[j]).length) <= N := by
 have h1 := yT e hj
 have h2 := zU e l (j + 1)
 rw [h1, Q9] at h2
 exact ⟨h1, by omega⟩
def em (l : List (List UInt8)) : List UInt8 := l.flatMap He.encT
def co {α : Type} (e : α -> List UInt8) (l : List α) : List UInt8 := bG [] l.length 2 ++ l.flatMap e
def dq (size : Int) (n : Int) : List UInt8 := bG [] n size
def dd (c : Cl) : List UInt8 := if c.1 = true then bG [] 4294967295 4 else bG [] c.2.length 4 ++ c.2
theorem nv (b : List UInt8) : dd (true, b) = bG [] 4294967295 4 := if_pos rfl
theorem ml (b : List UInt8) : dd (false, b) = bG [] b.length 4 ++ b := if_neg (by simp)
end Go.Proofs.YtknohkmpficjgaaGreatDoor.Ax
