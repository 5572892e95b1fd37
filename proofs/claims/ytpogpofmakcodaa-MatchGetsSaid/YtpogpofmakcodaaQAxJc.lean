/- Entries that are the same, by the document's answer for layer 21, over values without memory. -/
import Derived.Test.YtpogpofmakcodaaQAxX
import Derived.Test.YtpogpofmakcodaaRows
import Derived.Test.YtpogpofmakcodaaQAxTz
import Derived.Test.YtpogpofmakcodaaQAxBa
/- The texts of functions over values without memory, as the kernel reckons them out of the program. -/
namespace Go.Proofs.Ytpogpofmakcodaa.Ax
open Go.RowKit Go By

def c20 : XFun := ⟨27, (.seq (.ops [⟨(some 4), (.assign (.const (.bool false))), none⟩]) (.seq (.seq (.ops [⟨(some 6), (.move (.tmp 0)), none⟩, ⟨(some 7), (.lenL (.tmp 6)), none⟩, ⟨(some 8), (.move (.tmp 1)), none⟩, ⟨(some 9), (.lenL (.tmp 8)), none⟩, ⟨(some 10), (.bin .neq (.tmp 7) (.tmp 9)), none⟩]) (.cond (.tmp 10) (.seq (.ops [⟨(some 4), (.assign (.const (.bool false))), none⟩]) .ret) .skip)) (.seq (.seq (.ops [⟨(some 5), (.assign (.const (.int .i64 0))), none⟩]) (.block 0 (.loop (.seq (.seq (.ops [⟨(some 11), (.move (.tmp 5)), none⟩, ⟨(some 12), (.move (.tmp 0)), none⟩, ⟨(some 13), (.lenL (.tmp 12)), none⟩, ⟨(some 14), (.bin .lss (.tmp 11) (.tmp 13)), none⟩]) (.cond (.tmp 14) .skip (.exit 0))) (.seq (.block 1 (.seq (.draws (.take ⟨(some 17), (.move (.tmp 0)), none⟩ (.take ⟨(some 18), (.move (.tmp 5)), none⟩ (.take ⟨(some 19), (.iaddr 8 (.tmp 17) (.tmp 18)), none⟩ (.take ⟨(some 20), (.loadN 8 (.tmp 19)), none⟩ (.take ⟨(some 21), (.move (.tmp 1)), none⟩ (.take ⟨(some 22), (.move (.tmp 5)), none⟩ (.take ⟨(some 23), (.iaddr 8 (.tmp 21) (.tmp 22)), none⟩ (.take ⟨(some 24), (.loadN 8 (.tmp 23)), none⟩ (.only ⟨(some 25), (.call 29 [(.tmp 20), (.tmp 24)]), none⟩ (.take ⟨(some 26), (.un .not (.tmp 25)), none⟩ .done))))))))))) (.cond (.tmp 26) (.seq (.ops [⟨(some 4), (.assign (.const (.bool false))), none⟩]) .ret) .skip))) (.ops [⟨(some 15), (.move (.tmp 5)), none⟩, ⟨(some 16), (.bin .add (.tmp 15) (.const (.int .i64 1))), none⟩, ⟨(some 5), (.assign (.tmp 16)), none⟩])))))) (.seq (.ops [⟨(some 4), (.assign (.const (.bool true))), none⟩]) .ret)))), [(.move (.tmp 4))]⟩
theorem k20 : cfun Try.prog 20 = some c20 := by kernel_rfl
def c29 : XFun := ⟨80, (.seq (.ops [⟨(some 2), (.box (.tmp 0)), none⟩, ⟨(some 3), (.box (.tmp 1)), none⟩, ⟨(some 4), (.assign (.const (.bool false))), none⟩]) (.seq (.seq (.ops [⟨(some 6), (.faddr 0 (.tmp 2)), none⟩, ⟨(some 7), (.load1 (.tmp 6)), none⟩, ⟨(some 8), (.faddr 0 (.tmp 3)), none⟩, ⟨(some 9), (.load1 (.tmp 8)), none⟩, ⟨(some 10), (.bin .neq (.tmp 7) (.tmp 9)), none⟩, ⟨(some 11), (.move (.tmp 10)), none⟩, ⟨(some 12), (.faddr 1 (.tmp 2)), (some (11, false))⟩, ⟨(some 13), (.load1 (.tmp 12)), (some (11, false))⟩, ⟨(some 14), (.faddr 1 (.tmp 3)), (some (11, false))⟩, ⟨(some 15), (.load1 (.tmp 14)), (some (11, false))⟩, ⟨(some 16), (.beq true (.tmp 13) (.tmp 15)), (some (11, false))⟩, ⟨(some 17), (.pick (.tmp 11) (.const (.bool true)) (.tmp 16)), none⟩, ⟨(some 18), (.move (.tmp 17)), none⟩, ⟨(some 19), (.faddr 2 (.tmp 2)), (some (18, false))⟩, ⟨(some 20), (.load1 (.tmp 19)), (some (18, false))⟩, ⟨(some 21), (.faddr 2 (.tmp 3)), (some (18, false))⟩, ⟨(some 22), (.load1 (.tmp 21)), (some (18, false))⟩, ⟨(some 23), (.bin .neq (.tmp 20) (.tmp 22)), (some (18, false))⟩, ⟨(some 24), (.pick (.tmp 18) (.const (.bool true)) (.tmp 23)), none⟩, ⟨(some 25), (.move (.tmp 24)), none⟩, ⟨(some 26), (.faddr 3 (.tmp 2)), (some (25, false))⟩, ⟨(some 27), (.load1 (.tmp 26)), (some (25, false))⟩, ⟨(some 28), (.faddr 3 (.tmp 3)), (some (25, false))⟩, ⟨(some 29), (.load1 (.tmp 28)), (some (25, false))⟩, ⟨(some 30), (.bin .neq (.tmp 27) (.tmp 29)), (some (25, false))⟩, ⟨(some 31), (.pick (.tmp 25) (.const (.bool true)) (.tmp 30)), none⟩, ⟨(some 32), (.move (.tmp 31)), none⟩, ⟨(some 33), (.faddr 7 (.tmp 2)), (some (32, false))⟩, ⟨(some 34), (.load1 (.tmp 33)), (some (32, false))⟩, ⟨(some 35), (.b2s (.tmp 34)), (some (32, false))⟩, ⟨(some 36), (.faddr 7 (.tmp 3)), (some (32, false))⟩, ⟨(some 37), (.load1 (.tmp 36)), (some (32, false))⟩, ⟨(some 38), (.b2s (.tmp 37)), (some (32, false))⟩, ⟨(some 39), (.bin .neq (.tmp 35) (.tmp 38)), (some (32, false))⟩, ⟨(some 40), (.pick (.tmp 32) (.const (.bool true)) (.tmp 39)), none⟩, ⟨(some 41), (.move (.tmp 40)), none⟩, ⟨(some 42), (.faddr 6 (.tmp 2)), (some (41, false))⟩, ⟨(some 43), (.load1 (.tmp 42)), (some (41, false))⟩, ⟨(some 44), (.lenL (.tmp 43)), (some (41, false))⟩, ⟨(some 45), (.faddr 6 (.tmp 3)), (some (41, false))⟩, ⟨(some 46), (.load1 (.tmp 45)), (some (41, false))⟩, ⟨(some 47), (.lenL (.tmp 46)), (some (41, false))⟩, ⟨(some 48), (.bin .neq (.tmp 44) (.tmp 47)), (some (41, false))⟩, ⟨(some 49), (.pick (.tmp 41) (.const (.bool true)) (.tmp 48)), none⟩]) (.cond (.tmp 49) (.seq (.ops [⟨(some 4), (.assign (.const (.bool false))), none⟩]) .ret) .skip)) (.seq (.seq (.ops [⟨(some 5), (.assign (.const (.int .i64 0))), none⟩]) (.block 0 (.loop (.seq (.seq (.ops [⟨(some 50), (.move (.tmp 5)), none⟩, ⟨(some 51), (.faddr 6 (.tmp 2)), none⟩, ⟨(some 52), (.load1 (.tmp 51)), none⟩, ⟨(some 53), (.lenL (.tmp 52)), none⟩, ⟨(some 54), (.bin .lss (.tmp 50) (.tmp 53)), none⟩]) (.cond (.tmp 54) .skip (.exit 0))) (.seq (.block 1 (.seq (.draws (.take ⟨(some 57), (.faddr 6 (.tmp 2)), none⟩ (.take ⟨(some 58), (.load1 (.tmp 57)), none⟩ (.take ⟨(some 59), (.move (.tmp 5)), none⟩ (.take ⟨(some 60), (.iaddr 2 (.tmp 58) (.tmp 59)), none⟩ (.take ⟨(some 61), (.loadN 2 (.tmp 60)), none⟩ (.take ⟨(some 62), (.faddr 6 (.tmp 3)), none⟩ (.take ⟨(some 63), (.load1 (.tmp 62)), none⟩ (.take ⟨(some 64), (.move (.tmp 5)), none⟩ (.take ⟨(some 65), (.iaddr 2 (.tmp 63) (.tmp 64)), none⟩ (.take ⟨(some 66), (.loadN 2 (.tmp 65)), none⟩ (.take ⟨(some 67), (.aeq true [1, 1] (.tmp 61) (.tmp 66)), none⟩ .done)))))))))))) (.cond (.tmp 67) (.seq (.ops [⟨(some 4), (.assign (.const (.bool false))), none⟩]) .ret) .skip))) (.ops [⟨(some 55), (.move (.tmp 5)), none⟩, ⟨(some 56), (.bin .add (.tmp 55) (.const (.int .i64 1))), none⟩, ⟨(some 5), (.assign (.tmp 56)), none⟩])))))) (.seq (.ops [⟨(some 68), (.faddr 4 (.tmp 2)), none⟩, ⟨(some 69), (.load1 (.tmp 68)), none⟩, ⟨(some 70), (.faddr 4 (.tmp 3)), none⟩, ⟨(some 71), (.load1 (.tmp 70)), none⟩, ⟨(some 72), (.call 51 [(.tmp 69), (.tmp 71)]), none⟩, ⟨(some 73), (.move (.tmp 72)), none⟩, ⟨(some 74), (.faddr 5 (.tmp 2)), (some (73, true))⟩, ⟨(some 75), (.load1 (.tmp 74)), (some (73, true))⟩, ⟨(some 76), (.faddr 5 (.tmp 3)), (some (73, true))⟩, ⟨(some 77), (.load1 (.tmp 76)), (some (73, true))⟩, ⟨(some 78), (.call 51 [(.tmp 75), (.tmp 77)]), (some (73, true))⟩, ⟨(some 79), (.pick (.tmp 73) (.tmp 78) (.const (.bool false))), none⟩, ⟨(some 4), (.assign (.tmp 79)), none⟩]) .ret)))), [(.move (.tmp 4))]⟩
theorem k29 : cfun Try.prog 29 = some c29 := by kernel_rfl
def c51 : XFun := ⟨26, (.seq (.ops [⟨(some 4), (.assign (.const (.bool false))), none⟩]) (.seq (.seq (.ops [⟨(some 6), (.move (.tmp 0)), none⟩, ⟨(some 7), (.lenL (.tmp 6)), none⟩, ⟨(some 8), (.move (.tmp 1)), none⟩, ⟨(some 9), (.lenL (.tmp 8)), none⟩, ⟨(some 10), (.bin .neq (.tmp 7) (.tmp 9)), none⟩]) (.cond (.tmp 10) (.seq (.ops [⟨(some 4), (.assign (.const (.bool false))), none⟩]) .ret) .skip)) (.seq (.seq (.ops [⟨(some 5), (.assign (.const (.int .i64 0))), none⟩]) (.block 0 (.loop (.seq (.seq (.ops [⟨(some 11), (.move (.tmp 5)), none⟩, ⟨(some 12), (.move (.tmp 0)), none⟩, ⟨(some 13), (.lenL (.tmp 12)), none⟩, ⟨(some 14), (.bin .lss (.tmp 11) (.tmp 13)), none⟩]) (.cond (.tmp 14) .skip (.exit 0))) (.seq (.block 1 (.seq (.draws (.take ⟨(some 17), (.move (.tmp 0)), none⟩ (.take ⟨(some 18), (.move (.tmp 5)), none⟩ (.take ⟨(some 19), (.iaddr 3 (.tmp 17) (.tmp 18)), none⟩ (.take ⟨(some 20), (.loadN 3 (.tmp 19)), none⟩ (.take ⟨(some 21), (.move (.tmp 1)), none⟩ (.take ⟨(some 22), (.move (.tmp 5)), none⟩ (.take ⟨(some 23), (.iaddr 3 (.tmp 21) (.tmp 22)), none⟩ (.take ⟨(some 24), (.loadN 3 (.tmp 23)), none⟩ (.take ⟨(some 25), (.aeq true [0, 2, 1] (.tmp 20) (.tmp 24)), none⟩ .done)))))))))) (.cond (.tmp 25) (.seq (.ops [⟨(some 4), (.assign (.const (.bool false))), none⟩]) .ret) .skip))) (.ops [⟨(some 15), (.move (.tmp 5)), none⟩, ⟨(some 16), (.bin .add (.tmp 15) (.const (.int .i64 1))), none⟩, ⟨(some 5), (.assign (.tmp 16)), none⟩])))))) (.seq (.ops [⟨(some 4), (.assign (.const (.bool true))), none⟩]) .ret)))), [(.move (.tmp 4))]⟩
theorem k51 : cfun Try.prog 51 = some c51 := by kernel_rfl
end Go.Proofs.Ytpogpofmakcodaa.Ax
namespace Go.Proofs.Ytpogpofmakcodaa.Ax
open Go.RowKit Go By
set_option linter.unusedSimpArgs false
set_option linter.unusedVariables false
set_option maxRecDepth 10000

theorem take_same {α : Type} {a b : List α} {j : Nat} (h1 : j < a.length) (h2 : j < b.length) (hp : a.take j = b.take j) (e : a[j] = b[j]) : a.take (j + 1) = b.take (j + 1) := by
  rw [List.take_succ_eq_append_getElem h1, List.take_succ_eq_append_getElem h2, hp, e]
theorem not_same {α : Type} {a b : List α} {j : Nat} (h1 : j < a.length) (h2 : j < b.length) (e : ¬ a[j] = b[j]) : ¬ a = b := fun h => by
  subst h; exact e rfl
def sameTo (x y : To) : Bool := x.set == y.set && (x.name == y.name && x.id == y.id)
theorem sameTo_iff (x y : To) : sameTo x y = decide (x = y) := by
  obtain ⟨a1, a2, a3⟩ := x
  obtain ⟨b1, b2, b3⟩ := y
  rw [Bool.eq_iff_iff]; simp [sameTo]
def sameOc (x y : Oc) : Bool := x.kind == y.kind && x.id == y.id
theorem sameOc_iff (x y : Oc) : sameOc x y = decide (x = y) := by
  obtain ⟨a1, a2⟩ := x
  obtain ⟨b1, b2⟩ := y
  rw [Bool.eq_iff_iff]; simp [sameOc]
theorem not3 : ∀ {x y z : Bool}, (x && (y && z)) = false → (!x || (!y || !z)) = true := by decide
theorem not2 : ∀ {x y : Bool}, (x && y) = false → (!x || !y) = true := by decide
theorem rops_c (a b : List To) (hl : a.length ≤ 1000000) (h : List (List AV)) : Contract Try.prog 51 [.sl 3 (enc toC a) none .no, .sl 3 (enc toC b) none .no] h (.v (.bool (decide (a = b)))) h [] := by
  refine contract_of k51 mixed (by simp [c51]) fun hh hargs => ?_
  by_cases hlen : a.length = b.length
  · have hlen2 : (a.length : Int) = b.length := by omega
    simp [c51, hlen2]
    refine xloop_ok (D := Nat) (fun j => ⟨[(0, .sl 3 (enc toC a) none .no), (1, .sl 3 (enc toC b) none .no), (5, .v (.int .i64 (j : Int)))], [], h, []⟩) (fun j => j ≤ a.length ∧ a.take j = b.take j) (fun j => a.length - j) 0 ⟨by omega, by simp⟩ ?_ ?_
    · simp [Leq, hh, leqH_take]
      done
    · rintro j ⟨hj, hp⟩
      by_cases hlt : j < a.length
      · have hlb : j < b.length := by omega
        have hw : IntKind.i64.wrap ((j : Int) + 1) = (j : Int) + 1 := wrap64 (by omega) (by omega)
        have hs := sameTo_iff a[j] b[j]
        by_cases e : a[j] = b[j]
        · simp [hlt, hlb, e, toC_mk, hw]
          refine ⟨j + 1, ⟨by omega, take_same hlt hlb hp e⟩, by omega, ?_⟩
          simp [Leq, hh, leqH_take]
          done
        · rw [decide_eq_false e] at hs
          have hne := not_same hlt hlb e
          have hs2 : (a[j].set == b[j].set && (a[j].name == b[j].name && a[j].id == b[j].id)) = false := hs
          have hs3 := not3 hs2
          simp [hlt, hlb, toC_mk, hs3, hne, hh]
          done
      · have hjl : j = a.length := by omega
        subst hjl
        have e : a = b := by rw [List.take_length, hlen, List.take_length] at hp; exact hp
        subst e
        simp [hh]
        done
  · have hlen2 : ¬ (a.length : Int) = b.length := by omega
    have hne : ¬ a = b := fun e => hlen (by rw [e])
    simp [c51, hlen2, hne, hh]
    done
/-- An entry whose lists are not too long. -/
def EnFit (e : En) : Prop := e.good.length ≤ 1000000 ∧ e.bad.length ≤ 1000000 ∧ e.cache.length ≤ 1000000 ∧ e.reply.length ≤ 1000000
def headE (a b : En) : Bool := a.kind == b.kind && (a.hide == b.hide && (a.from_ == b.from_ && (a.to == b.to && (a.reply == b.reply && decide (a.cache.length = b.cache.length)))))
theorem en_eq (a b : En) : decide (a = b) = (headE a b && (decide (a.cache = b.cache) && (decide (a.good = b.good) && decide (a.bad = b.bad)))) := by
  obtain ⟨a1, a2, a3, a4, a5, a6, a7, a8⟩ := a
  obtain ⟨b1, b2, b3, b4, b5, b6, b7, b8⟩ := b
  rw [Bool.eq_iff_iff]
  simp [headE]
  constructor
  · rintro ⟨rfl, rfl, rfl, rfl, rfl, rfl, rfl, rfl⟩; simp
  · rintro ⟨⟨rfl, rfl, rfl, rfl, rfl, h0⟩, rfl, rfl, rfl⟩; simp
theorem bne_of {α : Type} [BEq α] {x y : α} {c : Bool} (h : (x == y) = c) : (x != y) = !c := by unfold bne; rw [h]
theorem rsame21_c (a b : En) (ha : EnFit a) (hb : EnFit b) (h : List (List AV)) : Contract Try.prog 29 [.agg (enC a), .agg (enC b)] h (.v (.bool (decide (a = b)))) h [] := by
  obtain ⟨q1, q2, q3, q4⟩ := ha
  obtain ⟨w1, w2, w3, w4⟩ := hb
  refine contract_of k29 mixed (by simp [c29]) fun hh hargs => ?_
  have hl2 := ltLL_mono (Nat.le_add_right h.length 2) hh
  rw [en_eq]
  cases p1 : a.kind == b.kind with
  | false => simp [c29, hh, leqH_take, hl2, headE, p1, bne_of p1]
  | true =>
  cases p2 : a.hide == b.hide with
  | false => simp [c29, hh, leqH_take, hl2, headE, p1, p2, bne_of p1, bne_of p2]
  | true =>
  cases p3 : a.from_ == b.from_ with
  | false => simp [c29, hh, leqH_take, hl2, headE, p1, p2, p3, bne_of p1, bne_of p2, bne_of p3]
  | true =>
  cases p4 : a.to == b.to with
  | false => simp [c29, hh, leqH_take, hl2, headE, p1, p2, p3, p4, bne_of p1, bne_of p2, bne_of p3, bne_of p4]
  | true =>
  cases p5 : a.reply == b.reply with
  | false =>
    simp [c29, hh, leqH_take, hl2, headE, p1, p2, p3, p4, bne_of p1, bne_of p2, bne_of p3, bne_of p4, p5, bne_of p5]
    done
  | true =>
  by_cases p6 : a.cache.length = b.cache.length
  · have p6' : (a.cache.length : Int) = b.cache.length := by omega
    have hd : headE a b = true := by unfold headE; rw [p1, p2, p3, p4, p5, decide_eq_true p6]; rfl
    rw [hd]
    simp [c29, p1, p2, p3, p4, bne_of p1, bne_of p2, bne_of p3, bne_of p4, p5, bne_of p5, p6']
    refine xloop_ok (D := Nat) (fun j => ⟨[(2, .box h.length 0), (3, .box (h.length + 1) 0), (5, .v (.int .i64 (j : Int)))], [], h ++ [enC a, enC b], []⟩) (fun j => j ≤ a.cache.length ∧ a.cache.take j = b.cache.take j) (fun j => a.cache.length - j) 0 ⟨by omega, by simp⟩ ?_ ?_
    · simp [Leq, hl2, leqH_take]
      done
    · rintro j ⟨hj, hp⟩
      by_cases hlt : j < a.cache.length
      · have hlb : j < b.cache.length := by omega
        have hlt2 : (j : Int) < b.cache.length := by omega
        have hw : IntKind.i64.wrap ((j : Int) + 1) = (j : Int) + 1 := wrap64 (by omega) (by omega)
        by_cases e : a.cache[j] = b.cache[j]
        · simp [hlt, hlb, hlt2, e, ocC_mk, hw, p6']
          refine ⟨j + 1, ⟨by omega, take_same hlt hlb hp e⟩, by omega, ?_⟩
          simp [Leq, hl2, leqH_take]
          done
        · have hs := sameOc_iff a.cache[j] b.cache[j]
          rw [decide_eq_false e] at hs
          have hs2 : (a.cache[j].kind == b.cache[j].kind && a.cache[j].id == b.cache[j].id) = false := hs
          have hne := not_same hlt hlb e
          have hs3 := not2 hs2
          simp [hlt, hlb, hlt2, ocC_mk, p6', hs3, hne, hh, hl2, leqH_take]
          done
      · have hjl : j = a.cache.length := by omega
        subst hjl
        have e : a.cache = b.cache := by rw [List.take_length, p6, List.take_length] at hp; exact hp
        simp [p6']
        refine xcall_self (by simp) (rops_c _ _ q1 _) ?_
        by_cases e1 : a.good = b.good
        · simp [e1]
          refine xcall_self (by simp) (rops_c _ _ q2 _) ?_
          simp [hh, hl2, leqH_take, e]
          done
        · simp [e1, hh, hl2, leqH_take]
          done
  · have p6' : ¬ (a.cache.length : Int) = b.cache.length := by omega
    have p7 : ((a.cache.length : Int) != b.cache.length) = true := by simpa using p6'
    simp [c29, hh, leqH_take, hl2, headE, p1, p2, p3, p4, bne_of p1, bne_of p2, bne_of p3, bne_of p4, p5, bne_of p5, p6, p6', p7]
    done
theorem rall_c (l m : List En) (hl : l.length ≤ 1000000) (hf : ∀ e ∈ l, EnFit e) (hg : ∀ e ∈ m, EnFit e) (h : List (List AV)) : Contract Try.prog 20 [.sl 8 (enc enC l) none .no, .sl 8 (enc enC m) none .no] h (.v (.bool (decide (l = m)))) h [] := by
  refine contract_of k20 mixed (by simp [c20]) fun hh hargs => ?_
  by_cases hlen : l.length = m.length
  · have hlen2 : (l.length : Int) = m.length := by omega
    simp [c20, hlen2]
    refine xloop_ok (D := Nat) (fun j => ⟨[(0, .sl 8 (enc enC l) none .no), (1, .sl 8 (enc enC m) none .no), (5, .v (.int .i64 (j : Int)))], [], h, []⟩) (fun j => j ≤ l.length ∧ l.take j = m.take j) (fun j => l.length - j) 0 ⟨by omega, by simp⟩ ?_ ?_
    · simp [Leq, hh, leqH_take]
      done
    · rintro j ⟨hj, hp⟩
      by_cases hlt : j < l.length
      · have hlb : j < m.length := by omega
        have hw : IntKind.i64.wrap ((j : Int) + 1) = (j : Int) + 1 := wrap64 (by omega) (by omega)
        have key := rsame21_c l[j] m[j] (hf _ (List.getElem_mem hlt)) (hg _ (List.getElem_mem hlb)) h
        simp [hlt, hlb]
        refine xcall_self (by simp) key ?_
        by_cases e : l[j] = m[j]
        · simp [e, hw]
          refine ⟨j + 1, ⟨by omega, take_same hlt hlb hp e⟩, by omega, ?_⟩
          simp [Leq, hh, leqH_take]
          done
        · have hne := not_same hlt hlb e
          simp [e, hne, hh]
          done
      · have hjl : j = l.length := by omega
        subst hjl
        have e : l = m := by rw [List.take_length, hlen, List.take_length] at hp; exact hp
        subst e
        simp [hh]
        done
  · have hlen2 : ¬ (l.length : Int) = m.length := by omega
    have hne : ¬ l = m := fun e => hlen (by rw [e])
    simp [c20, hlen2, hne, hh]
    done
end Go.Proofs.Ytpogpofmakcodaa.Ax
