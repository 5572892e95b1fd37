import Derived.Test.YtdfgljojemmlcaaGreatQAxFl
set_option linter.unusedSimpArgs false
set_option linter.unusedVariables false
open List renaming length_append -> Q0, mem_cons_self -> Q2, getD_eq_getElem?_getD -> Q3, length_cons -> Q5, append_eq_nil_iff -> Q6, drop_left -> Q7, mem_cons_of_mem -> Q8, length_take -> Q9, drop_drop -> Ra, drop -> Rb
open Bool renaming and_eq_true -> Q1
open Int renaming tmod_eq_emod_of_nonneg -> Q4
namespace Go.Proofs.YtdfgljojemmlcaaGreat.Ax
open Go.RowKit Go By
def MA:XFun:=⟨41,.seq (.ops [oJ 1 0,oK 2 (.string (ah []))]) (.seq (.seq (.ops [oF 6 0 1,oL 7 6,oX 8 (.lenS (.tmp 7)),oF 9 1 1,oL 10 9,oH 11 10,oC 12 83 [8,11],oV 13 12,oM 14 13,oG 14 false (oF 15 1 1),oG 14 false (oL 16 15),oG 14 false (oC 17 84 [16]),oG 14 false (oV 18 17),oU 19 14 18]) (.cond (.tmp 19) (.seq (.ops [oK 2 (.string (ah []))]) .ret) .skip)) (.seq (.draws (.take (oF 20 0 1) (.take (oL 21 20) (.take (oX 22 (.lenS (.tmp 21))) (.take (oF 24 0 1) (.take (oL 25 24) (.only (oX 23 (.call 85 [.const (.slice none 0 0),.tmp 22,.const (.int .i64 4)])) (.only (oX 26 (.appendS (.tmp 23) (.tmp 25))) (.take (oA 3 26) .done))))))))) (.seq (.seq (.ops [oF 27 1 1,oL 28 27,oH 29 28,oX 30 (.move (.const (.int .i64 0)))]) (.block 0 (.loop (.seq (.ops [oB 31 .lss 30 29]) (.seq (.cond (.tmp 31) .skip (.exit 0)) (.seq (.block 1 (.seq (.ops [oW 32 1 28 30,oL 33 32,oA 5 33]) (.ops [oM 34 3,oM 35 5,oX 36 (.call 85 [.const (.slice none 0 0),.tmp 35,.const (.int .i64 4)]),oX 37 (.append 1 1 (.tmp 34) (.tmp 36)),oA 3 37]))) (.ops [oI 38 .add 30 (.int .i64 1),oM 30 38]))))))) (.seq (.ops [oM 39 3,oX 40 (.b2s (.tmp 39)),oA 2 40]) .ret)))),[.move (.tmp 2)]⟩
theorem QM : ak Tryz.prog 46 = some MA := by kernel_rfl
def Mf:XFun:=⟨62,.seq (.ops [oZ 2 z3,oK 3 (.bool false)]) (.seq (.ops [oM 11 0,oX 12 (.s2b (.tmp 11)),oA 4 12]) (.seq (.ops [oM 14 4,oX 15 (.call 115 [.tmp 14,.const (.int .i64 0),.const (.int .i64 4)]),oM 13 15,oE 16 13 0,oE 17 13 1,oA 5 16,oA 6 17]) (.seq (.seq (.ops [oM 18 6,oI 19 .neq 18 (.int .i64 0),oM 20 19,oG 20 false (oM 21 5),oG 20 false (oM 22 4),oG 20 false (oH 23 22),oG 20 false (oI 24 .sub 23 (.int .i64 4)),oG 20 false (oB 25 .gtr 21 24),oU 26 20 25]) (.cond (.tmp 26) (.seq (.ops [oX 27 (.build z3 []),oS 2 2 27,oK 3 (.bool false)]) .ret) .skip)) (.seq (.draws (.take (oM 28 4) (.take (oM 29 5) (.take (oX 30 (.bin .add (.const (.int .i64 4)) (.tmp 29))) (.take (oX 31 (.slice 1 (.tmp 28) (some (.const (.int .i64 4))) (some (.tmp 30)) none)) (.take (oM 32 4) (.take (oM 33 5) (.take (oX 34 (.bin .add (.const (.int .i64 4)) (.tmp 33))) (.take (oX 35 (.slice 1 (.tmp 32) (some (.tmp 34)) none none)) (.take (oA 7 31) (.take (oA 8 35) .done))))))))))) (.seq (.seq (.ops [oM 36 8,oH 37 36,oI 38 .rem 37 (.int .i64 4),oI 39 .neq 38 (.int .i64 0),oM 40 39,oG 40 false (oM 41 5),oG 40 false (oM 42 8),oG 40 false (oH 43 42),oG 40 false (oI 44 .quo 43 (.int .i64 4)),oG 40 false (oC 45 83 [41,44]),oG 40 false (oV 46 45),oU 47 40 46]) (.cond (.tmp 47) (.seq (.ops [oX 48 (.build z3 []),oS 2 2 48,oK 3 (.bool false)]) .ret) .skip)) (.seq (.ops [oM 49 7,oX 50 (.b2s (.tmp 49)),oD 51 0 z3 50,oZ 9 z3,oS 2 9 51]) (.seq (.seq (.ops [oM 52 8,oC 53 116 [52]]) (.block 0 (.range (.tmp 53) [54] (.ops [oA 10 54]) (.block 1 (.ops [oF 55 1 9,oL 56 55,oM 57 10,oR 58 1 1 57 z9,oX 59 (.append 1 8 (.tmp 56) (.tmp 58)),oF 60 1 9,oS 1 60 59]))))) (.seq (.ops [oP 61 2 9,oS 2 2 61,oK 3 (.bool true)]) .ret)))))))),[.loadN 2 (.tmp 2),.move (.tmp 3)]⟩
theorem PT : ak Tryz.prog 86 = some Mf := by kernel_rfl
def K1:XFun:=⟨11,.seq (.ops [oK 4 (.bool false)]) (.seq (.ops [oM 5 0,oI 6 .leq 5 (.int .i64 1048576),oM 7 6,oG 7 true (oM 8 1),oG 7 true (oI 9 .leq 8 (.int .i64 65535)),oT 10 7 9,oA 4 10]) .ret),[.move (.tmp 4)]⟩
theorem Qh : ak Tryz.prog 83 = some K1 := by kernel_rfl
def Mj:XFun:=⟨6,.seq (.ops [oK 2 (.bool false)]) (.seq (.ops [oM 3 0,oX 4 (.call 112 [.tmp 3,.func 113]),oV 5 4,oA 2 5]) .ret),[.move (.tmp 2)]⟩
theorem P0 : ak Tryz.prog 84 = some Mj := by kernel_rfl
def BQ:XFun:=⟨10,.seq (.ops [oK 2 (.bool false)]) (.seq (.ops [oM 3 0,oI 4 .lss 3 (.int .i64 0),oM 5 4,oG 5 false (oM 6 0),oG 5 false (oX 7 (.call 114 [.tmp 6,.const (.int .i64 4)])),oG 5 false (oV 8 7),oU 9 5 8,oA 2 9]) .ret),[.move (.tmp 2)]⟩
theorem OW : ak Tryz.prog 113 = some BQ := by kernel_rfl
def Gm:XFun:=⟨4,.seq (.ops [oJ 1 0,oK 2 .nilFunc]) (.seq (.ops [oX 3 (.mkfn (.func 137) [] [.tmp 1]),oA 2 3]) .ret),[.move (.tmp 2)]⟩
theorem Nh : ak Tryz.prog 116 = some Gm := by kernel_rfl
def Gq:XFun:=⟨22,.seq (.ops [oK 3 (.int .i64 0)]) (.block 0 (.loop (.seq (.block 1 (.seq (.ops [oL 9 1,oM 10 3,oX 11 (.call 115 [.tmp 9,.tmp 10,.const (.int .i64 4)]),oM 8 11,oE 12 8 0,oE 13 8 1,oA 4 12,oA 5 13]) (.seq (.ops [oM 14 5,oI 15 .neq 14 (.int .i64 0),oM 16 15,oG 16 false (oM 17 0),oG 16 false (oM 18 4),oG 16 false (oX 19 (.callv (.tmp 17) [.tmp 18])),oG 16 false (oV 20 19),oU 21 16 20]) (.cond (.tmp 21) .ret .skip)))) (.ops [oM 6 3,oI 7 .add 6 (.int .i64 4),oA 3 7])))),[]⟩
theorem Ps : ak Tryz.prog 137 = some Gq := by kernel_rfl
def LC:XFun:=⟨38,.seq (.ops [oJ 1 0,oK 2 (.string (ah []))]) (.seq (.seq (.ops [oF 5 0 1,oL 6 5,oX 7 (.lenS (.tmp 6)),oI 8 .gtr 7 (.int .i64 1048576),oM 9 8,oG 9 false (oF 10 1 1),oG 9 false (oL 11 10),oG 9 false (oX 12 (.call 87 [.tmp 11,.const (.int .i64 0),.const (.int .i64 4294967295)])),oG 9 false (oV 13 12),oU 14 9 13]) (.cond (.tmp 14) (.seq (.ops [oK 2 (.string (ah []))]) .ret) .skip)) (.seq (.draws (.take (oF 15 0 1) (.take (oL 16 15) (.take (oX 17 (.lenS (.tmp 16))) (.take (oF 19 0 1) (.take (oL 20 19) (.only (oX 18 (.call 88 [.const (.slice none 0 0),.tmp 17,.const (.int .i64 4)])) (.only (oX 21 (.appendS (.tmp 18) (.tmp 20))) (.take (oA 3 21) .done))))))))) (.seq (.seq (.ops [oK 4 (.int .i64 0)]) (.block 0 (.loop (.seq (.seq (.ops [oM 22 4,oF 23 1 1,oL 24 23,oH 25 24,oB 26 .lss 22 25]) (.cond (.tmp 26) .skip (.exit 0))) (.seq (.block 1 (.ops [oM 29 3,oF 30 1 1,oL 31 30,oM 32 4,oW 33 1 31 32,oL 34 33,oX 35 (.call 88 [.tmp 29,.tmp 34,.const (.int .i64 4)]),oA 3 35])) (.ops [oM 27 4,oI 28 .add 27 (.int .i64 1),oA 4 28])))))) (.seq (.ops [oM 36 3,oX 37 (.b2s (.tmp 36)),oA 2 37]) .ret)))),[.move (.tmp 2)]⟩
theorem Qd : ak Tryz.prog 48 = some LC := by kernel_rfl
def Lt:XFun:=⟨17,.seq (.ops [oJ 2 0,oJ 3 1,oK 4 (.bool false)]) (.seq (.ops [oF 5 0 2,oL 6 5,oF 7 0 3,oL 8 7,oB 9 .eql 6 8,oM 10 9,oG 10 true (oF 11 1 2),oG 10 true (oL 12 11),oG 10 true (oF 13 1 3),oG 10 true (oL 14 13),oG 10 true (oC 15 79 [12,14]),oT 16 10 15,oA 4 16]) .ret),[.move (.tmp 4)]⟩
theorem P6 : ak Tryz.prog 89 = some Lt := by kernel_rfl
end Go.Proofs.YtdfgljojemmlcaaGreat.Ax
namespace Go.Proofs.YtdfgljojemmlcaaGreat.Ax
open Go.RowKit Go By Go.Proofs.YtdfgljojemmlcaaGreat.Nm Sc Dg
set_option maxRecDepth 10000
theorem sz4 : Sz 4 := .inr (.inr rfl)
theorem np (xs : List UInt8) (i : Nat) : ∀ k, cJ xs i k = cJ (xs.drop i) 0 k
 | 0 => rfl
 | k + 1 => by
  rw [cJ, cJ, np xs i k]
  congr 1
  unfold bB
  rw [Q3, Q3, List.getElem?_drop, Nat.zero_add]
def qD (n : Int) : Bool := !decide (n < 0) && aV n 4
theorem mc (n : Int) : qD n = true ↔ 0 <= n /\ n < 4294967296 := by
 unfold qD
 have := j5 (n := n) sz4
 simp at this
 simp [this]
 omega
theorem pm {n : Int} (h : qD n = true) : aB 4 n = aL n 4 4 := by
 rw [mc] at h
 exact vx (size := 4) (qb sz4 (by omega) (by omega))
theorem jV (n : Int) : (aB 4 n).length <= 4 := by have := put_len n 4 (by omega) []; simpa [aB] using this
theorem jY {n : Int} (h : qD n = true) : (aB 4 n).length = 4 := by rw [pm h, aH]
theorem rC {n : Int} (h : qD n = true) : cJ (aB 4 n) 0 4 = n := by
 rw [pm h, wu n sz4]
 rw [mc] at h
 omega
def cl (l : List Int) : List UInt8 := l.flatMap (aB 4)
theorem rl : ∀ {l : List Int}, (∀ n ∈ l, qD n = true) -> (cl l).length = 4 * l.length
 | [], _ => rfl
 | n :: l, h => by
  have h1 := jY (h n (Q2 ..))
  have h2 := rl (l := l) fun x hx => h x (Q8 _ hx)
  have e : cl (n :: l) = aB 4 n ++ cl l := rfl
  rw [e, Q0, Q5]; omega
theorem ig : ∀ (l : List Int), (cl l).length <= 4 * l.length
 | [] => Nat.le_refl _
 | n :: l => by
  have h1 := jV n
  have h2 := ig l
  have e : cl (n :: l) = aB 4 n ++ cl l := rfl
  rw [e, Q0, Q5]; omega
def fw (b : List UInt8) (k : Nat) : List Int := (List.range k).map fun j => cJ b (4 * j) 4
theorem ue (b : List UInt8) : fw b 0 = [] := rfl
theorem uA (b : List UInt8) (k : Nat) : fw b (k + 1) = fw b k ++ [cJ b (4 * k) 4] := by unfold fw; rw [List.range_succ, List.map_append]; rfl
@[simp] theorem HQ (b : List UInt8) (k : Nat) : (fw b k).length = k := by unfold fw; simp
theorem lH : ∀ {l : List Int}, (∀ n ∈ l, qD n = true) -> fw (cl l) l.length = l
 | [], _ => rfl
 | n :: l, h => by
  have h1 := jY (h n (Q2 ..))
  have h2 := lH (l := l) fun x hx => h x (Q8 _ hx)
  have e : cl (n :: l) = aB 4 n ++ cl l := rfl
  unfold fw at h2 ⊢
  rw [Q5, List.range_succ_eq_map, List.map_cons, List.map_map, e]
  have e0 : cJ (aB 4 n ++ cl l) (4 * 0) 4 = n := by
   rw [pq _ _ _ _ (by omega)]; exact rC (h n (Q2 ..))
  have e1 : ((fun j => cJ (aB 4 n ++ cl l) (4 * j) 4) ∘ Nat.succ) = fun j => cJ (cl l) (4 * j) 4 := by
   funext j
   show cJ (aB 4 n ++ cl l) (4 * (j + 1)) 4 = _
   rw [np, np (cl l)]
   congr 1
   rw [show 4 * (j + 1) = (aB 4 n).length + 4 * j by omega, <- Ra, Q7]
  rw [e0, e1, h2]
theorem nF (a b : List UInt8) : eh (af a ++ af b) = some (a ++ b) := by rw [<- aT, ed]
def sW (l : List Int) : Bool := decide (l.length <= 65535) && l.all qD
def bb (m : Sm) : Bool := decide (m.text.length <= 1048576) && sW m.oids
def keyBytes (m : Sm) : List UInt8 := aB 4 m.text.length ++ m.text ++ cl m.oids
def ce (m : Sm) : List UInt8 := if bb m = true then keyBytes m else []
theorem yZ (a b : Int) (h : List (List AV)) : Contract Tryz.prog 83 [.v (.int .i64 a), .v (.int .i64 b)] h (.v (.bool (decide (a <= 1048576) && decide (b <= 65535)))) h [] := by
 refine ab Qh mixed (by simp [K1]) fun hh hargs => ?_
 by_cases ha : a <= 1048576
 ·simp [K1, ha, hh]
 ·simp [K1, ha, hh]
theorem J0 (n : Int) (h : List (List AV)) : Contract Tryz.prog 113 [.v (.int .i64 n)] h (.v (.bool (!qD n))) h [] := by
 refine ab OW mixed (by simp [BQ]) fun hh hargs => ?_
 by_cases hn : n < 0
 ·simp [BQ, hn, hh, qD]
 ·simp [BQ, hn]
  refine aa (by simp) (sa n 4 h) ?_
  simp [hh, qD, hn]
theorem Ov (l : List Int) (hl : l.length <= 140737488355328) (h : List (List AV)) : Contract Tryz.prog 84 [.sl 1 (ai ao l) none .no] h (.v (.bool (l.all qD))) h [] := by
 refine ab P0 mixed (by simp [Mj]) fun hh hargs => ?_
 simp [Mj]
 refine aa (by simp) (eR mixed Hc F4 (fun n => .v (.int .i64 n)) (fun n => !qD n) l [] h (by simp) (by simp) (by simp) (fun n _ => J0 n h) hl) ?_
 simp [hh, List.not_any_eq_all_not]
theorem zI (n : Int) (h : List (List AV)) : Contract Tryz.prog 85 [.sl 1 (af []) none .no, .v (.int .i64 n), .v (.int .i64 4)] h (.sl 1 (af (aB 4 n)) none (.own .res)) h [] := kB [] n 4 (by simp) h
theorem Dr (xs : List UInt8) (n : Int) (hl : xs.length <= 140737488351232) (h : List (List AV)) : Contract Tryz.prog 88 [.sl 1 (af xs) none .no, .v (.int .i64 n), .v (.int .i64 4)] h (.sl 1 (af (xs ++ aB 4 n)) none (.own .res)) h [] := by
 have e : bo xs n 4 = xs ++ aB 4 n := gI xs n 4
 rw [<- e]
 exact cY xs n 4 hl h
theorem zD (n : Int) (h : List (List AV)) : Contract Tryz.prog 88 [.sl 1 (af []) none .no, .v (.int .i64 n), .v (.int .i64 4)] h (.sl 1 (af (aB 4 n)) none (.own .res)) h [] := cY [] n 4 (by simp) h
theorem BC (m : Sm) (hl : m.oids.length <= 140737488355328) (h : List (List AV)) : Contract Tryz.prog 46 [.agg (db m)] h (.v (.string (ah (ce m)))) h [] := by
 refine ab QM mixed (by simp [MA]) fun hh hargs => ?_
 simp [MA]
 refine aa (by simp) (yZ _ _ _) ?_
 have hk : bb m = (decide ((m.text.length : Int) <= 1048576) && decide ((m.oids.length : Int) <= 65535) && m.oids.all qD) := by
  unfold bb sW
  rw [<- Bool.and_assoc]
  congr 1
  congr 1
  ·rw [decide_eq_decide]; omega
  ·rw [decide_eq_decide]; omega
 cases hf : (decide ((m.text.length : Int) <= 1048576) && decide ((m.oids.length : Int) <= 65535)) with
 | false =>
  rw [hf] at hk
  simp [hh, ce, hk]
 | true =>
 rw [hf] at hk
 rw [Q1, decide_eq_true_eq, decide_eq_true_eq] at hf
 simp
 refine aa (by simp) (Ov m.oids hl _) ?_
 cases ha : m.oids.all qD with
 | false =>
  rw [ha] at hk
  simp [hh, ce, hk]
 | true =>
 rw [ha] at hk
 have hL := jV (m.text.length : Int)
 have hle := ig m.oids
 simp
 refine aj (zI (m.text.length : Int) _) (by simp) (by simp) ?_
 unfold ce
 rw [if_pos (by simpa using hk)]
 unfold keyBytes
 obtain ⟨C, hC⟩ : ∃ C, aB 4 (m.text.length : Int) ++ m.text = C := ⟨_, rfl⟩
 have hCl : C.length <= 1048580 := by rw [<- hC, Q0]; omega
 simp [hC]
 refine ⟨by omega, ?_⟩
 refine am (D := Nat) (fun j => ⟨[(28, .sl 1 (ai ao m.oids) none .no), (29, .v (.int .i64 m.oids.length)), (30, .v (.int .i64 j))], [(3, .sl 1 (af (C ++ cl (m.oids.take j))) none (.own (.slot 3)))], h ++ [db m], []⟩) (fun j => j <= m.oids.length) (fun j => m.oids.length - j) 0 (by simp) ?_ ?_
 ·simp [Leq, hh, <- hC, cl]
 ·intro j hj
  by_cases hlt : j < m.oids.length
  ·have hw : IntKind.i64.wrap ((j : Int) + 1) = (j : Int) + 1 := wrap64 (by omega) (by omega)
   have hx : cl (m.oids.take (j + 1)) = cl (m.oids.take j) ++ aB 4 m.oids[j] := mF _ hlt
   have h1 := ig (m.oids.take j)
   rw [Q9] at h1
   have h2 := jV m.oids[j]
   simp [hlt, ao]
   refine aj (zI m.oids[j] _) (by simp) (by simp) ?_
   generalize aB 4 m.oids[j] = X at *
   simp [hw]
   refine ⟨by omega, j + 1, by omega, by omega, ?_⟩
   simp [Leq, hh, hx]
  ·have : j = m.oids.length := by omega
   subst this
   simp [hh, nF]
theorem Bp (n : Int) : cD 0 4294967295 n = qD n := by
 have h1 := mc n
 unfold cD
 cases ho : qD n with
 | true =>
  obtain ⟨h2, h3⟩ := h1.1 ho
  rw [decide_eq_false (by omega), decide_eq_false (by omega)]; rfl
 | false =>
  have h2 : ¬ (0 <= n /\ n < 4294967296) := fun hh => by rw [h1.2 hh] at ho; cases ho
  by_cases h0 : n < 0
  ·rw [decide_eq_true h0]; rfl
  ·rw [decide_eq_true (p := 4294967295 < n) (by omega)]; simp
theorem sk (m : Sm) (hl : m.oids.length <= 140737488355328) (h : List (List AV)) : Contract Tryz.prog 48 [.agg (db m)] h (.v (.string (ah (ce m)))) h [] := by
 refine ab Qd mixed (by simp [LC]) fun hh hargs => ?_
 have hb : m.oids.all (cD 0 4294967295) = m.oids.all qD := by congr 1; funext n; exact Bp n
 by_cases ht : (1048576 : Int) < m.text.length
 ·have hk : bb m = false := by unfold bb; simp; omega
  simp [LC, ht, hh, ce, hk]
 have ht' : m.text.length <= 1048576 := by omega
 simp [LC, ht]
 refine aa (by simp) (oq m.oids 0 4294967295 _) ?_
 rw [hb]
 have hk : bb m = (decide (m.oids.length <= 65535) && m.oids.all qD) := by unfold bb sW; simp [ht']
 cases ha : (decide (m.oids.length <= 65535) && m.oids.all qD) with
 | false =>
  rw [ha] at hk
  simp [hh, ce, hk]
 | true =>
 rw [ha] at hk
 rw [Q1, decide_eq_true_eq] at ha
 have hL := jV (m.text.length : Int)
 have hle := ig m.oids
 simp
 refine aj (zD (m.text.length : Int) _) (by simp) (by simp) ?_
 unfold ce
 rw [if_pos hk]
 unfold keyBytes
 obtain ⟨C, hC⟩ : ∃ C, aB 4 (m.text.length : Int) ++ m.text = C := ⟨_, rfl⟩
 have hCl : C.length <= 1048580 := by rw [<- hC, Q0]; omega
 simp [hC]
 refine ⟨by omega, ?_⟩
 refine am (D := Nat) (fun j => ⟨[(1, .box h.length 0), (4, .v (.int .i64 j))], [(3, .sl 1 (af (C ++ cl (m.oids.take j))) none (.own (.slot 3)))], h ++ [db m], []⟩) (fun j => j <= m.oids.length) (fun j => m.oids.length - j) 0 (by simp) ?_ ?_
 ·simp [Leq, hh, <- hC, cl]
 ·intro j hj
  by_cases hlt : j < m.oids.length
  ·have hw : IntKind.i64.wrap ((j : Int) + 1) = (j : Int) + 1 := wrap64 (by omega) (by omega)
   have hx : cl (m.oids.take (j + 1)) = cl (m.oids.take j) ++ aB 4 m.oids[j] := mF _ hlt
   have h1 := ig (m.oids.take j)
   rw [Q9] at h1
   have h2 := jV m.oids[j]
   simp [hlt, ao]
   refine aj (Dr (C ++ cl (m.oids.take j)) m.oids[j] (by rw [Q0]; omega) _) (by simp) (by simp) ?_
   generalize aB 4 m.oids[j] = X at *
   simp [hw]
   refine ⟨j + 1, by omega, by omega, ?_⟩
   simp [Leq, hh, hx]
  ·have : j = m.oids.length := by omega
   subst this
   simp [hh, nF]
theorem AO (b : List UInt8) (h : List (List AV)) : Contract Tryz.prog 116 [.sl 1 (af b) none .no] h (.fn (.func 137) [] [.box h.length 0]) (h ++ [[.sl 1 (af b) none .no]]) [] := by
 refine ab Nh mixed (by simp [Gm]) fun hh hargs => ?_
 simp [Gm, hh]
def RB (i0 : Nat) (b : List UInt8) (L : Nat) (H : List (List AV)) : Prop := H.length = L /\ aw L H /\ H[i0]? = some [.sl 1 (af b) none .no]
theorem wC {len j : Nat} (h : 4 * j + 4 <= len) : dJ len (4 * (j : Int)) 4 = 0 := by
 have := mZ (len := len) (i := 4 * j) (size := 4) sz4.szB h
 simpa using this
theorem Cr {len j : Nat} (h : len < 4 * j + 4) : dJ len (4 * (j : Int)) 4 = 3 := jd (by rfl) (by omega) (by omega)
theorem Cd {b : List UInt8} {j : Nat} (h : 4 * j + 4 <= b.length) : iY b (4 * (j : Int)) 4 = cJ b (4 * j) 4 := by
 unfold iY
 rw [if_pos (wC h)]
 congr 1
theorem s9 (b : List UInt8) (hb : b.length <= 100000) (i0 L : Nat) : Iter Tryz.prog 137 [.box i0 0] (b.length / 4) (fun j => [.v (.int .i64 (cJ b (4 * j) 4))]) true (RB i0 b L) := by
 intro i r c slots H wr hR hY
 have hL : ∀ j, j <= b.length / 4 -> (H j).length = L := fun j hj => (hR j hj).1
 have hT : ∀ j, j <= b.length / 4 -> aw L (H j) := fun j hj => (hR j hj).2.1
 have hI : ∀ j, j <= b.length / 4 -> (H j)[i0]? = some [.sl 1 (af b) none .no] := fun j hj => (hR j hj).2.2
 have h0 := hL 0 (by omega)
 refine ab Ps mixed (by simp [Gq]) fun hh hargs => ?_
 rw [h0] at hh hargs ⊢
 simp at hargs
 simp [Gq]
 refine am (D := Nat) (fun j => ⟨[(0, .yld i r c slots), (1, .box i0 0), (3, .v (.int .i64 (4 * (j : Int))))], [], H j, wr⟩) (fun j => j <= b.length / 4) (fun j => b.length / 4 - j) 0 (by omega) ?_ ?_
 ·simp [Leq, hh, h0, hargs, ac]
 ·intro j hj
  simp [hI j hj]
  refine aa (by simp) (El b (4 * (j : Int)) 4 _) ?_
  by_cases hlt : j < b.length / 4
  ·have hw : IntKind.i64.wrap (4 * (j : Int) + 4) = 4 * (j : Int) + 4 := wrap64 (by omega) (by omega)
   rw [wC (by omega), Cd (by omega)]
   simp
   refine nx (by simp) (hY j hlt) ?_
   have h1 := hL j hj
   have h2 := hL (j + 1) (by omega)
   have h3 := hT (j + 1) (by omega)
   simp [hw]
   refine ⟨j + 1, by omega, by omega, ?_⟩
   have e1 : 4 * ((j : Int) + 1) = 4 * j + 4 := by omega
   simp [Leq, h0, h2, h3, hargs, ac, e1, sub_self]
  ·have : j = b.length / 4 := by omega
   subst this
   rw [Cr (by omega)]
   have h2 := hL _ hj
   have h3 := hT _ hj
   simp [h2, h3, ac, sub_self]
def sI (b : List UInt8) : Nat := (cJ b 0 4).toNat
def pP (b : List UInt8) : List UInt8 := (b.drop 4).take (sI b)
def pa (b : List UInt8) : List UInt8 := b.drop (4 + sI b)
def du (b : List UInt8) : Bool := decide (4 + sI b <= b.length) && (pa b).length % 4 == 0
def iR (b : List UInt8) : Sm := if du b = true then ⟨pP b, fw (pa b) ((pa b).length / 4)⟩ else ⟨[], []⟩
theorem CL (b : List UInt8) : cJ b 0 4 = (sI b : Int) := by
 have := (DA b 0 4 (by omega)).1
 unfold sI; omega
def sC (R : List UInt8) (i : Nat) : Nat -> AV
 | 0 => .sl 0 [] (some true) .exact
 | j + 1 => .sl 1 (ai ao (fw R (j + 1))) none (.own (.cell i 1))
def gW (b R : List UInt8) (h : List (List AV)) (j : Nat) : List (List AV) := h ++ [[.v (.string (ah [])), .sl 0 [] (some true) .exact], [.v (.string (ah (pP b))), sC R (h.length + 1) j], [.sl 1 (af R) none .no]]
theorem yI (b R : List UInt8) (h : List (List AV)) (j : Nat) : (gW b R h j).length = h.length + 3 := by simp [gW]
theorem C4 (R : List UInt8) (i n : Nat) : ∀ j, (sC R i j).lt n
 | 0 => by simp [sC]
 | j + 1 => by simp [sC]
theorem ur (b R : List UInt8) {h : List (List AV)} (hh : aw h.length h) (n : Nat) (hn : h.length <= n) (j : Nat) : aw n (gW b R h j) := by
 have := C4 R (h.length + 1) n j
 simp [gW, this, al hn hh]
theorem ze (b R : List UInt8) {h : List (List AV)} (hh : aw h.length h) (j : Nat) : RB (h.length + 2) R (h.length + 4) (gW b R h j ++ [aJ false false]) :=
 ⟨by simp [gW], by have := ur b R hh (h.length + 4) (by omega) j; simp [this], by simp [gW]⟩
theorem zW (b : List UInt8) (hb : b.length <= 100000) (h : List (List AV)) : Contract Tryz.prog 86 [.v (.string (ah b))] h (.tup [.agg (db (iR b)), .v (.bool (du b))]) h [] := by
 refine ab PT mixed (by simp [Mf]) fun hh hargs => ?_
 simp [Mf]
 refine ⟨by omega, ?_⟩
 refine aa (by simp) (El b 0 4 _) ?_
 by_cases h4 : 4 <= b.length
 ·have he : dJ b.length 0 4 = 0 := mZ (i := 0) (size := 4) sz4.szB (by omega)
  have hv : iY b 0 4 = (sI b : Int) := by
   unfold iY; rw [if_pos he]; exact CL b
  rw [he, hv]
  obtain ⟨L, hL⟩ : ∃ L, sI b = L := ⟨_, rfl⟩
  have hw4 : IntKind.i64.wrap ((b.length : Int) - 4) = (b.length : Int) - 4 := wrap64 (by omega) (by omega)
  by_cases h5 : 4 + L <= b.length
  ·have h5' : ¬ (b.length : Int) - 4 < (L : Int) := by omega
   have hw5 : IntKind.i64.wrap (4 + (L : Int)) = 4 + (L : Int) := wrap64 (by omega) (by omega)
   have hN : (4 + (L : Int)).toNat = 4 + L := by omega
   have hT : Rb 4 (List.take (4 + L) b) = pP b := by unfold pP; rw [hL, List.drop_take]; congr 1; omega
   obtain ⟨R, hR⟩ : ∃ R, Rb (4 + L) b = R := ⟨_, rfl⟩
   have hR' : pa b = R := by unfold pa; rw [hL]; exact hR
   have hRl : b.length - (4 + L) = R.length := by rw [<- hR]; simp
   obtain ⟨q, hq⟩ : ∃ q, R.length / 4 = q := ⟨_, rfl⟩
   simp [hL, hw4, h5', hw5, hN, hT, hR, hRl]
   refine ⟨⟨by omega, by omega⟩, ⟨by omega, by omega⟩, ?_⟩
   by_cases hm : R.length % 4 = 0
   ·have ho : du b = true := by unfold du; rw [hL, hR']; simp [hm]; omega
    have hm1 : (R.length : Int).tmod 4 = 0 := by rw [Q4 (by omega)]; omega
    have hq1 : (R.length : Int).tdiv 4 = (q : Int) := by rw [Int.tdiv_eq_ediv_of_nonneg (by omega)]; omega
    have hw6 : IntKind.i64.wrap (q : Int) = (q : Int) := wrap64 (by omega) (by omega)
    simp [hm1, hq1, hw6]
    refine aa (by simp) (yZ L q _) ?_
    have f1 : (L : Int) <= 1048576 := by omega
    have f2 : (q : Int) <= 65535 := by omega
    simp [f1, f2]
    refine aa (by simp) (AO R _) ?_
    simp
    subst hq
    refine vY (s9 R (by rw [<- hR]; simp; omega) (h.length + 2) (h.length + 4)) (gW b R h) [h.length + 1, h.length + 3] (by simp) (by simp) (fun _ => trivial) (fun _ => trivial) (by simp [gW, sC]) (fun j _ => by simp [yI]) (fun j _ => ze b R hh j) (by simpa using ur b R hh (h.length + 3) (by omega) _) (fun j hj => ⟨rfl, by simp, ?_⟩) ?_
    ·cases j with
     | zero =>
      have e1 : fw R 1 = [cJ R 0 4] := rfl
      simp [gW, sC]
      refine cP ?_
      simp [BG, stays, e1, ao, hh]
     | succ j =>
      have e1 := uA R (j + 1)
      simp [gW, sC, fL]
      refine ⟨by omega, by omega, ?_⟩
      simp [BG, stays, ao, hh, e1]
    ·have hk : iR b = ⟨pP b, fw R (R.length / 4)⟩ := by unfold iR; rw [if_pos ho, hR']
     rw [hk, ho]
     cases R.length / 4 with
     | zero =>
      simp [gW, sC, ue, aR, hh]
     | succ j =>
      simp [gW, sC, aR, hh]
   ·have ho : du b = false := by unfold du; rw [hL, hR']; simp [hm]
    have hm1 : ¬ (R.length : Int).tmod 4 = 0 := by rw [Q4 (by omega)]; omega
    have hm2 : ((R.length : Int).tmod 4 != 0) = true := by simpa using hm1
    simp [hm2, hh, iR, ho, aR]
  ·have h5' : (b.length : Int) - 4 < (L : Int) := by omega
   have ho : du b = false := by unfold du; rw [hL]; simp; omega
   simp [hL, hw4, h5', hh, iR, ho, aR]
 ·have he : dJ b.length 0 4 = 3 := jd (by rfl) (by omega) (by omega)
  have ho : du b = false := by unfold du; simp; omega
  rw [he]
  simp [hh, iR, ho, aR]
def tU (a b : Sm) : Bool := a.text == b.text && a.oids == b.oids
theorem zS (a b : Sm) : tU a b = decide (a = b) := by
 obtain ⟨a1, a2⟩ := a
 obtain ⟨b1, b2⟩ := b
 rw [Bool.eq_iff_iff]
 simp [tU]
theorem zL (a b : Sm) (hl : a.oids.length <= 140737488355328) (h : List (List AV)) : Contract Tryz.prog 89 [.agg (db a), .agg (db b)] h (.v (.bool (tU a b))) h [] := by
 refine ab P6 mixed (by simp [Lt]) fun hh hargs => ?_
 cases ht : a.text == b.text with
 | false => simp [Lt, ht, hh, tU]
 | true =>
  simp [Lt, ht]
  refine aa (by simp) (lR _ _ hl _) ?_
  simp [hh, tU, ht]
def xY (m : Sm) : Bool := decide ((m.text.length : Int) <= 1000) && decide ((m.oids.length : Int) <= 50)
theorem Cj {m : Sm} (h : xY m = true) : m.text.length <= 1000 /\ m.oids.length <= 50 := by
 unfold xY at h
 simp at h
 omega
theorem AB {m : Sm} (h : xY m = true) : (ce m).length <= 1300 := by
 obtain ⟨h1, h2⟩ := Cj h
 unfold ce
 split
 ·unfold keyBytes
  have h3 := jV (m.text.length : Int)
  have h4 := ig m.oids
  rw [Q0, Q0]; omega
 ·simp
theorem mR {m : Sm} (h : bb m = true) : du (ce m) = true /\ iR (ce m) = m := by
 have hk : ce m = aB 4 m.text.length ++ (m.text ++ cl m.oids) := by unfold ce; rw [if_pos h]; unfold keyBytes; rw [List.append_assoc]
 unfold bb sW at h
 simp only [Q1, decide_eq_true_eq] at h
 obtain ⟨h1, h2, h3⟩ := h
 have ho : qD (m.text.length : Int) = true := (mc _).2 (by omega)
 have h4 := jY ho
 have ha : ∀ n ∈ m.oids, qD n = true := fun n hn => List.all_eq_true.1 h3 n hn
 have h5 := rl ha
 have hL : sI (ce m) = m.text.length := by
  unfold sI
  rw [hk, pq _ _ _ _ (by omega), rC ho]; simp
 have hd : (ce m).drop 4 = m.text ++ cl m.oids := by rw [hk, show 4 = (aB 4 (m.text.length : Int)).length from h4.symm, Q7]
 have ht : pP (ce m) = m.text := by unfold pP; rw [hL, hd, List.take_left]
 have hr : pa (ce m) = cl m.oids := by unfold pa; rw [hL, <- Ra, hd, Q7]
 have hlen : (ce m).length = 4 + (m.text.length + (cl m.oids).length) := by rw [hk, Q0, Q0, h4]
 have hs : du (ce m) = true := by
  unfold du
  rw [hL, hr, Q1, decide_eq_true_eq, beq_iff_eq]
  omega
 refine ⟨hs, ?_⟩
 unfold iR
 rw [if_pos hs, ht, hr, show (cl m.oids).length / 4 = m.oids.length by omega, lH ha]
theorem nk {m : Sm} (h : bb m = false) : ce m = [] := by unfold ce; rw [h]; rfl
theorem mQ {m : Sm} (h : bb m = true) : ce m ≠ [] := fun e => by
 have hk : ce m = keyBytes m := by unfold ce; rw [if_pos h]
 rw [hk] at e
 unfold keyBytes at e
 unfold bb at h
 simp only [Q1, decide_eq_true_eq] at h
 have h4 := jY (n := m.text.length) ((mc _).2 (by omega))
 rw [Q6, Q6] at e
 rw [e.1.1] at h4
 cases h4
theorem y9 {a b : Sm} (ha : bb a = true) (hb : bb b = true) : ce a = ce b ↔ a = b := by
 constructor
 ·intro e
  have h1 := (mR ha).2
  rw [e, (mR hb).2] at h1
  exact h1.symm
 ·rintro rfl; rfl
end Go.Proofs.YtdfgljojemmlcaaGreat.Ax
