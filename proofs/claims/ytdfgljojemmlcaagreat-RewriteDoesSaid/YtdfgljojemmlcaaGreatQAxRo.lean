import Derived.Test.YtdfgljojemmlcaaGreatQAxKh
set_option linter.unusedSimpArgs false
set_option linter.unusedVariables false
open List renaming getElem?_append_left -> Q0, getElem?_set_ne -> Q1, getElem?_eq_some_iff -> Q2, getElem?_set_self -> Q3, mem_map -> Q4, mem_singleton -> Q5, length_append -> Q6, set_append_left -> Q7, getElem?_append_right -> Q8, find?_eq_none -> Q9, map_congr_left -> Ra, length_set -> Rb, mem_append -> Rc, flatten_cons -> Rd, map_append -> Re, getElem_mem -> Ri, map_map -> Rj, length_flatten -> Rk, nodup_append -> Rm, mem_of_find?_eq_some -> Rn, getElem?_take_of_lt -> Rr, length -> Rt, take_of_length_le -> Ru, getElem?_eq_none -> Rv, mem_of_getElem? -> Rw, mem_cons -> Rx, getElem_of_mem -> Ry, getElem?_drop -> RA, length_cons -> RE, mem_flatten -> RF, find?_some -> RG, set_set -> RH
open Function renaming comp -> Rf
open Nat renaming le_add_right -> Rh, le_succ -> Rl, le_trans -> Ro, mul_comm -> Rp, lt_succ_iff_lt_or_eq -> Rq, add_zero -> Rz, le_refl -> RD
namespace Go.Proofs.YtdfgljojemmlcaaGreat.Ax
open Go.RowKit Go By
def Ox:XFun:=⟨5,.seq (.ops [oK 0 (.pointer none)]) (.seq (.ops [oX 1 (.makeMap 1 true),oX 2 (.makeMap 1 true),oX 3 (.build [.v (.map none),.v (.map none),.v (.int .i64 0)] [(0,1,.tmp 1),(1,1,.tmp 2)]),oJ 4 3,oA 0 4]) .ret),[.move (.tmp 0)]⟩
theorem QK : ak Tryz.prog 18 = some Ox := by kernel_rfl
def GP:XFun:=⟨48,.seq (.ops [oJ 3 1,oK 4 (.int .i64 0)]) (.seq (.seq (.ops [oM 8 0,oX 9 (.pnileq false (.tmp 8)),oM 10 9,oG 10 false (oM 11 0),oG 10 false (oX 12 (.nilCheck (.tmp 11))),oG 10 false (oF 13 0 12),oG 10 false (oL 14 13),oG 10 false (oX 15 (.mnileq false (.tmp 14))),oU 16 10 15]) (.cond (.tmp 16) (.seq (.ops [oK 4 (.int .i64 0)]) .ret) .skip)) (.seq (.ops [oP 17 2 3,oC 18 46 [17],oA 5 18]) (.seq (.seq (.ops [oM 19 5,oI 20 .eql 19 (.string (ah []))]) (.cond (.tmp 20) (.seq (.ops [oK 4 (.int .i64 0)]) .ret) .skip)) (.seq (.ops [oM 22 0,oX 23 (.nilCheck (.tmp 22)),oF 24 1 23,oL 25 24,oM 26 5,oX 27 (.lookup none 1 true true z9 (.tmp 25) (.tmp 26)),oM 21 27,oE 28 21 0,oE 29 21 1,oA 6 28,oA 7 29]) (.seq (.seq (.ops [oM 30 7,oV 31 30]) (.cond (.tmp 31) (.ops [oM 32 0,oM 33 5,oC 34 47 [32,33],oA 6 34]) .skip)) (.seq (.ops [oM 35 0,oX 36 (.nilCheck (.tmp 35)),oF 37 0 36,oL 38 37,oM 39 6,oX 40 (.lookup (some .i64) 1 true false [.v (.pointer none)] (.tmp 38) (.tmp 39)),oX 41 (.nilCheck (.tmp 40)),oF 42 2 41,oL 43 42,oI 44 .add 43 (.int .i64 1),oX 45 (.nilCheck (.tmp 40)),oF 46 2 45,oS 1 46 44]) (.seq (.ops [oM 47 6,oA 4 47]) .ret))))))),[.move (.tmp 4)]⟩
theorem Nj : ak Tryz.prog 21 = some GP := by kernel_rfl
def y8:XFun:=⟨18,.seq (.ops [oK 4 (.bool false)]) (.seq (.ops [oM 6 0,oM 7 1,oC 8 42 [6,7],oA 5 8]) (.seq (.seq (.ops [oM 9 5,oX 10 (.pnileq false (.tmp 9))]) (.cond (.tmp 10) (.seq (.ops [oK 4 (.bool false)]) .ret) .skip)) (.seq (.ops [oM 11 5,oX 12 (.nilCheck (.tmp 11)),oF 13 2 12,oL 14 13,oI 15 .add 14 (.int .i64 1),oX 16 (.nilCheck (.tmp 11)),oF 17 2 16,oS 1 17 15]) (.seq (.ops [oK 4 (.bool true)]) .ret)))),[.move (.tmp 4)]⟩
theorem Kg : ak Tryz.prog 121 = some y8 := by kernel_rfl
def OL:XFun:=⟨25,.seq (.ops [oZ 4 z3,oK 5 (.bool false)]) (.seq (.ops [oM 7 0,oM 8 1,oC 9 42 [7,8],oA 6 9]) (.seq (.seq (.ops [oM 10 6,oX 11 (.pnileq false (.tmp 10))]) (.cond (.tmp 11) (.seq (.ops [oX 12 (.build z3 []),oS 2 4 12,oK 5 (.bool false)]) .ret) .skip)) (.seq (.draws (.take (oM 13 6) (.take (oX 14 (.nilCheck (.tmp 13))) (.take (oF 15 0 14) (.take (oF 16 0 15) (.take (oL 17 16) (.take (oM 18 6) (.take (oX 19 (.nilCheck (.tmp 18))) (.take (oF 20 0 19) (.take (oF 21 1 20) (.take (oL 22 21) (.only (oC 23 53 [22]) (.take (oX 24 (.build z3 [(0,1,.tmp 17),(1,1,.tmp 23)])) (.only (oS 2 4 24) (.take (oK 5 (.bool true)) .done))))))))))))))) .ret))),[.loadN 2 (.tmp 4),.move (.tmp 5)]⟩
theorem P9 : ak Tryz.prog 65 = some OL := by kernel_rfl
def Od:XFun:=⟨15,.seq (.ops [oK 4 (.int .i64 0)]) (.seq (.ops [oM 6 0,oM 7 1,oC 8 42 [6,7],oA 5 8]) (.seq (.seq (.ops [oM 9 5,oX 10 (.pnileq false (.tmp 9))]) (.cond (.tmp 10) (.seq (.ops [oK 4 (.int .i64 0)]) .ret) .skip)) (.seq (.ops [oM 11 5,oX 12 (.nilCheck (.tmp 11)),oF 13 2 12,oL 14 13,oA 4 14]) .ret))),[.move (.tmp 4)]⟩
theorem Qb : ak Tryz.prog 14 = some Od := by kernel_rfl
def MT:XFun:=⟨10,.seq (.ops [oK 2 (.int .i64 0)]) (.seq (.seq (.ops [oM 3 0,oX 4 (.pnileq false (.tmp 3))]) (.cond (.tmp 4) (.seq (.ops [oK 2 (.int .i64 0)]) .ret) .skip)) (.seq (.ops [oM 5 0,oX 6 (.nilCheck (.tmp 5)),oF 7 0 6,oL 8 7,oX 9 (.lenM 1 true (.tmp 8)),oA 2 9]) .ret)),[.move (.tmp 2)]⟩
theorem QO : ak Tryz.prog 16 = some MT := by kernel_rfl
def Ml:XFun:=⟨13,.seq (.ops [oK 4 (.pointer none)]) (.seq (.seq (.ops [oM 5 0,oX 6 (.pnileq false (.tmp 5))]) (.cond (.tmp 6) (.seq (.ops [oK 4 (.pointer none)]) .ret) .skip)) (.seq (.ops [oM 7 0,oX 8 (.nilCheck (.tmp 7)),oF 9 0 8,oL 10 9,oM 11 1,oX 12 (.lookup (some .i64) 1 true false [.v (.pointer none)] (.tmp 10) (.tmp 11)),oA 4 12]) .ret)),[.move (.tmp 4)]⟩
theorem Qk : ak Tryz.prog 42 = some Ml := by kernel_rfl
def NN:XFun:=⟨43,.seq (.ops [oK 4 (.int .i64 0)]) (.seq (.ops [oM 8 1,oC 9 86 [8],oM 7 9,oE 10 7 0,oE 11 7 1,oZ 5 z3,oS 2 5 10,oA 6 11]) (.seq (.ops [oM 12 0,oX 13 (.nilCheck (.tmp 12)),oF 14 2 13,oL 15 14,oI 16 .add 15 (.int .i64 1),oX 17 (.nilCheck (.tmp 12)),oF 18 2 17,oS 1 18 16]) (.seq (.draws (.take (oM 19 0) (.take (oX 20 (.nilCheck (.tmp 19))) (.take (oF 21 0 20) (.take (oL 22 21) (.take (oM 23 0) (.take (oX 24 (.nilCheck (.tmp 23))) (.take (oF 25 2 24) (.take (oL 26 25) (.take (oP 27 2 5) (.take (oX 28 (.build [.v (.string (ah [])),.sl 0 [] (some true) .exact,.v (.int .i64 0)] [(0,2,.tmp 27)])) (.only (oJ 29 28) (.last ⟨none,.mapUpd (some .i64) 1 true (.tmp 22) (.tmp 26) (.tmp 29),none⟩))))))))))))) (.seq (.draws (.take (oM 30 0) (.take (oX 31 (.nilCheck (.tmp 30))) (.take (oF 32 1 31) (.take (oL 33 32) (.take (oM 34 1) (.take (oM 35 0) (.take (oX 36 (.nilCheck (.tmp 35))) (.take (oF 37 2 36) (.take (oL 38 37) (.last ⟨none,.mapUpd none 1 true (.tmp 33) (.tmp 34) (.tmp 38),none⟩))))))))))) (.seq (.ops [oM 39 0,oX 40 (.nilCheck (.tmp 39)),oF 41 2 40,oL 42 41,oA 4 42]) .ret))))),[.move (.tmp 4)]⟩
theorem QG : ak Tryz.prog 47 = some NN := by kernel_rfl
def Mt:XFun:=⟨26,.seq (.ops [oK 4 (.int .i64 0)]) (.seq (.seq (.ops [oK 5 (.int .i64 0)]) (.block 0 (.loop (.seq (.seq (.ops [oM 6 5,oM 7 0,oX 8 (.nilCheck (.tmp 7)),oF 9 0 8,oL 10 9,oH 11 10,oB 12 .lss 6 11]) (.cond (.tmp 12) .skip (.exit 0))) (.seq (.block 1 (.seq (.ops [oM 15 0,oX 16 (.nilCheck (.tmp 15)),oF 17 0 16,oL 18 17,oM 19 5,oW 20 4 18 19,oF 21 0 20,oL 22 21,oM 23 1,oB 24 .eql 22 23]) (.cond (.tmp 24) (.seq (.ops [oM 25 5,oA 4 25]) .ret) .skip))) (.ops [oM 13 5,oI 14 .add 13 (.int .i64 1),oA 5 14])))))) (.seq (.ops [oK 4 (.int .i64 (-1))]) .ret)),[.move (.tmp 4)]⟩
theorem Qs : ak Tryz.prog 43 = some Mt := by kernel_rfl
def O6:XFun:=⟨34,.seq (.ops [oJ 3 1,oK 4 (.int .i64 0),oK 5 (.bool false)]) (.seq (.seq (.ops [oK 6 (.int .i64 0)]) (.block 0 (.loop (.seq (.seq (.ops [oM 7 6,oM 8 0,oX 9 (.nilCheck (.tmp 8)),oF 10 0 9,oL 11 10,oH 12 11,oB 13 .lss 7 12]) (.cond (.tmp 13) .skip (.exit 0))) (.seq (.block 1 (.seq (.draws (.take (oM 16 0) (.take (oX 17 (.nilCheck (.tmp 16))) (.take (oF 18 0 17) (.take (oL 19 18) (.take (oM 20 6) (.take (oW 21 4 19 20) (.take (oF 22 2 21) (.take (oP 23 2 22) (.take (oP 24 2 3) (.only (oC 25 89 [23,24]) .done))))))))))) (.cond (.tmp 25) (.seq (.ops [oM 26 0,oX 27 (.nilCheck (.tmp 26)),oF 28 0 27,oL 29 28,oM 30 6,oW 31 4 29 30,oF 32 0 31,oL 33 32,oA 4 33,oK 5 (.bool true)]) .ret) .skip))) (.ops [oM 14 6,oI 15 .add 14 (.int .i64 1),oA 6 15])))))) (.seq (.ops [oK 4 (.int .i64 0),oK 5 (.bool false)]) .ret)),[.move (.tmp 4),.move (.tmp 5)]⟩
theorem QF : ak Tryz.prog 49 = some O6 := by kernel_rfl
def Df:XFun:=⟨52,.seq (.ops [oJ 3 1,oK 4 (.int .i64 0)]) (.seq (.seq (.ops [oP 7 2 3,oC 8 48 [7],oI 9 .eql 8 (.string (ah []))]) (.cond (.tmp 9) (.seq (.ops [oK 4 (.int .i64 0)]) .ret) .skip)) (.seq (.seq (.ops [oM 11 0,oP 12 2 3,oC 13 49 [11,12],oM 10 13,oE 14 10 0,oE 15 10 1,oA 5 14,oA 6 15]) (.seq (.ops [oM 16 6]) (.cond (.tmp 16) (.seq (.ops [oM 17 0,oM 18 5,oC 19 50 [17,18]]) (.seq (.ops [oM 20 5,oA 4 20]) .ret)) .skip))) (.seq (.ops [oM 21 0,oX 22 (.nilCheck (.tmp 21)),oF 23 1 22,oL 24 23,oI 25 .add 24 (.int .i64 1),oX 26 (.nilCheck (.tmp 21)),oF 27 1 26,oS 1 27 25]) (.seq (.draws (.take (oM 28 0) (.take (oM 29 0) (.take (oX 30 (.nilCheck (.tmp 29))) (.take (oF 31 0 30) (.take (oL 32 31) (.take (oM 33 0) (.take (oX 34 (.nilCheck (.tmp 33))) (.take (oF 35 1 34) (.take (oL 36 35) (.take (oF 37 0 3) (.take (oL 38 37) (.take (oF 39 1 3) (.take (oL 40 39) (.only (oX 41 (.append 1 8 (.const (.slice none 0 0)) (.tmp 40))) (.take (oX 42 (.build z3 [(0,1,.tmp 38),(1,1,.tmp 41)])) (.take (oX 43 (.build Oo [(0,1,.tmp 36),(1,1,.const (.int .i64 1)),(2,2,.tmp 42)])) (.only (oR 44 4 1 43 Oo) (.only (oX 45 (.append 4 56 (.tmp 32) (.tmp 44))) (.take (oX 46 (.nilCheck (.tmp 28))) (.take (oF 47 0 46) (.last (oS 1 47 45))))))))))))))))))))))) (.seq (.ops [oM 48 0,oX 49 (.nilCheck (.tmp 48)),oF 50 1 49,oL 51 50,oA 4 51]) .ret))))),[.move (.tmp 4)]⟩
theorem K5 : ak Tryz.prog 22 = some Df := by kernel_rfl
def J3:XFun:=⟨22,.seq (.ops [oK 4 (.bool false)]) (.seq (.ops [oM 6 0,oM 7 1,oC 8 43 [6,7],oA 5 8]) (.seq (.seq (.ops [oM 9 5,oI 10 .lss 9 (.int .i64 0)]) (.cond (.tmp 10) (.seq (.ops [oK 4 (.bool false)]) .ret) .skip)) (.seq (.ops [oM 11 0,oX 12 (.nilCheck (.tmp 11)),oF 13 0 12,oL 14 13,oM 15 5,oW 16 4 14 15,oF 17 1 16,oL 18 17,oI 19 .add 18 (.int .i64 1),oW 20 4 14 15,oF 21 1 20,oS 1 21 19]) (.seq (.ops [oK 4 (.bool true)]) .ret)))),[.move (.tmp 4)]⟩
theorem PG : ak Tryz.prog 50 = some J3 := by kernel_rfl
def Md:XFun:=⟨21,.seq (.ops [oZ 4 z3,oK 5 (.bool false)]) (.seq (.ops [oM 7 0,oM 8 1,oC 9 43 [7,8],oA 6 9]) (.seq (.seq (.ops [oM 10 6,oI 11 .lss 10 (.int .i64 0)]) (.cond (.tmp 11) (.seq (.ops [oX 12 (.build z3 []),oS 2 4 12,oK 5 (.bool false)]) .ret) .skip)) (.seq (.ops [oM 13 0,oX 14 (.nilCheck (.tmp 13)),oF 15 0 14,oL 16 15,oM 17 6,oW 18 4 16 17,oF 19 2 18,oP 20 2 19,oS 2 4 20,oK 5 (.bool true)]) .ret))),[.loadN 2 (.tmp 4),.move (.tmp 5)]⟩
theorem P3 : ak Tryz.prog 75 = some Md := by kernel_rfl
def ON:XFun:=⟨19,.seq (.ops [oK 4 (.int .i64 0)]) (.seq (.ops [oM 6 0,oM 7 1,oC 8 43 [6,7],oA 5 8]) (.seq (.seq (.ops [oM 9 5,oI 10 .lss 9 (.int .i64 0)]) (.cond (.tmp 10) (.seq (.ops [oK 4 (.int .i64 0)]) .ret) .skip)) (.seq (.ops [oM 11 0,oX 12 (.nilCheck (.tmp 11)),oF 13 0 12,oL 14 13,oM 15 5,oW 16 4 14 15,oF 17 1 16,oL 18 17,oA 4 18]) .ret))),[.move (.tmp 4)]⟩
theorem Qm : ak Tryz.prog 15 = some ON := by kernel_rfl
end Go.Proofs.YtdfgljojemmlcaaGreat.Ax
namespace Go.Proofs.YtdfgljojemmlcaaGreat.Ax
open Go.RowKit Go By
set_option maxRecDepth 10000
structure Sl where
 id : Nat
 refs : Nat
 st : Sm
 box : Nat
def Sl.cells (s : Sl) : List AV := [.v (.string (ah s.st.text)), .sl 1 (ai ao s.st.oids) none .no, .v (.int .i64 (s.refs : Int))]
theorem Sl.cells_mk (s : Sl) : s.cells = [.v (.string (ah s.st.text)), .sl 1 (ai ao s.st.oids) none .no, .v (.int .i64 (s.refs : Int))] := rfl
def Sl.recE (s : Sl) : AEnt := ⟨.int .i64 (s.id : Int), s.id - 1, [.box s.box 0]⟩
def Sl.ent (s : Sl) : AEnt := ⟨.string (ah (ce s.st)), s.id - 1, [.v (.int .i64 (s.id : Int))]⟩
structure Rg where
 a : Nat
 b : Nat
 last : Nat
 l : List Sl
def Rg.top (R : Rg) : List AV := [.mp R.a 1 true, .mp R.b 1 true, .v (.int .i64 (R.last : Int))]
theorem Rg.top_mk (R : Rg) : R.top = [.mp R.a 1 true, .mp R.b 1 true, .v (.int .i64 (R.last : Int))] := rfl
def Rg.find (R : Rg) (id : Int) : Option Sl := R.l.find? fun s => decide ((s.id : Int) = id)
def Rg.findS (R : Rg) (m : Sm) : Option Sl := R.l.find? fun s => decide (s.st = m)
structure RegAt (lo : Nat) (h : List (List AV)) (i : Nat) (R : Rg) : Prop where
 top : h[i]? = some R.top
 recs : h[R.a]? = some (bU R.last (R.l.map Sl.recE))
 ids : h[R.b]? = some (bU R.last (R.l.map Sl.ent))
 at_ : ∀ s ∈ R.l, h[s.box]? = some s.cells
 low : lo <= i /\ lo <= R.a /\ lo <= R.b /\ ∀ s ∈ R.l, lo <= s.box
 apart : i ≠ R.a /\ i ≠ R.b /\ R.a ≠ R.b /\ ∀ s ∈ R.l, s.box ≠ i /\ s.box ≠ R.a /\ s.box ≠ R.b
 boxes : (R.l.map Sl.box).Nodup
 lt : aw h.length h
structure RgOk (n : Nat) (R : Rg) : Prop where
 rise : (R.l.map Sl.id).Pairwise (· < ·)
 ids : ∀ s ∈ R.l, 1 <= s.id /\ s.id <= R.last
 refs : ∀ s ∈ R.l, 1 <= s.refs /\ s.refs <= n
 key : ∀ s ∈ R.l, bb s.st = true
 one : (R.l.map Sl.st).Nodup
 short : ∀ s ∈ R.l, s.st.text.length <= 1000 /\ s.st.oids.length <= 1000
 last : R.last <= n
theorem lV (R : Rg) : mapOf 1 (bU R.last (R.l.map Sl.recE)) = some (R.last, R.l.map Sl.recE) := lv fun e he => by obtain ⟨s, _, rfl⟩ := Q4.1 he; rfl
theorem ents_of (R : Rg) : mapOf 1 (bU R.last (R.l.map Sl.ent)) = some (R.last, R.l.map Sl.ent) := lv fun e he => by obtain ⟨s, _, rfl⟩ := Q4.1 he; rfl
theorem il (l : List Sl) : gQ (some .i64) (l.map Sl.recE) := fun e he => by
 obtain ⟨s, _, rfl⟩ := Q4.1 he
 exact ⟨vP _ _, fun c hc => by rw [Q5.1 hc]; rfl⟩
theorem ents_keys (l : List Sl) : gQ none (l.map Sl.ent) := fun e he => by
 obtain ⟨s, _, rfl⟩ := Q4.1 he
 exact ⟨rfl, fun c hc => by rw [Q5.1 hc]; rfl⟩
theorem xl (id : Int) (l : List Sl) : ∀ s ∈ l, dS (.int .i64 id) s.recE.key = decide ((s.id : Int) = id) := fun s _ => xK id s.id
theorem iG (m : Sm) {l : List Sl} (hk : ∀ s ∈ l, bb s.st = true) : ∀ s ∈ l, dS (.string (ah (ce m))) s.ent.key = decide (s.st = m) := fun s hs => by
 show dS (.string (ah (ce m))) (.string (ah (ce s.st))) = _
 rw [rj, Bool.eq_iff_iff]
 cases hm : bb m with
 | true =>
  have := y9 hm (hk s hs)
  simp [this]
  exact eq_comm
 | false =>
  rw [nk hm]
  have h1 := mQ (hk s hs)
  constructor
  ·intro h; exact absurd (by simpa using h : [] = ce s.st).symm h1
  ·intro h
   have e : s.st = m := by simpa using h
   rw [<- e, hk s hs] at hm
   cases hm
def ji : Option Sl -> AV
 | some s => .box s.box 0
 | none => .v (.pointer none)
theorem mB (R : Rg) (id : Int) : found true false [.v (.pointer none)] (AEnt.find (.int .i64 id) (R.l.map Sl.recE) 0) = ji (R.find id) := by
 rw [jQ 0 (xl id R.l)]
 unfold Rg.find
 cases R.l.find? (fun s => decide ((s.id : Int) = id)) <;> rfl
theorem bh {R : Rg} {id : Int} {s : Sl} (h : R.find id = some s) : s ∈ R.l /\ (s.id : Int) = id := ⟨Rn h, by simpa using RG h⟩
theorem j3 {R : Rg} {m : Sm} {s : Sl} (h : R.findS m = some s) : s ∈ R.l /\ s.st = m := ⟨Rn h, by simpa using RG h⟩
section
variable {lo : Nat} {h : List (List AV)} {i : Nat} {R : Rg}
theorem RegAt.box_lt (hr : RegAt lo h i R) {s : Sl} (hs : s ∈ R.l) : s.box < h.length := (Q2.1 (hr.at_ s hs)).1
theorem RegAt.i_lt (hr : RegAt lo h i R) : i < h.length := (Q2.1 hr.top).1
theorem n7 (hr : RegAt lo h i R) (id : Int) : Contract Tryz.prog 42 [.box i 0, .v (.int .i64 id)] h (ji (R.find id)) h [] := by
 have h1 := hr.top
 have h2 := hr.recs
 have h3 := lV R
 have h4 := il R.l
 have h5 := mB R id
 rw [Rg.top_mk] at h1
 refine ab Qk mixed (by simp [Ml]) fun hh hargs => ?_
 simp [Ml, h1, h2, h3, h4, h5]
 cases hf : R.find id with
 | none => simp [ji, hh]
 | some s =>
  have := hr.box_lt (bh hf).1
  simp [ji, hh, this]
end
theorem Ai (l : List Int) (hl : l.length <= 1000000) (h : List (List AV)) : Contract Tryz.prog 53 [.sl 1 (ai ao l) none .no] h (.sl 1 (ai ao l) none .no) h [] := by
 refine lW (pre := []) (post := []) (fun he => ?_) ?_
 ·have : l = [] := by cases l with | nil => rfl | cons _ _ => simp [ai] at he
  subst this
  refine ab KX mixed (by simp [Dk]) fun hh hargs => ?_
  simp [Dk, hh, ai]
 ·refine ab KX mixed (by simp [Dk]) fun hh hargs => ?_
  simp [Dk, hh]
  refine cP ?_
  simp [hh]
  omega
def mH : Option Sl -> Sm
 | some s => s.st
 | none => ⟨[], []⟩
def refsOf : Option Sl -> Nat
 | some s => s.refs
 | none => 0
def kx : Option Sl -> Nat
 | some s => s.id
 | none => 0
section
variable {lo : Nat} {h : List (List AV)} {i : Nat} {R : Rg}
theorem RegAt.move (hr : RegAt lo h i R) {h' : List (List AV)} (hk : ∀ k, lo <= k -> k < h.length -> h'[k]? = h[k]?) (hlt : aw h'.length h') : RegAt lo h' i R := by
 have at_ : ∀ {k : Nat} {x : List AV}, lo <= k -> h[k]? = some x -> h'[k]? = some x := fun {k x} h1 h2 => by
  rw [hk k h1 (Q2.1 h2).1]; exact h2
 exact ⟨at_ hr.low.1 hr.top, at_ hr.low.2.1 hr.recs, at_ hr.low.2.2.1 hr.ids, fun s hs => at_ (hr.low.2.2.2 s hs) (hr.at_ s hs), hr.low, hr.apart, hr.boxes, hlt⟩
theorem RegAt.app (hr : RegAt lo h i R) (xs : List (List AV)) (hx : aw (h.length + xs.length) xs) : RegAt lo (h ++ xs) i R :=
 hr.move (fun k _ hk => Q0 hk) (by rw [bF, Q6]; exact ⟨al (Rh _ _) hr.lt, hx⟩)
theorem Ff (hr : RegAt lo h i R) {n : Nat} (ho : RgOk n R) (id : Int) : Contract Tryz.prog 65 [.box i 0, .v (.int .i64 id)] h (.tup [.agg (db (mH (R.find id))), .v (.bool (R.find id).isSome)]) h [] := by
 refine ab P9 mixed (by simp [OL]) fun hh hargs => ?_
 simp [OL]
 have hr2 : RegAt lo (h ++ [[.v (.string (ah [])), .sl 0 [] (some true) .exact]]) i R := hr.app _ (by simp)
 refine aa (by simp) (n7 hr2 id) ?_
 cases hs : R.find id with
 | none => simp [ji, mH, aR, hh]
 | some s =>
  have hb := hr.box_lt (bh hs).1
  have hc := hr.at_ s (bh hs).1
  have hc2 : (h ++ [[.v (.string (ah [])), .sl 0 [] (some true) .exact]])[s.box]? = some s.cells := by rw [Q0 hb]; exact hc
  rw [Sl.cells_mk] at hc2
  have hne : ¬ s.box = h.length := by omega
  simp [ji, hc2, hne]
  refine aa (by simp) (Ai s.st.oids (by have := (ho.short s (bh hs).1).2; omega) _) ?_
  simp [mH, aR, hh, hne]
theorem wE (hr : RegAt lo h i R) (id : Int) : Contract Tryz.prog 14 [.box i 0, .v (.int .i64 id)] h (.v (.int .i64 (refsOf (R.find id) : Int))) h [] := by
 refine ab Qb mixed (by simp [Od]) fun hh hargs => ?_
 simp [Od]
 refine aa (by simp) (n7 hr id) ?_
 cases hs : R.find id with
 | none => simp [ji, refsOf, hh]
 | some s =>
  have hb := hr.box_lt (bh hs).1
  have hc := hr.at_ s (bh hs).1
  rw [Sl.cells_mk] at hc
  simp [ji, hc, refsOf, hh]
theorem Fu (hr : RegAt lo h i R) : Contract Tryz.prog 16 [.box i 0] h (.v (.int .i64 (R.l.length : Int))) h [] := by
 have h1 := hr.top
 have h2 := hr.recs
 have h3 := lV R
 rw [Rg.top_mk] at h1
 refine ab QO mixed (by simp [MT]) fun hh hargs => ?_
 simp [MT, h1, h2, h3, hh]
theorem x7 (R : Rg) (m : Sm) (hk : ∀ s ∈ R.l, bb s.st = true) : found true true [.v (.int .i64 0)] (AEnt.find (.string (ah (ce m))) (R.l.map Sl.ent) 0) = .tup [.v (.int .i64 (kx (R.findS m) : Int)), .v (.bool (R.findS m).isSome)] := by
 rw [jQ 0 (iG m hk)]
 unfold Rg.findS
 cases R.l.find? (fun s => decide (s.st = m)) <;> rfl
end
theorem Sl.cells_plain (s : Sl) : ∀ c ∈ s.cells, c.idOf = none := by intro c hc; rw [Sl.cells_mk] at hc; simp at hc; rcases hc with rfl | rfl | rfl <;> rfl
theorem u5 (k : Nat) (l : List Sl) : ∀ c ∈ bU k (l.map Sl.recE), c.idOf = none := jS fun e he c hc => (il l e he).2 c hc
theorem pj (k : Nat) (l : List Sl) : ∀ c ∈ bU k (l.map Sl.ent), c.idOf = none := jS fun e he c hc => (ents_keys l e he).2 c hc
def Rg.touch (R : Rg) (i : Nat) : List Nat := i :: R.a :: R.b :: R.l.map Sl.box
def Rg.upd (R : Rg) (id n : Nat) : Rg := { R with l := R.l.map fun x => if x.id = id then { x with refs := n } else x }
def Rg.del (R : Rg) (id : Nat) : Rg := { R with l := R.l.eraseP fun x => decide (x.id = id) }
def Rg.add (R : Rg) (m : Sm) (box : Nat) : Rg := { R with last := R.last + 1, l := R.l ++ [⟨R.last + 1, 0, m, box⟩] }
theorem Rg.upd_recs (R : Rg) (id n : Nat) : (R.upd id n).l.map Sl.recE = R.l.map Sl.recE := by
 unfold Rg.upd
 rw [Rj]
 refine Ra fun x _ => ?_
 simp only [Rf]
 split <;> rfl
theorem Rg.upd_ents (R : Rg) (id n : Nat) : (R.upd id n).l.map Sl.ent = R.l.map Sl.ent := by
 unfold Rg.upd
 rw [Rj]
 refine Ra fun x _ => ?_
 simp only [Rf]
 split <;> rfl
theorem Rg.upd_boxes (R : Rg) (id n : Nat) : (R.upd id n).l.map Sl.box = R.l.map Sl.box := by
 unfold Rg.upd
 rw [Rj]
 refine Ra fun x _ => ?_
 simp only [Rf]
 split <;> rfl
theorem Rg.upd_ids (R : Rg) (id n : Nat) : (R.upd id n).l.map Sl.id = R.l.map Sl.id := by
 unfold Rg.upd
 rw [Rj]
 refine Ra fun x _ => ?_
 simp only [Rf]
 split <;> rfl
theorem Rg.upd_sts (R : Rg) (id n : Nat) : (R.upd id n).l.map Sl.st = R.l.map Sl.st := by
 unfold Rg.upd
 rw [Rj]
 refine Ra fun x _ => ?_
 simp only [Rf]
 split <;> rfl
theorem Rg.upd_touch (R : Rg) (id n i : Nat) : (R.upd id n).touch i = R.touch i := by
 unfold Rg.touch
 rw [Rg.upd_boxes]
 rfl
theorem RgOk.idsN {n : Nat} {R : Rg} (ho : RgOk n R) : (R.l.map Sl.id).Nodup := ho.rise.imp fun h => Nat.ne_of_lt h
section
variable {lo : Nat} {h : List (List AV)} {i : Nat} {R : Rg}
theorem Sl.cells_lt (s : Sl) (n : Nat) : dP n s.cells := by simp [Sl.cells_mk]
theorem RegAt.upd (hr : RegAt lo h i R) (hid : (R.l.map Sl.id).Nodup) {s : Sl} (hs : s ∈ R.l) (n : Nat) : RegAt lo (h.set s.box ({ s with refs := n } : Sl).cells) i (R.upd s.id n) := by
 have hb := hr.apart.2.2.2 s hs
 refine ⟨?_, ?_, ?_, fun x hx => ?_, ⟨hr.low.1, hr.low.2.1, hr.low.2.2.1, fun x hx => ?_⟩, ⟨hr.apart.1, hr.apart.2.1, hr.apart.2.2.1, fun x hx => ?_⟩, ?_, ?_⟩
 ·rw [Q1 hb.1]; exact hr.top
 ·rw [Rg.upd_recs]
  show (h.set s.box _)[R.a]? = _
  rw [Q1 hb.2.1]; exact hr.recs
 ·rw [Rg.upd_ents]
  show (h.set s.box _)[R.b]? = _
  rw [Q1 hb.2.2]; exact hr.ids
 ·obtain ⟨y, hy, rfl⟩ := Q4.1 hx
  by_cases e : y.id = s.id
  ·have := cO hid hy hs e
   subst this
   simp only [if_true]
   rw [Q3 (hr.box_lt hs)]
  ·simp only [if_neg e]
   have hne : s.box ≠ y.box := fun e2 => e (by rw [cO hr.boxes hs hy e2])
   rw [Q1 hne]
   exact hr.at_ y hy
 ·have : x.box ∈ (R.upd s.id n).l.map Sl.box := Q4.2 ⟨x, hx, rfl⟩
  rw [Rg.upd_boxes] at this
  obtain ⟨y, hy, e⟩ := Q4.1 this
  rw [<- e]; exact hr.low.2.2.2 y hy
 ·have : x.box ∈ (R.upd s.id n).l.map Sl.box := Q4.2 ⟨x, hx, rfl⟩
  rw [Rg.upd_boxes] at this
  obtain ⟨y, hy, e⟩ := Q4.1 this
  rw [<- e]; exact hr.apart.2.2.2 y hy
 ·rw [Rg.upd_boxes]; exact hr.boxes
 ·rw [Rb]; exact aN hr.lt (Sl.cells_lt _ _)
def OD (f : FuncId) (args : List AV) (lo : Nat) (h : List (List AV)) (i : Nat) (R : Rg) (r : AV) (R' : Rg) : Prop :=
 ∃ h', Contract Tryz.prog f args h r h' (R.touch i) /\ RegAt lo h' i R' /\ h.length <= h'.length /\ (∀ k < h.length, k ∉ R.touch i -> h'[k]? = h[k]?) /\ (aQ h -> aQ h')
def Rg.ref (R : Rg) (id : Int) : Rg := match R.find id with
 | some s => R.upd s.id (s.refs + 1)
 | none => R
theorem ul {n clock : Nat} {l : List AEnt} (h : ∀ e ∈ l, ∀ c ∈ e.cells, c.lt n) : dP n (bU clock l) := by
 refine em fun j c hj => ?_
 have hc := Rw hj
 unfold bU at hc
 simp only [Rx, List.mem_flatMap] at hc
 rcases hc with rfl | rfl | ⟨e, he, hc⟩
 ·simp
 ·simp
 ·unfold AEnt.avs at hc
  simp only [Rx] at hc
  rcases hc with rfl | rfl | hc
  ·simp
  ·simp
  ·exact h e he c hc
theorem CT {n : Nat} (c : Nat) {l : List Sl} (h : ∀ s ∈ l, s.box < n) : dP n (bU c (l.map Sl.recE)) := ul fun x hx c hc => by
 obtain ⟨y, hy, rfl⟩ := Q4.1 hx
 rw [Q5.1 hc]
 simpa using h y hy
theorem C8 (n c : Nat) (l : List Sl) : dP n (bU c (l.map Sl.ent)) := ul fun x hx c hc => by
 obtain ⟨y, hy, rfl⟩ := Q4.1 hx
 rw [Q5.1 hc]; simp
end
def cM (h : List (List AV)) : List (List AV) := h ++ [bU 0 [], bU 0 [], [.mp h.length 1 true, .mp (h.length + 1) 1 true, .v (.int .i64 0)]]
theorem sz {h : List (List AV)} (hh : aw h.length h) : RegAt h.length (cM h) (h.length + 2) ⟨h.length, h.length + 1, 0, []⟩ := by
 refine ⟨by simp [cM, Rg.top_mk], by simp [cM], by simp [cM], fun s hs => by simp at hs, ⟨by simp, by simp, by simp, fun s hs => by simp at hs⟩, ⟨by simp, by simp, by simp, fun s hs => by simp at hs⟩, by simp, ?_⟩
 simp [cM]
 refine ⟨al (by omega) hh, ?_⟩
 simp [bU]
theorem r9 (h : List (List AV)) : RgOk 0 ⟨h.length, h.length + 1, 0, []⟩ := ⟨by simp, by simp, by simp, by simp, by simp, by simp, by simp⟩
theorem zO (h : List (List AV)) : Contract Tryz.prog 18 [] h (.box (h.length + 2) 0) (cM h) [] := by
 refine ab QK mixed (by simp [Ox]) fun hh hargs => ?_
 have := (sz hh).lt
 simp [cM] at this
 simp [Ox, cM, hh, bU]
section
variable {lo : Nat} {h : List (List AV)} {i : Nat} {R : Rg}
theorem uw {m : Sm} (hk : bb m = true) : iR (ce m) = m := by
 exact (mR hk).2
theorem RegAt.add (hr : RegAt lo h i R) {n : Nat} (ho : RgOk n R) (m : Sm) {h' : List (List AV)} {nb : Nat} (hnb : h.length <= nb) (e1 : h'[i]? = some (R.add m nb).top) (e2 : h'[R.a]? = some (bU (R.add m nb).last ((R.add m nb).l.map Sl.recE))) (e3 : h'[R.b]? = some (bU (R.add m nb).last ((R.add m nb).l.map Sl.ent)))
  (e4 : h'[nb]? = some [.v (.string (ah m.text)), .sl 1 (ai ao m.oids) none .no, .v (.int .i64 0)]) (hk : ∀ k < h.length, k ≠ i -> k ≠ R.a -> k ≠ R.b -> h'[k]? = h[k]?) (hlt : aw h'.length h') : RegAt lo h' i (R.add m nb) := by
 have hmem : ∀ x ∈ (R.add m nb).l, x ∈ R.l \/ x = ⟨R.last + 1, 0, m, nb⟩ := fun x hx => by
  rcases Rc.1 hx with hx | hx
  ·exact .inl hx
  ·exact .inr (Q5.1 hx)
 have hi := hr.i_lt
 have hla : R.a < h.length := (Q2.1 hr.recs).1
 have hlb : R.b < h.length := (Q2.1 hr.ids).1
 have hlo := hr.low.1
 refine ⟨e1, e2, e3, fun x hx => ?_, ⟨hr.low.1, hr.low.2.1, hr.low.2.2.1, fun x hx => ?_⟩, ⟨hr.apart.1, hr.apart.2.1, hr.apart.2.2.1, fun x hx => ?_⟩, ?_, hlt⟩
 ·rcases hmem x hx with h1 | h1
  ·have h2 := hr.apart.2.2.2 x h1
   rw [hk _ (hr.box_lt h1) h2.1 h2.2.1 h2.2.2]; exact hr.at_ x h1
  ·subst h1; exact e4
 ·rcases hmem x hx with h1 | h1
  ·exact hr.low.2.2.2 x h1
  ·subst h1; show lo <= nb; omega
 ·rcases hmem x hx with h1 | h1
  ·exact hr.apart.2.2.2 x h1
  ·subst h1; exact ⟨by show nb ≠ i; omega, by show nb ≠ R.a; omega, by show nb ≠ R.b; omega⟩
 ·show ((R.l ++ [_]).map Sl.box).Nodup
  rw [Re, Rm]
  refine ⟨hr.boxes, by simp, fun a ha b hb => ?_⟩
  obtain ⟨y, hy, rfl⟩ := Q4.1 ha
  have := hr.box_lt hy
  simp at hb
  omega
theorem EX (hr : RegAt lo h i R) {n : Nat} (ho : RgOk n R) (hn : n <= 1000) (m : Sm) (hk : bb m = true) (hs : R.findS m = none) (hb : (ce m).length <= 100000) : ∃ h', Contract Tryz.prog 47 [.box i 0, .v (.string (ah (ce m)))] h (.v (.int .i64 ((R.last + 1 : Nat) : Int))) h' (R.touch i) /\ RegAt lo h' i (R.add m (h.length + 1)) /\ h.length + 1 < h'.length /\ (∀ k < h.length, k ∉ R.touch i -> h'[k]? = h[k]?) /\ (aQ h -> aQ h') := by
 have hi := hr.i_lt
 have hla : R.a < h.length := (Q2.1 hr.recs).1
 have hlb : R.b < h.length := (Q2.1 hr.ids).1
 have e1 := hr.top
 have e2 := hr.recs
 have e3 := hr.ids
 have e4 := lV R
 have e5 := ents_of R
 have e6 := ents_keys R.l
 have e7 := il R.l
 rw [Rg.top_mk] at e1
 have hg : ∀ {k : Nat} (xs : List (List AV)), k < h.length -> (h ++ xs)[k]? = h[k]? := fun xs hk => Q0 hk
 have hf : R.find ((R.last + 1 : Nat) : Int) = none := by
  unfold Rg.find
  refine Q9.2 fun x hx => ?_
  have := (ho.ids x hx).2
  simp
  omega
 have hp1 : AEnt.put (.int .i64 ((R.last : Int) + 1)) R.last [.box (h.length + 1) 0] (R.l.map Sl.recE) = ((R.add m (h.length + 1)).l.map Sl.recE, R.last + 1) := by
  rw [show ((R.last : Int) + 1) = ((R.last + 1 : Nat) : Int) by omega, jt _ _ (xl _ R.l) hf]
  simp [Rg.add, Sl.recE]
 have hp2 : AEnt.put (.string (ah (ce m))) R.last [.v (.int .i64 ((R.last : Int) + 1))] (R.l.map Sl.ent) = ((R.add m (h.length + 1)).l.map Sl.ent, R.last + 1) := by
  rw [jt _ _ (iG m ho.key) hs]
  simp [Rg.add, Sl.ent]
 obtain ⟨H1, h1⟩ : ∃ H1, H1 = h.set i [.mp R.a 1 true, .mp R.b 1 true, .v (.int .i64 ((R.last : Int) + 1))] := ⟨_, rfl⟩
 obtain ⟨H2, h2⟩ : ∃ H2, H2 = H1 ++ [db m, [.v (.string (ah m.text)), .sl 1 (ai ao m.oids) none .no, .v (.int .i64 0)]] := ⟨_, rfl⟩
 obtain ⟨H3, h3⟩ : ∃ H3, H3 = H2.set R.a (bU (R.last + 1) ((R.add m (h.length + 1)).l.map Sl.recE)) := ⟨_, rfl⟩
 obtain ⟨H4, h4⟩ : ∃ H4, H4 = H3.set R.b (bU (R.last + 1) ((R.add m (h.length + 1)).l.map Sl.ent)) := ⟨_, rfl⟩
 have hl1 : H1.length = h.length := by rw [h1]; simp
 have hl4 : H4.length = h.length + 2 := by rw [h4, Rb, h3, Rb, h2, Q6, hl1]; rfl
 have hlt : aw H4.length H4 := by
  rw [hl4, h4, h3, h2, h1]
  refine aN (aN (bF.2 ⟨aN (al (by omega) hr.lt) ?_, ?_⟩) (CT _ fun y hy => ?_)) (C8 _ _ _)
  ·simp; omega
  ·simp [aR]
  ·rcases Rc.1 hy with hy | hy
   ·have := hr.box_lt hy; omega
   ·rw [Q5.1 hy]; show h.length + 1 < _; omega
 have hlow : ∀ k < h.length, k ≠ i -> k ≠ R.a -> k ≠ R.b -> H4[k]? = h[k]? := fun k hk n1 n2 n3 => by
  rw [h4, Q1 (Ne.symm n3), h3, Q1 (Ne.symm n2), h2, Q0 (by omega), h1, Q1 (Ne.symm n1)]
 refine ⟨H4, ?_, hr.add ho m (Rl _) ?_ ?_ ?_ ?_ hlow hlt, by omega, fun k hk hn => ?_, fun hp => ?_⟩
 ·refine ab QG mixed (by simp [NN]) fun hh hargs => ?_
  have hw : IntKind.i64.wrap ((R.last : Int) + 1) = (R.last : Int) + 1 := wrap64 (by have := ho.last; omega) (by have := ho.last; omega)
  simp [NN]
  refine aa (by simp) (zW (ce m) hb _) ?_
  have g1 : ∀ xs, (h ++ xs)[i]? = some [.mp R.a 1 true, .mp R.b 1 true, .v (.int .i64 (R.last : Int))] := fun xs => by rw [hg xs hi]; exact e1
  have s1 : ∀ xs c, (h ++ xs).set i c = h.set i c ++ xs := fun xs c => Q7 _ _ hi
  have g2 : H1[i]? = some [.mp R.a 1 true, .mp R.b 1 true, .v (.int .i64 ((R.last : Int) + 1))] := by rw [h1]; exact Q3 hi
  have g3 : ∀ xs, (H1 ++ xs)[i]? = some [.mp R.a 1 true, .mp R.b 1 true, .v (.int .i64 ((R.last : Int) + 1))] := fun xs => by rw [Q0 (by omega)]; exact g2
  have g4 : ∀ xs, (H1 ++ xs)[R.a]? = some (bU R.last (R.l.map Sl.recE)) := fun xs => by rw [Q0 (by omega), h1, Q1 hr.apart.1]; exact e2
  have g5 : ∀ x xs, ((H1 ++ xs).set R.a x)[R.b]? = some (bU R.last (R.l.map Sl.ent)) := fun x xs => by rw [Q1 hr.apart.2.2.1, Q0 (by omega), h1, Q1 hr.apart.2.1]; exact e3
  have g6 : ∀ x xs, ((H1 ++ xs).set R.a x)[i]? = some [.mp R.a 1 true, .mp R.b 1 true, .v (.int .i64 ((R.last : Int) + 1))] := fun x xs => by rw [Q1 (Ne.symm hr.apart.1)]; exact g3 xs
  have g7 : ∀ x y xs, (((H1 ++ xs).set R.a x).set R.b y)[i]? = some [.mp R.a 1 true, .mp R.b 1 true, .v (.int .i64 ((R.last : Int) + 1))] := fun x y xs => by rw [Q1 (Ne.symm hr.apart.2.1)]; exact g6 x xs
  simp [uw hk, aR, g1, s1, hi, hw, <- h1, g2, g3, g4, g5, g6, g7, hl1]
  simp [e4, e5, e6, e7, hp1, hp2]
  have e8 : H4 = ((H1 ++ [[AV.v (Value.string (ah m.text)), AV.sl 1 (ai ao m.oids) none .no], [AV.v (Value.string (ah m.text)), AV.sl 1 (ai ao m.oids) none .no, AV.v (Value.int IntKind.i64 0)]]).set R.a (bU (R.last + 1) ((R.add m (h.length + 1)).l.map Sl.recE))).set R.b (bU (R.last + 1) ((R.add m (h.length + 1)).l.map Sl.ent)) := by rw [h4, h3, h2, aR]
  rw [<- e8]
  refine ⟨by omega, by omega, ac rfl, hlt, by simp [Rg.touch]⟩
 ·rw [h4, Q1 (Ne.symm hr.apart.2.1), h3, Q1 (Ne.symm hr.apart.1), h2, Q0 (by omega), h1, Q3 hi, Rg.top_mk]
  simp [Rg.add]
 ·rw [h4, Q1 (Ne.symm hr.apart.2.2.1), h3, Q3 (by rw [h2, Q6]; omega)]
  rfl
 ·rw [h4, Q3 (by rw [h3, Rb, h2, Q6]; omega)]
  rfl
 ·rw [h4, Q1 (by omega), h3, Q1 (by omega), h2, Q8 (by omega), hl1]
  simp
 ·simp [Rg.touch] at hn
  exact hlow k hk hn.1 hn.2.1 hn.2.2.1
 ·rw [h4, h3, h2, h1]
  refine aP (aP (aA (aP hp ?_ _) ?_) (u5 _ _) _) (pj _ _) _
  ·intro c hc; simp at hc; rcases hc with rfl | rfl | rfl <;> rfl
  ·intro x hx c hc
   simp [aR] at hx
   rcases hx with rfl | rfl <;> simp at hc
   ·rcases hc with rfl | rfl <;> rfl
   ·rcases hc with rfl | rfl | rfl <;> rfl
end
def Rg.putS (R : Rg) (m : Sm) (nb : Nat) : Rg := match R.findS m with
 | some s => R.upd s.id (s.refs + 1)
 | none => (R.add m nb).upd (R.last + 1) 1
def Rg.put (R : Rg) (m : Sm) (nb : Nat) : Rg := if bb m = true then R.putS m nb else R
def Rg.putId (R : Rg) (m : Sm) : Nat := if bb m = true then (match R.findS m with
 | some s => s.id
 | none => R.last + 1) else 0
theorem xr {n : Nat} {R : Rg} (ho : RgOk n R) {s : Sl} (hs : s ∈ R.l) : R.find (s.id : Int) = some s := by
 cases hf : R.find (s.id : Int) with
 | none =>
  unfold Rg.find at hf
  have := Q9.1 hf s hs
  simp at this
 | some t =>
  have := bh hf
  rw [cO ho.idsN this.1 hs (by omega)]
section
variable {lo : Nat} {h : List (List AV)} {i : Nat} {R : Rg}
theorem rR {n : Nat} (ho : RgOk n R) (m : Sm) (nb : Nat) : ((R.add m nb).l.map Sl.id).Nodup := by
 show ((R.l ++ [_]).map Sl.id).Nodup
 rw [Re, Rm]
 refine ⟨ho.idsN, by simp, fun a ha b hb => ?_⟩
 obtain ⟨y, hy, rfl⟩ := Q4.1 ha
 have := (ho.ids y hy).2
 simp at hb
 omega
theorem AT {n : Nat} (ho : RgOk n R) (m : Sm) (nb : Nat) : (R.add m nb).find ((R.last + 1 : Nat) : Int) = some ⟨R.last + 1, 0, m, nb⟩ := by
 cases hf : (R.add m nb).find ((R.last + 1 : Nat) : Int) with
 | none =>
  unfold Rg.find at hf
  have := Q9.1 hf ⟨R.last + 1, 0, m, nb⟩ (Rc.2 (.inr (Q5.2 rfl)))
  simp at this
 | some t =>
  have h1 := bh hf
  congr 1
  exact cO (rR ho m nb) h1.1 (Rc.2 (.inr (Q5.2 rfl))) (by have := h1.2; show t.id = R.last + 1; omega)
theorem rX {m : Sm} (hm : xY m = true) : (ce m).length <= 100000 := by have := AB hm; omega
theorem zJ (hr : RegAt lo h i R) {n : Nat} (ho : RgOk n R) (hn : n <= 1000) (m : Sm) (hl : m.oids.length <= 140737488355328) (hb : (ce m).length <= 100000) : OD 21 [.box i 0, .agg (db m)] lo h i R (.v (.int .i64 (R.putId m : Int))) (R.put m (h.length + 2)) := by
 have hi := hr.i_lt
 have hla : R.a < h.length := (Q2.1 hr.recs).1
 have hlb : R.b < h.length := (Q2.1 hr.ids).1
 have e1 := hr.top
 have e2 := hr.recs
 have e3 := hr.ids
 have e4 := lV R
 have e5 := ents_of R
 have e6 := ents_keys R.l
 have e7 := il R.l
 have e8 := x7 R m ho.key
 rw [Rg.top_mk] at e1
 have hg : ∀ {k : Nat} (xs : List (List AV)), k < h.length -> (h ++ xs)[k]? = h[k]? := fun xs hk => Q0 hk
 have g1 : ∀ xs, (h ++ xs)[i]? = some [.mp R.a 1 true, .mp R.b 1 true, .v (.int .i64 (R.last : Int))] := fun xs => by rw [hg xs hi]; exact e1
 have g2 : ∀ xs, (h ++ xs)[R.a]? = some (bU R.last (R.l.map Sl.recE)) := fun xs => by rw [hg xs hla]; exact e2
 have g3 : ∀ xs, (h ++ xs)[R.b]? = some (bU R.last (R.l.map Sl.ent)) := fun xs => by rw [hg xs hlb]; exact e3
 cases hk : bb m with
 | false =>
  have hp : R.put m (h.length + 2) = R := by unfold Rg.put; rw [hk]; rfl
  have hq : R.putId m = 0 := by unfold Rg.putId; rw [hk]; rfl
  rw [hp, hq]
  refine ⟨h, ?_, hr, RD _, fun _ _ _ => rfl, fun h => h⟩
  refine ab Nj mixed (by simp [GP]) fun hh hargs => ?_
  simp [GP, g1]
  refine aa (by simp) (BC m hl _) ?_
  rw [nk hk]
  simp [hh]
 | true =>
  have hne : (ce m).isEmpty = false := by
   have h2 := mQ hk
   cases hq : ce m with
   | nil => exact absurd hq h2
   | cons _ _ => rfl
  cases hs : R.findS m with
  | some s =>
   have hm := (j3 hs).1
   have hp : R.put m (h.length + 2) = R.upd s.id (s.refs + 1) := by unfold Rg.put Rg.putS; rw [hk, hs]; rfl
   have hq : R.putId m = s.id := by unfold Rg.putId; rw [hk, hs]; rfl
   rw [hp, hq]
   refine ⟨h.set s.box ({ s with refs := s.refs + 1 } : Sl).cells, ?_, hr.upd ho.idsN hm _, by simp, fun k _ hk => ?_, fun hp => aP hp (Sl.cells_plain _) _⟩
   ·have hb1 := hr.box_lt hm
    have hc := hr.at_ s hm
    have hrf := (ho.refs s hm).2
    rw [Sl.cells_mk] at hc
    have g4 : ∀ xs, (h ++ xs)[s.box]? = some [.v (.string (ah s.st.text)), .sl 1 (ai ao s.st.oids) none .no, .v (.int .i64 (s.refs : Int))] := fun xs => by rw [hg xs hb1]; exact hc
    have e9 := mB R (s.id : Int)
    rw [xr ho hm] at e9
    have hw : IntKind.i64.wrap ((s.refs : Int) + 1) = (s.refs : Int) + 1 := wrap64 (by omega) (by omega)
    refine ab Nj mixed (by simp [GP]) fun hh hargs => ?_
    simp [GP, g1]
    refine aa (by simp) (BC m hl _) ?_
    simp [hne, g1, g2, g3, g4, e4, e5, e6, e7, e8, hs, kx]
    simp [g1, g2, g3, g4, e4, e5, e6, e7, e9, ji]
    refine ⟨?_, aN hh (Sl.cells_lt _ _), fun _ => by simp [Rg.touch]; exact .inr (.inr (.inr ⟨s, hm, rfl⟩))⟩
    rw [Q7 _ _ hb1, List.take_append_of_le_length (by simp), hw]
    exact ac (by simp)
   ·rw [Q1]
    intro e
    exact hk (by rw [<- e]; simp [Rg.touch]; exact .inr (.inr (.inr ⟨s, hm, rfl⟩)))
  | none =>
   have hp : R.put m (h.length + 2) = (R.add m (h.length + 2)).upd (R.last + 1) 1 := by unfold Rg.put Rg.putS; rw [hk, hs]; rfl
   have hq : R.putId m = R.last + 1 := by unfold Rg.putId; rw [hk, hs]; rfl
   rw [hp, hq]
   have hr0 : RegAt lo (h ++ [db m]) i R := hr.app _ (by simp [aR])
   obtain ⟨h', hC, hA, hL, hK, hP⟩ := EX hr0 ho hn m hk hs hb
   have ha2 : (h ++ [db m]).length + 1 = h.length + 2 := by simp
   rw [ha2] at hA
   have hf := AT ho m (h.length + 2)
   have hm := (bh hf).1
   have hU := hA.upd (rR ho m (h.length + 2)) hm 1
   refine ⟨_, ?_, hU, by simp at hL ⊢; omega, fun k hk hn => ?_, fun hp => aP (hP (aA hp fun x hx c hc => by rw [Q5.1 hx, aR] at hc; simp at hc; rcases hc with rfl | rfl <;> rfl)) (Sl.cells_plain _) _⟩
   ·have a1 := hA.top
    have a2 := hA.recs
    have a4 := lV (R.add m (h.length + 2))
    have a5 := il (R.add m (h.length + 2)).l
    have a6 := mB (R.add m (h.length + 2)) ((R.last + 1 : Nat) : Int)
    have a7 := hA.at_ _ hm
    rw [hf] at a6
    have hcast : ((R.last + 1 : Nat) : Int) = (R.last : Int) + 1 := by omega
    rw [hcast] at a6
    rw [Rg.top_mk] at a1
    rw [Sl.cells_mk] at a7
    have a8 : h'.length ≥ h.length := by simp at hL; omega
    refine ab Nj mixed (by simp [GP]) fun hh hargs => ?_
    simp [GP, g1]
    refine aa (by simp) (BC m hl _) ?_
    simp [hne, g1, g2, g3, e4, e5, e6, e7, e8, hs, kx]
    refine aa (by simp) hC ?_
    have hw1 : IntKind.i64.wrap 1 = 1 := wrap64 (by omega) (by omega)
    have hcs : ({ id := R.last + 1, refs := 1, st := m, box := h.length + 2 } : Sl).cells = [.v (.string (ah m.text)), .sl 1 (ai ao m.oids) none .no, .v (.int .i64 1)] := rfl
    have hlt' := hU.lt
    rw [Rb] at hlt'
    simp [a1, a2, a4, a5, a6, a7, ji, hw1, hcs]
    exact ⟨a8, hlt', fun _ ha _ => ha⟩
   ·rw [Q1 (by show h.length + 2 ≠ k; omega), hK k (by simp; omega) hn]
    exact Q0 hk
end
theorem lY {R : Rg} {id k : Nat} {x : Sl} (hx : x ∈ (R.upd id k).l) : ∃ y ∈ R.l, x.id = y.id /\ x.st = y.st /\ x.box = y.box /\ (x.refs = k \/ (x.refs = y.refs /\ y.id ≠ id)) := by
 obtain ⟨y, hy, rfl⟩ := Q4.1 hx
 refine ⟨y, hy, ?_⟩
 split
 ·exact ⟨rfl, rfl, rfl, .inl rfl⟩
 ·rename_i e; exact ⟨rfl, rfl, rfl, .inr ⟨rfl, e⟩⟩
theorem RgOk.mono {n n' : Nat} {R : Rg} (ho : RgOk n R) (h : n <= n') : RgOk n' R := ⟨ho.rise, ho.ids, fun s hs => ⟨(ho.refs s hs).1, Ro (ho.refs s hs).2 h⟩, ho.key, ho.one, ho.short, Ro ho.last h⟩
theorem RgOk.upd {n n' : Nat} {R : Rg} (ho : RgOk n R) (h : n <= n') (id : Nat) {k : Nat} (h1 : 1 <= k) (h2 : k <= n') : RgOk n' (R.upd id k) := by
 refine ⟨by rw [Rg.upd_ids]; exact ho.rise, fun x hx => ?_, fun x hx => ?_, fun x hx => ?_, by rw [Rg.upd_sts]; exact ho.one, fun x hx => ?_, Ro ho.last h⟩ <;> obtain ⟨y, hy, e1, e2, _, e3⟩ := lY hx
 ·rw [e1]; exact ho.ids y hy
 ·rcases e3 with e3 | e3
  ·rw [e3]; exact ⟨h1, h2⟩
  ·rw [e3.1]; exact ⟨(ho.refs y hy).1, Ro (ho.refs y hy).2 h⟩
 ·rw [e2]; exact ho.key y hy
 ·rw [e2]; exact ho.short y hy
theorem RgOk.ref {n : Nat} {R : Rg} (ho : RgOk n R) (id : Int) : RgOk (n + 1) (R.ref id) := by
 unfold Rg.ref
 cases hs : R.find id with
 | none => exact ho.mono (Rl _)
 | some s => exact ho.upd (Rl _) _ (by omega) (by have := (ho.refs s (bh hs).1).2; omega)
theorem RgOk.put {n : Nat} {R : Rg} (ho : RgOk n R) (m : Sm) (hm : m.text.length <= 1000 /\ m.oids.length <= 1000) (nb : Nat) : RgOk (n + 1) (R.put m nb) := by
 unfold Rg.put
 by_cases hk : bb m = true
 ·rw [if_pos hk]
  unfold Rg.putS
  cases hs : R.findS m with
  | some s => exact ho.upd (Rl _) _ (by omega) (by have := (ho.refs s (j3 hs).1).2; omega)
  | none =>
   show RgOk (n + 1) ((R.add m nb).upd (R.last + 1) 1)
   have hl := ho.last
   have hmem : ∀ x ∈ (R.add m nb).l, x ∈ R.l \/ x = ⟨R.last + 1, 0, m, nb⟩ := fun x hx => by
    rcases Rc.1 hx with hx | hx
    ·exact .inl hx
    ·exact .inr (Q5.1 hx)
   refine ⟨?_, fun x hx => ?_, fun x hx => ?_, fun x hx => ?_, ?_, fun x hx => ?_, by show R.last + 1 <= n + 1; omega⟩
   ·rw [Rg.upd_ids]
    show ((R.l ++ [_]).map Sl.id).Pairwise _
    rw [Re, List.pairwise_append]
    refine ⟨ho.rise, by simp, fun a ha b hb => ?_⟩
    obtain ⟨y, hy, rfl⟩ := Q4.1 ha
    have := (ho.ids y hy).2
    simp at hb
    omega
   ·obtain ⟨y, hy, e1, e2, _, e3⟩ := lY hx
    rw [e1]
    show 1 <= y.id /\ y.id <= R.last + 1
    rcases hmem y hy with h | h
    ·have := ho.ids y h; omega
    ·subst h; show 1 <= R.last + 1 /\ R.last + 1 <= R.last + 1; omega
   ·obtain ⟨y, hy, e1, e2, _, e3⟩ := lY hx
    rcases e3 with e3 | e3
    ·omega
    ·rcases hmem y hy with h | h
     ·have := ho.refs y h; omega
     ·subst h; exact absurd rfl e3.2
   ·obtain ⟨y, hy, e1, e2, _, e3⟩ := lY hx
    rw [e2]
    rcases hmem y hy with h | h
    ·exact ho.key y h
    ·subst h; exact hk
   ·rw [Rg.upd_sts]
    show ((R.l ++ [_]).map Sl.st).Nodup
    rw [Re, Rm]
    refine ⟨ho.one, by simp, fun a ha b hb => ?_⟩
    obtain ⟨y, hy, rfl⟩ := Q4.1 ha
    have hb : b = m := by simpa using hb
    subst hb
    unfold Rg.findS at hs
    have := Q9.1 hs y hy
    simpa using this
   ·obtain ⟨y, hy, e1, e2, _, e3⟩ := lY hx
    rw [e2]
    rcases hmem y hy with h | h
    ·exact ho.short y h
    ·subst h; exact hm
 ·rw [if_neg hk]; exact ho.mono (Rl _)
theorem Af {n : Nat} {R : Rg} (ho : RgOk n R) {s : Sl} (hs : s ∈ R.l) : R.findS s.st = some s := by
 cases hf : R.findS s.st with
 | none =>
  unfold Rg.findS at hf
  have := Q9.1 hf s hs
  simp at this
 | some t =>
  have := j3 hf
  rw [cO ho.one this.1 hs this.2]
def fO (s : Sl) : List AV := [.v (.int .i64 (s.id : Int)), .v (.int .i64 (s.refs : Int)), .v (.string (ah s.st.text)), .sl 1 (ai ao s.st.oids) none .no]
def fD (b : Nat) (l : List Sl) : AV := if l = [] then .sl 0 [] (some true) .exact else .bsl b 0 4 l.length
structure XAt (lo : Nat) (h : List (List AV)) (i b : Nat) (R : Rg) : Prop where
 top : h[i]? = some [fD b R.l, .v (.int .i64 (R.last : Int))]
 list : R.l ≠ [] -> h[b]? = some (ai fO R.l).flatten
 low : lo <= i /\ lo <= b
 apart : i ≠ b
 lt : aw h.length h
theorem XAt.move {lo : Nat} {h : List (List AV)} {i b : Nat} {R : Rg} (hr : XAt lo h i b R) {h' : List (List AV)} (hi : h'[i]? = h[i]?) (hb : R.l ≠ [] -> h'[b]? = h[b]?) (hlt : aw h'.length h') : XAt lo h' i b R :=
 ⟨hi.trans hr.top, fun hne => (hb hne).trans (hr.list hne), hr.low, hr.apart, hlt⟩
theorem XAt.app {lo : Nat} {h : List (List AV)} {i b : Nat} {R : Rg} (hr : XAt lo h i b R) (xs : List (List AV)) (hx : aw (h.length + xs.length) xs) : XAt lo (h ++ xs) i b R :=
 hr.move (Q0 (Q2.1 hr.top).1) (fun hne => Q0 (Q2.1 (hr.list hne)).1) (by rw [bF, Q6]; exact ⟨al (Rh _ _) hr.lt, hx⟩)
theorem iJ (s : Sl) : (fO s).length = 4 := rfl
theorem jN (l : List Sl) : (ai fO l).flatten.length = 4 * l.length := by
 induction l with
 | nil => rfl
 | cons x l ih =>
  have e : ai fO (x :: l) = fO x :: ai fO l := rfl
  rw [e, Rd, Q6, ih, iJ, RE]; omega
theorem kg : ∀ {l : List Sl} {j q : Nat} (hj : j < l.length) (hq : q < 4), (ai fO l).flatten[4 * j + q]? = (fO l[j])[q]?
 | x :: l, 0, q, _, hq => by
  have e : ai fO (x :: l) = fO x :: ai fO l := rfl
  rw [e, Rd, Q0 (by rw [iJ]; omega)]
  simp
 | x :: l, j + 1, q, hj, hq => by
  have e : ai fO (x :: l) = fO x :: ai fO l := rfl
  rw [e, Rd, Q8 (by rw [iJ]; omega), iJ, show 4 * (j + 1) + q - 4 = 4 * j + q by omega]
  rw [kg (by simpa using hj) hq]
  simp
theorem pJ {n : Nat} {R : Rg} (ho : RgOk n R) {j k : Nat} (hj : j < R.l.length) (hk : k < R.l.length) (e : R.l[j].id = R.l[k].id) : j = k := by
 have h := List.pairwise_iff_getElem.1 ho.rise
 rcases Nat.lt_trichotomy j k with h1 | h1 | h1
 ·have := h j k (by simpa using hj) (by simpa using hk) h1
  simp at this; omega
 ·exact h1
 ·have := h k j (by simpa using hk) (by simpa using hj) h1
  simp at this; omega
inductive PlI (R : Rg) (id : Int) : Int -> Option Sl -> Prop
 | at_ (k : Nat) (hk : k < R.l.length) (he : (R.l[k].id : Int) = id) : PlI R id (k : Int) (some R.l[k])
 | none (h : ∀ s ∈ R.l, ¬ (s.id : Int) = id) : PlI R id (-1) none
theorem sG {n : Nat} {R : Rg} (ho : RgOk n R) (id : Int) : ∃ v, PlI R id v (R.find id) := by
 cases hf : R.find id with
 | none =>
  unfold Rg.find at hf
  exact ⟨-1, .none fun s hs => by have := Q9.1 hf s hs; simpa using this⟩
 | some s =>
  obtain ⟨h1, h2⟩ := bh hf
  obtain ⟨k, hk, e⟩ := Ry h1
  subst e
  exact ⟨k, .at_ k hk h2⟩
section
variable {lo : Nat} {h : List (List AV)} {i b : Nat} {R : Rg}
theorem mg (hr : XAt lo h i b R) {n : Nat} (ho : RgOk n R) (hn : R.l.length <= 1000) {id v : Int} {o : Option Sl} (hv : PlI R id v o) : Contract Tryz.prog 43 [.box i 0, .v (.int .i64 id)] h (.v (.int .i64 v)) h [] := by
 have h1 := hr.top
 refine ab Qs mixed (by simp [Mt]) fun hh hargs => ?_
 simp [Mt]
 refine am (D := Nat) (fun j => ⟨[(0, .box i 0), (1, .v (.int .i64 id)), (5, .v (.int .i64 (j : Int)))], [], h, []⟩) (fun j => j <= R.l.length /\ (∀ q (hq : q < R.l.length), q < j -> ¬ (R.l[q].id : Int) = id)) (fun j => R.l.length - j) 0 ⟨by omega, fun q hq h => by omega⟩ ?_ ?_
 ·have hi := (Q2.1 h1).1
  simp [Leq, hh, ac, hi]
  done
 ·rintro j ⟨hj, hno⟩
  by_cases hlt : j < R.l.length
  ·have hne : R.l ≠ [] := fun e => by rw [e] at hlt; cases hlt
   have h2 := hr.list hne
   have hlis : fD b R.l = .bsl b 0 4 R.l.length := by unfold fD; rw [if_neg hne]
   rw [hlis] at h1
   have hc0 : (ai fO R.l).flatten[j * 4]? = some (.v (.int .i64 (R.l[j].id : Int))) := by
    have := kg hlt (q := 0) (by omega)
    rw [Rz, Rp] at this
    rw [this]; rfl
   have hw : IntKind.i64.wrap ((j : Int) + 1) = (j : Int) + 1 := wrap64 (by omega) (by omega)
   by_cases e : (R.l[j].id : Int) = id
   ·have hvj : v = (j : Int) := by
     cases hv with
     | at_ k hk he => rw [pJ ho hk hlt (by omega)]
     | none hh => exact absurd e (hh _ (Ri hlt))
    simp [h1, h2, hlt, hc0, e, hvj, hh]
    done
   ·simp [h1, h2, hlt, hc0, e, hw]
    refine ⟨j + 1, ⟨by omega, fun q hq hqj => ?_⟩, by omega, ?_⟩
    ·rcases Rq.1 hqj with h3 | h3
     ·exact hno q hq h3
     ·subst h3; exact e
    ·have hi := (Q2.1 hr.top).1
     simp [Leq, hh, ac, hi]
  ·have : j = R.l.length := by omega
   subst this
   have hp : v = -1 := by
    cases hv with
    | at_ k hk he => exact absurd he (hno k hk hk)
    | none hh => rfl
   subst hp
   by_cases hl : R.l = []
   ·have hlis : fD b R.l = .sl 0 [] (some true) .exact := by unfold fD; rw [if_pos hl]
    rw [hlis] at h1
    simp [h1, hh, hl]
    done
   ·have hlis : fD b R.l = .bsl b 0 4 R.l.length := by unfold fD; rw [if_neg hl]
    rw [hlis] at h1
    simp [h1, hh]
    done
theorem XAt.el (hr : XAt lo h i b R) {k : Nat} (hk : k < R.l.length) : h[i]? = some [.bsl b 0 4 R.l.length, .v (.int .i64 (R.last : Int))] /\ h[b]? = some (ai fO R.l).flatten /\ (ai fO R.l).flatten[k * 4]? = some (.v (.int .i64 (R.l[k].id : Int))) /\ (ai fO R.l).flatten[k * 4 + 1]? = some (.v (.int .i64 (R.l[k].refs : Int))) /\ (ai fO R.l).flatten.length = 4 * R.l.length := by
 have hne : R.l ≠ [] := fun e => by rw [e] at hk; cases hk
 have h1 := hr.top
 have hlis : fD b R.l = .bsl b 0 4 R.l.length := by unfold fD; rw [if_neg hne]
 rw [hlis] at h1
 have e0 := kg hk (q := 0) (by omega)
 have e1 := kg hk (q := 1) (by omega)
 rw [Rz, Rp] at e0
 rw [Rp] at e1
 exact ⟨h1, hr.list hne, e0, e1, jN _⟩
theorem wW {l : List Sl} {k : Nat} (hk : k < l.length) : ((ai fO l).flatten.drop (k * 4 + 2)).take 2 = db l[k].st := by
 have e2 := kg hk (q := 2) (by omega)
 have e3 := kg hk (q := 3) (by omega)
 have hl := jN l
 rw [Rp] at e2 e3
 refine List.ext_getElem? fun j => ?_
 rw [aR]
 rcases j with _ | _ | j
 ·rw [Rr (by omega), RA, Rz, e2]; rfl
 ·rw [Rr (by omega), RA, show k * 4 + 2 + (0 + 1) = k * 4 + 3 by omega, e3]; rfl
 ·rw [Rv (by rw [List.length_take]; omega), Rv (by simp)]
theorem B9 (hr : XAt lo h i b R) {n : Nat} (ho : RgOk n R) (hn : R.l.length <= 1000) (id : Int) : Contract Tryz.prog 15 [.box i 0, .v (.int .i64 id)] h (.v (.int .i64 (refsOf (R.find id) : Int))) h [] := by
 obtain ⟨v, hv⟩ := sG ho id
 refine ab Qm mixed (by simp [ON]) fun hh hargs => ?_
 simp [ON]
 refine aa (by simp) (mg hr ho hn hv) ?_
 generalize R.find id = o at *
 cases hv with
 | at_ k hk he =>
  obtain ⟨e1, e2, e3, e4, e5⟩ := hr.el hk
  simp [e1, e2, e4, hk, refsOf, hh]
  done
 | none hno =>
  simp [refsOf, hh]
  done
theorem Hr (hr : XAt lo h i b R) {n : Nat} (ho : RgOk n R) (hn : R.l.length <= 1000) (id : Int) : Contract Tryz.prog 75 [.box i 0, .v (.int .i64 id)] h (.tup [.agg (db (mH (R.find id))), .v (.bool (R.find id).isSome)]) h [] := by
 obtain ⟨v, hv⟩ := sG ho id
 have hi := (Q2.1 hr.top).1
 refine ab P3 mixed (by simp [Md]) fun hh hargs => ?_
 simp [Md]
 have hr2 : XAt lo (h ++ [[.v (.string (ah [])), .sl 0 [] (some true) .exact]]) i b R := hr.app _ (by simp)
 refine aa (by simp) (mg hr2 ho hn hv) ?_
 generalize R.find id = o at *
 cases hv with
 | at_ k hk he =>
  obtain ⟨e1, e2, e3, e4, e5⟩ := hr2.el hk
  have e6 := wW hk
  have hb := (Q2.1 (hr.el hk).2.1).1
  have hne : ¬ b = h.length := by omega
  have e7 : (List.map Rt (ai fO R.l)).sum = 4 * R.l.length := by rw [<- Rk]; exact e5
  simp [e1, e2, hk, e6, mH, hh, hne, e7]
  omega
 | none hno =>
  simp [mH, aR, hh]
  done
end
theorem uy : ∀ {l : List Sl} {k : Nat} (hk : k < l.length) (m : Nat), (ai fO l).flatten.set (k * 4 + 1) (.v (.int .i64 (m : Int))) = (ai fO (l.set k { l[k] with refs := m })).flatten
 | x :: l, 0, _, m => by
  have e : ai fO (x :: l) = fO x :: ai fO l := rfl
  rw [e, Rd, Q7 _ _ (by rw [iJ]; omega)]
  rfl
 | x :: l, k + 1, hk, m => by
  have e : ai fO (x :: l) = fO x :: ai fO l := rfl
  rw [e, Rd, List.set_append_right _ _ (by rw [iJ]; omega), iJ, show (k + 1) * 4 + 1 - 4 = k * 4 + 1 by omega, uy (by simpa using hk) m]
  rfl
theorem C0 {n : Nat} {R : Rg} (ho : RgOk n R) {k : Nat} (hk : k < R.l.length) (m : Nat) : R.l.set k { R.l[k] with refs := m } = (R.upd R.l[k].id m).l := by
 unfold Rg.upd
 refine List.ext_getElem (by simp) fun j h1 h2 => ?_
 rw [List.getElem_set, List.getElem_map]
 have hj : j < R.l.length := by simpa using h1
 by_cases e : k = j
 ·subst e; simp
 ·rw [if_neg e, if_neg (fun e2 => e (pJ ho hj hk e2).symm)]
theorem del_idx {n : Nat} {R : Rg} (ho : RgOk n R) {k : Nat} (hk : k < R.l.length) : (R.del R.l[k].id).l = R.l.take k ++ R.l.drop (k + 1) := by
 unfold Rg.del
 have key : ∀ {l : List Sl} {k : Nat} (hk : k < l.length), (∀ j (hj : j < l.length), l[j].id = l[k].id -> j = k) -> l.eraseP (fun x => decide (x.id = l[k].id)) = l.take k ++ l.drop (k + 1) := by
  intro l
  induction l with
  | nil => intro k hk; cases hk
  | cons x l ih =>
   intro k hk hu
   cases k with
   | zero => simp
   | succ k =>
    have hk' : k < l.length := by simpa using hk
    have hx : ¬ x.id = l[k].id := fun e => by have := hu 0 (by simp) (by simpa using e); omega
    have := ih (k := k) (by simpa using hk) fun j hj e => by have := hu (j + 1) (by simpa using hj) (by simpa using e); omega
    simp [hx, this]
 exact key hk fun j hj e => pJ ho hj hk e
def uO (f : FuncId) (args : List AV) (lo : Nat) (h : List (List AV)) (i b : Nat) (R : Rg) (r : AV) (R' : Rg) : Prop :=
 ∃ h' b', Contract Tryz.prog f args h r h' [i, b] /\ XAt lo h' i b' R' /\ (b' = b \/ h.length <= b') /\ h.length <= h'.length /\ (∀ k < h.length, k ≠ i -> k ≠ b -> h'[k]? = h[k]?) /\ (aQ h -> aQ h')
theorem sd (n : Nat) (l : List Sl) : dP n (ai fO l).flatten := em fun j c hj => by
 obtain ⟨e, he, hc⟩ := RF.1 (Rw hj)
 obtain ⟨s, _, rfl⟩ := Q4.1 he
 simp [fO] at hc
 rcases hc with rfl | rfl | rfl | rfl <;> simp
theorem mP (l : List Sl) : ∀ c ∈ (ai fO l).flatten, c.idOf = none := fun c hc => by
 obtain ⟨e, he, hc⟩ := RF.1 hc
 obtain ⟨s, _, rfl⟩ := Q4.1 he
 simp [fO] at hc
 rcases hc with rfl | rfl | rfl | rfl <;> rfl
section
variable {lo : Nat} {h : List (List AV)} {i b : Nat} {R : Rg}
theorem XAt.upd (hr : XAt lo h i b R) {n : Nat} (ho : RgOk n R) {k : Nat} (hk : k < R.l.length) (m : Nat) : XAt lo (h.set b (ai fO (R.upd R.l[k].id m).l).flatten) i b (R.upd R.l[k].id m) := by
 obtain ⟨e1, e2, _⟩ := hr.el hk
 have hlen : (R.upd R.l[k].id m).l.length = R.l.length := by unfold Rg.upd; simp
 have hne : (R.upd R.l[k].id m).l ≠ [] := fun e => by rw [e] at hlen; simp at hlen; omega
 refine ⟨?_, fun _ => Q3 (Q2.1 e2).1, hr.low, hr.apart, ?_⟩
 ·rw [Q1 (Ne.symm hr.apart), e1]
  unfold fD
  rw [if_neg hne, hlen]
  rfl
 ·rw [Rb]; exact aN hr.lt (sd _ _)
theorem wt (hr : XAt lo h i b R) {n : Nat} (ho : RgOk n R) (hn : R.l.length <= 1000) (hn2 : n <= 1000) (id : Int) : uO 50 [.box i 0, .v (.int .i64 id)] lo h i b R (.v (.bool (R.find id).isSome)) (R.ref id) := by
 obtain ⟨v, hv⟩ := sG ho id
 unfold Rg.ref
 generalize R.find id = o at *
 cases hv with
 | at_ k hk he =>
  obtain ⟨e1, e2, e3, e4, e5⟩ := hr.el hk
  have hrf := (ho.refs R.l[k] (Ri hk)).2
  refine ⟨_, b, ?_, hr.upd ho hk (R.l[k].refs + 1), .inl rfl, by simp, fun q _ _ hq => Q1 (Ne.symm hq), fun hp => aP hp (mP _) _⟩
  refine ab PG mixed (by simp [J3]) fun hh hargs => ?_
  simp [J3]
  refine aa (by simp) (mg hr ho hn (.at_ k hk he)) ?_
  have hw : IntKind.i64.wrap ((R.l[k].refs : Int) + 1) = ((R.l[k].refs + 1 : Nat) : Int) := by rw [wrap64 (by omega) (by omega)]; omega
  have e6 := uy hk (R.l[k].refs + 1)
  rw [C0 ho hk, show ((R.l[k].refs + 1 : Nat) : Int) = (R.l[k].refs : Int) + 1 by omega] at e6
  rw [show ((R.l[k].refs + 1 : Nat) : Int) = (R.l[k].refs : Int) + 1 by omega] at hw
  have e7 : (List.map Rt (ai fO R.l)).sum = 4 * R.l.length := by rw [<- Rk]; exact e5
  have e8 : k * 4 + 1 + 1 <= 4 * R.l.length := by omega
  have e9 : ¬ (k : Int) < 0 := by omega
  simp [e1, e2, e4, hk, hh, hw, e7, e8, e6, e9]
  exact .inl (sd _ _)
 | none hno =>
  refine ⟨h, b, ?_, hr, .inl rfl, RD _, fun _ _ _ _ => rfl, fun h => h⟩
  refine ab PG mixed (by simp [J3]) fun hh hargs => ?_
  simp [J3]
  refine aa (by simp) (mg hr ho hn (.none hno)) ?_
  simp [hh]
  done
end
section
variable {lo : Nat} {h : List (List AV)} {i b : Nat} {R : Rg}
theorem pB (hr : XAt lo h i b R) {n : Nat} (ho : RgOk n R) (hn : R.l.length <= 1000) (m : Sm) : Contract Tryz.prog 49 [.box i 0, .agg (db m)] h (.tup [.v (.int .i64 (kx (R.findS m) : Int)), .v (.bool (R.findS m).isSome)]) h [] := by
 have hr2 : XAt lo (h ++ [db m]) i b R := hr.app _ (by simp [aR])
 have hi := (Q2.1 hr.top).1
 refine ab QF mixed (by simp [O6]) fun hh hargs => ?_
 simp [O6]
 refine am (D := Nat) (fun j => ⟨[(0, .box i 0), (3, .box h.length 0), (6, .v (.int .i64 (j : Int)))], [], h ++ [db m], []⟩) (fun j => j <= R.l.length /\ (∀ q (hq : q < R.l.length), q < j -> ¬ R.l[q].st = m)) (fun j => R.l.length - j) 0 ⟨by omega, fun q hq h => by omega⟩ ?_ ?_
 ·simp [Leq, hh, ac, hi, aR, al (Rh h.length 1) hh]
  omega
 ·rintro j ⟨hj, hno⟩
  by_cases hlt : j < R.l.length
  ·obtain ⟨e1, e2, e3, e4, e5⟩ := hr2.el hlt
   have e6 := wW hlt
   have e7 : (List.map Rt (ai fO R.l)).sum = 4 * R.l.length := by rw [<- Rk]; exact e5
   have e8 : j * 4 + 2 + 2 <= 4 * R.l.length := by omega
   have hb := (Q2.1 (hr.el hlt).2.1).1
   have hne : ¬ b = h.length := by omega
   have hw : IntKind.i64.wrap ((j : Int) + 1) = (j : Int) + 1 := wrap64 (by omega) (by omega)
   have hsh := (ho.short R.l[j] (Ri hlt)).2
   simp [e1, e2, hlt, e6, e7, e8]
   refine aa (by simp) (zL R.l[j].st m (by omega) _) ?_
   rw [zS]
   by_cases e : R.l[j].st = m
   ·have hf : R.findS m = some R.l[j] := by have := Af ho (Ri hlt); rw [e] at this; exact this
    simp [e, e1, e2, e3, hlt, hf, kx, hh]
    done
   ·simp [e, hw]
    refine ⟨j + 1, ⟨by omega, fun q hq hqj => ?_⟩, by omega, ?_⟩
    ·rcases Rq.1 hqj with h3 | h3
     ·exact hno q hq h3
     ·subst h3; exact e
    ·simp [Leq, hh, ac, hi, aR, al (Rh h.length 1) hh]
     omega
  ·have : j = R.l.length := by omega
   subst this
   have hf : R.findS m = none := by
    unfold Rg.findS
    refine Q9.2 fun s hs => ?_
    obtain ⟨q, hq, rfl⟩ := Ry hs
    simpa using hno q hq hq
   have h1 := hr2.top
   by_cases hl : R.l = []
   ·have hlis : fD b R.l = .sl 0 [] (some true) .exact := by unfold fD; rw [if_pos hl]
    rw [hlis] at h1
    simp [h1, hh, hl, hf, kx]
    done
   ·have hlis : fD b R.l = .bsl b 0 4 R.l.length := by unfold fD; rw [if_neg hl]
    rw [hlis] at h1
    simp [h1, hh, hf, kx]
    done
theorem CM {n : Nat} {R : Rg} (ho : RgOk n R) (m : Sm) (nb : Nat) : ((R.add m nb).upd (R.last + 1) 1).l = R.l ++ [⟨R.last + 1, 1, m, nb⟩] := by
 show (R.l ++ [_]).map _ = _
 rw [Re]
 congr 1
 ·have : ∀ x ∈ R.l, (if x.id = R.last + 1 then { x with refs := 1 } else x) = x := fun x hx => by
   rw [if_neg (by have := (ho.ids x hx).2; omega)]
  exact (Ra this).trans (List.map_id _)
 ·simp
theorem zu (hr : XAt lo h i b R) {n : Nat} (ho : RgOk n R) (hn : R.l.length <= 1000) (hn2 : n <= 1000) (m : Sm) (hl : m.oids.length <= 1000) (nb : Nat) : uO 22 [.box i 0, .agg (db m)] lo h i b R (.v (.int .i64 (R.putId m : Int))) (R.put m nb) := by
 have hr2 : XAt lo (h ++ [db m]) i b R := hr.app _ (by simp [aR])
 have hi := (Q2.1 hr.top).1
 cases hk : bb m with
 | false =>
  have hp : R.put m nb = R := by unfold Rg.put; rw [hk]; rfl
  have hq : R.putId m = 0 := by unfold Rg.putId; rw [hk]; rfl
  rw [hp, hq]
  refine ⟨h, b, ?_, hr, .inl rfl, RD _, fun _ _ _ _ => rfl, fun h => h⟩
  refine ab K5 mixed (by simp [Df]) fun hh hargs => ?_
  simp [Df]
  refine aa (by simp) (sk m (by omega) _) ?_
  rw [nk hk]
  simp [hh]
  done
 | true =>
  have hne : (ce m).isEmpty = false := by
   have h2 := mQ hk
   cases hq : ce m with
   | nil => exact absurd hq h2
   | cons _ _ => rfl
  cases hs : R.findS m with
  | some s =>
   have hm := (j3 hs).1
   have hp : R.put m nb = R.ref (s.id : Int) := by unfold Rg.put Rg.putS Rg.ref; rw [hk, hs, xr ho hm]; rfl
   have hq : R.putId m = s.id := by unfold Rg.putId; rw [hk, hs]; rfl
   rw [hp, hq]
   obtain ⟨h', b', ct, hx, hb', hle, hsame, hpl⟩ := wt hr2 ho hn hn2 (s.id : Int)
   refine ⟨h', b', ?_, hx, ?_, by simp at hle; omega, fun k hk n1 n2 => by rw [hsame k (by simp; omega) n1 n2]; exact Q0 hk, fun hp => hpl (aA hp fun x hx c hc => by rw [Q5.1 hx, aR] at hc; simp at hc; rcases hc with rfl | rfl <;> rfl)⟩
   ·refine ab K5 mixed (by simp [Df]) fun hh hargs => ?_
    simp [Df]
    refine aa (by simp) (sk m (by omega) _) ?_
    simp [hne]
    refine aa (by simp) (pB hr2 ho hn m) ?_
    rw [hs]
    simp [kx]
    refine aa (by simp) ct ?_
    have := hx.lt
    simp at hle
    simp [this, ac]
    omega
   ·rcases hb' with h1 | h1
    ·exact .inl h1
    ·right; simp at h1; omega
  | none =>
   have hp : R.put m nb = (R.add m nb).upd (R.last + 1) 1 := by unfold Rg.put Rg.putS; rw [hk, hs]; rfl
   have hq : R.putId m = R.last + 1 := by unfold Rg.putId; rw [hk, hs]; rfl
   rw [hp, hq]
   have hid : ¬ h.length = i := by omega
   have g1 : ∀ xs, (h ++ xs)[i]? = some [fD b R.l, .v (.int .i64 (R.last : Int))] := fun xs => by rw [Q0 hi]; exact hr.top
   have s1 : ∀ xs c, (h ++ xs).set i c = h.set i c ++ xs := fun xs c => Q7 _ _ hi
   have hw : IntKind.i64.wrap ((R.last : Int) + 1) = (R.last : Int) + 1 := wrap64 (by have := ho.last; omega) (by have := ho.last; omega)
   obtain ⟨H1, h1⟩ : ∃ H1, H1 = h.set i [fD b R.l, .v (.int .i64 ((R.last : Int) + 1))] := ⟨_, rfl⟩
   have hl1 : H1.length = h.length := by rw [h1]; simp
   have g2 : ∀ xs, (H1 ++ xs)[i]? = some [fD b R.l, .v (.int .i64 ((R.last : Int) + 1))] := fun xs => by rw [Q0 (by omega), h1]; exact Q3 hi
   have g3 : ∀ xs, (H1 ++ db m :: xs)[h.length]? = some (db m) := fun xs => by rw [Q8 (by omega), hl1]; simp
   simp only [aR] at g3
   have hsl : fO ⟨R.last + 1, 1, m, nb⟩ = [.v (.int .i64 ((R.last : Int) + 1)), .v (.int .i64 1), .v (.string (ah m.text)), .sl 1 (ai ao m.oids) none .no] := by simp [fO]
   have hfin : ∀ h' : List (List AV), h'[i]? = some [.bsl (h.length + 1) 0 4 (R.l.length + 1), .v (.int .i64 ((R.last : Int) + 1))] -> h'[h.length + 1]? = some ((ai fO R.l).flatten ++ fO ⟨R.last + 1, 1, m, nb⟩) -> aw h'.length h' -> XAt lo h' i (h.length + 1) ((R.add m nb).upd (R.last + 1) 1) := fun h' e1 e2 e3 => by
    have el := CM ho m nb
    have hlo := hr.low.1
    have ene : ((R.add m nb).upd (R.last + 1) 1).l ≠ [] := by rw [el]; simp
    refine ⟨?_, fun _ => ?_, ⟨hlo, by omega⟩, by omega, e3⟩
    ·unfold fD
     rw [if_neg ene, el, e1, Q6]
     show _ = some [AV.bsl _ 0 4 (R.l.length + 1), AV.v (.int .i64 ((R.last + 1 : Nat) : Int))]
     rw [show ((R.last + 1 : Nat) : Int) = (R.last : Int) + 1 by omega]
    ·rw [e2, el]
     have : ai fO (R.l ++ [⟨R.last + 1, 1, m, nb⟩]) = ai fO R.l ++ [fO ⟨R.last + 1, 1, m, nb⟩] := by simp [ai]
     rw [this, List.flatten_append]
     simp
   have hb1 : aw (h.length + 2) h := al (by omega) hr.lt
   by_cases hL : R.l = []
   ·have hlis : fD b R.l = .sl 0 [] (some true) .exact := by unfold fD; rw [if_pos hL]
    rw [hlis] at g1 g2 h1
    have hLt : aw (h.length + 2) (h.set i [.bsl (h.length + 1) 0 4 1, .v (.int .i64 ((R.last : Int) + 1))] ++ [db m, fO ⟨R.last + 1, 1, m, nb⟩]) := bF.2 ⟨aN hb1 (by simp), by rw [hsl]; simp [aR]⟩
    refine ⟨h.set i [.bsl (h.length + 1) 0 4 1, .v (.int .i64 ((R.last : Int) + 1))] ++ [db m, fO ⟨R.last + 1, 1, m, nb⟩], h.length + 1, ?_, ?_, .inr (by omega), by simp, ?_, ?_⟩
    ·refine ab K5 mixed (by simp [Df]) fun hh hargs => ?_
     simp [Df]
     refine aa (by simp) (sk m (by omega) _) ?_
     simp [hne]
     refine aa (by simp) (pB hr2 ho hn m) ?_
     rw [hs]
     simp [kx, g1, s1, hw, <- h1, g2, g3, aR]
     refine cP ?_
     simp [g2, g3]
     refine ⟨by omega, by omega, .inr (.inl ⟨_, rfl, by simp, by simp, .inl ⟨.inl rfl, by simp, by simp, ?_⟩⟩)⟩
     have s2 : ∀ xs c, (H1 ++ xs).set i c = h.set i c ++ xs := fun xs c => by rw [Q7 _ _ (by omega), h1, RH]
     have g5 : ∀ xs c, (h.set i c ++ xs)[i]? = some c := fun xs c => by rw [Q0 (by simpa using hi)]; exact Q3 hi
     simp [g2, hl1, s2, g5, hid]
     rw [hsl]
     exact ⟨ag _ _, aN hb1 (by simp), by simp⟩
    ·refine hfin _ ?_ ?_ (by simpa using hLt)
     ·rw [Q0 (by simpa using hi), Q3 hi, hL]; rfl
     ·rw [Q8 (by simp), hL]; simp [ai]
    ·intro k hk n1 n2
     rw [Q0 (by simpa using hk), Q1 (Ne.symm n1)]
    ·intro hp
     refine aA (aP hp (fun c hc => by simp at hc; rcases hc with rfl | rfl <;> rfl) _) ?_
     intro x hx c hc
     rw [hsl, aR] at hx
     simp at hx
     rcases hx with rfl | rfl <;> simp at hc
     ·rcases hc with rfl | rfl <;> rfl
     ·rcases hc with rfl | rfl | rfl | rfl <;> rfl
   ·have hlis : fD b R.l = .bsl b 0 4 R.l.length := by unfold fD; rw [if_neg hL]
    rw [hlis] at g1 g2 h1
    have hb := hr.list hL
    have hbl := (Q2.1 hb).1
    have g4 : ∀ xs, (H1 ++ xs)[b]? = some (ai fO R.l).flatten := fun xs => by rw [Q0 (by omega), h1, Q1 hr.apart]; exact hb
    refine ⟨(h.set i [.bsl (h.length + 1) 0 4 (R.l.length + 1), .v (.int .i64 ((R.last : Int) + 1))]).set b [] ++ [db m, (ai fO R.l).flatten ++ fO ⟨R.last + 1, 1, m, nb⟩], h.length + 1, ?_, ?_, .inr (by omega), by simp, ?_, ?_⟩
    ·refine ab K5 mixed (by simp [Df]) fun hh hargs => ?_
     simp [Df]
     refine aa (by simp) (sk m (by omega) _) ?_
     simp [hne]
     refine aa (by simp) (pB hr2 ho hn m) ?_
     rw [hs]
     simp [kx, g1, s1, hw, <- h1, g2, g3, aR]
     refine cP ?_
     simp [g2, g3]
     refine ⟨by omega, by omega, .inr (.inl ⟨_, rfl, by simp, by simp, rfl, _, g4 _, fun e => by have := congrArg Rt e; rw [jN] at this; have := List.length_pos_iff.2 hL; simp at *; omega, by rw [jN]; omega, mP _, by simp; omega, by simp; omega, ?_⟩)⟩
     have s3 : ∀ xs, (H1 ++ xs).set b [] = H1.set b [] ++ xs := fun xs => Q7 _ _ (by omega)
     have g6 : ∀ xs, (H1.set b [] ++ xs)[i]? = some [.bsl b 0 4 R.l.length, .v (.int .i64 ((R.last : Int) + 1))] := fun xs => by rw [Q0 (by simp; omega), Q1 (Ne.symm hr.apart), h1]; exact Q3 hi
     have s4 : ∀ xs c, (H1.set b [] ++ xs).set i c = (h.set i c).set b [] ++ xs := fun xs c => by rw [Q7 _ _ (by simp; omega), List.set_comm _ _ (Ne.symm hr.apart), h1, RH]
     have g7 : ∀ xs c, ((h.set i c).set b [] ++ xs)[i]? = some c := fun xs c => by rw [Q0 (by simpa using hi), Q1 (Ne.symm hr.apart)]; exact Q3 hi
     have n1 : ¬ h.length = b := by omega
     have n2 : ¬ i = b := hr.apart
     simp [hl1, s3, g6, s4, g7, hid, n1, n2]
     rw [hsl, Ru (by simp), Ru (by rw [jN]; omega)]
     exact ⟨ag _ _, aN (aN hb1 (by simp)) (by simp), sd _ _, by simp⟩
    ·refine hfin _ ?_ ?_ ?_
     ·rw [Q0 (by simpa using hi), Q1 (Ne.symm hr.apart), Q3 hi]
     ·rw [Q8 (by simp)]; simp
     ·simp only [Q6, Rb, RE, List.length_nil]
      refine bF.2 ⟨aN (aN hb1 (by simp)) (by simp), ?_⟩
      rw [hsl, aR]
      simp
      exact sd _ _
    ·intro k hk n1 n2
     rw [Q0 (by simpa using hk), Q1 (Ne.symm n2), Q1 (Ne.symm n1)]
    ·intro hp
     refine aA (aP (aP hp (fun c hc => by simp at hc; rcases hc with rfl | rfl <;> rfl) _) (fun c hc => by simp at hc) _) ?_
     intro x hx c hc
     rw [hsl, aR] at hx
     rcases Rx.1 hx with rfl | hx
     ·simp at hc; rcases hc with rfl | rfl <;> rfl
     ·rw [Q5.1 hx] at hc
      rcases Rc.1 hc with hc | hc
      ·exact mP _ c hc
      ·simp at hc; rcases hc with rfl | rfl | rfl | rfl <;> rfl
end
end Go.Proofs.YtdfgljojemmlcaaGreat.Ax
