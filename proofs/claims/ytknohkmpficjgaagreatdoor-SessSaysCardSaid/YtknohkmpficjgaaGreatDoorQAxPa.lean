import Derived.Test.YtknohkmpficjgaaGreatDoorQAxCy
import Derived.Test.YtknohkmpficjgaaGreatDoorQAxIp
set_option linter.unusedSimpArgs false
set_option linter.unusedVariables false
open List renaming getElem?_eq_some_iff -> Q7, getElem?_take -> Q8, getElem?_drop -> Ra, getD_eq_getElem?_getD -> Rb, mem_map -> Re
open Nat renaming zero_le -> Q9, le_refl -> Rc
namespace Go.Proofs.YtknohkmpficjgaaGreatDoor.Ax
open Go.RowKit Go By
def Nv:XFun:=⟨4,.seq (.ops [oK 0 (.pointer none)]) (.seq (.ops [oX 1 (.makeMap 1 true),oD 2 0 [.v (.map none)] 1,oJ 3 2,oA 0 3]) .ret),[.move (.tmp 0)]⟩
theorem Qr : ai Tryz.prog 21 = some Nv := by kernel_rfl
def C9:XFun:=⟨35,.seq (.ops [oJ 5 2,oK 6 (.int .i64 0)]) (.seq (.block 0 (.seq (.ops [oM 9 0,oX 10 (.pnileq false (.tmp 9)),oM 11 10,oG 11 false (oM 12 0),oG 11 false (oX 13 (.nilCheck (.tmp 12))),oG 11 false (oF 14 0 13),oG 11 false (oL 15 14),oG 11 false (oX 16 (.mnileq false (.tmp 15))),oU 17 11 16,oA 8 17]) (.cond (.tmp 8) (.seq (.ops [oK 6 (.int .i64 2)]) .ret) (.seq (.ops [oM 19 1,oI 20 .neq 19 (.string (ah [])),oM 21 20,oG 21 true (oM 22 0),oG 21 true (oM 23 1),oG 21 true (oC 24 74 [22,23]),oG 21 true (oX 25 (.pnileq true (.tmp 24))),oT 26 21 25,oA 18 26]) (.cond (.tmp 18) (.seq (.ops [oK 6 (.int .i64 8)]) .ret) .skip))))) (.seq (.ops [oP 27 6 5,oC 28 149 [27],oZ 7 pI,oS 6 7 28]) (.seq (.draws (.take (oM 29 0) (.take (oX 30 (.nilCheck (.tmp 29))) (.take (oF 31 0 30) (.take (oL 32 31) (.take (oM 33 1) (.only (oC 34 83 [33]) (.last ⟨none,.mapUpd none 1 true (.tmp 32) (.tmp 34) (.tmp 7),none⟩)))))))) (.seq (.ops [oK 6 (.int .i64 0)]) .ret)))),[.move (.tmp 6)]⟩
theorem Py : ai Tryz.prog 87 = some C9 := by kernel_rfl
def Ar:XFun:=⟨17,.seq (.ops [oZ 4 pI,oK 5 (.bool false)]) (.seq (.ops [oM 7 0,oM 8 1,oC 9 74 [7,8],oA 6 9]) (.seq (.seq (.ops [oM 10 6,oX 11 (.pnileq false (.tmp 10))]) (.cond (.tmp 11) (.seq (.ops [oX 12 (.build pI []),oS 6 4 12,oK 5 (.bool false)]) .ret) .skip)) (.seq (.ops [oM 13 6,oX 14 (.nilCheck (.tmp 13)),oP 15 6 14,oC 16 149 [15],oS 6 4 16,oK 5 (.bool true)]) .ret))),[.loadN 6 (.tmp 4),.move (.tmp 5)]⟩
theorem KW : ai Tryz.prog 151 = some Ar := by kernel_rfl
def Ky:XFun:=⟨27,.seq (.ops [oK 6 (.bool false)]) (.seq (.ops [oM 8 0,oM 9 1,oC 10 74 [8,9],oA 7 10]) (.seq (.seq (.ops [oM 11 7,oX 12 (.pnileq false (.tmp 11)),oM 13 12,oG 13 false (oM 14 7),oG 13 false (oX 15 (.nilCheck (.tmp 14))),oG 13 false (oF 16 4 15),oG 13 false (oL 17 16),oU 18 13 17]) (.cond (.tmp 18) (.seq (.ops [oK 6 (.bool false)]) .ret) .skip)) (.seq (.ops [oM 19 7,oM 20 7,oM 21 2,oC 22 153 [21],oX 23 (.nilCheck (.tmp 19)),oF 24 4 23,oQ 1 24 (.bool true),oX 25 (.nilCheck (.tmp 20)),oF 26 3 25,oS 1 26 22]) (.seq (.ops [oK 6 (.bool true)]) .ret)))),[.move (.tmp 6)]⟩
theorem P3 : ai Tryz.prog 91 = some Ky := by kernel_rfl
def Da:XFun:=⟨59,.seq (.ops [oN 6,oK 7 (.bool false)]) (.seq (.ops [oM 10 0,oM 11 1,oC 12 74 [10,11],oA 8 12]) (.seq (.seq (.ops [oM 13 8,oX 14 (.pnileq false (.tmp 13)),oM 15 14,oG 15 false (oM 16 8),oG 15 false (oX 17 (.nilCheck (.tmp 16))),oG 15 false (oF 18 4 17),oG 15 false (oL 19 18),oG 15 false (oV 20 19),oU 21 15 20,oM 22 21,oG 22 false (oM 23 8),oG 22 false (oX 24 (.nilCheck (.tmp 23))),oG 22 false (oF 25 5 24),oG 22 false (oL 26 25),oU 27 22 26]) (.cond (.tmp 27) (.seq (.ops [oN 6,oK 7 (.bool false)]) .ret) .skip)) (.seq (.seq (.ops [oM 28 2,oI 29 .lss 28 (.int .i64 1)]) (.cond (.tmp 29) (.ops [oM 30 8,oX 31 (.nilCheck (.tmp 30)),oF 32 3 31,oL 33 32,oH 34 33,oA 2 34]) .skip)) (.seq (.ops [oM 35 8,oM 36 2,oM 37 8,oX 38 (.nilCheck (.tmp 37)),oF 39 3 38,oL 40 39,oH 41 40,oX 42 (.minI [.tmp 36,.tmp 41]),oC 43 154 [35,42],oA 9 43]) (.seq (.ops [oM 44 8,oM 45 8,oX 46 (.nilCheck (.tmp 45)),oF 47 3 46,oL 48 47,oH 49 48,oI 50 .eql 49 (.int .i64 0),oX 51 (.nilCheck (.tmp 44)),oF 52 5 51,oS 1 52 50]) (.seq (.draws (.take (oM 53 9) (.take (oM 54 8) (.take (oX 55 (.nilCheck (.tmp 54))) (.take (oF 56 5 55) (.take (oL 57 56) (.take (oV 58 57) (.take (oA 6 53) (.take (oA 7 58) .done))))))))) .ret)))))),[.move (.tmp 6),.move (.tmp 7)]⟩
theorem MB : ai Tryz.prog 92 = some Da := by kernel_rfl
def Kv:XFun:=⟨14,.seq (.ops [oK 4 (.bool false)]) (.seq (.seq (.ops [oM 5 0,oM 6 1,oC 7 74 [5,6],oX 8 (.pnileq false (.tmp 7))]) (.cond (.tmp 8) (.seq (.ops [oK 4 (.bool false)]) .ret) .skip)) (.seq (.ops [oM 9 0,oX 10 (.nilCheck (.tmp 9)),oF 11 0 10,oL 12 11,oM 13 1,⟨none,.mapDel none 1 true (.tmp 12) (.tmp 13),none⟩]) (.seq (.ops [oK 4 (.bool true)]) .ret))),[.move (.tmp 4)]⟩
theorem PZ : ai Tryz.prog 41 = some Kv := by kernel_rfl
def NB:XFun:=⟨8,.seq (.ops [oM 2 0,oX 3 (.pnileq true (.tmp 2))]) (.cond (.tmp 3) (.ops [oM 4 0,oX 5 (.nilCheck (.tmp 4)),oF 6 0 5,oL 7 6,⟨none,.clearM 1 true (.tmp 7),none⟩]) .skip),[]⟩
theorem QD : ai Tryz.prog 40 = some NB := by kernel_rfl
def Mg:XFun:=⟨13,.seq (.ops [oK 4 (.pointer none)]) (.seq (.seq (.ops [oM 5 0,oX 6 (.pnileq false (.tmp 5))]) (.cond (.tmp 6) (.seq (.ops [oK 4 (.pointer none)]) .ret) .skip)) (.seq (.ops [oM 7 0,oX 8 (.nilCheck (.tmp 7)),oF 9 0 8,oL 10 9,oM 11 1,oX 12 (.lookup none 1 true false [.v (.pointer none)] (.tmp 10) (.tmp 11)),oA 4 12]) .ret)),[.move (.tmp 4)]⟩
theorem QW : ai Tryz.prog 74 = some Mg := by kernel_rfl
def c154:XFun:=⟨29,.seq (.ops [oN 4]) (.seq (.ops [oM 6 0,oX 7 (.nilCheck (.tmp 6)),oF 8 3 7,oL 9 8,oM 10 1,oX 11 (.slice 1 (.tmp 9) none (some (.tmp 10)) none),oC 12 201 [11],oA 5 12]) (.seq (.ops [oM 13 0,oX 14 (.nilCheck (.tmp 13)),oF 15 3 14,oL 16 15,oM 17 1,oX 18 (.slice 1 (.tmp 16) none (some (.tmp 17)) none),⟨none,.clearS (.slice none 0 0) (.tmp 18),none⟩]) (.seq (.ops [oM 19 0,oM 20 0,oX 21 (.nilCheck (.tmp 20)),oF 22 3 21,oL 23 22,oM 24 1,oX 25 (.slice 1 (.tmp 23) (some (.tmp 24)) none none),oX 26 (.nilCheck (.tmp 19)),oF 27 3 26,oS 1 27 25]) (.seq (.ops [oM 28 5,oA 4 28]) .ret)))),[.move (.tmp 4)]⟩
theorem KX : ai Tryz.prog 154 = some c154 := by kernel_rfl
def Aq:XFun:=⟨22,.seq (.ops [oJ 1 0,oZ 2 pI]) (.seq (.draws (.take (oF 3 0 1) (.take (oF 4 0 3) (.take (oL 5 4) (.take (oF 7 0 1) (.take (oF 8 1 7) (.take (oL 9 8) (.only (oC 6 83 [5]) (.only (oC 10 84 [9]) (.take (oX 11 (.build mZ [(0,1,.tmp 6),(1,1,.tmp 10)])) (.take (oF 12 0 1) (.last (oS 2 12 11))))))))))))) (.seq (.ops [oF 13 2 1,oL 14 13,oC 15 141 [14],oF 16 2 1,oS 1 16 15]) (.seq (.ops [oF 17 3 1,oL 18 17,oC 19 153 [18],oF 20 3 1,oS 1 20 19]) (.seq (.ops [oP 21 6 1,oS 6 2 21]) .ret)))),[.loadN 6 (.tmp 2)]⟩
theorem KV : ai Tryz.prog 149 = some Aq := by kernel_rfl
def c153:XFun:=⟨22,.seq (.ops [oN 2]) (.seq (.ops [oM 6 0,oC 7 201 [6],oA 3 7]) (.seq (.seq (.ops [oM 8 3,oH 9 8,oX 10 (.move (.const (.int .i64 0)))]) (.block 0 (.loop (.seq (.ops [oB 11 .lss 10 9]) (.seq (.cond (.tmp 11) .skip (.exit 0)) (.seq (.block 1 (.seq (.ops [oM 12 10,oW 13 1 8 10,oL 14 13,oA 4 12,oA 5 14]) (.ops [oM 15 3,oM 16 4,oM 17 5,oC 18 141 [17],oW 19 1 15 16,oS 1 19 18]))) (.ops [oI 20 .add 10 (.int .i64 1),oM 10 20]))))))) (.seq (.ops [oM 21 3,oA 2 21]) .ret))),[.move (.tmp 2)]⟩
theorem GQ : ai Tryz.prog 153 = some c153 := by kernel_rfl
end Go.Proofs.YtknohkmpficjgaaGreatDoor.Ax
namespace Go.Proofs.YtknohkmpficjgaaGreatDoor.Ax
set_option maxRecDepth 100000
open Go.RowKit Go By YtknohkmpficjgaaGreatDoor.Nm Sc Dg
set_option maxRecDepth 10000
def bU (r : List Cl) : AV := .sl 2 (al aq r) none .no
theorem xI (r : List Cl) : bU r = .sl 2 (al aq r) none .no := rfl
theorem DY (n : Nat) (r : List Cl) : (bU r).lt n := by simp [bU]
theorem lS : ∀ L : List (List Cl), (al bl L).flatten = L.map bU
 | [] => rfl
 | x :: L => by rw [de, List.flatten_cons, lS L]; rfl
theorem fi (n : Nat) (L : List (List Cl)) : cg n (L.map bU) := cE fun j c hj => by
 obtain ⟨r, _, rfl⟩ := Re.1 (List.mem_of_getElem? hj)
 exact DY n r
theorem ox (L : List (List Cl)) : ∀ c ∈ L.map bU, c.idOf = none := fun c hc => by
 obtain ⟨r, _, rfl⟩ := Re.1 hc
 rfl
theorem AX {G : Ghost} {w : World} {h : List (List AV)} (hW : WorldOk G w) (hS : db G h) {i off n : Nat} {cs : List AV} (hcs : h[i]? = some cs) (hfit : off + n <= cs.length) {x : Value} (hx : Sees G (.bsl i off 1 n) x) (hn : 0 < n) :
  ∃ (b o cap : Nat) (us : List Value), x = .slice (some ⟨b, o, none⟩) n cap /\ b < w.heap.size /\ us.length = n * 1 /\ (∀ x ∈ us, x.oneCell' = true) /\ (∀ (j : Nat) (u : Value), us[j]? = some u -> w.cell? ⟨b, o + j, none⟩ = some u) /\ ∀ (j : Nat) (c : AV), ((cs.drop off).take n)[j]? = some c -> Sees G c (us.getD j undef) := by
 cases hx with
 | bsl _ _ _ _ b cap hb hcap hm o ho =>
  have hbl : i < G.boxv.length := by rw [<- hS.1]; exact (Q7.1 hcs).1
  obtain ⟨vs, hvs⟩ : ∃ vs, G.boxv[i]? = some vs := ⟨_, List.getElem?_eq_getElem hbl⟩
  obtain ⟨q1, q2, q3⟩ := hS.2 i cs vs hcs hvs
  obtain ⟨b1, b2, b3, b4⟩ := hW.box i b vs hb.1 hvs
  have ho2 : o = G.base i + off := by omega
  subst ho2
  refine ⟨b, G.base i + off, cap, (vs.drop off).take n, rfl, b2, by rw [List.length_take, List.length_drop]; omega, fun x hx => q2 x (List.mem_of_mem_drop (List.mem_of_mem_take hx)), fun j u hu => ?_, fun j c hj => ?_⟩
  ·rw [Q8] at hu
   split at hu
   ·rw [Ra] at hu
    rw [Nat.add_assoc]
    exact (b4 (off + j) u hu hb.2).1
   ·cases hu
  ·rw [Q8] at hj
   split at hj
   ·rename_i hjn
    rw [Ra] at hj
    rw [Rb, Q8, if_pos hjn, Ra, <- Rb]
    exact q3 _ c hj
   ·cases hj
theorem uj : (Tryz.prog.info? 30).map (fun i => (i.zero, i.size, i.bytes)) = some (some (.slice none 0 0), 1, 24) := by kernel_rfl
theorem pR (b o n c : Nat) (us : List Value) (w : World) (hl : us.length = n * 1) (hc : ∀ (j : Nat) (u : Value), us[j]? = some u -> w.cell? ⟨b, o + j, none⟩ = some u) (hb : b < w.heap.size) (h1 : ∀ u ∈ us, u.oneCell' = true) (hn : n <= 4398046511104) :
  Calls Tryz.prog 201 #[.slice (some ⟨b, o, none⟩) n c] w fun e w' => ∃ v, e = .returned v /\ w'.ownsRow w.heap.size 30 1 v n us /\ Below w.heap.size w w' := by
 obtain ⟨i0, hi, hz0, hz1, hz2⟩ := gz uj
 have heq := fun W : World => Lib.run_eql_slice_nil (P := Tryz.prog) W 133 30 (some ⟨b, o, none⟩) n c 0 0 Tryz.underlying133
 have HX0 : ∀ (j : Nat) (u : Value), us[j]? = some u -> (w.alloc (.cells #[] 30)).cell? ((⟨b, o, none⟩ : Addr).add j) = some u := fun j u hu => by
  rw [add_plain, (aj w _ (o + j) hb).1]; exact hc j u hu
 have HX := Lib.hid HX0
 have HL := Lib.hid hl
 have H1 := Lib.hid h1
 clear HX0 hc hl h1
 go_enter Tryz.func201, Tryz.ntmps201
 go_wp2_with (at_builtin; refine wpList_append_own_at (w := w.alloc (.cells #[] 30)) rfl _ _ 133 rfl w.heap.size 30 i0 (.slice none 0 0) 1 24 Tryz.underlying133 hi hz0 hz1 hz2 rfl (by omega) _ 0 [] rfl ?c1 ⟨b, o, none⟩ n c us rfl HL.out HX.out H1.out ?c4 ?c5 ?c6 ?c7)
 case c1 => exact World.ownsRow_made w #[] 0 (Rc _) (by simp [maxLen]) (by simp)
 case c4 => unfold maxLen; omega
 case c5 => omega
 case c6 => simp
 case c7 =>
  intro v' w' hown hg
  intros
  have HO := Lib.hid hown
  clear hown
  go_wp2
  go_ret
  refine ⟨v', rfl, by simpa using HO.out, ((Below.refl _ _).alloc (Rc _) _).grown hg (by simp) (by simp [Value.ownBlock])⟩
theorem iq (ad : Addr) (c : Nat) (w : World) :
  Calls Tryz.prog 201 #[.slice (some ad) 0 c] w fun e w' => ∃ v, e = .returned v /\ w'.ownsRow w.heap.size 30 1 v 0 [] /\ Below w.heap.size w w' := by
 obtain ⟨i0, hi, hz0, hz1, hz2⟩ := gz uj
 have heq := fun W : World => Lib.run_eql_slice_nil (P := Tryz.prog) W 133 30 (some ad) 0 c 0 0 Tryz.underlying133
 go_enter Tryz.func201, Tryz.ntmps201
 go_wp2_with (at_builtin; refine wpList_append_own_at (w := w.alloc (.cells #[] 30)) rfl _ _ 133 rfl w.heap.size 30 i0 (.slice none 0 0) 1 24 Tryz.underlying133 hi hz0 hz1 hz2 rfl (by omega) _ 0 [] rfl ?c1 ad 0 c [] rfl (by simp) (by simp) (by simp) ?c4 ?c5 ?c6 ?c7)
 case c1 => exact World.ownsRow_made w #[] 0 (Rc _) (by simp [maxLen]) (by simp)
 case c4 => unfold maxLen; omega
 case c5 => omega
 case c6 => simp
 case c7 =>
  intro v' w' hown hg
  intros
  have HO := Lib.hid hown
  clear hown
  go_wp2
  go_ret
  refine ⟨v', rfl, by simpa using HO.out, ((Below.refl _ _).alloc (Rc _) _).grown hg (by simp) (by simp [Value.ownBlock])⟩
theorem pS (w : World) (c : Nat) : Calls Tryz.prog 201 #[.slice none 0 c] w fun e w' => e = .returned (.slice none 0 0) /\ w = w' := by
 have heq := fun W : World => Lib.run_eql_slice_nil (P := Tryz.prog) W 133 30 none 0 c 0 0 Tryz.underlying133
 go_enter Tryz.func201, Tryz.ntmps201
 go_wp2
 go_ret
 exact ⟨rfl, rfl⟩
theorem rO (h : List (List AV)) : ae Tryz.prog 201 [.sl 1 [] none .no] h (.sl 1 [] none .no) h [] := by
 refine bw (by kernel_rfl) rfl fun G w vs hW hvs => ?_
 obtain ⟨x, rfl, hx⟩ := hvs.one
 cases hx with
 | sl _ _ _ _ a len cap u hlen hn hk hcap hm =>
  have hl0 : len = 0 := hlen
  subst hl0
  have empty : ∀ (G : Ghost) (a : Option Addr) (cap : Nat), (a = none -> cap = 0) -> cap <= maxLen -> Sees G (.sl 1 [] none .no) (.slice a 0 cap) := fun G a cap h1 h2 =>
   .sl 1 [] none .no a 0 cap (fun _ _ => undef) rfl ⟨fun h => ⟨h1 h, rfl⟩, fun h => (by cases h), fun h => (by cases h)⟩ (fun e h => by cases h) (Q9 _) h2 (fun h => by cases h) (fun h => by simp at h) (fun i e h => by simp at h) (fun i j h => by simp at h)
  cases a with
  | none =>
   refine (pS w cap).mono fun e w' he => ?_
   obtain ⟨rfl, rfl⟩ := he
   exact ⟨_, rfl, empty G none 0 (fun _ => rfl) (Q9 _), Below.refl _ _⟩
  | some ad =>
   refine (iq ad cap w).mono fun e w' he => ?_
   obtain ⟨v, rfl, ⟨_, hown⟩, hb⟩ := he
   rcases hown with ⟨rfl, _⟩ | ⟨g, cap2, cur, rfl, hg, hrow, hcap2, hmax, hcs, htake⟩
   ·exact ⟨_, rfl, empty G none 0 (fun _ => rfl) (Q9 _), hb⟩
   ·exact ⟨_, rfl, empty G _ cap2 (fun h => by cases h) hmax, hb⟩
def RowsX (h : List (List AV)) (x : AV) (L : List (List Cl)) : Prop :=
 x = .sl 1 (al bl L) none .no \/ ∃ b o cs, x = .bsl b o 1 L.length /\ h[b]? = some cs /\ (cs.drop o).take L.length = L.map bU /\ o + L.length <= cs.length
theorem RowsX.bsl {h : List (List AV)} {b o : Nat} {cs : List AV} {L : List (List Cl)} (hb : h[b]? = some cs) (hd : (cs.drop o).take L.length = L.map bU) (ho : o + L.length <= cs.length) : RowsX h (.bsl b o 1 L.length) L := .inr ⟨b, o, cs, rfl, hb, hd, ho⟩
theorem RowsX.id {h : List (List AV)} {x : AV} {L : List (List Cl)} (hx : RowsX h x L) : x.idOf = none := by
 rcases hx with rfl | ⟨b, o, cs, rfl, _⟩ <;> rfl
theorem RowsX.unown {h : List (List AV)} {x : AV} {L : List (List Cl)} (hx : RowsX h x L) : x.unown = x := by
 rcases hx with rfl | ⟨b, o, cs, rfl, _⟩ <;> rfl
theorem RowsX.cells {h : List (List AV)} {x : AV} {L : List (List Cl)} (hx : RowsX h x L) : x.cells = some [x] := by
 rcases hx with rfl | ⟨b, o, cs, rfl, _⟩ <;> rfl
theorem RowsX.lt {h : List (List AV)} {x : AV} {L : List (List Cl)} (hx : RowsX h x L) : x.lt h.length := by
 rcases hx with rfl | ⟨b, o, cs, rfl, hb, _⟩
 ·simp only [DU]
  exact di (f := bl) _ (fun a => by simp [bl]) L
 ·exact (Q7.1 hb).1
theorem RowsX.app {h : List (List AV)} {x : AV} {L : List (List Cl)} (hx : RowsX h x L) (xs : List (List AV)) : RowsX (h ++ xs) x L := by
 rcases hx with rfl | ⟨b, o, cs, rfl, hb, h2, h3⟩
 ·exact .inl rfl
 ·exact .inr ⟨b, o, cs, rfl, by rw [List.getElem?_append_left (Q7.1 hb).1]; exact hb, h2, h3⟩
theorem iD {h : List (List AV)} {x : AV} {L : List (List Cl)} (hx : RowsX h x L) (hne : L ≠ []) (hl : L.length <= 4398046511104) : ae Tryz.prog 201 [x] h (.bsl h.length 0 1 L.length) (h ++ [L.map bU]) [] := by
 refine gq (by kernel_rfl) (ox L) fun G w vs hW hS hvs => ?_
 obtain ⟨v, rfl, hv⟩ := hvs.one
 have key : ∃ (b o cap : Nat) (us : List Value), v = .slice (some ⟨b, o, none⟩) L.length cap /\ b < w.heap.size /\ us.length = L.length * 1 /\ (∀ x ∈ us, x.oneCell' = true) /\ (∀ (j : Nat) (u : Value), us[j]? = some u -> w.cell? ⟨b, o + j, none⟩ = some u) /\ ∀ (j : Nat) (c : AV), (L.map bU)[j]? = some c -> Sees G c (us.getD j undef) := by
  rcases hx with rfl | ⟨b, o, cs, rfl, hb, hd, ho⟩
  ·obtain ⟨b, o, cap, us, rfl, h1, h2, h3, h4, h5, h6⟩ := qz (by omega) hv (by simpa [al] using hne) hW
   have hlen : (al bl L).length = L.length := by simp
   rw [hlen] at h2 h3 ⊢
   rw [lS] at h6
   exact ⟨b, o, cap, us, rfl, h1, h2, h4, h5, h6⟩
  ·obtain ⟨b', o', cap, us, e, h1, h2, h4, h5, h6⟩ := AX hW hS hb ho hv (List.length_pos_iff.2 hne)
   rw [hd] at h6
   exact ⟨b', o', cap, us, e, h1, h2, h4, h5, h6⟩
 obtain ⟨b, o, cap, us, rfl, h1, h2, h4, h5, h6⟩ := key
 refine (pR b o L.length cap us w h2 h5 h1 h4 hl).mono fun e w' he => ?_
 obtain ⟨v, rfl, ⟨_, hown⟩, hb⟩ := he
 rcases hown with ⟨_, hn⟩ | ⟨g, cap2, cur, rfl, hg, hrow, hcap, hmax, hcs, htake⟩
 ·exact absurd (List.eq_nil_of_length_eq_zero hn) hne
 ·refine ⟨g, cap2, us, rfl, hg, (Array.getElem?_eq_some_iff.1 hrow).1, hcap, ⟨hmax, fun j hj => ⟨by rw [cell_of_row _ _ j cur _ (0, 0) hrow, Array.getElem?_eq_getElem (by omega)]; rfl, by simp [World.frozen?, hrow]⟩⟩, by rw [h2]; simp, h4, h6, fun j x hj => ?_, hb⟩
  rw [<- htake, Q8] at hj
  split at hj
  ·refine ⟨by rw [cell_of_row _ _ j cur _ (0, 0) hrow, <- Array.getElem?_toList]; exact hj, ?_⟩
   simp [World.frozen?, hrow]
  ·cases hj
theorem mq {h : List (List AV)} {x : AV} (hx : RowsX h x []) : ae Tryz.prog 201 [x] h (.sl 1 [] none .no) h [] := by
 rcases hx with rfl | ⟨b, o, cs, rfl, hb, hd, ho⟩
 ·exact rO h
 ·refine bw (by kernel_rfl) rfl fun G w vs hW hvs => ?_
  obtain ⟨x, rfl, hx⟩ := hvs.one
  cases hx with
  | bsl _ _ _ _ bb cap hbb hcap hm o2 ho2 =>
   refine (iq ⟨bb, o2, none⟩ cap w).mono fun e w' he => ?_
   obtain ⟨v, rfl, ⟨_, hown⟩, hb2⟩ := he
   have empty : ∀ (G : Ghost) (a : Option Addr) (cap : Nat), (a = none -> cap = 0) -> cap <= maxLen -> Sees G (.sl 1 [] none .no) (.slice a 0 cap) := fun G a cap h1 h2 =>
    .sl 1 [] none .no a 0 cap (fun _ _ => undef) rfl ⟨fun h => ⟨h1 h, rfl⟩, fun h => (by cases h), fun h => (by cases h)⟩ (fun e h => by cases h) (Q9 _) h2 (fun h => by cases h) (fun h => by simp at h) (fun i e h => by simp at h) (fun i j h => by simp at h)
   rcases hown with ⟨rfl, _⟩ | ⟨g, cap2, cur, rfl, hg, hrow, hcap2, hmax, hcs, htake⟩
   ·exact ⟨_, rfl, empty G none 0 (fun _ => rfl) (Q9 _), hb2⟩
   ·exact ⟨_, rfl, empty G _ cap2 (fun h => by cases h) hmax, hb2⟩
def RowsFit (L : List (List Cl)) : Prop := L.length <= 1000000 /\ ∀ r ∈ L, r.length <= 4398046511104 /\ ∀ c ∈ r, c.2.length <= 140737488351232
theorem mm {h : List (List AV)} {x : AV} (hx : RowsX h x []) : ae Tryz.prog 153 [x] h (.sl 1 [] none .no) h [] := by
 have hid := hx.id
 refine ac GQ mixed (by simp [c153]) fun hh hargs => ?_
 simp [c153, hid]
 refine aa (by simpa using hid) (mq hx) ?_
 simp
 refine ar (D := Nat) (fun _ => ⟨[(3, .sl 1 [] none .no), (8, .sl 1 [] none .no), (9, .v (.int .i64 0)), (10, .v (.int .i64 0))], [], h, []⟩) (fun _ => True) (fun _ => 0) 0 trivial ?_ ?_
 ·simp [Leq, hh]
 ·intro _ _
  simp [hh]
theorem mn {h : List (List AV)} {x : AV} {L : List (List Cl)} (hx : RowsX h x L) (hne : L ≠ []) (hf : RowsFit L) : ae Tryz.prog 153 [x] h (.bsl h.length 0 1 L.length) (h ++ [L.map bU]) [] := by
 have hid := hx.id
 have hlt := hx.lt
 refine ac GQ mixed (by simp [c153]) fun hh hargs => ?_
 have hF := fun n => fi n L
 have hl1 := hf.1
 simp [c153, hid]
 refine aa (by simpa using hid) (iD hx hne (by omega)) ?_
 simp
 refine ar (D := Nat) (fun j => ⟨[(3, .bsl h.length 0 1 L.length), (8, .bsl h.length 0 1 L.length), (9, .v (.int .i64 L.length)), (10, .v (.int .i64 j))], [], h ++ [L.map bU], []⟩) (fun j => j <= L.length) (fun j => L.length - j) 0 (by simp) ?_ ?_
 ·simp [Leq, hh, hF]
 ·intro j hj
  by_cases hlt : j < L.length
  ·have hw : IntKind.i64.wrap ((j : Int) + 1) = (j : Int) + 1 := wrap64 (by omega) (by omega)
   obtain ⟨f1, f2⟩ := hf.2 _ (List.getElem_mem hlt)
   have hsame : (L.map bU).set j (bU L[j]) = L.map bU := by
    refine List.ext_getElem? fun q => ?_
    rw [List.getElem?_set]
    split
    ·rename_i e; subst e; simp [hlt]
    ·rfl
   simp [hlt, xI] at hsame ⊢
   refine aa (by simp) (cR L[j] f1 f2 _) ?_
   have hnext : j + 1 <= L.length := hlt
   simp [hlt, hsame, hw, hnext]
   refine ⟨j + 1, by omega, by omega, ?_⟩
   simp [Leq, hh, hF]
  ·have : j = L.length := by omega
   subst this
   simp [hh, hF]
end Go.Proofs.YtknohkmpficjgaaGreatDoor.Ax
