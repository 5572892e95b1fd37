import Derived.Test.YtdfgljojemmlcaaGreatQAxOa
set_option linter.unusedSimpArgs false
set_option linter.unusedVariables false
open List renaming getElem?_append_left -> Q0, getElem?_append_right -> Q2, getElem?_eq_some_iff -> Q3, flatMap_append -> Q5, length_append -> Q6, getD_eq_getElem?_getD -> Q7, getElem?_eq_getElem -> Q8, getElem_mem -> Q9, take_append_drop -> Rb, getElem?_eq_none -> Rc, take_length -> Rd, nil_append -> Re
open Nat renaming le_refl -> Q1, le_add_right -> Q4, zero_le -> Ra, sub_self -> Rf
namespace Go.Proofs.YtdfgljojemmlcaaGreat.Ax
open Go.RowKit Go By
def L9:XFun:=⟨32,.seq (.ops [oJ 5 2,oK 6 (.int .i64 0),oK 7 (.bool false)]) (.seq (.ops [oM 12 0,oL 13 5,oC 14 119 [12,13],oM 11 14,oE 15 11 0,oE 16 11 1,oZ 8 z9,oZ 9 [.v (.bool false)],oS 1 8 15,oS 1 9 16]) (.seq (.seq (.ops [oM 17 1,oC 18 120 [17]]) (.block 0 (.range (.tmp 18) [19] (.ops [oZ 10 z4,oS 3 10 19]) (.block 1 (.block 2 (.seq (.ops [oF 21 1 10,oL 22 21,oL 23 5,oB 24 .neq 22 23,oA 20 24]) (.cond (.tmp 20) .skip (.seq (.ops [oF 26 0 10,oL 27 26,oA 25 27]) (.cond (.tmp 25) (.ops [oF 28 2 10,oL 29 28,oS 1 8 29,oQ 1 9 (.bool true)]) (.ops [oQ 1 8 (.int .i64 0),oQ 1 9 (.bool false)])))))))))) (.seq (.draws (.take (oL 30 8) (.take (oL 31 9) (.take (oA 6 30) (.take (oA 7 31) .done))))) .ret))),[.move (.tmp 6),.move (.tmp 7)]⟩
theorem Qx : ak Tryz.prog 93 = some L9 := by kernel_rfl
def G7:XFun:=⟨4,.seq (.ops [oJ 1 0,oK 2 .nilFunc]) (.seq (.ops [oX 3 (.mkfn (.func 139) [] [.tmp 1]),oA 2 3]) .ret),[.move (.tmp 2)]⟩
theorem OY : ak Tryz.prog 120 = some G7 := by kernel_rfl
def GZ:XFun:=⟨26,.seq (.ops [oL 7 1,oH 8 7,oX 9 (.move (.const (.int .i64 0)))]) (.block 0 (.loop (.seq (.ops [oB 10 .lss 9 8]) (.seq (.cond (.tmp 10) .skip (.exit 0)) (.seq (.block 1 (.seq (.ops [oW 11 8 7 9,oP 12 8 11,oZ 4 z0,oS 8 4 12]) (.seq (.ops [oF 13 4 4,oL 14 13,oH 15 14,oX 16 (.move (.const (.int .i64 0)))]) (.block 2 (.loop (.seq (.ops [oB 17 .lss 16 15]) (.seq (.cond (.tmp 17) .skip (.exit 2)) (.seq (.block 3 (.seq (.ops [oW 18 3 14 16,oP 19 3 18,oZ 6 z4,oS 3 6 19]) (.seq (.ops [oM 20 0,oP 21 3 6,oX 22 (.callv (.tmp 20) [.tmp 21]),oV 23 22]) (.cond (.tmp 23) .ret .skip)))) (.ops [oI 24 .add 16 (.int .i64 1),oM 16 24]))))))))) (.ops [oI 25 .add 9 (.int .i64 1),oM 9 25])))))),[]⟩
theorem Nd : ak Tryz.prog 139 = some GZ := by kernel_rfl
def MK:XFun:=⟨58,.seq (.ops [oK 4 (.pointer none)]) (.seq (.ops [oX 9 (.build Ll [(1,1,.const (.int .i64 1073741824))]),oJ 10 9,oA 5 10]) (.seq (.seq (.ops [oM 11 0,oX 12 (.pnileq true (.tmp 11))]) (.cond (.tmp 12) (.ops [oM 13 5,oM 14 0,oX 15 (.nilCheck (.tmp 14)),oF 16 0 15,oL 17 16,oX 18 (.appendN 2 24 (.tmp 17)),oX 19 (.nilCheck (.tmp 13)),oF 20 0 19,oS 1 20 18]) .skip)) (.seq (.seq (.ops [oK 6 (.int .i64 0)]) (.block 0 (.loop (.seq (.seq (.ops [oM 21 6,oM 22 1,oH 23 22,oB 24 .lss 21 23]) (.cond (.tmp 24) .skip (.exit 0))) (.seq (.block 1 (.seq (.ops [oK 7 (.int .i64 0)]) (.block 2 (.loop (.seq (.seq (.ops [oM 27 7,oM 28 1,oM 29 6,oW 30 8 28 29,oF 31 4 30,oL 32 31,oH 33 32,oB 34 .lss 27 33]) (.cond (.tmp 34) .skip (.exit 2))) (.seq (.block 3 (.seq (.ops [oM 37 1,oM 38 6,oW 39 8 37 38,oF 40 4 39,oL 41 40,oM 42 7,oW 43 3 41 42,oP 44 3 43,oZ 8 z4,oS 3 8 44]) (.seq (.ops [oF 45 0 8,oL 46 45]) (.cond (.tmp 46) (.ops [oM 47 5,oF 48 1 8,oL 49 48,oF 50 2 8,oL 51 50,oC 52 24 [47,49,51]]) (.ops [oM 53 5,oF 54 1 8,oL 55 54,oC 56 102 [53,55]]))))) (.ops [oM 35 7,oI 36 .add 35 (.int .i64 1),oA 7 36]))))))) (.ops [oM 25 6,oI 26 .add 25 (.int .i64 1),oA 6 26])))))) (.seq (.ops [oM 57 5,oA 4 57]) .ret)))),[.move (.tmp 4)]⟩
theorem QW : ak Tryz.prog 70 = some MK := by kernel_rfl
def JL:XFun:=⟨15,.seq (.ops [oK 6 (.int .i64 0),oK 7 (.bool false)]) (.seq (.ops [oM 8 0,oM 9 1,oC 10 70 [8,9],oM 11 2,oC 12 71 [10,11],oE 13 12 0,oE 14 12 1,oA 6 13,oA 7 14]) .ret),[.move (.tmp 6),.move (.tmp 7)]⟩
theorem Pz : ak Tryz.prog 32 = some JL := by kernel_rfl
end Go.Proofs.YtdfgljojemmlcaaGreat.Ax
namespace Go.Proofs.YtdfgljojemmlcaaGreat.Ax
open Go.RowKit Go By
set_option maxRecDepth 10000
theorem BB (l : List En) (h : List (List AV)) : Contract Tryz.prog 120 [.sl 8 (ai aK l) none .no] h (.fn (.func 139) [] [.box h.length 0]) (h ++ [[.sl 8 (ai aK l) none .no]]) [] := by
 refine ab OY mixed (by simp [G7]) fun hh hargs => ?_
 simp [G7, hh]
def bN (l : List En) (a : Nat) : Nat := (opsOf (l.take a)).length
theorem mw {l : List En} {a : Nat} (ha : a < l.length) : bN l (a + 1) = bN l a + l[a].good.length := by
 unfold bN opsOf
 rw [rF ha, Q5]
 simp
theorem oh (l : List En) : bN l l.length = (opsOf l).length := by unfold bN; rw [Rd]
theorem j4 (l : List En) (a : Nat) : bN l a <= (opsOf l).length := by
 unfold bN opsOf
 conv => rhs; rw [<- Rb a l, Q5, Q6]
 omega
theorem Aj {l : List En} {a q : Nat} (ha : a < l.length) (hq : q < l[a].good.length) : (opsOf l)[bN l a + q]? = some l[a].good[q] := by
 have e : opsOf l = opsOf (l.take a) ++ (l[a].good ++ opsOf (l.drop (a + 1))) := by
  unfold opsOf
  conv => lhs; rw [<- Rb a l, Q5, List.drop_eq_getElem_cons ha, List.flatMap_cons]
 rw [e, Q2 (by unfold bN; omega)]
 show (l[a].good ++ _)[bN l a + q - bN l a]? = _
 rw [show bN l a + q - bN l a = q by omega, Q0 hq, Q8 hq]
def opAt (l : List En) (j : Nat) : To := (opsOf l).getD j ⟨false, [], 0⟩
theorem sh {l : List En} {a q : Nat} (ha : a < l.length) (hq : q < l[a].good.length) : opAt l (bN l a + q) = l[a].good[q] := by
 unfold opAt
 rw [Q7, Aj ha hq]; rfl
theorem qd {l : List En} {j : Nat} (hj : j < (opsOf l).length) : opAt l j = (opsOf l)[j] := by
 unfold opAt
 rw [Q7, Q8 hj]; rfl
def RC (i0 : Nat) (l : List En) (L : Nat) (H : List (List AV)) : Prop := H.length = L /\ aw L H /\ H[i0]? = some [.sl 8 (ai aK l) none .no]
theorem uB (l : List En) (hl : l.length <= 1000000) (hg : ∀ x ∈ l, x.good.length <= 1000000) (i0 L : Nat) : xt Tryz.prog 139 [.box i0 0] (opsOf l).length (fun j => [.agg (mY (opAt l j))]) true (RC i0 l L) (fun j => [mY (opAt l j)]) := by
 intro i r c slots H wr hR hY
 have hL : ∀ j, j <= (opsOf l).length -> (H j).length = L := fun j hj => (hR j hj).1
 have hT : ∀ j, j <= (opsOf l).length -> aw L (H j) := fun j hj => (hR j hj).2.1
 have hI : ∀ j, j <= (opsOf l).length -> (H j)[i0]? = some [.sl 8 (ai aK l) none .no] := fun j hj => (hR j hj).2.2
 have h0 := hL 0 (by omega)
 refine ab Nd mixed (by simp [GZ]) fun hh hargs => ?_
 rw [h0] at hh hargs ⊢
 simp at hargs
 simp [GZ, hI 0 (by omega)]
 refine am (D := Nat) (fun a => ⟨[(0, .yld i r c slots), (1, .box i0 0), (7, .sl 8 (ai aK l) none .no), (8, .v (.int .i64 (l.length : Int))), (9, .v (.int .i64 (a : Int)))], [], H (bN l a), wr⟩) (fun a => a <= l.length) (fun a => l.length - a) 0 (by omega) ?_ ?_
 ·have e0 : bN l 0 = 0 := rfl
  simp [Leq, hh, h0, hargs, ac, e0]
  done
 ·intro a ha
  have hoa := j4 l a
  by_cases hlt : a < l.length
  ·have hos := mw hlt
   have hos2 := j4 l (a + 1)
   have hgl := hg l[a] (Q9 hlt)
   have l1 := hL _ hoa
   have t1 := hT _ hoa
   simp [hlt, l1]
   refine am (D := Nat) (fun q => ⟨[(0, .yld i r c slots), (1, .box i0 0), (7, .sl 8 (ai aK l) none .no), (8, .v (.int .i64 (l.length : Int))), (9, .v (.int .i64 (a : Int))), (14, .sl 3 (ai mY l[a].good) none .no), (15, .v (.int .i64 (l[a].good.length : Int))), (16, .v (.int .i64 (q : Int)))], [], H (bN l a + q), wr⟩) (fun q => q <= l[a].good.length) (fun q => l[a].good.length - q) 0 (by omega) ?_ ?_
   ·simp [Leq, h0, l1, t1, hargs, ac, sub_self]
    done
   ·intro q hq
    by_cases hqt : q < l[a].good.length
    ·have eop := sh hlt hqt
     have hyj := hY (bN l a + q) (by omega)
     dsimp only at hyj
     rw [eop] at hyj
     have l2 := hL (bN l a + q) (by omega)
     simp [hqt, l2]
     refine nx (by simp) hyj ?_
     have hw : IntKind.i64.wrap ((q : Int) + 1) = (q : Int) + 1 := wrap64 (by omega) (by omega)
     have l3 := hL (bN l a + q + 1) (by omega)
     have t3 := hT (bN l a + q + 1) (by omega)
     simp [hw]
     refine ⟨q + 1, by omega, by omega, ?_⟩
     have e1 : bN l a + (q + 1) = bN l a + q + 1 := by omega
     simp [Leq, h0, l3, t3, hargs, ac, e1, sub_self]
     intro x h1 h2
     rcases h1 with h1 | h1 | h1
     ·exact h1
     ·omega
     ·exact h1
    ·have : q = l[a].good.length := by omega
     subst this
     have hw : IntKind.i64.wrap ((a : Int) + 1) = (a : Int) + 1 := wrap64 (by omega) (by omega)
     have l3 := hL (bN l (a + 1)) (by omega)
     have t3 := hT (bN l (a + 1)) (by omega)
     rw [<- hos]
     simp [hw]
     refine ⟨a + 1, by omega, by omega, ?_⟩
     simp [Leq, h0, l3, t3, hargs, ac, sub_self]
     done
  ·have : a = l.length := by omega
   subst this
   rw [oh]
   have h2 := hL _ (Q1 _)
   have h3 := hT _ (Q1 _)
   simp [h2, h3, ac, sub_self]
   done
theorem yB {l : List En} {j : Nat} (hj : j < (opsOf l).length) : (opsOf l).take (j + 1) = (opsOf l).take j ++ [opAt l j] := by
 rw [rF hj, qd hj]
def jx (name : List UInt8) (l : List En) (h : List (List AV)) (g : Option Int) : List (List AV) := h ++ [[.v (.string (ah name))], [.v (.int .i64 (g.getD 0))], [.v (.bool g.isSome)], [.sl 8 (ai aK l) none .no]]
theorem yl {h : List (List AV)} {lo i : Nat} {T : Tb} (ht : TbAt lo h i T) (l : List En) (hl : l.length <= 1000000) (hg : ∀ x ∈ l, x.good.length <= 1000000) (name : List UInt8) :
  Contract Tryz.prog 93 [.box i 0, .sl 8 (ai aK l) none .no, .v (.string (ah name))] h (.tup [.v (.int .i64 ((dj name (T.get name) (opsOf l)).getD 0)), .v (.bool (dj name (T.get name) (opsOf l)).isSome)]) h [] := by
 have hi := ht.i_lt
 refine ab Qx mixed (by simp [L9]) fun hh hargs => ?_
 simp [L9]
 refine aa (by simp) (FY (ht.app _ (by simp)) name) ?_
 simp
 refine aa (by simp) (BB l _) ?_
 simp
 have hp := al (Q4 h.length 5) hh
 have hp4 := al (Q4 h.length 4) hh
 have hp6 := al (Q4 h.length 6) hh
 refine nz (uB l hl hg (h.length + 3) (h.length + 5)) (fun j => jx name l h (dj name (T.get name) ((opsOf l).take j))) [h.length + 1, h.length + 2, h.length + 4] (by simp) (by simp) (fun _ => by simp [XCode.okIn]) (fun _ => by simp [XCode.okIn]) (by simp [jx, dj, Tb.old]) (fun j _ => by simp [jx]) (fun j _ => ⟨by simp [jx], by simp [jx, aJ, hp], by simp [jx]⟩) (by simp [jx, hp4]) (fun j hj => ⟨rfl, by simp, ?_⟩) ?_
 ·have e1 := yB hj
  have e2 := wb name (T.get name) ((opsOf l).take j) (opAt l j)
  rw [<- e1] at e2
  dsimp only
  rw [e2]
  generalize dj name (T.get name) ((opsOf l).take j) = g
  generalize opAt l j = op
  unfold stepG
  by_cases hn : op.name = name
  ·cases hs : op.set with
   | true =>
    simp [jx, bG, hn, hs, aX]
    simp [BG, stays, St.turn, hp6]
    done
   | false =>
    simp [jx, bG, hn, hs, aX]
    simp [BG, stays, St.turn, hp6]
    done
  ·simp [jx, bG, hn, aX]
   simp [BG, stays, St.turn, hp6]
   done
 ·simp [jx, hh]
  done
section
variable {lo : Nat} {h : List (List AV)} {i : Nat} {T : Tb}
end
section
variable {lo : Nat} {h : List (List AV)} {i : Nat} {T : Tb}
end
section
variable {h : List (List AV)}
end
theorem AM {L : List Nm} (h : Nm.Rise L) (most : Nat) (k : List UInt8) (v : Int) : Nm.Rise (Nm.set most k v L) := by
 unfold Nm.set
 split
 ·exact h
 ·exact Nm.rise_put h k v
theorem vt {L : List Nm} (h : Nm.Rise L) (most : Nat) (op : To) : Nm.Rise (ii most L op) := by
 unfold ii
 split
 ·exact AM h most _ _
 ·exact Nm.rise_del h _
theorem yD (most : Nat) (L : List Nm) (op : To) : (ii most L op).length <= L.length + 1 := by
 unfold ii Nm.set
 split
 ·split
  ·omega
  ·rw [Nm.put_len]; split <;> omega
 ·have : (Nm.del op.name L).length <= L.length := (List.eraseP_sublist ..).length_le
  omega
theorem x9 {most : Nat} {L : List Nm} (h : L.length < most) (op : To) : ii most L op = fG L op := by
 unfold ii fG Nm.set Nm.full
 have : decide (most <= L.length) = false := by simp; omega
 rw [this]
 simp
def LM (most : Nat) (L : List Nm) (ops : List To) (j : Nat) : List Nm := (ops.take j).foldl (ii most) L
theorem Bv {most : Nat} : ∀ (ops : List To) {L : List Nm}, L.length + ops.length < most -> ∀ j, LM most L ops j = kG L (ops.take j)
 | [], L, _, j => by unfold LM kG; simp
 | op :: r, L, h, 0 => rfl
 | op :: r, L, h, j + 1 => by
  have h1 : ii most L op = fG L op := x9 (by omega) op
  have h2 := rp L op
  have ih := Bv r (L := fG L op) (most := most) (by simp at h; omega) j
  show (r.take j).foldl (ii most) (ii most L op) = (r.take j).foldl fG (fG L op)
  rw [h1]; exact ih
structure NC (lo i b most : Nat) (h : List (List AV)) (H : List (List AV)) (B : Nat) (L : List Nm) : Prop where
 at_ : NlAt lo H i B most L
 len : h.length <= H.length
 ext : ∀ q < h.length, q ≠ i -> q ≠ b -> H[q]? = h[q]?
 new : B = b \/ h.length <= B
theorem y3 (most : Nat) (xs : To -> List (List AV)) (hxs : ∀ op n, aw n (xs op)) {lo i : Nat} : ∀ (ops : List To) {h : List (List AV)} {b : Nat} {L : List Nm}, NlAt lo h i b most L -> Nm.Rise L -> L.length + ops.length <= 1000000 ->
  ∃ (H : Nat -> List (List AV)) (B : Nat -> Nat), H 0 = h /\ B 0 = b /\ (∀ j, j <= ops.length -> NC lo i b most h (H j) (B j) (LM most L ops j)) /\
   ∀ j (hj : j < ops.length), (ops[j].set = true -> Contract Tryz.prog 24 [.box i 0, .v (.string (ah ops[j].name)), .v (.int .i64 ops[j].id)] (H j ++ xs ops[j]) (.tup [.v (.int .i64 ((Nm.get ops[j].name (LM most L ops j)).getD 0)), .v (.int .i64 (Nm.err most ops[j].name (LM most L ops j)))]) (H (j + 1)) [i, B j]) /\
    (ops[j].set = false -> Contract Tryz.prog 102 [.box i 0, .v (.string (ah ops[j].name))] (H j ++ xs ops[j]) (.tup [.v (.int .i64 ((Nm.get ops[j].name (LM most L ops j)).getD 0)), .v (.bool (Nm.get ops[j].name (LM most L ops j)).isSome)]) (H (j + 1)) [i, B j])
 | [], h, b, L, hr, _, _ => ⟨fun _ => h, fun _ => b, rfl, rfl, fun j hj => by
   have : j = 0 := by simpa using hj
   subst this
   exact ⟨hr, Q1 _, fun _ _ _ _ => rfl, .inl rfl⟩, fun j hj => by simp at hj⟩
 | op :: r, h, b, L, hr, hs, hn => by
  have hlen : L.length <= 1000000 := by omega
  have hA := hr.app (xs op) (hxs op _)
  have hstep : ∃ h1 b1, ((op.set = true -> Contract Tryz.prog 24 [.box i 0, .v (.string (ah op.name)), .v (.int .i64 op.id)] (h ++ xs op) (.tup [.v (.int .i64 ((Nm.get op.name L).getD 0)), .v (.int .i64 (Nm.err most op.name L))]) h1 [i, b]) /\
    (op.set = false -> Contract Tryz.prog 102 [.box i 0, .v (.string (ah op.name))] (h ++ xs op) (.tup [.v (.int .i64 ((Nm.get op.name L).getD 0)), .v (.bool (Nm.get op.name L).isSome)]) h1 [i, b])) /\ NlAt lo h1 i b1 most (ii most L op) /\ (b1 = b \/ h.length <= b1) /\ h.length <= h1.length /\ ∀ q < h.length, q ≠ i -> q ≠ b -> h1[q]? = h[q]? := by
   cases hset : op.set with
   | true =>
    obtain ⟨h1, b1, ct, m1, m2, m3, m4, _⟩ := Bs hA hs hlen op.name op.id
    simp only [Q6] at m2 m3 m4
    refine ⟨h1, b1, ⟨fun _ => ct, fun e => by simp at e⟩, ?_, by omega, by omega, fun q hq n1 n2 => ?_⟩
    ·unfold ii; rw [if_pos hset]; exact m1
    ·rw [m4 q (by omega) n1 n2, Q0 hq]
   | false =>
    obtain ⟨h1, b1, ct, m1, m2, m3, m4, _⟩ := Hs hA hs hlen op.name
    simp only [Q6] at m2 m3 m4
    refine ⟨h1, b1, ⟨fun e => by simp at e, fun _ => ct⟩, ?_, by omega, by omega, fun q hq n1 n2 => ?_⟩
    ·unfold ii; rw [if_neg (by simp [hset])]; exact m1
    ·rw [m4 q (by omega) n1 n2, Q0 hq]
  obtain ⟨h1, b1, hct, m1, m2, m3, m4⟩ := hstep
  obtain ⟨H, B, e0, e1, e2, e3⟩ := y3 most xs hxs r m1 (vt hs most op) (by have := yD most L op; simp at hn; omega)
  refine ⟨fun j => match j with | 0 => h | j + 1 => H j, fun j => match j with | 0 => b | j + 1 => B j, rfl, rfl, fun j hj => ?_, fun j hj => ?_⟩
  ·cases j with
   | zero => exact ⟨hr, Q1 _, fun _ _ _ _ => rfl, .inl rfl⟩
   | succ j =>
    obtain ⟨q1, q2, q3, q4⟩ := e2 j (by simpa using hj)
    refine ⟨q1, by show h.length <= (H j).length; omega, fun q hq n1 n2 => ?_, ?_⟩
    ·show (H j)[q]? = h[q]?
     rw [<- m4 q hq n1 n2]
     refine q3 q (by omega) n1 ?_
     rcases m2 with e | e
     ·rw [e]; exact n2
     ·omega
    ·dsimp only
     rcases q4 with e | e
     ·rw [e]; exact m2
     ·exact .inr (by omega)
  ·cases j with
   | zero =>
    dsimp only
    rw [e0]
    exact hct
   | succ j =>
    have := e3 j (by simpa using hj)
    exact this
def VM : Nat := 1073741824
def cy (h : List (List AV)) : List (List AV) := h ++ [[.sl 0 [] (some true) .exact, .v (.int .i64 1073741824)]]
def copyV (h : List (List AV)) (L : List Nm) : List (List AV) := (w5 lf (cy h) (h.length + 1) [] L).set h.length [fH 2 (qT (cy h) (h.length + 1) L) L, .v (.int .i64 1073741824)]
theorem uk {h : List (List AV)} (hh : aw h.length h) : NlAt h.length (cy h) h.length (h.length + 1) VM [] := by
 refine ⟨?_, fun e => absurd rfl e, ⟨Q1 _, by omega⟩, by omega, ?_⟩
 ·unfold cy; rw [Q2 (Q1 _), Rf]; rfl
 ·unfold cy; simp [al (Q4 h.length 1) hh]
theorem AE {h : List (List AV)} (hh : aw h.length h) (L : List Nm) : NlAt h.length (copyV h L) h.length (qT (cy h) (h.length + 1) L) VM L /\ h.length <= (copyV h L).length /\ (∀ q < h.length, (copyV h L)[q]? = h[q]?) /\ h.length + 1 <= qT (cy h) (h.length + 1) L := by
 have h0 := uk hh
 have hbl : (cy h).length = h.length + 1 := by simp [cy]
 have F0 : OwnL lf 2 (cy h) (cy h) (h.length + 1) ([] : List Nm) := OwnL.nil (by have := h0.lt; exact this) _
 have F1 := F0.ap nmE L
 simp only [Re] at F1
 obtain ⟨g1, g2, g3, g4, _⟩ := h0.own F1 (fun e => by unfold qT; rw [if_pos e])
 refine ⟨g1, by have : (cy h).length <= (copyV h L).length := g3; omega, fun q hq => ?_, ?_⟩
 ·have := g4 q (by omega) (by omega) (by omega)
  rw [show (copyV h L)[q]? = (cy h)[q]? from this]
  unfold cy
  exact Q0 hq
 ·unfold qT; split <;> omega
theorem CV {h : List (List AV)} {tv : AV} {L : List Nm} (hsrc : (tv = .v (.pointer none) /\ L = []) \/ ∃ lo ix b most, tv = .box ix 0 /\ NlAt lo h ix b most L) (hs : Nm.Rise L) (hh0 : aw h.length h) (l : List En) (hl : l.length <= 1000000) (hg : ∀ x ∈ l, x.good.length <= 1000000) (hn : L.length + (opsOf l).length <= 1000000) :
  ∃ h' b', Contract Tryz.prog 70 [tv, .sl 8 (ai aK l) none .no] h (.box h.length 0) h' [] /\ NlAt h.length h' h.length b' VM (kG L (opsOf l)) /\ h.length <= h'.length /\ ∀ q < h.length, h'[q]? = h[q]? := by
 obtain ⟨c1, c2, c3, c4⟩ := AE hh0 L
 obtain ⟨H, B, e0, e1, e2, e3⟩ := y3 VM (fun op => [mY op]) (fun op n => by simp) (opsOf l) c1 hs hn
 have hLM : ∀ j, LM VM L (opsOf l) j = kG L ((opsOf l).take j) := Bv (opsOf l) (by unfold VM; omega)
 have hlast := e2 (opsOf l).length (Q1 _)
 have hlat := hlast.at_
 rw [hLM, Rd] at hlat
 have hHl : ∀ j, j <= (opsOf l).length -> h.length < (H j).length := fun j hj => by
  have := (Q3.1 (e2 j hj).at_.top).1
  omega
 have hHt : ∀ j, j <= (opsOf l).length -> aw (H j).length (H j) := fun j hj => (e2 j hj).at_.lt
 have hBw : ∀ j, j <= (opsOf l).length -> h.length <= B j := fun j hj => by
  rcases (e2 j hj).new with e | e
  ·omega
  ·omega
 refine ⟨H (opsOf l).length, B (opsOf l).length, ?_, hlat, by have := hlast.len; omega, fun q hq => by rw [hlast.ext q (by omega) (by omega) (by omega)]; exact c3 q hq⟩
 have hend := hHl _ (Q1 _)
 have htend := hHt _ (Q1 _)
 refine ab QW mixed (by simp [MK]) fun hh hargs => ?_
 simp [MK]
 rcases hsrc with ⟨rfl, rfl⟩ | ⟨lo, ix, b, most, rfl, hnl⟩
 ·have hcop : copyV h [] = h ++ [[.sl 0 [] (some true) .exact, .v (.int .i64 1073741824)]] := by
   unfold copyV w5 qT cy fH
   simp
  simp
  refine am (D := Nat) (fun a => ⟨[(1, .sl 8 (ai aK l) none .no), (5, .box h.length 0), (6, .v (.int .i64 (a : Int)))], [], H (bN l a), []⟩) (fun a => a <= l.length) (fun a => l.length - a) 0 (by omega) ?_ ?_
  ·have q0 : bN l 0 = 0 := rfl
   have l0 := hHl 0 (Ra _)
   have t0 := hHt 0 (Ra _)
   rw [e0] at l0 t0
   simp [Leq, q0, e0, ac]
   simp [hcop] at l0 t0 ⊢
   try omega
  ·intro a ha
   have hoa := j4 l a
   by_cases hlt : a < l.length
   ·have hos := mw hlt
    have hos2 := j4 l (a + 1)
    have hgl := hg l[a] (Q9 hlt)
    have l1 := hHl _ hoa
    have t1 := hHt _ hoa
    simp [hlt]
    refine am (D := Nat) (fun q => ⟨[(1, .sl 8 (ai aK l) none .no), (5, .box h.length 0), (6, .v (.int .i64 (a : Int))), (7, .v (.int .i64 (q : Int)))], [], H (bN l a + q), []⟩) (fun q => q <= l[a].good.length) (fun q => l[a].good.length - q) 0 (by omega) ?_ ?_
    ·simp [Leq, t1, ac]
     omega
    ·intro q hq
     by_cases hqt : q < l[a].good.length
     ·have hj : bN l a + q < (opsOf l).length := by omega
      have eop := sh hlt hqt
      rw [qd hj] at eop
      obtain ⟨s1, s2⟩ := e3 _ hj
      rw [eop] at s1 s2
      have hw : IntKind.i64.wrap ((q : Int) + 1) = (q : Int) + 1 := wrap64 (by omega) (by omega)
      have e4 : bN l a + (q + 1) = bN l a + q + 1 := by omega
      have l2 := hHl (bN l a + q) (by omega)
      have b2 := hBw (bN l a + q) (by omega)
      have l3 := hHl (bN l a + q + 1) (by omega)
      have t3 := hHt (bN l a + q + 1) (by omega)
      cases hset : l[a].good[q].set with
      | true =>
       simp [hlt, hqt, aW, bG, hset]
       have ct := s1 hset
       simp only [bG, hset] at ct
       refine aa (by simp) ct ?_
       simp [hw]
       refine ⟨q + 1, by omega, by omega, ?_⟩
       rw [e4]
       simp [Leq, t3, ac]
       omega
      | false =>
       simp [hlt, hqt, aW, bG, hset]
       have ct := s2 hset
       simp only [bG, hset] at ct
       refine aa (by simp) ct ?_
       simp [hw]
       refine ⟨q + 1, by omega, by omega, ?_⟩
       rw [e4]
       simp [Leq, t3, ac]
       omega
     ·have : q = l[a].good.length := by omega
      subst this
      have hw : IntKind.i64.wrap ((a : Int) + 1) = (a : Int) + 1 := wrap64 (by omega) (by omega)
      have l3 := hHl (bN l (a + 1)) (by omega)
      have t3 := hHt (bN l (a + 1)) (by omega)
      rw [<- hos]
      simp [hlt, hw, aW]
      refine ⟨a + 1, by omega, by omega, ?_⟩
      simp [Leq, t3, ac]
      omega
   ·have : a = l.length := by omega
    subst this
    rw [oh]
    simp [htend, ac]
    omega
 ·have hix := (Q3.1 hnl.top).1
  have htop := hnl.top
  have hbl : (cy h).length = h.length + 1 := by simp [cy]
  have hbase : h ++ [[.sl 0 [] (some true) .exact, .v (.int .i64 1073741824)]] = cy h := rfl
  have F0 : OwnL lf 2 (cy h) (cy h) (h.length + 1) ([] : List Nm) := OwnL.nil (uk hh0).lt _
  have F1 := F0.ap nmE L
  simp only [Re] at F1
  have hx1 : fu lf (cy h) 2 (fH 2 b L) L := va nmE fun hne => by
   unfold cy
   rw [Q0 (Q3.1 (hnl.list hne)).1]
   exact hnl.list hne
  have hst : (w5 lf (cy h) (h.length + 1) [] L)[h.length]? = some [.sl 0 [] (some true) .exact, .v (.int .i64 1073741824)] := by
   rw [F1.ext h.length (by omega)]
   unfold cy
   rw [Q2 (Q1 _), Rf]; rfl
  have hcop : (w5 lf (cy h) (h.length + 1) [] L).set h.length [fH 2 (qT (cy h) (h.length + 1) L) L, .v (.int .i64 1073741824)] = copyV h L := rfl
  have htop2 : (cy h)[ix]? = some [fH 2 b L, .v (.int .i64 (most : Int))] := by unfold cy; rw [Q0 hix]; exact htop
  simp [hbase, htop2]
  refine .inl (cw nmE (L := ([] : List Nm)) (b := h.length + 1) (fun h => absurd rfl h) hx1 (by simp; omega) (by simp; omega) ?_)
  simp [hbase, hst, hcop]
  refine am (D := Nat) (fun a => ⟨[(1, .sl 8 (ai aK l) none .no), (5, .box h.length 0), (6, .v (.int .i64 (a : Int)))], [], H (bN l a), []⟩) (fun a => a <= l.length) (fun a => l.length - a) 0 (by omega) ?_ ?_
  ·have q0 : bN l 0 = 0 := rfl
   have l0 := hHl 0 (Ra _)
   have t0 := hHt 0 (Ra _)
   rw [e0] at l0 t0
   simp [Leq, q0, e0, ac, t0]
   try omega
  ·intro a ha
   have hoa := j4 l a
   by_cases hlt : a < l.length
   ·have hos := mw hlt
    have hos2 := j4 l (a + 1)
    have hgl := hg l[a] (Q9 hlt)
    have l1 := hHl _ hoa
    have t1 := hHt _ hoa
    simp [hlt]
    refine am (D := Nat) (fun q => ⟨[(1, .sl 8 (ai aK l) none .no), (5, .box h.length 0), (6, .v (.int .i64 (a : Int))), (7, .v (.int .i64 (q : Int)))], [], H (bN l a + q), []⟩) (fun q => q <= l[a].good.length) (fun q => l[a].good.length - q) 0 (by omega) ?_ ?_
    ·simp [Leq, t1, ac]
     omega
    ·intro q hq
     by_cases hqt : q < l[a].good.length
     ·have hj : bN l a + q < (opsOf l).length := by omega
      have eop := sh hlt hqt
      rw [qd hj] at eop
      obtain ⟨s1, s2⟩ := e3 _ hj
      rw [eop] at s1 s2
      have hw : IntKind.i64.wrap ((q : Int) + 1) = (q : Int) + 1 := wrap64 (by omega) (by omega)
      have e4 : bN l a + (q + 1) = bN l a + q + 1 := by omega
      have l2 := hHl (bN l a + q) (by omega)
      have b2 := hBw (bN l a + q) (by omega)
      have l3 := hHl (bN l a + q + 1) (by omega)
      have t3 := hHt (bN l a + q + 1) (by omega)
      cases hset : l[a].good[q].set with
      | true =>
       simp [hlt, hqt, aW, bG, hset]
       have ct := s1 hset
       simp only [bG, hset] at ct
       refine aa (by simp) ct ?_
       simp [hw]
       refine ⟨q + 1, by omega, by omega, ?_⟩
       rw [e4]
       simp [Leq, t3, ac]
       omega
      | false =>
       simp [hlt, hqt, aW, bG, hset]
       have ct := s2 hset
       simp only [bG, hset] at ct
       refine aa (by simp) ct ?_
       simp [hw]
       refine ⟨q + 1, by omega, by omega, ?_⟩
       rw [e4]
       simp [Leq, t3, ac]
       omega
     ·have : q = l[a].good.length := by omega
      subst this
      have hw : IntKind.i64.wrap ((a : Int) + 1) = (a : Int) + 1 := wrap64 (by omega) (by omega)
      have l3 := hHl (bN l (a + 1)) (by omega)
      have t3 := hHt (bN l (a + 1)) (by omega)
      rw [<- hos]
      simp [hlt, hw, aW]
      refine ⟨a + 1, by omega, by omega, ?_⟩
      simp [Leq, t3, ac]
      omega
   ·have : a = l.length := by omega
    subst this
    rw [oh]
    simp [htend, ac]
    omega
section
variable {h : List (List AV)} {tv : AV} {L : List Nm}
def M2 (h : List (List AV)) (tv : AV) (L : List Nm) : Prop := (tv = .v (.pointer none) /\ L = []) \/ ∃ lo ix b most, tv = .box ix 0 /\ NlAt lo h ix b most L
theorem yG (hsrc : M2 h tv L) (hs : Nm.Rise L) (hh0 : aw h.length h) (l : List En) (hl : l.length <= 1000000) (hg : ∀ x ∈ l, x.good.length <= 1000000) (hn : L.length + (opsOf l).length <= 1000000) (name : List UInt8) :
  Contract Tryz.prog 32 [tv, .sl 8 (ai aK l) none .no, .v (.string (ah name))] h (.tup [.v (.int .i64 ((dj name (Nm.get name L) (opsOf l)).getD 0)), .v (.bool (dj name (Nm.get name L) (opsOf l)).isSome)]) h [] := by
 obtain ⟨h', b', ct, q1, q2, q3⟩ := CV hsrc hs hh0 l hl hg hn
 have hv := qh (ops := opsOf l) hs
 have hlen := rO (opsOf l) L
 have g := GL q1 hv (by omega) name
 rw [tj name hs] at g
 have htake : h'.take h.length = h := List.ext_getElem? fun k => by
  by_cases hk : k < h.length
  ·rw [List.getElem?_take_of_lt hk]; exact q3 k hk
  ·rw [Rc (by rw [List.length_take]; omega), Rc (by omega)]
 rcases hsrc with ⟨rfl, _⟩ | ⟨lo, ix, b, most, rfl, _⟩
 ·refine ab Pz mixed (by simp [JL]) fun hh hargs => ?_
  simp [JL]
  refine aa (by simp) ct ?_
  simp
  refine aa (by simp) g ?_
  simp [hh, htake, q2]
 ·refine ab Pz mixed (by simp [JL]) fun hh hargs => ?_
  simp [JL]
  refine aa (by simp) ct ?_
  simp
  refine aa (by simp) g ?_
  simp [hh, htake, q2]
end
end Go.Proofs.YtdfgljojemmlcaaGreat.Ax
