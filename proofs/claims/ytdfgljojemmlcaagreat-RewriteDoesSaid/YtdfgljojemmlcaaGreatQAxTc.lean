import Derived.Test.YtdfgljojemmlcaaGreatQAxSt
set_option linter.unusedSimpArgs false
set_option linter.unusedVariables false
open List renaming getElem?_eq_some_iff -> Q0, mem_cons -> Q1, getElem?_append_right -> Q2, getElem?_append_left -> Q3, nodup_nil -> Q5
open Nat renaming le_add_right -> Q4
namespace Go.Proofs.YtdfgljojemmlcaaGreat.Ax
open Go.RowKit Go By
theorem EM {n : Int} (h : (Lit.int .i64 n).wf = true) : -9223372036854775808 <= n /\ n <= 9223372036854775807 := by
 simp [Lit.wf, IntKind.min, IntKind.max, IntKind.signed, IntKind.bits] at h
 omega
theorem An : Shape Tryz.prog 3 (fun n : Int => [.v (.int .i64 n)]) (fun n => -9223372036854775808 <= n /\ n <= 9223372036854775807) := Shape.map (ka Tryz.underlying3) id (fun _ => rfl) (fun _ => EM)
theorem Ex : Shape Tryz.prog 5 (fun n : Int => [.v (.int .u8 n)]) (fun n => 0 <= n /\ n < 256) := Shape.map (ka Tryz.underlying5) id (fun _ => rfl) (fun _ => tP)
theorem Cc : Shape Tryz.prog 4 (fun b : Bool => [.v (.bool b)]) (fun _ => True) := vG Tryz.underlying4
theorem qB : Shape Tryz.prog 9 fS (fun s => s.length <= maxLen) := yu Tryz.underlying9
theorem zl : Shape Tryz.prog 52 (fun l : List UInt8 => [.sl 1 (af l) none .no]) (fun l => l.length <= maxLen) := tt Tryz.underlying52 (by kernel_rfl) Tryz.underlying5
theorem sh_ints : Shape Tryz.prog 24 (fun l : List Int => [.sl 1 (ai ao l) none .no]) (fun l => l.length <= maxLen) := Shape.map (dN Tryz.underlying24 (by kernel_rfl) (by decide) An (fun _ => rfl)) id (fun _ => rfl) (fun _ h => h.1)
def Fj (x : Cl) : Prop := True /\ x.2.length <= maxLen
theorem zj : Shape Tryz.prog 101 aC Fj :=
 Shape.map (iU Tryz.underlying101 (by kernel_rfl) (bY (k := 1) rfl (by kernel_rfl) Cc (by kernel_rfl) (mJ (k := 1) rfl (by kernel_rfl) zl))) (fun p => (p.1, p.2)) (fun _ => rfl) (fun _ h => h)
theorem xP : Shape Tryz.prog 35 (fun l : List Cl => [.sl 2 (ai aC l) none .no]) (fun l => l.length <= maxLen /\ ∀ x ∈ l, Fj x) := dN Tryz.underlying35 (by kernel_rfl) (by decide) zj (fun _ => rfl)
def JB (x : Sm) : Prop := x.text.length <= maxLen /\ x.oids.length <= maxLen
theorem Gz : Shape Tryz.prog 63 db JB :=
 Shape.map (iU Tryz.underlying63 (by kernel_rfl) (bY (k := 1) rfl (by kernel_rfl) qB (by kernel_rfl) (mJ (k := 1) rfl (by kernel_rfl) sh_ints))) (fun p => ⟨p.1, p.2⟩) (fun _ => rfl) (fun _ h => h)
theorem sh_smCL : Shape Tryz.prog 22 (fun l : List Sm => [.sl 2 (ai db l) none .no]) (fun l => l.length <= maxLen /\ ∀ x ∈ l, JB x) := dN Tryz.underlying22 (by kernel_rfl) (by decide) Gz (fun _ => rfl)
def JO (x : Fm) : Prop := (0 <= x.kind /\ x.kind < 256) /\ (0 <= x.what /\ x.what < 256) /\ x.name.length <= maxLen /\ x.portal.length <= maxLen /\ x.text.length <= maxLen /\ x.oids.length <= maxLen /\ x.formats.length <= maxLen /\ x.results.length <= maxLen /\ (x.params.length <= maxLen /\ ∀ c ∈ x.params, Fj c) /\ (-9223372036854775808 <= x.max /\ x.max <= 9223372036854775807)
theorem GJ : Shape Tryz.prog 37 aG JO :=
 Shape.map (iU Tryz.underlying37 (by kernel_rfl) (bY (k := 1) rfl (by kernel_rfl) Ex (by kernel_rfl) (bY (k := 1) rfl (by kernel_rfl) Ex (by kernel_rfl) (bY (k := 1) rfl (by kernel_rfl) qB (by kernel_rfl) (bY (k := 1) rfl (by kernel_rfl) qB (by kernel_rfl) (bY (k := 1) rfl (by kernel_rfl) qB (by kernel_rfl) (bY (k := 1) rfl (by kernel_rfl) sh_ints (by kernel_rfl) (bY (k := 1) rfl (by kernel_rfl) sh_ints (by kernel_rfl) (bY (k := 1) rfl (by kernel_rfl) sh_ints (by kernel_rfl) (bY (k := 1) rfl (by kernel_rfl) xP (by kernel_rfl) (mJ (k := 1) rfl (by kernel_rfl) An))))))))))) (fun p => ⟨p.1, p.2.1, p.2.2.1, p.2.2.2.1, p.2.2.2.2.1, p.2.2.2.2.2.1, p.2.2.2.2.2.2.1, p.2.2.2.2.2.2.2.1, p.2.2.2.2.2.2.2.2.1, p.2.2.2.2.2.2.2.2.2⟩) (fun _ => rfl) (fun _ h => h)
theorem sh_fmCL : Shape Tryz.prog 25 (fun l : List Fm => [.sl 10 (ai aG l) none .no]) (fun l => l.length <= maxLen /\ ∀ x ∈ l, JO x) := dN Tryz.underlying25 (by kernel_rfl) (by decide) GJ (fun _ => rfl)
end Go.Proofs.YtdfgljojemmlcaaGreat.Ax
namespace Go.Proofs.YtdfgljojemmlcaaGreat.Ax
open Go.RowKit Go By
set_option maxRecDepth 10000
structure Tb where
 a : Nat
 most : Nat
 clock : Nat
 e : List (KE Int)
namespace Tb
def cells (T : Tb) : List AV := bU T.clock (T.e.map (KE.ent ao))
def get (T : Tb) (k : List UInt8) : Option Int := KE.get k T.e
def full (T : Tb) (k : List UInt8) : Bool := !(T.get k).isSome && decide (T.most <= T.e.length)
def put (T : Tb) (k : List UInt8) (v : Int) : Tb := { T with clock := KE.tick k T.clock T.e, e := KE.put k T.clock v T.e }
def set (T : Tb) (k : List UInt8) (v : Int) : Tb := if T.full k = true then T else T.put k v
def del (T : Tb) (k : List UInt8) : Tb := { T with e := KE.del k T.e }
def old (T : Tb) (k : List UInt8) : Int := (T.get k).getD 0
def err (T : Tb) (k : List UInt8) : Int := if T.full k = true then 6 else 0
theorem set_a (T : Tb) (k : List UInt8) (v : Int) : (T.set k v).a = T.a := by unfold set; split <;> rfl
theorem set_most (T : Tb) (k : List UInt8) (v : Int) : (T.set k v).most = T.most := by unfold set; split <;> rfl
theorem old_full {T : Tb} {k : List UInt8} (h : T.full k = true) : T.old k = 0 := by
 unfold full at h
 unfold old
 cases hg : T.get k with
 | none => rfl
 | some v => rw [hg] at h; simp at h
end Tb
theorem AX (v : Int) : (ao v).length = 1 := rfl
theorem wa (v : Int) : ∀ c ∈ ao v, c.idOf = none := fun c hc => by unfold ao at hc; rw [List.mem_singleton.1 hc]; rfl
structure TbAt (lo : Nat) (h : List (List AV)) (i : Nat) (T : Tb) : Prop where
 top : h[i]? = some [.mp T.a 1 true, .v (.int .i64 (T.most : Int))]
 ents : h[T.a]? = some T.cells
 low : lo <= i /\ lo <= T.a
 apart : i ≠ T.a
 lt : aw h.length h
structure TbOk (T : Tb) : Prop where
 ok : KE.Ok T.clock T.e
 len : T.e.length <= T.most
 most : 1 <= T.most /\ T.most <= 4096
theorem Tb.of_cells (T : Tb) : mapOf 1 T.cells = some (T.clock, T.e.map (KE.ent ao)) := KE.ents_of AX _ _
theorem Tb.keys (T : Tb) : gQ none (T.e.map (KE.ent ao)) := KE.ents_keys wa _
theorem Di {l : List AEnt} {n t : Nat} (h : ∀ e ∈ l, dP n e.cells) : dP n (bU t l) := by
 refine em fun j c hj => ?_
 have hc := List.mem_of_getElem? hj
 unfold bU at hc
 rcases Q1.1 hc with rfl | hc
 ·trivial
 rcases Q1.1 hc with rfl | hc
 ·trivial
 obtain ⟨e, he, hc⟩ := List.mem_flatMap.1 hc
 unfold AEnt.avs at hc
 rcases Q1.1 hc with rfl | hc
 ·trivial
 rcases Q1.1 hc with rfl | hc
 ·trivial
 obtain ⟨q, hq⟩ := List.getElem?_of_mem hc
 exact dE (h e he) q c hq
theorem Tb.lt (T : Tb) (n : Nat) : dP n T.cells := Di fun e he => by obtain ⟨s, _, rfl⟩ := List.mem_map.1 he; simp [KE.ent, ao]
theorem Tb.found (T : Tb) (k : List UInt8) : found true true [.v (.int .i64 0)] (AEnt.find (.string (ah k)) (T.e.map (KE.ent ao)) 0) = .tup [.v (.int .i64 (T.old k)), .v (.bool (T.get k).isSome)] := by
 rw [KE.found_eq]
 unfold Tb.old Tb.get
 cases KE.get k T.e <;> rfl
section
variable {lo : Nat} {h : List (List AV)} {i : Nat} {T : Tb}
theorem TbAt.i_lt (ht : TbAt lo h i T) : i < h.length := (Q0.1 ht.top).1
theorem TbAt.a_lt (ht : TbAt lo h i T) : T.a < h.length := (Q0.1 ht.ents).1
theorem TbAt.move (ht : TbAt lo h i T) {h' : List (List AV)} (h1 : h'[i]? = h[i]?) (h2 : h'[T.a]? = h[T.a]?) (hlt : aw h'.length h') : TbAt lo h' i T :=
 ⟨h1.trans ht.top, h2.trans ht.ents, ht.low, ht.apart, hlt⟩
theorem TbAt.app (ht : TbAt lo h i T) (xs : List (List AV)) (hx : aw (h.length + xs.length) xs) : TbAt lo (h ++ xs) i T :=
 ht.move (Q3 ht.i_lt) (Q3 ht.a_lt) (by rw [bF, List.length_append]; exact ⟨al (Q4 _ _) ht.lt, hx⟩)
theorem TbAt.to (ht : TbAt lo h i T) {T' : Tb} (ha : T'.a = T.a) (hm : T'.most = T.most) : TbAt lo (h.set T.a T'.cells) i T' := by
 refine ⟨?_, ?_, by rw [ha]; exact ht.low, by rw [ha]; exact ht.apart, ?_⟩
 ·rw [List.getElem?_set_ne (Ne.symm ht.apart), ht.top, ha, hm]
 ·rw [ha, List.getElem?_set_self ht.a_lt]
 ·rw [List.length_set]; exact aN ht.lt (T'.lt _)
theorem TbAt.set_self (ht : TbAt lo h i T) : h.set T.a T.cells = h := by
 obtain ⟨h1, h2⟩ := Q0.1 ht.ents
 rw [<- h2, List.set_getElem_self]
theorem TbOk.put (ho : TbOk T) {k : List UInt8} (hf : T.full k = false) (v : Int) : TbOk (T.put k v) := by
 refine ⟨KE.put_ok ho.ok k v, ?_, ho.most⟩
 show (KE.put k T.clock v T.e).length <= T.most
 rw [KE.put_len]
 have := ho.len
 unfold Tb.full Tb.get at hf
 split
 ·exact this
 ·rename_i hg
  simp [hg] at hf
  omega
theorem TbOk.set (ho : TbOk T) (k : List UInt8) (v : Int) : TbOk (T.set k v) := by
 unfold Tb.set
 split
 ·exact ho
 ·rename_i hf
  exact ho.put (by simpa using hf) v
theorem FY (ht : TbAt lo h i T) (k : List UInt8) : Contract Tryz.prog 119 [.box i 0, .v (.string (ah k))] h (.tup [.v (.int .i64 (T.old k)), .v (.bool (T.get k).isSome)]) h [] := by
 have h1 := ht.top
 have h2 := ht.ents
 have h3 := T.of_cells
 have h4 := T.keys
 have h5 := T.found k
 refine ab MW mixed (by simp [Fl]) fun hh hargs => ?_
 simp [Fl, h1, h2, h3, h4, h5, hh]
theorem Fg (ht : TbAt lo h i T) (ho : TbOk T) (k : List UInt8) (hk : k.length <= 281474976710656) (v : Int) : Contract Tryz.prog 23 [.box i 0, .v (.string (ah k)), .v (.int .i64 v)] h (.tup [.v (.int .i64 (T.old k)), .v (.int .i64 (T.err k))]) (h.set T.a (T.set k v).cells) [T.a] := by
 have h1 := ht.top
 have h2 := ht.ents
 have h3 := T.of_cells
 have h4 := T.keys
 have h5 := T.found k
 have hi := ht.i_lt
 have ha := ht.a_lt
 have he : ∀ q : T.a < h.length, h[T.a] = T.cells := fun q => by have := ht.ents; rw [List.getElem?_eq_getElem q] at this; injection this
 have hne := ht.apart
 cases hf : T.full k with
 | true =>
  have hset : T.set k v = T := by unfold Tb.set; rw [if_pos hf]
  have ff := Tb.old_full hf
  have herr : T.err k = 6 := by unfold Tb.err; rw [if_pos hf]
  have hn : (T.get k).isSome = false := by unfold Tb.full at hf; simp at hf; simp [hf.1]
  have hle : T.most <= T.e.length := by unfold Tb.full at hf; simp at hf; exact hf.2
  rw [hset, ht.set_self, ff, herr]
  rw [hn, ff] at h5
  refine ab O4 mixed (by simp [FG]) fun hh hargs => ?_
  simp [FG, h1, h2, h3, h4, h5, hle, hh]
 | false =>
  have hset : T.set k v = T.put k v := by unfold Tb.set; rw [if_neg (by simp [hf])]
  have herr : T.err k = 0 := by unfold Tb.err; rw [if_neg (by simp [hf])]
  have hput : bU (AEnt.put (.string (ah k)) T.clock (ao v) (T.e.map (KE.ent ao))).2 (AEnt.put (.string (ah k)) T.clock (ao v) (T.e.map (KE.ent ao))).1 = (T.put k v).cells := by rw [KE.put_eq ao ho.ok]; rfl
  have hiv : ao v = [.v (.int .i64 v)] := rfl
  rw [hiv] at hput
  rw [hset, herr]
  have hlt := ht.lt
  have hl2 := (T.put k v).lt h.length
  have hcase : (T.get k).isSome = true \/ ((T.get k).isSome = false /\ ¬ T.most <= T.e.length) := by
   unfold Tb.full at hf
   cases hg : (T.get k).isSome with
   | true => exact .inl rfl
   | false => rw [hg] at hf; simp at hf; exact .inr ⟨rfl, by omega⟩
  rcases hcase with hg | ⟨hg, hle⟩
  ·rw [hg] at h5
   refine ab O4 mixed (by simp [FG]) fun hh hargs => ?_
   simp [FG, h1, h2, h3, h4, h5]
   refine aa (by simp) (uD k hk _) ?_
   simp [h1, h2, h3, h4, hput, hh, ha, he, aN, hlt, hl2]
   done
  ·rw [hg] at h5
   refine ab O4 mixed (by simp [FG]) fun hh hargs => ?_
   simp [FG, h1, h2, h3, h4, h5, hle]
   refine aa (by simp) (uD k hk _) ?_
   simp [h1, h2, h3, h4, hput, hh, ha, he, aN, hlt, hl2]
   done
end
end Go.Proofs.YtdfgljojemmlcaaGreat.Ax
namespace Go.Proofs.YtdfgljojemmlcaaGreat.Ax
open Go.RowKit Go By
set_option maxRecDepth 10000
def nP (h : List (List AV)) (most : Nat) : Tb := ⟨h.length, most, 0, []⟩
def cz (h : List (List AV)) (most : Nat) : List (List AV) := h ++ [(nP h most).cells, [.mp h.length 1 true, .v (.int .i64 (most : Int))]]
theorem xu {h : List (List AV)} (hh : aw h.length h) (most : Nat) (lo : Nat) (hlo : lo <= h.length) : TbAt lo (cz h most) (h.length + 1) (nP h most) := by
 refine ⟨?_, ?_, ⟨by omega, hlo⟩, by show h.length + 1 ≠ h.length; omega, ?_⟩
 ·unfold cz; rw [Q2 (by omega), show h.length + 1 - h.length = 1 by omega]; rfl
 ·show (cz h most)[h.length]? = _
  unfold cz; rw [Q2 (by omega), Nat.sub_self]; rfl
 ·unfold cz
  have h1 := (nP h most).lt (h.length + 2)
  simp [al (Q4 h.length 2) hh, h1]
theorem BY (h : List (List AV)) {most : Nat} (h1 : 1 <= most) (h2 : most <= 4096) : TbOk (nP h most) :=
 ⟨⟨Q5, Q5, fun x hx => by cases hx⟩, Nat.zero_le _, h1, h2⟩
theorem Av {most : Nat} (h1 : 1 <= most) (h2 : most <= 4096) (h : List (List AV)) : Contract Tryz.prog 19 [.v (.int .i64 (most : Int))] h (.tup [.box (h.length + 1) 0, .v (.int .i64 0)]) (cz h most) [] := by
 refine ab Qq mixed (by simp [Oi]) fun hh hargs => ?_
 have n1 : ¬ (most : Int) < 1 := by omega
 have n2 : ¬ (most : Int) > 4096 := by omega
 have hl := al (Q4 h.length 2) hh
 simp [Oi, n1, n2, cz, nP, Tb.cells, bU, hl]
section
variable {lo : Nat} {h : List (List AV)} {i : Nat} {T : Tb}
end
end Go.Proofs.YtdfgljojemmlcaaGreat.Ax
