/- Any text of any code, with one name in the place of another one, is what the document says (P9.2). -/
import Derived.Shelf.Strings.Replace
import Derived.Test.YtebggfghemblbaaDoorProg
import Derived.Test.YtebggfghemblbaaDoorQAxTf
import Derived.Test.YtebggfghemblbaaDoorRows
import Derived.Test.YtebggfghemblbaaDoorCards
import Derived.Test.YtebggfghemblbaaDoorTie
import Derived.Test.YtebggfghemblbaaDoorQElems
import Derived.Test.YtebggfghemblbaaDoorQAxHs
import Derived.Shelf.Vars
import Derived.WalkKit
import Derived.ProofKit
import Derived.OpenShut
import Derived.ShutString
import Derived.ChangeOld
import Derived.Below
import Derived.LaidMore
import Derived.Lay
import Derived.SevenTiedAt
import Derived.Stop.Joined
/- A contract of Go's library, laid at this program by the kit's shelf (plain words): strings_Replace. -/
namespace Go.Proofs
open Go.Shelf Go.RowKit Go.Lib
def Tryd.lays154_ren : Go.Shelf.Ren := ⟨fun | 154 => 11 | 138 => 18 | 165 => 19 | 143 => 20 | 166 => 21 | 197 => 22 | 169 => 23 | 195 => 26 | 218 => 27 | 240 => 28 | 241 => 29 | 219 => 30 | 260 => 31 | 276 => 32 | 277 => 33 | 217 => 34 | 225 => 35 | 224 => 36 | 267 => 37 | 266 => 38 | 314 => 39 | n => n, fun | 9 => 9 | 3 => 3 | 4 => 4 | 72 => 35 | 0 => 0 | 76 => 39 | 105 => 41 | 21 => 21 | 5 => 5 | 70 => 32 | 20 => 20 | 37 => 33 | 75 => 38 | 127 => 48 | 164 => 49 | 46 => 44 | 119 => 53 | 139 => 56 | 138 => 55 | 146 => 58 | 51 => 57 | 80 => 43 | n => n, fun | 1 => 0 | 3 => 1 | 4 => 2 | n => n⟩
theorem Tryd.lays154 : Go.Proofs.Lays.n154 Tryd.prog Tryd.lays154_ren := {
  mixed := by kernel_rfl
  f138 := Tryd.func18.trans (congrArg some (by kernel_rfl))
  f143 := Tryd.func20.trans (congrArg some (by kernel_rfl))
  f154 := Tryd.func11.trans (congrArg some (by kernel_rfl))
  f165 := Tryd.func19.trans (congrArg some (by kernel_rfl))
  f166 := Tryd.func21.trans (congrArg some (by kernel_rfl))
  f169 := Tryd.func23.trans (congrArg some (by kernel_rfl))
  f195 := Tryd.func26.trans (congrArg some (by kernel_rfl))
  f197 := Tryd.func22.trans (congrArg some (by kernel_rfl))
  f217 := Tryd.func34.trans (congrArg some (by kernel_rfl))
  f218 := Tryd.func27.trans (congrArg some (by kernel_rfl))
  f219 := Tryd.func30.trans (congrArg some (by kernel_rfl))
  f224 := Tryd.func36.trans (congrArg some (by kernel_rfl))
  f225 := Tryd.func35.trans (congrArg some (by kernel_rfl))
  f240 := Tryd.func28.trans (congrArg some (by kernel_rfl))
  f241 := Tryd.func29.trans (congrArg some (by kernel_rfl))
  f260 := Tryd.func31.trans (congrArg some (by kernel_rfl))
  f266 := Tryd.func38.trans (congrArg some (by kernel_rfl))
  f267 := Tryd.func37.trans (congrArg some (by kernel_rfl))
  f276 := Tryd.func32.trans (congrArg some (by kernel_rfl))
  f277 := Tryd.func33.trans (congrArg some (by kernel_rfl))
  f314 := Tryd.func39.trans (congrArg some (by kernel_rfl))
  t0 := Tryd.underlying0
  a0 := Tryd.isAgg0
  z0 := Tryd.sizeOf0
  v0 := Tryd.zeroValue0
  t3 := Tryd.underlying3
  a3 := Tryd.isAgg3
  z3 := Tryd.sizeOf3
  v3 := Tryd.zeroValue3
  t4 := Tryd.underlying4
  a4 := Tryd.isAgg4
  z4 := Tryd.sizeOf4
  v4 := Tryd.zeroValue4
  t5 := Tryd.underlying5
  a5 := Tryd.isAgg5
  z5 := Tryd.sizeOf5
  v5 := Tryd.zeroValue5
  t9 := Tryd.underlying9
  a9 := Tryd.isAgg9
  z9 := Tryd.sizeOf9
  v9 := Tryd.zeroValue9
  t20 := Tryd.underlying20
  a20 := Tryd.isAgg20
  z20 := Tryd.sizeOf20
  v20 := Tryd.zeroValue20
  t21 := Tryd.underlying21
  a21 := Tryd.isAgg21
  z21 := Tryd.sizeOf21
  v21 := Tryd.zeroValue21
  t37 := Tryd.underlying33
  a37 := Tryd.isAgg33
  z37 := Tryd.sizeOf33
  v37 := Tryd.zeroValue33
  t46 := Tryd.underlying44
  a46 := Tryd.isAgg44
  z46 := Tryd.sizeOf44
  v46 := Tryd.zeroValue44
  t51 := Tryd.underlying57
  a51 := Tryd.isAgg57
  z51 := Tryd.sizeOf57
  v51 := Tryd.zeroValue57
  t70 := Tryd.underlying32
  a70 := Tryd.isAgg32
  z70 := Tryd.sizeOf32
  v70 := Tryd.zeroValue32
  t72 := Tryd.underlying35
  a72 := Tryd.isAgg35
  z72 := Tryd.sizeOf35
  v72 := Tryd.zeroValue35
  t75 := Tryd.underlying38
  a75 := Tryd.isAgg38
  z75 := Tryd.sizeOf38
  v75 := Tryd.zeroValue38
  t76 := Tryd.underlying39
  a76 := Tryd.isAgg39
  z76 := Tryd.sizeOf39
  v76 := Tryd.zeroValue39
  t105 := Tryd.underlying41
  a105 := Tryd.isAgg41
  z105 := Tryd.sizeOf41
  v105 := Tryd.zeroValue41
  t119 := Tryd.underlying53
  a119 := Tryd.isAgg53
  z119 := Tryd.sizeOf53
  t127 := Tryd.underlying48
  a127 := Tryd.isAgg48
  z127 := Tryd.sizeOf48
  v127 := Tryd.zeroValue48
  t138 := Tryd.underlying55
  a138 := Tryd.isAgg55
  z138 := Tryd.sizeOf55
  v138 := Tryd.zeroValue55
  t139 := Tryd.underlying56
  a139 := Tryd.isAgg56
  z139 := Tryd.sizeOf56
  v139 := Tryd.zeroValue56
  t146 := Tryd.underlying58
  a146 := Tryd.isAgg58
  z146 := Tryd.sizeOf58
  v146 := Tryd.zeroValue58
  t164 := Tryd.underlying49
  a164 := Tryd.isAgg49
  z164 := Tryd.sizeOf49
  v164 := Tryd.zeroValue49
  g1 := by kernel_rfl
  g3 := by kernel_rfl
  g4 := by kernel_rfl }
theorem Tryd.Builder_Extra_154 : Builder.Extra Tryd.prog Tryd.lays154_ren := {
  sizeBuilder := by kernel_rfl
  liesBuilder := by kernel_rfl
  t5 := Tryd.underlying5
  a5 := Tryd.isAgg5
  z5 := Tryd.sizeOf5
  v5 := Tryd.zeroValue5
  infoByte := by kernel_rfl
  cellsByte := by kernel_rfl
  sizeByte := by kernel_rfl
  neB5 := by decide }
theorem Tryd.strings_Replace (s old new : ByteArray) (n : Int) (m : Int) (w : World) (hs : s.size < 4294967281) (hm : w.cell? ⟨0, 0, none⟩ = some (.int .i64 m)) (h1 : 1 ≤ old.size) (hlen : s.size + Lib.countB s old * new.size ≤ 140737488355328) :
    Calls Tryd.prog 11 #[.string s, .string old, .string new, .int .i64 n] w fun e w' =>
      e = .returned (.string ⟨(Lib.replace s.data.toList old.data.toList new.data.toList n).toArray⟩) ∧ Below w.heap.size w w' := Any.strings_Replace Tryd.lays154 Tryd.Builder_Extra_154 s old new n m w hs hm h1 hlen
end Go.Proofs
/- tell.Rename at numbers of parameters, by strings.Replace's contract; the document's Rename; the statements of what is renamed. -/
namespace Go.Proofs.YtebggfghemblbaaDoor.Ax
open Go.RowKit Go By Sc Dg
set_option linter.unusedSimpArgs false
set_option linter.unusedVariables false
set_option maxRecDepth 10000

/-! ### The first instance, replaced -/
def rep1 (s old new : List UInt8) : List UInt8 := if Lib.index s old = -1 then s else s.take (Lib.index s old).toNat ++ new ++ s.drop ((Lib.index s old).toNat + old.length)
theorem occ_iff (s sub : List UInt8) (i : Nat) : Lib.occAt s sub i = true ↔ (s.drop i).take sub.length = sub := by
  unfold Lib.occAt
  rw [List.isPrefixOf_iff_prefix, List.prefix_iff_eq_take]
  exact eq_comm
theorem rep1_eq (s old new : List UInt8) (ho : old ≠ []) : Lib.replace s old new 1 = rep1 s old new := by
  unfold Lib.replace rep1
  rcases Lib.index_spec s old with ⟨h1, h2⟩ | ⟨i, h1, h2, h3, h4⟩
  · rw [if_pos h1]
    have hc := Lib.count_miss h1
    split
    · rfl
    · unfold Lib.replaceNum
      rw [hc, if_pos (by omega)]
      rfl
  · have hne : ¬ Lib.index s old = -1 := by omega
    rw [if_neg hne]
    have hc := Lib.count_hit ho h1
    split
    · rename_i e
      have e : old = new := by simpa using e
      subst e
      have ho2 := (occ_iff s old i).1 h3
      rw [h1, Int.toNat_natCast, List.append_assoc]
      conv => lhs; rw [← List.take_append_drop i s]
      congr 1
      conv => lhs; rw [← List.take_append_drop old.length (s.drop i)]
      rw [ho2, List.drop_drop]
    · have hn : Lib.replaceNum s old 1 = 1 := by
        unfold Lib.replaceNum
        split
        · omega
        · rfl
      rw [hn, Lib.replaceK_hit old new 0 s i h1, h1]
      rfl
theorem strB_mk (b : ByteArray) : b = strB b.data.toList := by apply ByteArray.ext; simp [strB]
theorem replace_c (s old new : List UInt8) (hs : s.length ≤ 100000) (ho : old ≠ []) (hn : new.length ≤ 100000) (h : List (List AV)) :
    Contract Tryd.prog 11 [.v (.string (strB s)), .v (.string (strB old)), .v (.string (strB new)), .v (.int .i64 1)] h (.v (.string (strB (rep1 s old new)))) h [] :=
  contract_blank (by kernel_rfl) rfl fun G w vs hW hvs => by
    rw [plain_vals (l := [.string (strB s), .string (strB old), .string (strB new), .int .i64 1]) hvs]
    obtain ⟨m, hm⟩ := hW.dom
    have hm2 := hW.first hm
    have ho1 : 1 ≤ old.length := by cases old with | nil => exact absurd rfl ho | cons _ _ => simp
    have hcl := Lib.countB_le (strB old) (by rw [strB_size]; exact ho1) s.length (strB s) (by rw [strB_size]; exact Nat.le_refl _)
    rw [strB_size] at hcl
    have hmul : Lib.countB (strB s) (strB old) * new.length ≤ 100000 * 100000 := Nat.mul_le_mul (by omega) hn
    refine (Tryd.strings_Replace (strB s) (strB old) (strB new) 1 m w (by rw [strB_size]; omega) hm2 (by rw [strB_size]; exact ho1) (by rw [strB_size, strB_size]; omega)).mono fun e w' he => ?_
    obtain ⟨rfl, hb⟩ := he
    rw [strB_data, strB_data, strB_data, rep1_eq s old new ho]
    exact ⟨_, rfl, .v _, hb⟩
theorem req_ne (s : List UInt8) : reqL s ≠ [] := by unfold reqL butT; simp
theorem req_len (s : List UInt8) : (reqL s).length = 37 + s.length := by
  have q := quote_len s
  simp [reqL, stmtL, butT, stmtT, requiresT, q]
  all_goals omega
def ren08 (text a b : List UInt8) : List UInt8 := rep1 text (reqL a) (reqL b)
theorem trename08_c (text a b : List UInt8) (ht : text.length ≤ 10000) (ha : a.length ≤ 10000) (hb : b.length ≤ 10000) (h : List (List AV)) : Contract Tryd.prog 6 [.v (.string (strB [48, 56, 80, 48, 49])), .v (.string (strB text)), .v (.string (strB a)), .v (.string (strB b))] h (.v (.string (strB (ren08 text a b)))) h [] := by
  have l1 := req_len b
  refine contract_of k6 mixed (by simp [c6]) fun hh hargs => ?_
  unfold ren08
  simp [c6]
  refine xcall_self (by simp) (treq_c a (by omega) _) ?_
  simp
  refine xcall_self (by simp) (treq_c b (by omega) _) ?_
  simp
  refine xcall_self (by simp) (replace_c text (reqL a) (reqL b) (by omega) (req_ne a) (by omega) _) ?_
  simp [hh]

/-! ### What is said of one name, renamed -/
theorem rep1_at (P R X new : List UInt8) (hR : R ≠ []) (hP : ∀ c ∈ P, some c ≠ R.head?) : rep1 (P ++ R ++ X) R new = P ++ new ++ X := by
  have hi : Lib.index (P ++ R ++ X) R = P.length := by
    refine Lib.index_first (by simp) ((occ_iff _ _ _).2 ?_) fun j hj => ?_
    · rw [List.append_assoc, List.drop_left, List.take_left]
    · cases ho : Lib.occAt (P ++ R ++ X) R j with
      | false => rfl
      | true =>
        exfalso
        have h1 := (occ_iff _ _ _).1 ho
        obtain ⟨c, r, rfl⟩ : ∃ c r, R = c :: r := by cases R with | nil => exact absurd rfl hR | cons c r => exact ⟨c, r, rfl⟩
        have h2 := congrArg (·[0]?) h1
        simp only [List.length_cons, List.getElem?_take, List.getElem?_drop, Nat.add_zero, List.getElem?_cons_zero] at h2
        rw [if_pos (by omega), List.append_assoc, List.getElem?_append_left hj] at h2
        exact hP _ (List.mem_of_getElem? h2) rfl
  unfold rep1
  rw [if_neg (by omega), hi, Int.toNat_natCast]
  congr 1
  · congr 1
    rw [List.append_assoc, List.take_left]
  · rw [← List.length_append, List.drop_left]
theorem digs_no (n : Int) (c : UInt8) (hc : c ∈ Dg.textL n) : c ≠ 44 := by
  have key : ∀ m, ∀ x ∈ Dg.digsN m, x ≠ 44 := fun m x hx => by
    have := List.all_eq_true.1 (Dg.digsN_all m) x hx
    intro e; subst e; revert this; decide
  unfold Dg.textL at hc
  split at hc
  · rcases List.mem_cons.1 hc with rfl | h
    · decide
    · exact key _ c h
  · exact key _ c hc
theorem ren08_self (n m : Int) (a b : List UInt8) : ren08 (arityL n a m) a b = arityL n b m := by
  unfold ren08 arityL
  refine rep1_at (bindT ++ Dg.textL n ++ paramsT) (reqL a) (Dg.textL m) (reqL b) (req_ne a) fun c hc => ?_
  have hh : (reqL a).head? = some 44 := rfl
  rw [hh]
  intro e
  injection e with e
  subst e
  simp only [List.mem_append] at hc
  rcases hc with (h | h) | h
  · revert h; decide
  · exact digs_no n 44 h rfl
  · revert h; decide
theorem u16_rng {n : Int} (h : (Lit.int .u16 n).wf = true) : 0 ≤ n ∧ n < 65536 := by
  simp [Lit.wf, IntKind.min, IntKind.max, IntKind.signed, IntKind.bits] at h
  omega
theorem tsays_c (a b : List UInt8) (n m : Int) (hn : (Lit.int .u16 n).wf = true) (hm : (Lit.int .u16 m).wf = true) : Contract Tryd.prog 4 [.v (.string (strB a)), .v (.string (strB b)), .v (.int .u16 n), .v (.int .u16 m)] [] (.v (.bool true)) [] [] := by
  obtain ⟨n1, n2⟩ := u16_rng hn
  obtain ⟨m1, m2⟩ := u16_rng hm
  have wn : IntKind.i64.wrap n = n := wrap64 (by omega) (by omega)
  have wm : IntKind.i64.wrap m = m := wrap64 (by omega) (by omega)
  refine contract_of k4 mixed (by simp [c4]) fun hh hargs => ?_
  by_cases hx : (300 : Int) < a.length
  · simp [c4, hx]
    refine xcall_self (by simp) (tawake_c _) ?_
    simp
  by_cases hy : (300 : Int) < b.length
  · simp [c4, hx, hy]
    refine xcall_self (by simp) (tawake_c _) ?_
    simp
  have ha : a.length ≤ 100000 := by omega
  have hb : b.length ≤ 100000 := by omega
  have hal : (arityL n a m).length ≤ 10000 := by
    have l1 := dtext_len n (by omega) (by omega)
    have l2 := dtext_len m (by omega) (by omega)
    have l3 := req_len a
    simp [arityL, bindT, paramsT]
    omega
  simp [c4, hx, hy, wn, wm]
  refine xcall_self (by simp) (tmiss_c a ha _) ?_
  simp
  refine xcall_self (by simp) (trename26_c (missL a) a b ha hb _) ?_
  rw [ren26_self]
  simp
  refine xcall_self (by simp) (tmiss_c b hb _) ?_
  simp
  refine xcall_self (by simp) (texist_c a ha _) ?_
  simp
  refine xcall_self (by simp) (trename42_c (existL a) a b ha hb _) ?_
  rw [ren42_self]
  simp
  refine xcall_self (by simp) (texist_c b hb _) ?_
  simp [wn, wm]
  refine xcall_self (by simp) (tarity_c n m a ⟨by omega, by omega⟩ ⟨by omega, by omega⟩ ha _) ?_
  simp
  refine xcall_self (by simp) (trename08_c (arityL n a m) a b hal (by omega) (by omega) _) ?_
  rw [ren08_self]
  simp [wn, wm]
  refine xcall_self (by simp) (tarity_c n m b ⟨by omega, by omega⟩ ⟨by omega, by omega⟩ hb _) ?_
  simp
  refine xcall_self (by simp) (texist_c a ha _) ?_
  simp
  refine xcall_self (by simp) (trename_no_c [50, 53, 80, 48, 50] (existL a) a b (by decide) (by decide) (by decide) _) ?_
  simp
  refine xcall_self (by simp) (texist_c a ha _) ?_
  simp
  refine xcall_self (by simp) (tawake_c _) ?_
  simp
/-! ### The document's Rename -/
theorem strB_extract (xs : List UInt8) (i j : Nat) : (strB xs).extract i j = strB ((xs.drop i).take (j - i)) := by
  apply ByteArray.ext
  apply Array.ext'
  simp [strB, ByteArray.data_extract, List.extract_eq_take_drop]
theorem rtrename26_c (text a b : List UInt8) (ha : a.length ≤ 100000) (hb : b.length ≤ 100000) (h : List (List AV)) : Contract Tryd.prog 7 [.v (.string (strB [50, 54, 48, 48, 48])), .v (.string (strB text)), .v (.string (strB a)), .v (.string (strB b))] h (.v (.string (strB (ren26 text a b)))) h [] := by
  refine contract_of k7 mixed (by simp [c7]) fun hh hargs => ?_
  unfold ren26
  simp [c7]
  refine xcall_self (by simp) (rtmiss_c a ha _) ?_
  by_cases e : text = missL a
  · simp [e]
    refine xcall_self (by simp) (rtmiss_c b hb _) ?_
    simp [hh]
  · simp [e, hh]
theorem rtrename42_c (text a b : List UInt8) (ha : a.length ≤ 100000) (hb : b.length ≤ 100000) (h : List (List AV)) : Contract Tryd.prog 7 [.v (.string (strB [52, 50, 80, 48, 53])), .v (.string (strB text)), .v (.string (strB a)), .v (.string (strB b))] h (.v (.string (strB (ren42 text a b)))) h [] := by
  refine contract_of k7 mixed (by simp [c7]) fun hh hargs => ?_
  unfold ren42
  simp [c7]
  refine xcall_self (by simp) (rtexist_c a ha _) ?_
  by_cases e : text = existL a
  · simp [e]
    refine xcall_self (by simp) (rtexist_c b hb _) ?_
    simp [hh]
  · simp [e, hh]
theorem rtrename_no_c (code text a b : List UInt8) (h1 : code ≠ [50, 54, 48, 48, 48]) (h2 : code ≠ [52, 50, 80, 48, 53]) (h3 : code ≠ [48, 56, 80, 48, 49]) (h : List (List AV)) : Contract Tryd.prog 7 [.v (.string (strB code)), .v (.string (strB text)), .v (.string (strB a)), .v (.string (strB b))] h (.v (.string (strB text))) h [] := by
  have b1 : (code == [50, 54, 48, 48, 48]) = false := by simpa using h1
  have b2 : (code == [52, 50, 80, 48, 53]) = false := by simpa using h2
  have b3 : (code == [48, 56, 80, 48, 49]) = false := by simpa using h3
  refine contract_of k7 mixed (by simp [c7]) fun hh hargs => ?_
  simp [c7, b1, b2, b3, hh]
def butP : List UInt8 := [44, 32, 98, 117, 116, 32, 112, 114, 101, 112, 97, 114, 101, 100, 32, 115, 116, 97, 116, 101, 109, 101, 110, 116, 32]
theorem req_parts (s : List UInt8) : reqL s = butP ++ (quoteL s ++ requiresT) := by simp [reqL, butP, butT, stmtL, stmtT]
theorem req_parts3 (s : List UInt8) : butP ++ quoteL s ++ requiresT = reqL s := by rw [req_parts, List.append_assoc]
theorem rtrename08_c (text a b : List UInt8) (ht : text.length ≤ 10000) (ha : a.length ≤ 10000) (hb : b.length ≤ 10000) (h : List (List AV)) : Contract Tryd.prog 7 [.v (.string (strB [48, 56, 80, 48, 49])), .v (.string (strB text)), .v (.string (strB a)), .v (.string (strB b))] h (.v (.string (strB (ren08 text a b)))) h [] := by
  have la := req_len a
  have qa := quote_len a
  have qb := quote_len b
  have p3 := req_parts3 a
  have p3b := req_parts3 b
  have lP : butP.length = 25 := rfl
  have lR : requiresT.length = 10 := rfl
  have eP : ([44, 32, 98, 117, 116, 32, 112, 114, 101, 112, 97, 114, 101, 100, 32, 115, 116, 97, 116, 101, 109, 101, 110, 116, 32] : List UInt8) = butP := rfl
  have eR : ([32, 114, 101, 113, 117, 105, 114, 101, 115, 32] : List UInt8) = requiresT := rfl
  have hne := req_ne a
  refine contract_of k7 mixed (by simp [c7]) fun hh hargs => ?_
  unfold ren08
  simp [c7]
  refine xcall_self (by simp) (drquote_c a (by omega) _) ?_
  rw [eP, eR]
  generalize quoteL a = Qa at *
  have hq := drquote_c b (by omega)
  generalize quoteL b = Qb at *
  generalize hRa : reqL a = Ra at *
  generalize hRb : reqL b = Rb at *
  generalize butP = BP at *
  generalize requiresT = RQ at *
  have w1 : IntKind.i64.wrap ((BP.length : Int) + Qa.length) = (BP.length : Int) + Qa.length := wrap64 (by omega) (by omega)
  have w2 : IntKind.i64.wrap ((BP.length : Int) + Qa.length + RQ.length) = (Ra.length : Int) := by rw [wrap64 (by omega) (by omega)]; omega
  simp [w1, w2]
  refine xloop_ok (D := Nat) (fun j => ⟨[(1, .v (.string (strB text))), (3, .v (.string (strB b))), (9, .v (.string (strB BP))), (10, .v (.string (strB Qa))), (11, .v (.string (strB RQ))), (12, .v (.int .i64 Ra.length)), (13, .v (.int .i64 j))], [], h, []⟩) (fun j => j ≤ text.length + 1 ∧ ∀ k, k < j → Lib.occAt text Ra k = false) (fun j => text.length + 1 - j) 0 (by simp) ?_ ?_
  · simp [Leq, hh]
  · rintro j ⟨hj, hp⟩
    have hw : IntKind.i64.wrap ((j : Int) + 1) = ((j + 1 : Nat) : Int) := by rw [wrap64 (by omega) (by omega)]; omega
    obtain ⟨u, hu⟩ : ∃ u : Nat, u = j + Ra.length := ⟨_, rfl⟩
    have hw2 : IntKind.i64.wrap ((j : Int) + Ra.length) = (u : Int) := by rw [wrap64 (by omega) (by omega)]; omega
    by_cases hle : u ≤ text.length
    · have hle2 : (u : Int) ≤ text.length := by omega
      have h0 : (j : Int) ≤ (u : Int) := by omega
      have h00 : j ≤ u := by omega
      have ex1 := strB_extract text j u
      rw [show u - j = Ra.length by omega] at ex1
      have sz1 : BP.length + Qa.length ≤ 9223372036854775807 := by omega
      have sz2 : BP.length + Qa.length + RQ.length ≤ 9223372036854775807 := by omega
      have p3' : BP ++ (Qa ++ RQ) = Ra := by rw [← List.append_assoc]; exact p3
      by_cases e : (text.drop j).take Ra.length = Ra
      · have hi : Lib.index text Ra = j := Lib.index_first (by omega) ((occ_iff text Ra j).2 e) hp
        have hr : rep1 text Ra Rb = text.take j ++ (BP ++ (Qb ++ (RQ ++ text.drop u))) := by
          unfold rep1
          rw [if_neg (by omega), hi, Int.toNat_natCast, ← p3b, ← hu]
          simp only [List.append_assoc]
        have ex2 := strB_extract text 0 j
        have ex3 := strB_extract text u text.length
        rw [List.drop_zero, Nat.sub_zero] at ex2
        rw [List.take_of_length_le (by simp)] at ex3
        have ht1 : (text.take j).length = j := by simp; omega
        have ht2 : (text.drop u).length = text.length - u := by simp
        have hjl : (j : Int) ≤ text.length := by omega
        rw [hr]
        generalize text.take j = T1 at *
        generalize text.drop u = T2 at *
        simp [hw2, hle2, hle, h0, h00, ex1, e, sz1, sz2, p3', ex2, ex3, hjl]
        refine ⟨by omega, xcall_self (by simp) (hq _) ?_⟩
        simp [hh]
        omega
      · have hno : Lib.occAt text Ra j = false := by
          cases ho : Lib.occAt text Ra j with
          | false => rfl
          | true => exact absurd ((occ_iff text Ra j).1 ho) e
        simp [hw2, hle2, hle, h0, h00, ex1, e, sz1, sz2, p3', hw]
        refine ⟨j + 1, ⟨by omega, fun k hk => ?_⟩, by omega, ?_⟩
        · rcases Nat.lt_or_ge k j with h1 | h1
          · exact hp k h1
          · rw [show k = j by omega]; exact hno
        · simp [Leq, hh]
    · have hle2 : ¬ (u : Int) ≤ text.length := by omega
      have hi : Lib.index text Ra = -1 := Lib.index_none fun k hk => by
        rcases Nat.lt_or_ge k j with h1 | h1
        · exact hp k h1
        · cases ho : Lib.occAt text Ra k with
          | false => rfl
          | true =>
            have := congrArg List.length ((occ_iff text Ra k).1 ho)
            simp at this
            omega
      have hr : rep1 text Ra Rb = text := by unfold rep1; rw [if_pos hi]
      rw [hr]
      simp [hw2, hle2, hh]
theorem trenames_c (code text a b : List UInt8) : Contract Tryd.prog 3 [.v (.string (strB code)), .v (.string (strB text)), .v (.string (strB a)), .v (.string (strB b))] [] (.v (.bool true)) [] [] := by
  refine contract_of k3 mixed (by simp [c3]) fun hh hargs => ?_
  by_cases hx : (1000 : Int) < text.length
  · simp [c3, hx]
    refine xcall_self (by simp) (tawake_c _) ?_
    simp
  by_cases hy : (300 : Int) < a.length
  · simp [c3, hx, hy]
    refine xcall_self (by simp) (tawake_c _) ?_
    simp
  by_cases hz : (300 : Int) < b.length
  · simp [c3, hx, hy, hz]
    refine xcall_self (by simp) (tawake_c _) ?_
    simp
  by_cases hc : (100 : Int) < code.length
  · simp [c3, hx, hy, hz, hc]
    refine xcall_self (by simp) (tawake_c _) ?_
    simp
  have ha : a.length ≤ 100000 := by omega
  have hb : b.length ≤ 100000 := by omega
  simp [c3, hx, hy, hz, hc]
  by_cases h1 : code = [50, 54, 48, 48, 48]
  · subst h1
    refine xcall_self (by simp) (trename26_c text a b ha hb _) ?_
    simp
    refine xcall_self (by simp) (rtrename26_c text a b ha hb _) ?_
    simp
    refine xcall_self (by simp) (tawake_c _) ?_
    simp
  by_cases h2 : code = [52, 50, 80, 48, 53]
  · subst h2
    refine xcall_self (by simp) (trename42_c text a b ha hb _) ?_
    simp
    refine xcall_self (by simp) (rtrename42_c text a b ha hb _) ?_
    simp
    refine xcall_self (by simp) (tawake_c _) ?_
    simp
  by_cases h3 : code = [48, 56, 80, 48, 49]
  · subst h3
    refine xcall_self (by simp) (trename08_c text a b (by omega) (by omega) (by omega) _) ?_
    simp
    refine xcall_self (by simp) (rtrename08_c text a b (by omega) (by omega) (by omega) _) ?_
    simp
    refine xcall_self (by simp) (tawake_c _) ?_
    simp
  refine xcall_self (by simp) (trename_no_c code text a b h1 h2 h3 _) ?_
  simp
  refine xcall_self (by simp) (rtrename_no_c code text a b h1 h2 h3 _) ?_
  simp
  refine xcall_self (by simp) (tawake_c _) ?_
  simp
end Go.Proofs.YtebggfghemblbaaDoor.Ax
namespace Go.Proofs.YtebggfghemblbaaDoor.tellRenames
open Go.ChangeShapes Go.WideShapes Go.ChangeAt Go.RowKit
open Go.ChangeMaps (open_string shut_string)
set_option linter.unusedVariables false

theorem own : ownKnob Tryd.prog.godebug = none := by kernel_rfl
theorem laidOut : laidOutB Tryd.prog = true := by kernel_rfl

set_option maxRecDepth 100000 in
theorem dom (W : World) (h : W.ShapedOpen Tryd.prog) : Ax.Dom W :=
  cell_of_shapedOpen_int (g := 0) (t := 3) (zero := #[.int .i64 0]) h (of_decide_eq_true (by kernel_rfl)) (by kernel_rfl) rfl (by kernel_rfl) (by kernel_rfl) Tryd.underlying3

set_option maxRecDepth 100000 in
theorem lifted (os : Os) (started : os.Started) (H : Type) (enc : TypeId × Value → H) :
    ReturnsInHanded {} Tryd.checked os 3 .any (fun w args => (Rows.tellRenamesSpec.pre enc Tryd.prog Tryd.f3 Rows.tellRenamesRow.domain false w args ∧ laidMetH Tryd.prog Rows.tellRenamesRow.laid w) ∧ sizedMet enc Tryd.prog Tryd.f3 (OpenSpec.ofChange Rows.tellRenamesSpec) false w args) (Rows.tellRenamesSpec.post enc Tryd.prog Tryd.f3 false true false false) := by
  refine Ax.handed_shaped (C := Tryd.checked) (X := fun w _ => laidMetH Tryd.prog Rows.tellRenamesRow.laid w) (fun _ _ _ hh h => h.of_heap hh) own started (by kernel_rfl) Tryd.func3
    (ChangeSpec.witness_shaped (enc := enc) (C := Tryd.checked) (os := os) (X := fun w _ => laidMetH Tryd.prog Rows.tellRenamesRow.laid w) false (World.laidAll Tryd.prog os Rows.tellRenamesRow.laid) #[.string ByteArray.empty, .string ByteArray.empty, .string ByteArray.empty, .string ByteArray.empty] 8 (World.laidAll_os _ _ _)
      (World.shaped_of_ZipB (by kernel_rfl) (by kernel_rfl)) (by kernel_rfl) (by kernel_rfl) (by kernel_rfl)
      (by rw [MakeChecks.laidMetH_plain _ _ _ (by kernel_rfl)]; exact laidMet_laidAll _ (by kernel_rfl) (by kernel_rfl))) ?_
  intro W base args ds gs before hval0 hW hL hsh _
  have hdom : Ax.Dom W := dom W hsh
  have hval : ∀ (j : Nat) t v, Tryd.f3.params[j]? = some t → args[j]? = some v → Value.okWide Tryd.prog W .any base t v := hval0
  have hW' := hW
  obtain ⟨p, q, hA0, hV, rfl, hfz, hnd⟩ := hW
  have hA : DataW.TrodAll enc Tryd.prog W 0 (fun _ => true) true Tryd.f3.params.toList args.toList ds p := hA0
  rw [Tryd.params3] at hA hval
  obtain ⟨v0, vs0, d0, ds0, p0, q0, hargs, rfl, rfl, h0, r0⟩ := trodAll_cons hA
  obtain ⟨v1, vs1, d1, ds1, p1, q1, rfl, rfl, rfl, h1, r1⟩ := trodAll_cons r0
  obtain ⟨v2, vs2, d2, ds2, p2, q2, rfl, rfl, rfl, h2, r2⟩ := trodAll_cons r1
  obtain ⟨v3, vs3, d3, ds3, p3, q3, rfl, rfl, rfl, h3, r3⟩ := trodAll_cons r2
  obtain ⟨rfl, rfl, rfl⟩ := trodAll_nil r3
  obtain rfl : args = #[v0, v1, v2, v3] := by cases args; simp_all
  obtain ⟨rfl, rfl⟩ := trodVars_none hV
  have k0 := h0
  have lt0 : ∀ x ∈ p0, x.block < W.heap.size := by obtain ⟨m, hm⟩ := k0; exact DataW.trod_lt m _ _ _ hm
  obtain ⟨a0, ok0, s0⟩ := Ax.arg_str Tryd.underlying9 (hval 0 9 v0 rfl rfl) h0
  have k1 := h1
  have lt1 : ∀ x ∈ p1, x.block < W.heap.size := by obtain ⟨m, hm⟩ := k1; exact DataW.trod_lt m _ _ _ hm
  obtain ⟨a1, ok1, s1⟩ := Ax.arg_str Tryd.underlying9 (hval 1 9 v1 rfl rfl) h1
  have k2 := h2
  have lt2 : ∀ x ∈ p2, x.block < W.heap.size := by obtain ⟨m, hm⟩ := k2; exact DataW.trod_lt m _ _ _ hm
  obtain ⟨a2, ok2, s2⟩ := Ax.arg_str Tryd.underlying9 (hval 2 9 v2 rfl rfl) h2
  have k3 := h3
  have lt3 : ∀ x ∈ p3, x.block < W.heap.size := by obtain ⟨m, hm⟩ := k3; exact DataW.trod_lt m _ _ _ hm
  obtain ⟨a3, ok3, s3⟩ := Ax.arg_str Tryd.underlying9 (hval 3 9 v3 rfl rfl) h3
  clear hA0 hval0 hL hsh
  refine (Ax.law_walk (w := W) hdom (Ax.trenames_c a0 a1 a2 a3) (by simp) (.cons s0 (.cons s1 (.cons s2 (.cons s3 .nil))))).mono fun e W' ⟨he, bel⟩ => ?_
  subst he
  exact ⟨_, rfl, _, _, _, [], _, [], hW', trodAll_mk1 (shut_bool Tryd.underlying4 _), (trodAll_cons_mk (Below.trod laidOut (by kernel_rfl) (of_decide_eq_true (by kernel_rfl)) k0 bel lt0) (trodAll_cons_mk (Below.trod laidOut (by kernel_rfl) (of_decide_eq_true (by kernel_rfl)) k1 bel lt1) (trodAll_cons_mk (Below.trod laidOut (by kernel_rfl) (of_decide_eq_true (by kernel_rfl)) k2 bel lt2) (trodAll_cons_mk (Below.trod laidOut (by kernel_rfl) (of_decide_eq_true (by kernel_rfl)) k3 bel lt3) trodAll_mk0)))), rfl, bel.frame _, fun h => by cases h⟩

theorem over : Rows.tellRenamesRow.holds Tryd.pinned (OpenSpec.ofChange Rows.tellRenamesSpec) :=
  OpenClaim.holds_of_wide 3 Tryd.f3 rfl rfl rfl rfl rfl rfl rfl ⟨rfl, rfl, rfl, rfl, rfl⟩ rfl rfl rfl rfl rfl (by kernel_rfl) Tryd.func3 (by kernel_rfl)
    (of_decide_eq_true (by kernel_rfl)) (by unfold Func.isWrapper; first | (rw [if_pos (by decide +kernel)]; kernel_rfl) | (rw [if_neg (by decide +kernel)]; exact ⟨rfl, rfl⟩))
    (fun os started H enc _ => lifted os started H enc)

theorem proved : Rows.TellRenamesCardSaid :=
  Claim7.holds_tied_plain_at .later [] [.data, .pinned] true (true, "cdd36a9dbd11a5b82885236cbb80575ccdb4bdb73480b52c3174005fa5572028") false over (fun _ h => by cases h) (by kernel_rfl) (fun _ h => by cases h) tellRenames_row_tie rfl ⟨rfl, rfl⟩ (by kernel_rfl) rfl
    (fun f fn hf hfn => by
      obtain rfl : f = 3 := Option.some.inj ((show Tryd.prog.funcNamed "remuda/remudalaw09.TellRenames" = some 3 by kernel_rfl).symm.trans hf) |>.symm
      obtain rfl : fn = Tryd.f3 := (Option.some.inj (Tryd.func3.symm.trans hfn)).symm
      exact ⟨by kernel_rfl, fun j t ht => by
        rw [Tryd.params3] at ht
        have hm : t ∈ [9, 9, 9, 9] := by simpa using Array.mem_of_getElem? ht
        have hall : ([9, 9, 9, 9].all fun u => !Tryd.prog.wantsStandIn u) = true := by kernel_rfl
        exact (show Tryd.prog.wantsStandIn t = false by simpa using List.all_eq_true.1 hall t hm)⟩)
    (by kernel_rfl)
#print axioms proved
end Go.Proofs.YtebggfghemblbaaDoor.tellRenames
