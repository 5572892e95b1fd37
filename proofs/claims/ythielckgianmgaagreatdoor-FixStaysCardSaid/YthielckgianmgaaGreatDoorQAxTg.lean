/- tell.Rename at numbers of parameters, by strings.Replace's contract; the document's Rename; the statements of what is renamed. -/
import Derived.Shelf.Strings.Replace
import Derived.Test.YthielckgianmgaaGreatDoorProg
import Derived.Test.YthielckgianmgaaGreatDoorQAxTf
/- Contracts of Go's library, laid at this program by the kit's shelf (plain words): strings_Replace. -/
namespace Go.Sort
end Go.Sort
namespace Go.Proofs
open Go.Shelf Go.RowKit Go.Lib Go.Sort
def Tryz.lays154_ren : Go.Shelf.Ren := ⟨fun | 154 => 72 | 138 => 83 | 165 => 84 | 143 => 85 | 166 => 86 | 197 => 87 | 169 => 88 | 195 => 115 | 218 => 116 | 240 => 117 | 241 => 118 | 219 => 119 | 260 => 120 | 276 => 139 | 277 => 140 | 217 => 141 | 225 => 142 | 224 => 143 | 267 => 144 | 266 => 150 | 314 => 151 | n => n, fun | 9 => 9 | 3 => 3 | 4 => 4 | 72 => 109 | 0 => 0 | 76 => 113 | 105 => 115 | 21 => 21 | 5 => 5 | 70 => 107 | 20 => 20 | 37 => 24 | 75 => 112 | 127 => 138 | 164 => 148 | 46 => 94 | 119 => 150 | 139 => 153 | 138 => 152 | 146 => 157 | 51 => 156 | 80 => 117 | n => n, fun | 1 => 0 | 3 => 1 | 4 => 2 | n => n⟩
theorem Tryz.lays154 : Go.Proofs.Lays.n154 Tryz.prog Tryz.lays154_ren := {
  mixed := by kernel_rfl
  f138 := Tryz.func83.trans (congrArg some (by kernel_rfl))
  f143 := Tryz.func85.trans (congrArg some (by kernel_rfl))
  f154 := Tryz.func72.trans (congrArg some (by kernel_rfl))
  f165 := Tryz.func84.trans (congrArg some (by kernel_rfl))
  f166 := Tryz.func86.trans (congrArg some (by kernel_rfl))
  f169 := Tryz.func88.trans (congrArg some (by kernel_rfl))
  f195 := Tryz.func115.trans (congrArg some (by kernel_rfl))
  f197 := Tryz.func87.trans (congrArg some (by kernel_rfl))
  f217 := Tryz.func141.trans (congrArg some (by kernel_rfl))
  f218 := Tryz.func116.trans (congrArg some (by kernel_rfl))
  f219 := Tryz.func119.trans (congrArg some (by kernel_rfl))
  f224 := Tryz.func143.trans (congrArg some (by kernel_rfl))
  f225 := Tryz.func142.trans (congrArg some (by kernel_rfl))
  f240 := Tryz.func117.trans (congrArg some (by kernel_rfl))
  f241 := Tryz.func118.trans (congrArg some (by kernel_rfl))
  f260 := Tryz.func120.trans (congrArg some (by kernel_rfl))
  f266 := Tryz.func150.trans (congrArg some (by kernel_rfl))
  f267 := Tryz.func144.trans (congrArg some (by kernel_rfl))
  f276 := Tryz.func139.trans (congrArg some (by kernel_rfl))
  f277 := Tryz.func140.trans (congrArg some (by kernel_rfl))
  f314 := Tryz.func151.trans (congrArg some (by kernel_rfl))
  t0 := Tryz.underlying0
  a0 := Tryz.isAgg0
  z0 := Tryz.sizeOf0
  v0 := Tryz.zeroValue0
  t3 := Tryz.underlying3
  a3 := Tryz.isAgg3
  z3 := Tryz.sizeOf3
  v3 := Tryz.zeroValue3
  t4 := Tryz.underlying4
  a4 := Tryz.isAgg4
  z4 := Tryz.sizeOf4
  v4 := Tryz.zeroValue4
  t5 := Tryz.underlying5
  a5 := Tryz.isAgg5
  z5 := Tryz.sizeOf5
  v5 := Tryz.zeroValue5
  t9 := Tryz.underlying9
  a9 := Tryz.isAgg9
  z9 := Tryz.sizeOf9
  v9 := Tryz.zeroValue9
  t20 := Tryz.underlying20
  a20 := Tryz.isAgg20
  z20 := Tryz.sizeOf20
  v20 := Tryz.zeroValue20
  t21 := Tryz.underlying21
  a21 := Tryz.isAgg21
  z21 := Tryz.sizeOf21
  v21 := Tryz.zeroValue21
  t37 := Tryz.underlying24
  a37 := Tryz.isAgg24
  z37 := Tryz.sizeOf24
  v37 := Tryz.zeroValue24
  t46 := Tryz.underlying94
  a46 := Tryz.isAgg94
  z46 := Tryz.sizeOf94
  v46 := Tryz.zeroValue94
  t51 := Tryz.underlying156
  a51 := Tryz.isAgg156
  z51 := Tryz.sizeOf156
  v51 := Tryz.zeroValue156
  t70 := Tryz.underlying107
  a70 := Tryz.isAgg107
  z70 := Tryz.sizeOf107
  v70 := Tryz.zeroValue107
  t72 := Tryz.underlying109
  a72 := Tryz.isAgg109
  z72 := Tryz.sizeOf109
  v72 := Tryz.zeroValue109
  t75 := Tryz.underlying112
  a75 := Tryz.isAgg112
  z75 := Tryz.sizeOf112
  v75 := Tryz.zeroValue112
  t76 := Tryz.underlying113
  a76 := Tryz.isAgg113
  z76 := Tryz.sizeOf113
  v76 := Tryz.zeroValue113
  t105 := Tryz.underlying115
  a105 := Tryz.isAgg115
  z105 := Tryz.sizeOf115
  v105 := Tryz.zeroValue115
  t119 := Tryz.underlying150
  a119 := Tryz.isAgg150
  z119 := Tryz.sizeOf150
  t127 := Tryz.underlying138
  a127 := Tryz.isAgg138
  z127 := Tryz.sizeOf138
  v127 := Tryz.zeroValue138
  t138 := Tryz.underlying152
  a138 := Tryz.isAgg152
  z138 := Tryz.sizeOf152
  v138 := Tryz.zeroValue152
  t139 := Tryz.underlying153
  a139 := Tryz.isAgg153
  z139 := Tryz.sizeOf153
  v139 := Tryz.zeroValue153
  t146 := Tryz.underlying157
  a146 := Tryz.isAgg157
  z146 := Tryz.sizeOf157
  v146 := Tryz.zeroValue157
  t164 := Tryz.underlying148
  a164 := Tryz.isAgg148
  z164 := Tryz.sizeOf148
  v164 := Tryz.zeroValue148
  g1 := by kernel_rfl
  g3 := by kernel_rfl
  g4 := by kernel_rfl }
theorem Tryz.Builder_Extra_154 : Builder.Extra Tryz.prog Tryz.lays154_ren := {
  sizeBuilder := by kernel_rfl
  liesBuilder := by kernel_rfl
  t5 := Tryz.underlying5
  a5 := Tryz.isAgg5
  z5 := Tryz.sizeOf5
  v5 := Tryz.zeroValue5
  infoByte := by kernel_rfl
  cellsByte := by kernel_rfl
  sizeByte := by kernel_rfl
  neB5 := by decide }
theorem Tryz.strings_Replace (s old new : ByteArray) (n : Int) (m : Int) (w : World) (hs : s.size < 4294967281) (hm : w.cell? ⟨0, 0, none⟩ = some (.int .i64 m)) (h1 : 1 ≤ old.size) (hlen : s.size + Lib.countB s old * new.size ≤ 140737488355328) :
    Calls Tryz.prog 72 #[.string s, .string old, .string new, .int .i64 n] w fun e w' =>
      e = .returned (.string ⟨(Lib.replace s.data.toList old.data.toList new.data.toList n).toArray⟩) ∧ Below w.heap.size w w' := Any.strings_Replace Tryz.lays154 Tryz.Builder_Extra_154 s old new n m w hs hm h1 hlen
end Go.Proofs
namespace Go.Proofs.YthielckgianmgaaGreatDoor.Ax
open Go.RowKit Go By Sc Dg
set_option linter.unusedSimpArgs false
set_option linter.unusedVariables false
set_option maxRecDepth 10000

/-! ### The first instance, replaced -/
def rep1 (s old new : List UInt8) : List UInt8 := if Lib.index s old = -1 then s else s.take (Lib.index s old).toNat ++ new ++ s.drop ((Lib.index s old).toNat + old.length)
theorem occ_iff (s sub : List UInt8) (i : Nat) : Lib.occAt s sub i = true ↔ (s.drop i).take sub.length = sub := by
  unfold Lib.occAt
  rw [List.isPrefixOf_iff_prefix, List.prefix_iff_eq_take]
  exact eq_comm
theorem rep1_eq (s old new : List UInt8) (ho : old ≠ []) : Lib.replace s old new 1 = rep1 s old new := by
  unfold Lib.replace rep1
  rcases Lib.index_spec s old with ⟨h1, h2⟩ | ⟨i, h1, h2, h3, h4⟩
  · rw [if_pos h1]
    have hc := Lib.count_miss h1
    split
    · rfl
    · unfold Lib.replaceNum
      rw [hc, if_pos (by omega)]
      rfl
  · have hne : ¬ Lib.index s old = -1 := by omega
    rw [if_neg hne]
    have hc := Lib.count_hit ho h1
    split
    · rename_i e
      have e : old = new := by simpa using e
      subst e
      have ho2 := (occ_iff s old i).1 h3
      rw [h1, Int.toNat_natCast, List.append_assoc]
      conv => lhs; rw [← List.take_append_drop i s]
      congr 1
      conv => lhs; rw [← List.take_append_drop old.length (s.drop i)]
      rw [ho2, List.drop_drop]
    · have hn : Lib.replaceNum s old 1 = 1 := by
        unfold Lib.replaceNum
        split
        · omega
        · rfl
      rw [hn, Lib.replaceK_hit old new 0 s i h1, h1]
      rfl
theorem replace_c (s old new : List UInt8) (hs : s.length ≤ 100000) (ho : old ≠ []) (hn : new.length ≤ 100000) (h : List (List AV)) :
    Contract Tryz.prog 72 [.v (.string (strB s)), .v (.string (strB old)), .v (.string (strB new)), .v (.int .i64 1)] h (.v (.string (strB (rep1 s old new)))) h [] :=
  contract_blank (by kernel_rfl) rfl fun G w vs hW hvs => by
    rw [plain_vals (l := [.string (strB s), .string (strB old), .string (strB new), .int .i64 1]) hvs]
    obtain ⟨m, hm⟩ := hW.dom
    have hm2 := hW.first hm
    have ho1 : 1 ≤ old.length := by cases old with | nil => exact absurd rfl ho | cons _ _ => simp
    have hcl := Lib.countB_le (strB old) (by rw [strB_size]; exact ho1) s.length (strB s) (by rw [strB_size]; exact Nat.le_refl _)
    rw [strB_size] at hcl
    have hmul : Lib.countB (strB s) (strB old) * new.length ≤ 100000 * 100000 := Nat.mul_le_mul (by omega) hn
    refine (Tryz.strings_Replace (strB s) (strB old) (strB new) 1 m w (by rw [strB_size]; omega) hm2 (by rw [strB_size]; exact ho1) (by rw [strB_size, strB_size]; omega)).mono fun e w' he => ?_
    obtain ⟨rfl, hb⟩ := he
    rw [strB_data, strB_data, strB_data, rep1_eq s old new ho]
    exact ⟨_, rfl, .v _, hb⟩
theorem req_ne (s : List UInt8) : reqL s ≠ [] := by unfold reqL butT; simp
theorem req_len (s : List UInt8) : (reqL s).length = 37 + s.length := by
  have q := quote_len s
  simp [reqL, stmtL, butT, stmtT, requiresT, q]
  all_goals omega
def ren08 (text a b : List UInt8) : List UInt8 := rep1 text (reqL a) (reqL b)
theorem trename08_c (text a b : List UInt8) (ht : text.length ≤ 10000) (ha : a.length ≤ 10000) (hb : b.length ≤ 10000) (h : List (List AV)) : Contract Tryz.prog 58 [.v (.string (strB [48, 56, 80, 48, 49])), .v (.string (strB text)), .v (.string (strB a)), .v (.string (strB b))] h (.v (.string (strB (ren08 text a b)))) h [] := by
  have l1 := req_len b
  refine contract_of k58 mixed (by simp [c58]) fun hh hargs => ?_
  unfold ren08
  simp [c58]
  refine xcall_self (by simp) (treq_c a (by omega) _) ?_
  simp
  refine xcall_self (by simp) (treq_c b (by omega) _) ?_
  simp
  refine xcall_self (by simp) (replace_c text (reqL a) (reqL b) (by omega) (req_ne a) (by omega) _) ?_
  simp [hh]

/-! ### What is said of one name, renamed -/
/-! ### The document's Rename -/
theorem strB_extract (xs : List UInt8) (i j : Nat) : (strB xs).extract i j = strB ((xs.drop i).take (j - i)) := by
  apply ByteArray.ext
  apply Array.ext'
  simp [strB, ByteArray.data_extract, List.extract_eq_take_drop]
theorem rtrename26_c (text a b : List UInt8) (ha : a.length ≤ 100000) (hb : b.length ≤ 100000) (h : List (List AV)) : Contract Tryz.prog 37 [.v (.string (strB [50, 54, 48, 48, 48])), .v (.string (strB text)), .v (.string (strB a)), .v (.string (strB b))] h (.v (.string (strB (ren26 text a b)))) h [] := by
  refine contract_of k37 mixed (by simp [c37]) fun hh hargs => ?_
  unfold ren26
  simp [c37]
  refine xcall_self (by simp) (rtmiss_c a ha _) ?_
  by_cases e : text = missL a
  · simp [e]
    refine xcall_self (by simp) (rtmiss_c b hb _) ?_
    simp [hh]
  · simp [e, hh]
theorem rtrename42_c (text a b : List UInt8) (ha : a.length ≤ 100000) (hb : b.length ≤ 100000) (h : List (List AV)) : Contract Tryz.prog 37 [.v (.string (strB [52, 50, 80, 48, 53])), .v (.string (strB text)), .v (.string (strB a)), .v (.string (strB b))] h (.v (.string (strB (ren42 text a b)))) h [] := by
  refine contract_of k37 mixed (by simp [c37]) fun hh hargs => ?_
  unfold ren42
  simp [c37]
  refine xcall_self (by simp) (rtexist_c a ha _) ?_
  by_cases e : text = existL a
  · simp [e]
    refine xcall_self (by simp) (rtexist_c b hb _) ?_
    simp [hh]
  · simp [e, hh]
theorem rtrename_no_c (code text a b : List UInt8) (h1 : code ≠ [50, 54, 48, 48, 48]) (h2 : code ≠ [52, 50, 80, 48, 53]) (h3 : code ≠ [48, 56, 80, 48, 49]) (h : List (List AV)) : Contract Tryz.prog 37 [.v (.string (strB code)), .v (.string (strB text)), .v (.string (strB a)), .v (.string (strB b))] h (.v (.string (strB text))) h [] := by
  have b1 : (code == [50, 54, 48, 48, 48]) = false := by simpa using h1
  have b2 : (code == [52, 50, 80, 48, 53]) = false := by simpa using h2
  have b3 : (code == [48, 56, 80, 48, 49]) = false := by simpa using h3
  refine contract_of k37 mixed (by simp [c37]) fun hh hargs => ?_
  simp [c37, b1, b2, b3, hh]
def butP : List UInt8 := [44, 32, 98, 117, 116, 32, 112, 114, 101, 112, 97, 114, 101, 100, 32, 115, 116, 97, 116, 101, 109, 101, 110, 116, 32]
theorem req_parts (s : List UInt8) : reqL s = butP ++ (quoteL s ++ requiresT) := by simp [reqL, butP, butT, stmtL, stmtT]
theorem req_parts3 (s : List UInt8) : butP ++ quoteL s ++ requiresT = reqL s := by rw [req_parts, List.append_assoc]
theorem rtrename08_c (text a b : List UInt8) (ht : text.length ≤ 10000) (ha : a.length ≤ 10000) (hb : b.length ≤ 10000) (h : List (List AV)) : Contract Tryz.prog 37 [.v (.string (strB [48, 56, 80, 48, 49])), .v (.string (strB text)), .v (.string (strB a)), .v (.string (strB b))] h (.v (.string (strB (ren08 text a b)))) h [] := by
  have la := req_len a
  have qa := quote_len a
  have qb := quote_len b
  have p3 := req_parts3 a
  have p3b := req_parts3 b
  have lP : butP.length = 25 := rfl
  have lR : requiresT.length = 10 := rfl
  have eP : ([44, 32, 98, 117, 116, 32, 112, 114, 101, 112, 97, 114, 101, 100, 32, 115, 116, 97, 116, 101, 109, 101, 110, 116, 32] : List UInt8) = butP := rfl
  have eR : ([32, 114, 101, 113, 117, 105, 114, 101, 115, 32] : List UInt8) = requiresT := rfl
  have hne := req_ne a
  refine contract_of k37 mixed (by simp [c37]) fun hh hargs => ?_
  unfold ren08
  simp [c37]
  refine xcall_self (by simp) (drquote_c a (by omega) _) ?_
  rw [eP, eR]
  generalize quoteL a = Qa at *
  have hq := drquote_c b (by omega)
  generalize quoteL b = Qb at *
  generalize hRa : reqL a = Ra at *
  generalize hRb : reqL b = Rb at *
  generalize butP = BP at *
  generalize requiresT = RQ at *
  have w1 : IntKind.i64.wrap ((BP.length : Int) + Qa.length) = (BP.length : Int) + Qa.length := wrap64 (by omega) (by omega)
  have w2 : IntKind.i64.wrap ((BP.length : Int) + Qa.length + RQ.length) = (Ra.length : Int) := by rw [wrap64 (by omega) (by omega)]; omega
  simp [w1, w2]
  refine xloop_ok (D := Nat) (fun j => ⟨[(1, .v (.string (strB text))), (3, .v (.string (strB b))), (9, .v (.string (strB BP))), (10, .v (.string (strB Qa))), (11, .v (.string (strB RQ))), (12, .v (.int .i64 Ra.length)), (13, .v (.int .i64 j))], [], h, []⟩) (fun j => j ≤ text.length + 1 ∧ ∀ k, k < j → Lib.occAt text Ra k = false) (fun j => text.length + 1 - j) 0 (by simp) ?_ ?_
  · simp [Leq, hh]
  · rintro j ⟨hj, hp⟩
    have hw : IntKind.i64.wrap ((j : Int) + 1) = ((j + 1 : Nat) : Int) := by rw [wrap64 (by omega) (by omega)]; omega
    obtain ⟨u, hu⟩ : ∃ u : Nat, u = j + Ra.length := ⟨_, rfl⟩
    have hw2 : IntKind.i64.wrap ((j : Int) + Ra.length) = (u : Int) := by rw [wrap64 (by omega) (by omega)]; omega
    by_cases hle : u ≤ text.length
    · have hle2 : (u : Int) ≤ text.length := by omega
      have h0 : (j : Int) ≤ (u : Int) := by omega
      have h00 : j ≤ u := by omega
      have ex1 := strB_extract text j u
      rw [show u - j = Ra.length by omega] at ex1
      have sz1 : BP.length + Qa.length ≤ 9223372036854775807 := by omega
      have sz2 : BP.length + Qa.length + RQ.length ≤ 9223372036854775807 := by omega
      have p3' : BP ++ (Qa ++ RQ) = Ra := by rw [← List.append_assoc]; exact p3
      by_cases e : (text.drop j).take Ra.length = Ra
      · have hi : Lib.index text Ra = j := Lib.index_first (by omega) ((occ_iff text Ra j).2 e) hp
        have hr : rep1 text Ra Rb = text.take j ++ (BP ++ (Qb ++ (RQ ++ text.drop u))) := by
          unfold rep1
          rw [if_neg (by omega), hi, Int.toNat_natCast, ← p3b, ← hu]
          simp only [List.append_assoc]
        have ex2 := strB_extract text 0 j
        have ex3 := strB_extract text u text.length
        rw [List.drop_zero, Nat.sub_zero] at ex2
        rw [List.take_of_length_le (by simp)] at ex3
        have ht1 : (text.take j).length = j := by simp; omega
        have ht2 : (text.drop u).length = text.length - u := by simp
        have hjl : (j : Int) ≤ text.length := by omega
        rw [hr]
        generalize text.take j = T1 at *
        generalize text.drop u = T2 at *
        simp [hw2, hle2, hle, h0, h00, ex1, e, sz1, sz2, p3', ex2, ex3, hjl]
        refine ⟨by omega, xcall_self (by simp) (hq _) ?_⟩
        simp [hh]
        omega
      · have hno : Lib.occAt text Ra j = false := by
          cases ho : Lib.occAt text Ra j with
          | false => rfl
          | true => exact absurd ((occ_iff text Ra j).1 ho) e
        simp [hw2, hle2, hle, h0, h00, ex1, e, sz1, sz2, p3', hw]
        refine ⟨j + 1, ⟨by omega, fun k hk => ?_⟩, by omega, ?_⟩
        · rcases Nat.lt_or_ge k j with h1 | h1
          · exact hp k h1
          · rw [show k = j by omega]; exact hno
        · simp [Leq, hh]
    · have hle2 : ¬ (u : Int) ≤ text.length := by omega
      have hi : Lib.index text Ra = -1 := Lib.index_none fun k hk => by
        rcases Nat.lt_or_ge k j with h1 | h1
        · exact hp k h1
        · cases ho : Lib.occAt text Ra k with
          | false => rfl
          | true =>
            have := congrArg List.length ((occ_iff text Ra k).1 ho)
            simp at this
            omega
      have hr : rep1 text Ra Rb = text := by unfold rep1; rw [if_pos hi]
      rw [hr]
      simp [hw2, hle2, hh]
end Go.Proofs.YthielckgianmgaaGreatDoor.Ax
