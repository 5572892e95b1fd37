/- tell.Rename at numbers of parameters, by strings.Replace's contract; the document's Rename; the statements of what is renamed. -/
import Derived.Shelf.Strings.Replace
import Derived.Test.YthielckgianmgaaGreatDoorProg
import Derived.Test.YthielckgianmgaaGreatDoorQAxTf
/- Contracts of Go's library, laid at this program by the kit's shelf (plain words): strings_Replace. -/
namespace Go.Sort
end Go.Sort
namespace Go.Proofs
open Go.Shelf Go.RowKit Go.Lib Go.Sort
def Tryz.lays154_ren : Go.Shelf.Ren := ⟨fun | 154 => 72 | 138 => 83 | 165 => 84 | 143 => 85 | 166 => 86 | 197 => 87 | 169 => 88 | 195 => 115 | 218 => 116 | 240 => 117 | 241 => 118 | 219 => 119 | 260 => 120 | 276 => 139 | 277 => 140 | 217 => 141 | 225 => 142 | 224 => 143 | 267 => 144 | 266 => 150 | 314 => 151 | n => n, fun | 9 => 9 | 3 => 3 | 4 => 4 | 72 => 109 | 0 => 0 | 76 => 113 | 105 => 115 | 21 => 21 | 5 => 5 | 70 => 107 | 20 => 20 | 37 => 24 | 75 => 112 | 127 => 138 | 164 => 148 | 46 => 94 | 119 => 150 | 139 => 153 | 138 => 152 | 146 => 157 | 51 => 156 | 80 => 117 | n => n, fun | 1 => 0 | 3 => 1 | 4 => 2 | n => n⟩
theorem Tryz.lays154 : Go.Proofs.Lays.n154 Tryz.prog Tryz.lays154_ren := {
  mixed := by kernel_rfl
  f138 := Tryz.func83.trans (congrArg some (by kernel_rfl))
  f143 := Tryz.func85.trans (congrArg some (by kernel_rfl))
  f154 := Tryz.func72.trans (congrArg some (by kernel_rfl))
  f165 := Tryz.func84.trans (congrArg some (by kernel_rfl))
  f166 := Tryz.func86.trans (congrArg some (by kernel_rfl))
  f169 := Tryz.func88.trans (congrArg some (by kernel_rfl))
  f195 := Tryz.func115.trans (congrArg some (by kernel_rfl))
  f197 := Tryz.func87.trans (congrArg some (by kernel_rfl))
  f217 := Tryz.func141.trans (congrArg some (by kernel_rfl))
  f218 := Tryz.func116.trans (congrArg some (by kernel_rfl))
  f219 := Tryz.func119.trans (congrArg some (by kernel_rfl))
  f224 := Tryz.func143.trans (congrArg some (by kernel_rfl))
  f225 := Tryz.func142.trans (congrArg some (by kernel_rfl))
  f240 := Tryz.func117.trans (congrArg some (by kernel_rfl))
  f241 := Tryz.func118.trans (congrArg some (by kernel_rfl))
  f260 := Tryz.func120.trans (congrArg some (by kernel_rfl))
  f266 := Tryz.func150.trans (congrArg some (by kernel_rfl))
  f267 := Tryz.func144.trans (congrArg some (by kernel_rfl))
  f276 := Tryz.func139.trans (congrArg some (by kernel_rfl))
  f277 := Tryz.func140.trans (congrArg some (by kernel_rfl))
  f314 := Tryz.func151.trans (congrArg some (by kernel_rfl))
  t0 := Tryz.underlying0
  a0 := Tryz.isAgg0
  z0 := Tryz.sizeOf0
  v0 := Tryz.zeroValue0
  t3 := Tryz.underlying3
  a3 := Tryz.isAgg3
  z3 := Tryz.sizeOf3
  v3 := Tryz.zeroValue3
  t4 := Tryz.underlying4
  a4 := Tryz.isAgg4
  z4 := Tryz.sizeOf4
  v4 := Tryz.zeroValue4
  t5 := Tryz.underlying5
  a5 := Tryz.isAgg5
  z5 := Tryz.sizeOf5
  v5 := Tryz.zeroValue5
  t9 := Tryz.underlying9
  a9 := Tryz.isAgg9
  z9 := Tryz.sizeOf9
  v9 := Tryz.zeroValue9
  t20 := Tryz.underlying20
  a20 := Tryz.isAgg20
  z20 := Tryz.sizeOf20
  v20 := Tryz.zeroValue20
  t21 := Tryz.underlying21
  a21 := Tryz.isAgg21
  z21 := Tryz.sizeOf21
  v21 := Tryz.zeroValue21
  t37 := Tryz.underlying24
  a37 := Tryz.isAgg24
  z37 := Tryz.sizeOf24
  v37 := Tryz.zeroValue24
  t46 := Tryz.underlying94
  a46 := Tryz.isAgg94
  z46 := Tryz.sizeOf94
  v46 := Tryz.zeroValue94
  t51 := Tryz.underlying156
  a51 := Tryz.isAgg156
  z51 := Tryz.sizeOf156
  v51 := Tryz.zeroValue156
  t70 := Tryz.underlying107
  a70 := Tryz.isAgg107
  z70 := Tryz.sizeOf107
  v70 := Tryz.zeroValue107
  t72 := Tryz.underlying109
  a72 := Tryz.isAgg109
  z72 := Tryz.sizeOf109
  v72 := Tryz.zeroValue109
  t75 := Tryz.underlying112
  a75 := Tryz.isAgg112
  z75 := Tryz.sizeOf112
  v75 := Tryz.zeroValue112
  t76 := Tryz.underlying113
  a76 := Tryz.isAgg113
  z76 := Tryz.sizeOf113
  v76 := Tryz.zeroValue113
  t105 := Tryz.underlying115
  a105 := Tryz.isAgg115
  z105 := Tryz.sizeOf115
  v105 := Tryz.zeroValue115
  t119 := Tryz.underlying150
  a119 := Tryz.isAgg150
  z119 := Tryz.sizeOf150
  t127 := Tryz.underlying138
  a127 := Tryz.isAgg138
  z127 := Tryz.sizeOf138
  v127 := Tryz.zeroValue138
  t138 := Tryz.underlying152
  a138 := Tryz.isAgg152
  z138 := Tryz.sizeOf152
  v138 := Tryz.zeroValue152
  t139 := Tryz.underlying153
  a139 := Tryz.isAgg153
  z139 := Tryz.sizeOf153
  v139 := Tryz.zeroValue153
  t146 := Tryz.underlying157
  a146 := Tryz.isAgg157
  z146 := Tryz.sizeOf157
  v146 := Tryz.zeroValue157
  t164 := Tryz.underlying148
  a164 := Tryz.isAgg148
  z164 := Tryz.sizeOf148
  v164 := Tryz.zeroValue148
  g1 := by kernel_rfl
  g3 := by kernel_rfl
  g4 := by kernel_rfl }
theorem Tryz.Builder_Extra_154 : Builder.Extra Tryz.prog Tryz.lays154_ren := {
  sizeBuilder := by kernel_rfl
  liesBuilder := by kernel_rfl
  t5 := Tryz.underlying5
  a5 := Tryz.isAgg5
  z5 := Tryz.sizeOf5
  v5 := Tryz.zeroValue5
  infoByte := by kernel_rfl
  cellsByte := by kernel_rfl
  sizeByte := by kernel_rfl
  neB5 := by decide }
theorem Tryz.strings_Replace (s old new : ByteArray) (n : Int) (m : Int) (w : World) (hs : s.size < 4294967281) (hm : w.cell? ⟨0, 0, none⟩ = some (.int .i64 m)) (h1 : 1 ≤ old.size) (hlen : s.size + Lib.countB s old * new.size ≤ 140737488355328) :
    Calls Tryz.prog 72 #[.string s, .string old, .string new, .int .i64 n] w fun e w' =>
      e = .returned (.string ⟨(Lib.replace s.data.toList old.data.toList new.data.toList n).toArray⟩) ∧ Below w.heap.size w w' := Any.strings_Replace Tryz.lays154 Tryz.Builder_Extra_154 s old new n m w hs hm h1 hlen
end Go.Proofs
namespace Go.Proofs.YthielckgianmgaaGreatDoor.Ax
open Go.RowKit Go By Sc Dg
set_option linter.unusedSimpArgs false
set_option linter.unusedVariables false
set_option maxRecDepth 10000

/-! ### The first instance, replaced -/
def rep1 (s old new : List UInt8) : List UInt8 := if Lib.index s old = -1 then s else s.take (Lib.index s old).toNat ++ new ++ s.drop ((Lib.index s old).toNat + old.length)
theorem occ_iff (s sub : List UInt8) (i : Nat) : Lib.occAt s sub i = true ↔ (s.drop i).take sub.length = sub := by
  unfold Lib.occAt
  rw [List.isPrefixOf_iff_prefix, List.prefix_iff_eq_take]
  exact eq_comm
theorem rep1_eq (s old new : List UInt8) (ho : old ≠ []) : Lib.replace s old new 1 = rep1 s old new := by
  unfold Lib.replace rep1
  rcases Lib.index_spec s old with ⟨h1, h2⟩ | ⟨i, h1, h2, h3, h4⟩
  · rw [if_pos h1]
    have hc := Lib.count_miss h1
    split
    · rfl
    · unfold Lib.replaceNum
      rw [hc, if_pos (by omega)]
      rfl
  · have hne : ¬ Lib.index s old = -1 := by omega
    rw [if_neg hne]
    have hc := Lib.count_hit ho h1
    split
    · rename_i e
      have e : old = new := by simpa using e
      subst e
      have ho2 := (occ_iff s old i).1 h3
      rw [h1, Int.toNat_natCast, List.append_assoc]
      conv => lhs; rw [← List.take_append_drop i s]
      congr 1
      conv => lhs; rw [← List.take_append_drop old.length (s.drop i)]
      rw [ho2, List.drop_drop]
    · have hn : Lib.replaceNum s old 1 = 1 := by
        unfold Lib.replaceNum
        split
        · omega
        · rfl
      rw [hn, Lib.replaceK_hit old new 0 s i h1, h1]
      rfl
theorem replace_c (s old new : List UInt8) (hs : s.length ≤ 100000) (ho : old ≠ []) (hn : new.length ≤ 100000) (h : List (List AV)) :
    Contract Tryz.prog 72 [.v (.string (strB s)), .v (.string (strB old)), .v (.string (strB new)), .v (.int .i64 1)] h (.v (.string (strB (rep1 s old new)))) h [] :=
  contract_blank (by kernel_rfl) rfl fun G w vs hW hvs => by
    rw [plain_vals (l := [.string (strB s), .string (strB old), .string (strB new), .int .i64 1]) hvs]
    obtain ⟨m, hm⟩ := hW.dom
    have hm2 := hW.first hm
    have ho1 : 1 ≤ old.length := by cases old with | nil => exact absurd rfl ho | cons _ _ => simp
    have hcl := Lib.countB_le (strB old) (by rw [strB_size]; exact ho1) s.length (strB s) (by rw [strB_size]; exact Nat.le_refl _)
    rw [strB_size] at hcl
    have hmul : Lib.countB (strB s) (strB old) * new.length ≤ 100000 * 100000 := Nat.mul_le_mul (by omega) hn
    refine (Tryz.strings_Replace (strB s) (strB old) (strB new) 1 m w (by rw [strB_size]; omega) hm2 (by rw [strB_size]; exact ho1) (by rw [strB_size, strB_size]; omega)).mono fun e w' he => ?_
    obtain ⟨rfl, hb⟩ := he
    rw [strB_data, strB_data, strB_data, rep1_eq s old new ho]
    exact ⟨_, rfl, .v _, hb⟩
theorem req_ne (s : List UInt8) : reqL s ≠ [] := by unfold reqL butT; simp
theorem req_len (s : List UInt8) : (reqL s).length = 37 + s.length := by
  have q := quote_len s
  simp [reqL, stmtL, butT, stmtT, requiresT, q]
  all_goals omega
def ren08 (text a b : List UInt8) : List UInt8 := rep1 text (reqL a) (reqL b)
theorem trename08_c (text a b : List UInt8) (ht : text.length ≤ 10000) (ha : a.length ≤ 10000) (hb : b.length ≤ 10000) (h : List (List AV)) : Contract Tryz.prog 58 [.v (.string (strB [48, 56, 80, 48, 49])), .v (.string (strB text)), .v (.string (strB a)), .v (.string (strB b))] h (.v (.string (strB (ren08 text a b)))) h [] := by
  have l1 := req_len b
  refine contract_of k58 mixed (by simp [c58]) fun hh hargs => ?_
  unfold ren08
  simp [c58]
  refine xcall_self (by simp) (treq_c a (by omega) _) ?_
  simp
  refine xcall_self (by simp) (treq_c b (by omega) _) ?_
  simp
  refine xcall_self (by simp) (replace_c text (reqL a) (reqL b) (by omega) (req_ne a) (by omega) _) ?_
  simp [hh]

/-! ### What is said of one name, renamed -/
theorem rep1_at (P R X new : List UInt8) (hR : R ≠ []) (hP : ∀ c ∈ P, some c ≠ R.head?) : rep1 (P ++ R ++ X) R new = P ++ new ++ X := by
  have hi : Lib.index (P ++ R ++ X) R = P.length := by
    refine Lib.index_first (by simp) ((occ_iff _ _ _).2 ?_) fun j hj => ?_
    · rw [List.append_assoc, List.drop_left, List.take_left]
    · cases ho : Lib.occAt (P ++ R ++ X) R j with
      | false => rfl
      | true =>
        exfalso
        have h1 := (occ_iff _ _ _).1 ho
        obtain ⟨c, r, rfl⟩ : ∃ c r, R = c :: r := by cases R with | nil => exact absurd rfl hR | cons c r => exact ⟨c, r, rfl⟩
        have h2 := congrArg (·[0]?) h1
        simp only [List.length_cons, List.getElem?_take, List.getElem?_drop, Nat.add_zero, List.getElem?_cons_zero] at h2
        rw [if_pos (by omega), List.append_assoc, List.getElem?_append_left hj] at h2
        exact hP _ (List.mem_of_getElem? h2) rfl
  unfold rep1
  rw [if_neg (by omega), hi, Int.toNat_natCast]
  congr 1
  · congr 1
    rw [List.append_assoc, List.take_left]
  · rw [← List.length_append, List.drop_left]
theorem digs_no (n : Int) (c : UInt8) (hc : c ∈ Dg.textL n) : c ≠ 44 := by
  have key : ∀ m, ∀ x ∈ Dg.digsN m, x ≠ 44 := fun m x hx => by
    have := List.all_eq_true.1 (Dg.digsN_all m) x hx
    intro e; subst e; revert this; decide
  unfold Dg.textL at hc
  split at hc
  · rcases List.mem_cons.1 hc with rfl | h
    · decide
    · exact key _ c h
  · exact key _ c hc
theorem ren08_self (n m : Int) (a b : List UInt8) : ren08 (arityL n a m) a b = arityL n b m := by
  unfold ren08 arityL
  refine rep1_at (bindT ++ Dg.textL n ++ paramsT) (reqL a) (Dg.textL m) (reqL b) (req_ne a) fun c hc => ?_
  have hh : (reqL a).head? = some 44 := rfl
  rw [hh]
  intro e
  injection e with e
  subst e
  simp only [List.mem_append] at hc
  rcases hc with (h | h) | h
  · revert h; decide
  · exact digs_no n 44 h rfl
  · revert h; decide
/-! ### The document's Rename -/
end Go.Proofs.YthielckgianmgaaGreatDoor.Ax
