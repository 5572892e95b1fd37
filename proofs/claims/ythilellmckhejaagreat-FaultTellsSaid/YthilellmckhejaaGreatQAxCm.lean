/- slices.Clone of elements of k cells, as a call; and as a contract: a copy is a variable of its own. Written by gen/clone.py. -/
import Derived.Test.YthilellmckhejaaGreatRows
import Derived.Test.YthilellmckhejaaGreatQElems
import Derived.WalkKit
import Derived.Lib.Walk
import Derived.Lib.AppendZeros
import Derived.Test.YthilellmckhejaaGreatQAxIb
import Derived.Test.YthilellmckhejaaGreatQCodeA
import Derived.Test.YthilellmckhejaaGreatQNumD
import Derived.Test.YthilellmckhejaaGreatQDigC
import Derived.Test.YthilellmckhejaaGreatQHelA
import Derived.Test.YthilellmckhejaaGreatQAxCl
import Derived.Test.YthilellmckhejaaGreatQAxTz
/- The contract of slices.Grow at no slice of bytes: a slice of the call's own, without bytes. -/
namespace Go.Proofs.YthilellmckhejaaGreat.Nm
set_option maxRecDepth 100000
open Go.RowKit Go By

theorem byte_at : ∃ i, Tryz.prog.info? 5 = some i ∧ i.zero = some (.int .u8 0) ∧ i.size = 1 ∧ i.bytes = 1 := by
  have h : (Tryz.prog.info? 5).map (fun i => (i.zero, i.size, i.bytes)) = some (some (.int .u8 0), 1, 1) := by kernel_rfl
  cases hi : Tryz.prog.info? 5 with
  | none => rw [hi] at h; cases h
  | some i =>
    rw [hi] at h
    simp at h
    exact ⟨i, rfl, h.1, h.2.1, h.2.2⟩
theorem grow_nil (n : Nat) (w : World) (hn : n ≤ 140737488355328) :
    Calls Tryz.prog 119 #[.slice none 0 0, .int .i64 n] w fun e w' => ∃ v, e = .returned v ∧ OwnB 5 w' w.heap.size v [] ∧ Below w.heap.size w w' := by
  obtain ⟨i, hi, hz, hs, hb⟩ := byte_at
  have h1 : ¬ ((n : Int) < 0) := by omega
  rcases Nat.eq_zero_or_pos n with h0 | h0
  · subst h0
    go_enter Tryz.func119, Tryz.ntmps119
    go_wp2
    go_ret
    exact ⟨_, rfl, ⟨rfl, .inl ⟨rfl, rfl⟩⟩, Below.refl _ _⟩
  · have h3 : wrap64 (n : Int) = n := by unfold wrap64; omega
    have h4 : (n : Int) > 0 := by omega
    have hr : ∀ ty, _ := fun ty => Lib.run_append_nil_zeros (P := Tryz.prog) w 30 3 ty 5 i (.int .u8 0) .i64 .i64 Tryz.underlying30 Tryz.underlying3 hi hz n h0 (by omega) (by omega) (by rw [hb]; omega)
    have hG := grownCap_ge w n 0 5
    have hG2 := grownCap_le_maxLen w n 0 5 (by unfold maxLen; omega)
    obtain ⟨g, hg⟩ : ∃ g, g = grownCap w n 0 5 := ⟨_, rfl⟩
    rw [← hg] at hr hG hG2
    have hG3 : g ≤ 9223372036854775807 := by unfold maxLen at hG2; omega
    go_enter Tryz.func119, Tryz.ntmps119
    go_wp2_with (at_builtin; refine Lib.wpList_append_run _ rfl _ _ _ _ rfl _ _ rfl rfl _ _ (hr _) ?_)
    rw [← hg]
    go_ret
    refine ⟨_, rfl, ⟨rfl, .inr ⟨_, g, _, rfl, Nat.le_refl _, heap_alloc_new w _, Nat.zero_le _, hG2, ?_, rfl⟩⟩, ?_⟩
    · have hz1 : ∀ m, (Builtin.zeroCells #[Value.int IntKind.u8 0] m).size = m := fun m => by simp [Builtin.zeroCells]
      rw [Array.size_append, hz1, hz1]; omega
    · exact ((Below.refl _ _).alloc (Nat.le_refl _) _).drew
end Go.Proofs.YthilellmckhejaaGreat.Nm
/- The contracts of what other packages and the document's answers build on, over values without memory: numbers, texts, bytes. -/
namespace Go.Proofs.YthilellmckhejaaGreat.Ax
open Go.RowKit Go By Nm Sc Dg
set_option linter.unusedSimpArgs false
set_option maxRecDepth 10000

theorem mixed : Tryz.prog.follows .mixedOrders = true := by kernel_rfl
theorem plain_vals {G : Ghost} : ∀ {l : List Value} {vs : List Value}, SeesL G (l.map AV.v) vs → vs = l
  | [], vs, h => h.none
  | x :: l, vs, h => by
    obtain ⟨y, r, rfl, h1, h2⟩ := h.split
    rw [h1.inv_v, plain_vals h2]
theorem plain_quiet {P : Program} {f : FuncId} (hE : entersB P f = true) {l : List Value} {v : Value} (h : List (List AV)) (hc : ∀ w, Calls P f l.toArray w fun e w' => e = .returned v ∧ w = w') : Contract P f (l.map AV.v) h (.v v) h [] :=
  contract_quiet hE rfl fun G w vs _ hs => ⟨v, .v v, by rw [plain_vals hs]; exact hc w⟩
/-- The same, of several results. -/
theorem plain_quiet_t {P : Program} {f : FuncId} (hE : entersB P f = true) {l r : List Value} (h : List (List AV)) (hc : ∀ w, Calls P f l.toArray w fun e w' => e = .returned (.tuple r.toArray) ∧ w = w') : Contract P f (l.map AV.v) h (.tup (r.map AV.v)) h [] :=
  contract_quiet hE rfl fun G w vs _ hs => ⟨.tuple r.toArray, .tup _ r (by simp) (fun j c hj => by
    rw [List.getElem?_map] at hj
    cases hr : r[j]? with
    | none => rw [hr] at hj; cases hj
    | some x => rw [hr] at hj; injection hj with hj; subst hj; rw [List.getD_eq_getElem?_getD, hr]; exact .v x), by rw [plain_vals hs]; exact hc w⟩

/-! ### Numbers -/
theorem right_c (n size : Int) (h : List (List AV)) : Contract Tryz.prog 100 [.v (.int .i64 n), .v (.int .i64 size)] h (.v (.bool (rightB n size))) h [] :=
  plain_quiet (l := [.int .i64 n, .int .i64 size]) (by kernel_rfl) h (right_any n size)
theorem rright_c (n size : Int) (h : List (List AV)) : Contract Tryz.prog 87 [.v (.int .i64 n), .v (.int .i64 size)] h (.v (.bool (rightB n size))) h [] :=
  plain_quiet (l := [.int .i64 n, .int .i64 size]) (by kernel_rfl) h (rright_any n size)
theorem signed_c (n size : Int) (h : List (List AV)) : Contract Tryz.prog 146 [.v (.int .i64 n), .v (.int .i64 size)] h (.v (.int .i64 (signedI n size))) h [] :=
  plain_quiet (l := [.int .i64 n, .int .i64 size]) (by kernel_rfl) h (signed_any n size)
theorem rsigned_c (n size : Int) (h : List (List AV)) : Contract Tryz.prog 144 [.v (.int .i64 n), .v (.int .i64 size)] h (.v (.int .i64 (signedI n size))) h [] :=
  plain_quiet (l := [.int .i64 n, .int .i64 size]) (by kernel_rfl) h (rsigned_any n size)
theorem clean_c (s : List UInt8) (h : List (List AV)) : Contract Tryz.prog 97 [.v (.string (strB s))] h (.v (.bool (cleanB s))) h [] :=
  plain_quiet (l := [.string (strB s)]) (by kernel_rfl) h fun w => by have := clean_any (strB s) w; rwa [strB_data] at this
theorem rclean_c (s : List UInt8) (hs : s.length ≤ maxLen) (h : List (List AV)) : Contract Tryz.prog 53 [.v (.string (strB s))] h (.v (.bool (cleanB s))) h [] :=
  plain_quiet (l := [.string (strB s)]) (by kernel_rfl) h fun w => by have := rclean_any (strB s) w (by simpa using hs); rwa [strB_data] at this

/-! ### Bytes with a number behind; a number in bytes -/
theorem bytes_two {G : Ghost} {w : World} (hW : WorldOk G w) {xs : List UInt8} {vs : List Value} {l : List Value} (hs : SeesL G (.sl 1 (bytesE xs) none .no :: l.map AV.v) vs) : ∃ a cap, vs = .slice a xs.length cap :: l ∧ (a = none → cap = 0) ∧ xs.length ≤ cap ∧ cap ≤ maxLen ∧ BytesAt w w.heap.size a xs := by
  obtain ⟨x, r, rfl, h1, h2⟩ := hs.split
  obtain ⟨a, cap, rfl, h3⟩ := h1.bytes hW
  exact ⟨a, cap, by rw [plain_vals h2], h3⟩
theorem made_of {xs : List UInt8} {w w' : World} {e : Ending} (h : Made xs w e w') : ∃ v, e = .returned v ∧ OwnB 5 w' w.heap.size v xs ∧ Below w.heap.size w w' := by
  obtain ⟨a, cap, he, _, ho, _, hb⟩ := h
  exact ⟨_, he, ho, hb⟩
theorem put_c (xs : List UInt8) (n size : Int) (hl : xs.length ≤ 140737488351232) (h : List (List AV)) : Contract Tryz.prog 65 [.sl 1 (bytesE xs) none .no, .v (.int .i64 n), .v (.int .i64 size)] h (.sl 1 (bytesE (putL xs n size)) none (.own .res)) h [] :=
  contract_made (E := 5) (by kernel_rfl) fun G w vs hW hs => by
    obtain ⟨a, cap, rfl, h1, _, _, h2⟩ := bytes_two (l := [.int .i64 n, .int .i64 size]) hW hs
    exact (put_any _ a cap xs n size w h2 (Nat.le_refl _) h1 hl).mono fun e w' hm => made_of hm
theorem rput_c (xs : List UInt8) (n size : Int) (hl : xs.length ≤ 140737488351232) (h : List (List AV)) : Contract Tryz.prog 40 [.sl 1 (bytesE xs) none .no, .v (.int .i64 n), .v (.int .i64 size)] h (.sl 1 (bytesE (putL xs n size)) none (.own .res)) h [] :=
  contract_made (E := 5) (by kernel_rfl) fun G w vs hW hs => by
    obtain ⟨a, cap, rfl, h1, _, _, h2⟩ := bytes_two (l := [.int .i64 n, .int .i64 size]) hW hs
    exact (rput_any _ a cap xs n size w h2 h1 hl).mono fun e w' hm => made_of hm
theorem get_c (xs : List UInt8) (i size : Int) (h : List (List AV)) : Contract Tryz.prog 133 [.sl 1 (bytesE xs) none .no, .v (.int .i64 i), .v (.int .i64 size)] h (.tup [.v (.int .i64 (getVal xs i size)), .v (.int .i64 (getErr xs.length i size))]) h [] :=
  contract_quiet (by kernel_rfl) rfl fun G w vs hW hs => by
    obtain ⟨a, cap, rfl, _, h1, h3, h2⟩ := bytes_two (l := [.int .i64 i, .int .i64 size]) hW hs
    refine ⟨gotten xs i size, .tup _ [_, _] rfl fun j c hj => ?_, get_any _ a cap xs i size w (by unfold maxLen at h3; omega) h2⟩
    rcases j with _ | _ | j <;> simp at hj <;> subst hj <;> exact .v _
theorem rget_c (xs : List UInt8) (i size : Int) (h : List (List AV)) : Contract Tryz.prog 142 [.sl 1 (bytesE xs) none .no, .v (.int .i64 i), .v (.int .i64 size)] h (.tup [.v (.int .i64 (getVal xs i size)), .v (.int .i64 (getErr xs.length i size))]) h [] :=
  contract_quiet (by kernel_rfl) rfl fun G w vs hW hs => by
    obtain ⟨a, cap, rfl, _, h1, h3, h2⟩ := bytes_two (l := [.int .i64 i, .int .i64 size]) hW hs
    refine ⟨gotten xs i size, .tup _ [_, _] rfl fun j c hj => ?_, rget_any _ a cap xs i size w (by unfold maxLen at h3; omega) h2⟩
    rcases j with _ | _ | j <;> simp at hj <;> subst hj <;> exact .v _
theorem grow_c (n : Nat) (hn : n ≤ 140737488355328) (h : List (List AV)) : Contract Tryz.prog 119 [.sl 0 [] (some true) .exact, .v (.int .i64 n)] h (.sl 1 (bytesE []) none (.own .res)) h [] :=
  contract_made (E := 5) (by kernel_rfl) fun G w vs _ hs => by
    obtain ⟨x, r, rfl, h1, h2⟩ := hs.split
    rw [plain_vals (l := [.int .i64 n]) h2]
    cases h1 with
    | sl _ _ _ _ a len cap u hlen hn2 =>
      have ha := hn2.2.1 rfl
      obtain ⟨e1, e2⟩ := hn2.1 ha
      subst ha e1 e2
      exact grow_nil n w hn
end Go.Proofs.YthilellmckhejaaGreat.Ax
namespace Go.Proofs.YthilellmckhejaaGreat.Ax
set_option maxRecDepth 100000
open Go.RowKit Go By Nm
set_option linter.unusedSimpArgs false
set_option linter.unusedVariables false
set_option maxRecDepth 10000

theorem info_of3 {P : Program} {t : TypeId} {z : Value} {k b : Nat} (h : (P.info? t).map (fun i => (i.zero, i.size, i.bytes)) = some (some z, k, b)) : ∃ i, P.info? t = some i ∧ i.zero = some z ∧ i.size = k ∧ i.bytes = b := by
  cases hi : P.info? t with
  | none => rw [hi] at h; cases h
  | some i => rw [hi] at h; injection h with h; injection h with h1 h2; injection h2 with h2 h3; exact ⟨i, rfl, h1, h2, h3⟩
/-- A slice's cells, one behind the other, as they lie. -/
theorem flat_sees {G : Ghost} {k : Nat} (hk0 : 0 < k) {es : List (List AV)} {nul : Option Bool} {room : Room} {x : Value} (h : Sees G (.sl k es nul room) x) (hne : es ≠ []) {w : World} (hW : WorldOk G w) :
    ∃ (b o cap : Nat) (us : List Value), x = .slice (some ⟨b, o, none⟩) es.length cap ∧ b < w.heap.size ∧ us.length = es.length * k ∧ es.flatten.length = es.length * k ∧ (∀ x ∈ us, x.oneCell' = true) ∧ (∀ (j : Nat) (u : Value), us[j]? = some u → w.cell? ⟨b, o + j, none⟩ = some u) ∧ ∀ (j : Nat) (c : AV), es.flatten[j]? = some c → Sees G c (us.getD j undef) := by
  cases h with
  | sl _ _ _ _ a len cap u hlen hn hk hcap hm hr hc hs h1 =>
    have hpos : 0 < es.length := List.length_pos_iff.2 hne
    obtain ⟨b, o, rfl, hcell⟩ := hc hpos
    subst hlen
    have hfl : es.flatten.length = es.length * k := by
      have key : ∀ l : List (List AV), (∀ e ∈ l, e.length = k) → l.flatten.length = l.length * k := fun l => by
        induction l with
        | nil => intro _; simp
        | cons x l ih => intro hl; rw [List.flatten_cons, List.length_append, ih fun e he => hl e (List.mem_cons_of_mem _ he), hl x (List.mem_cons_self ..), List.length_cons, Nat.succ_mul]; omega
      exact key es hk
    have at_ : ∀ j, j < es.length * k → j / k < es.length ∧ j % k < k ∧ j / k * k + j % k = j := fun j hj => ⟨(Nat.div_lt_iff_lt_mul hk0).2 hj, Nat.mod_lt _ hk0, by rw [Nat.mul_comm]; exact Nat.div_add_mod j k⟩
    have cellj : ∀ j, j < es.length * k → w.cell? ⟨b, o + j, none⟩ = some (u (j / k) (j % k)) := fun j hj => by
      obtain ⟨h2, h3, h4⟩ := at_ j hj
      have := hW.cell (hcell _ _ h2 h3)
      rwa [Nat.add_assoc, h4] at this
    refine ⟨b, o, cap, (List.range (es.length * k)).map fun j => u (j / k) (j % k), rfl, ?_, by simp, hfl, fun x hx => ?_, fun j y hy => ?_, fun j c hj => ?_⟩
    · exact lt_of_cell (cellj 0 (Nat.mul_pos hpos hk0))
    · obtain ⟨j, hj, rfl⟩ := List.mem_map.1 hx
      obtain ⟨h2, h3, _⟩ := at_ j (List.mem_range.1 hj)
      exact h1 _ _ h2 h3
    · rw [List.getElem?_map] at hy
      cases hj : (List.range (es.length * k))[j]? with
      | none => rw [hj] at hy; cases hy
      | some i =>
        rw [hj] at hy
        injection hy with hy
        have hlt := (List.getElem?_eq_some_iff.1 hj).1
        simp at hlt
        rw [List.getElem?_range hlt] at hj
        injection hj with hj
        subst hj hy
        exact cellj j hlt
    · have hlt : j < es.length * k := by rw [← hfl]; exact (List.getElem?_eq_some_iff.1 hj).1
      obtain ⟨h2, h3, h4⟩ := at_ j hlt
      rw [List.getD_eq_getElem?_getD, List.getElem?_map, List.getElem?_range hlt]
      have key : ∀ (l : List (List AV)) (p q : Nat) (c : AV), (∀ e ∈ l, e.length = k) → q < k → l.flatten[p * k + q]? = some c → ∃ e, l[p]? = some e ∧ e[q]? = some c := fun l => by
        induction l with
        | nil => intro p q c _ _ hh; simp at hh
        | cons x l ih =>
          intro p q c hl hq hh
          have hx := hl x (List.mem_cons_self ..)
          rw [List.flatten_cons] at hh
          cases p with
          | zero => rw [Nat.zero_mul, Nat.zero_add, List.getElem?_append_left (by omega)] at hh; exact ⟨x, rfl, hh⟩
          | succ p =>
            rw [List.getElem?_append_right (by rw [hx, Nat.succ_mul]; omega), hx, show (p + 1) * k + q - k = p * k + q by rw [Nat.succ_mul]; omega] at hh
            obtain ⟨e, h5, h6⟩ := ih p q c (fun e he => hl e (List.mem_cons_of_mem _ he)) hq hh
            exact ⟨e, by simpa using h5, h6⟩
      rw [← h4] at hj
      obtain ⟨e, h5, h6⟩ := key es _ _ c hk h3 hj
      exact hs _ e h5 _ c h6
theorem fi_info : (Tryz.prog.info? 50).map (fun i => (i.zero, i.size, i.bytes)) = some (some (.agg #[.int .u8 0, .string ByteArray.empty]), 2, 24) := by kernel_rfl
theorem clone_fi_any (b o n c : Nat) (us : List Value) (w : World) (hl : us.length = n * 2) (hc : ∀ (j : Nat) (u : Value), us[j]? = some u → w.cell? ⟨b, o + j, none⟩ = some u) (hb : b < w.heap.size) (h1 : ∀ u ∈ us, u.oneCell' = true) (hn : n ≤ 1000000000) :
    Calls Tryz.prog 23 #[.slice (some ⟨b, o, none⟩) n c] w fun e w' => ∃ v, e = .returned v ∧ w'.ownsRow w.heap.size 50 2 v n us ∧ Below w.heap.size w w' := by
  obtain ⟨i0, hi, hz0, hz1, hz2⟩ := info_of3 fi_info
  have heq := fun W : World => Lib.run_eql_slice_nil (P := Tryz.prog) W 25 50 (some ⟨b, o, none⟩) n c 0 0 Tryz.underlying25
  have HX0 : ∀ (j : Nat) (u : Value), us[j]? = some u → (w.alloc (.cells #[] 50)).cell? ((⟨b, o, none⟩ : Addr).add j) = some u := fun j u hu => by
    rw [add_plain, (cell_alloc w _ (o + j) hb).1]; exact hc j u hu
  have HX := Lib.hid HX0
  have HL := Lib.hid hl
  have H1 := Lib.hid h1
  clear HX0 hc hl h1
  go_enter Tryz.func23, Tryz.ntmps23
  go_wp2_with (at_builtin; refine wpList_append_own_at (w := w.alloc (.cells #[] 50)) rfl _ _ 25 rfl w.heap.size 50 i0 (.agg #[.int .u8 0, .string ByteArray.empty]) 2 24 Tryz.underlying25 hi hz0 hz1 hz2 rfl (by omega) _ 0 [] rfl ?c1 ⟨b, o, none⟩ n c us rfl HL.out HX.out H1.out ?c4 ?c5 ?c6 ?c7)
  case c1 => exact World.ownsRow_made w #[] 0 (Nat.le_refl _) (by simp [maxLen]) (by simp)
  case c4 => unfold maxLen; omega
  case c5 => omega
  case c6 => simp
  case c7 =>
    intro v' w' hown hg
    intros
    have HO := Lib.hid hown
    clear hown
    go_wp2
    go_ret
    refine ⟨v', rfl, by simpa using HO.out, ((Below.refl _ _).alloc (Nat.le_refl _) _).grown hg (by simp) (by simp [Value.ownBlock])⟩
theorem clone_fi_empty (ad : Addr) (c : Nat) (w : World) :
    Calls Tryz.prog 23 #[.slice (some ad) 0 c] w fun e w' => ∃ v, e = .returned v ∧ w'.ownsRow w.heap.size 50 2 v 0 [] ∧ Below w.heap.size w w' := by
  obtain ⟨i0, hi, hz0, hz1, hz2⟩ := info_of3 fi_info
  have heq := fun W : World => Lib.run_eql_slice_nil (P := Tryz.prog) W 25 50 (some ad) 0 c 0 0 Tryz.underlying25
  go_enter Tryz.func23, Tryz.ntmps23
  go_wp2_with (at_builtin; refine wpList_append_own_at (w := w.alloc (.cells #[] 50)) rfl _ _ 25 rfl w.heap.size 50 i0 (.agg #[.int .u8 0, .string ByteArray.empty]) 2 24 Tryz.underlying25 hi hz0 hz1 hz2 rfl (by omega) _ 0 [] rfl ?c1 ad 0 c [] rfl (by simp) (by simp) (by simp) ?c4 ?c5 ?c6 ?c7)
  case c1 => exact World.ownsRow_made w #[] 0 (Nat.le_refl _) (by simp [maxLen]) (by simp)
  case c4 => unfold maxLen; omega
  case c5 => omega
  case c6 => simp
  case c7 =>
    intro v' w' hown hg
    intros
    have HO := Lib.hid hown
    clear hown
    go_wp2
    go_ret
    refine ⟨v', rfl, by simpa using HO.out, ((Below.refl _ _).alloc (Nat.le_refl _) _).grown hg (by simp) (by simp [Value.ownBlock])⟩
theorem clone_fi_nil (w : World) (c : Nat) : Calls Tryz.prog 23 #[.slice none 0 c] w fun e w' => e = .returned (.slice none 0 0) ∧ w = w' := by
  have heq := fun W : World => Lib.run_eql_slice_nil (P := Tryz.prog) W 25 50 none 0 c 0 0 Tryz.underlying25
  go_enter Tryz.func23, Tryz.ntmps23
  go_wp2
  go_ret
  exact ⟨rfl, rfl⟩

theorem cell_info : (Tryz.prog.info? 63).map (fun i => (i.zero, i.size, i.bytes)) = some (some (.agg #[.bool false, .slice none 0 0]), 2, 32) := by kernel_rfl
theorem by_info : (Tryz.prog.info? 5).map (fun i => (i.zero, i.size, i.bytes)) = some (some (.int .u8 0), 1, 1) := by kernel_rfl
theorem clone_fi_c (l : List Fi) (hne : l ≠ []) (hl : l.length ≤ 1000000000) (h : List (List AV)) : Contract Tryz.prog 23 [.sl 2 (enc fiC l) none .no] h (.bsl h.length 0 2 l.length) (h ++ [(enc fiC l).flatten]) [] := by
  refine contract_newbox (by kernel_rfl) (fun c hc => ?_) fun G w vs hW hvs => ?_
  · obtain ⟨e, he, hce⟩ := List.mem_flatten.1 hc
    unfold enc at he
    obtain ⟨x, _, rfl⟩ := List.mem_map.1 he
    simp [fiC] at hce
    rcases hce with rfl | rfl <;> rfl
  · obtain ⟨x, rfl, hx⟩ := hvs.one
    obtain ⟨b, o, cap, us, rfl, h1, h2, h3, h4, h5, h6⟩ := flat_sees (by omega) hx (by simpa [enc] using hne) hW
    have hlen : (enc fiC l).length = l.length := by simp
    rw [hlen] at h2 h3 ⊢
    refine (clone_fi_any b o l.length cap us w h2 h5 h1 h4 hl).mono fun e w' he => ?_
    obtain ⟨v, rfl, ⟨_, hown⟩, hb⟩ := he
    rcases hown with ⟨_, hn⟩ | ⟨g, cap2, cur, rfl, hg, hrow, hcap, hmax, hcs, htake⟩
    · exact absurd (List.eq_nil_of_length_eq_zero hn) hne
    · refine ⟨g, cap2, us, rfl, hg, (Array.getElem?_eq_some_iff.1 hrow).1, hcap, hmax, by rw [h2, h3], h4, h6, fun j x hj => ?_, hb⟩
      rw [← htake, List.getElem?_take] at hj
      split at hj
      · refine ⟨by rw [cell_of_row _ _ j cur _ (0, 0) hrow, ← Array.getElem?_toList]; exact hj, ?_⟩
        simp [World.frozen?, hrow]
      · cases hj
theorem clone_fi0_c (h : List (List AV)) : Contract Tryz.prog 23 [.sl 2 [] none .no] h (.sl 2 [] none .no) h [] := by
  refine contract_blank (by kernel_rfl) rfl fun G w vs hW hvs => ?_
  obtain ⟨x, rfl, hx⟩ := hvs.one
  cases hx with
  | sl _ _ _ _ a len cap u hlen hn hk hcap hm =>
    have hl0 : len = 0 := hlen
    subst hl0
    have empty : ∀ (G : Ghost) (a : Option Addr) (cap : Nat), (a = none → cap = 0) → cap ≤ maxLen → Sees G (.sl 2 [] none .no) (.slice a 0 cap) := fun G a cap h1 h2 =>
      .sl 2 [] none .no a 0 cap (fun _ _ => undef) rfl ⟨fun h => ⟨h1 h, rfl⟩, fun h => (by cases h), fun h => (by cases h)⟩ (fun e h => by cases h) (Nat.zero_le _) h2 (fun h => by cases h) (fun h => by simp at h) (fun i e h => by simp at h) (fun i j h => by simp at h)
    cases a with
    | none =>
      refine (clone_fi_nil w cap).mono fun e w' he => ?_
      obtain ⟨rfl, rfl⟩ := he
      exact ⟨_, rfl, empty G none 0 (fun _ => rfl) (Nat.zero_le _), Below.refl _ _⟩
    | some ad =>
      refine (clone_fi_empty ad cap w).mono fun e w' he => ?_
      obtain ⟨v, rfl, ⟨_, hown⟩, hb⟩ := he
      rcases hown with ⟨rfl, _⟩ | ⟨g, cap2, cur, rfl, hg, hrow, hcap2, hmax, hcs, htake⟩
      · exact ⟨_, rfl, empty G none 0 (fun _ => rfl) (Nat.zero_le _), hb⟩
      · exact ⟨_, rfl, empty G _ cap2 (fun h => by cases h) hmax, hb⟩

end Go.Proofs.YthilellmckhejaaGreat.Ax
