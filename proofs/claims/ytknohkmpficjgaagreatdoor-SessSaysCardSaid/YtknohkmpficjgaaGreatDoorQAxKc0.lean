import Derived.Lib.Walk
import Derived.Lib.AppendZeros
import Derived.Test.YtknohkmpficjgaaGreatDoorQAxIb
import Derived.Test.YtknohkmpficjgaaGreatDoorQCodeA
import Derived.Test.YtknohkmpficjgaaGreatDoorQHelA
import Derived.Test.YtknohkmpficjgaaGreatDoorQAxCl
import Derived.Test.YtknohkmpficjgaaGreatDoorQAxRo
set_option linter.unusedSimpArgs false
set_option linter.unusedVariables false
open Nat renaming le_refl -> Q7, succ_mul -> Ri, zero_le -> Rj
open List renaming getElem?_eq_some_iff -> Q8, flatten_cons -> Q9, getD_eq_getElem?_getD -> Ra, getElem?_append_right -> Rb, getElem?_map -> Rc, mem_cons_of_mem -> Re, length_pos_iff -> Rf, getElem?_range -> Rg, mem_cons_self -> Rh, length_cons -> Rk, mem_map -> Rl, range -> Rm
namespace Go.Proofs.YtknohkmpficjgaaGreatDoor.Nm
open Go.RowKit Go By
end Go.Proofs.YtknohkmpficjgaaGreatDoor.Nm
namespace Go.Proofs.YtknohkmpficjgaaGreatDoor.Ax
open Go.RowKit Go By YtknohkmpficjgaaGreatDoor.Nm Sc Dg
set_option maxRecDepth 10000
theorem mixed : Tryz.prog.follows .mixedOrders = true := by kernel_rfl
theorem dC {G : Ghost} : ∀ {l : List Value} {vs : List Value}, SeesL G (l.map AV.v) vs -> vs = l
 | [], vs, h => h.none
 | x :: l, vs, h => by
  obtain ⟨y, r, rfl, h1, h2⟩ := h.split
  rw [h1.inv_v, dC h2]
theorem dX {P : Program} {f : FuncId} (hE : cL P f = true) {l : List Value} {v : Value} (h : List (List AV)) (hc : ∀ w, Calls P f l.toArray w fun e w' => e = .returned v /\ w = w') : ae P f (l.map AV.v) h (.v v) h [] :=
 iF hE rfl fun G w vs _ hs => ⟨v, .v v, by rw [dC hs]; exact hc w⟩
theorem qa {P : Program} {f : FuncId} (hE : cL P f = true) {l r : List Value} (h : List (List AV)) (hc : ∀ w, Calls P f l.toArray w fun e w' => e = .returned (.tuple r.toArray) /\ w = w') : ae P f (l.map AV.v) h (.tup (r.map AV.v)) h [] :=
 iF hE rfl fun G w vs _ hs => ⟨.tuple r.toArray, .tup _ r (by simp) (fun j c hj => by
  rw [Rc] at hj
  cases hr : r[j]? with
  | none => rw [hr] at hj; cases hj
  | some x => rw [hr] at hj; injection hj with hj; subst hj; rw [Ra, hr]; exact .v x), by rw [dC hs]; exact hc w⟩
theorem xH (n size : Int) (h : List (List AV)) : ae Tryz.prog 66 [.v (.int .i64 n), .v (.int .i64 size)] h (.v (.bool (bp n size))) h [] :=
 dX (l := [.int .i64 n, .int .i64 size]) (by kernel_rfl) h (zp n size)
theorem BY (n size : Int) (h : List (List AV)) : ae Tryz.prog 166 [.v (.int .i64 n), .v (.int .i64 size)] h (.v (.int .i64 (dj n size))) h [] :=
 dX (l := [.int .i64 n, .int .i64 size]) (by kernel_rfl) h (ww n size)
theorem Db (s : List UInt8) (h : List (List AV)) : ae Tryz.prog 63 [.v (.string (ah s))] h (.v (.bool (aA s))) h [] :=
 dX (l := [.string (ah s)]) (by kernel_rfl) h fun w => by have := yx (ah s) w; rwa [jl] at this
theorem ot (s : List UInt8) (hs : s.length <= maxLen) (h : List (List AV)) : ae Tryz.prog 169 [.v (.string (ah s))] h (.v (.bool (aA s))) h [] :=
 dX (l := [.string (ah s)]) (by kernel_rfl) h fun w => by have := we (ah s) w (by simpa using hs); rwa [jl] at this
theorem yu {G : Ghost} {w : World} (hW : WorldOk G w) {xs : List UInt8} {vs : List Value} {l : List Value} (hs : SeesL G (.sl 1 (ak xs) none .no :: l.map AV.v) vs) : ∃ a cap, vs = .slice a xs.length cap :: l /\ (a = none -> cap = 0) /\ xs.length <= cap /\ cap <= maxLen /\ BytesAt w w.heap.size a xs := by
 obtain ⟨x, r, rfl, h1, h2⟩ := hs.split
 obtain ⟨a, cap, rfl, h3⟩ := h1.bytes hW
 exact ⟨a, cap, by rw [dC h2], h3⟩
theorem Dx {xs : List UInt8} {w w' : World} {e : Ending} (h : Made xs w e w') : ∃ v, e = .returned v /\ OwnB 5 w' w.heap.size v xs /\ Below w.heap.size w w' := by
 obtain ⟨a, cap, he, _, ho, _, hb⟩ := h
 exact ⟨_, he, ho, hb⟩
theorem ky (xs : List UInt8) (n size : Int) (hl : xs.length <= 140737488351232) (h : List (List AV)) : ae Tryz.prog 125 [.sl 1 (ak xs) none .no, .v (.int .i64 n), .v (.int .i64 size)] h (.sl 1 (ak (bG xs n size)) none (.own .res)) h [] :=
 jx (E := 5) (by kernel_rfl) fun G w vs hW hs => by
  obtain ⟨a, cap, rfl, h1, _, _, h2⟩ := yu (l := [.int .i64 n, .int .i64 size]) hW hs
  exact (BI _ a cap xs n size w h2 h1 hl).mono fun e w' hm => Dx hm
end Go.Proofs.YtknohkmpficjgaaGreatDoor.Ax
namespace Go.Proofs.YtknohkmpficjgaaGreatDoor.Ax
set_option maxRecDepth 100000
open Go.RowKit Go By YtknohkmpficjgaaGreatDoor.Nm
set_option maxRecDepth 10000
theorem gz {P : Program} {t : TypeId} {z : Value} {k b : Nat} (h : (P.info? t).map (fun i => (i.zero, i.size, i.bytes)) = some (some z, k, b)) : ∃ i, P.info? t = some i /\ i.zero = some z /\ i.size = k /\ i.bytes = b := by
 cases hi : P.info? t with
 | none => rw [hi] at h; cases h
 | some i => rw [hi] at h; injection h with h; injection h with h1 h2; injection h2 with h2 h3; exact ⟨i, rfl, h1, h2, h3⟩
theorem qz {G : Ghost} {k : Nat} (hk0 : 0 < k) {es : List (List AV)} {nul : Option Bool} {room : Room} {x : Value} (h : Sees G (.sl k es nul room) x) (hne : es ≠ []) {w : World} (hW : WorldOk G w) :
  ∃ (b o cap : Nat) (us : List Value), x = .slice (some ⟨b, o, none⟩) es.length cap /\ b < w.heap.size /\ us.length = es.length * k /\ es.flatten.length = es.length * k /\ (∀ x ∈ us, x.oneCell' = true) /\ (∀ (j : Nat) (u : Value), us[j]? = some u -> w.cell? ⟨b, o + j, none⟩ = some u) /\ ∀ (j : Nat) (c : AV), es.flatten[j]? = some c -> Sees G c (us.getD j undef) := by
 cases h with
 | sl _ _ _ _ a len cap u hlen hn hk hcap hm hr hc hs h1 =>
  have hpos : 0 < es.length := Rf.2 hne
  obtain ⟨b, o, rfl, hcell⟩ := hc hpos
  subst hlen
  have hfl : es.flatten.length = es.length * k := by
   have key : ∀ l : List (List AV), (∀ e ∈ l, e.length = k) -> l.flatten.length = l.length * k := fun l => by
    induction l with
    | nil => intro _; simp
    | cons x l ih => intro hl; rw [Q9, List.length_append, ih fun e he => hl e (Re _ he), hl x (Rh ..), Rk, Ri]; omega
   exact key es hk
  have at_ : ∀ j, j < es.length * k -> j / k < es.length /\ j % k < k /\ j / k * k + j % k = j := fun j hj => ⟨(Nat.div_lt_iff_lt_mul hk0).2 hj, Nat.mod_lt _ hk0, by rw [Nat.mul_comm]; exact Nat.div_add_mod j k⟩
  have cellj : ∀ j, j < es.length * k -> w.cell? ⟨b, o + j, none⟩ = some (u (j / k) (j % k)) := fun j hj => by
   obtain ⟨h2, h3, h4⟩ := at_ j hj
   have := hW.cell (hcell _ _ h2 h3)
   rwa [Nat.add_assoc, h4] at this
  refine ⟨b, o, cap, (Rm (es.length * k)).map fun j => u (j / k) (j % k), rfl, ?_, by simp, hfl, fun x hx => ?_, fun j y hy => ?_, fun j c hj => ?_⟩
  ·exact jX (cellj 0 (Nat.mul_pos hpos hk0))
  ·obtain ⟨j, hj, rfl⟩ := Rl.1 hx
   obtain ⟨h2, h3, _⟩ := at_ j (List.mem_range.1 hj)
   exact h1 _ _ h2 h3
  ·rw [Rc] at hy
   cases hj : (Rm (es.length * k))[j]? with
   | none => rw [hj] at hy; cases hy
   | some i =>
    rw [hj] at hy
    injection hy with hy
    have hlt := (Q8.1 hj).1
    simp at hlt
    rw [Rg hlt] at hj
    injection hj with hj
    subst hj hy
    exact cellj j hlt
  ·have hlt : j < es.length * k := by rw [<- hfl]; exact (Q8.1 hj).1
   obtain ⟨h2, h3, h4⟩ := at_ j hlt
   rw [Ra, Rc, Rg hlt]
   have key : ∀ (l : List (List AV)) (p q : Nat) (c : AV), (∀ e ∈ l, e.length = k) -> q < k -> l.flatten[p * k + q]? = some c -> ∃ e, l[p]? = some e /\ e[q]? = some c := fun l => by
    induction l with
    | nil => intro p q c _ _ hh; simp at hh
    | cons x l ih =>
     intro p q c hl hq hh
     have hx := hl x (Rh ..)
     rw [Q9] at hh
     cases p with
     | zero => rw [Nat.zero_mul, Nat.zero_add, List.getElem?_append_left (by omega)] at hh; exact ⟨x, rfl, hh⟩
     | succ p =>
      rw [Rb (by rw [hx, Ri]; omega), hx, show (p + 1) * k + q - k = p * k + q by rw [Ri]; omega] at hh
      obtain ⟨e, h5, h6⟩ := ih p q c (fun e he => hl e (Re _ he)) hq hh
      exact ⟨e, by simpa using h5, h6⟩
   rw [<- h4] at hj
   obtain ⟨e, h5, h6⟩ := key es _ _ c hk h3 hj
   exact hs _ e h5 _ c h6
theorem qj : (Tryz.prog.info? 79).map (fun i => (i.zero, i.size, i.bytes)) = some (some (.agg #[.bool false, .slice none 0 0]), 2, 32) := by kernel_rfl
theorem ny (b o n c : Nat) (us : List Value) (w : World) (hl : us.length = n * 2) (hc : ∀ (j : Nat) (u : Value), us[j]? = some u -> w.cell? ⟨b, o + j, none⟩ = some u) (hb : b < w.heap.size) (h1 : ∀ u ∈ us, u.oneCell' = true) (hn : n <= 4398046511104) :
  Calls Tryz.prog 197 #[.slice (some ⟨b, o, none⟩) n c] w fun e w' => ∃ v, e = .returned v /\ w'.ownsRow w.heap.size 79 2 v n us /\ Below w.heap.size w w' := by
 obtain ⟨i0, hi, hz0, hz1, hz2⟩ := gz qj
 have heq := fun W : World => Lib.run_eql_slice_nil (P := Tryz.prog) W 30 79 (some ⟨b, o, none⟩) n c 0 0 Tryz.underlying30
 have HX0 : ∀ (j : Nat) (u : Value), us[j]? = some u -> (w.alloc (.cells #[] 79)).cell? ((⟨b, o, none⟩ : Addr).add j) = some u := fun j u hu => by
  rw [add_plain, (aj w _ (o + j) hb).1]; exact hc j u hu
 have HX := Lib.hid HX0
 have HL := Lib.hid hl
 have H1 := Lib.hid h1
 clear HX0 hc hl h1
 go_enter Tryz.func197, Tryz.ntmps197
 go_wp2_with (at_builtin; refine wpList_append_own_at (w := w.alloc (.cells #[] 79)) rfl _ _ 30 rfl w.heap.size 79 i0 (.agg #[.bool false, .slice none 0 0]) 2 32 Tryz.underlying30 hi hz0 hz1 hz2 rfl (by omega) _ 0 [] rfl ?c1 ⟨b, o, none⟩ n c us rfl HL.out HX.out H1.out ?c4 ?c5 ?c6 ?c7)
 case c1 => exact World.ownsRow_made w #[] 0 (Q7 _) (by simp [maxLen]) (by simp)
 case c4 => unfold maxLen; omega
 case c5 => omega
 case c6 => simp
 case c7 =>
  intro v' w' hown hg
  intros
  have HO := Lib.hid hown
  clear hown
  go_wp2
  go_ret
  refine ⟨v', rfl, by simpa using HO.out, ((Below.refl _ _).alloc (Q7 _) _).grown hg (by simp) (by simp [Value.ownBlock])⟩
theorem lE (ad : Addr) (c : Nat) (w : World) :
  Calls Tryz.prog 197 #[.slice (some ad) 0 c] w fun e w' => ∃ v, e = .returned v /\ w'.ownsRow w.heap.size 79 2 v 0 [] /\ Below w.heap.size w w' := by
 obtain ⟨i0, hi, hz0, hz1, hz2⟩ := gz qj
 have heq := fun W : World => Lib.run_eql_slice_nil (P := Tryz.prog) W 30 79 (some ad) 0 c 0 0 Tryz.underlying30
 go_enter Tryz.func197, Tryz.ntmps197
 go_wp2_with (at_builtin; refine wpList_append_own_at (w := w.alloc (.cells #[] 79)) rfl _ _ 30 rfl w.heap.size 79 i0 (.agg #[.bool false, .slice none 0 0]) 2 32 Tryz.underlying30 hi hz0 hz1 hz2 rfl (by omega) _ 0 [] rfl ?c1 ad 0 c [] rfl (by simp) (by simp) (by simp) ?c4 ?c5 ?c6 ?c7)
 case c1 => exact World.ownsRow_made w #[] 0 (Q7 _) (by simp [maxLen]) (by simp)
 case c4 => unfold maxLen; omega
 case c5 => omega
 case c6 => simp
 case c7 =>
  intro v' w' hown hg
  intros
  have HO := Lib.hid hown
  clear hown
  go_wp2
  go_ret
  refine ⟨v', rfl, by simpa using HO.out, ((Below.refl _ _).alloc (Q7 _) _).grown hg (by simp) (by simp [Value.ownBlock])⟩
theorem nz (w : World) (c : Nat) : Calls Tryz.prog 197 #[.slice none 0 c] w fun e w' => e = .returned (.slice none 0 0) /\ w = w' := by
 have heq := fun W : World => Lib.run_eql_slice_nil (P := Tryz.prog) W 30 79 none 0 c 0 0 Tryz.underlying30
 go_enter Tryz.func197, Tryz.ntmps197
 go_wp2
 go_ret
 exact ⟨rfl, rfl⟩
theorem xj : (Tryz.prog.info? 5).map (fun i => (i.zero, i.size, i.bytes)) = some (some (.int .u8 0), 1, 1) := by kernel_rfl
theorem rL (b o n c : Nat) (us : List Value) (w : World) (hl : us.length = n * 1) (hc : ∀ (j : Nat) (u : Value), us[j]? = some u -> w.cell? ⟨b, o + j, none⟩ = some u) (hb : b < w.heap.size) (h1 : ∀ u ∈ us, u.oneCell' = true) (hn : n <= 140737488351232) :
  Calls Tryz.prog 198 #[.slice (some ⟨b, o, none⟩) n c] w fun e w' => ∃ v, e = .returned v /\ w'.ownsRow w.heap.size 5 1 v n us /\ Below w.heap.size w w' := by
 obtain ⟨i0, hi, hz0, hz1, hz2⟩ := gz xj
 have heq := fun W : World => Lib.run_eql_slice_nil (P := Tryz.prog) W 77 5 (some ⟨b, o, none⟩) n c 0 0 Tryz.underlying77
 have HX0 : ∀ (j : Nat) (u : Value), us[j]? = some u -> (w.alloc (.cells #[] 5)).cell? ((⟨b, o, none⟩ : Addr).add j) = some u := fun j u hu => by
  rw [add_plain, (aj w _ (o + j) hb).1]; exact hc j u hu
 have HX := Lib.hid HX0
 have HL := Lib.hid hl
 have H1 := Lib.hid h1
 clear HX0 hc hl h1
 go_enter Tryz.func198, Tryz.ntmps198
 go_wp2_with (at_builtin; refine wpList_append_own_at (w := w.alloc (.cells #[] 5)) rfl _ _ 77 rfl w.heap.size 5 i0 (.int .u8 0) 1 1 Tryz.underlying77 hi hz0 hz1 hz2 rfl (by omega) _ 0 [] rfl ?c1 ⟨b, o, none⟩ n c us rfl HL.out HX.out H1.out ?c4 ?c5 ?c6 ?c7)
 case c1 => exact World.ownsRow_made w #[] 0 (Q7 _) (by simp [maxLen]) (by simp)
 case c4 => unfold maxLen; omega
 case c5 => omega
 case c6 => simp
 case c7 =>
  intro v' w' hown hg
  intros
  have HO := Lib.hid hown
  clear hown
  go_wp2
  go_ret
  refine ⟨v', rfl, by simpa using HO.out, ((Below.refl _ _).alloc (Q7 _) _).grown hg (by simp) (by simp [Value.ownBlock])⟩
theorem nx (ad : Addr) (c : Nat) (w : World) :
  Calls Tryz.prog 198 #[.slice (some ad) 0 c] w fun e w' => ∃ v, e = .returned v /\ w'.ownsRow w.heap.size 5 1 v 0 [] /\ Below w.heap.size w w' := by
 obtain ⟨i0, hi, hz0, hz1, hz2⟩ := gz xj
 have heq := fun W : World => Lib.run_eql_slice_nil (P := Tryz.prog) W 77 5 (some ad) 0 c 0 0 Tryz.underlying77
 go_enter Tryz.func198, Tryz.ntmps198
 go_wp2_with (at_builtin; refine wpList_append_own_at (w := w.alloc (.cells #[] 5)) rfl _ _ 77 rfl w.heap.size 5 i0 (.int .u8 0) 1 1 Tryz.underlying77 hi hz0 hz1 hz2 rfl (by omega) _ 0 [] rfl ?c1 ad 0 c [] rfl (by simp) (by simp) (by simp) ?c4 ?c5 ?c6 ?c7)
 case c1 => exact World.ownsRow_made w #[] 0 (Q7 _) (by simp [maxLen]) (by simp)
 case c4 => unfold maxLen; omega
 case c5 => omega
 case c6 => simp
 case c7 =>
  intro v' w' hown hg
  intros
  have HO := Lib.hid hown
  clear hown
  go_wp2
  go_ret
  refine ⟨v', rfl, by simpa using HO.out, ((Below.refl _ _).alloc (Q7 _) _).grown hg (by simp) (by simp [Value.ownBlock])⟩
theorem rM (w : World) (c : Nat) : Calls Tryz.prog 198 #[.slice none 0 c] w fun e w' => e = .returned (.slice none 0 0) /\ w = w' := by
 have heq := fun W : World => Lib.run_eql_slice_nil (P := Tryz.prog) W 77 5 none 0 c 0 0 Tryz.underlying77
 go_enter Tryz.func198, Tryz.ntmps198
 go_wp2
 go_ret
 exact ⟨rfl, rfl⟩
theorem rN (l : List Cl) (hne : l ≠ []) (hl : l.length <= 4398046511104) (h : List (List AV)) : ae Tryz.prog 197 [.sl 2 (al aq l) none .no] h (.bsl h.length 0 2 l.length) (h ++ [(al aq l).flatten]) [] := by
 refine mS (by kernel_rfl) (fun c hc => ?_) fun G w vs hW hvs => ?_
 ·obtain ⟨e, he, hce⟩ := List.mem_flatten.1 hc
  unfold al at he
  obtain ⟨x, _, rfl⟩ := Rl.1 he
  simp [aq] at hce
  rcases hce with rfl | rfl <;> rfl
 ·obtain ⟨x, rfl, hx⟩ := hvs.one
  obtain ⟨b, o, cap, us, rfl, h1, h2, h3, h4, h5, h6⟩ := qz (by omega) hx (by simpa [al] using hne) hW
  have hlen : (al aq l).length = l.length := by simp
  rw [hlen] at h2 h3 ⊢
  refine (ny b o l.length cap us w h2 h5 h1 h4 hl).mono fun e w' he => ?_
  obtain ⟨v, rfl, ⟨_, hown⟩, hb⟩ := he
  rcases hown with ⟨_, hn⟩ | ⟨g, cap2, cur, rfl, hg, hrow, hcap, hmax, hcs, htake⟩
  ·exact absurd (List.eq_nil_of_length_eq_zero hn) hne
  ·refine ⟨g, cap2, us, rfl, hg, (Array.getElem?_eq_some_iff.1 hrow).1, hcap, ⟨hmax, fun j hj => ⟨by rw [cell_of_row _ _ j cur _ (0, 0) hrow, Array.getElem?_eq_getElem (by omega)]; rfl, by simp [World.frozen?, hrow]⟩⟩, by rw [h2, h3], h4, h6, fun j x hj => ?_, hb⟩
   rw [<- htake, List.getElem?_take] at hj
   split at hj
   ·refine ⟨by rw [cell_of_row _ _ j cur _ (0, 0) hrow, <- Array.getElem?_toList]; exact hj, ?_⟩
    simp [World.frozen?, hrow]
   ·cases hj
theorem pQ (h : List (List AV)) : ae Tryz.prog 197 [.sl 2 [] none .no] h (.sl 2 [] none .no) h [] := by
 refine bw (by kernel_rfl) rfl fun G w vs hW hvs => ?_
 obtain ⟨x, rfl, hx⟩ := hvs.one
 cases hx with
 | sl _ _ _ _ a len cap u hlen hn hk hcap hm =>
  have hl0 : len = 0 := hlen
  subst hl0
  have empty : ∀ (G : Ghost) (a : Option Addr) (cap : Nat), (a = none -> cap = 0) -> cap <= maxLen -> Sees G (.sl 2 [] none .no) (.slice a 0 cap) := fun G a cap h1 h2 =>
   .sl 2 [] none .no a 0 cap (fun _ _ => undef) rfl ⟨fun h => ⟨h1 h, rfl⟩, fun h => (by cases h), fun h => (by cases h)⟩ (fun e h => by cases h) (Rj _) h2 (fun h => by cases h) (fun h => by simp at h) (fun i e h => by simp at h) (fun i j h => by simp at h)
  cases a with
  | none =>
   refine (nz w cap).mono fun e w' he => ?_
   obtain ⟨rfl, rfl⟩ := he
   exact ⟨_, rfl, empty G none 0 (fun _ => rfl) (Rj _), Below.refl _ _⟩
  | some ad =>
   refine (lE ad cap w).mono fun e w' he => ?_
   obtain ⟨v, rfl, ⟨_, hown⟩, hb⟩ := he
   rcases hown with ⟨rfl, _⟩ | ⟨g, cap2, cur, rfl, hg, hrow, hcap2, hmax, hcs, htake⟩
   ·exact ⟨_, rfl, empty G none 0 (fun _ => rfl) (Rj _), hb⟩
   ·exact ⟨_, rfl, empty G _ cap2 (fun h => by cases h) hmax, hb⟩
theorem vc (xs : List UInt8) (hl : xs.length <= 140737488351232) (h : List (List AV)) : ae Tryz.prog 198 [.sl 1 (ak xs) none .no] h (.sl 1 (ak xs) none (.own .res)) h [] := by
 refine jx (E := 5) (by kernel_rfl) fun G w vs hW hvs => ?_
 obtain ⟨x, rfl, hx⟩ := hvs.one
 obtain ⟨a, cap, rfl, hc0, hcap, hmax, hat⟩ := hx.bytes hW
 cases a with
 | none =>
  have hn : xs = [] := by
   cases xs with
   | nil => rfl
   | cons x l => obtain ⟨_, _, hh, _⟩ := hat (by simp); cases hh
  subst hn
  refine (rM w cap).mono fun e w' he => ?_
  obtain ⟨rfl, rfl⟩ := he
  exact ⟨_, rfl, World.ownsRow_nil _ _ _ _, Below.refl _ _⟩
 | some ad =>
  by_cases hn : xs = []
  ·subst hn
   refine (nx ad cap w).mono fun e w' he => ?_
   obtain ⟨v, rfl, hown, hb⟩ := he
   exact ⟨v, rfl, hown, hb⟩
  ·obtain ⟨b, off, e1, hblt, hcell⟩ := hat (Rf.2 hn)
   injection e1 with e1
   subst e1
   refine (rL b off xs.length cap (vals xs) w (by simp [vals]) (fun j u hu => by
    have hj : j < xs.length := by
     have := (Q8.1 hu).1; simpa [vals] using this
    rw [fU xs j hj] at hu
    injection hu with hu
    subst hu
    exact hcell j hj) hblt (uU xs) hl).mono fun e w' he => ?_
   obtain ⟨v, rfl, hown, hb⟩ := he
   exact ⟨v, rfl, hown, hb⟩
end Go.Proofs.YtknohkmpficjgaaGreatDoor.Ax
namespace Go.Proofs.YtknohkmpficjgaaGreatDoor.Ax
open Go.RowKit Go By YtknohkmpficjgaaGreatDoor.Nm Sc Dg
set_option maxRecDepth 10000
theorem aY {i : Nat} : ∀ (F : List AV) (j : Nat), iP i j F F
 | [], _ => trivial
 | x :: r, j => ⟨gA _ _, aY r (j + 1)⟩
theorem tT {i : Nat} : ∀ (F : List AV) (j p : Nat) (a b : AV), F[p]? = some b -> LeqV (.cell i (j + p)) a b -> iP i j (F.set p a) F
 | x :: r, j, 0, a, b, h, hv => by
  simp at h
  subst h
  exact ⟨hv, aY r (j + 1)⟩
 | x :: r, j, p + 1, a, b, h, hv => ⟨gA _ _, tT r (j + 1) p a b (by simpa using h) (by rw [show j + 1 + p = j + (p + 1) by omega]; exact hv)⟩
theorem qy : ∀ (l : List Cl) (i : Nat) (hi : i < l.length), (al aq l).flatten[i * 2 + 1]? = some (.sl 1 (ak l[i].2) none .no)
 | x :: l, 0, _ => by simp [aq]
 | x :: l, i + 1, hi => by
  have hi' : i < l.length := by simpa using hi
  have ih := qy l i hi'
  have hc : (aq x).length = 2 := rfl
  rw [de, Q9, Rb (by rw [hc]; omega), show (i + 1) * 2 + 1 - (aq x).length = i * 2 + 1 by rw [hc]; omega, ih]
  rfl
theorem tC (n : Nat) : ∀ l : List Cl, cg n (al aq l).flatten
 | [] => trivial
 | x :: l => by rw [de, Q9, jW]; exact ⟨⟨trivial, fc n _, trivial⟩, tC n l⟩
theorem nV {a b : List (List AV)} : ∀ (h : List (List AV)) (k : Nat), iQ (k + h.length) a b -> iQ k (h ++ a) (h ++ b)
 | [], k, hh => by simpa using hh
 | c :: r, k, hh => ⟨.inl rfl, nV r (k + 1) (by simp only [Rk] at hh; rw [show k + 1 + r.length = k + (r.length + 1) by omega]; exact hh)⟩
end Go.Proofs.YtknohkmpficjgaaGreatDoor.Ax
