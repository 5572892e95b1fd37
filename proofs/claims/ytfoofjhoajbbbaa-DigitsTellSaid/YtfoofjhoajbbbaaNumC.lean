/- The contracts of bytes.Equal and bytes.Clone at slices that hold bytes. -/
import Derived.Test.YtfoofjhoajbbbaaRows
import Derived.Test.YtfoofjhoajbbbaaBytes
namespace Go.Proofs.Ytfoofjhoajbbbaa.Nm
open Go.RowKit Go By

theorem equal_any (B1 B2 : Nat) (a1 a2 : Option Addr) (c1 c2 : Nat) (xs ys : List UInt8) (w : World) (h1 : BytesAt w B1 a1 xs) (h2 : BytesAt w B2 a2 ys) :
    Calls Try.prog 16 #[.slice a1 xs.length c1, .slice a2 ys.length c2] w fun e w' => e = .returned (.bool (xs == ys)) ∧ w = w' := by
  have r1 := run_convert_bytesAt (P := Try.prog) 22 5 9 Try.underlying22 Try.underlying5 Try.underlying9 w B1 a1 c1 xs h1
  have r2 := run_convert_bytesAt (P := Try.prog) 22 5 9 Try.underlying22 Try.underlying5 Try.underlying9 w B2 a2 c2 ys h2
  go_enter Try.func16, Try.ntmps16
  go_wp2
  go_ret
  exact ⟨by rw [strB_toList, strB_toList]; rfl, rfl⟩

theorem byte_info : (Try.prog.info? 5).map (fun i => (i.zero, i.size, i.bytes)) = some (some (.int .u8 0), 1, 1) := by kernel_rfl

/-- A call made this: the value holds the bytes, in memory of the call's own; what was there is as it was. -/
def Made (xs : List UInt8) (w : World) (e : Ending) (w' : World) : Prop :=
  ∃ a cap, e = .returned (.slice a xs.length cap) ∧ (a = none → cap = 0) ∧ OwnB 5 w' w.heap.size (.slice a xs.length cap) xs ∧ BytesAt w' w'.heap.size a xs ∧ Below w.heap.size w w'
theorem Made.of {xs : List UInt8} {w w' : World} {e : Ending} (h : ∃ v, e = .returned v ∧ OwnB 5 w' w.heap.size v xs ∧ Below w.heap.size w w') : Made xs w e w' := by
  obtain ⟨v, he, ho, hb⟩ := h
  obtain ⟨a, cap, rfl, _, _, hc⟩ := ho.at_
  refine ⟨a, cap, he, fun hn => ?_, ho, hc, hb⟩
  subst hn
  rcases ho.2 with ⟨h1, _⟩ | ⟨g, _, _, h1, _⟩
  · injection h1
  · injection h1 with h1; cases h1

theorem clone_any (B : Nat) (a : Option Addr) (c : Nat) (xs : List UInt8) (w : World) (h : BytesAt w B a xs) (hB : B ≤ w.heap.size) (hc : a = none → c = 0) (hl : xs.length ≤ 140737488355328) :
    Calls Try.prog 15 #[.slice a xs.length c] w (Made xs w) := by
  obtain ⟨i0, hi, hz0, hz1, hz2⟩ := info_parts byte_info
  have heq := fun W : World => Lib.run_eql_slice_nil (P := Try.prog) W 22 5 a xs.length c 0 0 Try.underlying22
  cases a with
  | none =>
    have h0 : xs = [] := h.none_cap rfl
    have hc0 := hc rfl
    subst h0 hc0
    clear h hc heq
    have heq := fun W : World => Lib.run_eql_slice_nil (P := Try.prog) W 22 5 none 0 0 0 0 Try.underlying22
    show Calls Try.prog 15 #[.slice none 0 0] w (Made [] w)
    go_enter Try.func15, Try.ntmps15
    go_wp2
    go_ret
    exact Made.of ⟨_, rfl, World.ownsRow_nil _ _ _ _, Below.refl _ _⟩
  | some ad =>
    have HX := Lib.hid (h.alloc hB (.cells #[] 5))
    clear h hc
    have HL := Lib.hid hl
    go_enter Try.func15, Try.ntmps15
    go_wp2_with (at_builtin; refine wpList_append_bytes rfl _ _ 22 rfl w.heap.size 5 i0 Try.underlying22 hi hz0 hz1 hz2 _ [] rfl ?c1 B _ c xs rfl HX.out ?c2 ?c3 ?c4 ?c5)
    case c1 => exact OwnB.lit [] (Nat.le_refl _) (by simp)
    case c2 => intro hh; cases hh
    case c3 => have := HL.out; simp; omega
    case c4 => simp
    case c5 =>
      intro v' w' hown hg _
      have HO := Lib.hid hown
      clear hown
      go_wp2
      go_ret
      exact Made.of ⟨v', rfl, HO.out, ((Below.refl _ _).alloc (Nat.le_refl _) _).grown hg (by simp) (by simp [Value.ownBlock])⟩
end Go.Proofs.Ytfoofjhoajbbbaa.Nm
