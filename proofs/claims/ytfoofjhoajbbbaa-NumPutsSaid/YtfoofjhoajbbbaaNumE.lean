/- The contract of the check that the statements of layer 1 make of an ordinary answer (remudalaw01.awake): it is true, and writes nothing that was there. -/
import Derived.Test.YtfoofjhoajbbbaaNumD
namespace Go.Proofs.Ytfoofjhoajbbbaa.Nm
open Go.RowKit Go By

theorem get_258 (w : World) : Calls Try.prog 9 #[.slice (some ⟨w.heap.size, 0, none⟩) 3 3, .int .i64 1, .int .i64 2] (w.alloc (.cells #[.int .u8 9, .int .u8 1, .int .u8 2] 5))
    fun e w' => e = .returned (.tuple #[.int .i64 258, .int .i64 0]) ∧ (w.alloc (.cells #[.int .u8 9, .int .u8 1, .int .u8 2] 5)) = w' :=
  get_any (w.heap.size + 1) (some ⟨w.heap.size, 0, none⟩) 3 [9, 1, 2] 1 2 _ (by simp) (BytesAt.lit (E := 5) w [9, 1, 2] (Nat.lt_succ_self _))
theorem put_255 (w : World) : Calls Try.prog 17 #[.slice none 0 0, .int .i64 (-1), .int .i64 2] w (Made [255, 255] w) :=
  put_any w.heap.size none 0 [] (-1) 2 w BytesAt.nil (Nat.le_refl _) (fun _ => rfl) (by simp)
theorem signed_m1 (w : World) : Calls Try.prog 11 #[.int .i64 65535, .int .i64 2] w fun e w' => e = .returned (.int .i64 (-1)) ∧ w = w' := signed_any 65535 2 w

theorem equal_ff (w : World) (a : Option Addr) (c : Nat) (h : BytesAt w w.heap.size a [255, 255]) :
    Calls Try.prog 16 #[.slice a 2 c, .slice (some ⟨w.heap.size, 0, none⟩) 2 2] (w.alloc (.cells #[.int .u8 255, .int .u8 255] 5))
      fun e w' => e = .returned (.bool true) ∧ (w.alloc (.cells #[.int .u8 255, .int .u8 255] 5)) = w' :=
  equal_any w.heap.size (w.heap.size + 1) a (some ⟨w.heap.size, 0, none⟩) c 2 [255, 255] [255, 255] _ (h.alloc (Nat.le_refl _) _) (BytesAt.lit (E := 5) w [255, 255] (Nat.lt_succ_self _))

set_option maxHeartbeats 400000 in
theorem awake_any (w : World) : Calls Try.prog 8 #[] w fun e w' => e = .returned (.bool true) ∧ Below w.heap.size w w' := by
  go_enter Try.func8, Try.ntmps8
  go_wp2_with (first
    | (go_at_call 9; refine (get_258 _).mono ?_; rintro e w' ⟨rfl, rfl⟩)
    | (go_at_call 17; refine (put_255 _).mono ?_; rintro e w2 ⟨a2, c2, rfl, hc2, ho2, hy2, hb2⟩; have HY := Lib.hid hy2; have HB := Lib.hid hb2; clear hc2 ho2 hy2 hb2)
    | (go_at_call 16; refine (equal_ff w2 a2 c2 HY.out).mono ?_; rintro e w3 ⟨rfl, rfl⟩)
    | (go_at_call 11; refine (signed_m1 _).mono ?_; rintro e w4 ⟨rfl, rfl⟩))
  go_ret
  exact ⟨rfl, (((Below.refl _ _).alloc (Nat.le_refl _) _).trans (HB.out.mono (by simp))).alloc (by have := HB.out.size; simp at this; omega) _⟩
end Go.Proofs.Ytfoofjhoajbbbaa.Nm
