/- The check that the statements of layer 4 make of an ordinary framer, and the walk of FrameNobody. -/
import Derived.Test.YtlffnhfnbdpghaaFrameC
namespace Go.Proofs.Ytlffnhfnbdpghaa.Fr
open Go.RowKit Go By Nm

theorem rest_lt {w : World} {g lo : Nat} {typed : Bool} {most room : Int} {xs : List UInt8} {wrong : Int} (h : Framer w g lo typed most room xs wrong) : ∀ r, Rest w g r → ∀ k, r = some k → k < w.heap.size := by
  obtain ⟨v, hb, hv, _⟩ := h
  rintro r ⟨u, hu, hr⟩ k hk
  rw [hb.cell 3 _ rfl] at hu
  injection hu with hu
  subst hu
  exact (hv.block k (hr.trans hk)).2
/-- No message yet. -/
def Early (g lo : Nat) (w : World) (e : Ending) (w' : World) : Prop :=
  e = .returned (.tuple #[.agg #[.int .u8 0, .slice none 0 0], .bool false, .int .i64 0]) ∧ Framer w' g lo true 100 200 [83, 0, 0] 0 ∧ Only g w w'
theorem next_early (g lo : Nat) (w : World) (h : Framer w g lo true 100 200 [83, 0, 0] 0) :
    Calls Try.prog 31 #[.pointer (some ⟨g, 0, none⟩)] w (Early g lo w) :=
  (next_no g lo true 100 200 [83, 0, 0] 0 w h (by omega) (by simp) (.inl rfl) (.inl rfl)).mono fun e w' ⟨he, hf, ho, _⟩ => ⟨he, hf, ho⟩
/-- The message S, and nothing is left. -/
def Late (g lo : Nat) (w : World) (e : Ending) (w' : World) : Prop :=
  ∃ a c, e = .returned (.tuple #[.agg #[.int .u8 83, .slice a 0 c], .bool true, .int .i64 0]) ∧ Framer w' g lo true 100 200 [] 0 ∧ Only g w w'
theorem next_late (g lo : Nat) (w : World) (h : Framer w g lo true 100 200 [83, 0, 0, 0, 4] 0) :
    Calls Try.prog 31 #[.pointer (some ⟨g, 0, none⟩)] w (Late g lo w) :=
  (next_yes g lo true 100 200 [83, 0, 0, 0, 4] 5 w h (by omega) (by simp) (by decide) (by omega) (by simp) w.heap.size (Nat.le_refl _) (rest_lt h)).mono fun e w' ⟨a, c, he, _, _, _, _, hf, ho, _⟩ => ⟨a, c, he, hf, ho⟩

set_option maxHeartbeats 1000000 in
theorem awake_any (w : World) : Calls Try.prog 24 #[] w fun e w' => e = .returned (.bool true) ∧ Below w.heap.size w w' := by
  go_enter Try.func24, Try.ntmps24
  go_wp2_with fail
  refine (new_any 100 200 false _ (by omega) (by omega) (by omega) (by omega)).mono ?_
  rintro e w1 ⟨g, rfl, hg, hf, hs⟩
  have HG := Lib.hid hg
  have F1 := Lib.hid hf
  have B1 := Lib.hid hs.below
  clear hg hf hs
  go_wp2_with fail
  refine (feed_yes g w1.heap.size true 100 200 [] 0 (w1.heap.size + 1) (some ⟨w1.heap.size, 0, none⟩) 3 3 [83, 0, 0] _ (F1.out.still ((Still.refl _).alloc _)) (by omega) (BytesAt.lit (E := 5) w1 [83, 0, 0] (Nat.lt_succ_self _)) (fun h => by cases h) (by simp) (by omega) (by simp) rfl).mono ?_
  rintro e w2 ⟨rfl, hf, hm, _⟩
  have F2 := Lib.hid hf
  have B2 := Lib.hid ((B1.out.alloc B1.out.size _).trans (hm.below B1.out.size HG.out))
  have S2 : Hid (w1.heap.size ≤ w2.heap.size) := Lib.hid (by have := hm.size; simp at this; omega)
  clear hf hm
  go_wp2_with fail
  refine (next_early g _ _ F2.out).mono ?_
  rintro e w3 ⟨rfl, hf, ho⟩
  have F3 := Lib.hid hf
  have B3 := Lib.hid (ho.below B2.out B2.out.size HG.out)
  have hlo : Hid (w1.heap.size ≤ w3.heap.size) := Lib.hid (by have := S2.out; have := ho.size; omega)
  have hl2 : Hid (∀ O, BytesAt ((w3.alloc O).alloc (.cells #[.int .u8 0, .int .u8 4] 5)) (w3.heap.size + 2) (some ⟨w3.heap.size + 1, 0, none⟩) [0, 4]) := Lib.hid fun O => by
    have h := BytesAt.lit (E := 5) (w3.alloc O) [0, 4] (B := w3.heap.size + 2) (by simp)
    rw [World.size_alloc] at h
    exact h
  clear hf ho
  go_wp2_with fail
  refine (feed_yes g w1.heap.size true 100 200 [83, 0, 0] 0 (w3.heap.size + 2) (some ⟨w3.heap.size + 1, 0, none⟩) 2 2 [0, 4] _ (F3.out.still (((Still.refl _).alloc _).alloc _)) (by omega) (hl2.out _) (fun h => by cases h) (by simp) (by omega) (by have := hlo.out; simp; omega) rfl).mono ?_
  rintro e w4 ⟨rfl, hf, hm, _⟩
  have F4 := Lib.hid hf
  have B4 := Lib.hid ((((B3.out.alloc B3.out.size _)).alloc (by have := B3.out.size; simp; omega) _).trans (hm.below B1.out.size HG.out))
  clear hf hm
  go_wp2_with fail
  refine (next_late g _ _ F4.out).mono ?_
  rintro e w5 ⟨a5, c5, rfl, hf, ho⟩
  have F5 := Lib.hid hf
  have B5 := Lib.hid (ho.below B4.out B4.out.size HG.out)
  clear hf ho
  go_wp2_with (go_at_call 29; refine (size_yes g _ true 100 200 [] 0 _ (F5.out.still ((Still.refl _).alloc _)) (by omega) 0 rfl).mono ?_; rintro e w' ⟨rfl, rfl⟩)
  go_ret
  exact ⟨rfl, B5.out.alloc B5.out.size _⟩

set_option maxHeartbeats 1000000 in
theorem frameNobody_walk (a0 : Option Addr) (len0 cap0 : Nat) (z0 : List Int) (w : World) (_ : Row w a0 len0 cap0 z0) :
    Calls Try.prog 8 #[.slice a0 len0 cap0] w fun e w' => e = .returned (.bool true) ∧ Below w.heap.size w w' := by
  have HZ : Hid (Zero (w.alloc (.cells #[.bool false, .int .i64 0, .int .i64 0, .slice none 0 0, .int .i64 0] 58)) w.heap.size) := Blk.new w _ [.bool false, .int .i64 0, .int .i64 0, .slice none 0 0, .int .i64 0]
  go_enter Try.func8, Try.ntmps8
  go_wp2_with fail
  refine (begin_nil _).mono ?_
  rintro e w' ⟨rfl, rfl⟩
  go_wp2_with fail
  refine (begin_zero _ _ HZ.out).mono ?_
  rintro e w' ⟨rfl, rfl⟩
  go_wp2_with fail
  refine (next_nil _).mono ?_
  rintro e w1 ⟨rfl, hs⟩
  have S1 := Lib.hid hs
  clear hs
  go_wp2_with fail
  refine (peek_zero w.heap.size _ (HZ.out.still (S1.out.alloc _))).mono ?_
  rintro e w2 ⟨rfl, hs⟩
  have S2 := Lib.hid ((S1.out.alloc _).trans hs)
  clear hs
  go_wp2_with fail
  refine (feed_nil _ _ _ _).mono ?_
  rintro e w' ⟨rfl, rfl⟩
  go_wp2_with fail
  refine (feed_zero _ _ _ _ _ (HZ.out.still (S2.out.alloc _))).mono ?_
  rintro e w' ⟨rfl, rfl⟩
  go_wp2_with fail
  refine (size_nil _).mono ?_
  rintro e w' ⟨rfl, rfl⟩
  go_wp2_with fail
  refine (size_zero _ _ (HZ.out.still (S2.out.alloc _))).mono ?_
  rintro e w' ⟨rfl, rfl⟩
  go_wp2_with (go_at_call 24; refine (awake_any _).mono ?_; rintro e w3 ⟨rfl, hb⟩)
  go_ret
  refine ⟨rfl, ?_⟩
  have hS := (((Still.refl w).alloc _).trans (S2.out.alloc (.cells #[.int .u8 0, .slice none 0 0] 49))).below
  exact hS.trans (hb.mono hS.size)
end Go.Proofs.Ytlffnhfnbdpghaa.Fr
