/- What the walk of FramePieces wants: pieces of bytes, a framer beside other memory, HasPrefix. -/
import Derived.Test.YtlffnhfnbdpghaaFrameI
namespace Go.Proofs.Ytlffnhfnbdpghaa.Fr
open Go.RowKit Go By Nm

/-- A new framer, cell by cell. -/
def NewBlk (w : World) (e : Ending) (w' : World) : Prop :=
  ∃ g, e = .returned (.tuple #[.pointer (some ⟨g, 0, none⟩), .int .i64 0]) ∧ w.heap.size ≤ g ∧ Blk w' g 58 [.bool true, .int .i64 2000, .int .i64 4000, .slice none 0 0, .int .i64 0] ∧ Still w w'
theorem new_blk (w : World) : Calls Try.prog 25 #[.int .i64 2000, .int .i64 4000, .bool false] w (NewBlk w) := by
  have HK : Hid (NewBlk w (.returned (.tuple #[.pointer (some ⟨w.heap.size, 0, none⟩), .int .i64 0])) (w.alloc (.cells #[.bool true, .int .i64 2000, .int .i64 4000, .slice none 0 0, .int .i64 0] 58))) :=
    ⟨_, rfl, Nat.le_refl _, Blk.new w _ [.bool true, .int .i64 2000, .int .i64 4000, .slice none 0 0, .int .i64 0], (Still.refl w).alloc _⟩
  go_enter Try.func25, Try.ntmps25
  go_wp2
  go_ret2
  exact HK.out

/-- A piece of bytes, in whatever world. -/
theorem cut_part (a : Option Addr) (c : Nat) (xs : List UInt8) (t k : Nat) (hI : Int) (hc0 : a = none → c = 0) (hl : xs.length ≤ c) (hm : c ≤ maxLen) (htk : t + k ≤ xs.length) (he : hI = ((t + k : Nat) : Int)) :
    ∃ A C, (∀ W : World, (Instr.slice 22 (.slice a xs.length c) (some (.int .i64 t)) (some (.int .i64 hI)) none).run Try.prog W = .ok (.slice A k C) W) ∧ (∀ (W : World) (B : Nat), BytesAt W B a xs → BytesAt W B A ((xs.drop t).take k)) ∧ (A = none → C = 0) := by
  subst he
  refine ⟨if c = t then a else a.map (·.add (t * 1)), c - t, fun W => ?_, fun W B h => ?_, fun hh => ?_⟩
  · rw [run_slice_lh W 22 a xs.length c (by kernel_rfl) .i64 .i64 t ((t + k : Nat) : Int) (by omega) (by omega) (by omega), Sc.elem_bytes, Sc.size_byte]
    simp only [Result.andThen, Int.toNat_natCast]
    show Result.ok (Value.slice _ (t + k - t) (c - t)) W = _
    rw [Nat.add_sub_cancel_left]
  · obtain ⟨A, C, e, hb, _⟩ := sliced_bytes (l := t) (h := t + k) (m := c) h (by omega) htk (by omega) hc0 hm
    injection e with e1 e2 e3
    rw [← e1, List.drop_take, Nat.add_sub_cancel_left] at hb
    exact hb
  · cases a with
    | none => have := hc0 rfl; omega
    | some ad => split at hh <;> cases hh
theorem cut_tail (a : Option Addr) (c : Nat) (xs : List UInt8) (t : Nat) (hc0 : a = none → c = 0) (hl : xs.length ≤ c) (hm : c ≤ maxLen) (ht : t ≤ xs.length) :
    ∃ A C, (∀ W : World, (Instr.slice 22 (.slice a xs.length c) (some (.int .i64 t)) none none).run Try.prog W = .ok (.slice A (xs.length - t) C) W) ∧ (∀ (W : World) (B : Nat), BytesAt W B a xs → BytesAt W B A (xs.drop t)) ∧ (A = none → C = 0) := by
  refine ⟨if c = t then a else a.map (·.add (t * 1)), c - t, fun W => ?_, fun W B h => ?_, fun hh => ?_⟩
  · rw [run_slice_l W 22 a xs.length c (by kernel_rfl) .i64 t (by omega) (by omega), Sc.elem_bytes, Sc.size_byte]
    simp only [Result.andThen, Int.toNat_natCast]
    rfl
  · obtain ⟨A, C, e, hb, _⟩ := sliced_bytes (l := t) (h := xs.length) (m := c) h ht (Nat.le_refl _) hl hc0 hm
    injection e with e1 e2 e3
    rw [← e1, List.take_length] at hb
    exact hb
  · cases a with
    | none => have := hc0 rfl; omega
    | some ad => split at hh <;> cases hh

/-- One piece more: what was taken so far, and what is left. -/
theorem piece_more {xs : List UInt8} {t c k n : Nat} (hc : c ≤ t) (ht : t + k ≤ xs.length) (hr : Run (xs.take t) c) (hn : Run ((xs.take t).drop c ++ (xs.drop t).take k) n) :
    Run (xs.take (t + k)) (c + n) ∧ c + n ≤ t + k ∧ xs.take c ++ ((xs.take t).drop c ++ (xs.drop t).take k).take n = xs.take (c + n) ∧ ((xs.take t).drop c ++ (xs.drop t).take k).drop n = (xs.take (t + k)).drop (c + n) := by
  have hz : xs.take (t + k) = xs.take t ++ (xs.drop t).take k := List.take_add
  have htl : (xs.take t).length = t := by rw [List.length_take]; omega
  have hR : Run (xs.take (t + k)) (c + n) := by rw [hz]; exact hr.append hn
  have hle : c + n ≤ t + k := by have := hR.le; rw [List.length_take] at this; omega
  have hd : (xs.take t).drop c ++ (xs.drop t).take k = (xs.take (t + k)).drop c := by
    rw [hz, List.drop_append_of_le_length (by omega)]
  refine ⟨hR, hle, ?_, ?_⟩
  · rw [hd]
    have e1 : xs.take c = (xs.take (t + k)).take c := by rw [List.take_take, Nat.min_eq_left (by omega)]
    have e2 : xs.take (c + n) = (xs.take (t + k)).take (c + n) := by rw [List.take_take, Nat.min_eq_left hle]
    rw [e1, e2]
    generalize xs.take (t + k) = Z
    exact List.take_add.symm
  · rw [hd, List.drop_drop]

theorem held_bytes {w : World} {lo : Nat} {a : Option Addr} {n c : Nat} {xs : List UInt8} (h : Held w lo (.slice a n c) xs) : BytesAt w w.heap.size a xs := by
  obtain ⟨a', c', e, hb, _⟩ := h.form
  injection e with e1 e2 e3
  rw [e1]; exact hb
/-- A framer beside an append to memory of another block. -/
theorem Framer.grown {w w' : World} {g lo : Nat} {typed : Bool} {most room : Int} {xs : List UInt8} {wrong : Int} (h : Framer w g lo typed most room xs wrong) {r row : Option Nat} (hr : Rest w g r) (hg : w.grownBy w' row) (hn : row ≠ some g) (hrn : ∀ k, r = some k → row ≠ some k) : Framer w' g lo typed most room xs wrong ∧ Rest w' g r := by
  obtain ⟨v, hk, hv, hl⟩ := h
  have hb := hg.block g hk.lt (fun e => hn e.symm)
  have e := hr.unique ⟨v, hk.cell 3 _ rfl, rfl⟩
  refine ⟨⟨v, hk.keep hb, hv.keep hg.size fun k hk' => hg.block k (hv.block k hk').2 (fun e2 => hrn k (e.trans hk') e2.symm), hl⟩, v, (hk.keep hb).cell 3 _ rfl, e.symm⟩
/-- A framer beside another one, of which all is done from L on. -/
theorem Framer.beside {w w' : World} {g g2 lo L : Nat} {typed : Bool} {most room : Int} {xs : List UInt8} {wrong : Int} (h : Framer w g lo typed most room xs wrong) (hm : Mine g2 L w w') (hL : w.heap.size ≤ L) (hn : g ≠ g2) (h2 : g2 < lo) : Framer w' g lo typed most room xs wrong := by
  obtain ⟨v, hk, hv, hl⟩ := h
  exact ⟨v, hk.keep (hm.block g (by have := hk.lt; omega) hn), hv.keep hm.size fun k hk' => hm.block k (by have := (hv.block k hk').2; omega) (by have := (hv.block k hk').1; omega), hl⟩
theorem Mine.of_grown {g L : Nat} {w w' : World} {row : Option Nat} (h : w.grownBy w' row) (hL : L ≤ w.heap.size) (hr : ∀ k, row = some k → L ≤ k) : Mine g L w w' :=
  ⟨h.os, h.tape, h.output, h.size, fun k hk _ => h.block k (by omega) (fun e => by have := hr k e.symm; omega)⟩

set_option maxHeartbeats 400000 in
theorem prefix_yes (B1 B2 : Nat) (a a2 : Option Addr) (c c2 n len : Nat) (xs : List UInt8) (w : World) (h1 : BytesAt w B1 a xs) (hc0 : a = none → c = 0) (hlc : xs.length ≤ c) (hm : c ≤ maxLen) (h2 : BytesAt w B2 a2 (xs.take n)) (hn : n ≤ xs.length) (hlen : xs.length = len) :
    Calls Try.prog 28 #[.slice a len c, .slice a2 n c2] w fun e w' => e = .returned (.bool true) ∧ w = w' := by
  obtain ⟨A, hs, hA, _⟩ := cut_heads a c xs n hc0 hlc hm hn
  have H1 := Lib.hid (hA w B1 h1)
  have H2 := Lib.hid h2
  have HN : Hid ((xs.take n).length = n) := Lib.hid (by rw [List.length_take]; omega)
  have hn' : n ≤ len := by omega
  rw [hlen] at hs
  clear h1 hc0 hlc hm h2 hn hlen hA
  go_enter Try.func28, Try.ntmps28
  go_wp2_with (go_at_call 16; refine (equal_n B1 B2 A a2 n c c2 (xs.take n) _ H1.out H2.out HN.out).mono ?_; rintro e w' ⟨rfl, rfl⟩)
  go_ret
  exact ⟨rfl, rfl⟩
end Go.Proofs.Ytlffnhfnbdpghaa.Fr
