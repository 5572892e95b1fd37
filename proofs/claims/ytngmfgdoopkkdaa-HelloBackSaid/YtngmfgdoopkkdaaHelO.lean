/- The walk of HelloBuilds. -/
import Derived.Test.YtngmfgdoopkkdaaHelN
namespace Go.Proofs.Ytngmfgdoopkkdaa.He
set_option maxRecDepth 100000
open Go.RowKit Go By Nm Sc

/-- A first message that came in. -/
theorem open_hello {H : Type} {enc : TypeId × Value → H} {w : World} {base : Nat} {held : Bool} {fs : Array Field} {cs : List Value} (hu : Try.prog.underlying 26 = some (.struct fs)) (h : Reads enc Try.prog w base held fs cs) :
    ∃ (c p q : Int) (a : Option Addr) (k : Nat) (ps : List Pr), cs.toArray = #[.int .i64 c, .int .i64 p, .int .i64 q, .slice a ps.length k] ∧ Elems w w.heap.size a 2 (prE ps) := by
  rw [Try.underlying26] at hu
  injection hu with hu
  injection hu with hu
  subst hu
  obtain ⟨c, e0, _⟩ := h.int 0 _ rfl Try.underlying3
  obtain ⟨p, e1, _⟩ := h.int 1 _ rfl Try.underlying3
  obtain ⟨q, e2, _⟩ := h.int 2 _ rfl Try.underlying3
  obtain ⟨a, len, k, es, e3, hlen, hE, _, _, _, hR⟩ := h.elems 3 _ rfl Try.underlying24 Try.underlying55 (by kernel_rfl) (by kernel_rfl) (by decide)
  obtain ⟨bs, rfl, _⟩ := texts_of (f0 := _) (f1 := _) rfl rfl rfl Try.underlying9 Try.underlying9 hR
  have hl : cs.length = 4 := h.1
  refine ⟨c, p, q, a, k, bs.map fun b => (b.1.data.toList, b.2.data.toList), ?_, ?_⟩
  · match cs, hl with
    | [x0, x1, x2, x3], _ =>
      simp at e0 e1 e2 e3 hlen
      subst e0 e1 e2 e3
      simp [hlen]
  · have e : prE (bs.map fun b => (b.1.data.toList, b.2.data.toList)) = bs.map fun p => [.string p.1, .string p.2] := by
      simp [prE, strB_of]
    rw [e]
    exact hE

def Four (b : Nat) (c p q : Int) (v : Value) (W : World) : Prop :=
  W.cell? ⟨b, 0, none⟩ = some (.int .i64 c) ∧ W.cell? ⟨b, 1, none⟩ = some (.int .i64 p) ∧ W.cell? ⟨b, 2, none⟩ = some (.int .i64 q) ∧ W.cell? ⟨b, 3, none⟩ = some v
theorem Four.below {b : Nat} {c p q : Int} {v : Value} {W W' : World} {B : Nat} (h : Four b c p q v W) (hb : Below B W W') (h1 : b < B) : Four b c p q v W' := by
  obtain ⟨k0, k1, k2, k3⟩ := h
  exact ⟨(hb.cell h1).trans k0, (hb.cell h1).trans k1, (hb.cell h1).trans k2, (hb.cell h1).trans k3⟩
theorem built_same {m : Hm} {w w' : World} {e : Ending} (h : Built m w e w') : ∃ a k, e = .returned (.tuple #[.slice a (if mayB m then buildB m else []).length k, .int .i64 (if mayB m then 0 else 1)]) ∧ BytesAt w' w'.heap.size a (if mayB m then buildB m else []) ∧ (a = none → k = 0) ∧ Below w.heap.size w w' := by
  obtain ⟨a, k, er, l, rfl, hy, hn, hx, hc, _, _, hb⟩ := h
  cases hm : mayB m with
  | true => obtain ⟨rfl, rfl⟩ := hy hm; exact ⟨a, k, rfl, hx, hc, hb⟩
  | false => obtain ⟨rfl, rfl⟩ := hn hm; exact ⟨a, k, rfl, hx, hc, hb⟩
theorem few_len {ps : List Pr} (h : Few ps) (n : Nat) (hn : ps.length = n) : ∀ t, t < n → (ps.getD t ([], [])).1.length ≤ 4294967296 ∧ (ps.getD t ([], [])).2.length ≤ 4294967296 := fun t ht => by
  have := h.2 t (by omega)
  omega

set_option maxHeartbeats 4000000 in
theorem helloBuilds_walk {H : Type} {enc : TypeId × Value → H} {base : Nat} {held : Bool} {fs : Array Field} (cs : List Value) (w : World) (h : Reads enc Try.prog w base held fs cs) (hu : Try.prog.underlying 26 = some (.struct fs) := by exact Try.underlying26) :
    Calls Try.prog 4 #[.agg cs.toArray] w fun e w' => e = .returned (.bool true) ∧ Below w.heap.size w w' := by
  obtain ⟨c, p, q, a, k, ps, hcs, hE⟩ := open_hello hu h
  rw [hcs]
  clear h hu hcs cs
  have HE := Lib.hid hE
  obtain ⟨n, HN⟩ : ∃ n, Hid (ps.length = n) := ⟨_, rfl⟩
  rw [HN.out]
  have hS : Below w.heap.size w (w.alloc (.cells #[.int .i64 c, .int .i64 p, .int .i64 q, .slice a n k] 26)) := (Below.refl _ _).alloc (Nat.le_refl _) _
  have HS := Lib.hid hS
  have HK := Lib.hid (Blk.new w 26 [.int .i64 c, .int .i64 p, .int .i64 q, .slice a n k])
  have HFew := Lib.hid (few_any c p q w.heap.size a n k ps (w.alloc (.cells #[.int .i64 c, .int .i64 p, .int .i64 q, .slice a n k] 26)) (hE.below hS) (by simp) HN.out)
  clear hE hS
  go_enter Try.func4, Try.ntmps4
  go_wp2_with fail
  refine HFew.out.mono ?_
  rintro e w2 ⟨r, rfl, hfew, hb2⟩
  have HB2 := Lib.hid (HS.out.trans (hb2.mono (by simp)))
  have HK2 := Lib.hid (HK.out.keep (hb2.block _ (by simp)))
  have hz2 : w.heap.size + 1 ≤ w2.heap.size := by have := hb2.size; simpa using this
  have m0 := HK2.out.cell 0 _ rfl
  have m1 := HK2.out.cell 1 _ rfl
  have m2 := HK2.out.cell 2 _ rfl
  have m3 := HK2.out.cell 3 _ rfl
  have HFw := Lib.hid hfew
  clear hfew hb2
  cases r with
  | false =>
    go_wp2_with (go_at_call 9; refine (hawake_any _).mono ?_; rintro e w' ⟨rfl, hb⟩)
    go_ret
    exact ⟨rfl, HB2.out.trans (hb.mono HB2.out.size)⟩
  | true =>
    have hf := HFw.out rfl
    have hlen := hf.1
    rw [HN.out] at hlen
    have HLen := Lib.hid hf.bytes
    have HZs := Lib.hid (few_len hf n HN.out)
    clear hf
    obtain ⟨x, HX⟩ : ∃ x, Hid ((if mayB (c, p, q, ps) then buildB (c, p, q, ps) else []) = x) := ⟨_, rfl⟩
    obtain ⟨er, HEr⟩ : ∃ x : Int, Hid ((if mayB (c, p, q, ps) then (0 : Int) else 1) = x) := ⟨_, rfl⟩
    obtain ⟨lx, HLx⟩ : ∃ l, Hid (x.length = l) := ⟨_, rfl⟩
    go_wp2_with fail
    refine (hbuild_any c p q w.heap.size a n k ps w2 (HE.out.below HB2.out) HB2.out.size HN.out (by omega) (by have := HLen.out; omega)).mono ?_
    rintro e w3 hb
    obtain ⟨a3, k3, rfl, hx3, hn3, hb3⟩ := built_same hb
    rw [HX.out, HEr.out, HLx.out]
    rw [HX.out] at hx3
    have HX3 := Lib.hid hx3
    have HK3 := Lib.hid (HK2.out.keep (hb3.block _ (by omega)))
    have HB3 := Lib.hid (HB2.out.trans (hb3.mono HB2.out.size))
    have hz3 : w.heap.size + 1 ≤ w3.heap.size := Nat.le_trans hz2 hb3.size
    have p0 := HK3.out.cell 0 _ rfl
    have p1 := HK3.out.cell 1 _ rfl
    have p2 := HK3.out.cell 2 _ rfl
    have p3 := HK3.out.cell 3 _ rfl
    clear hb hx3 hn3 hb3 m0 m1 m2 m3
    go_wp2_with fail
    refine (rhbuild_any c p q w.heap.size a n k ps w3 (HE.out.below HB3.out) HB3.out.size HN.out (by omega) (by have := HLen.out; omega) HZs.out).mono ?_
    rintro e w5 hb
    obtain ⟨a5, k5, rfl, hx5, hn5, hb5⟩ := built_same hb
    rw [HX.out, HEr.out, HLx.out]
    rw [HX.out] at hx5
    have HX5 := Lib.hid (And.intro hx5 (HX3.out.below hb5))
    have HK5 := Lib.hid (HK3.out.keep (hb5.block _ (by omega)))
    have HB5 := Lib.hid (HB3.out.trans (hb5.mono HB3.out.size))
    have hz5 : w.heap.size + 1 ≤ w5.heap.size := Nat.le_trans hz3 hb5.size
    have HT : Hid (Four w.heap.size c p q (.slice a n k) w5) := Lib.hid ⟨HK5.out.cell 0 _ rfl, HK5.out.cell 1 _ rfl, HK5.out.cell 2 _ rfl, HK5.out.cell 3 _ rfl⟩
    clear hb hx5 hn5 hb5 p0 p1 p2 p3
    go_wp2_with fail
    obtain ⟨q0, q1, q2, q3⟩ := HT.out
    go_region_held3 (fun W => W.cell? ⟨w.heap.size, 0, none⟩ = some (.int .i64 c) ∧ W.cell? ⟨w.heap.size, 1, none⟩ = some (.int .i64 p) ∧ W.cell? ⟨w.heap.size, 2, none⟩ = some (.int .i64 q) ∧ W.cell? ⟨w.heap.size, 3, none⟩ = some (.slice a n k))
      (first
        | exact HT.out
        | exact T7.out
        | exact T8.out
        | exact T9.out)
      (first
        | (go_at_call 18; refine (equal_yes w3.heap.size w5.heap.size a3 a5 lx k3 k5 x w5.drew HX5.out.2.drew HX5.out.1.drew HLx.out).mono ?_; rintro e w' ⟨rfl, rfl⟩)
        | (go_at_call 13; refine (huser_any c p q w.heap.size a n k ps w5.drew (HE.out.below HB5.out.drew) HB5.out.size HN.out (by omega)).mono ?_; rintro e w7 ⟨rfl, hb⟩; have hb7 : Below w5.heap.size w5 w7 := ⟨hb.os, hb.tape, hb.output, hb.size, hb.block⟩; have T7 := Lib.hid (Four.below HT.out hb7 (by omega)); have B7 := Lib.hid (HB5.out.trans (hb7.mono HB5.out.size)); have Z7 : Hid (w.heap.size + 1 ≤ w7.heap.size) := Lib.hid (Nat.le_trans hz5 hb7.size); clear hb hb7)
        | (go_at_call 14; refine (ruser_any c p q w.heap.size a n k ps w7 (HE.out.below B7.out) B7.out.size HN.out (by omega)).mono ?_; rintro e w8 ⟨rfl, hb8⟩; have T8 := Lib.hid (Four.below T7.out hb8 (by have := Z7.out; omega)); have B8 := Lib.hid (B7.out.trans (hb8.mono B7.out.size)); have Z8 : Hid (w.heap.size + 1 ≤ w8.heap.size) := Lib.hid (Nat.le_trans Z7.out hb8.size); clear hb8)
        | (go_at_call 9; refine (hawake_any w8).mono ?_; rintro e w9 ⟨rfl, hb9⟩; have T9 := Lib.hid (Four.below T8.out hb9 (by have := Z8.out; omega)); have B9 := Lib.hid (B8.out.trans (hb9.mono B8.out.size)); clear hb9))
    go_wp2
    go_ret
    exact ⟨rfl, B9.out⟩
end Go.Proofs.Ytngmfgdoopkkdaa.He
