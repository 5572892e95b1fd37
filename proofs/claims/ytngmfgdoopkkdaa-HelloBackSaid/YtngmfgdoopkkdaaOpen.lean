/- Arguments opened: slices of bytes, slices of pairs of numbers, messages by value. No program is named here. -/
import Derived.Test.YtngmfgdoopkkdaaBytes
import Derived.Deep.Slices
import Derived.Deep.Fields
import Derived.ChangeSame
import Derived.ProofKit
import Derived.OpenShut
import Derived.ShutString
import Derived.ChangeOld
import Derived.Lib.SmallJoins
namespace Go.Proofs.Ytngmfgdoopkkdaa.By
open Go.RowKit Go.Deep Go.ChangeShapes Go.WideShapes Go.ChangeAt Go.Joins Go

section
variable {H : Type} {enc : TypeId × Value → H} {P : Program} {w : World} {base : Nat} {spare : Nat → Bool} {held : Bool}

/-- A slice of bytes that is read as such. -/
theorem row_of_trod {t e : TypeId} {fuel : Nat} {v : Value} {x : DataW H × List MemPlace} (ht : P.underlying t = some (.slice e)) (he : P.underlying e = some (.int .u8)) (hc : P.cellsOf e = 1)
    (h : DataW.trod enc P w base (fun _ => true) held fuel t [v] = some x) : ∃ a len cap zs, v = .slice a len cap ∧ Row w a len cap zs := by
  rcases open_ints ht he hc h with ⟨hcs, _⟩ | ⟨a, l, c, zs, hcs, _, hl, hm, hz, _, hcell, hwz⟩
  · simp at hcs
    exact ⟨_, _, _, [], hcs, .inl ⟨rfl, rfl, rfl, rfl⟩⟩
  · simp at hcs
    exact ⟨_, _, _, zs, hcs, .inr ⟨a, rfl, hl, hm, by simpa using hz, hcell, hwz⟩⟩
/-- .. as an argument. -/
theorem open_bytes {r : Reach} {b0 : Nat} {t e : TypeId} {v : Value} {d : DataW H} {p : List MemPlace} (ht : P.underlying t = some (.slice e)) (he : P.underlying e = some (.int .u8)) (hc : P.cellsOf e = 1)
    (hv : Value.okWide P w r b0 t v) (h : DataW.Trod enc P w base (fun _ => true) held t v d p) : ∃ a len cap zs, v = .slice a len cap ∧ Row w a len cap zs := by
  obtain ⟨a, len, cap, rfl⟩ := okWide_slice ht hv
  obtain ⟨fuel, hf⟩ := h
  exact row_of_trod ht he hc (by simpa [Value.cells] using hf)

/-- A slice of pairs of numbers that came in. -/
def Pairs (w : World) (a : Option Addr) (len : Nat) (os ns : Nat → Int) : Prop :=
  0 < len → ∃ b off, a = some ⟨b, off, none⟩ ∧ b < w.heap.size ∧ ∀ i, i < len → w.cell? ⟨b, off + i * 2, none⟩ = some (.int .i64 (os i)) ∧ w.cell? ⟨b, off + i * 2 + 1, none⟩ = some (.int .i64 (ns i))
theorem open_pairs {r : Reach} {b0 : Nat} {t e : TypeId} {f0 f1 : Field} {v : Value} {d : DataW H} {p : List MemPlace} (ht : P.underlying t = some (.slice e)) (he : P.underlying e = some (.struct #[f0, f1]))
    (i0 : P.underlying f0.type = some (.int .i64)) (i1 : P.underlying f1.type = some (.int .i64)) (hone : oneCellFields P #[f0, f1] = true) (hC : P.cellsOf e = 2)
    (hv : Value.okWide P w r b0 t v) (h : DataW.Trod enc P w base (fun _ => true) held t v d p) : ∃ a len cap os ns, v = .slice a len cap ∧ Pairs w a len os ns := by
  obtain ⟨a, len, cap, rfl⟩ := okWide_slice ht hv
  obtain ⟨fuel, hf⟩ := h
  rcases open_slice ht hf with ⟨hcs, _⟩ | ⟨a', len', cap', m, n, D, Pl, hcs, _, hl, _, hm, _, hi⟩
  · simp [Value.cells] at hcs
    obtain ⟨rfl, rfl, rfl⟩ := hcs
    exact ⟨_, _, _, fun _ => 0, fun _ => 0, rfl, fun hp => by omega⟩
  · simp [Value.cells] at hcs
    obtain ⟨rfl, rfl, rfl⟩ := hcs
    simp at hm
    have hel : ∀ i, ∃ o n : Int, i < len → w.cell? (a'.add (i * 2)) = some (.int .i64 o) ∧ w.cell? ((a'.add (i * 2)).add 1) = some (.int .i64 n) := by
      intro i
      by_cases hlt : i < len
      · obtain ⟨cs', hc, ht'⟩ := hi i (by omega)
        rw [hC] at hc
        obtain ⟨_, hlen, hat⟩ := World.cells?_some hc
        obtain ⟨ys, n', _, _, _, hyl, hf'⟩ := DataW.trod_struct he ht'
        have hyl2 : ys.length = 2 := hyl
        obtain ⟨o0, k0⟩ := hone_of hone 0 f0 rfl
        obtain ⟨o1, k1⟩ := hone_of hone 1 f1 rfl
        have g0 := hf' 0 f0 rfl
        have g1 := hf' 1 f1 rfl
        rw [o0, k0] at g0
        rw [o1, k1] at g1
        match cs', hlen with
        | [c0, c1], _ =>
          have a0 := hat 0 (by omega)
          have a1 := hat 1 (by omega)
          simp at a0 a1 g0 g1
          cases hy0 : ys[0]? with
          | none => exfalso; rw [List.getElem?_eq_none_iff] at hy0; omega
          | some y0 =>
            cases hy1 : ys[1]? with
            | none => exfalso; rw [List.getElem?_eq_none_iff] at hy1; omega
            | some y1 =>
              rw [hy0] at g0
              rw [hy1] at g1
              obtain ⟨x0, e0, _⟩ := DataW.trod_int i0 g0
              obtain ⟨x1, e1, _⟩ := DataW.trod_int i1 g1
              simp at e0 e1
              subst e0 e1
              exact ⟨x0, x1, fun _ => ⟨by simpa [Addr.add] using a0, a1⟩⟩
      · exact ⟨0, 0, fun hh => absurd hh hlt⟩
    obtain ⟨os, hos⟩ := Classical.axiomOfChoice hel
    obtain ⟨ns, hns⟩ := Classical.axiomOfChoice hos
    refine ⟨_, _, _, os, ns, rfl, fun hp => ?_⟩
    obtain ⟨b, off, spot⟩ := a'
    have h0 := (hns 0 hp).1
    have hs : spot = none := by simpa [Addr.add] using World.cell?_spot h0
    subst hs
    refine ⟨b, off, rfl, ?_, fun i hlt => ?_⟩
    · rw [add_plain] at h0; exact lt_of_cell h0
    · have := hns i hlt
      rw [add_plain, add_plain] at this
      exact this

/-- A message that came in by value: its type and its body. -/
theorem open_msg {r : Reach} {b0 : Nat} {t e : TypeId} {f0 f1 : Field} {v : Value} {d : DataW H} {p : List MemPlace} (hs : P.underlying t = some (.struct #[f0, f1])) (hone : oneCellFields P #[f0, f1] = true) (hC : P.cellsOf t = 2)
    (i0 : P.underlying f0.type = some (.int .u8)) (i1 : P.underlying f1.type = some (.slice e)) (he : P.underlying e = some (.int .u8)) (hc : P.cellsOf e = 1)
    (hv : Value.okWide P w r b0 t v) (h : DataW.Trod enc P w base (fun _ => true) held t v d p) : ∃ (k : Int) (a : Option Addr) (len cap : Nat) (zs : List Int), v = .agg #[.int .u8 k, .slice a len cap] ∧ (0 ≤ k ∧ k < 256) ∧ Row w a len cap zs := by
  obtain ⟨v0, v1, y0, y1, n, rfl, _, _, h0, h1⟩ := open_agg2 hs hone hC hv h
  obtain ⟨k, e0, _, hw⟩ := DataW.trod_int i0 h0
  obtain ⟨a, len, cap, zs, rfl, hr⟩ := row_of_trod i1 he hc h1
  simp at e0
  exact ⟨k, a, len, cap, zs, by rw [e0], u8_of_wf hw, hr⟩
end
end Go.Proofs.Ytngmfgdoopkkdaa.By
