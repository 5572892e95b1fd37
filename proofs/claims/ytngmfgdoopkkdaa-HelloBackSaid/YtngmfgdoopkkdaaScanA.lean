/- The contracts of package scan's calls that ask (Bad, Left, Done) and of its fail, at a scan that a call made. -/
import Derived.Test.YtngmfgdoopkkdaaNumB
import Derived.Test.YtngmfgdoopkkdaaNumC
import Derived.Test.YtngmfgdoopkkdaaObj
namespace Go.Proofs.Ytngmfgdoopkkdaa.Sc
set_option maxRecDepth 100000
open Go.RowKit Go By Nm

/-- A scan at block g that has these bytes left. -/
def Good (w : World) (g : Nat) (xs : List UInt8) : Prop :=
  ∃ a c, Blk w g 96 [.bool true, .slice a xs.length c] ∧ BytesAt w g a xs ∧ (a = none → c = 0) ∧ xs.length ≤ c ∧ c ≤ maxLen
/-- A scan at block g that is bad. -/
def Dead (w : World) (g : Nat) : Prop := Blk w g 96 [.bool false, .slice none 0 0]

theorem bad_good (g : Nat) (xs : List UInt8) (w : World) (h : Good w g xs) :
    Calls Try.prog 33 #[.pointer (some ⟨g, 0, none⟩)] w fun e w' => e = .returned (.bool false) ∧ w = w' := by
  obtain ⟨a, c, hb, _, _, _, _⟩ := h
  have c0 := hb.cell 0 _ rfl
  clear hb
  go_enter Try.func33, Try.ntmps33
  go_wp2
  go_ret
  exact ⟨rfl, rfl⟩
theorem bad_dead (g : Nat) (w : World) (h : Dead w g) :
    Calls Try.prog 33 #[.pointer (some ⟨g, 0, none⟩)] w fun e w' => e = .returned (.bool true) ∧ w = w' := by
  have c0 := h.cell 0 _ rfl
  clear h
  go_enter Try.func33, Try.ntmps33
  go_wp2
  go_ret
  exact ⟨rfl, rfl⟩
theorem bad_nil (w : World) :
    Calls Try.prog 33 #[.pointer none] w fun e w' => e = .returned (.bool true) ∧ w = w' := by
  go_enter Try.func33, Try.ntmps33
  go_wp2
  go_ret
  exact ⟨rfl, rfl⟩

theorem done_good (g : Nat) (xs : List UInt8) (w : World) (h : Good w g xs) :
    Calls Try.prog 35 #[.pointer (some ⟨g, 0, none⟩)] w fun e w' => e = .returned (.bool xs.isEmpty) ∧ w = w' := by
  have H := Lib.hid h
  obtain ⟨a, c, hb, _, _, _, _⟩ := h
  have c1 := hb.cell 1 _ rfl
  clear hb
  cases xs with
  | nil =>
    go_enter Try.func35, Try.ntmps35
    go_wp2_with (go_at_call 33; refine (bad_good _ _ _ H.out).mono ?_; rintro e w' ⟨rfl, rfl⟩)
    go_ret
    exact ⟨rfl, rfl⟩
  | cons x xs =>
    obtain ⟨n, hn⟩ : ∃ n, Hid ((x :: xs).length = n) := ⟨_, rfl⟩
    have h0 : (((n : Nat) : Int) == 0) = false := by have := hn.out; simp at this; simp; omega
    rw [hn.out] at c1
    go_enter Try.func35, Try.ntmps35
    go_wp2_with (go_at_call 33; refine (bad_good _ _ _ H.out).mono ?_; rintro e w' ⟨rfl, rfl⟩)
    go_ret
    exact ⟨rfl, rfl⟩
theorem done_dead (g : Nat) (w : World) (h : Dead w g) :
    Calls Try.prog 35 #[.pointer (some ⟨g, 0, none⟩)] w fun e w' => e = .returned (.bool false) ∧ w = w' := by
  have H := Lib.hid h
  clear h
  go_enter Try.func35, Try.ntmps35
  go_wp2_with (go_at_call 33; refine (bad_dead _ _ H.out).mono ?_; rintro e w' ⟨rfl, rfl⟩)
  go_ret
  exact ⟨rfl, rfl⟩
theorem done_nil (w : World) :
    Calls Try.prog 35 #[.pointer none] w fun e w' => e = .returned (.bool false) ∧ w = w' := by
  go_enter Try.func35, Try.ntmps35
  go_wp2_with (go_at_call 33; refine (bad_nil _).mono ?_; rintro e w' ⟨rfl, rfl⟩)
  go_ret
  exact ⟨rfl, rfl⟩

theorem fail_any (g : Nat) (v0 v1 : Value) (w : World) (h : Blk w g 96 [v0, v1]) :
    Calls Try.prog 72 #[.pointer (some ⟨g, 0, none⟩)] w fun e w' => e = .returned (.tuple #[]) ∧ Dead w' g ∧ Only g w w' := by
  have c0 := h.cell 0 _ rfl
  have c1 := h.cell 1 _ rfl
  have f0 := h.frozen 0
  have f1 := h.frozen 1
  have H := Lib.hid h
  clear h
  go_enter Try.func72, Try.ntmps72
  go_wp2
  go_end0
  exact ⟨rfl, (H.out.set 0 _).set 1 _, ((Only.refl g w).set 0 _).set 1 _⟩
end Go.Proofs.Ytngmfgdoopkkdaa.Sc
