/- The walk of ScanLives: it returns true at every input, and writes nothing that was there. -/
import Derived.Test.YtlffnhfnbdpghaaScanE
import Derived.Test.YtlffnhfnbdpghaaOpen
import Derived.Deep.RegionHeld3
import Derived.Deep.QuietTactic
import Derived.BigQuiet
import Derived.Deep.DeepCutAuto
namespace Go.Proofs.Ytlffnhfnbdpghaa.Sc
open Go.RowKit Go By Nm

theorem equal_at (B1 B2 : Nat) (a1 a2 : Option Addr) (c1 c2 : Nat) (xs : List UInt8) (w : World) (h1 : BytesAt w B1 a1 xs) (h2 : BytesAt w B2 a2 xs) :
    Calls Try.prog 16 #[.slice a1 xs.length c1, .slice a2 xs.length c2] w fun e w' => e = .returned (.bool true) ∧ w = w' :=
  equal_yes B1 B2 a1 a2 _ c1 c2 xs w h1 h2 rfl

theorem St.drewN {w : World} {g : Nat} (k : Nat) : ∀ {st : Sta}, St w g st → St (w.drewN k) g st
  | some _, h => h
  | none, h => h
theorem RSt.drewN {w : World} {g : Nat} (k : Nat) : ∀ {st : Sta}, RSt w g st → RSt (w.drewN k) g st
  | some _, h => h
  | none, h => h
/-- A call that answers v and leaves the world as it is, in a region whose draws are counted. -/
theorem quiet_call {P : Program} {f : FuncId} {args : Array Value} {w : World} {k : Nat} {v : Value} (h : Calls P f args (w.drewN k) fun e w' => e = .returned v ∧ w.drewN k = w') :
    Calls P f args (w.drewN k) fun e w' => e = .returned v ∧ ∃ m, w' = w.drewN m := h.mono fun _ _ hh => ⟨hh.1, k, hh.2.symm⟩
theorem below_drewN {B : Nat} {a w : World} (h : Below B a w) (k : Nat) : Below B a (w.drewN k) := ⟨h.os, h.tape, h.output, h.size, h.block⟩
theorem bytes_only {w w' : World} {g gx : Nat} {a : Option Addr} {xs : List UInt8} (h : BytesAt w g a xs) (ho : Only gx w w') (hn : g < gx) (hg : g ≤ w.heap.size) : BytesAt w' g a xs :=
  h.keep fun p hp => World.cell?_of_block (w := w) (ho.at_ (by omega) (by omega))
theorem only_cell {w w' : World} {g : Nat} (ho : Only g w w') {p : Addr} {v : Value} (h : w.cell? p = some v) (hn : p.block ≠ g) : w'.cell? p = some v :=
  World.grownBy.cell ho h (by simpa using hn)

set_option maxHeartbeats 1000000 in
theorem scanLives_walk (a0 : Option Addr) (len0 cap0 : Nat) (z0 : List Int) (a1 : Option Addr) (len1 cap1 : Nat) (os ns : Nat → Int) (w : World) (w0 : Row w a0 len0 cap0 z0) (w1 : Pairs w a1 len1 os ns) :
    Calls Try.prog 3 #[.slice a0 len0 cap0, .slice a1 len1 cap1] w fun e w' => e = .returned (.bool true) ∧ Below w.heap.size w w' := by
  obtain ⟨xs, rfl, hx, hxn, _, _⟩ := w0.bytes
  have HX := Lib.hid hx
  have HXN := Lib.hid hxn
  have HY := Lib.hid w1
  clear hx hxn w0 w1
  by_cases h : (2000 : Int) < xs.length
  · go_enter Try.func3, Try.ntmps3
    go_wp2_with (go_at_call 9; refine (awake_any _).mono ?_; rintro e w' ⟨rfl, hb⟩)
    go_ret
    exact ⟨rfl, hb⟩
  · by_cases h2 : (200 : Int) < len1
    · go_enter Try.func3, Try.ntmps3
      go_wp2_with (go_at_call 9; refine (awake_any _).mono ?_; rintro e w' ⟨rfl, hb⟩)
      go_ret
      exact ⟨rfl, hb⟩
    · have HL : Hid (xs.length ≤ 2000) := Lib.hid (by omega)
      go_enter Try.func3, Try.ntmps3
      go_wp2_with (first
        | (go_at_call 10; refine (new_any w.heap.size a0 cap0 xs w HX.out HXN.out (by have := HL.out; omega)).mono ?_; rintro e w1 ⟨g, rfl, hg, hgood, hs⟩; have HG := Lib.hid hg; have H1 := Lib.hid hgood; have HS := Lib.hid hs; clear hg hgood hs)
        | (go_at_call 11; refine (rnew_any w.heap.size a0 cap0 xs w1 (HX.out.still HS.out (Nat.le_refl _)) HXN.out (by have := HL.out; omega)).mono ?_; rintro e w2 ⟨gx, rfl, hg, hgood, hs⟩; have HGX := Lib.hid hg; have H2 := Lib.hid hgood; have HS2 := Lib.hid hs; clear hg hgood hs))
      have HLT : Hid (g < gx) := Lib.hid (by have := HGX.out; have := H1.out.lt; omega)
      go_loopw [25] (fun i wr => ∃ j : Nat, j ≤ len1 ∧ i = .int .i64 j ∧ ∃ st, St wr g st ∧ RSt wr gx st ∧ Small st ∧ Below w.heap.size w wr) (fun i _ => len1 - (intOf i).toNat)
      case atStart => exact ⟨0, Nat.zero_le _, rfl, some xs, St.still HS2.out (st := some xs) H1.out, H2.out, HL.out, (HS.out.below).trans (HS2.out.below.mono HS.out.size)⟩
      case round =>
        obtain ⟨j, hj, rfl, st, hst, hrst, hsm, hbw⟩ := hrel
        have HST := Lib.hid hst
        have HR := Lib.hid hrst
        have HSM := Lib.hid hsm
        have HB := Lib.hid hbw
        clear hst hrst hsm hbw
        by_cases hlt : j < len1
        · obtain ⟨b, off, ha, hbl, hcell⟩ := HY.out (by omega)
          have hc0 := (HB.out.cell (p := ⟨b, off + j * 2, none⟩) hbl).trans (hcell j hlt).1
          have hc1 := (HB.out.cell (p := ⟨b, off + j * 2 + 1, none⟩) hbl).trans (hcell j hlt).2
          rw [ha]
          clear hcell hbl
          generalize os j = o at *
          generalize ns j = n at *
          by_cases ho0 : o = 0
          · subst ho0
            go_wp2_with fail
            go_region_held3 (fun w' => w'.cell? ⟨wr.heap.size, 1, none⟩ = some (.int .i64 n))
              (first
                | go_keep
                | (exact only_cell HO3.out (by simp) (by have := HST.out.lt; show wr.heap.size ≠ g; omega))
                | (exact only_cell HO4.out (only_cell HO3.out (by simp) (by have := HST.out.lt; show wr.heap.size ≠ g; omega)) (by have := HR.out.lt; show wr.heap.size ≠ gx; omega)))
              (first
                | (go_at_call 12; refine (num_st g st n _ ?_).mono ?_; (exact HST.out.still ((Still.refl _).alloc _).drew); rintro e w3 ⟨rfl, hst3, ho3⟩; have HST3 := Lib.hid hst3; have HO3 := Lib.hid ho3; clear hst3 ho3)
                | (go_at_call 13; refine (rnum_st gx st n _ ?_).mono ?_; (exact RSt.only (HST.out.still ((Still.refl _).alloc _).drew) HO3.out (by have := HLT.out; omega) (HR.out.still ((Still.refl _).alloc _).drew)); rintro e w4 ⟨rfl, hst4, ho4⟩; have HST4 := Lib.hid hst4; have HO4 := Lib.hid ho4; clear hst4 ho4))
            have hb0 : Below w.heap.size w (wr.alloc (.cells #[.int .i64 0, .int .i64 n] 30)) := HB.out.alloc HB.out.size _
            have hb3 := HO3.out.below hb0.drew hb0.size HG.out
            have hb4 := HO4.out.below hb3 hb3.size (by have := HGX.out; have := HS.out.size; omega)
            have HB4 := Lib.hid hb4
            have HA := Lib.hid (HST3.out.only HO4.out HLT.out)
            have HC := Lib.hid HST4.out
            have hno := HC.out.no
            clear hb0 hb3 hb4
            go_wp2_with fail
            go_quiet ((first
              | (go_at_call 19; exact quiet_call (left_st _ _ _ (HA.out.drewN _)))
              | (go_at_call 20; exact quiet_call (rleft_st _ _ _ (HC.out.drewN _)))
              | (go_at_call 21; exact quiet_call (bad_st _ _ _ (HA.out.drewN _)))
              | (go_at_call 22; exact quiet_call (done_st _ _ _ (HA.out.drewN _)))
              | (go_at_call 23; exact quiet_call (rdone_st _ _ _ (HC.out.drewN _)))))
            go_wp2_with fail
            go_roundw
            case rel => exact ⟨j + 1, by omega, by go_num, _, HA.out.drewN _, HC.out.drewN _, HSM.out.num n, below_drewN HB4.out _⟩
            case measure => simp [intOf]; omega
          · by_cases ho1 : o = 1
            · subst ho1
              go_wp2_with (first
                | (go_at_call 14; refine (text_st g st _ ?_).mono ?_; (exact HST.out.still ((Still.refl _).alloc _)); rintro e w3 ⟨rfl, hst3, ho3⟩; have HST3 := Lib.hid hst3; have HO3 := Lib.hid ho3; clear hst3 ho3)
                | (go_at_call 15; refine (rtext_st gx st _ ?_).mono ?_; (exact RSt.only (HST.out.still ((Still.refl _).alloc _)) HO3.out (by have := HLT.out; omega) (HR.out.still ((Still.refl _).alloc _))); rintro e w4 ⟨rfl, hst4, ho4⟩; have HST4 := Lib.hid hst4; have HO4 := Lib.hid ho4; clear hst4 ho4))
              have hb0 : Below w.heap.size w (wr.alloc (.cells #[.int .i64 1, .int .i64 n] 30)) := HB.out.alloc HB.out.size _
              have hb3 := HO3.out.below hb0 hb0.size HG.out
              have hb4 := HO4.out.below hb3 hb3.size (by have := HGX.out; have := HS.out.size; omega)
              have HB4 := Lib.hid hb4
              have HA := Lib.hid (HST3.out.only HO4.out HLT.out)
              have HC := Lib.hid HST4.out
              have hno := HC.out.no
              clear hb0 hb3 hb4
              go_wp2_with fail
              go_quiet ((first
                | (go_at_call 19; exact quiet_call (left_st _ _ _ (HA.out.drewN _)))
                | (go_at_call 20; exact quiet_call (rleft_st _ _ _ (HC.out.drewN _)))
                | (go_at_call 21; exact quiet_call (bad_st _ _ _ (HA.out.drewN _)))
                | (go_at_call 22; exact quiet_call (done_st _ _ _ (HA.out.drewN _)))
                | (go_at_call 23; exact quiet_call (rdone_st _ _ _ (HC.out.drewN _)))))
              go_wp2_with fail
              go_roundw
              case rel => exact ⟨j + 1, by omega, by go_num, _, HA.out.drewN _, HC.out.drewN _, HSM.out.text, below_drewN HB4.out _⟩
              case measure => simp [intOf]; omega
            · have e0 : (o == 0) = false := by simpa using ho0
              have e1 : (o == 1) = false := by simpa using ho1
              clear ho0 ho1
              go_wp2_with fail
              go_region_held3 (fun w' => w'.cell? ⟨wr.heap.size, 1, none⟩ = some (.int .i64 n))
                (first
                  | go_keep
                  | (exact only_cell HO3.out (by simp) (by have := HST.out.lt; show wr.heap.size ≠ g; omega))
                  | (exact only_cell HO4.out (only_cell HO3.out (by simp) (by have := HST.out.lt; show wr.heap.size ≠ g; omega)) (by have := HR.out.lt; show wr.heap.size ≠ gx; omega)))
                (first
                  | (go_at_call 17; refine (take_st g st n _ ?_).mono ?_; (exact HST.out.still ((Still.refl _).alloc _).drew); rintro e w3 ⟨a3, c3, rfl, hy3, hst3, ho3⟩; have HY3 := Lib.hid hy3; have HST3 := Lib.hid hst3; have HO3 := Lib.hid ho3; clear hy3 hst3 ho3)
                  | (go_at_call 18; refine (rtake_st gx st n _ ?_ HSM.out).mono ?_; (exact RSt.only (HST.out.still ((Still.refl _).alloc _).drew) HO3.out (by have := HLT.out; omega) (HR.out.still ((Still.refl _).alloc _).drew)); rintro e w4 ⟨a4, c4, rfl, hy4, hst4, ho4⟩; have HY4 := Lib.hid hy4; have HST4 := Lib.hid hst4; have HO4 := Lib.hid ho4; clear hy4 hst4 ho4)
                  | (go_at_call 16; refine (equal_at g w4.heap.size a3 a4 c3 c4 (takeL st n) _ ?_ ?_).mono ?_; (exact bytes_only HY3.out HO4.out HLT.out (Nat.le_of_lt HST3.out.lt)); (exact HY4.out); rintro e w5 ⟨rfl, rfl⟩))
              have hb0 : Below w.heap.size w (wr.alloc (.cells #[.int .i64 o, .int .i64 n] 30)) := HB.out.alloc HB.out.size _
              have hb3 := HO3.out.below hb0.drew hb0.size HG.out
              have hb4 := HO4.out.below hb3 hb3.size (by have := HGX.out; have := HS.out.size; omega)
              have HB4 := Lib.hid hb4
              have HA := Lib.hid (HST3.out.only HO4.out HLT.out)
              have HC := Lib.hid HST4.out
              have hno := HC.out.no
              clear hb0 hb3 hb4
              go_wp2_with fail
              go_quiet ((first
                | (go_at_call 19; exact quiet_call (left_st _ _ _ (HA.out.drewN _)))
                | (go_at_call 20; exact quiet_call (rleft_st _ _ _ (HC.out.drewN _)))
                | (go_at_call 21; exact quiet_call (bad_st _ _ _ (HA.out.drewN _)))
                | (go_at_call 22; exact quiet_call (done_st _ _ _ (HA.out.drewN _)))
                | (go_at_call 23; exact quiet_call (rdone_st _ _ _ (HC.out.drewN _)))))
              go_wp2_with fail
              go_roundw
              case rel => exact ⟨j + 1, by omega, by go_num, _, HA.out.drewN _, HC.out.drewN _, HSM.out.take n, below_drewN HB4.out _⟩
              case measure => simp [intOf]; omega
        · obtain rfl : j = len1 := by omega
          go_wp2_with (go_at_call 9; refine (awake_any _).mono ?_; rintro e w3 ⟨rfl, hb⟩)
          go_ret
          exact ⟨rfl, HB.out.trans (hb.mono HB.out.size)⟩
end Go.Proofs.Ytlffnhfnbdpghaa.Sc
