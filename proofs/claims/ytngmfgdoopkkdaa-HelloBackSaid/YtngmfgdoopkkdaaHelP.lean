/- The walk of HelloBack. -/
import Derived.Test.YtngmfgdoopkkdaaHelO
namespace Go.Proofs.Ytngmfgdoopkkdaa.He
set_option maxRecDepth 100000
open Go.RowKit Go By Nm Sc

theorem helloR_len {xs : List UInt8} {l : List Pr} {s : Sta} {m : Hm} {er : Int} (hP : Prs (numS (some xs) 4) l s) (hm : helloR (numV (some xs) 4) (numS (some xs) 4) l s = (m, er)) : m.2.2.2.length ≤ xs.length := by
  have h1 := hP.len
  have h2 := lenS_num xs 4
  have h3 : m.2.2.2 = l ∨ m.2.2.2 = [] := by
    have hm' := hm
    generalize numS (some xs) 4 = st at hm'
    cases st with
    | none => injection hm' with hm' _; exact .inr (by rw [← hm']; rfl)
    | some r =>
      simp only [helloR] at hm'
      repeat' split at hm'
      all_goals (injection hm' with h4 _; rw [← h4]; first | exact .inl rfl | exact .inr rfl)
  rcases h3 with h3 | h3
  · rw [h3]; omega
  · rw [h3]; simp
theorem encP_of_build {m : Hm} {xs : List UInt8} (h : buildB m = xs) (hm : m.1 = 196608 ∨ m.2.2.2 = []) : (encP m.2.2.2).length ≤ xs.length := by
  rcases hm with hm | hm
  · rw [← h, buildB, if_pos hm]; simp; omega
  · rw [hm]; simp [encP]
theorem may_or {m : Hm} (h : mayB m = true) : m.1 = 196608 ∨ m.2.2.2 = [] := by
  obtain ⟨c, p, q, ps⟩ := m
  by_cases h1 : c = 196608
  · exact .inl h1
  · right
    simp only [mayB] at h
    rw [if_neg h1] at h
    split at h
    · simp only [Bool.and_eq_true] at h; simpa using h.1.1
    · split at h
      · simp only [Bool.and_eq_true] at h; simpa using h.1
      · cases h

set_option maxHeartbeats 8000000 in
theorem helloBack_walk {H : Type} {enc : TypeId × Value → H} {base : Nat} {held : Bool} {fs : Array Field} (cs : List Value) (a1 : Option Addr) (len1 cap1 : Nat) (z1 : List Int) (w : World) (h : Reads enc Try.prog w base held fs cs) (w1 : Row w a1 len1 cap1 z1) (hu : Try.prog.underlying 26 = some (.struct fs) := by exact Try.underlying26) :
    Calls Try.prog 5 #[.agg cs.toArray, .slice a1 len1 cap1] w fun e w' => e = .returned (.bool true) ∧ Below w.heap.size w w' := by
  obtain ⟨c, p, q, a, k, ps, hcs, hE⟩ := open_hello hu h
  obtain ⟨xs, rfl, hx, hxn, _, _⟩ := w1.bytes
  rw [hcs]
  clear h hu hcs cs w1
  have HX := Lib.hid hx
  have HXN := Lib.hid hxn
  have HE := Lib.hid hE
  obtain ⟨n, HN⟩ : ∃ n, Hid (ps.length = n) := ⟨_, rfl⟩
  rw [HN.out]
  have hS : Below w.heap.size w (w.alloc (.cells #[.int .i64 c, .int .i64 p, .int .i64 q, .slice a n k] 26)) := (Below.refl _ _).alloc (Nat.le_refl _) _
  have HS := Lib.hid hS
  have HK := Lib.hid (Blk.new w 26 [.int .i64 c, .int .i64 p, .int .i64 q, .slice a n k])
  have HFew := Lib.hid (few_any c p q w.heap.size a n k ps (w.alloc (.cells #[.int .i64 c, .int .i64 p, .int .i64 q, .slice a n k] 26)) (hE.below hS) (by simp) HN.out)
  clear hE hS hx hxn
  go_enter Try.func5, Try.ntmps5
  go_wp2_with fail
  refine HFew.out.mono ?_
  rintro e w2 ⟨r, rfl, hfew, hb2⟩
  have HB2 := Lib.hid (HS.out.trans (hb2.mono (by simp)))
  have HK2 := Lib.hid (HK.out.keep (hb2.block _ (by simp)))
  have hz2 : w.heap.size + 1 ≤ w2.heap.size := by have := hb2.size; simpa using this
  have m0 := HK2.out.cell 0 _ rfl
  have m1 := HK2.out.cell 1 _ rfl
  have m2 := HK2.out.cell 2 _ rfl
  have m3 := HK2.out.cell 3 _ rfl
  have HFw := Lib.hid hfew
  clear hfew hb2
  cases r with
  | false =>
    go_wp2_with (go_at_call 9; refine (hawake_any _).mono ?_; rintro e w' ⟨rfl, hb⟩)
    go_ret
    exact ⟨rfl, HB2.out.trans (hb.mono HB2.out.size)⟩
  | true =>
    by_cases hlen : (2000 : Int) < xs.length
    · go_wp2_with (go_at_call 9; refine (hawake_any _).mono ?_; rintro e w' ⟨rfl, hb⟩)
      go_ret
      exact ⟨rfl, HB2.out.trans (hb.mono HB2.out.size)⟩
    · have HLn : Hid (xs.length ≤ 2000) := Lib.hid (by omega)
      obtain ⟨lx, HLx⟩ : ∃ l, Hid (xs.length = l) := ⟨_, rfl⟩
      rw [HLx.out] at hlen ⊢
      have hf := HFw.out rfl
      have hl40 := hf.1
      rw [HN.out] at hl40
      have HLen := Lib.hid hf.bytes
      clear hf
      obtain ⟨x, HY⟩ : ∃ x, Hid ((if mayB (c, p, q, ps) then buildB (c, p, q, ps) else []) = x) := ⟨_, rfl⟩
      obtain ⟨er, HEr⟩ : ∃ x : Int, Hid ((if mayB (c, p, q, ps) then (0 : Int) else 1) = x) := ⟨_, rfl⟩
      obtain ⟨ly, HLy⟩ : ∃ l, Hid (x.length = l) := ⟨_, rfl⟩
      go_wp2_with fail
      refine (hbuild_any c p q w.heap.size a n k ps w2 (HE.out.below HB2.out) HB2.out.size HN.out (by omega) (by have := HLen.out; omega)).mono ?_
      rintro e w3 hb
      obtain ⟨a3, k3, rfl, hx3, hn3, hb3⟩ := built_same hb
      rw [HY.out, HEr.out, HLy.out]
      rw [HY.out] at hx3
      have HX3 := Lib.hid hx3
      have HN3 := Lib.hid hn3
      have HK3 := Lib.hid (HK2.out.keep (hb3.block _ (by omega)))
      have HB3 := Lib.hid (HB2.out.trans (hb3.mono HB2.out.size))
      have hz3 : w.heap.size + 1 ≤ w3.heap.size := Nat.le_trans hz2 hb3.size
      clear hb hx3 hn3 hb3 m0 m1 m2 m3
      cases hmb : mayB (c, p, q, ps) with
      | false =>
        obtain rfl : er = 1 := by rw [← HEr.out, hmb]; rfl
        clear hmb
        obtain ⟨l2, s2, hP2⟩ := Prs.total (numS (some xs) 4)
        obtain ⟨⟨m2, er2⟩, hm2⟩ : ∃ r, helloR (numV (some xs) 4) (numS (some xs) 4) l2 s2 = r := ⟨_, rfl⟩
        have HP2 := Lib.hid hP2
        have HM2 := Lib.hid hm2
        have hml := helloR_len hP2 hm2
        obtain ⟨c2, p2, q2, ps2⟩ := m2
        obtain ⟨n2, HN2⟩ : ∃ n, Hid (ps2.length = n) := ⟨_, rfl⟩
        have hn2 : n2 ≤ 2000 := by have := HLn.out; have := HN2.out; simp only at hml; omega
        clear hP2 hm2 hml
        go_wp2_with fail
        refine (parse_is w.heap.size a1 cap1 xs l2 s2 (c2, p2, q2, ps2) er2 lx _ (HX.out.below HB3.out) HB3.out.size HXN.out (by have := HLn.out; omega) HP2.out HM2.out HLx.out).mono ?_
        rintro e w7 ⟨a7, k7, rfl, hE7, hb7⟩
        rw [show ((c2, p2, q2, ps2), er2).1.2.2.2.length = n2 from HN2.out]
        have HE7 : Hid (Elems (w7.alloc (.cells #[.int .i64 c2, .int .i64 p2, .int .i64 q2, .slice a7 n2 k7] 26)) w7.heap.size a7 2 (prE ps2)) := Lib.hid (Elems.below hE7 ((Below.refl _ w7).alloc (Nat.le_refl _) _))
        have HB7 : Hid (Below w.heap.size w (w7.alloc (.cells #[.int .i64 c2, .int .i64 p2, .int .i64 q2, .slice a7 n2 k7] 26))) := Lib.hid ((HB3.out.trans (hb7.mono HB3.out.size)).alloc (Nat.le_trans HB3.out.size hb7.size) _)
        clear hE7 hb7
        by_cases he2 : er2 = 0
        · subst he2
          obtain ⟨hmay, hbld⟩ := build_read HP2.out HM2.out
          have HMy := Lib.hid hmay
          have HBd := Lib.hid hbld
          have hel : (encP ps2).length ≤ 10000000 := Nat.le_trans (encP_of_build hbld (may_or hmay)) (by have := HLn.out; omega)
          clear hmay hbld
          go_wp2_with fail
          refine (hbuild_any c2 p2 q2 w7.heap.size a7 n2 k7 ps2 _ HE7.out (by simp) HN2.out (by omega) hel).mono ?_
          rintro e w8 hb
          obtain ⟨a8, k8, rfl, hx8, hn8, hb8⟩ := built_same hb
          rw [if_pos HMy.out, if_pos HMy.out] at *
          rw [HBd.out] at *
          have HX8 := Lib.hid hx8
          have HB8 := Lib.hid (HB7.out.trans (hb8.mono HB7.out.size))
          rw [HLx.out]
          clear hb hx8 hn8 hb8
          go_wp2_with fail
          refine (equal_yes w8.heap.size w.heap.size a8 a1 lx k8 cap1 xs w8 HX8.out (HX.out.below HB8.out) HLx.out).mono ?_
          rintro e w' ⟨rfl, rfl⟩
          go_wp2_with fail
          refine (hawake_any _).mono ?_
          rintro e w9 ⟨rfl, hb9⟩
          go_wp2
          go_ret
          exact ⟨rfl, HB8.out.trans (hb9.mono HB8.out.size)⟩
        · have hno := helloR_no HM2.out he2
          injection hno with h1 hno
          injection hno with h2 hno
          injection hno with h3 h4
          subst h1 h2 h3 h4
          obtain rfl : n2 = 0 := by have := HN2.out; simpa using this.symm
          have e9 : (er2 == 0) = false := by simpa using he2
          clear he2
          go_wp2_with fail
          refine (rsame_yes 0 0 0 w7.heap.size a7 none 0 k7 0 [] _ HE7.out (fun hp => by simp [prE] at hp) (by simp) rfl (by omega)).mono ?_
          rintro e w8 ⟨rfl, hb8⟩
          have HB8 := Lib.hid (HB7.out.trans (hb8.mono HB7.out.size))
          clear hb8
          go_wp2_with fail
          refine (hawake_any _).mono ?_
          rintro e w9 ⟨rfl, hb9⟩
          go_wp2
          go_ret
          exact ⟨rfl, HB8.out.trans (hb9.mono HB8.out.size)⟩
      | true =>
        obtain rfl : er = 0 := by rw [← HEr.out, hmb]; rfl
        obtain ⟨l1, s1, hP1, hR1⟩ := read_build hmb
        have hxb : x = buildB (c, p, q, ps) := by rw [← HY.out, hmb]; rfl
        rw [← hxb] at hP1 hR1
        have HP1 := Lib.hid hP1
        have HR1 := Lib.hid hR1
        have hxl : x.length ≤ 100000 := by
          rw [hxb]
          have h1 := HLen.out
          simp only [buildB, List.length_append, putTo_length]
          split
          · rw [List.length_append, List.length_singleton]; omega
          · split
            · rw [List.length_append, putTo_length, putTo_length]; omega
            · simp
        have q0 := HK3.out.cell 0 _ rfl
        have q1 := HK3.out.cell 1 _ rfl
        have q2 := HK3.out.cell 2 _ rfl
        have q3 := HK3.out.cell 3 _ rfl
        have HXl := Lib.hid hxl
        clear hmb hP1 hR1 hxb hxl
        go_wp2_with fail
        refine (parse_is w3.heap.size a3 k3 x l1 s1 (c, p, q, ps) 0 ly w3 HX3.out (Nat.le_refl _) HN3.out HXl.out HP1.out HR1.out HLy.out).mono ?_
        rintro e w4 ⟨a4, k4, rfl, hE4, hb4⟩
        rw [show ((c, p, q, ps), (0 : Int)).1.2.2.2.length = n from HN.out]
        have HE4 : Hid (Elems (w4.alloc (.cells #[.int .i64 c, .int .i64 p, .int .i64 q, .slice a4 n k4] 26)) w4.heap.size a4 2 (prE ps)) := Lib.hid (Elems.below hE4 ((Below.refl _ w4).alloc (Nat.le_refl _) _))
        have HB4 : Hid (Below w.heap.size w (w4.alloc (.cells #[.int .i64 c, .int .i64 p, .int .i64 q, .slice a4 n k4] 26))) := Lib.hid ((HB3.out.trans (hb4.mono HB3.out.size)).alloc (Nat.le_trans HB3.out.size hb4.size) _)
        have HK4 := Lib.hid ((HK3.out.keep (hb4.block _ (by omega))).alloc (.cells #[.int .i64 c, .int .i64 p, .int .i64 q, .slice a4 n k4] 26))
        have hz4 : w.heap.size + 1 ≤ w4.heap.size := Nat.le_trans hz3 hb4.size
        have t0 := HK4.out.cell 0 _ rfl
        have t1 := HK4.out.cell 1 _ rfl
        have t2 := HK4.out.cell 2 _ rfl
        have t3 := HK4.out.cell 3 _ rfl
        clear hE4 hb4 q0 q1 q2 q3
        go_wp2_with fail
        refine (rsame_yes c p q w4.heap.size a4 a n k4 k ps _ HE4.out (elems_more (HE.out.below HB4.out) (by omega)) (by simp) HN.out (by omega)).mono ?_
        rintro e w5 ⟨rfl, hb5⟩
        have HB5 := Lib.hid (HB4.out.trans (hb5.mono HB4.out.size))
        clear hb5 t0 t1 t2 t3
        obtain ⟨l2, s2, hP2⟩ := Prs.total (numS (some xs) 4)
        obtain ⟨⟨m2, er2⟩, hm2⟩ : ∃ r, helloR (numV (some xs) 4) (numS (some xs) 4) l2 s2 = r := ⟨_, rfl⟩
        have HP2 := Lib.hid hP2
        have HM2 := Lib.hid hm2
        have hml := helloR_len hP2 hm2
        obtain ⟨c2, p2, q2, ps2⟩ := m2
        obtain ⟨n2, HN2⟩ : ∃ n, Hid (ps2.length = n) := ⟨_, rfl⟩
        have hn2 : n2 ≤ 2000 := by have := HLn.out; have := HN2.out; simp only at hml; omega
        clear hP2 hm2 hml
        go_wp2_with fail
        refine (parse_is w.heap.size a1 cap1 xs l2 s2 (c2, p2, q2, ps2) er2 lx _ (HX.out.below HB5.out) HB5.out.size HXN.out (by have := HLn.out; omega) HP2.out HM2.out HLx.out).mono ?_
        rintro e w7 ⟨a7, k7, rfl, hE7, hb7⟩
        rw [show ((c2, p2, q2, ps2), er2).1.2.2.2.length = n2 from HN2.out]
        have HE7 : Hid (Elems (w7.alloc (.cells #[.int .i64 c2, .int .i64 p2, .int .i64 q2, .slice a7 n2 k7] 26)) w7.heap.size a7 2 (prE ps2)) := Lib.hid (Elems.below hE7 ((Below.refl _ w7).alloc (Nat.le_refl _) _))
        have HB7 : Hid (Below w.heap.size w (w7.alloc (.cells #[.int .i64 c2, .int .i64 p2, .int .i64 q2, .slice a7 n2 k7] 26))) := Lib.hid ((HB5.out.trans (hb7.mono HB5.out.size)).alloc (Nat.le_trans HB5.out.size hb7.size) _)
        clear hE7 hb7
        by_cases he2 : er2 = 0
        · subst he2
          obtain ⟨hmay, hbld⟩ := build_read HP2.out HM2.out
          have HMy := Lib.hid hmay
          have HBd := Lib.hid hbld
          have hel : (encP ps2).length ≤ 10000000 := Nat.le_trans (encP_of_build hbld (may_or hmay)) (by have := HLn.out; omega)
          clear hmay hbld
          go_wp2_with fail
          refine (hbuild_any c2 p2 q2 w7.heap.size a7 n2 k7 ps2 _ HE7.out (by simp) HN2.out (by omega) hel).mono ?_
          rintro e w8 hb
          obtain ⟨a8, k8, rfl, hx8, hn8, hb8⟩ := built_same hb
          rw [if_pos HMy.out, if_pos HMy.out] at *
          rw [HBd.out] at *
          have HX8 := Lib.hid hx8
          have HB8 := Lib.hid (HB7.out.trans (hb8.mono HB7.out.size))
          rw [HLx.out]
          clear hb hx8 hn8 hb8
          go_wp2_with fail
          refine (equal_yes w8.heap.size w.heap.size a8 a1 lx k8 cap1 xs w8 HX8.out (HX.out.below HB8.out) HLx.out).mono ?_
          rintro e w' ⟨rfl, rfl⟩
          go_wp2_with fail
          refine (hawake_any _).mono ?_
          rintro e w9 ⟨rfl, hb9⟩
          go_wp2
          go_ret
          exact ⟨rfl, HB8.out.trans (hb9.mono HB8.out.size)⟩
        · have hno := helloR_no HM2.out he2
          injection hno with h1 hno
          injection hno with h2 hno
          injection hno with h3 h4
          subst h1 h2 h3 h4
          obtain rfl : n2 = 0 := by have := HN2.out; simpa using this.symm
          have e9 : (er2 == 0) = false := by simpa using he2
          clear he2
          go_wp2_with fail
          refine (rsame_yes 0 0 0 w7.heap.size a7 none 0 k7 0 [] _ HE7.out (fun hp => by simp [prE] at hp) (by simp) rfl (by omega)).mono ?_
          rintro e w8 ⟨rfl, hb8⟩
          have HB8 := Lib.hid (HB7.out.trans (hb8.mono HB7.out.size))
          clear hb8
          go_wp2_with fail
          refine (hawake_any _).mono ?_
          rintro e w9 ⟨rfl, hb9⟩
          go_wp2
          go_ret
          exact ⟨rfl, HB8.out.trans (hb9.mono HB8.out.size)⟩
end Go.Proofs.Ytngmfgdoopkkdaa.He
