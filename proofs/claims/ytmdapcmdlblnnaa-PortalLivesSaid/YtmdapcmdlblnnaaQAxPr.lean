/- Portals, the program's and the document's, beside each other. -/
import Derived.Test.YtmdapcmdlblnnaaQAxRo
import Derived.Test.YtmdapcmdlblnnaaQAxXr
import Derived.Test.YtmdapcmdlblnnaaRows
import Derived.Test.YtmdapcmdlblnnaaQAxPk
import Derived.Test.YtmdapcmdlblnnaaQAxCe
import Derived.Test.YtmdapcmdlblnnaaQAxPq
/- What reads as data of the types of package api is laid out as their structures are. Written by gen/ax_types.py. -/
namespace Go.Proofs.Ytmdapcmdlblnnaa.Ax
open Go.RowKit Go By
set_option linter.unusedSimpArgs false
set_option linter.unusedVariables false

theorem i64_wf {n : Int} (h : (Lit.int .i64 n).wf = true) : -9223372036854775808 ≤ n ∧ n ≤ 9223372036854775807 := by
  simp [Lit.wf, IntKind.min, IntKind.max, IntKind.signed, IntKind.bits] at h
  omega
theorem sh_int : Shape Try.prog 3 (fun n : Int => [.v (.int .i64 n)]) (fun n => -9223372036854775808 ≤ n ∧ n ≤ 9223372036854775807) := Shape.map (shape_int Try.underlying3) id (fun _ => rfl) (fun _ => i64_wf)
theorem sh_bool : Shape Try.prog 4 (fun b : Bool => [.v (.bool b)]) (fun _ => True) := shape_bool Try.underlying4
theorem sh_str : Shape Try.prog 9 strC (fun s => s.length ≤ maxLen) := shape_str Try.underlying9
theorem sh_ints : Shape Try.prog 31 (fun l : List Int => [.sl 1 (enc intC l) none .no]) (fun l => l.length ≤ maxLen) := Shape.map (shape_slice Try.underlying31 (by kernel_rfl) (by decide) sh_int (fun _ => rfl)) id (fun _ => rfl) (fun _ h => h.1)
def OkSm (x : Sm) : Prop := x.text.length ≤ maxLen ∧ x.oids.length ≤ maxLen
theorem sh_smC : Shape Try.prog 33 smC OkSm :=
  Shape.map (shape_struct Try.underlying33 (by kernel_rfl) (shape_cons (k := 1) rfl (by kernel_rfl) sh_str (by kernel_rfl) (shape_one (k := 1) rfl (by kernel_rfl) sh_ints))) (fun p => ⟨p.1, p.2⟩) (fun _ => rfl) (fun _ h => h)
end Go.Proofs.Ytmdapcmdlblnnaa.Ax
/- Arguments within the form's reach: slices by their bytes; cells. -/
namespace Go.Proofs.Ytmdapcmdlblnnaa.Ax
open Go.RowKit Go.Deep Go.ChangeShapes Go.WideShapes Go.ChangeAt Go.Joins Go By
set_option linter.unusedSimpArgs false
set_option linter.unusedVariables false

section
variable {P : Program} {t : TypeId}
/-- As shapeR_slice; the elements' bytes, B each, are within reach. -/
theorem shapeR_sliceB {e : TypeId} {k : Nat} {α : Type} {f : α → List AV} {ok : α → Prop} (ht : P.underlying t = some (.slice e)) (hk : P.cellsOf e = k) (hp : 0 < k) {B : Nat} (hby : P.bytesOf e = B) (he : ShapeR P e f ok) (hf : ∀ a, (f a).length = k) :
    ShapeR P t (fun l : List α => [.sl k (enc f l) none .no]) (fun l => l.length * B ≤ reachBytes ∧ ∀ x ∈ l, ok x) := fun en w base held n cs x hx hrx => by
  rcases open_slice ht hx with ⟨rfl, _⟩ | ⟨a, len, cap, m, n, D, Pl, rfl, _, hl, hcm, hm, rfl, hi⟩
  · exact ⟨[], ⟨by simp, fun x h => by cases h⟩, .one rfl (.sl k [] none .no none 0 0 (fun _ _ => undef) rfl ⟨fun _ => ⟨rfl, rfl⟩, fun h => (by cases h), fun h => (by cases h)⟩ (fun e h => by cases h) (Nat.le_refl _) (by simp [maxLen]) (fun h => by cases h) (fun h => by simp at h) (fun i e h => by simp at h) (fun i j h => by simp at h))⟩
  · simp at hm
    by_cases h0 : len = 0
    · subst h0
      exact ⟨[], ⟨by simp, fun x h => by cases h⟩, .one rfl (.sl k [] none .no (some a) 0 cap (fun _ _ => undef) rfl ⟨fun h => (by cases h), fun h => (by cases h), fun h => (by cases h)⟩ (fun e h => by cases h) hl hcm (fun h => by cases h) (fun h => by simp at h) (fun i e h => by simp at h) (fun i j h => by simp at h))⟩
    have hlen : len * B ≤ reachBytes := by
      have := hrx ((len + (m - len)) * P.bytesOf e) (by simp [DataW.weights, ht])
      rw [hby] at this
      exact Nat.le_trans (Nat.mul_le_mul_right _ (by omega)) this
    have hre : ∀ i, i < len → Reached P e (D i) := fun i hlt k hk => hrx k (by
      simp only [DataW.weights, ht, List.mem_cons, List.mem_append]
      exact .inr (.inl (weights_all (List.mem_map.2 ⟨i, List.mem_range.2 hlt, rfl⟩) k hk)))
    have at_ : ∀ i, i < len → ∃ p : α × List Value, ok p.1 ∧ SeesCs (G0 w) (f p.1) p.2 ∧ p.2.length = k ∧ ∀ j u, p.2[j]? = some u → w.cell? ((a.add (i * k)).add j) = some u := fun i hlt => by
      obtain ⟨cs', hc, ht'⟩ := hi i (by omega)
      rw [hk] at hc
      obtain ⟨_, hlen, hat⟩ := World.cells?_some hc
      obtain ⟨b, h1, h2⟩ := he en w base held n cs' _ ht' (hre i hlt)
      refine ⟨(b, cs'), h1, h2, hlen, fun j u hu => ?_⟩
      have hj : j < k := by rw [← hlen]; exact (List.getElem?_eq_some_iff.1 hu).1
      rw [hat j hj, hu]
    have hel : ∀ i, ∃ p : α × List Value, i < len → ok p.1 ∧ SeesCs (G0 w) (f p.1) p.2 ∧ p.2.length = k ∧ ∀ j u, p.2[j]? = some u → w.cell? ((a.add (i * k)).add j) = some u := fun i => by
      by_cases hlt : i < len
      · obtain ⟨p, hp⟩ := at_ i hlt; exact ⟨p, fun _ => hp⟩
      · obtain ⟨p, _⟩ := at_ 0 (by omega); exact ⟨p, fun hh => absurd hh hlt⟩
    obtain ⟨g, hg⟩ := Classical.axiomOfChoice hel
    have hget : ∀ i, i < len → ((List.range len).map fun i => (g i).1)[i]? = some (g i).1 := fun i hi' => by
      rw [List.getElem?_map, List.getElem?_range hi']; rfl
    refine ⟨(List.range len).map fun i => (g i).1, ⟨by simpa using hlen, fun x hx => ?_⟩, .one rfl ?_⟩
    · obtain ⟨i, hi', rfl⟩ := List.mem_map.1 hx
      exact (hg i (List.mem_range.1 hi')).1
    · refine .sl k _ none .no (some a) len cap (fun i j => (g i).2.getD j undef) (by simp [Ax.enc]) ⟨fun h => (by cases h), fun h => (by cases h), fun h => (by cases h)⟩ (fun e he' => ?_) hl hcm (fun h => by cases h) (fun hpos => ?_) (fun i e he' j c hj => ?_) (fun i j hi' hj => ?_)
      · obtain ⟨x, _, rfl⟩ := List.mem_map.1 he'; exact hf x
      · obtain ⟨b, off, spot⟩ := a
        obtain ⟨_, _, hl0, hc0⟩ := hg 0 (by omega)
        have h1 := hc0 0 _ (List.getElem?_eq_getElem (by omega))
        have hs : spot = none := by simpa [Addr.add] using World.cell?_spot h1
        subst hs
        refine ⟨b, off, rfl, fun i j hi' hj => ?_⟩
        have hi2 : i < len := by simpa [Ax.enc] using hi'
        obtain ⟨_, _, hl1, hc1⟩ := hg i hi2
        have h2 := hc1 j _ (List.getElem?_eq_getElem (by omega))
        rw [By.add_plain, By.add_plain] at h2
        rw [List.getD_eq_getElem?_getD, List.getElem?_eq_getElem (by omega)]
        exact G0_cell h2
      · obtain ⟨x, hx1, rfl⟩ := enc_at f _ i he'
        have hi2 : i < len := by have := (List.getElem?_eq_some_iff.1 hx1).1; simpa using this
        rw [hget i hi2] at hx1
        injection hx1 with hx1
        subst hx1
        exact (hg i hi2).2.1.2.2 j c hj
      · have hi2 : i < len := by simpa [Ax.enc] using hi'
        obtain ⟨_, hs, hl1, _⟩ := hg i hi2
        rw [List.getD_eq_getElem?_getD, List.getElem?_eq_getElem (by omega)]
        exact hs.2.1 _ (List.getElem_mem _)
end
theorem sh_cellR : ShapeR Try.prog 79 cellC (fun x => True ∧ x.2.length ≤ reachBytes) :=
  ShapeR.map (shapeR_struct Try.underlying79 (by kernel_rfl) (shapeR_cons (k := 1) rfl (by kernel_rfl) sh_bool.reach (by kernel_rfl) (shapeR_one (k := 1) rfl (by kernel_rfl) (shapeR_bytes Try.underlying58 (by kernel_rfl) (of_decide_eq_true (by kernel_rfl)) Try.underlying5)))) (fun p => (p.1, p.2)) (fun _ => rfl) (fun _ h => h)
theorem sh_cellRB : ShapeR Try.prog 34 (fun l : List Cl => [.sl 2 (enc cellC l) none .no]) (fun l => l.length * 32 ≤ reachBytes ∧ ∀ x ∈ l, True ∧ x.2.length ≤ reachBytes) := shapeR_sliceB Try.underlying34 (by kernel_rfl) (by decide) (by kernel_rfl) sh_cellR (fun _ => rfl)
end Go.Proofs.Ytmdapcmdlblnnaa.Ax
/- Layer 28's statements: rows are fetched once each. -/
namespace Go.Proofs.Ytmdapcmdlblnnaa.Ax
open Go.RowKit Go By
set_option linter.unusedSimpArgs false
set_option linter.unusedVariables false
set_option maxRecDepth 10000

theorem rowsEq_c (a : List (List Cl)) (ha : a.length ≤ 1000000) (hc : ∀ r ∈ a, r.length ≤ 140737488355328) (h : List (List AV)) : Contract Try.prog 29 [.sl 1 (enc rowKC a) none .no, .sl 1 (enc rowKC a) none .no, .fn (.func 30) [] []] h (.v (.bool true)) h [] := by
  refine contract_of k29 mixed (by simp [c29]) fun hh hargs => ?_
  simp [c29]
  refine xloop_ok (D := Nat) (fun j => ⟨[(0, .sl 1 (enc rowKC a) none .no), (1, .sl 1 (enc rowKC a) none .no), (2, .fn (.func 30) [] []), (15, .sl 1 (enc rowKC a) none .no), (16, .v (.int .i64 (a.length : Int))), (17, .v (.int .i64 (j : Int)))], [], h, []⟩) (fun j => j ≤ a.length) (fun j => a.length - j) 0 (by simp) ?_ ?_
  · simp [Leq, hh]
    done
  · intro j hj
    by_cases hlt : j < a.length
    · have hw : IntKind.i64.wrap ((j : Int) + 1) = (j : Int) + 1 := wrap64 (by omega) (by omega)
      simp [hlt, rowKC_mk]
      refine xcall_self (by simp) (rcells_c a[j] a[j] (hc _ (List.getElem_mem hlt)) _) ?_
      simp [hw]
      refine ⟨j + 1, by omega, by omega, ?_⟩
      simp [Leq, hh]
      done
    · simp [hlt, hh]
      done
theorem lrows28_c (a : List (List Cl)) (ha : a.length ≤ 1000000) (hc : ∀ r ∈ a, r.length ≤ 140737488355328) (h : List (List AV)) : Contract Try.prog 15 [.sl 1 (enc rowKC a) none .no, .sl 1 (enc rowKC a) none .no] h (.v (.bool true)) h [] := by
  refine contract_of k15 mixed (by simp [c15]) fun hh hargs => ?_
  simp [c15]
  refine xcall_self (by simp) (rowsEq_c a ha hc _) ?_
  simp [hh]
theorem RowsFit.small {L : List (List Cl)} (h : RowsFit L) : L.length ≤ 1000000 ∧ ∀ r ∈ L, r.length ≤ 140737488355328 := ⟨h.1, fun r hr => by have := (h.2 r hr).1; omega⟩
theorem sh_rowR : ShapeR Try.prog 34 rowKC (fun l => l.length * 32 ≤ reachBytes ∧ ∀ x ∈ l, True ∧ x.2.length ≤ reachBytes) := sh_cellRB
theorem sh_rowRL : ShapeR Try.prog 35 (fun l : List (List Cl) => [.sl 1 (enc rowKC l) none .no]) (fun l => l.length ≤ reachBytes ∧ ∀ r ∈ l, r.length * 32 ≤ reachBytes ∧ ∀ x ∈ r, True ∧ x.2.length ≤ reachBytes) := shapeR_slice Try.underlying35 (by kernel_rfl) (by decide) (of_decide_eq_true (by kernel_rfl)) sh_rowR (fun _ => rfl)
theorem rowsFit_of {l : List (List Cl)} (h1 : l.length ≤ 1000000) (h2 : ∀ r ∈ l, r.length * 32 ≤ reachBytes ∧ ∀ x ∈ r, True ∧ x.2.length ≤ reachBytes) : RowsFit l := ⟨h1, fun r hr => by
  obtain ⟨h3, h4⟩ := h2 r hr
  have : reachBytes = 140737488351232 := rfl
  refine ⟨by omega, fun c hc => by have := (h4 c hc).2; omega⟩⟩

end Go.Proofs.Ytmdapcmdlblnnaa.Ax
namespace Go.Proofs.Ytmdapcmdlblnnaa.Ax
open Go.RowKit Go By
set_option linter.unusedSimpArgs false
set_option linter.unusedVariables false
set_option maxRecDepth 10000

/-- Where both lie, and what lies beside them. -/
structure PlG (T : List (Nat × List AV)) (h : List (List AV)) (S : Ps) (b : Nat) (L : List Sl28) : Prop where
  p : PsAt h 1 S
  d : PdAt h 2 b L
  v2 : 2 ∉ S.vars
  vb : L ≠ [] → b ∉ S.vars ∧ b ≠ 1
  tmp : ∀ t ∈ T, h[t.1]? = some t.2 ∧ t.1 ∉ S.vars ∧ t.1 ≠ 2 ∧ (L ≠ [] → t.1 ≠ b)
  pl : plainH h
section
variable {T : List (Nat × List AV)} {h : List (List AV)} {S : Ps} {b : Nat} {L : List Sl28}
theorem PlG.app (g : PlG T h S b L) {c : List AV} (hc : ltL (h.length + 1) c) (hp : ∀ x ∈ c, x.idOf = none) : PlG ((h.length, c) :: T) (h ++ [c]) S b L := by
  refine ⟨g.p.app [c] ⟨hc, trivial⟩, g.d.app [c] ⟨hc, trivial⟩, g.v2, g.vb, fun t ht => ?_, plainH_append g.pl fun z hz => by rw [List.mem_singleton.1 hz]; exact hp⟩
  rcases List.mem_cons.1 ht with rfl | ht
  · refine ⟨by simp, fun hq => ?_, ?_, fun hne => ?_⟩
    · have := g.p.var_lt hq; simp at this
    · have := g.d.i_lt; simp; omega
    · have := g.d.b_lt hne; simp; omega
  · obtain ⟨h1, h2⟩ := g.tmp t ht
    exact ⟨by rw [List.getElem?_append_left (List.getElem?_eq_some_iff.1 h1).1]; exact h1, h2⟩
theorem PlG.none (g : PlG T h S b L) : PlG [] h S b L := ⟨g.p, g.d, g.v2, g.vb, (fun t ht => by cases ht), g.pl⟩
theorem PlG.byP (g : PlG T h S b L) {f : FuncId} {args : List AV} {r : AV} {S' : Ps} (hd : DoesP f args h 1 S r S') :
    ∃ h' wr, Contract Try.prog f args h r h' wr ∧ PlG T h' S' b L ∧ (∀ t ∈ T, t.1 ∉ wr) ∧ h.length ≤ h'.length := by
  obtain ⟨h', wr, k, at_, hw, hl, hs, hv, hp⟩ := hd
  have h2 := g.d.i_lt
  refine ⟨h', wr, k, ⟨at_, ?_, fun hq => ?_, fun hne => ⟨fun hq => ?_, (g.vb hne).2⟩, fun t ht => ?_, hp g.pl⟩, fun t ht hq => ?_, hl⟩
  · exact g.d.move (hs 2 h2 g.v2) (fun hne => hs b (g.d.b_lt hne) (g.vb hne).1) at_.lt
  · rcases hv 2 hq with h3 | h3
    · exact g.v2 h3
    · omega
  · have := g.d.b_lt hne
    rcases hv b hq with h3 | h3
    · exact (g.vb hne).1 h3
    · omega
  · obtain ⟨t1, t2, t3⟩ := g.tmp t ht
    have tl := (List.getElem?_eq_some_iff.1 t1).1
    refine ⟨(hs _ tl t2).trans t1, fun hq => ?_, t3⟩
    rcases hv _ hq with h3 | h3
    · exact t2 h3
    · omega
  · obtain ⟨t1, t2, t3⟩ := g.tmp t ht
    exact t2 (hw _ hq (List.getElem?_eq_some_iff.1 t1).1)
theorem PlG.byD (g : PlG T h S b L) {f : FuncId} {args : List AV} {r : AV} {L' : List Sl28} (hd : DoesD f args h 2 b L r L') :
    ∃ h' b' wr, Contract Try.prog f args h r h' wr ∧ PlG T h' S b' L' ∧ (∀ t ∈ T, t.1 ∉ wr) ∧ h.length ≤ h'.length := by
  obtain ⟨h', b', wr, k, at_, hw, hb, hl, hs, hp⟩ := hd
  have h1 := g.p.i_lt
  refine ⟨h', b', wr, k, ⟨?_, at_, g.v2, fun hne => ?_, fun t ht => ?_, hp g.pl⟩, fun t ht hq => ?_, hl⟩
  · refine g.p.move (hs 1 h1 (by decide) fun hne => fun e => (g.vb hne).2 e.symm) (fun q hq => hs q (g.p.var_lt hq) (fun e => by subst e; exact g.v2 hq) fun hne e => by subst e; exact (g.vb hne).1 hq) at_.lt
  · rcases hb hne with ⟨e1, e2⟩ | e1
    · rw [e2]; exact g.vb e1
    · exact ⟨fun hq => by have := g.p.var_lt hq; omega, by omega⟩
  · obtain ⟨t1, t2, t3, t4⟩ := g.tmp t ht
    have tl := (List.getElem?_eq_some_iff.1 t1).1
    refine ⟨(hs _ tl t3 t4).trans t1, t2, t3, fun hne e => ?_⟩
    rcases hb hne with ⟨e1, e2⟩ | e1
    · exact t4 e1 (by rw [e, e2])
    · omega
  · obtain ⟨t1, t2, t3, t4⟩ := g.tmp t ht
    rcases hw _ hq (List.getElem?_eq_some_iff.1 t1).1 with e | ⟨e1, e2⟩
    · exact t3 e
    · exact t4 e1 e2
/-- Both hold the same. -/
structure PlO (S : Ps) (L : List Sl28) : Prop where
  ok : PsOk S
  rise : Sn.Rise L
  sim : Sn.Sim PV.p S.e L
theorem PlO.get (o : PlO S L) (k : List UInt8) : Sn.get k L = (S.get k).map PV.p := o.sim k
theorem PlO.len (o : PlO S L) : S.e.length = L.length := o.sim.len o.ok.ok o.rise
theorem PlO.names (o : PlO S L) : S.names = L.map Sn.name := sorted_strs o.rise o.ok.ok.keys fun x => o.sim.mem o.ok.ok o.rise x
/-- A call of the one and the same call of the other. -/
def Both (fp fd : FuncId) (args : List AV) (argd : List AV) (T : List (Nat × List AV)) (h : List (List AV)) (S : Ps) (b : Nat) (L : List Sl28) (n : Nat) (r : AV) : Prop :=
  ∃ h1 w1 h2 w2 S' b' L', Contract Try.prog fp args h r h1 w1 ∧ Contract Try.prog fd argd h1 r h2 w2 ∧ PlG T h2 S' b' L' ∧ PlO S' L' ∧ L'.length ≤ n ∧ (∀ t ∈ T, t.1 ∉ w1 ∧ t.1 ∉ w2 ∧ h1[t.1]? = some t.2) ∧ h.length ≤ h1.length ∧ h1.length ≤ h2.length
theorem PlO.at_ (o : PlO S L) {k : List UInt8} {x : PV} (hg : S.get k = some x) : ∃ (j : Nat) (hj : j < L.length), L[j] = ⟨k, x.p⟩ := by
  have := o.get k
  rw [hg] at this
  obtain ⟨y, hy, h1, h2⟩ := (Sn.get_iff o.rise).1 this
  obtain ⟨j, hj, rfl⟩ := List.getElem_of_mem hy
  exact ⟨j, hj, by rw [← h1, ← h2]⟩
theorem both_none {fp fd : FuncId} {args argd : List AV} (g : PlG T h S b L) (o : PlO S L) {r : AV} (k1 : Contract Try.prog fp args h r h []) (k2 : Contract Try.prog fd argd h r h []) : Both fp fd args argd T h S b L (L.length + 1) r :=
  ⟨h, [], h, [], S, b, L, k1, k2, g, o, by omega, fun t ht => ⟨by simp, by simp, (g.tmp t ht).1⟩, Nat.le_refl _, Nat.le_refl _⟩
theorem both_do {fp fd : FuncId} {args argd : List AV} (g : PlG T h S b L) {r : AV} {S' : Ps} {L' : List Sl28} (o : PlO S' L') (hl : L'.length ≤ L.length + 1) (d1 : DoesP fp args h 1 S r S') (d2 : ∀ h', PdAt h' 2 b L → h.length ≤ h'.length → DoesD fd argd h' 2 b L r L') : Both fp fd args argd T h S b L (L.length + 1) r := by
  obtain ⟨h1, w1, k1, g1, t1, l1⟩ := g.byP d1
  obtain ⟨h2, b', w2, k2, g2, t2, l2⟩ := g1.byD (d2 h1 g1.d l1)
  exact ⟨h1, w1, h2, w2, S', b', L', k1, k2, g2, o, hl, fun t ht => ⟨t1 t ht, t2 t ht, (g1.tmp t ht).1⟩, l1, l2⟩
theorem PlO.put (o : PlO S L) (k : List UInt8) {x : PV} (hx : x.p.fit) : PlO (S.put k x) (Sn.put k x.p L) := ⟨o.ok.put k hx, Sn.rise_put o.rise k x.p, o.sim.put o.ok.ok o.rise k x⟩
theorem PlO.del (o : PlO S L) (k : List UInt8) : PlO (S.del k) (Sn.del k L) := ⟨o.ok.del k, Sn.rise_del o.rise k, o.sim.del o.ok.ok o.rise k⟩
theorem put_le (k : List UInt8) (v : Pt) (L : List Sl28) : (Sn.put k v L).length ≤ L.length + 1 := by rw [Sn.put_len]; split <;> omega
theorem del_le (k : List UInt8) (L : List Sl28) : (Sn.del k L).length ≤ L.length := (List.eraseP_sublist ..).length_le
theorem PlO.again (o : PlO S L) (k : List UInt8) {x : PV} (hx : x.p.fit) : PlO (S.put k x) (Sn.put k x.p (Sn.del k L)) := by
  have hd := Sn.rise_del o.rise k
  refine ⟨o.ok.put k hx, Sn.rise_put hd k x.p, fun k' => ?_⟩
  have h1 := Ps.get_put o.ok k x k'
  have h2 : (S.put k x).get k' = KE.get k' (S.put k x).e := rfl
  rw [Sn.get_put hd, Sn.get_del o.rise, ← h2, h1, o.get k']
  by_cases e : k' = k
  · simp [e]
  · simp [e]
theorem both_put (g : PlG T h S b L) (o : PlO S L) (hn : L.length ≤ 1000) {k : List UInt8} (hk : k.length ≤ 1000000) {p : Pt} (hf : p.fit) :
    ∃ e : Int, Both 9 10 [.box 1 0, .v (.string (strB k)), .agg (ptV p)] [.box 2 0, .v (.string (strB k)), .agg (ptV p)] T h S b L (L.length + 1) (.v (.int .i64 e)) := by
  by_cases hc : k = [] ∨ S.get k = none
  · refine ⟨0, ?_⟩
    obtain ⟨x, rfl, d1⟩ := pput_d g.p o.ok hk hc hf
    have hc' : k = [] ∨ Sn.get k L = none := hc.imp_right fun e => by rw [o.get, e]; rfl
    exact both_do g (o.again k hf) (by have := put_le k x.p (Sn.del k L); have := del_le k L; omega) d1 fun h' d _ => dput_d d o.rise hn hc' x.p
  · refine ⟨8, ?_⟩
    rw [not_or] at hc
    obtain ⟨h1, h2⟩ := hc
    cases hg : S.get k with
    | none => exact absurd hg h2
    | some x =>
      obtain ⟨j, hj, e⟩ := o.at_ hg
      have hjn : L[j].name = k := by rw [e]
      subst hjn
      exact both_none g o (pput_twice g.p h1 hg p) (dput_twice g.d o.rise (by omega) hj h1 p)
theorem both_del (g : PlG T h S b L) (o : PlO S L) (hn : L.length ≤ 1000) (k : List UInt8) :
    ∃ e : Bool, Both 16 17 [.box 1 0, .v (.string (strB k))] [.box 2 0, .v (.string (strB k))] T h S b L (L.length + 1) (.v (.bool e)) := by
  have e : (Sn.get k L).isSome = (S.get k).isSome := by rw [o.get]; simp
  refine ⟨(S.get k).isSome, both_do g (o.del k) (by have := del_le k L; omega) (pdel_d g.p k) fun h' d _ => ?_⟩
  rw [← e]
  exact ddel_d d o.rise (by omega) k
theorem both_ran (g : PlG T h S b L) (o : PlO S L) (hn : L.length ≤ 1000) (k : List UInt8) {R : List (List Cl)} (hR : RowsFit R) :
    ∃ e : Bool, Both 11 12 [.box 1 0, .v (.string (strB k)), .sl 1 (enc rowKC R) none .no] [.box 2 0, .v (.string (strB k)), .sl 1 (enc rowKC R) none .no] T h S b L (L.length + 1) (.v (.bool e)) := by
  cases hg : S.get k with
  | none => exact ⟨false, both_none g o (pran_n g.p hg R) (dran_no g.d (by omega) (by rw [o.get, hg]; rfl) R)⟩
  | some x =>
    obtain ⟨j, hj, e⟩ := o.at_ hg
    have hjn : L[j].name = k := by rw [e]
    have hjv : L[j].val = x.p := by rw [e]
    subst hjn
    cases hran : x.p.ran with
    | true => exact ⟨false, both_none g o (pran_t g.p hg hran R) (dran_t g.d o.rise (by omega) hj (by rw [hjv, hran]) R)⟩
    | false =>
      refine ⟨true, both_do g (o.put L[j].name (x := ⟨x.v, ranP x.p R, h.length, 0⟩) (ran_fit (o.ok.gfit hg) hR)) (put_le _ _ _) (pran_d g.p o.ok hg hran hR) fun h' d _ => ?_⟩
      have := dran_f d o.rise (by omega) hj (by rw [hjv, hran]) R
      rw [hjv] at this
      exact this
theorem both_fetch (g : PlG T h S b L) (o : PlO S L) (hn : L.length ≤ 1000) (k : List UInt8) (most : Int) :
    ∃ (X : List (List Cl)) (e : Bool), X.length ≤ 1000000 ∧ (∀ r ∈ X, r.length ≤ 140737488355328) ∧ Both 13 14 [.box 1 0, .v (.string (strB k)), .v (.int .i64 most)] [.box 2 0, .v (.string (strB k)), .v (.int .i64 most)] T h S b L (L.length + 1) (.tup [.sl 1 (enc rowKC X) none .no, .v (.bool e)]) := by
  cases hg : S.get k with
  | none => exact ⟨[], false, by simp, (fun r hr => by cases hr), both_none g o (pfetch_n g.p hg most) (dfetch_no g.d (by omega) (by rw [o.get, hg]; rfl) most)⟩
  | some x =>
    obtain ⟨j, hj, e⟩ := o.at_ hg
    have hfit := o.ok.gfit hg
    obtain ⟨f1, f2⟩ := RowsFit.small hfit.2.2.2
    by_cases hno : x.p.ran = false ∨ x.p.over = true
    · have hjn : L[j].name = k := by rw [e]
      have hjv : L[j].val = x.p := by rw [e]
      subst hjn
      exact ⟨[], false, by simp, (fun r hr => by cases hr), both_none g o (pfetch_no g.p hg hno most) (dfetch_t g.d o.rise (by omega) hj (by rw [hjv]; exact hno) most)⟩
    · rw [not_or] at hno
      have hran : x.p.ran = true := by cases hx : x.p.ran with | true => rfl | false => exact absurd hx hno.1
      have hov : x.p.over = false := by cases hx : x.p.over with | false => rfl | true => exact absurd hx hno.2
      refine ⟨x.p.rows.take (fetchN most x.p.rows.length), _, by rw [List.length_take]; omega, fun r hr => f2 r (List.mem_of_mem_take hr), both_do g (o.put k (x := fetchX x most) (fetch_fit hfit _)) (put_le _ _ _) (pfetch_d g.p o.ok hg hran hov most) fun h' d _ => ?_⟩
      exact dfetch_f d o.rise (by omega) hj e hran hov f1 most
theorem both_get (g : PlG T h S b L) (o : PlO S L) (hn : L.length ≤ 1000) (k : List UInt8) :
    ∃ (p : Pt) (e : Bool), p.fit ∧ Contract Try.prog 19 [.box 1 0, .v (.string (strB k))] h (.tup [.agg (ptV p), .v (.bool e)]) h [] ∧ Contract Try.prog 20 [.box 2 0, .v (.string (strB k))] (h ++ [ptV p]) (.tup [.agg (ptV p), .v (.bool e)]) (h ++ [ptV p]) [] := by
  cases hg : S.get k with
  | none =>
    have g' := g.app (c := ptV zPt) (by simp [ptV, ptC]) (ptC_id rfl)
    exact ⟨zPt, false, zPt_fit, pget_n g.p hg, dget_no g'.d (by omega) (by rw [o.get, hg]; rfl)⟩
  | some x =>
    have g' := g.app (c := ptV x.p) (by simp [ptV, ptC]) (ptC_id rfl)
    obtain ⟨j, hj, e⟩ := o.at_ hg
    have hjn : L[j].name = k := by rw [e]
    have hjv : L[j].val = x.p := by rw [e]
    subst hjn
    have := dget_at g'.d o.rise (by omega) hj
    rw [hjv] at this
    exact ⟨x.p, true, o.ok.gfit hg, pget_s g.p o.ok hg, this⟩
end
end Go.Proofs.Ytmdapcmdlblnnaa.Ax
