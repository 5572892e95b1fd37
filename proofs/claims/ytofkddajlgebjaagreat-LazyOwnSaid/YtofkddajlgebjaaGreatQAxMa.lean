/- Maps over values without memory: what lies there, as a list of entries. No program is named here. -/
import Derived.Test.YtofkddajlgebjaaGreatQAxH
import Derived.Laws.StructEq
import Derived.Maps.RangeRun
/- More values over values without memory: '==' of arrays and structs, arrays that are built, pointers and nil, bytes as a text, a text's byte. No program is named here. -/
namespace Go.Proofs.YtofkddajlgebjaaGreat.Ax
open Go.RowKit Go By

def kindT (P : Program) (t : TypeId) : Option Nat :=
  match P.underlying t with
  | some .bool => some 0
  | some (.int _) => some 1
  | some .string => some 2
  | _ => none
def kindsF (P : Program) : Nat → List Field → Option (List Nat)
  | _, [] => some []
  | i, f :: r => if f.name ≠ "_" ∧ f.offset = i then
      match kindT P f.type, kindsF P (i + 1) r with
      | some k, some ks => some (k :: ks)
      | _, _ => none
    else none
def kindsT (P : Program) (t : TypeId) : Option (List Nat) :=
  match P.underlying t with
  | some (.array len e) => match kindT P e, (P.info? e).map (·.size) with
    | some k, some 1 => some (List.replicate len k)
    | _, _ => none
  | some (.struct fs) => kindsF P 0 fs.toList
  | _ => none

section
variable {P : Program} {G : Ghost} {a : Act}
theorem run_eqK (d : Nat) (t : TypeId) (k : Nat) (hk : kindT P t = some k) {x y : AV} {u v : Value} (hx : Sees G x u) (hy : Sees G y v) {b : Bool} (h : eqK k x y = some b) (w : World) : (Op.equalIn (d + 1) t u v).run P w = .ok b w := by
  unfold eqK at h
  unfold kindT at hk
  split at h
  · split at hk
    · rename_i ht
      injection h with h; subst h
      rw [hx.inv_v, hy.inv_v]
      exact run_equalIn_bool' w d t _ _ ht
    · cases hk
    · cases hk
    · cases hk
  · split at hk
    · cases hk
    · rename_i k0 ht
      split at h
      · rename_i hkk
        subst hkk
        injection h with h; subst h
        rw [hx.inv_v, hy.inv_v]
        exact run_equalIn_int w d t _ k0 _ _ ht
      · cases h
    · cases hk
    · cases hk
  · split at hk
    · cases hk
    · cases hk
    · rename_i ht
      injection h with h; subst h
      rw [hx.inv_v, hy.inv_v]
      exact run_equalIn_string w d t _ _ ht
    · cases hk
  · cases h
theorem run_part_kind (t : TypeId) (k : Nat) (hk : kindT P t = some k) (cs : Array Value) (off : Nat) (v : Value) (hv : cs[off]? = some v) (w : World) : (part t cs off).run P w = .ok v w := by
  have ha : (isAgg t).run P w = .ok false w := by
    unfold kindT at hk
    split at hk <;> first | (rename_i ht; simp only [isAgg, Sem.run_bind, run_underlying ht, Result.andThen_ok]; rfl) | cases hk
  simp [part, ha, hv]
/-- A struct's fields. -/
theorem run_fields (d : Nat) (xs ys : List Value) : ∀ (fs : List Field) (i : Nat) (ts : List Nat) (cs ds : List AV) (b : Bool), kindsF P i fs = some ts → eqCs ts cs ds = some b →
    (∀ j c, cs[j]? = some c → ∃ u, xs[i + j]? = some u ∧ Sees G c u) → (∀ j c, ds[j]? = some c → ∃ u, ys[i + j]? = some u ∧ Sees G c u) → ∀ w, (Op.eqFields (d + 1) xs.toArray ys.toArray fs).run P w = .ok b w
  | [], i, ts, cs, ds, b, hk, h, _, _, w => by
    unfold kindsF at hk
    injection hk with hk; subst hk
    unfold eqCs at h
    split at h
    · injection h with h; subst h; rfl
    · rename_i e1 _ _; cases e1
    · cases h
  | f :: fs, i, ts, cs, ds, b, hk, h, hx, hy, w => by
    unfold kindsF at hk
    split at hk
    · rename_i hf
      split at hk
      · rename_i k ks h1 h2
        injection hk with hk; subst hk
        unfold eqCs at h
        split at h
        · rename_i e1; cases e1
        · rename_i t0 ts0 c cs d0 ds e1
          injection e1 with e1 e1'
          subst e1 e1'
          split at h
          · rename_i p q hp hq
            injection h with h; subst h
            obtain ⟨u, hu, su⟩ := hx 0 c rfl
            obtain ⟨v, hv, sv⟩ := hy 0 d0 rfl
            have e1 := run_part_kind (P := P) f.type k h1 xs.toArray f.offset u (by rw [hf.2]; simpa using hu) w
            have e2 := run_part_kind (P := P) f.type k h1 ys.toArray f.offset v (by rw [hf.2]; simpa using hv) w
            have e3 := run_eqK d f.type k h1 su sv hp w
            have e4 := run_fields d xs ys fs (i + 1) ks cs ds q h2 hq (fun j c hj => by
              obtain ⟨u, hu, su⟩ := hx (j + 1) c (by simpa using hj)
              exact ⟨u, by rw [show i + 1 + j = i + (j + 1) by omega]; exact hu, su⟩) (fun j c hj => by
              obtain ⟨u, hu, su⟩ := hy (j + 1) c (by simpa using hj)
              exact ⟨u, by rw [show i + 1 + j = i + (j + 1) by omega]; exact hu, su⟩) w
            rw [Op.eqFields, if_pos hf.1]
            simp only [Sem.run_bind, e1, e2, e3, Result.andThen_ok, Sem.run_ite]
            cases p
            · simp
            · simpa using e4
          · cases h
        · cases h
      · cases hk
    · cases hk
/-- An array's elements. -/
theorem run_array (d : Nat) (e : TypeId) (k : Nat) (hk : kindT P e = some k) (xs ys : List Value) : ∀ (n i : Nat) (cs ds : List AV) (b : Bool), eqCs (List.replicate n k) cs ds = some b →
    (∀ j c, cs[j]? = some c → ∃ u, xs[i + j]? = some u ∧ Sees G c u) → (∀ j c, ds[j]? = some c → ∃ u, ys[i + j]? = some u ∧ Sees G c u) → ∀ (w : World),
    (forIn (List.range' i n) ((none, ()) : Option Bool × Unit) fun i _ => (do
          let x ← part e xs.toArray (i * 1)
          let y ← part e ys.toArray (i * 1)
          let r ← Op.equalIn (d + 1) e x y
          if (!r) = true then pure (ForInStep.done (some false, ())) else pure (ForInStep.yield (none, ())) : Sem (ForInStep (Option Bool × Unit)))).run P w = .ok (bif b then none else some false, ()) w
  | 0, i, cs, ds, b, h, _, _, w => by
    simp only [List.replicate_zero] at h
    unfold eqCs at h
    split at h
    · injection h with h; subst h; rfl
    · rename_i e1 _ _; cases e1
    · cases h
  | n + 1, i, cs, ds, b, h, hx, hy, w => by
    rw [List.replicate_succ] at h
    unfold eqCs at h
    split at h
    · rename_i e1; cases e1
    · rename_i t0 ts0 c cs d0 ds e1
      injection e1 with e1 e1'
      subst e1 e1'
      split at h
      · rename_i p q hp hq
        injection h with h; subst h
        obtain ⟨u, hu, su⟩ := hx 0 c rfl
        obtain ⟨v, hv, sv⟩ := hy 0 d0 rfl
        have e1 := run_part_kind (P := P) e _ hk xs.toArray (i * 1) u (by simpa using hu) w
        have e2 := run_part_kind (P := P) e _ hk ys.toArray (i * 1) v (by simpa using hv) w
        have e3 := run_eqK d e _ hk su sv hp w
        have e4 := run_array d e _ hk xs ys n (i + 1) cs ds q hq (fun j c hj => by
          obtain ⟨u, hu, su⟩ := hx (j + 1) c (by simpa using hj)
          exact ⟨u, by rw [show i + 1 + j = i + (j + 1) by omega]; exact hu, su⟩) (fun j c hj => by
          obtain ⟨u, hu, su⟩ := hy (j + 1) c (by simpa using hj)
          exact ⟨u, by rw [show i + 1 + j = i + (j + 1) by omega]; exact hu, su⟩) w
        rw [List.range'_succ]
        simp only [List.forIn_cons, Sem.run_bind, e1, e2, e3, Result.andThen_ok, Sem.run_ite]
        cases p
        · simp
        · simp only [Bool.not_true, Bool.false_eq_true, if_false, Sem.run_pure, Result.andThen_ok, Bool.true_and]
          exact e4
      · cases h
    · cases h
theorem agg_get {cs : List AV} {us : List Value} (hl : us.length = cs.length) (hs : ∀ j c, cs[j]? = some c → Sees G c (us.getD j undef)) : ∀ j c, cs[j]? = some c → ∃ u, us[0 + j]? = some u ∧ Sees G c u := fun j c hj => by
  have hlt : j < us.length := by rw [hl]; exact (List.getElem?_eq_some_iff.1 hj).1
  refine ⟨us.getD j undef, ?_, hs j c hj⟩
  rw [Nat.zero_add, List.getD_eq_getElem?_getD, List.getElem?_eq_getElem hlt]; rfl
theorem val_aeq {R : Nat → Id → Prop} (o : Oper) (neg : Bool) (ts : List Nat) (t u : TypeId) (x y : Operand) (ho : o.op = .binOp (bif neg then .neq else .eql) t x y u) (hts : kindsT P t = some ts) (hst : P.stoodInHeld t = false) (hgt : P.eqGuardType P.depth t = false) {gx gy : AV} (h1 : Sees G gx (a.eval x)) (h2 : Sees G gy (a.eval y)) (hok : (vAeq neg ts gx gy).ok) : ValS P G R a o (vAeq neg ts gx gy) := by
  unfold vAeq at hok ⊢
  split at hok
  · rename_i cs ds
    split at hok
    · rename_i b hb
      obtain ⟨us, hu, hul, hus, _⟩ := h1.inv_agg
      obtain ⟨vs, hv, hvl, hvs, _⟩ := h2.inv_agg
      have heq : ∀ w' : World, (Op.equal t (.agg us.toArray) (.agg vs.toArray)).run P w' = .ok b w' := fun w' => by
        show (Op.equalIn (9998 + 1 + 1) t _ _).run P w' = _
        unfold kindsT at hts
        split at hts
        · rename_i len e ht
          split at hts
          · rename_i k hk hsz
            injection hts with hts; subst hts
            have hsz' : (sizeOf e).run P w' = .ok 1 w' := by
              cases hi : P.info? e with
              | none => rw [hi] at hsz; cases hsz
              | some i => rw [hi] at hsz; injection hsz with hsz; simp [sizeOf, typeInfo, hi, hsz]
            rw [Op.equalIn]
            simp only [Sem.run_bind, run_underlying ht, Result.andThen_ok, hsz']
            simp only [Std.Legacy.Range.forIn_eq_forIn_range', Std.Legacy.Range.size, Nat.sub_zero, Nat.add_sub_cancel, Nat.div_one]
            have := run_array (P := P) (G := G) 9998 e k hk us vs len 0 cs ds b hb (agg_get hul hus) (agg_get hvl hvs) w'
            rw [this]
            cases b <;> rfl
          · cases hts
        · rename_i fs ht
          rw [run_equalIn_struct w' _ t _ _ (by unfold Program.fieldsOf; rw [ht]) hst]
          have : P.fieldsOf t = fs := by unfold Program.fieldsOf; rw [ht]
          rw [this]
          exact run_fields 9998 us vs fs.toList 0 ts cs ds b hts hb (agg_get hul hus) (agg_get hvl hvs) w'
        · cases hts
      refine ValS.plain (.v _) rfl fun w' => ?_
      have hg : ∀ op, (eqGuard op t x y (.agg us.toArray) (.agg vs.toArray)).run P w' = .ok () w' := fun op => by
        cases op <;> first | rfl | simp [eqGuard, hgt]
      cases neg
      · simp only [execOp, ho, hu, hv, cond_false, Sem.run_bind, hg, Result.andThen_ok, binOp, heq, Sem.run_pure]
      · simp only [execOp, ho, hu, hv, cond_true, Sem.run_bind, hg, Result.andThen_ok, binOp, heq, Sem.run_pure]
    · exact hok.elim
  · exact hok.elim
theorem val_pnil {R : Nat → Id → Prop} (o : Oper) (neg : Bool) (t e u : TypeId) (x : Operand) (ho : o.op = .binOp (bif neg then .neq else .eql) t x (.const (.pointer none)) u) (ht : P.underlying t = some (.pointer e)) {gx : AV} (h1 : Sees G gx (a.eval x)) (hok : (vPnil neg gx).ok) : ValS P G R a o (vPnil neg gx) := by
  have key : ∀ (p : Option Addr), a.eval x = .pointer p → ∀ w' : World, (execOp a.eval o).run P w' = .ok (.value (.bool (bif neg then !p.isNone else p.isNone))) w' := fun p hp w' => by
    have ec : a.eval (.const (.pointer none)) = .pointer none := rfl
    have hg : ∀ op, (eqGuard op t x (.const (.pointer none)) (.pointer p) (.pointer none)).run P w' = .ok () w' := fun op => by cases op <;> rfl
    have he : (Op.equal t (.pointer p) (.pointer none)).run P w' = .ok p.isNone w' := by
      show (Op.equalIn (9999 + 1) t _ _).run P w' = _
      rw [Op.equalIn]
      cases p <;> simp [run_underlying ht]
    cases neg
    · simp only [execOp, ho, hp, ec, cond_false, Sem.run_bind, hg, Result.andThen_ok, binOp, he, Sem.run_pure]
    · simp only [execOp, ho, hp, ec, cond_true, Sem.run_bind, hg, Result.andThen_ok, binOp, he, Sem.run_pure]
  unfold vPnil at hok ⊢
  split at hok
  · obtain ⟨b, he, _⟩ := h1.inv_box
    refine ValS.plain (.v _) rfl fun w' => ?_
    rw [key _ he w']; cases neg <;> rfl
  · obtain ⟨b, p, u, he, _⟩ := h1.inv_ro
    refine ValS.plain (.v _) rfl fun w' => ?_
    rw [key _ he w']; cases neg <;> rfl
  · refine ValS.plain (.v _) rfl fun w' => ?_
    rw [key none h1.inv_v w']; cases neg <;> rfl
  · exact hok.elim
theorem val_inil {R : Nat → Id → Prop} (o : Oper) (neg : Bool) (t u : TypeId) {ms : Array (String × TypeId)} (x : Operand) (ho : o.op = .binOp (bif neg then .neq else .eql) t x (.const .nilIface) u) (ht : P.underlying t = some (.interface ms)) {gx : AV} (h1 : Sees G gx (a.eval x)) (hok : (vInil neg gx).ok) : ValS P G R a o (vInil neg gx) := by
  have hme : P.underlying t = some (.interface (P.methodsAt t)) := by
    have : P.methodsAt t = ms := by unfold Program.methodsAt; rw [ht]
    rw [this]; exact ht
  have ec : a.eval (.const .nilIface) = .nilIface := rfl
  unfold vInil at hok ⊢
  split at hok
  · rename_i d g
    obtain ⟨v, he, _⟩ := h1.inv_ifc
    refine ValS.plain (.v _) rfl fun w' => ?_
    have hg : ∀ op, (eqGuard op t x (.const .nilIface) (.iface d v) .nilIface).run P w' = .ok () w' := fun op => by cases op <;> rfl
    have hq := run_equal_held_nil w' t d v hme
    cases neg
    · simp only [execOp, ho, he, ec, cond_false, Sem.run_bind, hg, Result.andThen_ok, binOp, hq, Sem.run_pure]
    · simp only [execOp, ho, he, ec, cond_true, Sem.run_bind, hg, Result.andThen_ok, binOp, hq, Sem.run_pure]; rfl
  · have he := h1.inv_v
    refine ValS.plain (.v _) rfl fun w' => ?_
    have hg : ∀ op, (eqGuard op t x (.const .nilIface) .nilIface .nilIface).run P w' = .ok () w' := fun op => by cases op <;> cases x <;> rfl
    have hq := run_equal_nil_nil w' t hme
    cases neg
    · simp only [execOp, ho, he, ec, cond_false, Sem.run_bind, hg, Result.andThen_ok, binOp, hq, Sem.run_pure]; first | done | rfl
    · simp only [execOp, ho, he, ec, cond_true, Sem.run_bind, hg, Result.andThen_ok, binOp, hq, Sem.run_pure]; first | done | rfl
  · exact hok.elim
theorem val_mkI {R : Nat → Id → Prop} (o : Oper) (t : TypeId) (x : Operand) (ho : o.op = .makeInterface t x) (ht : P.concrete t = true) {gx : AV} (h1 : Sees G gx (a.eval x)) : ValS P G R a o (.of (.ifc t gx.unown)) := by
  refine ValS.plain (.ifc _ _ _ h1.unown) rfl fun w' => ?_
  simp only [execOp, ho, Sem.run_bind, run_makeInterface w' t _ ht, Result.andThen_ok, Sem.run_pure]
theorem unbytes_get : ∀ (es : List (List AV)) (bs : List UInt8), unbytes es = some bs → bs.length = es.length ∧ ∀ (i : Nat) (e : List AV), es[i]? = some e → e = [.v (.int .u8 (byteAt bs i))]
  | [], bs, h => by simp [unbytes] at h; subst h; exact ⟨rfl, fun i e h => by simp at h⟩
  | e0 :: r, bs, h => by
    unfold unbytes at h
    split at h
    · rename_i e1; cases e1
    · rename_i n r' e1
      injection e1 with e1 e2
      subst e1 e2
      split at h
      · rename_i hn
        cases hr : unbytes r with
        | none => rw [hr] at h; cases h
        | some bs' =>
          rw [hr] at h
          injection h with h; subst h
          obtain ⟨h1, h2⟩ := unbytes_get r bs' hr
          refine ⟨by simp [h1], fun i e he => ?_⟩
          cases i with
          | zero =>
            simp at he; subst he
            congr 2
            unfold byteAt
            simp
            omega
          | succ i => simpa [byteAt] using h2 i e (by simpa using he)
      · cases h
    · cases h
theorem sees_bytes {k : Nat} {es : List (List AV)} {nul : Option Bool} {room : Room} {bs : List UInt8} (hb : unbytes es = some bs) {a0 : Option Addr} {len cap : Nat} (h : Sees G (.sl k es nul room) (.slice a0 len cap)) {w : World} (hW : WorldOk G w) : len = bs.length ∧ BytesAt w w.heap.size a0 bs := by
  obtain ⟨h1, h2⟩ := unbytes_get es bs hb
  cases h with
  | sl _ _ _ _ _ _ _ u hlen hn hk hcap hm hr hc hs ho1 =>
    refine ⟨by rw [hlen, h1], fun hp => ?_⟩
    obtain ⟨b, o, e, he⟩ := hc (by omega)
    subst e
    have e0 : es[0]? = some (es.getD 0 []) := by rw [List.getD_eq_getElem?_getD, List.getElem?_eq_getElem (by omega)]; rfl
    have hk1 : k = 1 := by
      have := hk _ (List.mem_of_getElem? e0)
      rw [h2 0 _ e0] at this
      exact this.symm
    subst hk1
    have hcell : ∀ i, i < bs.length → w.cell? ⟨b, o + i, none⟩ = some (.int .u8 (byteAt bs i)) := fun i hi => by
      have ei : es[i]? = some (es.getD i []) := by rw [List.getD_eq_getElem?_getD, List.getElem?_eq_getElem (by omega)]; rfl
      have hv := hs i _ ei 0 (.v (.int .u8 (byteAt bs i))) (by rw [h2 i _ ei]; rfl)
      have := hW.cell (he i 0 (by omega) (by omega))
      rw [hv.inv_v] at this
      simpa using this
    exact ⟨b, o, rfl, lt_of_cell (hcell 0 hp), fun i hi => hcell i hi⟩
theorem val_b2s {C : Ctx} {cls : Nat → Id} (o : Oper) (t e u : TypeId) (x : Operand) (ho : o.op = .convert t u x) (ht : P.underlying t = some (.slice e)) (he : P.underlying e = some (.int .u8)) (hu : P.underlying u = some .string) {gx : AV} (h1 : Sees G gx (a.eval x)) (hok : (vB2s gx).ok) : ValS P G (Own C cls) a o (vB2s gx) := by
  unfold vB2s at hok ⊢
  split at hok
  · rename_i k es nul room
    split at hok
    · rename_i bs hb
      cases hv : a.eval x with
      | slice a0 len cap =>
        rw [hv] at h1
        refine ⟨_, .v _, trivial, fun _ => rfl, fun G' w' hE hW _ => ?_⟩
        obtain ⟨e1, e2⟩ := sees_bytes hb (h1.ext hE) hW
        subst e1
        simp only [execOp, ho, hv, Sem.run_bind, run_convert_bytesAt t e u ht he hu w' _ a0 cap bs e2, Result.andThen_ok, Sem.run_pure]
      | _ => rw [hv] at h1; cases h1
    · exact hok.elim
  · exact hok.elim
theorem val_idxS {R : Nat → Id → Prop} (o : Oper) (t : TypeId) (x i : Operand) (ho : o.op = .index t x i) (ht : P.underlying t = some .string) {gx gi : AV} (h1 : Sees G gx (a.eval x)) (h2 : Sees G gi (a.eval i)) (hok : (vIdxS gx gi).ok) : ValS P G R a o (vIdxS gx gi) := by
  unfold vIdxS at hok ⊢
  split at hok
  · rename_i b k n
    refine ValS.plain (.v _) rfl fun w' => ?_
    have := run_index_string (P := P) w' t b k n ht
    rw [dif_pos hok] at this
    have e : b[n.toNat]'(by omega) = b.data.toList.getD n.toNat 0 := by
      have hlt : n.toNat < b.data.toList.length := by have h3 : b.size = b.data.size := rfl; have := hok.2; rw [Array.length_toList]; omega
      rw [List.getD_eq_getElem?_getD, List.getElem?_eq_getElem hlt]
      rfl
    rw [e] at this
    simp only [execOp, ho, h1.inv_v, h2.inv_v, Sem.run_bind, this, Result.andThen_ok, Sem.run_pure]
  · exact hok.elim
theorem val_buildA {R : Nat → Id → Prop} (o : Oper) (t : TypeId) (parts : Array (Nat × Operand)) (ho : o.op = .build t parts) (n : Nat) (e : TypeId) (hu : P.underlying t = some (.array n e)) (it : TypeInfo) (hit : P.info? t = some it) (z : Value) (hz : it.zero = some z) (hz1 : z.cells.toList.all (·.oneCell') = true)
    (ie : TypeInfo) (hie : P.info? e = some ie) (g : Operand → AV) (hg : ∀ p ∈ parts.toList, Sees G (g p.2) (a.eval p.2)) (hok : (vBuild (z.cells.toList.map ofC1) ((parts.toList.map fun p => (p.1 * ie.size, ie.size, p.2)).map fun p => (p.1, p.2.1, g p.2.2))).ok) :
    ValS P G R a o (vBuild (z.cells.toList.map ofC1) ((parts.toList.map fun p => (p.1 * ie.size, ie.size, p.2)).map fun p => (p.1, p.2.1, g p.2.2))) := by
  unfold vBuild at hok ⊢
  split at hok
  · rename_i cs hcs
    obtain ⟨cells', h1, h2, h3⟩ := fill_sees (G := G) (fun i => some (i * ie.size, ie.size)) (parts.toList.map fun p => (p.1, a.eval p.2)) _ z.cells _ cs ⟨by simp, fun i p x hp hx => by
      rw [List.getElem?_map] at hp
      rw [List.getElem?_map, List.getElem?_map] at hx
      cases hpi : parts.toList[i]? with
      | none => rw [hpi] at hp; cases hp
      | some q =>
        rw [hpi] at hp hx
        injection hp with hp; injection hx with hx
        subst hp hx
        exact ⟨rfl, hg q (List.mem_of_getElem? hpi)⟩⟩ ⟨by simp, fun j c hc => by
      rw [List.getElem?_map] at hc
      cases hj : z.cells.toList[j]? with
      | none => rw [hj] at hc; cases hc
      | some y => rw [hj] at hc; injection hc with hc; subst hc; rw [List.getD_eq_getElem?_getD, hj]; exact sees_ofC1 y⟩ (fun y hy => List.all_eq_true.1 hz1 y hy) hcs
    refine ValS.plain (v := .agg cells') ?_ rfl fun w' => ?_
    · have := Sees.agg cs cells'.toList h2.1 h2.2 h3
      simpa using this
    · have hb : P.built t ((parts.map fun (i, x) => (i, a.eval x)).toList) = some cells' := by
        unfold Program.built
        simp only [hit, hu, hz, hie]
        rw [Array.toList_map]
        exact h1
      simp only [execOp, ho, Sem.run_bind, run_build w' t _ _ hb, Result.andThen_ok, Sem.run_pure]
  · exact hok.elim
end
end Go.Proofs.YtofkddajlgebjaaGreat.Ax
namespace Go.Proofs.YtofkddajlgebjaaGreat.Ax
open Go.RowKit Go By
set_option linter.unusedVariables false
set_option linter.unusedSimpArgs false

/-- An entry: its key, when it came, its element's cells. -/
structure Ent where
  key : Value
  born : Nat
  cells : List Value
def Ent.vals (e : Ent) : List Value := e.key :: .int .i64 (e.born : Int) :: e.cells
def Ent.entry (one : Bool) (e : Ent) : MapEntry := { key := e.key, val := if one = true then e.cells.headD undef else .agg e.cells.toArray, born := e.born }
def mapVals (clock : Nat) (l : List Ent) : List Value := .chan none :: .int .i64 (clock : Int) :: l.flatMap Ent.vals
theorem mapEnts_of (n : Nat) (one : Bool) : ∀ (l : List Ent) (f : Nat), l.length ≤ f → (∀ e ∈ l, e.cells.length = n ∧ (one = true → 0 < n)) → mapEnts n one f (l.flatMap Ent.vals) = l.map (Ent.entry one)
  | [], f, _, _ => by
    cases f with
    | zero => rfl
    | succ f => rfl
  | e :: l, 0, h, _ => by simp at h
  | e :: l, f + 1, h, hn => by
    obtain ⟨h1, h2⟩ := hn e (List.mem_cons_self ..)
    have e1 : (e :: l).flatMap Ent.vals = e.key :: .int .i64 (e.born : Int) :: (e.cells ++ l.flatMap Ent.vals) := by simp [Ent.vals]
    rw [e1]
    unfold mapEnts
    have e2 : (e.cells ++ l.flatMap Ent.vals).drop n = l.flatMap Ent.vals := by rw [← h1, List.drop_left]
    have e3 : (e.cells ++ l.flatMap Ent.vals).take n = e.cells := by rw [← h1, List.take_left]
    rw [e2, e3, mapEnts_of n one l f (by simpa using h) fun x hx => hn x (List.mem_cons_of_mem _ hx), List.map_cons]
    congr 1
    unfold Ent.entry
    cases one with
    | false => simp
    | true =>
      have := h2 rfl
      cases hc : e.cells with
      | nil => rw [hc] at h1; simp at h1; omega
      | cons x r => simp
theorem mapVals_obj (n : Nat) (one : Bool) (clock : Nat) (l : List Ent) (hn : ∀ e ∈ l, e.cells.length = n ∧ (one = true → 0 < n)) : (Kind.map n one).obj (mapVals clock l) = .map (l.map (Ent.entry one)).toArray clock := by
  show Obj.map (mapEnts n one (l.flatMap Ent.vals).length (l.flatMap Ent.vals)).toArray (clock : Int).toNat = _
  have hl : l.length ≤ (l.flatMap Ent.vals).length := by
    clear hn
    induction l with
    | nil => simp
    | cons e l ih => simp [Ent.vals] at ih ⊢; omega
  rw [mapEnts_of n one l _ hl hn]
  simp
/-- A key of that kind. -/
def KeyOk (d : TypeDesc) (k : Value) : Prop := (d = .string ∧ ∃ s, k = .string s) ∨ ∃ q a, d = .int q ∧ k = .int q a
theorem sameNow_of {d : TypeDesc} {k x : Value} (hk : KeyOk d k) (hx : KeyOk d x) : Instr.sameNow d k x = some (keyEq k x) := by
  rcases hk with ⟨rfl, s, rfl⟩ | ⟨q, a, rfl, rfl⟩
  · rcases hx with ⟨_, u, rfl⟩ | ⟨q, b, h, _⟩
    · rfl
    · cases h
  · rcases hx with ⟨h, _⟩ | ⟨q', b, h, rfl⟩
    · cases h
    · injection h with h
      subst h
      simp [Instr.sameNow, keyEq]
/-- Where a key stands. -/
def Ent.find (k : Value) : List Ent → Nat → Option (Nat × Ent)
  | [], _ => none
  | e :: l, i => if keyEq k e.key = true then some (i, e) else Ent.find k l (i + 1)
theorem findNow_of (one : Bool) {d : TypeDesc} {k : Value} (hk : KeyOk d k) : ∀ (l : List Ent) (i : Nat), (∀ e ∈ l, KeyOk d e.key) → Instr.findNow d k (l.map (Ent.entry one)) i = some ((Ent.find k l i).map fun p => (p.1, (p.2.entry one).val))
  | [], _, _ => rfl
  | e :: l, i, h => by
    rw [List.map_cons]
    unfold Instr.findNow Ent.find
    rw [show (Ent.entry one e).key = e.key from rfl, sameNow_of hk (h e (List.mem_cons_self ..))]
    cases keyEq k e.key with
    | true => rfl
    | false => exact findNow_of one hk l (i + 1) fun x hx => h x (List.mem_cons_of_mem _ hx)
section
variable {P : Program} {w : World}
theorem run_checkKey {kt : TypeId} {d : TypeDesc} (hk : P.underlying kt = some d) {k : Value} (hko : KeyOk d k) (b : Bool) : (Instr.checkKey b 10000 kt k).run P w = .ok () w := by
  unfold Instr.checkKey
  simp only [Sem.run_bind, run_underlying hk, Result.andThen_ok]
  rcases hko with ⟨rfl, s, rfl⟩ | ⟨q, a, rfl, rfl⟩ <;> rfl
theorem run_findKey {kt : TypeId} {d : TypeDesc} (hk : P.underlying kt = some d) {k : Value} (hko : KeyOk d k) (one : Bool) {l : List Ent} (hl : ∀ e ∈ l, KeyOk d e.key) : (Instr.findKey kt k (l.map (Ent.entry one))).run P w = .ok ((Ent.find k l 0).map fun p => (p.1, (p.2.entry one).val)) w := by
  unfold Instr.findKey
  simp only [Sem.run_bind, run_underlying hk, Result.andThen_ok, findNow_of one hko l 0 hl, Sem.run_pure]
theorem run_lookup {t kt et : TypeId} {d : TypeDesc} (ht : P.underlying t = some (.map kt et)) (hk : P.underlying kt = some d) {k : Value} (hko : KeyOk d k) {b clock : Nat} {l : List Ent} {one : Bool} (hb : w.heap[b]? = some (.map (l.map (Ent.entry one)).toArray clock)) (hl : ∀ e ∈ l, KeyOk d e.key) {z : Value} (hz : (zeroValue et).run P w = .ok z w) (c : Bool) :
    (Instr.lookup t (.map (some b)) k c).run P w = .ok (match Ent.find k l 0 with
      | some p => if c then .tuple #[(p.2.entry one).val, .bool true] else (p.2.entry one).val
      | none => if c then .tuple #[z, .bool false] else z) w := by
  have hg : (getObj b).run P w = .ok (.map (l.map (Ent.entry one)).toArray clock) w := by simp [getObj, Sem.run, hb]
  unfold Instr.lookup
  simp only [Sem.run_bind, run_underlying ht, Result.andThen_ok, hg, Sem.run_pure, run_checkKey hk hko, run_findKey hk hko one hl]
  cases Ent.find k l 0 with
  | none => simp [hz, Result.andThen]
  | some p => simp
theorem find_spec (k : Value) : ∀ (l : List Ent) (i : Nat) {j : Nat} {e : Ent}, Ent.find k l i = some (j, e) → i ≤ j ∧ l[j - i]? = some e ∧ keyEq k e.key = true
  | [], i, j, e, h => by cases h
  | x :: l, i, j, e, h => by
    unfold Ent.find at h
    split at h
    · rename_i hx
      injection h with h
      injection h with h1 h2
      subst h1 h2
      exact ⟨Nat.le_refl _, by simp, hx⟩
    · obtain ⟨h1, h2, h3⟩ := find_spec k l (i + 1) h
      refine ⟨by omega, ?_, h3⟩
      rw [show j - i = (j - (i + 1)) + 1 by omega]
      simpa using h2
theorem bytes_beq : ∀ {s u : ByteArray}, (s == u) = true → s = u
  | ⟨a⟩, ⟨c⟩, h => by
    have h' : (a == c) = true := h
    rw [eq_of_beq h']
theorem keyEq_eq {d : TypeDesc} {k x : Value} (hk : KeyOk d k) (h : keyEq k x = true) : k = x := by
  rcases hk with ⟨rfl, s, rfl⟩ | ⟨q, a, rfl, rfl⟩
  · cases x <;> simp only [keyEq] at h
    all_goals first
      | (cases h; done)
      | (rw [bytes_beq h])
  · cases x <;> simp [keyEq] at h
    rw [h.1, h.2]
/-- A key is given an element. -/
def Ent.put (k : Value) (clock : Nat) (cells : List Value) (l : List Ent) : List Ent × Nat :=
  match Ent.find k l 0 with
  | some (j, e) => (l.set j ⟨k, e.born, cells⟩, clock)
  | none => (l ++ [⟨k, clock, cells⟩], clock + 1)
theorem sameBits_self {d : TypeDesc} {k : Value} (hk : KeyOk d k) : Instr.sameBits 10000 k k = true := by
  rcases hk with ⟨rfl, s, rfl⟩ | ⟨q, a, rfl, rfl⟩
  · show (s == s) = true
    obtain ⟨a⟩ := s
    show (a == a) = true
    exact beq_self_eq_true a
  · simp [Instr.sameBits]
theorem run_mapUpdate {t kt et : TypeId} {d : TypeDesc} (ht : P.underlying t = some (.map kt et)) (hk : P.underlying kt = some d) {k : Value} (hko : KeyOk d k) {b clock : Nat} {l : List Ent} {one : Bool} (hb : w.heap[b]? = some (.map (l.map (Ent.entry one)).toArray clock)) (hl : ∀ e ∈ l, KeyOk d e.key) (cells : List Value) :
    (Instr.mapUpdate t (.map (some b)) k (if one = true then cells.headD undef else .agg cells.toArray)).run P w = .ok () (w.putObj b (.map ((Ent.put k clock cells l).1.map (Ent.entry one)).toArray (Ent.put k clock cells l).2)) := by
  have hg : (getObj b).run P w = .ok (.map (l.map (Ent.entry one)).toArray clock) w := by simp [getObj, Sem.run, hb]
  have hs : ∀ o, (setObj b o).run P w = .ok () (w.putObj b o) := fun o => by simp [setObj, Sem.run, hb, World.putObj]
  unfold Instr.mapUpdate
  simp only [Sem.run_bind, run_underlying ht, Result.andThen_ok, hg, run_checkKey hk hko, run_findKey hk hko one hl]
  unfold Ent.put
  cases hf : Ent.find k l 0 with
  | none =>
    simp only [Option.map, hs]
    simp [Ent.entry]
  | some p =>
    obtain ⟨j, e⟩ := p
    obtain ⟨_, h2, h3⟩ := find_spec k l 0 hf
    rw [Nat.sub_zero] at h2
    have he := keyEq_eq hko h3
    have hj : j < l.length := (List.getElem?_eq_some_iff.1 h2).1
    have hkey : ((((l.map (Ent.entry one)).toArray)[j]?).map (·.key)).getD k = k := by simp [h2, Ent.entry, he]
    simp only [Option.map_some, hkey, Instr.keyThatStays, sameBits_self hko, if_true, Sem.run_bind, Sem.run_pure, Result.andThen_ok, hs]
    have e4 : ((l.map (Ent.entry one)).toArray.modify j fun x => { x with key := k, val := if one = true then cells.headD undef else .agg cells.toArray }) = ((l.set j ⟨k, e.born, cells⟩).map (Ent.entry one)).toArray := by
      apply Array.ext'
      rw [Array.toList_modify]
      apply List.ext_getElem?
      intro i
      rw [List.getElem?_modify, List.getElem?_map, List.getElem?_map, List.getElem?_set]
      by_cases hij : j = i
      · subst hij
        rw [h2]; simp [hj, Ent.entry]
      · simp [hij]
    rw [e4]
theorem map_erase {α β : Type} (f : α → β) : ∀ (l : List α) (j : Nat), (l.eraseIdx j).map f = (l.map f).eraseIdx j
  | [], _ => rfl
  | _ :: _, 0 => rfl
  | x :: l, j + 1 => by simp [map_erase f l j]
/-- A key goes. -/
def Ent.del (k : Value) (l : List Ent) : List Ent :=
  match Ent.find k l 0 with
  | some (j, _) => l.eraseIdx j
  | none => l
theorem run_delete {t kt et : TypeId} {d : TypeDesc} (ht : P.underlying t = some (.map kt et)) (hk : P.underlying kt = some d) {k : Value} (hko : KeyOk d k) {b clock : Nat} {l : List Ent} {one : Bool} (hb : w.heap[b]? = some (.map (l.map (Ent.entry one)).toArray clock)) (hl : ∀ e ∈ l, KeyOk d e.key) (ts : Array TypeId) (hts : ts[0]? = some t) (ty : TypeId) :
    (Builtin.delete_ ts ty #[.map (some b), k]).run P w = .ok (.tuple #[]) (w.putObj b (.map ((Ent.del k l).map (Ent.entry one)).toArray clock)) := by
  have hg : (getObj b).run P w = .ok (.map (l.map (Ent.entry one)).toArray clock) w := by simp [getObj, Sem.run, hb]
  have hs : ∀ o, (setObj b o).run P w = .ok () (w.putObj b o) := fun o => by simp [setObj, Sem.run, hb, World.putObj]
  have e1 : (#[Value.map (some b), k] : Array Value)[0]? = some (.map (some b)) := rfl
  have e2 : (#[Value.map (some b), k] : Array Value)[1]? = some k := rfl
  unfold Builtin.delete_
  simp only [hts, e1, e2, Sem.run_bind, run_underlying ht, Result.andThen_ok, hg, run_checkKey hk hko, run_findKey hk hko one hl]
  unfold Ent.del
  cases hf : Ent.find k l 0 with
  | none =>
    simp only [Option.map_none, Sem.run_bind, hs, Result.andThen_ok, Sem.run_pure]
  | some p =>
    obtain ⟨j, e⟩ := p
    obtain ⟨_, h2, _⟩ := find_spec k l 0 hf
    rw [Nat.sub_zero] at h2
    have hj : j < l.length := (List.getElem?_eq_some_iff.1 h2).1
    have e4 : (l.map (Ent.entry one)).toArray.eraseIdxIfInBounds j = ((l.eraseIdx j).map (Ent.entry one)).toArray := by
      apply Array.ext'
      rw [Array.eraseIdxIfInBounds, dif_pos (by simpa using hj)]
      simp [map_erase]
    simp only [Option.map_some, Sem.run_bind, hs, Result.andThen_ok, Sem.run_pure]
    rw [e4]
theorem run_makeMap (t : TypeId) : (Instr.makeMap t none).run P w = .ok (.map (some w.heap.size)) (w.alloc (.map #[] 0)) := by
  unfold Instr.makeMap
  simp [Result.andThen]
theorem run_lenMap {t kt et : TypeId} (ht : P.underlying t = some (.map kt et)) {b clock : Nat} {l : List Ent} {one : Bool} (hb : w.heap[b]? = some (.map (l.map (Ent.entry one)).toArray clock)) (ts : Array TypeId) (hts : ts[0]? = some t) (ty : TypeId) :
    (Builtin.len_ ts ty #[.map (some b)]).run P w = .ok (.int .i64 (l.length : Int)) w := by
  have hg : (getObj b).run P w = .ok (.map (l.map (Ent.entry one)).toArray clock) w := by simp [getObj, Sem.run, hb]
  simp [Builtin.len_, hts, run_underlying ht, Sem.run_bind, Result.andThen, hg, goInt]
end
/-! ### Entries over values without memory, and the model's -/
theorem entsOf_spec (n : Nat) : ∀ (f : Nat) (cs : List AV) (l : List AEnt), entsOf n f cs = some l → cs = l.flatMap AEnt.avs ∧ ∀ e ∈ l, e.cells.length = n
  | _, [], l, h => by unfold entsOf at h; injection h with h; subst h; exact ⟨rfl, fun e he => by cases he⟩
  | 0, c :: r, l, h => by
    exfalso
    unfold entsOf at h
    split at h <;> simp_all
  | f + 1, c :: r, l, h => by
    unfold entsOf at h
    split at h
    · rename_i heq; cases heq
    · rename_i f' k b r' hf heq
      injection heq with h1 h2
      injection hf with hf
      subst h1 h2 hf
      split at h
      · rename_i hb
        cases hr : entsOf n f (r'.drop n) with
        | none => rw [hr] at h; cases h
        | some l' =>
          rw [hr] at h
          injection h with h
          subst h
          obtain ⟨h3, h4⟩ := entsOf_spec n f _ l' hr
          have hl : (r'.take n).length = n := by rw [List.length_take]; omega
          refine ⟨?_, fun e he => ?_⟩
          · show _ = AEnt.avs ⟨k, b.toNat, r'.take n⟩ ++ l'.flatMap AEnt.avs
            rw [← h3]
            show _ = .v k :: .v (.int .i64 (b.toNat : Int)) :: (r'.take n ++ r'.drop n)
            rw [List.take_append_drop, Int.toNat_of_nonneg hb.1]
          · rcases List.mem_cons.1 he with rfl | he
            · exact hl
            · exact h4 e he
      · cases h
    · cases h
theorem mapOf_spec {n clock : Nat} {cs : List AV} {l : List AEnt} (h : mapOf n cs = some (clock, l)) : cs = mapC clock l ∧ ∀ e ∈ l, e.cells.length = n := by
  unfold mapOf at h
  split at h
  · rename_i t r
    split at h
    · rename_i ht
      cases hr : entsOf n r.length r with
      | none => rw [hr] at h; cases h
      | some l' =>
        rw [hr] at h
        injection h with h
        injection h with h1 h2
        subst h1 h2
        obtain ⟨h3, h4⟩ := entsOf_spec n _ _ _ hr
        refine ⟨?_, h4⟩
        unfold mapC
        rw [← h3, Int.toNat_of_nonneg ht]
    · cases h
  · cases h
theorem natV_spec {c : AV} {b : Nat} (h : natV c = some b) : c = .v (.int .i64 (b : Int)) := by
  unfold natV at h
  split at h
  · rename_i x
    split at h
    · rename_i hx
      injection h with h; subst h
      rw [Int.toNat_of_nonneg hx]
    · cases h
  · cases h
theorem natsOf_spec : ∀ (cs : List AV) (l : List Nat), natsOf cs = some l → cs = l.map fun b : Nat => AV.v (.int .i64 (b : Int))
  | [], l, h => by unfold natsOf at h; injection h with h; subst h; rfl
  | c :: r, l, h => by
    unfold natsOf at h
    cases hc : natV c with
    | none => rw [hc] at h; cases h
    | some b =>
      cases hr : natsOf r with
      | none => rw [hc, hr] at h; cases h
      | some l' =>
        rw [hc, hr] at h
        injection h with h
        subst h
        rw [natV_spec hc, natsOf_spec r l' hr, List.map_cons]
theorem itOf_spec {cs : List AV} {q : Nat × Nat × List Nat} (h : itOf cs = some q) : cs = itC q.1 q.2.1 q.2.2 := by
  unfold itOf at h
  split at h
  · rename_i s t r
    split at h
    · rename_i ht
      cases hr : natsOf r with
      | none => rw [hr] at h; cases h
      | some l' =>
        rw [hr] at h
        injection h with h
        subst h
        unfold itC
        rw [← natsOf_spec _ _ hr, Int.toNat_of_nonneg ht.1, Int.toNat_of_nonneg ht.2]
    · cases h
  · cases h
def EntS (G : Ghost) (e : AEnt) (x : Ent) : Prop := x.key = e.key ∧ x.born = e.born ∧ SeesL G e.cells x.cells
def EntsS (G : Ghost) : List AEnt → List Ent → Prop
  | [], [] => True
  | e :: l, x :: m => EntS G e x ∧ EntsS G l m
  | _, _ => False
section
variable {G : Ghost}
theorem SeesL.split_app {a b : List AV} {vs : List Value} (h : SeesL G (a ++ b) vs) : ∃ us ws, vs = us ++ ws ∧ SeesL G a us ∧ SeesL G b ws := by
  refine ⟨vs.take a.length, vs.drop a.length, (List.take_append_drop _ _).symm, ?_, ?_⟩
  · have := h.take a.length; rwa [List.take_left] at this
  · have := h.drop a.length; rwa [List.drop_left] at this
theorem SeesL.app {a b : List AV} {us ws : List Value} (h1 : SeesL G a us) (h2 : SeesL G b ws) : SeesL G (a ++ b) (us ++ ws) := by
  refine ⟨by simp [h1.1, h2.1], fun j c hj => ?_⟩
  by_cases hl : j < a.length
  · rw [List.getElem?_append_left hl] at hj
    rw [List.getD_eq_getElem?_getD, List.getElem?_append_left (by rw [h1.1]; exact hl), ← List.getD_eq_getElem?_getD]
    exact h1.2 j c hj
  · rw [List.getElem?_append_right (by omega)] at hj
    rw [List.getD_eq_getElem?_getD, List.getElem?_append_right (by rw [h1.1]; omega), ← List.getD_eq_getElem?_getD, h1.1]
    exact h2.2 _ c hj
theorem sees_ents : ∀ (l : List AEnt) (vs : List Value), SeesL G (l.flatMap AEnt.avs) vs → ∃ m, vs = m.flatMap Ent.vals ∧ EntsS G l m
  | [], vs, h => by
    have : vs = [] := List.eq_nil_of_length_eq_zero h.1
    subst this; exact ⟨[], rfl, trivial⟩
  | e :: l, vs, h => by
    have e1 : (e :: l).flatMap AEnt.avs = [.v e.key, .v (.int .i64 (e.born : Int))] ++ (e.cells ++ l.flatMap AEnt.avs) := by simp [AEnt.avs]
    rw [e1] at h
    obtain ⟨u1, w1, rfl, h1, h2⟩ := h.split_app
    obtain ⟨u2, w2, rfl, h3, h4⟩ := h2.split_app
    obtain ⟨m, rfl, hm⟩ := sees_ents l w2 h4
    match u1, h1.1 with
    | [p, q], _ =>
      obtain ⟨h5, h6⟩ := h1.tail
      obtain ⟨h7, _⟩ := h6.tail
      have e5 := h5.inv_v
      have e7 := h7.inv_v
      subst e5 e7
      exact ⟨⟨e.key, e.born, u2⟩ :: m, by simp [Ent.vals], ⟨rfl, rfl, h3⟩, hm⟩
theorem ents_sees : ∀ {l : List AEnt} {m : List Ent}, EntsS G l m → SeesL G (l.flatMap AEnt.avs) (m.flatMap Ent.vals)
  | [], [], _ => SeesL.nil
  | e :: l, x :: m, h => by
    obtain ⟨⟨h1, h2, h3⟩, h4⟩ := h
    have e1 : (e :: l).flatMap AEnt.avs = .v e.key :: .v (.int .i64 (e.born : Int)) :: (e.cells ++ l.flatMap AEnt.avs) := by simp [AEnt.avs]
    have e2 : (x :: m).flatMap Ent.vals = x.key :: .int .i64 (x.born : Int) :: (x.cells ++ m.flatMap Ent.vals) := by simp [Ent.vals]
    rw [e1, e2, h1, h2]
    exact SeesL.cons (.v _) (SeesL.cons (.v _) (h3.app (ents_sees h4)))
  | [], x :: m, h => h.elim
  | e :: l, [], h => h.elim
theorem sees_map {clock : Nat} {l : List AEnt} {vs : List Value} (h : SeesL G (mapC clock l) vs) : ∃ m, vs = mapVals clock m ∧ EntsS G l m := by
  have e1 : mapC clock l = [.v (.chan none), .v (.int .i64 (clock : Int))] ++ l.flatMap AEnt.avs := rfl
  rw [e1] at h
  obtain ⟨u1, w1, rfl, h1, h2⟩ := h.split_app
  obtain ⟨m, rfl, hm⟩ := sees_ents l w1 h2
  match u1, h1.1 with
  | [p, q], _ =>
    obtain ⟨h5, h6⟩ := h1.tail
    obtain ⟨h7, _⟩ := h6.tail
    have e5 := h5.inv_v
    have e7 := h7.inv_v
    subst e5 e7
    exact ⟨m, rfl, hm⟩
theorem map_sees {clock : Nat} {l : List AEnt} {m : List Ent} (h : EntsS G l m) : SeesL G (mapC clock l) (mapVals clock m) := SeesL.cons (.v _) (SeesL.cons (.v _) (ents_sees h))
theorem EntsS.length : ∀ {l : List AEnt} {m : List Ent}, EntsS G l m → m.length = l.length
  | [], [], _ => rfl
  | e :: l, x :: m, h => by simp [EntsS.length h.2]
  | [], x :: m, h => h.elim
  | e :: l, [], h => h.elim
theorem EntsS.mem : ∀ {l : List AEnt} {m : List Ent}, EntsS G l m → ∀ x ∈ m, ∃ e ∈ l, EntS G e x
  | [], [], _, x, hx => by cases hx
  | e :: l, y :: m, h, x, hx => by
    rcases List.mem_cons.1 hx with rfl | hx
    · exact ⟨e, List.mem_cons_self .., h.1⟩
    · obtain ⟨e', h1, h2⟩ := h.2.mem x hx
      exact ⟨e', List.mem_cons_of_mem _ h1, h2⟩
  | [], x :: m, h, _, _ => h.elim
  | e :: l, [], h, _, _ => h.elim
theorem EntsS.mem' : ∀ {l : List AEnt} {m : List Ent}, EntsS G l m → ∀ e ∈ l, ∃ x ∈ m, EntS G e x
  | [], [], _, x, hx => by cases hx
  | e :: l, y :: m, h, x, hx => by
    rcases List.mem_cons.1 hx with rfl | hx
    · exact ⟨y, List.mem_cons_self .., h.1⟩
    · obtain ⟨e', h1, h2⟩ := h.2.mem' x hx
      exact ⟨e', List.mem_cons_of_mem _ h1, h2⟩
  | [], x :: m, h, _, _ => h.elim
  | e :: l, [], h, _, _ => h.elim
theorem EntsS.cells {n : Nat} {l : List AEnt} {m : List Ent} (h : EntsS G l m) (hn : ∀ e ∈ l, e.cells.length = n) : ∀ x ∈ m, x.cells.length = n := fun x hx => by
  obtain ⟨e, he, h1⟩ := h.mem x hx
  rw [h1.2.2.1, hn e he]
theorem EntsS.find (k : Value) : ∀ {l : List AEnt} {m : List Ent} (i : Nat), EntsS G l m → (AEnt.find k l i = none ∧ Ent.find k m i = none) ∨ ∃ j e x, AEnt.find k l i = some (j, e) ∧ Ent.find k m i = some (j, x) ∧ EntS G e x ∧ i ≤ j ∧ l[j - i]? = some e ∧ m[j - i]? = some x
  | [], [], i, _ => .inl ⟨rfl, rfl⟩
  | e :: l, x :: m, i, h => by
    unfold AEnt.find Ent.find
    rw [h.1.1]
    cases hk : keyEq k e.key with
    | true => exact .inr ⟨i, e, x, rfl, rfl, h.1, Nat.le_refl _, by simp, by simp⟩
    | false =>
      rw [if_neg (by simp), if_neg (by simp)]
      rcases h.2.find k (i + 1) with h1 | ⟨j, e', x', h1, h2, h3, h4, h5, h6⟩
      · exact .inl h1
      · refine .inr ⟨j, e', x', h1, h2, h3, by omega, ?_, ?_⟩
        · rw [show j - i = (j - (i + 1)) + 1 by omega]; simpa using h5
        · rw [show j - i = (j - (i + 1)) + 1 by omega]; simpa using h6
  | [], x :: m, _, h => h.elim
  | e :: l, [], _, h => h.elim
theorem EntsS.at_ (b : Nat) : ∀ {l : List AEnt} {m : List Ent} {e : AEnt}, EntsS G l m → AEnt.at_ b l = some e → ∃ x, m.find? (fun y => y.born == b) = some x ∧ EntS G e x
  | [], [], e, _, he => by cases he
  | a :: l, x :: m, e, h, he => by
    unfold AEnt.at_ at he
    rw [List.find?_cons]
    split at he
    · rename_i hb
      injection he with he; subst he
      have : (x.born == b) = true := by rw [h.1.2.1, hb]; simp
      rw [this]; exact ⟨x, rfl, h.1⟩
    · rename_i hb
      have : (x.born == b) = false := by rw [h.1.2.1]; simpa using hb
      rw [this]; exact h.2.at_ b he
  | [], x :: m, _, h, _ => h.elim
  | e :: l, [], _, h, _ => h.elim
theorem EntsS.set : ∀ {l : List AEnt} {m : List Ent} (j : Nat) {e : AEnt} {x : Ent}, EntsS G l m → EntS G e x → EntsS G (l.set j e) (m.set j x)
  | [], [], j, _, _, _, _ => by cases j <;> trivial
  | a :: l, y :: m, 0, e, x, h, he => ⟨he, h.2⟩
  | a :: l, y :: m, j + 1, e, x, h, he => ⟨h.1, h.2.set j he⟩
  | [], x :: m, _, _, _, h, _ => h.elim
  | e :: l, [], _, _, _, h, _ => h.elim
theorem EntsS.app : ∀ {l : List AEnt} {m : List Ent} {l' : List AEnt} {m' : List Ent}, EntsS G l m → EntsS G l' m' → EntsS G (l ++ l') (m ++ m')
  | [], [], _, _, _, h => h
  | a :: l, y :: m, _, _, h, h' => ⟨h.1, h.2.app h'⟩
  | [], x :: m, _, _, h, _ => h.elim
  | e :: l, [], _, _, h, _ => h.elim
theorem EntsS.erase : ∀ {l : List AEnt} {m : List Ent} (j : Nat), EntsS G l m → EntsS G (l.eraseIdx j) (m.eraseIdx j)
  | [], [], j, _ => by cases j <;> trivial
  | a :: l, y :: m, 0, h => h.2
  | a :: l, y :: m, j + 1, h => ⟨h.1, h.2.erase j⟩
  | [], x :: m, _, h => h.elim
  | e :: l, [], _, h => h.elim
theorem EntsS.put {l : List AEnt} {m : List Ent} (k : Value) (clock : Nat) {cs : List AV} {us : List Value} (h : EntsS G l m) (hs : SeesL G cs us) : EntsS G (AEnt.put k clock cs l).1 (Ent.put k clock us m).1 ∧ (AEnt.put k clock cs l).2 = (Ent.put k clock us m).2 := by
  unfold AEnt.put Ent.put
  rcases h.find k 0 with ⟨h1, h2⟩ | ⟨j, e, x, h1, h2, h3, _⟩
  · rw [h1, h2]; exact ⟨h.app ⟨⟨rfl, rfl, hs⟩, trivial⟩, rfl⟩
  · rw [h1, h2]; exact ⟨h.set j ⟨rfl, h3.2.1, hs⟩, rfl⟩
theorem EntsS.del {l : List AEnt} {m : List Ent} (k : Value) (h : EntsS G l m) : EntsS G (AEnt.del k l) (Ent.del k m) := by
  unfold AEnt.del Ent.del
  rcases h.find k 0 with ⟨h1, h2⟩ | ⟨j, e, x, h1, h2, h3, _⟩
  · rw [h1, h2]; exact h
  · rw [h1, h2]; exact h.erase j
/-- An element of these cells. -/
def elV (one : Bool) (us : List Value) : Value := if one = true then us.headD undef else .agg us.toArray
theorem sees_elA (one : Bool) {cs : List AV} {us : List Value} (hs : SeesL G cs us) (h1 : ∀ u ∈ us, u.oneCell' = true) : Sees G (elA one cs) (elV one us) := by
  unfold elA elV
  cases one with
  | true =>
    cases cs with
    | nil => exact .any _
    | cons c r =>
      cases us with
      | nil => have := hs.1; simp at this
      | cons u q => exact hs.tail.1.unown
  | false =>
    have := hs.map_unown
    exact .agg _ _ this.1 this.2 h1
theorem elA_id (one : Bool) (cs : List AV) : (elA one cs).idOf = none := by
  unfold elA
  cases one with
  | true => exact AV.idOf_unown _
  | false => rfl
end
/-! ### What the program's types say -/
theorem one_key {ks : Option IntKind} {k : Value} (h : isKeyV ks k = true) : k.oneCell' = true := by
  cases k <;> simp [isKeyV] at h <;> rfl
def keyK (P : Program) (t : TypeId) : Option (Option IntKind) :=
  match P.underlying t with
  | some .string => some none
  | some (.int q) => some (some q)
  | _ => none
def elemM (P : Program) (t : TypeId) : Option (Nat × Bool × List Value) :=
  match P.info? t with
  | some i => match i.zero with
    | some (.agg cs) => if cs.toList.all (·.oneCell') = true then some (cs.size, false, cs.toList) else none
    | some z => if z.oneCell' = true then some (1, true, [z]) else none
    | none => none
  | none => none
structure MapT where
  ks : Option IntKind
  n : Nat
  one : Bool
  z : List Value
def mapT (P : Program) (t : TypeId) : Option MapT :=
  match P.underlying t with
  | some (.map kt et) => match keyK P kt, elemM P et with
    | some ks, some q => some ⟨ks, q.1, q.2.1, q.2.2⟩
    | _, _ => none
  | _ => none
structure IsMapT (P : Program) (t : TypeId) (M : MapT) (kt et : TypeId) (d : TypeDesc) : Prop where
  t : P.underlying t = some (.map kt et)
  k : P.underlying kt = some d
  key : ∀ k, isKeyV M.ks k = true → KeyOk d k
  n1 : M.one = true → M.n = 1
  n : M.z.length = M.n
  one : ∀ u ∈ M.z, u.oneCell' = true
  z : ∀ w : World, (zeroValue et).run P w = .ok (elV M.one M.z) w
theorem IsMapT.pos {P : Program} {t : TypeId} {M : MapT} {kt et : TypeId} {d : TypeDesc} (h : IsMapT P t M kt et d) : M.one = true → 0 < M.n := fun e => by rw [h.n1 e]; exact Nat.one_pos
theorem keyK_spec {P : Program} {t : TypeId} {ks : Option IntKind} (h : keyK P t = some ks) : ∃ d, P.underlying t = some d ∧ ∀ k, isKeyV ks k = true → KeyOk d k := by
  unfold keyK at h
  split at h
  · rename_i hu
    injection h with h; subst h
    refine ⟨_, hu, fun k hk => .inl ⟨rfl, ?_⟩⟩
    cases k <;> simp [isKeyV] at hk
    exact ⟨_, rfl⟩
  · rename_i q hu
    injection h with h; subst h
    refine ⟨_, hu, fun k hk => .inr ⟨q, ?_⟩⟩
    cases k <;> simp [isKeyV] at hk
    subst hk
    exact ⟨_, rfl, rfl⟩
  · cases h
theorem elemM_spec {P : Program} {t : TypeId} {q : Nat × Bool × List Value} (h : elemM P t = some q) : (q.2.1 = true → q.1 = 1) ∧ q.2.2.length = q.1 ∧ (∀ u ∈ q.2.2, u.oneCell' = true) ∧ ∀ w : World, (zeroValue t).run P w = .ok (elV q.2.1 q.2.2) w := by
  unfold elemM at h
  split at h
  · rename_i i hi
    split at h
    · rename_i cs hz
      split at h
      · rename_i hall
        injection h with h; subst h
        refine ⟨fun h => (by cases h), by simp, fun u hu => List.all_eq_true.1 hall u hu, fun w => ?_⟩
        simp [zeroValue, typeInfo, hi, hz, elV]
      · cases h
    · rename_i z hna hz
      split at h
      · rename_i h1
        injection h with h; subst h
        refine ⟨fun _ => rfl, rfl, fun u hu => by rw [List.mem_singleton.1 hu]; exact h1, fun w => ?_⟩
        simp [zeroValue, typeInfo, hi, hz, elV]
      · cases h
    · cases h
  · cases h
theorem mapT_spec {P : Program} {t : TypeId} {M : MapT} (h : mapT P t = some M) : ∃ kt et d, IsMapT P t M kt et d := by
  unfold mapT at h
  split at h
  · rename_i kt et hu
    split at h
    · rename_i ks q hk he
      injection h with h; subst h
      obtain ⟨d, h1, h2⟩ := keyK_spec hk
      obtain ⟨h3, h4, h5, h6⟩ := elemM_spec he
      exact ⟨kt, et, d, hu, h1, h2, h3, h4, h5, h6⟩
    · cases h
  · cases h
/-! ### What lies there -/
def itVals (since last : Nat) (seen : List Nat) : List Value := .chan none :: .int .i64 (since : Int) :: .int .i64 (last : Int) :: seen.map fun b : Nat => Value.int .i64 (b : Int)
theorem itVals_obj (mb : Option Nat) (since last : Nat) (seen : List Nat) : (Kind.iter mb).obj (itVals since last seen) = .mapIter mb since seen.toArray last := by
  show Obj.mapIter mb (since : Int).toNat ((seen.map fun b : Nat => Value.int .i64 (b : Int)).map natOf).toArray (last : Int).toNat = _
  have : (seen.map fun b : Nat => Value.int .i64 (b : Int)).map natOf = seen := by
    rw [List.map_map]
    conv => rhs; rw [← List.map_id seen]
    exact List.map_congr_left fun b _ => by simp [natOf]
  rw [this]
  simp
theorem it_sees {G : Ghost} (since last : Nat) (seen : List Nat) : SeesL G (itC since last seen) (itVals since last seen) :=
  SeesL.cons (.v _) (SeesL.cons (.v _) (SeesL.cons (.v _) ⟨by simp, fun j c hj => by
    rw [List.getElem?_map] at hj
    cases hx : seen[j]? with
    | none => rw [hx] at hj; cases hj
    | some b => rw [hx] at hj; injection hj with hj; subst hj; rw [List.getD_eq_getElem?_getD, List.getElem?_map, hx]; exact .v _⟩))
theorem sees_it {G : Ghost} {since last : Nat} {seen : List Nat} {vs : List Value} (h : SeesL G (itC since last seen) vs) : vs = itVals since last seen := by
  have h2 := it_sees (G := G) since last seen
  apply List.ext_getElem?
  intro j
  by_cases hj : j < (itC since last seen).length
  · have a1 := h.2 j _ (List.getElem?_eq_getElem hj)
    have a2 := h2.2 j _ (List.getElem?_eq_getElem hj)
    have l1 : j < vs.length := by rw [h.1]; exact hj
    have l2 : j < (itVals since last seen).length := by rw [h2.1]; exact hj
    rw [List.getD_eq_getElem?_getD, List.getElem?_eq_getElem l1] at a1
    rw [List.getD_eq_getElem?_getD, List.getElem?_eq_getElem l2] at a2
    rw [List.getElem?_eq_getElem l1, List.getElem?_eq_getElem l2]
    have : ∃ y, (itC since last seen)[j] = .v y := by
      have hm := List.getElem_mem hj
      unfold itC at hm
      simp only [List.mem_cons, List.mem_map] at hm
      rcases hm with h | h | h | ⟨b, _, h⟩
      · exact ⟨_, h⟩
      · exact ⟨_, h⟩
      · exact ⟨_, h⟩
      · exact ⟨_, h.symm⟩
    obtain ⟨y, hy⟩ := this
    rw [hy] at a1 a2
    have e1 := a1.inv_v
    have e2 := a2.inv_v
    simp only [Option.getD_some] at e1 e2
    rw [e1, e2]
  · rw [List.getElem?_eq_none (by rw [h.1]; omega), List.getElem?_eq_none (by rw [h2.1]; omega)]
theorem oneCell_itVals (since last : Nat) (seen : List Nat) : ∀ v ∈ itVals since last seen, v.oneCell' = true := by
  intro v hv
  unfold itVals at hv
  simp only [List.mem_cons, List.mem_map] at hv
  rcases hv with rfl | rfl | rfl | ⟨b, _, rfl⟩ <;> rfl
theorem itC_id (since last : Nat) (seen : List Nat) : ∀ c ∈ itC since last seen, c.idOf = none := by
  intro c hc
  unfold itC at hc
  simp only [List.mem_cons, List.mem_map] at hc
  rcases hc with rfl | rfl | rfl | ⟨b, _, rfl⟩ <;> rfl
section
variable {P : Program} {C : Ctx} {N : Nat} {G : Ghost} {cls : Nat → Id} {s : St} {a : Act} {w : World}
theorem Rel.boxVals (h : Rel C N G cls s a w) {i : Nat} {cs : List AV} (hc : s.heap[i]? = some cs) : ∃ vs, G.boxv[i]? = some vs ∧ SeesL G cs vs ∧ ∀ x ∈ vs, x.oneCell' = true := by
  have hlt : i < G.boxv.length := by rw [← h.heap.1]; exact (List.getElem?_eq_some_iff.1 hc).1
  obtain ⟨h1, h2, h3⟩ := h.heap.2 i cs _ hc (List.getElem?_eq_getElem hlt)
  exact ⟨_, List.getElem?_eq_getElem hlt, ⟨h1, h3⟩, h2⟩
theorem Rel.mapHere (h : Rel C N G cls s a w) {i b n : Nat} {one : Bool} (hb : G.boxes[i]? = some b) (hk : G.kinds b = some (.map n one)) {p : Nat × List AEnt} (hp : mapAt s.heap n i = some p) :
    s.heap[i]? = some (mapC p.1 p.2) ∧ (∀ e ∈ p.2, e.cells.length = n) ∧ ∃ m : List Ent, G.boxv[i]? = some (mapVals p.1 m) ∧ EntsS G p.2 m ∧ (∀ x ∈ m, ∀ u ∈ x.cells, u.oneCell' = true) ∧ (∀ x ∈ m, x.key.oneCell' = true) ∧
      ((one = true → 0 < n) → ∀ (G' : Ghost) (w' : World), Ext G G' → WorldOk G' w' → G'.boxv[i]? = G.boxv[i]? → w'.heap[b]? = some (.map (m.map (Ent.entry one)).toArray p.1)) := by
  unfold mapAt at hp
  cases hc : s.heap[i]? with
  | none => rw [hc] at hp; cases hp
  | some cs =>
    rw [hc] at hp
    obtain ⟨e1, e2⟩ := mapOf_spec (show mapOf n cs = some (p.1, p.2) from hp)
    subst e1
    obtain ⟨vs, h1, h2, h3⟩ := h.boxVals hc
    obtain ⟨m, rfl, hm⟩ := sees_map h2
    refine ⟨rfl, e2, m, h1, hm, fun x hx u hu => h3 u ?_, fun x hx => h3 _ ?_, fun hpos G' w' hE hW hv => ?_⟩
    · unfold mapVals
      simp only [List.mem_cons, List.mem_flatMap]
      exact .inr (.inr ⟨x, hx, by unfold Ent.vals; simp [hu]⟩)
    · unfold mapVals
      simp only [List.mem_cons, List.mem_flatMap]
      exact .inr (.inr ⟨x, hx, by unfold Ent.vals; simp⟩)
    · have := (hW.obj.kbox i b _ _ (hE.box_at hb) (hv.trans h1) ((hE.kindsE hb).trans hk)).1
      rw [this, mapVals_obj n one p.1 m fun x hx => ⟨hm.cells e2 x hx, hpos⟩]
theorem Rel.itHere (h : Rel C N G cls s a w) {j b : Nat} {mb : Option Nat} (hb : G.boxes[j]? = some b) (hk : G.kinds b = some (.iter mb)) {q : Nat × Nat × List Nat} (hq : itAt s.heap j = some q) :
    s.heap[j]? = some (itC q.1 q.2.1 q.2.2) ∧ G.boxv[j]? = some (itVals q.1 q.2.1 q.2.2) ∧ ∀ (G' : Ghost) (w' : World), Ext G G' → WorldOk G' w' → G'.boxv[j]? = G.boxv[j]? → w'.heap[b]? = some (.mapIter mb q.1 q.2.2.toArray q.2.1) := by
  unfold itAt at hq
  cases hc : s.heap[j]? with
  | none => rw [hc] at hq; cases hq
  | some cs =>
    rw [hc] at hq
    have e1 := itOf_spec (show itOf cs = some q from hq)
    subst e1
    obtain ⟨vs, h1, h2, h3⟩ := h.boxVals hc
    have := sees_it h2
    subst this
    refine ⟨rfl, h1, fun G' w' hE hW hv => ?_⟩
    have := (hW.obj.kbox j b _ _ (hE.box_at hb) (hv.trans h1) ((hE.kindsE hb).trans hk)).1
    rw [this, itVals_obj]
theorem Sees.inv_mp {i n : Nat} {one : Bool} {y : Value} (h : Sees G (.mp i n one) y) : ∃ b, y = .map (some b) ∧ G.boxes[i]? = some b ∧ G.kinds b = some (.map n one) := by cases h with | mp _ b _ _ h hk => exact ⟨b, rfl, h, hk⟩
theorem Sees.inv_itr {i n : Nat} {im : Option Nat} {one : Bool} {y : Value} (h : Sees G (.itr i im n one) y) : ∃ b mb, y = .pointer (some ⟨b, 0, none⟩) ∧ G.boxes[i]? = some b ∧ G.kinds b = some (.iter mb) ∧ ItrOk G mb n one im := by cases h with | itr _ b _ _ _ mb h hk hm => exact ⟨b, mb, rfl, h, hk, hm⟩
theorem keysOk_of {ks : Option IntKind} {l : List AEnt} {m : List Ent} (h : EntsS G l m) (hk : keysOk ks l) {d : TypeDesc} (hd : ∀ k, isKeyV ks k = true → KeyOk d k) : ∀ x ∈ m, KeyOk d x.key := fun x hx => by
  obtain ⟨e, he, h1⟩ := h.mem x hx
  rw [h1.1]; exact hd _ (hk e he).1
theorem found_sees {one c : Bool} {cs : List AV} {us : List Value} (b : Bool) (hs : SeesL G cs us) (h1 : ∀ u ∈ us, u.oneCell' = true) : Sees G (if c = true then .tup [elA one cs, .v (.bool b)] else elA one cs) (if c = true then .tuple #[elV one us, .bool b] else elV one us) := by
  have := sees_elA one hs h1
  cases c with
  | true => exact .tup _ [_, _] rfl (SeesL.cons this (SeesL.cons (.v _) SeesL.nil)).2
  | false => exact this
theorem found_id (one c : Bool) (z : List AV) (o : Option (Nat × AEnt)) : (found one c z o).idOf = none := by
  unfold found
  cases o <;> cases c <;> first | rfl | exact elA_id _ _
theorem sees_zero (z : List Value) : SeesL G (z.map ofC1) z := by
  refine ⟨by simp, fun j c hj => ?_⟩
  rw [List.getElem?_map] at hj
  cases hx : z[j]? with
  | none => rw [hx] at hj; cases hj
  | some y => rw [hx] at hj; injection hj with hj; subst hj; rw [List.getD_eq_getElem?_getD, hx]; exact sees_ofC1 y
theorem val_lookup (h : Rel C N G cls s a w) (o : Oper) (t : TypeId) (c : Bool) (x k : Operand) (ho : o.op = .lookup t x k c) {M : MapT} (hM : mapT P t = some M) {gx gk : AV} (h1 : Sees G gx (a.eval x)) (h2 : Sees G gk (a.eval k)) (hok : (vLookup s.heap M.ks M.n M.one c (M.z.map ofC1) gx gk).ok) : ValS P G (Own C cls) a o (vLookup s.heap M.ks M.n M.one c (M.z.map ofC1) gx gk) := by
  obtain ⟨kt, et, d, hT⟩ := mapT_spec hM
  unfold vLookup at hok ⊢
  split at hok
  · rename_i kv
    have ek := h2.inv_v
    split at hok
    · have ex := h1.inv_v
      have hz := found_sees (G := G) (one := M.one) (c := c) false (sees_zero M.z) hT.one
      refine ValS.plain (v := if c = true then .tuple #[elV M.one M.z, .bool false] else elV M.one M.z) hz (found_id _ _ _ _) fun w' => ?_
      have hck := run_checkKey (P := P) (w := w') hT.k (hT.key _ hok) true
      have hf : (Instr.findKey kt kv (#[] : Array MapEntry).toList).run P w' = .ok none w' := by
        have := run_findKey (P := P) (w := w') hT.k (hT.key _ hok) M.one (l := []) (fun e he => by cases he)
        exact this
      simp only [execOp, ho, ex, ek, Instr.lookup, Sem.run_bind, run_underlying hT.t, Result.andThen_ok, Sem.run_pure]
      show ((((Instr.checkKey true 10000 kt kv).run P w').andThen _) ).andThen _ = _
      rw [hck, Result.andThen_ok, hf, Result.andThen_ok]
      simp only [Sem.run_bind, hT.z, Result.andThen_ok, Sem.run_pure]
    · rename_i i n' one'
      obtain ⟨b, ex, hb, hkb⟩ := h1.inv_mp
      split at hok
      · rename_i p hp
        obtain ⟨⟨e1, e2⟩, hkv, hks⟩ := hok
        subst e1 e2
        obtain ⟨_, hn, m, hv, hm, hone, _, hw⟩ := h.mapHere hb hkb hp
        have hkey := keysOk_of hm hks hT.key
        have hres : Sees G (found M.one c (M.z.map ofC1) (AEnt.find kv p.2 0)) (match Ent.find kv m 0 with
            | some p => if c then .tuple #[(p.2.entry M.one).val, .bool true] else (p.2.entry M.one).val
            | none => if c then .tuple #[elV M.one M.z, .bool false] else elV M.one M.z) := by
          rcases hm.find kv 0 with ⟨f1, f2⟩ | ⟨j, e, y, f1, f2, f3, _, _, f6⟩
          · rw [f1, f2]; exact found_sees false (sees_zero M.z) hT.one
          · rw [f1, f2]
            exact found_sees true f3.2.2 (hone y (List.mem_of_getElem? f6))
        refine ⟨_, hres, .none _ (found_id _ _ _ _), fun _ => found_id _ _ _ _, fun G' w' hE hW hld => ?_⟩
        have hr := run_lookup (P := P) (w := w') hT.t hT.k (hT.key _ hkv) (one := M.one) (hw hT.pos G' w' hE hW (hld i (by simp))) hkey (hT.z w') c
        simp only [execOp, ho, ex, ek, Sem.run_bind, hr, Result.andThen_ok, Sem.run_pure]
      · exact hok.elim
    · exact hok.elim
  · exact hok.elim
theorem val_lenM (h : Rel C N G cls s a w) (o : Oper) (t : TypeId) (x : Operand) (ho : o.op = .call { callee := .builtin .len, args := #[x], argTypes := #[t] }) {M : MapT} (hM : mapT P t = some M) {gx : AV} (h1 : Sees G gx (a.eval x)) (hok : (vLenM s.heap M.n M.one gx).ok) : ValS P G (Own C cls) a o (vLenM s.heap M.n M.one gx) := by
  obtain ⟨kt, et, d, hT⟩ := mapT_spec hM
  unfold vLenM at hok ⊢
  split at hok
  · exact ValS.plain (.v _) rfl fun w' => by simp [execOp, ho, h1.inv_v, resolve, invoke, builtin, Builtin.len_, run_underlying hT.t, goInt]
  · rename_i i n' one'
    obtain ⟨b, ex, hb, hkb⟩ := h1.inv_mp
    split at hok
    · rename_i p hp
      obtain ⟨e1, e2⟩ := hok
      subst e1 e2
      obtain ⟨_, hn, m, hv, hm, hone, _, hw⟩ := h.mapHere hb hkb hp
      refine ⟨.int .i64 (m.length : Int), by rw [hm.length]; exact .v _, .none _ rfl, fun _ => rfl, fun G' w' hE hW hld => ?_⟩
      have hr := run_lenMap (P := P) (w := w') hT.t (one := M.one) (hw hT.pos G' w' hE hW (hld i (by simp))) #[t] rfl o.type
      simp only [execOp, ho, resolve, invoke, builtin, Sem.run_bind, Sem.run_pure, Result.andThen_ok, List.map_toArray, Array.map_map]
      simp only [List.map_cons, List.map_nil, ex, hr, Result.andThen_ok]
    · exact hok.elim
  · exact hok.elim
theorem val_mnil {R : Nat → Id → Prop} (o : Oper) (neg : Bool) (t k e u : TypeId) (x : Operand) (ho : o.op = .binOp (bif neg then .neq else .eql) t x (.const (.map none)) u) (ht : P.underlying t = some (.map k e)) {gx : AV} (h1 : Sees G gx (a.eval x)) (hok : (vMnil neg gx).ok) : ValS P G R a o (vMnil neg gx) := by
  have key : ∀ (p : Option Nat), a.eval x = .map p → ∀ w' : World, (execOp a.eval o).run P w' = .ok (.value (.bool (bif neg then !p.isNone else p.isNone))) w' := fun p hp w' => by
    have ec : a.eval (.const (.map none)) = .map none := rfl
    have hg : ∀ op, (eqGuard op t x (.const (.map none)) (.map p) (.map none)).run P w' = .ok () w' := fun op => by cases op <;> rfl
    have he : (Op.equal t (.map p) (.map none)).run P w' = .ok p.isNone w' := by
      show (Op.equalIn (9999 + 1) t _ _).run P w' = _
      rw [Op.equalIn]
      cases p <;> simp [run_underlying ht]
    cases neg
    · simp only [execOp, ho, hp, ec, cond_false, Sem.run_bind, hg, Result.andThen_ok, binOp, he, Sem.run_pure]
    · simp only [execOp, ho, hp, ec, cond_true, Sem.run_bind, hg, Result.andThen_ok, binOp, he, Sem.run_pure]
  unfold vMnil at hok ⊢
  split at hok
  · obtain ⟨b, he, _⟩ := h1.inv_mp
    refine ValS.plain (.v _) rfl fun w' => ?_
    rw [key _ he w']; cases neg <;> rfl
  · refine ValS.plain (.v _) rfl fun w' => ?_
    rw [key none h1.inv_v w']; cases neg <;> rfl
  · exact hok.elim
theorem run_entry_born {r bm since clock : Nat} {seen : List Nat} {st : Nat} {m : List Ent} {one : Bool} {x : Ent} (hr : w.heap[r]? = some (.mapIter (some bm) since seen.toArray clock)) (hb : w.heap[bm]? = some (.map (m.map (Ent.entry one)).toArray clock)) (hl : seen.getLast? = some st) (hx : m.find? (fun y => y.born == st) = some x) :
    (Instr.entry (.pointer (some ⟨r, 0, none⟩))).run P w = .ok (.tuple #[x.key, (x.entry one).val]) w := by
  have hf : (m.map (Ent.entry one)).toArray.find? (·.born == st) = some (x.entry one) := by
    rw [← Array.find?_toList]
    show (m.map (Ent.entry one)).find? _ = _
    rw [List.find?_map]
    have e : ((fun e : MapEntry => e.born == st) ∘ Ent.entry one) = fun y : Ent => y.born == st := rfl
    rw [e, hx]; rfl
  have hbk : seen.toArray.back? = some st := by rw [List.back?_toArray]; exact hl
  simp only [Instr.entry, getObj, Sem.run_bind, Sem.run, hr, hb, Result.andThen, hbk, bne_self_eq_false, Bool.false_eq_true, if_false, hf]
  rfl
theorem val_entry (h : Rel C N G cls s a w) (o : Oper) (x : Operand) (ho : o.op = .entry x) {gx : AV} (h1 : Sees G gx (a.eval x)) (hok : (vEntry s.heap gx).ok) : ValS P G (Own C cls) a o (vEntry s.heap gx) := by
  unfold vEntry at hok ⊢
  split at hok
  · rename_i j i n one
    obtain ⟨b, mb, ex, hb, hk, b', rfl, hb', hk'⟩ := h1.inv_itr
    split at hok
    · rename_i q p hq hp
      split at hok
      · rename_i e he
        obtain ⟨h3, hpos⟩ := hok
        cases hl : q.2.2.getLast? with
        | none => rw [hl] at he; cases he
        | some st =>
          rw [hl] at he
          replace he : AEnt.at_ st p.2 = some e := he
          obtain ⟨_, hn, m, hv, hm, hone, _, hw⟩ := h.mapHere hb' hk' hp
          obtain ⟨_, hvi, hwi⟩ := h.itHere hb hk hq
          obtain ⟨y, f1, f2⟩ := hm.at_ st he
          have hy : y ∈ m := List.mem_of_find?_eq_some f1
          refine ⟨.tuple #[y.key, (y.entry one).val], .tup _ [_, _] rfl (SeesL.cons (by rw [f2.1]; exact .v _) (SeesL.cons (sees_elA one f2.2.2 (hone y hy)) SeesL.nil)).2, .none _ rfl, fun _ => rfl, fun G' w' hE hW hld => ?_⟩
          have w1 := hwi G' w' hE hW (hld j (by simp))
          have w2 := hw hpos G' w' hE hW (hld i (by simp))
          rw [h3] at w1
          have hr := run_entry_born (P := P) w1 w2 hl f1
          simp only [execOp, ho, ex, Sem.run_bind, hr, Result.andThen_ok, Sem.run_pure]
      · exact hok.elim
    · exact hok.elim
  · exact hok.elim
/-- A variable of another kind turns. -/
theorem WorldOk.turnK {G : Ghost} {w : World} (h : WorldOk G w) {i b : Nat} {κ0 : Kind} (hb : G.boxes[i]? = some b) (hk : G.kinds b = some κ0) {us : List Value} (hv : G.boxv[i]? = some us) (vs : List Value) (hvs : vs.head? = some (.chan none)) :
    WorldOk (G.setBox i (vs)) (w.putObj b (κ0.obj vs)) := by
  obtain ⟨b1, b2, b3, _⟩ := h.box i b us hb hv
  obtain ⟨q1, q2⟩ := h.obj.kbox i b us _ hb hv hk
  have hne : us ≠ [] := fun e => by subst e; cases q2
  have hbf := b3 hne
  have oth : ∀ b', b' ≠ b → ∀ j, (w.putObj b (κ0.obj vs)).cell? ⟨b', j, none⟩ = w.cell? ⟨b', j, none⟩ ∧ (w.putObj b (κ0.obj vs)).frozen? ⟨b', j, none⟩ = w.frozen? ⟨b', j, none⟩ := fun b' hb' j => by
    have := World.putObj_heap_other (w := w) (o := κ0.obj vs) hb'
    exact ⟨World.cell?_of_block (a := ⟨b', j, none⟩) this, World.frozen?_of_block (a := ⟨b', j, none⟩) this⟩
  have at_ : ∀ i' us', (G.boxv.set i (vs))[i']? = some us' → (i' = i ∧ us' = vs) ∨ (i ≠ i' ∧ G.boxv[i']? = some us') := fun i' us' e => by
    rw [List.getElem?_set] at e
    by_cases hi : i = i'
    · subst hi
      rw [if_pos rfl, if_pos (List.getElem?_eq_some_iff.1 hv).1] at e
      injection e with e
      exact .inl ⟨rfl, e.symm⟩
    · rw [if_neg hi] at e
      exact .inr ⟨hi, e⟩
  refine ⟨h.below.trans ⟨rfl, rfl, rfl, by simp, fun k hk => World.putObj_heap_other (by have := h.below.size; omega)⟩, fun b' B hB => ?_, fun i' b' us' h1 h2 => ?_, ⟨h.nodup.set hv hne _, h.dom⟩, by simp [Ghost.setBox, h.len], fun b' o ho => ?_, fun i' b' us' κ h1 h2 h3 => ?_, fun b' hb' => ?_, fun b' j hj => ?_⟩
  · obtain ⟨p1, p2, p3, p4, p5⟩ := h.buf b' B hB
    have hbb : b' ≠ b := fun e => by subst e; rw [show G.bufs b' = some B from hB] at hbf; cases hbf
    exact ⟨p1, by simpa using p2, p3, fun j hj => by rw [(oth b' hbb j).1, (oth b' hbb j).2]; exact p4 j hj, fun j z hz => by rw [(oth b' hbb j).1]; exact p5 j z hz⟩
  · rcases at_ i' us' h2 with ⟨rfl, rfl⟩ | ⟨hi, h4⟩
    · have hbb : b' = b := by have e : G.boxes[i']? = some b' := h1; rw [hb] at e; injection e with e; exact e.symm
      subst hbb
      exact ⟨b1, by simpa using b2, fun _ => hbf, fun j z hz hkn => by rw [show G.kinds b' = none from hkn] at hk; cases hk⟩
    · obtain ⟨p1, p2, p3, p4⟩ := h.box i' b' us' h1 h4
      by_cases hn' : us' = []
      · subst hn'
        exact ⟨p1, by simpa using p2, p3, fun j z hz => by simp at hz⟩
      have hbb : b' ≠ b := fun e => by
        subst e
        have := h.nodup.other hb h1 hi hv hne
        rw [h4] at this; injection this with this; exact hn' this
      exact ⟨p1, by simpa using p2, p3, fun j z hz hkn => by rw [(oth b' hbb _).1, (oth b' hbb _).2]; exact p4 j z hz hkn⟩
  · obtain ⟨p1, p2, p3⟩ := h.obj.obj b' o ho
    have hbb : b' ≠ b := fun e => by subst e; rw [q1] at p1; injection p1 with p1; exact p3 _ _ p1.symm
    exact ⟨(World.putObj_heap_other hbb).trans p1, p2, p3⟩
  · rcases at_ i' us' h2 with ⟨rfl, rfl⟩ | ⟨hi, h4⟩
    · have hbb : b' = b := by have e : G.boxes[i']? = some b' := h1; rw [hb] at e; injection e with e; exact e.symm
      subst hbb
      have e : κ = κ0 := by have e : G.kinds b' = some κ := h3; rw [hk] at e; injection e with e; exact e.symm
      subst e
      exact ⟨World.putObj_heap_same b2, hvs⟩
    · obtain ⟨p1, p2⟩ := h.obj.kbox i' b' us' κ h1 h4 h3
      have hbb : b' ≠ b := fun e => by
        subst e
        have := h.nodup.other hb h1 hi hv hne
        rw [h4] at this; injection this with this; subst this; cases p2
      exact ⟨(World.putObj_heap_other hbb).trans p1, p2⟩
  · simpa using h.obj.kind b' hb'
  · have p := h.obj.room b' j hj
    have hbb : b' ≠ b := fun e => by subst e; exact no_cell q1 (κ0.noCells us) p.1
    rw [(oth b' hbb j).1, (oth b' hbb j).2]; exact p
end
end Go.Proofs.YtofkddajlgebjaaGreat.Ax
