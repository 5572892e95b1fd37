/- Operations in a frame that may be a round of a loop over a function; a call of what such a loop hands over. No program is named here. -/
import Derived.Test.YtofkddajlgebjaaGreatQAxH
import Derived.Test.YtofkddajlgebjaaGreatQAxMa
import Derived.Great.BuildSlice
import Derived.Lib.SliceRun
import Derived.Lib.ConvBytes
import Derived.Laws.IdiomStrings
import Derived.RangeFuncSeq
import Derived.OrdersIn
import Derived.TacticsIn
import Derived.Deep.RegionHeld3
/- Whether copying is told. No program is named here. -/
namespace Go.Proofs.YtofkddajlgebjaaGreat.Ax
open Go

def copCopy (_P : Program) (_t _u : TypeId) (_x _y : Operand) : Option XOp := none
theorem copCopy_is {P : Program} {t u : TypeId} {x y : Operand} {z : XOp} (h : copCopy P t u x y = some z) : z = .copyB x y := by cases h
end Go.Proofs.YtofkddajlgebjaaGreat.Ax
/- From the model's operations to those over values without memory; the values that they yield. No program is named here. -/
namespace Go.Proofs.YtofkddajlgebjaaGreat.Ax
open Go.RowKit Go By

def szOf (P : Program) (t : TypeId) : Option Nat := (P.info? t).map (·.size)
def zeroC (P : Program) (t : TypeId) : Option (List Value) :=
  match P.info? t with
  | some i => match i.zero with
    | some z => if z.cells.toList.all (·.oneCell') then some z.cells.toList else none
    | none => none
  | none => none
def elemK (P : Program) (t : TypeId) : Option (TypeId × Nat) :=
  match P.underlying t with
  | some (.slice e) => match szOf P e with
    | some k => if 0 < k then some (e, k) else none
    | none => none
  | _ => none
def copBuild (P : Program) (t : TypeId) (parts : Array (Nat × Operand)) : Option XOp :=
  match P.underlying t with
  | some (.struct fs) =>
    match zeroC P t, fs.toList.mapM (fun f => (P.info? f.type).map fun i => (f.offset, i.size)) with
    | some z, some places => match placed places parts.toList with
      | some xs => some (.build (z.map ofC1) xs)
      | none => none
    | _, _ => none
  | some (.array _ e) =>
    match zeroC P t, P.info? e with
    | some z, some i => some (.build (z.map ofC1) (parts.toList.map fun p => (p.1 * i.size, i.size, p.2)))
    | _, _ => none
  | _ => none
def copBuildSlice (P : Program) (t : TypeId) (len : Nat) (parts : Array (Nat × Operand)) : Option XOp :=
  match elemK P t with
  | some (e, k) => match zeroC P e with
    | some z => if z.length = k ∧ 0 < len ∧ len * k ≤ 1000 then some (.buildSlice k len (z.map ofC1) parts.toList) else if len = 0 ∧ parts.toList.isEmpty = true then some (.emptyS k) else none
    | none => none
  | none => none
def copAeq (P : Program) (op : BinOp) (t : TypeId) (x y : Operand) : Option XOp :=
  match kindsT P t with
  | some ts => if P.stoodInHeld t = false ∧ P.eqGuardType P.depth t = false then
      match op with
      | .eql => some (.aeq false ts x y)
      | .neq => some (.aeq true ts x y)
      | _ => none
    else none
  | none => none
def copBin (P : Program) (op : BinOp) (t : TypeId) (x y : Operand) : Option XOp :=
  match P.underlying t with
  | some .bool => match op with
    | .eql => some (.beq false x y)
    | .neq => some (.beq true x y)
    | _ => none
  | some (.slice _) => match op, y with
    | .eql, .const (.slice none 0 0) => some (.nileq false x)
    | .neq, .const (.slice none 0 0) => some (.nileq true x)
    | _, _ => none
  | some (.int _) => some (.bin op x y)
  | some .string => some (.bin op x y)
  | some (.pointer _) => match op, y with
    | .eql, .const (.pointer none) => some (.pnileq false x)
    | .neq, .const (.pointer none) => some (.pnileq true x)
    | _, _ => none
  | some (.map _ _) => match op, y with
    | .eql, .const (.map none) => some (.mnileq false x)
    | .neq, .const (.map none) => some (.mnileq true x)
    | _, _ => none
  | some (.interface _) => match op, y with
    | .eql, .const .nilIface => some (.inileq false x)
    | .neq, .const .nilIface => some (.inileq true x)
    | _, _ => none
  | some (.array _ _) => copAeq P op t x y
  | some (.struct _) => copAeq P op t x y
  | _ => none
def copConv (P : Program) (t u : TypeId) (x : Operand) : Option XOp :=
  match P.underlying t, P.underlying u with
  | some _, some (.int k) => some (.conv k x)
  | some .string, some .string => some (.same x)
  | some (.slice e), some .string => match P.underlying e with
    | some (.int .u8) => some (.b2s x)
    | _ => none
  | some .string, some (.slice e) => match P.underlying e with
    | some (.int .u8) => some (.s2b x)
    | _ => none
  | _, _ => none
def copSlice (P : Program) (t : TypeId) (x : Operand) (lo hi mx : Option Operand) : Option XOp :=
  match P.underlying t with
  | some (.slice e) => match szOf P e with
    | some k => if mx.isSome = true → hi.isSome = true then some (.slice k x lo hi mx) else none
    | none => none
  | some .string => match mx with
    | none => some (.sliceS x lo hi)
    | some _ => none
  | _ => none
def copField (P : Program) (t : TypeId) (x : Operand) (n : Nat) : Option XOp :=
  match P.underlying t with
  | some (.struct fs) => match fs[n]? with
    | some f => match szOf P f.type with
      | some (_ + 1) => some (.faddr f.offset x)
      | _ => none
    | none => none
  | _ => none
def copFld (P : Program) (t : TypeId) (x : Operand) (n : Nat) : Option XOp :=
  match P.underlying t with
  | some (.struct fs) => match fs[n]? with
    | some f => match P.underlying f.type with
      | some (.struct _) => (szOf P f.type).map fun k => .fld k false f.offset x
      | some (.array _ _) => (szOf P f.type).map fun k => .fld k false f.offset x
      | some _ => some (.fld 1 true f.offset x)
      | none => none
    | none => none
  | _ => none
def copI (P : Program) (t : TypeId) (x : Operand) : Option XOp := if P.concrete t = true then some (.mkI t x) else none
def copLoad (P : Program) (t : TypeId) (x : Operand) : Option XOp :=
  match P.underlying t with
  | some (.struct _) => (szOf P t).map fun n => .loadN n x
  | some (.array _ _) => (szOf P t).map fun n => .loadN n x
  | some _ => some (.load1 x)
  | none => none
/-- Is it the slice that is nil, written out? -/
def isNilS : Operand → Bool
  | .const (.slice none 0 0) => true
  | _ => false
theorem isNilS_spec {s : Operand} (h : isNilS s = true) : s = .const (.slice none 0 0) := by
  unfold isNilS at h
  split at h
  · rfl
  · cases h
def copAppend (P : Program) (t u : TypeId) (s x : Operand) : Option XOp :=
  match elemK P t with
  | some (e, k) => match zeroC P e, P.info? e with
    | some z, some i =>
      if z.length = k then
        match P.underlying u with
        | some (.slice _) => some (if k ≠ 1 ∧ isNilS s = true then .appendN k i.bytes x else .append k i.bytes s x)
        | some .string => if k = 1 ∧ i.bytes = 1 then some (.appendS s x) else none
        | _ => none
      else none
    | _, _ => none
  | none => none
def copLen (P : Program) (t : TypeId) (x : Operand) : Option XOp :=
  match P.underlying t with
  | some .string => some (.lenS x)
  | some (.slice _) => some (.lenL x)
  | some (.map _ _) => match mapT P t with
    | some M => some (.lenM M.n M.one x)
    | none => none
  | _ => none
def copLookup (P : Program) (t : TypeId) (x k : Operand) (c : Bool) : Option XOp :=
  match mapT P t with
  | some M => some (.lookup M.ks M.n M.one c (M.z.map ofC1) x k)
  | none => none
def copMake (P : Program) (t : TypeId) (r : Option Operand) : Option XOp :=
  match r, mapT P t with
  | none, some M => some (.makeMap M.n M.one)
  | _, _ => none
def copUpd (P : Program) (t : TypeId) (m k x : Operand) : Option XOp :=
  match mapT P t with
  | some M => some (.mapUpd M.ks M.n M.one m k x)
  | none => none
def copDel (P : Program) (t : TypeId) (m k : Operand) : Option XOp :=
  match mapT P t with
  | some M => some (.mapDel M.ks M.n M.one m k)
  | none => none
def copRange (P : Program) (t : TypeId) (x : Operand) : Option XOp :=
  match mapT P t with
  | some M => some (.rangeM M.n M.one x)
  | none => none
/-- A zero of one cell that owns nothing. -/
def zeroOne : Value → Bool
  | .int _ _ => true
  | .slice none 0 0 => true
  | _ => false
def isNoText : Value → Bool
  | .string s => s.size == 0
  | _ => false
/-- What each cell holds of k elements' cells that are zero. -/
def zeroOf (k : Nat) (z : Value) : Option Value :=
  if k = 1 ∧ zeroOne z = true then some z else if z.cells.toList.length = k ∧ z.cells.toList.all isNoText = true then some (.string ⟨#[]⟩) else none
theorem zeroOf_spec {k : Nat} {z c : Value} (h : zeroOf k z = some c) : z.cells.toList = List.replicate k c ∧ c.oneCell' = true ∧ (ofC1 c).idOf = none ∧ ∀ G : Ghost, Sees G (ofC1 c) c := by
  unfold zeroOf at h
  split at h
  · rename_i hz
    obtain ⟨rfl, hz1⟩ := hz
    injection h with h
    subst h
    unfold zeroOne at hz1
    split at hz1
    · exact ⟨rfl, rfl, rfl, fun _ => .v _⟩
    · exact ⟨rfl, rfl, rfl, fun _ => .sl 0 [] (some true) .exact none 0 0 (fun _ _ => undef) rfl ⟨fun _ => ⟨rfl, rfl⟩, fun _ => rfl, fun h => (by cases h)⟩ (fun e h => by cases h) (Nat.le_refl _) (by simp [maxLen]) (fun _ => rfl) (fun h => by simp at h) (fun i e h => by simp at h) (fun i j h => by simp at h)⟩
    · cases hz1
  · split at h
    · rename_i hz
      injection h with h
      subst h
      refine ⟨List.eq_replicate_iff.2 ⟨hz.1, fun x hx => ?_⟩, rfl, rfl, fun _ => .v _⟩
      have := List.all_eq_true.1 hz.2 x hx
      unfold isNoText at this
      split at this
      · rename_i s
        obtain ⟨⟨d⟩⟩ := s
        have h0 : d = [] := by
          have : d.length = 0 := by simpa [ByteArray.size] using this
          exact List.eq_nil_of_length_eq_zero this
        rw [h0]
      · cases this
    · cases h
def copClear (P : Program) (t : TypeId) (x : Operand) : Option XOp :=
  match elemK P t with
  | some (e, k) => match (P.info? e).bind (·.zero) with
    | some z => match zeroOf k z with
      | some c => some (.clearS k c x)
      | none => none
    | none => none
  | none => match mapT P t with
    | some M => some (.clearM M.n M.one x)
    | none => none
def copCall (P : Program) (c : Call) : Option XOp :=
  match c.callee with
  | .value (.func f) => some (.call f c.args.toList)
  | .value x => some (.callv x c.args.toList)
  | .builtin .len => match c.args.toList, c.argTypes.toList with
    | [x], [t] => copLen P t x
    | _, _ => none
  | .builtin .delete => match c.args.toList, c.argTypes.toList with
    | [m, k], t :: _ => copDel P t m k
    | _, _ => none
  | .builtin .clear => match c.args.toList, c.argTypes.toList with
    | [x], [t] => copClear P t x
    | _, _ => none
  | .builtin .copy => match c.args.toList, c.argTypes.toList with
    | [x, y], [t, u] => copCopy P t u x y
    | _, _ => none
  | .builtin .max => some (.maxI c.args.toList)
  | .builtin .min => some (.minI c.args.toList)
  | .builtin .append => match c.args.toList, c.argTypes.toList with
    | [s, x], [t, u] => copAppend P t u s x
    | _, _ => none
  | _ => none
/-- Which slot it is. -/
def slotOf : Operand → Option Nat
  | .tmp t => some t
  | _ => none
/-- An element's address: of a slice, or of an array. -/
def copIaddr (P : Program) (t : TypeId) (x i : Operand) : Option XOp :=
  match elemK P t with
  | some p => some (.iaddr p.2 x i)
  | none => match P.underlying t with
    | some (.array n e) => match szOf P e with
      | some k => some (.iaddrA n k x i)
      | none => none
    | _ => none
theorem slotOf_eq {u : Nat} {y : Operand} (h : slotOf y = some u) : Operand.tmp u = y := by cases y <;> simp [slotOf] at h; rw [h]
def sameC (m : Int) : Operand → Bool
  | .const (.int .i64 n) => m == n
  | _ => false
theorem sameC_eq {m : Int} {y : Operand} (h : sameC m y = true) : Operand.const (.int .i64 m) = y := by
  unfold sameC at h
  split at h
  · rw [beq_iff_eq] at h; rw [h]
  · cases h
def copMakeS (P : Program) (t : TypeId) (l c : Operand) : Option XOp :=
  match elemK P t with
  | some (e, k) => match zeroC P e, P.info? e, l with
    | some _, some i, .const (.int .i64 0) => if i.size = k then some (.makeS k i.bytes c) else none
    | some z, some i, .const (.int .i64 m) => if (i.size = k ∧ z.length = k) ∧ sameC m c = true then some (.makeB k i.bytes (z.map ofC1) c) else none
    | some z, some i, .tmp u => if (i.size = k ∧ z.length = k) ∧ slotOf c = some u then some (.makeB k i.bytes (z.map ofC1) c) else none
    | _, _, _ => none
  | none => none
def cop (P : Program) : Op → Option XOp
  | .move x => some (.move x)
  | .assign x => some (.assign x)
  | .pick c a b => some (.pick c a b)
  | .alloc t => (zeroC P t).map fun z => .alloc (z.map ofC1)
  | .box _ x => some (.box x)
  | .build t parts => copBuild P t parts
  | .buildSlice t len parts => copBuildSlice P t len parts
  | .load t x => copLoad P t x
  | .store t p x => (szOf P t).map fun n => .store n p x
  | .nilCheck x => some (.nilCheck x)
  | .binOp op t x y _ => copBin P op t x y
  | .unOp op _ x => some (.un op x)
  | .convert t u x => copConv P t u x
  | .makeFunc f first cap => some (.mkfn f first.toList cap.toList)
  | .slice t x lo hi mx => copSlice P t x lo hi mx
  | .fieldAddr t x n => copField P t x n
  | .field t x n => copFld P t x n
  | .makeInterface t x => copI P t x
  | .indexAddr t x i => copIaddr P t x i
  | .index t x i => match P.underlying t with
    | some .string => some (.idxS x i)
    | _ => none
  | .extract x i => some (.extract x i)
  | .lookup t x k c => copLookup P t x k c
  | .makeMap t r => copMake P t r
  | .makeSlice t l c => copMakeS P t l c
  | .mapUpdate t m k x => copUpd P t m k x
  | .insert t m k x => copUpd P t m k x
  | .range t x => copRange P t x
  | .entry x => some (.entry x)
  | .call c => copCall P c
  | _ => none

theorem zeroC_spec {P : Program} {t : TypeId} {l : List Value} (h : zeroC P t = some l) : ∃ i z, P.info? t = some i ∧ i.zero = some z ∧ z.cells.toList = l ∧ z.cells.toList.all (·.oneCell') = true := by
  unfold zeroC at h
  split at h
  · rename_i i hi
    split at h
    · rename_i z hz
      split at h
      · rename_i h1
        injection h with h
        exact ⟨i, z, hi, hz, h, h1⟩
      · cases h
    · cases h
  · cases h
theorem elemK_spec {P : Program} {t e : TypeId} {k : Nat} (h : elemK P t = some (e, k)) : P.underlying t = some (.slice e) ∧ szOf P e = some k ∧ 0 < k := by
  unfold elemK at h
  split at h
  · rename_i e' he
    split at h
    · rename_i k' hk
      split at h
      · rename_i h0
        injection h with h
        injection h with h1 h2
        subst h1 h2
        exact ⟨he, hk, h0⟩
      · cases h
    · cases h
  · cases h

section
variable {P : Program} {C : Ctx} {N : Nat} {G : Ghost} {cls : Nat → Id} {s : St} {a : Act} {w : World}
def fitsAll (N : Nat) (o : Oper) : Bool := o.op.operands.toList.all (fitsO N) && (match o.dst with | some d => decide (d < N) | none => true)
theorem fits_mem {o : Oper} (h : fitsAll N o = true) {x : Operand} (hx : x ∈ o.op.operands.toList) : fitsO N x = true := by
  unfold fitsAll at h
  rw [Bool.and_eq_true] at h
  exact List.all_eq_true.1 h.1 x hx
theorem fits_dst {o : Oper} (h : fitsAll N o = true) : ∀ d, o.dst = some d → d < N := fun d hd => by
  unfold fitsAll at h
  rw [Bool.and_eq_true, hd] at h
  simpa using h.2
theorem val_copAeq {op : BinOp} {t u : TypeId} {y z : Operand} {x : XOp} {o : Oper} (hc : copAeq P op t y z = some x) (ho : o.op = .binOp op t y z u) (h1 : Sees G (s.get y) (a.eval y)) (h2 : Sees G (s.get z) (a.eval z)) (hok : (xval s x).ok) : ValS P G (Own C cls) a o (xval s x) := by
  unfold copAeq at hc
  split at hc
  · rename_i ts hts
    split at hc
    · rename_i hh
      split at hc
      · injection hc with hc; subst hc; exact val_aeq o false ts t u y z ho hts hh.1 hh.2 h1 h2 hok
      · injection hc with hc; subst hc; exact val_aeq o true ts t u y z ho hts hh.1 hh.2 h1 h2 hok
      · cases hc
    · cases hc
  · cases hc
theorem val_sound (h : Rel C N G cls s a w) (o : Oper) (x : XOp) (hc : cop P o.op = some x) (hv : x.isVal = true) (hf : fitsAll N o = true) (hok : (xval s x).ok) : ValS P G (Own C cls) a o (xval s x) := by
  have hg : ∀ y, y ∈ o.op.operands.toList → Sees G (s.get y) (a.eval y) := fun y hy => h.get (fits_mem hf hy)
  have hfm : ∀ y, y ∈ o.op.operands.toList → fitsO N y = true := fun y hy => fits_mem hf hy
  cases ho : o.op with
  | move y => rw [ho] at hc; injection hc with hc; subst hc; exact val_move h o y ho (hfm y (by rw [ho]; simp [Op.operands]))
  | assign y => rw [ho] at hc; injection hc with hc; subst hc; cases hv
  | pick c y z =>
    rw [ho] at hc; injection hc with hc; subst hc
    exact val_pick o c y z ho (hg c (by rw [ho]; simp [Op.operands])) (hg y (by rw [ho]; simp [Op.operands])) (hg z (by rw [ho]; simp [Op.operands])) hok
  | alloc t =>
    rw [ho] at hc
    replace hc : (zeroC P t).map (fun z => XOp.alloc (z.map ofC1)) = some x := hc
    cases hz : zeroC P t with
    | none => rw [hz] at hc; cases hc
    | some z => rw [hz] at hc; injection hc with hc; subst hc; cases hv
  | box t y => rw [ho] at hc; injection hc with hc; subst hc; cases hv
  | build t parts =>
    rw [ho] at hc
    replace hc : copBuild P t parts = some x := hc
    unfold copBuild at hc
    split at hc
    · rename_i fs hu
      split at hc
      · rename_i z places hz hpl
        split at hc
        · rename_i xs hxs
          injection hc with hc
          subst hc
          obtain ⟨i, zv, hi, hzv, hzl, hz1⟩ := zeroC_spec hz
          subst hzl
          exact val_build o t parts ho fs hu i hi zv hzv hz1 places hpl xs hxs s.get (fun p hp => hg p.2 (by rw [ho]; simp [Op.operands]; exact ⟨p.1, by simpa using hp⟩)) hok
        · cases hc
      · cases hc
    · rename_i n e hu
      split at hc
      · rename_i z i hz hi
        injection hc with hc
        subst hc
        obtain ⟨it, zv, hit, hzv, hzl, hz1⟩ := zeroC_spec hz
        subst hzl
        exact val_buildA o t parts ho n e hu it hit zv hzv hz1 i hi s.get (fun p hp => hg p.2 (by rw [ho]; simp [Op.operands]; exact ⟨p.1, by simpa using hp⟩)) hok
      · cases hc
    · cases hc
  | buildSlice t len parts =>
    rw [ho] at hc
    replace hc : copBuildSlice P t len parts = some x := hc
    unfold copBuildSlice at hc
    split at hc
    · split at hc
      · split at hc
        · injection hc with hc; subst hc; cases hv
        · split at hc
          · injection hc with hc; subst hc; cases hv
          · cases hc
      · cases hc
    · cases hc
  | load t y =>
    rw [ho] at hc
    replace hc : copLoad P t y = some x := hc
    unfold copLoad at hc
    have hy := hg y (by rw [ho]; simp [Op.operands])
    split at hc
    · rename_i fs hd
      cases hn : szOf P t with
      | none => rw [hn] at hc; cases hc
      | some n => rw [hn] at hc; injection hc with hc; subst hc; exact val_loadN h o t n _ y ho hd (.inl ⟨fs, rfl⟩) hn hy hok
    · rename_i n e hd
      cases hn : szOf P t with
      | none => rw [hn] at hc; cases hc
      | some m => rw [hn] at hc; injection hc with hc; subst hc; exact val_loadN h o t m _ y ho hd (.inr ⟨n, e, rfl⟩) hn hy hok
    · rename_i d hne1 hne2 hd
      injection hc with hc
      subst hc
      exact val_load1 h o t d y ho hd (fun fs n e => ⟨fun he => hne1 fs he, fun he => hne2 n e he⟩) hy hok
    · cases hc
  | store t p y =>
    rw [ho] at hc
    replace hc : (szOf P t).map (fun n => XOp.store n p y) = some x := hc
    cases hn : szOf P t with
    | none => rw [hn] at hc; cases hc
    | some n => rw [hn] at hc; injection hc with hc; subst hc; cases hv
  | nilCheck y => rw [ho] at hc; injection hc with hc; subst hc; exact val_nil o y ho (hg y (by rw [ho]; simp [Op.operands])) hok
  | binOp op t y z u =>
    rw [ho] at hc
    replace hc : copBin P op t y z = some x := hc
    unfold copBin at hc
    have hy := hg y (by rw [ho]; simp [Op.operands])
    have hz := hg z (by rw [ho]; simp [Op.operands])
    split at hc
    · rename_i ht
      split at hc
      · injection hc with hc; subst hc; exact val_beq o false t u y z ho ht hy hz hok
      · injection hc with hc; subst hc; exact val_beq o true t u y z ho ht hy hz hok
      · cases hc
    · rename_i e ht
      split at hc
      · injection hc with hc; subst hc; exact val_nileq o false t e u y ho ht hy hok
      · injection hc with hc; subst hc; exact val_nileq o true t e u y ho ht hy hok
      · cases hc
    · injection hc with hc; subst hc; exact val_bin o op t u y z ho hy hz hok
    · injection hc with hc; subst hc; exact val_bin o op t u y z ho hy hz hok
    · rename_i e ht
      split at hc
      · injection hc with hc; subst hc; exact val_pnil o false t e u y ho ht hy hok
      · injection hc with hc; subst hc; exact val_pnil o true t e u y ho ht hy hok
      · cases hc
    · rename_i k e ht
      split at hc
      · injection hc with hc; subst hc; exact val_mnil o false t k e u y ho ht hy hok
      · injection hc with hc; subst hc; exact val_mnil o true t k e u y ho ht hy hok
      · cases hc
    · rename_i ms ht
      split at hc
      · injection hc with hc; subst hc; exact val_inil o false t u y ho ht hy hok
      · injection hc with hc; subst hc; exact val_inil o true t u y ho ht hy hok
      · cases hc
    · exact val_copAeq hc ho hy hz hok
    · exact val_copAeq hc ho hy hz hok
    · cases hc
  | unOp op t y => rw [ho] at hc; injection hc with hc; subst hc; exact val_un o op t y ho (hg y (by rw [ho]; simp [Op.operands])) hok
  | convert t u y =>
    rw [ho] at hc
    replace hc : copConv P t u y = some x := hc
    unfold copConv at hc
    have hy := hg y (by rw [ho]; simp [Op.operands])
    split at hc
    · rename_i d k ht hu
      injection hc with hc; subst hc; exact val_conv o k t u y ho hu (by rw [ht]; rfl) hy hok
    · rename_i ht hu
      injection hc with hc; subst hc; exact val_same o t u y ho hu ht hy hok
    · rename_i e ht hu
      split at hc
      · rename_i he
        injection hc with hc; subst hc; exact val_b2s o t e u y ho ht he hu hy hok
      · cases hc
    · split at hc
      · injection hc with hc; subst hc; cases hv
      · cases hc
    · cases hc
  | makeFunc f first cap =>
    rw [ho] at hc; injection hc with hc; subst hc
    exact val_mkfn o f first cap ho s.get (fun y hy => hg y (by rw [ho]; simp [Op.operands]; exact .inl (by simpa using hy))) (fun y hy => hg y (by rw [ho]; simp [Op.operands]; exact .inr (by simpa using hy)))
  | slice t y lo hi mx =>
    rw [ho] at hc
    replace hc : copSlice P t y lo hi mx = some x := hc
    unfold copSlice at hc
    split at hc
    · rename_i e ht
      split at hc
      · rename_i k hk
        split at hc
        · rename_i hmx
          injection hc with hc
          subst hc
          refine val_slice o t e k y lo hi mx ho ht hk hmx (hg y (by rw [ho]; simp [Op.operands])) (h.getOwn (hfm y (by rw [ho]; simp [Op.operands]))) (fun z hz => hg z ?_) hok
          rw [ho]
          rcases hz with rfl | rfl | rfl <;> simp [Op.operands]
        · cases hc
      · cases hc
    · rename_i ht
      split at hc
      · injection hc with hc
        subst hc
        refine val_sliceS o t y lo hi ho ht (hg y (by rw [ho]; simp [Op.operands])) (fun z hz => hg z ?_) hok
        rw [ho]
        rcases hz with rfl | rfl <;> simp [Op.operands]
      · cases hc
    · cases hc
  | fieldAddr t y n =>
    rw [ho] at hc
    replace hc : copField P t y n = some x := hc
    unfold copField at hc
    split at hc
    · rename_i fs hu
      split at hc
      · rename_i f hf'
        split at hc
        · rename_i m hm
          injection hc with hc
          subst hc
          cases hi : P.info? f.type with
          | none => unfold szOf at hm; rw [hi] at hm; cases hm
          | some i =>
            unfold szOf at hm
            rw [hi] at hm
            injection hm with hm
            have hm' : i.size = m + 1 := hm
            exact val_faddr o t n f.offset y ho fs f hu hf' rfl i hi (by omega) (hg y (by rw [ho]; simp [Op.operands])) hok
        · cases hc
      · cases hc
    · cases hc
  | indexAddr t y i =>
    rw [ho] at hc
    replace hc : copIaddr P t y i = some x := hc
    unfold copIaddr at hc
    split at hc
    · rename_i p he
      obtain ⟨e, k⟩ := p
      injection hc with hc
      subst hc
      obtain ⟨h1, h2, h3⟩ := elemK_spec he
      exact val_iaddr o t e k y i ho h1 h2 (hg y (by rw [ho]; simp [Op.operands])) (hg i (by rw [ho]; simp [Op.operands])) hok
    · split at hc
      · rename_i n e hu
        split at hc
        · rename_i k hk
          injection hc with hc
          subst hc
          exact val_iaddrA o t e n k y i ho hu hk (hg y (by rw [ho]; simp [Op.operands])) (hg i (by rw [ho]; simp [Op.operands])) hok
        · cases hc
      · cases hc
  | index t y i =>
    rw [ho] at hc
    replace hc : (match P.underlying t with
      | some .string => some (XOp.idxS y i)
      | _ => none) = some x := hc
    split at hc
    · rename_i ht
      injection hc with hc; subst hc
      exact val_idxS o t y i ho ht (hg y (by rw [ho]; simp [Op.operands])) (hg i (by rw [ho]; simp [Op.operands])) hok
    · cases hc
  | makeInterface t y =>
    rw [ho] at hc
    replace hc : copI P t y = some x := hc
    unfold copI at hc
    split at hc
    · rename_i ht
      injection hc with hc; subst hc; exact val_mkI o t y ho ht (hg y (by rw [ho]; simp [Op.operands]))
    · cases hc
  | field t y n =>
    rw [ho] at hc
    replace hc : copFld P t y n = some x := hc
    unfold copFld at hc
    have hy := hg y (by rw [ho]; simp [Op.operands])
    split at hc
    · rename_i fs hu
      split at hc
      · rename_i f hf'
        split at hc
        · rename_i fs2 hd
          cases hn : szOf P f.type with
          | none => rw [hn] at hc; cases hc
          | some k => rw [hn] at hc; injection hc with hc; subst hc; exact val_fldN o t n f.offset k y ho fs f hu hf' rfl _ hd (.inl ⟨fs2, rfl⟩) hn hy hok
        · rename_i m e hd
          cases hn : szOf P f.type with
          | none => rw [hn] at hc; cases hc
          | some k => rw [hn] at hc; injection hc with hc; subst hc; exact val_fldN o t n f.offset k y ho fs f hu hf' rfl _ hd (.inr ⟨m, e, rfl⟩) hn hy hok
        · rename_i d hne1 hne2 hd
          injection hc with hc
          subst hc
          exact val_fld1 o t n f.offset y ho fs f hu hf' rfl d hd (fun fs n e => ⟨fun he => hne1 fs he, fun he => hne2 n e he⟩) hy hok
        · cases hc
      · cases hc
    · cases hc
  | extract y i => rw [ho] at hc; injection hc with hc; subst hc; exact val_extract o i y ho (hg y (by rw [ho]; simp [Op.operands])) hok
  | lookup t y k c =>
    rw [ho] at hc
    replace hc : copLookup P t y k c = some x := hc
    unfold copLookup at hc
    split at hc
    · rename_i M hM
      injection hc with hc; subst hc
      exact val_lookup h o t c y k ho hM (hg y (by rw [ho]; simp [Op.operands])) (hg k (by rw [ho]; simp [Op.operands])) hok
    · cases hc
  | entry y => rw [ho] at hc; injection hc with hc; subst hc; exact val_entry h o y ho (hg y (by rw [ho]; simp [Op.operands])) hok
  | makeSlice t l c =>
    exfalso
    rw [ho] at hc
    replace hc : copMakeS P t l c = some x := hc
    revert hc
    unfold copMakeS
    repeat' split
    all_goals first | (intro hc; cases hc; done) | (intro hc; injection hc with hc; subst hc; cases hv)
  | makeMap t r =>
    exfalso
    rw [ho] at hc
    replace hc : copMake P t r = some x := hc
    unfold copMake at hc
    split at hc
    · injection hc with hc; subst hc; cases hv
    · cases hc
  | mapUpdate t m k y =>
    exfalso
    rw [ho] at hc
    replace hc : copUpd P t m k y = some x := hc
    unfold copUpd at hc
    split at hc
    · injection hc with hc; subst hc; cases hv
    · cases hc
  | insert t m k y =>
    exfalso
    rw [ho] at hc
    replace hc : copUpd P t m k y = some x := hc
    unfold copUpd at hc
    split at hc
    · injection hc with hc; subst hc; cases hv
    · cases hc
  | range t y =>
    exfalso
    rw [ho] at hc
    replace hc : copRange P t y = some x := hc
    unfold copRange at hc
    split at hc
    · injection hc with hc; subst hc; cases hv
    · cases hc
  | call c =>
    rw [ho] at hc
    have hc' : copCall P c = some x := hc
    unfold copCall at hc'
    split at hc'
    · injection hc' with hc'; subst hc'; cases hv
    · injection hc' with hc'; subst hc'; cases hv
    · rename_i hcal
      split at hc'
      · rename_i y t hargs hts
        have e : o.op = .call { callee := .builtin .len, args := #[y], argTypes := #[t] } := by
          rw [ho]
          obtain ⟨cal, args, ts⟩ := c
          congr 1
          simp only at hcal hargs hts
          subst hcal
          rw [← Array.toArray_toList (xs := args), hargs, ← Array.toArray_toList (xs := ts), hts]
        have hy := hg y (by rw [e]; simp [Op.operands, Call.operands])
        unfold copLen at hc'
        split at hc'
        · rename_i ht
          injection hc' with hc'; subst hc'; exact val_lenS o t y e ht hy hok
        · rename_i el ht
          injection hc' with hc'; subst hc'; exact val_lenL o t el y e ht hy hok
        · split at hc'
          · rename_i M hM
            injection hc' with hc'; subst hc'; exact val_lenM h o t y e hM hy hok
          · cases hc'
        · cases hc'
      · cases hc'
    · exfalso
      split at hc'
      · unfold copDel at hc'
        split at hc'
        · injection hc' with hc'; subst hc'; cases hv
        · cases hc'
      · cases hc'
    · exfalso
      split at hc'
      · unfold copClear at hc'
        split at hc'
        · split at hc'
          · split at hc'
            · injection hc' with hc'; subst hc'; cases hv
            · cases hc'
          · cases hc'
        · split at hc'
          · injection hc' with hc'; subst hc'; cases hv
          · cases hc'
      · cases hc'
    · exfalso
      split at hc'
      · rw [copCopy_is hc'] at hv; cases hv
      · cases hc'
    · rename_i hcal
      injection hc' with hc'
      subst hc'
      have e : o.op = .call { callee := .builtin .max, args := c.args, argTypes := c.argTypes } := by
        rw [ho]
        obtain ⟨cal, args, ts⟩ := c
        simp only at hcal
        subst hcal
        rfl
      exact val_max o c.argTypes c.args e s.get (fun y hy => hg y (by rw [e]; simp [Op.operands, Call.operands]; simpa using hy)) hok
    · rename_i hcal
      injection hc' with hc'
      subst hc'
      have e : o.op = .call { callee := .builtin .min, args := c.args, argTypes := c.argTypes } := by
        rw [ho]
        obtain ⟨cal, args, ts⟩ := c
        simp only at hcal
        subst hcal
        rfl
      exact val_min o c.argTypes c.args e s.get (fun y hy => hg y (by rw [e]; simp [Op.operands, Call.operands]; simpa using hy)) hok
    · split at hc'
      · exfalso
        unfold copAppend at hc'
        split at hc'
        · split at hc'
          · split at hc'
            · split at hc'
              · injection hc' with hc'
                split at hc'
                · subst hc'; cases hv
                · subst hc'; cases hv
              · split at hc'
                · injection hc' with hc'; subst hc'; cases hv
                · cases hc'
              · cases hc'
            · cases hc'
          · cases hc'
        · cases hc'
      · cases hc'
    · cases hc'
  | _ => rw [ho] at hc; cases hc
end
end Go.Proofs.YtofkddajlgebjaaGreat.Ax
/- What a function does, said over values without memory ('Contract'), and the operations that change memory. No program is named here. -/
namespace Go.Proofs.YtofkddajlgebjaaGreat.Ax
open Go.RowKit Go By

/-- A slice lies in block b, and owns its room. -/
def OwnsBlk (x : AV) (v : Value) (b : Nat) : Prop := x.idOf ≠ none ∧ ∃ o len cap, v = .slice (some ⟨b, o, none⟩) len cap ∧ (cap ≠ len ∨ ∃ c, x.idOf = some c ∧ c.isNew = true)
/-- Blocks that a function was handed to make grow. -/
def Touched (G : Ghost) (args : List AV) (vs : List Value) (h : List (List AV)) (b : Nat) : Prop :=
  (∃ (i : Nat) (x : AV), args[i]? = some x ∧ OwnsBlk x (vs.getD i undef) b) ∨
  ∃ (i : Nat) (cs : List AV) (us : List Value) (j : Nat) (c : AV), h[i]? = some cs ∧ G.boxv[i]? = some us ∧ cs[j]? = some c ∧ OwnsBlk c (us.getD j undef) b
/-- Whose room the variables' cells are. -/
def OwnH (G : Ghost) (R : Nat → Id → Prop) (h : List (List AV)) : Prop :=
  ∀ (i : Nat) (cs : List AV) (vs : List Value), h[i]? = some cs → G.boxv[i]? = some vs → ∀ (j : Nat) (c : AV), cs[j]? = some c → OwnAt G R c (vs.getD j undef) ∧ ∀ x, c.idOf = some x → x = .cell i j

/-- What a function leaves. -/
structure After (G : Ghost) (T : Nat → Prop) (r : AV) (h' : List (List AV)) (wr : List Nat) (v : Value) (G' : Ghost) (cls' : Nat → Id) (w' : World) : Prop where
  ext : Ext G G'
  ok : WorldOk G' w'
  heap : SeesH G' h'
  ownh : OwnH G' (fun b c => cls' b = c ∧ (G.bufs b = none ∨ T b)) h'
  sees : Sees G' r v
  own : OwnAt G' (fun b c => cls' b = c ∧ (G.bufs b = none ∨ T b)) r v
  id : ∀ c, r.idOf = some c → c = .res
  boxes : ∀ i, i < G.boxv.length → i ∉ wr → G'.boxv[i]? = G.boxv[i]?
  bufs : ∀ b B, G.bufs b = some B → ¬ T b → G'.bufs b = some B

def Enters (P : Program) (f : FuncId) : Prop := ∃ fn, P.funcs[f]? = some fn ∧ (fn.name == "runtime.NumGoroutine") = false ∧ fn.body.isNone = false

/-- Called with these values, over variables that hold this, the function answers that, and leaves the variables so; it writes no others than are told. -/
def Contract (P : Program) (f : FuncId) (args : List AV) (h : List (List AV)) (r : AV) (h' : List (List AV)) (wr : List Nat) : Prop :=
  Enters P f ∧ ∀ (G : Ghost) (w : World) (vs : List Value) (cls : Nat → Id), WorldOk G w → SeesH G h → SeesL G args vs →
    (∀ (i : Nat) (x : AV), args[i]? = some x → OwnAt G (fun b c => cls b = c) x (vs.getD i undef) ∧ ∀ c, x.idOf = some c → c = .arg i) → OwnH G (fun b c => cls b = c) h →
    Calls P f vs.toArray w fun e w' => ∃ v G' cls', e = .returned v ∧ After G (Touched G args vs h) r h' wr v G' cls' w'

/-! ### One value says no more than another one -/
def roomLe (c : Id) : Room → Room → Prop
  | _, .no => True
  | .exact, .exact => True
  | .exact, .own x => x = c ∧ x.isNew = false
  | .own x, .own y => x = y
  | _, _ => False
def nulLe : Option Bool → Option Bool → Prop
  | _, none => True
  | some a, some b => a = b
  | none, some _ => False
mutual
def weak : AV → AV → Prop
  | _, .any => True
  | .sl k es nul room, .sl k' es' nul' room' => (k = k' ∨ (es = [] ∧ room' = .no)) ∧ weakLL es es' ∧ nulLe nul nul' ∧ (room' = .no ∨ room' = room)
  | .agg cs, .agg ds => weakL cs ds
  | .tup cs, .tup ds => weakL cs ds
  | .ro cs, .ro ds => weakL cs ds
  | .fn f a b, .fn f' a' b' => f = f' ∧ weakL a a' ∧ weakL b b'
  | .v x, .v y => x = y
  | .box i o, .box j p => i = j ∧ o = p
  | .bsl i o k n, .bsl j p k' n' => i = j ∧ o = p ∧ k = k' ∧ n = n'
  | .bsl _ _ _ n, .sl _ es nul room => n = 0 ∧ es = [] ∧ nul ≠ some true ∧ room = .no
  | .yld i r c a, .yld j r' c' b => i = j ∧ r = r' ∧ c = c' ∧ weakL a b
  | .mp i n o, .mp j m p => i = j ∧ n = m ∧ o = p
  | .ifc t a, .ifc u b => t = u ∧ weak a b
  | .itr i im n o, .itr j jm m p => i = j ∧ im = jm ∧ n = m ∧ o = p
  | _, _ => False
def weakL : List AV → List AV → Prop
  | [], [] => True
  | a :: r, b :: q => weak a b ∧ weakL r q
  | _, _ => False
def weakLL : List (List AV) → List (List AV) → Prop
  | [], [] => True
  | a :: r, b :: q => weakL a b ∧ weakLL r q
  | _, _ => False
end
theorem nulLe_refl (n : Option Bool) : nulLe n n := by unfold nulLe; cases n <;> simp
mutual
theorem weak_refl : ∀ a : AV, weak a a
  | .any => by simp [weak]
  | .sl k es nul room => by simp only [weak]; exact ⟨.inl trivial, weakLL_refl es, nulLe_refl _, .inr trivial⟩
  | .agg cs => by simp only [weak]; exact weakL_refl cs
  | .tup cs => by simp only [weak]; exact weakL_refl cs
  | .ro cs => by simp only [weak]; exact weakL_refl cs
  | .fn f a b => by simp only [weak]; exact ⟨trivial, weakL_refl a, weakL_refl b⟩
  | .v x => by simp [weak]
  | .box i o => by simp [weak]
  | .bsl i o k n => by simp [weak]
  | .yld i r c a => by simp only [weak]; exact ⟨trivial, trivial, trivial, weakL_refl a⟩
  | .mp i n o => by simp [weak]
  | .ifc t a => by simp only [weak]; exact ⟨trivial, weak_refl a⟩
  | .itr i im n o => by simp [weak]
theorem weakL_refl : ∀ l : List AV, weakL l l
  | [] => by simp [weakL]
  | a :: r => by simp only [weakL]; exact ⟨weak_refl a, weakL_refl r⟩
theorem weakLL_refl : ∀ l : List (List AV), weakLL l l
  | [] => by simp [weakLL]
  | a :: r => by simp only [weakLL]; exact ⟨weakL_refl a, weakLL_refl r⟩
end
theorem weakL_get : ∀ {l m : List AV}, weakL l m → l.length = m.length ∧ ∀ (j : Nat) (b : AV), m[j]? = some b → ∃ a, l[j]? = some a ∧ weak a b
  | [], [], _ => ⟨rfl, fun j b h => by simp at h⟩
  | a :: r, b :: q, h => by
    simp only [weakL] at h
    obtain ⟨h1, h2⟩ := weakL_get h.2
    refine ⟨by simp [h1], fun j x hx => ?_⟩
    cases j with
    | zero => simp at hx; subst hx; exact ⟨a, rfl, h.1⟩
    | succ j =>
      obtain ⟨y, h3, h4⟩ := h2 j x (by simpa using hx)
      exact ⟨y, by simpa using h3, h4⟩
  | [], b :: q, h => by simp [weakL] at h
  | a :: r, [], h => by simp [weakL] at h
theorem weakLL_get : ∀ {l m : List (List AV)}, weakLL l m → l.length = m.length ∧ ∀ (j : Nat) (b : List AV), m[j]? = some b → ∃ a, l[j]? = some a ∧ weakL a b
  | [], [], _ => ⟨rfl, fun j b h => by simp at h⟩
  | a :: r, b :: q, h => by
    simp only [weakLL] at h
    obtain ⟨h1, h2⟩ := weakLL_get h.2
    refine ⟨by simp [h1], fun j x hx => ?_⟩
    cases j with
    | zero => simp at hx; subst hx; exact ⟨a, rfl, h.1⟩
    | succ j =>
      obtain ⟨y, h3, h4⟩ := h2 j x (by simpa using hx)
      exact ⟨y, by simpa using h3, h4⟩
  | [], b :: q, h => by simp [weakLL] at h
  | a :: r, [], h => by simp [weakLL] at h
theorem weakLL_append_same : ∀ (a : List (List AV)) {x y : List (List AV)}, weakLL (a ++ x) (a ++ y) ↔ weakLL x y
  | [], x, y => by simp
  | e :: r, x, y => by
    simp only [List.cons_append, weakLL]
    rw [weakLL_append_same r]
    exact ⟨fun h => h.2, fun h => ⟨weakL_refl e, h⟩⟩
theorem NulOk.le {nul nul' : Option Bool} {a : Option Addr} {len cap : Nat} (h : NulOk nul a len cap) (hn : nulLe nul nul') : NulOk nul' a len cap := by
  refine ⟨h.1, fun hh => ?_, fun hh => ?_⟩
  · subst hh
    unfold nulLe at hn
    split at hn
    · rename_i e; cases e
    · rename_i e; injection e with e; subst hn e; exact h.2.1 rfl
    · exact hn.elim
  · subst hh
    unfold nulLe at hn
    split at hn
    · rename_i e; cases e
    · rename_i e; injection e with e; subst hn e; exact h.2.2 rfl
    · exact hn.elim
theorem Sees.weak {G : Ghost} {a : AV} {x : Value} (h : Sees G a x) : ∀ {b : AV}, Ax.weak a b → Sees G b x := by
  induction h with
  | v x =>
    intro b hb
    cases b <;> simp only [Ax.weak] at hb
    · subst hb; exact .v _
    · exact .any x
  | any x =>
    intro b hb
    cases b <;> simp only [Ax.weak] at hb
    exact .any x
  | box i off b hbx =>
    intro c hb
    cases c <;> simp only [Ax.weak] at hb
    · exact .any _
    · obtain ⟨rfl, rfl⟩ := hb; exact .box _ _ b hbx
  | ro cs b o u hc hs h1 ih =>
    intro c hb
    cases c <;> simp only [Ax.weak] at hb
    · exact .any _
    · obtain ⟨g1, g2⟩ := weakL_get hb
      refine .ro _ b o u (fun j hj => hc j (by omega)) (fun j c hj => ?_) (fun j hj => h1 j (by omega))
      obtain ⟨a, h3, h4⟩ := g2 j c hj
      exact ih j a h3 h4
  | sl k es nul room a len cap u hlen hn hk hcap hm hr hc hs h1 ih =>
    intro c hb
    cases c <;> simp only [Ax.weak] at hb
    · exact .any _
    · rename_i k' es' nul' room'
      obtain ⟨h2, h3, h4, h5⟩ := hb
      obtain ⟨g1, g2⟩ := weakLL_get h3
      have hk2 : k = k' ∨ es' = [] := by
        rcases h2 with h2 | ⟨h2, _⟩
        · exact .inl h2
        · right; apply List.eq_nil_of_length_eq_zero; rw [← g1, h2]; rfl
      refine .sl _ _ _ _ a len cap u (by omega) (hn.le h4) (fun e he => ?_) hcap hm (fun hh => ?_) (fun hp => ?_) (fun i e he j c hj => ?_) (fun i j hi hj => ?_)
      · obtain ⟨i, hi⟩ := List.getElem?_of_mem he
        obtain ⟨d, h6, h7⟩ := g2 i e hi
        rcases hk2 with rfl | rfl
        · rw [← (weakL_get h7).1]; exact hk d (List.mem_of_getElem? h6)
        · simp at he
      · rcases h5 with h5 | h5
        · rw [h5] at hh; cases hh
        · exact hr (h5 ▸ hh)
      · rcases hk2 with rfl | rfl
        · obtain ⟨b, o, e, he⟩ := hc (by omega)
          exact ⟨b, o, e, fun i j hi hj => he i j (by omega) hj⟩
        · simp at hp
      · obtain ⟨d, h6, h7⟩ := g2 i e he
        obtain ⟨c', h8, h9⟩ := (weakL_get h7).2 j c hj
        exact ih i d h6 j c' h8 h9
      · rcases hk2 with rfl | rfl
        · exact h1 i j (by omega) hj
        · simp at hi
  | fn f first cap us vs h1 h2 hs1 hs2 ih1 ih2 =>
    intro c hb
    cases c <;> simp only [Ax.weak] at hb
    · exact .any _
    · obtain ⟨rfl, e1, e2⟩ := hb
      obtain ⟨g1, g2⟩ := weakL_get e1
      obtain ⟨g3, g4⟩ := weakL_get e2
      refine .fn _ _ _ us vs (by omega) (by omega) (fun j c hj => ?_) (fun j c hj => ?_)
      · obtain ⟨a, h3, h4⟩ := g2 j c hj; exact ih1 j a h3 h4
      · obtain ⟨a, h3, h4⟩ := g4 j c hj; exact ih2 j a h3 h4
  | agg cs us hl hs h1 ih =>
    intro c hb
    cases c <;> simp only [Ax.weak] at hb
    · exact .any _
    · obtain ⟨g1, g2⟩ := weakL_get hb
      exact .agg _ us (by omega) (fun j c hj => by obtain ⟨a, h3, h4⟩ := g2 j c hj; exact ih j a h3 h4) h1
  | bsl i off k n b cap hb0 hcap hm o2 ho2 =>
    intro c hb
    cases c <;> simp only [Ax.weak] at hb
    · exact .any _
    · obtain ⟨rfl, rfl, hnu, rfl⟩ := hb
      exact .sl _ [] _ .no _ 0 cap (fun _ _ => undef) rfl ⟨fun h => (by cases h), fun h => absurd h hnu, fun _ h => (by cases h)⟩ (fun e h => by cases h) (Nat.zero_le _) hm.1 (fun h => by cases h) (fun h => by simp at h) (fun i e h => by simp at h) (fun i j h => by simp at h)
    · obtain ⟨rfl, rfl, rfl, rfl⟩ := hb; exact .bsl _ _ _ _ b cap hb0 hcap hm o2 ho2
  | ifc t a x h ih =>
    intro d hb
    cases d <;> simp only [Ax.weak] at hb
    · exact .any _
    · obtain ⟨rfl, e⟩ := hb; exact .ifc _ _ _ (ih e)
  | mp i b n one hb0 hk =>
    intro d hb
    cases d <;> simp only [Ax.weak] at hb
    · exact .any _
    · obtain ⟨rfl, rfl, rfl⟩ := hb; exact .mp _ b _ _ hb0 hk
  | itr i b n one im mb hb0 hk hm =>
    intro d hb
    cases d <;> simp only [Ax.weak] at hb
    · exact .any _
    · obtain ⟨rfl, rfl, rfl, rfl⟩ := hb; exact .itr _ b _ _ _ _ hb0 hk hm
  | yld i b r c slots hb0 hk hl hs ih =>
    intro d hb
    cases d <;> simp only [Ax.weak] at hb
    · exact .any _
    · obtain ⟨rfl, rfl, rfl, e⟩ := hb
      obtain ⟨g1, g2⟩ := weakL_get e
      exact .yld _ b _ _ _ hb0 hk (by omega) (fun j c hj => by obtain ⟨a, h3, h4⟩ := g2 j c hj; exact ih j a h3 h4)
  | tup cs us hl hs ih =>
    intro c hb
    cases c <;> simp only [Ax.weak] at hb
    · exact .any _
    · obtain ⟨g1, g2⟩ := weakL_get hb
      exact .tup _ us (by omega) (fun j c hj => by obtain ⟨a, h3, h4⟩ := g2 j c hj; exact ih j a h3 h4)
/-- A slice that is nil has no room that lies anywhere but in what is new. -/
def newRoom : Id → Room → Prop
  | .slot n, .own (.new m) => n = m
  | _, _ => False
theorem newRoom_spec {c : Id} {r : Room} (h : newRoom c r) : ∃ n, c = .slot n ∧ r = .own (.new n) := by
  unfold newRoom at h
  split at h
  · subst h; exact ⟨_, rfl, rfl⟩
  · exact h.elim
def LeqV (c : Id) (a b : AV) : Prop :=
  match b with
  | .any => True
  | .sl k' es' nul' room' => match a with
    | .sl k es nul room => weakLL es es' ∧ (k = k' ∨ (es = [] ∧ room = .exact)) ∧ nulLe nul nul' ∧ (roomLe c room room' ∨ (nul = some true ∧ newRoom c room'))
    | .bsl _ _ _ n => n = 0 ∧ es' = [] ∧ nul' ≠ some true ∧ room' = .no
    | _ => False
  | b => weak a b
theorem LeqV.sees {G : Ghost} {c : Id} {a b : AV} (h : LeqV c a b) {x : Value} (hs : Sees G a x) : Sees G b x := by
  unfold LeqV at h
  split at h
  · exact .any x
  · split at h
    · rename_i k' es' nul' room' _ k es nul room
      obtain ⟨h1, hk, hn, hr⟩ := h
      have hs2 : Sees G (.sl k' es' nul' .no) x := by
        refine hs.weak ?_
        simp only [weak]
        refine ⟨?_, h1, hn, .inl trivial⟩
        rcases hk with hk | ⟨hk, _⟩
        · exact .inl hk
        · exact .inr ⟨hk, trivial⟩
      cases hs2 with
      | sl _ _ _ _ a len cap u hlen hn0 hk0 hcap hm hr0 hc hs' h1' =>
        refine .sl _ _ _ _ a len cap u hlen hn0 hk0 hcap hm (fun hh => ?_) hc hs' h1'
        subst hh
        cases hs with
        | sl _ _ _ _ _ _ _ _ hlen' _ _ _ _ hr' =>
          rcases hr with hr | ⟨_, hr⟩
          · unfold roomLe at hr
            split at hr
            all_goals first | (rename_i e; cases e; done) | exact hr' rfl | exact hr.elim
          · obtain ⟨n, _, e⟩ := newRoom_spec hr; cases e
    · exact hs.weak (by simp only [weak]; exact h)
    · exact h.elim
  · exact hs.weak h
theorem LeqV.own {G : Ghost} {R : Nat → Id → Prop} {c : Id} {a b : AV} (h : LeqV c a b) {x : Value} (hs : Sees G a x) (ho : OwnAt G R a x) : OwnAt G R b x := by
  unfold LeqV at h
  split at h
  · exact .none _ rfl
  · split at h
    · obtain ⟨_, hk, hn, hr⟩ := h
      cases hs with
      | sl k es nul room a len cap u hlen hn0 hk0 hcap hm hr0 hc hs h1 =>
        rcases hr with hr | ⟨hnul, hr⟩
        · unfold roomLe at hr
          split at hr
          · exact .none _ rfl
          · exact .none _ rfl
          · exact .inl ⟨hr0 rfl, fun hh => by rw [hr.2] at hh; cases hh⟩
          · subst hr
            rcases ho with ho | ⟨b, o, B, h1, h2, h3, h4, h5⟩
            · exact .inl ho
            · rcases hk with rfl | ⟨_, hh⟩
              · exact .inr ⟨b, o, B, h1, h2, h3, h4, h5⟩
              · cases hh
          · exact hr.elim
        · obtain ⟨n, _, e⟩ := newRoom_spec hr
          subst e
          have ha := hn0.2.1 hnul
          exact .inl ⟨by rw [(hn0.1 ha).1, (hn0.1 ha).2], fun _ => ha⟩
    · obtain ⟨_, _, _, rfl⟩ := h; exact .none _ rfl
    · exact h.elim
  · rename_i h1 h2
    refine .none _ ?_
    cases b with
    | sl k es nul room => exact absurd rfl (h2 k es nul room)
    | _ => rfl
theorem LeqV.id {c : Id} {a b : AV} (h : LeqV c a b) : b.idOf = none ∨ b.idOf = some c ∨ b.idOf = a.idOf ∨ ∃ n, c = .slot n ∧ b.idOf = some (.new n) := by
  unfold LeqV at h
  split at h
  · exact .inl rfl
  · split at h
    · obtain ⟨_, _, _, hr⟩ := h
      rcases hr with hr | ⟨_, hr⟩
      · unfold roomLe at hr
        split at hr
        · exact .inl rfl
        · exact .inl rfl
        · rw [← hr.1]; exact .inr (.inl rfl)
        · subst hr; exact .inr (.inr (.inl rfl))
        · exact hr.elim
      · obtain ⟨n, e1, e2⟩ := newRoom_spec hr
        subst e1 e2
        exact .inr (.inr (.inr ⟨n, rfl, rfl⟩))
    · obtain ⟨_, _, _, rfl⟩ := h; exact .inl rfl
    · exact h.elim
  · rename_i h1 h2
    left
    cases b with
    | sl k es nul room => exact absurd rfl (h2 k es nul room)
    | _ => rfl
theorem leqV_refl (c : Id) (a : AV) : LeqV c a a := by
  unfold LeqV
  cases a with
  | sl k es nul room =>
    refine ⟨weakLL_refl _, .inl rfl, nulLe_refl _, .inl ?_⟩
    unfold roomLe; cases room <;> simp
  | any => trivial
  | _ => exact weak_refl _

/-! ### What is handed over, where a contract asks less -/
def roomFit (i : Nat) : Room → Room → Prop
  | _, .no => True
  | .exact, .exact => True
  | .exact, .own x => x = .arg i
  | .own c, .own x => x = .arg i ∧ (match c with | .cell _ _ => False | _ => True)
  | _, _ => False
/-- The contract's argument b, number i, may be an a. -/
def fitA (i : Nat) (a b : AV) : Prop :=
  match b with
  | .any => True
  | .sl k' es' nul' room' => match a with
    | .sl k es nul room => weakLL es es' ∧ (k = k' ∨ (es = [] ∧ room = .exact)) ∧ nulLe nul nul' ∧ roomFit i room room'
    | _ => False
  | b => weak a b
def fitL : Nat → List AV → List AV → Prop
  | _, [], [] => True
  | i, a :: r, b :: q => fitA i a b ∧ fitL (i + 1) r q
  | _, _, _ => False
/-- What the caller hands over then. -/
def hand (a b : AV) : AV :=
  match b with
  | .sl k' es' nul' room' => match room' with
    | .own _ => match a with
      | .sl _ _ _ (.own c) => .sl k' es' nul' (.own c)
      | _ => .sl k' es' nul' (.own .res)
    | _ => b
  | b => b
def handL : List AV → List AV → List AV
  | a :: r, b :: q => hand a b :: handL r q
  | _, _ => []

/-- Arguments as they are handed over: who owns room owns it as that argument. -/
def canonA (i : Nat) : AV → AV
  | .sl k es nul (.own (.cell _ _)) => .sl k es nul .no
  | .sl k es nul (.own _) => .sl k es nul (.own (.arg i))
  | a => a
def canon : Nat → List AV → List AV
  | _, [] => []
  | i, a :: r => canonA i a :: canon (i + 1) r
def Id.isCell : Id → Bool
  | .cell _ _ => true
  | _ => false
/-- Who owns room among the arguments, but for variables' cells. -/
def idsOf : List AV → List Id
  | [] => []
  | a :: r => match a.idOf with
    | some c => if c.isCell then idsOf r else c :: idsOf r
    | none => idsOf r
def killedBy (args : List AV) (c : Id) : Bool := c.isCell || (idsOf args).contains c
/-- Behind a call. -/
def St.called (s : St) (args : List AV) (d : Option Nat) (r : AV) (h' : List (List AV)) (wr : List Nat) : St :=
  let s1 : St := { (s.kill (killedBy args)) with heap := h', wr := wr ++ s.wr }
  match d with
  | some d => if r.idOf.isSome then s1.putO d (r.relabel (.slot d)) else s1.put d r
  | none => s1
def xcallA (P : Program) (f : FuncId) (args : List AV) (s : St) (d : Option Nat) (K : St → List Nat → Prop) : Prop :=
  ∃ bs r h' wr, Contract P f bs s.heap r h' wr ∧ fitL 0 args bs ∧ (idsOf (handL args bs)).Nodup ∧ K (s.called (handL args bs) d r h' wr) []
/-- The variables without who owns what their cells hold. -/
def unownH (h : List (List AV)) : List (List AV) := h.map fun cs => cs.map AV.unown
/-- What the variables hold behind a call that was not told who owns what they hold: those that it does not write are as they were. -/
def keepsH (h h' h2 : List (List AV)) (wr : List Nat) : Prop := h2.length = h'.length ∧ h.length ≤ h'.length ∧ ∀ j, j < h'.length → h2[j]? = if j < h.length ∧ j ∉ wr then h[j]? else h'[j]?
def St.calledU (s : St) (args : List AV) (d : Option Nat) (r : AV) (h2 : List (List AV)) (wr : List Nat) : St :=
  let s1 : St := { (s.kill ((idsOf args).contains ·)) with heap := h2, wr := wr ++ s.wr }
  match d with
  | some d => if r.idOf.isSome then s1.putO d (r.relabel (.slot d)) else s1.put d r
  | none => s1
def xcallU (P : Program) (f : FuncId) (args : List AV) (s : St) (d : Option Nat) (K : St → List Nat → Prop) : Prop :=
  ∃ bs r h' wr h2, Contract P f bs (unownH s.heap) r h' wr ∧ keepsH s.heap h' h2 wr ∧ fitL 0 args bs ∧ (idsOf (handL args bs)).Nodup ∧ K (s.calledU (handL args bs) d r h2 wr) []
def xcall (P : Program) (f : FuncId) (args : List AV) (s : St) (d : Option Nat) (K : St → List Nat → Prop) : Prop := xcallA P f args s d K ∨ xcallU P f args s d K
/-- 'x = y': who owned the room behind y owns it no more. -/
def St.assigned (s : St) (d : Nat) (x : Operand) : St :=
  if s.mine x then
    match (s.get x).idOf with
    | some c => if c.isCell then s.putO d (s.get x) else (s.kill fun y => decide (y = c)).putO d ((s.get x).relabel (lblR c d))
    | none => s.put d (s.get x)
  else s.put d (s.get x)
/-- A variable is written. -/
def St.stored (s : St) (n : Nat) (i o : Nat) (x : AV) : Option St :=
  match x.idOf with
  | some c =>
    match (s.strip c).heap[i]? with
    | some cs => if n = 1 ∧ o < cs.length then some { (s.strip c) with heap := (s.strip c).heap.set i (cs.set o (x.relabel (.cell i o))), wr := i :: s.wr } else none
    | none => none
  | none =>
    match x.cells, s.heap[i]? with
    | some l, some cs => if l.length = n ∧ o + n ≤ cs.length then some { s with heap := s.heap.set i (lay cs o (l.map AV.unown)), wr := i :: s.wr } else none
    | _, _ => none
def St.storedAt (s : St) (n : Nat) (p x : AV) : Option St :=
  match p with
  | .box i o => s.stored n i o x
  | _ => none
def rep (k : Nat) (z : List AV) : Nat → List AV
  | 0 => []
  | n + 1 => z ++ rep k z n
def roomOk (k1 k : Nat) (es : List (List AV)) : Room → Prop
  | .no => False
  | .exact => k1 = k ∨ es = []
  | .own _ => k1 = k
def xappend (s : St) (k bytes : Nat) (d : Option Nat) (a x : AV) (K : St → List Nat → Prop) : Prop :=
  match d, a, x with
  | some d, .sl k1 es _ room, .sl k2 es2 _ _ => roomOk k1 k es room ∧ (k2 = k ∨ es2 = []) ∧ (es.length + es2.length) * bytes ≤ 140737488355328 ∧ es.length + es2.length ≤ 140737488355328 ∧ K ((s.stripR room).putO d (.sl k (es ++ es2) none (.own (lblA room d)))) []
  | _, _, _ => False
def xappendS (s : St) (d : Option Nat) (a x : AV) (K : St → List Nat → Prop) : Prop :=
  match d, a, x with
  | some d, .sl k1 es _ room, .v (.string t) => roomOk k1 1 es room ∧ es.length + t.size ≤ 140737488355328 ∧ K ((s.stripR room).putO d (.sl 1 (es ++ bytesE t.data.toList) none (.own (lblA room d)))) []
  | _, _, _ => False
/-- What is appended onto nothing is a variable. -/
def xappendBox (s : St) (k bytes : Nat) (d : Option Nat) (x : AV) (K : St → List Nat → Prop) : Prop :=
  match x with
  | .sl k2 es2 _ _ => k2 = k ∧ es2 ≠ [] ∧ (∀ c ∈ es2.flatten, c.idOf = none) ∧ es2.length * bytes ≤ 140737488355328 ∧ es2.length ≤ 140737488355328 ∧ K (({ s with heap := s.heap ++ [es2.flatten] } : St).puts d (.bsl s.heap.length 0 k es2.length) false) []
  | _ => False
/-- What a slice holds, row by row; its rows lie in a variable, if it is one of a variable. -/
def rowsOf (h : List (List AV)) (k : Nat) : AV → Option (List (List AV))
  | .sl k2 es _ _ => if k2 = k then some es else none
  | .bsl j off k2 m => if k2 = k then (h[j]?).bind fun cs => if off + m * k ≤ cs.length then some (chunk k m ((cs.drop off).take (m * k))) else none else none
  | _ => none
/-- What is appended onto nil, onto a variable's slice, or onto what has no room, is a variable; nothing is known of the old one. -/
def xappendG (s : St) (k bytes : Nat) (d : Option Nat) (a x : AV) (K : St → List Nat → Prop) : Prop :=
  ∃ es2, rowsOf s.heap k x = some es2 ∧ es2 ≠ [] ∧ (∀ c ∈ es2.flatten, c.idOf = none) ∧ match a with
  | .sl k1 es nul room => ((nul = some true ∨ (es = [] ∧ room = .exact)) ∧ es2.length * bytes ≤ 140737488355328 ∧ es2.length ≤ 140737488355328 ∧ K (({ s with heap := s.heap ++ [es2.flatten] } : St).puts d (.bsl s.heap.length 0 k es2.length) false) []) ∨
      (k1 = k ∧ es ≠ [] ∧ room = .exact ∧ (∀ c ∈ es.flatten, c.idOf = none) ∧ (es.length + es2.length) * bytes ≤ 140737488355328 ∧ es.length + es2.length ≤ 140737488355328 ∧ K (({ s with heap := s.heap ++ [es.flatten ++ es2.flatten] } : St).puts d (.bsl s.heap.length 0 k (es.length + es2.length)) false) [])
  | .bsl i off k1 n => k1 = k ∧ ∃ cs, s.heap[i]? = some cs ∧ cs ≠ [] ∧ off + n * k ≤ cs.length ∧ (∀ c ∈ cs, c.idOf = none) ∧ (n + es2.length) * bytes ≤ 140737488355328 ∧ n + es2.length ≤ 140737488355328 ∧
      K (({ s with heap := s.heap.set i [] ++ [(cs.drop off).take (n * k) ++ es2.flatten], wr := i :: s.wr } : St).puts d (.bsl s.heap.length 0 k (n + es2.length)) false) []
  | _ => False
/-- Nothing is appended. -/
def xappendE (s : St) (k : Nat) (d : Option Nat) (a x : AV) (K : St → List Nat → Prop) : Prop :=
  (match x with | .sl _ es _ _ => es = [] | .bsl _ _ _ m => m = 0 | _ => False) ∧ match a with
  | .sl k1 es nul room => (2 ≤ k ∧ nul = some true ∧ K (s.puts d (.sl 0 [] (some true) .exact) false) []) ∨ (k = 1 ∧ nul = some false ∧ es = [] ∧ room = .exact ∧ K (s.puts d (.sl 0 [] (some false) .exact) false) []) ∨ (2 ≤ k ∧ nul = none ∧ room = .no ∧ K (s.puts d (.sl k1 es none .no) false) [])
  | .bsl i off k1 n => 2 ≤ k ∧ K (s.puts d (.bsl i off k1 n) false) []
  | _ => False
def xappendA (s : St) (k bytes : Nat) (d : Option Nat) (a x : AV) (K : St → List Nat → Prop) : Prop := xappend s k bytes d a x K ∨ xappendG s k bytes d a x K ∨ xappendE s k d a x K
def xappendN (s : St) (k bytes : Nat) (d : Option Nat) (a x : AV) (K : St → List Nat → Prop) : Prop := xappendA s k bytes d a x K ∨ xappendBox s k bytes d x K
def xs2b (s : St) (d : Option Nat) (x : AV) (K : St → List Nat → Prop) : Prop :=
  match x with
  | .v (.string b) => b.size ≤ 140737488355328 ∧ K (s.puts d (.sl 1 (bytesE b.data.toList) none .no) false) []
  | _ => False
/-- Go on from s. -/
def hold (s : St) (k : St → Prop) : Prop := k s
def onSome {α : Type} (o : Option α) (k : α → Prop) : Prop :=
  match o with
  | some a => k a
  | none => False
def xcallv (P : Program) (v : AV) (args : List AV) (s : St) (d : Option Nat) (K : St → List Nat → Prop) : Prop :=
  match v with
  | .fn (.func f) first cap => (∀ c ∈ first ++ cap, c.idOf = none) ∧ xcall P f (first ++ args ++ cap) s d K
  | _ => False
def xmapUpd (s : St) (ks : Option IntKind) (n : Nat) (one : Bool) (d : Option Nat) (m k x : AV) (K : St → List Nat → Prop) : Prop :=
  match m, k with
  | .mp i n' one', .v kv => (n' = n ∧ one' = one) ∧ isKeyV ks kv = true ∧ onSome (mapAt s.heap n i) fun p => keysOk ks p.2 ∧ onSome (elC n one x) fun cs =>
      K ({ s with heap := s.heap.set i (mapC (AEnt.put kv p.1 cs p.2).2 (AEnt.put kv p.1 cs p.2).1), wr := i :: s.wr }.puts d .any false) []
  | _, _ => False
def xmapDel (s : St) (ks : Option IntKind) (n : Nat) (one : Bool) (d : Option Nat) (m k : AV) (K : St → List Nat → Prop) : Prop :=
  match m, k with
  | .v (.map none), .v kv => isKeyV ks kv = true ∧ K (s.puts d .any false) []
  | .mp i n' one', .v kv => (n' = n ∧ one' = one) ∧ isKeyV ks kv = true ∧ onSome (mapAt s.heap n i) fun p => keysOk ks p.2 ∧
      K ({ s with heap := s.heap.set i (mapC p.1 (AEnt.del kv p.2)), wr := i :: s.wr }.puts d .any false) []
  | _, _ => False
def xrangeM (s : St) (n : Nat) (one : Bool) (d : Option Nat) (x : AV) (K : St → List Nat → Prop) : Prop :=
  match x with
  | .v (.map none) => K ({ s with heap := s.heap ++ [itC 0 0 []] }.puts d (.itr s.heap.length none n one) false) []
  | .mp i n' one' => (n' = n ∧ one' = one) ∧ onSome (mapAt s.heap n i) fun p => K ({ s with heap := s.heap ++ [itC p.1 p.1 []] }.puts d (.itr s.heap.length (some i) n one) false) []
  | _ => False
/-- A loop over a map goes on, or is over: whichever entry that is left comes next. -/
def xnext (s : St) (d : Option Nat) (v : AV) (K : St → Prop) : Prop :=
  match v with
  | .itr _ none _ _ => K (s.puts d (.tup [.v (.bool false)]) false)
  | .itr j (some i) n one => onSome (itAt s.heap j) fun q => onSome (mapAt s.heap n i) fun p => (one = true → 0 < n) ∧ (∀ e ∈ p.2, e.born < q.1) ∧ q.1 ≤ q.2.1 ∧
      ((∀ e ∈ p.2, e.born ∈ q.2.2) → K (s.puts d (.tup [.v (.bool false)]) false)) ∧
      ∀ e ∈ p.2, e.born ∉ q.2.2 → K ({ s with heap := s.heap.set j (itC q.1 p.1 (q.2.2 ++ [e.born])), wr := j :: s.wr }.puts d (.tup [.v (.bool true), .v e.key, elA one e.cells]) false)
  | _ => False
def xmakeS (s : St) (k bytes : Nat) (d : Option Nat) (c : AV) (K : St → List Nat → Prop) : Prop :=
  match d, c with
  | some d, .v (.int .i64 n) => 0 ≤ n ∧ (bytes : Int) * n ≤ 140737488355328 ∧ n ≤ 140737488355328 ∧ K (s.putO d (.sl k [] (some false) (.own (.new d)))) []
  | _, _ => False
def xmakeB (s : St) (k bytes : Nat) (d : Option Nat) (z : List AV) (c : AV) (K : St → List Nat → Prop) : Prop :=
  match c with
  | .v (.int .i64 n) => 0 ≤ n ∧ (bytes : Int) * n ≤ 140737488355328 ∧ n ≤ 140737488355328 ∧ K (({ s with heap := s.heap ++ [(List.replicate n.toNat z).flatten] } : St).puts d (.bsl s.heap.length 0 k n.toNat) false) []
  | _ => False
def xclear (s : St) (kz : Nat) (z : Value) (d : Option Nat) (x : AV) (K : St → List Nat → Prop) : Prop :=
  match x with
  | .sl _ es _ _ => es = [] ∧ K (s.puts d .any false) []
  | .bsl i off k n => k = kz ∧ onSome (s.heap[i]?) fun cs => off + n * kz ≤ cs.length ∧ K (({ s with heap := s.heap.set i (lay cs off (List.replicate (n * kz) (ofC1 z))), wr := i :: s.wr } : St).puts d .any false) []
  | _ => False
/-- What is copied: its cells. -/
def copyOf (h : List (List AV)) : AV → Option (List AV)
  | .sl k es _ _ => if k = 1 ∨ es.isEmpty = true then some es.flatten else none
  | .bsl j off k m => if k = 1 then (h[j]?).bind fun cs => if off + m ≤ cs.length then some ((cs.drop off).take m) else none else none
  | _ => none
def xcopy (s : St) (d : Option Nat) (x y : AV) (K : St → List Nat → Prop) : Prop :=
  match x with
  | .bsl i off k n => k = 1 ∧ onSome (s.heap[i]?) fun cs => off + n ≤ cs.length ∧ onSome (copyOf s.heap y) fun ds => (∀ c ∈ ds, c.idOf = none) ∧
      K (({ s with heap := s.heap.set i (lay cs off (ds.take n)), wr := i :: s.wr } : St).puts d (.v (.int .i64 ((min ds.length n : Nat) : Int))) false) []
  | _ => False
def xclearM (s : St) (n : Nat) (one : Bool) (d : Option Nat) (x : AV) (K : St → List Nat → Prop) : Prop :=
  match x with
  | .v (.map none) => K (s.puts d .any false) []
  | .mp i n' one' => (n' = n ∧ one' = one) ∧ onSome (mapAt s.heap n i) fun p => K ({ s with heap := s.heap.set i (mapC p.1 []), wr := i :: s.wr }.puts d .any false) []
  | _ => False
def xop (P : Program) (d : Option Nat) (op : XOp) (s : St) (K : St → List Nat → Prop) : Prop :=
  match op with
  | .assign x => match d with
    | some d => K (s.assigned d x) []
    | none => False
  | .alloc z => K ({ s with heap := s.heap ++ [z] }.puts d (.box s.heap.length 0) false) []
  | .box x => onSome (s.get x).cells fun l => K ({ s with heap := s.heap ++ [l.map AV.unown] }.puts d (.box s.heap.length 0) false) []
  | .buildSlice k len z parts => onSome (fillX (rep k z len) (parts.map fun p => (p.1 * k, k, s.get p.2))) fun cs => K (s.puts d (.sl k (chunk k len cs) (some false) .exact) false) []
  | .store n p x => onSome (s.storedAt n (s.get p) (s.get x)) fun s' => K (s'.puts d .any false) []
  | .append k bytes a x => xappendA s k bytes d (s.get a) (s.get x) K
  | .appendS a x => xappendS s d (s.get a) (s.get x) K
  | .s2b x => xs2b s d (s.get x) K
  | .appendN k bytes x => xappendN s k bytes d (s.get (.const (.slice none 0 0))) (s.get x) K
  | .call f args => xcall P f (args.map s.get) s d K
  | .callv x args => xcallv P (s.get x) (args.map s.get) s d K
  | .makeMap n one => K ({ s with heap := s.heap ++ [mapC 0 []] }.puts d (.mp s.heap.length n one) false) []
  | .mapUpd ks n one m k x => xmapUpd s ks n one d (s.get m) (s.get k) (s.get x) K
  | .mapDel ks n one m k => xmapDel s ks n one d (s.get m) (s.get k) K
  | .rangeM n one x => xrangeM s n one d (s.get x) K
  | .emptyS k => K (s.puts d (.sl k [] (some false) .exact) false) []
  | .makeS k bytes c => xmakeS s k bytes d (s.get c) K
  | .makeB k bytes z c => xmakeB s k bytes d z (s.get c) K
  | .clearS k z x => xclear s k z d (s.get x) K
  | .clearM n one x => xclearM s n one d (s.get x) K
  | .copyB x y => xcopy s d (s.get x) (s.get y) K
  | op => (xval s op).ok ∧ K (s.puts d (xval s op).val (xval s op).own) (xval s op).ld
end Go.Proofs.YtofkddajlgebjaaGreat.Ax
/- Calls, over values without memory. No program is named here. -/
namespace Go.Proofs.YtofkddajlgebjaaGreat.Ax
open Go.RowKit Go By

section
variable {P : Program} {C : Ctx} {N : Nat} {G : Ghost} {cls : Nat → Id} {s : St} {a : Act} {w : World}

/-- What is as it was behind a step. -/
structure Stays (G G' : Ghost) (s s' : St) : Prop where
  ext : Ext G G'
  grow : ∃ l, s'.wr = l ++ s.wr ∧ ∀ i, i < G.boxv.length → i ∉ l → G'.boxv[i]? = G.boxv[i]?
theorem Stays.same {s' : St} (hw : s'.wr = s.wr) : Stays G G s s' := ⟨Ext.refl G, [], hw, fun _ _ _ => rfl⟩
theorem Stays.trans {G G' G2 : Ghost} {s s' s2 : St} (h : Stays G G' s s') (k : Stays G' G2 s' s2) (hl : G.boxv.length ≤ G'.boxv.length) : Stays G G2 s s2 := by
  obtain ⟨l, h1, h2⟩ := h.grow
  obtain ⟨l', k1, k2⟩ := k.grow
  exact ⟨h.ext.trans k.ext, l' ++ l, by rw [k1, h1, List.append_assoc], fun i hi hn => (k2 i (by omega) fun hh => hn (List.mem_append_left _ hh)).trans (h2 i hi fun hh => hn (List.mem_append_right _ hh))⟩
theorem Stays.wr_eq {G G' : Ghost} {s s' s2 : St} (h : Stays G G' s s') (hw : s2.wr = s'.wr) : Stays G G' s s2 := ⟨h.ext, by rw [hw]; exact h.grow⟩
theorem Stays.wr_eq' {G G' : Ghost} {s s' s2 : St} (h : Stays G G' s s') (hw : s2.wr = s.wr) : Stays G G' s2 s' := ⟨h.ext, by rw [hw]; exact h.grow⟩
theorem Rel.boxLen (h : Rel C N G cls s a w) {G' : Ghost} {cls' : Nat → Id} {s' : St} {a' : Act} {w' : World} (h' : Rel C N G' cls' s' a' w') (hE : Ext G G') : G.boxv.length ≤ G'.boxv.length := by
  obtain ⟨m, hm⟩ := hE.boxes
  rw [h.ok.len, h'.ok.len, hm]; simp

/-- What the room's owner owns lies in a block of his, or there is no room. -/
theorem not_exact {cap len : Nat} {c : Id} (h : ¬ (cap = len ∧ c.isNew = false)) : cap ≠ len ∨ ∃ c', some c = some c' ∧ c'.isNew = true := by
  by_cases h1 : cap = len
  · right
    refine ⟨c, rfl, ?_⟩
    cases hn : c.isNew with
    | true => rfl
    | false => exact absurd ⟨h1, hn⟩ h
  · exact .inl h1
theorem own_cases {G : Ghost} {R : Nat → Id → Prop} {x : AV} {v : Value} {b : Nat} (h : OwnAt G R x v) (hb : OwnsBlk x v b) : ∃ c B, x.idOf = some c ∧ G.bufs b = some B ∧ R b c := by
  obtain ⟨h1, o, len, cap, rfl, hne⟩ := hb
  cases x with
  | sl k es nul room =>
    cases room with
    | own c =>
      rcases h with h | ⟨b', o', B, e1, h2, h3, h4, h5⟩
      · exfalso
        rcases hne with hne | ⟨c', hc', hn⟩
        · exact hne h.1
        · injection hc' with hc'; subst hc'
          have := h.2 hn
          cases this
      · injection e1 with e1; injection e1 with e1 e2
        subst e1
        exact ⟨c, B, rfl, h2, h5⟩
    | _ => exact absurd rfl h1
  | _ => exact absurd rfl h1
/-- A claim of ownership, where the blocks that count are told. -/
theorem OwnAt.imp2 {G : Ghost} {R R' : Nat → Id → Prop} {x : AV} {v : Value} (h : OwnAt G R x v) (hR : ∀ b c B, OwnsBlk x v b → x.idOf = some c → G.bufs b = some B → R b c → R' b c) : OwnAt G R' x v := by
  cases x with
  | sl k es nul room =>
    cases room with
    | own c =>
      cases v with
      | slice a0 len cap =>
        rcases h with h | ⟨b, o, B, rfl, h2, h3, h4, h5⟩
        · exact .inl h
        · by_cases hc : cap = len ∧ c.isNew = false
          · exact .inl ⟨hc.1, fun hh => by rw [hc.2] at hh; cases hh⟩
          · exact .inr ⟨b, o, B, rfl, h2, h3, h4, hR b c B ⟨by simp [AV.idOf], o, len, cap, rfl, not_exact (c := c) hc⟩ rfl h2 h5⟩
      | _ => exact trivial
    | _ => cases v <;> exact trivial
  | _ => exact trivial
theorem OwnAt.move {G G' : Ghost} {R R' : Nat → Id → Prop} {x : AV} {v : Value} (h : OwnAt G R x v) (hR : ∀ b c B, OwnsBlk x v b → x.idOf = some c → G.bufs b = some B → R b c → G'.bufs b = some B ∧ R' b c) : OwnAt G' R' x v := by
  cases x with
  | sl k es nul room =>
    cases room with
    | own c =>
      cases v with
      | slice a0 len cap =>
        rcases h with h | ⟨b, o, B, rfl, h2, h3, h4, h5⟩
        · exact .inl h
        · by_cases hc : cap = len ∧ c.isNew = false
          · exact .inl ⟨hc.1, fun hh => by rw [hc.2] at hh; cases hh⟩
          · obtain ⟨h6, h7⟩ := hR b c B ⟨by simp [AV.idOf], o, len, cap, rfl, not_exact (c := c) hc⟩ rfl h2 h5
            exact .inr ⟨b, o, B, rfl, h6, h3, h4, h7⟩
      | _ => exact trivial
    | _ => cases v <;> exact trivial
  | _ => exact trivial
theorem OwnAt.relabel {G : Ghost} {R R' : Nat → Id → Prop} {x : AV} {v : Value} (d : Id) (h : OwnAt G R x v) (hR : ∀ b c B, OwnsBlk x v b → x.idOf = some c → G.bufs b = some B → R b c → R' b d) (hd : d.isNew = true → ∀ c, x.idOf = some c → c.isNew = true := by intro h; cases h) : OwnAt G R' (x.relabel d) v := by
  cases x with
  | sl k es nul room =>
    cases room with
    | own c =>
      cases v with
      | slice a0 len cap =>
        rcases h with h | ⟨b, o, B, rfl, h2, h3, h4, h5⟩
        · exact .inl ⟨h.1, fun hh => h.2 (hd hh c rfl)⟩
        · by_cases hc : cap = len ∧ d.isNew = false
          · exact .inl ⟨hc.1, fun hh => by rw [hc.2] at hh; cases hh⟩
          · refine .inr ⟨b, o, B, rfl, h2, h3, h4, hR b c B ⟨by simp [AV.idOf], o, len, cap, rfl, ?_⟩ rfl h2 h5⟩
            rcases not_exact (c := d) hc with h1 | ⟨_, h1, h2⟩
            · exact .inl h1
            · injection h1 with h1; subst h1; exact .inr ⟨c, rfl, hd h2 c rfl⟩
      | _ => exact trivial
    | _ => cases v <;> exact trivial
  | _ => exact trivial
theorem relabel_id (x : AV) (d : Id) : (x.relabel d).idOf = x.idOf.map fun _ => d := by
  cases x with
  | sl k es nul room => cases room <;> rfl
  | _ => rfl
theorem ownsBlk_unown {x : AV} {v : Value} {b : Nat} : ¬ OwnsBlk x.unown v b := fun h => h.1 (AV.idOf_unown x)

/-! ### Arguments -/
theorem canonA_cases (i : Nat) (x : AV) : (x.idOf = none ∧ canonA i x = x) ∨ (∃ c, x.idOf = some c ∧ c.isCell = true ∧ canonA i x = x.unown) ∨ ∃ c, x.idOf = some c ∧ c.isCell = false ∧ canonA i x = x.relabel (.arg i) := by
  cases x with
  | sl k es nul room =>
    cases room with
    | own c =>
      right
      cases c with
      | cell i j => exact .inl ⟨_, rfl, rfl, rfl⟩
      | slot n => exact .inr ⟨_, rfl, rfl, rfl⟩
      | new n => exact .inr ⟨_, rfl, rfl, rfl⟩
      | arg n => exact .inr ⟨_, rfl, rfl, rfl⟩
      | res => exact .inr ⟨_, rfl, rfl, rfl⟩
    | _ => exact .inl ⟨rfl, rfl⟩
  | _ => exact .inl ⟨rfl, rfl⟩
theorem canon_get : ∀ (l : List AV) (k i : Nat) (x : AV), (canon k l)[i]? = some x → ∃ y, l[i]? = some y ∧ x = canonA (k + i) y
  | [], k, i, x, h => by simp [canon] at h
  | a :: l, k, 0, x, h => by simp [canon] at h; exact ⟨a, rfl, h.symm⟩
  | a :: l, k, i + 1, x, h => by
    obtain ⟨y, h1, h2⟩ := canon_get l (k + 1) i x (by simpa [canon] using h)
    exact ⟨y, by simpa using h1, by rw [h2]; congr 1; omega⟩
theorem canon_length : ∀ (l : List AV) (k : Nat), (canon k l).length = l.length
  | [], _ => rfl
  | a :: l, k => by simp [canon, canon_length l]
/-- Which argument owns it. -/
def argOf : Nat → List AV → Id → Option Nat
  | _, [], _ => none
  | k, a :: r, c => if a.idOf = some c ∧ c.isCell = false then some k else argOf (k + 1) r c
theorem idsOf_cons (a : AV) (r : List AV) : idsOf (a :: r) = match a.idOf with
    | some c => if c.isCell then idsOf r else c :: idsOf r
    | none => idsOf r := rfl
theorem mem_idsOf : ∀ (l : List AV) (c : Id), c ∈ idsOf l ↔ ∃ (i : Nat) (x : AV), l[i]? = some x ∧ x.idOf = some c ∧ c.isCell = false
  | [], c => by simp [idsOf]
  | a :: r, c => by
    have ih := mem_idsOf r c
    have split : (∃ (i : Nat) (x : AV), (a :: r)[i]? = some x ∧ x.idOf = some c ∧ c.isCell = false) ↔ (a.idOf = some c ∧ c.isCell = false) ∨ c ∈ idsOf r := by
      rw [ih]
      constructor
      · rintro ⟨i, x, h1, h2⟩
        cases i with
        | zero => simp at h1; subst h1; exact .inl h2
        | succ i => exact .inr ⟨i, x, by simpa using h1, h2⟩
      · rintro (h | ⟨i, x, h1, h2⟩)
        · exact ⟨0, a, rfl, h⟩
        · exact ⟨i + 1, x, by simpa using h1, h2⟩
    rw [split, idsOf_cons]
    cases ha : a.idOf with
    | none => simp
    | some c' =>
      dsimp only
      split
      · rename_i hc
        constructor
        · exact .inr
        · rintro (⟨h1, h2⟩ | h)
          · injection h1 with h1; subst h1; rw [hc] at h2; cases h2
          · exact h
      · rename_i hc
        rw [List.mem_cons]
        constructor
        · rintro (rfl | h)
          · exact .inl ⟨rfl, by simpa using hc⟩
          · exact .inr h
        · rintro (⟨h1, h2⟩ | h)
          · injection h1 with h1; exact .inl h1.symm
          · exact .inr h
theorem argOf_spec : ∀ (l : List AV) (k i : Nat) (x : AV) (c : Id), (idsOf l).Nodup → l[i]? = some x → x.idOf = some c → c.isCell = false → argOf k l c = some (k + i)
  | [], k, i, x, c, _, h, _, _ => by simp at h
  | a :: r, k, 0, x, c, _, h, h1, h2 => by
    simp at h; subst h
    simp [argOf, h1, h2]
  | a :: r, k, i + 1, x, c, hn, h, h1, h2 => by
    have hr : r[i]? = some x := by simpa using h
    have hmem : c ∈ idsOf r := (mem_idsOf r c).2 ⟨i, x, hr, h1, h2⟩
    have hn' : (idsOf r).Nodup := by
      rw [idsOf_cons] at hn
      split at hn
      · split at hn
        · exact hn
        · exact (List.nodup_cons.1 hn).2
      · exact hn
    have hne : ¬ (a.idOf = some c ∧ c.isCell = false) := by
      rintro ⟨h3, h4⟩
      rw [idsOf_cons, h3] at hn
      dsimp only at hn
      rw [if_neg (by simp [h4])] at hn
      exact (List.nodup_cons.1 hn).1 hmem
    rw [argOf, if_neg hne, argOf_spec r (k + 1) i x c hn' hr h1 h2]
    congr 1; omega
theorem argOf_cell : ∀ (l : List AV) (k : Nat) (c : Id), c.isCell = true → argOf k l c = none
  | [], _, _, _ => rfl
  | a :: r, k, c, h => by rw [argOf, if_neg (by rintro ⟨_, h2⟩; rw [h] at h2; cases h2), argOf_cell r (k + 1) c h]

theorem call_core {D : (Ending → World → Prop) → Prop} (hD : ∀ R R' : Ending → World → Prop, (∀ e w', R e w' → R' e w') → D R → D R') (h : Rel C N G cls s a w) {avs : List AV} {vs : List Value} (hvs : SeesL G avs vs) (hown : ∀ (i : Nat) (x : AV), avs[i]? = some x → OwnAt G (Own C cls) x (vs.getD i undef)) (hnd : (idsOf avs).Nodup) {r : AV} {h' : List (List AV)} {wr : List Nat}
    (hC : ∀ cls0 : Nat → Id, SeesL G (canon 0 avs) vs → (∀ (i : Nat) (x : AV), (canon 0 avs)[i]? = some x → OwnAt G (fun b c => cls0 b = c) x (vs.getD i undef) ∧ ∀ c, x.idOf = some c → c = .arg i) → OwnH G (fun b c => cls0 b = c) s.heap →
      D fun e w' => ∃ v G' cls', e = .returned v ∧ After G (Touched G (canon 0 avs) vs s.heap) r h' wr v G' cls' w') (d : Option Nat) (hd : ∀ x, d = some x → x < N) :
    D fun e w' => ∃ v, e = .returned v ∧ ∃ G' cls', Rel C N G' cls' (s.called avs d r h' wr) (a.put d v) w' ∧ Stays G G' s (s.called avs d r h' wr) := by
  classical
  have hseen : SeesL G (canon 0 avs) vs := by
    refine ⟨by rw [canon_length]; exact hvs.1, fun j c hj => ?_⟩
    obtain ⟨y, h1, h2⟩ := canon_get _ _ _ _ hj
    have h3 := hvs.2 j y h1
    rw [h2]
    rcases canonA_cases (0 + j) y with ⟨_, e⟩ | ⟨_, _, _, e⟩ | ⟨_, _, _, e⟩ <;> rw [e]
    · exact h3
    · exact h3.unown
    · exact h3.relabel _
  have hargs : ∀ (i : Nat) (x : AV), (canon 0 avs)[i]? = some x → OwnAt G (fun b c => (match argOf 0 avs (cls b) with | some i => Id.arg i | none => cls b) = c) x (vs.getD i undef) ∧ ∀ c, x.idOf = some c → c = .arg i := fun i x hx => by
    obtain ⟨y, h1, h2⟩ := canon_get _ _ _ _ hx
    rw [Nat.zero_add] at h2
    subst h2
    have ho := hown i y h1
    rcases canonA_cases i y with ⟨e0, e⟩ | ⟨_, _, _, e⟩ | ⟨c, e0, e1, e⟩ <;> rw [e]
    · exact ⟨.none _ e0, fun c hc => by rw [e0] at hc; cases hc⟩
    · exact ⟨.none _ (AV.idOf_unown _), fun c hc => by rw [AV.idOf_unown] at hc; cases hc⟩
    · refine ⟨ho.relabel _ fun b c' B _ hc' _ hR => ?_, fun c' hc' => ?_⟩
      · rw [e0] at hc'; injection hc' with hc'; subst hc'
        rw [hR.1, argOf_spec avs 0 i y c hnd h1 e0 e1, Nat.zero_add]
      · rw [relabel_id, e0] at hc'; injection hc' with hc'; exact hc'.symm
  have hheap : OwnH G (fun b c => (match argOf 0 avs (cls b) with | some i => Id.arg i | none => cls b) = c) s.heap := fun i cs us h1 h2 j c hj => by
    obtain ⟨h3, h4⟩ := h.ownh i cs us h1 h2 j c hj
    refine ⟨h3.imp2 fun b c' B _ hc' _ hR => ?_, h4⟩
    have := h4 c' hc'
    rw [hR.1, this, argOf_cell _ _ _ rfl]
  -- what is touched may be made to grow by the caller, too
  have hT : ∀ b, Touched G (canon 0 avs) vs s.heap b → Acc C b ∧ (((∃ c, c ∈ idsOf avs ∧ cls b = c) ∨ (cls b).isCell = true)) := fun b hb => by
    rcases hb with ⟨i, x, hx, hbx⟩ | ⟨i, cs, us, j, c, h1, h2, h3, hbx⟩
    · obtain ⟨y, h1, h2⟩ := canon_get _ _ _ _ hx
      rw [Nat.zero_add] at h2
      subst h2
      have ho := hown i y h1
      rcases canonA_cases i y with ⟨e0, e⟩ | ⟨_, _, _, e⟩ | ⟨c, e0, e1, e⟩ <;> rw [e] at hbx
      · exact absurd e0 hbx.1
      · exact absurd hbx ownsBlk_unown
      · obtain ⟨o, len, cap, hv, hne⟩ := hbx.2
        have hne' : cap ≠ len := hne.resolve_right fun ⟨c', h1, h2⟩ => by rw [relabel_id, e0] at h1; injection h1 with h1; subst h1; cases h2
        obtain ⟨c', B, hc', _, hR⟩ := own_cases (b := b) ho ⟨by rw [e0]; simp, o, len, cap, hv, .inl hne'⟩
        rw [e0] at hc'; injection hc' with hc'; subst hc'
        exact ⟨hR.2, .inl ⟨c, (mem_idsOf avs c).2 ⟨i, y, h1, e0, e1⟩, hR.1⟩⟩
    · obtain ⟨h4, h5⟩ := h.ownh i cs us h1 h2 j c h3
      obtain ⟨c', B, hc', _, hR⟩ := own_cases h4 hbx
      refine ⟨hR.2, .inr ?_⟩
      rw [hR.1, h5 c' hc']; rfl
  refine hD _ _ ?_ (hC _ hseen hargs hheap)
  rintro e w' ⟨v, G', cls', rfl, hA⟩
  refine ⟨v, rfl, ?_⟩
  -- who owns what behind the call
  let own2 : Nat → Id := fun b => if cls' b = .res ∧ (G.bufs b = none ∨ Touched G (canon 0 avs) vs s.heap b) then (match d with | some d => .slot d | none => .res) else if G.bufs b ≠ none ∧ ¬ Touched G (canon 0 avs) vs s.heap b then cls b else cls' b
  have hacc : ∀ b, (G.bufs b = none ∨ Touched G (canon 0 avs) vs s.heap b) → Acc C b := fun b hb => by
    rcases hb with hb | hb
    · left
      cases hB : C.G0.bufs b with
      | none => rfl
      | some B => obtain ⟨m, hm⟩ := h.ext.bufs b B hB; rw [hm] at hb; cases hb
    · exact (hT b hb).1
  have hk := h.kill (killedBy avs)
  have hR : Rel C N G' own2 { (s.kill (killedBy avs)) with heap := h', wr := wr ++ s.wr } a w' := by
    refine ⟨hA.ok, hA.heap, fun i cs us h1 h2 j c hj => ?_, fun t ht => ⟨(hk.env t ht).1.ext hA.ext, ?_⟩, hk.plain, hk.size, hk.defers.ext hA.ext, h.ext.trans hA.ext, fun i hi hn => ?_, fun b B h1 h2 => ?_⟩
    · obtain ⟨h3, h4⟩ := hA.ownh i cs us h1 h2 j c hj
      refine ⟨h3.imp2 fun b c' B _ hc' _ hR => ?_, h4⟩
      have hc2 := h4 c' hc'
      refine ⟨?_, hacc b hR.2⟩
      show (if _ then _ else _) = _
      rw [if_neg (by rw [hR.1, hc2]; rintro ⟨h, _⟩; cases h), if_neg (by rintro ⟨h5, h6⟩; exact hR.2.elim h5 h6)]
      exact hR.1
    · have hlk : ∀ c, ((s.kill (killedBy avs)).look t).idOf = some c → killedBy avs c = false := fun c hc => (h.killed _ t c hc).1
      show OwnAt G' _ ((s.kill (killedBy avs)).look t) _
      refine (hk.env t ht).2.move fun b c B _ hc hB hR => ?_
      have hkc := hlk c hc
      have hnT : ¬ Touched G (canon 0 avs) vs s.heap b := fun hb => by
        have := (hT b hb).2
        rw [hR.1] at this
        unfold killedBy at hkc
        rw [Bool.or_eq_false_iff] at hkc
        rcases this with ⟨c', h1, h2⟩ | h1
        · subst h2
          have h3 := hkc.2
          rw [← Bool.not_eq_true] at h3
          exact h3 (by simpa using h1)
        · rw [h1] at hkc; cases hkc.1
      refine ⟨hA.bufs b B hB hnT, ?_, hR.2⟩
      show (if _ then _ else _) = _
      rw [if_neg (by rintro ⟨_, h1 | h1⟩; rw [h1] at hB; cases hB; exact hnT h1), if_pos ⟨by rw [hB]; simp, hnT⟩]
      exact hR.1
    · have hn' : i ∉ wr ∧ i ∉ s.wr := by
        constructor
        · exact fun hh => hn (List.mem_append_left _ hh)
        · exact fun hh => hn (List.mem_append_right _ hh)
      have h1 := h.boxes i hi hn'.2
      have hlt : i < G.boxv.length := by
        rw [List.getElem?_eq_getElem hi] at h1
        exact (List.getElem?_eq_some_iff.1 h1).1
      exact (hA.boxes i hlt hn'.1).trans h1
    · refine hA.bufs b B (h.bufs b B h1 h2) fun hb => ?_
      rcases (hT b hb).1 with h3 | h3
      · rw [h3] at h1; cases h1
      · exact h2 h3
  have hst : ∀ s' : St, s'.wr = wr ++ s.wr → Stays G G' s s' := fun s' hs' => ⟨hA.ext, wr, hs', fun i hi hn => hA.boxes i hi hn⟩
  cases d with
  | none => exact ⟨G', own2, hR, hst _ rfl⟩
  | some d =>
    unfold St.called
    dsimp only
    split
    · rename_i hr
      have ho : OwnAt G' (Own C own2) (r.relabel (.slot d)) v := hA.own.relabel _ fun b c B _ hc _ hR2 => by
        have hc2 := hA.id c hc
        refine ⟨?_, hacc b hR2.2⟩
        show (if _ then _ else _) = _
        rw [if_pos ⟨by rw [hR2.1, hc2], hR2.2⟩]
      exact ⟨G', own2, hR.putO (hd d rfl) (hA.sees.relabel _) ho, hst _ rfl⟩
    · rename_i hr
      have hi : r.idOf = none := by simpa using hr
      exact ⟨G', own2, hR.put (hd d rfl) hA.sees hi, hst _ rfl⟩
theorem call_sound (h : Rel C N G cls s a w) {f : FuncId} {avs : List AV} {vs : List Value} (hvs : SeesL G avs vs) (hown : ∀ (i : Nat) (x : AV), avs[i]? = some x → OwnAt G (Own C cls) x (vs.getD i undef)) (hnd : (idsOf avs).Nodup) {r : AV} {h' : List (List AV)} {wr : List Nat}
    (hC : Contract P f (canon 0 avs) s.heap r h' wr) (d : Option Nat) (hd : ∀ x, d = some x → x < N) :
    Calls P f vs.toArray w fun e w' => ∃ v, e = .returned v ∧ ∃ G' cls', Rel C N G' cls' (s.called avs d r h' wr) (a.put d v) w' ∧ Stays G G' s (s.called avs d r h' wr) :=
  call_core (D := fun R => Calls P f vs.toArray w R) (fun _ _ hh hc => hc.mono hh) h hvs hown hnd (fun cls0 h1 h2 h3 => hC.2 G w vs cls0 h.ok h.heap h1 h2 h3) d hd
theorem call_soundU (h : Rel C N G cls s a w) {f : FuncId} {avs : List AV} {vs : List Value} (hvs : SeesL G avs vs) (hown : ∀ (i : Nat) (x : AV), avs[i]? = some x → OwnAt G (Own C cls) x (vs.getD i undef)) (hnd : (idsOf avs).Nodup) {r : AV} {h' h2 : List (List AV)} {wr : List Nat}
    (hC : Contract P f (canon 0 avs) (unownH s.heap) r h' wr) (hK : keepsH s.heap h' h2 wr) (d : Option Nat) (hd : ∀ x, d = some x → x < N) :
    Calls P f vs.toArray w fun e w' => ∃ v, e = .returned v ∧ ∃ G' cls', Rel C N G' cls' (s.calledU avs d r h2 wr) (a.put d v) w' ∧ Stays G G' s (s.calledU avs d r h2 wr) := by
  classical
  obtain ⟨_, hC⟩ := hC
  have hseen : SeesL G (canon 0 avs) vs := by
    refine ⟨by rw [canon_length]; exact hvs.1, fun j c hj => ?_⟩
    obtain ⟨y, h1, h2⟩ := canon_get _ _ _ _ hj
    have h3 := hvs.2 j y h1
    rw [h2]
    rcases canonA_cases (0 + j) y with ⟨_, e⟩ | ⟨_, _, _, e⟩ | ⟨_, _, _, e⟩ <;> rw [e]
    · exact h3
    · exact h3.unown
    · exact h3.relabel _
  have hargs : ∀ (i : Nat) (x : AV), (canon 0 avs)[i]? = some x → OwnAt G (fun b c => (match argOf 0 avs (cls b) with | some i => Id.arg i | none => cls b) = c) x (vs.getD i undef) ∧ ∀ c, x.idOf = some c → c = .arg i := fun i x hx => by
    obtain ⟨y, h1, h2⟩ := canon_get _ _ _ _ hx
    rw [Nat.zero_add] at h2
    subst h2
    have ho := hown i y h1
    rcases canonA_cases i y with ⟨e0, e⟩ | ⟨_, _, _, e⟩ | ⟨c, e0, e1, e⟩ <;> rw [e]
    · exact ⟨.none _ e0, fun c hc => by rw [e0] at hc; cases hc⟩
    · exact ⟨.none _ (AV.idOf_unown _), fun c hc => by rw [AV.idOf_unown] at hc; cases hc⟩
    · refine ⟨ho.relabel _ fun b c' B _ hc' _ hR => ?_, fun c' hc' => ?_⟩
      · rw [e0] at hc'; injection hc' with hc'; subst hc'
        rw [hR.1, argOf_spec avs 0 i y c hnd h1 e0 e1, Nat.zero_add]
      · rw [relabel_id, e0] at hc'; injection hc' with hc'; exact hc'.symm
  have hu : ∀ (i : Nat) (cs : List AV), (unownH s.heap)[i]? = some cs → ∃ ds, s.heap[i]? = some ds ∧ cs = ds.map AV.unown := fun i cs hi => by
    unfold unownH at hi
    rw [List.getElem?_map] at hi
    cases hd : s.heap[i]? with
    | none => rw [hd] at hi; cases hi
    | some ds => rw [hd] at hi; injection hi with hi; exact ⟨ds, rfl, hi.symm⟩
  have hnone : ∀ (ds : List AV) (j : Nat) (c : AV), (ds.map AV.unown)[j]? = some c → c.idOf = none ∧ ∃ y, ds[j]? = some y ∧ c = y.unown := fun ds j c hj => by
    rw [List.getElem?_map] at hj
    cases hd : ds[j]? with
    | none => rw [hd] at hj; cases hj
    | some y => rw [hd] at hj; injection hj with hj; subst hj; exact ⟨AV.idOf_unown _, y, rfl, rfl⟩
  have hseeU : SeesH G (unownH s.heap) := by
    refine ⟨by unfold unownH; rw [List.length_map]; exact h.heap.1, fun i cs us h1 h2 => ?_⟩
    obtain ⟨ds, h3, rfl⟩ := hu i cs h1
    obtain ⟨f1, f2, f3⟩ := h.heap.2 i ds us h3 h2
    refine ⟨by rw [List.length_map]; exact f1, f2, fun j c hj => ?_⟩
    obtain ⟨_, y, h4, rfl⟩ := hnone ds j c hj
    exact (f3 j y h4).unown
  have hheap : OwnH G (fun b c => (match argOf 0 avs (cls b) with | some i => Id.arg i | none => cls b) = c) (unownH s.heap) := fun i cs us h1 h2 j c hj => by
    obtain ⟨ds, h3, rfl⟩ := hu i cs h1
    obtain ⟨h4, _⟩ := hnone ds j c hj
    exact ⟨.none _ h4, fun x hx => by rw [h4] at hx; cases hx⟩
  -- what is touched may be made to grow by the caller, too
  have hT : ∀ b, Touched G (canon 0 avs) vs (unownH s.heap) b → Acc C b ∧ (∃ c, c ∈ idsOf avs ∧ cls b = c) := fun b hb => by
    rcases hb with ⟨i, x, hx, hbx⟩ | ⟨i, cs, us, j, c, h1, h2, h3, hbx⟩
    · obtain ⟨y, h1, h2⟩ := canon_get _ _ _ _ hx
      rw [Nat.zero_add] at h2
      subst h2
      have ho := hown i y h1
      rcases canonA_cases i y with ⟨e0, e⟩ | ⟨_, _, _, e⟩ | ⟨c, e0, e1, e⟩ <;> rw [e] at hbx
      · exact absurd e0 hbx.1
      · exact absurd hbx ownsBlk_unown
      · obtain ⟨o, len, cap, hv, hne⟩ := hbx.2
        have hne' : cap ≠ len := hne.resolve_right fun ⟨c', h1, h2⟩ => by rw [relabel_id, e0] at h1; injection h1 with h1; subst h1; cases h2
        obtain ⟨c', B, hc', _, hR⟩ := own_cases (b := b) ho ⟨by rw [e0]; simp, o, len, cap, hv, .inl hne'⟩
        rw [e0] at hc'; injection hc' with hc'; subst hc'
        exact ⟨hR.2, ⟨c, (mem_idsOf avs c).2 ⟨i, y, h1, e0, e1⟩, hR.1⟩⟩
    · obtain ⟨ds, h4, rfl⟩ := hu i cs h1
      exact absurd (hnone ds j c h3).1 hbx.1
  refine (hC G w vs _ h.ok hseeU hseen hargs hheap).mono ?_
  rintro e w' ⟨v, G', cls', rfl, hA⟩
  refine ⟨v, rfl, ?_⟩
  -- who owns what behind the call
  let own2 : Nat → Id := fun b => if cls' b = .res ∧ (G.bufs b = none ∨ Touched G (canon 0 avs) vs (unownH s.heap) b) then (match d with | some d => .slot d | none => .res) else if G.bufs b ≠ none ∧ ¬ Touched G (canon 0 avs) vs (unownH s.heap) b then cls b else cls' b
  have hacc : ∀ b, (G.bufs b = none ∨ Touched G (canon 0 avs) vs (unownH s.heap) b) → Acc C b := fun b hb => by
    rcases hb with hb | hb
    · left
      cases hB : C.G0.bufs b with
      | none => rfl
      | some B => obtain ⟨m, hm⟩ := h.ext.bufs b B hB; rw [hm] at hb; cases hb
    · exact (hT b hb).1
  have hk := h.kill ((idsOf avs).contains ·)
  have hR : Rel C N G' own2 { (s.kill ((idsOf avs).contains ·)) with heap := h2, wr := wr ++ s.wr } a w' := by
    obtain ⟨k1, k2, k3⟩ := hK
    have hl' : h'.length = G'.boxv.length := hA.heap.1
    have split_ : ∀ (i : Nat) (cs : List AV) (us : List Value), h2[i]? = some cs → G'.boxv[i]? = some us → (s.heap[i]? = some cs ∧ G.boxv[i]? = some us) ∨ h'[i]? = some cs := fun i cs us e1 e2 => by
      have hi : i < h'.length := by rw [← k1]; exact (List.getElem?_eq_some_iff.1 e1).1
      have e3 := k3 i hi
      rw [e1] at e3
      split at e3
      · rename_i hc
        left
        refine ⟨e3.symm, ?_⟩
        rw [← hA.boxes i (by rw [← h.heap.1]; exact hc.1) hc.2]; exact e2
      · right; exact e3.symm
    have hnT0 : ∀ (b : Nat) (c : Id), c.isCell = true → cls b = c → ¬ Touched G (canon 0 avs) vs (unownH s.heap) b := fun b c hc hb ht => by
      obtain ⟨_, c', h1, h2⟩ := hT b ht
      obtain ⟨i, y, h3, h4, h5⟩ := (mem_idsOf avs c').1 h1
      rw [hb] at h2
      subst h2
      rw [hc] at h5; cases h5
    refine ⟨hA.ok, ⟨by show h2.length = _; rw [k1, hl'], fun i cs us e1 e2 => ?_⟩, fun i cs us e1 e2 j c hj => ?_, fun t ht => ⟨(hk.env t ht).1.ext hA.ext, ?_⟩, hk.plain, hk.size, hk.defers.ext hA.ext, h.ext.trans hA.ext, fun i hi hn => ?_, fun b B h1 h2 => ?_⟩
    · rcases split_ i cs us e1 e2 with ⟨e3, e4⟩ | e3
      · obtain ⟨f1, f2, f3⟩ := h.heap.2 i cs us e3 e4
        exact ⟨f1, f2, fun j c hj => (f3 j c hj).ext hA.ext⟩
      · exact hA.heap.2 i cs us e3 e2
    · rcases split_ i cs us e1 e2 with ⟨e3, e4⟩ | e3
      · obtain ⟨f1, f2⟩ := h.ownh i cs us e3 e4 j c hj
        refine ⟨f1.move fun b c' B _ hc' hB hR => ?_, f2⟩
        have hc2 := f2 c' hc'
        have hnT := hnT0 b c' (by rw [hc2]; rfl) hR.1
        refine ⟨hA.bufs b B hB hnT, ?_, hR.2⟩
        show (if _ then _ else _) = _
        rw [if_neg (by rintro ⟨_, h1 | h1⟩; rw [h1] at hB; cases hB; exact hnT h1), if_pos ⟨by rw [hB]; simp, hnT⟩]
        exact hR.1
      · obtain ⟨h3, h4⟩ := hA.ownh i cs us e3 e2 j c hj
        refine ⟨h3.imp2 fun b c' B _ hc' _ hR => ?_, h4⟩
        have hc2 := h4 c' hc'
        refine ⟨?_, hacc b hR.2⟩
        show (if _ then _ else _) = _
        rw [if_neg (by rw [hR.1, hc2]; rintro ⟨h, _⟩; cases h), if_neg (by rintro ⟨h5, h6⟩; exact hR.2.elim h5 h6)]
        exact hR.1
    · have hlk : ∀ c, ((s.kill ((idsOf avs).contains ·)).look t).idOf = some c → (idsOf avs).contains c = false := fun c hc => (h.killed _ t c hc).1
      show OwnAt G' _ ((s.kill ((idsOf avs).contains ·)).look t) _
      refine (hk.env t ht).2.move fun b c B _ hc hB hR => ?_
      have hkc := hlk c hc
      have hnT : ¬ Touched G (canon 0 avs) vs (unownH s.heap) b := fun hb => by
        obtain ⟨c', h1, h2⟩ := (hT b hb).2
        rw [hR.1] at h2
        subst h2
        rw [← Bool.not_eq_true] at hkc
        exact hkc (by simpa using h1)
      refine ⟨hA.bufs b B hB hnT, ?_, hR.2⟩
      show (if _ then _ else _) = _
      rw [if_neg (by rintro ⟨_, h1 | h1⟩; rw [h1] at hB; cases hB; exact hnT h1), if_pos ⟨by rw [hB]; simp, hnT⟩]
      exact hR.1
    · have hn' : i ∉ wr ∧ i ∉ s.wr := by
        constructor
        · exact fun hh => hn (List.mem_append_left _ hh)
        · exact fun hh => hn (List.mem_append_right _ hh)
      have h1 := h.boxes i hi hn'.2
      have hlt : i < G.boxv.length := by
        rw [List.getElem?_eq_getElem hi] at h1
        exact (List.getElem?_eq_some_iff.1 h1).1
      exact (hA.boxes i hlt hn'.1).trans h1
    · refine hA.bufs b B (h.bufs b B h1 h2) fun hb => ?_
      rcases (hT b hb).1 with h3 | h3
      · rw [h3] at h1; cases h1
      · exact h2 h3
  have hst : ∀ s' : St, s'.wr = wr ++ s.wr → Stays G G' s s' := fun s' hs' => ⟨hA.ext, wr, hs', fun i hi hn => hA.boxes i hi hn⟩
  cases d with
  | none => exact ⟨G', own2, hR, hst _ rfl⟩
  | some d =>
    unfold St.calledU
    dsimp only
    split
    · rename_i hr
      have ho : OwnAt G' (Own C own2) (r.relabel (.slot d)) v := hA.own.relabel _ fun b c B _ hc _ hR2 => by
        have hc2 := hA.id c hc
        refine ⟨?_, hacc b hR2.2⟩
        show (if _ then _ else _) = _
        rw [if_pos ⟨by rw [hR2.1, hc2], hR2.2⟩]
      exact ⟨G', own2, hR.putO (hd d rfl) (hA.sees.relabel _) ho, hst _ rfl⟩
    · rename_i hr
      have hi : r.idOf = none := by simpa using hr
      exact ⟨G', own2, hR.put (hd d rfl) hA.sees hi, hst _ rfl⟩
end
end Go.Proofs.YtofkddajlgebjaaGreat.Ax
/- Each operation over values without memory, held against the model's. No program is named here. -/
namespace Go.Proofs.YtofkddajlgebjaaGreat.Ax
open Go.RowKit Go By

/-- From any place that is s the operation leads to one that is s'. -/
def OpS (P : Program) (C : Ctx) (N : Nat) (s s' : St) (o : Oper) (Q : Exit → Act → World → Prop) : Prop :=
  ∀ (G : Ghost) (cls : Nat → Id) (a : Act) (w : World), Rel C N G cls s a w → o.wp P a w (fun a' w' => ∃ G' cls', Rel C N G' cls' s' a' w' ∧ Stays G G' s s') Q

section
variable {P : Program} {C : Ctx} {N : Nat} {s : St} {Q : Exit → Act → World → Prop}
theorem puts_wr (s : St) (d : Option Nat) (b : AV) (o : Bool) : (s.puts d b o).wr = s.wr := by
  cases d with
  | none => rfl
  | some d => cases o <;> rfl
theorem eff_val (o : Oper) (x : XOp) (hc : cop P o.op = some x) (hv : x.isVal = true) (hf : fitsAll N o = true) (hok : (xval s x).ok) : OpS P C N s (s.puts o.dst (xval s x).val (xval s x).own) o Q := fun G cls a w h => by
  obtain ⟨v, h1, h2, h3, h4⟩ := val_sound h o x hc hv hf hok
  have hr := h4 G w (Ext.refl G) h.ok (fun _ _ => rfl)
  unfold Oper.wp
  rw [hr]
  exact ⟨G, cls, h.puts (fits_dst hf) h1 h2 h3, Stays.same (puts_wr _ _ _ _)⟩
theorem eff_assign (o : Oper) (y : Operand) (ho : o.op = .assign y) (d : Nat) (hd : o.dst = some d) (hf : fitsAll N o = true) : OpS P C N s (s.assigned d y) o Q := fun G cls a w h => by
  have hfy : fitsO N y = true := fits_mem hf (by rw [ho]; simp [Op.operands])
  have hdN : d < N := fits_dst hf d hd
  have hr : (execOp a.eval o).run P w = .ok (.value (a.eval y)) w := by unfold execOp; rw [ho]; rfl
  unfold Oper.wp
  rw [hr]
  have h1 := h.get hfy
  have h2 := h.getOwn hfy
  show ∃ G' cls', Rel C N G' cls' _ (a.put o.dst (a.eval y)) w ∧ _
  rw [hd]
  unfold St.assigned
  split
  · split
    · rename_i c hc
      split
      · exact ⟨G, cls, h.putO hdN h1 h2, Stays.same rfl⟩
      · -- the room goes over
        rename_i hcell
        have hk := h.kill (fun z => decide (z = c))
        cases hg : s.get y with
        | sl k es nul room =>
          cases room with
          | own c' =>
            rw [hg] at hc h1 h2
            injection hc with hc
            subst hc
            cases hv : a.eval y with
            | slice a0 len cap =>
              rw [hv] at h1 h2
              rcases h2 with h2 | ⟨b, p, B, e1, e2, e3, e4, e5⟩
              · exact ⟨G, cls, hk.putO hdN (h1.relabel (lblR c' d)) (.inl ⟨h2.1, fun hh => h2.2 (lblR_new hh)⟩), Stays.same rfl⟩
              · have hR := hk.reown b (lblR c' d) fun _ _ _ => ⟨fun t z hz => by
                    have := (h.killed _ t z hz).1
                    rw [e5.1]; simpa using this, fun i cs hcs j e he z hz => by
                    have hlt : i < G.boxv.length := by rw [← h.heap.1]; exact (List.getElem?_eq_some_iff.1 hcs).1
                    have := (h.ownh i cs _ hcs (List.getElem?_eq_getElem hlt) j e he).2 z hz
                    rw [e5.1, this]
                    intro hh
                    rw [← hh] at hcell
                    exact hcell rfl⟩
                refine ⟨G, _, hR.putO hdN (h1.relabel (lblR c' d)) (.inr ⟨b, p, B, e1, e2, e3, e4, ?_, e5.2⟩), Stays.same rfl⟩
                show (if b = b then _ else _) = _
                rw [if_pos rfl]
            | _ => rw [hv] at h1; cases h1
          | _ => rw [hg] at hc; cases hc
        | _ => rw [hg] at hc; cases hc
    · rename_i hn
      exact ⟨G, cls, h.put hdN h1 hn, Stays.same rfl⟩
  · rename_i hm
    exact ⟨G, cls, h.put hdN h1 (h.getPlain (by simpa using hm)), Stays.same rfl⟩
theorem newBox_stays {G : Ghost} {a : Act} {w : World} {cls : Nat → Id} (_ : Rel C N G cls s a w) (b : Nat) (vs : List Value) (s' : St) (hw : s'.wr = s.wr) : Stays G (G.newBox b vs) s s' :=
  ⟨Ext.newBox b vs, [], hw, fun i hi _ => by show (G.boxv ++ [vs])[i]? = _; rw [List.getElem?_append_left hi]⟩
theorem eff_alloc (o : Oper) (t : TypeId) (z : List Value) (ho : o.op = .alloc t) (hz : zeroC P t = some z) (hf : fitsAll N o = true) : OpS P C N s ({ s with heap := s.heap ++ [z.map ofC1] }.puts o.dst (.box s.heap.length 0) false) o Q := fun G cls a w h => by
  obtain ⟨i, zv, hi, hzv, hzl, hz1⟩ := zeroC_spec hz
  have hr : (execOp a.eval o).run P w = .ok (.value (.pointer (some ⟨w.heap.size, 0, none⟩))) (w.alloc (.cells z.toArray t)) := by
    have e : zv.cells = z.toArray := by rw [← hzl]
    simp [execOp, ho, Instr.alloc, zeroValue, typeInfo, hi, hzv, newVar, newRow, e]
  unfold Oper.wp
  rw [hr]
  obtain ⟨h1, h2⟩ := h.newBox (cs := z.map ofC1) (vs := z) t ⟨by simp, fun j c hj => by
    rw [List.getElem?_map] at hj
    cases hx : z[j]? with
    | none => rw [hx] at hj; cases hj
    | some y => rw [hx] at hj; injection hj with hj; subst hj; rw [List.getD_eq_getElem?_getD, hx]; exact sees_ofC1 y⟩ (by rw [← hzl]; exact fun x hx => List.all_eq_true.1 hz1 x hx) (fun c hc => by obtain ⟨y, _, rfl⟩ := List.mem_map.1 hc; exact ofC1_id y)
  exact ⟨_, cls, h1.puts (fits_dst hf) h2 (.none _ rfl) (fun _ => rfl), newBox_stays h _ _ _ (puts_wr _ _ _ _)⟩
theorem eff_box (o : Oper) (t : TypeId) (y : Operand) (l : List AV) (ho : o.op = .box t y) (hl : (s.get y).cells = some l) (hf : fitsAll N o = true) : OpS P C N s ({ s with heap := s.heap ++ [l.map AV.unown] }.puts o.dst (.box s.heap.length 0) false) o Q := fun G cls a w h => by
  have hfy : fitsO N y = true := fits_mem hf (by rw [ho]; simp [Op.operands])
  obtain ⟨hc, h1⟩ := sees_cells (h.get hfy) hl
  have hr : (execOp a.eval o).run P w = .ok (.value (.pointer (some ⟨w.heap.size, 0, none⟩))) (w.alloc (.cells (a.eval y).cells.toList.toArray t)) := by
    simp [execOp, ho, Instr.box, newVar, newRow]
  unfold Oper.wp
  rw [hr]
  obtain ⟨h2, h3⟩ := h.newBox (cs := l.map AV.unown) (vs := (a.eval y).cells.toList) t hc.map_unown h1 (fun c hc => by obtain ⟨y, _, rfl⟩ := List.mem_map.1 hc; exact AV.idOf_unown y)
  exact ⟨_, cls, h2.puts (fits_dst hf) h3 (.none _ rfl) (fun _ => rfl), newBox_stays h _ _ _ (puts_wr _ _ _ _)⟩
theorem eff_emptyS (o : Oper) (t e : TypeId) (k : Nat) (parts : Array (Nat × Operand)) (ho : o.op = .buildSlice t 0 parts) (hp : parts.toList.isEmpty = true) (he : elemK P t = some (e, k)) (hf : fitsAll N o = true) : OpS P C N s (s.puts o.dst (.sl k [] (some false) .exact) false) o Q := fun G cls a w h => by
  obtain ⟨hu, hk, hk0⟩ := elemK_spec he
  have hpe : parts = #[] := by
    apply Array.ext'
    simpa using hp
  subst hpe
  have hsz : (sizeOf e).run P w = .ok k w := by
    unfold szOf at hk
    cases hi : P.info? e with
    | none => rw [hi] at hk; cases hk
    | some i => rw [hi] at hk; injection hk with hk; simp [sizeOf, typeInfo, hi, hk]
  have hr : (execOp a.eval o).run P w = .ok (.value (.slice (some ⟨w.heap.size, 0, none⟩) 0 0)) (w.alloc (.cells ([] : List Value).toArray e)) := by
    have : (Instr.buildSlice t 0 #[]).run P w = .ok (.slice (some ⟨w.heap.size, 0, none⟩) 0 0) (w.alloc (.cells ([] : List Value).toArray e)) := by
      unfold Instr.buildSlice
      have e0 : ∀ f : Nat → Value, Array.map f (Array.range 0) = #[] := fun f => by apply Array.ext' <;> simp
      simp [Sem.run_bind, run_underlying hu, hsz, Instr.fill, newRow, e0]
    simp only [execOp, ho, Array.map_empty, Sem.run_bind, this, Result.andThen_ok, Sem.run_pure]
  unfold Oper.wp
  rw [hr]
  have hR := h.newBuf [] e
  have hE := Ext.newBuf h.ok ⟨[], ([] : List Value).length⟩
  refine ⟨_, cls, hR.puts (fits_dst hf) ?_ (.none _ rfl) (fun _ => rfl), ⟨hE, [], puts_wr _ _ _ _, fun i hi _ => rfl⟩⟩
  exact .sl k [] _ _ _ 0 0 (fun _ _ => undef) rfl ⟨fun hh => (by cases hh), fun hh => (by cases hh), fun _ hh => (by cases hh)⟩ (fun e he => by cases he) (Nat.le_refl _) (by unfold maxLen; omega) (fun _ => rfl) (fun hh => by simp at hh) (fun i e he => by simp at he) (fun i j hi => by simp at hi)
theorem rep_sees {G : Ghost} (k : Nat) (z : List Value) (hz : z.length = k) (hk : 0 < k) : ∀ n, SeesL G (rep k (z.map ofC1) n) ((Array.range (n * k)).map (z.toArray[· % z.toArray.size]!)).toList
  | 0 => by simp [rep]; exact SeesL.nil
  | n + 1 => by
    have ih := rep_sees (G := G) k z hz hk n
    have hl : ∀ n, (rep k (z.map ofC1) n).length = n * k := fun n => by
      induction n with
      | zero => simp [rep]
      | succ n ih => rw [rep, List.length_append, ih, List.length_map, hz, Nat.succ_mul]; omega
    refine ⟨by rw [hl]; simp, fun j c hj => ?_⟩
    have hjl : j < (n + 1) * k := by rw [← hl]; exact (List.getElem?_eq_some_iff.1 hj).1
    have hget : ∀ m, j < m * k → (((Array.range (m * k)).map (z.toArray[· % z.toArray.size]!)).toList).getD j undef = z[j % k]! := fun m hm => by
      rw [List.getD_eq_getElem?_getD]
      simp [hm, hz]
    rw [hget _ hjl]
    rw [rep] at hj
    by_cases hjk : j < k
    · rw [List.getElem?_append_left (by simp [hz]; exact hjk), List.getElem?_map] at hj
      rw [Nat.mod_eq_of_lt hjk]
      cases hx : z[j]? with
      | none => rw [hx] at hj; cases hj
      | some y =>
        rw [hx] at hj
        injection hj with hj
        subst hj
        have : z[j]! = y := by rw [List.getElem!_eq_getElem?_getD, hx]; rfl
        rw [this]; exact sees_ofC1 y
    · rw [List.getElem?_append_right (by simp [hz]; omega)] at hj
      have hj2 : (rep k (z.map ofC1) n)[j - k]? = some c := by simpa [hz] using hj
      have := ih.2 (j - k) c hj2
      have hlt : j - k < n * k := by rw [← hl]; exact (List.getElem?_eq_some_iff.1 hj2).1
      have hg2 : (((Array.range (n * k)).map (z.toArray[· % z.toArray.size]!)).toList).getD (j - k) undef = z[(j - k) % k]! := by
        rw [List.getD_eq_getElem?_getD]
        simp [hlt, hz]
      rw [hg2] at this
      rw [show j % k = (j - k) % k from Nat.mod_eq_sub_mod (by omega)]
      exact this
theorem chunk_length (k : Nat) : ∀ (n : Nat) (l : List AV), (chunk k n l).length = n
  | 0, _ => rfl
  | n + 1, l => by simp [chunk, chunk_length k n]
theorem chunk_get (k : Nat) : ∀ (n : Nat) (l : List AV) (i : Nat) (e : List AV), l.length = n * k → (chunk k n l)[i]? = some e → e.length = k ∧ ∀ (j : Nat) (c : AV), e[j]? = some c → l[i * k + j]? = some c
  | 0, l, i, e, _, h => by simp [chunk] at h
  | n + 1, l, 0, e, hl, h => by
    simp [chunk] at h; subst h
    refine ⟨by rw [List.length_take, hl, Nat.succ_mul]; omega, fun j c hj => ?_⟩
    rw [List.getElem?_take] at hj
    split at hj
    · simpa using hj
    · cases hj
  | n + 1, l, i + 1, e, hl, h => by
    have h' : (chunk k n (l.drop k))[i]? = some e := by simpa [chunk] using h
    obtain ⟨h1, h2⟩ := chunk_get k n (l.drop k) i e (by rw [List.length_drop, hl, Nat.succ_mul]; omega) h'
    refine ⟨h1, fun j c hj => ?_⟩
    have := h2 j c hj
    rw [List.getElem?_drop] at this
    rw [← this]
    congr 1
    rw [Nat.succ_mul]; omega
theorem fillX_length : ∀ (ps : List (Nat × Nat × AV)) (z cs : List AV), fillX z ps = some cs → cs.length = z.length
  | [], z, cs, h => by simp [fillX] at h; rw [h]
  | (off, size, a) :: ps, z, cs, h => by
    unfold fillX at h
    split at h
    · split at h
      · rw [fillX_length ps _ cs h, lay_length]
      · cases h
    · cases h
theorem eff_buildSlice (o : Oper) (t e : TypeId) (k len : Nat) (z : List Value) (parts : Array (Nat × Operand)) (ho : o.op = .buildSlice t len parts) (he : elemK P t = some (e, k)) (hz : zeroC P e = some z) (hzk : z.length = k) (hlen : 0 < len) (hsm : len * k ≤ 1000)
    (cs : List AV) (hcs : fillX (rep k (z.map ofC1) len) (parts.toList.map fun p => (p.1 * k, k, s.get p.2)) = some cs) (hf : fitsAll N o = true) : OpS P C N s (s.puts o.dst (.sl k (chunk k len cs) (some false) .exact) false) o Q := fun G cls a w h => by
  obtain ⟨hu, hk, hk0⟩ := elemK_spec he
  obtain ⟨i, zv, hi, hzv, hzl, hz1⟩ := zeroC_spec hz
  have hik : i.size = k := by unfold szOf at hk; rw [hi] at hk; injection hk
  have hzc : zv.cells = z.toArray := by rw [← hzl]
  obtain ⟨cells, h1, h2, h3⟩ := fill_sees (G := G) (fun i => some (i * k, k)) (parts.toList.map fun p => (p.1, a.eval p.2)) (parts.toList.map fun p => (p.1 * k, k, s.get p.2)) ((Array.range (len * k)).map (z.toArray[· % z.toArray.size]!)) _ cs ⟨by simp, fun i p x hp hx => by
    rw [List.getElem?_map] at hp hx
    cases hq : parts.toList[i]? with
    | none => rw [hq] at hp; cases hp
    | some q =>
      rw [hq] at hp hx
      injection hp with hp; injection hx with hx
      subst hp hx
      exact ⟨rfl, h.get (fits_mem hf (by rw [ho]; simp [Op.operands]; exact ⟨q.1, by simpa using List.mem_of_getElem? hq⟩))⟩⟩ (rep_sees k z hzk hk0 len) (fun y hy => by
    have hz1' : ∀ x ∈ z, x.oneCell' = true := by rw [← hzl]; exact fun x hx => List.all_eq_true.1 hz1 x hx
    simp only [Array.toList_map, List.mem_map] at hy
    obtain ⟨j, _, rfl⟩ := hy
    have hlt : j % z.toArray.size < z.length := by simp; exact Nat.mod_lt _ (by omega)
    have hm : z.toArray[j % z.toArray.size]! = z[j % z.toArray.size] := by
      rw [getElem!_pos z.toArray _ (by simpa using hlt)]; simp
    rw [hm]; exact hz1' _ (List.getElem_mem _)) hcs
  have hcl : cs.length = len * k := by
    rw [fillX_length _ _ _ hcs]
    have := (rep_sees (G := G) k z hzk hk0 len).1
    simpa using this.symm
  have hr : (execOp a.eval o).run P w = .ok (.value (.slice (some ⟨w.heap.size, 0, none⟩) len len)) (w.alloc (.cells cells.toList.toArray e)) := by
    have hb := run_buildSlice (P := P) w t e len (parts.map fun (i, x) => (i, a.eval x)) cells i zv hu hi hzv (by rw [hik]; omega) (by rw [hik]; have := Nat.mul_pos hlen hk0; omega) (by rw [hik, hzc, Array.toList_map]; exact h1)
    simp only [execOp, ho, Sem.run_bind, hb, Result.andThen_ok, Sem.run_pure, Array.toArray_toList]
  unfold Oper.wp
  rw [hr]
  have hR := h.newBuf cells.toList e
  have hE := Ext.newBuf h.ok ⟨cells.toList, cells.toList.length⟩
  have hs : Sees (G.setBuf w.heap.size ⟨cells.toList, cells.toList.length⟩) (.sl k (chunk k len cs) (some false) .exact) (.slice (some ⟨w.heap.size, 0, none⟩) len len) := by
    refine .sl k _ _ _ _ len len (fun i j => cells.toList.getD (i * k + j) undef) (chunk_length k len cs).symm ⟨fun hh => (by cases hh), fun hh => (by cases hh), fun _ hh => (by cases hh)⟩ (fun e he => ?_) (Nat.le_refl _) (by unfold maxLen; have : len ≤ len * k := Nat.le_mul_of_pos_right len hk0; omega) (fun _ => rfl) (fun _ => ⟨w.heap.size, 0, rfl, fun i j hi hj => ?_⟩) (fun i e he j c hj => ?_) (fun i j hi hj => ?_)
    · obtain ⟨i, hi⟩ := List.getElem?_of_mem he
      exact (chunk_get k len cs i e hcl hi).1
    · rw [chunk_length] at hi
      have hp : i * k + j < len * k := by
        have : (i + 1) * k ≤ len * k := Nat.mul_le_mul_right k hi
        rw [Nat.add_mul, Nat.one_mul] at this; omega
      unfold Ghost.cell
      rw [if_neg (by have := h.ok.size; show ¬ w.heap.size < G.w0.heap.size; omega)]
      show (if w.heap.size = w.heap.size then _ else _ : Option Buf).bind _ = _
      rw [if_pos rfl, Nat.zero_add]
      show cells.toList[i * k + j]? = _
      rw [List.getD_eq_getElem?_getD, List.getElem?_eq_getElem (by rw [h2.1, hcl]; exact hp)]
      rfl
    · exact ((h2.2 _ c ((chunk_get k len cs i e hcl he).2 j c hj))).ext hE
    · rw [chunk_length] at hi
      have hp : i * k + j < len * k := by
        have : (i + 1) * k ≤ len * k := Nat.mul_le_mul_right k hi
        rw [Nat.add_mul, Nat.one_mul] at this; omega
      rw [List.getD_eq_getElem?_getD, List.getElem?_eq_getElem (by rw [h2.1, hcl]; exact hp)]
      exact h3 _ (List.getElem_mem _)
  exact ⟨_, cls, hR.puts (fits_dst hf) hs (.none _ rfl) (fun _ => rfl), ⟨hE, [], puts_wr _ _ _ _, fun _ _ _ => rfl⟩⟩
end
end Go.Proofs.YtofkddajlgebjaaGreat.Ax
/- Stores, appends and calls over values without memory, held against the model's; an operation, whichever it is. No program is named here. -/
namespace Go.Proofs.YtofkddajlgebjaaGreat.Ax
open Go.RowKit Go By

section
variable {P : Program} {C : Ctx} {N : Nat} {s : St} {Q : Exit → Act → World → Prop}
/-- A variable's cells are written, in the model. -/
theorem run_store_box {G : Ghost} {a : Act} {w : World} (hW : WorldOk G w) {i b : Nat} (hb : G.boxes[i]? = some b ∧ G.kinds b = none) {us : List Value} (hus : G.boxv[i]? = some us) (o : Oper) (t : TypeId) (n off : Nat) (p y : Operand) (ho : o.op = .store t p y) (hn : szOf P t = some n)
    (hp : a.eval p = .pointer (some ⟨b, G.base i + off, none⟩)) (l : List Value) (hl : (a.eval y).cells.toList = l) (hll : l.length = n) (hfit : off + n ≤ us.length) (h1 : ∀ x ∈ l, x.oneCell' = true) : (execOp a.eval o).run P w = .ok .skip (w.setCells b (G.base i + off) l) := by
  obtain ⟨_, _, _, b4⟩ := hW.box i b us hb.1 hus
  have hc : ∀ j, j < l.length → (w.cell? ⟨b, G.base i + off + j, none⟩).isSome = true ∧ w.frozen? ⟨b, G.base i + off + j, none⟩ = false := fun j hj => by
    rw [Nat.add_assoc]
    obtain ⟨h3, h4⟩ := b4 (off + j) _ (List.getElem?_eq_getElem (by omega)) hb.2
    exact ⟨by rw [h3]; rfl, h4⟩
  have hst := run_storeCells_cells (P := P) b (G.base i + off) l 0 w (by simpa using fun j hj => (hc j hj).1) (by simpa using fun j hj => (hc j hj).2) h1
  have hsz : (sizeOf t).run P w = .ok n w := by
    unfold szOf at hn
    cases hi : P.info? t with
    | none => rw [hi] at hn; cases hn
    | some i => rw [hi] at hn; injection hn with hn; simp [sizeOf, typeInfo, hi, hn]
  have hcs : (a.eval y).cells.size = n := by rw [← hll, ← hl]; simp
  simp only [execOp, ho, hp, Instr.storeAt, Instr.sureAddr, storeVar, Sem.run_bind, Sem.run_pure, Result.andThen_ok, hsz, hcs, ne_eq, not_true, if_false, hl]
  simp only [Nat.add_zero] at hst
  rw [hst]
  rfl
theorem Rel.boxStored {G : Ghost} {cls : Nat → Id} {a : Act} {w : World} (h : Rel C N G cls s a w) {i b : Nat} (hb : G.boxes[i]? = some b ∧ G.kinds b = none) {us : List Value} (hus : G.boxv[i]? = some us) {cs : List AV} (hcs : s.heap[i]? = some cs) (off : Nat) (ls : List AV) (l : List Value) (hl : SeesL G ls l) (hfit : off + l.length ≤ us.length) (h1 : ∀ x ∈ l, x.oneCell' = true)
    (hO : ∀ (j : Nat) (c : AV), ls[j]? = some c → OwnAt G (Own C cls) c (l.getD j undef) ∧ ∀ x, c.idOf = some x → x = .cell i (off + j)) :
    Rel C N (G.setBox i (lay us off l)) cls { s with heap := s.heap.set i (lay cs off ls), wr := i :: s.wr } a (w.setCells b (G.base i + off) l) ∧ Stays G (G.setBox i (lay us off l)) s { s with heap := s.heap.set i (lay cs off ls), wr := i :: s.wr } := by
  have hE := Ext.setBox (G := G) i (lay us off l)
  obtain ⟨hlen, hone, hsv⟩ := h.heap.2 i cs us hcs hus
  have hil : i < s.heap.length := (List.getElem?_eq_some_iff.1 hcs).1
  have hil2 : i < G.boxv.length := (List.getElem?_eq_some_iff.1 hus).1
  have at_ : ∀ (i' : Nat) (ds : List AV) (vs : List Value), (s.heap.set i (lay cs off ls))[i']? = some ds → (G.boxv.set i (lay us off l))[i']? = some vs → (i' = i ∧ ds = lay cs off ls ∧ vs = lay us off l) ∨ (i' ≠ i ∧ s.heap[i']? = some ds ∧ G.boxv[i']? = some vs) := fun i' ds vs e1 e2 => by
    rw [List.getElem?_set] at e1 e2
    by_cases hi : i = i'
    · subst hi
      rw [if_pos rfl, if_pos hil] at e1
      rw [if_pos rfl, if_pos hil2] at e2
      injection e1 with e1; injection e2 with e2
      exact .inl ⟨rfl, e1.symm, e2.symm⟩
    · rw [if_neg hi] at e1 e2
      exact .inr ⟨fun hh => hi hh.symm, e1, e2⟩
  refine ⟨h.next hE (h.ok.setBox hb.1 hb.2 hus off l hfit) (fun b B hB => hB) ⟨by simp [Ghost.setBox, h.heap.1], fun i' ds vs e1 e2 => ?_⟩ (fun i' ds vs e1 e2 j c hj => ?_) (fun i' hi' hn => ?_), ⟨hE, [i], rfl, fun i' hi' hn => ?_⟩⟩
  · rcases at_ i' ds vs e1 e2 with ⟨rfl, rfl, rfl⟩ | ⟨_, h3, h4⟩
    · have hs := (SeesL.lay ls l cs us off hl ⟨hlen, hsv⟩)
      refine ⟨hs.1, fun x hx => ?_, fun j c hj => (hs.2 j c hj).ext hE⟩
      rcases lay_mem _ _ _ _ hx with hx | hx
      · exact hone x hx
      · exact h1 x hx
    · obtain ⟨h5, h6, h7⟩ := h.heap.2 i' ds vs h3 h4
      exact ⟨h5, h6, fun j c hj => (h7 j c hj).ext hE⟩
  · rcases at_ i' ds vs e1 e2 with ⟨rfl, rfl, rfl⟩ | ⟨_, h3, h4⟩
    · have hll := hl.1
      rw [lay_get ls cs off j (by omega)] at hj
      rw [List.getD_eq_getElem?_getD, lay_get l us off j hfit]
      by_cases hjj : off ≤ j ∧ j < off + ls.length
      · rw [if_pos hjj] at hj
        rw [if_pos (by omega), ← List.getD_eq_getElem?_getD]
        obtain ⟨h5, h6⟩ := hO _ c hj
        exact ⟨h5.keep fun b B c hB _ => hB, fun x hx => by rw [h6 x hx]; congr 1; omega⟩
      · rw [if_neg hjj] at hj
        rw [if_neg (by omega), ← List.getD_eq_getElem?_getD]
        obtain ⟨h5, h6⟩ := h.ownh i' cs us hcs hus j c hj
        exact ⟨h5.keep fun b B c hB _ => hB, h6⟩
    · obtain ⟨h5, h6⟩ := h.ownh i' ds vs h3 h4 j c hj
      exact ⟨h5.keep fun b B c hB _ => hB, h6⟩
  · have hne : i ≠ i' := fun hh => by subst hh; exact hn (List.mem_cons_self ..)
    show (G.boxv.set i _)[i']? = _
    rw [List.getElem?_set_ne hne]
    exact h.boxes i' hi' fun hh => hn (List.mem_cons_of_mem _ hh)
  · have hne : i ≠ i' := fun hh => by subst hh; exact hn (List.mem_cons_self ..)
    show (G.boxv.set i _)[i']? = _
    rw [List.getElem?_set_ne hne]
theorem eff_store (o : Oper) (t : TypeId) (n : Nat) (p y : Operand) (s' : St) (ho : o.op = .store t p y) (hn : szOf P t = some n) (hs' : s.storedAt n (s.get p) (s.get y) = some s') (hf : fitsAll N o = true) : OpS P C N s (s'.puts o.dst .any false) o Q := fun G cls a w h => by
  have hgp := h.get (fits_mem hf (show p ∈ o.op.operands.toList by rw [ho]; simp [Op.operands]))
  have hgy := h.get (fits_mem hf (show y ∈ o.op.operands.toList by rw [ho]; simp [Op.operands]))
  have hoy := h.getOwn (fits_mem hf (show y ∈ o.op.operands.toList by rw [ho]; simp [Op.operands]))
  unfold St.storedAt at hs'
  split at hs'
  · rename_i i off hp
    rw [hp] at hgp
    obtain ⟨b, hpe, hb⟩ := hgp.inv_box
    have hv : i < G.boxv.length := by rw [h.ok.len]; exact (List.getElem?_eq_some_iff.1 hb.1).1
    obtain ⟨us, hus⟩ : ∃ us, G.boxv[i]? = some us := ⟨_, List.getElem?_eq_getElem hv⟩
    unfold Oper.wp
    suffices hgoal : ∃ l, (execOp a.eval o).run P w = .ok .skip (w.setCells b (G.base i + off) l) ∧ ∃ G' cls', Rel C N G' cls' s' a (w.setCells b (G.base i + off) l) ∧ Stays G G' s s' by
      obtain ⟨l, hr, G', cls', hR, hS⟩ := hgoal
      rw [hr]
      exact ⟨G', cls', hR.puts (fits_dst hf) (.any undef) trivial (fun _ => rfl), hS.wr_eq (puts_wr _ _ _ _)⟩
    unfold St.stored at hs'
    split at hs'
    · rename_i c hc
      split at hs'
      · rename_i cs hcs
        split at hs'
        · rename_i hcond
          obtain ⟨rfl, hlt⟩ := hcond
          injection hs' with hs'
          subst hs'
          have hst := h.strip c
          obtain ⟨hsl, hone, _⟩ := hst.heap.2 i cs us hcs hus
          cases hgy' : s.get y with
          | sl k es nul room =>
            cases room with
            | own c' =>
              rw [hgy'] at hc hgy hoy
              injection hc with hc
              subst hc
              cases hvy : a.eval y with
              | slice a0 len cap =>
                rw [hvy] at hgy hoy
                have hr := run_store_box h.ok hb hus o t 1 off p y ho hn hpe [.slice a0 len cap] (by rw [hvy]; rfl) rfl (by omega) (by simp [Value.oneCell'])
                -- who owns the room goes over into the variable
                have hex : ∃ cls2, Rel C N G cls2 (s.strip c') a w ∧ OwnAt G (Own C cls2) (.sl k es nul (.own (.cell i off))) (.slice a0 len cap) := by
                  rcases hoy with hoy | ⟨b', o', B, e1, e2, e3, e4, e5⟩
                  · exact ⟨cls, hst, .inl ⟨hoy.1, fun hh => by cases hh⟩⟩
                  · obtain ⟨h6, h7⟩ := h.stripped c'
                    refine ⟨_, hst.reown b' (.cell i off) fun _ _ _ => ⟨fun t z hz => by rw [e5.1]; exact h6 t z hz, fun i cs hcs j e he z hz => by rw [e5.1]; exact h7 i cs hcs j e he z hz⟩, .inr ⟨b', o', B, e1, e2, e3, e4, ?_, e5.2⟩⟩
                    show (if b' = b' then _ else _) = _
                    rw [if_pos rfl]
                obtain ⟨cls2, hR2, hO2⟩ := hex
                obtain ⟨hR3, hS3⟩ := hR2.boxStored hb hus hcs off [.sl k es nul (.own (.cell i off))] [.slice a0 len cap] (SeesL.nil.cons (hgy.relabel (.cell i off))) (by simp; omega) (by simp [Value.oneCell']) (fun j x hj => by
                  rcases j with _ | j
                  · simp at hj; subst hj; exact ⟨hO2, fun x hx => by injection hx with hx; rw [← hx, Nat.add_zero]⟩
                  · simp at hj)
                exact ⟨_, hr, _, cls2, hR3, hS3.ext, hS3.grow⟩
              | _ => rw [hvy] at hgy; cases hgy
            | _ => rw [hgy'] at hc; cases hc
          | _ => rw [hgy'] at hc; cases hc
        · cases hs'
      · cases hs'
    · rename_i hni
      split at hs'
      · rename_i l cs hl hcs
        split at hs'
        · rename_i hcond
          injection hs' with hs'
          subst hs'
          obtain ⟨hsl, hone, _⟩ := h.heap.2 i cs us hcs hus
          obtain ⟨hc1, hc2⟩ := sees_cells hgy hl
          have hll : (a.eval y).cells.toList.length = n := by rw [hc1.1]; exact hcond.1
          have hr := run_store_box h.ok hb hus o t n off p y ho hn hpe (a.eval y).cells.toList rfl hll (by omega) hc2
          obtain ⟨hR3, hS3⟩ := h.boxStored hb hus hcs off (l.map AV.unown) (a.eval y).cells.toList hc1.map_unown (by omega) hc2 (fun j c hj => by
            rw [List.getElem?_map] at hj
            cases hx : l[j]? with
            | none => rw [hx] at hj; cases hj
            | some z => rw [hx] at hj; injection hj with hj; subst hj; exact ⟨.none _ (AV.idOf_unown _), fun x hx => by rw [AV.idOf_unown] at hx; cases hx⟩)
          exact ⟨_, hr, _, cls, hR3, hS3⟩
        · cases hs'
      · cases hs'
  · cases hs'
theorem eff_append (o : Oper) (t u e e' : TypeId) (k d : Nat) (i : TypeInfo) (z : List Value) (y x : Operand) (ho : o.op = .call { callee := .builtin .append, args := #[y, x], argTypes := #[t, u] }) (hd : o.dst = some d) (he : elemK P t = some (e, k)) (hz : zeroC P e = some z) (hzk : z.length = k) (hi : P.info? e = some i) (hu : P.underlying u = some (.slice e'))
    (k1 k2 : Nat) (es es2 : List (List AV)) (nul nul2 : Option Bool) (room room2 : Room) (hy : s.get y = .sl k1 es nul room) (hx : s.get x = .sl k2 es2 nul2 room2) (hro : roomOk k1 k es room) (hk2 : k2 = k ∨ es2 = []) (hfit : (es.length + es2.length) * i.bytes ≤ 140737488355328) (hfit2 : es.length + es2.length ≤ 140737488355328) (hf : fitsAll N o = true) :
    OpS P C N s ((s.stripR room).putO d (.sl k (es ++ es2) none (.own (lblA room d)))) o Q := fun G cls a w h => by
  obtain ⟨ht, hk, hk0⟩ := elemK_spec he
  obtain ⟨i', zv, hi', hzv, hzl, hz1⟩ := zeroC_spec hz
  rw [hi] at hi'; injection hi' with hi'; subst hi'
  have hik : i.size = k := by unfold szOf at hk; rw [hi] at hk; injection hk
  have hgy := h.get (fits_mem hf (show y ∈ o.op.operands.toList by rw [ho]; simp [Op.operands, Call.operands]))
  have hgx := h.get (fits_mem hf (show x ∈ o.op.operands.toList by rw [ho]; simp [Op.operands, Call.operands]))
  have hoy := h.getOwn (fits_mem hf (show y ∈ o.op.operands.toList by rw [ho]; simp [Op.operands, Call.operands]))
  rw [hy] at hgy hoy
  rw [hx] at hgx
  have hsrc : ∃ news, Src P k u (a.eval x) es2.length news w ∧ (∀ e, e ∈ es2 → e.length = k) ∧ ∀ i e, es2[i]? = some e → ∀ j c, e[j]? = some c → Sees G c (news.getD (i * k + j) undef) := by
    cases hv : a.eval x with
    | slice a0 len cap =>
      rw [hv] at hgx
      cases hgx with
      | sl _ _ _ _ _ _ _ uu hlen hn hkk hcap hmx hr hc hs ho1 =>
        subst hlen
        by_cases h0 : es2.length = 0
        · have hes : es2 = [] := List.eq_nil_of_length_eq_zero h0
          subst hes
          refine ⟨[], ?_, fun e he => (by cases he), fun i e he => (by simp at he)⟩
          cases a0 with
          | none => exact Src.ofNil w hu cap
          | some ad => exact Src.ofSlice w hu ad 0 cap [] (by simp) (fun j v hj => by simp at hj) (fun v hv => by cases hv)
        · have hkk2 : k2 = k := by
            rcases hk2 with hk2 | hk2
            · exact hk2
            · rw [hk2] at h0; simp at h0
          subst hkk2
          obtain ⟨b, p, rfl, hcell⟩ := hc (by omega)
          have hmod : ∀ q, q < es2.length * k2 → q / k2 < es2.length ∧ q % k2 < k2 := fun q hq => ⟨(Nat.div_lt_iff_lt_mul hk0).2 hq, Nat.mod_lt _ hk0⟩
          refine ⟨(List.range (es2.length * k2)).map fun q => uu (q / k2) (q % k2), Src.ofSlice w hu ⟨b, p, none⟩ es2.length cap _ (by simp) (fun j v hj => ?_) (fun v hv => ?_), hkk, fun i e he j c hj => ?_⟩
          · have hjl : j < es2.length * k2 := by simpa using (List.getElem?_eq_some_iff.1 hj).1
            rw [List.getElem?_map, List.getElem?_range hjl] at hj
            injection hj with hj
            obtain ⟨h3, h4⟩ := hmod j hjl
            have := h.ok.cell (hcell _ _ h3 h4)
            rw [add_plain, ← hj, ← this, Nat.add_assoc, Nat.div_add_mod' j k2]
          · obtain ⟨q, hq, rfl⟩ := List.mem_map.1 hv
            obtain ⟨h3, h4⟩ := hmod q (List.mem_range.1 hq)
            exact ho1 _ _ h3 h4
          · have hil : i < es2.length := (List.getElem?_eq_some_iff.1 he).1
            have hjl : j < k2 := by rw [← hkk e (List.mem_of_getElem? he)]; exact (List.getElem?_eq_some_iff.1 hj).1
            have hp : i * k2 + j < es2.length * k2 := by
              have : (i + 1) * k2 ≤ es2.length * k2 := Nat.mul_le_mul_right k2 hil
              rw [Nat.add_mul, Nat.one_mul] at this; omega
            rw [List.getD_eq_getElem?_getD, List.getElem?_map, List.getElem?_range hp]
            have e1 : (i * k2 + j) / k2 = i := by rw [Nat.mul_comm, Nat.mul_add_div hk0, Nat.div_eq_of_lt hjl, Nat.add_zero]
            have e2 : (i * k2 + j) % k2 = j := by rw [Nat.mul_comm, Nat.mul_add_mod, Nat.mod_eq_of_lt hjl]
            simp only [Option.map_some, Option.getD_some, e1, e2]
            exact hs i e he j c hj
    | _ => rw [hv] at hgx; cases hgx
  obtain ⟨news, hsrc, hk2', hs2⟩ := hsrc
  obtain ⟨v, w', hr, G', cls', hE, hbx, hR, hS, hO⟩ := append_sees (ty := o.type) h t u e i zv ht hi hzv k hik (by rw [← hzk, ← hzl]; simp) hk0 k1 es es2 nul room _ (a.eval x) news hgy hoy
    (by cases room with
      | no => exact hro.elim
      | exact => rcases hro with hro | hro; exact .inl hro; exact .inr ⟨hro, rfl⟩
      | own c => exact .inl hro) (by cases room <;> first | exact hro.elim | (intro hh; cases hh)) hk2' hsrc hs2 hfit hfit2 (lblA room d) (lblA_new)
  have hrun : (execOp a.eval o).run P w = .ok (.value v) w' := by
    simp [execOp, ho, resolve, invoke, builtin, hr]
  unfold Oper.wp
  rw [hrun]
  have hwr : ((s.stripR room).putO d (.sl k (es ++ es2) none (.own (lblA room d)))).wr = s.wr := by
    cases room <;> rfl
  show ∃ G' cls', Rel C N G' cls' _ (a.put o.dst v) w' ∧ _
  rw [hd]
  exact ⟨G', cls', hR.putO (fits_dst hf d hd) hS hO, hE, [], hwr, fun i _ _ => by rw [hbx]⟩
theorem run_clearK (w : World) (t e ty : TypeId) (zv c : Value) (k : Nat) (ht : P.underlying t = some (.slice e)) (hv : ∀ w, (zeroValue e).run P w = .ok zv w) (hz : zv.cells.toList = List.replicate k c) (h1 : c.oneCell' = true) (b o n cap : Nat) (hn : 0 < n) (hk : 0 < k)
    (hc : ∀ j, j < n * k → (w.cell? ⟨b, o + j, none⟩).isSome = true) (hf : ∀ j, j < n * k → w.frozen? ⟨b, o + j, none⟩ = false) :
    (Builtin.clear_ #[t] ty #[.slice (some ⟨b, o, none⟩) n cap]).run P w = .ok (.tuple #[]) (w.setCells b o (List.replicate (n * k) c)) := by
  have hz2 : zv.cells = (List.replicate k c).toArray := by rw [← hz]
  have hzc : (Builtin.zeroCells zv.cells n).toList = List.replicate (n * k) c := by
    rw [hz2]
    simp only [Builtin.zeroCells, List.size_toArray, List.length_replicate, Array.toList_map]
    refine List.eq_replicate_iff.2 ⟨by simp, fun x hx => ?_⟩
    obtain ⟨i, _, rfl⟩ := List.mem_map.1 hx
    have hm : i % k < (List.replicate k c).toArray.size := by simpa using Nat.mod_lt i hk
    rw [getElem!_pos (List.replicate k c).toArray (i % k) hm]
    simp
  have hst := run_storeCells_cells (P := P) b o (List.replicate (n * k) c) 0 w (by simpa using hc) (by simpa using hf) (by intro v hv'; rw [List.eq_of_mem_replicate hv']; exact h1)
  simp only [Nat.add_zero] at hst
  obtain ⟨m, rfl⟩ : ∃ m, n = m + 1 := ⟨n - 1, by omega⟩
  simp [Builtin.clear_, run_underlying ht, hv, hzc, hst]
theorem eff_clear (o : Oper) (t e : TypeId) (kz : Nat) (zv z : Value) (y : Operand) (ho : o.op = .call { callee := .builtin .clear, args := #[y], argTypes := #[t] }) (he : elemK P t = some (e, kz)) (hz : (P.info? e).bind (·.zero) = some zv) (hz0 : zeroOf kz zv = some z) (hf : fitsAll N o = true) {K : St → List Nat → Prop} (hx : xclear s kz z o.dst (s.get y) K) :
    ∃ s' l, K s' l ∧ OpS P C N s s' o Q := by
  obtain ⟨ht, hk, hk0⟩ := elemK_spec he
  have hzv : ∀ w, (zeroValue e).run P w = .ok zv w := fun w => by
    cases hi : P.info? e with
    | none => rw [hi] at hz; cases hz
    | some i =>
      rw [hi] at hz
      have hz : i.zero = some zv := hz
      simp [zeroValue, typeInfo, hi, hz]
  obtain ⟨hzc, hz1', hzi, hzs⟩ := zeroOf_spec hz0
  unfold xclear at hx
  split at hx
  · rename_i k es nul room hy
    obtain ⟨rfl, hK⟩ := hx
    refine ⟨_, _, hK, fun G cls a w h => ?_⟩
    have hgy := h.get (fits_mem hf (show y ∈ o.op.operands.toList by rw [ho]; simp [Op.operands, Call.operands]))
    rw [hy] at hgy
    cases hv : a.eval y with
    | slice a0 len cap =>
      rw [hv] at hgy
      cases hgy with
      | sl _ _ _ _ _ _ _ u hlen =>
        have h0 : len = 0 := hlen
        subst h0
        have hrun : (Builtin.clear_ #[t] o.type #[.slice a0 0 cap]).run P w = .ok (.tuple #[]) w := by
          cases a0 <;> simp [Builtin.clear_, run_underlying ht]
        have hrun2 : (execOp a.eval o).run P w = .ok (.value (.tuple #[])) w := by
          simp [execOp, ho, resolve, invoke, builtin, hv, hrun]
        unfold Oper.wp
        rw [hrun2]
        exact ⟨G, cls, h.puts (fits_dst hf) (.any _) trivial (fun _ => rfl), Stays.same (puts_wr _ _ _ _)⟩
    | _ => rw [hv] at hgy; cases hgy
  · rename_i i off k n hy
    obtain ⟨rfl, hx⟩ := hx
    cases hcs : s.heap[i]? with
    | none => rw [hcs] at hx; exact hx.elim
    | some cs =>
      rw [hcs] at hx
      have hx : off + n * k ≤ cs.length ∧ _ := hx
      refine ⟨_, _, hx.2, fun G cls a w h => ?_⟩
      have hgy := h.get (fits_mem hf (show y ∈ o.op.operands.toList by rw [ho]; simp [Op.operands, Call.operands]))
      rw [hy] at hgy
      cases hv : a.eval y with
      | slice a0 len cap =>
        rw [hv] at hgy
        cases hgy with
        | bsl _ _ _ _ b _ hb hcap hm o2 ho2 =>
          have hvl : i < G.boxv.length := by rw [← h.heap.1]; exact (List.getElem?_eq_some_iff.1 hcs).1
          obtain ⟨us, hus⟩ : ∃ us, G.boxv[i]? = some us := ⟨_, List.getElem?_eq_getElem hvl⟩
          obtain ⟨q1, q2, q3⟩ := h.heap.2 i cs us hcs hus
          obtain ⟨b1, b2, b3, b4⟩ := h.ok.box i b us hb.1 hus
          obtain ⟨hR, hS⟩ := h.boxStored hb hus hcs off (List.replicate (n * k) (ofC1 z)) (List.replicate (n * k) z) ⟨by simp, fun j c hj => by
            have hjl : j < n * k := by simpa using (List.getElem?_eq_some_iff.1 hj).1
            rw [List.getElem?_replicate, if_pos hjl] at hj
            injection hj with hj
            subst hj
            rw [List.getD_eq_getElem?_getD, List.getElem?_replicate, if_pos hjl]
            exact hzs _⟩ (by simp; omega) (fun x hx => by rw [List.eq_of_mem_replicate hx]; exact hz1') (fun j c hj => by
            have hc := List.eq_of_mem_replicate (List.mem_of_getElem? hj)
            subst hc
            exact ⟨.none _ hzi, fun x hx => by rw [hzi] at hx; cases hx⟩)
          have hrun : (Builtin.clear_ #[t] o.type #[.slice (some ⟨b, o2, none⟩) n cap]).run P w = .ok (.tuple #[]) (w.setCells b (G.base i + off) (List.replicate (n * k) z)) := by
            by_cases hn : n = 0
            · subst hn
              simp [Builtin.clear_, run_underlying ht, World.setCells]
            · have e2 : o2 = G.base i + off := by omega
              subst e2
              exact run_clearK w t e o.type zv z k ht hzv hzc hz1' b (G.base i + off) n cap (by omega) hk0 (fun j hj => by
                have := (b4 (off + j) _ (List.getElem?_eq_getElem (by omega)) hb.2).1
                rw [Nat.add_assoc, this]; rfl) (fun j hj => by rw [Nat.add_assoc]; exact (b4 (off + j) _ (List.getElem?_eq_getElem (by omega)) hb.2).2)
          have hrun2 : (execOp a.eval o).run P w = .ok (.value (.tuple #[])) (w.setCells b (G.base i + off) (List.replicate (n * k) z)) := by
            simp [execOp, ho, resolve, invoke, builtin, hv, hrun]
          unfold Oper.wp
          rw [hrun2]
          exact ⟨_, cls, hR.puts (fits_dst hf) (.any _) trivial (fun _ => rfl), hS.wr_eq (puts_wr _ _ _ _)⟩
      | _ => rw [hv] at hgy; cases hgy
  · exact hx.elim
theorem eff_makeS (o : Oper) (t e : TypeId) (k d : Nat) (i : TypeInfo) (z : List Value) (l y : Operand) (n : Int) (ho : o.op = .makeSlice t l y) (hd : o.dst = some d) (he : elemK P t = some (e, k)) (hz : zeroC P e = some z) (hi : P.info? e = some i) (hik : i.size = k) (hl : l = .const (.int .i64 0)) (hn : s.get y = .v (.int .i64 n))
    (h0 : 0 ≤ n) (hb : (i.bytes : Int) * n ≤ 140737488355328) (hm : n ≤ 140737488355328) (hf : fitsAll N o = true) :
    OpS P C N s (s.putO d (.sl k [] (some false) (.own (.new d)))) o Q := fun G cls a w h => by
  obtain ⟨ht, hk, hk0⟩ := elemK_spec he
  obtain ⟨i', zv, hi', hzv, hzl, hz1⟩ := zeroC_spec hz
  rw [hi] at hi'; injection hi' with hi'; subst hi'
  have hgy := h.get (fits_mem hf (show y ∈ o.op.operands.toList by rw [ho]; simp [Op.operands]))
  rw [hn] at hgy
  have hgv := hgy.inv_v
  have hmake := run_make (P := P) w t e i zv ht hi hzv .i64 .i64 0 n (Int.le_refl _) h0 (by omega) (by omega)
  obtain ⟨cs, hcs⟩ : ∃ cs, cs = madeCells zv.cells (n.toNat * i.size) := ⟨_, rfl⟩
  have hsz : cs.size = n.toNat * k := by rw [hcs, size_madeCells, hik]
  rw [← hcs] at hmake
  have hrun : (execOp a.eval o).run P w = .ok (.value (.slice (some ⟨w.heap.size, 0, none⟩) 0 n.toNat)) (w.alloc (.cells cs e)) := by
    subst hl
    have e0 : a.eval (.const (.int .i64 0)) = .int .i64 0 := rfl
    simp [execOp, ho, e0, hgv, hmake]
  unfold Oper.wp
  rw [hrun]
  have hE := Ext.newBuf h.ok ⟨[], cs.size⟩
  have hR := h.newRoom [] cs e (Nat.zero_le _) (fun j x hx => by simp at hx)
  have keep : ∀ (e : AV) (v : Value), OwnAt G (Own C cls) e v → OwnAt (G.setBuf w.heap.size ⟨[], cs.size⟩) (Own C fun y => if y = w.heap.size then .new d else cls y) e v := fun e v ho => by
    cases e with
    | sl k es nul room =>
      cases room with
      | own c =>
        cases v with
        | slice a0 len cap =>
          rcases ho with ho | ⟨b', o, B', h1, h2, h3, h4, h5, h6⟩
          · exact .inl ho
          · have hlt := (h.ok.buf b' B' h2).2.1
            have hne : b' ≠ w.heap.size := by omega
            refine .inr ⟨b', o, B', h1, ?_, h3, h4, ?_, h6⟩
            · show (if b' = w.heap.size then _ else G.bufs b') = _
              rw [if_neg hne]; exact h2
            · show (if b' = w.heap.size then _ else cls b') = c
              rw [if_neg hne]; exact h5
        | _ => exact trivial
      | _ => cases v <;> exact trivial
    | _ => exact trivial
  have hR2 : Rel C N (G.setBuf w.heap.size ⟨[], cs.size⟩) (fun y => if y = w.heap.size then .new d else cls y) s a (w.alloc (.cells cs e)) :=
    ⟨hR.ok, hR.heap, fun i cs' vs h1 h2 j c hj => by obtain ⟨h3, h4⟩ := h.ownh i cs' vs h1 h2 j c hj; exact ⟨keep _ _ h3, h4⟩, fun t ht => ⟨(hR.env t ht).1, keep _ _ (h.env t ht).2⟩, hR.plain, hR.size, hR.defers, hR.ext, hR.boxes, hR.bufs⟩
  show ∃ G' cls', Rel C N G' cls' _ (a.put o.dst _) _ ∧ _
  rw [hd]
  refine ⟨_, _, hR2.putO (fits_dst hf d hd) ?_ (.inr ⟨w.heap.size, 0, ⟨[], cs.size⟩, rfl, ?_, by simp, by simp [hsz], by simp, ?_⟩), hE, [], rfl, fun i _ _ => rfl⟩
  · exact .sl k [] _ _ _ 0 n.toNat (fun _ _ => undef) rfl ⟨fun hh => (by cases hh), fun hh => (by cases hh), fun _ hh => (by cases hh)⟩ (fun e he => by cases he) (Nat.zero_le _) (by unfold maxLen; omega) (fun hh => by cases hh) (fun hh => by simp at hh) (fun i e he => by simp at he) (fun i j hi => by simp at hi)
  · show (if w.heap.size = w.heap.size then _ else _) = _
    rw [if_pos rfl]
  · left
    cases hB : C.G0.bufs w.heap.size with
    | none => rfl
    | some B =>
      obtain ⟨m, hm2⟩ := h.ext.bufs _ _ hB
      have := (h.ok.buf _ _ hm2).2.1
      omega
theorem byteCells_at (l : List UInt8) (j : Nat) (hj : j < l.length) : (byteCells (strB l)).getD j undef = .int .u8 (((l.getD j 0).toNat : Nat) : Int) := by
  unfold byteCells strB
  simp [List.getD_eq_getElem?_getD, List.getElem?_eq_getElem hj]
theorem eff_appendS (o : Oper) (t u e : TypeId) (d : Nat) (i : TypeInfo) (z : List Value) (y x : Operand) (ho : o.op = .call { callee := .builtin .append, args := #[y, x], argTypes := #[t, u] }) (hd : o.dst = some d) (he : elemK P t = some (e, 1)) (hz : zeroC P e = some z) (hzk : z.length = 1) (hi : P.info? e = some i) (hb1 : i.bytes = 1) (hu : P.underlying u = some .string)
    (k1 : Nat) (es : List (List AV)) (nul : Option Bool) (room : Room) (b : ByteArray) (hy : s.get y = .sl k1 es nul room) (hx : s.get x = .v (.string b)) (hro : roomOk k1 1 es room) (hfit : es.length + b.size ≤ 140737488355328) (hf : fitsAll N o = true) :
    OpS P C N s ((s.stripR room).putO d (.sl 1 (es ++ bytesE b.data.toList) none (.own (lblA room d)))) o Q := fun G cls a w h => by
  obtain ⟨ht, hk, hk0⟩ := elemK_spec he
  obtain ⟨i', zv, hi', hzv, hzl, hz1⟩ := zeroC_spec hz
  rw [hi] at hi'; injection hi' with hi'; subst hi'
  have hik : i.size = 1 := by unfold szOf at hk; rw [hi] at hk; injection hk
  have hgy := h.get (fits_mem hf (show y ∈ o.op.operands.toList by rw [ho]; simp [Op.operands, Call.operands]))
  have hgx := h.get (fits_mem hf (show x ∈ o.op.operands.toList by rw [ho]; simp [Op.operands, Call.operands]))
  have hoy := h.getOwn (fits_mem hf (show y ∈ o.op.operands.toList by rw [ho]; simp [Op.operands, Call.operands]))
  rw [hy] at hgy hoy
  rw [hx] at hgx
  have hxe := hgx.inv_v
  have hlen : (bytesE b.data.toList).length = b.size := by unfold bytesE; simp
  have hs2 : ∀ i e, (bytesE b.data.toList)[i]? = some e → ∀ j c, e[j]? = some c → Sees G c ((byteCells b).getD (i * 1 + j) undef) := fun i e he j c hj => by
    unfold bytesE at he
    rw [List.getElem?_map] at he
    cases hq : b.data.toList[i]? with
    | none => rw [hq] at he; cases he
    | some q =>
      rw [hq] at he
      injection he with he
      subst he
      rcases j with _ | j
      · simp at hj; subst hj
        have hil := (List.getElem?_eq_some_iff.1 hq).1
        have := byteCells_at b.data.toList i hil
        rw [show strB b.data.toList = b from rfl] at this
        rw [Nat.mul_one, Nat.add_zero, this, List.getD_eq_getElem?_getD, hq]
        exact .v _
      · simp at hj
  obtain ⟨v, w', hr, G', cls', hE, hbx, hR, hS, hO⟩ := append_sees (ty := o.type) h t u e i zv ht hi hzv 1 hik (by rw [← hzk, ← hzl]; simp) hk0 k1 es (bytesE b.data.toList) nul room _ (.string b) (byteCells b) hgy hoy
    (by cases room with
      | no => exact hro.elim
      | exact => rcases hro with hro | hro; exact .inl hro; exact .inr ⟨hro, rfl⟩
      | own c => exact .inl hro) (by cases room <;> first | exact hro.elim | (intro hh; cases hh)) (fun e he => by unfold bytesE at he; obtain ⟨q, _, rfl⟩ := List.mem_map.1 he; rfl) (by rw [hlen]; exact Src.ofString w hu b) hs2 (by rw [hlen, hb1]; omega) (by rw [hlen]; omega) (lblA room d) lblA_new
  have hrun : (execOp a.eval o).run P w = .ok (.value v) w' := by
    simp [execOp, ho, resolve, invoke, builtin, hxe, hr]
  unfold Oper.wp
  rw [hrun]
  have hwr : ((s.stripR room).putO d (.sl 1 (es ++ bytesE b.data.toList) none (.own (lblA room d)))).wr = s.wr := by
    cases room <;> rfl
  show ∃ G' cls', Rel C N G' cls' _ (a.put o.dst v) w' ∧ _
  rw [hd]
  exact ⟨G', cls', hR.putO (fits_dst hf d hd) hS hO, hE, [], hwr, fun i _ _ => by rw [hbx]⟩
theorem sees_list {G : Ghost} (g : Operand → AV) (f : Operand → Value) : ∀ (l : List Operand), (∀ x, x ∈ l → Sees G (g x) (f x)) → SeesL G (l.map g) (l.map f)
  | [], _ => SeesL.nil
  | x :: l, h => (sees_list g f l fun y hy => h y (List.mem_cons_of_mem _ hy)).cons (h x (List.mem_cons_self ..))
theorem run_enter {f : FuncId} (hE : Enters P f) (args : Array Value) (w : World) : (callFunc f args).run P w = .ok (.enter f args) w := by
  obtain ⟨fn, h1, h2, h3⟩ := hE
  simp only [callFunc, Sem.run_bind, run_program, Result.andThen_ok, h1, h2, h3]
  rfl
theorem hand_leq {i : Nat} {a b : AV} (h : fitA i a b) : LeqV .res a (hand a b) ∧ canonA i (hand a b) = b := by
  unfold fitA at h
  split at h
  · exact ⟨trivial, rfl⟩
  · rename_i k' es' nul' room'
    split at h
    · rename_i k es nul room
      obtain ⟨h1, h2, h3, h4⟩ := h
      unfold roomFit at h4
      split at h4
      · exact ⟨⟨h1, h2, h3, .inl (by cases room <;> trivial)⟩, rfl⟩
      · exact ⟨⟨h1, h2, h3, .inl trivial⟩, rfl⟩
      · subst h4; exact ⟨⟨h1, h2, h3, .inl ⟨rfl, rfl⟩⟩, rfl⟩
      · obtain ⟨rfl, h5⟩ := h4
        rename_i c
        refine ⟨⟨h1, h2, h3, .inl rfl⟩, ?_⟩
        cases c <;> first | rfl | exact h5.elim
      · exact h4.elim
    · exact h.elim
  · rename_i hb1 hb2
    have e : hand a b = b := by
      cases b with
      | sl k es nul room => exact absurd rfl (hb2 k es nul room)
      | _ => rfl
    rw [e]
    refine ⟨?_, by cases b with | sl k es nul room => exact absurd rfl (hb2 k es nul room) | _ => rfl⟩
    unfold LeqV
    cases b with
    | sl k es nul room => exact absurd rfl (hb2 k es nul room)
    | any => trivial
    | _ => exact h
theorem hand_canon : ∀ {i : Nat} {l m : List AV}, fitL i l m → canon i (handL l m) = m
  | _, [], [], _ => rfl
  | i, a :: r, b :: q, h => by
    unfold fitL at h
    show canonA i (hand a b) :: canon (i + 1) (handL r q) = b :: q
    rw [(hand_leq h.1).2, hand_canon h.2]
  | _, [], b :: q, h => by unfold fitL at h; exact h.elim
  | _, a :: r, [], h => by unfold fitL at h; exact h.elim
theorem hand_get : ∀ {i : Nat} {l m : List AV}, fitL i l m → l.length = (handL l m).length ∧ ∀ (j : Nat) (x : AV), (handL l m)[j]? = some x → ∃ a, l[j]? = some a ∧ LeqV .res a x
  | _, [], [], _ => ⟨rfl, fun j x h => by simp [handL] at h⟩
  | i, a :: r, b :: q, h => by
    unfold fitL at h
    obtain ⟨h1, h2⟩ := hand_get h.2
    refine ⟨by simp [handL, h1], fun j x hx => ?_⟩
    cases j with
    | zero => simp [handL] at hx; subst hx; exact ⟨a, rfl, (hand_leq h.1).1⟩
    | succ j =>
      obtain ⟨y, h3, h4⟩ := h2 j x (by simpa [handL] using hx)
      exact ⟨y, by simpa using h3, h4⟩
  | _, [], b :: q, h => by unfold fitL at h; exact h.elim
  | _, a :: r, [], h => by unfold fitL at h; exact h.elim
theorem hand_sees {G : Ghost} {R : Nat → Id → Prop} {i : Nat} {l m : List AV} {vs : List Value} (h : fitL i l m) (hs : SeesL G l vs) (ho : ∀ (i : Nat) (x : AV), l[i]? = some x → OwnAt G R x (vs.getD i undef)) :
    SeesL G (handL l m) vs ∧ ∀ (i : Nat) (x : AV), (handL l m)[i]? = some x → OwnAt G R x (vs.getD i undef) := by
  obtain ⟨h1, h2⟩ := hand_get h
  refine ⟨⟨by rw [hs.1, h1], fun j c hj => ?_⟩, fun j c hj => ?_⟩
  · obtain ⟨a, h3, h4⟩ := h2 j c hj
    exact h4.sees (hs.2 j a h3)
  · obtain ⟨a, h3, h4⟩ := h2 j c hj
    exact h4.own (hs.2 j a h3) (ho j a h3)
theorem eff_call (o : Oper) (f : FuncId) (args : Array Operand) (ts : Array TypeId) (ho : o.op = .call { callee := .value (.func f), args := args, argTypes := ts }) (K : St → List Nat → Prop) (hx : xcall P f (args.toList.map s.get) s o.dst K) (hf : fitsAll N o = true) : ∃ s' l, K s' l ∧ OpS P C N s s' o Q := by
  have key : ∀ (bs : List AV) (s' : St), Enters P f → fitL 0 (args.toList.map s.get) bs → (∀ G cls a w vs, Rel C N G cls s a w → SeesL G (handL (args.toList.map s.get) bs) vs → (∀ (i : Nat) (x : AV), (handL (args.toList.map s.get) bs)[i]? = some x → OwnAt G (Own C cls) x (vs.getD i undef)) →
      Calls P f vs.toArray w fun e w' => ∃ v, e = .returned v ∧ ∃ G' cls', Rel C N G' cls' s' (a.put o.dst v) w' ∧ Stays G G' s s') → OpS P C N s s' o Q := fun bs s' hE hfit hcall G cls a w h => by
    have hfm : ∀ y, y ∈ args.toList → fitsO N y = true := fun y hy => fits_mem hf (by rw [ho]; simp [Op.operands, Call.operands]; exact .inr (by simpa using hy))
    have hrun : (execOp a.eval o).run P w = .ok (.enter f (args.toList.map a.eval).toArray) w := by
      have e : args.map a.eval = (args.toList.map a.eval).toArray := by apply Array.ext'; simp
      simp only [execOp, ho, resolve, Act.eval, Deferred.ofValue, Sem.run_bind, Sem.run_pure, Result.andThen_ok, invoke, Array.empty_append, Array.append_empty]
      rw [show (args.map a.eval) = _ from e]
      exact run_enter hE _ w
    unfold Oper.wp
    rw [hrun]
    have hown : ∀ (i : Nat) (x : AV), (args.toList.map s.get)[i]? = some x → OwnAt G (Own C cls) x ((args.toList.map a.eval).getD i undef) := fun i x hx => by
      rw [List.getElem?_map] at hx
      cases hy : args.toList[i]? with
      | none => rw [hy] at hx; cases hx
      | some y =>
        rw [hy] at hx
        injection hx with hx
        subst hx
        rw [List.getD_eq_getElem?_getD, List.getElem?_map, hy]
        exact h.getOwn (hfm y (List.mem_of_getElem? hy))
    obtain ⟨e1, e2⟩ := hand_sees hfit (sees_list _ _ _ fun y hy => h.get (hfm y hy)) hown
    refine (hcall G cls a w _ h e1 e2).mono fun e w' he => ?_
    obtain ⟨v, rfl, G', cls', hR, hS⟩ := he
    exact ⟨G', cls', hR, hS⟩
  rcases hx with hx | hx
  · obtain ⟨bs, r, h', wr, hC, hfit, hnd, hK⟩ := hx
    exact ⟨_, _, hK, key bs _ hC.1 hfit fun G cls a w vs h e1 e2 => call_sound h e1 e2 hnd (by rw [hand_canon hfit]; exact hC) o.dst (fits_dst hf)⟩
  · obtain ⟨bs, r, h', wr, h2, hC, hH, hfit, hnd, hK⟩ := hx
    exact ⟨_, _, hK, key bs _ hC.1 hfit fun G cls a w vs h e1 e2 => call_soundU h e1 e2 hnd (by rw [hand_canon hfit]; exact hC) hH o.dst (fits_dst hf)⟩
theorem eff_callv (o : Oper) (y : Operand) (args : Array Operand) (ts : Array TypeId) (hy : ∀ f, y ≠ .func f) (ho : o.op = .call { callee := .value y, args := args, argTypes := ts }) (f : FuncId) (first cap : List AV) (hg : s.get y = .fn (.func f) first cap) (K : St → List Nat → Prop) (hx : xcall P f (first ++ args.toList.map s.get ++ cap) s o.dst K)
    (hf1 : ∀ c ∈ first ++ cap, c.idOf = none) (hf : fitsAll N o = true) : ∃ s' l, K s' l ∧ OpS P C N s s' o Q := by
  have key : ∀ (bs : List AV) (s' : St), Enters P f → fitL 0 (first ++ args.toList.map s.get ++ cap) bs → (∀ G cls a w vs, Rel C N G cls s a w → SeesL G (handL (first ++ args.toList.map s.get ++ cap) bs) vs → (∀ (i : Nat) (x : AV), (handL (first ++ args.toList.map s.get ++ cap) bs)[i]? = some x → OwnAt G (Own C cls) x (vs.getD i undef)) →
      Calls P f vs.toArray w fun e w' => ∃ v, e = .returned v ∧ ∃ G' cls', Rel C N G' cls' s' (a.put o.dst v) w' ∧ Stays G G' s s') → OpS P C N s s' o Q := fun bs s' hE hfit hcall G cls a w h => by
    have hfm : ∀ z, z ∈ args.toList → fitsO N z = true := fun z hz => fits_mem hf (by rw [ho]; cases y <;> simp [Op.operands, Call.operands] <;> first | (exact .inr (by simpa using hz)) | (simpa using hz))
    have hfy : fitsO N y = true := fits_mem hf (by rw [ho]; simp [Op.operands, Call.operands])
    have hgy := h.get hfy
    rw [hg] at hgy
    obtain ⟨us, vs, hv, h1, h2, h3, h4⟩ := hgy.inv_fn
    have hrun : (execOp a.eval o).run P w = .ok (.enter f (us ++ args.toList.map a.eval ++ vs).toArray) w := by
      have e : us.toArray ++ args.map a.eval ++ vs.toArray = (us ++ args.toList.map a.eval ++ vs).toArray := by apply Array.ext'; simp
      simp only [execOp, ho, resolve, hv, Deferred.ofValue, Sem.run_bind, Sem.run_pure, Result.andThen_ok, invoke]
      rw [e]
      exact run_enter hE _ w
    unfold Oper.wp
    rw [hrun]
    have happ : ∀ (l1 l2 : List AV) (m1 m2 : List Value), SeesL G l1 m1 → SeesL G l2 m2 → SeesL G (l1 ++ l2) (m1 ++ m2) := fun l1 l2 m1 m2 e1 e2 => by
      refine ⟨by simp [e1.1, e2.1], fun j c hj => ?_⟩
      rw [List.getD_eq_getElem?_getD]
      by_cases hl : j < l1.length
      · rw [List.getElem?_append_left hl] at hj
        rw [List.getElem?_append_left (by rw [e1.1]; exact hl), ← List.getD_eq_getElem?_getD]
        exact e1.2 j c hj
      · rw [List.getElem?_append_right (by omega)] at hj
        rw [List.getElem?_append_right (by rw [e1.1]; omega), e1.1, ← List.getD_eq_getElem?_getD]
        exact e2.2 _ c hj
    have hsl := happ _ _ _ _ (happ _ _ _ _ (show SeesL G first us from ⟨h1, h3⟩) (sees_list (G := G) s.get a.eval args.toList fun z hz => h.get (hfm z hz))) (show SeesL G cap vs from ⟨h2, h4⟩)
    have hown : ∀ (i : Nat) (x : AV), (first ++ args.toList.map s.get ++ cap)[i]? = some x → OwnAt G (Own C cls) x ((us ++ args.toList.map a.eval ++ vs).getD i undef) := fun i x hx => by
      by_cases hi1 : i < first.length
      · rw [List.append_assoc, List.getElem?_append_left hi1] at hx
        exact .none _ (hf1 x (List.mem_append_left _ (List.mem_of_getElem? hx)))
      · by_cases hi2 : i < first.length + args.toList.length
        · rw [List.append_assoc, List.getElem?_append_right (by omega), List.getElem?_append_left (by simp; simp at hi2; omega)] at hx
          rw [List.append_assoc, List.getD_eq_getElem?_getD, List.getElem?_append_right (by omega), List.getElem?_append_left (by simp; simp at hi2; omega), h1]
          rw [List.getElem?_map] at hx ⊢
          cases hz : args.toList[i - first.length]? with
          | none => rw [hz] at hx; cases hx
          | some z =>
            rw [hz] at hx
            injection hx with hx
            subst hx
            exact h.getOwn (hfm z (List.mem_of_getElem? hz))
        · rw [List.append_assoc, List.getElem?_append_right (by omega), List.getElem?_append_right (by simp; simp at hi2; omega)] at hx
          exact .none _ (hf1 x (List.mem_append_right _ (List.mem_of_getElem? hx)))
    obtain ⟨e1, e2⟩ := hand_sees hfit hsl hown
    refine (hcall G cls a w _ h e1 e2).mono fun e w' he => ?_
    obtain ⟨v, rfl, G', cls', hR, hS⟩ := he
    exact ⟨G', cls', hR, hS⟩
  rcases hx with hx | hx
  · obtain ⟨bs, r, h', wr, hC, hfit, hnd, hK⟩ := hx
    exact ⟨_, _, hK, key bs _ hC.1 hfit fun G cls a w vs h e1 e2 => call_sound h e1 e2 hnd (by rw [hand_canon hfit]; exact hC) o.dst (fits_dst hf)⟩
  · obtain ⟨bs, r, h', wr, h2, hC, hH, hfit, hnd, hK⟩ := hx
    exact ⟨_, _, hK, key bs _ hC.1 hfit fun G cls a w vs h e1 e2 => call_soundU h e1 e2 hnd (by rw [hand_canon hfit]; exact hC) hH o.dst (fits_dst hf)⟩
end
end Go.Proofs.YtofkddajlgebjaaGreat.Ax
/- Appending onto nothing makes a variable. No program is named here. -/
namespace Go.Proofs.YtofkddajlgebjaaGreat.Ax
open Go.RowKit Go By

theorem flat_at {k : Nat} : ∀ (l : List (List AV)) (j : Nat) (c : AV), (∀ e ∈ l, e.length = k) → l.flatten[j]? = some c → ∃ p q e, l[p]? = some e ∧ e[q]? = some c ∧ j = p * k + q
  | [], j, c, _, hh => by simp at hh
  | x :: l, j, c, hl, hh => by
    have hx := hl x (List.mem_cons_self ..)
    rw [List.flatten_cons] at hh
    by_cases hj : j < k
    · rw [List.getElem?_append_left (by omega)] at hh
      exact ⟨0, j, x, rfl, hh, by omega⟩
    · rw [List.getElem?_append_right (by omega), hx] at hh
      obtain ⟨p, q, e, h1, h2, h3⟩ := flat_at l (j - k) c (fun e he => hl e (List.mem_cons_of_mem _ he)) hh
      exact ⟨p + 1, q, e, by simpa using h1, h2, by rw [Nat.succ_mul]; omega⟩
theorem flat_len {k : Nat} : ∀ (l : List (List AV)), (∀ e ∈ l, e.length = k) → l.flatten.length = l.length * k
  | [], _ => by simp
  | x :: l, hl => by rw [List.flatten_cons, List.length_append, flat_len l fun e he => hl e (List.mem_cons_of_mem _ he), hl x (List.mem_cons_self ..), List.length_cons, Nat.succ_mul]; omega
/-- A new variable with room behind it. -/
def Ghost.newRoom (G : Ghost) (b : Nat) (vs : List Value) (r : Nat) : Ghost := { G with boxes := G.boxes ++ [b], boxv := G.boxv ++ [vs], kr := fun x => if x = b then (none, r) else G.kr x, base := fun x => if x = G.boxes.length then 0 else G.base x }
theorem Ghost.newRoom_old {G : Ghost} {b : Nat} {vs : List Value} {r i : Nat} (h : i < G.boxes.length) : (G.newRoom b vs r).base i = G.base i := if_neg (by omega)
theorem Ghost.newRoom_new {G : Ghost} {b : Nat} {vs : List Value} {r : Nat} : (G.newRoom b vs r).base G.boxes.length = 0 := if_pos rfl
theorem Ext.newRoom {G : Ghost} {b : Nat} (hb : ∀ i : Nat, G.boxes[i]? ≠ some b) (vs : List Value) (r : Nat) : Ext G (G.newRoom b vs r) := ⟨rfl, fun b B h => ⟨[], by show G.bufs b = _; rw [h, List.append_nil]⟩, ⟨[b], rfl⟩, fun _ _ h => h, fun i x hx => by
  refine ⟨?_, Ghost.newRoom_old (List.getElem?_eq_some_iff.1 hx).1⟩
  show (if x = b then _ else G.kr x) = _
  rw [if_neg (fun e => hb i (by rw [← e]; exact hx))]⟩
theorem ObjsOk.newRoom {G : Ghost} {w w' : World} (h : ObjsOk G w) (hk : Keeps w w') (hl : G.boxv.length = G.boxes.length) {b : Nat} (hb : w.heap.size ≤ b) {vs : List Value} {r : Nat} (hr : ∀ j, j < r → (w'.cell? ⟨b, j, none⟩).isSome = true ∧ w'.frozen? ⟨b, j, none⟩ = false) : ObjsOk (G.newRoom b vs r) w' := by
  have h' := h.keep hk
  have hkn : ∀ x κ, (G.newRoom b vs r).kinds x = some κ → G.kinds x = some κ := fun x κ hx => by
    have hx' : (if x = b then (none, r) else G.kr x).1 = some κ := hx
    split at hx'
    · cases hx'
    · exact hx'
  refine ⟨h'.obj, fun i x us κ h1 h2 h3 => ?_, fun x hx => ?_, fun x j hj => ?_⟩
  · have h1' : (G.boxes ++ [b])[i]? = some x := h1
    have h2' : (G.boxv ++ [vs])[i]? = some us := h2
    by_cases hi : i < G.boxes.length
    · rw [List.getElem?_append_left hi] at h1'
      rw [List.getElem?_append_left (by rw [hl]; exact hi)] at h2'
      exact h'.kbox i x us κ h1' h2' (hkn x κ h3)
    · rw [List.getElem?_append_right (by omega)] at h1'
      have : x = b := by
        have := List.mem_of_getElem? h1'
        simpa using this
      subst this
      have := hkn x κ h3
      rw [h.none_ge hb] at this; cases this
  · cases hx2 : (G.newRoom b vs r).kinds x with
    | none => exact absurd hx2 hx
    | some κ => exact h'.kind x (by rw [hkn x κ hx2]; simp)
  · have hj' : j < (if x = b then (none, r) else G.kr x).2 := hj
    split at hj'
    · rename_i e; subst e; exact hr j hj'
    · exact h'.room x j hj'
section
variable {G : Ghost} {w : World}
theorem WorldOk.newBoxR (h : WorldOk G w) (vs : List Value) (cs : Array Value) (e : TypeId) (hc : ∀ (j : Nat) (x : Value), vs[j]? = some x → cs[j]? = some x) : WorldOk (G.newRoom w.heap.size vs cs.size) (w.alloc (.cells cs e)) := by
  have hn : ∀ j, (w.alloc (.cells cs e)).cell? ⟨w.heap.size, j, none⟩ = cs[j]? := fun j => cell_of_row _ _ j cs e (0, 0) (heap_alloc_new w _)
  refine ⟨h.below.alloc h.below.size _, fun b B hB => ?_, fun i b us hb hv => ?_, ?_, by simp [Ghost.newRoom, h.len], h.obj.newRoom (Keeps.alloc w _) h.len (Nat.le_refl _) fun j hj => ⟨by rw [hn, Array.getElem?_eq_getElem hj]; rfl, World.frozen?_alloc_new w _ _ _⟩⟩
  · obtain ⟨h1, h2, h3, h4, h5⟩ := h.buf b B hB
    refine ⟨h1, by simp; omega, h3, fun j hj => ?_, fun j x hx => ?_⟩
    · rw [(cell_alloc w _ j h2).1, (cell_alloc w _ j h2).2]; exact h4 j hj
    · rw [(cell_alloc w _ j h2).1]; exact h5 j x hx
  · have hb' : (G.boxes ++ [w.heap.size])[i]? = some b := hb
    have hv' : (G.boxv ++ [vs])[i]? = some us := hv
    by_cases hi : i < G.boxes.length
    · rw [List.getElem?_append_left hi] at hb'
      rw [List.getElem?_append_left (by rw [h.len]; exact hi)] at hv'
      obtain ⟨h1, h2, h3, h4⟩ := h.box i b us hb' hv'
      refine ⟨h1, by simp; omega, h3, fun j x hx hkn => ?_⟩
      have hkn' : (if b = w.heap.size then (none, cs.size) else G.kr b).1 = none := hkn
      rw [if_neg (by omega)] at hkn'
      rw [Ghost.newRoom_old hi, (cell_alloc w _ _ h2).1, (cell_alloc w _ _ h2).2]; exact h4 j x hx hkn'
    · have hi2 : i = G.boxes.length := by
        have := (List.getElem?_eq_some_iff.1 hb').1
        simp at this; omega
      subst hi2
      simp at hb'
      rw [← h.len] at hv'
      simp at hv'
      subst hb' hv'
      refine ⟨h.below.size, by simp, fun _ => h.fresh, fun j x hx => ?_⟩
      rw [Ghost.newRoom_new, Nat.zero_add, hn]
      exact fun _ => ⟨hc j x hx, World.frozen?_alloc_new w _ _ _⟩
  · exact ⟨h.nodup.snoc h.len (fun i hi => by have := (h.boxlt hi).1; omega) vs, h.dom⟩
end
section
variable {P : Program} {C : Ctx} {N : Nat} {s : St} {Q : Exit → Act → World → Prop}
theorem Rel.newBoxR {G : Ghost} {cls : Nat → Id} {a : Act} {w : World} (h : Rel C N G cls s a w) {zs : List AV} {vs : List Value} (cs : Array Value) (e : TypeId) (hc : ∀ (j : Nat) (x : Value), vs[j]? = some x → cs[j]? = some x) (hs : SeesL G zs vs) (h1 : ∀ x ∈ vs, x.oneCell' = true) (hi : ∀ c ∈ zs, c.idOf = none) (k n cap : Nat) (hcap : n ≤ cap) (hm : cap ≤ maxLen ∧ cap * k ≤ cs.size) :
    Rel C N (G.newRoom w.heap.size vs cs.size) cls { s with heap := s.heap ++ [zs] } a (w.alloc (.cells cs e)) ∧ Sees (G.newRoom w.heap.size vs cs.size) (.bsl s.heap.length 0 k n) (.slice (some ⟨w.heap.size, 0, none⟩) n cap) := by
  have hE : Ext G (G.newRoom w.heap.size vs cs.size) := Ext.newRoom (fun i hi => by have := (h.ok.boxlt hi).1; omega) _ _
  have at_ : ∀ (i : Nat) (ds : List AV) (us : List Value), (s.heap ++ [zs])[i]? = some ds → (G.boxv ++ [vs])[i]? = some us → (s.heap[i]? = some ds ∧ G.boxv[i]? = some us) ∨ (ds = zs ∧ us = vs) := fun i ds us h1 h2 => by
    by_cases hl : i < s.heap.length
    · left
      rw [List.getElem?_append_left hl] at h1
      rw [List.getElem?_append_left (by rw [← h.heap.1]; exact hl)] at h2
      exact ⟨h1, h2⟩
    · right
      have hl2 : i = s.heap.length := by
        have := (List.getElem?_eq_some_iff.1 h1).1
        simp at this; omega
      subst hl2
      simp at h1
      rw [h.heap.1] at h2
      simp at h2
      exact ⟨h1.symm, h2.symm⟩
  refine ⟨h.next hE (h.ok.newBoxR vs cs e hc) (fun b B hb => hb) ⟨by simp [Ghost.newRoom, h.heap.1], fun i ds us h8 h9 => ?_⟩ (fun i ds us h8 h9 j c hj => ?_) (fun i hi2 hw => ?_), .bsl _ _ _ _ w.heap.size cap ?_ hcap ⟨hm.1, by show _ ≤ (if w.heap.size = w.heap.size then (none, cs.size) else G.kr w.heap.size : Option Kind × Nat).2; rw [if_pos rfl, h.heapLen, Ghost.newRoom_new, Nat.zero_add]; exact hm.2⟩ 0 (.inr (by rw [h.heapLen, Ghost.newRoom_new]))⟩
  · rcases at_ i ds us h8 h9 with ⟨h3, h4⟩ | ⟨rfl, rfl⟩
    · obtain ⟨h5, h7, h6⟩ := h.heap.2 i ds us h3 h4
      exact ⟨h5, h7, fun j c hj => (h6 j c hj).ext hE⟩
    · exact ⟨hs.1, h1, fun j c hj => (hs.2 j c hj).ext hE⟩
  · rcases at_ i ds us h8 h9 with ⟨h3, h4⟩ | ⟨rfl, rfl⟩
    · obtain ⟨h5, h6⟩ := h.ownh i ds us h3 h4 j c hj
      exact ⟨h5.keep fun b B c hb _ => hb, h6⟩
    · have := hi c (List.mem_of_getElem? hj)
      exact ⟨.none _ this, fun x hx => by rw [this] at hx; cases hx⟩
  · obtain ⟨m, hm⟩ := h.ext.boxes
    have hlt : i < G.boxv.length := by
      have h1 := h.ok.len
      rw [hm] at h1
      simp at h1
      by_cases hh : i < G.boxv.length
      · exact hh
      · have h2 := h.boxes i hi2 hw
        rw [List.getElem?_eq_none (by omega), List.getElem?_eq_getElem hi2] at h2
        cases h2
    show (G.boxv ++ [vs])[i]? = _
    rw [List.getElem?_append_left hlt]
    exact h.boxes i hi2 hw
  · refine ⟨?_, ?_⟩
    · show (G.boxes ++ [w.heap.size])[s.heap.length]? = _
      rw [h.heapLen]; simp
    · show (if w.heap.size = w.heap.size then (none, cs.size) else G.kr w.heap.size : Option Kind × Nat).1 = none
      rw [if_pos rfl]
theorem eff_appendBox (o : Oper) (t u e e' : TypeId) (k : Nat) (i : TypeInfo) (z : List Value) (x : Operand) (ho : o.op = .call { callee := .builtin .append, args := #[.const (.slice none 0 0), x], argTypes := #[t, u] }) (he : elemK P t = some (e, k)) (hz : zeroC P e = some z) (hzk : z.length = k) (hi : P.info? e = some i) (hu : P.underlying u = some (.slice e'))
    (es2 : List (List AV)) (nul2 : Option Bool) (room2 : Room) (hx : s.get x = .sl k es2 nul2 room2) (hne : es2 ≠ []) (hid : ∀ c ∈ es2.flatten, c.idOf = none) (hfit : es2.length * i.bytes ≤ 140737488355328) (hfit2 : es2.length ≤ 140737488355328) (hf : fitsAll N o = true) :
    OpS P C N s (({ s with heap := s.heap ++ [es2.flatten] } : St).puts o.dst (.bsl s.heap.length 0 k es2.length) false) o Q := fun G cls a w h => by
  obtain ⟨ht, hk, hk0⟩ := elemK_spec he
  obtain ⟨i', zv, hi', hzv, hzl, hz1⟩ := zeroC_spec hz
  rw [hi] at hi'; injection hi' with hi'; subst hi'
  have hik : i.size = k := by unfold szOf at hk; rw [hi] at hk; injection hk
  have hgx := h.get (fits_mem hf (show x ∈ o.op.operands.toList by rw [ho]; simp [Op.operands, Call.operands]))
  rw [hx] at hgx
  have hpos : 0 < es2.length := List.length_pos_iff.2 hne
  have hsrc : ∃ news, Src P k u (a.eval x) es2.length news w ∧ (∀ e, e ∈ es2 → e.length = k) ∧ ∀ i e, es2[i]? = some e → ∀ j c, e[j]? = some c → Sees G c (news.getD (i * k + j) undef) := by
    cases hv : a.eval x with
    | slice a0 len cap =>
      rw [hv] at hgx
      cases hgx with
      | sl _ _ _ _ _ _ _ uu hlen hn hkk hcap hmx hr hc hs ho1 =>
        subst hlen
        obtain ⟨b, p, rfl, hcell⟩ := hc (by omega)
        have hmod : ∀ q, q < es2.length * k → q / k < es2.length ∧ q % k < k := fun q hq => ⟨(Nat.div_lt_iff_lt_mul hk0).2 hq, Nat.mod_lt _ hk0⟩
        refine ⟨(List.range (es2.length * k)).map fun q => uu (q / k) (q % k), Src.ofSlice w hu ⟨b, p, none⟩ es2.length cap _ (by simp) (fun j v hj => ?_) (fun v hv => ?_), hkk, fun i e he j c hj => ?_⟩
        · have hjl : j < es2.length * k := by simpa using (List.getElem?_eq_some_iff.1 hj).1
          rw [List.getElem?_map, List.getElem?_range hjl] at hj
          injection hj with hj
          obtain ⟨h3, h4⟩ := hmod j hjl
          have := h.ok.cell (hcell _ _ h3 h4)
          rw [add_plain, ← hj, ← this, Nat.add_assoc, Nat.div_add_mod' j k]
        · obtain ⟨q, hq, rfl⟩ := List.mem_map.1 hv
          obtain ⟨h3, h4⟩ := hmod q (List.mem_range.1 hq)
          exact ho1 _ _ h3 h4
        · have hil : i < es2.length := (List.getElem?_eq_some_iff.1 he).1
          have hjl : j < k := by rw [← hkk e (List.mem_of_getElem? he)]; exact (List.getElem?_eq_some_iff.1 hj).1
          have hp : i * k + j < es2.length * k := by
            have : (i + 1) * k ≤ es2.length * k := Nat.mul_le_mul_right k hil
            rw [Nat.add_mul, Nat.one_mul] at this; omega
          rw [List.getD_eq_getElem?_getD, List.getElem?_map, List.getElem?_range hp]
          have e1 : (i * k + j) / k = i := by rw [Nat.mul_comm, Nat.mul_add_div hk0, Nat.div_eq_of_lt hjl, Nat.add_zero]
          have e2 : (i * k + j) % k = j := by rw [Nat.mul_comm, Nat.mul_add_mod, Nat.mod_eq_of_lt hjl]
          simp only [Option.map_some, Option.getD_some, e1, e2]
          exact hs i e he j c hj
    | _ => rw [hv] at hgx; cases hgx
  obtain ⟨news, hsrc, hkk, hs2⟩ := hsrc
  have hfirst : (Builtin.firstCells i.size 0 (.slice none 0 0)).run P w.drew = .ok ([] : List Value).toArray w.drew := run_firstCells_none w.drew _ _ _ _
  have hrun := run_append_grow_src (P := P) w t u o.type e i zv ht hi hzv none 0 0 [] hfirst (a.eval x) es2.length news (by rw [hik]; exact hsrc) (by omega) (by omega) (growslice_fits (by omega) (by rw [Nat.zero_add]; exact hfit))
  have hnl : news.length = es2.length * k := hsrc.newsLen
  have hge := grownCap_ge w (0 + es2.length) 0 e
  have hcm : grownCap w (0 + es2.length) 0 e ≤ maxLen := grownCap_le_maxLen w _ _ e (by unfold maxLen; omega)
  obtain ⟨nc, hnc⟩ : ∃ nc, nc = grownCap w (0 + es2.length) 0 e := ⟨_, rfl⟩
  rw [← hnc] at hrun hge hcm
  obtain ⟨cs, hcs⟩ : ∃ cs : Array Value, cs = (([] : List Value) ++ news).toArray ++ Builtin.zeroCells zv.cells (nc - (0 + es2.length)) := ⟨_, rfl⟩
  rw [← hcs] at hrun
  have hat : ∀ (j : Nat) (x : Value), news[j]? = some x → cs[j]? = some x := fun j x hx => by
    have hlt := (List.getElem?_eq_some_iff.1 hx).1
    rw [hcs, List.nil_append, Array.getElem?_append_left (by simpa using hlt)]
    simpa using hx
  have hrun2 : (execOp a.eval o).run P w = .ok (.value (.slice (some ⟨w.heap.size, 0, none⟩) (0 + es2.length) nc)) (w.drew.alloc (.cells cs e)) := by
    have hev : a.eval (.const (.slice none 0 0)) = .slice none 0 0 := rfl
    simp [execOp, ho, resolve, invoke, builtin, hev, hrun]
  unfold Oper.wp
  rw [hrun2, Nat.zero_add]
  have hzs : zv.cells.size = k := by rw [← hzk, ← hzl]; simp
  have hroom : nc * k ≤ cs.size := by
    rw [hcs, Array.size_append, size_zeroCells, hzs]
    simp only [List.nil_append, List.size_toArray, hnl, Nat.zero_add]
    rw [← Nat.add_mul]
    exact Nat.mul_le_mul_right k (by omega)
  have hSL : SeesL G es2.flatten news := ⟨by rw [flat_len es2 hkk, hnl], fun j c hj => by
    obtain ⟨p, q, ee, h1, h2, h3⟩ := flat_at es2 j c hkk hj
    rw [h3]
    exact hs2 p ee h1 q c h2⟩
  obtain ⟨h2, h3⟩ := h.drew.newBoxR (zs := es2.flatten) (vs := news) cs e hat hSL hsrc.one hid k es2.length nc (by omega) ⟨hcm, hroom⟩
  exact ⟨_, cls, h2.puts (fits_dst hf) h3 (.none _ rfl) (fun _ => rfl), ⟨Ext.newRoom (fun i hi => by have := (h.drew.ok.boxlt hi).1; omega) _ _, [], puts_wr _ _ _ _, fun i hi _ => by show (G.boxv ++ [news])[i]? = _; rw [List.getElem?_append_left hi]⟩⟩
end
end Go.Proofs.YtofkddajlgebjaaGreat.Ax
/- Appending onto a variable's slice: the answer is a variable of its own, whether the block is the same or another one; nothing is known of the old one. No program is named here. -/
namespace Go.Proofs.YtofkddajlgebjaaGreat.Ax
open Go.RowKit Go By
set_option linter.unusedVariables false
set_option linter.unusedSimpArgs false

theorem LiveB.again {bs : List Nat} {vs : List (List Value)} (h : LiveB bs vs) (hl : vs.length = bs.length) {b : Nat} (hb : ∀ i : Nat, bs[i]? = some b → vs[i]? = some []) (v : List Value) : LiveB (bs ++ [b]) (vs ++ [v]) := fun i j x hi hj hij => by
  have key : ∀ (i : Nat), (bs ++ [b])[i]? = some x → (i < bs.length ∧ bs[i]? = some x) ∨ (i = bs.length ∧ x = b) := fun i hi => by
    by_cases hl2 : i < bs.length
    · rw [List.getElem?_append_left hl2] at hi; exact .inl ⟨hl2, hi⟩
    · have : i = bs.length := by
        have := (List.getElem?_eq_some_iff.1 hi).1
        simp at this; omega
      subst this
      simp at hi
      exact .inr ⟨rfl, hi.symm⟩
  have low : ∀ i, i < bs.length → (vs ++ [v])[i]? = vs[i]? := fun i hi => List.getElem?_append_left (by omega)
  rcases key i hi with ⟨h1, h2⟩ | ⟨h1, h2⟩ <;> rcases key j hj with ⟨h3, h4⟩ | ⟨h3, h4⟩
  · rw [low i h1, low j h3]
    exact h i j x h2 h4 hij
  · subst h4; left; rw [low i h1]; exact hb i h2
  · subst h2; right; rw [low j h3]; exact hb j h4
  · omega
theorem SeesL.append {G : Ghost} {a b : List AV} {us ws : List Value} (h : SeesL G a us) (k : SeesL G b ws) : SeesL G (a ++ b) (us ++ ws) := by
  refine ⟨by rw [List.length_append, List.length_append, h.1, k.1], fun j c hj => ?_⟩
  by_cases hl : j < a.length
  · rw [List.getElem?_append_left hl] at hj
    have := h.2 j c hj
    rw [List.getD_eq_getElem?_getD] at this ⊢
    rw [List.getElem?_append_left (by rw [h.1]; exact hl)]; exact this
  · rw [List.getElem?_append_right (by omega)] at hj
    have := k.2 _ c hj
    rw [List.getD_eq_getElem?_getD] at this ⊢
    rw [List.getElem?_append_right (by rw [h.1]; omega), h.1]; exact this
section
variable {G : Ghost} {w : World}
theorem WorldOk.blank (h : WorldOk G w) {i b : Nat} (hb : G.boxes[i]? = some b) (hkn : G.kinds b = none) : WorldOk (G.setBox i []) w := by
  refine ⟨h.below, h.buf, fun j x us hj hu => ?_, ⟨h.nodup.kill i, h.dom⟩, by simp [Ghost.setBox, h.len], h.obj.setBox (Keeps.refl w) hb hkn⟩
  have hj' : G.boxes[j]? = some x := hj
  have hu' : (G.boxv.set i [])[j]? = some us := hu
  rw [List.getElem?_set] at hu'
  split at hu'
  · rename_i e
    subst e
    split at hu'
    · injection hu' with hu'
      subst hu'
      have hv : i < G.boxv.length := by rw [h.len]; exact (List.getElem?_eq_some_iff.1 hj').1
      obtain ⟨h1, h2, _, _⟩ := h.box i x _ hj' (List.getElem?_eq_getElem hv)
      exact ⟨h1, h2, fun hne => absurd rfl hne, fun p y hp => by simp at hp⟩
    · cases hu'
  · exact h.box j x us hj' hu'
theorem WorldOk.regrow (h : WorldOk G w) {b : Nat} (hkn : G.kinds b = none) (hbf : G.bufs b = none) (hdead : ∀ i : Nat, G.boxes[i]? = some b → G.boxv[i]? = some []) (hlo : G.w0.heap.size ≤ b) (hlt : b < w.heap.size) {us news : List Value} (q : Nat)
    (hus : ∀ (j : Nat) (x : Value), us[j]? = some x → w.cell? ⟨b, q + j, none⟩ = some x) (hroom : q + us.length + news.length ≤ G.room b) : WorldOk (G.newBoxAt b (us ++ news) q) (w.setCells b (q + us.length) news) := by
  have hz := (setCells_plain news b (q + us.length) w).1
  have hin : ∀ p (hq : p < news.length), (w.setCells b (q + us.length) news).cell? ⟨b, q + us.length + p, none⟩ = some news[p] := fun p hq => World.cell?_setCells_in b news _ w (fun p hp => (h.obj.room b _ (by omega)).1) p hq
  refine ⟨below_setCells h.below b _ news hlo h.below.size, fun x B hB => ?_, fun i x us' hb' hv' => ?_, ⟨h.nodup.again h.len hdead _, h.dom⟩, by simp [Ghost.newBoxAt, h.len], h.obj.newBox (keepsO_setCells news b _ w) h.len hkn⟩
  · obtain ⟨h1, h2, h3, h4, h5⟩ := h.buf x B hB
    have hne : x ≠ b := fun e => by subst e; rw [show G.bufs x = some B from hB] at hbf; cases hbf
    refine ⟨h1, by rw [hz]; exact h2, h3, fun j hj => ?_, fun j y hy => ?_⟩
    · rw [setCells_out w b _ news (.inl hne), World.frozen?_setCells]; exact h4 j hj
    · rw [setCells_out w b _ news (.inl hne)]; exact h5 j y hy
  · have h1' : (G.boxes ++ [b])[i]? = some x := hb'
    have h2' : (G.boxv ++ [us ++ news])[i]? = some us' := hv'
    by_cases hi : i < G.boxes.length
    · rw [List.getElem?_append_left hi] at h1'
      rw [List.getElem?_append_left (by rw [h.len]; exact hi)] at h2'
      obtain ⟨h3, h4, h5, h6⟩ := h.box i x us' h1' h2'
      by_cases hn' : us' = []
      · subst hn'
        exact ⟨h3, by rw [hz]; exact h4, h5, fun j y hy => by simp at hy⟩
      have hne : x ≠ b := fun e => by
        subst e
        have := hdead i h1'
        rw [h2'] at this; injection this with this; exact hn' this
      refine ⟨h3, by rw [hz]; exact h4, h5, fun j y hy => ?_⟩
      rw [Ghost.newBoxAt_old hi, setCells_out w b _ news (.inl hne), World.frozen?_setCells]
      exact h6 j y hy
    · have hi2 : i = G.boxes.length := by
        have := (List.getElem?_eq_some_iff.1 h1').1
        simp at this; omega
      subst hi2
      simp at h1'
      rw [← h.len] at h2'
      simp at h2'
      subst h1' h2'
      refine ⟨hlo, by rw [hz]; exact hlt, fun _ => hbf, fun j y hy _ => ?_⟩
      have hjl := (List.getElem?_eq_some_iff.1 hy).1
      rw [List.length_append] at hjl
      rw [World.frozen?_setCells, Ghost.newBoxAt_new]
      refine ⟨?_, (h.obj.room b (q + j) (by omega)).2⟩
      by_cases hj : j < us.length
      · rw [List.getElem?_append_left hj] at hy
        rw [setCells_out w b _ news (.inr (.inl (by omega)))]
        exact hus j y hy
      · rw [List.getElem?_append_right (by omega)] at hy
        obtain ⟨p, rfl⟩ : ∃ p, j = us.length + p := ⟨j - us.length, by omega⟩
        rw [show us.length + p - us.length = p by omega] at hy
        have hq : p < news.length := by omega
        rw [← Nat.add_assoc, hin p hq, ← hy, List.getElem?_eq_getElem hq]
end
section
variable {P : Program} {C : Ctx} {N : Nat} {s : St} {Q : Exit → Act → World → Prop} {G : Ghost} {cls : Nat → Id} {a : Act} {w : World}
theorem Rel.blank (h : Rel C N G cls s a w) {i b : Nat} (hb : G.boxes[i]? = some b) (hkn : G.kinds b = none) :
    Rel C N (G.setBox i []) cls { s with heap := s.heap.set i [], wr := i :: s.wr } a w ∧ Stays G (G.setBox i []) s { s with heap := s.heap.set i [], wr := i :: s.wr } := by
  have hE := Ext.setBox (G := G) i []
  have at_ : ∀ (i' : Nat) (ds : List AV) (vs : List Value), (s.heap.set i [])[i']? = some ds → (G.boxv.set i [])[i']? = some vs → (ds = [] ∧ vs = []) ∨ (s.heap[i']? = some ds ∧ G.boxv[i']? = some vs) := fun i' ds vs e1 e2 => by
    rw [List.getElem?_set] at e1 e2
    split at e1
    · rename_i e
      rw [if_pos e] at e2
      split at e1
      · injection e1 with e1
        split at e2
        · injection e2 with e2
          exact .inl ⟨e1.symm, e2.symm⟩
        · cases e2
      · cases e1
    · rename_i e
      rw [if_neg e] at e2
      exact .inr ⟨e1, e2⟩
  refine ⟨h.next hE (h.ok.blank hb hkn) (fun b B hB => hB) ⟨by simp [Ghost.setBox, h.heap.1], fun i' ds vs e1 e2 => ?_⟩ (fun i' ds vs e1 e2 j c hj => ?_) (fun i' hi' hn => ?_), ⟨hE, [i], rfl, fun i' hi' hn => ?_⟩⟩
  · rcases at_ i' ds vs e1 e2 with ⟨rfl, rfl⟩ | ⟨h3, h4⟩
    · exact ⟨rfl, fun x hx => by simp at hx, fun j c hj => by simp at hj⟩
    · obtain ⟨h5, h6, h7⟩ := h.heap.2 i' ds vs h3 h4
      exact ⟨h5, h6, fun j c hj => (h7 j c hj).ext hE⟩
  · rcases at_ i' ds vs e1 e2 with ⟨rfl, rfl⟩ | ⟨h3, h4⟩
    · simp at hj
    · obtain ⟨h5, h6⟩ := h.ownh i' ds vs h3 h4 j c hj
      exact ⟨h5.keep fun b B c hB _ => hB, h6⟩
  · have hne : i ≠ i' := fun hh => by subst hh; exact hn (List.mem_cons_self ..)
    show (G.boxv.set i [])[i']? = _
    rw [List.getElem?_set_ne hne]
    exact h.boxes i' hi' fun hh => hn (List.mem_cons_of_mem _ hh)
  · have hne : i ≠ i' := fun hh => by subst hh; exact hn (List.mem_cons_self ..)
    show (G.boxv.set i [])[i']? = _
    rw [List.getElem?_set_ne hne]
/-- One more variable, whatever memory is. -/
theorem Rel.more (h : Rel C N G cls s a w) {G' : Ghost} {w' : World} {vs : List Value} (hE : Ext G G') (hW : WorldOk G' w') (hB : G'.bufs = G.bufs) (hbv : G'.boxv = G.boxv ++ [vs]) {zs : List AV} (hs : SeesL G zs vs) (h1 : ∀ x ∈ vs, x.oneCell' = true) (hi : ∀ c ∈ zs, c.idOf = none) :
    Rel C N G' cls { s with heap := s.heap ++ [zs] } a w' := by
  have at_ : ∀ (i : Nat) (ds : List AV) (us : List Value), (s.heap ++ [zs])[i]? = some ds → G'.boxv[i]? = some us → (s.heap[i]? = some ds ∧ G.boxv[i]? = some us) ∨ (ds = zs ∧ us = vs) := fun i ds us h1 h2 => by
    rw [hbv] at h2
    by_cases hl : i < s.heap.length
    · left
      rw [List.getElem?_append_left hl] at h1
      rw [List.getElem?_append_left (by rw [← h.heap.1]; exact hl)] at h2
      exact ⟨h1, h2⟩
    · right
      have hl2 : i = s.heap.length := by
        have := (List.getElem?_eq_some_iff.1 h1).1
        simp at this; omega
      subst hl2
      simp at h1
      rw [h.heap.1] at h2
      simp at h2
      exact ⟨h1.symm, h2.symm⟩
  refine h.next hE hW (fun b B hb => by rw [hB]; exact hb) ⟨by rw [hbv]; simp [h.heap.1], fun i ds us h8 h9 => ?_⟩ (fun i ds us h8 h9 j c hj => ?_) (fun i hi2 hw => ?_)
  · rcases at_ i ds us h8 h9 with ⟨h3, h4⟩ | ⟨rfl, rfl⟩
    · obtain ⟨h5, h7, h6⟩ := h.heap.2 i ds us h3 h4
      exact ⟨h5, h7, fun j c hj => (h6 j c hj).ext hE⟩
    · exact ⟨hs.1, h1, fun j c hj => (hs.2 j c hj).ext hE⟩
  · rcases at_ i ds us h8 h9 with ⟨h3, h4⟩ | ⟨rfl, rfl⟩
    · obtain ⟨h5, h6⟩ := h.ownh i ds us h3 h4 j c hj
      exact ⟨h5.keep fun b B c hb _ => by rw [hB]; exact hb, h6⟩
    · have := hi c (List.mem_of_getElem? hj)
      exact ⟨.none _ this, fun x hx => by rw [this] at hx; cases hx⟩
  · obtain ⟨m, hm⟩ := h.ext.boxes
    have hlt : i < G.boxv.length := by
      have h1 := h.ok.len
      rw [hm] at h1
      simp at h1
      by_cases hh : i < G.boxv.length
      · exact hh
      · have h2 := h.boxes i hi2 hw
        rw [List.getElem?_eq_none (by omega), List.getElem?_eq_getElem hi2] at h2
        cases h2
    rw [hbv, List.getElem?_append_left hlt]
    exact h.boxes i hi2 hw
/-- What is appended: rows. -/
theorem src_rows (h : Rel C N G cls s a w) {x : Operand} (hgx : Sees G (s.get x) (a.eval x)) {k : Nat} (hk0 : 0 < k) {u e' : TypeId} (hu : P.underlying u = some (.slice e')) {es2 : List (List AV)} (hr : rowsOf s.heap k (s.get x) = some es2) (hne : es2 ≠ []) :
    ∃ news, Src P k u (a.eval x) es2.length news w ∧ (∀ e, e ∈ es2 → e.length = k) ∧ ∀ i e, es2[i]? = some e → ∀ j c, e[j]? = some c → Sees G c (news.getD (i * k + j) undef) := by
  have hpos : 0 < es2.length := List.length_pos_iff.2 hne
  cases hv : a.eval x with
  | slice a0 len cap =>
    rw [hv] at hgx
    cases hgy : s.get x with
    | sl k2 es nul room =>
      rw [hgy] at hgx hr
      have hr2 : (if k2 = k then some es else none) = some es2 := hr
      clear hr
      split at hr2
      · rename_i e
        injection hr2 with hr2
        subst e hr2
        cases hgx with
        | sl _ _ _ _ _ _ _ uu hlen hn hkk hcap hmx hr hc hs ho1 =>
          subst hlen
          obtain ⟨b, p, rfl, hcell⟩ := hc (by omega)
          have hmod : ∀ q, q < es.length * k2 → q / k2 < es.length ∧ q % k2 < k2 := fun q hq => ⟨(Nat.div_lt_iff_lt_mul hk0).2 hq, Nat.mod_lt _ hk0⟩
          refine ⟨(List.range (es.length * k2)).map fun q => uu (q / k2) (q % k2), Src.ofSlice w hu ⟨b, p, none⟩ es.length cap _ (by simp) (fun j v hj => ?_) (fun v hv => ?_), hkk, fun i e he j c hj => ?_⟩
          · have hjl : j < es.length * k2 := by simpa using (List.getElem?_eq_some_iff.1 hj).1
            rw [List.getElem?_map, List.getElem?_range hjl] at hj
            injection hj with hj
            obtain ⟨h3, h4⟩ := hmod j hjl
            have := h.ok.cell (hcell _ _ h3 h4)
            rw [add_plain, ← hj, ← this, Nat.add_assoc, Nat.div_add_mod' j k2]
          · obtain ⟨q, hq, rfl⟩ := List.mem_map.1 hv
            obtain ⟨h3, h4⟩ := hmod q (List.mem_range.1 hq)
            exact ho1 _ _ h3 h4
          · have hil : i < es.length := (List.getElem?_eq_some_iff.1 he).1
            have hjl : j < k2 := by rw [← hkk e (List.mem_of_getElem? he)]; exact (List.getElem?_eq_some_iff.1 hj).1
            have hp : i * k2 + j < es.length * k2 := by
              have : (i + 1) * k2 ≤ es.length * k2 := Nat.mul_le_mul_right k2 hil
              rw [Nat.add_mul, Nat.one_mul] at this; omega
            rw [List.getD_eq_getElem?_getD, List.getElem?_map, List.getElem?_range hp]
            have e1 : (i * k2 + j) / k2 = i := by rw [Nat.mul_comm, Nat.mul_add_div hk0, Nat.div_eq_of_lt hjl, Nat.add_zero]
            have e2 : (i * k2 + j) % k2 = j := by rw [Nat.mul_comm, Nat.mul_add_mod, Nat.mod_eq_of_lt hjl]
            simp only [Option.map_some, Option.getD_some, e1, e2]
            exact hs i e he j c hj
      · cases hr2
    | bsl j off k2 m =>
      rw [hgy] at hgx hr
      have hr : (if k2 = k then (s.heap[j]?).bind fun cs => if off + m * k ≤ cs.length then some (chunk k m ((cs.drop off).take (m * k))) else none else none) = some es2 := hr
      split at hr
      · rename_i e
        subst e
        cases hcs : s.heap[j]? with
        | none => rw [hcs] at hr; cases hr
        | some cs =>
          rw [hcs] at hr
          have hr : (if off + m * k2 ≤ cs.length then some (chunk k2 m ((cs.drop off).take (m * k2))) else none) = some es2 := hr
          split at hr
          · rename_i hfit
            injection hr with hr
            cases hgx with
            | bsl _ _ _ _ b cap hb hcap hm o2 ho2 =>
              have hvl : j < G.boxv.length := by rw [← h.heap.1]; exact (List.getElem?_eq_some_iff.1 hcs).1
              obtain ⟨vs, hvs⟩ : ∃ vs, G.boxv[j]? = some vs := ⟨_, List.getElem?_eq_getElem hvl⟩
              obtain ⟨h1, h2, h3⟩ := h.heap.2 j cs vs hcs hvs
              obtain ⟨_, _, _, b4⟩ := h.ok.box j b vs hb.1 hvs
              have hm2 : es2.length = len := by rw [← hr, chunk_length]
              have hl : ((vs.drop off).take (len * k2)).length = len * k2 := by rw [List.length_take, List.length_drop]; omega
              have hl2 : ((cs.drop off).take (len * k2)).length = len * k2 := by rw [List.length_take, List.length_drop]; omega
              refine ⟨(vs.drop off).take (len * k2), ?_, fun e he => ?_, fun i e he p c hp => ?_⟩
              · rw [hm2]
                refine Src.ofSlice w hu ⟨b, o2, none⟩ len cap _ hl (fun p v hp => ?_) fun v hv => h2 v (List.mem_of_mem_drop (List.mem_of_mem_take hv))
                have hpl : p < len * k2 := by rw [← hl]; exact (List.getElem?_eq_some_iff.1 hp).1
                rw [List.getElem?_take_of_lt hpl, List.getElem?_drop] at hp
                have e2 : o2 = G.base j + off := by
                  have : 0 < len := by rw [← hm2]; exact hpos
                  omega
                rw [add_plain, e2, Nat.add_assoc]
                exact (b4 _ v hp hb.2).1
              · obtain ⟨i, hi⟩ := List.getElem?_of_mem he
                rw [← hr] at hi
                exact (chunk_get k2 len _ i e hl2 hi).1
              · rw [← hr] at he
                have hil : i < len := by have := (List.getElem?_eq_some_iff.1 he).1; rwa [chunk_length] at this
                obtain ⟨h5, h6⟩ := chunk_get k2 len _ i e hl2 he
                have hpk : p < k2 := by rw [← h5]; exact (List.getElem?_eq_some_iff.1 hp).1
                have h7 := h6 p c hp
                have hp2 : i * k2 + p < len * k2 := by
                  have : (i + 1) * k2 ≤ len * k2 := Nat.mul_le_mul_right k2 hil
                  rw [Nat.add_mul, Nat.one_mul] at this; omega
                rw [List.getElem?_take_of_lt hp2, List.getElem?_drop] at h7
                rw [List.getD_eq_getElem?_getD, List.getElem?_take_of_lt hp2, List.getElem?_drop, ← List.getD_eq_getElem?_getD]
                exact h3 _ c h7
          · cases hr
      · cases hr
    | _ => rw [hgy] at hr; cases hr
  | _ =>
    rw [hv] at hgx
    cases hgy : s.get x <;> rw [hgy] at hgx hr <;> first | (cases hr; done) | cases hgx
theorem eff_appendG (o : Oper) (t u e e' : TypeId) (k : Nat) (i : TypeInfo) (z : List Value) (y x : Operand) (ho : o.op = .call { callee := .builtin .append, args := #[y, x], argTypes := #[t, u] }) (he : elemK P t = some (e, k)) (hz : zeroC P e = some z) (hzk : z.length = k) (hi : P.info? e = some i) (hu : P.underlying u = some (.slice e'))
    (i0 off n : Nat) (ca : List AV) (hy : s.get y = .bsl i0 off k n) (hcs : s.heap[i0]? = some ca) (hcne : ca ≠ []) (hcl : off + n * k ≤ ca.length) (hcid0 : ∀ c ∈ ca, c.idOf = none)
    (es2 : List (List AV)) (hr : rowsOf s.heap k (s.get x) = some es2) (hne : es2 ≠ []) (hid : ∀ c ∈ es2.flatten, c.idOf = none) (hfit : (n + es2.length) * i.bytes ≤ 140737488355328) (hfit2 : n + es2.length ≤ 140737488355328) (hf : fitsAll N o = true) :
    OpS P C N s (({ s with heap := s.heap.set i0 [] ++ [(ca.drop off).take (n * k) ++ es2.flatten], wr := i0 :: s.wr } : St).puts o.dst (.bsl s.heap.length 0 k (n + es2.length)) false) o Q := fun G cls a w h => by
  obtain ⟨cs, hcsd⟩ : ∃ cs, cs = (ca.drop off).take (n * k) := ⟨_, rfl⟩
  rw [← hcsd]
  have hcid : ∀ c ∈ cs, c.idOf = none := fun c hc => hcid0 c (List.mem_of_mem_drop (List.mem_of_mem_take (by rw [hcsd] at hc; exact hc)))
  obtain ⟨ht, hk, hk0⟩ := elemK_spec he
  obtain ⟨i', zv, hi', hzv, hzl, hz1⟩ := zeroC_spec hz
  rw [hi] at hi'; injection hi' with hi'; subst hi'
  have hik : i.size = k := by unfold szOf at hk; rw [hi] at hk; injection hk
  have hzs : zv.cells.size = k := by rw [← hzk, ← hzl]; simp
  have hgy := h.get (fits_mem hf (show y ∈ o.op.operands.toList by rw [ho]; simp [Op.operands, Call.operands]))
  have hgx := h.get (fits_mem hf (show x ∈ o.op.operands.toList by rw [ho]; simp [Op.operands, Call.operands]))
  have hpos : 0 < es2.length := List.length_pos_iff.2 hne
  obtain ⟨news, hsrc, hkk, hs2⟩ := src_rows h hgx hk0 hu hr hne
  have hnl : news.length = es2.length * k := hsrc.newsLen
  rw [hy] at hgy
  cases hv : a.eval y with
  | slice a0 len cap =>
    rw [hv] at hgy
    cases hgy with
    | bsl _ _ _ _ b _ hb hcap hm o2 ho2 =>
      have hvl : i0 < G.boxv.length := by rw [← h.heap.1]; exact (List.getElem?_eq_some_iff.1 hcs).1
      have hil : i0 < s.heap.length := (List.getElem?_eq_some_iff.1 hcs).1
      obtain ⟨ua, hus⟩ : ∃ us, G.boxv[i0]? = some us := ⟨_, List.getElem?_eq_getElem hvl⟩
      obtain ⟨q1, q20, q30⟩ := h.heap.2 i0 ca ua hcs hus
      obtain ⟨us, husd⟩ : ∃ us, us = (ua.drop off).take (n * k) := ⟨_, rfl⟩
      have hul : us.length = n * k := by rw [husd, List.length_take, List.length_drop]; omega
      have hune : ua ≠ [] := fun e => by
        rw [e] at q1; exact hcne (List.eq_nil_of_length_eq_zero q1.symm)
      obtain ⟨b1, b2, b3, b4⟩ := h.ok.box i0 b ua hb.1 hus
      have hsub : ∀ (j : Nat) (x : Value), us[j]? = some x → ua[off + j]? = some x := fun j x hj => by
        rw [husd, List.getElem?_take] at hj
        split at hj
        · rw [List.getElem?_drop] at hj; exact hj
        · cases hj
      have husc : ∀ (j : Nat) (x : Value), us[j]? = some x → w.cell? ⟨b, G.base i0 + off + j, none⟩ = some x := fun j x hj => by rw [Nat.add_assoc]; exact (b4 _ x (hsub j x hj) hb.2).1
      have q2 : ∀ x ∈ us, x.oneCell' = true := fun x hx => q20 x (List.mem_of_mem_drop (List.mem_of_mem_take (by rw [husd] at hx; exact hx)))
      have hSLu : SeesL G cs us := ⟨by rw [hul, hcsd, List.length_take, List.length_drop]; omega, fun j c hj => by
        rw [hcsd, List.getElem?_take] at hj
        split at hj
        · rename_i hlt
          rw [List.getElem?_drop] at hj
          have := q30 _ c hj
          rw [List.getD_eq_getElem?_getD] at this ⊢
          rw [husd, List.getElem?_take, if_pos hlt, List.getElem?_drop]; exact this
        · cases hj⟩
      have hSLn : SeesL G es2.flatten news := ⟨by rw [flat_len es2 hkk, hnl], fun j c hj => by
        obtain ⟨p, q, ee, h1, h2, h3⟩ := flat_at es2 j c hkk hj
        rw [h3]
        exact hs2 p ee h1 q c h2⟩
      have hSL := hSLu.append hSLn
      have hone : ∀ x ∈ us ++ news, x.oneCell' = true := fun x hx => by
        rcases List.mem_append.1 hx with hx | hx
        · exact q2 x hx
        · exact hsrc.one x hx
      have hids : ∀ c ∈ cs ++ es2.flatten, c.idOf = none := fun c hc => by
        rcases List.mem_append.1 hc with hc | hc
        · exact hcid c hc
        · exact hid c hc
      obtain ⟨hR1, hS1⟩ := h.blank hb.1 hb.2
      have hE1 : Ext G (G.setBox i0 []) := hS1.ext
      have hlen1 : (s.heap.set i0 []).length = s.heap.length := by simp
      suffices hgoal : ∃ (v : Value) (w' : World), (execOp a.eval o).run P w = .ok (.value v) w' ∧ ∃ G2, Rel C N G2 cls { s with heap := s.heap.set i0 [] ++ [cs ++ es2.flatten], wr := i0 :: s.wr } a w' ∧ Stays G G2 s { s with heap := s.heap.set i0 [] ++ [cs ++ es2.flatten], wr := i0 :: s.wr } ∧ Sees G2 (.bsl s.heap.length 0 k (n + es2.length)) v by
        obtain ⟨v, w', hrun, G2, hR, hS, hSee⟩ := hgoal
        unfold Oper.wp
        rw [hrun]
        exact ⟨G2, cls, hR.puts (fits_dst hf) hSee (.none _ rfl) (fun _ => rfl), hS.wr_eq (puts_wr _ _ _ _)⟩
      by_cases hfits : n + es2.length ≤ cap
      · -- in place
        have e2 : o2 = G.base i0 + off := by omega
        subst e2
        have hroom : G.base i0 + off + us.length + news.length ≤ G.room b := by
          have h1 := hm.2
          have h2 : (n + es2.length) * k ≤ cap * k := Nat.mul_le_mul_right k hfits
          rw [Nat.add_mul] at h2
          rw [hul, hnl]; omega
        have hrun := run_append_room_src (P := P) w t u o.type e i ht hi b (G.base i0 + off) n cap (a.eval x) es2.length news (by rw [hik]; exact hsrc) hfits
          (fun j hj => (h.ok.obj.room b _ (by rw [hik]; omega)).1) (fun j hj => (h.ok.obj.room b _ (by rw [hik]; omega)).2)
        rw [hik, ← hul] at hrun
        have hrun2 : (execOp a.eval o).run P w = .ok (.value (.slice (some ⟨b, G.base i0 + off, none⟩) (n + es2.length) cap)) (w.setCells b (G.base i0 + off + us.length) news) := by
          simp [execOp, ho, resolve, invoke, builtin, hv, hrun]
        have hdead : ∀ j : Nat, (G.setBox i0 []).boxes[j]? = some b → (G.setBox i0 []).boxv[j]? = some [] := fun j hj => by
          show (G.boxv.set i0 [])[j]? = some []
          rw [List.getElem?_set]
          by_cases e : i0 = j
          · rw [if_pos e, if_pos hvl]
          · rw [if_neg e]
            exact h.ok.nodup.other hb.1 hj e hus hune
        have hW2 := hR1.ok.regrow (us := us) (news := news) hb.2 (b3 hune) hdead b1 b2 (G.base i0 + off) husc hroom
        have hE2 : Ext (G.setBox i0 []) ((G.setBox i0 []).newBoxAt b (us ++ news) (G.base i0 + off)) := Ext.newBoxAt _ _ _
        have hR2 := hR1.more hE2 hW2 rfl rfl ⟨hSL.1, fun j c hj => (hSL.2 j c hj).ext hE1⟩ hone hids
        have hS2 : Stays (G.setBox i0 []) ((G.setBox i0 []).newBoxAt b (us ++ news) (G.base i0 + off)) { s with heap := s.heap.set i0 [], wr := i0 :: s.wr } { s with heap := s.heap.set i0 [] ++ [cs ++ es2.flatten], wr := i0 :: s.wr } :=
          ⟨hE2, [], rfl, fun i hi _ => by show ((G.setBox i0 []).boxv ++ [_])[i]? = _; rw [List.getElem?_append_left hi]⟩
        refine ⟨_, _, hrun2, _, hR2, hS1.trans hS2 (by simp [Ghost.setBox]), ?_⟩
        have hbn : ((G.setBox i0 []).newBoxAt b (us ++ news) (G.base i0 + off)).base s.heap.length = G.base i0 + off := by rw [h.heapLen]; exact Ghost.newBoxAt_new
        refine .bsl (G := (G.setBox i0 []).newBoxAt b (us ++ news) (G.base i0 + off)) s.heap.length 0 k (n + es2.length) b cap ⟨?_, hb.2⟩ hfits ⟨hm.1, ?_⟩ (G.base i0 + off) (.inr ?_)
        · show (G.boxes ++ [b])[s.heap.length]? = _
          rw [h.heapLen]; simp
        · rw [hbn, Nat.add_zero]; exact hm.2
        · rw [hbn, Nat.add_zero]
      · -- moved
        have hfirst : (Builtin.firstCells i.size n (.slice (some ⟨b, o2, none⟩) n cap)).run P w.drew = .ok us.toArray w.drew :=
          run_firstCells_some w.drew i.size n ⟨b, o2, none⟩ n cap us (by rw [hul, hik]) fun p v hv => by
            have hp := (List.getElem?_eq_some_iff.1 hv).1
            have hn0 : n ≠ 0 := fun e => by rw [hul, e, Nat.zero_mul] at hp; omega
            have e2 : o2 = G.base i0 + off := by omega
            rw [add_plain, World.cell?_drew, e2]
            exact husc p v hv
        have hrun := run_append_grow_src (P := P) w t u o.type e i zv ht hi hzv (some ⟨b, o2, none⟩) n cap us hfirst (a.eval x) es2.length news (by rw [hik]; exact hsrc) (by omega) (by omega) (growslice_fits (by omega) hfit)
        have hge := grownCap_ge w (n + es2.length) cap e
        have hcm : grownCap w (n + es2.length) cap e ≤ maxLen := grownCap_le_maxLen w _ _ e (by unfold maxLen; omega)
        obtain ⟨nc, hnc⟩ : ∃ nc, nc = grownCap w (n + es2.length) cap e := ⟨_, rfl⟩
        rw [← hnc] at hrun hge hcm
        obtain ⟨ds, hds⟩ : ∃ ds : Array Value, ds = (us ++ news).toArray ++ Builtin.zeroCells zv.cells (nc - (n + es2.length)) := ⟨_, rfl⟩
        rw [← hds] at hrun
        have hat : ∀ (j : Nat) (x : Value), (us ++ news)[j]? = some x → ds[j]? = some x := fun j x hx => by
          have hlt := (List.getElem?_eq_some_iff.1 hx).1
          rw [hds, Array.getElem?_append_left (by simpa using hlt)]
          simpa using hx
        have hroom : nc * k ≤ ds.size := by
          rw [hds, Array.size_append, size_zeroCells, hzs]
          simp only [List.size_toArray, List.length_append, hul, hnl]
          rw [← Nat.add_mul, ← Nat.add_mul]
          exact Nat.mul_le_mul_right k (by omega)
        have hrun2 : (execOp a.eval o).run P w = .ok (.value (.slice (some ⟨w.heap.size, 0, none⟩) (n + es2.length) nc)) (w.drew.alloc (.cells ds e)) := by
          simp [execOp, ho, resolve, invoke, builtin, hv, hrun]
        obtain ⟨h2, h3⟩ := hR1.drew.newBoxR (zs := cs ++ es2.flatten) (vs := us ++ news) ds e hat ⟨hSL.1, fun j c hj => (hSL.2 j c hj).ext hE1⟩ hone hids k (n + es2.length) nc (by omega) ⟨hcm, hroom⟩
        have hE2 : Ext (G.setBox i0 []) ((G.setBox i0 []).newRoom w.heap.size (us ++ news) ds.size) := Ext.newRoom (fun i hi => by have := (hR1.ok.boxlt hi).1; omega) _ _
        have hS2 : Stays (G.setBox i0 []) ((G.setBox i0 []).newRoom w.heap.size (us ++ news) ds.size) { s with heap := s.heap.set i0 [], wr := i0 :: s.wr } { s with heap := s.heap.set i0 [] ++ [cs ++ es2.flatten], wr := i0 :: s.wr } :=
          ⟨hE2, [], rfl, fun i hi _ => by show ((G.setBox i0 []).boxv ++ [_])[i]? = _; rw [List.getElem?_append_left hi]⟩
        exact ⟨_, _, hrun2, _, h2, hS1.trans hS2 (by simp [Ghost.setBox]), by rw [hlen1] at h3; exact h3⟩
  | _ => rw [hv] at hgy; cases hgy
theorem nil_value {G : Ghost} {k : Nat} {es : List (List AV)} {room : Room} {v : Value} (h : Sees G (.sl k es (some true) room) v) : v = .slice none 0 0 := by
  cases h with
  | sl _ _ _ _ a0 len cap uu hlen hn hkk hcap hmx hr hc hs ho1 =>
    have h1 := hn.2.1 rfl
    subst h1
    obtain ⟨h2, h3⟩ := hn.1 rfl
    rw [h2, h3]
theorem empty_value {G : Ghost} {k : Nat} {es : List (List AV)} {nul : Option Bool} {room : Room} {v : Value} (h : Sees G (.sl k es nul room) v) (he : nul = some true ∨ (es = [] ∧ room = .exact)) : ∃ a, v = .slice a 0 0 := by
  rcases he with rfl | ⟨rfl, rfl⟩
  · exact ⟨none, nil_value h⟩
  · cases h with
    | sl _ _ _ _ a0 len cap uu hlen hn hkk hcap hmx hr hc hs ho1 =>
      have h1 : len = 0 := hlen
      have h2 := hr rfl
      subst h1
      exact ⟨a0, by rw [h2]⟩
theorem eff_appendNil (o : Oper) (t u e e' : TypeId) (k : Nat) (i : TypeInfo) (z : List Value) (y x : Operand) (ho : o.op = .call { callee := .builtin .append, args := #[y, x], argTypes := #[t, u] }) (he : elemK P t = some (e, k)) (hz : zeroC P e = some z) (hzk : z.length = k) (hi : P.info? e = some i) (hu : P.underlying u = some (.slice e'))
    (k1 : Nat) (es : List (List AV)) (nul : Option Bool) (room : Room) (hy : s.get y = .sl k1 es nul room) (hem : nul = some true ∨ (es = [] ∧ room = .exact))
    (es2 : List (List AV)) (hr : rowsOf s.heap k (s.get x) = some es2) (hne : es2 ≠ []) (hid : ∀ c ∈ es2.flatten, c.idOf = none) (hfit : es2.length * i.bytes ≤ 140737488355328) (hfit2 : es2.length ≤ 140737488355328) (hf : fitsAll N o = true) :
    OpS P C N s (({ s with heap := s.heap ++ [es2.flatten] } : St).puts o.dst (.bsl s.heap.length 0 k es2.length) false) o Q := fun G cls a w h => by
  obtain ⟨ht, hk, hk0⟩ := elemK_spec he
  obtain ⟨i', zv, hi', hzv, hzl, hz1⟩ := zeroC_spec hz
  rw [hi] at hi'; injection hi' with hi'; subst hi'
  have hik : i.size = k := by unfold szOf at hk; rw [hi] at hk; injection hk
  have hzs : zv.cells.size = k := by rw [← hzk, ← hzl]; simp
  have hgy := h.get (fits_mem hf (show y ∈ o.op.operands.toList by rw [ho]; simp [Op.operands, Call.operands]))
  have hgx := h.get (fits_mem hf (show x ∈ o.op.operands.toList by rw [ho]; simp [Op.operands, Call.operands]))
  rw [hy] at hgy
  obtain ⟨a0, hv⟩ := empty_value hgy hem
  have hpos : 0 < es2.length := List.length_pos_iff.2 hne
  obtain ⟨news, hsrc, hkk, hs2⟩ := src_rows h hgx hk0 hu hr hne
  have hnl : news.length = es2.length * k := hsrc.newsLen
  have hfirst : (Builtin.firstCells i.size 0 (.slice a0 0 0)).run P w.drew = .ok ([] : List Value).toArray w.drew := by
    cases a0 with
    | none => exact run_firstCells_none w.drew _ _ _ _
    | some ad => exact run_firstCells_some w.drew i.size 0 ad 0 0 [] (by simp) fun p v hv => by simp at hv
  have hrun := run_append_grow_src (P := P) w t u o.type e i zv ht hi hzv a0 0 0 [] hfirst (a.eval x) es2.length news (by rw [hik]; exact hsrc) (by omega) (by omega) (growslice_fits (by omega) (by rw [Nat.zero_add]; exact hfit))
  have hge := grownCap_ge w (0 + es2.length) 0 e
  have hcm : grownCap w (0 + es2.length) 0 e ≤ maxLen := grownCap_le_maxLen w _ _ e (by unfold maxLen; omega)
  obtain ⟨nc, hnc⟩ : ∃ nc, nc = grownCap w (0 + es2.length) 0 e := ⟨_, rfl⟩
  rw [← hnc] at hrun hge hcm
  obtain ⟨cs, hcs⟩ : ∃ cs : Array Value, cs = (([] : List Value) ++ news).toArray ++ Builtin.zeroCells zv.cells (nc - (0 + es2.length)) := ⟨_, rfl⟩
  rw [← hcs] at hrun
  have hat : ∀ (j : Nat) (x : Value), news[j]? = some x → cs[j]? = some x := fun j x hx => by
    have hlt := (List.getElem?_eq_some_iff.1 hx).1
    rw [hcs, List.nil_append, Array.getElem?_append_left (by simpa using hlt)]
    simpa using hx
  have hrun2 : (execOp a.eval o).run P w = .ok (.value (.slice (some ⟨w.heap.size, 0, none⟩) (0 + es2.length) nc)) (w.drew.alloc (.cells cs e)) := by
    simp [execOp, ho, resolve, invoke, builtin, hv, hrun]
  unfold Oper.wp
  rw [hrun2, Nat.zero_add]
  have hroom : nc * k ≤ cs.size := by
    rw [hcs, Array.size_append, size_zeroCells, hzs]
    simp only [List.nil_append, List.size_toArray, hnl, Nat.zero_add]
    rw [← Nat.add_mul]
    exact Nat.mul_le_mul_right k (by omega)
  have hSL : SeesL G es2.flatten news := ⟨by rw [flat_len es2 hkk, hnl], fun j c hj => by
    obtain ⟨p, q, ee, h1, h2, h3⟩ := flat_at es2 j c hkk hj
    rw [h3]
    exact hs2 p ee h1 q c h2⟩
  obtain ⟨h2, h3⟩ := h.drew.newBoxR (zs := es2.flatten) (vs := news) cs e hat hSL hsrc.one hid k es2.length nc (by omega) ⟨hcm, hroom⟩
  exact ⟨_, cls, h2.puts (fits_dst hf) h3 (.none _ rfl) (fun _ => rfl), ⟨Ext.newRoom (fun i hi => by have := (h.drew.ok.boxlt hi).1; omega) _ _, [], puts_wr _ _ _ _, fun i hi _ => by show (G.boxv ++ [news])[i]? = _; rw [List.getElem?_append_left hi]⟩⟩
theorem eff_appendX (o : Oper) (t u e e' : TypeId) (k : Nat) (i : TypeInfo) (z : List Value) (y x : Operand) (ho : o.op = .call { callee := .builtin .append, args := #[y, x], argTypes := #[t, u] }) (he : elemK P t = some (e, k)) (hz : zeroC P e = some z) (hzk : z.length = k) (hi : P.info? e = some i) (hu : P.underlying u = some (.slice e'))
    (es : List (List AV)) (nul : Option Bool) (hy : s.get y = .sl k es nul .exact) (hey : es ≠ []) (hyid : ∀ c ∈ es.flatten, c.idOf = none)
    (es2 : List (List AV)) (hr : rowsOf s.heap k (s.get x) = some es2) (hne : es2 ≠ []) (hid : ∀ c ∈ es2.flatten, c.idOf = none) (hfit : (es.length + es2.length) * i.bytes ≤ 140737488355328) (hfit2 : es.length + es2.length ≤ 140737488355328) (hf : fitsAll N o = true) :
    OpS P C N s (({ s with heap := s.heap ++ [es.flatten ++ es2.flatten] } : St).puts o.dst (.bsl s.heap.length 0 k (es.length + es2.length)) false) o Q := fun G cls a w h => by
  obtain ⟨ht, hk, hk0⟩ := elemK_spec he
  obtain ⟨i', zv, hi', hzv, hzl, hz1⟩ := zeroC_spec hz
  rw [hi] at hi'; injection hi' with hi'; subst hi'
  have hik : i.size = k := by unfold szOf at hk; rw [hi] at hk; injection hk
  have hzs : zv.cells.size = k := by rw [← hzk, ← hzl]; simp
  have hgy := h.get (fits_mem hf (show y ∈ o.op.operands.toList by rw [ho]; simp [Op.operands, Call.operands]))
  have hgx := h.get (fits_mem hf (show x ∈ o.op.operands.toList by rw [ho]; simp [Op.operands, Call.operands]))
  rw [hy] at hgy
  have hpos : 0 < es2.length := List.length_pos_iff.2 hne
  have hposy : 0 < es.length := List.length_pos_iff.2 hey
  obtain ⟨news, hsrc, hkk, hs2⟩ := src_rows h hgx hk0 hu hr hne
  have hnl : news.length = es2.length * k := hsrc.newsLen
  cases hv : a.eval y with
  | slice a0 len cap =>
    rw [hv] at hgy
    cases hgy with
    | sl _ _ _ _ _ _ _ uu hlen hn hkky hcap hmx hrr hc hs ho1 =>
      subst hlen
      have hce := hrr rfl
      subst hce
      obtain ⟨b, p, rfl, hcell⟩ := hc hposy
      have hmod : ∀ q, q < es.length * k → q / k < es.length ∧ q % k < k := fun q hq => ⟨(Nat.div_lt_iff_lt_mul hk0).2 hq, Nat.mod_lt _ hk0⟩
      obtain ⟨us, hus⟩ : ∃ us, us = (List.range (es.length * k)).map fun q => uu (q / k) (q % k) := ⟨_, rfl⟩
      have hul : us.length = es.length * k := by rw [hus]; simp
      have huat : ∀ j (v : Value), us[j]? = some v → w.cell? ⟨b, p + j, none⟩ = some v ∧ v.oneCell' = true := fun j v hj => by
        have hjl : j < es.length * k := by rw [← hul]; exact (List.getElem?_eq_some_iff.1 hj).1
        rw [hus, List.getElem?_map, List.getElem?_range hjl] at hj
        injection hj with hj
        obtain ⟨h3, h4⟩ := hmod j hjl
        have h5 := h.ok.cell (hcell _ _ h3 h4)
        rw [← hj]
        refine ⟨?_, ho1 _ _ h3 h4⟩
        rw [← h5, Nat.add_assoc, Nat.div_add_mod' j k]
      have hsy : ∀ i e, es[i]? = some e → ∀ j c, e[j]? = some c → Sees G c (us.getD (i * k + j) undef) := fun i e he j c hj => by
        have hil : i < es.length := (List.getElem?_eq_some_iff.1 he).1
        have hjl : j < k := by rw [← hkky e (List.mem_of_getElem? he)]; exact (List.getElem?_eq_some_iff.1 hj).1
        have hp : i * k + j < es.length * k := by
          have : (i + 1) * k ≤ es.length * k := Nat.mul_le_mul_right k hil
          rw [Nat.add_mul, Nat.one_mul] at this; omega
        rw [hus, List.getD_eq_getElem?_getD, List.getElem?_map, List.getElem?_range hp]
        have e1 : (i * k + j) / k = i := by rw [Nat.mul_comm, Nat.mul_add_div hk0, Nat.div_eq_of_lt hjl, Nat.add_zero]
        have e2 : (i * k + j) % k = j := by rw [Nat.mul_comm, Nat.mul_add_mod, Nat.mod_eq_of_lt hjl]
        simp only [Option.map_some, Option.getD_some, e1, e2]
        exact hs i e he j c hj
      have hfirst : (Builtin.firstCells i.size es.length (.slice (some ⟨b, p, none⟩) es.length es.length)).run P w.drew = .ok us.toArray w.drew :=
        run_firstCells_some w.drew i.size es.length ⟨b, p, none⟩ es.length es.length us (by rw [hul, hik]) fun q v hv => by
          rw [add_plain, World.cell?_drew]
          exact (huat q v hv).1
      have hrun := run_append_grow_src (P := P) w t u o.type e i zv ht hi hzv (some ⟨b, p, none⟩) es.length es.length us hfirst (a.eval x) es2.length news (by rw [hik]; exact hsrc) (by omega) (by omega) (growslice_fits (by omega) hfit)
      have hge := grownCap_ge w (es.length + es2.length) es.length e
      have hcm : grownCap w (es.length + es2.length) es.length e ≤ maxLen := grownCap_le_maxLen w _ _ e (by unfold maxLen; omega)
      obtain ⟨nc, hnc⟩ : ∃ nc, nc = grownCap w (es.length + es2.length) es.length e := ⟨_, rfl⟩
      rw [← hnc] at hrun hge hcm
      obtain ⟨ds, hds⟩ : ∃ ds : Array Value, ds = (us ++ news).toArray ++ Builtin.zeroCells zv.cells (nc - (es.length + es2.length)) := ⟨_, rfl⟩
      rw [← hds] at hrun
      have hat : ∀ (j : Nat) (x : Value), (us ++ news)[j]? = some x → ds[j]? = some x := fun j x hx => by
        have hlt := (List.getElem?_eq_some_iff.1 hx).1
        rw [hds, Array.getElem?_append_left (by simpa using hlt)]
        simpa using hx
      have hroom : nc * k ≤ ds.size := by
        rw [hds, Array.size_append, size_zeroCells, hzs]
        simp only [List.size_toArray, List.length_append, hul, hnl]
        rw [← Nat.add_mul, ← Nat.add_mul]
        exact Nat.mul_le_mul_right k (by omega)
      have hrun2 : (execOp a.eval o).run P w = .ok (.value (.slice (some ⟨w.heap.size, 0, none⟩) (es.length + es2.length) nc)) (w.drew.alloc (.cells ds e)) := by
        simp [execOp, ho, resolve, invoke, builtin, hv, hrun]
      unfold Oper.wp
      rw [hrun2]
      have hS1 : SeesL G es.flatten us := ⟨by rw [flat_len es hkky, hul], fun j c hj => by
        obtain ⟨p, q, ee, h1, h2, h3⟩ := flat_at es j c hkky hj
        rw [h3]
        exact hsy p ee h1 q c h2⟩
      have hS2 : SeesL G es2.flatten news := ⟨by rw [flat_len es2 hkk, hnl], fun j c hj => by
        obtain ⟨p, q, ee, h1, h2, h3⟩ := flat_at es2 j c hkk hj
        rw [h3]
        exact hs2 p ee h1 q c h2⟩
      obtain ⟨h2, h3⟩ := h.drew.newBoxR (zs := es.flatten ++ es2.flatten) (vs := us ++ news) ds e hat (hS1.append hS2) (fun v hv => by
        rcases List.mem_append.1 hv with hv | hv
        · obtain ⟨j, hj⟩ := List.getElem?_of_mem hv
          exact (huat j v hj).2
        · exact hsrc.one v hv) (fun c hc => by
        rcases List.mem_append.1 hc with hc | hc
        · exact hyid c hc
        · exact hid c hc) k (es.length + es2.length) nc (by omega) ⟨hcm, hroom⟩
      exact ⟨_, cls, h2.puts (fits_dst hf) h3 (.none _ rfl) (fun _ => rfl), ⟨Ext.newRoom (fun i hi => by have := (h.drew.ok.boxlt hi).1; omega) _ _, [], puts_wr _ _ _ _, fun i hi _ => by show (G.boxv ++ [_])[i]? = _; rw [List.getElem?_append_left hi]⟩⟩
  | _ => rw [hv] at hgy; cases hgy
theorem eff_appendE (o : Oper) (t u e e' : TypeId) (k : Nat) (i : TypeInfo) (z : List Value) (y x : Operand) (ho : o.op = .call { callee := .builtin .append, args := #[y, x], argTypes := #[t, u] }) (he : elemK P t = some (e, k)) (hi : P.info? e = some i) (hu : P.underlying u = some (.slice e'))
    (hx : match s.get x with | .sl _ es _ _ => es = [] | .bsl _ _ _ m => m = 0 | _ => False) (av : AV) (hy : (∃ k1 es room, s.get y = .sl k1 es (some true) room ∧ av = .sl 0 [] (some true) .exact) ∨ (∃ j off k1 n, s.get y = .bsl j off k1 n ∧ av = .bsl j off k1 n) ∨ (∃ k1, s.get y = .sl k1 [] (some false) .exact ∧ av = .sl 0 [] (some false) .exact) ∨ ∃ k1 es, s.get y = .sl k1 es none .no ∧ av = .sl k1 es none .no) (hf : fitsAll N o = true) :
    OpS P C N s (s.puts o.dst av false) o Q := fun G cls a w h => by
  obtain ⟨ht, hk, hk0⟩ := elemK_spec he
  have hik : i.size = k := by unfold szOf at hk; rw [hi] at hk; injection hk
  have hgy := h.get (fits_mem hf (show y ∈ o.op.operands.toList by rw [ho]; simp [Op.operands, Call.operands]))
  have hgx := h.get (fits_mem hf (show x ∈ o.op.operands.toList by rw [ho]; simp [Op.operands, Call.operands]))
  have hsrc : Src P i.size u (a.eval x) 0 [] w := by
    split at hx
    · rename_i k2 es nul room hgy2
      subst hx
      rw [hgy2] at hgx
      cases hv : a.eval x with
      | slice a0 len cap =>
        rw [hv] at hgx
        cases hgx with
        | sl _ _ _ _ _ _ _ uu hlen hn hkk hcap hmx hr hc hs ho1 =>
          have : len = 0 := hlen
          subst this
          cases a0 with
          | none => exact Src.ofNil w hu cap
          | some ad => exact Src.ofSlice w hu ad 0 cap [] (by simp) (fun j v hj => by simp at hj) (fun v hv => by cases hv)
      | _ => rw [hv] at hgx; cases hgx
    · rename_i j off k2 m hgy2
      subst hx
      rw [hgy2] at hgx
      cases hv : a.eval x with
      | slice a0 len cap =>
        rw [hv] at hgx
        cases hgx with
        | bsl _ _ _ _ b _ hb hcap hm o2 ho2 => exact Src.ofSlice w hu ⟨b, o2, none⟩ 0 cap [] (by simp) (fun j v hj => by simp at hj) (fun v hv => by cases hv)
      | _ => rw [hv] at hgx; cases hgx
    · exact hx.elim
  suffices hgoal : ∃ a0 len cap, a.eval y = .slice a0 len cap ∧ len ≤ cap ∧ Sees G av (.slice a0 len cap) by
    obtain ⟨a0, len, cap, hv, hcap, hsee⟩ := hgoal
    have hrun := run_append_nothing (P := P) w t u o.type e i ht hi a0 len cap hcap (a.eval x) hsrc
    have hrun2 : (execOp a.eval o).run P w = .ok (.value (.slice a0 len cap)) w := by
      simp [execOp, ho, resolve, invoke, builtin, hv, hrun]
    unfold Oper.wp
    rw [hrun2]
    have hid : av.idOf = none := by rcases hy with ⟨_, _, _, _, rfl⟩ | ⟨_, _, _, _, _, rfl⟩ | ⟨_, _, rfl⟩ | ⟨_, _, _, rfl⟩ <;> rfl
    exact ⟨G, cls, h.puts (fits_dst hf) hsee (.none _ hid) (fun _ => hid), Stays.same (puts_wr _ _ _ _)⟩
  rcases hy with ⟨k1, es, room, hy, rfl⟩ | ⟨j, off, k1, n, hy, rfl⟩ | ⟨k1, hy, rfl⟩ | ⟨k1, es, hy, rfl⟩
  · rw [hy] at hgy
    have hv := nil_value hgy
    exact ⟨none, 0, 0, hv, Nat.le_refl _, .sl 0 [] (some true) .exact none 0 0 (fun _ _ => undef) rfl ⟨fun _ => ⟨rfl, rfl⟩, fun _ => rfl, fun h => (by cases h)⟩ (fun e h => by cases h) (Nat.le_refl _) (by simp [maxLen]) (fun _ => rfl) (fun h => by simp at h) (fun i e h => by simp at h) (fun i j h => by simp at h)⟩
  · rw [hy] at hgy
    cases hv : a.eval y with
    | slice a0 len cap =>
      rw [hv] at hgy
      refine ⟨a0, len, cap, rfl, ?_, hgy⟩
      cases hgy with
      | bsl _ _ _ _ b _ hb hcap hm o2 ho2 => exact hcap
    | _ => rw [hv] at hgy; cases hgy
  · rw [hy] at hgy
    cases hv : a.eval y with
    | slice a0 len cap =>
      rw [hv] at hgy
      cases hgy with
      | sl _ _ _ _ _ _ _ uu hlen hn hkk hcap hmx hr hc hs ho1 =>
        have h1 : len = 0 := hlen
        have h2 := hr rfl
        subst h1
        subst h2
        exact ⟨a0, 0, 0, rfl, Nat.le_refl _, .sl 0 [] (some false) .exact a0 0 0 (fun _ _ => undef) rfl hn (fun e h => by cases h) (Nat.le_refl _) (by simp [maxLen]) (fun _ => rfl) (fun h => by simp at h) (fun i e h => by simp at h) (fun i j h => by simp at h)⟩
    | _ => rw [hv] at hgy; cases hgy
  · rw [hy] at hgy
    cases hv : a.eval y with
    | slice a0 len cap =>
      rw [hv] at hgy
      refine ⟨a0, len, cap, rfl, ?_, hgy⟩
      cases hgy with
      | sl _ _ _ _ _ _ _ uu hlen hn hkk hcap hmx hr hc hs ho1 => exact hcap
    | _ => rw [hv] at hgy; cases hgy
theorem made_get (z : List Value) : ∀ (n j : Nat) (x : Value), (List.replicate n z).flatten[j]? = some x → x ∈ z := fun n j x h => by
  have := List.mem_of_getElem? h
  obtain ⟨l, h1, h2⟩ := List.mem_flatten.1 this
  rw [(List.mem_replicate.1 h1).2] at h2
  exact h2
theorem madeCells_get (z : Array Value) (hz : 0 < z.size) (n j : Nat) (hj : j < n * z.size) : (madeCells z (n * z.size))[j]? = some (z.toList.getD (j % z.size) undef) := by
  have hm := Nat.mod_lt j hz
  unfold madeCells
  rw [Array.getElem?_map, Array.getElem?_range, if_pos hj]
  simp [List.getD_eq_getElem?_getD, hm]
theorem rep_get (z : List Value) (hz : 0 < z.length) : ∀ (n j : Nat), j < n * z.length → (List.replicate n z).flatten[j]? = some (z.getD (j % z.length) undef)
  | 0, j, h => by omega
  | n + 1, j, h => by
    rw [List.replicate_succ, List.flatten_cons]
    by_cases hj : j < z.length
    · rw [List.getElem?_append_left hj, Nat.mod_eq_of_lt hj, List.getD_eq_getElem?_getD, List.getElem?_eq_getElem hj]; rfl
    · rw [List.getElem?_append_right (by omega), rep_get z hz n _ (by rw [Nat.add_mul] at h; omega), ← Nat.mod_eq_sub_mod (by omega)]
theorem rep_len (z : List Value) (n : Nat) : (List.replicate n z).flatten.length = n * z.length := by simp
theorem seesL_rep {G : Ghost} {zs : List AV} {vs : List Value} (h : SeesL G zs vs) : ∀ n : Nat, SeesL G (List.replicate n zs).flatten (List.replicate n vs).flatten
  | 0 => SeesL.nil
  | n + 1 => by
    rw [List.replicate_succ, List.replicate_succ, List.flatten_cons, List.flatten_cons]
    exact h.append (seesL_rep h n)
theorem eff_makeB (o : Oper) (t e : TypeId) (k : Nat) (i : TypeInfo) (z : List Value) (l y : Operand) (n : Int) (ho : o.op = .makeSlice t l y) (he : elemK P t = some (e, k)) (hz : zeroC P e = some z) (hi : P.info? e = some i) (hik : i.size = k) (hzk : z.length = k) (hly : l = y) (hn : s.get y = .v (.int .i64 n))
    (h0 : 0 ≤ n) (hb : (i.bytes : Int) * n ≤ 140737488355328) (hm : n ≤ 140737488355328) (hf : fitsAll N o = true) :
    OpS P C N s (({ s with heap := s.heap ++ [(List.replicate n.toNat (z.map ofC1)).flatten] } : St).puts o.dst (.bsl s.heap.length 0 k n.toNat) false) o Q := fun G cls a w h => by
  subst hly
  obtain ⟨ht, hk, hk0⟩ := elemK_spec he
  obtain ⟨i', zv, hi', hzv, hzl, hz1⟩ := zeroC_spec hz
  rw [hi] at hi'; injection hi' with hi'; subst hi'
  have hgy := h.get (fits_mem hf (show l ∈ o.op.operands.toList by rw [ho]; simp [Op.operands]))
  rw [hn] at hgy
  have hgv := hgy.inv_v
  have hmake := run_make (P := P) w t e i zv ht hi hzv .i64 .i64 n n h0 (Int.le_refl _) (by omega) (by omega)
  obtain ⟨cs, hcs⟩ : ∃ cs, cs = madeCells zv.cells (n.toNat * i.size) := ⟨_, rfl⟩
  have hsz : cs.size = n.toNat * k := by rw [hcs, size_madeCells, hik]
  rw [← hcs] at hmake
  have hrun : (execOp a.eval o).run P w = .ok (.value (.slice (some ⟨w.heap.size, 0, none⟩) n.toNat n.toNat)) (w.alloc (.cells cs e)) := by
    simp [execOp, ho, hgv, hmake]
  unfold Oper.wp
  rw [hrun]
  have hzs : zv.cells.size = k := by rw [← hzk, ← hzl]; simp
  have hz0 : 0 < z.length := by omega
  obtain ⟨h2, h3⟩ := h.newBoxR (zs := (List.replicate n.toNat (z.map ofC1)).flatten) (vs := (List.replicate n.toNat z).flatten) cs e (fun j x hx => by
      have hj := (List.getElem?_eq_some_iff.1 hx).1
      rw [rep_len] at hj
      rw [rep_get z hz0 _ j hj] at hx
      rw [hcs, hik, ← hzs, madeCells_get zv.cells (by omega) _ j (by rw [hzs, ← hzk]; exact hj), ← hx, hzl, hzs, hzk]) (seesL_rep ⟨by simp, fun j c hj => by
        rw [List.getElem?_map] at hj
        cases hx : z[j]? with
        | none => rw [hx] at hj; cases hj
        | some y => rw [hx] at hj; injection hj with hj; subst hj; rw [List.getD_eq_getElem?_getD, hx]; exact sees_ofC1 y⟩ _) (fun x hx => by
        obtain ⟨j, hj⟩ := List.getElem?_of_mem hx
        have := made_get z _ j x hj
        rw [← hzl] at this
        exact List.all_eq_true.1 hz1 x this) (fun c hc => by
        obtain ⟨l2, h4, h5⟩ := List.mem_flatten.1 hc
        rw [(List.mem_replicate.1 h4).2] at h5
        obtain ⟨y, _, rfl⟩ := List.mem_map.1 h5; exact ofC1_id y) k n.toNat n.toNat (Nat.le_refl _) ⟨by unfold maxLen; omega, by rw [hsz]; exact Nat.le_refl _⟩
  exact ⟨_, cls, h2.puts (fits_dst hf) h3 (.none _ rfl) (fun _ => rfl), ⟨Ext.newRoom (fun i hi => by have := (h.ok.boxlt hi).1; omega) _ _, [], puts_wr _ _ _ _, fun i hi _ => by show (G.boxv ++ [_])[i]? = _; rw [List.getElem?_append_left hi]⟩⟩
end
theorem xappendA_pick {s : St} {k bytes : Nat} {d : Option Nat} {a x : AV} {K : St → List Nat → Prop} (h : xappendA s k bytes d a x K) : ∃ s' l, K s' l ∧ xappendA s k bytes d a x fun s2 l2 => s2 = s' ∧ l2 = l := by
  rcases h with h | h | h
  · unfold xappend at h
    split at h
    · obtain ⟨h1, h2, h3, h4, h5⟩ := h
      exact ⟨_, _, h5, .inl ⟨h1, h2, h3, h4, rfl, rfl⟩⟩
    · exact h.elim
  · obtain ⟨es2, hr, hne, hid, hm⟩ := h
    split at hm
    · rcases hm with ⟨h2, h3, h4, h5⟩ | ⟨h2, h3, h4, h5, h6, h7, h8⟩
      · exact ⟨_, _, h5, .inr (.inl ⟨es2, hr, hne, hid, .inl ⟨h2, h3, h4, rfl, rfl⟩⟩)⟩
      · exact ⟨_, _, h8, .inr (.inl ⟨es2, hr, hne, hid, .inr ⟨h2, h3, h4, h5, h6, h7, rfl, rfl⟩⟩)⟩
    · obtain ⟨h3, cs, h4, h5, h6, h7, h8, h9, h10⟩ := hm
      exact ⟨_, _, h10, .inr (.inl ⟨es2, hr, hne, hid, h3, cs, h4, h5, h6, h7, h8, h9, rfl, rfl⟩)⟩
    · exact hm.elim
  · obtain ⟨hx, hm⟩ := h
    split at hm
    · rcases hm with ⟨h2, h3, h4⟩ | ⟨h2, h3, h4, h5, h6⟩ | ⟨h2, h3, h4, h5⟩
      · exact ⟨_, _, h4, .inr (.inr ⟨hx, .inl ⟨h2, h3, rfl, rfl⟩⟩)⟩
      · exact ⟨_, _, h6, .inr (.inr ⟨hx, .inr (.inl ⟨h2, h3, h4, h5, rfl, rfl⟩)⟩)⟩
      · exact ⟨_, _, h5, .inr (.inr ⟨hx, .inr (.inr ⟨h2, h3, h4, rfl, rfl⟩)⟩)⟩
    · exact ⟨_, _, hm.2, .inr (.inr ⟨hx, hm.1, rfl, rfl⟩)⟩
    · exact hm.elim
theorem xappendA_mono {s : St} {k bytes : Nat} {d : Option Nat} {a x : AV} {K K' : St → List Nat → Prop} (hK : ∀ s l, K s l → K' s l) (h : xappendA s k bytes d a x K) : xappendA s k bytes d a x K' := by
  rcases h with h | h | h
  · unfold xappend at h
    split at h
    · obtain ⟨h1, h2, h3, h4, h5⟩ := h
      exact .inl ⟨h1, h2, h3, h4, hK _ _ h5⟩
    · exact h.elim
  · obtain ⟨es2, hr, hne, hid, hm⟩ := h
    split at hm
    · rcases hm with ⟨h2, h3, h4, h5⟩ | ⟨h2, h3, h4, h5, h6, h7, h8⟩
      · exact .inr (.inl ⟨es2, hr, hne, hid, .inl ⟨h2, h3, h4, hK _ _ h5⟩⟩)
      · exact .inr (.inl ⟨es2, hr, hne, hid, .inr ⟨h2, h3, h4, h5, h6, h7, hK _ _ h8⟩⟩)
    · obtain ⟨h3, cs, h4, h5, h6, h7, h8, h9, h10⟩ := hm
      exact .inr (.inl ⟨es2, hr, hne, hid, h3, cs, h4, h5, h6, h7, h8, h9, hK _ _ h10⟩)
    · exact hm.elim
  · obtain ⟨hx, hm⟩ := h
    split at hm
    · rcases hm with ⟨h2, h3, h4⟩ | ⟨h2, h3, h4, h5, h6⟩ | ⟨h2, h3, h4, h5⟩
      · exact .inr (.inr ⟨hx, .inl ⟨h2, h3, hK _ _ h4⟩⟩)
      · exact .inr (.inr ⟨hx, .inr (.inl ⟨h2, h3, h4, h5, hK _ _ h6⟩)⟩)
      · exact .inr (.inr ⟨hx, .inr (.inr ⟨h2, h3, h4, hK _ _ h5⟩)⟩)
    · exact .inr (.inr ⟨hx, hm.1, hK _ _ hm.2⟩)
    · exact hm.elim
theorem eff_appendA {P : Program} {C : Ctx} {N : Nat} {s : St} {Q : Exit → Act → World → Prop} {K : St → List Nat → Prop} (o : Oper) (t u e e' : TypeId) (k : Nat) (i : TypeInfo) (z : List Value) (y x : Operand) (ho : o.op = .call { callee := .builtin .append, args := #[y, x], argTypes := #[t, u] }) (he : elemK P t = some (e, k)) (hz : zeroC P e = some z) (hzk : z.length = k) (hi : P.info? e = some i) (hu : P.underlying u = some (.slice e')) (hf : fitsAll N o = true)
    (h : xappendA s k i.bytes o.dst (s.get y) (s.get x) K) : ∃ s' l, K s' l ∧ OpS P C N s s' o Q := by
  rcases h with h | h | h
  · unfold xappend at h
    split at h
    · rename_i d k1 es nul room k2 es2 nul2 room2 hd hy hz2
      obtain ⟨h1, h2, h3, h4, h5⟩ := h
      exact ⟨_, _, h5, eff_append o t u e e' k d i z y x ho hd he hz hzk hi hu k1 k2 es es2 nul nul2 room room2 hy hz2 h1 h2 h3 h4 hf⟩
    · exact h.elim
  · obtain ⟨es2, hr, hne, hid, hm⟩ := h
    split at hm
    · rename_i k1 es nul room hy
      rcases hm with ⟨h2, h3, h4, h5⟩ | ⟨h2, h3, h4, h5, h6, h7, h8⟩
      · exact ⟨_, _, h5, eff_appendNil o t u e e' k i z y x ho he hz hzk hi hu k1 es nul room hy h2 es2 hr hne hid h3 h4 hf⟩
      · subst h2 h4
        exact ⟨_, _, h8, eff_appendX o t u e e' k1 i z y x ho he hz hzk hi hu es nul hy h3 h5 es2 hr hne hid h6 h7 hf⟩
    · rename_i i0 off k1 n hy
      obtain ⟨h3, cs, h4, h5, h6, h7, h8, h9, h10⟩ := hm
      subst h3
      exact ⟨_, _, h10, eff_appendG o t u e e' k1 i z y x ho he hz hzk hi hu i0 off n cs hy h4 h5 h6 h7 es2 hr hne hid h8 h9 hf⟩
    · exact hm.elim
  · obtain ⟨hx, hm⟩ := h
    split at hm
    · rename_i k1 es nul room hy
      rcases hm with ⟨h2, h3, h4⟩ | ⟨h2, h3, h4, h5, h6⟩ | ⟨h2, h3, h4, h5⟩
      · subst h3
        exact ⟨_, _, h4, eff_appendE o t u e e' k i z y x ho he hi hu hx _ (.inl ⟨_, _, _, hy, rfl⟩) hf⟩
      · subst h3 h4 h5
        exact ⟨_, _, h6, eff_appendE o t u e e' k i z y x ho he hi hu hx _ (.inr (.inr (.inl ⟨_, hy, rfl⟩))) hf⟩
      · subst h3 h4
        exact ⟨_, _, h5, eff_appendE o t u e e' k i z y x ho he hi hu hx _ (.inr (.inr (.inr ⟨_, _, hy, rfl⟩))) hf⟩
    · rename_i j off k1 n hy
      exact ⟨_, _, hm.2, eff_appendE o t u e e' k i z y x ho he hi hu hx _ (.inr (.inl ⟨_, _, _, _, hy, rfl⟩)) hf⟩
    · exact hm.elim
end Go.Proofs.YtofkddajlgebjaaGreat.Ax
/- A text's bytes, as a slice. No program is named here. -/
namespace Go.Proofs.YtofkddajlgebjaaGreat.Ax
open Go.RowKit Go By

theorem bytesWorld_eq (w : World) (e : TypeId) (s : ByteArray) : Lib.bytesWorld w e s = w.drew.alloc (.cells (Lib.bytesCells w e s) e ((Lib.bytesCells w e s).size, (Lib.bytesCells w e s).size + 1)) := by
  have hh : (Lib.bytesWorld w e s).heap = (w.drew.alloc (.cells (Lib.bytesCells w e s) e ((Lib.bytesCells w e s).size, (Lib.bytesCells w e s).size + 1))).heap := by
    apply Array.ext_getElem?
    intro j
    by_cases hj : j < w.heap.size
    · rw [Lib.bytesWorld_at_old w e s j hj]; exact (heap_alloc_old w.drew _ hj).symm
    · by_cases hj2 : j = w.heap.size
      · subst hj2; rw [Lib.bytesWorld_at_new]; exact (heap_alloc_new w.drew _).symm
      · rw [Array.getElem?_eq_none (by rw [Lib.bytesWorld_size]; omega), Array.getElem?_eq_none (by simp; omega)]
  exact congrArg (fun hp => ({ w.drew.alloc (.cells (Lib.bytesCells w e s) e ((Lib.bytesCells w e s).size, (Lib.bytesCells w e s).size + 1)) with heap := hp } : World)) hh
section
variable {G : Ghost} {w : World}
theorem WorldOk.newRoomM (h : WorldOk G w) (vs : List Value) (cs : Array Value) (e : TypeId) (lo hi : Nat) (hl : vs.length ≤ cs.size) (hlo : cs.size ≤ lo) (hc : ∀ (j : Nat) (x : Value), vs[j]? = some x → cs[j]? = some x) : WorldOk (G.setBuf w.heap.size ⟨vs, cs.size⟩) (w.alloc (.cells cs e (lo, hi))) := by
  have hn : ∀ j, (w.alloc (.cells cs e (lo, hi))).cell? ⟨w.heap.size, j, none⟩ = cs[j]? := fun j => cell_of_row _ _ j cs e (lo, hi) (heap_alloc_new w _)
  refine ⟨h.below.alloc h.below.size _, fun b B hB => ?_, fun i b us hb hv => ?_, h.nodup2, h.len, h.objK (Keeps.alloc w _)⟩
  · have hB' : (if b = w.heap.size then some (⟨vs, cs.size⟩ : Buf) else G.bufs b) = some B := hB
    split at hB'
    · rename_i hb
      subst hb
      injection hB' with hB'
      subst hB'
      refine ⟨h.below.size, by simp, hl, fun j hj => ?_, fun j x hx => ?_⟩
      · rw [hn, Array.getElem?_eq_getElem hj, World.frozen?_alloc_mark]
        exact ⟨rfl, by have : ¬ lo ≤ j := by { show ¬ lo ≤ j; have : j < cs.size := hj; omega }
                       simp [this]⟩
      · rw [hn]; exact hc j x hx
    · obtain ⟨h1, h2, h3, h4, h5⟩ := h.buf b B hB'
      refine ⟨h1, by simp; omega, h3, fun j hj => ?_, fun j x hx => ?_⟩
      · rw [(cell_alloc w _ j h2).1, (cell_alloc w _ j h2).2]; exact h4 j hj
      · rw [(cell_alloc w _ j h2).1]; exact h5 j x hx
  · obtain ⟨h1, h2, h3, h4⟩ := h.box i b us hb hv
    refine ⟨h1, by simp; omega, fun hne => ?_, fun j x hx => ?_⟩
    · show (if b = w.heap.size then _ else G.bufs b) = none
      rw [if_neg (by omega)]; exact h3 hne
    · show _ → (w.alloc _).cell? ⟨b, G.base i + j, none⟩ = _ ∧ _
      rw [(cell_alloc w _ _ h2).1]; exact fun hk => ⟨(h4 j x hx hk).1, ((cell_alloc w _ _ h2).2).trans (h4 j x hx hk).2⟩
end
section
variable {P : Program} {C : Ctx} {N : Nat} {s : St} {Q : Exit → Act → World → Prop}
theorem Rel.newRoomM {G : Ghost} {cls : Nat → Id} {a : Act} {w : World} (h : Rel C N G cls s a w) (vs : List Value) (cs : Array Value) (e : TypeId) (lo hi : Nat) (hl : vs.length ≤ cs.size) (hlo : cs.size ≤ lo) (hc : ∀ (j : Nat) (x : Value), vs[j]? = some x → cs[j]? = some x) : Rel C N (G.setBuf w.heap.size ⟨vs, cs.size⟩) cls s a (w.alloc (.cells cs e (lo, hi))) := by
  have hB : ∀ b B, G.bufs b = some B → (G.setBuf w.heap.size ⟨vs, cs.size⟩).bufs b = some B := fun b B hb => by
    have := (h.ok.buf b B hb).2.1
    show (if b = w.heap.size then _ else G.bufs b) = _
    rw [if_neg (by omega), hb]
  have hE := Ext.newBuf h.ok ⟨vs, cs.size⟩
  exact h.next hE (h.ok.newRoomM vs cs e lo hi hl hlo hc) hB ⟨h.heap.1, fun i cs us h1 h2 => by obtain ⟨h3, h5, h4⟩ := h.heap.2 i cs us h1 h2; exact ⟨h3, h5, fun j c hj => (h4 j c hj).ext hE⟩⟩
    (fun i cs us h1 h2 j c hj => by obtain ⟨h3, h4⟩ := h.ownh i cs us h1 h2 j c hj; exact ⟨h3.keep fun b B c hb _ => hB b B hb, h4⟩) h.boxes
theorem eff_s2b (o : Oper) (t u e : TypeId) (y : Operand) (ho : o.op = .convert t u y) (hs : P.underlying t = some .string) (hu : P.underlying u = some (.slice e)) (he : P.underlying e = some (.int .u8)) (b : ByteArray) (hy : s.get y = .v (.string b)) (hfit : b.size ≤ 140737488355328) (hf : fitsAll N o = true) :
    OpS P C N s (s.puts o.dst (.sl 1 (bytesE b.data.toList) none .no) false) o Q := fun G cls a w h => by
  have hg := h.get (fits_mem hf (show y ∈ o.op.operands.toList by rw [ho]; simp [Op.operands]))
  rw [hy] at hg
  have hx := hg.inv_v
  have hrun : (execOp a.eval o).run P w = .ok (.value (.slice (some ⟨w.heap.size, 0, none⟩) b.size (grownCap w b.size 0 e))) (Lib.bytesWorld w e b) := by
    simp [execOp, ho, hx, Lib.run_convert_string_bytes w t u e b hs hu he]
  rw [bytesWorld_eq] at hrun
  have hge := grownCap_ge w b.size 0 e
  have hcm : grownCap w b.size 0 e ≤ maxLen := grownCap_le_maxLen w _ _ e (by unfold maxLen; omega)
  have hbl : (byteCells b).length = b.size := by unfold byteCells; simp
  have hat : ∀ (j : Nat) (x : Value), (byteCells b)[j]? = some x → (Lib.bytesCells w e b)[j]? = some x := fun j x hx => by
    have hlt := (List.getElem?_eq_some_iff.1 hx).1
    unfold Lib.bytesCells
    rw [Array.getElem?_append_left (by simpa [hbl] using hlt)]
    unfold byteCells at hx
    simpa using hx
  have hcl : (Lib.bytesCells w e b).size = grownCap w b.size 0 e := by
    unfold Lib.bytesCells
    simp
    show b.size + _ = _
    omega
  generalize grownCap w b.size 0 e = nc at *
  generalize Lib.bytesCells w e b = cs at *
  have hR := h.drew.newRoomM (byteCells b) cs e cs.size (cs.size + 1) (by rw [hbl, hcl]; exact hge) (Nat.le_refl _) hat
  have hlen : (bytesE b.data.toList).length = b.size := by unfold bytesE; simp
  unfold Oper.wp
  rw [hrun]
  refine ⟨_, cls, hR.puts (fits_dst hf) (b := .sl 1 (bytesE b.data.toList) none .no) ?_ (.none _ rfl) (fun _ => rfl), ?_⟩
  · rw [← hlen]
    have hone : ∀ i, i < b.size → ∃ q : Nat, (byteCells b)[i]? = some (.int .u8 q) := fun i hi => by
      unfold byteCells
      rw [List.getElem?_map, List.getElem?_eq_getElem (by simpa using hi)]
      exact ⟨_, rfl⟩
    refine .sl 1 _ none .no _ _ nc (fun i _ => (byteCells b).getD i undef) rfl ⟨fun h => (by cases h), fun h => (by cases h), fun h => (by cases h)⟩ (fun e he => by unfold bytesE at he; obtain ⟨q, _, rfl⟩ := List.mem_map.1 he; rfl) (by rw [hlen]; exact hge) hcm (fun h => by cases h) (fun _ => ⟨w.heap.size, 0, rfl, fun i j hi hj => ?_⟩) (fun i e he j c hj => ?_) (fun i j hi hj => ?_)
    · have hj0 : j = 0 := by omega
      subst hj0
      obtain ⟨q, hq⟩ := hone i (by rw [← hlen]; exact hi)
      unfold Ghost.cell
      rw [if_neg (by have := h.ok.size; show ¬ w.heap.size < G.w0.heap.size; omega)]
      show (if w.heap.size = w.heap.size then _ else _ : Option Buf).bind _ = _
      rw [if_pos rfl]
      show (byteCells b)[0 + i * 1 + 0]? = _
      rw [show 0 + i * 1 + 0 = i by omega, hq, List.getD_eq_getElem?_getD, hq]; rfl
    · unfold bytesE at he
      rw [List.getElem?_map] at he
      cases hq : b.data.toList[i]? with
      | none => rw [hq] at he; cases he
      | some q =>
        rw [hq] at he
        injection he with he
        subst he
        rcases j with _ | j
        · simp at hj; subst hj
          have hil := (List.getElem?_eq_some_iff.1 hq).1
          have := byteCells_at b.data.toList i hil
          rw [show strB b.data.toList = b from rfl] at this
          rw [this, List.getD_eq_getElem?_getD, hq]
          exact .v _
        · simp at hj
    · obtain ⟨q, hq⟩ := hone i (by rw [← hlen]; exact hi)
      rw [List.getD_eq_getElem?_getD, hq]; rfl
  · exact ⟨Ext.newBuf h.drew.ok _, [], puts_wr _ _ _ _, fun i _ _ => rfl⟩
end
end Go.Proofs.YtofkddajlgebjaaGreat.Ax
/- Copying is not told. No program is named here. -/
namespace Go.Proofs.YtofkddajlgebjaaGreat.Ax
open Go.RowKit Go By

theorem eff_copy {P : Program} {C : Ctx} {N : Nat} {s : St} {Q : Exit → Act → World → Prop} (o : Oper) (t u : TypeId) (y z : Operand) {x : XOp} (_ho : o.op = .call { callee := .builtin .copy, args := #[y, z], argTypes := #[t, u] }) (hc : copCopy P t u y z = some x) (_hf : fitsAll N o = true) {K : St → List Nat → Prop} (_hx : xop P o.dst x s K) : ∃ s' l, K s' l ∧ OpS P C N s s' o Q := by cases hc
end Go.Proofs.YtofkddajlgebjaaGreat.Ax
namespace Go.Proofs.YtofkddajlgebjaaGreat.Ax
open Go.RowKit Go By

/-- A function's frame, or a round's. -/
def Fr (r : Option Nat) : Fence := { Fence.wide with round := r }
section
variable {P : Program} {r : Option Nat} {n : Nat}
theorem callsIn_fr {f : FuncId} {args : Array Value} {w : World} {R : Ending → World → Prop} (h : Calls P f args w R) : CallsIn (Fr r) n P f args w R := (callsIn_wide (n := n)).2 h
theorem rowsIn_fr {row : String} {args : Array Value} {w : World} {R : Value → World → Prop} (h : Rows P row args w R) : RowsIn (Fr r) n P row args w R := fun c cs _ =>
  let ⟨v, w', hr, s⟩ := h c cs
  ⟨v, w', hr, stepsIn_wide.2 s⟩
theorem oper_in {o : Oper} {a : Act} {w : World} {next : Act → World → Prop} {Q : Exit → Act → World → Prop} (hd : ∀ c, o.op ≠ .defer c) (h : o.wp P a w next Q) : o.wpIn (Fr r) n P a w next Q := by
  refine ⟨fun _ _ => trivial, ?_⟩
  rw [Oper.semAt_eq _ _ _ hd]
  unfold Oper.wp at h
  revert h
  cases hr : (execOp a.eval o).run P w with
  | ok x w' =>
    cases x <;> intro h <;> simp only [Oper.upon, Oper.uponIn] at h ⊢
    all_goals first
      | exact h
      | exact ⟨fun hh => (by cases hh), callsIn_fr h⟩
      | exact ⟨fun hh => (by cases hh), rowsIn_fr h⟩
  | halt x w' => cases x <;> intro h <;> simp only [Oper.upon, Oper.uponIn] at h ⊢ <;> exact h
theorem wpAny_in {md : Region.Mode} {ops : Array Oper} {Q : Exit → Act → World → Prop} (hq : ∀ a w, ¬ Q .outgrown a w) (hd : ∀ (i : Nat) (o : Oper), ops[i]? = some o → ∀ c, o.op ≠ .defer c) : ∀ (fuel : Nat) (listed : Array Bool) (a : Act) (w : World), wpAny P md ops (NoPanic Q) fuel listed a w → wpAnyIn (Fr r) n P md ops (NoPanic Q) fuel listed a w
  | 0, _, _, _, h => h
  | fuel + 1, listed, a, w, h => by
    refine ⟨h.1, fun i hi => ?_⟩
    have h2 := h.2 i hi
    unfold wpOp at h2
    unfold wpOpIn
    cases ho : ops[i]? with
    | none => rw [ho] at h2; exact wpAny_in hq hd fuel _ _ _ h2
    | some o =>
      rw [ho] at h2
      dsimp only at h2 ⊢
      split
      · rename_i hw
        rw [if_pos hw] at h2
        rcases h2 with h2 | ⟨_, h2⟩
        · exact Oper.wpIn_mono (fun a w hh => wpAny_in hq hd fuel _ _ _ hh) (oper_in (hd i o ho) h2)
        · obtain ⟨a', w', h3⟩ := h2
          exact absurd h3 (hq a' w')
      · rename_i hw
        rw [if_neg hw] at h2
        exact ⟨fun _ _ => trivial, wpAny_in hq hd fuel _ _ _ h2⟩

/-! ### What a loop over a function hands over -/
/-- Called with these values, over variables that hold this, it answers that, and leaves the variables so. -/
def YContract (P : Program) (i : Nat) (r : Loop) (c : Code) (slots args : List AV) (h : List (List AV)) (res : AV) (h' : List (List AV)) (wr : List Nat) : Prop :=
  ∀ (G : Ghost) (w : World) (vs : List Value) (cls : Nat → Id) (b : Nat), Sees G (.yld i r c slots) (.func (.yield b) #[] #[]) → WorldOk G w → SeesH G h → SeesL G args vs →
    (∀ (i : Nat) (x : AV), args[i]? = some x → OwnAt G (fun b c => cls b = c) x (vs.getD i undef) ∧ ∀ c, x.idOf = some c → c = .arg i) → OwnH G (fun b c => cls b = c) h →
    YieldAt (Fr none) 0 P b vs.toArray w fun e w' => ∃ v G' cls', e = .returned v ∧ After G (Touched G args vs h) res h' wr v G' cls' w'
def xyield (P : Program) (i : Nat) (r : Loop) (c : Code) (slots args : List AV) (s : St) (d : Option Nat) (K : St → List Nat → Prop) : Prop :=
  ∃ bs res h' wr, YContract P i r c slots bs s.heap res h' wr ∧ fitL 0 args bs ∧ (idsOf (handL args bs)).Nodup ∧ K (s.called (handL args bs) d res h' wr) []
/-- From any place that is s the operation leads to one that is s', in a function's frame, or a round's. -/
def OpSIn (P : Program) (C : Ctx) (N : Nat) (rr : Option Nat) (s s' : St) (o : Oper) (Q : Exit → Act → World → Prop) : Prop :=
  ∀ (G : Ghost) (cls : Nat → Id) (a : Act) (w : World), Rel C N G cls s a w → o.wpIn (Fr rr) 0 P a w (fun a' w' => ∃ G' cls', Rel C N G' cls' s' a' w' ∧ Stays G G' s s') Q
end
section
variable {P : Program} {C : Ctx} {N : Nat} {rr : Option Nat} {s : St} {Q : Exit → Act → World → Prop}
theorem OpS.inside {s' : St} {o : Oper} (hd : ∀ c, o.op ≠ .defer c) (h : OpS P C N s s' o Q) : OpSIn P C N rr s s' o Q := fun G cls a w hR => oper_in hd (h G cls a w hR)
theorem roundIn_fr {n l : Nat} {f : FuncId} {tmps : Array Value} {assign body : Code} {w : World} {R : Ending → World → Prop} (h : RoundIn (Fr none) n P l f tmps assign body w R) : RoundIn (Fr rr) n P l f tmps assign body w R := h
theorem yieldAt_mono {b : Nat} {vs : Array Value} {w : World} {R R' : Ending → World → Prop} (hh : ∀ e w', R e w' → R' e w') (h : YieldAt (Fr none) 0 P b vs w R) : YieldAt (Fr none) 0 P b vs w R' := by
  obtain ⟨fn, tmps, assign, body, hy, hr⟩ := h
  exact ⟨fn, tmps, assign, body, hy, hr.mono hh⟩
theorem Sees.inv_yld {G : Ghost} {i : Nat} {r : Loop} {c : Code} {slots : List AV} {y : Value} (h : Sees G (.yld i r c slots) y) : ∃ b, y = .func (.yield b) #[] #[] ∧ G.boxes[i]? = some b ∧ G.kinds b = some (.loop r c) := by
  cases h with | yld _ b _ _ _ h hk hl hs => exact ⟨b, rfl, h, hk⟩
theorem eff_yield (o : Oper) (y : Operand) (args : Array Operand) (ts : Array TypeId) (ho : o.op = .call { callee := .value y, args := args, argTypes := ts }) (i : Nat) (r : Loop) (c : Code) (slots : List AV) (hg : s.get y = .yld i r c slots) (K : St → List Nat → Prop) (hx : xyield P i r c slots (args.toList.map s.get) s o.dst K)
    (hf : fitsAll N o = true) : ∃ s' l, K s' l ∧ OpSIn P C N rr s s' o Q := by
  obtain ⟨bs, res, h', wr, hC, hfit, hnd, hK⟩ := hx
  refine ⟨_, _, hK, fun G cls a w h => ?_⟩
  have hfm : ∀ z, z ∈ args.toList → fitsO N z = true := fun z hz => fits_mem hf (by rw [ho]; cases y <;> simp [Op.operands, Call.operands] <;> first | (exact .inr (by simpa using hz)) | (simpa using hz))
  have hfy : fitsO N y = true := fits_mem hf (by rw [ho]; simp [Op.operands, Call.operands])
  have hgy := h.get hfy
  rw [hg] at hgy
  obtain ⟨b, hv, _⟩ := hgy.inv_yld
  rw [hv] at hgy
  have hsl := sees_list (G := G) s.get a.eval args.toList fun z hz => h.get (hfm z hz)
  have hown : ∀ (i : Nat) (x : AV), (args.toList.map s.get)[i]? = some x → OwnAt G (Own C cls) x ((args.toList.map a.eval).getD i undef) := fun i x hx => by
    rw [List.getD_eq_getElem?_getD]
    rw [List.getElem?_map] at hx ⊢
    cases hz : args.toList[i]? with
    | none => rw [hz] at hx; cases hx
    | some z =>
      rw [hz] at hx
      injection hx with hx
      subst hx
      exact h.getOwn (hfm z (List.mem_of_getElem? hz))
  obtain ⟨e1, e2⟩ := hand_sees hfit hsl hown
  have key := call_core (D := fun R => YieldAt (Fr none) 0 P b (args.toList.map a.eval).toArray w R) (fun _ _ hh hc => yieldAt_mono hh hc) h e1 e2 hnd
    (fun cls0 h1 h2 h3 => by
      rw [hand_canon hfit] at h1 h2 ⊢
      exact hC G w _ cls0 b hgy h.ok h.heap h1 h2 h3) o.dst (fits_dst hf)
  obtain ⟨fn, tmps, assign, body, hy, hr⟩ := key
  have hrun : (execOp a.eval o).run P w = .ok (.round b fn tmps assign body) w := by
    have e : (#[] : Array Value) ++ args.map a.eval = (args.toList.map a.eval).toArray := by apply Array.ext'; simp
    simp only [execOp, ho, resolve, hv, Deferred.ofValue, Sem.run_bind, Sem.run_pure, Result.andThen_ok, invoke]
    rw [e]
    exact hy
  refine ⟨fun _ _ => trivial, ?_⟩
  rw [Oper.semAt_eq _ _ _ (fun c => by rw [ho]; simp), hrun]
  refine ⟨fun hh => (by cases hh), ?_⟩
  refine (roundIn_fr hr).mono fun e w' he => ?_
  obtain ⟨v, rfl, G', cls', hR, hS⟩ := he
  exact ⟨G', cls', hR, hS⟩
end
end Go.Proofs.YtofkddajlgebjaaGreat.Ax
